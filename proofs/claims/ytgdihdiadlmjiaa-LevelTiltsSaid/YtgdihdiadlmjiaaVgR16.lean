import Derived.Test.YtgdihdiadlmjiaaVgR15
namespace Go.Vg
open Go
set_option linter.unusedVariables false
set_option linter.unusedSimpArgs false
theorem cdraw2_drw {P : Program} {ops : Array Oper} {c : RC} (h : cdraw2 P ops = some c) : ∃ ps, c = .drw ps := by
 unfold cdraw2 at h
 split at h
 ·cases h
 ·split at h
  ·split at h
   ·cases h
   ·cases h; exact ⟨_, rfl⟩
  ·cases h
section
variable {P : Program} {code : Code}
theorem cK_inv {c : RC} (h : cK P code = some c) :
  match c with
  | .skip => code = .skip ∨ ∃ l, code = .label l
  | .reg lo => ∃ id ops, code = .region id ops false ∧ cops2 P ops ops.toList = some lo
  | .drw ps => ∃ id ops, code = .region id ops true ∧ cdraw2 P ops = some (.drw ps)
  | .seq a b => ∃ x y, code = .seq x y ∧ cK P x = some a ∧ cK P y = some b
  | .cond g a b => ∃ o x y, code = .cond o x y ∧ cX o = some g ∧ cK P x = some a ∧ cK P y = some b
  | .block id a => ∃ x, code = .block id x ∧ cK P x = some a
  | .loop a => ∃ x, code = .loop x ∧ cK P x = some a
  | .exit id => code = .exit id
  | .ret => code = .ret
  | .scp a => ∃ x, code = .scope x ∧ cK P x = some a
  | .rng g ps a b => ∃ o qs x y, code = .rangeFunc o qs x y ∧ ps = qs.toList ∧ cX o = some g ∧ cK P x = some a ∧ cK P y = some b := by
 cases code with
 | region id ops draw =>
  cases draw with
  | false =>
   simp only [cK] at h
   obtain ⟨lo, h1, rfl⟩ := Option.map_eq_some_iff.1 h
   exact ⟨id, ops, rfl, h1⟩
  | true =>
   simp only [cK] at h
   obtain ⟨ps, rfl⟩ := cdraw2_drw h
   exact ⟨id, ops, rfl, h⟩
 | skip => simp [cK] at h; subst h; exact .inl rfl
 | label l => simp [cK] at h; subst h; exact .inr ⟨l, rfl⟩
 | exit id => simp [cK] at h; subst h; rfl
 | ret => simp [cK] at h; subst h; rfl
 | seq x y =>
  simp only [cK] at h
  split at h
  ·rename_i a b h1 h2; cases h; exact ⟨x, y, rfl, h1, h2⟩
  ·cases h
 | cond o x y =>
  simp only [cK] at h
  split at h
  ·rename_i g a b h1 h2 h3; cases h; exact ⟨o, x, y, rfl, h1, h2, h3⟩
  ·cases h
 | block id x => simp only [cK] at h; obtain ⟨a, h1, rfl⟩ := Option.map_eq_some_iff.1 h; exact ⟨x, rfl, h1⟩
 | loop x => simp only [cK] at h; obtain ⟨a, h1, rfl⟩ := Option.map_eq_some_iff.1 h; exact ⟨x, rfl, h1⟩
 | scope x => simp only [cK] at h; obtain ⟨a, h1, rfl⟩ := Option.map_eq_some_iff.1 h; exact ⟨x, rfl, h1⟩
 | rangeFunc o qs x y =>
  simp only [cK] at h
  split at h
  ·rename_i g a b h1 h2 h3; cases h; exact ⟨o, qs, x, y, rfl, rfl, h1, h2, h3⟩
  ·cases h
 | _ => simp [cK] at h
end
theorem opsB_rel {P : Program} {α : Type} {cl : Cl} (hcl : ClOk P cl) {k : List SV → HT → Option α} {res : α} : ∀ (lo : List Opq) {fr : List SV} {h : HT} {hp : List Blk}, HRel h hp → opsB cl lo fr h k = some res →
  ∃ fr' h' hp', HRel h' hp' ∧ Frm h h' ∧ k fr' h' = some res
 | [], fr, h, hp, r, e => ⟨fr, h, hp, r, .refl h, e⟩
 | ⟨d, g, o⟩ :: lo, fr, h, hp, r, e => by
  obtain ⟨b, hg, hf, ht⟩ := opsB_step e
  cases b with
  | false => exact opsB_rel hcl lo r (hf rfl)
  | true =>
   obtain ⟨x, h1, hp1, r1, f1, e1, _⟩ := evX_ok (P := P) hcl r (ht rfl)
   obtain ⟨fr', h', hp', r', f', hk⟩ := opsB_rel hcl lo r1 e1
   exact ⟨fr', h', hp', r', f1.trans f', hk⟩
theorem drwA_get {cl : Cl} {cq : Cq} {fr : List SV} {ds : List Nat} {h : HT} {r : Rs} : ∀ {ps : List Drp}, drwA cl cq fr ds h ps = some r →
  ∃ p, p ∈ ps ∧ (drwR cl cq p fr ds h = some r ∨ shD (lbs h.get fr (p.hs.flatMap fun o => usesQ o.1) ++ slaL fr (p.hs.map (·.1))) h (fun h => drwR cl cq p fr ds h) = some r)
 | [], e => by cases e
 | p :: t, e => by
  simp only [drwA] at e
  split at e
  ·rename_i r1 h1; cases e; exact ⟨p, List.mem_cons_self .., .inl h1⟩
  ·split at e
   ·rename_i r1 h1; cases e; exact ⟨p, List.mem_cons_self .., .inr h1⟩
   ·obtain ⟨q, h1, h2⟩ := drwA_get e
    exact ⟨q, List.mem_cons_of_mem _ h1, h2⟩
theorem drw_rel {P : Program} {cl : Cl} (hcl : ClOk P cl) {cq : Cq} {sh cs0 : List Nat} {m ne : Nat} {hs : List (Opq × Kd)} {tl : List Opq} {α : Type} {fr : List SV} {h : HT} {hp : List Blk} (r : HRel h hp) {kk : List SV → HT → Option α} {res : α}
  (e : shB fr sh h (fun h => resv m h fun h1 => hdB cl cq h.n ne cs0 hs fr h1 [h1] [] fun fr h => opsB cl tl fr h kk) = some res) : ∃ fr' h' hp', HRel h' hp' ∧ Frm h h' ∧ kk fr' h' = some res := by
 obtain ⟨h1, r1, f1, e⟩ := shB_ok r e
 obtain ⟨h2, e2, r2, f2⟩ := resv_rel m r1 (fun h1' => hdB cl cq h1.n ne cs0 hs fr h1' [h1'] [] fun fr h => opsB cl tl fr h kk)
 have e3 := e2.symm.trans e
 obtain ⟨hps', cb', xs, fe, hT, hE, hpE, a1, a2, a3, a4, a5, a6, a7, a8, a9⟩ := hdB_dat (P := P) hcl e3 [] rfl [resvH m (shutH fr sh hp)] rfl (fun i x hx => by
  cases i with
  | zero => simp at hx; subst hx; exact ⟨_, rfl, r2⟩
  | succ i => simp at hx)
 obtain ⟨fr', h', hp', r', f', hk⟩ := opsB_rel hcl tl a6 a9
 exact ⟨fr', h', hp', r', (f1.trans f2).trans (a8.trans f'), hk⟩
theorem drwB_rel {P : Program} {cl : Cl} (hcl : ClOk P cl) {cq : Cq} {sh cs0 : List Nat} {m ne : Nat} {hs : List (Opq × Kd)} {tl : List Opq} {fl : Option Nat} {α : Type} {fr : List SV} {h : HT} {hp : List Blk} (r : HRel h hp) {kk : List SV → HT → Option α} {res : α}
  (e : blK fr fl (fun fr => shB fr sh h (fun h => resv m h fun h1 => hdB cl cq h.n ne cs0 hs fr h1 [h1] [] fun fr h => opsB cl tl fr h kk)) = some res) : ∃ fr' h' hp', HRel h' hp' ∧ Frm h h' ∧ kk fr' h' = some res := by
 cases fl with
 | none => exact drw_rel hcl r e
 | some d => exact drw_rel hcl r (by simp only [blK, stK_eq] at e; exact e)
theorem run_enterLoop_inner {P : Program} {w : World} {g : Nat} {r : Loop} (h : w.heap[g]? = some (.loop r)) (fn : FuncId) (tmps : Array Value) (ps : Array Tmp) (assign body : Code) :
  (Instr.enterLoop fn tmps ps assign body (some g)).run P w = .ok (w.heap.size, []) (w.alloc (.loop { state := .ready, pending := none, fn, tmps, params := ps, assign, body, defers := r.defers })) := by
 unfold Instr.enterLoop
 simp only [Sem.run_bind, run_getLoop h, run_newObj_alloc, Result.andThen, Sem.run_pure]
theorem rng_ok {P : Program} {ro : Option Nat} {n : Nat} {o : Operand} {qs : Array Tmp} {x y : Code} {Q : Exit → Act → World → Prop} {a : Act} {E : Env} {fid : Nat} {cvs : List Value} {l : Nat} {mark : List Deferred} {hp2 hp3 : List Blk} {z : SV} {capsSV : List SV}
  (hfv : a.eval o = .func (.func fid) #[] cvs.toArray) (hkn : Known P fid)
  (hent : ∀ fn, ∃ E2 : Env, (Instr.enterLoop fn a.tmps qs x y ro).run P E.w = .ok (E2.blk l, mark) E2.w ∧ E.Le E2 ∧ RHp E2 hp2 ∧ E2.has l ∧
   (∀ E3, E2.Le E3 → RHp E3 hp3 → ∃ jump w4, (Instr.endLoop (E2.blk l)).run P E3.w = .ok jump w4 ∧ (match jump with
    | none => Q .normal { a with defers := mark ++ a.defers } w4
    | some c => c.wpIn (fen ro) n P Q { a with defers := mark ++ a.defers } w4)))
  (hcaps : Rvs E capsSV cvs) (hok : OkE P E)
  (hcall : ∀ E vs, OkE P E → RHp E hp2 → Rvs E (.lb .yl l :: capsSV) vs → Calls P fid vs.toArray E.w fun e w' => ∃ v, e = .returned v ∧ ∃ E', E'.w = w' ∧ E.Le E' ∧ RHp E' hp3 ∧ Rv E' z v) :
  (Code.rangeFunc o qs x y).wpIn (fen ro) n P Q a E.w := by
 refine wpIn_rangeFunc fun fn _ => ?_
 obtain ⟨E2, h1, h2, h3, h4, h5⟩ := hent fn
 obtain ⟨f0, hf0, hnm, hbd⟩ := hkn
 refine ⟨E2.blk l, mark, E2.w, { target := .fn (.func fid) cvs.toArray, args := #[.func (.yield (E2.blk l)) #[] #[]] }, E2.w, fid, #[.func (.yield (E2.blk l)) #[] #[]] ++ cvs.toArray, E2.w, h1, ?_, fun _ _ => trivial, ?_, fun h => by simp [fen, Fence.wide] at h, ?_⟩
 ·simp only [resolve, hfv]
  simp [Deferred.ofValue, Act.eval]
 ·simp only [invoke]
  exact callFunc_enter hf0 hnm hbd
 ·have e1 : #[Value.func (.yield (E2.blk l)) #[] #[]] ++ cvs.toArray = (Value.func (.yield (E2.blk l)) #[] #[] :: cvs).toArray := by apply Array.ext'; simp
  rw [e1]
  refine callsIn_fen ((hcall E2 _ (hok.le h2) h3 (.cons _ _ _ _ (.lb .yl l h4) (hcaps.mono h2))).mono ?_)
  rintro e w' ⟨v, rfl, E3, rfl, h6, h7, _⟩
  exact h5 E3 h6 h7
theorem run_ok {P : Program} {T : Nat → Option Fdn} (hT : TabR P T) : ∀ n, RunOk P (run T n)
 | 0 => fun rd c fr ds h r e => by simp [run] at e
 | m + 1 => by
  have ih := run_ok hT m
  have hcl := callF_ok hT ih
  have hcq := callQ_ok hT ih
  intro rd c fr ds h r e hp rh
  have fin : ∀ (re : XT), (∃ fr0 : List SV, True) → True := fun _ _ => trivial
  cases c with
  | skip =>
   simp only [run, Option.some.injEq] at e; subst e
   refine ⟨hp, rh, .refl _, fun code E a ro n Q hc hok hs hrd hq => ?_, fun code E a ro n Q c0 h => by cases h⟩
   rcases cK_inv hc with rfl | ⟨l, rfl⟩
   ·exact wpIn_skip (hq E a (.refl E) hs)
   ·exact wpIn_label (hq E a (.refl E) hs)
  | exit id =>
   simp only [run, Option.some.injEq] at e; subst e
   refine ⟨hp, rh, .refl _, fun code E a ro n Q hc hok hs hrd hq => ?_, fun code E a ro n Q c0 h => by cases h⟩
   have := cK_inv hc; simp only at this; subst this
   exact wpIn_exit (hq E a (.refl E) hs)
  | ret =>
   simp only [run, Option.some.injEq] at e; subst e
   refine ⟨hp, rh, .refl _, fun code E a ro n Q hc hok hs hrd hq => ?_, fun code E a ro n Q c0 h => by cases h⟩
   have := cK_inv hc; simp only at this; subst this
   exact wpIn_ret (hq E a (.refl E) hs)
  | reg lo =>
   simp only [run] at e
   obtain ⟨fr', h', hp', r', hf, hk⟩ := opsB_rel hcl lo rh e
   cases hk
   refine ⟨hp', r', hf, fun code E a ro n Q hc hok hs hrd hq => ?_, fun code E a ro n Q c0 h => by cases h⟩
   obtain ⟨id, ops, rfl, hops⟩ := cK_inv hc
   obtain ⟨fr2, h2, hp2, r2, _, hk2, hh⟩ := opsB_ok (P := P) hcl _ _ hops rh e
   cases hk2
   have := r2.uniq r'; subst this
   exact wpIn_region_list (hh E a ro n Q hok hs.hp hs.fr fun E' a' hle hr hfr hdf => hq E' a' hle (hs.of hle hr hfr hdf))
  | drw ps =>
   simp only [run] at e
   obtain ⟨p, hmem, hdr | hdr⟩ := drwA_get e
   ·obtain ⟨sh, mm, ne, hs0, cs0, tl, fl⟩ := p
    unfold drwR at hdr
    obtain ⟨fr', h', hp', r', hf, hk⟩ := drwB_rel hcl rh hdr
    cases hk
    refine ⟨hp', r', hf, fun code E a ro n Q hc hok hs hrd hq => ?_, fun code E a ro n Q c0 h => by cases h⟩
    obtain ⟨id, ops, rfl, hops⟩ := cK_inv hc
    obtain ⟨hp2, r2, _, hh⟩ := drwB_ok hcl hcq hops hmem rh (frF := fr') (hF := h') (fun fr1 h1 e1 => by cases e1; exact ⟨rfl, rfl⟩) hdr
    have := r2.uniq r'; subst this
    exact hh E a ro n Q id hok hs.hp hs.fr fun E' a' hle hr hfr hdf => hq E' a' hle (hs.of hle hr hfr hdf)
   ·obtain ⟨sh, mm, ne, hs0, cs0, tl, fl⟩ := p
    obtain ⟨h1, hp1, r1, f1, e, hcl0⟩ := shD_ok rh hdr
    unfold drwR at e
    obtain ⟨fr', h', hp', r', hf, hk⟩ := drwB_rel hcl r1 e
    cases hk
    refine ⟨hp', r', f1.trans hf, fun code E a ro n Q hc hok hs hrd hq => ?_, fun code E a ro n Q c0 h => by cases h⟩
    obtain ⟨id, ops, rfl, hops⟩ := cK_inv hc
    obtain ⟨E1, c1, hr1⟩ := hcl0 E hs.hp
    obtain ⟨hp2, r2, _, hh⟩ := drwB_ok hcl hcq hops hmem r1 (frF := fr') (hF := h') (fun fr1 h1 e1 => by cases e1; exact ⟨rfl, rfl⟩) e
    have := r2.uniq r'; subst this
    have := hh E1 a ro n Q id (hok.le c1.le) hr1 (hs.fr.mono c1.le) fun E' a' hle hr hfr hdf => hq E' a' (c1.le.trans hle) (hs.of (c1.le.trans hle) hr hfr hdf)
    rw [c1.w] at this
    exact this
  | seq a b =>
   simp only [run] at e
   cases h1 : run T m rd a fr ds h with
   | none => rw [h1] at e; cases e
   | some r1 =>
    rw [h1] at e
    obtain ⟨hp1, rh1, f1, hh1, _⟩ := ih _ _ _ _ _ _ h1 hp rh
    obtain ⟨e1, fr1, ds1, h1'⟩ := r1
    cases e1 with
    | nm =>
     simp only at e rh1 f1 hh1
     obtain ⟨hp2, rh2, f2, hh2, _⟩ := ih _ _ _ _ _ _ e hp1 rh1
     refine ⟨hp2, rh2, f1.trans f2, fun code E a' ro n Q hc hok hs hrd hq => ?_, fun code E a ro n Q c0 h => by cases h⟩
     obtain ⟨x, y, rfl, hx, hy⟩ := cK_inv hc
     refine wpIn_seq (hh1 x E a' ro n _ hx hok hs hrd fun E1 a1 hle1 hs1 => ?_)
     exact hh2 y E1 a1 ro n Q hy (hok.le hle1) hs1 (RdOk.le hle1 hrd) fun E2 a2 hle2 hs2 => hq E2 a2 (hle1.trans hle2) hs2
    | rt =>
     cases e
     refine ⟨hp1, rh1, f1, fun code E a' ro n Q hc hok hs hrd hq => ?_, fun code E a ro n Q c0 h => by cases h⟩
     obtain ⟨x, y, rfl, hx, hy⟩ := cK_inv hc
     exact wpIn_seq (hh1 x E a' ro n _ hx hok hs hrd fun E1 a1 hle1 hs1 => hq E1 a1 hle1 hs1)
    | ex id =>
     cases e
     refine ⟨hp1, rh1, f1, fun code E a' ro n Q hc hok hs hrd hq => ?_, fun code E a ro n Q c0 h => by cases h⟩
     obtain ⟨x, y, rfl, hx, hy⟩ := cK_inv hc
     exact wpIn_seq (hh1 x E a' ro n _ hx hok hs hrd fun E1 a1 hle1 hs1 => hq E1 a1 hle1 hs1)
  | cond c a b =>
   simp only [run] at e
   split at e <;> first | (cases e; done) | skip
   ·rename_i hcv
    obtain ⟨hp1, rh1, f1, hh1, _⟩ := ih _ _ _ _ _ _ e hp rh
    refine ⟨hp1, rh1, f1, fun code E a' ro n Q hc hok hs hrd hq => ?_, fun code E a ro n Q c0 h => by cases h⟩
    obtain ⟨o, x, y, rfl, ho, hx, hy⟩ := cK_inv hc
    have k1 := X.ok hs.fr ho
    rw [hcv] at k1
    exact wpIn_cond_true k1.litE (hh1 x E a' ro n Q hx hok hs hrd hq)
   ·rename_i hcv
    obtain ⟨hp1, rh1, f1, hh1, _⟩ := ih _ _ _ _ _ _ e hp rh
    refine ⟨hp1, rh1, f1, fun code E a' ro n Q hc hok hs hrd hq => ?_, fun code E a ro n Q c0 h => by cases h⟩
    obtain ⟨o, x, y, rfl, ho, hx, hy⟩ := cK_inv hc
    have k1 := X.ok hs.fr ho
    rw [hcv] at k1
    exact wpIn_cond_false k1.litE (hh1 y E a' ro n Q hy hok hs hrd hq)
  | block id a =>
   simp only [run] at e
   cases h1 : run T m rd a fr ds h with
   | none => rw [h1] at e; cases e
   | some r1 =>
    rw [h1] at e
    obtain ⟨hp1, rh1, f1, hh1, _⟩ := ih _ _ _ _ _ _ h1 hp rh
    obtain ⟨e1, fr1, ds1, h1'⟩ := r1
    cases e1 with
    | ex j =>
     simp only at e rh1 f1 hh1
     split at e
     ·rename_i hb
      have hb := beq_ok hb
      cases e
      refine ⟨hp1, rh1, f1, fun code E a' ro n Q hc hok hs hrd hq => ?_, fun code E a ro n Q c0 h => by cases h⟩
      obtain ⟨x, rfl, hx⟩ := cK_inv hc
      refine wpIn_block (hh1 x E a' ro n _ hx hok hs hrd fun E1 a1 hle1 hs1 => ?_)
      simp only [xt, Exit.inBlock, hb, if_true]
      exact hq E1 a1 hle1 hs1
     ·rename_i hb
      have hb : j ≠ id := fun h => by subst h; rw [Nat.beq_refl] at hb; cases hb
      cases e
      refine ⟨hp1, rh1, f1, fun code E a' ro n Q hc hok hs hrd hq => ?_, fun code E a ro n Q c0 h => by cases h⟩
      obtain ⟨x, rfl, hx⟩ := cK_inv hc
      refine wpIn_block (hh1 x E a' ro n _ hx hok hs hrd fun E1 a1 hle1 hs1 => ?_)
      simp only [xt, Exit.inBlock, hb, if_false]
      exact hq E1 a1 hle1 hs1
    | nm =>
     cases e
     refine ⟨hp1, rh1, f1, fun code E a' ro n Q hc hok hs hrd hq => ?_, fun code E a ro n Q c0 h => by cases h⟩
     obtain ⟨x, rfl, hx⟩ := cK_inv hc
     exact wpIn_block (hh1 x E a' ro n _ hx hok hs hrd fun E1 a1 hle1 hs1 => hq E1 a1 hle1 hs1)
    | rt =>
     cases e
     refine ⟨hp1, rh1, f1, fun code E a' ro n Q hc hok hs hrd hq => ?_, fun code E a ro n Q c0 h => by cases h⟩
     obtain ⟨x, rfl, hx⟩ := cK_inv hc
     exact wpIn_block (hh1 x E a' ro n _ hx hok hs hrd fun E1 a1 hle1 hs1 => hq E1 a1 hle1 hs1)
  | loop a =>
   have main : ∃ hp', HRel r.h hp' ∧ Frm h r.h ∧ (∀ code E a' ro n Q, cK P code = some a → OkE P E → St2 E hp fr ds a' → RdOk E rd ro → (∀ E' a'', E.Le E' → St2 E' hp' r.fr r.ds a'' → Q (xt r.e) a'' E'.w) → InL (fen ro) n P code Q a' E.w) := by
    simp only [run] at e
    cases h1 : run T m rd a fr ds h with
    | none => rw [h1] at e; cases e
    | some r1 =>
     rw [h1] at e
     obtain ⟨hp1, rh1, f1, hh1, _⟩ := ih _ _ _ _ _ _ h1 hp rh
     obtain ⟨e1, fr1, ds1, h1'⟩ := r1
     cases e1 with
     | nm =>
      simp only at e rh1 f1 hh1
      obtain ⟨hp2, rh2, f2, _, hh2⟩ := ih _ _ _ _ _ _ e hp1 rh1
      refine ⟨hp2, rh2, f1.trans f2, fun code E a' ro n Q hc hok hs hrd hq => inl_step (hh1 code E a' ro n _ hc hok hs hrd fun E1 a1 hle1 hs1 => ?_)⟩
      exact hh2 code E1 a1 ro n Q a rfl hc (hok.le hle1) hs1 (RdOk.le hle1 hrd) fun E2 a2 hle2 hs2 => hq E2 a2 (hle1.trans hle2) hs2
     | rt =>
      cases e
      exact ⟨hp1, rh1, f1, fun code E a' ro n Q hc hok hs hrd hq => inl_step (hh1 code E a' ro n _ hc hok hs hrd fun E1 a1 hle1 hs1 => hq E1 a1 hle1 hs1)⟩
     | ex id =>
      cases e
      exact ⟨hp1, rh1, f1, fun code E a' ro n Q hc hok hs hrd hq => inl_step (hh1 code E a' ro n _ hc hok hs hrd fun E1 a1 hle1 hs1 => hq E1 a1 hle1 hs1)⟩
   obtain ⟨hp', rh', f', hh⟩ := main
   refine ⟨hp', rh', f', fun code E a' ro n Q hc hok hs hrd hq => ?_, fun code E a' ro n Q c0 h hc => by cases h; exact hh code E a' ro n Q hc⟩
   obtain ⟨x, rfl, hx⟩ := cK_inv hc
   exact inl_loop (hh x E a' ro n Q hx hok hs hrd hq)
  | scp a =>
   simp only [run] at e
   obtain ⟨hp1, rh1, f1, hh1, _⟩ := ih _ _ _ _ _ _ e hp rh
   refine ⟨hp1, rh1, f1, fun code E a' ro n Q hc hok hs hrd hq => ?_, fun code E a ro n Q c0 h => by cases h⟩
   obtain ⟨x, rfl, hx⟩ := cK_inv hc
   refine wpIn_scope (hh1 x E a' ro n _ hx hok hs hrd fun E1 a1 hle1 hs1 => ?_)
   have := hq E1 a1 hle1 hs1
   cases hre : r.e <;> rw [hre] at this <;> exact this
  | rng f ps a b =>
   simp only [run] at e
   split at e <;> first | (cases e; done) | skip
   rename_i fid caps hfv
   have fin : ∀ {q : Option (SV × HT)} {l : Nat} {ds' : List Nat}, rngE q l fr ds' = some r → ∃ z h3, q = some (z, h3) ∧ ∀ hp3, HRel h3 hp3 → ∃ hp4, HRel r.h hp4 ∧ Frm h3 r.h ∧ r.fr = fr ∧ r.ds = ds' ∧
     ∀ (E3 : Env) (g : Nat) (ro : Option Nat) (n : Nat) (Q : Exit → Act → World → Prop) (a' : Act), RHp E3 hp3 → g = E3.blk l → (∀ E4, E3.Le E4 → RHp E4 hp4 → Q (xt r.e) a' E4.w) →
      ∃ jump w4, (Instr.endLoop g).run P E3.w = .ok jump w4 ∧ (match jump with
       | none => Q .normal a' w4
       | some c => c.wpIn (fen ro) n P Q a' w4) := by
    intro q l ds' hq
    unfold rngE at hq
    split at hq <;> first | (cases hq; done) | skip
    rename_i z h3
    refine ⟨z, h3, rfl, fun hp3 r3 => ?_⟩
    rw [r3.g] at hq
    split at hq <;> first | (cases hq; done) | skip
    rename_i st pd fr0 ps0 a0 b0 df hg
    have hlt := r3.lt (b := .ob (.lp st pd fr0 ps0 a0 b0 df)) (by rw [r3.g]; exact hg) (by simp)
    have hst : st ≠ .busy := by intro h; subst h; simp at hq
    have hq' : (match (generalizing := false) pd with
      | none => some (⟨.nm, fr, ds', h3.setd l (.ob (.lp .exhausted pd fr0 ps0 a0 b0 df))⟩ : Rs)
      | some none => some ⟨.rt, fr, ds', h3.setd l (.ob (.lp .exhausted pd fr0 ps0 a0 b0 df))⟩
      | some (some id) => some ⟨.ex id, fr, ds', h3.setd l (.ob (.lp .exhausted pd fr0 ps0 a0 b0 df))⟩) = some r := by
     cases st <;> first | exact absurd rfl hst | (simp only [HT.set_eq] at hq; exact hq)
    have hrh : r.h = h3.setd l (.ob (.lp .exhausted pd fr0 ps0 a0 b0 df)) ∧ r.fr = fr ∧ r.ds = ds' := by
     cases pd with
     | none => cases hq'; exact ⟨rfl, rfl, rfl⟩
     | some x => cases x <;> (cases hq'; exact ⟨rfl, rfl, rfl⟩)
    obtain ⟨e1, e2, e3⟩ := hrh
    refine ⟨_, by rw [e1]; exact r3.set _ hlt, by rw [e1]; exact .set r3.f _ hlt, e2, e3, fun E3 g ro n Q a' hr3 hgl hQ => ?_⟩
    subst hgl
    have hget := some_gb hg (by simp)
    obtain ⟨hdf, fn1, us1, ca1, cb1, hus1, hca1, hcb1, hobj1⟩ := hr3.b.blk l _ hget
    obtain ⟨k1, k2⟩ := put_ob (o2 := .lp .exhausted pd fr0 ps0 a0 b0 df) (obj' := .loop { state := .exhausted, pending := pdC pd, fn := fn1, tmps := us1.toArray, params := ps0.toArray, assign := ca1, body := cb1, defers := E3.blk df }) hr3 hget hobj1 rfl rfl
     ⟨hdf, fn1, us1, ca1, cb1, hus1.mono (Env.to_le fun b hb => World.putObj_heap_other (r := E3.blk l) (k := b) (fun e => hr3.b.imx l _ (E3.blk l) hget rfl (by rw [e] at hb; exact hb))), hca1, hcb1, World.putObj_heap_same (Array.getElem?_eq_some_iff.1 hobj1).1⟩
    have hQ' := hQ _ k2 k1
    refine ⟨pdC pd, _, run_endLoop hobj1 hst, ?_⟩
    cases pd with
    | none => cases hq'; exact hQ'
    | some x =>
     cases x with
     | none => cases hq'; exact wpIn_ret hQ'
     | some id => cases hq'; exact wpIn_exit hQ'
   cases rd with
   | none =>
    simp only [HT.push_eq] at e
    obtain ⟨z, h3, hq, hfin⟩ := fin e
    have rh2 := (rh.push (.ob .df)).push (.ob (.lp .ready none fr ps a b h.n))
    have ff := (Frm.push rh.f (.ob .df)).trans (Frm.push (rh.push (.ob .df)).f (.ob (.lp .ready none fr ps a b h.n)))
    obtain ⟨hp3, r3, f3, hkn, hcall⟩ := fnF_ok hT ih hq rh2
    obtain ⟨hp4, r4, f4, e1, e2, hend⟩ := hfin hp3 r3
    refine ⟨hp4, r4, ff.trans (f3.trans f4), fun code E a' ro n Q hc hok hs hrd hQ => ?_, fun code E a ro n Q c0 h => by cases h⟩
    obtain ⟨o, qs, x, y, rfl, hps, ho, hx, hy⟩ := cK_inv hc
    have hrd : ro = none := hrd
    subst hrd
    have k1 := X.ok hs.fr ho
    rw [hfv] at k1
    obtain ⟨cvs, hcvs, k1⟩ := k1.fnE
    have hn : h.n = E.n := by rw [rh.n, ln_eq]; exact hs.hp.b.n.symm
    refine rng_ok k1 hkn (fun fn => ?_) hcvs hok hcall (mark := [{ target := .collected E.w.heap.size, args := #[] }])
    obtain ⟨E1, p1, p2, hb1, hw1, hn1, hhas⟩ : ∃ E1 : Env, RHp E1 (pb hp (.ob .df)) ∧ E.Le E1 ∧ E1.blk E.n = E.w.heap.size ∧ E1.w = E.w.alloc (.deferred (some [])) ∧ E1.n = E.n + 1 ∧ E1.has E.n := by
     obtain ⟨p1, p2⟩ := push_ob (o := .df) (obj := .deferred (some [])) hs.hp rfl (by
      show (E.w.alloc _).heap[(E.push (E.w.alloc _) E.w.heap.size undef).blk E.n]? = _
      simp only [Env.push, if_true]; exact World.alloc_heap_new _ _)
     exact ⟨_, p1, p2, by simp [Env.push], rfl, rfl, Env.push_has⟩
    have hbn : ∀ (E : Env) (w : World) (g : Nat) (v : Value), (E.push w g v).blk E.n = g := fun E w g v => by simp [Env.push]
    have hle2 : ∀ obj, E1.Le (E1.push (E1.w.alloc obj) E1.w.heap.size undef) := fun obj => Env.push_le fun b hb => heap_alloc_old _ _ (p1.imlt hb)
    obtain ⟨p3, p4⟩ := push_ob (o := .lp .ready none fr ps a b h.n) (obj := .loop { state := .ready, pending := none, fn, tmps := a'.tmps, params := qs, assign := x, body := y, defers := E.w.heap.size }) p1 rfl (by
     refine ⟨(hle2 _).has _ (by rw [hn]; exact hhas), fn, a'.tmps.toList, x, y, hs.fr.mono (p2.trans (hle2 _)), by rw [((p2.trans (hle2 _)).ok : _ = E.ok), hok]; exact hx, by rw [((p2.trans (hle2 _)).ok : _ = E.ok), hok]; exact hy, ?_⟩
     rw [(hle2 _).blk h.n (by rw [hn]; exact hhas), hn, hb1, hbn, hps]
     exact World.alloc_heap_new _ _)
    have hl : (h.pushed (.ob .df)).n = E1.n := by show h.n + 1 = E1.n; rw [hn, hn1]
    refine ⟨_, ?_, p2.trans p4, p3, by rw [hl]; exact Env.push_has, fun E3 hle3 hr3 => hend E3 _ none n Q _ hr3 ?_ fun E4 hle4 hr4 => ?_⟩
    ·rw [hl, hbn, show E1.w.heap.size = E.w.heap.size + 1 by rw [hw1, World.size_alloc]]
     show _ = Result.ok _ (E1.w.alloc _)
     rw [hw1]
     exact run_enterLoop_outer _ _ _ _ _
    ·rw [hl, hle3.blk _ Env.push_has]
    ·have hall := (p2.trans p4).trans (hle3.trans hle4)
     have hbk : E4.blk E.n = E.w.heap.size := by rw [hle4.blk _ (hle3.has _ (p4.has _ hhas)), hle3.blk _ (p4.has _ hhas), p4.blk _ hhas, hb1]
     refine hQ E4 _ hall ?_
     rw [e1, e2]
     refine ⟨hs.fr.mono hall, hr4, ?_, fun l hl => ?_⟩
     ·show _ :: a'.defers = _
      rw [hs.df, ← dfsOf_le hall hs.ds]
      simp only [dfsOf, List.map_cons, hn, hbk]
     ·cases hl with
      | head => rw [hn]; exact hle4.has _ (hle3.has _ (p4.has _ hhas))
      | tail _ hl => exact hall.has l (hs.ds l hl)
   | some l0 =>
    simp only [HT.push_eq, rh.g] at e
    split at e <;> first | (cases e; done) | skip
    rename_i st9 pd9 fr9 ps9 a9 b9 df hg0
    obtain ⟨z, h3, hq, hfin⟩ := fin e
    have rh2 := rh.push (.ob (.lp .ready none fr ps a b df))
    have ff := Frm.push rh.f (.ob (.lp .ready none fr ps a b df))
    obtain ⟨hp3, r3, f3, hkn, hcall⟩ := fnF_ok hT ih hq rh2
    obtain ⟨hp4, r4, f4, e1, e2, hend⟩ := hfin hp3 r3
    refine ⟨hp4, r4, ff.trans (f3.trans f4), fun code E a' ro n Q hc hok hs hrd hQ => ?_, fun code E a ro n Q c0 h => by cases h⟩
    obtain ⟨o, qs, x, y, rfl, hps, ho, hx, hy⟩ := cK_inv hc
    obtain ⟨hl0, hro⟩ : E.has l0 ∧ ro = some (E.blk l0) := hrd
    subst hro
    have k1 := X.ok hs.fr ho
    rw [hfv] at k1
    obtain ⟨cvs, hcvs, k1⟩ := k1.fnE
    have hn : h.n = E.n := by rw [rh.n, ln_eq]; exact hs.hp.b.n.symm
    have hget0 := some_gb hg0 (by simp)
    obtain ⟨hdf, fn9, us9, ca9, cb9, _, _, _, hobj9⟩ := hs.hp.b.blk l0 _ hget0
    refine rng_ok k1 hkn (fun fn => ?_) hcvs hok hcall (mark := [])
    have hle2 : E.Le (E.push (E.w.alloc (.loop { state := .ready, pending := none, fn, tmps := a'.tmps, params := qs, assign := x, body := y, defers := E.blk df })) E.w.heap.size undef) := Env.push_le fun b hb => heap_alloc_old _ _ (hs.hp.imlt hb)
    obtain ⟨p3, p4⟩ := push_ob (o := .lp .ready none fr ps a b df) (obj := .loop { state := .ready, pending := none, fn, tmps := a'.tmps, params := qs, assign := x, body := y, defers := E.blk df }) hs.hp rfl (by
     refine ⟨hle2.has _ hdf, fn, a'.tmps.toList, x, y, hs.fr.mono hle2, by show E.ok x a; rw [hok]; exact hx, by show E.ok y b; rw [hok]; exact hy, ?_⟩
     show (E.w.alloc _).heap[(E.push _ E.w.heap.size undef).blk E.n]? = _
     rw [show (E.push (E.w.alloc (.loop { state := .ready, pending := none, fn, tmps := a'.tmps, params := qs, assign := x, body := y, defers := E.blk df })) E.w.heap.size undef).blk E.n = E.w.heap.size by simp [Env.push], World.alloc_heap_new, hps]
     simp only [pdC]
     rw [hle2.blk _ hdf])
    refine ⟨_, ?_, p4, p3, by rw [hn]; exact Env.push_has, fun E3 hle3 hr3 => hend E3 _ (some (E.blk l0)) n Q _ hr3 ?_ fun E4 hle4 hr4 => ?_⟩
    ·rw [hn, show (E.push (E.w.alloc (.loop { state := .ready, pending := none, fn, tmps := a'.tmps, params := qs, assign := x, body := y, defers := E.blk df })) E.w.heap.size undef).blk E.n = E.w.heap.size by simp [Env.push]]
     exact run_enterLoop_inner hobj9 _ _ _ _ _
    ·rw [hn, hle3.blk _ Env.push_has]
    ·have hall := p4.trans (hle3.trans hle4)
     refine hQ E4 _ hall ?_
     rw [e1, e2]
     exact ⟨hs.fr.mono hall, hr4, by show a'.defers = _; rw [hs.df, dfsOf_le hall hs.ds], fun l hl => hall.has l (hs.ds l hl)⟩
end Go.Vg
