/-
  Code that is run: what its operations give is what the model's give.
-/
import Derived.Test.YtbbbpdajikblbaaVgR6
import Derived.Laws.Externs
namespace Go.Vg
open Go
set_option linter.unusedVariables false
set_option linter.unusedSimpArgs false

/-- E with other deferred calls: of no matter to values and blocks. -/
def Env.wdf (E : Env) (d : List Deferred) : Env := { E with df := d }
theorem Env.wdf_le0 (E : Env) (d : List Deferred) : E.Le0 (E.wdf d) := ⟨Nat.le_refl _, fun _ h => h, fun _ _ => rfl, fun _ _ => rfl, fun _ _ h => h, fun _ h => h, fun _ _ => rfl, rfl⟩
theorem RHp.wdf {E : Env} {hp : List Blk} (h : RHp E hp) (d : List Deferred) : RHp (E.wdf d) hp := by
  have hat : ∀ l (b : Blk), b.at (E.wdf d) l = b.at E l := fun l b => by cases b <;> rfl
  exact ⟨⟨h.g.fr, h.g.fz, h.g.sz, h.g.os, h.g.tape, h.g.output, h.g.imb, h.g.im0⟩,
    ⟨h.b.n, h.b.rs, fun l b hb => (h.b.blk l b hb).keep0 (E.wdf_le0 d) (h.has hb) (fun _ _ => rfl), h.b.live, fun l b g hb hg => h.b.imx l b g hb (by rw [← hat]; exact hg), fun l b g hb hg => h.b.base l b g hb (by rw [← hat]; exact hg),
      fun l l' b b' g hb hb' hg hg' => h.b.dj l l' b b' g hb hb' (by rw [← hat]; exact hg) (by rw [← hat]; exact hg')⟩⟩
theorem Env.wdf_back {E E' : Env} {d : List Deferred} (h : (E.wdf d).Le E') : E.Le (E'.wdf E.df) :=
  ⟨h.n, h.has, h.blk, h.val, h.live, h.im, h.mem, h.W, h.M, h.im0, rfl, h.n0, h.ok, h.rs⟩

def OkE (P : Program) (E : Env) : Prop := E.ok = fun c r => cK P c = some r
theorem OkE.le {P : Program} {E E' : Env} (h : OkE P E) (hl : E.Le E') : OkE P E' := hl.ok.trans h

/-- What a call of a function value does. -/
def CallV (P : Program) (vf : Value) (vs : List Value) (w : World) (R : Value → World → Prop) : Prop :=
  (∃ f first caps, vf = .func (.func f) first caps ∧ Known P f ∧ Calls P f (first ++ vs.toArray ++ caps) w fun e w' => ∃ v, e = .returned v ∧ R v w') ∨
  (∃ l, vf = .func (.yield l) #[] #[] ∧ ∃ fn tmps ca cb, (Instr.yield l vs.toArray).run P w = .ok (.round l fn tmps ca cb) w ∧ ∀ ro n, RoundIn (fen ro) n P l fn tmps ca cb w fun e w' => ∃ v, e = .returned v ∧ R v w')
theorem CallV.mono {P : Program} {vf : Value} {vs : List Value} {w : World} {R R' : Value → World → Prop} (h : CallV P vf vs w R) (hr : ∀ v w', R v w' → R' v w') : CallV P vf vs w R' := by
  rcases h with ⟨f, first, caps, h1, h2, h3⟩ | ⟨l, h1, fn, tmps, ca, cb, h2, h3⟩
  · exact .inl ⟨f, first, caps, h1, h2, h3.mono fun e w' ⟨v, he, hv⟩ => ⟨v, he, hr v w' hv⟩⟩
  · exact .inr ⟨l, h1, fn, tmps, ca, cb, h2, fun ro n => (h3 ro n).mono fun e w' ⟨v, he, hv⟩ => ⟨v, he, hr v w' hv⟩⟩

theorem call_upon {P : Program} {ro : Option Nat} {n : Nat} {o : Oper} {f : Operand} {args : Array Operand} {tys : Array TypeId} (ho : o.op = .call { callee := .value f, args, argTypes := tys }) {a : Act} {w : World} {R : Value → World → Prop}
    (h : CallV P (a.eval f) (args.toList.map a.eval) w R) {next : Act → World → Prop} {Q : Exit → Act → World → Prop} (hn : ∀ v w', R v w' → next (a.put o.dst v) w') :
    o.uponIn (fen ro) n P a next Q ((execOp a.eval o).run P w) := by
  have hm : args.map a.eval = (args.toList.map a.eval).toArray := by apply Array.ext'; simp
  rcases h with ⟨fid, first, caps, h1, ⟨fn, hfd, hnm, hbd⟩, h3⟩ | ⟨l, h1, fn, tmps, ca, cb, h2, h3⟩
  · have hrun : (execOp a.eval o).run P w = .ok (.enter fid (first ++ (args.toList.map a.eval).toArray ++ caps)) w := by
      simp only [execOp, ho, resolve, h1, Deferred.ofValue, invoke, Sem.run_bind, Sem.run_pure, Result.andThen_ok]
      rw [callFunc_enter hfd hnm hbd, hm]
    rw [hrun]
    refine ⟨fun h => by simp [fen, Fence.wide] at h, callsIn_fen (h3.mono ?_)⟩
    rintro e w' ⟨v, rfl, hv⟩
    exact hn v w' hv
  · have hrun : (execOp a.eval o).run P w = .ok (.round l fn tmps ca cb) w := by
      simp only [execOp, ho, resolve, h1, Deferred.ofValue, invoke, Sem.run_bind, Sem.run_pure, Result.andThen_ok]
      rw [hm]; simpa using h2
    rw [hrun]
    refine ⟨fun h => by simp [fen, Fence.wide] at h, (h3 ro (n - 1)).mono ?_⟩
    rintro e w' ⟨v, rfl, hv⟩
    exact hn v w' hv
theorem inv_upon {P : Program} {ro : Option Nat} {n : Nat} {o : Oper} {x : Operand} {m : String} {args : Array Operand} {tys : Array TypeId} (ho : o.op = .call { callee := .invoke x m, args, argTypes := tys }) {a : Act} {w : World} {R : Value → World → Prop}
    {t f : Nat} {v : Value} (hx : a.eval x = .iface t v) (hf : lkm (mtab P m) t = some f) (h : CallV P (.func (.func f) #[] #[]) (v :: args.toList.map a.eval) w R) {next : Act → World → Prop} {Q : Exit → Act → World → Prop} (hn : ∀ v w', R v w' → next (a.put o.dst v) w') :
    o.uponIn (fen ro) n P a next Q ((execOp a.eval o).run P w) := by
  have hm := mimp_ok (mtab_ok hf) v w (P.types.size + Made.depth - 1)
  have hd : P.types.size + Made.depth - 1 + 1 = P.types.size + Made.depth := by simp [Made.depth]
  rw [hd] at hm
  rcases h with ⟨fid, first, caps, h1, ⟨fn, hfd, hnm, hbd⟩, h3⟩ | ⟨l, h1, _⟩
  · cases h1
    have hrun : (execOp a.eval o).run P w = .ok (.enter f (#[] ++ (v :: args.toList.map a.eval).toArray ++ #[])) w := by
      simp only [execOp, ho, resolve, invoke, Sem.run_bind, Sem.run_pure, Result.andThen_ok]
      have e0 : (#[a.eval x] ++ args.map a.eval)[0]? = some (.iface t v) := by
        rw [hx, Array.getElem?_append_left (by simp)]; rfl
      have e1 : (#[a.eval x] ++ args.map a.eval).extract 1 (#[a.eval x] ++ args.map a.eval).size = args.map a.eval := by
        have hl : (args.toList.map a.eval).length = args.size := by simp
        apply Array.ext'
        simp only [Array.toList_extract, Array.toList_append, Array.toList_map, List.extract]
        simp
        rw [← hl, List.take_length]
      rw [e0]
      simp only [callMethod, Sem.run_bind, run_program, Result.andThen_ok, hm]
      rw [callFunc_enter hfd hnm hbd, e1]
      have e2 : #[v] ++ args.map a.eval = #[] ++ (v :: args.toList.map a.eval).toArray ++ #[] := by apply Array.ext'; simp
      rw [e2]
    rw [hrun]
    refine ⟨fun h => by simp [fen, Fence.wide] at h, callsIn_fen (h3.mono ?_)⟩
    rintro e w' ⟨v, rfl, hv⟩
    exact hn v w' hv
  · cases h1

def ClOk (P : Program) (cl : Cl) : Prop :=
  ∀ fv args h x h', cl fv args h = some (x, h') → ∀ hp, HRel h hp → ∃ hp', HRel h' hp' ∧ Frm h h' ∧
    ∀ E vf vs, OkE P E → RHp E hp → Rv E fv vf → Rvs E args vs → CallV P vf vs E.w fun v w' => ∃ E', E'.w = w' ∧ E.Le E' ∧ RHp E' hp' ∧ Rv E' x v
def CqOk (P : Program) (cq : Cq) : Prop :=
  ∀ fv args x, cq fv args = some x → ∀ E vf vs hp, OkE P E → RHp E hp → Rv E fv vf → Rvs E args vs → CallV P vf vs E.w fun v w' => ∃ E', E'.w = w' ∧ E.Le E' ∧ RHp E' hp ∧ Rv E' x v

/-- An operation gives x, and the blocks are hp' then. -/
def OpOk (P : Program) (o : Oper) (fr : List SV) (hp : List Blk) (x : SV) (hp' : List Blk) : Prop :=
  ∀ (E : Env) (a : Act) (ro : Option Nat) (n : Nat) (next : Act → World → Prop) (Q : Exit → Act → World → Prop), OkE P E → RHp E hp → Rvs E fr a.tmps.toList →
    (∀ E' v, E.Le E' → RHp E' hp' → Rv E' x v → next (a.put o.dst v) E'.w) → o.uponIn (fen ro) n P a next Q ((execOp a.eval o).run P E.w)

section
variable {P : Program}
theorem none_ok : ∀ f C, (fun _ : Nat => (none : Option Con)) f = some C → ConOk P f C := fun f C h => by cases h
theorem none_known : ∀ f C, (fun _ : Nat => (none : Option Con)) f = some C → ∃ fn, P.funcs[f]? = some fn ∧ fn.name ≠ "runtime.NumGoroutine" ∧ fn.body ≠ none := fun f C h => by cases h

theorem OpOk.of_evh {o : Oper} {o1 : Op1} (hc : c1 P o = some o1) {fr : List SV} {hp hp' : List Blk} {x : SV} (h : evh (fun _ => none) ⟨fr, hp⟩ (fun y hq => y = x ∧ hq = hp') o1) : OpOk P o fr hp x hp' := by
  intro E a ro n next Q hok hr hf hn
  have := evh_upon (P := P) none_ok none_known hc (E := E.wdf a.defers) (s := ⟨fr, hp⟩) (a := a) ⟨hf.mono0 (E.wdf_le0 _), hr.wdf _, rfl⟩ h (ro := ro) (n := n) (next := next) (Q := Q) ?_
  · exact this
  rintro E' hp'' y v hle hh hy ⟨rfl, rfl⟩
  exact hn (E'.wdf E.df) v (Env.wdf_back hle) (hh.wdf _) (hy.mono0 (E'.wdf_le0 _))

theorem find_clone {fn : Func} (h : fn.name = "maps.clone") : Extern.find fn = some Extern.MapsClone.clone := by
  simp only [Extern.find, h]
  kernel_rfl
theorem next_clone {fn : Func} (h : fn.name = "maps.clone") (h2 : fn.origin = "") : Extern.findNext fn = none := by
  simp only [Extern.findNext, h, h2]
  kernel_rfl
theorem badOf_e {o : Oper} {o2 : Op2} (h : badOf o = some o2) : o2 = .e1 .bad (.c .any) := by
  unfold badOf at h
  split at h <;> cases h
  rfl
theorem c2e_e1 {o : Oper} {o2 : Op2} (h : c2e P o = some o2) : ∃ e x, o2 = .e1 e x := by
  unfold c2e at h
  repeat' split at h
  all_goals first | (cases h; done) | (cases h; exact ⟨_, _, rfl⟩)
theorem c2_c1 {o : Oper} {o1 : Op1} (h : c2 P o = some (.o o1)) : c1 P o = some o1 := by
  unfold c2 at h
  split at h
  · cases h
  · split at h
    · rename_i h1; cases h; exact h1
    · split at h
      · rename_i h2
        cases h
        unfold c2m at h2
        repeat' split at h2
        all_goals cases h2
      · split at h
        · rename_i h2; cases h; obtain ⟨_, _, h3⟩ := c2e_e1 h2; cases h3
        · have := badOf_e h; cases this
theorem c2_m {o : Oper} {o2 : Op2} (h : c2 P o = some o2) (hn : ∀ o1, o2 ≠ .o o1) (he : ∀ e x, o2 ≠ .e1 e x := by intro _ _ h; cases h) : c2m P o = some o2 := by
  unfold c2 at h
  split at h
  · cases h; exact absurd rfl (he _ _)
  · split at h
    · cases h; exact absurd rfl (hn _)
    · split at h
      · rename_i h2; cases h; exact h2
      · split at h
        · rename_i h2; cases h; obtain ⟨_, _, h3⟩ := c2e_e1 h2; exact absurd h3 (he _ _)
        · exact absurd (badOf_e h) (he _ _)
theorem c2m_e1 {o : Oper} {e : E1} {x : X} (h : c2m P o = some (.e1 e x)) : False := by
  unfold c2m at h
  repeat' split at h
  all_goals cases h
theorem c2_e1 {o : Oper} {e : E1} {x : X} (h : c2 P o = some (.e1 e x)) : (clnOf P o = some x ∧ e = .cln) ∨ c2e P o = some (.e1 e x) ∨ e = .bad := by
  unfold c2 at h
  split at h
  · rename_i h1; cases h; exact .inl ⟨h1, rfl⟩
  · split at h
    · cases h
    · split at h
      · rename_i h2; cases h; exact (c2m_e1 h2).elim
      · split at h
        · rename_i h2; cases h; exact .inr (.inl h2)
        · have := badOf_e h; cases this; exact .inr (.inr rfl)

theorem OpOk.lku {o : Oper} {kk : KK} {z : SV} {ok : Bool} {m k : X} (hc : c2 P o = some (.lku kk z ok m k)) {fr : List SV} {hp : List Blk} {x : SV} (e : lkuB fr (gb hp) kk z ok m k = some x) : OpOk P o fr hp x hp := by
  have h := c2_m hc (by intro _ h; cases h)
  unfold c2m at h
  split at h <;> first | (repeat' split at h) <;> first | (cases h; done) | skip
  rename_i t mo ko ok' ho _ key el ht _ _ _ _ kk' z' m' k' h1 h2 h3 h4
  cases h
  intro E a ro n next Q hok hr hfr hn
  unfold zval at h2
  split at h2 <;> first | (cases h2; done) | skip
  rename_i i hi
  split at h2 <;> first | (cases h2; done) | skip
  rename_i zv hzv
  cases h2
  obtain ⟨v, g1, g2⟩ := lku_ok hr hfr e ht h1 h3 h4 (zv := zv) (by simp [zeroValue, typeInfo, hi, hzv]) (ofV_ok E zv)
  refine upon_val (w := E.w) (v := v) ?_ (hn E v (.refl E) hr g2)
  simp [execOp, ho, g1]
theorem OpOk.upd {α : Type} {kk : KK} {m k v : X} {fr : List SV} {h : HT} {hp : List Blk} (r : HRel h hp) {K : SV → HT → Option α} {res : α} (e : updB fr h kk m k v K = some res) :
    ∃ h' hp', HRel h' hp' ∧ Frm h h' ∧ K .any h' = some res ∧ ∀ o, c2 P o = some (.upd kk m k v) → OpOk P o fr hp .any hp' := by
  obtain ⟨h', hp', r', hf, hk, hh⟩ := upd_ok (P := P) r e
  refine ⟨h', hp', r', hf, hk, fun o hc => ?_⟩
  have hc := c2_m hc (by intro _ h; cases h)
  unfold c2m at hc
  split at hc <;> first | (repeat' split at hc) <;> first | (cases hc; done) | skip
  rename_i t mo ko vo ho _ key el ht _ _ _ _ kk' m' k' v' h1 h2 h3 h4
  cases hc
  intro E a ro n next Q hok hr hfr hn
  obtain ⟨w', g1, g2, g3⟩ := hh E a t key el mo ko vo hr hfr ht h1 h2 h3 h4
  refine upon_skip (w := (E.to w').w) ?_ (hn (E.to w') undef g3 g2 (.any _))
  simp [execOp, ho, g1, Env.to]
theorem OpOk.msl {α : Type} {e sz : Nat} {z : List SV} {x y : X} {fr : List SV} {h : HT} {hp : List Blk} (r : HRel h hp) {K : SV → HT → Option α} {res : α} (ev : mslB fr h e sz z x y K = some res) :
    ∃ v h' hp', HRel h' hp' ∧ Frm h h' ∧ K v h' = some res ∧ ∀ o, c2 P o = some (.msl e sz z x y) → OpOk P o fr hp v hp' := by
  unfold mslB at ev
  split at ev <;> first | (cases ev; done) | skip
  rename_i ka a kc c hx hy
  split at ev <;> first | (cases ev; done) | skip
  rename_i hc
  simp only [Bool.and_eq_true, decide_eq_true_eq] at hc
  obtain ⟨rfl, h0, h1, h2⟩ := hc
  rw [HT.push_eq] at ev
  refine ⟨_, _, _, r.push _, .push r.f _, ev, fun o hc => ?_⟩
  have hc := c2_m hc (by intro _ h; cases h)
  unfold c2m at hc
  split at hc <;> first | (repeat' split at hc) <;> first | (cases hc; done) | skip
  rename_i t lo co ho _ e' ht _ _ _ i l' c' hi h3 h4 _ zv hz hcond
  cases hc
  obtain ⟨g1, g2, g3⟩ := hcond
  intro E a' ro n next Q hok hr hfr hn
  have k1 := X.ok hfr h3
  have k2 := X.ok hfr h4
  rw [hx] at k1
  rw [hy] at k2
  have k1 := k1.intE
  have k2 := k2.intE
  obtain ⟨E', p1, p2, p3, p4, p5, p6⟩ := push_box hr e (mslC_ok (ofCs_ok E zv.cells.toList) g1 g2 a.toNat)
  have hb : (i.bytes : Int) * a ≤ 281474976710656 := by
    have : (i.bytes : Int) * a ≤ 1073741824 * 65536 := Int.mul_le_mul (by omega) h1 h0 (by omega)
    omega
  have hrun := run_makeSlice (P := P) E.w t e i zv ht hi hz ka kc a a h0 (Int.le_refl _) h2 hb (by omega)
  refine upon_val (w := E'.w) (v := .slice (some ⟨E.w.heap.size, 0, none⟩) a.toNat a.toNat) ?_ (hn E' _ p2 p3 ?_)
  · simp only [execOp, ho, k1, k2, Sem.run_bind, hrun, Result.andThen_ok, Sem.run_pure, p1]
  · rw [← p5, r.n, ← p6]
    exact .bsl _ _ p4
theorem OpOk.mkm {h : HT} {hp : List Blk} (r : HRel h hp) {fr : List SV} {o : Oper} (hc : c2 P o = some .mkm) : OpOk P o fr hp (.lb .mp h.n) (pb hp (.ob (.mp []))) := by
  have hc := c2_m hc (by intro _ h; cases h)
  unfold c2m at hc
  split at hc <;> first | (repeat' split at hc) <;> first | (cases hc; done) | skip
  rename_i t ho
  intro E a ro n next Q hok hr hfr hn
  obtain ⟨g1, g2⟩ := push_ob hr (obj := .map #[] 0) rfl (o := .mp []) ⟨[], .nil, .nil, by simp, by
    have h0 := World.alloc_heap_new E.w (.map #[] 0)
    have h1 : (E.push (E.w.alloc (.map #[] 0)) E.w.heap.size undef).blk E.n = E.w.heap.size := by simp [Env.push]
    rw [h1]; exact h0⟩
  have hln : h.n = E.n := by rw [r.n, ln_eq]; exact hr.b.n.symm
  refine upon_val (w := (E.push (E.w.alloc (.map #[] 0)) E.w.heap.size undef).w) (v := .map (some E.w.heap.size)) ?_ (hn _ _ g2 g1 ?_)
  · simp [execOp, ho, Instr.makeMap, Env.push]
  · rw [hln]
    have := Rv.lb (E := E.push (E.w.alloc (.map #[] 0)) E.w.heap.size undef) .mp E.n Env.push_has
    simpa [LK.val, Env.push] using this
theorem OpOk.mkmv {f : Nat} {x y : List X} {fr : List SV} {hp : List Blk} {o : Oper} (hc : c2 P o = some (.mkmv f x y)) : OpOk P o fr hp (.mv f (gets fr x) (gets fr y)) hp := by
  have hc := c2_m hc (by intro _ h; cases h)
  unfold c2m at hc
  split at hc <;> first | (repeat' split at hc) <;> first | (cases hc; done) | skip
  rename_i f' first caps ho _ _ a' b' h1 h2
  cases hc
  intro E a ro n next Q hok hr hfr hn
  refine upon_val (w := E.w) (v := .func (.func f) (first.toList.map a.eval).toArray (caps.toList.map a.eval).toArray) ?_ (hn E _ (.refl E) hr (.mv _ _ _ _ _ (Xs.ok hfr h1) (Xs.ok hfr h2)))
  simp [execOp, ho, Instr.makeFunc, map_toList_toArray]
theorem OpOk.nck {x : X} {fr : List SV} {hp : List Blk} {y : SV} (e : nckB (x.get fr) = some y) {o : Oper} (hc : c2 P o = some (.nck x)) : OpOk P o fr hp y hp := by
  have hc := c2_m hc (by intro _ h; cases h)
  unfold c2m at hc
  split at hc <;> first | (repeat' split at hc) <;> first | (cases hc; done) | skip
  rename_i xo ho _ x' h1
  cases hc
  intro E a ro n next Q hok hr hfr hn
  have k1 := X.ok hfr h1
  have hy : y = x.get fr := by unfold nckB at e; split at e <;> first | (cases e; done) | (rename_i h; cases e; exact h.symm)
  refine upon_val (w := E.w) (v := a.eval xo) ?_ (hn E _ (.refl E) hr (by rw [hy]; exact k1))
  unfold nckB at e
  split at e <;> first | (cases e; done) | skip
  all_goals (rename_i hx; rw [hx] at k1)
  · obtain ⟨_, k1⟩ := k1.ptrE; simp [execOp, ho, k1]
  · obtain ⟨_, k1⟩ := k1.epE; simp [execOp, ho, k1]
  · obtain ⟨_, _, _, _, _, _, k1⟩ := k1.rpE; simp [execOp, ho, k1]
  · obtain ⟨_, _, k1⟩ := k1.fnE; simp [execOp, ho, k1]
  · obtain ⟨_, _, k1⟩ := k1.ifcE; simp [execOp, ho, k1]

theorem c1_call {o : Oper} {f : X} {args : List X} (h : c1 P o = some (.call f args)) : ∃ g as tys, o.op = .call { callee := .value g, args := as, argTypes := tys } ∧ cX g = some f ∧ cXs as.toList = some args := by
  unfold c1 at h
  split at h
  · cases h
  · split at h
    all_goals first
      | (obtain ⟨_, _, h0⟩ := Option.map_eq_some_iff.1 h; cases h0; done)
      | skip
    case h_7 f0 as tys ho =>
      split at h
      · rename_i g h1 h2; cases h; exact ⟨f0, as, tys, ho, h1, h2⟩
      · cases h
    all_goals (repeat' split at h) <;> first | (cases h; done) | (obtain ⟨_, _, h0⟩ := Option.map_eq_some_iff.1 h; cases h0; done)
theorem c1_inv {o : Oper} {mt : List (Nat × Nat)} {x : X} {args : List X} (h : c1 P o = some (.inv mt x args)) :
    ∃ g m as tys, o.op = .call { callee := .invoke g m, args := as, argTypes := tys } ∧ mt = mtab P m ∧ cX g = some x ∧ cXs as.toList = some args := by
  unfold c1 at h
  split at h
  · cases h
  · split at h
    all_goals first
      | (obtain ⟨_, _, h0⟩ := Option.map_eq_some_iff.1 h; cases h0; done)
      | skip
    case h_8 g m as tys ho =>
      split at h
      · rename_i h1 h2; cases h; exact ⟨g, m, as, tys, ho, rfl, h1, h2⟩
      · cases h
    all_goals (repeat' split at h) <;> first | (cases h; done) | (obtain ⟨_, _, h0⟩ := Option.map_eq_some_iff.1 h; cases h0; done)

theorem c1_app {o : Oper} {e sz bytes : Nat} {x y : X} (h : c1 P o = some (.app e sz bytes x y)) : ∃ xo yo t i z, o.op = .call { callee := .builtin .append, args := #[xo, yo], argTypes := #[t, t] } ∧
    P.underlying t = some (.slice e) ∧ P.info? e = some i ∧ i.zero = some z ∧ z.cells.size = i.size ∧ sz = i.size ∧ bytes = i.bytes ∧ cX xo = some x ∧ cX yo = some y := by
  unfold c1 at h
  split at h
  · cases h
  · split at h
    all_goals first
      | (obtain ⟨_, _, h0⟩ := Option.map_eq_some_iff.1 h; cases h0; done)
      | skip
    case h_6 args tys ho =>
      split at h <;> first | (cases h; done) | skip
      rename_i xo yo t t' hargs htys
      split at h <;> first | (cases h; done) | skip
      rename_i e' x' y' hs hx hy
      split at h <;> first | (cases h; done) | skip
      rename_i htt
      subst htt
      split at h <;> first | (cases h; done) | skip
      rename_i i hi
      split at h <;> first | (cases h; done) | skip
      rename_i z hz
      split at h <;> first | (cases h; done) | skip
      rename_i hzs
      cases h
      have ha : args = #[xo, yo] := by apply Array.ext'; simpa using hargs
      have hty : tys = #[t, t] := by apply Array.ext'; simpa using htys
      subst ha
      subst hty
      exact ⟨xo, yo, t, i, z, ho, hs, hi, hz, hzs, rfl, rfl, hx, hy⟩
    all_goals (repeat' split at h) <;> first | (cases h; done) | (obtain ⟨_, _, h0⟩ := Option.map_eq_some_iff.1 h; cases h0; done)
theorem OpOk.app {e sz bytes : Nat} {x y : X} {fr : List SV} {hp : List Blk} {r : SV} (ha : appV sz bytes (x.get fr) (y.get fr) = some r) {o : Oper} (hc : c1 P o = some (.app e sz bytes x y)) : OpOk P o fr hp r hp := by
  obtain ⟨xo, yo, t, i, z, ho, h1, h2, h3, h4, rfl, rfl, h5, h6⟩ := c1_app hc
  intro E a ro n next Q hok hr hfr hn
  obtain ⟨v, E', g1, g2, g3, g4⟩ := appV_ok (P := P) (ty := o.type) hr h1 h2 h3 h4 ha (X.ok hfr h5) (X.ok hfr h6)
  refine upon_val (w := E'.w) (v := v) ?_ (hn E' v g2 g3 g4)
  simp [execOp, ho, resolve, invoke, builtin, g1]
theorem c1_slc {o : Oper} {sz : Nat} {x : X} {lo hi mx : Option X} (h : c1 P o = some (.slc x lo hi mx sz)) : ∃ t e i xo lo' hi' mx', o.op = .slice t xo lo' hi' mx' ∧
    P.underlying t = some (.slice e) ∧ P.info? e = some i ∧ sz = i.size ∧ cX xo = some x ∧ cXo lo' = some lo ∧ cXo hi' = some hi ∧ cXo mx' = some mx := by
  unfold c1 at h
  split at h
  · cases h
  · split at h
    all_goals first
      | (obtain ⟨_, _, h0⟩ := Option.map_eq_some_iff.1 h; cases h0; done)
      | skip
    case h_9 t xo lo' hi' mx' ho =>
      split at h <;> first | (cases h; done) | skip
      rename_i e hs
      split at h <;> first | (cases h; done) | skip
      rename_i i x' a b c h1 h2 h3 h4 h5
      cases h
      exact ⟨t, e, i, xo, lo', hi', mx', ho, hs, h1, rfl, h2, h3, h4, h5⟩
    all_goals (repeat' split at h) <;> first | (cases h; done) | (obtain ⟨_, _, h0⟩ := Option.map_eq_some_iff.1 h; cases h0; done)
theorem OpOk.slcC {α : Type} {sz : Nat} {x : X} {lo hi mx : Option X} {fr : List SV} {h : HT} {hp : List Blk} (r : HRel h hp) {K : SV → HT → Option α} {res : α} (ev : slcC fr h (x.get fr) lo hi mx sz K = some res) :
    ∃ v h' hp', HRel h' hp' ∧ Frm h h' ∧ K v h' = some res ∧ ∀ o, c1 P o = some (.slc x lo hi mx sz) → OpOk P o fr hp v hp' := by
  unfold Vg.slcC at ev
  split at ev <;> first | (cases ev; done) | skip
  rename_i l len hx
  split at ev <;> first | (cases ev; done) | skip
  rename_i lo1 hi1 mx1 e2 e3 e4
  obtain ⟨y, h', hp', r', hf, ev, hh⟩ := bslC_ok r ev
  split at ev <;> first | (cases ev; done) | skip
  rename_i z hz
  refine ⟨z, h', hp', r', hf, ev, fun o hc => ?_⟩
  obtain ⟨t, e, i, xo, lo', hi', mx', ho, h1, h2, rfl, h3, h4, h5, h6⟩ := c1_slc hc
  intro E a ro n next Q hok hr hfr hn
  have k1 := X.ok hfr h3
  rw [hx] at k1
  obtain ⟨E', c1, hr', hv⟩ := hh E _ hr k1
  obtain ⟨p, g1, g2⟩ := slvB_ok hz
  have hf' := hfr.mono c1.le
  obtain ⟨v', g3, g4⟩ := slv_ok (P := P) h1 h2 hv.rv g1 g2 (bnd_ok hfr h4 e2) (bnd_ok hfr h5 e3) (bnd_ok hfr h6 e4)
  refine upon_val (w := E'.w) (v := v') ?_ (hn E' v' c1.le hr' g4)
  rw [← c1.w]
  simp [execOp, ho, g3]
theorem OpOk.call {cl : Cl} (hcl : ClOk P cl) {f : X} {args : List X} {fr : List SV} {h h' : HT} {hp : List Blk} (r : HRel h hp) {x : SV} (e : cl (f.get fr) (gets fr args) h = some (x, h')) :
    ∃ hp', HRel h' hp' ∧ Frm h h' ∧ ∀ o, c1 P o = some (.call f args) → OpOk P o fr hp x hp' := by
  obtain ⟨hp', r', hf, hh⟩ := hcl _ _ _ _ _ e hp r
  refine ⟨hp', r', hf, fun o hc => ?_⟩
  obtain ⟨g, as, tys, ho, h1, h2⟩ := c1_call hc
  intro E a ro n next Q hok hr hfr hn
  refine call_upon ho (hh E _ _ hok hr (X.ok hfr h1) (Xs.ok hfr h2)) ?_
  rintro v w' ⟨E', rfl, h3, h4, h5⟩
  exact hn E' v h3 h4 h5
theorem OpOk.inv {cl : Cl} (hcl : ClOk P cl) {mt : List (Nat × Nat)} {y : X} {args : List X} {fr : List SV} {h h' : HT} {hp : List Blk} (r : HRel h hp) {x z : SV} {t f : Nat}
    (hy : y.get fr = .ifc t z) (hm : lkm mt t = some f) (e : cl (.fn f []) (z :: gets fr args) h = some (x, h')) : ∃ hp', HRel h' hp' ∧ Frm h h' ∧ ∀ o, c1 P o = some (.inv mt y args) → OpOk P o fr hp x hp' := by
  obtain ⟨hp', r', hf, hh⟩ := hcl _ _ _ _ _ e hp r
  refine ⟨hp', r', hf, fun o hc => ?_⟩
  obtain ⟨g, m, as, tys, ho, rfl, h1, h2⟩ := c1_inv hc
  intro E a ro n next Q hok hr hfr hn
  have k1 := X.ok hfr h1
  rw [hy] at k1
  obtain ⟨v, hv, k1⟩ := k1.ifcE
  refine inv_upon ho k1 hm (hh E _ _ hok hr (.fn f [] [] .nil) (.cons _ _ _ _ hv (Xs.ok hfr h2))) ?_
  rintro v w' ⟨E', rfl, h3, h4, h5⟩
  exact hn E' v h3 h4 h5

/-- New cells, closed at once: a row, and what was known is known. -/
theorem clR_later {E : Env} {hp : List Blk} (hr : RHp E hp) {cs : List SV} {vs : List Value} (hv : Rvs E cs vs) (t : TypeId) {len : Nat} {y : SV} (e : clR cs len = some y) :
    ∃ E', E'.w = E.w.alloc (.cells vs.toArray t) ∧ E.Le E' ∧ RHp E' hp ∧ Rv E' y (.slice (some ⟨E.w.heap.size, 0, none⟩) len len) := by
  unfold clR at e
  split at e <;> first | (cases e; done) | skip
  rename_i hcl
  have h1 := clos_ok 8 hcl hv
  have hl : Later E.w (E.w.alloc (.cells vs.toArray t)) := ⟨fun b hb => heap_alloc_old _ _ hb, fun a => RowKit.frozen?_alloc_cells _ _ _ a, by rw [World.size_alloc]; omega, rfl, rfl, rfl⟩
  obtain ⟨n1, n2⟩ := later_env hr (im' := fun b => E.im b ∨ b = E.w.heap.size) (fun b hb => .inl hb) (fun b hb => by rcases hb with h | h; exact .inl h; exact .inr (by omega))
    (fun b hb => by rw [World.size_alloc]; rcases hb with h | h; exact Nat.lt_succ_of_lt (hr.imlt h); omega) hl
  refine ⟨_, rfl, n1, n2, ?_⟩
  exact (rowB_ok (h1.mono n1.stays) (.inr rfl) (heap_alloc_new E.w _) e).rv
theorem OpOk.bslV {e len : Nat} {z : List SV} {ps : List (Nat × Nat × X)} {fr : List SV} {hp : List Blk} {cs : List SV} {y : SV} (hcs : lay z (getp fr ps) = some cs) (hy : clR cs len = some y) {o : Oper} (hc : c1 P o = some (.bsl e len z ps)) :
    OpOk P o fr hp y hp := by
  unfold c1 at hc
  split at hc
  · cases hc
  · split at hc
    case h_5 t len' parts ho =>
      split at hc
      · rename_i e' hs
        split at hc
        · rename_i d z' hd hz
          split at hc
          · rename_i hle
            obtain ⟨xs, hxs, h0⟩ := Option.map_eq_some_iff.1 hc
            cases h0
            unfold zrow at hz
            simp only [hd] at hz
            split at hz
            · rename_i zv hzv
              cases hz
              intro E a ro n next Q hok hr hfr hn
              obtain ⟨cells', h1, h2⟩ := lay_ok (E := E) (cells := (Array.range (len * d.size)).map (zv.cells[· % zv.cells.size]!)) (getp_ok hfr hxs) (ofCs_ok E _) hcs
              obtain ⟨E', h3, h4, h5, h6⟩ := clR_later hr h2 e hy
              refine upon_val (w := E'.w) (v := .slice (some ⟨E.w.heap.size, 0, none⟩) len len) ?_ (hn E' _ h4 h5 h6)
              have hgt : ¬ 16777216 < len * d.size := by omega
              have h0 : ¬ (len * d.size = 0) := by omega
              simp only [execOp, ho, Instr.buildSlice, Sem.run_bind, run_underlying hs, Result.andThen_ok, sizeOf, typeInfo, run_program, hd, Sem.run_pure]
              rw [if_neg (by simpa using hgt), if_neg h0]
              have h1' : Instr.fill (fun i => some (i * d.size, d.size)) ((Array.range (len * d.size)).map (zv.cells[· % zv.cells.size]!)) (parts.map fun (i, x) => (i, a.eval x)).toList = some cells' := by
                simpa using h1
              simp only [zeroValue, typeInfo, Sem.run_bind, run_program, Result.andThen_ok, hd, Sem.run_pure, hzv, h1', newRow, run_newObj, h3]
              simp
            · cases hz
          · cases hc
        · cases hc
      · cases hc
    all_goals (repeat' split at hc) <;> first | (cases hc; done) | (obtain ⟨_, _, h0⟩ := Option.map_eq_some_iff.1 hc; cases h0; done)
theorem OpOk.mslV {e sz : Nat} {z : List SV} {x y : X} {fr : List SV} {hp : List Blk} {r : SV} {o : Oper} (hc : c2 P o = some (.msl e sz z x y)) {cq : Cq} {g : Nat → Blk} (ev : evV cq fr g (.msl e sz z x y) = some r) : OpOk P o fr hp r hp := by
  simp only [evV] at ev
  split at ev <;> first | (cases ev; done) | skip
  rename_i ka a kc c hx hy
  split at ev <;> first | (cases ev; done) | skip
  rename_i hcc
  simp only [Bool.and_eq_true, decide_eq_true_eq] at hcc
  obtain ⟨rfl, h0, h1, h2⟩ := hcc
  have hc := c2_m hc (by intro _ h; cases h)
  unfold c2m at hc
  split at hc <;> first | (repeat' split at hc) <;> first | (cases hc; done) | skip
  rename_i t lo co ho _ e' ht _ _ _ i l' c' hi h3 h4 _ zv hz hcond
  cases hc
  obtain ⟨g1, g2, g3⟩ := hcond
  intro E a' ro n next Q hok hr hfr hn
  have k1 := X.ok hfr h3
  have k2 := X.ok hfr h4
  rw [hx] at k1
  rw [hy] at k2
  have k1 := k1.intE
  have k2 := k2.intE
  obtain ⟨E', p1, p2, p3, p4⟩ := clR_later hr (mslC_ok (ofCs_ok E zv.cells.toList) g1 g2 a.toNat) e ev
  have hb : (i.bytes : Int) * a ≤ 281474976710656 := by
    have : (i.bytes : Int) * a ≤ 1073741824 * 65536 := Int.mul_le_mul (by omega) h1 h0 (by omega)
    omega
  have hrun := run_makeSlice (P := P) E.w t e i zv ht hi hz ka kc a a h0 (Int.le_refl _) h2 hb (by omega)
  refine upon_val (w := E'.w) (v := .slice (some ⟨E.w.heap.size, 0, none⟩) a.toNat a.toNat) ?_ (hn E' _ p2 p3 p4)
  simp only [execOp, ho, k1, k2, Sem.run_bind, hrun, Result.andThen_ok, Sem.run_pure, p1]
theorem OpOk.bs0 {sz : Nat} {fr : List SV} {hp : List Blk} {o : Oper} (hc : c2 P o = some (.bs0 sz)) : OpOk P o fr hp (.rd sz 0 fun _ => []) hp := by
  have hc := c2_m hc (by intro _ h; cases h)
  unfold c2m at hc
  split at hc <;> first | (repeat' split at hc) <;> first | (cases hc; done) | skip
  rename_i t len parts ho _ e hs _ i hi hcond
  cases hc
  obtain ⟨rfl, hsz⟩ := hcond
  intro E a ro n next Q hok hr hfr hn
  have hparts : parts = #[] := Array.size_eq_zero_iff.1 hsz
  subst hparts
  have hl : Later E.w (E.w.alloc (.cells #[] e)) := ⟨fun b hb => heap_alloc_old _ _ hb, fun a => RowKit.frozen?_alloc_cells _ _ _ a, by rw [World.size_alloc]; omega, rfl, rfl, rfl⟩
  obtain ⟨n1, n2⟩ := later_env hr (im' := fun b => E.im b ∨ b = E.w.heap.size) (fun b hb => .inl hb) (fun b hb => by rcases hb with h | h; exact .inl h; exact .inr (by omega))
    (fun b hb => by rw [World.size_alloc]; rcases hb with h | h; exact Nat.lt_succ_of_lt (hr.imlt h); omega) hl
  refine upon_val (w := E.w.alloc (.cells #[] e)) (v := .slice (some ⟨E.w.heap.size, 0, none⟩) 0 0) ?_ (hn _ _ n1 n2 ?_)
  · have h1' : Instr.fill (fun i_1 => some (i_1 * i.size, i.size)) ((Array.range (0 * i.size)).map ((#[] : Array Value)[· % (#[] : Array Value).size]!)) (#[].map fun (i, x) => (i, a.eval x) : Array (Nat × Value)).toList = some #[] := by
      simp [Instr.fill]
    simp only [execOp, ho, Instr.buildSlice, Sem.run_bind, run_underlying hs, Result.andThen_ok, sizeOf, typeInfo, run_program, hi, Sem.run_pure]
    rw [if_neg (by simp), if_pos (by simp)]
    simp only [Sem.run_pure, Result.andThen_ok, h1', newRow, Sem.run_bind, run_newObj]
    simp
  · exact (Cv.rd _ 0 _ E.w.heap.size 0 0 (fun _ => []) (.inr rfl) (fun i hi => by omega) (fun i hi => by omega) (fun i j v hi => by omega) (Nat.le_refl _)).rv

theorem run_eqMapNil {w : World} {a : Act} {o : Oper} {op : BinOp} {t yt k e : TypeId} {x z : Operand} {b : Nat} {ng : Bool} (hng : op = bif ng then .neq else .eql) (ho : o.op = .binOp op t x z yt) (k1 : a.eval x = .map (some b)) (k2 : a.eval z = .map none)
    (h : P.underlying t = some (.map k e)) : (execOp a.eval o).run P w = .ok (.value (.bool ng)) w := by
  have h0 : ∀ d, (Op.equalIn (d + 1) t (.map (some b)) (.map none)).run P w = .ok false w := fun d => by simp [Op.equalIn, run_underlying h]
  have h2 : (Op.equal t (.map (some b)) (.map none)).run P w = .ok false w := h0 9999
  cases ng <;> (subst hng; simp [execOp, ho, k1, k2, eqGuard, binOp, h2])
theorem run_assertMap {w : World} {t xT k e : TypeId} {v : Value} (h : P.underlying t = some (.map k e)) : (Instr.typeAssert (.iface t v) xT t false).run P w = .ok v w := by
  simp [Instr.typeAssert, run_underlying h, go_sem, Result.andThen]
theorem mapV {E : Env} {y : SV} {u : Value} (h : Rv E y u) (hy : (∃ l, y = .lb .mp l) ∨ ∃ ks vs, y = .cm ks vs) : ∃ b, u = .map (some b) := by
  rcases hy with ⟨l, rfl⟩ | ⟨ks, vs, rfl⟩
  · exact ⟨_, (lbE' h).2⟩
  · obtain ⟨_, b, _, _, _, _, _, h⟩ := h.cmE; exact ⟨b, h⟩
theorem OpOk.e1V {e : E1} {x : X} {fr : List SV} {hp : List Blk} {y : SV} (ev : e1V e (x.get fr) = some y) {o : Oper} (hc : c2 P o = some (.e1 e x)) : OpOk P o fr hp y hp := by
  rcases c2_e1 hc with ⟨_, rfl⟩ | h1 | rfl
  · simp [Vg.e1V] at ev
  · unfold c2e at h1
    intro E a ro n next Q hok hr hfr hn
    split at h1
    · split at h1 <;> first | (cases h1; done) | skip
      rename_i t xo yt _ _ _ k e' x' hu hx ho
      cases h1
      have k1 := X.ok hfr hx
      simp only [Vg.e1V] at ev
      obtain ⟨b, hb⟩ : ∃ b, a.eval xo = .map (some b) := mapV k1 (by split at ev <;> first | (cases ev; done) | exact .inl ⟨_, ‹_›⟩ | exact .inr ⟨_, _, ‹_›⟩)
      have hy : y = nb false false := by split at ev <;> first | (cases ev; done) | (cases ev; rfl)
      subst hy
      exact upon_val (w := E.w) (v := .bool false) (run_eqMapNil (ng := false) rfl ho hb rfl hu) (hn E _ (.refl E) hr (.lit _))
    · split at h1 <;> first | (cases h1; done) | skip
      rename_i t xo yt _ _ _ k e' x' hu hx ho
      cases h1
      have k1 := X.ok hfr hx
      simp only [Vg.e1V] at ev
      obtain ⟨b, hb⟩ : ∃ b, a.eval xo = .map (some b) := mapV k1 (by split at ev <;> first | (cases ev; done) | exact .inl ⟨_, ‹_›⟩ | exact .inr ⟨_, _, ‹_›⟩)
      have hy : y = nb true false := by split at ev <;> first | (cases ev; done) | (cases ev; rfl)
      subst hy
      exact upon_val (w := E.w) (v := .bool true) (run_eqMapNil (ng := true) rfl ho hb rfl hu) (hn E _ (.refl E) hr (.lit _))
    · split at h1 <;> first | (cases h1; done) | skip
      rename_i xo xt t ho _ _ k e' x' hu hx
      cases h1
      have k1 := X.ok hfr hx
      simp only [Vg.e1V] at ev
      split at ev <;> first | (cases ev; done) | skip
      rename_i t' y' hxy
      split at ev <;> first | (cases ev; done) | skip
      rename_i ht
      cases ev
      have ht := Nat.eq_of_beq_eq_true ht
      subst ht
      rw [hxy] at k1
      obtain ⟨v, hv, k1⟩ := k1.ifcE
      refine upon_val (w := E.w) (v := v) ?_ (hn E _ (.refl E) hr hv)
      simp only [execOp, ho, k1, Sem.run_bind, run_assertMap hu, Result.andThen_ok, Sem.run_pure]
    · split at h1 <;> first | (cases h1; done) | skip
      split at h1 <;> first | (cases h1; done) | skip
      rename_i args tys ho _ _ xo t ha ht _ _ k e' x' hu hx
      cases h1
      have k1 := X.ok hfr hx
      simp only [Vg.e1V] at ev
      split at ev <;> first | (cases ev; done) | skip
      rename_i ks vs hxy
      cases ev
      rw [hxy] at k1
      obtain ⟨xs, b, g1, _, _, ⟨_, k1l⟩, g5, k1⟩ := k1.cmE
      have ha' : args = #[xo] := by apply Array.ext'; simpa using ha
      have ht' : tys = #[t] := by apply Array.ext'; simpa using ht
      subst ha'; subst ht'
      have hl : ll ks = xs.length := by
        have := congrArg List.length (zp_fst (a := ks) (b := vs) (k1l)).1
        have g := g1.length
        simp only [List.length_map] at g this
        rw [ll_eq, ← this, g]
      refine upon_val (w := E.w) (v := .int .i64 (ll ks)) ?_ (hn E _ (.refl E) hr (.int _ _))
      rw [hl]
      simp [execOp, ho, resolve, invoke, builtin, k1, Builtin.len_, run_underlying hu, MapKept.run_getObj_map g5, goInt, Result.andThen]
    · split at h1 <;> first | (cases h1; done) | skip
      split at h1 <;> first | (cases h1; done) | skip
      rename_i args tys ho _ _ xo t ha ht _ _ e' x' hu hx
      cases h1
      have k1 := X.ok hfr hx
      simp only [Vg.e1V] at ev
      split at ev <;> first | (cases ev; done) | skip
      rename_i hxy
      cases ev
      rw [hxy] at k1
      have k1 := k1.litE
      have ha' : args = #[xo] := by apply Array.ext'; simpa using ha
      have ht' : tys = #[t] := by apply Array.ext'; simpa using ht
      subst ha'; subst ht'
      refine upon_val (w := E.w) (v := .int .i64 0) ?_ (hn E _ (.refl E) hr (.int _ _))
      simp [execOp, ho, resolve, invoke, builtin, k1, Builtin.cap_, run_underlying hu, goInt, Result.andThen]
    · cases h1
  · simp [Vg.e1V] at ev
theorem OpOk.e1M {α : Type} {e : E1} {x : X} {fr : List SV} {h : HT} {hp : List Blk} (r : HRel h hp) {K : SV → HT → Option α} {res : α} (ev : e1M h e (x.get fr) K = some res) :
    ∃ y h' hp', HRel h' hp' ∧ Frm h h' ∧ K y h' = some res ∧ ∀ o, c2 P o = some (.e1 e x) → OpOk P o fr hp y hp' := by
  unfold Vg.e1M at ev
  split at ev <;> first | (cases ev; done) | skip
  · split at ev <;> first | (cases ev; done) | skip
    rename_i l hxy
    rw [r.g] at ev
    split at ev <;> first | (cases ev; done) | skip
    rename_i es hg
    refine ⟨_, h, hp, r, .refl _, ev, fun o hc => ?_⟩
    rcases c2_e1 hc with ⟨_, h1⟩ | h1 | h1 <;> first | (cases h1; done) | skip
    unfold c2e at h1
    intro E a ro n next Q hok hr hfr hn
    split at h1 <;> first | (split at h1 <;> cases h1; done) | skip
    · split at h1 <;> first | (cases h1; done) | skip
      split at h1 <;> first | (cases h1; done) | skip
      rename_i args tys ho _ _ xo t ha ht _ _ k e' x' hu hx
      cases h1
      have k1 := X.ok hfr hx
      rw [hxy] at k1
      obtain ⟨_, k1⟩ := lbE' k1
      obtain ⟨xs, g1, _, _, g4⟩ := hr.b.blk l _ (some_gb hg (by simp))
      have hl : es.length = xs.length := by simpa using g1.length
      have ha' : args = #[xo] := by apply Array.ext'; simpa using ha
      have ht' : tys = #[t] := by apply Array.ext'; simpa using ht
      subst ha'; subst ht'
      refine upon_val (w := E.w) (v := .int .i64 (es.length)) ?_ (hn E _ (.refl E) hr (.int _ _))
      rw [hl]
      simp [execOp, ho, resolve, invoke, builtin, k1, LK.val, Builtin.len_, run_underlying hu, MapKept.run_getObj_map g4, goInt, Result.andThen]
    · split at h1 <;> first | (cases h1; done) | skip
      split at h1 <;> cases h1
    · cases h1
  · split at ev <;> first | (cases ev; done) | skip
    rename_i t y hxy
    have main : ∀ es : List (SV × SV), (∀ (E : Env) (u : Value), RHp E hp → Rv E y u → ∃ (xs : List MapEntry) (b : Nat), Rvs E (es.map (·.1)) (xs.map (·.key)) ∧ Rvs E (es.map (·.2)) (xs.map (·.val)) ∧ (∀ (i : Nat) e, xs[i]? = some e → e.born = i) ∧
        E.w.heap[b]? = some (.map xs.toArray xs.length) ∧ u = .map (some b)) → (h.push (.ob (.mp es)) fun h' => K (.ifc t (.lb .mp h.n)) h') = some res →
        ∃ y h' hp', HRel h' hp' ∧ Frm h h' ∧ K y h' = some res ∧ ∀ o, c2 P o = some (.e1 .cln x) → OpOk P o fr hp y hp' := by
      intro es hes ev
      rw [HT.push_eq] at ev
      refine ⟨_, _, _, r.push _, .push r.f _, ev, fun o hc => ?_⟩
      rcases c2_e1 hc with ⟨h1, _⟩ | h1 | h1 <;> first | (cases h1; done) | skip
      · unfold clnOf at h1
        split at h1 <;> first | (cases h1; done) | skip
        rename_i f args tys ho
        split at h1 <;> first | (cases h1; done) | skip
        rename_i xo fn ha hfn
        split at h1 <;> first | (cases h1; done) | skip
        rename_i hcond
        simp only [Bool.and_eq_true, decide_eq_true_eq] at hcond
        obtain ⟨c1, c2, c3⟩ := hcond
        intro E a ro n next Q hok hr hfr hn
        have k1 := X.ok hfr h1
        rw [hxy] at k1
        obtain ⟨u, hu, k1⟩ := k1.ifcE
        obtain ⟨xs, b, g1, g2, g3, g4, rfl⟩ := hes E u hr hu
        have hlen := hr.b.n
        have hnew : ∀ g v, (E.push (E.w.alloc (.map xs.toArray xs.length)) g v).w = E.w.alloc (.map xs.toArray xs.length) := fun _ _ => rfl
        have hle : E.Le (E.push (E.w.alloc (.map xs.toArray xs.length)) E.w.heap.size undef) := Env.push_le fun b hb => heap_alloc_old _ _ (hr.imlt hb)
        obtain ⟨p1, p2⟩ := push_ob hr (obj := .map xs.toArray xs.length) rfl (o := .mp es) ⟨xs, g1.mono hle, g2.mono hle, g3, by
          have h0 := World.alloc_heap_new E.w (.map xs.toArray xs.length)
          have h1 : (E.push (E.w.alloc (.map xs.toArray xs.length)) E.w.heap.size undef).blk E.n = E.w.heap.size := by simp [Env.push]
          rw [h1]; exact h0⟩
        have hln : h.n = E.n := by rw [r.n, ln_eq]; exact hr.b.n.symm
        have ha' : args = #[xo] := by apply Array.ext'; simpa using ha
        subst ha'
        have hrun : (Extern.MapsClone.clone #[.iface t (.map (some b))]).run P E.w = .ok (.iface t (.map (some E.w.heap.size))) (E.w.alloc (.map xs.toArray xs.length)) := by
          show (getObj b >>= fun o => _).run P E.w = _
          simp [MapKept.run_getObj_map g4, Result.andThen, go_sem]
        refine upon_val (w := (E.push (E.w.alloc (.map xs.toArray xs.length)) E.w.heap.size undef).w) (v := .iface t (.map (some E.w.heap.size))) ?_ (hn _ _ p2 p1 ?_)
        · have hcall := run_callFunc_extern hfn (by rw [c1]; rfl) c3 (next_clone c1 c2) (find_clone c1) #[.iface t (.map (some b))] E.w
          rw [hrun] at hcall
          simp only [Result.andThen_ok] at hcall
          have h1 : a.eval (.func f) = .func (.func f) #[] #[] := rfl
          simp only [execOp, ho, resolve, h1, Deferred.ofValue, invoke, Sem.run_bind, Sem.run_pure, Result.andThen_ok, List.map_toArray, List.map_cons, List.map_nil, k1]
          simp [hcall, Env.push, Result.andThen, k1]
        · rw [hln]
          have := Rv.lb (E := E.push (E.w.alloc (.map xs.toArray xs.length)) E.w.heap.size undef) .mp E.n Env.push_has
          exact .ifc _ _ _ (by simpa [LK.val, Env.push] using this)
      · unfold c2e at h1
        repeat' split at h1
        all_goals cases h1
    split at ev <;> first | (cases ev; done) | skip
    · rename_i l
      rw [r.g] at ev
      split at ev <;> first | (cases ev; done) | skip
      rename_i es hg
      refine main es (fun E u hr hu => ?_) ev
      obtain ⟨_, hu⟩ := lbE' hu
      obtain ⟨xs, g1, g2, g3, g4⟩ := hr.b.blk l _ (some_gb hg (by simp))
      exact ⟨xs, _, g1, g2, g3, g4, hu⟩
    · rename_i ks vs
      refine main _ (fun E u hr hu => ?_) ev
      obtain ⟨xs, b, g1, g2, g3, _, g4, hu⟩ := hu.cmE
      exact ⟨xs, b, g1, g2, g3, g4, hu⟩
theorem OpOk.mkmV {fr : List SV} {hp : List Blk} {o : Oper} (hc : c2 P o = some .mkm) : OpOk P o fr hp (.cm [] []) hp := by
  have hc := c2_m hc (by intro _ h; cases h)
  unfold c2m at hc
  split at hc <;> first | (repeat' split at hc) <;> first | (cases hc; done) | skip
  rename_i t ho
  intro E a ro n next Q hok hr hfr hn
  have hl : Later E.w (E.w.alloc (.map #[] 0)) := ⟨fun b hb => heap_alloc_old _ _ hb, frozen_alloc rfl, by rw [World.size_alloc]; omega, rfl, rfl, rfl⟩
  obtain ⟨n1, n2⟩ := later_env hr (im' := fun b => E.im b ∨ b = E.w.heap.size) (fun b hb => .inl hb) (fun b hb => by rcases hb with h | h; exact .inl h; exact .inr (by omega))
    (fun b hb => by rw [World.size_alloc]; rcases hb with h | h; exact Nat.lt_succ_of_lt (hr.imlt h); omega) hl
  refine upon_val (w := E.w.alloc (.map #[] 0)) (v := .map (some E.w.heap.size)) ?_ (hn _ _ n1 n2 ?_)
  · simp [execOp, ho, Instr.makeMap]
  · exact .cm _ _ _ (.cm [] [] [] [] [] E.w.heap.size .nil .nil rfl rfl (by simp) (.inr rfl) (World.alloc_heap_new E.w (.map #[] 0)))

theorem evX_ok {α : Type} {cl : Cl} (hcl : ClOk P cl) {o2 : Op2} {fr : List SV} {h : HT} {hp : List Blk} (r : HRel h hp) {k : SV → HT → Option α} {res : α} (e : evX cl fr h o2 k = some res) :
    ∃ x h' hp', HRel h' hp' ∧ Frm h h' ∧ k x h' = some res ∧ ∀ o, c2 P o = some o2 → OpOk P o fr hp x hp' := by
  cases o2 with
  | o o1 =>
    have gen : evO fr h o1 k = some res → ∃ x h' hp', HRel h' hp' ∧ Frm h h' ∧ k x h' = some res ∧ ∀ o, c2 P o = some (.o o1) → OpOk P o fr hp x hp' := fun e => by
      obtain ⟨x, h', hp', r', hf, hev, hk⟩ := evO_ok r e (fun _ => none)
      exact ⟨x, h', hp', r', hf, hk, fun o hc => .of_evh (c2_c1 hc) hev⟩
    cases o1 with
    | call f args =>
      simp only [evX] at e
      split at e <;> first | (cases e; done) | skip
      rename_i x h' he
      obtain ⟨hp', r', hf, hop⟩ := OpOk.call hcl r he
      exact ⟨x, h', hp', r', hf, e, fun o hc => hop o (c2_c1 hc)⟩
    | inv mt y args =>
      simp only [evX] at e
      split at e <;> first | (cases e; done) | skip
      rename_i t z hy
      split at e <;> first | (cases e; done) | skip
      rename_i f hm
      split at e <;> first | (cases e; done) | skip
      rename_i x h' he
      obtain ⟨hp', r', hf, hop⟩ := OpOk.inv hcl r hy hm he
      exact ⟨x, h', hp', r', hf, e, fun o hc => hop o (c2_c1 hc)⟩
    | app t sz bytes y z =>
      simp only [evX] at e
      split at e
      · rename_i x hx
        exact ⟨x, h, hp, r, .refl _, e, fun o hc => .app hx (c2_c1 hc)⟩
      · split at e
        · obtain ⟨x, h', hp', r', hf, hk, hh⟩ := appN_ok (P := P) r e
          refine ⟨x, h', hp', r', hf, hk, fun o hc => ?_⟩
          obtain ⟨xo, yo, t', i, zz, ho, h1, h2, h3, h4, h5, h6, h7, h8⟩ := c1_app (c2_c1 hc)
          intro E a ro n next Q hok hr hfr hn
          obtain ⟨u, E', g1, g2, g3, g4⟩ := hh E t' o.type i zz _ _ hr h1 h2 h3 h4 h5 h6 (X.ok hfr h7) (X.ok hfr h8)
          refine upon_val (w := E'.w) (v := u) ?_ (hn E' u g2 g3 g4)
          simp [execOp, ho, resolve, invoke, builtin, g1]
        · exact gen e
    | slc y lo hi mx sz =>
      simp only [evX] at e
      split at e
      · obtain ⟨x, h', hp', r', hf, hk, hop⟩ := OpOk.slcC (P := P) r e
        exact ⟨x, h', hp', r', hf, hk, fun o hc => hop o (c2_c1 hc)⟩
      · exact gen e
    | _ => exact gen e
  | lku kk z ok m q =>
    simp only [evX, r.g] at e
    split at e <;> first | (cases e; done) | skip
    rename_i x hx
    exact ⟨x, h, hp, r, .refl _, e, fun o hc => .lku hc hx⟩
  | upd kk m q v =>
    simp only [evX] at e
    obtain ⟨h', hp', r', hf, hk, hh⟩ := OpOk.upd (P := P) r e
    exact ⟨.any, h', hp', r', hf, hk, hh⟩
  | msl t sz z a b =>
    simp only [evX] at e
    exact OpOk.msl r e
  | mkm =>
    simp only [evX, HT.push_eq] at e
    exact ⟨_, _, _, r.push _, .push r.f _, e, fun o hc => .mkm r hc⟩
  | mkmv f a b =>
    simp only [evX] at e
    exact ⟨_, _, _, r, .refl _, e, fun o hc => .mkmv hc⟩
  | nck x =>
    simp only [evX] at e
    split at e <;> first | (cases e; done) | skip
    rename_i y hy
    exact ⟨_, _, _, r, .refl _, e, fun o hc => .nck hy hc⟩
  | bs0 sz =>
    simp only [evX] at e
    exact ⟨_, _, _, r, .refl _, e, fun o hc => .bs0 hc⟩
  | e1 o x =>
    simp only [evX, e1B] at e
    split at e
    · rename_i y hy
      exact ⟨y, h, hp, r, .refl _, e, fun o hc => .e1V hy hc⟩
    · exact OpOk.e1M r e
  | _ => simp [evX] at e

theorem gb_sb_ne : ∀ (hp : List Blk) (l l' : Nat) (b : Blk), l ≠ l' → gb (sb hp l' b) l = gb hp l
  | [], l, l', b, h => by cases l' <;> rfl
  | x :: t, 0, 0, b, h => absurd rfl h
  | x :: t, l + 1, 0, b, h => rfl
  | x :: t, 0, l' + 1, b, h => rfl
  | x :: t, l + 1, l' + 1, b, h => by simpa [sb, gb] using gb_sb_ne t l l' b (by omega)
/-- The same; and what a store changes. -/
theorem evX_ok2 {α : Type} {cl : Cl} (hcl : ClOk P cl) {o2 : Op2} {fr : List SV} {h : HT} {hp : List Blk} (r : HRel h hp) {k : SV → HT → Option α} {res : α} (e : evX cl fr h o2 k = some res) :
    ∃ x h' hp', HRel h' hp' ∧ Frm h h' ∧ k x h' = some res ∧ (∀ o, c2 P o = some o2 → OpOk P o fr hp x hp') ∧
      ∀ sz p v, o2 = .o (.store sz (.t p) v) → ∀ l, (∀ l' off, gt fr p = .ptr l' off → l ≠ l') → (∃ l' off, gt fr p = .ptr l' off) → gb hp' l = gb hp l := by
  by_cases ho : ∃ sz p v, o2 = .o (.store sz (.t p) v)
  · obtain ⟨sz, p, v, rfl⟩ := ho
    simp only [evX] at e
    obtain ⟨x, h', hp', r', hf, hev, hk⟩ := evO_ok r e (fun _ => none)
    refine ⟨x, h', hp', r', hf, hk, fun o hc => .of_evh (c2_c1 hc) hev, fun sz' p' v' he l hl hex => ?_⟩
    cases he
    obtain ⟨l', off, hp1⟩ := hex
    have hne := hl l' off hp1
    have hx : (X.t p).get fr = .ptr l' off := hp1
    simp only [evh, hx] at hev
    unfold storeK at hev
    split at hev <;> first | exact hev.elim | skip
    · rename_i cs e1 e2
      cases e1
      have hev := hev.2
      unfold storeK2 at hev
      split at hev <;> first | exact hev.elim | skip
      unfold storeK3 at hev
      split at hev <;> first | exact hev.elim | skip
      rw [← hev.2]
      exact gb_sb_ne hp l l' _ hne
    · rename_i e1 _; cases e1
  · obtain ⟨x, h', hp', h1, h2, h3, h4⟩ := evX_ok hcl r e
    exact ⟨x, h', hp', h1, h2, h3, h4, fun sz p v he => absurd ⟨sz, p, v, he⟩ ho⟩
theorem slQB_slO {hp : List Blk} {x y : SV} (h : slQB (gb hp) x = some y) : slO hp x = some (y, hp) := by
  unfold slQB at h
  unfold slO
  split at h <;> first | (cases h; rfl) | skip
  · rename_i l
    split at h
    · rename_i k xs hg; cases h; simp only [hg]
    · rename_i sz len f hg; cases h; simp only [hg]
    · cases h
  · cases h

theorem slQV_cases {g : Nat → Blk} {x y : SV} (h : slQV g x = some y) : (∃ l len cs t, x = .bsl l len ∧ g l = .fbox t cs ∧ clR cs len = some y) ∨ slQB g x = some y := by
  unfold slQV at h
  split at h
  · rename_i l len
    split at h
    · rename_i t cs hg; exact .inl ⟨l, len, cs, t, rfl, hg, h⟩
    · cases h
  · exact .inr h
theorem slQV_rv {E : Env} {hp : List Blk} (hr : RHp E hp) {x y : SV} {v : Value} (h : slQV (gb hp) x = some y) (hx : Rv E x v) : Rv E y v := by
  rcases slQV_cases h with ⟨l, len, cs, t, rfl, hg, hcr⟩ | h
  · obtain ⟨_, hv⟩ := hx.bslE
    obtain ⟨h0, vs, h4, h5⟩ := hr.b.blk l _ (some_gb hg (by simp))
    unfold clR at hcr
    split at hcr <;> first | (cases hcr; done) | skip
    rename_i hcl
    have hcv := rowB_ok (clos_ok 8 hcl h4) h0 h5 hcr
    rw [← hv] at hcv
    exact hcv.rv
  · unfold slQB at h
    split at h <;> first | (cases h; exact hx) | skip
    · rename_i l
      obtain ⟨_, _, hv⟩ := hx.ownE
      split at h <;> first | (cases h; done) | skip
      · rename_i k xs hg
        cases h
        have h1 := some_gb hg (by simp)
        rw [hv (hr.b.live _ _ h1 (by simp))]
        exact hr.b.blk _ _ h1
      · rename_i sz len f hg
        cases h
        have h1 := some_gb hg (by simp)
        rw [hv (hr.b.live _ _ h1 (by simp))]
        exact hr.b.blk _ _ h1
    · cases h; exact hx.clipE.unclip.rv
    · cases h; exact hx.cliprE.unclipr.rv
    · cases h
theorem clAs_rv {E : Env} {hp : List Blk} (hr : RHp E hp) : ∀ {xs ys : List SV} {vs : List Value}, clAs (gb hp) xs = some ys → Rvs E xs vs → Rvs E ys vs
  | [], ys, vs, h, hx => by cases h; exact hx
  | x :: t, ys, vs, h, hx => by
    simp only [clAs] at h
    split at h <;> first | (cases h; done) | skip
    rename_i y h1
    split at h <;> first | (cases h; done) | skip
    rename_i l h2
    cases h
    cases hx with
    | cons _ v _ vs h3 h4 =>
      refine .cons _ _ _ _ ?_ (clAs_rv hr h2 h4)
      unfold clA at h1
      split at h1
      · cases h1; exact h3
      · exact slQV_rv hr h1 h3
theorem evV_ok {cq : Cq} (hcq : CqOk P cq) {o : Oper} {o2 : Op2} (hc : c2 P o = some o2) {fr : List SV} {hp : List Blk} {x : SV} (e : evV cq fr (gb hp) o2 = some x) : OpOk P o fr hp x hp := by
  cases o2 with
  | o o1 =>
    have hc1 := c2_c1 hc
    cases o1 with
    | v vo =>
      simp only [evV] at e
      obtain ⟨p, h1, h2⟩ := evpB_ok e
      exact .of_evh hc1 (by simp only [evh, vK, h1]; exact ⟨h2, by trivial, by trivial⟩)
    | bld z ps =>
      simp only [evV] at e
      split at e
      · rename_i cs hcs; cases e; exact .of_evh hc1 (by simp only [evh, bldK, hcs]; exact ⟨trivial, trivial⟩)
      · cases e
    | slc y lo hi mx sz =>
      simp only [evV] at e
      split at e
      · rename_i y' lo' hi' mx' e1 e2 e3 e4
        obtain ⟨p, h2, h3⟩ := slvB_ok e
        rcases slQV_cases e1 with ⟨l, len, cs, t, hx, hg, hcr⟩ | e1
        · obtain ⟨t', e', i, xo, lo'', hi'', mx'', ho, g1, g2, rfl, g3, g4, g5, g6⟩ := c1_slc hc1
          intro E a ro n next Q hok hr hfr hn
          have k1 := X.ok hfr g3
          rw [hx] at k1
          obtain ⟨_, hv⟩ := k1.bslE
          obtain ⟨h0, vs, h4, h5⟩ := hr.b.blk l _ (some_gb hg (by simp))
          unfold clR at hcr
          split at hcr <;> first | (cases hcr; done) | skip
          rename_i hcl
          have hcv := rowB_ok (clos_ok 8 hcl h4) h0 h5 hcr
          rw [← hv] at hcv
          obtain ⟨v', g7, g8⟩ := slv_ok (P := P) g1 g2 hcv.rv h2 h3 (bnd_ok hfr g4 e2) (bnd_ok hfr g5 e3) (bnd_ok hfr g6 e4)
          refine upon_val (w := E.w) (v := v') ?_ (hn E v' (.refl E) hr g8)
          simp [execOp, ho, g7]
        exact .of_evh hc1 (by simp only [evh, slcK, slQB_slO e1, e2, e3, e4, vK, h2]; exact ⟨h3, by trivial, by trivial⟩)
      · cases e
    | call f args =>
      simp only [evV] at e
      split at e <;> first | (cases e; done) | skip
      rename_i as' has'
      obtain ⟨g, as, tys, ho, h1, h2⟩ := c1_call hc1
      intro E a ro n next Q hok hr hfr hn
      refine call_upon ho (hcq _ _ _ e E _ _ hp hok hr (X.ok hfr h1) (clAs_rv hr has' (Xs.ok hfr h2))) ?_
      rintro v w' ⟨E', rfl, h3, h4, h5⟩
      exact hn E' v h3 h4 h5
    | inv mt y args =>
      simp only [evV] at e
      split at e <;> first | (cases e; done) | skip
      rename_i t z hy
      split at e <;> first | (cases e; done) | skip
      rename_i f hm
      obtain ⟨g, m, as, tys, ho, rfl, h1, h2⟩ := c1_inv hc1
      intro E a ro n next Q hok hr hfr hn
      have k1 := X.ok hfr h1
      rw [hy] at k1
      obtain ⟨v, hv, k1⟩ := k1.ifcE
      refine inv_upon ho k1 hm (hcq _ _ _ e E _ _ hp hok hr (.fn f [] [] .nil) (.cons _ _ _ _ hv (Xs.ok hfr h2))) ?_
      rintro v w' ⟨E', rfl, h3, h4, h5⟩
      exact hn E' v h3 h4 h5
    | app t sz bytes y z => simp only [evV] at e; exact .app e hc1
    | bsl t len z ps =>
      simp only [evV] at e
      split at e <;> first | (cases e; done) | skip
      rename_i cs hcs
      exact .bslV hcs e hc1
    | _ => simp [evV] at e
  | lku kk z ok m q => simp only [evV] at e; exact .lku hc e
  | mkmv f a b => simp only [evV] at e; cases e; exact .mkmv hc
  | nck x => simp only [evV] at e; exact .nck e hc
  | bs0 sz => simp only [evV] at e; cases e; exact .bs0 hc
  | mkm => simp only [evV] at e; cases e; exact .mkmV hc
  | e1 o x => simp only [evV] at e; exact .e1V e hc
  | msl t sz z a b => exact .mslV hc e
  | _ => simp [evV] at e
end
end Go.Vg
