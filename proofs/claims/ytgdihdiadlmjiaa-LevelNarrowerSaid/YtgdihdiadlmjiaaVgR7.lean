import Derived.Test.YtgdihdiadlmjiaaVgR6
import Derived.Laws.Externs
set_option linter.all false
namespace Go.Vg
open Go
def Env.wdf (E : Env) (d : List Deferred) : Env := { E with df := d }
theorem Env.wdf_le0 (E : Env) (d : List Deferred) : E.Le0 (E.wdf d) := ⟨Nat.le_refl _, fun _ h => h, fun _ _ => rfl, fun _ _ => rfl, fun _ _ h => h, fun _ h => h, fun _ _ => rfl, rfl⟩
theorem RHp.wdf {E : Env} {hp : List Blk} (h : RHp E hp) (d : List Deferred) : RHp (E.wdf d) hp := by
 have hat : ∀ l (b : Blk), b.at (E.wdf d) l = b.at E l := fun l b => by cases b <;> rfl
 exact ⟨⟨h.g.fr, h.g.fz, h.g.sz, h.g.os, h.g.tape, h.g.output, h.g.imb, h.g.im0⟩,
  ⟨h.b.n, h.b.rs, fun l b hb => (h.b.blk l b hb).keep0 (E.wdf_le0 d) (h.has hb) (fun _ _ => rfl), h.b.live, fun l b g hb hg => h.b.imx l b g hb (by rw [<- hat]; exact hg), fun l b g hb hg => h.b.base l b g hb (by rw [<- hat]; exact hg),
   fun l l' b b' g hb hb' hg hg' => h.b.dj l l' b b' g hb hb' (by rw [<- hat]; exact hg) (by rw [<- hat]; exact hg')⟩⟩
theorem Env.wdf_back {E E' : Env} {d : List Deferred} (h : (E.wdf d).Le E') : E.Le (E'.wdf E.df) :=
 ⟨h.n, h.has, h.blk, h.val, h.live, h.im, h.mem, h.W, h.M, h.im0, rfl, h.n0, h.ok, h.rs⟩
def OkE (P : Program) (E : Env) : Prop := E.ok = fun c r => cK P c = some r
theorem OkE.le {P : Program} {E E' : Env} (h : OkE P E) (hl : E.Le E') : OkE P E' := hl.ok.trans h
theorem xLw {P : Program} {ro : Option Nat} {n : Nat} {o : Oper} {x : Operand} {m : String} {args : Array Operand} {tys : Array TypeId} (ho : o.op = .call { callee := .invoke x m, args, argTypes := tys }) {a : Act} {w : World} {R : Value -> World -> Prop}
  {t f : Nat} {v : Value} (hx : a.eval x = .iface t v) (hf : lkm (mtab P m) t = some f) (h : CallV P (.func (.func f) #[] #[]) (v :: args.toList.map a.eval) w R) {next : Act -> World -> Prop} {Q : Exit -> Act -> World -> Prop} (hn : ∀ v w', R v w' -> next (a.put o.dst v) w') :
  o.uponIn (fen ro) n P a next Q ((execOp a.eval o).run P w) := by
 have hm := xKb (xHq hf) v w (P.types.size + Made.depth - 1)
 have hd : P.types.size + Made.depth - 1 + 1 = P.types.size + Made.depth := by simp [Made.depth]
 rw [hd] at hm
 rcases h with ⟨fid, first, caps, h1, ⟨fn, hfd, hnm, hbd⟩, h3⟩ | ⟨l, h1, _⟩
 ·cases h1
  have hrun : (execOp a.eval o).run P w = .ok (.enter f (#[] ++ (v :: args.toList.map a.eval).toArray ++ #[])) w := by
   simp only [execOp, ho, resolve, invoke, Sem.run_bind, Sem.run_pure, Result.andThen_ok]
   have e0 : (#[a.eval x] ++ args.map a.eval)[0]? = some (.iface t v) := by
    rw [hx, Array.getElem?_append_left (by simp)]; rfl
   have e1 : (#[a.eval x] ++ args.map a.eval).extract 1 (#[a.eval x] ++ args.map a.eval).size = args.map a.eval := by
    have hl : (args.toList.map a.eval).length = args.size := by simp
    apply Array.ext'
    simp only [Array.toList_extract, Array.toList_append, Array.toList_map, List.extract]
    simp
    rw [<- hl, List.take_length]
   rw [e0]
   simp only [callMethod, Sem.run_bind, run_program, Result.andThen_ok, hm]
   rw [xAl hfd hnm hbd, e1]
   have e2 : #[v] ++ args.map a.eval = #[] ++ (v :: args.toList.map a.eval).toArray ++ #[] := by apply Array.ext'; simp
   rw [e2]
  rw [hrun]
  refine ⟨fun h => by simp [fen, Fence.wide] at h, xAu (h3.mono ?_)⟩
  rintro e w' ⟨v, rfl, hv⟩
  exact hn v w' hv
 ·cases h1
def ClOk (P : Program) (cl : Cl) : Prop :=
 ∀ fv args h x h', cl fv args h = some (x, h') -> ∀ hp, HRel h hp -> ∃ hp', HRel h' hp' /\ Frm h h' /\
  ∀ E vf vs, OkE P E -> RHp E hp -> Rv E fv vf -> Rvs E args vs -> CallV P vf vs E.w fun v w' => ∃ E', E'.w = w' /\ E.Le E' /\ RHp E' hp' /\ Rv E' x v
def CqOk (P : Program) (cq : Cq) : Prop :=
 ∀ fv args x, cq fv args = some x -> ∀ E vf vs hp, OkE P E -> RHp E hp -> Rv E fv vf -> Rvs E args vs -> CallV P vf vs E.w fun v w' => ∃ E', E'.w = w' /\ E.Le E' /\ RHp E' hp /\ Rv E' x v
def OpOk (P : Program) (o : Oper) (fr : List SV) (hp : List Blk) (x : SV) (hp' : List Blk) : Prop :=
 ∀ (E : Env) (a : Act) (ro : Option Nat) (n : Nat) (next : Act -> World -> Prop) (Q : Exit -> Act -> World -> Prop), OkE P E -> RHp E hp -> Rvs E fr a.tmps.toList ->
  (∀ E' v, E.Le E' -> RHp E' hp' -> Rv E' x v -> next (a.put o.dst v) E'.w) -> o.uponIn (fen ro) n P a next Q ((execOp a.eval o).run P E.w)
section
variable {P : Program}
theorem xTb : GmOk P (noG P) := ⟨rfl, fun f C h => by cases h⟩
theorem xMk : ∀ f C, noG P f = some C -> ∃ fn, P.funcs[f]? = some fn /\ fn.name ≠ "runtime.NumGoroutine" /\ fn.body ≠ none := fun f C h => by cases h
theorem OpOk.of_evh {o : Oper} {o1 : Op1} (hc : c1 P o = some o1) {fr : List SV} {hp hp' : List Blk} {x : SV} (h : evh (noG P) ⟨fr, hp⟩ (fun y hq => y = x /\ hq = hp') o1) : OpOk P o fr hp x hp' := by
 intro E a ro n next Q hok hr hf hn
 have := xLn (P := P) xTb xMk hc (E := E.wdf a.defers) (s := ⟨fr, hp⟩) (a := a) ⟨hf.mono0 (E.wdf_le0 _), hr.wdf _, rfl⟩ h (ro := ro) (n := n) (next := next) (Q := Q) ?_
 ·exact this
 rintro E' hp'' y v hle hh hy ⟨rfl, rfl⟩
 exact hn (E'.wdf E.df) v (Env.wdf_back hle) (hh.wdf _) (hy.mono0 (E'.wdf_le0 _))
theorem xMl {fn : Func} (h : fn.name = "maps.clone") : Extern.find fn = some Extern.MapsClone.clone := by
 simp only [Extern.find, h]
 kernel_rfl
theorem xMm {fn : Func} (h : fn.name = "maps.clone") (h2 : fn.origin = "") : Extern.findNext fn = none := by
 simp only [Extern.findNext, h, h2]
 kernel_rfl
theorem xHz {o : Oper} {o2 : Op2} (h : badOf o = some o2) : o2 = .e1 .bad (.c .any) := by
 unfold badOf at h
 split at h <;> cases h
 rfl
theorem c2e_e1 {o : Oper} {o2 : Op2} (h : c2e P o = some o2) : ∃ e x, o2 = .e1 e x := by
 unfold c2e at h
 repeat' split at h
 all_goals first | (cases h; done) | (cases h; exact ⟨_, _, rfl⟩)
theorem c2_c1 {o : Oper} {o1 : Op1} (h : c2 P o = some (.o o1)) : c1 P o = some o1 := by
 unfold c2 at h
 split at h
 ·cases h
 ·split at h
  ·rename_i h1; cases h; exact h1
  ·split at h
   ·rename_i h2
    cases h
    unfold c2m at h2
    repeat' split at h2
    all_goals cases h2
   ·split at h
    ·rename_i h2; cases h; obtain ⟨_, _, h3⟩ := c2e_e1 h2; cases h3
    ·have := xHz h; cases this
theorem c2_m {o : Oper} {o2 : Op2} (h : c2 P o = some o2) (hn : ∀ o1, o2 ≠ .o o1) (he : ∀ e x, o2 ≠ .e1 e x := by intro _ _ h; cases h) : c2m P o = some o2 := by
 unfold c2 at h
 split at h
 ·cases h; exact absurd rfl (he _ _)
 ·split at h
  ·cases h; exact absurd rfl (hn _)
  ·split at h
   ·rename_i h2; cases h; exact h2
   ·split at h
    ·rename_i h2; cases h; obtain ⟨_, _, h3⟩ := c2e_e1 h2; exact absurd h3 (he _ _)
    ·exact absurd (xHz h) (he _ _)
theorem c2m_e1 {o : Oper} {e : E1} {x : X} (h : c2m P o = some (.e1 e x)) : False := by
 unfold c2m at h
 repeat' split at h
 all_goals cases h
theorem c2_e1 {o : Oper} {e : E1} {x : X} (h : c2 P o = some (.e1 e x)) : (clnOf P o = some x /\ e = .cln) \/ c2e P o = some (.e1 e x) \/ e = .bad := by
 unfold c2 at h
 split at h
 ·rename_i h1; cases h; exact .inl ⟨h1, rfl⟩
 ·split at h
  ·cases h
  ·split at h
   ·rename_i h2; cases h; exact (c2m_e1 h2).elim
   ·split at h
    ·rename_i h2; cases h; exact .inr (.inl h2)
    ·have := xHz h; cases this; exact .inr (.inr rfl)
theorem OpOk.lku {o : Oper} {kk : KK} {z : SV} {ok : Bool} {m k : X} (hc : c2 P o = some (.lku kk z ok m k)) {fr : List SV} {hp : List Blk} {x : SV} (e : lkuB fr (gb hp) kk z ok m k = some x) : OpOk P o fr hp x hp := by
 have h := c2_m hc (by intro _ h; cases h)
 unfold c2m at h
 split at h <;> first | (repeat' split at h) <;> first | (cases h; done) | skip
 rename_i t mo ko ok' ho _ key el ht _ _ _ _ kk' z' m' k' h1 h2 h3 h4
 cases h
 intro E a ro n next Q hok hr hfr hn
 unfold zval at h2
 split at h2 <;> first | (cases h2; done) | skip
 rename_i i hi
 split at h2 <;> first | (cases h2; done) | skip
 rename_i zv hzv
 cases h2
 obtain ⟨v, g1, g2⟩ := lku_ok hr hfr e ht h1 h3 h4 (zv := zv) (by simp [zeroValue, typeInfo, hi, hzv]) (xRi E zv)
 refine xAb (w := E.w) (v := v) ?_ (hn E v (.refl E) hr g2)
 simp [execOp, ho, g1]
theorem OpOk.upd {α : Type} {kk : KK} {m k v : X} {fr : List SV} {h : HT} {hp : List Blk} (r : HRel h hp) {K : SV -> HT -> Option α} {res : α} (e : updB fr h kk m k v K = some res) :
  ∃ h' hp', HRel h' hp' /\ Frm h h' /\ K .any h' = some res /\ ∀ o, c2 P o = some (.upd kk m k v) -> OpOk P o fr hp .any hp' := by
 obtain ⟨h', hp', r', hf, hk, hh⟩ := upd_ok (P := P) r e
 refine ⟨h', hp', r', hf, hk, fun o hc => ?_⟩
 have hc := c2_m hc (by intro _ h; cases h)
 unfold c2m at hc
 split at hc <;> first | (repeat' split at hc) <;> first | (cases hc; done) | skip
 rename_i t mo ko vo ho _ key el ht _ _ _ _ kk' m' k' v' h1 h2 h3 h4
 cases hc
 intro E a ro n next Q hok hr hfr hn
 obtain ⟨w', g1, g2, g3⟩ := hh E a t key el mo ko vo hr hfr ht h1 h2 h3 h4
 refine xCp (w := (E.to w').w) ?_ (hn (E.to w') undef g3 g2 (.any _))
 simp [execOp, ho, g1, Env.to]
theorem OpOk.msl {α : Type} {e sz : Nat} {z : List SV} {x y : X} {fr : List SV} {h : HT} {hp : List Blk} (r : HRel h hp) {K : SV -> HT -> Option α} {res : α} (ev : mslB fr h e sz z x y K = some res) :
  ∃ v h' hp', HRel h' hp' /\ Frm h h' /\ K v h' = some res /\ ∀ o, c2 P o = some (.msl e sz z x y) -> OpOk P o fr hp v hp' := by
 unfold mslB at ev
 split at ev <;> first | (cases ev; done) | skip
 rename_i ka a kc c hx hy
 split at ev <;> first | (cases ev; done) | skip
 rename_i hc
 simp only [Bool.and_eq_true, decide_eq_true_eq] at hc
 obtain ⟨rfl, h0, h1, h2⟩ := hc
 rw [HT.push_eq] at ev
 refine ⟨_, _, _, r.push _, .push r.f _, ev, fun o hc => ?_⟩
 have hc := c2_m hc (by intro _ h; cases h)
 unfold c2m at hc
 split at hc <;> first | (repeat' split at hc) <;> first | (cases hc; done) | skip
 rename_i t lo co ho _ e' ht _ _ _ i l' c' hi h3 h4 _ zv hz hcond
 cases hc
 obtain ⟨g1, g2, g3⟩ := hcond
 intro E a' ro n next Q hok hr hfr hn
 have k1 := X.ok hfr h3
 have k2 := X.ok hfr h4
 rw [hx] at k1
 rw [hy] at k2
 have k1 := k1.intE
 have k2 := k2.intE
 obtain ⟨E', p1, p2, p3, p4, p5, p6⟩ := xEo hr e (xOn (xBo E zv.cells.toList) g1 g2 a.toNat)
 have hb : (i.bytes : Int) * a <= 281474976710656 := by
  have : (i.bytes : Int) * a <= 1073741824 * 65536 := Int.mul_le_mul (by omega) h1 h0 (by omega)
  omega
 have hrun := run_makeSlice (P := P) E.w t e i zv ht hi hz ka kc a a h0 (Int.le_refl _) h2 hb (by omega)
 refine xAb (w := E'.w) (v := .slice (some ⟨E.w.heap.size, 0, none⟩) a.toNat a.toNat) ?_ (hn E' _ p2 p3 ?_)
 ·simp only [execOp, ho, k1, k2, Sem.run_bind, hrun, Result.andThen_ok, Sem.run_pure, p1]
 ·rw [<- p5, r.n, <- p6]
  exact .bsl _ _ p4
theorem OpOk.mkm {h : HT} {hp : List Blk} (r : HRel h hp) {fr : List SV} {o : Oper} (hc : c2 P o = some .mkm) : OpOk P o fr hp (.lb .mp h.n) (pb hp (.ob (.mp []))) := by
 have hc := c2_m hc (by intro _ h; cases h)
 unfold c2m at hc
 split at hc <;> first | (repeat' split at hc) <;> first | (cases hc; done) | skip
 rename_i t ho
 intro E a ro n next Q hok hr hfr hn
 obtain ⟨g1, g2⟩ := xDg hr (obj := .map #[] 0) rfl (o := .mp []) ⟨[], .nil, .nil, by simp, by
  have h0 := World.alloc_heap_new E.w (.map #[] 0)
  have h1 : (E.push (E.w.alloc (.map #[] 0)) E.w.heap.size undef).blk E.n = E.w.heap.size := by simp [Env.push]
  rw [h1]; exact h0⟩
 have hln : h.n = E.n := by rw [r.n, xBn]; exact hr.b.n.symm
 refine xAb (w := (E.push (E.w.alloc (.map #[] 0)) E.w.heap.size undef).w) (v := .map (some E.w.heap.size)) ?_ (hn _ _ g2 g1 ?_)
 ·simp [execOp, ho, Instr.makeMap, Env.push]
 ·rw [hln]
  have := Rv.lb (E := E.push (E.w.alloc (.map #[] 0)) E.w.heap.size undef) .mp E.n Env.push_has
  simpa [LK.val, Env.push] using this
theorem OpOk.mkmv {f : Nat} {x y : List X} {fr : List SV} {hp : List Blk} {o : Oper} (hc : c2 P o = some (.mkmv f x y)) : OpOk P o fr hp (.mv f (gets fr x) (gets fr y)) hp := by
 have hc := c2_m hc (by intro _ h; cases h)
 unfold c2m at hc
 split at hc <;> first | (repeat' split at hc) <;> first | (cases hc; done) | skip
 rename_i f' first caps ho _ _ a' b' h1 h2
 cases hc
 intro E a ro n next Q hok hr hfr hn
 refine xAb (w := E.w) (v := .func (.func f) (first.toList.map a.eval).toArray (caps.toList.map a.eval).toArray) ?_ (hn E _ (.refl E) hr (.mv _ _ _ _ _ (Xs.ok hfr h1) (Xs.ok hfr h2)))
 simp [execOp, ho, Instr.makeFunc, xBb]
theorem OpOk.nck {x : X} {fr : List SV} {hp : List Blk} {y : SV} (e : nckB (x.get fr) = some y) {o : Oper} (hc : c2 P o = some (.nck x)) : OpOk P o fr hp y hp := by
 have hc := c2_m hc (by intro _ h; cases h)
 unfold c2m at hc
 split at hc <;> first | (repeat' split at hc) <;> first | (cases hc; done) | skip
 rename_i xo ho _ x' h1
 cases hc
 intro E a ro n next Q hok hr hfr hn
 have k1 := X.ok hfr h1
 have hy : y = x.get fr := by unfold nckB at e; split at e <;> first | (cases e; done) | (rename_i h; cases e; exact h.symm)
 refine xAb (w := E.w) (v := a.eval xo) ?_ (hn E _ (.refl E) hr (by rw [hy]; exact k1))
 unfold nckB at e
 split at e <;> first | (cases e; done) | skip
 all_goals (rename_i hx; rw [hx] at k1)
 ·obtain ⟨_, k1⟩ := k1.ptrE; simp [execOp, ho, k1]
 ·obtain ⟨_, k1⟩ := k1.epE; simp [execOp, ho, k1]
 ·obtain ⟨_, _, _, _, _, _, k1⟩ := k1.rpE; simp [execOp, ho, k1]
 ·obtain ⟨_, _, k1⟩ := k1.fnE; simp [execOp, ho, k1]
 ·obtain ⟨_, _, k1⟩ := k1.ifcE; simp [execOp, ho, k1]
theorem c1_call {o : Oper} {f : X} {args : List X} (h : c1 P o = some (.call f args)) : ∃ g as tys, o.op = .call { callee := .value g, args := as, argTypes := tys } /\ cX g = some f /\ cXs as.toList = some args := by
 unfold c1 at h
 split at h
 ·cases h
 ·split at h
  all_goals first
   | (obtain ⟨_, _, h0⟩ := Option.map_eq_some_iff.1 h; cases h0; done)
   | skip
  case h_7 f0 as tys ho =>
   split at h
   ·rename_i g h1 h2; cases h; exact ⟨f0, as, tys, ho, h1, h2⟩
   ·cases h
  all_goals (repeat' split at h) <;> first | (cases h; done) | (obtain ⟨_, _, h0⟩ := Option.map_eq_some_iff.1 h; cases h0; done)
theorem c1_inv {o : Oper} {mt : List (Nat × Nat)} {x : X} {args : List X} (h : c1 P o = some (.inv mt x args)) :
  ∃ g m as tys, o.op = .call { callee := .invoke g m, args := as, argTypes := tys } /\ mt = mtab P m /\ cX g = some x /\ cXs as.toList = some args := by
 unfold c1 at h
 split at h
 ·cases h
 ·split at h
  all_goals first
   | (obtain ⟨_, _, h0⟩ := Option.map_eq_some_iff.1 h; cases h0; done)
   | skip
  case h_8 g m as tys ho =>
   split at h
   ·rename_i h1 h2; cases h; exact ⟨g, m, as, tys, ho, rfl, h1, h2⟩
   ·cases h
  all_goals (repeat' split at h) <;> first | (cases h; done) | (obtain ⟨_, _, h0⟩ := Option.map_eq_some_iff.1 h; cases h0; done)
theorem c1_app {o : Oper} {e sz bytes : Nat} {x y : X} (h : c1 P o = some (.app e sz bytes x y)) : ∃ xo yo t i z, o.op = .call { callee := .builtin .append, args := #[xo, yo], argTypes := #[t, t] } /\
  P.underlying t = some (.slice e) /\ P.info? e = some i /\ i.zero = some z /\ z.cells.size = i.size /\ sz = i.size /\ bytes = i.bytes /\ cX xo = some x /\ cX yo = some y := by
 unfold c1 at h
 split at h
 ·cases h
 ·split at h
  all_goals first
   | (obtain ⟨_, _, h0⟩ := Option.map_eq_some_iff.1 h; cases h0; done)
   | skip
  case h_6 args tys ho =>
   split at h <;> first | (cases h; done) | skip
   rename_i xo yo t t' hargs htys
   split at h <;> first | (cases h; done) | skip
   rename_i e' x' y' hs hx hy
   split at h <;> first | (cases h; done) | skip
   rename_i htt
   subst htt
   split at h <;> first | (cases h; done) | skip
   rename_i i hi
   split at h <;> first | (cases h; done) | skip
   rename_i z hz
   split at h <;> first | (cases h; done) | skip
   rename_i hzs
   cases h
   have ha : args = #[xo, yo] := by apply Array.ext'; simpa using hargs
   have hty : tys = #[t, t] := by apply Array.ext'; simpa using htys
   subst ha
   subst hty
   exact ⟨xo, yo, t, i, z, ho, hs, hi, hz, hzs, rfl, rfl, hx, hy⟩
  all_goals (repeat' split at h) <;> first | (cases h; done) | (obtain ⟨_, _, h0⟩ := Option.map_eq_some_iff.1 h; cases h0; done)
theorem OpOk.app {e sz bytes : Nat} {x y : X} {fr : List SV} {hp : List Blk} {r : SV} (ha : appV sz bytes (x.get fr) (y.get fr) = some r) {o : Oper} (hc : c1 P o = some (.app e sz bytes x y)) : OpOk P o fr hp r hp := by
 obtain ⟨xo, yo, t, i, z, ho, h1, h2, h3, h4, rfl, rfl, h5, h6⟩ := c1_app hc
 intro E a ro n next Q hok hr hfr hn
 obtain ⟨v, E', g1, g2, g3, g4⟩ := xTl (P := P) (ty := o.type) hr h1 h2 h3 h4 ha (X.ok hfr h5) (X.ok hfr h6)
 refine xAb (w := E'.w) (v := v) ?_ (hn E' v g2 g3 g4)
 simp [execOp, ho, resolve, invoke, builtin, g1]
theorem c1_slc {o : Oper} {sz : Nat} {x : X} {lo hi mx : Option X} (h : c1 P o = some (.slc x lo hi mx sz)) : ∃ t e i xo lo' hi' mx', o.op = .slice t xo lo' hi' mx' /\
  P.underlying t = some (.slice e) /\ P.info? e = some i /\ sz = i.size /\ cX xo = some x /\ cXo lo' = some lo /\ cXo hi' = some hi /\ cXo mx' = some mx := by
 unfold c1 at h
 split at h
 ·cases h
 ·split at h
  all_goals first
   | (obtain ⟨_, _, h0⟩ := Option.map_eq_some_iff.1 h; cases h0; done)
   | skip
  case h_9 t xo lo' hi' mx' ho =>
   split at h <;> first | (cases h; done) | skip
   rename_i e hs
   split at h <;> first | (cases h; done) | skip
   rename_i i x' a b c h1 h2 h3 h4 h5
   cases h
   exact ⟨t, e, i, xo, lo', hi', mx', ho, hs, h1, rfl, h2, h3, h4, h5⟩
  all_goals (repeat' split at h) <;> first | (cases h; done) | (obtain ⟨_, _, h0⟩ := Option.map_eq_some_iff.1 h; cases h0; done)
def CB {α : Type} (f : List SV -> HT -> (List SV -> HT -> Option α) -> Option α) : Prop :=
 ∀ {as : List SV} {h : HT} {hp : List Blk} {k : List SV -> HT -> Option α} {res : α}, HRel h hp -> f as h k = some res ->
  ∃ bs h1 hp1, HRel h1 hp1 /\ Frm h h1 /\ k bs h1 = some res /\ ∀ E us, RHp E hp -> Rvs E as us -> ∃ E1, Closed E E1 /\ RHp E1 hp1 /\ Cvs E1.w E1.im bs us
theorem xFp {α : Type} {f : List SV -> HT -> (List SV -> HT -> Option α) -> Option α} (hf : CB f) : ∀ {as : List SV} {h : HT} {hp : List Blk} {k : List SV -> HT -> Option α} {res : α}, HRel h hp -> clB0 f as h k = some res ->
  ∃ bs h1 hp1, HRel h1 hp1 /\ Frm h h1 /\ k bs h1 = some res /\ ∀ E us, RHp E hp -> Rvs E as us -> ∃ E1, Closed E E1 /\ RHp E1 hp1 /\ Cvs E1.w E1.im bs us
 | [], h, hp, k, res, r, e => ⟨[], h, hp, r, .refl _, e, fun E us hr ha => by cases ha; exact ⟨E, .refl E, hr, .nil⟩⟩
 | x :: t, h, hp, k, res, r, e => by
  simp only [clB0] at e
  split at e
  ·rename_i hc
   obtain ⟨bs, h1, hp1, r1, f1, e1, hh⟩ := xFp hf r e
   refine ⟨_, h1, hp1, r1, f1, e1, fun E us hr ha => ?_⟩
   cases ha with
   | cons _ v _ vs hx hs =>
    obtain ⟨E1, c1, hr1, hb⟩ := hh E vs hr hs
    exact ⟨E1, c1, hr1, .cons _ _ _ _ ((xBy 8 hc hx).mono c1.stays) hb⟩
  ·split at e <;> first | (cases e; done) | skip
   ·rename_i l len _
    obtain ⟨y, h1, hp1, r1, f1, e1, hh⟩ := xKh r e
    obtain ⟨bs, h2, hp2, r2, f2, e2, hh2⟩ := xFp hf r1 e1
    refine ⟨_, h2, hp2, r2, f1.trans f2, e2, fun E us hr ha => ?_⟩
    cases ha with
    | cons _ v _ vs hx hs =>
     obtain ⟨E1, c1, hr1, hy⟩ := hh E v hr hx
     obtain ⟨E2, c2, hr2, hb⟩ := hh2 E1 vs hr1 (hs.mono c1.le)
     exact ⟨E2, c1.trans c2, hr2, .cons _ _ _ _ (hy.mono c2.stays) hb⟩
   ·rename_i cs _
    obtain ⟨y, h1, hp1, r1, f1, e1, hh⟩ := hf r e
    obtain ⟨bs, h2, hp2, r2, f2, e2, hh2⟩ := xFp hf r1 e1
    refine ⟨_, h2, hp2, r2, f1.trans f2, e2, fun E us hr ha => ?_⟩
    cases ha with
    | cons _ v _ vs hx hs =>
     obtain ⟨us, hu, rfl⟩ := hx.aggE
     obtain ⟨E1, c1, hr1, hy⟩ := hh E us hr hu
     obtain ⟨E2, c2, hr2, hb⟩ := hh2 E1 vs hr1 (hs.mono c1.le)
     exact ⟨E2, c1.trans c2, hr2, .cons _ _ _ _ (.agg _ _ (hy.mono c2.stays)) hb⟩
theorem xJd {α : Type} {as : List SV} {h : HT} {hp : List Blk} {k : List SV -> HT -> Option α} {res : α} (r : HRel h hp) (e : clB as h k = some res) :
  ∃ bs h1 hp1, HRel h1 hp1 /\ Frm h h1 /\ k bs h1 = some res /\ ∀ E us, RHp E hp -> Rvs E as us -> ∃ E1, Closed E E1 /\ RHp E1 hp1 /\ Cvs E1.w E1.im bs us :=
 xFp (fun r e => xFp (fun _ e => by cases e) r e) r e
theorem xPd {α : Type} {h : HT} {hp : List Blk} (r : HRel h hp) {l len : Nat} {k : SV -> HT -> Option α} {res : α} (e : bslD h l len k = some res) :
  ∃ y h' hp', HRel h' hp' /\ Frm h h' /\ k y h' = some res /\ ∀ E v, RHp E hp -> Rv E (.bsl l len) v -> ∃ E', Closed E E' /\ RHp E' hp' /\ Cv E'.w E'.im y v := by
 unfold bslD at e
 split at e
 ·rename_i t cs hg
  split at e
  ·exact xKh r e
  ·obtain ⟨bs, h1, hp1, r1, f1, e1, hh⟩ := xJd r e
   split at e1 <;> first | (cases e1; done) | skip
   rename_i t' cs1 hg1
   split at e1 <;> first | (cases e1; done) | skip
   rename_i y hy
   rw [HT.set_eq] at e1
   have hlt := r1.lt (b := .box t' cs1) hg1 (by simp)
   rw [r.g] at hg
   rw [r1.g] at hg1
   refine ⟨y, _, _, r1.set (.fbox t' bs) hlt, f1.trans (.set r1.f _ hlt), e1, fun E v hr hv => ?_⟩
   obtain ⟨_, rfl⟩ := hv.bslE
   obtain ⟨vs, h2, h3⟩ := hr.b.blk l _ (xAa hg (by simp))
   obtain ⟨E1, c1, hr1, hb⟩ := hh E vs hr h2
   have hget1 := xAa hg1 (by simp)
   obtain ⟨us, g2, g3⟩ := hr1.b.blk l _ hget1
   have hw1 : E1.w.heap[E1.blk l]? = some (.cells vs.toArray t (0, 0)) := by rw [c1.w, c1.blk]; exact h3
   rw [hw1] at g3
   have ht : t' = t := by cases g3; rfl
   subst ht
   obtain ⟨E2, c2, hi, hr2⟩ := xAo hr1 (newb := .fbox t' bs) hget1 (by simp)
    (fun E' hc hi => ⟨by rw [hc.blk]; exact hi _ rfl, vs, (hb.mono hc.stays).rv, by rw [hc.w, hc.blk]; exact hw1⟩) (fun E' => rfl)
   refine ⟨E2, c1.trans c2, hr2, ?_⟩
   have hb' : E2.im (E.blk l) := by have := hi _ rfl; rwa [c1.blk] at this
   exact xDx (hb.mono c2.stays) hb' (by rw [c2.w, <- c1.blk]; exact hw1) hy
 ·exact xKh r e
theorem xTc {α : Type} {h : HT} {hp : List Blk} (r : HRel h hp) {x y : SV} {e sz bytes : Nat} {k : SV -> HT -> Option α} {res : α} (ev : appW h x y e sz bytes k = some res) :
  ∃ v h' hp', HRel h' hp' /\ Frm h h' /\ k v h' = some res /\ ∀ (E : Env) (t ty : TypeId) (i : TypeInfo) (z v1 v2 : Value), RHp E hp -> P.underlying t = some (.slice e) -> P.info? e = some i -> i.zero = some z -> z.cells.size = i.size -> sz = i.size -> bytes = i.bytes ->
   Rv E x v1 -> Rv E y v2 -> ∃ u E', (Builtin.append_ #[t, t] ty #[v1, v2]).run P E.w = .ok u E'.w /\ E.Le E' /\ RHp E' hp' /\ Rv E' v u := by
 unfold appW at ev
 split at ev <;> first | (cases ev; done) | skip
 rename_i l m
 obtain ⟨y1, h1, hp1, r1, f1, ev, hh⟩ := xPd r ev
 split at ev
 ·rename_i l1
  split at ev <;> first | (cases ev; done) | skip
  ·rename_i sz2 len2 g
   obtain ⟨x', h', hp', q1, q2, q3, q4⟩ := xIb r1 ev
   refine ⟨x', h', hp', q1, f1.trans q2, q4, ?_⟩
   intro E t ty i z v1 v2 hr ht hi hz hzs h1 h2 k1 k2
   subst h1
   subst h2
   obtain ⟨E1, c1, hr1, hv⟩ := hh E _ hr k2
   obtain ⟨x2, v', E', hp2, g1, g2, g3, g4, g5, g6⟩ := xHu (P := P) (ty := ty) hr1 ht hi hz hzs q3 (k1.mono c1.le) hv.rv
   subst g5; subst g6
   rw [c1.w] at g1
   exact ⟨v', E', g1, c1.le.trans g2, g3, g4⟩
  ·rename_i kk ys
   obtain ⟨x', h', hp', q1, q2, q3, q4⟩ := xFq r1 ev
   refine ⟨x', h', hp', q1, f1.trans q2, q4, ?_⟩
   intro E t ty i z v1 v2 hr ht hi hz hzs h1 h2 k1 k2
   subst h1
   subst h2
   obtain ⟨E1, c1, hr1, hv⟩ := hh E _ hr k2
   obtain ⟨x2, v', E', hp2, g1, g2, g3, g4, g5, g6⟩ := xFk (P := P) (ty := ty) hr1 ht hi hz hzs q3 (k1.mono c1.le) hv.rv
   subst g5; subst g6
   rw [c1.w] at g1
   exact ⟨v', E', g1, c1.le.trans g2, g3, g4⟩
 ·obtain ⟨x', h', hp', q1, q2, q3, q4⟩ := xPl (P := P) r1 ev
  refine ⟨x', h', hp', q1, f1.trans q2, q3, ?_⟩
  intro E t ty i z v1 v2 hr ht hi hz hzs h1 h2 k1 k2
  obtain ⟨E1, c1, hr1, hv⟩ := hh E _ hr k2
  obtain ⟨v', E', g1, g2, g3, g4⟩ := q4 E1 t ty i z v1 v2 hr1 ht hi hz hzs h1 h2 (k1.mono c1.le) hv.rv
  rw [c1.w] at g1
  exact ⟨v', E', g1, c1.le.trans g2, g3, g4⟩
theorem OpOk.slcD {α : Type} {sz : Nat} {x : X} {lo hi mx : Option X} {fr : List SV} {h : HT} {hp : List Blk} (r : HRel h hp) {K : SV -> HT -> Option α} {res : α} (ev : slcD fr h (x.get fr) lo hi mx sz K = some res) :
  ∃ v h' hp', HRel h' hp' /\ Frm h h' /\ K v h' = some res /\ ∀ o, c1 P o = some (.slc x lo hi mx sz) -> OpOk P o fr hp v hp' := by
 unfold Vg.slcD at ev
 split at ev <;> first | (cases ev; done) | skip
 rename_i l len hx
 split at ev <;> first | (cases ev; done) | skip
 rename_i lo1 hi1 mx1 e2 e3 e4
 obtain ⟨y, h', hp', r', hf, ev, hh⟩ := xPd r ev
 split at ev <;> first | (cases ev; done) | skip
 rename_i z hz
 refine ⟨z, h', hp', r', hf, ev, fun o hc => ?_⟩
 obtain ⟨t, e, i, xo, lo', hi', mx', ho, h1, h2, rfl, h3, h4, h5, h6⟩ := c1_slc hc
 intro E a ro n next Q hok hr hfr hn
 have k1 := X.ok hfr h3
 rw [hx] at k1
 obtain ⟨E', c1, hr', hv⟩ := hh E _ hr k1
 obtain ⟨p, g1, g2⟩ := xKf hz
 have hf' := hfr.mono c1.le
 obtain ⟨v', g3, g4⟩ := xOr (P := P) h1 h2 hv.rv g1 g2 (xCi hfr h4 e2) (xCi hfr h5 e3) (xCi hfr h6 e4)
 refine xAb (w := E'.w) (v := v') ?_ (hn E' v' c1.le hr' g4)
 rw [<- c1.w]
 simp [execOp, ho, g3]
theorem OpOk.call {cl : Cl} (hcl : ClOk P cl) {f : X} {args : List X} {fr : List SV} {h h' : HT} {hp : List Blk} (r : HRel h hp) {x : SV} (e : cl (f.get fr) (gets fr args) h = some (x, h')) :
  ∃ hp', HRel h' hp' /\ Frm h h' /\ ∀ o, c1 P o = some (.call f args) -> OpOk P o fr hp x hp' := by
 obtain ⟨hp', r', hf, hh⟩ := hcl _ _ _ _ _ e hp r
 refine ⟨hp', r', hf, fun o hc => ?_⟩
 obtain ⟨g, as, tys, ho, h1, h2⟩ := c1_call hc
 intro E a ro n next Q hok hr hfr hn
 refine xFh ho (hh E _ _ hok hr (X.ok hfr h1) (Xs.ok hfr h2)) ?_
 rintro v w' ⟨E', rfl, h3, h4, h5⟩
 exact hn E' v h3 h4 h5
theorem OpOk.inv {cl : Cl} (hcl : ClOk P cl) {mt : List (Nat × Nat)} {y : X} {args : List X} {fr : List SV} {h h' : HT} {hp : List Blk} (r : HRel h hp) {x z : SV} {t f : Nat}
  (hy : y.get fr = .ifc t z) (hm : lkm mt t = some f) (e : cl (.fn f []) (z :: gets fr args) h = some (x, h')) : ∃ hp', HRel h' hp' /\ Frm h h' /\ ∀ o, c1 P o = some (.inv mt y args) -> OpOk P o fr hp x hp' := by
 obtain ⟨hp', r', hf, hh⟩ := hcl _ _ _ _ _ e hp r
 refine ⟨hp', r', hf, fun o hc => ?_⟩
 obtain ⟨g, m, as, tys, ho, rfl, h1, h2⟩ := c1_inv hc
 intro E a ro n next Q hok hr hfr hn
 have k1 := X.ok hfr h1
 rw [hy] at k1
 obtain ⟨v, hv, k1⟩ := k1.ifcE
 refine xLw ho k1 hm (hh E _ _ hok hr (.fn f [] [] .nil) (.cons _ _ _ _ hv (Xs.ok hfr h2))) ?_
 rintro v w' ⟨E', rfl, h3, h4, h5⟩
 exact hn E' v h3 h4 h5
theorem xJe {E : Env} {hp : List Blk} (hr : RHp E hp) {cs : List SV} {vs : List Value} (hv : Rvs E cs vs) (t : TypeId) {len : Nat} {y : SV} (e : clR cs len = some y) :
  ∃ E', E'.w = E.w.alloc (.cells vs.toArray t) /\ E.Le E' /\ RHp E' hp /\ Rv E' y (.slice (some ⟨E.w.heap.size, 0, none⟩) len len) := by
 unfold clR at e
 split at e <;> first | (cases e; done) | skip
 rename_i hcl
 have h1 := xAj 8 hcl hv
 have hl : Later E.w (E.w.alloc (.cells vs.toArray t)) := ⟨fun b hb => heap_alloc_old _ _ hb, fun a => RowKit.frozen?_alloc_cells _ _ _ a, by rw [World.size_alloc]; omega, rfl, rfl, rfl⟩
 obtain ⟨n1, n2⟩ := xBe hr (im' := fun b => E.im b \/ b = E.w.heap.size) (fun b hb => .inl hb) (fun b hb => by rcases hb with h | h; exact .inl h; exact .inr (by omega))
  (fun b hb => by rw [World.size_alloc]; rcases hb with h | h; exact Nat.lt_succ_of_lt (hr.imlt h); omega) hl
 refine ⟨_, rfl, n1, n2, ?_⟩
 exact (xDx (h1.mono n1.stays) (.inr rfl) (heap_alloc_new E.w _) e).rv
theorem OpOk.bslV {e len : Nat} {z : List SV} {ps : List (Nat × Nat × X)} {fr : List SV} {hp : List Blk} {cs : List SV} {y : SV} (hcs : lay z (getp fr ps) = some cs) (hy : clR cs len = some y) {o : Oper} (hc : c1 P o = some (.bsl e len z ps)) :
  OpOk P o fr hp y hp := by
 unfold c1 at hc
 split at hc
 ·cases hc
 ·split at hc
  case h_5 t len' parts ho =>
   split at hc
   ·rename_i e' hs
    split at hc
    ·rename_i d z' hd hz
     split at hc
     ·rename_i hle
      obtain ⟨xs, hxs, h0⟩ := Option.map_eq_some_iff.1 hc
      cases h0
      unfold zrow at hz
      simp only [hd] at hz
      split at hz
      ·rename_i zv hzv
       cases hz
       intro E a ro n next Q hok hr hfr hn
       obtain ⟨cells', h1, h2⟩ := xGf (E := E) (cells := (Array.range (len * d.size)).map (zv.cells[· % zv.cells.size]!)) (xDu hfr hxs) (xBo E _) hcs
       obtain ⟨E', h3, h4, h5, h6⟩ := xJe hr h2 e hy
       refine xAb (w := E'.w) (v := .slice (some ⟨E.w.heap.size, 0, none⟩) len len) ?_ (hn E' _ h4 h5 h6)
       have hgt : ¬ 16777216 < len * d.size := by omega
       have h0 : ¬ (len * d.size = 0) := by omega
       simp only [execOp, ho, Instr.buildSlice, Sem.run_bind, run_underlying hs, Result.andThen_ok, sizeOf, typeInfo, run_program, hd, Sem.run_pure]
       rw [if_neg (by simpa using hgt), if_neg h0]
       have h1' : Instr.fill (fun i => some (i * d.size, d.size)) ((Array.range (len * d.size)).map (zv.cells[· % zv.cells.size]!)) (parts.map fun (i, x) => (i, a.eval x)).toList = some cells' := by
        simpa using h1
       simp only [zeroValue, typeInfo, Sem.run_bind, run_program, Result.andThen_ok, hd, Sem.run_pure, hzv, h1', newRow, run_newObj, h3]
       simp
      ·cases hz
     ·cases hc
    ·cases hc
   ·cases hc
  all_goals (repeat' split at hc) <;> first | (cases hc; done) | (obtain ⟨_, _, h0⟩ := Option.map_eq_some_iff.1 hc; cases h0; done)
theorem OpOk.mslV {e sz : Nat} {z : List SV} {x y : X} {fr : List SV} {hp : List Blk} {r : SV} {o : Oper} (hc : c2 P o = some (.msl e sz z x y)) {cq : Cq} {g : Nat -> Blk} (ev : evV cq fr g (.msl e sz z x y) = some r) : OpOk P o fr hp r hp := by
 simp only [evV] at ev
 split at ev <;> first | (cases ev; done) | skip
 rename_i ka a kc c hx hy
 split at ev <;> first | (cases ev; done) | skip
 rename_i hcc
 simp only [Bool.and_eq_true, decide_eq_true_eq] at hcc
 obtain ⟨rfl, h0, h1, h2⟩ := hcc
 have hc := c2_m hc (by intro _ h; cases h)
 unfold c2m at hc
 split at hc <;> first | (repeat' split at hc) <;> first | (cases hc; done) | skip
 rename_i t lo co ho _ e' ht _ _ _ i l' c' hi h3 h4 _ zv hz hcond
 cases hc
 obtain ⟨g1, g2, g3⟩ := hcond
 intro E a' ro n next Q hok hr hfr hn
 have k1 := X.ok hfr h3
 have k2 := X.ok hfr h4
 rw [hx] at k1
 rw [hy] at k2
 have k1 := k1.intE
 have k2 := k2.intE
 obtain ⟨E', p1, p2, p3, p4⟩ := xJe hr (xOn (xBo E zv.cells.toList) g1 g2 a.toNat) e ev
 have hb : (i.bytes : Int) * a <= 281474976710656 := by
  have : (i.bytes : Int) * a <= 1073741824 * 65536 := Int.mul_le_mul (by omega) h1 h0 (by omega)
  omega
 have hrun := run_makeSlice (P := P) E.w t e i zv ht hi hz ka kc a a h0 (Int.le_refl _) h2 hb (by omega)
 refine xAb (w := E'.w) (v := .slice (some ⟨E.w.heap.size, 0, none⟩) a.toNat a.toNat) ?_ (hn E' _ p2 p3 p4)
 simp only [execOp, ho, k1, k2, Sem.run_bind, hrun, Result.andThen_ok, Sem.run_pure, p1]
theorem OpOk.bs0 {sz : Nat} {fr : List SV} {hp : List Blk} {o : Oper} (hc : c2 P o = some (.bs0 sz)) : OpOk P o fr hp (.clipr sz 0 fun _ => []) hp := by
 have hc := c2_m hc (by intro _ h; cases h)
 unfold c2m at hc
 split at hc <;> first | (repeat' split at hc) <;> first | (cases hc; done) | skip
 rename_i t len parts ho _ e hs _ i hi hcond
 cases hc
 obtain ⟨rfl, hsz⟩ := hcond
 intro E a ro n next Q hok hr hfr hn
 have hparts : parts = #[] := Array.size_eq_zero_iff.1 hsz
 subst hparts
 have hl : Later E.w (E.w.alloc (.cells #[] e)) := ⟨fun b hb => heap_alloc_old _ _ hb, fun a => RowKit.frozen?_alloc_cells _ _ _ a, by rw [World.size_alloc]; omega, rfl, rfl, rfl⟩
 obtain ⟨n1, n2⟩ := xBe hr (im' := fun b => E.im b \/ b = E.w.heap.size) (fun b hb => .inl hb) (fun b hb => by rcases hb with h | h; exact .inl h; exact .inr (by omega))
  (fun b hb => by rw [World.size_alloc]; rcases hb with h | h; exact Nat.lt_succ_of_lt (hr.imlt h); omega) hl
 refine xAb (w := E.w.alloc (.cells #[] e)) (v := .slice (some ⟨E.w.heap.size, 0, none⟩) 0 0) ?_ (hn _ _ n1 n2 ?_)
 ·have h1' : Instr.fill (fun i_1 => some (i_1 * i.size, i.size)) ((Array.range (0 * i.size)).map ((#[] : Array Value)[· % (#[] : Array Value).size]!)) (#[].map fun (i, x) => (i, a.eval x) : Array (Nat × Value)).toList = some #[] := by
   simp [Instr.fill]
  simp only [execOp, ho, Instr.buildSlice, Sem.run_bind, run_underlying hs, Result.andThen_ok, sizeOf, typeInfo, run_program, hi, Sem.run_pure]
  rw [if_neg (by simp), if_pos (by simp)]
  simp only [Sem.run_pure, Result.andThen_ok, h1', newRow, Sem.run_bind, run_newObj]
  simp
 ·exact (Cv.clipr _ 0 _ E.w.heap.size 0 (fun _ => []) (.inr rfl) (fun i hi => by omega) (fun i hi => by omega) (fun i j v hi => by omega)).rv
theorem xEc {w : World} {a : Act} {o : Oper} {op : BinOp} {t yt k e : TypeId} {x z : Operand} {b : Nat} {ng : Bool} (hng : op = bif ng then .neq else .eql) (ho : o.op = .binOp op t x z yt) (k1 : a.eval x = .map (some b)) (k2 : a.eval z = .map none)
  (h : P.underlying t = some (.map k e)) : (execOp a.eval o).run P w = .ok (.value (.bool ng)) w := by
 have h0 : ∀ d, (Op.equalIn (d + 1) t (.map (some b)) (.map none)).run P w = .ok false w := fun d => by simp [Op.equalIn, run_underlying h]
 have h2 : (Op.equal t (.map (some b)) (.map none)).run P w = .ok false w := h0 9999
 cases ng <;> (subst hng; simp [execOp, ho, k1, k2, eqGuard, binOp, h2])
theorem xIa {w : World} {t xT k e : TypeId} {v : Value} (h : P.underlying t = some (.map k e)) : (Instr.typeAssert (.iface t v) xT t false).run P w = .ok v w := by
 simp [Instr.typeAssert, run_underlying h, go_sem, Result.andThen]
theorem mapV {E : Env} {y : SV} {u : Value} (h : Rv E y u) (hy : (∃ l, y = .lb .mp l) \/ ∃ ks vs, y = .cm ks vs) : ∃ b, u = .map (some b) := by
 rcases hy with ⟨l, rfl⟩ | ⟨ks, vs, rfl⟩
 ·exact ⟨_, (lbE' h).2⟩
 ·obtain ⟨_, b, _, _, _, _, _, h⟩ := h.cmE; exact ⟨b, h⟩
theorem OpOk.e1V {e : E1} {x : X} {fr : List SV} {hp : List Blk} {y : SV} (ev : e1V e (x.get fr) = some y) {o : Oper} (hc : c2 P o = some (.e1 e x)) : OpOk P o fr hp y hp := by
 rcases c2_e1 hc with ⟨_, rfl⟩ | h1 | rfl
 ·simp [Vg.e1V] at ev
 ·unfold c2e at h1
  intro E a ro n next Q hok hr hfr hn
  split at h1
  ·split at h1 <;> first | (cases h1; done) | skip
   rename_i t xo yt _ _ _ k e' x' hu hx ho
   cases h1
   have k1 := X.ok hfr hx
   simp only [Vg.e1V] at ev
   obtain ⟨b, hb⟩ : ∃ b, a.eval xo = .map (some b) := mapV k1 (by split at ev <;> first | (cases ev; done) | exact .inl ⟨_, ‹_›⟩ | exact .inr ⟨_, _, ‹_›⟩)
   have hy : y = nb false false := by split at ev <;> first | (cases ev; done) | (cases ev; rfl)
   subst hy
   exact xAb (w := E.w) (v := .bool false) (xEc (ng := false) rfl ho hb rfl hu) (hn E _ (.refl E) hr (.lit _))
  ·split at h1 <;> first | (cases h1; done) | skip
   rename_i t xo yt _ _ _ k e' x' hu hx ho
   cases h1
   have k1 := X.ok hfr hx
   simp only [Vg.e1V] at ev
   obtain ⟨b, hb⟩ : ∃ b, a.eval xo = .map (some b) := mapV k1 (by split at ev <;> first | (cases ev; done) | exact .inl ⟨_, ‹_›⟩ | exact .inr ⟨_, _, ‹_›⟩)
   have hy : y = nb true false := by split at ev <;> first | (cases ev; done) | (cases ev; rfl)
   subst hy
   exact xAb (w := E.w) (v := .bool true) (xEc (ng := true) rfl ho hb rfl hu) (hn E _ (.refl E) hr (.lit _))
  ·split at h1 <;> first | (cases h1; done) | skip
   rename_i xo xt t ho _ _ k e' x' hu hx
   cases h1
   have k1 := X.ok hfr hx
   simp only [Vg.e1V] at ev
   split at ev <;> first | (cases ev; done) | skip
   rename_i t' y' hxy
   split at ev <;> first | (cases ev; done) | skip
   rename_i ht
   cases ev
   have ht := Nat.eq_of_beq_eq_true ht
   subst ht
   rw [hxy] at k1
   obtain ⟨v, hv, k1⟩ := k1.ifcE
   refine xAb (w := E.w) (v := v) ?_ (hn E _ (.refl E) hr hv)
   simp only [execOp, ho, k1, Sem.run_bind, xIa hu, Result.andThen_ok, Sem.run_pure]
  ·split at h1 <;> first | (cases h1; done) | skip
   split at h1 <;> first | (cases h1; done) | skip
   rename_i args tys ho _ _ xo t ha ht _ _ k e' x' hu hx
   cases h1
   have k1 := X.ok hfr hx
   simp only [Vg.e1V] at ev
   split at ev <;> first | (cases ev; done) | skip
   rename_i ks vs hxy
   cases ev
   rw [hxy] at k1
   obtain ⟨xs, b, g1, _, _, ⟨_, k1l⟩, g5, k1⟩ := k1.cmE
   have ha' : args = #[xo] := by apply Array.ext'; simpa using ha
   have ht' : tys = #[t] := by apply Array.ext'; simpa using ht
   subst ha'; subst ht'
   have hl : ll ks = xs.length := by
    have := congrArg List.length (xOk (a := ks) (b := vs) (k1l)).1
    have g := g1.length
    simp only [List.length_map] at g this
    rw [xFd, <- this, g]
   refine xAb (w := E.w) (v := .int .i64 (ll ks)) ?_ (hn E _ (.refl E) hr (.int _ _))
   rw [hl]
   simp [execOp, ho, resolve, invoke, builtin, k1, Builtin.len_, run_underlying hu, MapKept.run_getObj_map g5, goInt, Result.andThen]
  ·split at h1 <;> first | (cases h1; done) | skip
   split at h1 <;> first | (cases h1; done) | skip
   rename_i args tys ho _ _ xo t ha ht _ _ e' x' hu hx
   cases h1
   have k1 := X.ok hfr hx
   simp only [Vg.e1V] at ev
   split at ev <;> first | (cases ev; done) | skip
   rename_i hxy
   cases ev
   rw [hxy] at k1
   have k1 := k1.litE
   have ha' : args = #[xo] := by apply Array.ext'; simpa using ha
   have ht' : tys = #[t] := by apply Array.ext'; simpa using ht
   subst ha'; subst ht'
   refine xAb (w := E.w) (v := .int .i64 0) ?_ (hn E _ (.refl E) hr (.int _ _))
   simp [execOp, ho, resolve, invoke, builtin, k1, Builtin.cap_, run_underlying hu, goInt, Result.andThen]
  ·split at h1 <;> first | (cases h1; done) | skip
   split at h1 <;> first | (cases h1; done) | skip
   cases h1
   simp [Vg.e1V] at ev
  ·cases h1
 ·simp [Vg.e1V] at ev
theorem xTd {w : World} {im : Nat -> Prop} {cs : List SV} {vs : List Value} {b off n sz : Nat} {y : SV} (hv : Cvs w im cs vs) (hb : im b) (hc : ∀ j v, vs[j]? = some v -> w.cell? ⟨b, j, none⟩ = some v) (e : slaR cs off n sz = some y) :
  Cv w im y (.slice (some ⟨b, off, none⟩) n n) := by
 unfold slaR at e
 split at e <;> first | (cases e; done) | skip
 split at e <;> first | (cases e; done) | skip
 rename_i seg hseg
 have h1 := hv.dr off
 have h2 : n * sz <= (vs.drop off).length := by
  have := (h1.rv (E := { w := w, im := im, n := 0, rs := fun _ => False, blk := fun _ => 0, val := fun _ => undef, live := fun _ => False, W := w, M := fun _ => False, im0 := im, df := [], ok := fun _ _ => False })).tk _ hseg
  exact this.1
 obtain ⟨ys, h3, h4⟩ := h1.tk _ h2
 rw [hseg] at h3; cases h3
 have hlen : seg.length = n * sz := by rw [h4.length, List.length_take]; omega
 have hcell : ∀ j v, ((vs.drop off).take (n * sz))[j]? = some v -> w.cell? ⟨b, off + j, none⟩ = some v := fun j v hj => by
  rw [List.getElem?_take] at hj
  split at hj
  ·exact hc _ v (by simpa using hj)
  ·cases hj
 have rowr : rowR seg n = some y -> Cv w im y (.slice (some ⟨b, off, none⟩) n n) := by
  intro e
  unfold rowR at e
  split at e <;> first | (cases e; done) | skip
  rename_i hl
  cases e
  have hl := xAc hl
  rw [xFd] at hl
  have hl : n * (ll seg / n) = seg.length := by rw [xFd]; exact hl
  generalize ll seg / n = q at hl
  have hlt : ∀ i, i < n -> i * q + q <= ((vs.drop off).take (n * sz)).length := fun i hi => by
   rw [<- h4.length, <- hl]; have := Nat.mul_le_mul_right q hi; rw [Nat.succ_mul] at this; exact this
  refine .rd q n _ b off n (fun i => (((vs.drop off).take (n * sz)).drop (i * q)).take q) hb (fun i hi => ?_) (fun i hi => ?_) (fun i j v hi hv => ?_) (Nat.le_refl _)
  ·have := hlt i hi
   obtain ⟨ys, g1, g2⟩ := (h4.dr (i * q)).tk q (by rw [List.length_drop]; omega)
   simp only [rowOf, g1]; exact g2
  ·have := hlt i hi
   rw [List.length_take, List.length_drop]; omega
  ·rw [List.getElem?_take] at hv
   split at hv
   ·exact hcell _ v (by simpa using hv)
   ·cases hv
 unfold rowB at e
 split at e
 ·rename_i hl
  split at e
  ·rename_i k xs hxs
   cases e
   have e1 := xCn h4 hxs
   have hl := xAc hl
   rw [xFd] at hl
   have hxl : xs.length = n := by
    have := congrArg List.length e1
    rw [<- h4.length, hl] at this
    simpa using this.symm
   have := Cv.ints (w := w) (im := im) k xs b off n hb (fun j x hx => hcell j _ (by rw [e1]; simp [hx])) (Nat.le_of_eq hxl)
   rw [hxl] at this; exact this
  ·exact rowr e
 ·exact rowr e
theorem OpOk.sla {n sz : Nat} {x : X} {fr : List SV} {hp : List Blk} {l off : Nat} (hxy : x.get fr = .ptr l off) : ∀ (t : TypeId) (cs : List SV) (y : SV), slaR cs off n sz = some y -> ∀ (hp' : List Blk), (∀ E, RHp E hp -> E.has l -> ∃ E' vs, Closed E E' /\ RHp E' hp' /\ Cvs E'.w E'.im cs vs /\ E'.im (E.blk l) /\ E'.w.heap[E.blk l]? = some (.cells vs.toArray t (0, 0))) ->
        ∀ o, c2 P o = some (.e1 (.sla n sz) x) -> OpOk P o fr hp y hp' := by
      intro t cs y hy hp' hE o hc
      rcases c2_e1 hc with ⟨_, h1⟩ | h1 | h1 <;> first | (cases h1; done) | skip
      intro E a ro m next Q hok hr hfr hn
      obtain ⟨st, xo, e, d, ho, hu1, hx, hd, hsz⟩ : ∃ st xo e d, o.op = .slice st xo none none none /\ P.underlying st = some (.array n e) /\ cX xo = some x /\ P.info? e = some d /\ sz = d.size := by
        unfold c2e at h1
        split at h1
        case h_6 st xo ho =>
          split at h1 <;> first | (cases h1; done) | skip
          rename_i _ _ n' e x' hu1 hx
          split at h1 <;> first | (cases h1; done) | skip
          rename_i d hd
          cases h1
          exact ⟨st, xo, e, d, ho, hu1, hx, hd, rfl⟩
        all_goals ((repeat' split at h1) <;> cases h1)
      subst hsz
      have k1 := X.ok hfr hx
      rw [hxy] at k1
      obtain ⟨hl, k1⟩ := k1.ptrE
      obtain ⟨E', vs, c1, hr', hv, hb, hw⟩ := hE E hr hl
      refine xAb (w := E'.w) (v := .slice (some ⟨E.blk l, off, none⟩) n n) ?_ (hn E' _ c1.le hr' (xTd hv hb (by intro j v hj; exact xAf hw j v hj) hy).rv)
      rw [c1.w]
      have ha0 : (⟨E.blk l, off, none⟩ : Addr).add 0 = ⟨E.blk l, off, none⟩ := by simp [Addr.add]
      simp [execOp, ho, k1, Instr.sliceAt, Instr.sureAddr, run_underlying hu1, Instr.sliceBounds, asAddr, sizeOf, typeInfo, hd, ha0]
theorem OpOk.slaW {n sz : Nat} {x : X} {fr : List SV} {hp : List Blk} {l off : Nat} {y : SV} (hxy : x.get fr = .ptr l off) (hy : ∀ E, E.has l -> Rv E y (.slice (some ⟨E.blk l, off, none⟩) n n)) : ∀ o, c2 P o = some (.e1 (.sla n sz) x) -> OpOk P o fr hp y hp := by
   intro o hc
   rcases c2_e1 hc with ⟨_, h1⟩ | h1 | h1 <;> first | (cases h1; done) | skip
   intro E a ro m next Q hok hr hfr hn
   obtain ⟨st, xo, e, d, ho, hu1, hx, hd, hsz⟩ : ∃ st xo e d, o.op = .slice st xo none none none /\ P.underlying st = some (.array n e) /\ cX xo = some x /\ P.info? e = some d /\ sz = d.size := by
    unfold c2e at h1
    split at h1
    case h_6 st xo ho =>
     split at h1 <;> first | (cases h1; done) | skip
     rename_i _ _ n' e x' hu1 hx
     split at h1 <;> first | (cases h1; done) | skip
     rename_i d hd
     cases h1
     exact ⟨st, xo, e, d, ho, hu1, hx, hd, rfl⟩
    all_goals ((repeat' split at h1) <;> cases h1)
   subst hsz
   have k1 := X.ok hfr hx
   rw [hxy] at k1
   obtain ⟨hl, k1⟩ := k1.ptrE
   refine xAb (w := E.w) (v := .slice (some ⟨E.blk l, off, none⟩) n n) ?_ (hn E _ (.refl E) hr (hy E hl))
   have ha0 : (⟨E.blk l, off, none⟩ : Addr).add 0 = ⟨E.blk l, off, none⟩ := by simp [Addr.add]
   simp [execOp, ho, k1, Instr.sliceAt, Instr.sureAddr, run_underlying hu1, Instr.sliceBounds, asAddr, sizeOf, typeInfo, hd, ha0]
theorem OpOk.slaF {n sz : Nat} {x : X} {fr : List SV} {hp : List Blk} {l off : Nat} {t : TypeId} {cs : List SV} {y : SV} (hxy : x.get fr = .ptr l off) (hg : gb hp l = .fbox t cs) (hy : slaR cs off n sz = some y) {o : Oper} (hc : c2 P o = some (.e1 (.sla n sz) x)) : OpOk P o fr hp y hp := by
 refine OpOk.sla hxy t cs y hy hp (fun E hr _ => ?_) o hc
 have hcl : clo.clos 8 cs = true := by unfold slaR at hy; split at hy <;> first | assumption | cases hy
 obtain ⟨h0, vs, h2, h3⟩ := hr.b.blk l _ (xAa hg (by simp))
 exact ⟨E, vs, .refl E, hr, xAj 8 hcl h2, h0, h3⟩
theorem OpOk.e1M {α : Type} {e : E1} {x : X} {fr : List SV} {h : HT} {hp : List Blk} (r : HRel h hp) {K : SV -> HT -> Option α} {res : α} (ev : e1M h e (x.get fr) K = some res) :
  ∃ y h' hp', HRel h' hp' /\ Frm h h' /\ K y h' = some res /\ ∀ o, c2 P o = some (.e1 e x) -> OpOk P o fr hp y hp' := by
 unfold Vg.e1M at ev
 split at ev <;> first | (cases ev; done) | skip
 ·split at ev <;> first | (cases ev; done) | skip
  rename_i l hxy
  rw [r.g] at ev
  split at ev <;> first | (cases ev; done) | skip
  rename_i es hg
  refine ⟨_, h, hp, r, .refl _, ev, fun o hc => ?_⟩
  rcases c2_e1 hc with ⟨_, h1⟩ | h1 | h1 <;> first | (cases h1; done) | skip
  unfold c2e at h1
  intro E a ro n next Q hok hr hfr hn
  split at h1 <;> first | (split at h1 <;> cases h1; done) | skip
  ·split at h1 <;> first | (cases h1; done) | skip
   split at h1 <;> first | (cases h1; done) | skip
   rename_i args tys ho _ _ xo t ha ht _ _ k e' x' hu hx
   cases h1
   have k1 := X.ok hfr hx
   rw [hxy] at k1
   obtain ⟨_, k1⟩ := lbE' k1
   obtain ⟨xs, g1, _, _, g4⟩ := hr.b.blk l _ (xAa hg (by simp))
   have hl : es.length = xs.length := by simpa using g1.length
   have ha' : args = #[xo] := by apply Array.ext'; simpa using ha
   have ht' : tys = #[t] := by apply Array.ext'; simpa using ht
   subst ha'; subst ht'
   refine xAb (w := E.w) (v := .int .i64 (es.length)) ?_ (hn E _ (.refl E) hr (.int _ _))
   rw [hl]
   simp [execOp, ho, resolve, invoke, builtin, k1, LK.val, Builtin.len_, run_underlying hu, MapKept.run_getObj_map g4, goInt, Result.andThen]
  ·split at h1 <;> first | (cases h1; done) | skip
   split at h1 <;> cases h1
  ·split at h1 <;> first | (cases h1; done) | skip
   split at h1 <;> cases h1
  ·cases h1
 ·split at ev <;> first | (cases ev; done) | skip
  rename_i t y hxy
  have main : ∀ es : List (SV × SV), (∀ (E : Env) (u : Value), RHp E hp -> Rv E y u -> ∃ (xs : List MapEntry) (b : Nat), Rvs E (es.map (·.1)) (xs.map (·.key)) /\ Rvs E (es.map (·.2)) (xs.map (·.val)) /\ (∀ (i : Nat) e, xs[i]? = some e -> e.born = i) /\
    E.w.heap[b]? = some (.map xs.toArray xs.length) /\ u = .map (some b)) -> (h.push (.ob (.mp es)) fun h' => K (.ifc t (.lb .mp h.n)) h') = some res ->
    ∃ y h' hp', HRel h' hp' /\ Frm h h' /\ K y h' = some res /\ ∀ o, c2 P o = some (.e1 .cln x) -> OpOk P o fr hp y hp' := by
   intro es hes ev
   rw [HT.push_eq] at ev
   refine ⟨_, _, _, r.push _, .push r.f _, ev, fun o hc => ?_⟩
   rcases c2_e1 hc with ⟨h1, _⟩ | h1 | h1 <;> first | (cases h1; done) | skip
   ·unfold clnOf at h1
    split at h1 <;> first | (cases h1; done) | skip
    rename_i f args tys ho
    split at h1 <;> first | (cases h1; done) | skip
    rename_i xo fn ha hfn
    split at h1 <;> first | (cases h1; done) | skip
    rename_i hcond
    simp only [Bool.and_eq_true, decide_eq_true_eq] at hcond
    obtain ⟨c1, c2, c3⟩ := hcond
    intro E a ro n next Q hok hr hfr hn
    have k1 := X.ok hfr h1
    rw [hxy] at k1
    obtain ⟨u, hu, k1⟩ := k1.ifcE
    obtain ⟨xs, b, g1, g2, g3, g4, rfl⟩ := hes E u hr hu
    have hlen := hr.b.n
    have hnew : ∀ g v, (E.push (E.w.alloc (.map xs.toArray xs.length)) g v).w = E.w.alloc (.map xs.toArray xs.length) := fun _ _ => rfl
    have hle : E.Le (E.push (E.w.alloc (.map xs.toArray xs.length)) E.w.heap.size undef) := Env.push_le fun b hb => heap_alloc_old _ _ (hr.imlt hb)
    obtain ⟨p1, p2⟩ := xDg hr (obj := .map xs.toArray xs.length) rfl (o := .mp es) ⟨xs, g1.mono hle, g2.mono hle, g3, by
     have h0 := World.alloc_heap_new E.w (.map xs.toArray xs.length)
     have h1 : (E.push (E.w.alloc (.map xs.toArray xs.length)) E.w.heap.size undef).blk E.n = E.w.heap.size := by simp [Env.push]
     rw [h1]; exact h0⟩
    have hln : h.n = E.n := by rw [r.n, xBn]; exact hr.b.n.symm
    have ha' : args = #[xo] := by apply Array.ext'; simpa using ha
    subst ha'
    have hrun : (Extern.MapsClone.clone #[.iface t (.map (some b))]).run P E.w = .ok (.iface t (.map (some E.w.heap.size))) (E.w.alloc (.map xs.toArray xs.length)) := by
     show (getObj b >>= fun o => _).run P E.w = _
     simp [MapKept.run_getObj_map g4, Result.andThen, go_sem]
    refine xAb (w := (E.push (E.w.alloc (.map xs.toArray xs.length)) E.w.heap.size undef).w) (v := .iface t (.map (some E.w.heap.size))) ?_ (hn _ _ p2 p1 ?_)
    ·have hcall := run_callFunc_extern hfn (by rw [c1]; rfl) c3 (xMm c1 c2) (xMl c1) #[.iface t (.map (some b))] E.w
     rw [hrun] at hcall
     simp only [Result.andThen_ok] at hcall
     have h1 : a.eval (.func f) = .func (.func f) #[] #[] := rfl
     simp only [execOp, ho, resolve, h1, Deferred.ofValue, invoke, Sem.run_bind, Sem.run_pure, Result.andThen_ok, List.map_toArray, List.map_cons, List.map_nil, k1]
     simp [hcall, Env.push, Result.andThen, k1]
    ·rw [hln]
     have := Rv.lb (E := E.push (E.w.alloc (.map xs.toArray xs.length)) E.w.heap.size undef) .mp E.n Env.push_has
     exact .ifc _ _ _ (by simpa [LK.val, Env.push] using this)
   ·unfold c2e at h1
    repeat' split at h1
    all_goals cases h1
  split at ev <;> first | (cases ev; done) | skip
  ·rename_i l
   rw [r.g] at ev
   split at ev <;> first | (cases ev; done) | skip
   rename_i es hg
   refine main es (fun E u hr hu => ?_) ev
   obtain ⟨_, hu⟩ := lbE' hu
   obtain ⟨xs, g1, g2, g3, g4⟩ := hr.b.blk l _ (xAa hg (by simp))
   exact ⟨xs, _, g1, g2, g3, g4, hu⟩
  ·rename_i ks vs
   refine main _ (fun E u hr hu => ?_) ev
   obtain ⟨xs, b, g1, g2, g3, _, g4, hu⟩ := hu.cmE
   exact ⟨xs, b, g1, g2, g3, g4, hu⟩
 ·rename_i n sz
  split at ev <;> first | (cases ev; done) | skip
  rename_i l off hxy
  rw [r.g] at ev
  have step := OpOk.sla (P := P) (n := n) (sz := sz) (hp := hp) hxy
  split at ev <;> first | (cases ev; done) | skip
  ·rename_i t cs hg
   split at ev
   ·rename_i hw
    obtain rfl : off = 0 := by unfold whole at hw; split at hw <;> first | rfl | cases hw
    exact ⟨_, h, hp, r, .refl _, ev, OpOk.slaW hxy fun E hl => .bsl l n hl⟩
   split at ev
   rotate_left
   ·exact ⟨_, h, hp, r, .refl _, ev, OpOk.slaW hxy fun E hl => .bso l off n n hl⟩
   rename_i y hy
   rw [HT.set_eq] at ev
   have hl := r.lt (b := .box t cs) (by rw [r.g]; exact hg) (by simp)
   refine ⟨y, _, _, r.set (.fbox t cs) hl, .set r.f _ hl, ev, step t cs y hy _ fun E hr _ => ?_⟩
   have h1 := xAa hg (by simp)
   obtain ⟨vs, h2, h3⟩ := hr.b.blk l _ h1
   have hcl : clo.clos 8 cs = true := by unfold slaR at hy; split at hy <;> first | assumption | cases hy
   have v1 := xAj 8 hcl h2
   obtain ⟨E2, c2, hi, hr2⟩ := xAo hr (newb := .fbox t cs) h1 (by simp)
    (fun E' hc hi => ⟨by rw [hc.blk]; exact hi _ rfl, vs, (v1.mono hc.stays).rv, by rw [hc.w, hc.blk]; exact h3⟩) (fun E' => rfl)
   exact ⟨E2, vs, c2, hr2, v1.mono c2.stays, hi _ rfl, by rw [c2.w]; exact h3⟩
  ·rename_i t cs hg
   split at ev <;> first | (cases ev; done) | skip
   rename_i y hy
   refine ⟨y, _, _, r, .refl _, ev, step t cs y hy _ fun E hr _ => ?_⟩
   have hcl : clo.clos 8 cs = true := by unfold slaR at hy; split at hy <;> first | assumption | cases hy
   obtain ⟨h0, vs, h2, h3⟩ := hr.b.blk l _ (xAa hg (by simp))
   exact ⟨E, vs, .refl E, hr, xAj 8 hcl h2, h0, h3⟩
theorem OpOk.mkmV {fr : List SV} {hp : List Blk} {o : Oper} (hc : c2 P o = some .mkm) : OpOk P o fr hp (.cm [] []) hp := by
 have hc := c2_m hc (by intro _ h; cases h)
 unfold c2m at hc
 split at hc <;> first | (repeat' split at hc) <;> first | (cases hc; done) | skip
 rename_i t ho
 intro E a ro n next Q hok hr hfr hn
 have hl : Later E.w (E.w.alloc (.map #[] 0)) := ⟨fun b hb => heap_alloc_old _ _ hb, xDz rfl, by rw [World.size_alloc]; omega, rfl, rfl, rfl⟩
 obtain ⟨n1, n2⟩ := xBe hr (im' := fun b => E.im b \/ b = E.w.heap.size) (fun b hb => .inl hb) (fun b hb => by rcases hb with h | h; exact .inl h; exact .inr (by omega))
  (fun b hb => by rw [World.size_alloc]; rcases hb with h | h; exact Nat.lt_succ_of_lt (hr.imlt h); omega) hl
 refine xAb (w := E.w.alloc (.map #[] 0)) (v := .map (some E.w.heap.size)) ?_ (hn _ _ n1 n2 ?_)
 ·simp [execOp, ho, Instr.makeMap]
 ·exact .cm _ _ _ (.cm [] [] [] [] [] E.w.heap.size .nil .nil rfl rfl (by simp) (.inr rfl) (World.alloc_heap_new E.w (.map #[] 0)))
theorem c2_nosc {o : Oper} {o2 : Op2} (h : c2 P o = some o2) : isSC o2 = false := by
 unfold c2 at h
 split at h
 ·cases h; rfl
 ·split at h
  ·cases h; rfl
  ·split at h
   ·rename_i h1
    cases h
    unfold c2m at h1
    split at h1 <;> first | (cases h1; done) | skip
    all_goals ((repeat' split at h1) <;> first | (cases h1; done) | (cases h1; rfl))
   ·split at h
    ·rename_i h1
     cases h
     obtain ⟨_, _, rfl⟩ := c2e_e1 h1; rfl
    ·rw [xHz h]; rfl
theorem C2.sc {o : Oper} {o2 : Op2} (h : C2 P o o2) (hs : isSC o2 = true) : c2c P o = some o2 := by
 rcases h with h | ⟨_, h⟩
 ·rw [c2_nosc h] at hs; cases hs
 ·exact h
theorem OpOk.slb {x : X} {lo hi : Option X} {sz : Nat} {fr : List SV} {hp : List Blk} {lo' hi' : Option Int} {y : SV} (e1 : bnd fr lo = some lo') (e2 : bnd fr hi = some hi') (e : slbV (x.get fr) lo' hi' sz = some y) {o : Oper} (hc : C2 P o (.slb x lo hi sz)) : OpOk P o fr hp y hp := by
 have hc := hc.sc rfl
 unfold c2c at hc
 split at hc <;> first | (cases hc; done) | skip
 ·rename_i t xo loo hio ho
  split at hc <;> first | (cases hc; done) | skip
  rename_i el hu
  split at hc <;> first | (cases hc; done) | skip
  rename_i d x' lo2 hi2 hd hx hlo hhi
  cases hc
  intro E a ro n next Q hok hr hfr hn
  have k1 := X.ok hfr hx
  have b1 := xCi hfr hlo e1
  have b2 := xCi hfr hhi e2
  unfold slbV at e
  split at e <;> first | (cases e; done) | skip
  rename_i l len hxl
  split at e <;> first | (cases e; done) | skip
  rename_i hcond
  cases e
  simp only [Bool.and_eq_true, Bool.or_eq_true, decide_eq_true_eq] at hcond
  obtain ⟨h1, h2, h3, h4⟩ := hcond
  rw [hxl] at k1
  obtain ⟨hl, k1⟩ := k1.bslE
  have hr1 := xDe (P := P) hu hd E.w (some ⟨E.blk l, 0, none⟩) len len lo' hi' none (loo.map a.eval) (hio.map a.eval) none b1 b2 (xCi hfr (o := none) rfl (l := none) rfl) h1 h2 (by simpa [xAg] using h3) (by simp [xAg]) (.inl rfl)
  refine xAb (w := E.w) (v := .slice (some ⟨E.blk l, (od 0 lo').toNat * d.size, none⟩) (od len hi' - od 0 lo').toNat (len - (od 0 lo').toNat)) ?_ (hn E _ (.refl E) hr (.bso _ _ _ _ hl))
  have hadd : ∀ j, (⟨E.blk l, 0, none⟩ : Addr).add j = ⟨E.blk l, 0 + j, none⟩ := fun j => by unfold Addr.add; split <;> simp_all
  simp only [execOp, ho, k1, Option.map_none, Sem.run_bind, hr1, Result.andThen_ok, Sem.run_pure]
  congr 2
  simp only [xAg]
  have e3 : ((len : Int)).toNat = len := by simp
  by_cases h5 : len = (od 0 lo').toNat
  ·have h6 : (od 0 lo').toNat = 0 := by omega
   simp [h6]
   omega
  ·simp [hadd]
   omega
 ·split at hc <;> first | (cases hc; done) | skip
  split at hc <;> first | (cases hc; done) | skip
  split at hc <;> cases hc
theorem xJf {sz : Nat} {f : Nat -> List SV} {vs : Nat -> List Value} {w : World} {im : Nat -> Prop} : ∀ n, (∀ i, i < n -> Cvs w im (f i) (vs i)) -> Cvs w im (rowsC f n) ((List.range n).flatMap vs)
 | 0, _ => .nil
 | n + 1, h => by
  have ih := xJf (sz := sz) n fun i hi => h i (by omega)
  simp only [rowsC, xBu, List.range_succ, List.flatMap_append]
  have := h n (by omega)
  have app : ∀ {a b : List SV} {u v : List Value}, Cvs w im a u -> Cvs w im b v -> Cvs w im (a ++ b) (u ++ v) := by
   intro a
   induction a with
   | nil => intro b u v h1 h2; cases h1; exact h2
   | cons x a ih => intro b u v h1 h2; cases h1 with
    | cons _ _ _ _ h0 h1 => exact .cons _ _ _ _ h0 (ih h1 h2)
  refine app ih ?_
  simpa using this
theorem cpS_ok {E : Env} {hp : List Blk} (hr : RHp E hp) {sz n2 n : Nat} {fs : Nat -> Option (List SV)} {y : SV} {u : Value} {seg : List SV} (e : cpS (gb hp) sz y = some (n2, fs)) (e2 : fs n = some seg) (hn : n <= n2) (hy : Rv E y u) :
  ∃ vs, Rvs E seg vs /\ ((u = .slice none 0 0 /\ n2 = 0) \/ ∃ a cap, u = .slice (some a) n2 cap /\ ∀ j v, vs[j]? = some v -> E.w.cell? (a.add j) = some v) := by
 have hadd : ∀ b o j, (⟨b, o, none⟩ : Addr).add j = ⟨b, o + j, none⟩ := fun b o j => by unfold Addr.add; split <;> simp_all
 unfold cpS at e
 split at e <;> first | (cases e; done) | skip
 ·rename_i sz2 len f
  split at e <;> first | (cases e; done) | skip
  cases e
  cases e2
  rcases hy.rdE with ⟨rfl, a0, c0, rfl, hn0⟩ | ⟨b, off, cap, vs, h1, h2, h3, h4, h5, rfl⟩
  ·have : n = 0 := by omega
   subst this
   cases a0 with
   | none =>
    rw [hn0 rfl]
    exact ⟨[], .nil, .inl ⟨rfl, rfl⟩⟩
   | some a0 => exact ⟨[], .nil, .inr ⟨a0, c0, rfl, fun j v hj => by simp at hj⟩⟩
  ·refine ⟨(List.range n).flatMap vs, (xJf (sz := sz2) n fun i hi => h2 i (by omega)).rv, .inr ⟨⟨b, off, none⟩, cap, rfl, fun j v hj => ?_⟩⟩
   rw [hadd]
   have key : ∀ (m : Nat), m <= n -> ∀ j v, ((List.range m).flatMap vs)[j]? = some v -> ∃ i k, i < m /\ j = i * sz2 + k /\ (vs i)[k]? = some v := by
    intro m
    induction m with
    | zero => intro _ j v h; simp at h
    | succ m ih =>
     intro hm j v hj
     have hl : ((List.range m).flatMap vs).length = m * sz2 := xAr vs sz2 m (fun i hi => h3 i (by omega))
     rw [List.range_succ, List.flatMap_append, List.getElem?_append, hl] at hj
     split at hj
     ·obtain ⟨i, k, g1, g2, g3⟩ := ih (by omega) j v hj; exact ⟨i, k, by omega, g2, g3⟩
     ·rename_i hge
      exact ⟨m, j - m * sz2, by omega, by omega, by simpa using hj⟩
   obtain ⟨i, k, g1, rfl, g3⟩ := key n (Nat.le_refl _) j v hj
   exact h4 i k v (by omega) g3
 ·rename_i l len
  have main : ∀ t cs, (∃ vs, Rvs E cs vs /\ E.w.heap[E.blk l]? = some (.cells vs.toArray t (0, 0))) -> some (len, fun n => tk (n * sz) cs) = some (n2, fs) -> ∃ vs, Rvs E seg vs /\ ((u = .slice none 0 0 /\ n2 = 0) \/ ∃ a cap, u = .slice (some a) n2 cap /\ ∀ j v, vs[j]? = some v -> E.w.cell? (a.add j) = some v) := by
   rintro t cs ⟨vs, h1, h2⟩ e
   cases e
   obtain ⟨_, rfl⟩ := hy.bslE
   obtain ⟨_, h3⟩ := h1.tk _ e2
   refine ⟨_, h3, .inr ⟨_, _, rfl, fun j v hj => ?_⟩⟩
   rw [hadd, Nat.zero_add]
   rw [List.getElem?_take] at hj
   split at hj
   ·exact xAf h2 j v hj
   ·cases hj
  split at e <;> first | (cases e; done) | skip
  ·rename_i t cs hg; exact main t cs (hr.b.blk l _ (xAa hg (by simp))) e
  ·rename_i t cs hg; exact main t cs (hr.b.blk l _ (xAa hg (by simp))).2 e
 ·rename_i l off len cap0
  have main : ∀ t cs, (∃ vs, Rvs E cs vs /\ E.w.heap[E.blk l]? = some (.cells vs.toArray t (0, 0))) -> some (len, fun n => tk (n * sz) (dr off cs)) = some (n2, fs) -> ∃ vs, Rvs E seg vs /\ ((u = .slice none 0 0 /\ n2 = 0) \/ ∃ a cap, u = .slice (some a) n2 cap /\ ∀ j v, vs[j]? = some v -> E.w.cell? (a.add j) = some v) := by
   rintro t cs ⟨vs, h1, h2⟩ e
   cases e
   cases hy with
   | bso _ _ _ _ hl =>
   obtain ⟨_, h3⟩ := (h1.dr off).tk _ e2
   refine ⟨_, h3, .inr ⟨_, _, rfl, fun j v hj => ?_⟩⟩
   rw [hadd]
   rw [List.getElem?_take] at hj
   split at hj
   ·exact xAf h2 (off + j) v (by simpa using hj)
   ·cases hj
  split at e <;> first | (cases e; done) | skip
  ·rename_i t cs hg; exact main t cs (hr.b.blk l _ (xAa hg (by simp))) e
  ·rename_i t cs hg; exact main t cs (hr.b.blk l _ (xAa hg (by simp))).2 e
theorem cpD_ok {E : Env} {x : SV} {l off n1 : Nat} {v : Value} (e : cpD x = some (l, off, n1)) (hx : Rv E x v) : E.has l /\ ∃ cap, v = .slice (some ⟨E.blk l, off, none⟩) n1 cap := by
 unfold cpD at e
 split at e <;> cases e
 ·obtain ⟨h, rfl⟩ := hx.bslE; exact ⟨h, _, rfl⟩
 ·cases hx with
  | bso _ _ _ _ h => exact ⟨h, _, rfl⟩
theorem xJg (w : World) (dT sT ty elem : TypeId) (d : TypeInfo) (g o dLen dCap : Nat) (u : Value) (sLen : Nat) (cur : Array Value) (t : TypeId) (cs : List Value)
  (hu : P.underlying dT = some (.slice elem)) (hd : P.info? elem = some d) (hg : w.heap[g]? = some (.cells cur t (0, 0))) (hn : cs.length = Nat.min sLen dLen * d.size)
  (hsrc : (u = .slice none 0 0 /\ sLen = 0) \/ ∃ a cap, u = .slice (some a) sLen cap /\ ∀ j v, cs[j]? = some v -> w.cell? (a.add j) = some v) (hfit : o + cs.length <= cur.size) (h1 : ∀ v ∈ cs, v.oneCell' = true) :
  (Builtin.copy_ #[dT, sT] ty #[.slice (some ⟨g, o, none⟩) dLen dCap, u]).run P w =
   .ok (goInt (Nat.min sLen dLen)) (w.setRow g (cur.toList.take o ++ cs ++ cur.toList.drop (o + cs.length)).toArray) := by
 have hst := run_storeCells_at P g o t cs 0 cur w hg (by simpa using hfit) h1
 simp only [Nat.add_zero] at hst
 rcases hsrc with ⟨rfl, rfl⟩ | ⟨a, cap, rfl, hc⟩
 ·have hcs : cs = [] := List.eq_nil_of_length_eq_zero (by rw [hn]; show Nat.min 0 dLen * d.size = 0; rw [show Nat.min 0 dLen = 0 from Nat.zero_min dLen, Nat.zero_mul])
  subst hcs
  have h0 : Nat.min 0 dLen = 0 := Nat.zero_min dLen
  simp [Builtin.copy_, run_underlying hu, Builtin.lenOf, Builtin.firstCells, sizeOf, typeInfo, hd] at hst ⊢
  simp [hst]
 ·have hl := run_loadCells_list (P := P) w a cs hc
  simp [Builtin.copy_, run_underlying hu, Builtin.lenOf, Builtin.firstCells, sizeOf, typeInfo, hd, <- hn, hl, hst]
theorem OpOk.cpy {α : Type} {sz : Nat} {x y : X} {fr : List SV} {h : HT} {hp : List Blk} (r : HRel h hp) {K : SV -> HT -> Option α} {res : α} (ev : cpyB h sz (x.get fr) (y.get fr) K = some res) :
  ∃ v h' hp', HRel h' hp' /\ Frm h h' /\ K v h' = some res /\ ∀ o, C2 P o (.cpy sz x y) -> OpOk P o fr hp v hp' := by
 unfold cpyB at ev
 rw [r.g] at ev
 split at ev <;> first | (cases ev; done) | skip
 rename_i l off n1 n2 fs e1 e2
 split at ev <;> first | (cases ev; done) | skip
 rename_i seg e3
 split at ev <;> first | (cases ev; done) | skip
 rename_i hc0
 rw [Bool.and_eq_true] at hc0
 split at ev <;> first | (cases ev; done) | skip
 rename_i t cs hg
 split at ev <;> first | (cases ev; done) | skip
 rename_i new e4
 rw [HT.set_eq] at ev
 have hlt := r.lt (b := .box t cs) (by rw [r.g]; exact hg) (by simp)
 refine ⟨_, _, _, r.set (.box t new) hlt, .set r.f _ hlt, ev, fun o hc => ?_⟩
 have hc := hc.sc rfl
 unfold c2c at hc
 split at hc <;> first | (cases hc; done) | skip
 ·split at hc <;> first | (cases hc; done) | skip
  split at hc <;> cases hc
 ·rename_i args tys ho
  split at hc <;> first | (cases hc; done) | skip
  rename_i xo yo dT sT ha ht
  split at hc <;> first | (cases hc; done) | skip
  rename_i el hu
  split at hc <;> first | (cases hc; done) | skip
  rename_i d x' y' hd hx hy
  cases hc
  intro E a ro n next Q hok hr hfr hn
  have ha' : args = #[xo, yo] := by apply Array.ext'; simpa using ha
  have ht' : tys = #[dT, sT] := by apply Array.ext'; simpa using ht
  obtain ⟨hl, cap, k1⟩ := cpD_ok e1 (X.ok hfr hx)
  obtain ⟨vs, k2, k3⟩ := cpS_ok hr e2 e3 (Nat.min_le_left _ _) (X.ok hfr hy)
  have hget := xAa hg (by simp)
  obtain ⟨cur, h1, h2⟩ := hr.b.blk l _ hget
  obtain ⟨h3, h4⟩ := h1.sp off k2 e4
  have hseg : vs.length = Nat.min n2 n1 * d.size := by
   have := xAc hc0.1
   rw [xDf] at this
   rw [<- k2.length]; exact this
  have hrun := xJg (P := P) E.w dT sT o.type el d (E.blk l) off n1 cap (a.eval yo) n2 cur.toArray t vs hu hd h2 hseg k3 (by simpa using h3) (k2.allOne hc0.2)
  simp only [List.toList_toArray] at hrun
  have hgr : E.w.grownBy (E.w.setRow (E.blk l) (cur.take off ++ vs ++ cur.drop (off + vs.length)).toArray) (some (E.blk l)) :=
   ⟨rfl, rfl, rfl, by simp [World.setRow], fun k' _ hk' => setRow_other E.w _ k' _ (fun e => hk' (by rw [e]))⟩
  have hfz : ∀ b, (E.w.setRow (E.blk l) (cur.take off ++ vs ++ cur.drop (off + vs.length)).toArray).frozen? b = E.w.frozen? b := by
   intro b
   by_cases hb : b.block = E.blk l
   ·have := setRow_heap E.w (E.blk l) cur.toArray (cur.take off ++ vs ++ cur.drop (off + vs.length)).toArray t (0, 0) h2
    simp only [World.frozen?, hb, this, h2]
   ·exact World.frozen?_of_block (setRow_other E.w _ _ _ hb)
  obtain ⟨h5, h6⟩ := hr.set (newb := .box t new) hget rfl hgr hfz ⟨_, h4.mono (Env.to_le fun b hb => hgr.block b (hr.imlt hb) (fun e => hr.b.imx l _ _ hget rfl (by cases e; exact hb))), setRow_heap E.w _ _ _ t (0, 0) h2⟩ rfl
  refine xAb (w := (E.to _).w) (v := goInt (Nat.min n2 n1)) ?_ (hn _ _ h6 h5 (.int _ _))
  simp [execOp, ho, ha', ht', resolve, invoke, builtin, k1, hrun, Env.to]
theorem xJh {α : Type} {cl : Cl} (hcl : ClOk P cl) {o2 : Op2} {fr : List SV} {h : HT} {hp : List Blk} (r : HRel h hp) {k : SV -> HT -> Option α} {res : α} (e : evX cl fr h o2 k = some res) :
  ∃ x h' hp', HRel h' hp' /\ Frm h h' /\ k x h' = some res /\ ∀ o, C2 P o o2 -> OpOk P o fr hp x hp' := by
 cases o2 with
 | o o1 =>
  have gen : evO fr h o1 k = some res -> ∃ x h' hp', HRel h' hp' /\ Frm h h' /\ k x h' = some res /\ ∀ o, C2 P o (.o o1) -> OpOk P o fr hp x hp' := fun e => by
   obtain ⟨x, h', hp', r', hf, hev, hk⟩ := xRm r e (noG P)
   exact ⟨x, h', hp', r', hf, hk, fun o hc => .of_evh (c2_c1 (hc.c2 rfl)) hev⟩
  cases o1 with
  | call f args =>
   simp only [evX] at e
   split at e <;> first | (cases e; done) | skip
   rename_i x h' he
   obtain ⟨hp', r', hf, hop⟩ := OpOk.call hcl r he
   exact ⟨x, h', hp', r', hf, e, fun o hc => hop o (c2_c1 (hc.c2 rfl))⟩
  | inv mt y args =>
   simp only [evX] at e
   split at e <;> first | (cases e; done) | skip
   rename_i t z hy
   split at e <;> first | (cases e; done) | skip
   rename_i f hm
   split at e <;> first | (cases e; done) | skip
   rename_i x h' he
   obtain ⟨hp', r', hf, hop⟩ := OpOk.inv hcl r hy hm he
   exact ⟨x, h', hp', r', hf, e, fun o hc => hop o (c2_c1 (hc.c2 rfl))⟩
  | app t sz bytes y z =>
   simp only [evX] at e
   split at e
   ·obtain ⟨x, h', hp', r', hf, hk, hh⟩ := xPl (P := P) r e
    refine ⟨x, h', hp', r', hf, hk, fun o hc => ?_⟩
    obtain ⟨xo, yo, t', i, zz, ho, h1, h2, h3, h4, h5, h6, h7, h8⟩ := c1_app (c2_c1 (hc.c2 rfl))
    intro E a ro n next Q hok hr hfr hn
    obtain ⟨u, E', g1, g2, g3, g4⟩ := hh E t' o.type i zz _ _ hr h1 h2 h3 h4 h5 h6 (X.ok hfr h7) (X.ok hfr h8)
    refine xAb (w := E'.w) (v := u) ?_ (hn E' u g2 g3 g4)
    simp [execOp, ho, resolve, invoke, builtin, g1]
   split at e
   ·obtain ⟨x, h', hp', r', hf, hk, hh⟩ := xTc (P := P) r e
    refine ⟨x, h', hp', r', hf, hk, fun o hc => ?_⟩
    obtain ⟨xo, yo, t', i, zz, ho, h1, h2, h3, h4, h5, h6, h7, h8⟩ := c1_app (c2_c1 (hc.c2 rfl))
    intro E a ro n next Q hok hr hfr hn
    obtain ⟨u, E', g1, g2, g3, g4⟩ := hh E t' o.type i zz _ _ hr h1 h2 h3 h4 h5 h6 (X.ok hfr h7) (X.ok hfr h8)
    refine xAb (w := E'.w) (v := u) ?_ (hn E' u g2 g3 g4)
    simp [execOp, ho, resolve, invoke, builtin, g1]
   ·split at e
    ·rename_i x hx
     exact ⟨x, h, hp, r, .refl _, e, fun o hc => .app hx (c2_c1 (hc.c2 rfl))⟩
    ·exact gen e
  | slc y lo hi mx sz =>
   simp only [evX] at e
   split at e
   ·obtain ⟨x, h', hp', r', hf, hk, hop⟩ := OpOk.slcD (P := P) r e
    exact ⟨x, h', hp', r', hf, hk, fun o hc => hop o (c2_c1 (hc.c2 rfl))⟩
   ·exact gen e
  | _ => exact gen e
 | lku kk z ok m q =>
  simp only [evX, r.g] at e
  split at e <;> first | (cases e; done) | skip
  rename_i x hx
  exact ⟨x, h, hp, r, .refl _, e, fun o hc => .lku (hc.c2 rfl) hx⟩
 | upd kk m q v =>
  simp only [evX] at e
  obtain ⟨h', hp', r', hf, hk, hh⟩ := OpOk.upd (P := P) r e
  exact ⟨.any, h', hp', r', hf, hk, fun o hc => hh o (hc.c2 rfl)⟩
 | msl t sz z a b =>
  simp only [evX] at e
  obtain ⟨x, h', hp', r', hf, hk, hh⟩ := OpOk.msl (P := P) r e
  exact ⟨x, h', hp', r', hf, hk, fun o hc => hh o (hc.c2 rfl)⟩
 | mkm =>
  simp only [evX, HT.push_eq] at e
  exact ⟨_, _, _, r.push _, .push r.f _, e, fun o hc => .mkm r (hc.c2 rfl)⟩
 | mkmv f a b =>
  simp only [evX] at e
  exact ⟨_, _, _, r, .refl _, e, fun o hc => .mkmv (hc.c2 rfl)⟩
 | nck x =>
  simp only [evX] at e
  split at e <;> first | (cases e; done) | skip
  rename_i y hy
  exact ⟨_, _, _, r, .refl _, e, fun o hc => .nck hy (hc.c2 rfl)⟩
 | bs0 sz =>
  simp only [evX] at e
  exact ⟨_, _, _, r, .refl _, e, fun o hc => .bs0 (hc.c2 rfl)⟩
 | e1 o x =>
  simp only [evX, e1B] at e
  split at e
  ·rename_i y hy
   exact ⟨y, h, hp, r, .refl _, e, fun o hc => .e1V hy (hc.c2 rfl)⟩
  ·obtain ⟨x, h', hp', r', hf, hk, hh⟩ := OpOk.e1M (P := P) r e
   exact ⟨x, h', hp', r', hf, hk, fun o hc => hh o (hc.c2 rfl)⟩
 | slb x lo hi sz =>
  simp only [evX] at e
  split at e <;> first | (cases e; done) | skip
  rename_i lo' hi' e1 e2
  split at e <;> first | (cases e; done) | skip
  rename_i y hy
  exact ⟨y, h, hp, r, .refl _, e, fun o hc => .slb e1 e2 hy hc⟩
 | cpy sz x y =>
  simp only [evX] at e
  exact OpOk.cpy r e
 | _ => simp [evX] at e
theorem xLx : ∀ (hp : List Blk) (l l' : Nat) (b : Blk), l ≠ l' -> gb (sb hp l' b) l = gb hp l
 | [], l, l', b, h => by cases l' <;> rfl
 | x :: t, 0, 0, b, h => absurd rfl h
 | x :: t, l + 1, 0, b, h => rfl
 | x :: t, 0, l' + 1, b, h => rfl
 | x :: t, l + 1, l' + 1, b, h => by simpa [sb, gb] using xLx t l l' b (by omega)
theorem xTe {α : Type} {cl : Cl} (hcl : ClOk P cl) {o2 : Op2} {fr : List SV} {h : HT} {hp : List Blk} (r : HRel h hp) {k : SV -> HT -> Option α} {res : α} (e : evX cl fr h o2 k = some res) :
  ∃ x h' hp', HRel h' hp' /\ Frm h h' /\ k x h' = some res /\ (∀ o, C2 P o o2 -> OpOk P o fr hp x hp') /\
   ∀ sz p v, o2 = .o (.store sz (.t p) v) -> ∀ l, (∀ l' off, gt fr p = .ptr l' off -> l ≠ l') -> (∀ l' s i off, gt fr p ≠ .ep l' s i off) -> gb hp' l = gb hp l := by
 by_cases ho : ∃ sz p v, o2 = .o (.store sz (.t p) v)
 ·obtain ⟨sz, p, v, rfl⟩ := ho
  simp only [evX] at e
  obtain ⟨x, h', hp', r', hf, hev, hk⟩ := xRm r e (noG P)
  refine ⟨x, h', hp', r', hf, hk, fun o hc => .of_evh (c2_c1 (hc.c2 rfl)) hev, fun sz' p' v' he l hl hex => ?_⟩
  cases he
  simp only [evh] at hev
  unfold storeK at hev
  split at hev <;> first | exact hev.elim | skip
  ·rename_i l' off cs e1 e2
   have hne := hl l' off e1
   have hev := hev.2
   unfold storeK2 at hev
   split at hev <;> first | exact hev.elim | skip
   unfold storeK3 at hev
   split at hev <;> first | exact hev.elim | skip
   rw [<- hev.2]
   exact xLx hp l l' _ hne
  ·rename_i l' i cs e1 _; exact absurd e1 (hex l' 1 i 0)
  ·rename_i l' es i off cs _ e1 _; exact absurd e1 (hex l' es i off)
 ·obtain ⟨x, h', hp', h1, h2, h3, h4⟩ := xJh hcl r e
  exact ⟨x, h', hp', h1, h2, h3, h4, fun sz p v he => absurd ⟨sz, p, v, he⟩ ho⟩
theorem xQo {hp : List Blk} {x y : SV} (h : slQB (gb hp) x = some y) : slO hp x = some (y, hp) := by
 unfold slQB at h
 unfold slO
 split at h <;> first | (cases h; rfl) | skip
 ·rename_i l
  split at h
  ·rename_i k xs hg; cases h; simp only [hg]
  ·rename_i sz len f hg; cases h; simp only [hg]
  ·cases h
 ·cases h
theorem xGk {g : Nat -> Blk} {x y : SV} (h : slQV g x = some y) : (∃ l len cs t, x = .bsl l len /\ g l = .fbox t cs /\ clR cs len = some y) \/ slQB g x = some y := by
 unfold slQV at h
 split at h
 ·rename_i l len
  split at h
  ·rename_i t cs hg; exact .inl ⟨l, len, cs, t, rfl, hg, h⟩
  ·cases h
 ·exact .inr h
theorem xPe {E : Env} {hp : List Blk} (hr : RHp E hp) {x y : SV} {v : Value} (h : slQV (gb hp) x = some y) (hx : Rv E x v) : Rv E y v := by
 rcases xGk h with ⟨l, len, cs, t, rfl, hg, hcr⟩ | h
 ·obtain ⟨_, hv⟩ := hx.bslE
  obtain ⟨h0, vs, h4, h5⟩ := hr.b.blk l _ (xAa hg (by simp))
  unfold clR at hcr
  split at hcr <;> first | (cases hcr; done) | skip
  rename_i hcl
  have hcv := xDx (xAj 8 hcl h4) h0 h5 hcr
  rw [<- hv] at hcv
  exact hcv.rv
 ·unfold slQB at h
  split at h <;> first | (cases h; exact hx) | skip
  ·rename_i l
   obtain ⟨_, _, hv⟩ := hx.ownE
   split at h <;> first | (cases h; done) | skip
   ·rename_i k xs hg
    cases h
    have h1 := xAa hg (by simp)
    rw [hv (hr.b.live _ _ h1 (by simp))]
    exact hr.b.blk _ _ h1
   ·rename_i sz len f hg
    cases h
    have h1 := xAa hg (by simp)
    rw [hv (hr.b.live _ _ h1 (by simp))]
    exact hr.b.blk _ _ h1
  ·cases h; exact hx.clipE.unclip.rv
  ·cases h; exact hx.cliprE.unclipr.rv
  ·cases h
theorem xTf {E : Env} {hp : List Blk} (hr : RHp E hp) : ∀ (n : Nat) {x y : SV} {v : Value}, clDp n (gb hp) x = some y -> Rv E x v -> Rv E y v := by
 intro n
 induction n with
 | zero =>
  intro x y v h hx
  unfold clDp at h
  cases hc : clo 8 x with
  | true => rw [hc] at h; cases h; exact hx
  | false => rw [hc] at h; exact xPe hr h hx
 | succ n ih =>
  have hs : ∀ {xs ys : List SV} {vs : List Value}, clDp.clDs n (gb hp) xs = some ys -> Rvs E xs vs -> Rvs E ys vs := by
   intro xs
   induction xs with
   | nil => intro ys vs h hx; cases h; exact hx
   | cons x xs ihs =>
    intro ys vs h hx
    unfold clDp.clDs at h
    split at h <;> first | (cases h; done) | skip
    rename_i y h1
    split at h <;> first | (cases h; done) | skip
    rename_i l h2
    cases h
    cases hx with
    | cons _ v _ vs h3 h4 => exact .cons _ _ _ _ (ih h1 h3) (ihs h2 h4)
  intro x y v h hx
  unfold clDp at h
  cases hc : clo 8 x with
  | true => rw [hc] at h; cases h; exact hx
  | false =>
   rw [hc] at h
   simp only at h
   split at h
   ·split at h <;> first | (cases h; done) | skip
    rename_i cs h1
    cases h
    obtain ⟨vs, h2, rfl⟩ := hx.aggE
    exact .agg _ _ (hs h1 h2)
   ·exact xPe hr h hx
theorem xPf {E : Env} {hp : List Blk} (hr : RHp E hp) : ∀ {xs ys : List SV} {vs : List Value}, clAs (gb hp) xs = some ys -> Rvs E xs vs -> Rvs E ys vs
 | [], ys, vs, h, hx => by cases h; exact hx
 | x :: t, ys, vs, h, hx => by
  simp only [clAs] at h
  split at h <;> first | (cases h; done) | skip
  rename_i y h1
  split at h <;> first | (cases h; done) | skip
  rename_i l h2
  cases h
  cases hx with
  | cons _ v _ vs h3 h4 =>
   refine .cons _ _ _ _ ?_ (xPf hr h2 h4)
   unfold clA at h1
   split at h1
   ·cases h1; exact h3
   ·exact xTf hr 3 h1 h3
theorem xPg {cq : Cq} (hcq : CqOk P cq) {o : Oper} {o2 : Op2} (hc : C2 P o o2) {fr : List SV} {hp : List Blk} {x : SV} (e : evV cq fr (gb hp) o2 = some x) : OpOk P o fr hp x hp := by
 cases o2 with
 | o o1 =>
  have hc1 := c2_c1 (hc.c2 rfl)
  cases o1 with
  | v vo =>
   simp only [evV] at e
   obtain ⟨p, h1, h2⟩ := xPj e
   exact .of_evh hc1 (by simp only [evh, vK, h1]; exact ⟨h2, by trivial, by trivial⟩)
  | bld z ps =>
   simp only [evV] at e
   split at e
   ·rename_i cs hcs; cases e; exact .of_evh hc1 (by simp only [evh, bldK, hcs]; exact ⟨trivial, trivial⟩)
   ·cases e
  | slc y lo hi mx sz =>
   simp only [evV] at e
   split at e
   ·rename_i y' lo' hi' mx' e1 e2 e3 e4
    obtain ⟨p, h2, h3⟩ := xKf e
    rcases xGk e1 with ⟨l, len, cs, t, hx, hg, hcr⟩ | e1
    ·obtain ⟨t', e', i, xo, lo'', hi'', mx'', ho, g1, g2, rfl, g3, g4, g5, g6⟩ := c1_slc hc1
     intro E a ro n next Q hok hr hfr hn
     have k1 := X.ok hfr g3
     rw [hx] at k1
     obtain ⟨_, hv⟩ := k1.bslE
     obtain ⟨h0, vs, h4, h5⟩ := hr.b.blk l _ (xAa hg (by simp))
     unfold clR at hcr
     split at hcr <;> first | (cases hcr; done) | skip
     rename_i hcl
     have hcv := xDx (xAj 8 hcl h4) h0 h5 hcr
     rw [<- hv] at hcv
     obtain ⟨v', g7, g8⟩ := xOr (P := P) g1 g2 hcv.rv h2 h3 (xCi hfr g4 e2) (xCi hfr g5 e3) (xCi hfr g6 e4)
     refine xAb (w := E.w) (v := v') ?_ (hn E v' (.refl E) hr g8)
     simp [execOp, ho, g7]
    exact .of_evh hc1 (by simp only [evh, slcK, xQo e1, e2, e3, e4, vK, h2]; exact ⟨h3, by trivial, by trivial⟩)
   ·cases e
  | call f args =>
   simp only [evV] at e
   split at e <;> first | (cases e; done) | skip
   rename_i as' has'
   obtain ⟨g, as, tys, ho, h1, h2⟩ := c1_call hc1
   intro E a ro n next Q hok hr hfr hn
   refine xFh ho (hcq _ _ _ e E _ _ hp hok hr (X.ok hfr h1) (xPf hr has' (Xs.ok hfr h2))) ?_
   rintro v w' ⟨E', rfl, h3, h4, h5⟩
   exact hn E' v h3 h4 h5
  | inv mt y args =>
   simp only [evV] at e
   split at e <;> first | (cases e; done) | skip
   rename_i t z hy
   split at e <;> first | (cases e; done) | skip
   rename_i f hm
   obtain ⟨g, m, as, tys, ho, rfl, h1, h2⟩ := c1_inv hc1
   intro E a ro n next Q hok hr hfr hn
   have k1 := X.ok hfr h1
   rw [hy] at k1
   obtain ⟨v, hv, k1⟩ := k1.ifcE
   refine xLw ho k1 hm (hcq _ _ _ e E _ _ hp hok hr (.fn f [] [] .nil) (.cons _ _ _ _ hv (Xs.ok hfr h2))) ?_
   rintro v w' ⟨E', rfl, h3, h4, h5⟩
   exact hn E' v h3 h4 h5
  | app t sz bytes y z => simp only [evV] at e; exact .app e hc1
  | bsl t len z ps =>
   simp only [evV] at e
   split at e <;> first | (cases e; done) | skip
   rename_i cs hcs
   exact .bslV hcs e hc1
  | _ => simp [evV] at e
 | lku kk z ok m q => simp only [evV] at e; exact .lku (hc.c2 rfl) e
 | mkmv f a b => simp only [evV] at e; cases e; exact .mkmv (hc.c2 rfl)
 | nck x => simp only [evV] at e; exact .nck e (hc.c2 rfl)
 | bs0 sz => simp only [evV] at e; cases e; exact .bs0 (hc.c2 rfl)
 | mkm => simp only [evV] at e; cases e; exact .mkmV (hc.c2 rfl)
 | e1 o x =>
  simp only [evV, e1W] at e
  split at e
  ·rename_i n sz
   split at e <;> first | (cases e; done) | skip
   rename_i l off hxy
   split at e <;> first | (cases e; done) | skip
   rename_i t cs hg
   exact .slaF hxy hg e (hc.c2 rfl)
  ·exact .e1V e (hc.c2 rfl)
 | msl t sz z a b => exact .mslV (hc.c2 rfl) e
 | slb x lo hi sz =>
  simp only [evV] at e
  split at e <;> first | (cases e; done) | skip
  rename_i lo' hi' e1 e2
  exact .slb e1 e2 e hc
 | _ => simp [evV] at e
end
end Go.Vg
