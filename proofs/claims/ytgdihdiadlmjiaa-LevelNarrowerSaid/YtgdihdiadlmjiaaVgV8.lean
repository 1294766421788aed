import Derived.Test.YtgdihdiadlmjiaaVgV7
set_option linter.all false
namespace Go.Vg
open Go
variable {N : Nat} {Γ : Gm} {Γq : Nat -> Option FC} {K : Exit -> St -> Prop} {s : St} {k : SV -> List Blk -> Prop} {hp : List Blk} {fr : List SV} {x y : SV}
theorem e_skip : exec N Γ Γq .skip K s = K .normal s := rfl
theorem e_reg {ops : List Opr} : exec N Γ Γq (.reg ops) K s = evops Γ (K .normal) ops s := rfl
theorem e_tre {t : DT} : exec N Γ Γq (.tre t) K s = exT Γ (K .normal) t s := rfl
theorem t_leaf {Γ : Gm} {k : St -> Prop} {s : St} : exT Γ k .leaf s = k s := rfl
theorem t_stop {Γ : Gm} {k : St -> Prop} {s : St} : exT Γ k .stop s = True := rfl
theorem t_op {Γ : Gm} {k : St -> Prop} {s : St} {o : Opr} {a b : DT} : exT Γ k (.op o a b) s = (evops Γ (exT Γ k a) [o] s /\ exT Γ k b s) := rfl
theorem e_drw {hs cre tl} : exec N Γ Γq (.drw hs cre tl) K s = drun Γq hs (tlK Γ cre tl (K .normal)) s := rfl
theorem e_seq {a b : SC} : exec N Γ Γq (.seq a b) K s = exec N Γ Γq a (seqK (exec N Γ Γq b) K) s := rfl
theorem e_cond {c : X} {a b : SC} : exec N Γ Γq (.cond c a b) K s = condK (c.get s.fr) (exec N Γ Γq a K) (exec N Γ Γq b K) s := rfl
theorem e_block {id : Nat} {c : SC} : exec N Γ Γq (.block id c) K s = exec N Γ Γq c (blockK id K) s := rfl
theorem e_loop {c : SC} : exec N Γ Γq (.loop c) K s = LoopP N (exec N Γ Γq c) K s := rfl
theorem e_exit {id : Nat} : exec N Γ Γq (.exit id) K s = K (.exit id) s := rfl
theorem e_ret : exec N Γ Γq .ret K s = K .ret s := rfl
theorem e_scp {c : SC} : exec N Γ Γq (.scp c) K s = exec N Γ Γq c (scpK K) s := rfl
theorem scpK_r : scpK K .ret s = K .ret s := rfl
theorem e_shut {ds : List Nat} {c : SC} : exec N Γ Γq (.shut ds c) K s = exec N Γ Γq c K ⟨s.fr, shutG s.fr ds s.hp⟩ := rfl
theorem o_nil {k : St -> Prop} : evops Γ k [] s = k s := rfl
theorem o_cons {k : St -> Prop} {d g o} {t : List Opr} : evops Γ k (⟨d, g, o⟩ :: t) s = gd s (runK Γ (evops Γ k t) o d) (skipK (evops Γ k t) d) g := rfl
theorem gd_none {run skip : St -> Prop} : gd s run skip none = run s := rfl
theorem gd_some {run skip : St -> Prop} {i want} : gd s run skip (some (i, want)) = gdK (gt s.fr i) i want s run skip := rfl
theorem gdK_tt {run skip : St -> Prop} {i} : gdK (.lit (.bool true)) i true s run skip = run s := rfl
theorem gdK_tf {run skip : St -> Prop} {i} : gdK (.lit (.bool true)) i false s run skip = skip s := rfl
theorem gdK_ft {run skip : St -> Prop} {i} : gdK (.lit (.bool false)) i true s run skip = skip s := rfl
theorem gdK_ff {run skip : St -> Prop} {i} : gdK (.lit (.bool false)) i false s run skip = run s := rfl
theorem xRe {run skip : St -> Prop} {i} {g : Bool} : gdK (.bool g) i true s run skip = ((g = true -> run ⟨st s.fr i (.lit (.bool true)), s.hp⟩) /\ (g = false -> skip ⟨st s.fr i (.lit (.bool false)), s.hp⟩)) := rfl
theorem xRf {run skip : St -> Prop} {i} {g : Bool} : gdK (.bool g) i false s run skip = ((g = false -> run ⟨st s.fr i (.lit (.bool false)), s.hp⟩) /\ (g = true -> skip ⟨st s.fr i (.lit (.bool true)), s.hp⟩)) := rfl
theorem putK_e {r : St -> Prop} {d} : putK r d fr x hp = r ⟨putf fr d x, hp⟩ := rfl
theorem runK_e {r : St -> Prop} {o d} : runK Γ r o d s = evh Γ s (putK r d s.fr) o := rfl
theorem skipK_e {r : St -> Prop} {d} : skipK r d s = r ⟨putf s.fr d (.lit undef), s.hp⟩ := rfl
theorem vK_e {p : Prop} : vK (some (p, x)) k hp = (p /\ k x hp) := rfl
theorem boxK_e {cs t} : boxK (some cs) t k hp = k (.ptr (ln hp) 0) (pb hp (.box t cs)) := rfl
theorem bslK_e {cs e len} : bslK (some cs) e len k hp = k (.bsl (ln hp) len) (pb hp (.box e cs)) := rfl
theorem bldK_e {cs} : bldK (some cs) k hp = k (.agg cs) hp := rfl
theorem storeK3_e {new l t} : storeK3 (some new) l t k hp = k .any (sb hp l (.box t new)) := rfl
theorem storeK2_e {t old l off cs} : storeK2 (.box t old) l off cs k hp = storeK3 (sp old off cs) l t k hp := rfl
theorem storeK_e {l off cs sz} : storeK (.ptr l off) (some cs) sz k hp = ((allOne cs = true /\ ll cs = sz) /\ storeK2 (gb hp l) l off cs k hp) := rfl
theorem appK2_or {t sz' len f t2 cs l e sz bytes} : appK2 (.orw t sz' len f) (.box t2 cs) 1 l e sz bytes k hp = ((t = e /\ sz' = sz /\ ll cs = sz /\ allOne cs = true /\ clo.clos 8 cs = true /\ 0 < sz /\ (len + 1) * bytes <= 140737488355328 /\ len + 1 <= 9223372036854775807) /\
   k (.own (ln hp)) (pb (sb hp l .dead) (.orw t sz (len + 1) (fun i => if i < len then f i else cs)))) := by
 cases cs with
 | nil => rfl
 | cons c t => cases t <;> cases c <;> rfl
theorem appK_e {l l2 m e sz bytes} : appK (.own l) (.bsl l2 m) e sz bytes k hp = appK2 (gb hp l) (gb hp l2) m l e sz bytes k hp := rfl
theorem conK_e {C : Con} {args} : conK (some C) args hp k = C args hp k := rfl
theorem callK_e {f caps args} : callK Γ (.fn f caps) args hp k = conK (Γ f) (ap args caps) hp k := rfl
theorem evh_v {o} : evh Γ s k (.v o) = vK (evp s.fr s.hp o) k s.hp := rfl
theorem evh_new {t z} : evh Γ s k (.new t z) = k (.ptr (ln s.hp) 0) (pb s.hp (.box t z)) := rfl
theorem evh_box {t x} : evh Γ s k (.box t x) = boxK (cs1 (x.get s.fr)) t k s.hp := rfl
theorem evh_bsl {e len z parts} : evh Γ s k (.bsl e len z parts) = bslK (lay z (getp s.fr parts)) e len k s.hp := rfl
theorem evh_bld {z parts} : evh Γ s k (.bld z parts) = bldK (lay z (getp s.fr parts)) k s.hp := rfl
theorem evh_store {sz x v} : evh Γ s k (.store sz x v) = storeK (x.get s.fr) (cs1 (v.get s.fr)) sz k s.hp := rfl
theorem evh_emp {sz} : evh Γ s k (.emp sz) = k (.clipr sz 0 fun _ => []) s.hp := rfl
theorem evh_app {e sz bytes x y} : evh Γ s k (.app e sz bytes x y) = appK (x.get s.fr) (y.get s.fr) e sz bytes k s.hp := rfl
theorem evh_call {f args} : evh Γ s k (.call f args) = callK Γ (f.get s.fr) (gets s.fr args) s.hp k := rfl
theorem evh_inv {mt x args} : evh Γ s k (.inv mt x args) = invK Γ mt (x.get s.fr) (gets s.fr args) s.hp k := rfl
theorem invK_e {mt t args} : invK Γ mt (.ifc t x) args hp k = invK2 Γ (lkm mt t) x args hp k := rfl
theorem invK2_e {f args} : invK2 Γ (some f) x args hp k = conK (Γ f) (x :: args) hp k := rfl
theorem appK_l {l2 m e sz bytes} : appK (.lit (.slice none 0 0)) (.bsl l2 m) e sz bytes k hp = appL (gb hp l2) m e sz bytes k hp := rfl
theorem appL_2 {t c d cs m e sz bytes} : appL (.box t (c :: d :: cs)) m e sz bytes k hp = appD 0 [] (.box t (c :: d :: cs)) m e sz bytes k hp := by cases c <;> rfl
theorem appD_e {len cs1 t cs2 e sz bytes} : appD len cs1 (.box t cs2) 1 e sz bytes k hp = ((ll cs1 = len * sz /\ ll cs2 = sz /\ clo.clos 8 cs1 = true /\ clo.clos 8 cs2 = true /\ 0 < sz /\ (len + 1) * bytes <= 140737488355328 /\ len + 1 <= 9223372036854775807) /\
   k (.own (ln hp)) (pb hp (.orw e sz (len + 1) (fun i => if i < len then rowOf sz cs1 i else cs2)))) := rfl
theorem appK_ce {sz' len f l2 m e sz bytes} : appK (.clipr sz' len f) (.bsl l2 m) e sz bytes k hp = appE sz' len f (gb hp l2) m e sz bytes k hp := by cases len <;> rfl
theorem appE_b {sz' len f t cs2 e sz bytes} : appE sz' len f (.box t cs2) 1 e sz bytes k hp = (((sz' = sz \/ len = 0) /\ ll cs2 = sz /\ clo.clos 8 cs2 = true /\ 0 < sz /\ (len + 1) * bytes <= 140737488355328 /\ len + 1 <= 9223372036854775807) /\
   k (.own (ln hp)) (pb hp (.orw e sz (len + 1) (fun i => if i < len then f i else cs2)))) := rfl
theorem appK_y {a b sz2 len2 g e sz bytes} : appK (.clipr a 0 b) (.rd sz2 len2 g) e sz bytes k hp = appY sz2 len2 g e sz bytes k hp := rfl
theorem appY_e {sz2 len2 g e sz bytes} : appY sz2 len2 g e sz bytes k hp = ((len2 = 0 -> k (.clipr sz 0 fun _ => []) hp) /\ (0 < len2 -> (sz2 = sz /\ len2 * bytes <= 140737488355328 /\ len2 <= 9223372036854775807) /\ k (.own (ln hp)) (pb hp (.orw e sz len2 g)))) := rfl
theorem dX_e {d} {r : St -> Prop} : dX false x d r s = r ⟨putf s.fr d x, s.hp⟩ := rfl
theorem dX_b {d} {r : St -> Prop} {g : Bool} : dX true (.bool g) d r s = ((g = true -> r ⟨putf s.fr d (.lit (.bool true)), s.hp⟩) /\ (g = false -> r ⟨putf s.fr d (.lit (.bool false)), s.hp⟩)) := rfl
theorem dX_bf {d} {r : St -> Prop} : dX true (.bool false) d r s = r ⟨putf s.fr d (.lit (.bool false)), s.hp⟩ := by rw [dX_b]; simp
theorem gdK_btt {run skip : St -> Prop} {i} : gdK (.bool true) i true s run skip = run ⟨st s.fr i (.lit (.bool true)), s.hp⟩ := by rw [xRe]; simp
theorem gdK_bft {run skip : St -> Prop} {i} : gdK (.bool true) i false s run skip = skip ⟨st s.fr i (.lit (.bool true)), s.hp⟩ := by rw [xRf]; simp
theorem gdK_bff {run skip : St -> Prop} {i} : gdK (.bool false) i false s run skip = run ⟨st s.fr i (.lit (.bool false)), s.hp⟩ := by rw [xRf]; simp
theorem dG_t {p : Prop} {fl d} {r : St -> Prop} : dG (some true) (some (p, x)) fl d r s = (p /\ dX fl x d r s) := rfl
theorem d_nil {k : St -> Prop} : drun Γq [] k s = k s := rfl
theorem d_cons {k : St -> Prop} {i d g o fl t} : drun Γq ((i, ⟨d, g, o⟩, fl) :: t) k s = dG (gdl s.fr g) (evq Γq s.fr s.hp o) fl d (drun Γq t k) s := rfl
theorem creK_e {b} : creK (some (x, b)) k hp = k x (pb hp b) := rfl
theorem tlK_n {tl} {k : St -> Prop} : tlK Γ none tl k s = evops Γ k tl s := rfl
theorem tlK_s {o tl} {k : St -> Prop} : tlK Γ (some o) tl k s = evc s (putK (evops Γ k tl) o.d s.fr) o.o := rfl
theorem evc_e {o} : evc s k o = creK (crv s.fr (ln s.hp) o) k s.hp := rfl
theorem loopK_n {nx : St -> Prop} : loopK K nx .normal s = nx s := rfl
theorem loopK_x {nx : St -> Prop} {id} : loopK K nx (.exit id) s = K (.exit id) s := rfl
theorem loopK_r {nx : St -> Prop} : loopK K nx .ret s = K .ret s := rfl
theorem seqK_n {r : (Exit -> St -> Prop) -> St -> Prop} : seqK r K .normal s = r K s := rfl
theorem seqK_x {r : (Exit -> St -> Prop) -> St -> Prop} {id} : seqK r K (.exit id) s = K (.exit id) s := rfl
theorem seqK_r {r : (Exit -> St -> Prop) -> St -> Prop} : seqK r K .ret s = K .ret s := rfl
theorem condK_t {A B : St -> Prop} : condK (.lit (.bool true)) A B s = A s := rfl
theorem condK_f {A B : St -> Prop} : condK (.lit (.bool false)) A B s = B s := rfl
theorem xNz {A B : St -> Prop} {g : Bool} : condK (.bool g) A B s = ((g = true -> A s) /\ (g = false -> B s)) := rfl
theorem condK_bt {A B : St -> Prop} : condK (.bool true) A B s = A s := by rw [xNz]; simp
theorem condK_bf {A B : St -> Prop} : condK (.bool false) A B s = B s := by rw [xNz]; simp
theorem exitK_t {j} : exitK true j K s = K .normal s := rfl
theorem exitK_f {j} : exitK false j K s = K (.exit j) s := rfl
theorem blockK_x {id j} : blockK id K (.exit j) s = exitK (j == id) j K s := rfl
theorem blockK_n {id} : blockK id K .normal s = K .normal s := rfl
theorem blockK_r {id} : blockK id K .ret s = K .ret s := rfl
def endK2 (K : SV -> Prop) : Option (SV × List Blk) -> Prop
 | some (r, _) => ∃ r', K r' /\ leR 4 r r'
 | none => False
def endK1 (K : SV -> Prop) (hp : List Blk) : Option (List SV) -> Prop
 | some r => endK2 K (clV 8 hp (tupled r))
 | none => False
theorem ends_r {rs : List RV} {K : SV -> Prop} : ends rs K .ret s = endK1 K s.hp (rdR s rs) := by
 unfold ends endK1
 split <;> rfl
theorem endK1_e {K : SV -> Prop} {r} : endK1 K hp (some r) = endK2 K (clV 8 hp (tupled r)) := rfl
theorem endK2_e {K : SV -> Prop} {r} : endK2 K (some (r, hp)) = ∃ r', K r' /\ leR 4 r r' := rfl
def gamK : Option Sg -> Option Con
 | some (.fc F) => some (pc (fcC F))
 | some (.pc C) => some (pc C)
 | some (.con C) => some C
 | none => none
theorem gam_e {P : Program} {T : List (Nat × Sg)} {f : Nat} : (gam P T).f f = gamK (lk T f) := by
 simp only [gam]
 unfold gamF gamK
 rfl
theorem gamK_f {F} : gamK (some (.fc F)) = some (pc (fcC F)) := rfl
theorem gamK_p {C} : gamK (some (.pc C)) = some (pc C) := rfl
theorem gamK_c {C} : gamK (some (.con C)) = some C := rfl
def gamqK : Option Sg -> Option FC
 | some (.fc F) => some F
 | _ => none
theorem gamq_e {T : List (Nat × Sg)} {f : Nat} : gamq T f = gamqK (lk T f) := by
 unfold gamq gamqK
 rfl
theorem gamqK_f {F} : gamqK (some (.fc F)) = some F := rfl
def pcK (C : PC) (K : SV -> List Blk -> Prop) : Option (List SV × List Blk) -> Prop
 | some (args, hp) => C args fun r => K r hp
 | none => False
theorem pc_e {C : PC} {args} {K : SV -> List Blk -> Prop} : pc C args hp K = pcK C K (clL (clV 8) hp args) := by
 unfold pc pcK
 cases clL (clV 8) hp args with
 | none => rfl
 | some r => cases r; rfl
theorem pcK_e {C : PC} {args} {K : SV -> List Blk -> Prop} : pcK C K (some (args, hp)) = C args fun r => K r hp := rfl
def fcK (K : SV -> Prop) : Option (Prop × SV) -> Prop
 | some (p, r) => p /\ K r
 | none => False
theorem fcC_e {F : FC} {args} {K : SV -> Prop} : fcC F args K = fcK K (F args) := by
 unfold fcC fcK
 cases F args with
 | none => rfl
 | some r => cases r; rfl
theorem fcK_e {K : SV -> Prop} {p r} : fcK K (some (p, r)) = (p /\ K r) := rfl
def dstO : List Opr -> List Nat -> List Nat
 | [], l => l
 | ⟨some d, _, _⟩ :: t, l => d :: dstO t l
 | ⟨none, _, _⟩ :: t, l => dstO t l
def dstD : List (Nat × Opr × Bool) -> List Nat -> List Nat
 | [], l => l
 | (_, ⟨some d, _, _⟩, _) :: t, l => d :: dstD t l
 | (_, ⟨none, _, _⟩, _) :: t, l => dstD t l
def dst1 : Option Opr -> List Nat -> List Nat
 | none, l => l
 | some o, l => dstO [o] l
def dstT : DT -> List Nat -> List Nat
 | .op o a _, l => dst1 (some o) (dstT a l)
 | .leaf, l | .stop, l => l
def dstC : SC -> List Nat -> List Nat
 | .reg ops, l => dstO ops l
 | .tre t, l => dstT t l
 | .drw hs c tl, l => dstD hs (dst1 c (dstO tl l))
 | .seq a b, l => dstC a (dstC b l)
 | .cond _ a b, l => dstC a (dstC b l)
 | .block _ c, l => dstC c l
 | .loop c, l => dstC c l
 | .shut _ c, l => dstC c l
 | .scp c, l => dstC c l
 | .skip, l | .exit _, l | .ret, l | .sem _, l => l
def forget (fr : List SV) : List Nat -> List SV
 | [] => fr
 | d :: t => forget (st fr d .any) t
def sts (fr : List SV) : List (Nat × SV) -> List SV
 | [] => fr
 | (d, x) :: t => sts (st fr d x) t
theorem xSi {G : Type} {c : SC} {fr : List SV} {hp : List Blk} (ch : G -> List (Nat × SV)) (hpf : G -> List Blk) (p : G -> Prop) (m : G -> Nat) (g0 : G) (h0 : p g0)
  {fr' : List SV} (hf : forget fr (dstC c []) = fr')
  (hw : Lw N ⟨fr, hp⟩ ⟨sts fr' (ch g0), hpf g0⟩)
  (hr : ∀ g, p g -> exec N Γ Γq c (loopK K (Nx N (fun g => ⟨sts fr' (ch g), hpf g⟩) p m (m g))) ⟨sts fr' (ch g), hpf g⟩) : LoopP N (exec N Γ Γq c) K ⟨fr, hp⟩ :=
 xMn (fun g => ⟨sts fr' (ch g), hpf g⟩) p m g0 h0 hw hr
theorem inr64 {n : Int} : InR .i64 n = (-9223372036854775808 <= n /\ n <= 9223372036854775807) := rfl
end Go.Vg
