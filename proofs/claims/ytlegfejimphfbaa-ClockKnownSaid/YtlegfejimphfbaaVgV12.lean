import Derived.Test.YtlegfejimphfbaaVgV11
namespace Go.Vg
open Go
def rngs : Code → List Code
 | .seq a b => rngs a ++ rngs b
 | .cond _ a b => rngs a ++ rngs b
 | .block _ c => rngs c
 | .loop c => rngs c
 | .scope c => rngs c
 | .rangeFunc g ps x y => [.rangeFunc g ps x y]
 | _ => []
def rg (fn : Func) (i : Nat) : Code := ((fn.body.map rngs).getD [])[i]?.getD .skip
def rIs : Code → Bool
 | .rangeFunc .. => true
 | _ => false
def rgO : Code → Operand
 | .rangeFunc g _ _ _ => g
 | _ => .tmp 0
def rgQ : Code → Array Tmp
 | .rangeFunc _ ps _ _ => ps
 | _ => #[]
def rgA : Code → Code
 | .rangeFunc _ _ x _ => x
 | c => c
def rgB : Code → Code
 | .rangeFunc _ _ _ y => y
 | c => c
theorem rEq : ∀ {c : Code}, rIs c = true → c = .rangeFunc (rgO c) (rgQ c) (rgA c) (rgB c)
 | .rangeFunc _ _ _ _, _ => rfl
theorem sem_of {P : Program} {T : List (Nat × Sg)} (hT : TabOk P T) {N : Nat} {c : Code} (hc : rIs c = true) {ps : List Nat} (hps : (rgQ c).toList = ps) {K : Exit → St → Prop} {fr : List SV} {hp : List Blk} {x : X} {g : Nat} {caps : List SV} {fng : Func} {sg : SC} {nt : Nat}
  (ho : cX (rgO c) = some x) (hx : x.get fr = .fn g caps) (hf : P.funcs[g]? = some fng) (hnm : fng.name ≠ "runtime.NumGoroutine")
  (hk : (fng.body.bind (cC P), cR P fng.results.toList, fng.ntmps) = (some sg, some [], nt)) (hns : sg.nosem = true)
  (he : exec (ln hp + 2) (gam P T) (gamq T) sg (rK K fr (ln hp) (ln hp + 1)) ⟨mkfr (.lb .yl (ln hp + 1) :: caps) nt, pb (pb hp (.ob .df)) (.ob (.wl .ready none fr ps (rgA c) (rgB c) (ln hp)))⟩) :
  SemOk P N c K ⟨fr, hp⟩ := by
 rw [rEq hc]
 subst hps
 exact sem_rng (gam_ok hT) (gam_known hT) (gamq_ok hT) (gamq_known hT) ho hx hf hnm hk hns he
theorem yld_of {P : Program} {T : List (Nat × Sg)} (hT : TabOk P T) {c : Code} {L : Nat} {args : List SV} {hp : List Blk} {k : SV → List Blk → Prop} {pd : Option (Option Nat)} {fr : List SV} {ps : List Nat} {df : Nat} {sx sy : SC}
  (hx : cC P (rgA c) = some sx) (hy : cC P (rgB c) = some sy) (hnx : sx.nosem = true) (hny : sy.nosem = true) (hg : gb hp L = .ob (.wl .ready pd fr ps (rgA c) (rgB c) df)) (hpl : ps.length = args.length)
  (he : exec (ln hp) (gam P T) (gamq T) sx (fun e s => (∀ pd' fr' ps' ca' cb' df', gb s.hp L = .ob (.wl .ready pd' fr' ps' ca' cb' df') → cb' = rgB c) ∧ yK1 (gam P T) (gamq T) sy L k e s) ⟨setL fr ps args, hp⟩) : YSem P L args hp k :=
 ysem_of (gam_ok hT) (gam_known hT) (gamq_ok hT) (gamq_known hT) hg hx hy hnx hny hpl he
theorem sem_ofF {P : Program} {T : List (Nat × Sg)} (hT : TabOk P T) {N : Nat} {c : Code} (hc : rIs c = true) {ps : List Nat} (hps : (rgQ c).toList = ps) {K : Exit → St → Prop} {fr F0 : List SV} (hF : fr = F0) {hp : List Blk} {x : X} {g : Nat} {caps : List SV} {fng : Func} {sg : SC} {nt : Nat}
  (ho : cX (rgO c) = some x) (hx : x.get fr = .fn g caps) (hf : P.funcs[g]? = some fng) (hnm : fng.name ≠ "runtime.NumGoroutine")
  (hk : (fng.body.bind (cC P), cR P fng.results.toList, fng.ntmps) = (some sg, some [], nt)) (hns : sg.nosem = true)
  (he : exec (ln hp + 2) (gam P T) (gamq T) sg (rK K fr (ln hp) (ln hp + 1)) ⟨mkfr (.lb .yl (ln hp + 1) :: caps) nt, pb (pb hp (.ob .df)) (.ob (.wl .ready none F0 ps (rgA c) (rgB c) (ln hp)))⟩) :
  SemOk P N c K ⟨fr, hp⟩ := by
 subst hF
 exact sem_of hT hc hps ho hx hf hnm hk hns he
theorem yld_ofF {P : Program} {T : List (Nat × Sg)} (hT : TabOk P T) {c : Code} {L : Nat} {args : List SV} {hp : List Blk} {k : SV → List Blk → Prop} {pd : Option (Option Nat)} {fr F0 : List SV} (hF : fr = F0) {ps : List Nat} {df : Nat} {sx sy : SC}
  (hx : cC P (rgA c) = some sx) (hy : cC P (rgB c) = some sy) (hnx : sx.nosem = true) (hny : sy.nosem = true) (hg : gb hp L = .ob (.wl .ready pd F0 ps (rgA c) (rgB c) df)) (hpl : ps.length = args.length)
  (he : exec (ln hp) (gam P T) (gamq T) sx (fun e s => (∀ pd' fr' ps' ca' cb' df', gb s.hp L = .ob (.wl .ready pd' fr' ps' ca' cb' df') → cb' = rgB c) ∧ yK1 (gam P T) (gamq T) sy L k e s) ⟨setL fr ps args, hp⟩) : YSem P L args hp k := by
 subst hF
 exact yld_of hT hx hy hnx hny hg hpl he
theorem e_sem {N : Nat} {P : Program} {T : List (Nat × Sg)} {Γq} {c : Code} {K : Exit → St → Prop} {s : St} : exec N (gam P T) Γq (.sem c) K s = SemOk P N c K s := rfl
theorem callK_y {P : Program} {T : List (Nat × Sg)} {l args hp k} : callK (gam P T) (.lb .yl l) args hp k = YSem P l args hp k := rfl
end Go.Vg
