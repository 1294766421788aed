import Derived.Test.YtlegfejimphfbaaVgV9
import Derived.Test.YtlegfejimphfbaaVgHC
section
namespace Go.Vg
open Go

theorem leRs4_ok {w : World} {im : Nat → Prop} {n : Nat} : ∀ {xs ys : List SV} {vs : List Value}, leR.leRs n xs ys → Cvs w im xs vs → Cvs w im ys vs
  | [], ys, vs, h, hx => by cases ys <;> simp only [leR.leRs] at h; exact hx
  | x :: xs, ys, vs, h, hx => by
    cases ys <;> simp only [leR.leRs] at h
    cases hx with
    | cons _ v _ vs hx hr => exact .cons _ _ _ _ (leR_ok n h.1 hx) (leRs4_ok h.2 hr)
/-- Known at least as well: rows by what is in them. -/
def leA (x y : SV) : Prop := leR 4 x y ∨ ∃ sz len f g, x = .rd sz len f ∧ y = .rd sz len g ∧ ∀ i, i < len → leR.leRs 4 (f i) (g i)
theorem leA_ok {w : World} {im : Nat → Prop} {x y : SV} {v : Value} (h : leA x y) (hx : Cv w im x v) : Cv w im y v := by
  rcases h with h | ⟨sz, len, f, g, rfl, rfl, h⟩
  · exact leR_ok 4 h hx
  · cases hx with
    | rdNil => exact .rdNil _ _
    | rd _ _ _ b off cap vs hb h1 h2 h3 h4 => exact .rd _ _ _ b off cap vs hb (fun i hi => leRs4_ok (h i hi) (h1 i hi)) h2 h3 h4
def leAs : List SV → List SV → Prop
  | [], [] => True
  | x :: a, y :: b => leA x y ∧ leAs a b
  | _, _ => False
theorem leAs_ok {w : World} {im : Nat → Prop} : ∀ {xs ys : List SV} {vs : List Value}, leAs xs ys → Cvs w im xs vs → Cvs w im ys vs
  | [], ys, vs, h, hx => by cases ys <;> simp only [leAs] at h; exact hx
  | x :: xs, ys, vs, h, hx => by
    cases ys <;> simp only [leAs] at h
    cases hx with
    | cons _ v _ vs hx hr => exact .cons _ _ _ _ (leA_ok h.1 hx) (leAs_ok h.2 hr)
def PC.le (C : PC) : PC := fun args K => ∃ args', leAs args args' ∧ C args' K
theorem PureOk.le {P : Program} {f : FuncId} {C : PC} (h : PureOk P f C) : PureOk P f C.le :=
  fun w im _ vs K hb hv ⟨args', hl, hc⟩ => h w im args' vs K hb (leAs_ok hl hv) hc
end Go.Vg
end
section
namespace Go.Proofs.Ytlegfejimphfbaa
open Go Go.Vg
set_option linter.unusedSimpArgs false
set_option linter.unusedVariables false
set_option maxRecDepth 10000
theorem pure_spec {P : Program} {f : FuncId} {C : PC} (h : PureOk P f C) {l l' : List SV} {x y : SV} (ha : leAs l l') (hc : ∀ K : SV → Prop, K x → C l' K) (hx : leR 4 x y) : PureOk P f (fun bs K => bs = l ∧ K y) := by
 intro w im bs vs K him hb hC
 obtain ⟨rfl, hK⟩ := hC
 refine (h w im l' vs (fun r => r = x) him (leAs_ok ha hb) (hc _ rfl)).mono ?_
 rintro e w' ⟨r, v, im', rfl, rfl, hv, h4⟩
 exact ⟨y, v, im', rfl, hK, leR_ok 4 hx hv, h4⟩
def ownC : Ck := ⟨[10, 20, 30], [(500, 600), (200, 300), (800, 900)], 0, 10, -1000, 1000⟩
def voyC : List (Int × Int) := [(10, 20), (15, 25)]
def ownA : SV := .agg [(.ints .i64 [10, 20, 30]), (.rd 2 3 (rowOf 2 [(.int .i64 (500)), (.int .i64 (600)), (.int .i64 (200)), (.int .i64 (300)), (.int .i64 (800)), (.int .i64 (900))])), (.int .i64 (0)), (.int .i64 (10)), (.int .i64 (-1000)), (.int .i64 (1000))]
theorem ownA_le : leA ownA ownC.sv := by
 refine .inl ?_
 simp only [ownA, ownC, Ck.sv, leR, leR.leRs, and_self, and_true, true_and]
 exact ⟨rfl, fun i hi => by
  rcases (show i = 0 ∨ i = 1 ∨ i = 2 by simp at hi; omega) with rfl | rfl | rfl <;> rfl⟩
theorem own_ok : ownC.ok := by decide +kernel
theorem voy_ok : voy ownC voyC := by decide +kernel
theorem voyA_le : leA (.rd 2 2 (rowOf 2 [(.int .i64 (10)), (.int .i64 (20)), (.int .i64 (15)), (.int .i64 (25))])) (.rd 2 voyC.length (rowsS voyC)) := by
 refine .inl ⟨rfl, rfl, fun i hi => ?_⟩
 rcases (show i = 0 ∨ i = 1 by simp [voyC] at hi; omega) with rfl | rfl <;> rfl
theorem leA_int {n : Int} : leA (.int .i64 n) (.int .i64 n) := .inl ⟨rfl, rfl⟩
theorem sp14 : PureOk Try.prog 6 (fun bs K => bs = [ownA, (.int .i64 (15)), (.int .i64 (10))] ∧ K (.tup [(.agg [(.int .i64 (350)), (.int .i64 (550))]), (.int .i64 (0))])) := by
 refine pure_spec p14 (l' := [ownC.sv, .int .i64 15, .int .i64 10]) ⟨ownA_le, leA_int, leA_int, trivial⟩ (x := .tup [.agg [.int .i64 (rtR ownC 15 10).1, .int .i64 (rtR ownC 15 10).2], .int .i64 (rtE ownC 15 10)]) (fun K hK => ⟨ownC, 15, 10, rfl, hK⟩) ?_
 have e1 : rtR ownC 15 10 = (350, 550) := by decide +kernel
 have e2 : rtE ownC 15 10 = 0 := by decide +kernel
 rw [e1, e2]
 simp [leR, leR.leRs]
theorem sp14b : PureOk Try.prog 6 (fun bs K => bs = [ownA, (.int .i64 (15)), (.int .i64 (0))] ∧ K (.tup [(.agg [(.int .i64 (350)), (.int .i64 (450))]), (.int .i64 (0))])) := by
 refine pure_spec p14 (l' := [ownC.sv, .int .i64 15, .int .i64 0]) ⟨ownA_le, leA_int, leA_int, trivial⟩ (x := .tup [.agg [.int .i64 (rtR ownC 15 0).1, .int .i64 (rtR ownC 15 0).2], .int .i64 (rtE ownC 15 0)]) (fun K hK => ⟨ownC, 15, 0, rfl, hK⟩) ?_
 have e1 : rtR ownC 15 0 = (350, 450) := by decide +kernel
 have e2 : rtE ownC 15 0 = 0 := by decide +kernel
 rw [e1, e2]
 simp [leR, leR.leRs]
theorem sp14c : PureOk Try.prog 6 (fun bs K => bs = [ownA, (.int .i64 (24)), (.int .i64 (0))] ∧ K (.tup [(.agg [(.int .i64 (440)), (.int .i64 (540))]), (.int .i64 (0))])) := by
 refine pure_spec p14 (l' := [ownC.sv, .int .i64 24, .int .i64 0]) ⟨ownA_le, leA_int, leA_int, trivial⟩ (x := .tup [.agg [.int .i64 (rtR ownC 24 0).1, .int .i64 (rtR ownC 24 0).2], .int .i64 (rtE ownC 24 0)]) (fun K hK => ⟨ownC, 24, 0, rfl, hK⟩) ?_
 have e1 : rtR ownC 24 0 = (440, 540) := by decide +kernel
 have e2 : rtE ownC 24 0 = 0 := by decide +kernel
 rw [e1, e2]
 simp [leR, leR.leRs]
theorem sp14d : PureOk Try.prog 6 (fun bs K => bs = [ownA, (.int .i64 (30)), (.int .i64 (0))] ∧ K (.tup [(.agg [(.int .i64 (800)), (.int .i64 (900))]), (.int .i64 (0))])) := by
 refine pure_spec p14 (l' := [ownC.sv, .int .i64 30, .int .i64 0]) ⟨ownA_le, leA_int, leA_int, trivial⟩ (x := .tup [.agg [.int .i64 (rtR ownC 30 0).1, .int .i64 (rtR ownC 30 0).2], .int .i64 (rtE ownC 30 0)]) (fun K hK => ⟨ownC, 30, 0, rfl, hK⟩) ?_
 have e1 : rtR ownC 30 0 = (800, 900) := by decide +kernel
 have e2 : rtE ownC 30 0 = 0 := by decide +kernel
 rw [e1, e2]
 simp [leR, leR.leRs]
theorem sp18 : PureOk Try.prog 8 (fun bs K => bs = [ownA, (.rd 2 2 (rowOf 2 [(.int .i64 (10)), (.int .i64 (20)), (.int .i64 (15)), (.int .i64 (25))]))] ∧ K (.tup [(.rd 2 2 (rowOf 2 [(.int .i64 (-800)), (.int .i64 (1600)), (.int .i64 (-600)), (.int .i64 (2210))])), (.int .i64 (0))])) := by
 refine pure_spec p18 (l' := [ownC.sv, .rd 2 voyC.length (rowsS voyC)]) ⟨ownA_le, voyA_le, trivial⟩ (x := .tup [.rd 2 (cnR ownC voyC).length (rowsS (cnR ownC voyC)), .int .i64 (askE ownC voyC)]) (fun K hK => ⟨ownC, voyC, rfl, hK⟩) ?_
 have e1 : cnR ownC voyC = [(-800, 1600), (-600, 2210)] := by decide +kernel
 have e2 : askE ownC voyC = 0 := by decide +kernel
 rw [e1, e2]
 refine ⟨⟨rfl, rfl, fun i hi => ?_⟩, ⟨rfl, rfl⟩, trivial⟩
 rcases (show i = 0 ∨ i = 1 by omega) with rfl | rfl <;> rfl
def truC : Tr := ⟨[550, 250, 850], 5, 100, [20, 25]⟩
theorem tru_ok : truT ownC voyC truC := by
 refine ⟨⟨rfl, fun i hi => ?_⟩, by decide, by decide, rfl, fun i hi => ?_⟩
 ·rcases (show i = 0 ∨ i = 1 ∨ i = 2 by simp [ownC] at hi; omega) with rfl | rfl | rfl <;> decide
 ·rcases (show i = 0 ∨ i = 1 by simp [voyC] at hi; omega) with rfl | rfl <;> decide
theorem sp22 : PureOk Try.prog 7 (fun bs K => bs = [ownA, (.rd 2 2 (rowOf 2 [(.int .i64 (10)), (.int .i64 (20)), (.int .i64 (15)), (.int .i64 (25))])), (.agg [(.ints .i64 [550, 250, 850]), (.int .i64 (5)), (.int .i64 (100)), (.ints .i64 [20, 25])])] ∧ K (.tup [(.ints .i64 [350, 905]), (.int .i64 (0))])) := by
 refine pure_spec p22 (l' := [ownC.sv, .rd 2 voyC.length (rowsS voyC), truC.sv]) ⟨ownA_le, voyA_le, .inl (by simp [truC, Tr.sv, leR, leR.leRs]), trivial⟩ (x := .tup [.ints .i64 (erL ownC voyC truC), .int .i64 (erE ownC voyC truC)]) (fun K hK => ⟨ownC, voyC, truC, rfl, hK⟩) ?_
 have e1 : erL ownC voyC truC = [350, 905] := by
  unfold erL
  rw [if_pos ⟨own_ok, voy_ok, tru_ok⟩]
  decide +kernel
 have e2 : erE ownC voyC truC = 0 := by
  unfold erE
  rw [if_pos own_ok, if_pos voy_ok, if_pos tru_ok]
 rw [e1, e2]
 simp [leR, leR.leRs]
end Go.Proofs.Ytlegfejimphfbaa
end
