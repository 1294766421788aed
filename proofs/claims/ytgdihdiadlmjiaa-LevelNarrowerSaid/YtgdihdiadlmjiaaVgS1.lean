import Derived.Test.YtgdihdiadlmjiaaVgV3
set_option linter.all false
namespace Go.Vg
open Go
def od (d : Int) : Option Int -> Int
 | none => d
 | some n => n
def bndV : Option Int -> Option Value -> Prop
 | none, none => True
 | some n, some (.int _ m) => n = m
 | _, _ => False
variable {P : Program}
theorem xDe {t e : TypeId} {d : TypeInfo} (ht : P.underlying t = some (.slice e)) (hd : P.info? e = some d) (w : World) (a : Option Addr) (len cap : Nat) (lo hi mx : Option Int) (lo' hi' mx' : Option Value)
  (b1 : bndV lo lo') (b2 : bndV hi hi') (b3 : bndV mx mx') (h1 : 0 <= od 0 lo) (h2 : od 0 lo <= od len hi) (h3 : od len hi <= od cap mx) (h4 : od cap mx <= cap) (h5 : mx = none \/ hi ≠ none) :
  (Instr.sliceAt t (.slice a len cap) lo' hi' mx').run P w = .ok (.slice (if (od cap mx).toNat = (od 0 lo).toNat then a else a.map (·.add ((od 0 lo).toNat * d.size))) ((od len hi).toNat - (od 0 lo).toNat) ((od cap mx).toNat - (od 0 lo).toNat)) w := by
 have key : (Instr.sliceBounds true len cap lo' hi' mx').run P w = .ok ((od 0 lo).toNat, (od len hi).toNat, (od cap mx).toNat) w := by
  have go : ∀ {l : Option Int} {v : Value}, bndV l (some v) -> ∃ k n, l = some n /\ v = .int k n := by
   intro l v h
   cases l with
   | none => exact h.elim
   | some n => cases v <;> first | exact h.elim | exact ⟨_, _, rfl, by rw [show n = _ from h]⟩
  have nn : ∀ {l : Option Int}, bndV l none -> l = none := by
   intro l h; cases l with
   | none => rfl
   | some n => exact h.elim
  cases mx' with
  | none =>
   obtain rfl := nn b3
   simp only [od] at h3 h4
   cases hi' with
   | none =>
    obtain rfl := nn b2
    simp only [od] at h2 h3
    cases lo' with
    | none => obtain rfl := nn b1; simp [Instr.sliceBounds, od]
    | some v =>
     obtain ⟨k, n, rfl, rfl⟩ := go b1
     simp only [od] at h1 h2
     simp [Instr.sliceBounds, Instr.sliceBound, asIntOf, od, h1, h2]
   | some u =>
    obtain ⟨k2, m, rfl, rfl⟩ := go b2
    simp only [od] at h2 h3
    have h0 : 0 <= m := Int.le_trans h1 h2
    cases lo' with
    | none => obtain rfl := nn b1; simp [Instr.sliceBounds, Instr.sliceBound, asIntOf, od, h0, h3]
    | some v =>
     obtain ⟨k, n, rfl, rfl⟩ := go b1
     simp only [od] at h1 h2
     have h2' : n <= ↑m.toNat := by omega
     simp only [Instr.sliceBounds, Instr.sliceBound, asIntOf, Sem.run_bind, Sem.run_pure, Result.andThen_ok, h0, h3, h1, h2', and_self, if_true, od]
     simp [Instr.sliceBound, asIntOf, h0, h3, h1, h2']
  | some x =>
   obtain ⟨k3, q, rfl, rfl⟩ := go b3
   cases hi' with
   | none => obtain rfl := nn b2; rcases h5 with h | h <;> simp at h
   | some u =>
    obtain ⟨k2, m, rfl, rfl⟩ := go b2
    simp only [od] at h2 h3 h4
    have h0 : 0 <= m := Int.le_trans h1 h2
    have hq : 0 <= q := Int.le_trans h0 h3
    obtain ⟨q, rfl⟩ := Int.eq_ofNat_of_zero_le hq
    obtain ⟨m, rfl⟩ := Int.eq_ofNat_of_zero_le h0
    have h3 : m <= q := by omega
    have h4 : q <= cap := by omega
    cases lo' with
    | none =>
     obtain rfl := nn b1
     simp [Instr.sliceBounds, Instr.sliceBound, asIntOf, od, h3, h4]
    | some v =>
     obtain ⟨k, n, rfl, rfl⟩ := go b1
     simp only [od] at h1 h2
     obtain ⟨n, rfl⟩ := Int.eq_ofNat_of_zero_le h1
     have h2 : n <= m := by omega
     simp [Instr.sliceBounds, Instr.sliceBound, asIntOf, od, h2, h3, h4]
 simp [Instr.sliceAt, run_underlying ht, Instr.slice, key, sizeOf, typeInfo, hd]
end Go.Vg
