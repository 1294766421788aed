import Derived.Test.YtgdihdiadlmjiaaVgR1
set_option linter.all false
namespace Go.Vg
open Go
theorem xBv {b : Bool} {x y : SV} (h : chk b x = some y) : b = true /\ x = y := by
 cases b <;> simp [chk] at h; exact ⟨rfl, h⟩
theorem xLy {α : Type} (n : Int) (k : Int -> α) : frc n k = k n := by
 unfold frc
 cases n with
 | ofNat m => cases m <;> rfl
 | negSucc m => cases m <;> rfl
theorem xFr {k : IntKind} {n : Int} (h : inRB k n = true) : InR k n := by cases k <;> simpa [inRB, InR] using h
theorem xPh {k : IntKind} {n : Int} (h : inQB k n = true) : InQ k n := by cases k <;> simpa [inQB, InQ] using h
theorem xDq {i : Int} {n : Nat} (h : ixB i n = true) : 0 <= i /\ i < n := by simpa [ixB] using h
theorem xAc {a b : Nat} (h : Nat.beq a b = true) : a = b := Nat.eq_of_beq_eq_true h
theorem xPi : ∀ (a b : List Int), eqlB a b = decide (a = b)
 | [], [] => by simp [eqlB]
 | [], _ :: _ => by simp [eqlB]
 | _ :: _, [] => by simp [eqlB]
 | a :: s, b :: t => by simp [eqlB, xPi s t]
def Got (r : Option (Prop × SV)) (x : SV) : Prop := ∃ p, r = some (p, x) /\ p
theorem xQp {op : BinOp} {k k' : IntKind} {a b : Int} {x : SV} (h : binB2 op k k' a b = some x) : Got (bin op k k' a b) x := by
 unfold binB2 at h
 simp only [xLy] at h
 split at h <;> first | (cases h; done) | skip
 all_goals
  obtain ⟨h1, rfl⟩ := xBv h
  refine ⟨_, rfl, ?_⟩
  try simp only [Bool.and_eq_true, Bool.not_eq_true', decide_eq_false_iff_not] at h1
  first
   | exact xBt h1
   | exact ⟨⟨of_decide_eq_true h1.1.1, Nat.le_of_ble_eq_true h1.1.2⟩, xFr h1.2⟩
   | exact ⟨of_decide_eq_true h1.1, Nat.le_of_ble_eq_true h1.2⟩
   | exact ⟨xBt h1.1, ⟨of_decide_eq_true h1.2.1.1, of_decide_eq_true h1.2.1.2⟩, of_decide_eq_true h1.2.2.1, of_decide_eq_true h1.2.2.2⟩
   | exact ⟨xBt h1.1, xFr h1.2⟩
   | exact ⟨xBt h1.1.1, h1.1.2, xFr h1.2⟩
   | exact ⟨xBt h1.1, h1.2⟩
theorem xTh {hp : List Blk} {sz : Nat} {i : Int} {x y : SV} (h : ixsB (gb hp) sz i x = some y) : Got (ixs hp sz i x) y := by
 unfold ixsB at h
 unfold ixs
 split at h <;> first | (cases h; done) | skip
 ·obtain ⟨h1, rfl⟩ := xBv h
  rw [Bool.and_eq_true] at h1
  exact ⟨_, rfl, xAc h1.1, xDq h1.2⟩
 ·obtain ⟨h1, rfl⟩ := xBv h
  rw [Bool.and_eq_true] at h1
  exact ⟨_, rfl, xAc h1.1, xDq h1.2⟩
 ·obtain ⟨h1, rfl⟩ := xBv h
  rw [Bool.and_eq_true] at h1
  exact ⟨_, rfl, xAc h1.1, xDq h1.2⟩
 ·obtain ⟨h1, rfl⟩ := xBv h
  rw [Bool.and_eq_true] at h1
  exact ⟨_, rfl, xAc h1.1, xDq h1.2⟩
 ·obtain ⟨h1, rfl⟩ := xBv h
  exact ⟨_, rfl, xDq h1⟩
 ·obtain ⟨h1, rfl⟩ := xBv h
  exact ⟨_, rfl, xDq h1⟩
 ·rename_i l
  split at h <;> first | (cases h; done) | skip
  all_goals
   rename_i hg
   simp only [hg]
   obtain ⟨h1, rfl⟩ := xBv h
   rw [Bool.and_eq_true] at h1
   exact ⟨_, rfl, xAc h1.1, xDq h1.2⟩
theorem xQq {hp : List Blk} {x : SV} : lensB (gb hp) x = lens hp x := by
 unfold lensB lens; rfl
theorem xTi {hp : List Blk} {n : Option Nat} {x y : SV} (h : ldaB (gb hp) n x = some y) : Got (lda hp n x) y := by
 unfold ldaB at h
 unfold lda
 split at h <;> first | (cases h; done) | skip
 ·simp only [h]; exact ⟨_, rfl, trivial⟩
 ·split at h <;> first | (cases h; done) | skip
  all_goals
   rename_i hg
   simp only [hg, h]; exact ⟨_, rfl, trivial⟩
 ·split at h <;> first | (cases h; done) | skip
  ·rename_i hg
   simp only [hg]
   split at h <;> first | (cases h; done) | skip
   obtain ⟨h1, rfl⟩ := xBv h
   simp only [Bool.and_eq_true, decide_eq_true_eq] at h1
   exact ⟨_, rfl, xAc h1.1, h1.2⟩
  ·rename_i hg
   simp only [hg]
   split at h
   ·rename_i hc
    obtain ⟨h1, _⟩ := xBv hc
    simp only [Bool.and_eq_true, decide_eq_true_eq] at h1
    simp only [h]
    exact ⟨_, rfl, xAc h1.1, h1.2⟩
   ·cases h
theorem xFs : ∀ {ks : List (Option IntKind)} {xs : List SV} {l : List Int}, fitB ks xs = some l -> ∃ p, fit ks xs = some (p, l) /\ p
 | [], [], l, h => by simp [fitB] at h; subst h; exact ⟨_, rfl, trivial⟩
 | none :: ks, x :: xs, l, h => by
  simp only [fitB] at h
  split at h
  ·rename_i b l' h1 h2
   cases h
   obtain ⟨p, h3, h4⟩ := xFs h2
   exact ⟨p, by simp only [fit, h1, h3], h4⟩
  ·cases h
 | some k :: ks, x :: xs, l, h => by
  unfold fitB at h
  split at h <;> first | (cases h; done) | skip
  all_goals first | (rename_i e1 e2; cases e1; done) | skip
  ·rename_i k0 ks0 k' n xs0 heq1 heq2
   cases heq1; cases heq2
   split at h
   ·rename_i hk
    rw [Bool.and_eq_true] at hk
    split at h
    ·rename_i l' h2
     cases h
     obtain ⟨p, h3, h4⟩ := xFs h2
     exact ⟨(k' = k /\ InQ k n) /\ p, by simp only [fit, h3], ⟨xBt hk.1, xPh hk.2⟩, h4⟩
    ·cases h
   ·cases h
 | [], _ :: _, l, h => by simp [fitB] at h
 | none :: _, [], l, h => by simp [fitB] at h
 | some _ :: _, [], l, h => by simp [fitB] at h
theorem xQr {hp : List Blk} {x : SV} {b : Bool} (h : nilqB (gb hp) x = some b) : ∃ p, nilq hp x = some (p, b) /\ p := by
 unfold nilqB at h
 split at h <;> first | (cases h; done) | skip
 ·cases h; exact ⟨_, rfl, trivial⟩
 ·rename_i k xs
  cases xs <;> simp at h
  subst h; exact ⟨_, rfl, by simp⟩
 ·rename_i k xs
  cases xs <;> simp at h
  subst h; exact ⟨_, rfl, by simp⟩
 ·rename_i sz len f
  cases len <;> simp at h
  subst h; exact ⟨_, rfl, by omega⟩
 ·cases h; exact ⟨_, rfl, trivial⟩
 ·cases h; exact ⟨_, rfl, trivial⟩
 ·rename_i l
  split at h <;> first | (cases h; done) | skip
  ·rename_i k t xs hg
   cases xs <;> simp at h
   subst h
   refine ⟨_ ≠ [], by simp only [nilq, hg]; rfl, List.cons_ne_nil _ _⟩
  ·rename_i t sz len f hg
   cases len <;> simp at h
   subst h
   exact ⟨0 < _, by simp only [nilq, hg]; rfl, Nat.succ_pos _⟩
  ·rename_i k xs hg
   cases xs <;> simp at h
   subst h
   refine ⟨_ ≠ [], by simp only [nilq, hg]; rfl, List.cons_ne_nil _ _⟩
  ·rename_i sz len f hg
   cases len <;> simp at h
   subst h
   exact ⟨0 < _, by simp only [nilq, hg]; rfl, Nat.succ_pos _⟩
theorem xPj {fr : List SV} {hp : List Blk} {vo : VOp} {x : SV} (h : evpB fr (gb hp) vo = some x) : Got (evp fr hp vo) x := by
 cases vo with
 | mov y => simp only [evpB, Option.some.injEq] at h; subst h; exact ⟨_, rfl, trivial⟩
 | pick c a b =>
  simp only [evpB] at h
  unfold Got
  simp only [evp]
  split at h <;> first | (cases h; done) | skip
  all_goals (rename_i hc; cases h; simp only [hc]; exact ⟨_, rfl, trivial⟩)
 | bin op y z =>
  simp only [evpB] at h
  unfold Got
  simp only [evp]
  split at h <;> first | (cases h; done) | skip
  rename_i h1 h2
  simp only [h1, h2]
  exact xQp h
 | binb op y z =>
  simp only [evpB] at h
  unfold Got
  simp only [evp]
  split at h <;> first | (cases h; done) | skip
  rename_i h1 h2
  simp only [h1, h2]
  split at h <;> first | (cases h; done) | skip
  all_goals (cases h; exact ⟨_, rfl, trivial⟩)
 | neg y =>
  simp only [evpB, xLy] at h
  unfold Got
  simp only [evp]
  split at h <;> first | (cases h; done) | skip
  rename_i h1
  simp only [h1]
  obtain ⟨h2, rfl⟩ := xBv h
  exact ⟨_, rfl, xFr h2⟩
 | not y =>
  simp only [evpB] at h
  unfold Got
  simp only [evp]
  split at h <;> first | (cases h; done) | skip
  all_goals (rename_i hc; cases h; simp only [hc]; exact ⟨_, rfl, trivial⟩)
 | conv k y =>
  simp only [evpB] at h
  unfold Got
  simp only [evp]
  split at h <;> first | (cases h; done) | skip
  rename_i h1
  simp only [h1]
  obtain ⟨h2, rfl⟩ := xBv h
  exact ⟨_, rfl, xFr h2⟩
 | ifc t y => simp only [evpB, Option.some.injEq] at h; subst h; exact ⟨_, rfl, trivial⟩
 | mkfn f cs => simp only [evpB, Option.some.injEq] at h; subst h; exact ⟨_, rfl, trivial⟩
 | mkmv f a b => simp only [evpB, Option.some.injEq] at h; subst h; exact ⟨_, rfl, trivial⟩
 | off y k =>
  simp only [evpB] at h
  unfold Got
  simp only [evp]
  split at h <;> first | (cases h; done) | skip
  all_goals (rename_i hc; cases h; simp only [hc]; exact ⟨_, rfl, trivial⟩)
 | fld y off n =>
  simp only [evpB] at h
  unfold Got
  simp only [evp]
  split at h <;> first | (cases h; done) | skip
  rename_i hc
  simp only [hc, h]; exact ⟨_, rfl, trivial⟩
 | ixa y i sz =>
  simp only [evpB] at h
  unfold Got
  simp only [evp]
  split at h <;> first | (cases h; done) | skip
  rename_i hc
  simp only [hc]; exact xTh h
 | ixarr y i len sz =>
  simp only [evpB] at h
  unfold Got
  simp only [evp]
  split at h <;> first | (cases h; done) | skip
  rename_i hc
  split at h <;> first | (cases h; done) | skip
  all_goals
   rename_i hd
   simp only [hc, hd]
   obtain ⟨h1, rfl⟩ := xBv h
   exact ⟨_, rfl, xDq h1⟩
 | ixv y i len sz n =>
  simp only [evpB] at h
  unfold Got
  simp only [evp]
  split at h <;> first | (cases h; done) | skip
  rename_i hc hd
  split at h
  ·rename_i hi
   simp only [hc, hd, h]
   exact ⟨_, rfl, xDq hi⟩
  ·cases h
 | load y n => simp only [evpB] at h; exact xTi h
 | len y =>
  simp only [evpB, xQq] at h
  unfold Got
  simp only [evp]
  split at h <;> first | (cases h; done) | skip
  rename_i hc
  cases h
  simp only [hc]; exact ⟨_, rfl, trivial⟩
 | ext y i =>
  simp only [evpB] at h
  unfold Got
  simp only [evp]
  split at h <;> first | (cases h; done) | skip
  rename_i hc
  simp only [hc, h]; exact ⟨_, rfl, trivial⟩
 | slc => simp [evpB] at h
 | max2 y z =>
  simp only [evpB] at h
  unfold Got
  simp only [evp]
  split at h <;> first | (cases h; done) | skip
  rename_i h1 h2
  cases h
  simp only [h1, h2]; exact ⟨_, rfl, trivial⟩
 | min2 y z =>
  simp only [evpB] at h
  unfold Got
  simp only [evp]
  split at h <;> first | (cases h; done) | skip
  rename_i h1 h2
  cases h
  simp only [h1, h2]; exact ⟨_, rfl, trivial⟩
 | mx3 mn y z u =>
  simp only [evpB] at h
  unfold Got
  simp only [evp]
  split at h <;> first | (cases h; done) | skip
  rename_i h1 h2 h3
  cases h
  simp only [h1, h2, h3]; exact ⟨_, rfl, trivial⟩
 | eqs ks ng y z =>
  simp only [evpB] at h
  unfold Got
  simp only [evp]
  split at h <;> first | (cases h; done) | skip
  rename_i h1 h2
  split at h <;> first | (cases h; done) | skip
  rename_i a b h3 h4
  cases h
  obtain ⟨p, h5, h6⟩ := xFs h3
  obtain ⟨q, h7, h8⟩ := xFs h4
  simp only [h1, h2, h5, h7]
  exact ⟨p /\ q, by simp only [xPi], h6, h8⟩
 | isnil ng y =>
  simp only [evpB] at h
  unfold Got
  simp only [evp]
  split at h <;> first | (cases h; done) | skip
  rename_i b hb
  cases h
  obtain ⟨p, h1, h2⟩ := xQr hb
  simp only [h1]; exact ⟨_, rfl, h2⟩
 | mkmm m x => cases h; exact ⟨True, rfl, trivial⟩
 | strl x => simp only [evpB] at h; unfold Got; simp only [evp, h, tt]; exact ⟨_, rfl, trivial⟩
 | nckv y =>
  simp only [evpB] at h
  split at h
  ·rename_i hn; cases h; exact ⟨True, by simp only [evp, hn], trivial⟩
  ·cases h
 | stri x i => simp only [evpB] at h; unfold Got; simp only [evp, h, tt]; exact ⟨_, rfl, trivial⟩
 | strb op x y => simp only [evpB] at h; unfold Got; simp only [evp, h, tt]; exact ⟨_, rfl, trivial⟩
end Go.Vg
