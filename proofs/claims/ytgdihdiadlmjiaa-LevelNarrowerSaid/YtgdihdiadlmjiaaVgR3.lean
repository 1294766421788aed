import Derived.Test.YtgdihdiadlmjiaaVgR2
set_option linter.all false
namespace Go.Vg
open Go
def Full : Tr -> Nat -> Prop
 | .e, n => n = 0
 | .nd b l r, n => 1 <= n /\ Full l (n / 2) /\ Full r ((n - 1) / 2)
def Tr.st (t : Tr) (i : Nat) (x : Blk) : Tr := t.put i x id
theorem Tr.put_eq {α : Type} : ∀ (t : Tr) (i : Nat) (x : Blk) (k : Tr -> α), t.put i x k = k (t.st i x)
 | .e, _, x, k => rfl
 | .nd b l r, 0, x, k => rfl
 | .nd b l r, i + 1, x, k => by
  unfold Tr.st
  simp only [Tr.put]
  split
  ·rw [Tr.put_eq l, Tr.put_eq l]; rfl
  ·rw [Tr.put_eq r, Tr.put_eq r]; rfl
theorem Tr.st_nd0 (b : Blk) (l r : Tr) (x : Blk) : (Tr.nd b l r).st 0 x = .nd x l r := rfl
theorem Tr.st_ndE (b : Blk) (l r : Tr) (i : Nat) (x : Blk) (h : i % 2 = 0) : (Tr.nd b l r).st (i + 1) x = .nd b (l.st (i / 2) x) r := by
 unfold Tr.st; simp only [Tr.put, h]; rw [Tr.put_eq l]; rfl
theorem Tr.st_ndO (b : Blk) (l r : Tr) (i : Nat) (x : Blk) (h : i % 2 = 1) : (Tr.nd b l r).st (i + 1) x = .nd b l (r.st (i / 2) x) := by
 unfold Tr.st; simp only [Tr.put, h]; rw [Tr.put_eq r]; rfl
theorem Tr.get_ndE (b : Blk) (l r : Tr) (i : Nat) (h : i % 2 = 0) : (Tr.nd b l r).get (i + 1) = l.get (i / 2) := by simp only [Tr.get, h]
theorem Tr.get_ndO (b : Blk) (l r : Tr) (i : Nat) (h : i % 2 = 1) : (Tr.nd b l r).get (i + 1) = r.get (i / 2) := by simp only [Tr.get, h]
theorem Tr.get_st : ∀ (t : Tr) (n i j : Nat) (x : Blk), Full t n -> i <= n -> (t.st i x).get j = if j = i then x else t.get j
 | .e, n, i, j, x, h, hi => by
  have hi : i = 0 := by have h : n = 0 := h; omega
  subst hi
  cases j with
  | zero => rfl
  | succ j => simp only [Tr.st, Tr.put, Tr.get, id]; split <;> simp
 | .nd b l r, n, 0, j, x, h, hi => by
  rw [Tr.st_nd0]
  cases j with
  | zero => rfl
  | succ j => simp [Tr.get]
 | .nd b l r, n, i + 1, j, x, h, hi => by
  obtain ⟨h0, h1, h2⟩ := h
  rcases Nat.mod_two_eq_zero_or_one i with he | ho
  ·rw [Tr.st_ndE _ _ _ _ _ he]
   cases j with
   | zero => simp [Tr.get]
   | succ j =>
    rcases Nat.mod_two_eq_zero_or_one j with hj | hj
    ·rw [Tr.get_ndE _ _ _ _ hj, Tr.get_ndE _ _ _ _ hj, Tr.get_st l (n / 2) (i / 2) (j / 2) x h1 (by omega)]
     have : (j / 2 = i / 2) ↔ (j + 1 = i + 1) := by omega
     simp only [this]
    ·rw [Tr.get_ndO _ _ _ _ hj, Tr.get_ndO _ _ _ _ hj, if_neg (by omega)]
  ·rw [Tr.st_ndO _ _ _ _ _ ho]
   cases j with
   | zero => simp [Tr.get]
   | succ j =>
    rcases Nat.mod_two_eq_zero_or_one j with hj | hj
    ·rw [Tr.get_ndE _ _ _ _ hj, Tr.get_ndE _ _ _ _ hj, if_neg (by omega)]
    ·rw [Tr.get_ndO _ _ _ _ hj, Tr.get_ndO _ _ _ _ hj, Tr.get_st r ((n - 1) / 2) (i / 2) (j / 2) x h2 (by omega)]
     have : (j / 2 = i / 2) ↔ (j + 1 = i + 1) := by omega
     simp only [this]
theorem Tr.full_st : ∀ (t : Tr) (n i : Nat) (x : Blk), Full t n -> i <= n -> Full (t.st i x) (if i = n then n + 1 else n)
 | .e, n, i, x, h, hi => by
  have h : n = 0 := h
  have hi : i = 0 := by omega
  subst hi; subst h
  exact ⟨Nat.le_refl _, rfl, rfl⟩
 | .nd b l r, n, 0, x, h, hi => by
  obtain ⟨h0, h1, h2⟩ := h
  rw [Tr.st_nd0, if_neg (by omega)]
  exact ⟨h0, h1, h2⟩
 | .nd b l r, n, i + 1, x, h, hi => by
  obtain ⟨h0, h1, h2⟩ := h
  rcases Nat.mod_two_eq_zero_or_one i with he | ho
  ·rw [Tr.st_ndE _ _ _ _ _ he]
   have := Tr.full_st l (n / 2) (i / 2) x h1 (by omega)
   split
   ·rw [if_pos (by omega)] at this
    exact ⟨by omega, by rw [show (n + 1) / 2 = n / 2 + 1 by omega]; exact this, by rw [show (n + 1 - 1) / 2 = (n - 1) / 2 by omega]; exact h2⟩
   ·rw [if_neg (by omega)] at this
    exact ⟨h0, this, h2⟩
  ·rw [Tr.st_ndO _ _ _ _ _ ho]
   have := Tr.full_st r ((n - 1) / 2) (i / 2) x h2 (by omega)
   split
   ·rw [if_pos (by omega)] at this
    exact ⟨by omega, by rw [show (n + 1) / 2 = n / 2 by omega]; exact h1, by rw [show (n + 1 - 1) / 2 = (n - 1) / 2 + 1 by omega]; exact this⟩
   ·rw [if_neg (by omega)] at this
    exact ⟨h0, h1, this⟩
theorem xSz {α : Type} (n : Nat) (k : Nat -> α) : sucK n k = k (n + 1) := by cases n <;> rfl
structure HRel (h : HT) (hp : List Blk) : Prop where
 n : h.n = ln hp
 g : h.get = gb hp
 f : Full h.t h.n
theorem xFn : ∀ (hp : List Blk) (b : Blk) (l : Nat), gb (pb hp b) l = if l = ln hp then b else gb hp l
 | [], b, 0 => rfl
 | [], b, l + 1 => by simp [pb, gb, ln]
 | x :: t, b, 0 => by simp [pb, gb, ln]
 | x :: t, b, l + 1 => by simp [pb, gb, ln, xFn t b l]
theorem xCu : ∀ (hp : List Blk) (b : Blk) (i l : Nat), i < ln hp -> gb (sb hp i b) l = if l = i then b else gb hp l
 | [], b, i, l, h => by simp [ln] at h
 | x :: t, b, 0, 0, h => rfl
 | x :: t, b, 0, l + 1, h => by simp [sb, gb]
 | x :: t, b, i + 1, 0, h => by simp [sb, gb]
 | x :: t, b, i + 1, l + 1, h => by simp [sb, gb, xCu t b i l (by simpa [ln] using h)]
theorem ln_pb (hp : List Blk) (b : Blk) : ln (pb hp b) = ln hp + 1 := by simp [xBn, xCz]
theorem ln_sb (hp : List Blk) (i : Nat) (b : Blk) : ln (sb hp i b) = ln hp := by simp [xBn, xEf]
theorem xMj : ∀ {hp : List Blk} {l : Nat}, gb hp l ≠ .dead -> l < ln hp
 | [], l, h => by simp [gb] at h
 | x :: t, 0, h => by simp [ln]
 | x :: t, l + 1, h => by simpa [ln] using xMj (hp := t) (by simpa [gb] using h)
def HT.pushed (h : HT) (b : Blk) : HT := ⟨h.n + 1, h.w, h.t.st h.n b⟩
def HT.setd (h : HT) (l : Nat) (b : Blk) : HT := ⟨h.n, if h.w <= l then h.w else l, h.t.st l b⟩
theorem HT.push_eq {α : Type} (h : HT) (b : Blk) (k : HT -> α) : h.push b k = k (h.pushed b) := by
 simp [HT.push, Tr.put_eq, xSz, HT.pushed]
theorem HT.set_eq {α : Type} (h : HT) (l : Nat) (b : Blk) (k : HT -> α) : h.set l b k = k (h.setd l b) := by
 simp only [HT.set, Tr.put_eq, HT.setd]
 cases hb : Nat.ble h.w l
 ·have : ¬ h.w <= l := by intro hle; rw [Nat.ble_eq_true_of_le hle] at hb; cases hb
  simp [this]
 ·simp [Nat.le_of_ble_eq_true hb]
theorem HRel.push {h : HT} {hp : List Blk} (r : HRel h hp) (b : Blk) : HRel (h.pushed b) (pb hp b) := by
 refine ⟨by rw [ln_pb, <- r.n]; rfl, ?_, ?_⟩
 ·funext l
  show (h.t.st h.n b).get l = _
  rw [Tr.get_st h.t h.n h.n l b r.f (Nat.le_refl _), xFn, <- r.n, <- r.g]; rfl
 ·have := Tr.full_st h.t h.n h.n b r.f (Nat.le_refl _)
  rw [if_pos rfl] at this; exact this
theorem HRel.set {h : HT} {hp : List Blk} (r : HRel h hp) {l : Nat} (b : Blk) (hl : l < h.n) : HRel (h.setd l b) (sb hp l b) := by
 refine ⟨by rw [ln_sb, <- r.n]; rfl, ?_, ?_⟩
 ·funext j
  show (h.t.st l b).get j = _
  rw [Tr.get_st h.t h.n l j b r.f (Nat.le_of_lt hl), xCu _ _ _ _ (by rw [<- r.n]; exact hl), <- r.g]; rfl
 ·have := Tr.full_st h.t h.n l b r.f (Nat.le_of_lt hl)
  rw [if_neg (by omega)] at this; exact this
theorem HRel.lt {h : HT} {hp : List Blk} (r : HRel h hp) {l : Nat} {b : Blk} (hg : h.get l = b) (hb : b ≠ .dead) : l < h.n := by
 rw [r.n]; exact xMj (by rw [<- r.g, hg]; exact hb)
theorem HRel.nil (w : Nat) : HRel ⟨0, w, .e⟩ [] := ⟨rfl, by funext l; rfl, rfl⟩
structure Frm (h h' : HT) : Prop where
 n : h.n <= h'.n
 w : h'.w <= h.w
 g : ∀ l, l < h'.w -> l < h.n -> h'.get l = h.get l
theorem Frm.refl (h : HT) : Frm h h := ⟨Nat.le_refl _, Nat.le_refl _, fun _ _ _ => rfl⟩
theorem Frm.trans {a b c : HT} (h : Frm a b) (k : Frm b c) : Frm a c :=
 ⟨Nat.le_trans h.n k.n, Nat.le_trans k.w h.w, fun l h1 h2 => (k.g l h1 (Nat.lt_of_lt_of_le h2 h.n)).trans (h.g l (Nat.lt_of_lt_of_le h1 k.w) h2)⟩
theorem Frm.push {h : HT} (hf : Full h.t h.n) (b : Blk) : Frm h (h.pushed b) :=
 ⟨Nat.le_succ _, Nat.le_refl _, fun l _ h2 => by
  show (h.t.st h.n b).get l = _
  rw [Tr.get_st h.t h.n h.n l b hf (Nat.le_refl _), if_neg (by omega)]; rfl⟩
theorem Frm.set {h : HT} (hf : Full h.t h.n) {l : Nat} (b : Blk) (hl : l < h.n) : Frm h (h.setd l b) :=
 ⟨Nat.le_refl _, by show (if h.w <= l then h.w else l) <= h.w; split <;> omega, fun j h1 h2 => by
  have h1 : j < if h.w <= l then h.w else l := h1
  show (h.t.st l b).get j = _
  rw [Tr.get_st h.t h.n l j b hf (Nat.le_of_lt hl), if_neg (by split at h1 <;> omega)]; rfl⟩
theorem xGj {α : Type} : ∀ (fr : List SV) (i : Nat) (x : SV) (k : List SV -> α), stK fr i x k = k (st fr i x)
 | [], _, _, _ => rfl
 | _ :: _, 0, _, _ => rfl
 | _ :: t, i + 1, x, k => by simp [stK, xGj t, st]
theorem xBd {α : Type} (fr : List SV) (d : Option Nat) (x : SV) (k : List SV -> α) : putB fr d x k = k (putf fr d x) := by
 cases d <;> simp [putB, putf, xGj]
def nrm : SV -> SV
 | .bool b => .lit (.bool b)
 | x => x
theorem xBl {α : Type} (x : SV) (k : SV -> α) : frcV x k = k (nrm x) := by
 cases x <;> simp [frcV, nrm, xLy]
 rename_i b; cases b <;> rfl
theorem xFo {E : Env} {x : SV} {v : Value} (h : Rv E x v) : Rv E (nrm x) v := by
 cases x <;> first | exact h | skip
 rw [h.boolE]; exact .lit _
def slOB {α : Type} (h : HT) (x : SV) (k : SV -> HT -> Option α) : Option α :=
 match x with
 | .own l => match h.get l with
  | .oi q t xs => h.set l (.fz (.ints q xs)) fun h => k (.ints q xs) h
  | .orw t sz len f => h.set l (.fz (.rd sz len f)) fun h => k (.rd sz len f) h
  | .fz (.ints q xs) => k (.ints q xs) h
  | .fz (.rd sz len f) => k (.rd sz len f) h
  | _ => none
 | .ints q xs => k (.ints q xs) h
 | .clip q xs => k (.ints q xs) h
 | .rd sz len f => k (.rd sz len f) h
 | .clipr sz len f => k (.rd sz len f) h
 | .lit (.slice none 0 0) => k (.lit (.slice none 0 0)) h
 | _ => none
def lez (a b : Int) : Bool := decide (a <= b)
def slvB (sz : Nat) (x : SV) (lo hi mx : Option Int) : Option SV :=
 match x, mx with
 | .ints k xs, none => chk (Nat.beq sz 1 && lez 0 (od 0 lo) && lez (od 0 lo) (od xs.length hi) && lez (od xs.length hi) xs.length) (.ints k ((xs.drop (od 0 lo).toNat).take (od xs.length hi - od 0 lo).toNat))
 | .ints k xs, some m => chk (Nat.beq sz 1 && lez 0 (od 0 lo) && lez (od 0 lo) m && decide (hi = some m) && lez m xs.length) (.clip k ((xs.drop (od 0 lo).toNat).take (m - od 0 lo).toNat))
 | .rd sz' len f, none => chk (Nat.beq sz sz' && lez 0 (od 0 lo) && lez (od 0 lo) (od len hi) && lez (od len hi) len) (.rd sz' (od len hi - od 0 lo).toNat (fun i => f ((od 0 lo).toNat + i)))
 | .rd sz' len f, some m => chk (Nat.beq sz sz' && lez 0 (od 0 lo) && lez (od 0 lo) m && decide (hi = some m) && lez m len) (.clipr sz' (m - od 0 lo).toNat (fun i => f ((od 0 lo).toNat + i)))
 | .lit (.slice none 0 0), mx => chk (decide (od 0 lo = 0) && decide (od 0 hi = 0) && decide (od 0 mx = 0) && decide (mx = none \/ hi ≠ none)) (.lit (.slice none 0 0))
 | _, _ => none
theorem xKf {sz : Nat} {x y : SV} {lo hi mx : Option Int} (h : slvB sz x lo hi mx = some y) : Got (slv sz x lo hi mx) y := by
 unfold slvB at h
 unfold slv
 split at h <;> first | (cases h; done) | skip
 all_goals
  obtain ⟨h1, rfl⟩ := xBv h
  simp only [Bool.and_eq_true, lez, decide_eq_true_eq] at h1
  refine ⟨_, rfl, ?_⟩
 ·exact ⟨xAc h1.1.1.1, h1.1.1.2, h1.1.2, h1.2⟩
 ·exact ⟨xAc h1.1.1.1.1, h1.1.1.1.2, h1.1.1.2, h1.1.2, h1.2⟩
 ·exact ⟨xAc h1.1.1.1, h1.1.1.2, h1.1.2, h1.2⟩
 ·exact ⟨xAc h1.1.1.1.1, h1.1.1.1.2, h1.1.1.2, h1.1.2, h1.2⟩
 ·exact ⟨h1.1.1.1, h1.1.1.2, h1.1.2, h1.2⟩
theorem xTa {α : Type} {h : HT} {hp : List Blk} (r : HRel h hp) {x : SV} {k : SV -> HT -> Option α} {res : α} (e : slOB h x k = some res) :
  ∃ x' h' hp', HRel h' hp' /\ Frm h h' /\ slO hp x = some (x', hp') /\ k x' h' = some res := by
 unfold slOB at e
 unfold slO
 split at e <;> first | (cases e; done) | skip
 ·rename_i l
  rw [r.g] at e
  split at e <;> first | (cases e; done) | skip
  ·rename_i q t xs hg
   rw [HT.set_eq] at e
   simp only [hg]
   have hl := r.lt (b := .oi q t xs) (by rw [r.g]; exact hg) (by simp)
   exact ⟨_, _, _, r.set _ hl, .set r.f _ hl, rfl, e⟩
  ·rename_i t sz len f hg
   rw [HT.set_eq] at e
   simp only [hg]
   have hl := r.lt (b := .orw t sz len f) (by rw [r.g]; exact hg) (by simp)
   exact ⟨_, _, _, r.set _ hl, .set r.f _ hl, rfl, e⟩
  ·rename_i hg; simp only [hg]; exact ⟨_, _, _, r, .refl _, rfl, e⟩
  ·rename_i hg; simp only [hg]; exact ⟨_, _, _, r, .refl _, rfl, e⟩
 all_goals exact ⟨_, _, _, r, .refl _, rfl, e⟩
end Go.Vg
