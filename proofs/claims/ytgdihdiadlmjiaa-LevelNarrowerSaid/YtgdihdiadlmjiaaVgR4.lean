import Derived.Test.YtgdihdiadlmjiaaVgR3
set_option linter.all false
namespace Go.Vg
open Go
def small (n bytes : Nat) : Bool := decide (n * bytes <= 140737488355328) && decide (n <= 9223372036854775807)
theorem xAt {n bytes : Nat} (h : small n bytes = true) : n * bytes <= 140737488355328 /\ n <= 9223372036854775807 := by simpa [small] using h
def appB2 {α : Type} (h : HT) (l m e sz bytes : Nat) (b1 b2 : Blk) (k : SV -> HT -> Option α) : Option α :=
 match b1, b2, m with
 | .oi kk t xs, .box _ [.int k' y], 1 => match ikq kk k' && Nat.beq t e && Nat.beq sz 1 && small (xs.length + 1) bytes with
  | true => h.set l .dead fun h => h.push (.oi kk t (xs ++ [y])) fun h' => k (.own h.n) h'
  | false => none
 | .orw t sz' len f, .box _ cs, 1 => match Nat.beq t e && Nat.beq sz' sz && Nat.beq (ll cs) sz && allOne cs && clo.clos 8 cs && decide (0 < sz) && small (len + 1) bytes with
  | true => h.set l .dead fun h => h.push (.orw t sz (len + 1) (fun i => if i < len then f i else cs)) fun h' => k (.own h.n) h'
  | false => none
 | _, _, _ => none
def appCB {α : Type} (h : HT) (kk : Option IntKind) (xs : List Int) (b : Blk) (m e sz bytes : Nat) (k : SV -> HT -> Option α) : Option α :=
 match b, m with
 | .box _ [.int k' y], 1 => match (match kk with
   | some q => ikq q k'
   | none => false) || xs.isEmpty with
  | true => match Nat.beq sz 1 && small (xs.length + 1) bytes with
   | true => h.push (.oi k' e (xs ++ [y])) fun h' => k (.own h.n) h'
   | false => none
  | false => none
 | _, _ => none
def appDB {α : Type} (h : HT) (len : Nat) (cs1 : List SV) (b2 : Blk) (m e sz bytes : Nat) (k : SV -> HT -> Option α) : Option α :=
 match b2 with
 | .box _ cs2 => match Nat.beq m 1 && (Nat.beq (ll cs1) (len * sz) && (Nat.beq (ll cs2) sz && (clo.clos 8 cs1 && (clo.clos 8 cs2 && (Nat.blt 0 sz && small (len + 1) bytes))))) with
  | true => h.push (.orw e sz (len + 1) (fun i => if i < len then rowOf sz cs1 i else cs2)) fun h' => k (.own h.n) h'
  | false => none
 | _ => none
def appEB {α : Type} (h : HT) (sz' len : Nat) (f : Nat -> List SV) (b2 : Blk) (m e sz bytes : Nat) (k : SV -> HT -> Option α) : Option α :=
 match b2 with
 | .box _ cs2 => match Nat.beq m 1 && ((Nat.beq sz' sz || Nat.beq len 0) && (Nat.beq (ll cs2) sz && (clo.clos 8 cs2 && (Nat.blt 0 sz && small (len + 1) bytes)))) with
  | true => h.push (.orw e sz (len + 1) (fun i => if i < len then f i else cs2)) fun h' => k (.own h.n) h'
  | false => none
 | _ => none
def allOneN (g : Nat -> List SV) : Nat -> Bool
 | 0 => true
 | n + 1 => match allOne (g n) with
  | true => allOneN g n
  | false => false
theorem xGl {g : Nat -> List SV} : ∀ {n : Nat}, allOneN g n = true -> ∀ i, i < n -> allOne (g i) = true
 | 0, _, i, hi => by omega
 | n + 1, h, i, hi => by
  simp only [allOneN] at h
  split at h
  ·rename_i h1
   by_cases hn : i = n
   ·subst hn; exact h1
   ·exact xGl h i (by omega)
  ·cases h
def appMB {α : Type} (h : HT) (l sz2 len2 : Nat) (g : Nat -> List SV) (e sz bytes : Nat) (k : SV -> HT -> Option α) : Option α :=
 match h.get l with
 | .orw t sz' len f => match len2 with
  | 0 => k (.own l) h
  | _ => match Nat.beq t e && (Nat.beq sz' sz && (Nat.beq sz2 sz && (allOneN g len2 && (Nat.blt 0 sz && small (len + len2) bytes)))) with
   | true => h.set l .dead fun h => h.push (.orw t sz (len + len2) (fun i => if i < len then f i else g (i - len))) fun h' => k (.own h.n) h'
   | false => none
 | _ => none
def appMIB {α : Type} (h : HT) (l : Nat) (kk' : IntKind) (ys : List Int) (e sz bytes : Nat) (k : SV -> HT -> Option α) : Option α :=
 match h.get l with
 | .oi kk t xs => match ys with
  | [] => k (.own l) h
  | _ => match ikq kk kk' && (Nat.beq t e && (Nat.beq sz 1 && small (xs.length + ys.length) bytes)) with
   | true => h.set l .dead fun h => h.push (.oi kk t (xs ++ ys)) fun h' => k (.own h.n) h'
   | false => none
 | _ => none
def appB {α : Type} (h : HT) (x y : SV) (e sz bytes : Nat) (k : SV -> HT -> Option α) : Option α :=
 match x, y with
 | .own l, .bsl l2 m => appB2 h l m e sz bytes (h.get l) (h.get l2) k
 | .clip kk xs, .bsl l2 m => appCB h (some kk) xs (h.get l2) m e sz bytes k
 | .lit (.slice none 0 0), .bsl l2 m => appCB h none [] (h.get l2) m e sz bytes k
 | .bsl l len, .bsl l2 m => match h.get l with
  | .box _ cs1 => appDB h len cs1 (h.get l2) m e sz bytes k
  | .fbox _ cs1 => appDB h len cs1 (h.get l2) m e sz bytes k
  | _ => none
 | .clipr sz' len f, .bsl l2 m => appEB h sz' len f (h.get l2) m e sz bytes k
 | .own l, .rd sz2 len2 g => appMB h l sz2 len2 g e sz bytes k
 | .own l, .clipr sz2 len2 g => appMB h l sz2 len2 g e sz bytes k
 | .own l, .ints kk ys => appMIB h l kk ys e sz bytes k
 | .own l, .clip kk ys => appMIB h l kk ys e sz bytes k
 | _, _ => none
def stoI {α : Type} (h : HT) (l i : Nat) (cs : List SV) (k : SV -> HT -> Option α) : Option α :=
 match cs with
 | [.int k' y] => match h.get l with
  | .oi kk t xs => match ikq kk k' && Nat.blt i xs.length with
   | true => h.set l (.oi kk t (xs.set i y)) fun h => k .any h
   | false => none
  | _ => none
 | _ => none
def stoR {α : Type} (h : HT) (l es off sz i : Nat) (cs : List SV) (k : SV -> HT -> Option α) : Option α :=
 match h.get l with
 | .orw t sz' len f => match sp (f i) off cs with
  | some new => match Nat.beq es sz' && (Nat.beq (ll cs) sz && (allOne cs && (clo.clos 8 new && Nat.blt i len))) with
   | true => h.set l (.orw t sz' len (fun j => if j = i then new else f j)) fun h => k .any h
   | false => none
  | none => none
 | _ => none
theorem xTg {α : Type} {h : HT} {hp : List Blk} (r : HRel h hp) {l es off sz i : Nat} {cs : List SV} {k : SV -> HT -> Option α} {res : α} (e : stoR h l es off sz i cs k = some res) :
  ∃ x h' hp', HRel h' hp' /\ Frm h h' /\ storeR (gb hp l) l es off sz i cs (fun y hq => y = x /\ hq = hp') hp /\ k x h' = some res /\ (∀ kk t xs, gb hp l ≠ .oi kk t xs) := by
 unfold stoR at e
 rw [r.g] at e
 split at e <;> first | (cases e; done) | skip
 rename_i t sz' len f hg
 split at e <;> first | (cases e; done) | skip
 rename_i new hsp
 split at e <;> first | (cases e; done) | skip
 rename_i hc
 simp only [Bool.and_eq_true] at hc
 obtain ⟨h1, h2, h3, h4, h5⟩ := hc
 rw [HT.set_eq] at e
 have hl := r.lt (b := .orw t sz' len f) (by rw [r.g]; exact hg) (by simp)
 refine ⟨_, _, _, r.set _ hl, .set r.f _ hl, ?_, e, fun _ _ _ => by rw [hg]; simp⟩
 simp only [storeR, hg, hsp]
 exact ⟨⟨xAc h1, xAc h2, h3, h4, by simpa [Nat.blt_eq] using h5⟩, trivial, trivial⟩
def evO {α : Type} (fr : List SV) (h : HT) (o : Op1) (k : SV -> HT -> Option α) : Option α :=
 match o with
 | .v vo => match evpB fr h.get vo with
  | some x => k x h
  | none => none
 | .new t z => h.push (.box t z) fun h' => k (.ptr h.n 0) h'
 | .box t x => match cs1 (x.get fr) with
  | some cs => h.push (.box t cs) fun h' => k (.ptr h.n 0) h'
  | none => none
 | .bsl e len z ps => match lay z (getp fr ps) with
  | some cs => h.push (.box e cs) fun h' => k (.bsl h.n len) h'
  | none => none
 | .bld z ps => match lay z (getp fr ps) with
  | some cs => k (.agg cs) h
  | none => none
 | .store sz x v => match x.get fr, cs1 (v.get fr) with
  | .ptr l off, some cs => match allOne cs && Nat.beq (ll cs) sz with
   | true => match h.get l with
    | .box t old => match sp old off cs with
     | some new => h.set l (.box t new) fun h => k .any h
     | none => none
    | _ => none
   | false => none
  | .ep l es i off, some cs => match Nat.beq es 1 && (Nat.beq off 0 && Nat.beq sz 1) with
   | true => stoI h l i cs k
   | false => stoR h l es off sz i cs k
  | _, _ => none
 | .app e sz bytes x y => appB h (x.get fr) (y.get fr) e sz bytes k
 | .slc x lo hi mx sz => match bnd fr lo, bnd fr hi, bnd fr mx with
  | some lo, some hi, some mx => slOB h (x.get fr) fun y h => match slvB sz y lo hi mx with
   | some z => k z h
   | none => none
  | _, _, _ => none
 | _ => none
theorem xIb {α : Type} {h : HT} {hp : List Blk} (r : HRel h hp) {l sz2 len2 : Nat} {g : Nat -> List SV} {t sz bytes : Nat} {k : SV -> HT -> Option α} {res : α} (e : appMB h l sz2 len2 g t sz bytes k = some res) :
  ∃ x h' hp', HRel h' hp' /\ Frm h h' /\ appM (gb hp l) l sz2 len2 g t sz bytes (fun y hq => y = x /\ hq = hp') hp /\ k x h' = some res := by
 unfold appMB at e
 rw [r.g] at e
 split at e <;> first | (cases e; done) | skip
 rename_i tt sz' len f hg
 split at e
 ·exact ⟨_, _, _, r, .refl _, by simp only [appM, hg]; exact ⟨fun _ => ⟨trivial, trivial⟩, fun h => by omega⟩, e⟩
 rename_i hne
 have hpos : 0 < len2 := Nat.pos_of_ne_zero hne
 split at e <;> first | (cases e; done) | skip
 rename_i hc
 simp only [Bool.and_eq_true] at hc
 obtain ⟨h1, h2, h3, h4, h5, h6⟩ := hc
 obtain ⟨h8, h9⟩ := xAt h6
 rw [HT.set_eq, HT.push_eq] at e
 have hl := r.lt (l := l) (b := .orw tt sz' len f) (by rw [r.g]; exact hg) (by simp)
 have r1 := r.set .dead hl
 refine ⟨_, _, _, r1.push (.orw tt sz (len + len2) (fun i => if i < len then f i else g (i - len))), (Frm.set r.f .dead hl).trans (.push r1.f _), ?_, e⟩
 simp only [appM, hg]
 exact ⟨fun h => by omega, fun _ => ⟨⟨xAc h1, xAc h2, xAc h3, fun i hi => xGl h4 i hi, by simpa [Nat.blt_eq] using h5, h8, h9⟩, by simp [HT.setd, r.n], trivial⟩⟩
theorem xFq {α : Type} {h : HT} {hp : List Blk} (r : HRel h hp) {l : Nat} {kk' : IntKind} {ys : List Int} {t sz bytes : Nat} {k : SV -> HT -> Option α} {res : α} (e : appMIB h l kk' ys t sz bytes k = some res) :
  ∃ x h' hp', HRel h' hp' /\ Frm h h' /\ appMI (gb hp l) l kk' ys t sz bytes (fun y hq => y = x /\ hq = hp') hp /\ k x h' = some res := by
 unfold appMIB at e
 rw [r.g] at e
 split at e <;> first | (cases e; done) | skip
 rename_i kk tt xs hg
 split at e
 ·exact ⟨_, _, _, r, .refl _, by simp only [appMI, hg]; exact ⟨fun _ => ⟨trivial, trivial⟩, fun h => absurd rfl h⟩, e⟩
 rename_i hne
 have hpos : ys ≠ [] := hne
 split at e <;> first | (cases e; done) | skip
 rename_i hc
 simp only [Bool.and_eq_true] at hc
 obtain ⟨h1, h2, h3, h6⟩ := hc
 obtain ⟨h8, h9⟩ := xAt h6
 rw [HT.set_eq, HT.push_eq] at e
 have hl := r.lt (l := l) (b := .oi kk tt xs) (by rw [r.g]; exact hg) (by simp)
 have r1 := r.set .dead hl
 refine ⟨_, _, _, r1.push (.oi kk tt (xs ++ ys)), (Frm.set r.f .dead hl).trans (.push r1.f _), ?_, e⟩
 simp only [appMI, hg]
 exact ⟨fun h => absurd h hpos, fun _ => ⟨⟨xBt h1, xAc h2, xAc h3, h8, h9⟩, by simp [HT.setd, r.n], trivial⟩⟩
theorem xRm {α : Type} {fr : List SV} {h : HT} {hp : List Blk} (r : HRel h hp) {o : Op1} {k : SV -> HT -> Option α} {res : α} (e : evO fr h o k = some res) (Γ : Gm) :
  ∃ x h' hp', HRel h' hp' /\ Frm h h' /\ evh Γ ⟨fr, hp⟩ (fun y hq => y = x /\ hq = hp') o /\ k x h' = some res := by
 cases o with
 | v vo =>
  simp only [evO, r.g] at e
  split at e
  ·rename_i x hx
   obtain ⟨p, h1, h2⟩ := xPj hx
   exact ⟨x, h, hp, r, .refl _, by simp only [evh, vK, h1]; exact ⟨h2, by trivial, by trivial⟩, e⟩
  ·cases e
 | new t z =>
  simp only [evO, HT.push_eq] at e
  exact ⟨_, _, _, r.push _, .push r.f _, by simp only [evh]; exact ⟨by rw [r.n], by trivial⟩, e⟩
 | box t x =>
  simp only [evO, HT.push_eq] at e
  split at e
  ·rename_i cs hcs
   exact ⟨_, _, _, r.push _, .push r.f _, by simp only [evh, boxK, hcs]; exact ⟨by rw [r.n], by trivial⟩, e⟩
  ·cases e
 | bsl t len z ps =>
  simp only [evO, HT.push_eq] at e
  split at e
  ·rename_i cs hcs
   exact ⟨_, _, _, r.push _, .push r.f _, by simp only [evh, bslK, hcs]; exact ⟨by rw [r.n], by trivial⟩, e⟩
  ·cases e
 | bld z ps =>
  simp only [evO] at e
  split at e
  ·rename_i cs hcs
   exact ⟨_, _, _, r, .refl _, by simp only [evh, bldK, hcs]; exact ⟨trivial, trivial⟩, e⟩
  ·cases e
 | store sz x v =>
  simp only [evO] at e
  split at e <;> first | (cases e; done) | skip
  ·rename_i l off cs hx hcs
   simp only [HT.set_eq, r.g] at e
   split at e <;> first | (cases e; done) | skip
   rename_i ha
   rw [Bool.and_eq_true] at ha
   split at e <;> first | (cases e; done) | skip
   rename_i t old hg
   split at e <;> first | (cases e; done) | skip
   rename_i new hnew
   have hl := r.lt (b := .box t old) (by rw [r.g]; exact hg) (by simp)
   refine ⟨_, _, _, r.set _ hl, .set r.f _ hl, ?_, e⟩
   simp only [evh, storeK, hx, hcs, storeK2, hg, storeK3, hnew]
   exact ⟨⟨ha.1, xAc ha.2⟩, trivial, trivial⟩
  ·rename_i l es i off cs hx hcs
   split at e
   rotate_left
   ·obtain ⟨x', h', hp', q1, q2, q3, q4, q5⟩ := xTg r e
    refine ⟨x', h', hp', q1, q2, ?_, q4⟩
    simp only [evh]
    unfold storeK
    rw [hx, hcs]
    split
    ·rename_i h1 _; cases h1
    ·rename_i h1 h2
     cases h1; cases h2
     unfold storeE
     split
     ·rename_i hg; exact absurd hg (q5 _ _ _)
     ·exact q3
    ·rename_i h1 h2; cases h1; cases h2; exact q3
    ·rename_i hne; exact absurd rfl (hne _ _ _ _ _ rfl)
   rename_i ha
   simp only [Bool.and_eq_true] at ha
   have h1 := xAc ha.1; have h2 := xAc ha.2.1; have h3 := xAc ha.2.2
   subst h1; subst h2; subst h3
   unfold stoI at e
   split at e <;> first | (cases e; done) | skip
   rename_i k' y
   rw [r.g] at e
   split at e <;> first | (cases e; done) | skip
   rename_i kk t xs hg
   split at e <;> first | (cases e; done) | skip
   rename_i hb
   rw [Bool.and_eq_true] at hb
   rw [HT.set_eq] at e
   have hl := r.lt (b := .oi kk t xs) (by rw [r.g]; exact hg) (by simp)
   refine ⟨_, _, _, r.set _ hl, .set r.f _ hl, ?_, e⟩
   simp only [evh, storeK, hx, hcs, storeE, hg]
   exact ⟨⟨xBt hb.1, trivial, by simpa [Nat.blt_eq] using hb.2⟩, trivial, trivial⟩
 | app t sz bytes x y =>
  simp only [evO, appB] at e
  split at e <;> first | (cases e; done) | skip
  ·rename_i l l2 m hx hy
   simp only [appB2, r.g, HT.set_eq, HT.push_eq] at e
   split at e <;> first | (cases e; done) | skip
   ·skip
    rename_i kk tt xs t2 k' yy hg hg2
    split at e <;> first | (cases e; done) | skip
    rename_i hc
    simp only [Bool.and_eq_true] at hc
    obtain ⟨⟨⟨h1, h2⟩, h3⟩, h4⟩ := hc
    obtain ⟨h5, h6⟩ := xAt h4
    have hl := r.lt (l := l) (b := .oi kk tt xs) (by rw [r.g]; exact hg) (by simp)
    have r1 := r.set .dead hl
    refine ⟨_, _, _, r1.push (.oi kk tt (xs ++ [yy])), (Frm.set r.f .dead hl).trans (.push r1.f _), ?_, e⟩
    simp only [evh, appK, hx, hy, appK2, hg, hg2]
    exact ⟨⟨xBt h1, xAc h2, xAc h3, h5, h6⟩, by simp [HT.setd, r.n], trivial⟩
   ·rename_i tt sz' len f t2 cs hg hg2
    split at e <;> first | (cases e; done) | skip
    rename_i hc
    simp only [Bool.and_eq_true, decide_eq_true_eq] at hc
    obtain ⟨⟨⟨⟨⟨⟨h1, h2⟩, h3⟩, h4⟩, h5⟩, h6⟩, h7⟩ := hc
    obtain ⟨h8, h9⟩ := xAt h7
    have hl := r.lt (l := l) (b := .orw tt sz' len f) (by rw [r.g]; exact hg) (by simp)
    have r1 := r.set .dead hl
    refine ⟨_, _, _, r1.push (.orw tt sz (len + 1) (fun i => if i < len then f i else cs)), (Frm.set r.f .dead hl).trans (.push r1.f _), ?_, e⟩
    simp only [evh, appK, hx, hy, appK2, hg, hg2]
    exact ⟨⟨xAc h1, xAc h2, xAc h3, h4, h5, h6, h8, h9⟩, by simp [HT.setd, r.n], trivial⟩
  ·rename_i kk xs l2 m hx hy
   simp only [appCB, r.g, HT.push_eq] at e
   split at e <;> first | (cases e; done) | skip
   rename_i t2 k' yy hg2
   split at e <;> first | (cases e; done) | skip
   rename_i hc
   split at e <;> first | (cases e; done) | skip
   rename_i hd
   rw [Bool.and_eq_true] at hd
   obtain ⟨h5, h6⟩ := xAt hd.2
   refine ⟨_, _, _, r.push _, .push r.f _, ?_, e⟩
   simp only [evh, appK, hx, hy, appC, hg2]
   refine ⟨⟨?_, xAc hd.1, h5, h6⟩, by rw [r.n], trivial⟩
   rw [Bool.or_eq_true] at hc
   exact hc.imp (fun h => by rw [xBt h]) (fun h => by simpa using h)
  ·rename_i l2 m hx hy
   simp only [appCB, r.g, HT.push_eq] at e
   split at e <;> first | (cases e; done) | skip
   rename_i t2 k' yy hg2
   split at e <;> first | (cases e; done) | skip
   rename_i hc
   split at e <;> first | (cases e; done) | skip
   rename_i hd
   rw [Bool.and_eq_true] at hd
   obtain ⟨h5, h6⟩ := xAt hd.2
   refine ⟨_, _, _, r.push _, .push r.f _, ?_, e⟩
   simp only [evh, appK, hx, hy, appL, appC, hg2]
   exact ⟨⟨.inr trivial, xAc hd.1, h5, h6⟩, by rw [r.n], trivial⟩
  ·rename_i l len l2 m hx hy
   have main : ∀ cs1, appDB h len cs1 (h.get l2) m t sz bytes k = some res -> (∀ K : SV -> List Blk -> Prop, appD len cs1 (gb hp l2) m t sz bytes K hp -> evh Γ ⟨fr, hp⟩ K (.app t sz bytes x y)) ->
     ∃ x1 h' hp', HRel h' hp' /\ Frm h h' /\ evh Γ ⟨fr, hp⟩ (fun y hq => y = x1 /\ hq = hp') (.app t sz bytes x y) /\ k x1 h' = some res := by
    intro cs1 e0 hev
    unfold appDB at e0
    rw [r.g] at e0
    split at e0 <;> first | (cases e0; done) | skip
    rename_i t2 cs2 hg2
    split at e0 <;> first | (cases e0; done) | skip
    rename_i hc
    simp only [Bool.and_eq_true] at hc
    obtain ⟨h1, h2, h3, h4, h5, h6, h7⟩ := hc
    obtain ⟨h8, h9⟩ := xAt h7
    have h1 := xAc h1
    subst h1
    rw [HT.push_eq] at e0
    refine ⟨_, _, _, r.push _, .push r.f _, hev _ ?_, e0⟩
    unfold appD
    simp only [hg2]
    exact ⟨⟨xAc h2, xAc h3, h4, h5, by simpa [Nat.blt_eq] using h6, h8, h9⟩, by rw [r.n], trivial⟩
   split at e <;> first | (cases e; done) | skip
   ·rename_i t1 cs1 hg1
    exact main cs1 e fun K hK => by rw [r.g] at hg1; simp only [evh, appK, hx, hy, appB1, hg1]; exact hK
   ·rename_i t1 cs1 hg1
    exact main cs1 e fun K hK => by rw [r.g] at hg1; simp only [evh, appK, hx, hy, appB1, hg1]; exact hK
  ·rename_i sz' len f l2 m hx hy
   unfold appEB at e
   rw [r.g] at e
   split at e <;> first | (cases e; done) | skip
   rename_i t2 cs2 hg2
   split at e <;> first | (cases e; done) | skip
   rename_i hc
   simp only [Bool.and_eq_true, Bool.or_eq_true] at hc
   obtain ⟨h1, h2, h3, h5, h6, h7⟩ := hc
   obtain ⟨h8, h9⟩ := xAt h7
   have h1 := xAc h1
   subst h1
   rw [HT.push_eq] at e
   refine ⟨_, _, _, r.push _, .push r.f _, ?_, e⟩
   simp only [evh, appK, hx, hy, appE, hg2]
   exact ⟨⟨h2.imp xAc xAc, xAc h3, h5, by simpa [Nat.blt_eq] using h6, h8, h9⟩, by rw [r.n], trivial⟩
  ·rename_i l sz2 len2 g hx hy
   obtain ⟨x', h', hp', q1, q2, q3, q4⟩ := xIb r e
   exact ⟨x', h', hp', q1, q2, by simp only [evh, appK, hx, hy]; exact q3, q4⟩
  ·rename_i l sz2 len2 g hx hy
   obtain ⟨x', h', hp', q1, q2, q3, q4⟩ := xIb r e
   exact ⟨x', h', hp', q1, q2, by simp only [evh, appK, hx, hy]; exact q3, q4⟩
  ·rename_i l kk ys hx hy
   obtain ⟨x', h', hp', q1, q2, q3, q4⟩ := xFq r e
   exact ⟨x', h', hp', q1, q2, by simp only [evh, appK, hx, hy]; exact q3, q4⟩
  ·rename_i l kk ys hx hy
   obtain ⟨x', h', hp', q1, q2, q3, q4⟩ := xFq r e
   exact ⟨x', h', hp', q1, q2, by simp only [evh, appK, hx, hy]; exact q3, q4⟩
 | call => simp [evO] at e
 | inv => simp [evO] at e
 | mki => simp [evO] at e
 | emp => simp [evO] at e
 | nck => simp [evO] at e
 | slc x lo hi mx sz =>
  simp only [evO] at e
  split at e <;> first | (cases e; done) | skip
  rename_i lo' hi' mx' e1 e2 e3
  obtain ⟨y, h', hp', r', hfm, h1, e⟩ := xTa r e
  split at e <;> first | (cases e; done) | skip
  rename_i z hz
  obtain ⟨p, h2, h3⟩ := xKf hz
  exact ⟨z, h', hp', r', hfm, by simp only [evh, slcK, h1, e1, e2, e3, vK, h2]; exact ⟨h3, by trivial, by trivial⟩, e⟩
end Go.Vg
