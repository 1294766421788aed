import Derived.Test.YtgdihdiadlmjiaaVgR20
namespace Go.Vg
open Go
set_option linter.unusedVariables false
set_option linter.unusedSectionVars false
set_option linter.unusedSimpArgs false
section
variable {α β : Type} {Q : Option α → Option β → Prop} (q0 : Q none none)
noncomputable def opST {α : Type} (cl : Cl) (n : Nat) (o : Opq) (ih : FT → HT → (FT → HT → Option α) → Option α) (F : FT) (h : HT) (k : FT → HT → Option α) : Option α :=
 match gdR (gR n F) o.g with
 | some b => match b with
  | true => evXC cl (gR n F) h o.o fun x h => frcV x fun x => putT n F o.d x fun F => ih F h k
  | false => putT n F o.d (.lit undef) fun F => ih F h k
 | none => none
noncomputable def opsT {α : Type} (cl : Cl) (n : Nat) (l : List Opq) : FT → HT → (FT → HT → Option α) → Option α :=
 List.rec (motive := fun _ => FT → HT → (FT → HT → Option α) → Option α) (fun F h k => k F h) (fun o _ ih => opST cl n o ih) l
include q0 in
theorem bslC_par {h : HT} {l len : Nat} {k : SV → HT → Option α} {k' : SV → HT → Option β} (hk : ∀ x h, Q (k x h) (k' x h)) : Q (bslC h l len k) (bslC h l len k') := by
 unfold bslC
 simp only [HT.set_eq]
 (repeat' split) <;> first | exact q0 | exact hk _ _
include q0 in
theorem clB0_par {f : List SV → HT → (List SV → HT → Option α) → Option α} {f' : List SV → HT → (List SV → HT → Option β) → Option β} (hf : ∀ {xs : List SV} {h : HT} {k : List SV → HT → Option α} {k' : List SV → HT → Option β}, (∀ xs h, Q (k xs h) (k' xs h)) → Q (f xs h k) (f' xs h k')) :
  ∀ {xs : List SV} {h : HT} {k : List SV → HT → Option α} {k' : List SV → HT → Option β}, (∀ xs h, Q (k xs h) (k' xs h)) → Q (clB0 f xs h k) (clB0 f' xs h k')
 | [], h, k, k', hk => hk _ _
 | x :: t, h, k, k', hk => by
  unfold clB0
  split
  ·exact clB0_par @hf fun _ _ => hk _ _
  ·split
   ·exact bslC_par q0 fun _ _ => clB0_par @hf fun _ _ => hk _ _
   ·exact hf fun _ _ => clB0_par @hf fun _ _ => hk _ _
   ·exact q0
include q0 in
theorem clB_par {xs : List SV} {h : HT} {k : List SV → HT → Option α} {k' : List SV → HT → Option β} (hk : ∀ xs h, Q (k xs h) (k' xs h)) : Q (clB xs h k) (clB xs h k') := by
 unfold clB
 refine clB0_par q0 (f := clB1) (f' := clB1) (fun {xs h k k'} hk => ?_) hk
 exact clB0_par q0 (f := fun _ _ _ => none) (f' := fun _ _ _ => none) (fun _ => q0) hk
include q0 in
theorem bslD_par {h : HT} {l len : Nat} {k : SV → HT → Option α} {k' : SV → HT → Option β} (hk : ∀ x h, Q (k x h) (k' x h)) : Q (bslD h l len k) (bslD h l len k') := by
 unfold bslD
 split
 ·split
  ·exact bslC_par q0 hk
  ·refine clB_par q0 fun _ _ => ?_
   simp only [HT.set_eq]
   (repeat' split) <;> first | exact q0 | exact hk _ _
 ·exact bslC_par q0 hk
include q0 in
theorem slcD_par {fr : List SV} {h : HT} {x : SV} {lo hi mx : Option X} {sz : Nat} {k : SV → HT → Option α} {k' : SV → HT → Option β} (hk : ∀ x h, Q (k x h) (k' x h)) : Q (slcD fr h x lo hi mx sz k) (slcD fr h x lo hi mx sz k') := by
 unfold slcD
 split
 ·split
  ·refine bslD_par q0 fun _ _ => ?_
   split
   ·exact hk _ _
   ·exact q0
  ·exact q0
 ·exact q0
include q0 in
theorem appW_par {h : HT} {x y : SV} {e sz bytes : Nat} {k : SV → HT → Option α} {k' : SV → HT → Option β} (hk : ∀ x h, Q (k x h) (k' x h)) : Q (appW h x y e sz bytes k) (appW h x y e sz bytes k') := by
 unfold appW
 split
 ·refine bslD_par q0 fun _ _ => ?_
  split
  ·split <;> first | exact q0 | (simp only [appMB, appMIB, HT.push_eq, HT.set_eq] <;> (repeat' split) <;> first | exact q0 | exact hk _ _)
  ·simp only [appN, HT.push_eq, HT.set_eq] <;> (repeat' split) <;> first | exact q0 | exact hk _ _
 ·exact q0
include q0 in
theorem evX_par (cl : Cl) (fr : List SV) (h : HT) (o : Op2) {k : SV → HT → Option α} {k' : SV → HT → Option β} (hk : ∀ x h, Q (k x h) (k' x h)) : Q (evX cl fr h o k) (evX cl fr h o k') := by
 have gen : ∀ o, Q (evO fr h o k) (evO fr h o k') := by
  intro o
  cases o <;> simp only [evO, stoI, stoR, appB, appB2, appCB, appDB, appEB, appMB, appMIB, slOB, HT.push_eq, HT.set_eq] <;> (repeat' split) <;> first | exact q0 | exact hk _ _
 cases o with
 | o o =>
  cases o <;> simp only [evX, appN, HT.push_eq, HT.set_eq] <;> first | exact gen _ | ((repeat' split) <;> first | exact q0 | exact hk _ _ | exact slcD_par q0 hk | exact appW_par q0 hk | exact gen _)
 | e1 o x => simp only [evX, e1B, e1M, HT.push_eq, HT.set_eq] <;> (repeat' split) <;> first | exact q0 | exact hk _ _
 | _ => simp only [evX, mslB, updB, cpyB, HT.push_eq, HT.set_eq] <;> (repeat' split) <;> first | exact q0 | exact hk _ _
include q0 in
theorem fill_par {n0 : Nat} {cb : List (Nat × Blk)} {k : HT → Option α} {k' : HT → Option β} (hk : ∀ h, Q (k h) (k' h)) : ∀ {js : List Nat} {h : HT}, Q (fill n0 cb js h k) (fill n0 cb js h k')
 | [], h => hk h
 | j :: t, h => by
  simp only [fill]
  split
  ·split
   ·rw [HT.set_eq, HT.set_eq]; exact fill_par hk
   ·exact q0
  ·exact q0
include q0 in
theorem resv_par {k : HT → Option α} {k' : HT → Option β} (hk : ∀ h, Q (k h) (k' h)) : ∀ {m : Nat} {h : HT}, Q (resv m h k) (resv m h k')
 | 0, h => hk h
 | m + 1, h => by simp only [resv, HT.push_eq]; exact resv_par hk
include q0 in
theorem shD_par {k : HT → Option α} {k' : HT → Option β} (hk : ∀ h, Q (k h) (k' h)) : ∀ {ls : List Nat} {h : HT}, Q (shD ls h k) (shD ls h k')
 | [], h => hk h
 | l :: t, h => by
  simp only [shD]
  split
  ·rw [HT.set_eq, HT.set_eq]; exact shD_par hk
  ·rw [HT.set_eq, HT.set_eq]; exact shD_par hk
  ·split
   ·rw [HT.set_eq, HT.set_eq]; exact shD_par hk
   ·exact shD_par hk
  ·exact shD_par hk
noncomputable def shS {α : Type} (g0 : Nat → SV) (d : Nat) (ih : HT → (HT → Option α) → Option α) (h : HT) (k : HT → Option α) : Option α :=
 match g0 d with
 | .own l => match hG h l with
  | .oi q ty xs => hSe h l (.fz (.ints q xs)) fun h => ih h k
  | .orw ty sz len f => hSe h l (.fz (.rd sz len f)) fun h => ih h k
  | _ => ih h k
 | _ => ih h k
noncomputable def shT {α : Type} (g0 : Nat → SV) (ds : List Nat) : HT → (HT → Option α) → Option α :=
 List.rec (motive := fun _ => HT → (HT → Option α) → Option α) (fun h k => k h) (fun d _ ih => shS g0 d ih) ds
include q0 in
theorem shT_par {g0 : Nat → SV} {fr : List SV} (hg : ∀ i, g0 i = gt fr i) {k : HT → Option α} {k' : HT → Option β} (hk : ∀ h, Q (k h) (k' h)) : ∀ {ds : List Nat} {h : HT}, Q (shT g0 ds h k) (shB fr ds h k')
 | [], h => hk h
 | d :: t, h => by
  show Q (shS g0 d (shT g0 t) h k) _
  simp only [shS, shB, hg, hG_eq, hSe_eq]
  generalize gt fr d = x
  cases x <;> first | exact shT_par hg hk | skip
  rename_i l
  simp only
  generalize h.get l = b
  cases b <;> first | exact shT_par hg hk | (simp only [HT.set_eq]; exact shT_par hg hk)
variable {n : Nat} {k : FT → HT → Option α} {k' : List SV → HT → Option β} (hk : ∀ F fr h, Rf n F fr → Q (k F h) (k' fr h))
theorem put_par {F : FT} {fr : List SV} (hF : Rf n F fr) (d : Option Nat) (x : SV) {j : FT → Option α} {j' : List SV → Option β} (hj : ∀ F fr, Rf n F fr → Q (j F) (j' fr)) : Q (putT n F d x j) (putB fr d x j') := by
 obtain ⟨F', h1, h2⟩ := putT_ok hF d x
 rw [h2, putB_eq]; exact hj _ _ h1
include q0 hk in
theorem opsT_par (cl : Cl) : ∀ (l : List Opq) {F : FT} {fr : List SV} {h : HT}, Rf n F fr → Q (opsT cl n l F h k) (opsB cl l fr h k')
 | [], F, fr, h, hF => hk F fr h hF
 | ⟨d, g, o⟩ :: t, F, fr, h, hF => by
  have hg := gR_eq hF
  show Q (opST cl n ⟨d, g, o⟩ (opsT cl n t) F h k) _
  simp only [opST, opsB, gdR_eq hg, evXC_eq, evXR_eq cl hg]
  cases gdl fr g with
  | none => exact q0
  | some b =>
   cases b with
   | false => exact put_par hF d _ fun F fr hF => opsT_par cl t hF
   | true => exact evX_par q0 cl fr h o fun x h => by rw [frcV_eq, frcV_eq]; exact put_par hF d _ fun F fr hF => opsT_par cl t hF
def inPR (g0 : Nat → SV) (l : Nat) : List Nat → Bool
 | [] => false
 | p :: t => match g0 p with
  | .ptr l' _ => match Nat.beq l' l with
   | true => true
   | false => inPR g0 l t
  | _ => true
theorem inPR_eq {g0 : Nat → SV} {fr : List SV} (hg : ∀ i, g0 i = gt fr i) (l : Nat) : ∀ ps, inPR g0 l ps = inP fr l ps
 | [] => rfl
 | p :: t => by simp only [inPR, inP, hg, inPR_eq hg l t]; rfl
noncomputable def mskR (g0 : Nat → SV) (ps : List Nat) (h : HT) (l : Nat) : Blk :=
 match inPR g0 l ps with
 | true => .dead
 | false => hG h l
theorem mskR_eq {g0 : Nat → SV} {fr : List SV} (hg : ∀ i, g0 i = gt fr i) (ps : List Nat) (h : HT) : mskR g0 ps h = mskG fr ps h.get := by
 funext l
 unfold mskR mskG
 rw [inPR_eq hg, hG_eq]; rfl
noncomputable def hdS {α : Type} (cl : Cl) (cq : Cq) (n0 n : Nat) (o : Opq) (kd : Kd) (ih : FT → HT → List HT → List (Nat × Blk) → (FT → HT → Option α) → Option α) (F : FT) (h : HT) (hs : List HT) (cb : List (Nat × Blk)) (k : FT → HT → Option α) : Option α :=
 match kd with
 | .val mn cs => match gdR (gR n F) o.g with
  | some b => match b with
   | true => match nthH hs mn with
    | some hv => fill n0 cb cs hv fun hv => match evVR cq (gR n F) (hG hv) o.o with
     | some x => frcV x fun x => putT n F o.d x fun F => ih F h hs cb k
     | none => none
    | none => none
   | false => putT n F o.d (.lit undef) fun F => ih F h hs cb k
  | none => none
 | .cre j => match o.o with
  | .o o1 => match o1 with
   | .new t z => hdC n0 n j o.d (some (.ptr (n0 + j) 0, .box t z)) ih F h hs cb k
   | .box t x => hdC n0 n j o.d (match cs1 (xr (gR n F) x) with
    | some cs => some (.ptr (n0 + j) 0, .box t cs)
    | none => none) ih F h hs cb k
   | .bsl e len z parts => hdC n0 n j o.d (match lay z (xpr (gR n F) parts) with
    | some cs => some (.bsl (n0 + j) len, .box e cs)
    | none => none) ih F h hs cb k
   | _ => none
  | _ => none
 | .eff c cs => match Nat.beq hs.length (c + 1) with
  | true => match gdR (gR n F) o.g with
   | some b => match b with
    | false => fill n0 cb cs h fun h1 => putT n F o.d (.lit undef) fun F => ih F h1 (hs ++ [h1]) cb k
    | true => fill n0 cb cs h fun h0 => evXR cl (gR n F) ⟨h0.n, h0.n, h0.t⟩ o.o fun x h1 => match Nat.beq h1.w h0.n with
     | true => frcV x fun x => putT n F o.d x fun F => ih F ⟨h1.n, h0.w, h1.t⟩ (hs ++ [⟨h1.n, h0.w, h1.t⟩]) cb k
     | false => none
   | none => none
  | false => none
 | .pur => match gdR (gR n F) o.g with
  | some b => match b with
   | false => putT n F o.d (.lit undef) fun F => ih F h hs cb k
   | true => match evVR cq (gR n F) (fun _ => .dead) o.o with
    | some x => frcV x fun x => putT n F o.d x fun F => ih F h hs cb k
    | none => none
  | none => none
 | .prd ps => match gdR (gR n F) o.g with
  | some b => match b with
   | false => putT n F o.d (.lit undef) fun F => ih F h hs cb k
   | true => match nthH hs 0 with
    | some h0 => match evVR cq (gR n F) (mskR (gR n F) ps h0) o.o with
     | some x => frcV x fun x => putT n F o.d x fun F => ih F h hs cb k
     | none => none
    | none => none
  | none => none
 | .efs c cs ls => match Nat.beq hs.length (c + 1) with
  | true => match gdR (gR n F) o.g with
   | some b => match b with
    | false => fill n0 cb cs h fun h1 => match deadB h1 n0 ls with
     | true => putT n F o.d (.lit undef) fun F => ih F h1 (hs ++ [h1]) cb k
     | false => none
    | true => fill n0 cb cs h fun h0 => evXR cl (gR n F) h0 o.o fun x h1 => match deadB h1 n0 ls with
     | true => frcV x fun x => putT n F o.d x fun F => ih F h1 (hs ++ [h1]) cb k
     | false => none
   | none => none
  | false => none
where hdC {α : Type} (n0 n j : Nat) (d : Option Nat) (r : Option (SV × Blk)) (ih : FT → HT → List HT → List (Nat × Blk) → (FT → HT → Option α) → Option α) (F : FT) (h : HT) (hs : List HT) (cb : List (Nat × Blk)) (k : FT → HT → Option α) : Option α :=
 match r with
 | some (x, b) => match nthB cb j with
  | none => putT n F d x fun F => ih F h hs (cb ++ [(j, b)]) k
  | some _ => none
 | none => none
noncomputable def nthC (hs : List HT) (i : Nat) : Option HT := List.rec (motive := fun _ => Nat → Option HT) (fun _ => none) (fun h _ ih i => Nat.rec (motive := fun _ => Option HT) (some h) (fun i _ => ih i) i) hs i
theorem nthC_eq : ∀ (hs : List HT) (i : Nat), nthC hs i = nthH hs i
 | [], _ => rfl
 | h :: _, 0 => rfl
 | _ :: t, i + 1 => nthC_eq t i
noncomputable def fillC {α : Type} (n0 : Nat) (cb : List (Nat × Blk)) (js : List Nat) (h : HT) (k : HT → Option α) : Option α := List.rec (motive := fun _ => HT → (HT → Option α) → Option α) (fun h k => k h) (fun j _ ih h k => match nthB cb j with
  | some b => match Nat.blt (n0 + j) h.n with
   | true => h.set (n0 + j) b fun h => ih h k
   | false => none
  | none => none) js h k
theorem fillC_eq {α : Type} (n0 : Nat) (cb : List (Nat × Blk)) : ∀ (js : List Nat) (h : HT) (k : HT → Option α), fillC n0 cb js h k = fill n0 cb js h k
 | [], _, _ => rfl
 | j :: t, h, k => by
  simp only [fill, ← fillC_eq n0 cb t]
  rfl
noncomputable def hdV {α : Type} (mn : Nat) (cs : List Nat) (cl : Cl) (cq : Cq) (n0 n : Nat) (o : Opq) (ih : FT → HT → List HT → List (Nat × Blk) → (FT → HT → Option α) → Option α) (F : FT) (h : HT) (hs : List HT) (cb : List (Nat × Blk)) (k : FT → HT → Option α) : Option α :=
 match gdR (gR n F) o.g with
  | some b => match b with
   | true => match nthC hs mn with
    | some hv => fillC n0 cb cs hv fun hv => match evVC cq (gR n F) (hG hv) o.o with
     | some x => frcV x fun x => putT n F o.d x fun F => ih F h hs cb k
     | none => none
    | none => none
   | false => putT n F o.d (.lit undef) fun F => ih F h hs cb k
  | none => none
noncomputable def hdC' {α : Type} (cl : Cl) (cq : Cq) (n0 n : Nat) (o : Opq) (kd : Kd) (ih : FT → HT → List HT → List (Nat × Blk) → (FT → HT → Option α) → Option α) (F : FT) (h : HT) (hs : List HT) (cb : List (Nat × Blk)) (k : FT → HT → Option α) : Option α := Kd.rec (motive := fun _ => Cl → Cq → Nat → Nat → Opq → (FT → HT → List HT → List (Nat × Blk) → (FT → HT → Option α) → Option α) → FT → HT → List HT → List (Nat × Blk) → (FT → HT → Option α) → Option α)
 (fun mn cs cl cq n0 n o ih F h hs cb k => hdV mn cs cl cq n0 n o ih F h hs cb k)
 (fun j cl cq n0 n o ih F h hs cb k => hdS cl cq n0 n o (.cre j) ih F h hs cb k)
 (fun c cs cl cq n0 n o ih F h hs cb k => hdS cl cq n0 n o (.eff c cs) ih F h hs cb k)
 (fun  cl cq n0 n o ih F h hs cb k => hdS cl cq n0 n o (.pur ) ih F h hs cb k)
 (fun ps cl cq n0 n o ih F h hs cb k => hdS cl cq n0 n o (.prd ps) ih F h hs cb k)
 (fun c cs ls cl cq n0 n o ih F h hs cb k => hdS cl cq n0 n o (.efs c cs ls) ih F h hs cb k)
 kd cl cq n0 n o ih F h hs cb k
theorem hdC'_eq {α : Type} (cl : Cl) (cq : Cq) (n0 n : Nat) (o : Opq) (kd : Kd) (ih : FT → HT → List HT → List (Nat × Blk) → (FT → HT → Option α) → Option α) (F : FT) (h : HT) (hs : List HT) (cb : List (Nat × Blk)) (k : FT → HT → Option α) : hdC' cl cq n0 n o kd ih F h hs cb k = hdS cl cq n0 n o kd ih F h hs cb k := by
 cases kd with
 | val mn cs =>
  show hdV mn cs cl cq n0 n o ih F h hs cb k = _
  simp only [hdV, hdS, nthC_eq, fillC_eq, evVC_eq]
 | _ => rfl
noncomputable def hdT {α : Type} (cl : Cl) (cq : Cq) (n0 ne : Nat) (cs0 : List Nat) (n : Nat) (l : List (Opq × Kd)) : FT → HT → List HT → List (Nat × Blk) → (FT → HT → Option α) → Option α :=
 List.rec (motive := fun _ => FT → HT → List HT → List (Nat × Blk) → (FT → HT → Option α) → Option α)
  (fun F h hs cb k => match Nat.beq hs.length (ne + 1) with
   | true => fill n0 cb cs0 h fun h => k F h
   | false => none) (fun o _ ih => hdC' cl cq n0 n o.1 o.2 ih) l
include q0 hk in
theorem hdT_par (cl : Cl) (cq : Cq) (n0 ne : Nat) (cs0 : List Nat) : ∀ (l : List (Opq × Kd)) {F : FT} {fr : List SV} {h : HT} {hs : List HT} {cb : List (Nat × Blk)}, Rf n F fr → Q (hdT cl cq n0 ne cs0 n l F h hs cb k) (hdB cl cq n0 ne cs0 l fr h hs cb k')
 | [], F, fr, h, hs, cb, hF => by
  simp only [hdT, hdB]
  cases Nat.beq hs.length (ne + 1) with
  | true => exact fill_par q0 fun h => hk F fr h hF
  | false => exact q0
 | (⟨d, g, o⟩, kd) :: t, F, fr, h, hs, cb, hF => by
  have hg := gR_eq hF
  have ih : ∀ {F fr h hs cb}, Rf n F fr → Q (hdT cl cq n0 ne cs0 n t F h hs cb k) (hdB cl cq n0 ne cs0 t fr h hs cb k') := fun hF => hdT_par cl cq n0 ne cs0 t hF
  show Q (hdC' cl cq n0 n ⟨d, g, o⟩ kd (hdT cl cq n0 ne cs0 n t) F h hs cb k) _
  rw [hdC'_eq]
  cases kd with
  | val mn cs =>
   simp only [hdS, hdB, gdR_eq hg, evVR_eq cq hg, hG_eq']
   cases gdl fr g with
   | none => exact q0
   | some b =>
    cases b with
    | false => exact put_par hF d _ fun F fr hF => ih hF
    | true =>
     simp only
     cases nthH hs mn with
     | none => exact q0
     | some hv =>
      refine fill_par q0 fun hv => ?_
      cases evV cq fr hv.get o with
      | none => exact q0
      | some x => simp only [frcV_eq]; exact put_par hF d _ fun F fr hF => ih hF
  | pur =>
   simp only [hdS, hdB, gdR_eq hg, evVR_eq cq hg]
   cases gdl fr g with
   | none => exact q0
   | some b =>
    cases b with
    | false => exact put_par hF d _ fun F fr hF => ih hF
    | true =>
     simp only
     cases evV cq fr (fun _ => .dead) o with
     | none => exact q0
     | some x => simp only [frcV_eq]; exact put_par hF d _ fun F fr hF => ih hF
  | prd ps =>
   simp only [hdS, hdB, gdR_eq hg, evVR_eq cq hg, mskR_eq hg]
   cases gdl fr g with
   | none => exact q0
   | some b =>
    cases b with
    | false => exact put_par hF d _ fun F fr hF => ih hF
    | true =>
     simp only
     cases nthH hs 0 with
     | none => exact q0
     | some h0 =>
      simp only
      cases evV cq fr (mskG fr ps h0.get) o with
      | none => exact q0
      | some x => simp only [frcV_eq]; exact put_par hF d _ fun F fr hF => ih hF
  | cre j =>
   have hC : ∀ r, Q (hdS.hdC n0 n j d r (hdT cl cq n0 ne cs0 n t) F h hs cb k) (match r, nthB cb j with
     | some (x, b), none => putB fr d x fun fr => hdB cl cq n0 ne cs0 t fr h hs (cb ++ [(j, b)]) k'
     | _, _ => none) := by
    intro r
    unfold hdS.hdC
    cases r with
    | none => exact q0
    | some r =>
     obtain ⟨x, b⟩ := r
     cases nthB cb j with
     | none => exact put_par hF d _ fun F fr hF => ih hF
     | some _ => exact q0
   cases o with
   | o o1 =>
    simp only [hdS, hdB, xr_eq hg, xpr_eq hg]
    cases o1 <;> simp only [crv] <;> first | exact hC _ | (split <;> first | exact q0 | skip) | skip
    all_goals first | exact q0 | (rename_i h1 _; cases h1)
   | _ => exact q0
  | eff c cs =>
   simp only [hdS, hdB, gdR_eq hg, evXR_eq cl hg]
   cases Nat.beq hs.length (c + 1) with
   | false => cases gdl fr g <;> exact q0
   | true =>
    cases gdl fr g with
    | none => exact q0
    | some b =>
     cases b with
     | false =>
      simp only
      refine fill_par q0 fun h1 => ?_
      exact put_par hF d _ fun F fr hF => ih hF
     | true =>
      refine fill_par q0 fun h0 => evX_par q0 cl fr _ o fun x h1 => ?_
      cases Nat.beq h1.w h0.n with
      | false => exact q0
      | true => simp only [frcV_eq]; exact put_par hF d _ fun F fr hF => ih hF
  | efs c cs ls =>
   simp only [hdS, hdB, gdR_eq hg, evXR_eq cl hg]
   cases Nat.beq hs.length (c + 1) with
   | false => cases gdl fr g <;> exact q0
   | true =>
    cases gdl fr g with
    | none => exact q0
    | some b =>
     cases b with
     | false =>
      refine fill_par q0 fun h1 => ?_
      cases deadB h1 n0 ls with
      | false => exact q0
      | true => exact put_par hF d _ fun F fr hF => ih hF
     | true =>
      refine fill_par q0 fun h0 => evX_par q0 cl fr _ o fun x h1 => ?_
      cases deadB h1 n0 ls with
      | false => exact q0
      | true => simp only [frcV_eq]; exact put_par hF d _ fun F fr hF => ih hF
end
structure RsT where
 e : XT
 F : FT
 ds : List Nat
 h : HT
abbrev RnT := Option Nat → RC → Nat → FT → List Nat → HT → Option RsT
def RelO (n : Nat) (a : Option RsT) (b : Option Rs) : Prop := (a = none ∧ b = none) ∨ ∃ e F fr ds h, a = some ⟨e, F, ds, h⟩ ∧ b = some ⟨e, fr, ds, h⟩ ∧ Rf n F fr
theorem RelO.none {n : Nat} : RelO n none none := .inl ⟨rfl, rfl⟩
theorem RelO.some {n : Nat} {e : XT} {F : FT} {fr : List SV} {ds : List Nat} {h : HT} (hF : Rf n F fr) : RelO n (some ⟨e, F, ds, h⟩) (some ⟨e, fr, ds, h⟩) := .inr ⟨e, F, fr, ds, h, rfl, rfl, hF⟩
def RnRel (rt : RnT) (rn : Rn) : Prop := ∀ rd c n F fr ds h, Rf n F fr → RelO n (rt rd c n F ds h) (rn rd c fr ds h)
noncomputable def drwRT (cl : Cl) (cq : Cq) (n : Nat) (p : Drp) (F : FT) (ds : List Nat) (h : HT) : Option RsT :=
 putT n F p.fl .any fun F => shT (gR n F) p.sh h fun h => resv p.m h fun h1 => hdT cl cq h.n p.ne p.cs n p.hs F h1 [h1] [] fun F h => opsT cl n p.tl F h fun F h => some ⟨.nm, F, ds, h⟩
theorem drwRT_rel (cl : Cl) (cq : Cq) {n : Nat} (p : Drp) {F : FT} {fr : List SV} (hF : Rf n F fr) (ds : List Nat) (h : HT) : RelO n (drwRT cl cq n p F ds h) (drwR cl cq p fr ds h) := by
 unfold drwRT drwR
 have hbl : ∀ (k : List SV → Option Rs), blK fr p.fl k = putB fr p.fl .any k := fun k => by cases p.fl <;> rfl
 rw [hbl]
 refine put_par hF p.fl .any fun F fr hF => ?_
 refine shT_par (Q := RelO n) .none (gR_eq hF) fun h => ?_
 refine resv_par (Q := RelO n) .none fun h1 => ?_
 refine hdT_par (Q := RelO n) .none (fun F fr h hF => ?_) cl cq _ _ _ _ hF
 exact opsT_par (Q := RelO n) .none (k' := fun fr h => some ⟨.nm, fr, ds, h⟩) (fun F fr h hF => .some hF) cl p.tl hF
def lbsR (g0 : Nat → SV) (g : Nat → Blk) (ds : List Nat) : List Nat := ds.flatMap fun d => lbsV g 3 (g0 d)
def slaLR (g0 : Nat → SV) (lo : List Opq) : List Nat :=
 lo.filterMap fun o => match o.o with
  | .e1 (.sla ..) (.t p) => match g0 (rootA lo 6 p) with
   | .ptr l _ => some l
   | _ => none
  | _ => none
theorem slaLR_eq {g0 : Nat → SV} {fr : List SV} (hg : ∀ i, g0 i = gt fr i) (lo : List Opq) : slaLR g0 lo = slaL fr lo := by
 have : g0 = gt fr := funext hg
 subst this; rfl
theorem lbsR_eq {g0 : Nat → SV} {fr : List SV} (hg : ∀ i, g0 i = gt fr i) (g : Nat → Blk) (ds : List Nat) : lbsR g0 g ds = lbs g fr ds := by
 unfold lbsR lbs
 congr 1
 funext d
 rw [hg]
noncomputable def drwAT (cl : Cl) (cq : Cq) (n : Nat) (F : FT) (ds : List Nat) (h : HT) (ps : List Drp) : Option RsT :=
 List.rec (motive := fun _ => Option RsT) none (fun p _ ih => match drwRT cl cq n p F ds h with
  | some r => some r
  | none => match shD (lbsR (gR n F) (hG h) (p.hs.flatMap fun o => usesQ o.1) ++ slaLR (gR n F) (p.hs.map (·.1))) h fun h => drwRT cl cq n p F ds h with
   | some r => some r
   | none => ih) ps
theorem drwAT_rel (cl : Cl) (cq : Cq) {n : Nat} {F : FT} {fr : List SV} (hF : Rf n F fr) (ds : List Nat) (h : HT) : ∀ ps : List Drp, RelO n (drwAT cl cq n F ds h ps) (drwA cl cq fr ds h ps)
 | [] => .none
 | p :: t => by
  have ih := drwAT_rel cl cq hF ds h t
  have h1 := drwRT_rel cl cq p hF ds h
  have h2 : RelO n (shD (lbs h.get fr (p.hs.flatMap fun o => usesQ o.1) ++ slaL fr (p.hs.map (·.1))) h fun h => drwRT cl cq n p F ds h) (shD (lbs h.get fr (p.hs.flatMap fun o => usesQ o.1) ++ slaL fr (p.hs.map (·.1))) h fun h => drwR cl cq p fr ds h) := shD_par .none fun h => drwRT_rel cl cq p hF ds h
  show RelO n (match drwRT cl cq n p F ds h with
   | some r => some r
   | none => match shD (lbsR (gR n F) (hG h) (p.hs.flatMap fun o => usesQ o.1) ++ slaLR (gR n F) (p.hs.map (·.1))) h fun h => drwRT cl cq n p F ds h with
    | some r => some r
    | none => drwAT cl cq n F ds h t) _
  simp only [drwA, hG_eq', lbsR_eq (gR_eq hF), slaLR_eq (gR_eq hF)]
  rcases h1 with ⟨e1, e2⟩ | ⟨e, F', fr', ds', h', e1, e2, hF'⟩
  ·rw [e1, e2]
   simp only
   rcases h2 with ⟨e3, e4⟩ | ⟨e, F', fr', ds', h', e3, e4, hF'⟩
   ·rw [e3, e4]; exact ih
   ·rw [e3, e4]; exact .some hF'
  ·rw [e1, e2]; exact .some hF'
noncomputable def rdRR (g0 : Nat → SV) (g : Nat → Blk) (l : List RV) : Option (List SV) :=
 List.rec (motive := fun _ => Option (List SV)) (some []) (fun r _ ih => match r with
  | .t n => match ih with
   | some r => some (g0 n :: r)
   | none => none
  | .c n sz => match g0 n with
   | .ptr lb off => match g lb with
    | .box _ cs | .fbox _ cs => match ld cs off sz, ih with
     | some x, some r => some (x :: r)
     | _, _ => none
    | _ => none
   | _ => none) l
theorem rdRR_eq {g0 : Nat → SV} {fr : List SV} (hg : ∀ i, g0 i = gt fr i) (g : Nat → Blk) : ∀ l : List RV, rdRR g0 g l = rdRB fr g l
 | [] => rfl
 | .t n :: l => by
  have ih := rdRR_eq hg g l
  show (match rdRR g0 g l with
   | some r => some (g0 n :: r)
   | none => none) = _
  simp only [rdRB, ih, hg]
  cases rdRB fr g l <;> rfl
 | .c n sz :: l => by
  have ih := rdRR_eq hg g l
  show (match g0 n with
   | .ptr lb off => match g lb with
    | .box _ cs | .fbox _ cs => match ld cs off sz, rdRR g0 g l with
     | some x, some r => some (x :: r)
     | _, _ => none
    | _ => none
   | _ => none) = _
  simp only [rdRB, ih, hg]
  generalize gt fr n = x
  cases x <;> rfl
noncomputable def retT (rs : List RV) (n : Nat) (F : FT) (ds : List Nat) (h : HT) : Option (SV × HT) :=
 clsD ds h fun h => match rdRR (gR n F) (hG h) rs with
  | some r => some (tupled r, h)
  | none => none
theorem retT_eq {n : Nat} {F : FT} {fr : List SV} (hF : Rf n F fr) (rs : List RV) (ds : List Nat) (h : HT) : retT rs n F ds h = retF rs fr ds h := by
 unfold retT retF
 congr 1
 funext h
 rw [rdRR_eq (gR_eq hF), hG_eq']
 rfl
noncomputable def fnT (T : Nat → Option Fdn) (rt : RnT) (f : Nat) (args : List SV) (h : HT) : Option (SV × HT) :=
 match T f with
 | some ⟨sc, rs, nt, _, _⟩ => mkT args (maxF args nt) fun F => match rt none sc (maxF args nt) F [] h with
  | some ⟨.nm, F, ds, h⟩ => retT rs (maxF args nt) F ds h
  | some ⟨.rt, F, ds, h⟩ => retT rs (maxF args nt) F ds h
  | _ => none
 | none => none
theorem fnT_eq {rt : RnT} {rn : Rn} (hr : RnRel rt rn) (T : Nat → Option Fdn) : fnT T rt = fnF T rn := by
 funext f args h
 unfold fnT fnF
 cases T f with
 | none => rfl
 | some d =>
  obtain ⟨sc, rs, nt, kn, op⟩ := d
  obtain ⟨F, hF, hk⟩ := mkT_ok args nt
  simp only [hk]
  rcases hr none sc (maxF args nt) F (mkfr args nt) [] h hF with ⟨e1, e2⟩ | ⟨e, F', fr', ds', h', e1, e2, hF'⟩
  ·rw [e1, e2]
  ·rw [e1, e2]
   cases e <;> first | rfl | exact retT_eq hF' ..
noncomputable def callQT (T : Nat → Option Fdn) (rt : RnT) : Cq := fun fv args =>
 match fv with
 | .fn f caps => match clo.clos 8 (ap args caps) with
  | true => match knF T f (ap args caps) with
   | some x => some x
   | none => match fnT T rt f (ap args caps) ⟨0, 0, .e⟩ with
    | some (x, h) => clC h x
    | none => none
  | false => none
 | _ => none
theorem callQT_eq {rt : RnT} {rn : Rn} (hr : RnRel rt rn) (T : Nat → Option Fdn) : callQT T rt = callQ T rn := by
 funext fv args
 unfold callQT callQ
 rw [fnT_eq hr T]
 cases fv <;> rfl
def xsL (n : Nat) (g0 : Nat → SV) : List SV := (List.range n).map g0
theorem gt_map (g0 : Nat → SV) : ∀ (l : List Nat) (i : Nat), i < l.length → gt (l.map g0) i = g0 (l.getD i 0)
 | [], i, h => by simp at h
 | x :: t, 0, h => rfl
 | x :: t, i + 1, h => gt_map g0 t i (by simpa using h)
theorem ext_gt : ∀ {a b : List SV}, a.length = b.length → (∀ i, i < a.length → gt a i = gt b i) → a = b
 | [], [], _, _ => rfl
 | [], _ :: _, h, _ => by simp at h
 | _ :: _, [], h, _ => by simp at h
 | x :: s, y :: t, h, k => by
  have h0 : x = y := k 0 (by simp)
  have h1 : s = t := ext_gt (by simpa using h) fun i hi => k (i + 1) (by simpa using hi)
  rw [h0, h1]
theorem xsL_eq {n : Nat} {F : FT} {fr : List SV} (hF : Rf n F fr) : xsL n (gR n F) = fr := by
 refine ext_gt (by simp [xsL, hF.1]) fun i hi => ?_
 have hi' : i < n := by simpa [xsL] using hi
 rw [show gt (xsL n (gR n F)) i = gR n F ((List.range n).getD i 0) from gt_map _ _ _ (by simpa using hi')]
 simp only [List.getD_eq_getElem?_getD, List.getElem?_range hi', Option.getD_some]
 exact gR_eq hF i
theorem mkfr_self (fr : List SV) : mkfr fr 0 = fr := by
 refine ext_gt (by rw [len_mkfr]; simp only [maxF]; cases fr <;> rfl) fun i hi => ?_
 have hl : maxF fr 0 = fr.length := by cases fr <;> rfl
 rw [len_mkfr, hl] at hi
 rw [gt_mkfr fr 0 i (by rw [hl]; exact hi), if_pos hi]
theorem mkT_self (fr : List SV) : ∃ F, Rf fr.length F fr ∧ ∀ (α : Type) (k : FT → α), mkT fr fr.length k = k F := by
 obtain ⟨F, h1, h2⟩ := mkT_ok fr 0
 have hl : maxF fr 0 = fr.length := by cases fr <;> rfl
 rw [hl, mkfr_self] at h1
 rw [hl] at h2
 exact ⟨F, h1, h2⟩
noncomputable def yldT (rt : RnT) (l : Nat) (args : List SV) (h : HT) : Option (SV × HT) :=
 match h.get l with
 | .ob (.lp .ready pd fr ps a b df) => setps fr ps args fun fr => mkT fr fr.length fun F => match rt (some l) a fr.length F [] h with
  | some ⟨.nm, F, ds, h⟩ => match h.get l with
   | .ob (.lp .ready pd fr0 ps0 a0 b0 df0) => h.set l (.ob (.lp .busy pd fr0 ps0 a0 b0 df0)) fun h => match rt (some l) b fr.length F ds h with
    | some ⟨e, _, _, h⟩ => endY l e h
    | none => none
   | _ => none
  | _ => none
 | _ => none
theorem yldT_eq {rt : RnT} {rn : Rn} (hr : RnRel rt rn) (l : Nat) (args : List SV) (h : HT) : yldT rt l args h = yldF rn l args h := by
 unfold yldT yldF
 split
 ·rename_i pd fr ps a b df hg
  simp only [hg]
  congr 1
  funext fr
  obtain ⟨F, hF, hk⟩ := mkT_self fr
  rw [hk]
  rcases hr (some l) a fr.length F fr [] h hF with ⟨e1, e2⟩ | ⟨e, F', fr', ds', h', e1, e2, hF'⟩
  ·rw [e1, e2]
  ·rw [e1, e2]
   cases e <;> first | rfl | skip
   simp only
   split
   ·rename_i pd0 fr0 ps0 a0 b0 df0 hg0
    simp only [hg0, HT.set_eq]
    rcases hr (some l) b fr.length F' fr' ds' (h'.setd l (.ob (.lp .busy pd0 fr0 ps0 a0 b0 df0))) hF' with ⟨e3, e4⟩ | ⟨e', F2, fr2, ds2, h2, e3, e4, _⟩
    ·rw [e3, e4]
    ·rw [e3, e4]
   ·rename_i hn
    split
    ·rename_i pd0 fr0 ps0 a0 b0 df0 hg0; exact (hn _ _ _ _ _ _ hg0).elim
    ·rfl
 ·rename_i hn
  split
  ·rename_i pd0 fr0 ps0 a0 b0 df0 hg0; exact (hn _ _ _ _ _ _ hg0).elim
  ·rfl
noncomputable def callFT (T : Nat → Option Fdn) (rt : RnT) : Cl := fun fv args h =>
 match fv with
 | .fn f caps => match (match frzF T f (ap args caps) h with
  | some r => some r
  | none => knW T f (ap args caps) h) with
  | some r => some r
  | none => match opn T f (ap args caps) with
   | true => fnT T rt f (ap args caps) h
   | false => match callQT T rt fv args with
    | some x => some (x, h)
    | none => match clQ (callQT T rt) f (ap args caps) h with
     | some r => some r
     | none => fnT T rt f (ap args caps) h
 | .mv f first caps => fnT T rt f (ap first (ap args caps)) h
 | .lb k l => match k with
  | .yl => yldT rt l args h
  | _ => none
 | _ => none
theorem callFT_eq {rt : RnT} {rn : Rn} (hr : RnRel rt rn) (T : Nat → Option Fdn) : callFT T rt = callF T rn := by
 funext fv args h
 unfold callFT callF
 rw [callQT_eq hr T, fnT_eq hr T]
 cases fv <;> first | rfl | skip
 rename_i k l
 cases k <;> first | rfl | exact yldT_eq hr ..
def rngT (r : Option (SV × HT)) (l : Nat) (F : FT) (ds : List Nat) : Option RsT :=
 match r with
 | some (_, h) => match h.get l with
  | .ob (.lp st pd fr0 ps a b df) => match st with
   | .busy => none
   | _ => h.set l (.ob (.lp .exhausted pd fr0 ps a b df)) fun h => match pd with
    | none => some ⟨.nm, F, ds, h⟩
    | some none => some ⟨.rt, F, ds, h⟩
    | some (some id) => some ⟨.ex id, F, ds, h⟩
  | _ => none
 | none => none
theorem rngT_rel {n : Nat} {F : FT} {fr : List SV} (hF : Rf n F fr) (r : Option (SV × HT)) (l : Nat) (ds : List Nat) : RelO n (rngT r l F ds) (rngE r l fr ds) := by
 unfold rngT rngE
 cases r with
 | none => exact .none
 | some r =>
  obtain ⟨x, h⟩ := r
  simp only
  generalize h.get l = b
  cases b <;> first | exact .none | skip
  rename_i o
  cases o <;> first | exact .none | skip
  rename_i st pd fr0 ps a b df
  cases st <;> simp only [HT.set_eq] <;> first | exact .none | skip
  all_goals
   cases pd with
   | none => exact .some hF
   | some p => cases p <;> exact .some hF
def sSeq (rt : RnT) (rd : Option Nat) (b : RC) (n : Nat) (r : Option RsT) : Option RsT :=
 match r with
 | some x => match x.e with
  | .nm => rt rd b n x.F x.ds x.h
  | .rt => some ⟨.rt, x.F, x.ds, x.h⟩
  | .ex i => some ⟨.ex i, x.F, x.ds, x.h⟩
 | none => none
def sCond (rt : RnT) (rd : Option Nat) (a b : RC) (n : Nat) (F : FT) (ds : List Nat) (h : HT) (c : SV) : Option RsT :=
 match c with
 | .lit v => match v with
  | .bool t => match t with
   | true => rt rd a n F ds h
   | false => rt rd b n F ds h
  | _ => none
 | _ => none
def sBlock (id : Nat) (r : Option RsT) : Option RsT :=
 match r with
 | some x => match x.e with
  | .ex j => match Nat.beq j id with
   | true => some ⟨.nm, x.F, x.ds, x.h⟩
   | false => some ⟨.ex j, x.F, x.ds, x.h⟩
  | .nm => some ⟨.nm, x.F, x.ds, x.h⟩
  | .rt => some ⟨.rt, x.F, x.ds, x.h⟩
 | none => none
noncomputable def stepT (T : Nat → Option Fdn) (rt : RnT) : RnT := fun rd c n F ds h =>
 match c with
 | .reg ops => opsT (callFT T rt) n ops F h fun F h => some ⟨.nm, F, ds, h⟩
 | .drw ps => drwAT (callFT T rt) (callQT T rt) n F ds h ps
 | .seq a b => sSeq rt rd b n (rt rd a n F ds h)
 | .cond c a b => sCond rt rd a b n F ds h (xr (gR n F) c)
 | .block id c => sBlock id (rt rd c n F ds h)
 | .loop c => sSeq rt rd (.loop c) n (rt rd c n F ds h)
 | .exit id => some ⟨.ex id, F, ds, h⟩
 | .ret => some ⟨.rt, F, ds, h⟩
 | .skip => some ⟨.nm, F, ds, h⟩
 | .scp c => rt rd c n F ds h
 | .rng f ps a b => match xr (gR n F) f with
  | .fn fid caps => match rd with
   | none => h.push (.ob .df) fun h1 => h1.push (.ob (.lp .ready none (xsL n (gR n F)) ps a b h.n)) fun h2 => rngT (fnT T rt fid (.lb .yl h1.n :: caps) h2) h1.n F (h.n :: ds)
   | some l0 => match h.get l0 with
    | .ob (.lp _ _ _ _ _ _ df) => h.push (.ob (.lp .ready none (xsL n (gR n F)) ps a b df)) fun h2 => rngT (fnT T rt fid (.lb .yl h.n :: caps) h2) h.n F ds
    | _ => none
  | _ => none
noncomputable def runT (T : Nat → Option Fdn) (n : Nat) : RnT := Nat.rec (motive := fun _ => RnT) (fun _ _ _ _ _ _ => none) (fun _ ih => stepT T ih) n
theorem sSeq_rel {rt : RnT} {rn : Rn} (hr : RnRel rt rn) (rd : Option Nat) (b : RC) {n : Nat} {x : Option RsT} {y : Option Rs} (h : RelO n x y) : RelO n (sSeq rt rd b n x) (match (generalizing := false) y with
   | some ⟨.nm, fr, ds, h⟩ => rn rd b fr ds h
   | r => r) := by
 rcases h with ⟨rfl, rfl⟩ | ⟨e, F, fr, ds, h, rfl, rfl, hF⟩
 ·exact .none
 ·cases e
  ·exact hr rd b n F fr ds h hF
  ·exact .some hF
  ·exact .some hF
theorem runT_rel (T : Nat → Option Fdn) : ∀ m, RnRel (runT T m) (run T m)
 | 0 => fun _ _ _ _ _ _ _ _ => .none
 | m + 1 => by
  have hr := runT_rel T m
  intro rd c n F fr ds h hF
  have hg := gR_eq hF
  show RelO n (stepT T (runT T m) rd c n F ds h) _
  cases c with
  | reg ops =>
   simp only [stepT, run, callFT_eq hr T]
   exact opsT_par (Q := RelO n) .none (k' := fun fr h => some ⟨.nm, fr, ds, h⟩) (fun F fr h hF => .some hF) _ ops hF
  | drw ps =>
   simp only [stepT, run, callFT_eq hr T, callQT_eq hr T]
   exact drwAT_rel _ _ hF ds h ps
  | seq a b => simp only [stepT, run]; exact sSeq_rel hr rd b (hr rd a n F fr ds h hF)
  | loop c => simp only [stepT, run]; exact sSeq_rel hr rd (.loop c) (hr rd c n F fr ds h hF)
  | skip => exact .some hF
  | exit id => exact .some hF
  | ret => exact .some hF
  | scp c => simp only [stepT, run]; exact hr rd c n F fr ds h hF
  | cond c a b =>
   simp only [stepT, run, xr_eq hg]
   generalize c.get fr = x
   cases x <;> first | exact .none | skip
   rename_i v
   cases v <;> first | exact .none | skip
   rename_i t
   cases t
   ·exact hr rd b n F fr ds h hF
   ·exact hr rd a n F fr ds h hF
  | block id c =>
   simp only [stepT, run]
   rcases hr rd c n F fr ds h hF with ⟨e1, e2⟩ | ⟨e, F', fr', ds', h', e1, e2, hF'⟩
   ·rw [e1, e2]; exact .none
   ·rw [e1, e2]
    cases e
    ·exact .some hF'
    ·exact .some hF'
    ·rename_i j
     simp only [sBlock]
     cases Nat.beq j id <;> exact .some hF'
  | rng f ps a b =>
   simp only [stepT, run, xr_eq hg, fnT_eq hr T, xsL_eq hF, HT.push_eq]
   generalize f.get fr = x
   cases x <;> first | exact .none | skip
   rename_i fid caps
   cases rd with
   | none => exact rngT_rel hF ..
   | some l0 =>
    simp only
    generalize h.get l0 = b
    cases b <;> first | exact .none | skip
    rename_i o
    cases o <;> first | exact .none | exact rngT_rel hF ..
noncomputable def okT (T : Nat → Option Fdn) (n : Nat) (f : Nat) (as : List SV) (x : SV) : Bool :=
 match callQT T (runT T n) (.fn f []) as with
 | some y => eqS 12 y x
 | none => false
theorem pure_of_okT {P : Program} {T : Nat → Option Fdn} (hT : TabR P T) {n f : Nat} {as : List SV} {x : SV} (e : okT T n f as x = true) : PureOk P f (fun bs K => bs = as ∧ K x) := by
 unfold okT at e
 rw [callQT_eq (runT_rel T n) T] at e
 refine pure_of_okQ hT (n := n) ?_
 unfold okQ
 rw [runF_eq]; exact e
end Go.Vg
