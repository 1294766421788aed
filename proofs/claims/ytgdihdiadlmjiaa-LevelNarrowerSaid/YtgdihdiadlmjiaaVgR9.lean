import Derived.Test.YtgdihdiadlmjiaaVgR8
set_option linter.all false
namespace Go.Vg
open Go
theorem xBr {P : Program} {ops : Array Oper} : ∀ {l : List Oper} {lo : List Opq}, cops2 P ops l = some lo -> ∀ (i : Nat) (op : Oper), l[i]? = some op ->
  ∃ o, lo[i]? = some o /\ C2 P op o.o /\ o.d = op.dst /\ GRel ops op o.sh
 | [], lo, h, i, op, e => by simp at e
 | x :: l, lo, h, i, op, e => by
  simp only [cops2] at h
  split at h
  ·rename_i o1 lo' g h1 h2 h3
   cases h
   cases i with
   | zero =>
    simp at e; subst e
    refine ⟨_, by simp; rfl, c2s_C2 h1, rfl, ?_⟩
    cases hg : x.guard with
    | none => simp only [hg] at h3; cases h3; exact .inl ⟨hg, rfl⟩
    | some jw =>
     obtain ⟨j, w⟩ := jw
     simp only [hg] at h3
     split at h3
     ·rename_i d hd; cases h3; exact .inr ⟨j, w, d, hg, hd, rfl⟩
     ·cases h3
   | succ i => simpa using xBr h2 i op (by simpa using e)
  ·cases h
theorem xAy {P : Program} {ops : Array Oper} : ∀ {l : List Oper} {lo : List Opq}, cops2 P ops l = some lo -> lo.length = l.length
 | [], lo, h => by simp [cops2] at h; subst h; rfl
 | x :: l, lo, h => by
  simp only [cops2] at h
  split at h
  ·rename_i o1 lo' g h1 h2 h3; cases h; simp [xAy h2]
  ·cases h
theorem c2_nodefer {P : Program} {o : Oper} {o2 : Op2} (h : c2 P o = some o2) : ∀ c, o.op ≠ .defer c := by
 intro c ho
 unfold c2 at h
 split at h
 ·rename_i h1; unfold clnOf at h1; rw [ho] at h1; cases h1
 ·split at h
  ·rename_i h1; exact c1_nodefer h1 c ho
  ·split at h
   ·rename_i h1; unfold c2m at h1; rw [ho] at h1; cases h1
   ·split at h
    ·rename_i h1; unfold c2e at h1; rw [ho] at h1; cases h1
    ·unfold badOf at h; rw [ho] at h; cases h
theorem xFv {P : Program} {o : Oper} {o2 : Op2} (h : C2 P o o2) : ∀ c, o.op ≠ .defer c := by
 intro c ho
 rcases h with h | ⟨_, h⟩
 ·exact c2_nodefer h c ho
 ·unfold c2c at h; rw [ho] at h; cases h
section
variable {P : Program}
theorem xCa {ro : Option Nat} {n : Nat} {ops : Array Oper} {Q : Exit -> Act -> World -> Prop} {i : Nat} {op : Oper} {o : Opq} (hi : ops[i]? = some op) (hc : C2 P op o.o) (hd : o.d = op.dst) (hg : GRel ops op o.sh)
  {E : Env} {a : Act} {F : List SV} {hp : List Blk} (hF : Rvs E F a.tmps.toList) (hr : RHp E hp) (hok : OkE P E) {K : Act -> World -> Prop} {b : Bool} (hgd : gdl F o.g = some b)
  (hskip : b = false -> K (a.put op.dst undef) E.w)
  (hrun : b = true -> ∃ x hp', OpOk P op F hp x hp' /\ ∀ E' v, E.Le E' -> RHp E' hp' -> Rv E' x v -> K (a.put op.dst v) E'.w) : wpOpIn (fen ro) n P ops Q i K a E.w := by
 unfold wpOpIn
 simp only [hi]
 have hw := xCl hg hgd (a := a) (E := E) (fun t ht => hF.gt t)
 cases b with
 | true =>
  rw [if_pos hw]
  refine ⟨fun _ _ => trivial, ?_⟩
  rw [Oper.semAt_eq _ _ _ (xFv hc)]
  obtain ⟨x, hp', h1, h2⟩ := hrun rfl
  exact h1 E a ro n K Q hok hr hF h2
 | false =>
  rw [if_neg (by simp [hw])]
  exact ⟨fun _ _ => trivial, hskip rfl⟩
theorem xDj {α : Type} {cl : Cl} {d : Option Nat} {g : Option (Nat × Bool)} {o : Op2} {t : List Opq} {fr : List SV} {h : HT} {k : List SV -> HT -> Option α} {res : α} (e : opsB cl (⟨d, g, o⟩ :: t) fr h k = some res) :
  ∃ b, gdl fr g = some b /\ (b = false -> opsB cl t (putf fr d (.lit undef)) h k = some res) /\ (b = true -> evX cl fr h o (fun x h => opsB cl t (putf fr d (nrm x)) h k) = some res) := by
 simp only [opsB] at e
 split at e <;> first | (cases e; done) | skip
 ·rename_i hg
  refine ⟨true, hg, (fun h => nomatch h), fun _ => ?_⟩
  simp only [xBl, xBd] at e; exact e
 ·rename_i hg
  refine ⟨false, hg, fun _ => ?_, (fun h => nomatch h)⟩
  rw [xBd] at e; exact e
theorem xEv {α : Type} {cl : Cl} (hcl : ClOk P cl) {all : Array Oper} {k : List SV -> HT -> Option α} {res : α} : ∀ (l : List Oper) (lo : List Opq), cops2 P all l = some lo -> ∀ {fr : List SV} {h : HT} {hp : List Blk}, HRel h hp -> opsB cl lo fr h k = some res ->
  ∃ fr' h' hp', HRel h' hp' /\ Frm h h' /\ k fr' h' = some res /\ ∀ (E : Env) (a : Act) (ro : Option Nat) (n : Nat) (Q : Exit -> Act -> World -> Prop), OkE P E -> RHp E hp -> Rvs E fr a.tmps.toList ->
   (∀ E' a', E.Le E' -> RHp E' hp' -> Rvs E' fr' a'.tmps.toList -> a'.defers = a.defers -> Q .normal a' E'.w) -> wpListIn (fen ro) n P all Q l a E.w
 | [], lo, hc, fr, h, hp, r, e => by
  simp [cops2] at hc; subst hc
  exact ⟨fr, h, hp, r, .refl h, e, fun E a ro n Q hok hr hf hq => hq E a (.refl E) hr hf rfl⟩
 | op :: l, lo, hc, fr, h, hp, r, e => by
  obtain ⟨o, ho, hco, hod, hog⟩ := xBr hc 0 op rfl
  simp only [cops2] at hc
  split at hc
  ·rename_i o1 lo' g h1 h2 h3
   cases hc
   simp at ho; subst ho
   obtain ⟨b, hg, hf, ht⟩ := xDj e
   have wrap : ∀ (E : Env) (a : Act) (ro : Option Nat) (n : Nat) (Q : Exit -> Act -> World -> Prop) (K : Act -> World -> Prop), (Region.wanted op (yielded all a.tmps) = true -> op.wpIn (fen ro) n P a E.w K Q) ->
     (Region.wanted op (yielded all a.tmps) = false -> K (a.put op.dst undef) E.w) -> K = wpListIn (fen ro) n P all Q l -> wpListIn (fen ro) n P all Q (op :: l) a E.w := by
    intro E a ro n Q K h1 h2 hK
    subst hK
    simp only [wpListIn]
    split
    ·rename_i hw; exact h1 hw
    ·rename_i hw; exact ⟨fun _ _ => trivial, h2 (by simpa using hw)⟩
   cases b with
   | false =>
    obtain ⟨fr', h', hp', r', hfm, hk, hh⟩ := xEv hcl l lo' h2 r (hf rfl)
    refine ⟨fr', h', hp', r', hfm, hk, fun E a ro n Q hok hr hfr hq => ?_⟩
    have hw := xCl hog hg (a := a) (E := E) (fun t ht => hfr.gt t)
    refine wrap E a ro n Q _ (fun hw' => by rw [hw] at hw'; cases hw') (fun _ => ?_) rfl
    exact hh E _ ro n Q hok hr (xAx hfr (.lit undef)) fun E' a' h1 h2 h3 h4 => hq E' a' h1 h2 h3 (h4.trans (xAm ..))
   | true =>
    obtain ⟨x, h1', hp1, r1, hf1, e1, hop⟩ := xJh (P := P) hcl r (ht rfl)
    obtain ⟨fr', h', hp', r', hfm, hk, hh⟩ := xEv hcl l lo' h2 r1 e1
    refine ⟨fr', h', hp', r', hf1.trans hfm, hk, fun E a ro n Q hok hr hfr hq => ?_⟩
    have hw := xCl hog hg (a := a) (E := E) (fun t ht => hfr.gt t)
    refine wrap E a ro n Q _ (fun _ => ?_) (fun hw' => by rw [hw] at hw'; cases hw') rfl
    refine ⟨fun _ _ => trivial, ?_⟩
    rw [Oper.semAt_eq _ _ _ (xFv (c2s_C2 h1))]
    refine hop op hco E a ro n _ Q hok hr hfr fun E' v hle hr' hv => ?_
    exact hh E' _ ro n Q (hok.le hle) hr' (xAx (hfr.mono hle) (xFo hv)) fun E'' a' g1 g2 g3 g4 => hq E'' a' (hle.trans g1) g2 g3 (g4.trans (xAm ..))
  ·cases hc
theorem xIl {α : Type} {cl : Cl} (hcl : ClOk P cl) {ro : Option Nat} {n : Nat} {ops : Array Oper} {Q : Exit -> Act -> World -> Prop} {lo : List Opq} {hd : Nat} (hc : cops2 P ops ops.toList = some lo) (he : edgesOk ops.toList = true)
  (hm : ∀ i, hd <= i -> i < ops.size -> ∀ j, j < i -> ((masks ops.toList []).getD i 0).testBit j = true) {kk : List SV -> HT -> Option α} {res : α} {frF : List SV} {hF : HT} {hpF : List Blk} (hfin : ∀ fr h, kk fr h = some res -> fr = frF /\ h = hF) (rF : HRel hF hpF) (E0 : Env) (dfs : List Deferred)
  (hq : ∀ E' a', E0.Le E' -> RHp E' hpF -> Rvs E' frF a'.tmps.toList -> a'.defers = dfs -> Q .normal a' E'.w) :
  ∀ (fuel : Nat) (lst : Array Bool) (k : Nat) (E : Env) (fr : List SV) (h : HT) (hp : List Blk) (a : Act), left lst <= fuel -> lst.size = ops.size -> Shut ops (LS lst) -> (∀ j, j < ops.size -> (LS lst j = true ↔ j < hd + k)) -> E0.Le E -> OkE P E -> HRel h hp -> RHp E hp ->
   Rvs E fr a.tmps.toList -> a.defers = dfs -> opsB cl (lo.drop (hd + k)) fr h kk = some res -> wpAnyIn (fen ro) n P .any ops Q fuel lst a E.w := by
 intro fuel
 have done : ∀ (lst : Array Bool) (k : Nat) (E : Env) (fr : List SV) (h : HT) (hp : List Blk) (a : Act), ops.size <= hd + k -> E0.Le E -> HRel h hp -> RHp E hp -> Rvs E fr a.tmps.toList -> a.defers = dfs -> opsB cl (lo.drop (hd + k)) fr h kk = some res -> Q .normal a E.w := by
  intro lst k E fr h hp a hge h0 r hr hf hdf hev
  have hdrop : lo.drop (hd + k) = [] := List.drop_eq_nil_of_le (by rw [xAy hc]; simpa using hge)
  rw [hdrop] at hev
  obtain ⟨rfl, rfl⟩ := hfin _ _ hev
  have := r.uniq rF
  subst this
  exact hq E a h0 hr hf hdf
 induction fuel with
 | zero =>
  intro lst k E fr h hp a hleft hsz hs hk h0 hok r hr hf hdf hev
  have hall : ∀ j, j < ops.size -> j < hd + k := fun j hj => (hk j hj).1 (by have := xCm (by omega) (lst := lst) j; rw [xBh (by omega)] at this; exact this)
  refine ⟨?_, done lst k E fr h hp a ?_ h0 r hr hf hdf hev⟩
  ·apply List.eq_nil_iff_forall_not_mem.2
   intro i hi
   obtain ⟨h1, h2, _⟩ := xAd hsz hs hi
   have := (hk i h1).2 (hall i h1)
   rw [h2] at this; cases this
  ·rcases Nat.lt_or_ge (hd + k) ops.size with h1 | h1
   ·have := hall _ h1; omega
   ·exact h1
 | succ fuel ih =>
  intro lst k E fr h hp a hleft hsz hs hk h0 hok r hr hf hdf hev
  have hone : ∀ i, i ∈ Region.ready .any ops lst -> i = hd + k := by
   intro i hi
   obtain ⟨h1, h2, h3, _⟩ := xAd hsz hs hi
   have h4 : ¬ i < hd + k := fun hlt => by have := (hk i h1).2 hlt; rw [h2] at this; cases this
   rcases Nat.lt_or_ge (hd + k) i with h5 | h5
   ·have h6 := h3 (hd + k) (hm i (by omega) h1 (hd + k) h5)
    have := (hk (hd + k) (by omega)).1 h6
    omega
   ·omega
  constructor
  ·intro hnil
   have hge : ops.size <= hd + k := by
    rcases Nat.lt_or_ge (hd + k) ops.size with h1 | h1
    ·have h2 : LS lst (hd + k) = false := by
      cases hv : LS lst (hd + k)
      ·rfl
      ·have := (hk _ h1).1 hv; omega
     obtain ⟨j, _, hj⟩ := xAk hsz he (hd + k) h1 (by rw [xBh (by omega)]; exact h2)
     rw [hnil] at hj; cases hj
    ·exact h1
   exact done lst k E fr h hp a hge h0 r hr hf hdf hev
  ·intro i hi
   have hik := hone i hi
   obtain ⟨h1, h2, h3, h4, h5, h6⟩ := xAd hsz hs hi
   have hop : ops.toList[i]? = some ops[i] := by simp [h1]
   obtain ⟨o, ho, hco, hod, hog⟩ := xBr hc i ops[i] hop
   have hdrop : lo.drop (hd + k) = o :: lo.drop (hd + (k + 1)) := by
    have hlt : i < lo.length := (List.getElem?_eq_some_iff.1 ho).1
    have h7 : lo[i] = o := (List.getElem?_eq_some_iff.1 ho).2
    rw [<- hik, List.drop_eq_getElem_cons hlt, h7, <- Nat.add_assoc, <- hik]
   rw [hdrop] at hev
   have hk' : ∀ j, j < ops.size -> (LS (lst.setIfInBounds i true) j = true ↔ j < hd + (k + 1)) := by
    intro j hj
    rw [h5, Bool.or_eq_true]
    constructor
    ·rintro (hj' | hj')
     ·have : j = i := by simpa using hj'
      omega
     ·have := (hk j hj).1 hj'; omega
    ·intro hj'
     by_cases hji : j = i
     ·left; simpa using hji
     ·right; exact (hk j hj).2 (by omega)
   obtain ⟨b, hg, hfa, htr⟩ := xDj hev
   refine xCa (by simp [h1]) hco hod hog hf hr hok hg (fun hb => ?_) (fun hb => ?_)
   ·rw [<- hod]
    exact ih _ (k + 1) E _ h hp _ (by omega) (by simpa using hsz) h4 hk' h0 hok r hr (xAx hf (.lit undef)) (by rw [xAm]; exact hdf) (hfa hb)
   ·obtain ⟨x, h', hp', r', hfm, e1, hopk⟩ := xJh (P := P) hcl r (htr hb)
    refine ⟨x, hp', hopk _ hco, fun E' v hle hr' hv => ?_⟩
    rw [<- hod]
    exact ih _ (k + 1) E' _ h' hp' _ (by omega) (by simpa using hsz) h4 hk' (h0.trans hle) (hok.le hle) r' hr' (xAx (hf.mono hle) (xFo hv)) (by rw [xAm]; exact hdf) e1
end
end Go.Vg
