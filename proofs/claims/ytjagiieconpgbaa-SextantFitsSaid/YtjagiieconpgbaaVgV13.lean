import Derived.Test.YtjagiieconpgbaaVgR13f
import Derived.Test.YtjagiieconpgbaaVgV12
namespace Go.Vg
open Go
set_option linter.unusedVariables false
set_option linter.unusedSimpArgs false
def Env.sok (E : Env) (q : Code → RC → Prop) : Env := { E with ok := q }
theorem Rv.sok {E : Env} {q : Code → RC → Prop} {x : SV} {v : Value} (hx : Rv E x v) : Rv (E.sok q) x v := by
 refine Rv.rec (motive_1 := fun x v _ => Rv (E.sok q) x v) (motive_2 := fun xs vs _ => Rvs (E.sok q) xs vs) ?_ ?_ ?_ ?_ ?_ ?_ ?_ ?_ ?_ ?_ ?_ ?_ ?_ ?_ ?_ ?_ ?_ ?_ ?_ ?_ ?_ ?_ ?_ hx
 ·exact fun v => .lit v
 ·exact fun k n => .int k n
 ·exact fun b => .bool b
 ·exact fun l off hl => .ptr (E := E.sok q) l off hl
 ·exact fun l sz i off hl => .ep (E := E.sok q) l sz i off hl
 ·exact fun cs off v hv => .rp (E := E.sok q) _ _ _ hv
 ·exact fun cs vs _ ih => .agg cs vs ih
 ·exact fun cs vs _ ih => .tup cs vs ih
 ·exact fun f cs vs _ ih => .fn f cs vs ih
 ·exact fun t x v _ ih => .ifc t x v ih
 ·exact fun k xs v hv => .ints (E := E.sok q) _ _ _ hv
 ·exact fun sz len f v hv => .rd (E := E.sok q) _ _ _ _ hv
 ·exact fun k xs v hv => .clip (E := E.sok q) _ _ _ hv
 ·exact fun sz len f v hv => .clipr (E := E.sok q) _ _ _ _ hv
 ·exact fun l v hl h1 h2 => .own (E := E.sok q) l v hl h1 h2
 ·exact fun l len hl => .bsl (E := E.sok q) l len hl
 ·exact fun l off len cap hl => .bso (E := E.sok q) l off len cap hl
 ·exact fun k l hl => .lb (E := E.sok q) k l hl
 ·exact fun f fs cs us vs _ _ i1 i2 => .mv f fs cs us vs i1 i2
 ·exact fun ks vs v hv => .cm (E := E.sok q) _ _ _ hv
 ·exact fun v => .any v
 ·exact .nil
 ·exact fun x v xs vs _ _ i1 i2 => .cons x v xs vs i1 i2
theorem Rvs.sok {E : Env} {q : Code → RC → Prop} : ∀ {xs : List SV} {vs : List Value}, Rvs E xs vs → Rvs (E.sok q) xs vs
 | [], [], .nil => .nil
 | _ :: _, _ :: _, .cons x v xs vs hx hs => .cons x v xs vs hx.sok (Rvs.sok hs)
def nlp1 : Blk → Bool
 | .ob (.lp ..) => false
 | _ => true
def nlp : List Blk → Bool
 | [] => true
 | b :: t => match nlp1 b with
  | true => nlp t
  | false => false
theorem nlp_get : ∀ {hp : List Blk} {l : Nat} {b : Blk}, nlp hp = true → hp[l]? = some b → nlp1 b = true
 | [], l, b, _, h => by simp at h
 | x :: t, l, b, hn, h => by
  simp only [nlp] at hn
  split at hn <;> first | (cases hn; done) | skip
  rename_i hx
  cases l with
  | zero => simp at h; subst h; exact hx
  | succ l => exact nlp_get hn (by simpa using h)
theorem Blk.at_sok {E : Env} {q : Code → RC → Prop} {l : Nat} (b : Blk) : b.at (E.sok q) l = b.at E l := by cases b <;> rfl
theorem Rblk.sok {E : Env} {q : Code → RC → Prop} {l : Nat} {b : Blk} (hn : nlp1 b = true) (h : Rblk E l b) : Rblk (E.sok q) l b := by
 cases b with
 | dead => trivial
 | ob o =>
  cases o with
  | mp es => obtain ⟨xs, h1, h2, h3, h4⟩ := h; exact ⟨xs, h1.sok, h2.sok, h3, h4⟩
  | lp st pd fr ps a b df => cases hn
  | df => exact h
  | dn => exact h
  | wl st pd fr ps ca cb df => obtain ⟨h0, fn, vs, h1, h2⟩ := h; exact ⟨h0, fn, vs, h1.sok, h2⟩
 | box t cs => obtain ⟨vs, h1, h2⟩ := h; exact ⟨vs, h1.sok, h2⟩
 | fbox t cs => obtain ⟨h0, vs, h1, h2⟩ := h; exact ⟨h0, vs, h1.sok, h2⟩
 | oi k t xs => exact h
 | orw t sz len f => exact h
 | fz x => exact Rv.sok (E := E) h
theorem RHp.sok {E : Env} {q : Code → RC → Prop} {hp : List Blk} (hn : nlp hp = true) (h : RHp E hp) : RHp (E.sok q) hp :=
  ⟨⟨h.g.fr, h.g.fz, h.g.sz, h.g.os, h.g.tape, h.g.output, h.g.imb, h.g.im0⟩,
   ⟨h.b.n, h.b.rs, fun l b hb => (h.b.blk l b hb).sok (nlp_get hn hb), h.b.live, fun l b g hb hg => h.b.imx l b g hb (by rw [Blk.at_sok] at hg; exact hg),
    fun l b g hb hg => h.b.base l b g hb (by rw [Blk.at_sok] at hg; exact hg), fun l l' b b' g hb hb' hg hg' => h.b.dj l l' b b' g hb hb' (by rw [Blk.at_sok] at hg; exact hg) (by rw [Blk.at_sok] at hg'; exact hg')⟩⟩
theorem Env.Le.back {E E' : Env} {q : Code → RC → Prop} (h : (E.sok q).Le E') : E.Le (E'.sok E.ok) :=
 ⟨h.n, h.has, h.blk, h.val, h.live, h.im, h.mem, h.W, h.M, h.im0, h.df, h.n0, rfl, h.rs⟩
def HT.of : List Blk → HT → HT
 | [], h => h
 | b :: t, h => HT.of t (h.pushed b)
def HT.nil : HT := ⟨0, 0, .e⟩
theorem HRel.of : ∀ (t : List Blk) {h : HT} {hp : List Blk}, HRel h hp → HRel (HT.of t h) (hp ++ t)
 | [], h, hp, r => by simpa [HT.of] using r
 | b :: t, h, hp, r => by
  have := HRel.of t (r.push b)
  rw [pb_eq, List.append_assoc] at this
  exact this
def HT.toL (h : HT) : Nat → List Blk
 | 0 => []
 | n + 1 => pb (h.toL n) (h.get n)
theorem gb_ext : ∀ {a b : List Blk}, ln a = ln b → (∀ l, l < ln a → gb a l = gb b l) → a = b
 | [], [], _, _ => rfl
 | [], _ :: _, h, _ => by simp [ln] at h
 | _ :: _, [], h, _ => by simp [ln] at h
 | x :: a, y :: b, h, hg => by
  have h0 := hg 0 (by simp [ln])
  simp only [gb] at h0
  rw [h0, gb_ext (a := a) (b := b) (by simpa [ln] using h) (fun l hl => by have := hg (l + 1) (by simpa [ln] using hl); simpa [gb] using this)]
theorem toL_get (h : HT) : ∀ (n : Nat), ln (h.toL n) = n ∧ ∀ l, l < n → gb (h.toL n) l = h.get l
 | 0 => ⟨rfl, fun l hl => by omega⟩
 | n + 1 => by
  obtain ⟨h1, h2⟩ := toL_get h n
  refine ⟨by simp only [HT.toL]; rw [ln_pb, h1], fun l hl => ?_⟩
  simp only [HT.toL]
  rw [gb_pb_all, h1]
  split
  ·rename_i e; rw [e]
  ·exact h2 l (by omega)
theorem HRel.toL {h : HT} {hp : List Blk} (r : HRel h hp) : h.toL h.n = hp := by
 obtain ⟨h1, h2⟩ := toL_get h h.n
 refine gb_ext (by rw [h1, r.n]) fun l hl => ?_
 rw [h2 l (by rw [← h1]; exact hl), r.g]
def noCl : Cl := fun _ _ _ => none
def noCq : Cq := fun _ _ => none
def fnR (id : Nat) : Code → Option Code
 | .region i ops d => if i = id then some (.region i ops d) else none
 | .seq a b => match fnR id a with
  | some c => some c
  | none => fnR id b
 | .cond _ a b => match fnR id a with
  | some c => some c
  | none => fnR id b
 | .block _ c => fnR id c
 | .loop c => fnR id c
 | .scope c => fnR id c
 | .rangeFunc _ _ a b => match fnR id a with
  | some c => some c
  | none => fnR id b
 | _ => none
def rq (fn : Func) (id : Nat) : Code := (fn.body.bind (fnR id)).getD .skip
def puts (fr : List SV) : List (Nat × SV) → List SV
 | [] => fr
 | (i, x) :: t => puts (st fr i x) t
theorem puts_n {fr : List SV} : puts fr [] = fr := rfl
theorem puts_c {fr : List SV} {i x t} : puts fr ((i, x) :: t) = puts (st fr i x) t := rfl
end Go.Vg
