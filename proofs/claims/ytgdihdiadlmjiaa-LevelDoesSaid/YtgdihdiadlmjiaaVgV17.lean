import Derived.Test.YtgdihdiadlmjiaaVgV11
import Derived.Test.YtgdihdiadlmjiaaVgR13
import Derived.Test.YtgdihdiadlmjiaaVgR18
import Derived.Test.YtgdihdiadlmjiaaVgY12
set_option linter.all false
section
namespace Go.Vg
open Go
def rngs : Code → List Code
 | .seq a b => rngs a ++ rngs b
 | .cond _ a b => rngs a ++ rngs b
 | .block _ c => rngs c
 | .loop c => rngs c
 | .scope c => rngs c
 | .rangeFunc g ps x y => [.rangeFunc g ps x y]
 | _ => []
def rg (fn : Func) (i : Nat) : Code := ((fn.body.map rngs).getD [])[i]?.getD .skip
def rIs : Code → Bool
 | .rangeFunc .. => true
 | _ => false
def rgO : Code → Operand
 | .rangeFunc g _ _ _ => g
 | _ => .tmp 0
def rgQ : Code → Array Tmp
 | .rangeFunc _ ps _ _ => ps
 | _ => #[]
def rgA : Code → Code
 | .rangeFunc _ _ x _ => x
 | c => c
def rgB : Code → Code
 | .rangeFunc _ _ _ y => y
 | c => c
theorem rEq : ∀ {c : Code}, rIs c = true → c = .rangeFunc (rgO c) (rgQ c) (rgA c) (rgB c)
 | .rangeFunc _ _ _ _, _ => rfl
theorem sem_of {P : Program} {T : List (Nat × Sg)} (hT : TabOk P T) {N : Nat} {c : Code} (hc : rIs c = true) {ps : List Nat} (hps : (rgQ c).toList = ps) {K : Exit → St → Prop} {fr : List SV} {hp : List Blk} {x : X} {g : Nat} {caps : List SV} {fng : Func} {sg : SC} {nt : Nat}
  (ho : cX (rgO c) = some x) (hx : x.get fr = .fn g caps) (hf : P.funcs[g]? = some fng) (hnm : fng.name ≠ "runtime.NumGoroutine")
  (hk : (fng.body.bind (cC P), cR P fng.results.toList, fng.ntmps) = (some sg, some [], nt)) (hns : sg.nosem = true)
  (he : exec (ln hp + 2) (gam P T) (gamq T) sg (rK K fr (ln hp) (ln hp + 1)) ⟨mkfr (.lb .yl (ln hp + 1) :: caps) nt, pb (pb hp (.ob .df)) (.ob (.wl .ready none fr ps (rgA c) (rgB c) (ln hp)))⟩) :
  SemOk P N c K ⟨fr, hp⟩ := by
 rw [rEq hc]
 subst hps
 exact sem_rng (gam_ok hT) (xNw hT) (xSh hT) (xMf hT) ho hx hf hnm hk hns he
theorem yld_of {P : Program} {T : List (Nat × Sg)} (hT : TabOk P T) {c : Code} {L : Nat} {args : List SV} {hp : List Blk} {k : SV → List Blk → Prop} {pd : Option (Option Nat)} {fr : List SV} {ps : List Nat} {df : Nat} {sx sy : SC}
  (hx : cC P (rgA c) = some sx) (hy : cC P (rgB c) = some sy) (hnx : sx.nosem = true) (hny : sy.nosem = true) (hg : gb hp L = .ob (.wl .ready pd fr ps (rgA c) (rgB c) df)) (hpl : ps.length = args.length)
  (he : exec (ln hp) (gam P T) (gamq T) sx (fun e s => (∀ pd' fr' ps' ca' cb' df', gb s.hp L = .ob (.wl .ready pd' fr' ps' ca' cb' df') → cb' = rgB c) ∧ yK1 (gam P T) (gamq T) sy L k e s) ⟨setL fr ps args, hp⟩) : YSem P L args hp k :=
 ysem_of (gam_ok hT) (xNw hT) (xSh hT) (xMf hT) hg hx hy hnx hny hpl he
theorem sem_ofF {P : Program} {T : List (Nat × Sg)} (hT : TabOk P T) {N : Nat} {c : Code} (hc : rIs c = true) {ps : List Nat} (hps : (rgQ c).toList = ps) {K : Exit → St → Prop} {fr F0 : List SV} (hF : fr = F0) {hp : List Blk} {x : X} {g : Nat} {caps : List SV} {fng : Func} {sg : SC} {nt : Nat}
  (ho : cX (rgO c) = some x) (hx : x.get fr = .fn g caps) (hf : P.funcs[g]? = some fng) (hnm : fng.name ≠ "runtime.NumGoroutine")
  (hk : (fng.body.bind (cC P), cR P fng.results.toList, fng.ntmps) = (some sg, some [], nt)) (hns : sg.nosem = true)
  (he : exec (ln hp + 2) (gam P T) (gamq T) sg (rK K fr (ln hp) (ln hp + 1)) ⟨mkfr (.lb .yl (ln hp + 1) :: caps) nt, pb (pb hp (.ob .df)) (.ob (.wl .ready none F0 ps (rgA c) (rgB c) (ln hp)))⟩) :
  SemOk P N c K ⟨fr, hp⟩ := by
 subst hF
 exact sem_of hT hc hps ho hx hf hnm hk hns he
theorem yld_ofF {P : Program} {T : List (Nat × Sg)} (hT : TabOk P T) {c : Code} {L : Nat} {args : List SV} {hp : List Blk} {k : SV → List Blk → Prop} {pd : Option (Option Nat)} {fr F0 : List SV} (hF : fr = F0) {ps : List Nat} {df : Nat} {sx sy : SC}
  (hx : cC P (rgA c) = some sx) (hy : cC P (rgB c) = some sy) (hnx : sx.nosem = true) (hny : sy.nosem = true) (hg : gb hp L = .ob (.wl .ready pd F0 ps (rgA c) (rgB c) df)) (hpl : ps.length = args.length)
  (he : exec (ln hp) (gam P T) (gamq T) sx (fun e s => (∀ pd' fr' ps' ca' cb' df', gb s.hp L = .ob (.wl .ready pd' fr' ps' ca' cb' df') → cb' = rgB c) ∧ yK1 (gam P T) (gamq T) sy L k e s) ⟨setL fr ps args, hp⟩) : YSem P L args hp k := by
 subst hF
 exact yld_of hT hx hy hnx hny hg hpl he
theorem e_sem {N : Nat} {P : Program} {T : List (Nat × Sg)} {Γq} {c : Code} {K : Exit → St → Prop} {s : St} : exec N (gam P T) Γq (.sem c) K s = SemOk P N c K s := rfl
theorem callK_y {P : Program} {T : List (Nat × Sg)} {l args hp k} : callK (gam P T) (.lb .yl l) args hp k = YSem P l args hp k := rfl
end Go.Vg
end
section
namespace Go.Vg
open Go
def Env.sok (E : Env) (q : Code → RC → Prop) : Env := { E with ok := q }
theorem Rv.sok {E : Env} {q : Code → RC → Prop} {x : SV} {v : Value} (hx : Rv E x v) : Rv (E.sok q) x v := by
 refine Rv.rec (motive_1 := fun x v _ => Rv (E.sok q) x v) (motive_2 := fun xs vs _ => Rvs (E.sok q) xs vs) ?_ ?_ ?_ ?_ ?_ ?_ ?_ ?_ ?_ ?_ ?_ ?_ ?_ ?_ ?_ ?_ ?_ ?_ ?_ ?_ ?_ ?_ ?_ ?_ hx
 ·exact fun v => .lit v
 ·exact fun k n => .int k n
 ·exact fun b => .bool b
 ·exact fun l off hl => .ptr (E := E.sok q) l off hl
 ·exact fun l sz i off hl => .ep (E := E.sok q) l sz i off hl
 ·exact fun cs off v hv => .rp (E := E.sok q) _ _ _ hv
 ·exact fun cs vs _ ih => .agg cs vs ih
 ·exact fun cs vs _ ih => .tup cs vs ih
 ·exact fun f cs vs _ ih => .fn f cs vs ih
 ·exact fun t x v _ ih => .ifc t x v ih
 ·exact fun k xs v hv => .ints (E := E.sok q) _ _ _ hv
 ·exact fun sz len f v hv => .rd (E := E.sok q) _ _ _ _ hv
 ·exact fun k xs v hv => .clip (E := E.sok q) _ _ _ hv
 ·exact fun sz len f v hv => .clipr (E := E.sok q) _ _ _ _ hv
 ·exact fun l v hl h1 h2 => .own (E := E.sok q) l v hl h1 h2
 ·exact fun l len hl => .bsl (E := E.sok q) l len hl
 ·exact fun l off len cap hl => .bso (E := E.sok q) l off len cap hl
 ·exact fun k l hl => .lb (E := E.sok q) k l hl
 ·exact fun f fs cs us vs _ _ i1 i2 => .mv f fs cs us vs i1 i2
 ·exact fun ks vs v hv => .cm (E := E.sok q) _ _ _ hv
 ·exact fun v => .any v
 ·exact fun m x v _ ih => .mm m x v ih
 ·exact .nil
 ·exact fun x v xs vs _ _ i1 i2 => .cons x v xs vs i1 i2
theorem Rvs.sok {E : Env} {q : Code → RC → Prop} : ∀ {xs : List SV} {vs : List Value}, Rvs E xs vs → Rvs (E.sok q) xs vs
 | [], [], .nil => .nil
 | _ :: _, _ :: _, .cons x v xs vs hx hs => .cons x v xs vs hx.sok (Rvs.sok hs)
def nlp1 : Blk → Bool
 | .ob (.lp ..) => false
 | _ => true
def nlp : List Blk → Bool
 | [] => true
 | b :: t => match nlp1 b with
  | true => nlp t
  | false => false
theorem nlp_get : ∀ {hp : List Blk} {l : Nat} {b : Blk}, nlp hp = true → hp[l]? = some b → nlp1 b = true
 | [], l, b, _, h => by simp at h
 | x :: t, l, b, hn, h => by
  simp only [nlp] at hn
  split at hn <;> first | (cases hn; done) | skip
  rename_i hx
  cases l with
  | zero => simp at h; subst h; exact hx
  | succ l => exact nlp_get hn (by simpa using h)
theorem Blk.at_sok {E : Env} {q : Code → RC → Prop} {l : Nat} (b : Blk) : b.at (E.sok q) l = b.at E l := by cases b <;> rfl
theorem Rblk.sok {E : Env} {q : Code → RC → Prop} {l : Nat} {b : Blk} (hn : nlp1 b = true) (h : Rblk E l b) : Rblk (E.sok q) l b := by
 cases b with
 | dead => trivial
 | ob o =>
  cases o with
  | mp es => obtain ⟨xs, h1, h2, h3, h4⟩ := h; exact ⟨xs, h1.sok, h2.sok, h3, h4⟩
  | lp st pd fr ps a b df => cases hn
  | df => exact h
  | dn => exact h
  | wl st pd fr ps ca cb df => obtain ⟨h0, fn, vs, h1, h2⟩ := h; exact ⟨h0, fn, vs, h1.sok, h2⟩
 | box t cs => obtain ⟨vs, h1, h2⟩ := h; exact ⟨vs, h1.sok, h2⟩
 | fbox t cs => obtain ⟨h0, vs, h1, h2⟩ := h; exact ⟨h0, vs, h1.sok, h2⟩
 | oi k t xs => exact h
 | orw t sz len f => exact h
 | fz x => exact Rv.sok (E := E) h
theorem RHp.sok {E : Env} {q : Code → RC → Prop} {hp : List Blk} (hn : nlp hp = true) (h : RHp E hp) : RHp (E.sok q) hp :=
  ⟨⟨h.g.fr, h.g.fz, h.g.sz, h.g.os, h.g.tape, h.g.output, h.g.imb, h.g.im0⟩,
   ⟨h.b.n, h.b.rs, fun l b hb => (h.b.blk l b hb).sok (nlp_get hn hb), h.b.live, fun l b g hb hg => h.b.imx l b g hb (by rw [Blk.at_sok] at hg; exact hg),
    fun l b g hb hg => h.b.base l b g hb (by rw [Blk.at_sok] at hg; exact hg), fun l l' b b' g hb hb' hg hg' => h.b.dj l l' b b' g hb hb' (by rw [Blk.at_sok] at hg; exact hg) (by rw [Blk.at_sok] at hg'; exact hg')⟩⟩
theorem Env.Le.back {E E' : Env} {q : Code → RC → Prop} (h : (E.sok q).Le E') : E.Le (E'.sok E.ok) :=
 ⟨h.n, h.has, h.blk, h.val, h.live, h.im, h.mem, h.W, h.M, h.im0, h.df, h.n0, rfl, h.rs⟩
def HT.of : List Blk → HT → HT
 | [], h => h
 | b :: t, h => HT.of t (h.pushed b)
def HT.nil : HT := ⟨0, 0, .e⟩
theorem HRel.of : ∀ (t : List Blk) {h : HT} {hp : List Blk}, HRel h hp → HRel (HT.of t h) (hp ++ t)
 | [], h, hp, r => by simpa [HT.of] using r
 | b :: t, h, hp, r => by
  have := HRel.of t (r.push b)
  rw [xCz, List.append_assoc] at this
  exact this
def HT.toL (h : HT) : Nat → List Blk
 | 0 => []
 | n + 1 => pb (h.toL n) (h.get n)
theorem gb_ext : ∀ {a b : List Blk}, ln a = ln b → (∀ l, l < ln a → gb a l = gb b l) → a = b
 | [], [], _, _ => rfl
 | [], _ :: _, h, _ => by simp [ln] at h
 | _ :: _, [], h, _ => by simp [ln] at h
 | x :: a, y :: b, h, hg => by
  have h0 := hg 0 (by simp [ln])
  simp only [gb] at h0
  rw [h0, gb_ext (a := a) (b := b) (by simpa [ln] using h) (fun l hl => by have := hg (l + 1) (by simpa [ln] using hl); simpa [gb] using this)]
theorem toL_get (h : HT) : ∀ (n : Nat), ln (h.toL n) = n ∧ ∀ l, l < n → gb (h.toL n) l = h.get l
 | 0 => ⟨rfl, fun l hl => by omega⟩
 | n + 1 => by
  obtain ⟨h1, h2⟩ := toL_get h n
  refine ⟨by simp only [HT.toL]; rw [ln_pb, h1], fun l hl => ?_⟩
  simp only [HT.toL]
  rw [xFn, h1]
  split
  ·rename_i e; rw [e]
  ·exact h2 l (by omega)
theorem HRel.toL {h : HT} {hp : List Blk} (r : HRel h hp) : h.toL h.n = hp := by
 obtain ⟨h1, h2⟩ := toL_get h h.n
 refine gb_ext (by rw [h1, r.n]) fun l hl => ?_
 rw [h2 l (by rw [← h1]; exact hl), r.g]
def noCl : Cl := fun _ _ _ => none
def noCq : Cq := fun _ _ => none
def drwZ (fr : List SV) (h : HT) : List Drp → Option (List SV × HT)
 | [] => none
 | p :: t => match drwR noCl noCq p fr [] h with
  | some ⟨.nm, fr', _, h'⟩ => some (fr', h')
  | some _ => none
  | none => drwZ fr h t
theorem drwZ_get {fr : List SV} {h : HT} {fr' : List SV} {h' : HT} : ∀ {ps : List Drp}, drwZ fr h ps = some (fr', h') → ∃ p ds, p ∈ ps ∧ drwR noCl noCq p fr [] h = some ⟨.nm, fr', ds, h'⟩
 | [], e => by cases e
 | p :: t, e => by
  simp only [drwZ] at e
  split at e
  ·rename_i h1; cases e; exact ⟨p, _, List.mem_cons_self .., h1⟩
  ·cases e
  ·obtain ⟨q, ds, h1, h2⟩ := drwZ_get e
   exact ⟨q, ds, List.mem_cons_of_mem _ h1, h2⟩
def rgn (P : Program) (c : Code) (fr : List SV) (hp : List Blk) : Option (List SV × List Blk) :=
 match c with
 | .region _ ops true => match cdraw2 P ops with
  | some (.drw ps) => match drwZ fr (HT.of hp .nil) ps with
   | some (fr', h') => some (fr', h'.toL h'.n)
   | none => none
  | _ => none
 | .region _ ops false => match cops2 P ops ops.toList with
  | some lo => match opsB noCl lo fr (HT.of hp .nil) fun fr h => some (fr, h) with
   | some (fr', h') => some (fr', h'.toL h'.n)
   | none => none
  | none => none
 | _ => none
theorem sem_rgn {P : Program} {N : Nat} {c : Code} {K : Exit → St → Prop} {fr fr' : List SV} {hp hp' : List Blk} (hn : nlp hp = true) (hn' : nlp hp' = true) (e : rgn P c fr hp = some (fr', hp')) (k : K .normal ⟨fr', hp'⟩) : SemOk P N c K ⟨fr, hp⟩ := by
 intro n E a Q hN h0 hr hq
 have rel : HRel (HT.of hp .nil) hp := by have := HRel.of hp (HRel.nil 0); rw [List.nil_append] at this; exact this
 have hcl : ClOk P noCl := fun _ _ _ _ _ h => by cases h
 have hcq : CqOk P noCq := fun _ _ _ h => by cases h
 have hr1 : RHp (E.sok fun c r => cK P c = some r) hp := hr.hp.sok hn
 have hf1 : Rvs (E.sok fun c r => cK P c = some r) fr a.tmps.toList := hr.fr.sok
 have fin : ∀ (E' : Env) (a' : Act) (h' : HT), HRel h' hp' → (E.sok fun c r => cK P c = some r).Le E' → RHp E' hp' → Rvs E' fr' a'.tmps.toList → a'.defers = a.defers → Q .normal a' E'.w := by
  intro E' a' h' r' hle hr' hf' hd
  exact hq .normal (E'.sok E.ok) ⟨fr', hp'⟩ a' (hle.back.xt h0).g ⟨hf'.sok, hr'.sok hn', by rw [hd, hr.df]; exact hle.df.symm⟩ k
 unfold rgn at e
 split at e
 ·rename_i id ops
  split at e <;> first | (cases e; done) | skip
  rename_i ps hps
  split at e <;> first | (cases e; done) | skip
  rename_i fr1 h1 hz
  cases e
  obtain ⟨p, ds, hm, hd⟩ := drwZ_get hz
  obtain ⟨sh, m, ne, hs, cs0, tl, fl⟩ := p
  obtain ⟨hp1, r1, _, h2⟩ := xOf (P := P) hcl hcq hps hm rel (kk := fun fr h => some (⟨.nm, fr, [], h⟩ : Rs)) (res := (⟨.nm, fr', ds, h1⟩ : Rs)) (frF := fr') (hF := h1) (fun fr h e => by cases e; exact ⟨rfl, rfl⟩) hd
  rw [r1.toL] at fin hn'
  exact h2 (E.sok fun c r => cK P c = some r) a none n Q id (show OkE P (E.sok fun c r => cK P c = some r) from rfl) hr1 hf1 fun E' a' hle hr' hf' hd' => fin E' a' h1 r1 hle hr' hf' hd'
 ·rename_i id ops
  split at e <;> first | (cases e; done) | skip
  rename_i lo hlo
  split at e <;> first | (cases e; done) | skip
  rename_i fr1 h1 hz
  cases e
  obtain ⟨fr2, h2, hp2, r2, f2, k2, ok2⟩ := xEv (P := P) hcl _ _ hlo rel hz
  cases k2
  rw [r2.toL] at fin hn'
  exact wpIn_region_list (ok2 (E.sok fun c r => cK P c = some r) a none n Q (show OkE P (E.sok fun c r => cK P c = some r) from rfl) hr1 hf1 fun E' a' hle hr' hf' hd' => fin E' a' _ r2 hle hr' hf' hd')
 ·cases e
def fnR (id : Nat) : Code → Option Code
 | .region i ops d => if i = id then some (.region i ops d) else none
 | .seq a b => match fnR id a with
  | some c => some c
  | none => fnR id b
 | .cond _ a b => match fnR id a with
  | some c => some c
  | none => fnR id b
 | .block _ c => fnR id c
 | .loop c => fnR id c
 | .scope c => fnR id c
 | .rangeFunc _ _ a b => match fnR id a with
  | some c => some c
  | none => fnR id b
 | _ => none
def rq (fn : Func) (id : Nat) : Code := (fn.body.bind (fnR id)).getD .skip
def puts (fr : List SV) : List (Nat × SV) → List SV
 | [] => fr
 | (i, x) :: t => puts (st fr i x) t
theorem puts_n {fr : List SV} : puts fr [] = fr := rfl
theorem puts_c {fr : List SV} {i x t} : puts fr ((i, x) :: t) = puts (st fr i x) t := rfl
end Go.Vg
end
section
namespace Go.Vg
open Go
def runC (T : Nat → Option Fdn) (n f : Nat) (args : List SV) (hp : List Blk) : Option (SV × List Blk) :=
 match fnF T (run T n) f args (HT.of hp .nil) with
 | some (x, h) => some (x, h.toL h.n)
 | none => none
def conR (T : Nat → Option Fdn) (n f : Nat) : Con := fun args hp K => nlp hp = true ∧ ∃ x hp', runC T n f args hp = some (x, hp') ∧ nlp hp' = true ∧ K x hp'
theorem conR_ok {P : Program} {T : Nat → Option Fdn} (hT : TabR P T) (n f : Nat) : ConOk P f (conR T n f) := by
 intro E hp args vs K hr ha ⟨hn, x, hp', e, hn', hK⟩
 unfold runC at e
 split at e <;> first | (cases e; done) | skip
 rename_i y h1 he
 cases e
 have rel : HRel (HT.of hp .nil) hp := by have := HRel.of hp (HRel.nil 0); rw [List.nil_append] at this; exact this
 obtain ⟨hp1, r1, _, _, hcall⟩ := xDc hT (xNr hT n) he rel
 rw [r1.toL] at hn' hK
 have hr1 : RHp (E.sok fun c r => cK P c = some r) hp := hr.sok hn
 refine (hcall (E.sok fun c r => cK P c = some r) vs rfl hr1 ha.sok).mono ?_
 rintro e w' ⟨v, rfl, E', rfl, hle, hr', hv⟩
 exact ⟨_, v, E'.sok E.ok, _, rfl, rfl, hle.back, hr'.sok hn', hv.sok, hK⟩
theorem conR_e {T : Nat → Option Fdn} {n f : Nat} {args : List SV} {hp : List Blk} {K : SV → List Blk → Prop} : conR T n f args hp K = (nlp hp = true ∧ ∃ x hp', runC T n f args hp = some (x, hp') ∧ nlp hp' = true ∧ K x hp') := rfl
end Go.Vg
end
section
namespace Go.Vg
open Go
abbrev Kc := Nat × List SV × SV
open Classical in
noncomputable def cqA (FS : List Kc) : Cq := fun fv ws => if h : ∃ e, e ∈ FS ∧ fv = .fn e.1 [] ∧ ws = e.2.1 then some (Classical.choose h).2.2 else none
theorem cqA_get {FS : List Kc} (hu : ∀ e ∈ FS, ∀ e' ∈ FS, e.1 = e'.1 → e.2.1 = e'.2.1 → e.2.2 = e'.2.2) {e : Kc} (he : e ∈ FS) : cqA FS (.fn e.1 []) e.2.1 = some e.2.2 := by
 have h : ∃ e', e' ∈ FS ∧ SV.fn e.1 [] = .fn e'.1 [] ∧ e.2.1 = e'.2.1 := ⟨e, he, rfl, rfl⟩
 unfold cqA
 rw [dif_pos h]
 have hs := Classical.choose_spec h
 have h1 : e.1 = (Classical.choose h).1 := by injection hs.2.1
 rw [hu e he _ hs.1 h1 hs.2.2]
def KcOk (P : Program) (e : Kc) : Prop := Known P e.1 ∧ clo.clos 8 e.2.1 = true ∧ ∃ C : PC, PureOk P e.1 C ∧ C e.2.1 (fun r => r = e.2.2)
theorem cqA_ok {P : Program} {FS : List Kc} (h : ∀ e ∈ FS, KcOk P e) : CqOk P (cqA FS) := by
 intro fv args x e E vf vs hp hok hr hf ha
 unfold cqA at e
 split at e <;> first | (cases e; done) | skip
 rename_i hx
 have hs := Classical.choose_spec hx
 generalize Classical.choose hx = c at e hs
 cases e
 obtain ⟨hm, rfl, rfl⟩ := hs
 obtain ⟨hk, hcl, C, hC, hres⟩ := h c hm
 obtain ⟨us, h0, rfl⟩ := hf.fnE
 cases h0
 have hF : FcOk P c.1 fun ws => open Classical in if ws = c.2.1 then some (True, c.2.2) else none := by
  refine xNv fun w im ws us K him hv hc => ?_
  unfold fcC at hc
  by_cases ha : ws = c.2.1
  ·simp only [ha, if_true] at hc
   subst ha
   obtain ⟨r, v, im', h1⟩ := show ∃ C' : PC, C' = C ∧ True from ⟨C, rfl, trivial⟩
   refine (hC w im _ us (fun r => r = c.2.2) him hv hres).mono ?_
   rintro e w' ⟨r, v, im', he, rfl, hh⟩
   exact ⟨_, v, im', he, hc.2, hh⟩
  ·simp only [ha, if_false] at hc
 refine .inl ⟨c.1, #[], #[], rfl, hk, ?_⟩
 have := hF E hp c.2.1 vs (fun r h => r = c.2.2 ∧ h = hp) hr ha ⟨hcl, by simp only [if_true]; exact ⟨trivial, trivial, trivial⟩⟩
 simp only [Array.append_empty, Array.empty_append]
 refine this.mono ?_
 rintro e w' ⟨r, v, E', hp', rfl, rfl, hle, hr', hv, rfl, rfl⟩
 exact ⟨v, rfl, E', rfl, hle, hr', hv⟩
def rgnD (P : Program) (c : Code) : Option (List Drp) :=
 match c with
 | .region _ ops true => match cdraw2 P ops with
  | some (.drw ps) => some ps
  | _ => none
 | _ => none
theorem sem_rgnA {P : Program} {N : Nat} {c : Code} {K : Exit → St → Prop} {fr : List SV} {hp : List Blk} (FS : List Kc) (p : Drp) (qs : List (Nat × SV)) (hp' : List Blk) (hFS : ∀ e ∈ FS, KcOk P e) (hu : ∀ e ∈ FS, ∀ e' ∈ FS, e.1 = e'.1 → e.2.1 = e'.2.1 → e.2.2 = e'.2.2)
  {i : Nat} (hD : (rgnD P c).bind (·[i]?) = some p) (hn : nlp hp = true) (hn' : nlp hp' = true)
  (ev : ∀ cq : Cq, (∀ e ∈ FS, cq (.fn e.1 []) e.2.1 = some e.2.2) → (drwR noCl cq p fr [] (HT.of hp .nil)).map (fun r => (r.e, r.fr, r.h.toL r.h.n)) = some (XT.nm, puts fr qs, hp'))
  (k : K .normal ⟨puts fr qs, hp'⟩) : SemOk P N c K ⟨fr, hp⟩ := by
 intro n E a Q hN h0 hr hq
 have rel : HRel (HT.of hp .nil) hp := by have := HRel.of hp (HRel.nil 0); rw [List.nil_append] at this; exact this
 have hcl : ClOk P noCl := fun _ _ _ _ _ h => by cases h
 have hcq : CqOk P (cqA FS) := cqA_ok hFS
 have hr1 : RHp (E.sok fun c r => cK P c = some r) hp := hr.hp.sok hn
 have hf1 : Rvs (E.sok fun c r => cK P c = some r) fr a.tmps.toList := hr.fr.sok
 have fin : ∀ (E' : Env) (a' : Act) (h' : HT), HRel h' hp' → (E.sok fun c r => cK P c = some r).Le E' → RHp E' hp' → Rvs E' (puts fr qs) a'.tmps.toList → a'.defers = a.defers → Q .normal a' E'.w := by
  intro E' a' h' r' hle hr' hf' hd
  exact hq .normal (E'.sok E.ok) ⟨puts fr qs, hp'⟩ a' (hle.back.xt h0).g ⟨hf'.sok, hr'.sok hn', by rw [hd, hr.df]; exact hle.df.symm⟩ k
 have e := ev (cqA FS) fun e he => cqA_get hu he
 unfold rgnD at hD
 split at hD
 rotate_left
 ·cases hD
 rename_i id ops
 cases hps : cdraw2 P ops with
 | none => rw [hps] at hD; cases hD
 | some rc =>
 rw [hps] at hD
 cases rc <;> first | (cases hD; done) | skip
 rename_i ps
 have hm : p ∈ ps := List.mem_of_getElem? hD
 cases hd : drwR noCl (cqA FS) p fr [] (HT.of hp .nil) with
 | none => rw [hd] at e; cases e
 | some r =>
  rw [hd] at e
  obtain ⟨x, fr1, ds, h1⟩ := r
  simp only [Option.map_some, Option.some.injEq, Prod.mk.injEq] at e
  obtain ⟨rfl, rfl, rfl⟩ := e
  obtain ⟨sh, m, ne, hs, cs0, tl, fl⟩ := p
  unfold drwR at hd
  obtain ⟨hp1, r1, _, h2⟩ := xOf (P := P) hcl hcq hps hm rel (kk := fun fr h => some (⟨.nm, fr, [], h⟩ : Rs)) (res := (⟨.nm, puts fr qs, ds, h1⟩ : Rs)) (frF := puts fr qs) (hF := h1) (fun fr h e => by cases e; exact ⟨rfl, rfl⟩) hd
  rw [r1.toL] at fin hn'
  exact h2 (E.sok fun c r => cK P c = some r) a none n Q id (show OkE P (E.sok fun c r => cK P c = some r) from rfl) hr1 hf1 fun E' a' hle hr' hf' hd' => fin E' a' h1 r1 hle hr' hf' hd'
def stpV (cq : Cq) (n0 : Nat) (fr : List SV) (hs : List HT) (cb : List (Nat × Blk)) (o : Op2) : Kd → Option SV
 | .val mn cs => match nthH hs mn with
  | some hv => fill n0 cb cs hv fun hv => evV cq fr hv.get o
  | none => none
 | .pur => evV cq fr (fun _ => .dead) o
 | .prd ps => match nthH hs 0 with
  | some h0 => evV cq fr (mskG fr ps h0.get) o
  | none => none
 | _ => none
def stps (cq : Cq) (n0 : Nat) (hs : List HT) (cb : List (Nat × Blk)) : List (Opq × Kd) → List SV → List SV → Prop
 | [], [], _ => True
 | (⟨d, none, o⟩, kd) :: t, v :: vs, fr => stpV cq n0 fr hs cb o kd = some v ∧ stps cq n0 hs cb t vs (putf fr d (nrm v))
 | _, _, _ => False
theorem stps_cons {cq : Cq} {n0 : Nat} {hs : List HT} {cb : List (Nat × Blk)} {d : Option Nat} {o : Op2} {kd : Kd} {t : List (Opq × Kd)} {v : SV} {vs fr : List SV} (h1 : stpV cq n0 fr hs cb o kd = some v) (h2 : stps cq n0 hs cb t vs (putf fr d (nrm v))) : stps cq n0 hs cb ((⟨d, none, o⟩, kd) :: t) (v :: vs) fr := ⟨h1, h2⟩
theorem stps_nil {cq : Cq} {n0 : Nat} {hs : List HT} {cb : List (Nat × Blk)} {fr : List SV} : stps cq n0 hs cb [] [] fr := trivial
def afr : List (Opq × Kd) → List SV → List SV → List SV
 | (o, _) :: t, v :: vs, fr => afr t vs (putf fr o.d (nrm v))
 | _, _, fr => fr
theorem fill_map {α : Type} {n0 : Nat} {cb : List (Nat × Blk)} {f : HT → Option SV} {K : SV → Option α} {v : SV} : ∀ {cs : List Nat} {h : HT}, fill n0 cb cs h f = some v → fill n0 cb cs h (fun h => match f h with | some x => K x | none => none) = K v
 | [], h, e => by simp only [fill] at e ⊢; rw [e]
 | j :: t, h, e => by
  simp only [fill] at e ⊢
  split at e
  ·split at e
   ·rw [HT.set_eq] at e ⊢; exact fill_map e
   ·cases e
  ·cases e
theorem hd_vals {α : Type} {cl : Cl} {cq : Cq} {n0 ne : Nat} {cs0 : List Nat} {h : HT} {hs : List HT} {cb : List (Nat × Blk)} {k : List SV → HT → Option α} {t : List (Opq × Kd)} : ∀ {A : List (Opq × Kd)} {vs fr : List SV}, stps cq n0 hs cb A vs fr → hdB cl cq n0 ne cs0 (A ++ t) fr h hs cb k = hdB cl cq n0 ne cs0 t (afr A vs fr) h hs cb k
 | [], [], fr, _ => rfl
 | [], _ :: _, fr, hst => by simp [stps] at hst
 | (⟨d, some g, o⟩, kd) :: A, vs, fr, hst => by cases vs <;> simp [stps] at hst
 | (⟨d, none, o⟩, kd) :: A, [], fr, hst => by simp [stps] at hst
 | (⟨d, none, o⟩, kd) :: A, v :: vs, fr, hst => by
  obtain ⟨h1, h2⟩ := hst
  have ih := hd_vals (cl := cl) (ne := ne) (cs0 := cs0) (h := h) (k := k) (t := t) h2
  simp only [List.cons_append, afr]
  rw [← ih]
  cases kd with
  | val mn cs =>
   simp only [stpV] at h1
   simp only [hdB, gdl]
   cases hv : nthH hs mn with
   | none => rw [hv] at h1; cases h1
   | some h0 =>
    rw [hv] at h1
    have := fill_map (K := fun x => frcV x fun x => putB fr d x fun fr => hdB cl cq n0 ne cs0 (A ++ t) fr h hs cb k) h1
    simp only [xBl, xBd] at this ⊢
    exact this
  | pur =>
   simp only [stpV] at h1
   simp only [hdB, gdl, h1, xBl, xBd]
  | prd ps =>
   simp only [stpV] at h1
   simp only [hdB, gdl]
   cases hv : nthH hs 0 with
   | none => rw [hv] at h1; cases h1
   | some h0 =>
    rw [hv] at h1
    simp only [h1, xBl, xBd]
  | cre j => simp [stpV] at h1
  | eff c cs => simp [stpV] at h1
  | efs c cs ls => simp [stpV] at h1
def noOwn (fr : List SV) : List Nat → Bool
 | [] => true
 | d :: t => match gt fr d with
  | .own _ => false
  | _ => noOwn fr t
theorem shB_no {α : Type} {fr : List SV} {h : HT} {k : HT → Option α} : ∀ {sh : List Nat}, noOwn fr sh = true → shB fr sh h k = k h
 | [], _ => rfl
 | d :: t, e => by
  simp only [noOwn] at e
  simp only [shB]
  split at e
  ·cases e
  ·rename_i hne
   split
   ·rename_i l h1; exact absurd h1 (hne l)
   ·exact shB_no e
def rsd : Nat → HT → HT
 | 0, h => h
 | n + 1, h => rsd n (h.pushed .dead)
theorem resv_rsd {α : Type} : ∀ {m : Nat} {h : HT} {k : HT → α}, resv m h k = k (rsd m h)
 | 0, _, _ => rfl
 | m + 1, h, k => by simp only [resv, rsd, HT.push_eq]; exact resv_rsd
theorem sem_rgnB {P : Program} {N : Nat} {c : Code} {K : Exit → St → Prop} {fr : List SV} {hp : List Blk} (FS : List Kc) (A B : List (Opq × Kd)) (vs : List SV) (qs : List (Nat × SV)) (hp' : List Blk) {sh cs : List Nat} {m ne : Nat} {tl : List Opq} {i : Nat}
  (hD : (rgnD P c).bind (·[i]?) = some ⟨sh, m, ne, A ++ B, cs, tl, none⟩) (hFS : ∀ e ∈ FS, KcOk P e) (hu : ∀ e ∈ FS, ∀ e' ∈ FS, e.1 = e'.1 → e.2.1 = e'.2.1 → e.2.2 = e'.2.2)
  (hn : nlp hp = true) (hn' : nlp hp' = true) (hno : noOwn fr sh = true)
  (hst : ∀ cq : Cq, (∀ e ∈ FS, cq (.fn e.1 []) e.2.1 = some e.2.2) → stps cq (HT.of hp .nil).n [rsd m (HT.of hp .nil)] [] A vs fr)
  (e2 : ∀ cq : Cq, (hdB noCl cq (HT.of hp .nil).n ne cs B (afr A vs fr) (rsd m (HT.of hp .nil)) [rsd m (HT.of hp .nil)] [] fun fr h => opsB noCl tl fr h fun fr h => some (⟨.nm, fr, [], h⟩ : Rs)).map (fun r => (r.e, r.fr, r.h.toL r.h.n)) = some (XT.nm, puts fr qs, hp'))
  (k : K .normal ⟨puts fr qs, hp'⟩) : SemOk P N c K ⟨fr, hp⟩ := by
 refine sem_rgnA FS _ qs hp' hFS hu hD hn hn' (fun cq hq => ?_) k
 unfold drwR
 simp only [blK]
 rw [shB_no hno, resv_rsd, hd_vals (hst cq hq)]
 exact e2 cq
end Go.Vg
end
