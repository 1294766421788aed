import Derived.Test.YtgdihdiadlmjiaaVgV11
import Derived.Test.YtgdihdiadlmjiaaVgR13
import Derived.Test.YtgdihdiadlmjiaaVgR18
import Derived.Test.YtgdihdiadlmjiaaVgY12
import Derived.Test.YtgdihdiadlmjiaaVgD5
set_option linter.all false
section
namespace Go.Vg
open Go
def rngs : Code -> List Code
 | .seq a b => rngs a ++ rngs b
 | .cond _ a b => rngs a ++ rngs b
 | .block _ c => rngs c
 | .loop c => rngs c
 | .scope c => rngs c
 | .rangeFunc g ps x y => [.rangeFunc g ps x y]
 | _ => []
def rg (fn : Func) (i : Nat) : Code := ((fn.body.map rngs).getD [])[i]?.getD .skip
def rIs : Code -> Bool
 | .rangeFunc .. => true
 | _ => false
def rgO : Code -> Operand
 | .rangeFunc g _ _ _ => g
 | _ => .tmp 0
def rgQ : Code -> Array Tmp
 | .rangeFunc _ ps _ _ => ps
 | _ => #[]
def rgA : Code -> Code
 | .rangeFunc _ _ x _ => x
 | c => c
def rgB : Code -> Code
 | .rangeFunc _ _ _ y => y
 | c => c
theorem rEq : ∀ {c : Code}, rIs c = true -> c = .rangeFunc (rgO c) (rgQ c) (rgA c) (rgB c)
 | .rangeFunc _ _ _ _, _ => rfl
theorem sem_of {P : Program} {T : List (Nat × Sg)} (hT : TabOk P T) {N : Nat} {c : Code} (hc : rIs c = true) {ps : List Nat} (hps : (rgQ c).toList = ps) {K : Exit -> St -> Prop} {fr : List SV} {hp : List Blk} {x : X} {g : Nat} {caps : List SV} {fng : Func} {sg : SC} {nt : Nat}
  (ho : cX (rgO c) = some x) (hx : x.get fr = .fn g caps) (hf : P.funcs[g]? = some fng) (hnm : fng.name ≠ "runtime.NumGoroutine")
  (hk : (fng.body.bind (cC P), cR P fng.results.toList, fng.ntmps) = (some sg, some [], nt)) (hns : sg.nosem = true)
  (he : exec (ln hp + 2) (gam P T) (gamq T) sg (rK K fr (ln hp) (ln hp + 1)) ⟨mkfr (.lb .yl (ln hp + 1) :: caps) nt, pb (pb hp (.ob .df)) (.ob (.wl .ready none fr ps (rgA c) (rgB c) (ln hp)))⟩) :
  SemOk P N c K ⟨fr, hp⟩ := by
 rw [rEq hc]
 subst hps
 exact sem_rng (gam_ok hT) (xNw hT) (xSh hT) (xMf hT) ho hx hf hnm hk hns he
theorem yld_of {P : Program} {T : List (Nat × Sg)} (hT : TabOk P T) {c : Code} {L : Nat} {args : List SV} {hp : List Blk} {k : SV -> List Blk -> Prop} {pd : Option (Option Nat)} {fr : List SV} {ps : List Nat} {df : Nat} {sx sy : SC}
  (hx : cC P (rgA c) = some sx) (hy : cC P (rgB c) = some sy) (hnx : sx.nosem = true) (hny : sy.nosem = true) (hg : gb hp L = .ob (.wl .ready pd fr ps (rgA c) (rgB c) df)) (hpl : ps.length = args.length)
  (he : exec (ln hp) (gam P T) (gamq T) sx (fun e s => (∀ pd' fr' ps' ca' cb' df', gb s.hp L = .ob (.wl .ready pd' fr' ps' ca' cb' df') -> cb' = rgB c) /\ yK1 (gam P T) (gamq T) sy L k e s) ⟨setL fr ps args, hp⟩) : YSem P L args hp k :=
 ysem_of (gam_ok hT) (xNw hT) (xSh hT) (xMf hT) hg hx hy hnx hny hpl he
theorem sem_ofF {P : Program} {T : List (Nat × Sg)} (hT : TabOk P T) {N : Nat} {c : Code} (hc : rIs c = true) {ps : List Nat} (hps : (rgQ c).toList = ps) {K : Exit -> St -> Prop} {fr F0 : List SV} (hF : fr = F0) {hp : List Blk} {x : X} {g : Nat} {caps : List SV} {fng : Func} {sg : SC} {nt : Nat}
  (ho : cX (rgO c) = some x) (hx : x.get fr = .fn g caps) (hf : P.funcs[g]? = some fng) (hnm : fng.name ≠ "runtime.NumGoroutine")
  (hk : (fng.body.bind (cC P), cR P fng.results.toList, fng.ntmps) = (some sg, some [], nt)) (hns : sg.nosem = true)
  (he : exec (ln hp + 2) (gam P T) (gamq T) sg (rK K fr (ln hp) (ln hp + 1)) ⟨mkfr (.lb .yl (ln hp + 1) :: caps) nt, pb (pb hp (.ob .df)) (.ob (.wl .ready none F0 ps (rgA c) (rgB c) (ln hp)))⟩) :
  SemOk P N c K ⟨fr, hp⟩ := by
 subst hF
 exact sem_of hT hc hps ho hx hf hnm hk hns he
theorem yld_ofF {P : Program} {T : List (Nat × Sg)} (hT : TabOk P T) {c : Code} {L : Nat} {args : List SV} {hp : List Blk} {k : SV -> List Blk -> Prop} {pd : Option (Option Nat)} {fr F0 : List SV} (hF : fr = F0) {ps : List Nat} {df : Nat} {sx sy : SC}
  (hx : cC P (rgA c) = some sx) (hy : cC P (rgB c) = some sy) (hnx : sx.nosem = true) (hny : sy.nosem = true) (hg : gb hp L = .ob (.wl .ready pd F0 ps (rgA c) (rgB c) df)) (hpl : ps.length = args.length)
  (he : exec (ln hp) (gam P T) (gamq T) sx (fun e s => (∀ pd' fr' ps' ca' cb' df', gb s.hp L = .ob (.wl .ready pd' fr' ps' ca' cb' df') -> cb' = rgB c) /\ yK1 (gam P T) (gamq T) sy L k e s) ⟨setL fr ps args, hp⟩) : YSem P L args hp k := by
 subst hF
 exact yld_of hT hx hy hnx hny hg hpl he
theorem e_sem {N : Nat} {P : Program} {T : List (Nat × Sg)} {Γq} {c : Code} {K : Exit -> St -> Prop} {s : St} : exec N (gam P T) Γq (.sem c) K s = SemOk P N c K s := rfl
theorem callK_y {P : Program} {T : List (Nat × Sg)} {l args hp k} : callK (gam P T) (.lb .yl l) args hp k = YSem P l args hp k := rfl
end Go.Vg
end
section
namespace Go.Vg
open Go
def Env.sok (E : Env) (q : Code -> RC -> Prop) : Env := { E with ok := q }
theorem Rv.sok {E : Env} {q : Code -> RC -> Prop} {x : SV} {v : Value} (hx : Rv E x v) : Rv (E.sok q) x v := by
 refine Rv.rec (motive_1 := fun x v _ => Rv (E.sok q) x v) (motive_2 := fun xs vs _ => Rvs (E.sok q) xs vs) ?_ ?_ ?_ ?_ ?_ ?_ ?_ ?_ ?_ ?_ ?_ ?_ ?_ ?_ ?_ ?_ ?_ ?_ ?_ ?_ ?_ ?_ ?_ ?_ hx
 ·exact fun v => .lit v
 ·exact fun k n => .int k n
 ·exact fun b => .bool b
 ·exact fun l off hl => .ptr (E := E.sok q) l off hl
 ·exact fun l sz i off hl => .ep (E := E.sok q) l sz i off hl
 ·exact fun cs off v hv => .rp (E := E.sok q) _ _ _ hv
 ·exact fun cs vs _ ih => .agg cs vs ih
 ·exact fun cs vs _ ih => .tup cs vs ih
 ·exact fun f cs vs _ ih => .fn f cs vs ih
 ·exact fun t x v _ ih => .ifc t x v ih
 ·exact fun k xs v hv => .ints (E := E.sok q) _ _ _ hv
 ·exact fun sz len f v hv => .rd (E := E.sok q) _ _ _ _ hv
 ·exact fun k xs v hv => .clip (E := E.sok q) _ _ _ hv
 ·exact fun sz len f v hv => .clipr (E := E.sok q) _ _ _ _ hv
 ·exact fun l v hl h1 h2 => .own (E := E.sok q) l v hl h1 h2
 ·exact fun l len hl => .bsl (E := E.sok q) l len hl
 ·exact fun l off len cap hl => .bso (E := E.sok q) l off len cap hl
 ·exact fun k l hl => .lb (E := E.sok q) k l hl
 ·exact fun f fs cs us vs _ _ i1 i2 => .mv f fs cs us vs i1 i2
 ·exact fun ks vs v hv => .cm (E := E.sok q) _ _ _ hv
 ·exact fun v => .any v
 ·exact fun m x v _ ih => .mm m x v ih
 ·exact .nil
 ·exact fun x v xs vs _ _ i1 i2 => .cons x v xs vs i1 i2
theorem Rvs.sok {E : Env} {q : Code -> RC -> Prop} : ∀ {xs : List SV} {vs : List Value}, Rvs E xs vs -> Rvs (E.sok q) xs vs
 | [], [], .nil => .nil
 | _ :: _, _ :: _, .cons x v xs vs hx hs => .cons x v xs vs hx.sok (Rvs.sok hs)
def nlp1 : Blk -> Bool
 | .ob (.lp ..) => false
 | _ => true
def nlp : List Blk -> Bool
 | [] => true
 | b :: t => match nlp1 b with
  | true => nlp t
  | false => false
theorem nlp_get : ∀ {hp : List Blk} {l : Nat} {b : Blk}, nlp hp = true -> hp[l]? = some b -> nlp1 b = true
 | [], l, b, _, h => by simp at h
 | x :: t, l, b, hn, h => by
  simp only [nlp] at hn
  split at hn <;> first | (cases hn; done) | skip
  rename_i hx
  cases l with
  | zero => simp at h; subst h; exact hx
  | succ l => exact nlp_get hn (by simpa using h)
theorem Blk.at_sok {E : Env} {q : Code -> RC -> Prop} {l : Nat} (b : Blk) : b.at (E.sok q) l = b.at E l := by cases b <;> rfl
theorem Rblk.sok {E : Env} {q : Code -> RC -> Prop} {l : Nat} {b : Blk} (hn : nlp1 b = true) (h : Rblk E l b) : Rblk (E.sok q) l b := by
 cases b with
 | dead => trivial
 | ob o =>
  cases o with
  | mp es => obtain ⟨xs, h1, h2, h3, h4⟩ := h; exact ⟨xs, h1.sok, h2.sok, h3, h4⟩
  | lp st pd fr ps a b df => cases hn
  | df => exact h
  | dn => exact h
  | wl st pd fr ps ca cb df => obtain ⟨h0, fn, vs, h1, h2⟩ := h; exact ⟨h0, fn, vs, h1.sok, h2⟩
 | box t cs => obtain ⟨vs, h1, h2⟩ := h; exact ⟨vs, h1.sok, h2⟩
 | fbox t cs => obtain ⟨h0, vs, h1, h2⟩ := h; exact ⟨h0, vs, h1.sok, h2⟩
 | oi k t xs => exact h
 | orw t sz len f => exact h
 | fz x => exact Rv.sok (E := E) h
theorem RHp.sok {E : Env} {q : Code -> RC -> Prop} {hp : List Blk} (hn : nlp hp = true) (h : RHp E hp) : RHp (E.sok q) hp :=
  ⟨⟨h.g.fr, h.g.fz, h.g.sz, h.g.os, h.g.tape, h.g.output, h.g.imb, h.g.im0⟩,
   ⟨h.b.n, h.b.rs, fun l b hb => (h.b.blk l b hb).sok (nlp_get hn hb), h.b.live, fun l b g hb hg => h.b.imx l b g hb (by rw [Blk.at_sok] at hg; exact hg),
    fun l b g hb hg => h.b.base l b g hb (by rw [Blk.at_sok] at hg; exact hg), fun l l' b b' g hb hb' hg hg' => h.b.dj l l' b b' g hb hb' (by rw [Blk.at_sok] at hg; exact hg) (by rw [Blk.at_sok] at hg'; exact hg')⟩⟩
theorem Env.Le.back {E E' : Env} {q : Code -> RC -> Prop} (h : (E.sok q).Le E') : E.Le (E'.sok E.ok) :=
 ⟨h.n, h.has, h.blk, h.val, h.live, h.im, h.mem, h.W, h.M, h.im0, h.df, h.n0, rfl, h.rs⟩
def HT.of : List Blk -> HT -> HT
 | [], h => h
 | b :: t, h => HT.of t (h.pushed b)
def HT.nil : HT := ⟨0, 0, .e⟩
theorem HRel.of : ∀ (t : List Blk) {h : HT} {hp : List Blk}, HRel h hp -> HRel (HT.of t h) (hp ++ t)
 | [], h, hp, r => by simpa [HT.of] using r
 | b :: t, h, hp, r => by
  have := HRel.of t (r.push b)
  rw [xCz, List.append_assoc] at this
  exact this
def HT.toL (h : HT) : Nat -> List Blk
 | 0 => []
 | n + 1 => pb (h.toL n) (h.get n)
theorem gb_ext : ∀ {a b : List Blk}, ln a = ln b -> (∀ l, l < ln a -> gb a l = gb b l) -> a = b
 | [], [], _, _ => rfl
 | [], _ :: _, h, _ => by simp [ln] at h
 | _ :: _, [], h, _ => by simp [ln] at h
 | x :: a, y :: b, h, hg => by
  have h0 := hg 0 (by simp [ln])
  simp only [gb] at h0
  rw [h0, gb_ext (a := a) (b := b) (by simpa [ln] using h) (fun l hl => by have := hg (l + 1) (by simpa [ln] using hl); simpa [gb] using this)]
theorem toL_get (h : HT) : ∀ (n : Nat), ln (h.toL n) = n /\ ∀ l, l < n -> gb (h.toL n) l = h.get l
 | 0 => ⟨rfl, fun l hl => by omega⟩
 | n + 1 => by
  obtain ⟨h1, h2⟩ := toL_get h n
  refine ⟨by simp only [HT.toL]; rw [ln_pb, h1], fun l hl => ?_⟩
  simp only [HT.toL]
  rw [xFn, h1]
  split
  ·rename_i e; rw [e]
  ·exact h2 l (by omega)
theorem HRel.toL {h : HT} {hp : List Blk} (r : HRel h hp) : h.toL h.n = hp := by
 obtain ⟨h1, h2⟩ := toL_get h h.n
 refine gb_ext (by rw [h1, r.n]) fun l hl => ?_
 rw [h2 l (by rw [<- h1]; exact hl), r.g]
def noCl : Cl := fun _ _ _ => none
def noCq : Cq := fun _ _ => none
def drwZ (fr : List SV) (h : HT) : List Drp -> Option (List SV × HT)
 | [] => none
 | p :: t => match drwR noCl noCq p fr [] h with
  | some ⟨.nm, fr', _, h'⟩ => some (fr', h')
  | some _ => none
  | none => drwZ fr h t
theorem drwZ_get {fr : List SV} {h : HT} {fr' : List SV} {h' : HT} : ∀ {ps : List Drp}, drwZ fr h ps = some (fr', h') -> ∃ p ds, p ∈ ps /\ drwR noCl noCq p fr [] h = some ⟨.nm, fr', ds, h'⟩
 | [], e => by cases e
 | p :: t, e => by
  simp only [drwZ] at e
  split at e
  ·rename_i h1; cases e; exact ⟨p, _, List.mem_cons_self .., h1⟩
  ·cases e
  ·obtain ⟨q, ds, h1, h2⟩ := drwZ_get e
   exact ⟨q, ds, List.mem_cons_of_mem _ h1, h2⟩
def rgn (P : Program) (c : Code) (fr : List SV) (hp : List Blk) : Option (List SV × List Blk) :=
 match c with
 | .region _ ops true => match cdraw2 P ops with
  | some (.drw ps) => match drwZ fr (HT.of hp .nil) ps with
   | some (fr', h') => some (fr', h'.toL h'.n)
   | none => none
  | _ => none
 | .region _ ops false => match cops2 P ops ops.toList with
  | some lo => match opsB noCl lo fr (HT.of hp .nil) fun fr h => some (fr, h) with
   | some (fr', h') => some (fr', h'.toL h'.n)
   | none => none
  | none => none
 | _ => none
theorem sem_rgn {P : Program} {N : Nat} {c : Code} {K : Exit -> St -> Prop} {fr fr' : List SV} {hp hp' : List Blk} (hn : nlp hp = true) (hn' : nlp hp' = true) (e : rgn P c fr hp = some (fr', hp')) (k : K .normal ⟨fr', hp'⟩) : SemOk P N c K ⟨fr, hp⟩ := by
 intro n E a Q hN h0 hr hq
 have rel : HRel (HT.of hp .nil) hp := by have := HRel.of hp (HRel.nil 0); rw [List.nil_append] at this; exact this
 have hcl : ClOk P noCl := fun _ _ _ _ _ h => by cases h
 have hcq : CqOk P noCq := fun _ _ _ h => by cases h
 have hr1 : RHp (E.sok fun c r => cK P c = some r) hp := hr.hp.sok hn
 have hf1 : Rvs (E.sok fun c r => cK P c = some r) fr a.tmps.toList := hr.fr.sok
 have fin : ∀ (E' : Env) (a' : Act) (h' : HT), HRel h' hp' -> (E.sok fun c r => cK P c = some r).Le E' -> RHp E' hp' -> Rvs E' fr' a'.tmps.toList -> a'.defers = a.defers -> Q .normal a' E'.w := by
  intro E' a' h' r' hle hr' hf' hd
  exact hq .normal (E'.sok E.ok) ⟨fr', hp'⟩ a' (hle.back.xt h0).g ⟨hf'.sok, hr'.sok hn', by rw [hd, hr.df]; exact hle.df.symm⟩ k
 unfold rgn at e
 split at e
 ·rename_i id ops
  split at e <;> first | (cases e; done) | skip
  rename_i ps hps
  split at e <;> first | (cases e; done) | skip
  rename_i fr1 h1 hz
  cases e
  obtain ⟨p, ds, hm, hd⟩ := drwZ_get hz
  obtain ⟨sh, m, ne, hs, cs0, tl, fl⟩ := p
  obtain ⟨hp1, r1, _, h2⟩ := xOf (P := P) hcl hcq hps hm rel (kk := fun fr h => some (⟨.nm, fr, [], h⟩ : Rs)) (res := (⟨.nm, fr', ds, h1⟩ : Rs)) (frF := fr') (hF := h1) (fun fr h e => by cases e; exact ⟨rfl, rfl⟩) hd
  rw [r1.toL] at fin hn'
  exact h2 (E.sok fun c r => cK P c = some r) a none n Q id (show OkE P (E.sok fun c r => cK P c = some r) from rfl) hr1 hf1 fun E' a' hle hr' hf' hd' => fin E' a' h1 r1 hle hr' hf' hd'
 ·rename_i id ops
  split at e <;> first | (cases e; done) | skip
  rename_i lo hlo
  split at e <;> first | (cases e; done) | skip
  rename_i fr1 h1 hz
  cases e
  obtain ⟨fr2, h2, hp2, r2, f2, k2, ok2⟩ := xEv (P := P) hcl _ _ hlo rel hz
  cases k2
  rw [r2.toL] at fin hn'
  exact wpIn_region_list (ok2 (E.sok fun c r => cK P c = some r) a none n Q (show OkE P (E.sok fun c r => cK P c = some r) from rfl) hr1 hf1 fun E' a' hle hr' hf' hd' => fin E' a' _ r2 hle hr' hf' hd')
 ·cases e
def fnR (id : Nat) : Code -> Option Code
 | .region i ops d => if i = id then some (.region i ops d) else none
 | .seq a b => match fnR id a with
  | some c => some c
  | none => fnR id b
 | .cond _ a b => match fnR id a with
  | some c => some c
  | none => fnR id b
 | .block _ c => fnR id c
 | .loop c => fnR id c
 | .scope c => fnR id c
 | .rangeFunc _ _ a b => match fnR id a with
  | some c => some c
  | none => fnR id b
 | _ => none
def rq (fn : Func) (id : Nat) : Code := (fn.body.bind (fnR id)).getD .skip
def puts (fr : List SV) : List (Nat × SV) -> List SV
 | [] => fr
 | (i, x) :: t => puts (st fr i x) t
theorem puts_n {fr : List SV} : puts fr [] = fr := rfl
theorem puts_c {fr : List SV} {i x t} : puts fr ((i, x) :: t) = puts (st fr i x) t := rfl
end Go.Vg
end
section
namespace Go.Vg
open Go
def runC (T : Nat -> Option Fdn) (n f : Nat) (args : List SV) (hp : List Blk) : Option (SV × List Blk) :=
 match fnF T (run T n) f args (HT.of hp .nil) with
 | some (x, h) => some (x, h.toL h.n)
 | none => none
def conR (T : Nat -> Option Fdn) (n f : Nat) : Con := fun args hp K => nlp hp = true /\ ∃ x hp', runC T n f args hp = some (x, hp') /\ nlp hp' = true /\ K x hp'
theorem conR_ok {P : Program} {T : Nat -> Option Fdn} (hT : TabR P T) (n f : Nat) : ConOk P f (conR T n f) := by
 intro E hp args vs K hr ha ⟨hn, x, hp', e, hn', hK⟩
 unfold runC at e
 split at e <;> first | (cases e; done) | skip
 rename_i y h1 he
 cases e
 have rel : HRel (HT.of hp .nil) hp := by have := HRel.of hp (HRel.nil 0); rw [List.nil_append] at this; exact this
 obtain ⟨hp1, r1, _, _, hcall⟩ := xDc hT (xNr hT n) he rel
 rw [r1.toL] at hn' hK
 have hr1 : RHp (E.sok fun c r => cK P c = some r) hp := hr.sok hn
 refine (hcall (E.sok fun c r => cK P c = some r) vs rfl hr1 ha.sok).mono ?_
 rintro e w' ⟨v, rfl, E', rfl, hle, hr', hv⟩
 exact ⟨_, v, E'.sok E.ok, _, rfl, rfl, hle.back, hr'.sok hn', hv.sok, hK⟩
theorem conR_e {T : Nat -> Option Fdn} {n f : Nat} {args : List SV} {hp : List Blk} {K : SV -> List Blk -> Prop} : conR T n f args hp K = (nlp hp = true /\ ∃ x hp', runC T n f args hp = some (x, hp') /\ nlp hp' = true /\ K x hp') := rfl
end Go.Vg
end
section
namespace Go.Vg
open Go
abbrev Kc := Nat × List SV × SV
end Go.Vg
end
section
namespace Go.Vg
open Go
structure Fre (E : Env) (hp : List Blk) (g : Nat) : Prop where
 lt : g < E.w.heap.size
 im : ¬ E.im g
 base : E.W.heap.size <= g \/ E.M g
 no : ∀ l (b : Blk), hp[l]? = some b -> b.at E l ≠ some g
def Env.iso (E : Env) (hp : List Blk) : Env := { E with W := E.w, M := fun g => ∃ l, ∃ b : Blk, hp[l]? = some b /\ b.at E l = some g, im0 := E.im }
def Env.osi (E' E : Env) : Env := { E' with W := E.W, M := E.M, im0 := E.im0 }
theorem iso_le0 (E : Env) (hp : List Blk) : E.Le0 (E.iso hp) := ⟨Nat.le_refl _, fun _ h => h, fun _ _ => rfl, fun _ _ => rfl, fun _ _ h => h, fun _ h => h, fun _ _ => rfl, rfl⟩
theorem osi_le0 (E' E : Env) : E'.Le0 (E'.osi E) := ⟨Nat.le_refl _, fun _ h => h, fun _ _ => rfl, fun _ _ => rfl, fun _ _ h => h, fun _ h => h, fun _ _ => rfl, rfl⟩
theorem iso_at (E : Env) (hp : List Blk) (b : Blk) (l : Nat) : b.at (E.iso hp) l = b.at E l := by cases b <;> rfl
theorem osi_at (E' E : Env) (b : Blk) (l : Nat) : b.at (E'.osi E) l = b.at E' l := by cases b <;> rfl
theorem RHp.iso {E : Env} {hp : List Blk} (h : RHp E hp) : RHp (E.iso hp) hp :=
  ⟨⟨fun _ _ _ => rfl, fun _ => rfl, Nat.le_refl _, rfl, rfl, rfl, h.g.imb, fun b hb => .inl hb⟩,
   ⟨h.b.n, h.b.rs, fun l b e => (h.b.blk l b e).keep0 (iso_le0 E hp) (h.has e) (fun _ _ => rfl), h.b.live, fun l b g e hg => h.b.imx l b g e ((iso_at E hp b l).symm.trans hg), fun l b g e hg => .inr ⟨l, b, e, (iso_at E hp b l).symm.trans hg⟩,
    fun l l' b b' g e e' hg hg' => h.b.dj l l' b b' g e e' ((iso_at E hp b l).symm.trans hg) ((iso_at E hp b' l').symm.trans hg')⟩⟩
theorem Rep.iso {E : Env} {s : St} {a : Act} (h : Rep E s a) : Rep (E.iso s.hp) s a := ⟨h.fr.mono0 (iso_le0 E s.hp), h.hp.iso, h.df⟩
theorem RHp.osi {E E' : Env} {hp hp' : List Blk} (h : RHp E hp) (hle : (E.iso hp).Le E') (h' : RHp E' hp') :
    E.Le (E'.osi E) /\ RHp (E'.osi E) hp' /\ ∀ g, Fre E hp g -> Fre (E'.osi E) hp' g /\ E'.w.heap[g]? = E.w.heap[g]? := by
  have eW : E'.W = E.w := hle.W
  have eM : ∀ g, E'.M g -> ∃ l, ∃ b : Blk, hp[l]? = some b /\ b.at E l = some g := fun g hg => by rw [hle.M] at hg; exact hg
  have e0 : ∀ g, E'.im0 g -> E.im g := fun g hg => by rw [hle.im0] at hg; exact hg
  have old : ∀ b, b < E.w.heap.size -> (∀ l (c : Blk), hp[l]? = some c -> c.at E l ≠ some b) -> E'.w.heap[b]? = E.w.heap[b]? := fun b hb hn => by
    have := h'.g.fr b (by rw [eW]; exact hb) (fun hm => by obtain ⟨l, c, h1, h2⟩ := eM b hm; exact hn l c h1 h2)
    rw [eW] at this; exact this
  have base : ∀ g, (E'.W.heap.size <= g \/ E'.M g) -> E.w.heap.size <= g \/ ∃ l, ∃ b : Blk, hp[l]? = some b /\ b.at E l = some g := fun g hg => by
    rcases hg with hg | hg
    . rw [eW] at hg; exact .inl hg
    . exact .inr (eM g hg)
  have base2 : ∀ g, (E'.W.heap.size <= g \/ E'.M g) -> E.W.heap.size <= g \/ E.M g := fun g hg => by
    rcases base g hg with hg | ⟨l, b, h1, h2⟩
    . exact .inl (Nat.le_trans h.g.sz hg)
    . exact h.b.base l b g h1 h2
  refine ⟨⟨hle.n, hle.has, hle.blk, hle.val, hle.live, hle.im, hle.mem, rfl, rfl, rfl, hle.df, hle.n0, hle.ok, hle.rs⟩, ⟨⟨fun b hb hm => ?_, fun a => ?_, ?_, ?_, ?_, ?_, h'.g.imb, fun b hb => ?_⟩,
    ⟨h'.b.n, h'.b.rs, fun l b e => (h'.b.blk l b e).keep0 (osi_le0 E' E) (h'.has e) (fun _ _ => rfl), h'.b.live, fun l b g e hg => h'.b.imx l b g e ((osi_at E' E b l).symm.trans hg),
     fun l b g e hg => base2 g (h'.b.base l b g e ((osi_at E' E b l).symm.trans hg)),
     fun l l' b b' g e e' hg hg' => h'.b.dj l l' b b' g e e' ((osi_at E' E b l).symm.trans hg) ((osi_at E' E b' l').symm.trans hg')⟩⟩, fun g hg => ⟨⟨?_, ?_, hg.base, ?_⟩, old g hg.lt hg.no⟩⟩
  . refine (old b (Nat.lt_of_lt_of_le hb h.g.sz) fun l c h1 h2 => ?_).trans (h.g.fr b hb hm)
    rcases h.b.base l c b h1 h2 with h3 | h3
    . exact absurd (show b < E.W.heap.size from hb) (by omega)
    . exact hm h3
  . have := h'.g.fz a; rw [eW] at this; exact this.trans (h.g.fz a)
  . have := h'.g.sz; rw [eW] at this; exact Nat.le_trans h.g.sz this
  . have := h'.g.os; rw [eW] at this; exact this.trans h.g.os
  . have := h'.g.tape; rw [eW] at this; exact this.trans h.g.tape
  . have := h'.g.output; rw [eW] at this; exact this.trans h.g.output
  . rcases h'.g.im0 b hb with h1 | h1
    . exact h.g.im0 b (e0 b h1)
    . exact .inr (base2 b h1)
  . have := h'.g.sz; rw [eW] at this; exact Nat.lt_of_lt_of_le hg.lt this
  . intro hi
    rcases h'.g.im0 g hi with h1 | h1
    . exact hg.im (e0 g h1)
    . rcases base g h1 with h2 | ⟨l, b, h2, h3⟩
      . have := hg.lt; omega
      . exact hg.no l b h2 h3
  . intro l b e hb
    rcases base g (h'.b.base l b g e ((osi_at E' E b l).symm.trans hb)) with h2 | ⟨l, b, h2, h3⟩
    . have := hg.lt; omega
    . exact hg.no l b h2 h3
theorem RHp.adz {E : Env} {hp : List Blk} (h : RHp E hp) {g t : Nat} {cs : List SV} {vs : List Value} (hf : Fre E hp g) (hv : Rvs E cs vs) (hw : E.w.heap[g]? = some (.cells vs.toArray t (0, 0))) :
  RHp (E.push E.w g undef) (pb hp (.box t cs)) /\ E.Le (E.push E.w g undef) /\ (∀ g', g' ≠ g -> Fre E hp g' -> Fre (E.push E.w g undef) (pb hp (.box t cs)) g') /\ Rv (E.push E.w g undef) (.ptr (ln hp) 0) (.pointer (some ⟨g, 0, none⟩)) := by
 have hle : E.Le (E.push E.w g undef) := Env.push_le fun b hb => rfl
 have hn := h.b.n
 have get : ∀ l b, (pb hp (.box t cs))[l]? = some b -> (l = E.n /\ b = .box t cs) \/ (l < E.n /\ hp[l]? = some b) := by
  intro l b e
  rw [xCz, List.getElem?_append] at e
  split at e
  ·exact .inr ⟨by omega, e⟩
  ·rw [List.getElem?_singleton] at e
   split at e
   ·exact .inl ⟨by omega, by simpa using e.symm⟩
   ·cases e
 have hnat : ∀ g', (Blk.box t cs).at (E.push E.w g undef) E.n = some g' -> g' = g := fun g' e => by simp [Blk.at, Env.push] at e; exact e.symm
 refine ⟨⟨⟨h.g.fr, h.g.fz, h.g.sz, h.g.os, h.g.tape, h.g.output, h.g.imb, h.g.im0⟩, ⟨?_, ?_, ?_, ?_, ?_, ?_, ?_⟩⟩, hle, fun g' hne hf' => ⟨hf'.lt, hf'.im, hf'.base, fun l b e hb => ?_⟩, ?_⟩
 ·rw [xCz]; simp [Env.push, hn]
 ·intro l b e hrs
  rcases get l b e with ⟨rfl, rfl⟩ | ⟨h1, h2⟩
  ·exact absurd hrs.1 (Nat.lt_irrefl _)
  ·exact h.b.rs l b h2 hrs.2
 ·intro l b e
  rcases get l b e with ⟨rfl, rfl⟩ | ⟨h1, h2⟩
  ·exact ⟨vs, hv.mono hle, by simp only [Env.push, if_true]; exact hw⟩
  ·exact (h.b.blk l b h2).keep hle (h.has h2) (fun g hh => rfl)
 ·intro l b e hd
  rcases get l b e with ⟨rfl, rfl⟩ | ⟨h1, h2⟩
  ·exact .inl rfl
  ·exact .inr (h.b.live l b h2 hd)
 ·intro l b g' e hh hi
  rcases get l b e with ⟨rfl, rfl⟩ | ⟨h1, h2⟩
  ·rw [hnat g' hh] at hi; exact hf.im hi
  ·rw [Blk.at_le hle b (h.has h2)] at hh; exact h.b.imx l b g' h2 hh hi
 ·intro l b g' e hh
  rcases get l b e with ⟨rfl, rfl⟩ | ⟨h1, h2⟩
  ·rw [hnat g' hh]; exact hf.base
  ·rw [Blk.at_le hle b (h.has h2)] at hh; exact h.b.base l b g' h2 hh
 ·intro l l' b b' g' e e' hh hh'
  rcases get l b e with ⟨rfl, rfl⟩ | ⟨h1, h2⟩ <;> rcases get l' b' e' with ⟨rfl, rfl⟩ | ⟨h3, h4⟩
  ·rfl
  ·rw [Blk.at_le hle b' (h.has h4)] at hh'; rw [hnat g' hh] at hh'; exact absurd hh' (hf.no l' b' h4)
  ·rw [Blk.at_le hle b (h.has h2)] at hh; rw [hnat g' hh'] at hh; exact absurd hh (hf.no l b h2)
  ·rw [Blk.at_le hle b (h.has h2)] at hh; rw [Blk.at_le hle b' (h.has h4)] at hh'; exact h.b.dj l l' b b' g' h2 h4 hh hh'
 ·rcases get l b e with ⟨rfl, rfl⟩ | ⟨h1, h2⟩
  ·exact hne (hnat g' hb)
  ·rw [Blk.at_le hle b (h.has h2)] at hb; exact hf'.no l b h2 hb
 ·have : (E.push E.w g undef).blk (ln hp) = g := by simp [Env.push, hn, xBn]
  have hh : (E.push E.w g undef).has (ln hp) := by rw [xBn, <- hn]; exact Env.push_has
  have h4 := Rv.ptr (E := E.push E.w g undef) (ln hp) 0 hh
  rw [this] at h4; exact h4
section
variable {P : Program} {Γ : Gm} (hΓ : GmOk P Γ) (hG : ∀ f C, Γ f = some C -> Known P f)
include hΓ hG in
theorem step_oneF {ro : Option Nat} {n : Nat} {ops : Array Oper} {Q : Exit -> Act -> World -> Prop} {i : Nat} {op : Oper} {o : Opr} (hi : ops[i]? = some op) (hc : c1w P op = some o.o) (hd : o.d = op.dst) (hg : GRel ops op o) (hng : o.g = none)
  {E : Env} {s : St} {a : Act} (hr : Rep E s a) {k : SV -> List Blk -> Prop} (hev : evh Γ s k o.o) {K : Act -> World -> Prop}
  (hK : ∀ E' x hp' v, E.Le E' -> (∀ g, Fre E s.hp g -> Fre E' hp' g /\ E'.w.heap[g]? = E.w.heap[g]?) -> Rep E' ⟨putf s.fr o.d x, hp'⟩ (a.put op.dst v) -> k x hp' -> K (a.put op.dst v) E'.w) : wpOpIn (fen ro) n P ops Q i K a E.w := by
 refine xHb hΓ hG (E := E.iso s.hp) hi hc hd hg hng hr.iso hev fun E' x hp' v hle hr' hk => ?_
 obtain ⟨h1, h2, h3⟩ := hr.hp.osi hle hr'.hp
 exact hK (E'.osi E) x hp' v h1 h3 ⟨hr'.fr.mono0 (osi_le0 E' E), h2, hr'.df⟩ hk
theorem step_new {ro : Option Nat} {n : Nat} {ops : Array Oper} {Q : Exit -> Act -> World -> Prop} {i : Nat} {op : Oper} {o : Opr} {t : Nat} {z : List SV} (hi : ops[i]? = some op) (hc : c1w P op = some (.new t z)) (hg : GRel ops op o) (hng : o.g = none)
  {E : Env} {s : St} {a : Act} (hr : Rep E s a) {K : Act -> World -> Prop}
  (hK : ∀ E' g vs, E.Le E' -> (∀ g, Fre E s.hp g -> Fre E' s.hp g /\ E'.w.heap[g]? = E.w.heap[g]?) -> RHp E' s.hp -> Fre E' s.hp g -> (∀ g', Fre E s.hp g' -> g' ≠ g) -> Rvs E' z vs -> E'.w.heap[g]? = some (.cells vs.toArray t (0, 0)) -> K (a.put op.dst (.pointer (some ⟨g, 0, none⟩))) E'.w) : wpOpIn (fen ro) n P ops Q i K a E.w := by
 unfold wpOpIn
 simp only [hi]
 have hgd : gd s (fun s' => s' = s) (fun _ => False) o.g := by rw [hng]; rfl
 rcases xKs hg hr hgd with ⟨hw, s', hr', hrun⟩ | ⟨hw, s', hr', hskip⟩
 ·clear hrun hr'
  rw [if_pos hw]
  refine ⟨fun _ _ => trivial, ?_⟩
  rw [Oper.semAt_eq _ _ _ (c1w_nodefer hc)]
  unfold c1w at hc
  split at hc
  rotate_left
  ·exfalso
   (repeat' split at hc) <;> first | (cases hc; done) | (obtain ⟨_, _, h0⟩ := Option.map_eq_some_iff.1 hc; cases h0; done)
  rename_i hc1
  cases hc
  unfold c1 at hc1
  split at hc1
  ·cases hc1
  ·split at hc1
   ·rename_i t' ho
    obtain ⟨z', hz, h0⟩ := Option.map_eq_some_iff.1 hc1
    cases h0
    unfold zcells at hz
    split at hz
    ·rename_i i' hi'
     split at hz
     ·rename_i zv hzv
      cases hz
      have hgr := xFi E.w (.cells zv.cells.toList.toArray t)
      have hle : E.Le (E.to (E.w.alloc (.cells zv.cells.toList.toArray t))) := Env.to_le fun b hb => heap_alloc_old E.w _ (hr.hp.imlt hb)
      have hatE : ∀ l (b : Blk), b.at (E.to (E.w.alloc (.cells zv.cells.toList.toArray t))) l = b.at E l := fun l b => by cases b <;> rfl
      have hnew : (E.w.alloc (.cells zv.cells.toList.toArray t)).heap[E.w.heap.size]? = some (.cells zv.cells.toList.toArray t (0, 0)) := heap_alloc_new E.w _
      have hRH : RHp (E.to (E.w.alloc (.cells zv.cells.toList.toArray t))) s.hp :=
       ⟨hr.hp.g.grow hgr (fun g e => by cases e) (fun a => RowKit.frozen?_alloc_cells _ _ _ a), ⟨hr.hp.b.n, hr.hp.b.rs, fun l b e => (hr.hp.b.blk l b e).keep hle (hr.hp.has e) (fun g hh => heap_alloc_old E.w _ ((hr.hp.b.blk l b e).lt hh)), hr.hp.b.live,
        fun l b g e hg => hr.hp.b.imx l b g e ((hatE l b).symm.trans hg), fun l b g e hg => hr.hp.b.base l b g e ((hatE l b).symm.trans hg),
        fun l l' b b' g e e' hg hg' => hr.hp.b.dj l l' b b' g e e' ((hatE l b).symm.trans hg) ((hatE l' b').symm.trans hg')⟩⟩
      refine xAb (w := E.w.alloc (.cells zv.cells.toList.toArray t)) (v := .pointer (some ⟨E.w.heap.size, 0, none⟩)) ?_ (hK (E.to (E.w.alloc (.cells zv.cells.toList.toArray t))) E.w.heap.size zv.cells.toList hle (fun g hf => ⟨⟨?_, hf.im, hf.base, fun l b e hb => hf.no l b e ((hatE l b).symm.trans hb)⟩, heap_alloc_old E.w _ hf.lt⟩) hRH ⟨?_, ?_, .inl hr.hp.g.sz, ?_⟩ (fun g' hf e => ?_) (xBo _ _) hnew)
      ·simp [execOp, ho, Instr.alloc, zeroValue, typeInfo, hi', hzv, newVar, newRow]
      ·exact Nat.lt_of_lt_of_le hf.lt hgr.size
      ·exact (Array.getElem?_eq_some_iff.1 hnew).1
      ·intro him; exact Nat.lt_irrefl _ (hr.hp.imlt him)
      ·intro l b e hb
       exact Nat.lt_irrefl _ ((hr.hp.b.blk l b e).lt ((hatE l b).symm.trans hb))
      ·have := hf.lt; omega
     ·cases hz
    ·cases hz
   all_goals
    exfalso
    (repeat' split at hc1) <;> first | (cases hc1; done) | (obtain ⟨_, _, h0⟩ := Option.map_eq_some_iff.1 hc1; cases h0; done)
 ·cases hskip
end
def isLz (ms : List Nat) (lo : List Opr) (i : Nat) : Bool :=
 match lo[i]? with
 | some ⟨some d, none, .new _ _⟩ => Nat.beq (ms.getD i 0) 0 && lo.zipIdx.all fun x => i == x.2 || (ms.getD x.2 0).testBit i || (!(x.1.d == some d) && !(uses1 x.1.o).contains d)
 | _ => false
def zdone (ms : List Nat) (lo : List Opr) (L : Nat -> Bool) : Bool := lo.zipIdx.all fun x => L x.2 || isLz ms lo x.2
def rdz (ms : List Nat) (lo : List Opr) (L : Nat -> Bool) (i : Nat) : Bool := !L i && (List.range lo.length).all fun j => !(ms.getD i 0).testBit j || L j || isLz ms lo j
def pull (ms : List Nat) (lo : List Opr) (L : Nat -> Bool) (i : Nat) : Option (Opr × Nat) := lo.zipIdx.find? fun x => (ms.getD i 0).testBit x.2 && !L x.2
def optZ (ms : List Nat) (lo : List Opr) (L : Nat -> Bool) (x : Opr × Nat) : Option (Opr × Nat) :=
 match isLz ms lo x.2 with
 | true => match !L x.2 && zdone ms lo L with
  | true => some x
  | false => none
 | false => match rdz ms lo L x.2 with
  | true => match pull ms lo L x.2 with
   | some y => some y
   | none => some x
  | false => none
def ordZ (ms : List Nat) (lo : List Opr) (f : (Nat -> Bool) -> DT) (L : Nat -> Bool) : List (Opr × Nat) -> DT
 | [] => .stop
 | x :: t => match optZ ms lo L x with
  | some (o, c) => .op o (f fun j => j == c || L j) (ordZ ms lo f L t)
  | none => ordZ ms lo f L t
def cutZ (ms : List Nat) (lo : List Opr) : Nat -> (Nat -> Bool) -> DT
 | 0, _ => .leaf
 | k + 1, L => match fstS ms lo L with
  | some (o, i) => .op o (cutZ ms lo k fun j => j == i || L j) .stop
  | none => ordZ ms lo (cutZ ms lo k) L lo.zipIdx
theorem ordZ_get {Γ : Gm} {ms : List Nat} {lo : List Opr} {f : (Nat -> Bool) -> DT} {L : Nat -> Bool} {k : St -> Prop} {s : St} {x : Opr × Nat} {o : Opr} {c : Nat} (hx : optZ ms lo L x = some (o, c)) : ∀ {l : List (Opr × Nat)}, x ∈ l -> exT Γ k (ordZ ms lo f L l) s ->
  evops Γ (exT Γ k (f fun j => j == c || L j)) [o] s
 | [], hm, _ => by cases hm
 | y :: t, hm, h => by
  rw [ordZ] at h
  cases hm with
  | head => rw [hx] at h; exact h.1
  | tail _ hm =>
   split at h
   ·exact ordZ_get hx hm h.2
   ·exact ordZ_get hx hm h
theorem isLz_get {ms : List Nat} {lo : List Opr} {i : Nat} (h : isLz ms lo i = true) : ∃ d t z, lo[i]? = some ⟨some d, none, .new t z⟩ /\ ms.getD i 0 = 0 /\ ∀ j o', lo[j]? = some o' -> j ≠ i -> (ms.getD j 0).testBit i = false -> o'.d ≠ some d /\ d ∉ uses1 o'.o := by
 unfold isLz at h
 split at h
 ·rename_i d t z e
  simp only [Bool.and_eq_true, Nat.beq_eq, List.all_eq_true] at h
  refine ⟨d, t, z, e, h.1, fun j o' ho hne hb => ?_⟩
  have := h.2 (o', j) (by rw [List.mem_zipIdx_iff_getElem?]; simpa using ho)
  simp only [hb, Bool.or_false, Bool.or_eq_true, beq_iff_eq, Bool.and_eq_true, Bool.not_eq_true', beq_eq_false_iff_ne, ne_eq, List.contains_eq_mem, decide_eq_false_iff_not] at this
  rcases this with h1 | h1
  ·exact absurd h1.symm hne
  ·exact h1
 ·cases h
def LZ (lst : Array Bool) (Z : List (Nat × Nat × Nat)) : Nat -> Bool := fun j => LS lst j && !Z.any fun y => y.1 == j
theorem LZ_nil (lst : Array Bool) : LZ lst [] = LS lst := by funext j; simp [LZ]
theorem LZ_in {lst : Array Bool} {Z : List (Nat × Nat × Nat)} {y : Nat × Nat × Nat} (h : y ∈ Z) : LZ lst Z y.1 = false := by
 unfold LZ
 have : (Z.any fun z => z.1 == y.1) = true := List.any_eq_true.2 ⟨y, h, by simp⟩
 simp [this]
theorem LZ_out {lst : Array Bool} {Z : List (Nat × Nat × Nat)} {j : Nat} (h : LS lst j = true) : LZ lst Z j = true \/ ∃ y ∈ Z, y.1 = j := by
 unfold LZ
 rw [h]
 cases hz : Z.any fun z => z.1 == j
 ·exact .inl rfl
 ·obtain ⟨y, h1, h2⟩ := List.any_eq_true.1 hz
  exact .inr ⟨y, h1, by simpa using h2⟩
theorem LZ_le {lst : Array Bool} {Z : List (Nat × Nat × Nat)} {j : Nat} (h : LS lst j = false) : LZ lst Z j = false := by unfold LZ; rw [h]; rfl
structure ZOk (ms : List Nat) (lo : List Opr) (lst : Array Bool) (E : Env) (s : St) (a : Act) (Z : List (Nat × Nat × Nat)) : Prop where
 each : ∀ y ∈ Z, isLz ms lo y.1 = true /\ LS lst y.1 = true /\ ∃ t z vs, lo[y.1]? = some ⟨some y.2.1, none, .new t z⟩ /\ Fre E s.hp y.2.2 /\ Rvs E z vs /\ E.w.heap[y.2.2]? = some (.cells vs.toArray t (0, 0)) /\ ∀ v, a.tmps.toList[y.2.1]? = some v -> v = .pointer (some ⟨y.2.2, 0, none⟩)
 nd : Z.Pairwise fun y y' => y.1 ≠ y'.1 /\ y.2.2 ≠ y'.2.2
def FM (Z : List (Nat × Nat × Nat)) (fr ft : List SV) : Prop := fr.length = ft.length /\ ∀ t, (∀ y ∈ Z, y.2.1 ≠ t) -> gt fr t = gt ft t
theorem gt_out : ∀ {fr : List SV} {i : Nat}, fr.length <= i -> gt fr i = .any
 | [], _, _ => rfl
 | _ :: t, 0, h => by simp at h
 | _ :: t, i + 1, h => gt_out (fr := t) (i := i) (by simpa using h)
theorem FM.put {Z : List (Nat × Nat × Nat)} {fr ft : List SV} (h : FM Z fr ft) (d : Option Nat) (x : SV) : FM Z (putf fr d x) (putf ft d x) :=
 ⟨by simp [xCd, h.1], fun t ht => by rw [xBs, xBs, h.1, h.2 t ht]⟩
section
variable {P : Program} {Γ : Gm} (hΓ : GmOk P Γ) (hG : ∀ f C, Γ f = some C -> Known P f)
theorem pull_step {ms : List Nat} {lo : List Opr} {lst : Array Bool} {E : Env} {s : St} {a : Act} {Z1 Z2 : List (Nat × Nat × Nat)} {z : Nat × Nat × Nat} {A : List (Nat × Opr × SV)} {fr' ft : List SV} {o : Opr} {k : St -> Prop}
  (hZ : ZOk ms lo lst E s a (Z1 ++ z :: Z2)) (hr : Rep E s a) (hA : OkA ms lo (LZ lst (Z1 ++ z :: Z2)) A) (hd : Dt s.hp A s.fr fr') (hF : FM (Z1 ++ z :: Z2) fr' ft) (hA1 : ∀ y ∈ A, y.1 ≠ z.1) (ho : lo[z.1]? = some o) (hev : evops Γ k [o] ⟨ft, s.hp⟩) :
  ∃ E' s' fr1 ft1, E'.w = E.w /\ E.Le E' /\ Rep E' s' a /\ OkA ms lo (LZ lst (Z1 ++ Z2)) A /\ LZ lst (Z1 ++ Z2) = (fun j => j == z.1 || LZ lst (Z1 ++ z :: Z2) j) /\ Dt s'.hp A s'.fr fr1 /\ ZOk ms lo lst E' s' a (Z1 ++ Z2) /\ FM (Z1 ++ Z2) fr1 ft1 /\ k ⟨ft1, s'.hp⟩ := by
 have hm : z ∈ Z1 ++ z :: Z2 := List.mem_append_right _ (List.mem_cons_self ..)
 have hsub : ∀ y, y ∈ Z1 ++ Z2 -> y ∈ Z1 ++ z :: Z2 := fun y hy => by
  rcases List.mem_append.1 hy with h | h
  ·exact List.mem_append_left _ h
  ·exact List.mem_append_right _ (List.mem_cons_of_mem _ h)
 obtain ⟨h1, h2, t, cs, vs, h3, h4, h5, h6, h7⟩ := hZ.each z hm
 rw [ho] at h3
 cases h3
 obtain ⟨d', t', z', g1, g2, g3⟩ := isLz_get h1
 rw [ho] at g1
 simp only [Option.some.injEq, Opr.mk.injEq, true_and] at g1
 obtain ⟨rfl, _⟩ := g1
 obtain ⟨a1, a2, a3, a4⟩ := hr.hp.adz h4 h5 h6
 have hlt : z.1 < lo.length := (List.getElem?_eq_some_iff.1 ho).1
 have hne : ∀ y, y ∈ Z1 ++ Z2 -> y.1 ≠ z.1 /\ y.2.2 ≠ z.2.2 := fun y hy => by
  have := hZ.nd
  rw [List.pairwise_append, List.pairwise_cons] at this
  rcases List.mem_append.1 hy with h | h
  ·exact this.2.2 y h z (List.mem_cons_self ..)
  ·have := this.2.1.1 y h; exact ⟨Ne.symm this.1, Ne.symm this.2⟩
 have hLZ : LZ lst (Z1 ++ Z2) = (fun j => j == z.1 || LZ lst (Z1 ++ z :: Z2) j) := by
  funext j
  unfold LZ
  by_cases hj : j = z.1
  ·subst hj
   have : ((Z1 ++ Z2).any fun y => y.1 == z.1) = false := List.any_eq_false.2 fun y hy => by simpa using (hne y hy).1
   rw [this, show LS lst z.1 = true from h2]; simp
  ·have e : (z.1 == j) = false := by simpa using Ne.symm hj
   have e' : (j == z.1) = false := by simpa using hj
   simp only [List.any_append, List.any_cons, e, e', Bool.false_or]
 have hw := xKv hlt hA (LZ_in hm) hA1
 have hAd : ∀ y ∈ A, silK y.2.1.o = true /\ (∀ t, some z.2.1 = some t -> t ∉ uses1 y.2.1.o /\ y.2.1.d ≠ some t) := fun y hy => by
  obtain ⟨e1, e2⟩ := xNm hA y hy
  refine ⟨(xHa e1 e2).1, fun t ht => ?_⟩
  cases ht
  have := g3 y.1 y.2.1 e1 (hA1 y hy) (hw y hy)
  exact ⟨this.2, this.1⟩
 simp only [evops, gd, runK] at hev
 have hev1 : k ⟨putf ft (some z.2.1) (.ptr (ln s.hp) 0), pb s.hp (.box t cs)⟩ := hev
 refine ⟨E.push E.w z.2.2 undef, ⟨putf s.fr (some z.2.1) (.ptr (ln s.hp) 0), pb s.hp (.box t cs)⟩, putf fr' (some z.2.1) (.ptr (ln s.hp) 0), _, rfl, a2, ⟨?_, a1, hr.df⟩, ?_, hLZ, ?_, ⟨fun y hy => ?_, ?_⟩, ?_, hev1⟩
 ·have hf := xCc.1 (hr.fr.mono a2)
  refine xCc.2 ⟨by rw [xCd]; exact hf.1, fun t' ht' => ?_⟩
  rw [xCd] at ht'
  rw [xBs]
  split
  ·rename_i hh
   have e : z.2.1 = t' := by simpa using hh.1
   subst e
   have h8 : z.2.1 < a.tmps.toList.length := by rw [<- hf.1]; exact ht'
   have h9 := h7 (a.tmps.toList[z.2.1]) (List.getElem?_eq_getElem h8)
   have h10 : a.tmps.toList.getD z.2.1 undef = a.tmps.toList[z.2.1] := by rw [List.getD_eq_getElem?_getD, List.getElem?_eq_getElem h8]; rfl
   rw [h10, h9]; exact a4
  ·exact hf.2 t' ht'
 ·rw [hLZ]; exact xJv hA1 hA
 ·exact xNj (fun y hy => ⟨(hAd y hy).1, (hAd y hy).2, fun _ => .inr ⟨_, rfl⟩⟩) hd
 ·obtain ⟨e1, e2, t1, z1, vs1, e3, e4, e5, e6, e7⟩ := hZ.each y (hsub y hy)
  exact ⟨e1, e2, t1, z1, vs1, e3, a3 _ (hne y hy).2 e4, e5.mono a2, e6, e7⟩
 ·have := hZ.nd
  rw [List.pairwise_append, List.pairwise_cons] at this
  rw [List.pairwise_append]
  exact ⟨this.1, this.2.1.2, fun y hy y' hy' => this.2.2 y hy y' (List.mem_cons_of_mem _ hy')⟩
 ·refine ⟨by simp [xCd, hF.1], fun t' ht' => ?_⟩
  rw [xBs, xBs, hF.1]
  split
  ·rfl
  ·rename_i hh
   by_cases e : z.2.1 = t'
   ·subst e
    by_cases hl : z.2.1 < ft.length
    ·exact absurd ⟨rfl, hl⟩ hh
    ·rw [gt_out (by rw [hF.1]; omega), gt_out (by omega)]
   ·refine hF.2 t' fun y hy => ?_
    rcases List.mem_append.1 hy with h | h
    ·exact ht' y (List.mem_append_left _ h)
    ·cases h with
     | head => exact e
     | tail _ h => exact ht' y (List.mem_append_right _ h)
theorem sil_not_lz {ms : List Nat} {lo : List Opr} {i : Nat} (h : sil ms lo i = true) (h2 : isLz ms lo i = true) : False := by
 obtain ⟨d, t, z, e, _⟩ := isLz_get h2
 have := (xHa e h).1
 cases this
theorem fin_ok {ms : List Nat} {lo : List Opr} {lst : Array Bool} {a : Act} {k0 : St -> Prop} (hl : left lst = 0) (hsz : lst.size = lo.length) : ∀ (k : Nat) (Z : List (Nat × Nat × Nat)) (E : Env) (s : St) (ft : List SV), k = Z.length -> ZOk ms lo lst E s a Z -> Rep E s a -> FM Z s.fr ft ->
  exT Γ k0 (cutZ ms lo k (LZ lst Z)) ⟨ft, s.hp⟩ -> ∃ E' s', E'.w = E.w /\ E.Le E' /\ Rep E' s' a /\ k0 s' := by
 have hall : ∀ i, i < lo.length -> LS lst i = true := fun i hi => by
  have := xCm hl i
  rw [xBh (by omega)] at this; exact this
 intro k
 induction k with
 | zero =>
  intro Z E s ft hk hZ hr hF hev
  have : Z = [] := by cases Z with
   | nil => rfl
   | cons _ _ => simp at hk
  subst this
  have : s.fr = ft := xRb hF.1 fun t _ => hF.2 t (fun y hy => by cases hy)
  subst this
  exact ⟨E, s, rfl, .refl E, hr, hev⟩
 | succ k ih =>
  intro Z E s ft hk hZ hr hF hev
  rw [cutZ] at hev
  cases hfs : fstS ms lo (LZ lst Z) with
  | some oi =>
   exfalso
   obtain ⟨o, i⟩ := oi
   have hp1 := List.find?_some hfs
   have hm1 := List.mem_zipIdx_iff_getElem?.1 (List.mem_of_find?_eq_some hfs)
   simp only [Bool.and_eq_true] at hp1
   obtain ⟨hrd, hsl⟩ := hp1
   have ho : lo[i]? = some o := by simpa using hm1
   have hi : i < lo.length := (List.getElem?_eq_some_iff.1 ho).1
   unfold rdy at hrd
   simp only [Bool.and_eq_true, Bool.not_eq_true'] at hrd
   rcases LZ_out (Z := Z) (hall i hi) with h | ⟨y, h1, h2⟩
   ·rw [hrd.1] at h; cases h
   ·obtain ⟨e1, _⟩ := hZ.each y h1
    rw [h2] at e1
    exact sil_not_lz hsl e1
  | none =>
   rw [hfs] at hev
   cases Z with
   | nil => simp at hk
   | cons z Z =>
    have hm : z ∈ z :: Z := List.mem_cons_self ..
    obtain ⟨h1, h2, t, cs, vs, h3, h4, h5, h6, h7⟩ := hZ.each z hm
    have hopt : optZ ms lo (LZ lst (z :: Z)) (⟨some z.2.1, none, .new t cs⟩, z.1) = some (⟨some z.2.1, none, .new t cs⟩, z.1) := by
     unfold optZ
     have hz : zdone ms lo (LZ lst (z :: Z)) = true := by
      unfold zdone
      rw [List.all_eq_true]
      intro x hx
      have hx1 := List.mem_zipIdx_iff_getElem?.1 hx
      have hx2 : x.2 < lo.length := (List.getElem?_eq_some_iff.1 hx1).1
      rcases LZ_out (Z := z :: Z) (hall _ hx2) with h | ⟨y, g1, g2⟩
      ·rw [h]; rfl
      ·rw [<- g2, (hZ.each y g1).1]; simp
     simp only [h1, LZ_in hm, hz, Bool.not_false, Bool.and_self]
    have hev1 := ordZ_get hopt (List.mem_zipIdx_iff_getElem?.2 (by simpa using h3)) hev
    obtain ⟨E', s', fr1, ft1, e1, e2, e3, e4, e5, e6, e7, e8, e9⟩ := pull_step (Z1 := []) (A := []) (fr' := s.fr) hZ hr trivial rfl hF (fun y hy => by cases hy) h3 hev1
    simp only [List.nil_append] at e5 e7 e8
    rw [<- e5] at e9
    simp only [Dt] at e6
    subst e6
    obtain ⟨E2, s2, f1, f2, f3, f4⟩ := ih Z E' s' ft1 (by simpa using hk) e7 e3 e8 e9
    exact ⟨E2, s2, f1.trans e1, e2.trans f2, f3, f4⟩
theorem cntB {ms : List Nat} {lo : List Opr} {Z : List (Nat × Nat × Nat)} : ∀ {A : List (Nat × Opr × SV)} {lst : Array Bool}, lst.size = lo.length -> (∀ y ∈ A, LS lst y.1 = false) -> (A.map (·.1)).Nodup -> (∀ y ∈ A, y.1 < lst.size) -> A.length <= left lst
 | [], lst, _, _, _, _ => Nat.zero_le _
 | (i, o, x) :: A, lst, hs, hL, hn, hl => by
  have hi : i < lst.size := hl _ (List.mem_cons_self ..)
  have e := xEh (lst := lst) (i := i) (by rw [xBh hi]; exact hL _ (List.mem_cons_self ..))
  rw [List.map_cons, List.nodup_cons] at hn
  have := cntB (ms := ms) (lo := lo) (Z := Z) (A := A) (lst := lst.setIfInBounds i true) (by simpa using hs) (fun y hy => by
   rw [xKw hi]
   have : y.1 ≠ i := fun e => hn.1 (e ▸ List.mem_map.2 ⟨y, hy, rfl⟩)
   simp only [hL y (List.mem_cons_of_mem _ hy), Bool.or_false]; simpa using this) hn.2 (fun y hy => by simpa using hl y (List.mem_cons_of_mem _ hy))
  simp only [List.length_cons]; omega
theorem OkA_nd {ms : List Nat} {lo : List Opr} : ∀ {A : List (Nat × Opr × SV)} {L : Nat -> Bool}, OkA ms lo L A -> (A.map (·.1)).Nodup
 | [], _, _ => List.nodup_nil
 | (i, o, x) :: A, L, h => by
  rw [List.map_cons, List.nodup_cons]
  refine ⟨fun hm => ?_, OkA_nd h.2.2.2.2⟩
  obtain ⟨y, h1, h2⟩ := List.mem_map.1 hm
  have := xNl h.2.2.2.2 y h1
  rw [h2] at this
  simp at this
theorem put_get {a : Act} {d : Option Nat} {v : Value} {i : Nat} (h : d ≠ some i) : (a.put d v).tmps.toList[i]? = a.tmps.toList[i]? := by
 cases d with
 | none => rfl
 | some d =>
  have : d ≠ i := fun e => h (by rw [e])
  simp only [Act.put, Array.toList_setIfInBounds]
  exact List.getElem?_set_ne this
theorem put_new {a : Act} {i : Nat} {v v' : Value} (h : (a.put (some i) v).tmps.toList[i]? = some v') : v' = v := by
 simp only [Act.put, Array.toList_setIfInBounds, List.getElem?_set] at h
 simp only [if_true] at h
 split at h
 ·cases h; rfl
 ·cases h
theorem ZOk.no {ms : List Nat} {lo : List Opr} {lst : Array Bool} {E : Env} {s : St} {a : Act} {Z : List (Nat × Nat × Nat)} (hZ : ZOk ms lo lst E s a Z) {y : Nat × Nat × Nat} (hy : y ∈ Z) {j : Nat} {o' : Opr} (ho : lo[j]? = some o') (hne : j ≠ y.1) (hb : (ms.getD j 0).testBit y.1 = false) : o'.d ≠ some y.2.1 /\ y.2.1 ∉ uses1 o'.o := by
 obtain ⟨h1, h2, t, cs, vs, h3, _⟩ := hZ.each y hy
 obtain ⟨d, t', z', g1, g2, g3⟩ := isLz_get h1
 rw [h3] at g1
 simp only [Option.some.injEq, Opr.mk.injEq, true_and] at g1
 obtain ⟨rfl, _⟩ := g1
 exact g3 j o' ho hne hb
theorem ZOk.step {ms : List Nat} {lo : List Opr} {lst : Array Bool} {E : Env} {s : St} {a : Act} {Z : List (Nat × Nat × Nat)} (hZ : ZOk ms lo lst E s a Z) {i : Nat} {o : Opr} (hi : i < lst.size) (ho : lo[i]? = some o) (hn : LS lst i = false) (hw : ∀ y ∈ Z, (ms.getD i 0).testBit y.1 = false) {E' : Env} {s' : St} {dst : Option Nat} {v : Value} (hd : o.d = dst) (hle : E.Le E')
  (hf : ∀ g, Fre E s.hp g -> Fre E' s'.hp g /\ E'.w.heap[g]? = E.w.heap[g]?) : ZOk ms lo (lst.setIfInBounds i true) E' s' (a.put dst v) Z := by
 refine ⟨fun y hy => ?_, hZ.nd⟩
 obtain ⟨h1, h2, t, cs, vs, h3, h4, h5, h6, h7⟩ := hZ.each y hy
 have hne : i ≠ y.1 := fun e => by rw [e, h2] at hn; cases hn
 obtain ⟨f1, f2⟩ := hf _ h4
 refine ⟨h1, ?_, t, cs, vs, h3, f1, h5.mono hle, f2.trans h6, fun v' hv => h7 v' ?_⟩
 ·rw [xKw hi]; simp only [h2, Bool.or_true]
 ·rw [put_get (by rw [<- hd]; exact (hZ.no hy ho hne (hw y hy)).1)] at hv; exact hv
theorem LZ_set {ms : List Nat} {lo : List Opr} {lst : Array Bool} {E : Env} {s : St} {a : Act} {Z : List (Nat × Nat × Nat)} (hZ : ZOk ms lo lst E s a Z) {i : Nat} (hi : i < lst.size) (hn : LS lst i = false) : LZ (lst.setIfInBounds i true) Z = fun t => t == i || LZ lst Z t := by
 funext t
 unfold LZ
 rw [xKw hi]
 by_cases h : t = i
 ·subst h
  have : (Z.any fun y => y.1 == t) = false := List.any_eq_false.2 fun y hy => by
   have := (hZ.each y hy).2.1
   intro e
   have e' : y.1 = t := by simpa using e
   rw [e', hn] at this; cases this
  simp only [this, beq_self_eq_true, Bool.true_or, Bool.not_false, Bool.and_self]
 ·have : (t == i) = false := by simpa using h
  simp only [this, Bool.false_or]
include hΓ hG in
theorem cutz_any {ro : Option Nat} {n : Nat} {ops : Array Oper} {Q : Exit -> Act -> World -> Prop} {lo : List Opr} (hc : cops P ops ops.toList = some lo) (he : edgesOk ops.toList = true) (hgs : ∀ o ∈ lo, o.g = none) {k0 : St -> Prop} (E0 : Env) (hq' : ∀ E' s' a', E0.Le E' -> Rep E' s' a' -> k0 s' -> Q .normal a' E'.w) :
  ∀ (fuel k : Nat) (lst : Array Bool) (A : List (Nat × Opr × SV)) (Z : List (Nat × Nat × Nat)) (E : Env) (s : St) (a : Act) (fr' ft : List SV), k + A.length = left lst + Z.length -> left lst <= fuel -> lst.size = ops.size -> Shut ops (LS lst) -> OkA (masks ops.toList []) lo (LZ lst Z) A -> E0.Le E -> Rep E s a ->
   Dt s.hp A s.fr fr' -> FM Z fr' ft -> ZOk (masks ops.toList []) lo lst E s a Z -> exT Γ k0 (cutZ (masks ops.toList []) lo k (adL (LZ lst Z) A)) ⟨ft, s.hp⟩ -> wpAnyIn (fen ro) n P .any ops Q fuel lst a E.w := by
 have hlen : lo.length = ops.size := by rw [xAw hc]; simp
 have aA : ∀ {lst : Array Bool} {A : List (Nat × Opr × SV)} {Z : List (Nat × Nat × Nat)} {E : Env} {s : St} {a : Act}, OkA (masks ops.toList []) lo (LZ lst Z) A -> ZOk (masks ops.toList []) lo lst E s a Z -> ∀ y ∈ A, LS lst y.1 = false := by
  intro lst A Z E s a hA hZ y hy
  cases h : LS lst y.1 with
  | false => rfl
  | true =>
   rcases LZ_out (Z := Z) h with h1 | ⟨z, h1, h2⟩
   ·rw [xNl hA y hy] at h1; cases h1
   ·have := (hZ.each z h1).1
    rw [h2] at this
    exact (sil_not_lz (xNm hA y hy).2 this).elim
 have aL : ∀ {lst : Array Bool} {A : List (Nat × Opr × SV)} {Z : List (Nat × Nat × Nat)} {E : Env} {s : St} {a : Act}, lst.size = ops.size -> OkA (masks ops.toList []) lo (LZ lst Z) A -> ZOk (masks ops.toList []) lo lst E s a Z -> A.length <= left lst := by
  intro lst A Z E s a hsz hA hZ
  exact cntB (ms := []) (lo := lo) (Z := []) (by rw [hsz, hlen]) (aA hA hZ) (OkA_nd hA) (fun y hy => by
   have := (List.getElem?_eq_some_iff.1 (xNm hA y hy).1).1; omega)
 have fin : ∀ (k : Nat) (lst : Array Bool) (A : List (Nat × Opr × SV)) (Z : List (Nat × Nat × Nat)) (E : Env) (s : St) (a : Act) (fr' ft : List SV), k + A.length = left lst + Z.length -> lst.size = ops.size -> OkA (masks ops.toList []) lo (LZ lst Z) A -> E0.Le E -> Rep E s a ->
   Dt s.hp A s.fr fr' -> FM Z fr' ft -> ZOk (masks ops.toList []) lo lst E s a Z -> exT Γ k0 (cutZ (masks ops.toList []) lo k (adL (LZ lst Z) A)) ⟨ft, s.hp⟩ -> left lst = 0 -> Q .normal a E.w := by
  intro k lst A Z E s a fr' ft hk hsz hA h0 hr hd hF hZ hev hl
  have := aL hsz hA hZ
  have hA0 : A = [] := by cases A with
   | nil => rfl
   | cons _ _ => simp at this; omega
  subst hA0
  simp only [Dt] at hd
  subst hd
  obtain ⟨E', s', e1, e2, e3, e4⟩ := fin_ok hl (by rw [hsz, hlen]) k Z E s ft (by simpa [hl] using hk) hZ hr hF hev
  rw [<- e1]
  exact hq' E' s' a (h0.trans e2) e3 e4
 intro fuel
 induction fuel with
 | zero =>
  intro k lst A Z E s a fr' ft hk hf hsz hs hA h0 hr hd hF hZ hev
  refine ⟨?_, fin k lst A Z E s a fr' ft hk hsz hA h0 hr hd hF hZ hev (by omega)⟩
  apply List.eq_nil_iff_forall_not_mem.2
  intro i hi
  obtain ⟨h1, h2, h3, h4, h5, h6⟩ := xAd hsz hs hi
  omega
 | succ fuel ih =>
  have hnil : ∀ {lst : Array Bool}, lst.size = ops.size -> Region.ready .any ops lst = [] -> left lst = 0 := by
   intro lst hsz hn
   rcases Nat.eq_zero_or_pos (left lst) with h | h
   ·exact h
   ·obtain ⟨i, h1, h2⟩ := xJu h
    obtain ⟨j, _, hj⟩ := xAk hsz he i (by omega) h2
    rw [hn] at hj; cases hj
  have inA : ∀ (k : Nat) (lst : Array Bool) (A : List (Nat × Opr × SV)) (Z : List (Nat × Nat × Nat)) (E : Env) (s : St) (a : Act) (fr' ft : List SV), k + A.length = left lst + Z.length -> left lst <= fuel + 1 -> lst.size = ops.size -> Shut ops (LS lst) -> OkA (masks ops.toList []) lo (LZ lst Z) A -> E0.Le E -> Rep E s a ->
    Dt s.hp A s.fr fr' -> FM Z fr' ft -> ZOk (masks ops.toList []) lo lst E s a Z -> exT Γ k0 (cutZ (masks ops.toList []) lo k (adL (LZ lst Z) A)) ⟨ft, s.hp⟩ ->
    ∀ i, i ∈ Region.ready .any ops lst -> (∃ y ∈ A, y.1 = i) -> wpOpIn (fen ro) n P ops Q i (fun a' w' => wpAnyIn (fen ro) n P .any ops Q fuel (lst.setIfInBounds i true) a' w') a E.w := by
   intro k lst A Z E s a fr' ft hk hf hsz hs hA h0 hr hd hF hZ hev i hi hy
   obtain ⟨⟨i', o, x⟩, hy1, rfl⟩ := hy
   simp only at hi ⊢
   have hAl := aA hA hZ
   have hnz : ∀ y ∈ Z, ∀ y' ∈ A, y'.1 ≠ y.1 := fun y hy y' hy' e => by
    have := hAl y' hy'
    rw [e, (hZ.each y hy).2.1] at this; cases this
   obtain ⟨A1, A2, rfl⟩ := List.append_of_mem hy1
   obtain ⟨h1, h2, h3, h4, h5, h6⟩ := xAd hsz hs hi
   obtain ⟨hA1, g1, g2, g3, g4, g5⟩ := xGz.1 hA
   obtain ⟨o', ho, hco, hod, hog⟩ := xCw hc i' ops[i'] (by simp [h1])
   rw [g1] at ho; cases ho
   obtain ⟨fr1, d1, ⟨p, d2, d3⟩, d4⟩ := xKu.1 hd
   rw [xDb, Bool.or_eq_false_iff] at g3
   have hn1 : ∀ y ∈ A1, y.1 ≠ i' := fun y hy e => by
    have := List.any_eq_false.1 g3.1 y hy
    simp [e] at this
   have hsil := (xHa g1 g2).1
   have hcm : ∀ y ∈ A1, silK y.2.1.o = true /\ cmt y.2.1 o = true := fun y hy => by
    obtain ⟨e1, e2⟩ := xNm hA1 y hy
    obtain ⟨e3, e4⟩ := xHa e1 e2
    refine ⟨e3, e4 i' o g1 (hn1 y hy) (xKv (by rw [hlen]; exact h1) hA1 (LZ_le h2) hn1 y hy) ?_⟩
    cases hb : ((masks ops.toList []).getD i' 0).testBit y.1 with
    | false => rfl
    | true => have := h3 _ hb; rw [hAl y (List.mem_append_left _ hy)] at this; cases this
   have hev1 : evq nq s.fr s.hp o.o = some (p, x) := by
    rw [<- d2]
    exact xEw fun t ht => (xRz (fun y hy e => ((xEz (hcm y hy).2).1 t e).2 ht) d1).symm
   have hw : ∀ y ∈ Z, ((masks ops.toList []).getD i' 0).testBit y.1 = false := fun y hy => by
    cases hb : ((masks ops.toList []).getD i' 0).testBit y.1 with
    | false => rfl
    | true =>
     obtain ⟨t, cs, vs, e3, _⟩ := (hZ.each y hy).2.2
     have := g4 y.1 (List.getElem?_eq_some_iff.1 e3).1 hb
     rw [xDb, LZ_in hy, Bool.or_false] at this
     obtain ⟨y', q1, q2⟩ := List.any_eq_true.1 this
     exact absurd (by simpa using q2 : y.1 = y'.1).symm (hnz y hy y' (List.mem_append_left _ q1))
   refine step_oneF hΓ hG (by simp [h1]) hco hod hog (hgs o (List.mem_of_getElem? g1)) hr (xSb (k := fun x' hp' => x' = x /\ hp' = s.hp) hsil hev1 d3 ⟨rfl, rfl⟩) fun E' x' hp' v hle hfr hr' hk' => ?_
   obtain ⟨rfl, rfl⟩ := hk'
   have hLS := LZ_set hZ (i := i') (by rw [hsz]; exact h1) h2
   refine ih k _ (A1 ++ A2) Z E' _ _ fr' ft ?_ (by omega) (by simpa using hsz) h4 ?_ (h0.trans hle) hr' ?_ hF (hZ.step (by rw [hsz]; exact h1) g1 h2 hw hod hle hfr) ?_
   ·simp only [List.length_append, List.length_cons] at hk ⊢; omega
   ·rw [hLS]
    refine xGz.2 ⟨xJv hn1 hA1, ?_⟩
    have e : adL (fun t => t == i' || LZ lst Z t) A1 = fun j => j == i' || adL (LZ lst Z) A1 j := by
     funext j
     rw [xDb, xDb]
     cases A1.any (fun y => j == y.1) <;> cases (j == i') <;> rfl
    rw [e]; exact g5
   ·exact xKu.2 ⟨_, xNj (fun y hy => ⟨(hcm y hy).1, (xEz (hcm y hy).2).2.1, fun _ => .inl rfl⟩) d1, d4⟩
   ·have e : adL (LZ (lst.setIfInBounds i' true) Z) (A1 ++ A2) = adL (LZ lst Z) (A1 ++ (i', o, x') :: A2) := by
     funext j
     rw [xDb, xDb, hLS]
     simp only [List.any_append, List.any_cons]
     cases A1.any (fun y => j == y.1) <;> cases A2.any (fun y => j == y.1) <;> cases (j == i') <;> rfl
    rw [e]; exact hev
  intro k
  induction k with
  | zero =>
   intro lst A Z E s a fr' ft hk hf hsz hs hA h0 hr hd hF hZ hev
   refine ⟨fun hn => fin 0 lst A Z E s a fr' ft hk hsz hA h0 hr hd hF hZ hev (hnil hsz hn), fun i hi => ?_⟩
   obtain ⟨h1, h2, h3, h4, h5, h6⟩ := xAd hsz hs hi
   by_cases hy : ∃ y ∈ A, y.1 = i
   ·exact inA 0 lst A Z E s a fr' ft hk hf hsz hs hA h0 hr hd hF hZ hev i hi hy
   ·have := cntB (ms := []) (lo := lo) (Z := []) (A := (i, ⟨none, none, .emp 0⟩, .any) :: A) (lst := lst) (by rw [hsz, hlen]) (fun y hy' => by
     cases hy' with
     | head => exact h2
     | tail _ hy' => exact aA hA hZ y hy') (by
     rw [List.map_cons, List.nodup_cons]
     refine ⟨fun hm => ?_, OkA_nd hA⟩
     obtain ⟨y, q1, q2⟩ := List.mem_map.1 hm
     exact hy ⟨y, q1, q2⟩) (fun y hy' => by
     cases hy' with
     | head => rw [hsz]; exact h1
     | tail _ hy' => have := (List.getElem?_eq_some_iff.1 (xNm hA y hy').1).1; omega)
    simp only [List.length_cons] at this
    omega
  | succ k ihk =>
   intro lst A Z E s a fr' ft hk hf hsz hs hA h0 hr hd hF hZ hev
   have hAl := aA hA hZ
   have hnz : ∀ y ∈ Z, ∀ y' ∈ A, y'.1 ≠ y.1 := fun y hy y' hy' e => by
    have := hAl y' hy'
    rw [e, (hZ.each y hy).2.1] at this; cases this
   have hadZ : ∀ y ∈ Z, adL (LZ lst Z) A y.1 = false := fun y hy => by
    rw [xDb, LZ_in hy, Bool.or_false]
    exact List.any_eq_false.2 fun y' hy' => by simpa using Ne.symm (hnz y hy y' hy')
   have hev0 := hev
   rw [cutZ] at hev
   cases hfs : fstS (masks ops.toList []) lo (adL (LZ lst Z) A) with
   | some oi =>
    obtain ⟨o, i⟩ := oi
    rw [hfs] at hev
    have hp1 := List.find?_some hfs
    have hm1 := List.mem_zipIdx_iff_getElem?.1 (List.mem_of_find?_eq_some hfs)
    simp only [Bool.and_eq_true] at hp1
    obtain ⟨hrd, hsl⟩ := hp1
    have ho : lo[i]? = some o := by simpa using hm1
    have hng := hgs o (List.mem_of_getElem? ho)
    have hev1 := hev.1
    obtain ⟨od, og, oo⟩ := o
    simp only at hng
    subst hng
    simp only [evops, gd, runK] at hev1
    obtain ⟨p, x, e1, e2, e3⟩ := xSa (xHa ho hsl).1 hev1
    unfold rdy at hrd
    simp only [Bool.and_eq_true, Bool.not_eq_true', List.all_eq_true, List.mem_range, Bool.or_eq_true] at hrd
    have hno : ∀ y ∈ Z, od ≠ some y.2.1 /\ y.2.1 ∉ uses1 oo := fun y hy => by
     refine hZ.no hy ho (fun e => ?_) ?_
     ·have := (hZ.each y hy).1
      rw [<- e] at this
      exact sil_not_lz hsl this
     ·obtain ⟨t, cs, vs, e3, _⟩ := (hZ.each y hy).2.2
      rcases hrd.2 y.1 (List.getElem?_eq_some_iff.1 e3).1 with h | h
      ·exact h
      ·rw [hadZ y hy] at h; cases h
    have e1' : evq nq fr' s.hp oo = some (p, x) := by
     rw [<- e1]
     exact xEw fun t ht => hF.2 t fun y hy e => (hno y hy).2 (e ▸ ht)
    refine ihk lst (A ++ [(i, ⟨od, none, oo⟩, x)]) Z E s a (putf fr' od x) (putf ft od x) (by simp only [List.length_append, List.length_cons, List.length_nil]; omega) hf hsz hs (xGz.2 ⟨hA, ho, hsl, hrd.1, fun j hj hb => ?_, trivial⟩) h0 hr (xKu.2 ⟨fr', hd, (show Dt s.hp [(i, ⟨od, none, oo⟩, x)] fr' (putf fr' od x) from ⟨⟨p, e1', e2⟩, rfl⟩)⟩) (hF.put od x) hZ ?_
    ·rcases hrd.2 j hj with h | h
     ·rw [hb] at h; cases h
     ·exact h
    ·rw [xNk]; exact e3
   | none =>
    rw [hfs] at hev
    refine ⟨fun hn => fin (k + 1) lst A Z E s a fr' ft hk hsz hA h0 hr hd hF hZ hev0 (hnil hsz hn), fun i hi => ?_⟩
    by_cases hy : ∃ y ∈ A, y.1 = i
    ·exact inA (k + 1) lst A Z E s a fr' ft hk hf hsz hs hA h0 hr hd hF hZ hev0 i hi hy
    obtain ⟨h1, h2, h3, h4, h5, h6⟩ := xAd hsz hs hi
    obtain ⟨o, ho, hco, hod, hog⟩ := xCw hc i ops[i] (by simp [h1])
    have hnA : ∀ y ∈ A, y.1 ≠ i := fun y hy' e => hy ⟨y, hy', e⟩
    have hng := hgs o (List.mem_of_getElem? ho)
    have hnZ : ∀ y ∈ Z, i ≠ y.1 := fun y hy' e => by rw [e, (hZ.each y hy').2.1] at h2; cases h2
    have hai : adL (LZ lst Z) A i = false := by
     rw [xDb, LZ_le h2, Bool.or_false]
     exact List.any_eq_false.2 fun y hy' => by simpa using Ne.symm (hnA y hy')
    cases hlz : isLz (masks ops.toList []) lo i with
    | true =>
     obtain ⟨d, t, z, g1, g2, g3⟩ := isLz_get hlz
     rw [ho] at g1
     cases g1
     refine step_new (by simp [h1]) hco hog rfl hr fun E' g vs hle hfr hrh hfg hgn hvs hw => ?_
     rw [<- hod]
     have hLZ : LZ (lst.setIfInBounds i true) ((i, d, g) :: Z) = LZ lst Z := by
      funext j
      unfold LZ
      rw [xKw (by rw [hsz]; exact h1)]
      by_cases hj : j = i
      ·subst hj
       rw [show LS lst j = false from h2]; simp
      ·have e1 : (j == i) = false := by simpa using hj
       have e2 : (i == j) = false := by simpa using Ne.symm hj
       simp only [List.any_cons, e1, e2, Bool.false_or]
     have hAd : ∀ y ∈ A, silK y.2.1.o = true /\ (∀ t, some d = some t -> t ∉ uses1 y.2.1.o /\ y.2.1.d ≠ some t) := fun y hy' => by
      obtain ⟨e1, e2⟩ := xNm hA y hy'
      refine ⟨(xHa e1 e2).1, fun t ht => ?_⟩
      cases ht
      have := g3 y.1 y.2.1 e1 (hnA y hy') (xKv (by rw [hlen]; exact h1) hA (LZ_le h2) hnA y hy')
      exact ⟨this.2, this.1⟩
     have hst := hZ.step (i := i) (by rw [hsz]; exact h1) ho h2 (fun y hy' => by rw [g2]; exact Nat.zero_testBit _) (dst := some d) (v := .pointer (some ⟨g, 0, none⟩)) (s' := ⟨putf s.fr (some d) .any, s.hp⟩) rfl hle hfr
     refine ih (k + 1) _ A ((i, d, g) :: Z) E' ⟨putf s.fr (some d) .any, s.hp⟩ _ (putf fr' (some d) .any) ft ?_ (by omega) (by simpa using hsz) h4 (by rw [hLZ]; exact hA) (h0.trans hle) (hr.put hle hrh (.any _) (some d)) (xNj (fun y hy' => ⟨(hAd y hy').1, (hAd y hy').2, fun _ => .inl rfl⟩) hd) ⟨by simp [xCd, hF.1], fun t' ht' => ?_⟩ ⟨fun y hy' => ?_, ?_⟩ (by rw [hLZ]; exact hev0)
     ·simp only [List.length_cons]; omega
     ·rw [xBq (by intro e; cases e; exact ht' (i, d, g) (List.mem_cons_self ..) rfl)]
      exact hF.2 t' fun y hy' => ht' y (List.mem_cons_of_mem _ hy')
     ·cases hy' with
      | head =>
       refine ⟨hlz, ?_, t, z, vs, ho, hfg, hvs, hw, fun v' hv' => put_new hv'⟩
       rw [xKw (by rw [hsz]; exact h1)]; simp
      | tail _ hy' => exact hst.each y hy'
     ·rw [List.pairwise_cons]
      refine ⟨fun y hy' => ⟨hnZ y hy', ?_⟩, hZ.nd⟩
      obtain ⟨t1, cs1, vs1, e3, e4, _⟩ := (hZ.each y hy').2.2
      exact Ne.symm (hgn _ e4)
    | false =>
     have hrd : rdz (masks ops.toList []) lo (adL (LZ lst Z) A) i = true := by
      unfold rdz
      rw [hai, Bool.not_false, Bool.true_and, List.all_eq_true]
      intro j _
      cases hb : ((masks ops.toList []).getD i 0).testBit j
      ·rfl
      ·rcases LZ_out (Z := Z) (h3 j hb) with h | ⟨y, q1, q2⟩
       ·rw [xDb, h]; simp
       ·rw [<- q2, (hZ.each y q1).1]; simp
     cases hpl : pull (masks ops.toList []) lo (adL (LZ lst Z) A) i with
     | some oc =>
      obtain ⟨o', c⟩ := oc
      have hopt : optZ (masks ops.toList []) lo (adL (LZ lst Z) A) (o, i) = some (o', c) := by
       unfold optZ; simp only [hlz, hrd, hpl]
      have hst := ordZ_get hopt (List.mem_zipIdx_iff_getElem?.2 (by simpa using ho)) hev
      have hp1 := List.find?_some hpl
      have hm1 := List.mem_zipIdx_iff_getElem?.1 (List.mem_of_find?_eq_some hpl)
      simp only [Bool.and_eq_true, Bool.not_eq_true'] at hp1
      have ho' : lo[c]? = some o' := by simpa using hm1
      rcases LZ_out (Z := Z) (h3 c hp1.1) with h | ⟨z, q1, q2⟩
      ·have := hp1.2; rw [xDb, h] at this; simp at this
      ·subst q2
       obtain ⟨Z1, Z2, rfl⟩ := List.append_of_mem q1
       obtain ⟨E', s', fr1, ft1, e1, e2, e3, e4, e5, e6, e7, e8, e9⟩ := pull_step hZ hr hA hd hF (fun y hy' => hnz z q1 y hy') ho' hst
       have e : adL (LZ lst (Z1 ++ Z2)) A = fun j => j == z.1 || adL (LZ lst (Z1 ++ z :: Z2)) A j := by
        funext j
        rw [xDb, xDb, e5]
        show (A.any (fun y => j == y.1) || (j == z.1 || LZ lst (Z1 ++ z :: Z2) j)) = (j == z.1 || (A.any (fun y => j == y.1) || LZ lst (Z1 ++ z :: Z2) j))
        cases A.any (fun y => j == y.1) <;> cases (j == z.1) <;> rfl
       have := (ihk lst A (Z1 ++ Z2) E' s' a fr1 ft1 (by simp only [List.length_append, List.length_cons] at hk ⊢; omega) hf hsz hs e4 (h0.trans e2) e3 e6 e8 e7 (by rw [e]; exact e9)).2 i hi
       rw [e1] at this
       exact this
     | none =>
      have hopt : optZ (masks ops.toList []) lo (adL (LZ lst Z) A) (o, i) = some (o, i) := by
       unfold optZ; simp only [hlz, hrd, hpl]
      have hst := ordZ_get hopt (List.mem_zipIdx_iff_getElem?.2 (by simpa using ho)) hev
      have hw : ∀ y ∈ Z, ((masks ops.toList []).getD i 0).testBit y.1 = false := fun y hy' => by
       obtain ⟨t, cs, vs, e3, _⟩ := (hZ.each y hy').2.2
       have := List.find?_eq_none.1 hpl (⟨some y.2.1, none, .new t cs⟩, y.1) (List.mem_zipIdx_iff_getElem?.2 (by simpa using e3))
       simpa [hadZ y hy'] using this
      have hcm : ∀ y ∈ A, silK y.2.1.o = true /\ cmt y.2.1 o = true := fun y hy' => by
       obtain ⟨e1, e2⟩ := xNm hA y hy'
       obtain ⟨e3, e4⟩ := xHa e1 e2
       refine ⟨e3, e4 i o ho (hnA y hy') (xKv (by rw [hlen]; exact h1) hA (LZ_le h2) hnA y hy') ?_⟩
       cases hb : ((masks ops.toList []).getD i 0).testBit y.1 with
       | false => rfl
       | true => have := h3 _ hb; rw [hAl y hy'] at this; cases this
      have hst2 : evh Γ ⟨ft, s.hp⟩ (fun x hp' => exT Γ k0 (cutZ (masks ops.toList []) lo k fun j => j == i || adL (LZ lst Z) A j) ⟨putf ft o.d x, hp'⟩) o.o := by
       obtain ⟨od, og, oo⟩ := o
       simp only at hng
       subst hng
       simp only [evops, gd, runK] at hst
       exact hst
      rw [xNn (fr' := s.fr) (fun t ht => (hF.2 t fun y hy' e => (hZ.no hy' ho (hnZ y hy') (hw y hy')).2 (e ▸ ht)).symm.trans (xRz (fun y hy' e => ((xEz (hcm y hy').2).1 t e).2 ht) hd))] at hst2
      have hLS := LZ_set hZ (i := i) (by rw [hsz]; exact h1) h2
      have fin2 : ∀ E' x hp' v, E.Le E' -> (∀ g, Fre E s.hp g -> Fre E' hp' g /\ E'.w.heap[g]? = E.w.heap[g]?) -> Rep E' ⟨putf s.fr o.d x, hp'⟩ (a.put ops[i].dst v) -> exT Γ k0 (cutZ (masks ops.toList []) lo k fun j => j == i || adL (LZ lst Z) A j) ⟨putf ft o.d x, hp'⟩ ->
        ((∃ y ∈ A, rdK y.2.1.o = true) -> hp' = s.hp \/ ∃ b, hp' = pb s.hp b) -> wpAnyIn (fen ro) n P .any ops Q fuel (lst.setIfInBounds i true) (a.put ops[i].dst v) E'.w := by
       intro E' x hp' v hle hfr hr' hk' hmh
       refine ih k _ A Z E' _ _ (putf fr' o.d x) (putf ft o.d x) (by omega) (by omega) (by simpa using hsz) h4 (by rw [hLS]; exact xJv hnA hA) (h0.trans hle) hr' ?_ (hF.put o.d x) (hZ.step (by rw [hsz]; exact h1) ho h2 hw hod hle hfr) ?_
       ·exact xNj (fun y hy' => ⟨(hcm y hy').1, (xEz (hcm y hy').2).2.1, fun hr => hmh ⟨y, hy', hr⟩⟩) hd
       ·have e : adL (LZ (lst.setIfInBounds i true) Z) A = fun j => j == i || adL (LZ lst Z) A j := by
         funext j
         rw [xDb, xDb, hLS]
         show (A.any (fun y => j == y.1) || (j == i || LZ lst Z j)) = (j == i || (A.any (fun y => j == y.1) || LZ lst Z j))
         cases A.any (fun y => j == y.1) <;> cases (j == i) <;> rfl
        rw [e]; exact hk'
      by_cases hrdA : ∃ y ∈ A, rdK y.2.1.o = true
      ·obtain ⟨y, hy', hry⟩ := hrdA
       refine step_oneF hΓ hG (by simp [h1]) hco hod hog hng hr (xPr ((xEz (hcm y hy').2).2.2 hry) hst2) fun E' x hp' v hle hfr hr' hk' => fin2 E' x hp' v hle hfr hr' hk'.1 fun _ => hk'.2
      ·exact step_oneF hΓ hG (by simp [h1]) hco hod hog hng hr hst2 fun E' x hp' v hle hfr hr' hk' => fin2 E' x hp' v hle hfr hr' hk' fun h => absurd h hrdA
end
def ctrz (P : Program) (c : Code) : Option DT :=
 match c with
 | .region _ ops true => match cops P ops ops.toList with
  | none => none
  | some lo => if P.follows .mixedOrders && edgesOk ops.toList && lo.all (fun o => o.g.isNone) then
    some (cutZ (masks ops.toList []) lo lo.length fun _ => false)
   else none
 | _ => none
theorem sem_cutz {P : Program} {T : List (Nat × Sg)} (hT : TabOk P T) {N : Nat} {c : Code} {t : DT} (hc : ctrz P c = some t) {K : Exit -> St -> Prop} {fr : List SV} {hp : List Blk} (hev : exT (gam P T) (K .normal) t ⟨fr, hp⟩) : SemOk P N c K ⟨fr, hp⟩ := by
  intro n E a Q hN hn hr hq
  unfold ctrz at hc
  split at hc
  rotate_left
  . cases hc
  rename_i id ops
  split at hc
  . cases hc
  rename_i lo hco
  split at hc
  . rename_i hok
    simp only [Bool.and_eq_true, List.all_eq_true] at hok
    obtain ⟨⟨hm, he⟩, hgs⟩ := hok
    cases hc
    refine wpIn_region_any hm ?_
    have hE1 : E.Le (E.to { E.w with drawn := E.w.drawn + 1 }) := Env.to_le fun b hb => rfl
    have hr1 : RHp (E.to { E.w with drawn := E.w.drawn + 1 }) hp :=
      ⟨⟨hr.hp.g.fr, hr.hp.g.fz, hr.hp.g.sz, hr.hp.g.os, hr.hp.g.tape, hr.hp.g.output, hr.hp.g.imb, hr.hp.g.im0⟩,
       ⟨hr.hp.b.n, hr.hp.b.rs, fun l b hb => (hr.hp.b.blk l b hb).keep hE1 (hr.hp.has hb) (fun g _ => rfl), hr.hp.b.live, hr.hp.b.imx, hr.hp.b.base, hr.hp.b.dj⟩⟩
    have h0 : left (Array.replicate ops.size false) = ops.size := by
      unfold left; rw [Array.toList_replicate]; simp
    have hLf : LS (Array.replicate ops.size false) = fun _ => false := by
      funext j
      simp only [LS, Array.getD_eq_getD_getElem?, Array.getElem?_replicate]
      split <;> rfl
    have hlen : lo.length = ops.size := by rw [xAw hco]; simp
    refine cutz_any (gam_ok hT) (xNw hT) hco he (fun o ho => by simpa using hgs o ho) (k0 := K .normal) E (fun E' s' a' hle hr' hk => hq _ E' s' a' (hle.xt hn).g hr' hk) ops.size ops.size (Array.replicate ops.size false) [] [] (E.to _) ⟨fr, hp⟩ a fr fr (by rw [h0]; rfl) (by omega) (by simp) ?_ trivial hE1 ⟨hr.fr.mono hE1, hr1, by rw [hr.df]; rfl⟩ rfl ⟨rfl, fun _ _ => rfl⟩ ⟨fun y hy => (by cases hy), List.Pairwise.nil⟩ (by rw [LZ_nil, adL, hLf, <- hlen]; exact hev)
    intro k o _ hk; rw [hLf] at hk; cases hk
  . cases hc
end Go.Vg
end
