import Derived.Test.YtjagiieconpgbaaVgV13
namespace Go.Vg
open Go
set_option linter.unusedVariables false
set_option linter.unusedSimpArgs false
theorem drwA_get' {cl : Cl} {cq : Cq} {fr : List SV} {ds : List Nat} {h : HT} {r : Rs} : ∀ {ps : List Drp}, drwA cl cq fr ds h ps = some r →
  ∃ p, p ∈ ps ∧ (drwR cl cq p fr ds h = some r ∨ shD (lbs h.get fr (p.hs.flatMap fun o => usesQ o.1) ++ slaL fr (p.hs.map (·.1))) h (fun h => drwR cl cq p fr ds h) = some r)
 | [], e => by cases e
 | p :: t, e => by
  simp only [drwA] at e
  split at e
  ·rename_i r1 h1; cases e; exact ⟨p, List.mem_cons_self .., .inl h1⟩
  ·split at e
   ·rename_i r1 h1; cases e; exact ⟨p, List.mem_cons_self .., .inr h1⟩
   ·obtain ⟨q, h1, h2⟩ := drwA_get' e
    exact ⟨q, List.mem_cons_of_mem _ h1, h2⟩
def drwW (fr : List SV) (h : HT) (ps : List Drp) : Option (List SV × HT) :=
 match drwA noCl noCq fr [] h ps with
 | some ⟨.nm, fr', _, h'⟩ => some (fr', h')
 | _ => none
def rgnW (P : Program) (c : Code) (fr : List SV) (hp : List Blk) : Option (List SV × List Blk) :=
 match c with
 | .region _ ops true => match cdraw2 P ops with
  | some (.drw ps) => match drwW fr (HT.of hp .nil) ps with
   | some (fr', h') => some (fr', h'.toL h'.n)
   | none => none
  | _ => none
 | _ => none
theorem sem_rgnW {P : Program} {N : Nat} {c : Code} {K : Exit → St → Prop} {fr fr' : List SV} {hp hp' : List Blk} (hn : nlp hp = true) (hn' : nlp hp' = true) (e : rgnW P c fr hp = some (fr', hp')) (k : K .normal ⟨fr', hp'⟩) : SemOk P N c K ⟨fr, hp⟩ := by
 intro n E a Q hN h0 hr hq
 have rel : HRel (HT.of hp .nil) hp := by have := HRel.of hp (HRel.nil 0); rw [List.nil_append] at this; exact this
 have hcl : ClOk P noCl := fun _ _ _ _ _ h => by cases h
 have hcq : CqOk P noCq := fun _ _ _ h => by cases h
 have hr1 : RHp (E.sok fun c r => cK P c = some r) hp := hr.hp.sok hn
 have hf1 : Rvs (E.sok fun c r => cK P c = some r) fr a.tmps.toList := hr.fr.sok
 have fin : ∀ (E' : Env) (a' : Act) (h' : HT), HRel h' hp' → (E.sok fun c r => cK P c = some r).Le E' → RHp E' hp' → Rvs E' fr' a'.tmps.toList → a'.defers = a.defers → Q .normal a' E'.w := by
  intro E' a' h' r' hle hr' hf' hd
  exact hq .normal (E'.sok E.ok) ⟨fr', hp'⟩ a' (hle.back.xt h0).g ⟨hf'.sok, hr'.sok hn', by rw [hd, hr.df]; exact hle.df.symm⟩ k
 unfold rgnW at e
 split at e
 ·rename_i id ops
  split at e <;> first | (cases e; done) | skip
  rename_i ps hps
  split at e <;> first | (cases e; done) | skip
  rename_i fr1 h1 hz
  cases e
  unfold drwW at hz
  split at hz <;> first | (cases hz; done) | skip
  rename_i fr2 ds h2 hA
  cases hz
  obtain ⟨p, hm, hd | hd⟩ := drwA_get' hA
  ·obtain ⟨sh, m, ne, hs, cs0, tl, fl⟩ := p
   unfold drwR at hd
   obtain ⟨hp1, r1, _, h2⟩ := drwB_ok (P := P) hcl hcq hps hm rel (kk := fun fr h => some (⟨.nm, fr, [], h⟩ : Rs)) (res := (⟨.nm, fr', ds, h1⟩ : Rs)) (frF := fr') (hF := h1) (fun fr h e => by cases e; exact ⟨rfl, rfl⟩) hd
   rw [r1.toL] at fin hn'
   exact h2 (E.sok fun c r => cK P c = some r) a none n Q id (show OkE P (E.sok fun c r => cK P c = some r) from rfl) hr1 hf1 fun E' a' hle hr' hf' hd' => fin E' a' h1 r1 hle hr' hf' hd'
  ·obtain ⟨sh, m, ne, hs, cs0, tl, fl⟩ := p
   obtain ⟨h3, hp3, r3, f3, e3, hcl0⟩ := shD_ok rel hd
   unfold drwR at e3
   obtain ⟨hp1, r1, _, h2⟩ := drwB_ok (P := P) hcl hcq hps hm r3 (kk := fun fr h => some (⟨.nm, fr, [], h⟩ : Rs)) (res := (⟨.nm, fr', ds, h1⟩ : Rs)) (frF := fr') (hF := h1) (fun fr h e => by cases e; exact ⟨rfl, rfl⟩) e3
   obtain ⟨E1, c1, hr3⟩ := hcl0 _ hr1
   rw [r1.toL] at fin hn'
   have := h2 E1 a none n Q id (OkE.le (show OkE P (E.sok fun c r => cK P c = some r) from rfl) c1.le) hr3 (hf1.mono c1.le) fun E' a' hle hr' hf' hd' => fin E' a' h1 r1 (c1.le.trans hle) hr' hf' hd'
   rw [c1.w] at this
   exact this
 ·cases e
def rgnD (P : Program) (c : Code) : Option (List Drp) :=
 match c with
 | .region _ ops true => match cdraw2 P ops with
  | some (.drw ps) => some ps
  | _ => none
 | _ => none
theorem rgnW_of {P : Program} {c : Code} {fr fr' : List SV} {hp hp' : List Blk} {ps : List Drp} (e1 : rgnD P c = some ps) (e2 : (drwW fr (HT.of hp .nil) ps).map (fun r => (r.1, r.2.toL r.2.n)) = some (fr', hp')) : rgnW P c fr hp = some (fr', hp') := by
 unfold rgnD at e1
 split at e1 <;> first | (cases e1; done) | skip
 split at e1 <;> first | (cases e1; done) | skip
 rename_i h
 cases e1
 simp only [rgnW, h]
 cases hz : drwW fr (HT.of hp .nil) ps with
 | none => rw [hz] at e2; cases e2
 | some r => rw [hz] at e2; exact e2
theorem sem_rgnP {P : Program} {N : Nat} {c : Code} {K : Exit → St → Prop} {fr : List SV} {hp : List Blk} (ps : List (Nat × SV)) (hp' : List Blk) (hn : nlp hp = true) (hn' : nlp hp' = true) (e : rgnW P c fr hp = some (puts fr ps, hp')) (k : K .normal ⟨puts fr ps, hp'⟩) : SemOk P N c K ⟨fr, hp⟩ := sem_rgnW hn hn' e k
end Go.Vg
