/- LevelNarrower: with one reading more the tilt is not less narrow: the law returns true, and of what was there nothing turns. No conditions. -/
import Derived.Test.YtgdihdiadlmjiaaRows
import Derived.Test.YtgdihdiadlmjiaaVgM33
import Derived.Test.YtgdihdiadlmjiaaVgLN
import Derived.Test.YtgdihdiadlmjiaaVgCR
import Derived.WalkKit
import Derived.ProofKit
import Derived.OpenShut
import Derived.Carry
import Derived.SizedLaws
set_option linter.all false
namespace Go.Proofs.Ytgdihdiadlmjiaa.levelNarrower
open Go Go.Vg Go.ChangeShapes Go.WideShapes Go.ChangeAt Go.RowKit
theorem own : ownKnob Try.prog.godebug = none := by kernel_rfl
theorem cells3 : Try.prog.cellsOf 3 = 1 := by kernel_rfl
theorem cells4 : Try.prog.cellsOf 4 = 1 := by kernel_rfl
theorem cells25 : Try.prog.cellsOf 25 = 8 := by kernel_rfl
theorem cells57 : Try.prog.cellsOf 57 = 3 := by kernel_rfl
theorem laidOut : laidOutB Try.prog = true := by kernel_rfl
theorem bytes57 : Try.prog.bytesOf 57 = 24 := by kernel_rfl
theorem row_sized {H : Type} {enc : TypeId × Value -> H} {P : Program} {w : World} {t e : TypeId} (ht : P.underlying t = some (.slice e)) {v : Value} {d : DataW H} {ps : List MemPlace} (h : DataW.Trod enc P w 0 (fun _ => true) true t v d ps)
  {ts : List TypeId} {ds : List (DataW H)} {j : Nat} (hts : ts[j]? = some t) (hds : ds[j]? = some d) (hs : (DataW.weightsEach P ts ds).all (· <= reachBytes) = true) {im : Nat -> Prop} {sz n : Nat} {f : Nat -> List SV} (hv : Cv w im (.rd sz n f) v) : n * P.bytesOf e <= reachBytes := by
 obtain ⟨fuel, hf⟩ := h
 cases hv with
 | rdNil => simp
 | rdE => simp
 | rd _ _ _ b off cap vs =>
  rcases Deep.open_slice (cs := [.slice (some ⟨b, off, none⟩) n cap]) ht hf with ⟨h0, _⟩ | ⟨a', len', cap', m, n', D, Pl, h0, _, hl, _, hmm, hx, hel⟩
  ·cases h0
  ·cases h0
   cases hx
   have := sized_slice hs hts hds ht
   simp only [List.length_map, List.length_range] at this
   exact Nat.le_trans (Nat.mul_le_mul_right _ (by omega)) this
theorem rih {H : Type} {enc : TypeId × Value -> H} {a : Assume} {C : Checked} {os : Os} {f : FuncId} {fn : Func} {s : ChangeSpec} {conds : List PathCond} {apart fresh handsOn again : Bool}
  (own : ownKnob C.prog.godebug = none) (started : os.Started) (noInit : C.prog.inits.idxOf? f = none) (hfn : C.prog.funcs[f]? = some fn)
  (witness : ∃ (w : World) (tape : Tape) (i : Input), w.os = os /\ (w.forCall tape i).Shaped C.prog /\ i.vars = [] /\ Input.okWide C.prog (w.forCall tape i) .any w.heap.size f i /\
   s.pre6 enc C.prog fn conds apart (w.forCall tape i).memory i.args /\ a.holds C.prog (lone (Frame.enter C.prog f i.args .normal) [] (w.forCall tape i)))
  (contract : ∀ (W : World) (base : Nat) (args : Array Value) (ds gs : List (DataW H)) (before : List MemPlace),
   (∀ (j : Nat) t v, fn.params[j]? = some t -> args[j]? = some v -> Value.okWide C.prog W .any base t v) -> DataW.Whole enc C.prog fn.params.toList s.vars apart W args.toList ds gs before ->
   conds.all (PathCond.test C.prog ⟨fn.params.toList, ds, s.plain.varTypes C.prog, gs⟩) = true -> (DataW.weightsEach C.prog (fn.params.toList ++ s.plain.varTypes C.prog) (ds ++ gs)).all (· <= reachBytes) = true ->
   a.holds C.prog (lone (Frame.enter C.prog f args .normal) [] W) -> Calls C.prog f args W fun e W' => ∃ v, e = .returned v /\ s.post enc C.prog fn apart fresh handsOn again W args v W') :
  ReturnsInHanded a C os f .any (s.pre6 enc C.prog fn conds apart) (s.post enc C.prog fn apart fresh handsOn again) := by
 have key := returnsInHanded_of_change_and (enc := enc) (a := a) (C := C) (os := os) (f := f) (fn := fn) (s := s) (conds := conds) (apart := apart) (fresh := fresh) (handsOn := handsOn) (again := again) (X := fun _ _ => True) (fun _ _ _ _ _ => trivial) own started noInit hfn
  (by obtain ⟨w, tape, i, h1, h2, h3, h4, h5, h6⟩ := witness; exact ⟨w, tape, i, h1, h2, h3, h4, ⟨⟨h5.1, trivial⟩, h5.2⟩, h6⟩) (fun W base args ds gs before hv hw hc hs _ hh => contract W base args ds gs before hv hw hc hs hh)
 simp only [and_true] at key
 exact key
theorem p22 : PureOk Try.prog 22 (fcC F22) := by
 intro w im args vs K him ha hC
 unfold fcC F22 at hC
 split at hC <;> first | (exact hC.elim) | skip
 rename_i h
 split at h <;> first | (cases h; done) | skip
 cases h
 exact pp216 w im _ vs K him ha ⟨rfl, hC.2⟩
theorem q22 : Known Try.prog 22 := ⟨_, Try.func22, by simp [Try.f22], by simp [Try.f22]⟩
def rws (m : Nat) (F : Nat -> Rg) : List Rg := (List.range m).map F
theorem rws_len {m : Nat} {F : Nat -> Rg} : (rws m F).length = m := by simp [rws]
theorem rws_get {m : Nat} {F : Nat -> Rg} {i : Nat} (h : i < m) : rowR (rws m F) i = [.int .i64 (F i).1, .int .i64 (F i).2.1, .bool (F i).2.2] := by simp [rowR, rws, List.getD, h]
theorem walk (W : World) (v0 v1 v2 : Value) (v : Vl) (R : List Rg) (x : Rg) (h0 : Cv W (fun b => b < W.heap.size) (v.sv) v0) (h1 : Cv W (fun b => b < W.heap.size) (.rd 3 R.length (rowR R)) v1) (h2 : Cv W (fun b => b < W.heap.size) (.agg [.int .i64 x.1, .int .i64 x.2.1, .bool x.2.2]) v2) (hn : (R.length + 1) * 24 <= 140737488355328) :
  Calls Try.prog 12 #[v0, v1, v2] W fun e W' => e = .returned (.bool true) /\ Later W W' := by
 refine (p12 p22 q22 W (fun b => b < W.heap.size) [v.sv, .rd 3 R.length (rowR R), .agg [.int .i64 x.1, .int .i64 x.2.1, .bool x.2.2]] [v0, v1, v2] (fun x => x = .bool true) (fun _ h => h) (.cons _ _ _ _ h0 (.cons _ _ _ _ h1 (.cons _ _ _ _ h2 .nil))) ⟨v, R, x, rfl, hn, rfl⟩).mono ?_
 rintro e W' ⟨r, v, im', rfl, rfl, hv, _, _, _, hl⟩
 cases hv
 exact ⟨rfl, hl⟩
set_option maxRecDepth 100000 in
theorem lifted (os : Os) (started : os.Started) (H : Type) (enc : TypeId × Value -> H) :
  ReturnsInHanded {} Try.checked os 12 .any (Rows.levelNarrowerSpec.pre6 enc Try.prog Try.f12 Rows.levelNarrowerRow.domain false) (Rows.levelNarrowerSpec.post enc Try.prog Try.f12 false true false false) := by
 refine rih (C := Try.checked) own started (by kernel_rfl) Try.func12
  (ChangeSpec.witness6 (enc := enc) (C := Try.checked) false ⟨#[], #[.agg #[.int .i64 0, .int .i64 0, .int .i64 0, .int .i64 0, .int .i64 0, .int .i64 0, .int .i64 0, .int .i64 0], .slice none 0 0, .agg #[.int .i64 0, .int .i64 0, .bool false]], []⟩ 8 (by kernel_rfl) (by kernel_rfl) (by kernel_rfl) (by kernel_rfl) (by kernel_rfl)) ?_
 intro W base args ds gs before hval0 hW hcnd hsz _
 have hval : ∀ (j : Nat) t v, Try.f12.params[j]? = some t -> args[j]? = some v -> Value.okWide Try.prog W .any base t v := hval0
 have hW' := hW
 obtain ⟨p, q, hA0, hV, rfl, hfz, hnd⟩ := hW
 have hA : DataW.TrodAll enc Try.prog W 0 (fun _ => true) true Try.f12.params.toList args.toList ds p := hA0
 rw [Try.params12] at hA hval
 obtain ⟨v0, vs0, d0, ds0, p0, q0, hargs, rfl, rfl, h0, r0⟩ := trodAll_cons hA
 obtain ⟨v1, vs1, d1, ds1, p1, q1, rfl, rfl, rfl, h1, r1⟩ := trodAll_cons r0
 obtain ⟨v2, vs2, d2, ds2, p2, q2, rfl, rfl, rfl, h2, r2⟩ := trodAll_cons r1
 obtain ⟨rfl, rfl, rfl⟩ := trodAll_nil r2
 obtain rfl : args = #[v0, v1, v2] := by cases args; simp_all
 obtain ⟨rfl, rfl⟩ := trodVars_none hV
 have hlt : ∀ x ∈ p0 ++ (p1 ++ (p2 ++ ([]))), x.block < W.heap.size := fun x hx => by simpa using hW'.lt x (by simpa using hx)
 have hlt0 : ∀ x ∈ p0, x.block < W.heap.size := fun x hx => hlt x (by simp [hx])
 have hlt1 : ∀ x ∈ p1, x.block < W.heap.size := fun x hx => hlt x (by simp [hx])
 have hlt2 : ∀ x ∈ p2, x.block < W.heap.size := fun x hx => hlt x (by simp [hx])
 obtain ⟨l0, hl0, hcv0⟩ := xIe (n := 8) (.inl ⟨_, Try.underlying25⟩) (hval 0 25 v0 rfl rfl) (ts := [3, 3, 3, 3, 3, 3, 3, 3]) (by kernel_rfl) (u := 3) (by decide) Try.underlying3 cells25
 obtain ⟨v, hv⟩ : ∃ v : Vl, l0.map (SV.int .i64) = v.cells := by
  match l0, hl0 with
  | [m, l1, l2, v1, v2, z1, z2, w], _ => exact ⟨⟨m, l1, l2, v1, v2, z1, z2, w⟩, rfl⟩
 rw [hv] at hcv0
 obtain ⟨n, F, hn, hcv1⟩ := xMa Try.underlying26 Try.underlying57 cells57 Try.underlying3 cells3 rfl Try.underlying3 cells3 rfl Try.underlying4 cells4 rfl (hval 1 26 v1 rfl rfl) h1
 have hcv1' := hcv1 (rowR (rws n F)) fun i hi => rws_get hi
 have hcv1'' : Cv W (fun b => b < W.heap.size) (.rd 3 (rws n F).length (rowR (rws n F))) v1 := by rw [rws_len]; exact hcv1'
 obtain ⟨x, hcv2⟩ := rdg_cv Try.underlying57 (by kernel_rfl) Try.underlying3 Try.underlying4 cells57 (hval 2 57 v2 rfl rfl)
 have hlen := row_sized Try.underlying26 h1 (ts := Try.f12.params.toList ++ Rows.levelNarrowerSpec.plain.varTypes Try.prog) (j := 1) (by rw [Try.params12]; rfl) (by rfl) hsz hcv1''
 rw [bytes57] at hlen
 have hlen2 : ((rws n F).length + 1) * 24 <= 140737488355328 := by unfold reachBytes at hlen; omega
 clear hA0 hval0
 simp only [List.append_nil] at hW'
 refine (walk W v0 v1 v2 v (rws n F) x hcv0 hcv1'' hcv2 hlen2).mono fun e W' ⟨he, hl⟩ => ?_
 subst he
 have hb := xBz hl
 refine ⟨_, rfl, _, _, _, [], p0 ++ (p1 ++ (p2 ++ ([]))), [], by simpa using hW', ?_, ?_, ?_, ?_, fun h => by cases h⟩
 ·exact trodAll_cons_mk (shut_bool Try.underlying4 _) trodAll_mk0
 ·exact trodAll_cons_mk (Below.trod laidOut (by kernel_rfl) (of_decide_eq_true (by kernel_rfl)) h0 hb hlt0) (trodAll_cons_mk (Below.trod laidOut (by kernel_rfl) (of_decide_eq_true (by kernel_rfl)) h1 hb hlt1) (trodAll_cons_mk (Below.trod laidOut (by kernel_rfl) (of_decide_eq_true (by kernel_rfl)) h2 hb hlt2) trodAll_mk0))
 ·rfl
 ·exact hb.frame _
theorem over : Rows.levelNarrowerRow.holds Try.pinned (OpenSpec.ofChange Rows.levelNarrowerSpec) :=
 OpenClaim.holds_of_wide 12 Try.f12 rfl rfl rfl rfl rfl rfl rfl ⟨rfl, rfl, rfl, rfl, rfl⟩ rfl rfl rfl rfl rfl (by kernel_rfl) Try.func12 (by kernel_rfl)
  (of_decide_eq_true (by kernel_rfl)) (by unfold Func.isWrapper; first | (rw [if_pos (by decide +kernel)]; kernel_rfl) | (rw [if_neg (by decide +kernel)]; exact ⟨rfl, rfl⟩))
  (fun os started H enc _ => lifted os started H enc)
theorem proved : Rows.LevelNarrowerSaid :=
 over
end Go.Proofs.Ytgdihdiadlmjiaa.levelNarrower
