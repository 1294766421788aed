/- Sextants: what the program reads, the class, and SextantReads given works(). -/
import Derived.Test.YtjagiieconpgbaaVgEA
namespace Go.Proofs.Ytjagiieconpgbaa
open Go Go.Vg
set_option linter.unusedSimpArgs false
set_option linter.unusedVariables false
set_option maxRecDepth 10000
section
/- 92: (octant/sextant.sextant).lasting -/
def s92 : SC :=
  (.seq (.reg [⟨(some 1), none, .box 89 (.t 0)⟩,
    ⟨(some 2), none, .v (.mov (.c (.lit (.slice none 0 0))))⟩])
  (.seq (.reg [⟨(some 4), none, .v (.off (.t 1) 0)⟩,
    ⟨(some 5), none, .v (.off (.t 4) 1)⟩,
    ⟨(some 6), none, .v (.load (.t 5) none)⟩,
    ⟨(some 7), none, .v (.len (.t 6))⟩,
    ⟨(some 3), none, .v (.mov (.t 7))⟩])
  (.seq (.shut [1, 8, 9, 10, 12, 13, 15, 16, 3, 17, 18, 19, 14, 20, 21, 11, 22, 23]
    (.drw [(0, ⟨(some 8), none, .v (.off (.t 1) 0)⟩, false),
      (1, ⟨(some 9), none, .v (.off (.t 8) 2)⟩, false),
      (2, ⟨(some 10), none, .v (.load (.t 9) (some 2))⟩, false),
      (3, ⟨(some 11), none, .v (.ifc 157 (.t 10))⟩, false),
      (4, ⟨(some 12), none, .v (.off (.t 1) 0)⟩, false),
      (5, ⟨(some 13), none, .v (.off (.t 12) 0)⟩, false),
      (6, ⟨(some 14), none, .v (.load (.t 13) none)⟩, false),
      (7, ⟨(some 15), none, .v (.off (.t 1) 0)⟩, false),
      (8, ⟨(some 16), none, .v (.off (.t 15) 1)⟩, false),
      (9, ⟨(some 17), none, .v (.load (.t 16) none)⟩, false),
      (10, ⟨(some 18), none, .v (.mov (.t 3))⟩, false),
      (11, ⟨(some 19), none, .v (.mov (.t 3))⟩, false),
      (12, ⟨(some 20), none, .slc (.t 17) none (some (.t 18)) (some (.t 19)) 2⟩, false),
      (13, ⟨(some 21), none, .bld [(.int .i64 (0)), (.lit (.slice none 0 0))] [(0, 1, (.t 14)), (1, 1, (.t 20))]⟩, false),
      (14, ⟨(some 22), none, .v (.ifc 159 (.t 21))⟩, false)]
      none
      [⟨(some 23), none, .bsl 156 2 [(.lit .nilIface), (.lit .nilIface)] [(0, 1, (.t 11)), (1, 1, (.t 22))]⟩,
      ⟨(some 2), none, .v (.mov (.t 23))⟩]))
  .ret)))
def r92 : List RV := [.t 2]
def n92 : Nat := 24
theorem k92 : (Try.f92.body.bind (cC Try.prog), cR Try.prog Try.f92.results.toList, Try.f92.ntmps) = (some s92, some r92, 24) := by kernel_rfl
theorem q92 : Known Try.prog 92 := ⟨_, Try.func92, by decide, by simp [Try.f92]⟩

/- 93: (octant/sextant.sextant).passing -/
def s93 : SC :=
  (.seq (.reg [⟨(some 1), none, .box 89 (.t 0)⟩,
    ⟨(some 2), none, .v (.mov (.c (.lit (.slice none 0 0))))⟩])
  (.seq (.reg [⟨(some 6), none, .v (.off (.t 1) 0)⟩,
    ⟨(some 7), none, .v (.off (.t 6) 4)⟩,
    ⟨(some 8), none, .v (.load (.t 7) none)⟩,
    ⟨(some 9), none, .call (.c (.fn 102 [])) [(.t 8)]⟩,
    ⟨(some 10), none, .v (.ifc 157 (.t 9))⟩,
    ⟨(some 11), none, .bsl 156 1 [(.lit .nilIface)] [(0, 1, (.t 10))]⟩,
    ⟨(some 3), none, .v (.mov (.t 11))⟩])
  (.seq (.seq (.reg [⟨(some 12), none, .v (.off (.t 1) 0)⟩,
    ⟨(some 13), none, .v (.off (.t 12) 5)⟩,
    ⟨(some 14), none, .v (.load (.t 13) none)⟩,
    ⟨(some 15), none, .v (.len (.t 14))⟩,
    ⟨(some 16), none, .v (.mov (.c (.int .i64 (0))))⟩])
  (.block 0 (.loop
    (.seq (.reg [⟨(some 17), none, .v (.bin .lss (.t 16) (.t 15))⟩])
    (.seq (.cond (.t 17)
      .skip
      (.exit 0))
    (.seq (.block 1 (.seq (.reg [⟨(some 18), none, .v (.mov (.t 16))⟩,
      ⟨(some 19), none, .v (.ixa (.t 14) (.t 16) 2)⟩,
      ⟨(some 20), none, .v (.load (.t 19) (some 2))⟩,
      ⟨(some 5), none, .new 24 [(.int .i64 (0)), (.int .i64 (0))]⟩,
      ⟨(some 4), none, .v (.mov (.t 18))⟩,
      ⟨none, none, .store 2 (.t 5) (.t 20)⟩])
    (.reg [⟨(some 21), none, .v (.mov (.t 3))⟩,
      ⟨(some 22), none, .v (.mov (.t 4))⟩,
      ⟨(some 23), none, .v (.load (.t 5) (some 2))⟩,
      ⟨(some 24), none, .bld [(.int .i64 (0)), (.int .i64 (0)), (.int .i64 (0))] [(0, 1, (.t 22)), (1, 2, (.t 23))]⟩,
      ⟨(some 25), none, .v (.ifc 161 (.t 24))⟩,
      ⟨(some 26), none, .bsl 156 1 [(.lit .nilIface)] [(0, 1, (.t 25))]⟩,
      ⟨(some 27), none, .app 156 1 16 (.t 21) (.t 26)⟩,
      ⟨(some 3), none, .v (.mov (.t 27))⟩])))
    (.reg [⟨(some 28), none, .v (.bin .add (.t 16) (.c (.int .i64 (1))))⟩,
      ⟨(some 16), none, .v (.mov (.t 28))⟩])))))))
  (.seq (.reg [⟨(some 29), none, .v (.mov (.t 3))⟩,
    ⟨(some 2), none, .v (.mov (.t 29))⟩])
  .ret))))
def r93 : List RV := [.t 2]
def n93 : Nat := 30
theorem k93 : (Try.f93.body.bind (cC Try.prog), cR Try.prog Try.f93.results.toList, Try.f93.ntmps) = (some s93, some r93, 30) := by kernel_rfl
theorem q93 : Known Try.prog 93 := ⟨_, Try.func93, by decide, by simp [Try.f93]⟩


/-- The sum of the first spans. -/
def sumT (L : List (Int × Int)) : Nat → Int × Int
  | 0 => (0, 0)
  | i + 1 => ((sumT L i).1 + lo L i, (sumT L i).2 + hi L i)
def bnd9 (L : List (Int × Int)) : Prop := ∀ i, (-1000000000 ≤ lo L i ∧ lo L i ≤ 1000000000) ∧ (-1000000000 ≤ hi L i ∧ hi L i ≤ 1000000000)
theorem sumT_bnd {L : List (Int × Int)} (h : bnd9 L) : ∀ i : Nat, (-1000000000 * (i : Int) ≤ (sumT L i).1 ∧ (sumT L i).1 ≤ 1000000000 * (i : Int)) ∧ (-1000000000 * (i : Int) ≤ (sumT L i).2 ∧ (sumT L i).2 ≤ 1000000000 * (i : Int))
  | 0 => by simp [sumT]
  | i + 1 => by
    have := sumT_bnd h i
    have := h i
    simp only [sumT]
    omega
def C89 : PC := fun args K => ∃ (L : List (Int × Int)) (f : Nat → List SV), args = [.rd 2 L.length f] ∧ (∀ i, i < L.length → f i = rowsS L i) ∧ bnd9 L ∧ L.length ≤ 20 ∧ K (.agg [.int .i64 (sumT L L.length).1, .int .i64 (sumT L L.length).2])
theorem p89 : PureOk Try.prog 89 C89 := by
  refine pure_of (T := []) trivial Try.func89 k89 ?_
  rintro args K ⟨L, f, rfl, hf, hb, hl, hK⟩
  simp only [e_reg, e_seq, e_block, e_loop, o_nil, o_cons, gd_none, putK_e, runK_e, vK_e, evh_v, evh_new, seqK_n, evp, gt, st, putf, X.get, mkfr, rep, lens, pb, ln, undef, Nat.reduceSub, Nat.reduceAdd, true_and, s89, r89]
  refine loop_at2 (G := Nat) (fun i => [(8, .int .i64 i)]) (fun i => [.box 24 [.int .i64 0, .int .i64 0], .box 24 [.int .i64 (sumT L i).1, .int .i64 (sumT L i).2]]) (fun i => i ≤ L.length) (fun i => L.length - i) 0 (Nat.zero_le _) ?_
  (intro fr1 hf1; simp only [forget, dstC, dstO, st] at hf1; subst hf1)
  refine ⟨?_, ?_⟩
  · refine Lw_re 2 [] (Nat.zero_le _) (by simp [ln]) (by simp [ln]) rfl ?_ ?_
    · simp only [reL, reX, inb, ln, sts, st, Nat.reduceLT, Nat.reduceAdd, decide_true, and_self, Int.natCast_zero, implies_true]
    · simp only [reL, reX, reH, reB, reN, inb, and_self, sumT]
  · intro i hi1
    by_cases ha : i < L.length
    · have f0 := hf i ha
      simp only [inr64, ↓reduceIte, e_skip, e_reg, and_self, e_seq, e_cond, e_block, e_exit, e_ret, o_nil, o_cons, gd_none, putK_e, runK_e, vK_e, storeK3_e, storeK2_e, storeK_e, evh_v, evh_new, evh_store, loopK_n, loopK_x, seqK_n, seqK_x, condK_b, exitK_t, blockK_x, blockK_n, ends_r, endK1_e, endK2_e, evp, bin, gt, gq, st, putf, X.get, rdR, tupled, clV, clL, clS, clo, ld, lda, ixs, tk, dr, sp, sp.spl, ll, cs1, one, allOne, gb, sb, pb, ln, Bool.and_true, Nat.reduceAdd, beq_self_eq_true, true_and, decide_eq_true_eq, decide_eq_false_iff_not, sts, Int.toNat_natCast, f0, rowsS]
      have h1 := sumT_bnd hb i
      have h2 := hb i
      refine ⟨fun h => ⟨by omega, by omega, by omega, by omega, ?_⟩, fun h => by omega⟩
      refine Nx.mk (i + 1) (by show i + 1 ≤ L.length; omega) (by show L.length - (i + 1) < L.length - i; omega) (Lw_re 2 [] (Nat.zero_le _) (by simp [ln]) (by simp [ln]) rfl ?_ ?_)
      · simp only [reL, reX, inb, Nat.reduceLT, decide_true, and_self, Int.natCast_add, Int.natCast_one, implies_true]
      · simp only [reL, reX, reH, reB, reN, inb, and_self, sumT]
    · have : i = L.length := by omega
      subst this
      simp only [e_skip, e_reg, and_self, e_seq, e_cond, e_block, e_exit, e_ret, o_nil, o_cons, gd_none, putK_e, runK_e, vK_e, storeK3_e, storeK2_e, storeK_e, evh_v, evh_store, loopK_x, seqK_n, seqK_x, condK_b, exitK_t, blockK_x, ends_r, endK1_e, endK2_e, evp, bin, gt, st, putf, X.get, rdR, tupled, clV, clL, clS, clo, ld, lda, ixs, tk, dr, sp, sp.spl, ll, cs1, one, allOne, gb, sb, Bool.and_true, Nat.reduceAdd, beq_self_eq_true, true_and, decide_eq_true_eq, decide_eq_false_iff_not, sts, Int.toNat_natCast]
      refine ⟨fun h => by omega, fun h => res hK (by simp [leR, leR.leRs])⟩
def F92 : FC := fun args => match args with
  | [.agg [.int .i64 s, .rd 2 n f, .int .i64 a, .int .i64 b, .int .i64 _, .rd 2 _ _]] => some (True, .rd 1 2 (rowOf 1 [.ifc 157 (.agg [.int .i64 a, .int .i64 b]), .ifc 159 (.agg [.int .i64 s, .rd 2 n f])]))
  | _ => none
theorem p92 : PureOk Try.prog 92 (fcC F92) := by
  refine pure_of (T := []) trivial Try.func92 k92 ?_
  intro args K hC
  unfold fcC F92 at hC
  split at hC <;> first | (exact hC.elim) | skip
  rename_i h
  split at h <;> first | (cases h; done) | skip
  cases h
  rename_i s n f a b w m g
  obtain ⟨-, hK⟩ := hC
  have e0 : ((n : Int) - 0).toNat = n := by omega
  have e1 : Int.toNat 0 = 0 := rfl
  simp only [↓reduceIte, e_reg, e_drw, e_seq, e_ret, e_shut, shutH, shut1, slQ, o_nil, o_cons, gd_none, putK_e, runK_e, vK_e, boxK_e, bslK_e, evh_v, evh_box, evh_bsl, bnd, slv, od_none, dX_e, dG_t, d_nil, d_cons, tlK_n, seqK_n, ends_r, endK1_e, endK2_e, evp, gt, gq, st, putf, X.get, getp, mkfr, rep, rdR, tupled, clV, clL, clS, clo, ld, lda, lens, tk, dr, sp, sp.spl, lay, ll, cs1, one, gb, sb, pb, ln, evq, gdl, undef, Nat.reduceSub, Nat.reduceAdd, Nat.reduceMul, Nat.reduceDiv, beq_self_eq_true, true_and, s92, r92, toInts, e0, e1, Nat.zero_add]
  exact ⟨by omega, res hK (by first | exact rfl | simp [leR])⟩
theorem loop_first {N : Nat} {body : (Exit → St → Prop) → St → Prop} {K : Exit → St → Prop} {s0 s1 : St} (h : ∀ R : St → Prop, R s1 → body (loopK K R) s0) (h1 : LoopP N body K s1) : LoopP N body K s0 := by
  obtain ⟨I, ⟨n, s', hl, hI⟩, hb⟩ := h1
  refine ⟨fun m s => (m = n + 1 ∧ s = s0) ∨ (m ≤ n ∧ I m s), ⟨n + 1, s0, fun E a _ hn hr => ⟨E, Env.Le.xt (.refl E) hn, rfl, hr⟩, .inl ⟨rfl, rfl⟩⟩, ?_⟩
  rintro m s (⟨rfl, rfl⟩ | ⟨hm, hs⟩)
  · exact h _ ⟨n, s', Nat.lt_succ_self n, hl, .inr ⟨Nat.le_refl n, hI⟩⟩
  · have e : (fun s' : St => ∃ m' s'', m' < m ∧ Lw N s' s'' ∧ ((m' = n + 1 ∧ s'' = s0) ∨ (m' ≤ n ∧ I m' s''))) = fun s' => ∃ m' s'', m' < m ∧ Lw N s' s'' ∧ I m' s'' := by
      funext x
      refine propext ⟨?_, ?_⟩
      · rintro ⟨m', s'', a, b, c⟩
        refine ⟨m', s'', a, b, ?_⟩
        rcases c with ⟨c, _⟩ | ⟨_, c⟩
        · omega
        · exact c
      · rintro ⟨m', s'', a, b, c⟩
        exact ⟨m', s'', a, b, .inr ⟨by omega, c⟩⟩
    rw [e]; exact hb m s hs
/-- What may add to a reading otherwise. -/
def passF (w : Int) (g : Nat → List SV) : Nat → List SV
  | 0 => [.ifc 157 (.agg [.int .i64 (-w), .int .i64 w])]
  | i + 1 => [.ifc 161 (.agg [.int .i64 i, .int .i64 (rlo g i), .int .i64 (rhi g i)])]
def F93 : FC := fun args => match args with
  | [.agg [.int .i64 _, .rd 2 _ _, .int .i64 _, .int .i64 _, .int .i64 w, .rd 2 m g]] => some ((∃ S, m = S.length ∧ g = rowsS S) ∧ (0 ≤ w ∧ w ≤ 60) ∧ m ≤ 6, .rd 1 (m + 1) (passF w g))
  | _ => none
theorem p93 : PureOk Try.prog 93 (fcC F93) := by
  refine pure_of (T := [(102, .fc F102)]) ⟨⟨p102, q102⟩, trivial⟩ Try.func93 k93 ?_
  intro args K hC
  unfold fcC F93 at hC
  split at hC <;> first | (exact hC.elim) | skip
  rename_i h
  split at h <;> first | (cases h; done) | skip
  cases h
  rename_i s n f a b w m g
  obtain ⟨⟨⟨S, rfl, rfl⟩, hw, hm⟩, hK⟩ := hC
  simp only [↓reduceIte, e_reg, e_seq, e_block, e_loop, o_nil, o_cons, gd_none, putK_e, runK_e, vK_e, boxK_e, bslK_e, conK_e, callK_e, evh_v, evh_box, evh_bsl, evh_call, seqK_n, gam_e, gamK_f, pc_e, pcK_e, fcC_e, fcK_e, evp, gt, gq, st, putf, X.get, gets, getp, ap, mkfr, rep, clV, clL, clS, clo, ld, lda, lens, sp, sp.spl, lay, ll, cs1, one, gb, pb, ln, lk, undef, Nat.reduceSub, Nat.reduceAdd, beq_self_eq_true, true_and, s93, r93, F102]
  refine ⟨by omega, ?_⟩
  by_cases h0 : S.length = 0
  · refine loop_once ?_
    simp only [e_skip, e_reg, e_seq, e_cond, e_block, e_exit, e_ret, o_nil, o_cons, gd_none, putK_e, runK_e, vK_e, evh_v, loopK_x, seqK_n, seqK_x, condK_b, exitK_t, blockK_x, ends_r, endK1_e, endK2_e, evp, bin, gt, st, putf, X.get, rdR, tupled, clV, clL, clS, clo, ld, lda, ixs, dr, ll, gb, sb, Nat.reduceAdd, Nat.reduceMul, Nat.reduceDiv, beq_self_eq_true, true_and, decide_eq_true_eq, decide_eq_false_iff_not, toInts]
    refine ⟨fun h => by omega, fun _ => res hK ?_⟩
    simp only [leR, h0]
    refine ⟨trivial, trivial, fun i hi' => ?_⟩
    have : i = 0 := by omega
    subst this
    rfl
  have hlt : (0 : Int) < S.length := by omega
  refine loop_first (s1 := ?s1) (fun R hR => ?h1) ?h2
  case h1 =>
    simp only [inr64, ↓reduceIte, e_skip, e_reg, and_self, e_seq, e_cond, e_block, e_exit, e_ret, o_nil, o_cons, gd_none, putK_e, runK_e, vK_e, bslK_e, bldK_e, storeK3_e, storeK2_e, storeK_e, evh_v, evh_new, evh_bsl, evh_bld, evh_store, evh_app, appK_b, appB1_b, appD_e, loopK_n, loopK_x, seqK_n, seqK_x, condK_b, exitK_t, blockK_x, blockK_n, ends_r, endK1_e, evp, bin, gt, st, putf, X.get, getp, rdR, tupled, clV, clL, clS, clo, clo.clos, ld, lda, ixs, tk, dr, sp, sp.spl, lay, ll, cs1, one, allOne, gb, sb, pb, ln, Bool.and_true, Nat.reduceAdd, Nat.reduceMul, Nat.reduceDiv, beq_self_eq_true, true_and, decide_eq_true_eq, decide_eq_false_iff_not, Int.toNat_zero, rowsS, Int.zero_add]
    refine ⟨fun _ => ⟨by omega, by omega, by omega, ?_⟩, fun h => by omega⟩
    exact hR
  case h2 =>
    refine loop_at2 (G := Nat) (fun i => [(16, .int .i64 i), (3, .own 2)]) (fun i => [.box 89 [.int .i64 s, .rd 2 n f, .int .i64 a, .int .i64 b, .int .i64 w, .rd 2 S.length (rowsS S)], .box 156 [.ifc 157 (.agg [.int .i64 (-w), .int .i64 w])], .orw 156 1 (i + 1) (passF w (rowsS S))]) (fun i => 1 ≤ i ∧ i ≤ S.length) (fun i => S.length - i) 1 ⟨Nat.le_refl _, by omega⟩ ?_
    (intro fr1 hf1; simp only [forget, dstC, dstO, st] at hf1; subst hf1)
    refine ⟨?_, ?_⟩
    · refine Lw_re 2 [some 4] (Nat.zero_le _) (by simp [ln]) (by simp [ln]) rfl ?_ ?_
      · simp only [reL, reX, rn, List.getElem?_cons_zero, Nat.reduceSub, Nat.lt_irrefl, Nat.le_refl, and_false, or_true, inb, inb.inbs, ln, sts, st, Bool.and_self, Nat.reduceLT, Nat.reduceAdd, decide_true, and_self, Int.natCast_one, implies_true]
      · simp only [reL, reX, reH, reB, reM, reN, gb, Nat.reduceLeDiff, inb, inb.inbs, ln, Bool.and_self, Nat.reduceLT, Nat.reduceAdd, true_and, and_true, and_self]
        refine ⟨⟨fun _ _ => trivial, fun _ _ => trivial⟩, fun i hi' => ?_⟩
        rcases i with _ | _ | i
        · rfl
        · rfl
        · omega
    · rintro i ⟨hi0, hi1⟩
      simp only [inr64, ↓reduceIte, e_skip, e_reg, and_self, e_seq, e_cond, e_block, e_exit, e_ret, o_nil, o_cons, gd_none, putK_e, runK_e, vK_e, bslK_e, bldK_e, storeK3_e, storeK2_e, storeK_e, appK2_or, appK_e, evh_v, evh_new, evh_bsl, evh_bld, evh_store, evh_app, loopK_n, loopK_x, seqK_n, seqK_x, condK_b, exitK_t, blockK_x, blockK_n, ends_r, endK1_e, endK2_e, evp, bin, gt, st, putf, X.get, getp, rdR, tupled, clV, clo, clo.clos, ld, lda, ixs, tk, dr, sp, sp.spl, lay, ll, cs1, one, allOne, gb, sb, pb, ln, Bool.and_true, Nat.reduceAdd, beq_self_eq_true, true_and, decide_eq_true_eq, decide_eq_false_iff_not, sts, Int.toNat_natCast, rowsS]
      refine ⟨fun h => ⟨by omega, by omega, by omega, ?_⟩, fun h => ?_⟩
      · refine Nx.mk (i + 1) ⟨by omega, by omega⟩ (by show S.length - (i + 1) < S.length - i; omega) (Lw_re 2 [some 5] (Nat.zero_le _) (by simp [ln]) (by simp [ln]) rfl ?_ ?_)
        · simp only [reL, reX, rn, List.getElem?_cons_zero, Nat.reduceSub, Nat.lt_irrefl, Nat.le_refl, and_false, or_true, inb, inb.inbs, ln, Bool.and_self, Nat.reduceLT, Nat.reduceAdd, decide_true, and_self, Int.natCast_add, Int.natCast_one, implies_true]
        · simp only [reL, reX, reH, reB, reM, reN, gb, Nat.reduceLeDiff, inb, inb.inbs, ln, Bool.and_self, Nat.reduceLT, Nat.reduceAdd, true_and, and_true, and_self]
          refine ⟨⟨fun _ _ => trivial, fun _ _ => trivial⟩, fun j hj => ?_⟩
          by_cases hj' : j < i + 1
          · rw [if_pos hj']
          · have : j = i + 1 := by omega
            subst this
            rw [if_neg hj']; rfl
      · have : i = S.length := by omega
        subst this
        exact res hK (by simp [leR])
end
section
/- 91: octant/sextant.together -/
def s91 : SC :=
  (.seq (.reg [⟨(some 3), none, .box 28 (.t 1)⟩,
    ⟨(some 4), none, .new 24 [(.int .i64 (0)), (.int .i64 (0))]⟩])
  (.seq (.reg [⟨(some 5), none, .v (.mov (.c (.lit (.slice none 0 0))))⟩])
  (.seq (.seq (.reg [⟨(some 8), none, .v (.mov (.t 0))⟩,
    ⟨(some 9), none, .v (.len (.t 8))⟩,
    ⟨(some 10), none, .v (.mov (.c (.int .i64 (0))))⟩])
  (.block 0 (.loop
    (.seq (.reg [⟨(some 11), none, .v (.bin .lss (.t 10) (.t 9))⟩])
    (.seq (.cond (.t 11)
      .skip
      (.exit 0))
    (.seq (.block 1 (.seq (.reg [⟨(some 12), none, .v (.ixa (.t 8) (.t 10) 1)⟩,
      ⟨(some 13), none, .v (.load (.t 12) none)⟩,
      ⟨(some 7), none, .v (.mov (.t 13))⟩])
    (.reg [⟨(some 14), none, .v (.mov (.t 5))⟩,
      ⟨(some 15), none, .v (.mov (.t 7))⟩,
      ⟨(some 16), none, .v (.load (.t 3) (some 2))⟩,
      ⟨(some 17), none, .inv [(157, 135), (159, 136), (161, 139)] (.t 15) [(.t 16)]⟩,
      ⟨(some 18), none, .bsl 24 1 [(.int .i64 (0)), (.int .i64 (0))] [(0, 2, (.t 17))]⟩,
      ⟨(some 19), none, .app 24 2 16 (.t 14) (.t 18)⟩,
      ⟨(some 5), none, .v (.mov (.t 19))⟩])))
    (.reg [⟨(some 20), none, .v (.bin .add (.t 10) (.c (.int .i64 (1))))⟩,
      ⟨(some 10), none, .v (.mov (.t 20))⟩])))))))
  (.seq (.reg [⟨(some 21), none, .v (.mov (.t 5))⟩,
    ⟨(some 22), none, .call (.c (.fn 89 [])) [(.t 21)]⟩,
    ⟨none, none, .store 2 (.t 4) (.t 22)⟩])
  .ret))))
def r91 : List RV := [.c 4 (some 2)]
def n91 : Nat := 23
theorem k91 : (Try.f91.body.bind (cC Try.prog), cR Try.prog Try.f91.results.toList, Try.f91.ntmps) = (some s91, some r91, 23) := by kernel_rfl
theorem q91 : Known Try.prog 91 := ⟨_, Try.func91, by decide, by simp [Try.f91]⟩


/-- What one thing adds. -/
def adV (x set : Int) (l : List SV) : Int × Int := match l with
  | [.ifc 157 (.agg [.int .i64 a, .int .i64 b])] => (a, b)
  | [.ifc 159 (.agg [.int .i64 s, .rd 2 _ g])] => (cor s (rlo g (x / s).toNat) (rlo g ((x / s).toNat + 1)) (x % s), cor s (rhi g (x / s).toNat) (rhi g ((x / s).toNat + 1)) (x % s))
  | [.ifc 161 (.agg [.int .i64 k, .int .i64 a, .int .i64 b])] => (shA k a set, shA k b set)
  | _ => (0, 0)
def adOk (x set : Int) (l : List SV) : Prop :=
  (∃ a b : Int, l = [.ifc 157 (.agg [.int .i64 a, .int .i64 b])] ∧ (-1000000 ≤ a ∧ a ≤ 1000000) ∧ (-1000000 ≤ b ∧ b ≤ 1000000)) ∨
  (∃ (v : Sx) (g : Nat → List SV), l = [.ifc 159 (.agg [.int .i64 v.step, .rd 2 v.T.length g])] ∧ (∀ i, g i = rowsS v.T i) ∧ v.ok ∧ (0 ≤ x ∧ x ≤ v.step * ((v.T.length : Int) - 1))) ∨
  (∃ k a b : Int, l = [.ifc 161 (.agg [.int .i64 k, .int .i64 a, .int .i64 b])] ∧ (0 ≤ k ∧ k ≤ 60) ∧ (0 ≤ set ∧ set ≤ 1000) ∧ (-1000000 ≤ a ∧ a ≤ 1000000) ∧ (-1000000 ≤ b ∧ b ≤ 1000000))
theorem adV_159 {x set : Int} {v : Sx} {g : Nat → List SV} (hg : ∀ i, g i = rowsS v.T i) : adV x set [.ifc 159 (.agg [.int .i64 v.step, .rd 2 v.T.length g])] = corE v x := by
  have : g = rowsS v.T := funext hg
  subst this
  rfl
theorem adV_bnd {x set : Int} {l : List SV} (h : adOk x set l) : (-1000000 ≤ (adV x set l).1 ∧ (adV x set l).1 ≤ 1000000) ∧ (-1000000 ≤ (adV x set l).2 ∧ (adV x set l).2 ≤ 1000000) := by
  rcases h with ⟨a, b, rfl, h1, h2⟩ | ⟨v, g, rfl, hg, hok, hx⟩ | ⟨k, a, b, rfl, h0, hs, h1, h2⟩
  · exact ⟨h1, h2⟩
  · rw [adV_159 hg]
    have := corE_bnd hok x
    omega
  · simp only [adV, shA]
    constructor <;> split <;> omega
def adL (x set : Int) (f : Nat → List SV) (n : Nat) : List (Int × Int) := (List.range n).map fun i => adV x set (f i)
theorem adL_len {x set : Int} {f : Nat → List SV} {n : Nat} : (adL x set f n).length = n := by simp [adL]
theorem adL_get {x set : Int} {f : Nat → List SV} {n i : Nat} (h : i < n) : (adL x set f n).getD i (0, 0) = adV x set (f i) := by simp [adL, List.getD, h]
def rowA (x set : Int) (f : Nat → List SV) (j : Nat) : List SV := [.int .i64 (adV x set (f j)).1, .int .i64 (adV x set (f j)).2]
def F91 : FC := fun args => match args with
  | [.rd 1 n f, .agg [.int .i64 x, .int .i64 set]] => some ((∀ i, i < n → adOk x set (f i)) ∧ n ≤ 20, .agg [.int .i64 (sumT (adL x set f n) n).1, .int .i64 (sumT (adL x set f n) n).2])
  | _ => none
theorem p91 : PureOk Try.prog 91 (fcC F91) := by
  refine pure_of (T := [(135, .fc F135), (136, .pc C136), (139, .fc F139), (89, .pc C89)]) ⟨⟨p135, q135⟩, ⟨p136, q136⟩, ⟨p139, q139⟩, ⟨p89, q89⟩, trivial⟩ Try.func91 k91 ?_
  intro args K hC
  unfold fcC F91 at hC
  split at hC <;> first | (exact hC.elim) | skip
  rename_i h
  split at h <;> first | (cases h; done) | skip
  cases h
  rename_i n f x set
  obtain ⟨⟨hf, hn⟩, hK⟩ := hC
  simp only [e_reg, e_seq, e_block, e_loop, o_nil, o_cons, gd_none, putK_e, runK_e, vK_e, boxK_e, evh_v, evh_new, evh_box, seqK_n, evp, gt, st, putf, X.get, mkfr, rep, lens, cs1, pb, ln, undef, Nat.reduceSub, Nat.reduceAdd, true_and, s91, r91]
  refine loop_at2 (G := Nat) (fun i => [(10, .int .i64 i), (5, .own 2)]) (fun i => [.box 28 [.int .i64 x, .int .i64 set], .box 24 [.int .i64 0, .int .i64 0], .orw 24 2 i (rowA x set f)]) (fun i => i ≤ n) (fun i => n - i) 0 (Nat.zero_le _) ?_
  (intro fr1 hf1; simp only [forget, dstC, dstO, st] at hf1; subst hf1)
  refine ⟨?_, ?_⟩
  · refine Lw_re 2 [none] (Nat.zero_le _) (by simp [ln]) (by simp [ln]) rfl ?_ ?_
    · simp only [reL, reX, rn, List.getElem?_cons_zero, Nat.reduceSub, Nat.lt_irrefl, Nat.le_refl, reduceCtorEq, or_true, inb, inb.inbs, ln, sts, st, Bool.and_self, Nat.reduceLT, Nat.reduceAdd, decide_true, and_self, Int.natCast_zero, implies_true]
    · simp only [reL, reX, reH, reB, reN, newB, inb, and_self]
  · intro i hi1
    by_cases ha : i < n
    · rcases hf i ha with ⟨a, b, e, h1, h2⟩ | ⟨v, g, e, hg, hok, hx⟩ | ⟨k, a, b, e, h0, hs, h1, h2⟩
      · simp only [inr64, e_skip, e_reg, e_seq, e_cond, e_block, e_exit, o_nil, o_cons, gd_none, putK_e, runK_e, vK_e, bslK_e, appK2_or, appK_e, conK_e, callK_e, evh_v, evh_bsl, evh_store, evh_app, evh_call, evh_inv, invK_e, invK2_e, lkm, loopK_n, loopK_x, seqK_n, seqK_x, condK_b, exitK_t, blockK_x, blockK_n, gam_e, gamK_f, gamK_p, pc_e, pcK_e, fcC_e, fcK_e, evp, bin, gt, gq, st, putf, X.get, gets, getp, ap, clV, clL, clS, clo, clo.clos, ld, lda, ixs, tk, dr, sp, sp.spl, lay, ll, cs1, one, allOne, gb, sb, pb, ln, lk, Value.oneCell', Bool.and_true, Nat.reduceAdd, Nat.reduceBEq, beq_self_eq_true, true_and, decide_eq_true_eq, decide_eq_false_iff_not, sts, Int.toNat_natCast, e, F135]
        refine ⟨fun _ => ⟨by omega, by omega, by omega, ?_⟩, fun h => by exfalso; omega⟩
        refine Nx.mk (i + 1) (by show i + 1 ≤ n; omega) (by show n - (i + 1) < n - i; omega) (Lw_re 2 [some 4] (Nat.zero_le _) (by simp [ln]) (by simp [ln]) rfl ?_ ?_)
        · simp only [reL, reX, rn, List.getElem?_cons_zero, Nat.reduceSub, Nat.lt_irrefl, Nat.le_refl, and_false, or_true, inb, inb.inbs, ln, Bool.and_self, Nat.reduceLT, Nat.reduceAdd, decide_true, and_self, Int.natCast_add, Int.natCast_one, implies_true]
        · simp only [reL, reX, reH, reB, reM, reN, gb, Nat.reduceLeDiff, inb, ln, Nat.reduceLT, Nat.reduceAdd, true_and, and_true, and_self]
          intro j hj
          by_cases hj' : j < i
          · rw [if_pos hj']
          · have : j = i := by omega
            subst this
            rw [if_neg hj']
            simp only [rowA, e, adV]
      · simp only [e_skip, e_reg, e_seq, e_cond, e_block, e_exit, o_nil, o_cons, gd_none, putK_e, runK_e, vK_e, conK_e, callK_e, evh_v, evh_bsl, evh_store, evh_call, evh_inv, invK_e, invK2_e, lkm, loopK_x, seqK_n, seqK_x, condK_b, exitK_t, blockK_x, gam_e, gamK_p, pc_e, pcK_e, evp, bin, gt, gq, st, putf, X.get, gets, getp, ap, clV, clL, clS, clo, ld, lda, ixs, tk, dr, sp, lay, cs1, one, gb, sb, lk, Value.oneCell', Nat.reduceBEq, beq_self_eq_true, true_and, decide_eq_true_eq, decide_eq_false_iff_not, sts, Int.toNat_natCast, e]
        refine ⟨fun _ => ⟨by omega, v, g, x, set, rfl, hg, hok, hx, ?_⟩, fun h => by exfalso; omega⟩
        simp only [inr64, e_reg, o_nil, o_cons, gd_none, putK_e, runK_e, vK_e, bslK_e, appK2_or, appK_e, evh_v, evh_app, loopK_n, seqK_n, blockK_n, evp, bin, gt, st, putf, X.get, clo, clo.clos, sp.spl, ll, one, allOne, gb, sb, pb, ln, Bool.and_true, Nat.reduceAdd, beq_self_eq_true, true_and]
        refine ⟨by omega, by omega, ?_⟩
        refine Nx.mk (i + 1) (by show i + 1 ≤ n; omega) (by show n - (i + 1) < n - i; omega) (Lw_re 2 [some 4] (Nat.zero_le _) (by simp [ln]) (by simp [ln]) rfl ?_ ?_)
        · simp only [reL, reX, rn, List.getElem?_cons_zero, Nat.reduceSub, Nat.lt_irrefl, Nat.le_refl, and_false, or_true, inb, inb.inbs, ln, Bool.and_self, Nat.reduceLT, Nat.reduceAdd, decide_true, and_self, Int.natCast_add, Int.natCast_one, implies_true]
        · simp only [reL, reX, reH, reB, reM, reN, gb, Nat.reduceLeDiff, inb, ln, Nat.reduceLT, Nat.reduceAdd, true_and, and_true, and_self]
          intro j hj
          by_cases hj' : j < i
          · rw [if_pos hj']
          · have : j = i := by omega
            subst this
            rw [if_neg hj']
            simp only [rowA, e, adV_159 hg]
      · simp only [inr64, e_skip, e_reg, e_seq, e_cond, e_block, e_exit, o_nil, o_cons, gd_none, putK_e, runK_e, vK_e, bslK_e, appK2_or, appK_e, conK_e, callK_e, evh_v, evh_bsl, evh_store, evh_app, evh_call, evh_inv, invK_e, invK2_e, lkm, loopK_n, loopK_x, seqK_n, seqK_x, condK_b, exitK_t, blockK_x, blockK_n, gam_e, gamK_f, gamK_p, pc_e, pcK_e, fcC_e, fcK_e, evp, bin, gt, gq, st, putf, X.get, gets, getp, ap, clV, clL, clS, clo, clo.clos, ld, lda, ixs, tk, dr, sp, sp.spl, lay, ll, cs1, one, allOne, gb, sb, pb, ln, lk, Value.oneCell', Bool.and_true, Nat.reduceAdd, Nat.reduceBEq, beq_self_eq_true, true_and, decide_eq_true_eq, decide_eq_false_iff_not, sts, Int.toNat_natCast, e, F139]
        refine ⟨fun _ => ⟨by omega, ⟨h0, hs⟩, by omega, by omega, ?_⟩, fun h => by exfalso; omega⟩
        refine Nx.mk (i + 1) (by show i + 1 ≤ n; omega) (by show n - (i + 1) < n - i; omega) (Lw_re 2 [some 4] (Nat.zero_le _) (by simp [ln]) (by simp [ln]) rfl ?_ ?_)
        · simp only [reL, reX, rn, List.getElem?_cons_zero, Nat.reduceSub, Nat.lt_irrefl, Nat.le_refl, and_false, or_true, inb, inb.inbs, ln, Bool.and_self, Nat.reduceLT, Nat.reduceAdd, decide_true, and_self, Int.natCast_add, Int.natCast_one, implies_true]
        · simp only [reL, reX, reH, reB, reM, reN, gb, Nat.reduceLeDiff, inb, ln, Nat.reduceLT, Nat.reduceAdd, true_and, and_true, and_self]
          intro j hj
          by_cases hj' : j < i
          · rw [if_pos hj']
          · have : j = i := by omega
            subst this
            rw [if_neg hj']
            simp only [rowA, e, adV]
    · have : i = n := by omega
      subst this
      simp only [e_skip, e_reg, e_seq, e_cond, e_block, e_exit, o_nil, o_cons, gd_none, putK_e, runK_e, vK_e, conK_e, callK_e, evh_v, evh_store, evh_call, loopK_x, seqK_n, seqK_x, condK_b, exitK_t, blockK_x, gam_e, gamK_p, pc_e, pcK_e, evp, bin, gt, st, putf, X.get, gets, ap, clV, clL, ld, lda, ixs, cs1, one, gb, sb, lk, Value.oneCell', Nat.reduceBEq, beq_self_eq_true, true_and, decide_eq_true_eq, decide_eq_false_iff_not, sts, Int.toNat_natCast]
      refine ⟨fun h => by omega, fun _ => ?_⟩
      have hl : (adL x set f i).length = i := adL_len
      refine ⟨adL x set f i, rowA x set f, by rw [hl], fun j hj => ?_, fun j => ?_, by rw [hl]; exact hn, ?_⟩
      · rw [hl] at hj
        simp only [rowA, rowsS, lo, hi, adL_get hj]
      · unfold lo hi
        by_cases hj : j < i
        · rw [adL_get hj]
          have := adV_bnd (hf j hj)
          omega
        · have : (adL x set f i).getD j (0, 0) = (0, 0) := by simp [List.getD, hl, Nat.le_of_not_lt hj]
          rw [this]; simp
      · rw [hl]
        simp only [and_self, e_ret, o_nil, putK_e, storeK3_e, storeK2_e, storeK_e, seqK_n, ends_r, endK1_e, endK2_e, gt, putf, rdR, tupled, clV, clL, clS, clo, ld, tk, dr, sp, sp.spl, ll, one, allOne, gb, sb, Bool.and_true, Nat.reduceAdd, true_and]
        exact res hK (by simp [leR, leR.leRs])
end
section
/- 56: (octant/sextant.sextant).angle -/
def s56 : SC :=
  (.seq (.reg [⟨(some 2), none, .box 89 (.t 0)⟩,
    ⟨(some 3), none, .box 28 (.t 1)⟩,
    ⟨(some 4), none, .new 24 [(.int .i64 (0)), (.int .i64 (0))]⟩])
  (.seq (.drw [(0, ⟨(some 5), none, .v (.off (.t 3) 0)⟩, false),
    (1, ⟨(some 6), none, .v (.load (.t 5) none)⟩, false),
    (2, ⟨(some 7), none, .call (.c (.fn 90 [])) [(.t 6)]⟩, false),
    (3, ⟨(some 8), none, .v (.load (.t 2) (some 6))⟩, false),
    (4, ⟨(some 9), none, .call (.c (.fn 92 [])) [(.t 8)]⟩, false),
    (5, ⟨(some 10), none, .v (.load (.t 3) (some 2))⟩, false),
    (6, ⟨(some 11), none, .call (.c (.fn 91 [])) [(.t 9), (.t 10)]⟩, false),
    (7, ⟨(some 12), none, .v (.load (.t 2) (some 6))⟩, false),
    (8, ⟨(some 13), none, .call (.c (.fn 93 [])) [(.t 12)]⟩, false),
    (9, ⟨(some 14), none, .v (.load (.t 3) (some 2))⟩, false)]
    none
    [⟨(some 15), none, .call (.c (.fn 91 [])) [(.t 13), (.t 14)]⟩,
    ⟨(some 16), none, .bsl 24 3 [(.int .i64 (0)), (.int .i64 (0)), (.int .i64 (0)), (.int .i64 (0)), (.int .i64 (0)), (.int .i64 (0))] [(0, 2, (.t 7)), (2, 2, (.t 11)), (4, 2, (.t 15))]⟩,
    ⟨(some 17), none, .call (.c (.fn 89 [])) [(.t 16)]⟩,
    ⟨none, none, .store 2 (.t 4) (.t 17)⟩])
  .ret))
def r56 : List RV := [.c 4 (some 2)]
def n56 : Nat := 18
theorem k56 : (Try.f56.body.bind (cC Try.prog), cR Try.prog Try.f56.results.toList, Try.f56.ntmps) = (some s56, some r56, 18) := by kernel_rfl
theorem q56 : Known Try.prog 56 := ⟨_, Try.func56, by decide, by simp [Try.f56]⟩

/- 15: octant/sextant.Read -/
def s15 : SC :=
  (.seq (.reg [⟨(some 2), none, .box 26 (.t 0)⟩,
    ⟨(some 3), none, .box 28 (.t 1)⟩,
    ⟨(some 4), none, .new 24 [(.int .i64 (0)), (.int .i64 (0))]⟩,
    ⟨(some 5), none, .v (.mov (.c (.int .i64 (0))))⟩])
  (.seq (.seq (.reg [⟨(some 8), none, .v (.load (.t 2) (some 6))⟩,
    ⟨(some 9), none, .call (.c (.fn 17 [])) [(.t 8)]⟩,
    ⟨(some 6), none, .v (.mov (.t 9))⟩])
  (.seq (.reg [⟨(some 10), none, .v (.mov (.t 6))⟩,
    ⟨(some 11), none, .v (.bin .neq (.t 10) (.c (.int .i64 (0))))⟩])
  (.cond (.t 11)
    (.seq (.reg [⟨(some 12), none, .bld [(.int .i64 (0)), (.int .i64 (0))] []⟩,
      ⟨(some 13), none, .v (.mov (.t 6))⟩,
      ⟨none, none, .store 2 (.t 4) (.t 12)⟩,
      ⟨(some 5), none, .v (.mov (.t 13))⟩])
    .ret)
    .skip)))
  (.seq (.reg [⟨(some 14), none, .v (.load (.t 2) (some 6))⟩,
    ⟨(some 15), none, .bld [(.int .i64 (0)), (.lit (.slice none 0 0)), (.int .i64 (0)), (.int .i64 (0)), (.int .i64 (0)), (.lit (.slice none 0 0))] [(0, 6, (.t 14))]⟩,
    ⟨(some 7), none, .new 89 [(.int .i64 (0)), (.lit (.slice none 0 0)), (.int .i64 (0)), (.int .i64 (0)), (.int .i64 (0)), (.lit (.slice none 0 0))]⟩,
    ⟨none, none, .store 6 (.t 7) (.t 15)⟩])
  (.seq (.seq (.reg [⟨(some 16), none, .v (.load (.t 7) (some 6))⟩,
    ⟨(some 17), none, .v (.load (.t 3) (some 2))⟩,
    ⟨(some 18), none, .call (.c (.fn 55 [])) [(.t 16), (.t 17)]⟩,
    ⟨(some 19), none, .v (.not (.t 18))⟩])
  (.cond (.t 19)
    (.seq (.reg [⟨(some 20), none, .bld [(.int .i64 (0)), (.int .i64 (0))] []⟩,
      ⟨none, none, .store 2 (.t 4) (.t 20)⟩,
      ⟨(some 5), none, .v (.mov (.c (.int .i64 (51))))⟩])
    .ret)
    .skip))
  (.seq (.reg [⟨(some 21), none, .v (.load (.t 7) (some 6))⟩,
    ⟨(some 22), none, .v (.load (.t 3) (some 2))⟩,
    ⟨(some 23), none, .call (.c (.fn 56 [])) [(.t 21), (.t 22)]⟩,
    ⟨none, none, .store 2 (.t 4) (.t 23)⟩,
    ⟨(some 5), none, .v (.mov (.c (.int .i64 (0))))⟩])
  .ret)))))
def r15 : List RV := [.c 4 (some 2), .t 5]
def n15 : Nat := 24
theorem k15 : (Try.f15.body.bind (cC Try.prog), cR Try.prog Try.f15.results.toList, Try.f15.ntmps) = (some s15, some r15, 24) := by kernel_rfl
theorem q15 : Known Try.prog 15 := ⟨_, Try.func15, by decide, by simp [Try.f15]⟩


theorem lo_adL {x set : Int} {f : Nat → List SV} {n i : Nat} (h : i < n) : lo (adL x set f n) i = (adV x set (f i)).1 ∧ hi (adL x set f n) i = (adV x set (f i)).2 := by
  unfold lo hi; rw [adL_get h]; exact ⟨rfl, rfl⟩
theorem sum_pass {v : Sx} {x set : Int} {n : Nat} : ∀ i : Nat, i + 1 ≤ n → sumT (adL x set (passF v.w (rowsS v.S)) n) (i + 1) = shd v set i
  | 0, h => by
    simp only [sumT, (lo_adL (x := x) (set := set) (f := passF v.w (rowsS v.S)) (show 0 < n by omega)).1, (lo_adL (x := x) (set := set) (f := passF v.w (rowsS v.S)) (show 0 < n by omega)).2, passF, adV, shd, Int.zero_add]
  | i + 1, h => by
    rw [sumT, sum_pass i (by omega), (lo_adL (show i + 1 < n by omega)).1, (lo_adL (show i + 1 < n by omega)).2]
    simp only [passF, adV, shA, shd, Int.toNat_natCast, rlo_rows, rhi_rows]
    split
    · rfl
    · simp
theorem sum_last {v : Sx} {x set : Int} : sumT (adL x set (rowOf 1 [.ifc 157 (.agg [.int .i64 v.a, .int .i64 v.b]), .ifc 159 (.agg [.int .i64 v.step, .rd 2 v.T.length (rowsS v.T)])]) 2) 2 = (v.a + (corE v x).1, v.b + (corE v x).2) := by
  simp only [sumT, (lo_adL (x := x) (set := set) (show 0 < 2 by omega)).1, (lo_adL (x := x) (set := set) (show 0 < 2 by omega)).2, (lo_adL (x := x) (set := set) (show 1 < 2 by omega)).1, (lo_adL (x := x) (set := set) (show 1 < 2 by omega)).2, Int.zero_add]
  rfl
def C56 : PC := fun args K => ∃ (v : Sx) (x set : Int), args = [v.sv, .agg [.int .i64 x, .int .i64 set]] ∧ v.ok ∧ v.rdg x set ∧ K (.agg [.int .i64 (rdS v x set).1, .int .i64 (rdS v x set).2])
theorem p56 : PureOk Try.prog 56 C56 := by
  refine pure_of (T := [(90, .fc F90), (92, .fc F92), (91, .fc F91), (93, .fc F93), (89, .pc C89)]) ⟨⟨p90, q90⟩, ⟨p92, q92⟩, ⟨p91, q91⟩, ⟨p93, q93⟩, ⟨p89, q89⟩, trivial⟩ Try.func56 k56 ?_
  rintro args K ⟨v, x, set, rfl, hok, hr, hK⟩
  have hcb := corE_bnd hok x
  have hsb := shd_bnd hok set v.S.length
  have hsp := spS (by omega) hok.2.2.2.2
  have hl := @sum_last v x set
  have hp := @sum_pass v x set (v.S.length + 1) v.S.length (Nat.le_refl _)
  obtain ⟨step, T, a, b, w, S⟩ := v
  simp only [Sx.sv] at hl hp ⊢
  simp only [e_reg, e_drw, e_seq, o_nil, o_cons, gd_none, putK_e, runK_e, boxK_e, bslK_e, conK_e, callK_e, evh_new, evh_box, evh_bsl, evh_store, evh_call, dX_e, dG_t, d_nil, d_cons, tlK_n, seqK_n, gam_e, gamK_f, gamK_p, gamq_e, gamqK_f, pc_e, pcK_e, fcC_e, fcK_e, evp, gt, gq, st, putf, X.get, gets, getp, ap, mkfr, rep, clV, clL, clS, clo, clo.clos, ld, lda, tk, dr, sp, sp.spl, lay, ll, cs1, one, gb, sb, pb, ln, lk, evq, gdl, Value.oneCell', undef, Bool.and_true, Nat.reduceSub, Nat.reduceAdd, Nat.reduceMul, Nat.reduceDiv, Nat.reduceBEq, beq_self_eq_true, true_and, s56, r56, F90, F92, F91, F93, hl, hp, toInts]
  have h6 := hok.2.2.2.1
  have hw := hok.2.2.1
  have hab := hok.2.1
  have hst := hr.2
  have hx := hr.1
  have h1 := hok.1.1
  have h2 := hok.1.2.1
  simp only at h6 hw hab hst hx h1 h2 hsp hsb
  have hb := stepB h1 h2
  have p6 := pow6 (m := S.length) (by omega)
  generalize hc1 : (corE ⟨step, T, a, b, w, S⟩ x).1 = c1 at hcb ⊢
  generalize hc2 : (corE ⟨step, T, a, b, w, S⟩ x).2 = c2 at hcb ⊢
  generalize hs1 : (shd ⟨step, T, a, b, w, S⟩ set S.length).1 = s1 at hsb ⊢
  generalize hs2 : (shd ⟨step, T, a, b, w, S⟩ set S.length).2 = s2 at hsb ⊢
  refine ⟨⟨fun i hi' => ?_, by omega⟩, ⟨⟨S, rfl, rfl⟩, hw, by omega⟩, ⟨fun i hi' => ?_, by omega⟩, [(x, x), (a + c1, b + c2), (s1, s2)], _, rfl, fun i hi' => ?_, fun i => ?_, by simp, ?_⟩
  · rcases i with _ | _ | i
    · exact .inl ⟨a, b, rfl, by omega, by omega⟩
    · exact .inr (.inl ⟨⟨step, T, a, b, w, S⟩, rowsS T, rfl, fun _ => rfl, hok, hx⟩)
    · omega
  · rcases i with _ | i
    · exact .inl ⟨-w, w, rfl, by omega, by omega⟩
    · have := hsp i
      exact .inr (.inr ⟨i, lo S i, hi S i, rfl, by omega, by omega, by omega, by omega⟩)
  · simp only [List.length_cons, List.length_nil] at hi'
    rcases i with _ | _ | _ | i
    · rfl
    · rfl
    · rfl
    · omega
  · rcases i with _ | _ | _ | i
    · simp only [lo, hi, List.getD_cons_zero]; omega
    · simp only [lo, hi, List.getD_cons_zero, List.getD_cons_succ]; omega
    · simp only [lo, hi, List.getD_cons_zero, List.getD_cons_succ]; omega
    · simp [lo, hi, List.getD]
  · have e : sumT [(x, x), (a + c1, b + c2), (s1, s2)] 3 = (0 + x + (a + c1) + s1, 0 + x + (b + c2) + s2) := rfl
    simp only [List.length_cons, List.length_nil, Nat.zero_add, Nat.reduceAdd, e]
    simp only [and_self, e_ret, o_nil, putK_e, storeK3_e, storeK2_e, storeK_e, seqK_n, ends_r, endK1_e, endK2_e, gt, putf, rdR, tupled, clV, clL, clS, clo, ld, tk, dr, sp, sp.spl, ll, one, allOne, gb, sb, Bool.and_true, Nat.reduceAdd, true_and]
    simp only [rdS, hc1, hc2, hs1, hs2] at hK
    refine res hK ?_
    simp only [leR, leR.leRs]
    refine ⟨?_, ?_, trivial⟩
    · simp; omega
    · simp; omega
def C15 : PC := C16
theorem p15 : PureOk Try.prog 15 C15 := by
  refine pure_of (T := [(17, .pc C17), (55, .pc C55), (56, .pc C56)]) ⟨⟨p17, q17⟩, ⟨p55, q55⟩, ⟨p56, q56⟩, trivial⟩ Try.func15 k15 ?_
  rintro args K ⟨v, x, set, rfl, hK⟩
  obtain ⟨step, T, a, b, w, S⟩ := v
  simp only [Sx.sv]
  simp only [e_reg, e_seq, o_nil, o_cons, gd_none, putK_e, runK_e, vK_e, boxK_e, conK_e, callK_e, evh_v, evh_new, evh_box, evh_call, seqK_n, gam_e, gamK_p, pc_e, pcK_e, evp, bin, gt, st, putf, X.get, gets, ap, mkfr, rep, clV, clL, clS, clo, ld, lda, tk, dr, cs1, gb, pb, ln, lk, undef, Nat.reduceSub, Nat.reduceAdd, beq_self_eq_true, true_and, s15, r15]
  refine ⟨⟨step, T, a, b, w, S⟩, rfl, ?_⟩
  simp only [e_skip, e_reg, and_self, e_seq, e_cond, e_ret, o_nil, o_cons, gd_none, putK_e, runK_e, vK_e, bldK_e, storeK3_e, storeK2_e, storeK_e, conK_e, callK_e, evh_v, evh_new, evh_bld, evh_store, evh_call, seqK_n, seqK_r, condK_b, ends_r, endK1_e, endK2_e, gam_e, gamK_p, pc_e, pcK_e, evp, gt, st, putf, X.get, gets, getp, ap, rdR, tupled, clV, clL, clS, clo, ld, lda, tk, dr, sp, sp.spl, lay, ll, cs1, one, allOne, gb, sb, pb, ln, lk, Bool.and_true, Bool.not_true, Bool.not_false, Nat.reduceAdd, Nat.reduceBEq, beq_self_eq_true, true_and, decide_eq_true_eq, decide_eq_false_iff_not, Bool.not_eq_eq_eq_not]
  by_cases hok : Sx.ok ⟨step, T, a, b, w, S⟩
  · have hc : Sx.chk ⟨step, T, a, b, w, S⟩ = 0 := if_pos hok
    rw [hc]
    refine ⟨fun h => absurd rfl h, fun _ => ⟨⟨step, T, a, b, w, S⟩, x, set, rfl, hok, ?_⟩⟩
    simp only [e_skip, e_reg, and_self, e_seq, e_cond, e_ret, o_nil, o_cons, gd_none, putK_e, runK_e, vK_e, bldK_e, storeK3_e, storeK2_e, storeK_e, conK_e, callK_e, evh_v, evh_bld, evh_store, evh_call, seqK_n, seqK_r, condK_b, ends_r, endK1_e, endK2_e, gam_e, gamK_p, pc_e, pcK_e, evp, gt, st, putf, X.get, gets, getp, ap, rdR, tupled, clV, clL, clS, clo, ld, lda, tk, dr, sp, sp.spl, lay, ll, cs1, one, allOne, gb, sb, lk, Value.oneCell', Bool.and_true, Bool.not_true, Bool.not_false, Nat.reduceAdd, Nat.reduceBEq, beq_self_eq_true, true_and, decide_eq_true_eq, decide_eq_false_iff_not, Bool.not_eq_eq_eq_not]
    refine ⟨fun hr => res hK ?_, fun hr => ?_⟩
    · simp only [rdV, rdE, if_pos hok, if_neg hr, if_neg (fun h : Sx.ok ⟨step, T, a, b, w, S⟩ ∧ Sx.rdg ⟨step, T, a, b, w, S⟩ x set => hr h.2)]
      simp [leR, leR.leRs]
    · refine ⟨⟨step, T, a, b, w, S⟩, x, set, rfl, hok, hr, ?_⟩
      simp only [and_self, e_ret, o_nil, o_cons, gd_none, putK_e, runK_e, vK_e, storeK3_e, storeK2_e, storeK_e, evh_v, seqK_n, ends_r, endK1_e, endK2_e, evp, gt, st, putf, X.get, rdR, tupled, clV, clL, clS, clo, ld, tk, dr, sp, sp.spl, ll, one, allOne, gb, sb, Bool.and_true, Nat.reduceAdd, true_and]
      refine res hK ?_
      simp only [rdV, rdE, if_pos hok, if_pos hr, if_pos (And.intro hok hr)]
      simp [leR, leR.leRs]
  · have hc : Sx.chk ⟨step, T, a, b, w, S⟩ = 50 := if_neg hok
    rw [hc]
    refine ⟨fun _ => res hK ?_, fun h => by cases h⟩
    simp only [rdV, rdE, if_neg hok, if_neg (fun h : Sx.ok ⟨step, T, a, b, w, S⟩ ∧ _ => hok h.1)]
    simp [leR, leR.leRs]
end
section
/- 95: octant/sextant.width -/
def s95 : SC :=
  (.seq (.reg [⟨(some 1), none, .box 24 (.t 0)⟩,
    ⟨(some 2), none, .v (.mov (.c (.int .i64 (0))))⟩])
  (.seq (.reg [⟨(some 3), none, .v (.off (.t 1) 1)⟩,
    ⟨(some 4), none, .v (.load (.t 3) none)⟩,
    ⟨(some 5), none, .v (.off (.t 1) 0)⟩,
    ⟨(some 6), none, .v (.load (.t 5) none)⟩,
    ⟨(some 7), none, .v (.bin .sub (.t 4) (.t 6))⟩,
    ⟨(some 2), none, .v (.mov (.t 7))⟩])
  .ret))
def r95 : List RV := [.t 2]
def n95 : Nat := 8
theorem k95 : (Try.f95.body.bind (cC Try.prog), cR Try.prog Try.f95.results.toList, Try.f95.ntmps) = (some s95, some r95, 8) := by kernel_rfl
theorem q95 : Known Try.prog 95 := ⟨_, Try.func95, by decide, by simp [Try.f95]⟩

/- 97: octant/sextant.wider -/
def s97 : SC :=
  (.seq (.reg [⟨(some 2), none, .box 24 (.t 0)⟩,
    ⟨(some 3), none, .box 24 (.t 1)⟩,
    ⟨(some 4), none, .v (.mov (.c (.lit (.bool false))))⟩])
  (.seq (.drw [(0, ⟨(some 5), none, .v (.load (.t 2) (some 2))⟩, false),
    (1, ⟨(some 6), none, .call (.c (.fn 95 [])) [(.t 5)]⟩, false),
    (2, ⟨(some 7), none, .v (.load (.t 3) (some 2))⟩, false)]
    none
    [⟨(some 8), none, .call (.c (.fn 95 [])) [(.t 7)]⟩,
    ⟨(some 9), none, .v (.bin .gtr (.t 6) (.t 8))⟩,
    ⟨(some 4), none, .v (.mov (.t 9))⟩])
  .ret))
def r97 : List RV := [.t 4]
def n97 : Nat := 10
theorem k97 : (Try.f97.body.bind (cC Try.prog), cR Try.prog Try.f97.results.toList, Try.f97.ntmps) = (some s97, some r97, 10) := by kernel_rfl
theorem q97 : Known Try.prog 97 := ⟨_, Try.func97, by decide, by simp [Try.f97]⟩

/- 64: octant/sextant.classOf -/
def s64 : SC :=
  (.seq (.reg [⟨(some 2), none, .v (.mov (.c (.int .i64 (0))))⟩])
  (.seq (.block 0 (.seq (.reg [⟨(some 4), none, .v (.mov (.t 0))⟩,
    ⟨(some 5), none, .v (.bin .leq (.t 4) (.c (.int .i64 (40))))⟩,
    ⟨(some 3), none, .v (.mov (.t 5))⟩])
  (.cond (.t 3)
    (.seq (.reg [⟨(some 2), none, .v (.mov (.c (.int .i64 (1))))⟩])
    .ret)
    (.seq (.reg [⟨(some 7), none, .v (.mov (.t 0))⟩,
      ⟨(some 8), none, .v (.bin .leq (.t 7) (.c (.int .i64 (200))))⟩,
      ⟨(some 6), none, .v (.mov (.t 8))⟩])
    (.cond (.t 6)
      (.seq (.reg [⟨(some 2), none, .v (.mov (.c (.int .i64 (2))))⟩])
      .ret)
      .skip)))))
  (.seq (.reg [⟨(some 2), none, .v (.mov (.c (.int .i64 (3))))⟩])
  .ret)))
def r64 : List RV := [.t 2]
def n64 : Nat := 9
theorem k64 : (Try.f64.body.bind (cC Try.prog), cR Try.prog Try.f64.results.toList, Try.f64.ntmps) = (some s64, some r64, 9) := by kernel_rfl
theorem q64 : Known Try.prog 64 := ⟨_, Try.func64, by decide, by simp [Try.f64]⟩

/- 96: octant/sextant.best[octant/api.Span] -/
def s96 : SC :=
  (.seq (.reg [⟨(some 4), none, .box 24 (.t 1)⟩,
    ⟨(some 6), none, .new 24 [(.int .i64 (0)), (.int .i64 (0))]⟩])
  (.seq (.seq (.reg [⟨(some 9), none, .v (.mov (.t 2))⟩,
    ⟨(some 10), none, .v (.len (.t 9))⟩,
    ⟨(some 11), none, .v (.mov (.c (.int .i64 (0))))⟩])
  (.block 0 (.loop
    (.seq (.reg [⟨(some 12), none, .v (.bin .lss (.t 11) (.t 10))⟩])
    (.seq (.cond (.t 12)
      .skip
      (.exit 0))
    (.seq (.block 1 (.seq (.reg [⟨(some 13), none, .v (.ixa (.t 9) (.t 11) 2)⟩,
      ⟨(some 14), none, .v (.load (.t 13) (some 2))⟩,
      ⟨(some 8), none, .new 24 [(.int .i64 (0)), (.int .i64 (0))]⟩,
      ⟨none, none, .store 2 (.t 8) (.t 14)⟩])
    (.seq (.reg [⟨(some 15), none, .v (.mov (.t 0))⟩,
      ⟨(some 16), none, .v (.load (.t 8) (some 2))⟩,
      ⟨(some 17), none, .v (.load (.t 4) (some 2))⟩,
      ⟨(some 18), none, .call (.t 15) [(.t 16), (.t 17)]⟩])
    (.cond (.t 18)
      (.reg [⟨(some 19), none, .v (.load (.t 8) (some 2))⟩,
        ⟨none, none, .store 2 (.t 4) (.t 19)⟩])
      .skip))))
    (.reg [⟨(some 20), none, .v (.bin .add (.t 11) (.c (.int .i64 (1))))⟩,
      ⟨(some 11), none, .v (.mov (.t 20))⟩])))))))
  (.seq (.reg [⟨(some 21), none, .v (.load (.t 4) (some 2))⟩,
    ⟨none, none, .store 2 (.t 6) (.t 21)⟩])
  .ret)))
def r96 : List RV := [.c 6 (some 2)]
def n96 : Nat := 22
theorem k96 : (Try.f96.body.bind (cC Try.prog), cR Try.prog Try.f96.results.toList, Try.f96.ntmps) = (some s96, some r96, 22) := by kernel_rfl
theorem q96 : Known Try.prog 96 := ⟨_, Try.func96, by decide, by simp [Try.f96]⟩


def F95 : FC := fun args => match args with
  | [.agg [.int .i64 a, .int .i64 b]] => some (-9223372036854775808 ≤ b - a ∧ b - a ≤ 9223372036854775807, .int .i64 (b - a))
  | _ => none
theorem p95 : PureOk Try.prog 95 (fcC F95) := by
  refine pure_of (T := []) trivial Try.func95 k95 ?_
  intro args K hC
  unfold fcC F95 at hC
  split at hC <;> first | (exact hC.elim) | skip
  rename_i h
  split at h <;> first | (cases h; done) | skip
  cases h
  obtain ⟨q, hK⟩ := hC
  simp only [inr64, e_reg, e_seq, e_ret, o_nil, o_cons, gd_none, putK_e, runK_e, vK_e, boxK_e, evh_v, evh_box, seqK_n, ends_r, endK1_e, endK2_e, evp, bin, gt, gq, st, putf, X.get, mkfr, rep, rdR, tupled, clV, clS, clo, ld, lda, cs1, gb, pb, ln, undef, Nat.reduceSub, Nat.reduceAdd, true_and, s95, r95]
  exact ⟨q, res hK (by simp [leR])⟩
def F97 : FC := fun args => match args with
  | [.agg [.int .i64 a, .int .i64 b], .agg [.int .i64 c, .int .i64 d]] => some ((-9223372036854775808 ≤ b - a ∧ b - a ≤ 9223372036854775807) ∧ (-9223372036854775808 ≤ d - c ∧ d - c ≤ 9223372036854775807), .bool (decide (d - c < b - a)))
  | _ => none
theorem p97 : PureOk Try.prog 97 (fcC F97) := by
  refine pure_of (T := [(95, .fc F95)]) ⟨⟨p95, q95⟩, trivial⟩ Try.func97 k97 ?_
  intro args K hC
  unfold fcC F97 at hC
  split at hC <;> first | (exact hC.elim) | skip
  rename_i h
  split at h <;> first | (cases h; done) | skip
  cases h
  obtain ⟨⟨q1, q2⟩, hK⟩ := hC
  simp only [e_reg, e_drw, e_seq, e_ret, o_nil, o_cons, gd_none, putK_e, runK_e, vK_e, boxK_e, conK_e, callK_e, evh_v, evh_box, evh_call, dX_e, dG_t, d_nil, d_cons, tlK_n, seqK_n, ends_r, endK1_e, endK2_e, gam_e, gamK_f, gamq_e, gamqK_f, pc_e, pcK_e, fcC_e, fcK_e, evp, bin, gt, st, putf, X.get, gets, ap, mkfr, rep, rdR, tupled, clV, clL, clS, clo, clo.clos, ld, lda, tk, dr, cs1, gb, pb, ln, lk, evq, gdl, undef, Bool.and_true, Nat.reduceSub, Nat.reduceAdd, beq_self_eq_true, true_and, s97, r97, F95]
  exact ⟨q1, q2, res hK (by simp [leR])⟩
def clsI (x : Int) : Int := if x ≤ 40 then 1 else if x ≤ 200 then 2 else 3
def F64 : FC := fun args => match args with
  | [.int .i64 x] => some (True, .int .i64 (clsI x))
  | _ => none
theorem p64 : PureOk Try.prog 64 (fcC F64) := by
  refine pure_of (T := []) trivial Try.func64 k64 ?_
  intro args K hC
  unfold fcC F64 at hC
  split at hC <;> first | (exact hC.elim) | skip
  rename_i h
  split at h <;> first | (cases h; done) | skip
  cases h
  obtain ⟨-, hK⟩ := hC
  simp only [e_skip, e_reg, e_seq, e_cond, e_block, e_ret, o_nil, o_cons, gd_none, putK_e, runK_e, vK_e, evh_v, seqK_n, seqK_r, condK_b, blockK_n, blockK_r, ends_r, endK1_e, endK2_e, evp, bin, gt, st, putf, X.get, mkfr, rep, rdR, tupled, clV, clS, clo, undef, Nat.reduceSub, true_and, decide_eq_true_eq, decide_eq_false_iff_not, s64, r64]
  refine ⟨fun h => ?_, fun h => ⟨fun h2 => ?_, fun h2 => ?_⟩⟩
  · exact res hK (by simp [leR, clsI, h])
  · exact res hK (by simp [leR, clsI, h, h2])
  · exact res hK (by simp [leR, clsI, h, h2])
/-- The widest of a span and the first of several, of equal ones the first. -/
def bst (s : Int × Int) (L : List (Int × Int)) : Nat → Int × Int
  | 0 => s
  | i + 1 => if (bst s L i).2 - (bst s L i).1 < hi L i - lo L i then (lo L i, hi L i) else bst s L i
def bd9 (s : Int × Int) : Prop := (-1000000000 ≤ s.1 ∧ s.1 ≤ 1000000000) ∧ (-1000000000 ≤ s.2 ∧ s.2 ≤ 1000000000)
theorem bst_bnd {s : Int × Int} {L : List (Int × Int)} (h0 : bd9 s) (h : bnd9 L) : ∀ i : Nat, bd9 (bst s L i)
  | 0 => h0
  | i + 1 => by
    simp only [bst]
    split
    · exact h i
    · exact bst_bnd h0 h i
def C96 : PC := fun args K => ∃ (s : Int × Int) (L : List (Int × Int)) (f : Nat → List SV), args = [.fn 97 [], .agg [.int .i64 s.1, .int .i64 s.2], .rd 2 L.length f] ∧ (∀ i, i < L.length → f i = rowsS L i) ∧ bd9 s ∧ bnd9 L ∧ L.length ≤ 20 ∧
  K (.agg [.int .i64 (bst s L L.length).1, .int .i64 (bst s L L.length).2])
theorem p96 : PureOk Try.prog 96 C96 := by
  refine pure_of (T := [(97, .fc F97)]) ⟨⟨p97, q97⟩, trivial⟩ Try.func96 k96 ?_
  rintro args K ⟨s, L, f, rfl, hf, hs, hb, hl, hK⟩
  simp only [e_reg, e_seq, e_block, e_loop, o_nil, o_cons, gd_none, putK_e, runK_e, vK_e, boxK_e, evh_v, evh_new, evh_box, seqK_n, evp, gt, st, putf, X.get, mkfr, rep, lens, cs1, pb, ln, undef, Nat.reduceSub, Nat.reduceAdd, true_and, s96, r96]
  refine loop_at2 (G := Nat) (fun i => [(11, .int .i64 i)]) (fun i => [.box 24 [.int .i64 (bst s L i).1, .int .i64 (bst s L i).2], .box 24 [.int .i64 0, .int .i64 0]]) (fun i => i ≤ L.length) (fun i => L.length - i) 0 (Nat.zero_le _) ?_
  (intro fr1 hf1; simp only [forget, dstC, dstO, st] at hf1; subst hf1)
  refine ⟨?_, ?_⟩
  · refine Lw_re 2 [] (Nat.zero_le _) (by simp [ln]) (by simp [ln]) rfl ?_ ?_
    · simp only [reL, reX, inb, inb.inbs, ln, sts, st, Bool.and_self, Nat.reduceLT, Nat.reduceAdd, decide_true, and_self, Int.natCast_zero, implies_true]
    · simp only [reL, reX, reH, reB, reN, inb, and_self, bst]
  · intro i hi1
    by_cases ha : i < L.length
    · have f0 := hf i ha
      have h1 := bst_bnd hs hb i
      have h2 := hb i
      unfold bd9 at h1
      simp only [inr64, e_skip, e_reg, and_self, e_seq, e_cond, e_block, e_exit, e_ret, o_nil, o_cons, gd_none, putK_e, runK_e, vK_e, storeK3_e, storeK2_e, storeK_e, conK_e, callK_e, evh_v, evh_new, evh_store, evh_call, loopK_n, loopK_x, seqK_n, seqK_x, condK_b, exitK_t, blockK_x, blockK_n, ends_r, endK1_e, endK2_e, gam_e, gamK_f, pc_e, pcK_e, fcC_e, fcK_e, evp, bin, gt, st, putf, X.get, gets, ap, rdR, tupled, clV, clL, clS, clo, ld, lda, ixs, tk, dr, sp, sp.spl, ll, cs1, one, allOne, gb, sb, pb, ln, lk, Bool.and_true, Nat.reduceAdd, beq_self_eq_true, true_and, decide_eq_true_eq, decide_eq_false_iff_not, sts, Int.toNat_natCast, f0, rowsS, F97]
      refine ⟨fun h => ⟨by omega, by omega, fun hw => ⟨by omega, ?_⟩, fun hw => ⟨by omega, ?_⟩⟩, fun h => by exfalso; omega⟩
      · have e : bst s L (i + 1) = (lo L i, hi L i) := by rw [bst, if_pos hw]
        refine Nx.mk (i + 1) (by show i + 1 ≤ L.length; omega) (by show L.length - (i + 1) < L.length - i; omega) (Lw_re 2 [] (Nat.zero_le _) (by simp [ln]) (by simp [ln]) rfl ?_ ?_)
        · simp only [reL, reX, inb, inb.inbs, Bool.and_self, Nat.reduceLT, decide_true, and_self, Int.natCast_add, Int.natCast_one, implies_true]
        · simp only [reL, reX, reH, reB, reN, inb, and_self, e]
      · have e : bst s L (i + 1) = bst s L i := by rw [bst, if_neg hw]
        refine Nx.mk (i + 1) (by show i + 1 ≤ L.length; omega) (by show L.length - (i + 1) < L.length - i; omega) (Lw_re 2 [] (Nat.zero_le _) (by simp [ln]) (by simp [ln]) rfl ?_ ?_)
        · simp only [reL, reX, inb, inb.inbs, Bool.and_self, Nat.reduceLT, decide_true, and_self, Int.natCast_add, Int.natCast_one, implies_true]
        · simp only [reL, reX, reH, reB, reN, inb, and_self, e]
    · have : i = L.length := by omega
      subst this
      simp only [e_skip, e_reg, and_self, e_seq, e_cond, e_block, e_exit, e_ret, o_nil, o_cons, gd_none, putK_e, runK_e, vK_e, storeK3_e, storeK2_e, storeK_e, evh_v, evh_store, loopK_x, seqK_n, seqK_x, condK_b, exitK_t, blockK_x, ends_r, endK1_e, endK2_e, evp, bin, gt, st, putf, X.get, rdR, tupled, clV, clL, clS, clo, ld, lda, ixs, tk, dr, sp, sp.spl, ll, cs1, one, allOne, gb, sb, Bool.and_true, Nat.reduceAdd, beq_self_eq_true, true_and, decide_eq_true_eq, decide_eq_false_iff_not, sts, Int.toNat_natCast]
      refine ⟨fun h => by omega, fun h => res hK (by simp [leR, leR.leRs])⟩
/-- A row of structs of two numbers, as a list. -/
def Tof (n : Nat) (f : Nat → List SV) : List (Int × Int) := (List.range n).map fun i => (rlo f i, rhi f i)
theorem Tof_rows {L : List (Int × Int)} : Tof L.length (rowsS L) = L := by
  refine List.ext_getElem (by simp [Tof]) fun i h1 h2 => ?_
  simp [Tof, rlo_rows, rhi_rows, lo, hi, List.getD, h2]
def F56 : FC := fun args => match args with
  | [.agg [.int .i64 s, .rd 2 n f, .int .i64 a, .int .i64 b, .int .i64 w, .rd 2 m g], .agg [.int .i64 x, .int .i64 set]] =>
    some ((∃ T S, n = T.length ∧ f = rowsS T ∧ m = S.length ∧ g = rowsS S) ∧ Sx.ok ⟨s, Tof n f, a, b, w, Tof m g⟩ ∧ Sx.rdg ⟨s, Tof n f, a, b, w, Tof m g⟩ x set,
      .agg [.int .i64 (rdS ⟨s, Tof n f, a, b, w, Tof m g⟩ x set).1, .int .i64 (rdS ⟨s, Tof n f, a, b, w, Tof m g⟩ x set).2])
  | _ => none
theorem p56' : PureOk Try.prog 56 (fcC F56) := by
  refine pweak p56 fun args K hC => ?_
  unfold fcC F56 at hC
  split at hC <;> first | (exact hC.elim) | skip
  rename_i h
  split at h <;> first | (cases h; done) | skip
  cases h
  obtain ⟨⟨⟨T, S, rfl, rfl, rfl, rfl⟩, hok, hr⟩, hK⟩ := hC
  simp only [Tof_rows] at hok hr hK
  exact ⟨_, _, _, rfl, hok, hr, hK⟩
end
section
/- 63: (octant/sextant.sextant).fault -/
def s63 : SC :=
  (.seq (.reg [⟨(some 1), none, .box 89 (.t 0)⟩,
    ⟨(some 2), none, .v (.mov (.c (.int .i64 (0))))⟩])
  (.seq (.reg [⟨(some 3), none, .v (.mov (.c (.lit (.slice none 0 0))))⟩])
  (.seq (.seq (.reg [⟨(some 5), none, .v (.off (.t 1) 0)⟩,
    ⟨(some 6), none, .v (.off (.t 5) 1)⟩,
    ⟨(some 7), none, .v (.load (.t 6) none)⟩,
    ⟨(some 8), none, .v (.len (.t 7))⟩,
    ⟨(some 9), none, .v (.mov (.c (.int .i64 (0))))⟩])
  (.block 0 (.loop
    (.seq (.reg [⟨(some 10), none, .v (.bin .lss (.t 9) (.t 8))⟩])
    (.seq (.cond (.t 10)
      .skip
      (.exit 0))
    (.seq (.block 1 (.seq (.reg [⟨(some 11), none, .v (.mov (.t 9))⟩,
      ⟨(some 4), none, .v (.mov (.t 11))⟩])
    (.drw [(0, ⟨(some 12), none, .v (.mov (.t 3))⟩, false),
      (1, ⟨(some 13), none, .v (.load (.t 1) (some 6))⟩, false),
      (2, ⟨(some 14), none, .v (.mov (.t 4))⟩, false),
      (3, ⟨(some 15), none, .v (.off (.t 1) 0)⟩, false),
      (4, ⟨(some 16), none, .v (.off (.t 15) 0)⟩, false),
      (5, ⟨(some 17), none, .v (.load (.t 16) none)⟩, false),
      (6, ⟨(some 18), none, .v (.bin .mul (.t 14) (.t 17))⟩, false),
      (7, ⟨(some 19), none, .v (.load (.t 1) (some 6))⟩, false),
      (8, ⟨(some 20), none, .call (.c (.fn 88 [])) [(.t 19)]⟩, false),
      (9, ⟨(some 21), none, .bld [(.int .i64 (0)), (.int .i64 (0))] [(0, 1, (.t 18)), (1, 1, (.t 20))]⟩, false),
      (10, ⟨(some 22), none, .call (.c (.fn 56 [])) [(.t 13), (.t 21)]⟩, false)]
      (some ⟨(some 23), none, .bsl 24 1 [(.int .i64 (0)), (.int .i64 (0))] [(0, 2, (.t 22))]⟩)
      [⟨(some 24), none, .app 24 2 16 (.t 12) (.t 23)⟩,
      ⟨(some 3), none, .v (.mov (.t 24))⟩])))
    (.reg [⟨(some 25), none, .v (.bin .add (.t 9) (.c (.int .i64 (1))))⟩,
      ⟨(some 9), none, .v (.mov (.t 25))⟩])))))))
  (.seq (.shut [3, 26, 27, 29, 28, 30, 31, 32]
    (.drw [(0, ⟨(some 26), none, .v (.mov (.t 3))⟩, false),
      (1, ⟨(some 27), none, .v (.ixa (.t 26) (.c (.int .i64 (0))) 2)⟩, false),
      (2, ⟨(some 28), none, .v (.load (.t 27) (some 2))⟩, false),
      (3, ⟨(some 29), none, .v (.mov (.t 3))⟩, false),
      (4, ⟨(some 30), none, .slc (.t 29) (some (.c (.int .i64 (1)))) none none 2⟩, false)]
      none
      [⟨(some 31), none, .call (.c (.fn 96 [])) [(.c (.fn 97 [])), (.t 28), (.t 30)]⟩,
      ⟨(some 32), none, .call (.c (.fn 95 [])) [(.t 31)]⟩,
      ⟨(some 2), none, .v (.mov (.t 32))⟩]))
  .ret))))
def r63 : List RV := [.t 2]
def n63 : Nat := 33
theorem k63 : (Try.f63.body.bind (cC Try.prog), cR Try.prog Try.f63.results.toList, Try.f63.ntmps) = (some s63, some r63, 33) := by kernel_rfl
theorem q63 : Known Try.prog 63 := ⟨_, Try.func63, by decide, by simp [Try.f63]⟩


/-- All shades. -/
def Sx.all (v : Sx) : Int := ((2 ^ v.S.length : Nat) : Int) - 1
/-- The span at an angle of the table, with all shades. -/
def wd (v : Sx) (k : Nat) : Int × Int := rdS v (k * v.step) v.all
def rowW (v : Sx) (k : Nat) : List SV := [.int .i64 (wd v k).1, .int .i64 (wd v k).2]
theorem rdg_at {v : Sx} (hok : v.ok) {k : Nat} (hk : k < v.T.length) : v.rdg (k * v.step) v.all := by
  have h1 := hok.1.1
  have p := pow6 (m := v.S.length) (by have := hok.2.2.2.1; omega)
  have a1 := Int.mul_nonneg (show (0 : Int) ≤ k by omega) (show 0 ≤ v.step by omega)
  have a2 := Int.mul_le_mul_of_nonneg_right (show (k : Int) ≤ (v.T.length : Int) - 1 by omega) (show 0 ≤ v.step by omega)
  rw [Int.mul_comm ((v.T.length : Int) - 1)] at a2
  unfold Sx.rdg Sx.all
  exact ⟨⟨a1, a2⟩, by omega, by omega⟩
theorem wd_bnd {v : Sx} (hok : v.ok) {k : Nat} (hk : k < v.T.length) : (-1000000 ≤ (wd v k).1 ∧ (wd v k).1 ≤ 1000000) ∧ (-1000000 ≤ (wd v k).2 ∧ (wd v k).2 ≤ 1000000) := by
  have h1 := hok.1.1
  have h2 := hok.1.2.1
  have hb := stepB h1 h2
  have hc := corE_bnd hok (k * v.step)
  have hs := shd_bnd hok v.all v.S.length
  have h6 := hok.2.2.2.1
  have hab := hok.2.1
  have hr := (rdg_at hok hk).1
  unfold wd rdS
  simp only
  omega
def lsW (v : Sx) : List (Int × Int) := (List.range v.T.length).map (wd v)
theorem lsW_len {v : Sx} : (lsW v).length = v.T.length := by simp [lsW]
theorem lsW_get {v : Sx} {i : Nat} (h : i < v.T.length) : (lsW v).getD i (0, 0) = wd v i := by simp [lsW, List.getD, h]
/-- The greatest width. -/
def mxW (v : Sx) : Nat → Int
  | 0 => 0
  | k + 1 => if mxW v k < (wd v k).2 - (wd v k).1 then (wd v k).2 - (wd v k).1 else mxW v k
theorem shd_le {v : Sx} (hok : v.ok) (set : Int) : ∀ i : Nat, (shd v set i).1 ≤ (shd v set i).2
  | 0 => by have := hok.2.2.1; simp only [shd]; omega
  | i + 1 => by
    have := shd_le hok set i
    have := spS (by omega) hok.2.2.2.2 i
    simp only [shd]
    split
    · simp only; omega
    · assumption
theorem wd0_le {v : Sx} (hok : v.ok) : (wd v 0).1 ≤ (wd v 0).2 := by
  have h1 := shd_le hok v.all v.S.length
  have h2 := spS (by omega) hok.1.2.2.1 0
  have h3 := hok.2.1
  have e : ((0 : Nat) : Int) * v.step = 0 := by simp
  have e2 : corE v 0 = (lo v.T 0, hi v.T 0) := by simp [corE, kk, cor]
  unfold wd rdS
  rw [e, e2]
  simp only
  omega
theorem bst_mx {v : Sx} (hok : v.ok) : ∀ i : Nat, i + 1 ≤ v.T.length → (bst (wd v 0) ((lsW v).drop 1) i).2 - (bst (wd v 0) ((lsW v).drop 1) i).1 = mxW v (i + 1)
  | 0, h => by
    have := wd0_le hok
    have e : mxW v 0 = 0 := rfl
    rw [bst, mxW, e]
    by_cases h9 : 0 < (wd v 0).2 - (wd v 0).1
    · rw [if_pos h9]
    · rw [if_neg h9]; omega
  | i + 1, h => by
    have ih := bst_mx hok i (by omega)
    have e : ((lsW v).drop 1).getD i (0, 0) = wd v (i + 1) := by
      rw [← lsW_get (show i + 1 < v.T.length by omega)]
      simp [List.getD]
    rw [bst, mxW, ← ih]
    unfold lo hi
    rw [e]
    split <;> rfl
theorem bst_mx2 {v : Sx} (hok : v.ok) {n i : Nat} (h : n = i + 1) (hn : n ≤ v.T.length) : (bst (wd v 0) ((lsW v).drop 1) i).2 - (bst (wd v 0) ((lsW v).drop 1) i).1 = mxW v n := by
  subst h; exact bst_mx hok i hn
theorem wd_eq {v : Sx} (k : Nat) : wd v k = rdS v (k * v.step) v.all := rfl
attribute [local irreducible] wd bst mxW lsW
def C63 : PC := fun args K => ∃ v : Sx, args = [v.sv] ∧ v.ok ∧ K (.int .i64 (mxW v v.T.length))
theorem p63 : PureOk Try.prog 63 C63 := by
  refine pure_of (T := [(88, .fc F88), (56, .fc F56), (96, .pc C96), (95, .fc F95)]) ⟨⟨p88, q88⟩, ⟨p56', q56⟩, ⟨p96, q96⟩, ⟨p95, q95⟩, trivial⟩ Try.func63 k63 ?_
  rintro args K ⟨v, rfl, hok, hK⟩
  have hrd := fun k hk => @rdg_at v hok k hk
  have hwb := fun k hk => @wd_bnd v hok k hk
  have hwd := fun k => @wd_eq v k
  obtain ⟨step, T, a, b, w, S⟩ := v
  have h1 := hok.1.1
  have h2 := hok.1.2.1
  have h6 := hok.2.2.2.1
  simp only at h1 h2 h6 hrd hwb hwd
  have hb := stepB h1 h2
  simp only [Sx.sv]
  simp only [e_reg, e_seq, e_block, e_loop, o_nil, o_cons, gd_none, putK_e, runK_e, vK_e, boxK_e, evh_v, evh_box, seqK_n, evp, gt, gq, st, putf, X.get, mkfr, rep, ld, lda, lens, cs1, gb, pb, ln, undef, Nat.reduceSub, Nat.reduceAdd, true_and, s63, r63]
  refine loop_at2 (G := Nat) (fun i => [(9, .int .i64 i), (3, .own 1)]) (fun i => [.box 89 [.int .i64 step, .rd 2 T.length (rowsS T), .int .i64 a, .int .i64 b, .int .i64 w, .rd 2 S.length (rowsS S)], .orw 24 2 i (rowW ⟨step, T, a, b, w, S⟩)]) (fun i => i ≤ T.length) (fun i => T.length - i) 0 (Nat.zero_le _) ?_
  (intro fr1 hf1; simp only [forget, dstC, dstO, dstD, dst1, st] at hf1; subst hf1)
  refine ⟨?_, ?_⟩
  · refine Lw_re 1 [none] (Nat.zero_le _) (by simp [ln]) (by simp [ln]) rfl ?_ ?_
    · simp only [reL, reX, rn, List.getElem?_cons_zero, Nat.reduceSub, Nat.lt_irrefl, Nat.le_refl, reduceCtorEq, or_true, inb, inb.inbs, ln, sts, st, Bool.and_self, Nat.reduceLT, Nat.reduceAdd, decide_true, and_self, Int.natCast_zero, implies_true]
    · simp only [reL, reX, reH, reB, reN, newB, inb, true_and, and_true, and_self]
      exact ⟨fun _ _ => trivial, fun _ _ => trivial⟩
  · intro i hi1
    have hal : ((2 ^ S.length : Nat) : Int) - 1 = Sx.all ⟨step, T, a, b, w, S⟩ := rfl
    by_cases ha : i < T.length
    · simp only [inr64, ↓reduceIte, e_skip, e_reg, e_drw, e_seq, e_cond, e_block, e_exit, e_shut, shutH, shut1, shutB, o_nil, o_cons, gd_none, putK_e, runK_e, vK_e, appK2_or, appK_e, evh_v, evh_app, dX_e, dG_t, d_nil, d_cons, creK_e, tlK_s, evc_e, loopK_n, loopK_x, seqK_n, seqK_x, condK_b, exitK_t, blockK_x, blockK_n, gamq_e, gamqK_f, evp, bin, gt, gq, st, putf, X.get, gets, getp, ap, clo, clo.clos, ld, lda, ixs, tk, dr, sp, sp.spl, lay, ll, cs1, one, allOne, gb, sb, pb, ln, lk, evq, gdl, crv, Bool.and_true, Nat.reduceAdd, Nat.reduceBEq, beq_self_eq_true, true_and, decide_eq_true_eq, decide_eq_false_iff_not, sts, F88, F56, Tof_rows, hal]
      have hr := (hrd i ha).1
      simp only at hr
      refine ⟨fun _ => ⟨by omega, by omega, ⟨⟨T, S, rfl, rfl, rfl, rfl⟩, hok, hrd i ha⟩, by omega, by omega, ?_⟩, fun h => by exfalso; omega⟩
      refine Nx.mk (i + 1) (by show i + 1 ≤ T.length; omega) (by show T.length - (i + 1) < T.length - i; omega) (Lw_re 1 [some 3] (Nat.zero_le _) (by simp [ln]) (by simp [ln]) rfl ?_ ?_)
      · simp only [reL, reX, rn, List.getElem?_cons_zero, Nat.reduceSub, Nat.lt_irrefl, Nat.le_refl, and_false, or_true, inb, inb.inbs, ln, Bool.and_self, Nat.reduceLT, Nat.reduceAdd, decide_true, and_self, Int.natCast_add, Int.natCast_one, implies_true]
      · simp only [reL, reX, reH, reB, reM, reN, gb, Nat.reduceLeDiff, inb, ln, Nat.reduceLT, Nat.reduceAdd, true_and, and_true, and_self]
        refine ⟨⟨fun _ _ => trivial, fun _ _ => trivial⟩, fun j hj => ?_⟩
        by_cases hj' : j < i
        · rw [if_pos hj']
        · have : j = i := by omega
          subst this
          rw [if_neg hj']
          simp only [rowW, hwd]
    · have : i = T.length := by omega
      subst this
      have e0 : Int.toNat 0 = 0 := rfl
      have e1 : ((T.length : Int) - 1).toNat = T.length - 1 := by omega
      have e2 : Int.toNat 1 = 1 := rfl
      simp only [inr64, e_skip, e_reg, e_drw, e_seq, e_cond, e_block, e_exit, e_shut, shutH, shut1, shutB, slQ, o_nil, o_cons, gd_none, putK_e, runK_e, vK_e, conK_e, callK_e, evh_v, evh_call, bnd, slv, od_none, od_some, dX_e, dG_t, d_nil, d_cons, tlK_n, loopK_x, seqK_n, seqK_x, condK_b, exitK_t, blockK_x, gam_e, gamK_f, gamK_p, gamq_e, gamqK_f, pc_e, pcK_e, evp, bin, gt, gq, st, putf, X.get, gets, ap, clV, clL, clS, clo, clo.clos, ld, lda, ixs, tk, dr, gb, sb, lk, evq, gdl, Bool.and_true, Nat.reduceAdd, Nat.reduceBEq, beq_self_eq_true, true_and, decide_eq_true_eq, decide_eq_false_iff_not, sts, rowW, e0, e1, e2]
      refine ⟨fun h => by omega, fun _ => ?_⟩
      have hl : ((lsW ⟨step, T, a, b, w, S⟩).drop 1).length = T.length - 1 := by rw [List.length_drop, lsW_len]
      have hget : ∀ j, j < T.length - 1 → ((lsW ⟨step, T, a, b, w, S⟩).drop 1).getD j (0, 0) = wd ⟨step, T, a, b, w, S⟩ (1 + j) := fun j hj => by
        rw [← lsW_get (v := ⟨step, T, a, b, w, S⟩) (show 1 + j < T.length by omega)]
        simp [List.getD, Nat.add_comm]
      have hw0 := hwb 0 (by omega)
      refine ⟨by omega, by omega, wd ⟨step, T, a, b, w, S⟩ 0, (lsW ⟨step, T, a, b, w, S⟩).drop 1, fun i => [.int .i64 (wd ⟨step, T, a, b, w, S⟩ (1 + i)).1, .int .i64 (wd ⟨step, T, a, b, w, S⟩ (1 + i)).2], by rw [hl], fun j hj => ?_, ?_, fun j => ?_, by omega, ?_⟩
      · rw [hl] at hj
        simp only [rowsS, lo, hi, hget j hj]
      · unfold bd9; omega
      · unfold lo hi
        by_cases hj : j < T.length - 1
        · rw [hget j hj]
          have := hwb (1 + j) (by omega)
          omega
        · have : ((lsW ⟨step, T, a, b, w, S⟩).drop 1).getD j (0, 0) = (0, 0) := by
            rw [List.getD_eq_getElem?_getD, List.getElem?_eq_none (by omega)]; rfl
          rw [this]; simp
      · have hm := bst_mx2 hok (n := T.length) (i := T.length - 1) (by omega) (Nat.le_refl _)
        have hbb := bst_bnd (s := wd ⟨step, T, a, b, w, S⟩ 0) (L := (lsW ⟨step, T, a, b, w, S⟩).drop 1) (by unfold bd9; omega) (fun j => by
          unfold lo hi
          by_cases hj : j < T.length - 1
          · rw [hget j hj]
            have := hwb (1 + j) (by omega)
            omega
          · have : ((lsW ⟨step, T, a, b, w, S⟩).drop 1).getD j (0, 0) = (0, 0) := by
              rw [List.getD_eq_getElem?_getD, List.getElem?_eq_none (by omega)]; rfl
            rw [this]; simp) (T.length - 1)
        unfold bd9 at hbb
        simp only [e_ret, o_nil, o_cons, gd_none, putK_e, runK_e, vK_e, evh_v, seqK_n, ends_r, endK1_e, endK2_e, pcK_e, fcC_e, fcK_e, evp, gt, st, putf, X.get, rdR, tupled, clV, clL, clS, clo, true_and, F95, hl]
        refine ⟨by omega, res hK ?_⟩
        simp only [leR, true_and]
        first | exact hm | (rw [hm])
end
section
/- 19: octant/sextant.Class -/
def s19 : SC :=
  (.seq (.reg [⟨(some 1), none, .box 26 (.t 0)⟩,
    ⟨(some 2), none, .v (.mov (.c (.int .i64 (0))))⟩,
    ⟨(some 3), none, .v (.mov (.c (.int .i64 (0))))⟩,
    ⟨(some 4), none, .v (.mov (.c (.int .i64 (0))))⟩])
  (.seq (.seq (.reg [⟨(some 6), none, .v (.load (.t 1) (some 6))⟩,
    ⟨(some 7), none, .call (.c (.fn 17 [])) [(.t 6)]⟩,
    ⟨(some 5), none, .v (.mov (.t 7))⟩])
  (.seq (.reg [⟨(some 8), none, .v (.mov (.t 5))⟩,
    ⟨(some 9), none, .v (.bin .neq (.t 8) (.c (.int .i64 (0))))⟩])
  (.cond (.t 9)
    (.seq (.reg [⟨(some 10), none, .v (.mov (.t 5))⟩,
      ⟨(some 2), none, .v (.mov (.c (.int .i64 (0))))⟩,
      ⟨(some 3), none, .v (.mov (.c (.int .i64 (0))))⟩,
      ⟨(some 4), none, .v (.mov (.t 10))⟩])
    .ret)
    .skip)))
  (.seq (.reg [⟨(some 11), none, .v (.load (.t 1) (some 6))⟩,
    ⟨(some 12), none, .bld [(.int .i64 (0)), (.lit (.slice none 0 0)), (.int .i64 (0)), (.int .i64 (0)), (.int .i64 (0)), (.lit (.slice none 0 0))] [(0, 6, (.t 11))]⟩,
    ⟨(some 13), none, .call (.c (.fn 63 [])) [(.t 12)]⟩,
    ⟨(some 3), none, .v (.mov (.t 13))⟩])
  (.seq (.reg [⟨(some 14), none, .v (.mov (.t 3))⟩,
    ⟨(some 15), none, .call (.c (.fn 64 [])) [(.t 14)]⟩,
    ⟨(some 16), none, .v (.mov (.t 3))⟩,
    ⟨(some 2), none, .v (.mov (.t 15))⟩,
    ⟨(some 3), none, .v (.mov (.t 16))⟩,
    ⟨(some 4), none, .v (.mov (.c (.int .i64 (0))))⟩])
  .ret))))
def r19 : List RV := [.t 2, .t 3, .t 4]
def n19 : Nat := 17
theorem k19 : (Try.f19.body.bind (cC Try.prog), cR Try.prog Try.f19.results.toList, Try.f19.ntmps) = (some s19, some r19, 17) := by kernel_rfl
theorem q19 : Known Try.prog 19 := ⟨_, Try.func19, by decide, by simp [Try.f19]⟩


attribute [local irreducible] wd bst mxW lsW
/-- What Class returns. -/
def clF (v : Sx) : Int := if v.ok then mxW v v.T.length else 0
def clC (v : Sx) : Int := if v.ok then clsI (mxW v v.T.length) else 0
def C19 : PC := fun args K => ∃ v : Sx, args = [v.sv] ∧ K (.tup [.int .i64 (clC v), .int .i64 (clF v), .int .i64 v.chk])
theorem clC_ok {v : Sx} (h : v.ok) : clC v = clsI (mxW v v.T.length) := by unfold clC; rw [if_pos h]
theorem clF_ok {v : Sx} (h : v.ok) : clF v = mxW v v.T.length := by unfold clF; rw [if_pos h]
theorem clC_no {v : Sx} (h : ¬ v.ok) : clC v = 0 := by unfold clC; rw [if_neg h]
theorem clF_no {v : Sx} (h : ¬ v.ok) : clF v = 0 := by unfold clF; rw [if_neg h]
theorem chk_ok' {v : Sx} (h : v.ok) : v.chk = 0 := by unfold Sx.chk; rw [if_pos h]
theorem chk_no {v : Sx} (h : ¬ v.ok) : v.chk = 50 := by unfold Sx.chk; rw [if_neg h]
attribute [local irreducible] clC clF Sx.chk Sx.ok
theorem p19 : PureOk Try.prog 19 C19 := by
  refine pure_of (T := [(17, .pc C17), (63, .pc C63), (64, .fc F64)]) ⟨⟨p17, q17⟩, ⟨p63, q63⟩, ⟨p64, q64⟩, trivial⟩ Try.func19 k19 ?_
  rintro args K ⟨v, rfl, hK⟩
  have hsv : v.sv = .agg [.int .i64 v.step, .rd 2 v.T.length (rowsS v.T), .int .i64 v.a, .int .i64 v.b, .int .i64 v.w, .rd 2 v.S.length (rowsS v.S)] := rfl
  rw [hsv]
  simp only [e_reg, e_seq, o_nil, o_cons, gd_none, putK_e, runK_e, vK_e, boxK_e, conK_e, callK_e, evh_v, evh_box, evh_call, seqK_n, gam_e, gamK_p, pc_e, pcK_e, evp, bin, gt, st, putf, X.get, gets, ap, mkfr, rep, clV, clL, clS, clo, ld, lda, tk, dr, cs1, gb, pb, ln, lk, undef, Nat.reduceSub, beq_self_eq_true, true_and, s19, r19]
  refine ⟨v, rfl, ?_⟩
  by_cases hok : v.ok
  · rw [clC_ok hok, clF_ok hok, chk_ok' hok] at hK
    simp only [not_true_eq_false, e_skip, e_reg, e_seq, e_cond, e_ret, o_nil, o_cons, gd_none, putK_e, runK_e, vK_e, bldK_e, conK_e, callK_e, evh_v, evh_bld, evh_call, seqK_n, seqK_r, condK_b, ends_r, endK1_e, endK2_e, gam_e, gamK_f, gamK_p, pc_e, pcK_e, evp, gt, st, putf, X.get, gets, getp, ap, rdR, tupled, clV, clL, clS, clo, ld, lda, tk, dr, sp, sp.spl, lay, ll, cs1, gb, lk, Bool.not_true, Bool.not_false, Nat.reduceAdd, Nat.reduceBEq, beq_self_eq_true, true_and, decide_eq_true_eq, decide_eq_false_iff_not, Bool.not_eq_eq_eq_not, chk_ok', hok]
    refine ⟨fun h => h.elim, fun _ => ⟨v, rfl, hok, ?_⟩⟩
    simp only [e_ret, o_nil, o_cons, gd_none, putK_e, runK_e, vK_e, evh_v, seqK_n, ends_r, endK1_e, endK2_e, pcK_e, fcC_e, fcK_e, evp, gt, st, putf, X.get, rdR, tupled, clV, clL, clS, clo, true_and, F64]
    exact res hK (by simp [leR, leR.leRs])
  · rw [clC_no hok, clF_no hok, chk_no hok] at hK
    simp only [not_false_eq_true, e_skip, e_reg, e_seq, e_cond, e_ret, o_nil, o_cons, gd_none, putK_e, runK_e, vK_e, bldK_e, conK_e, callK_e, evh_v, evh_bld, evh_call, seqK_n, seqK_r, condK_b, ends_r, endK1_e, endK2_e, gam_e, gamK_f, gamK_p, pc_e, pcK_e, evp, gt, st, putf, X.get, gets, getp, ap, rdR, tupled, clV, clL, clS, clo, ld, lda, tk, dr, sp, sp.spl, lay, ll, cs1, gb, lk, Bool.not_true, Bool.not_false, Nat.reduceAdd, Nat.reduceBEq, beq_self_eq_true, true_and, decide_eq_true_eq, decide_eq_false_iff_not, Bool.not_eq_eq_eq_not, chk_no, hok]
    exact ⟨fun _ => res hK (by simp [leR, leR.leRs]), fun h => absurd h (by decide)⟩
end
section
/- 20: octant/octantref05.Class -/
def s20 : SC :=
  (.seq (.reg [⟨(some 1), none, .box 26 (.t 0)⟩,
    ⟨(some 2), none, .v (.mov (.c (.int .i64 (0))))⟩,
    ⟨(some 3), none, .v (.mov (.c (.int .i64 (0))))⟩,
    ⟨(some 4), none, .v (.mov (.c (.int .i64 (0))))⟩])
  (.seq (.seq (.reg [⟨(some 10), none, .v (.load (.t 1) (some 6))⟩,
    ⟨(some 11), none, .call (.c (.fn 18 [])) [(.t 10)]⟩,
    ⟨(some 5), none, .v (.mov (.t 11))⟩])
  (.seq (.reg [⟨(some 12), none, .v (.mov (.t 5))⟩,
    ⟨(some 13), none, .v (.bin .neq (.t 12) (.c (.int .i64 (0))))⟩])
  (.cond (.t 13)
    (.seq (.reg [⟨(some 14), none, .v (.mov (.t 5))⟩,
      ⟨(some 2), none, .v (.mov (.c (.int .i64 (0))))⟩,
      ⟨(some 3), none, .v (.mov (.c (.int .i64 (0))))⟩,
      ⟨(some 4), none, .v (.mov (.t 14))⟩])
    .ret)
    .skip)))
  (.seq (.reg [⟨(some 6), none, .v (.mov (.c (.int .i64 (0))))⟩])
  (.seq (.seq (.reg [⟨(some 7), none, .v (.mov (.c (.int .i64 (0))))⟩])
  (.block 0 (.loop
    (.seq (.seq (.reg [⟨(some 15), none, .v (.mov (.t 7))⟩,
      ⟨(some 16), none, .v (.off (.t 1) 1)⟩,
      ⟨(some 17), none, .v (.load (.t 16) none)⟩,
      ⟨(some 18), none, .v (.len (.t 17))⟩,
      ⟨(some 19), none, .v (.bin .lss (.t 15) (.t 18))⟩])
    (.cond (.t 19)
      .skip
      (.exit 0)))
    (.seq (.block 1 (.seq (.tre (.op ⟨(some 23), none, .v (.load (.t 1) (some 6))⟩ (.op ⟨(some 24), none, .v (.mov (.t 7))⟩ (.op ⟨(some 25), none, .v (.off (.t 1) 0)⟩ (.op ⟨(some 26), none, .v (.load (.t 25) none)⟩ (.op ⟨(some 27), none, .v (.bin .mul (.t 24) (.t 26))⟩ (.op ⟨(some 28), none, .v (.off (.t 1) 5)⟩ (.op ⟨(some 29), none, .v (.load (.t 28) none)⟩ (.op ⟨(some 30), none, .v (.len (.t 29))⟩ (.op ⟨(some 31), none, .v (.bin .shl (.c (.int .i64 (1))) (.t 30))⟩ (.op ⟨(some 32), none, .v (.bin .sub (.t 31) (.c (.int .i64 (1))))⟩ (.op ⟨(some 33), none, .bld [(.int .i64 (0)), (.int .i64 (0))] [(0, 1, (.t 27)), (1, 1, (.t 32))]⟩ (.op ⟨(some 34), none, .call (.c (.fn 16 [])) [(.t 23), (.t 33)]⟩ (.op ⟨(some 22), none, .v (.mov (.t 34))⟩ (.op ⟨(some 35), none, .v (.ext (.t 22) 0)⟩ (.op ⟨(some 36), none, .v (.ext (.t 22) 1)⟩ (.op ⟨(some 8), none, .new 24 [(.int .i64 (0)), (.int .i64 (0))]⟩ (.op ⟨none, none, .store 2 (.t 8) (.t 35)⟩ (.op ⟨(some 9), none, .v (.mov (.t 36))⟩ .leaf
    .stop)
    .stop)
    .stop)
    .stop)
    .stop)
    .stop)
    (.op ⟨(some 8), none, .new 24 [(.int .i64 (0)), (.int .i64 (0))]⟩ (.op ⟨(some 34), none, .call (.c (.fn 16 [])) [(.t 23), (.t 33)]⟩ (.op ⟨(some 22), none, .v (.mov (.t 34))⟩ (.op ⟨(some 35), none, .v (.ext (.t 22) 0)⟩ (.op ⟨(some 36), none, .v (.ext (.t 22) 1)⟩ (.op ⟨none, none, .store 2 (.t 8) (.t 35)⟩ (.op ⟨(some 9), none, .v (.mov (.t 36))⟩ .leaf
    .stop)
    .stop)
    .stop)
    .stop)
    .stop)
    .stop)
    .stop))
    .stop)
    .stop)
    .stop)
    .stop)
    .stop)
    .stop)
    .stop)
    .stop)
    .stop)
    .stop)
    .stop))
    (.reg [⟨(some 37), none, .v (.mov (.t 6))⟩,
      ⟨(some 38), none, .v (.off (.t 8) 1)⟩,
      ⟨(some 39), none, .v (.load (.t 38) none)⟩,
      ⟨(some 40), none, .v (.off (.t 8) 0)⟩,
      ⟨(some 41), none, .v (.load (.t 40) none)⟩,
      ⟨(some 42), none, .v (.bin .sub (.t 39) (.t 41))⟩,
      ⟨(some 43), none, .v (.max2 (.t 37) (.t 42))⟩,
      ⟨(some 6), none, .v (.mov (.t 43))⟩])))
    (.reg [⟨(some 20), none, .v (.mov (.t 7))⟩,
      ⟨(some 21), none, .v (.bin .add (.t 20) (.c (.int .i64 (1))))⟩,
      ⟨(some 7), none, .v (.mov (.t 21))⟩]))))))
  (.seq (.seq (.reg [⟨(some 44), none, .v (.mov (.t 6))⟩,
    ⟨(some 45), none, .v (.bin .leq (.t 44) (.c (.int .i64 (40))))⟩])
  (.cond (.t 45)
    (.seq (.reg [⟨(some 46), none, .v (.mov (.t 6))⟩,
      ⟨(some 2), none, .v (.mov (.c (.int .i64 (1))))⟩,
      ⟨(some 3), none, .v (.mov (.t 46))⟩,
      ⟨(some 4), none, .v (.mov (.c (.int .i64 (0))))⟩])
    .ret)
    .skip))
  (.seq (.seq (.reg [⟨(some 47), none, .v (.mov (.t 6))⟩,
    ⟨(some 48), none, .v (.bin .leq (.t 47) (.c (.int .i64 (200))))⟩])
  (.cond (.t 48)
    (.seq (.reg [⟨(some 49), none, .v (.mov (.t 6))⟩,
      ⟨(some 2), none, .v (.mov (.c (.int .i64 (2))))⟩,
      ⟨(some 3), none, .v (.mov (.t 49))⟩,
      ⟨(some 4), none, .v (.mov (.c (.int .i64 (0))))⟩])
    .ret)
    .skip))
  (.seq (.reg [⟨(some 50), none, .v (.mov (.t 6))⟩,
    ⟨(some 2), none, .v (.mov (.c (.int .i64 (3))))⟩,
    ⟨(some 3), none, .v (.mov (.t 50))⟩,
    ⟨(some 4), none, .v (.mov (.c (.int .i64 (0))))⟩])
  .ret)))))))
def r20 : List RV := [.t 2, .t 3, .t 4]
def n20 : Nat := 51
theorem k20 : (Try.f20.body.bind (cC Try.prog), cR Try.prog Try.f20.results.toList, Try.f20.ntmps) = (some s20, some r20, 51) := by kernel_rfl
theorem q20 : Known Try.prog 20 := ⟨_, Try.func20, by decide, by simp [Try.f20]⟩


theorem rdV_at {v : Sx} (hok : v.ok) {k : Nat} (hk : k < v.T.length) : rdV v (k * v.step) v.all = wd v k := by
  unfold rdV; rw [if_pos (And.intro hok (rdg_at hok hk))]; rfl
theorem rdE_at {v : Sx} (hok : v.ok) {k : Nat} (hk : k < v.T.length) : rdE v (k * v.step) v.all = 0 := by
  unfold rdE; rw [if_pos hok, if_pos (rdg_at hok hk)]
theorem mxW_le {v : Sx} (hok : v.ok) : ∀ k : Nat, k ≤ v.T.length → 0 ≤ mxW v k ∧ mxW v k ≤ 2000000
  | 0, _ => ⟨Int.le_refl _, by simp [mxW]⟩
  | k + 1, h => by
    have h1 := mxW_le hok k (by omega)
    have h2 := wd_bnd hok (show k < v.T.length by omega)
    rw [mxW]
    by_cases h9 : mxW v k < (wd v k).2 - (wd v k).1
    · rw [if_pos h9]; omega
    · rw [if_neg h9]; exact h1
theorem mxW_s {v : Sx} {k : Nat} : mxW v (k + 1) = if mxW v k < (wd v k).2 - (wd v k).1 then (wd v k).2 - (wd v k).1 else mxW v k := rfl
theorem mxW_0 {v : Sx} : mxW v 0 = 0 := rfl
theorem Sx.sv_eq {v : Sx} : v.sv = .agg [.int .i64 v.step, .rd 2 v.T.length (rowsS v.T), .int .i64 v.a, .int .i64 v.b, .int .i64 v.w, .rd 2 v.S.length (rowsS v.S)] := rfl
theorem ok_all {v : Sx} (hok : v.ok) : v.S.length ≤ 6 ∧ 2 ≤ v.T.length ∧ v.T.length ≤ 12 ∧ 1 ≤ v.step ∧ v.step ≤ 72000 := by
  have := hok.1.1; have := hok.1.2.1; have := hok.2.2.2.1; omega
theorem all_eq {v : Sx} : ((2 ^ v.S.length : Nat) : Int) - 1 = v.all := rfl
attribute [local irreducible] wd bst mxW lsW clC clF Sx.chk Sx.ok Sx.sv Sx.all rdV rdE
theorem p20 : PureOk Try.prog 20 C19 := by
  refine pure_of (T := [(18, .pc C17), (16, .pc C16)]) ⟨⟨p18, q18⟩, ⟨p16, q16⟩, trivial⟩ Try.func20 k20 ?_
  rintro args K ⟨v, rfl, hK⟩
  have hbt : IntKind.i64.bits = 64 := rfl
  rw [Sx.sv_eq]
  simp only [e_reg, e_seq, o_nil, o_cons, gd_none, putK_e, runK_e, vK_e, boxK_e, conK_e, callK_e, evh_v, evh_box, evh_call, seqK_n, gam_e, gamK_p, pc_e, pcK_e, evp, bin, gt, st, putf, X.get, gets, ap, mkfr, rep, clV, clL, clS, clo, ld, lda, tk, dr, cs1, gb, pb, ln, lk, undef, Nat.reduceSub, beq_self_eq_true, true_and, s20, r20]
  refine ⟨v, Sx.sv_eq.symm ▸ rfl, ?_⟩
  by_cases hok : v.ok
  · rw [clC_ok hok, clF_ok hok, chk_ok' hok] at hK
    simp only [not_true_eq_false, e_skip, e_reg, e_seq, e_cond, e_block, e_loop, e_ret, o_nil, o_cons, gd_none, putK_e, runK_e, vK_e, evh_v, seqK_n, seqK_r, condK_b, ends_r, endK1_e, endK2_e, evp, gt, st, putf, X.get, rdR, tupled, clV, clL, clS, clo, Bool.not_true, Bool.not_false, true_and, decide_eq_true_eq, decide_eq_false_iff_not, Bool.not_eq_eq_eq_not, chk_ok', hok]
    refine ⟨fun h => h.elim, fun _ => ?_⟩
    obtain ⟨o1, o2, o3, o4, o5⟩ := ok_all hok
    have hp := pow6 o1
    refine loop_at2 (G := Nat) (fun i => [(7, .int .i64 i), (6, .int .i64 (mxW v i))]) (fun i => [.box 26 [.int .i64 v.step, .rd 2 v.T.length (rowsS v.T), .int .i64 v.a, .int .i64 v.b, .int .i64 v.w, .rd 2 v.S.length (rowsS v.S)]]) (fun i => i ≤ v.T.length) (fun i => v.T.length - i) 0 (Nat.zero_le _) ?_
    (intro fr1 hf1; simp only [forget, dstC, dstT, dstO, dst1, st] at hf1; subst hf1)
    refine ⟨?_, ?_⟩
    · refine Lw_re 1 [] (Nat.zero_le _) (by simp [ln]) (by simp [ln]) rfl ?_ ?_
      · simp only [reL, reX, inb, inb.inbs, ln, sts, st, Bool.and_self, Nat.reduceLT, Nat.reduceAdd, decide_true, and_self, Int.natCast_zero, mxW_0]
      · simp only [reL, reX, reH, reB, reN, inb, true_and, and_true, and_self]
        exact ⟨fun _ _ => trivial, fun _ _ => trivial⟩
    · intro i hi1
      by_cases ha : i < v.T.length
      · have hr := (rdg_at hok ha).1
        have e1 := rdV_at hok ha
        have e2 := rdE_at hok ha
        have hwb := wd_bnd hok ha
        have hmx := mxW_le hok i (by omega)
        have hal := @all_eq v
        have hb := stepB (s := v.step) (n := v.T.length) ⟨o4, o5⟩ ⟨by omega, by omega⟩
        simp only [inr64, ↓reduceIte, e_skip, e_reg, e_tre, t_stop, t_op, e_seq, e_cond, e_block, e_exit, e_ret, o_nil, o_cons, gd_none, putK_e, runK_e, vK_e, bldK_e, conK_e, callK_e, evh_v, evh_new, evh_bld, evh_call, loopK_x, seqK_n, seqK_x, seqK_r, condK_b, exitK_t, blockK_x, ends_r, endK1_e, endK2_e, gam_e, gamK_p, pc_e, pcK_e, evp, bin, gt, gq, st, putf, X.get, gets, getp, ap, rdR, tupled, clV, clL, clS, clo, ld, lda, lens, tk, dr, sp, sp.spl, lay, ll, cs1, one, gb, pb, ln, lk, Nat.reduceAdd, Nat.reduceBEq, beq_self_eq_true, true_and, and_true, decide_eq_true_eq, decide_eq_false_iff_not, sts, Int.toNat_natCast, Int.one_mul, hbt, all_eq]
        refine ⟨fun _ => ⟨by omega, by omega, by omega, ⟨v, i * v.step, v.all, by rw [Sx.sv_eq], ?_⟩, ⟨v, i * v.step, v.all, by rw [Sx.sv_eq], ?_⟩⟩, fun h => by exfalso; omega⟩
        · simp only [inr64, e_reg, t_leaf, t_stop, t_op, and_self, o_nil, o_cons, gd_none, putK_e, runK_e, vK_e, storeK3_e, storeK2_e, storeK_e, evh_v, evh_new, evh_store, loopK_n, seqK_n, blockK_n, evp, bin, gt, gq, st, putf, X.get, ld, lda, sp, sp.spl, ll, cs1, one, allOne, gb, sb, pb, ln, Bool.and_true, Nat.reduceAdd, true_and, and_true, e1, e2]
          refine ⟨by omega, by omega, ?_⟩
          refine Nx.mk (i + 1) (by show i + 1 ≤ v.T.length; omega) (by show v.T.length - (i + 1) < v.T.length - i; omega) (Lw_re 1 [] (Nat.zero_le _) (by simp [ln]) (by simp [ln]) rfl ?_ ?_)
          · simp only [reL, reX, inb, inb.inbs, Bool.and_self, Nat.reduceLT, decide_true, and_self, Int.natCast_add, Int.natCast_one, mxW_s]
          · simp only [reL, reX, reH, reB, reN, inb, true_and, and_true, and_self]
            exact ⟨fun _ _ => trivial, fun _ _ => trivial⟩
        · simp only [inr64, e_reg, t_leaf, t_stop, t_op, and_self, o_nil, o_cons, gd_none, putK_e, runK_e, vK_e, storeK3_e, storeK2_e, storeK_e, evh_v, evh_store, loopK_n, seqK_n, blockK_n, evp, bin, gt, gq, st, putf, X.get, ld, lda, sp, sp.spl, ll, cs1, one, allOne, gb, sb, Bool.and_true, Nat.reduceAdd, true_and, and_true, e1, e2]
          refine ⟨by omega, by omega, ?_⟩
          refine Nx.mk (i + 1) (by show i + 1 ≤ v.T.length; omega) (by show v.T.length - (i + 1) < v.T.length - i; omega) (Lw_re 1 [] (Nat.zero_le _) (by simp [ln]) (by simp [ln]) rfl ?_ ?_)
          · simp only [reL, reX, inb, inb.inbs, Bool.and_self, Nat.reduceLT, decide_true, and_self, Int.natCast_add, Int.natCast_one, mxW_s]
          · simp only [reL, reX, reH, reB, reN, inb, true_and, and_true, and_self]
            exact ⟨fun _ _ => trivial, fun _ _ => trivial⟩
      · have : i = v.T.length := by omega
        subst this
        simp only [inr64, ↓reduceIte, e_skip, e_reg, e_tre, t_stop, t_op, e_seq, e_cond, e_block, e_exit, e_ret, o_nil, o_cons, gd_none, putK_e, runK_e, vK_e, bldK_e, conK_e, callK_e, evh_v, evh_new, evh_bld, evh_call, loopK_x, seqK_n, seqK_x, seqK_r, condK_b, exitK_t, blockK_x, ends_r, endK1_e, endK2_e, gam_e, gamK_p, pc_e, pcK_e, evp, bin, gt, gq, st, putf, X.get, gets, getp, ap, rdR, tupled, clV, clL, clS, clo, ld, lda, lens, tk, dr, sp, sp.spl, lay, ll, cs1, one, gb, pb, ln, lk, Nat.reduceAdd, Nat.reduceBEq, beq_self_eq_true, true_and, and_true, decide_eq_true_eq, decide_eq_false_iff_not, sts, Int.toNat_natCast]
        refine ⟨fun h => by omega, fun _ => ⟨fun h1 => ?_, fun h1 => ⟨fun h2 => ?_, fun h2 => ?_⟩⟩⟩
        · rw [show clsI (mxW v v.T.length) = 1 from if_pos h1] at hK
          exact res hK (by simp [leR, leR.leRs])
        · rw [show clsI (mxW v v.T.length) = 2 by unfold clsI; rw [if_neg h1, if_pos h2]] at hK
          exact res hK (by simp [leR, leR.leRs])
        · rw [show clsI (mxW v v.T.length) = 3 by unfold clsI; rw [if_neg h1, if_neg h2]] at hK
          exact res hK (by simp [leR, leR.leRs])
  · rw [clC_no hok, clF_no hok, chk_no hok] at hK
    simp only [not_false_eq_true, e_skip, e_reg, e_seq, e_cond, e_block, e_loop, e_ret, o_nil, o_cons, gd_none, putK_e, runK_e, vK_e, evh_v, seqK_n, seqK_r, condK_b, ends_r, endK1_e, endK2_e, evp, gt, st, putf, X.get, rdR, tupled, clV, clL, clS, clo, Bool.not_true, Bool.not_false, true_and, decide_eq_true_eq, decide_eq_false_iff_not, Bool.not_eq_eq_eq_not, chk_no, hok]
    exact ⟨fun _ => res hK (by simp [leR, leR.leRs]), fun h => absurd h (by decide)⟩
end
section
/- 3: octant/octantlaw05.SextantReads -/
def s3 : SC :=
  (.seq (.reg [⟨(some 2), none, .box 26 (.t 0)⟩,
    ⟨(some 3), none, .box 28 (.t 1)⟩,
    ⟨(some 4), none, .v (.mov (.c (.lit (.bool false))))⟩])
  (.seq (.reg [⟨(some 14), none, .v (.load (.t 2) (some 6))⟩,
    ⟨(some 15), none, .v (.load (.t 3) (some 2))⟩,
    ⟨(some 16), none, .call (.c (.fn 15 [])) [(.t 14), (.t 15)]⟩,
    ⟨(some 13), none, .v (.mov (.t 16))⟩,
    ⟨(some 17), none, .v (.ext (.t 13) 0)⟩,
    ⟨(some 18), none, .v (.ext (.t 13) 1)⟩,
    ⟨(some 5), none, .new 24 [(.int .i64 (0)), (.int .i64 (0))]⟩,
    ⟨none, none, .store 2 (.t 5) (.t 17)⟩,
    ⟨(some 6), none, .v (.mov (.t 18))⟩])
  (.seq (.reg [⟨(some 20), none, .v (.load (.t 2) (some 6))⟩,
    ⟨(some 21), none, .v (.load (.t 3) (some 2))⟩,
    ⟨(some 22), none, .call (.c (.fn 16 [])) [(.t 20), (.t 21)]⟩,
    ⟨(some 19), none, .v (.mov (.t 22))⟩,
    ⟨(some 23), none, .v (.ext (.t 19) 0)⟩,
    ⟨(some 24), none, .v (.ext (.t 19) 1)⟩,
    ⟨(some 7), none, .new 24 [(.int .i64 (0)), (.int .i64 (0))]⟩,
    ⟨none, none, .store 2 (.t 7) (.t 23)⟩,
    ⟨(some 8), none, .v (.mov (.t 24))⟩])
  (.seq (.seq (.drw [(0, ⟨(some 25), none, .v (.load (.t 5) (some 2))⟩, false),
    (1, ⟨(some 26), none, .v (.load (.t 7) (some 2))⟩, false),
    (2, ⟨(some 27), none, .v (.eqs [(some .i64), (some .i64)] true (.t 25) (.t 26))⟩, false),
    (3, ⟨(some 28), none, .v (.mov (.t 27))⟩, true),
    (4, ⟨(some 29), (some (28, false)), .v (.mov (.t 6))⟩, false),
    (5, ⟨(some 30), (some (28, false)), .v (.mov (.t 8))⟩, false),
    (6, ⟨(some 31), (some (28, false)), .v (.bin .neq (.t 29) (.t 30))⟩, false),
    (7, ⟨(some 32), none, .v (.pick (.t 28) (.c (.lit (.bool true))) (.t 31))⟩, false),
    (8, ⟨(some 33), none, .v (.mov (.t 32))⟩, true),
    (9, ⟨(some 34), (some (33, false)), .v (.load (.t 2) (some 6))⟩, false),
    (10, ⟨(some 35), (some (33, false)), .call (.c (.fn 17 [])) [(.t 34)]⟩, false),
    (11, ⟨(some 36), (some (33, false)), .v (.load (.t 2) (some 6))⟩, false)]
    none
    [⟨(some 37), (some (33, false)), .call (.c (.fn 18 [])) [(.t 36)]⟩,
    ⟨(some 38), (some (33, false)), .v (.bin .neq (.t 35) (.t 37))⟩,
    ⟨(some 39), none, .v (.pick (.t 33) (.c (.lit (.bool true))) (.t 38))⟩])
  (.cond (.t 39)
    (.seq (.reg [⟨(some 4), none, .v (.mov (.c (.lit (.bool false))))⟩])
    .ret)
    .skip))
  (.seq (.reg [⟨(some 41), none, .v (.load (.t 2) (some 6))⟩,
    ⟨(some 42), none, .call (.c (.fn 19 [])) [(.t 41)]⟩,
    ⟨(some 40), none, .v (.mov (.t 42))⟩,
    ⟨(some 43), none, .v (.ext (.t 40) 0)⟩,
    ⟨(some 44), none, .v (.ext (.t 40) 1)⟩,
    ⟨(some 45), none, .v (.ext (.t 40) 2)⟩,
    ⟨(some 9), none, .v (.mov (.t 43))⟩,
    ⟨(some 10), none, .v (.mov (.t 44))⟩,
    ⟨(some 6), none, .v (.mov (.t 45))⟩])
  (.seq (.reg [⟨(some 47), none, .v (.load (.t 2) (some 6))⟩,
    ⟨(some 48), none, .call (.c (.fn 20 [])) [(.t 47)]⟩,
    ⟨(some 46), none, .v (.mov (.t 48))⟩,
    ⟨(some 49), none, .v (.ext (.t 46) 0)⟩,
    ⟨(some 50), none, .v (.ext (.t 46) 1)⟩,
    ⟨(some 51), none, .v (.ext (.t 46) 2)⟩,
    ⟨(some 11), none, .v (.mov (.t 49))⟩,
    ⟨(some 12), none, .v (.mov (.t 50))⟩,
    ⟨(some 8), none, .v (.mov (.t 51))⟩])
  (.seq (.reg [⟨(some 52), none, .v (.mov (.t 9))⟩,
    ⟨(some 53), none, .v (.mov (.t 11))⟩,
    ⟨(some 54), none, .v (.bin .eql (.t 52) (.t 53))⟩,
    ⟨(some 55), none, .v (.mov (.t 54))⟩,
    ⟨(some 56), (some (55, true)), .v (.mov (.t 10))⟩,
    ⟨(some 57), (some (55, true)), .v (.mov (.t 12))⟩,
    ⟨(some 58), (some (55, true)), .v (.bin .eql (.t 56) (.t 57))⟩,
    ⟨(some 59), none, .v (.pick (.t 55) (.t 58) (.c (.lit (.bool false))))⟩,
    ⟨(some 60), none, .v (.mov (.t 59))⟩,
    ⟨(some 61), (some (60, true)), .v (.mov (.t 6))⟩,
    ⟨(some 62), (some (60, true)), .v (.mov (.t 8))⟩,
    ⟨(some 63), (some (60, true)), .v (.bin .eql (.t 61) (.t 62))⟩,
    ⟨(some 64), none, .v (.pick (.t 60) (.t 63) (.c (.lit (.bool false))))⟩,
    ⟨(some 65), none, .v (.mov (.t 64))⟩,
    ⟨(some 66), (some (65, true)), .call (.c (.fn 21 [])) []⟩,
    ⟨(some 67), none, .v (.pick (.t 65) (.t 66) (.c (.lit (.bool false))))⟩,
    ⟨(some 4), none, .v (.mov (.t 67))⟩])
  .ret)))))))
def r3 : List RV := [.t 4]
def n3 : Nat := 68
theorem k3 : (Try.f3.body.bind (cC Try.prog), cR Try.prog Try.f3.results.toList, Try.f3.ntmps) = (some s3, some r3, 68) := by kernel_rfl
theorem q3 : Known Try.prog 3 := ⟨_, Try.func3, by decide, by simp [Try.f3]⟩


def F17 : FC := fun args => match args with
  | [.agg [.int .i64 s, .rd 2 n f, .int .i64 a, .int .i64 b, .int .i64 w, .rd 2 m g]] =>
    some (∃ T S, n = T.length ∧ f = rowsS T ∧ m = S.length ∧ g = rowsS S, .int .i64 (Sx.chk ⟨s, Tof n f, a, b, w, Tof m g⟩))
  | _ => none
theorem p17' : PureOk Try.prog 17 (fcC F17) := by
  refine pweak p17 fun args K hC => ?_
  unfold fcC F17 at hC
  split at hC <;> first | (exact hC.elim) | skip
  rename_i h
  split at h <;> first | (cases h; done) | skip
  cases h
  obtain ⟨⟨T, S, rfl, rfl, rfl, rfl⟩, hK⟩ := hC
  simp only [Tof_rows] at hK
  exact ⟨_, rfl, hK⟩
theorem Sx.eta {v : Sx} : (⟨v.step, v.T, v.a, v.b, v.w, v.S⟩ : Sx) = v := rfl
def F21 : FC := fun args => match args with
  | [] => some (True, .lit (.bool true))
  | _ => none
def C3 : PC := fun args K => ∃ (v : Sx) (x set : Int), args = [v.sv, .agg [.int .i64 x, .int .i64 set]] ∧ K (.lit (.bool true))
theorem rdV_bnd (v : Sx) (x set : Int) : (-3000000 ≤ (rdV v x set).1 ∧ (rdV v x set).1 ≤ 3000000) ∧ (-3000000 ≤ (rdV v x set).2 ∧ (rdV v x set).2 ≤ 3000000) := by
  unfold rdV
  by_cases h : v.ok ∧ v.rdg x set
  · rw [if_pos h]
    obtain ⟨hok, hr⟩ := h
    have h1 := hok.1.1
    have h2 := hok.1.2.1
    have hb := stepB h1 h2
    have hc := corE_bnd hok x
    have hs := shd_bnd hok set v.S.length
    have h6 := hok.2.2.2.1
    have hab := hok.2.1
    have hx := hr.1
    unfold rdS
    simp only
    omega
  · rw [if_neg h]; simp
attribute [local irreducible] wd bst mxW lsW clC clF Sx.chk Sx.ok Sx.sv Sx.all rdV rdE
theorem p3 (p21 : PureOk Try.prog 21 (fcC F21)) (q21 : Known Try.prog 21) : PureOk Try.prog 3 C3 := by
  refine pure_of (T := [(15, .pc C15), (16, .pc C16), (17, .fc F17), (18, .pc C17), (19, .pc C19), (20, .pc C19), (21, .fc F21)]) ⟨⟨p15, q15⟩, ⟨p16, q16⟩, ⟨p17', q17⟩, ⟨p18, q18⟩, ⟨p19, q19⟩, ⟨p20, q20⟩, ⟨p21, q21⟩, trivial⟩ Try.func3 k3 ?_
  rintro args K ⟨v, x, set, rfl, hK⟩
  rw [Sx.sv_eq]
  simp only [e_reg, e_seq, o_nil, o_cons, gd_none, putK_e, runK_e, vK_e, boxK_e, conK_e, callK_e, evh_v, evh_box, evh_call, seqK_n, gam_e, gamK_p, pc_e, pcK_e, evp, gt, st, putf, X.get, gets, ap, mkfr, rep, clV, clL, clS, clo, ld, lda, tk, dr, cs1, gb, pb, ln, lk, undef, Nat.reduceSub, Nat.reduceAdd, beq_self_eq_true, true_and, s3, r3]
  refine ⟨v, x, set, by rw [Sx.sv_eq], ?_⟩
  simp only [e_reg, and_self, e_seq, o_nil, o_cons, gd_none, putK_e, runK_e, vK_e, storeK3_e, storeK2_e, storeK_e, conK_e, callK_e, evh_v, evh_new, evh_store, evh_call, seqK_n, gam_e, gamK_p, pc_e, pcK_e, evp, gt, gq, st, putf, X.get, gets, ap, clV, clL, clS, clo, ld, lda, tk, dr, sp, sp.spl, ll, cs1, one, allOne, gb, sb, pb, ln, lk, Bool.and_true, Nat.reduceAdd, Nat.reduceBEq, beq_self_eq_true, true_and]
  refine ⟨v, x, set, by rw [Sx.sv_eq], ?_⟩
  simp only [not_true_eq_false, e_reg, and_self, e_drw, e_seq, e_cond, e_ret, o_nil, o_cons, gd_none, gd_some, gdK_tf, gdK_ff, putK_e, runK_e, skipK_e, vK_e, storeK3_e, storeK2_e, storeK_e, conK_e, callK_e, evh_v, evh_new, evh_store, evh_call, dX_e, dX_b, dX_l, dG_t, dG_f, d_nil, d_cons, tlK_n, seqK_n, seqK_r, condK_t, ends_r, endK1_e, endK2_e, gam_e, gamK_p, gamq_e, gamqK_f, pc_e, pcK_e, evp, fit, InQ, bin, gt, gq, st, putf, X.get, gets, ap, rdR, tupled, clV, clL, clS, clo, clo.clos, ld, lda, tk, dr, sp, sp.spl, ll, cs1, one, allOne, gb, sb, pb, ln, lk, evq, gdl, undef, Bool.and_true, Bool.not_true, Bool.not_false, cond_true, Nat.reduceAdd, Nat.reduceBEq, beq_self_eq_true, true_and, and_true, decide_eq_true_eq, decide_eq_false_iff_not, Bool.not_eq_eq_eq_not, F17, Tof_rows, Sx.eta]
  have hb := rdV_bnd v x set
  refine ⟨⟨by omega, by omega⟩, fun h => h.elim, fun _ => ⟨fun h => h.elim, fun _ => ⟨⟨v.T, v.S, rfl, rfl, rfl, rfl⟩, v, by rw [Sx.sv_eq], ?_⟩⟩⟩
  simp only [not_true_eq_false, e_skip, e_reg, e_seq, e_cond, e_ret, o_nil, o_cons, gd_none, putK_e, runK_e, vK_e, conK_e, callK_e, evh_v, evh_call, seqK_n, seqK_r, condK_b, ends_r, endK1_e, endK2_e, gam_e, gamK_p, pc_e, pcK_e, evp, gt, st, putf, X.get, gets, ap, rdR, tupled, clV, clL, clS, clo, ld, lda, tk, dr, gb, lk, Bool.not_true, Bool.not_false, Nat.reduceBEq, beq_self_eq_true, true_and, decide_eq_true_eq, decide_eq_false_iff_not, Bool.not_eq_eq_eq_not]
  refine ⟨fun h => h.elim, fun _ => ⟨v, by rw [Sx.sv_eq], ?_⟩⟩
  simp only [e_reg, e_seq, o_nil, o_cons, gd_none, putK_e, runK_e, vK_e, conK_e, callK_e, evh_v, evh_call, seqK_n, gam_e, gamK_p, pc_e, pcK_e, evp, gt, gq, st, putf, X.get, gets, ap, clV, clL, clS, clo, ld, lda, tk, dr, gb, lk, Nat.reduceBEq, beq_self_eq_true, true_and]
  refine ⟨v, by rw [Sx.sv_eq], ?_⟩
  simp only [not_true_eq_false, e_reg, e_seq, e_ret, o_nil, o_cons, gd_none, gd_some, gdK_tt, gdK_ft, gdK_bt, putK_e, runK_e, skipK_e, vK_e, conK_e, callK_e, evh_v, evh_call, seqK_n, ends_r, endK1_e, endK2_e, gam_e, gamK_f, pc_e, pcK_e, fcC_e, fcK_e, evp, bin, gt, gq, st, putf, X.get, gets, ap, rdR, tupled, clV, clL, clS, clo, lk, undef, Nat.reduceBEq, beq_self_eq_true, true_and, decide_eq_true_eq, decide_eq_false_iff_not, F21]
  exact ⟨fun _ => ⟨fun _ => ⟨fun _ => res hK (by simp [leR]), fun h => h.elim⟩, fun h => h.elim⟩, fun h => h.elim⟩
end
end Go.Proofs.Ytjagiieconpgbaa
