import Derived.Test.YtplldhepmmjmmaaVgTP9
namespace Go.Proofs.Ytplldhepmmjmmaa
open Go Go.Vg
set_option linter.unusedSimpArgs false
set_option linter.unusedVariables false
set_option maxRecDepth 10000
theorem sp21 : PureOk Try.prog 21 (fun bs K => bs = [.rd 5 1 (rowOf 5 [(.int .i64 (7)), (.int .i64 (8)), (.int .i64 (0)), (.int .i64 (0)), (.int .i64 (0))])] ∧ K (.rd 2 1 (rowOf 2 [(.int .i64 (7)), (.int .i64 (8))]))) := by
 intro w im bs vs K him hb hC
 obtain ⟨rfl, hK⟩ := hC
 refine (p21 w im _ vs (fun r => r = .rd 2 (Tw.N ⟨7 - 0, 8 - 0, 7 + 0, 8 + 0⟩ 2001) (Tw.row ⟨7 - 0, 8 - 0, 7 + 0, 8 + 0⟩ 2001)) him hb ⟨7, 8, 0, _, rfl, rfl, by decide, rfl⟩).mono ?_
 rintro e w' ⟨r, v, im', rfl, rfl, hv, h4⟩
 refine ⟨_, v, im', rfl, hK, leR_ok 4 (x := .rd 2 (Tw.N ⟨7 - 0, 8 - 0, 7 + 0, 8 + 0⟩ 2001) (Tw.row ⟨7 - 0, 8 - 0, 7 + 0, 8 + 0⟩ 2001)) ⟨rfl, by decide, fun i hi => ?_⟩ hv, h4⟩
 obtain rfl : i = 0 := by
  have : Tw.N ⟨7 - 0, 8 - 0, 7 + 0, 8 + 0⟩ 2001 = 1 := by decide
  omega
 rfl
end Go.Proofs.Ytplldhepmmjmmaa
