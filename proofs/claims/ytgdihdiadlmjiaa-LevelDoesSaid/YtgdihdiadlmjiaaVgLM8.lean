import Derived.Test.YtgdihdiadlmjiaaVgLM7
set_option linter.all false
namespace Go.Proofs.Ytgdihdiadlmjiaa
open Go Go.Vg
set_option maxRecDepth 10000
def F18 : FC := fun args => match args with
 | [.agg [.int .i64 m, .int .i64 l1, .int .i64 l2, .int .i64 v1, .int .i64 v2, .int .i64 z1, .int .i64 z2, .int .i64 w]] => some (True, .int .i64 (Vl.chk ⟨m, l1, l2, v1, v2, z1, z2, w⟩))
 | _ => none
theorem p18f : PureOk Try.prog 18 (fcC F18) := by
 intro w im args vs K him ha hC
 unfold fcC F18 at hC
 split at hC <;> first | (exact hC.elim) | skip
 rename_i h
 split at h <;> first | (cases h; done) | skip
 cases h
 exact p18 w im _ vs K him ha ⟨⟨_, _, _, _, _, _, _, _⟩, rfl, hC.2⟩
end Go.Proofs.Ytgdihdiadlmjiaa
