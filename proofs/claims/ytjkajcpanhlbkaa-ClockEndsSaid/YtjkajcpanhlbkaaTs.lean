/- Frosts in memory: one more of them. -/
import Derived.Test.YtjkajcpanhlbkaaB2
import Derived.Test.YtjkajcpanhlbkaaZ
namespace Go.Proofs.Ytjkajcpanhlbkaa
set_option linter.unusedSimpArgs false
set_option linter.unusedVariables false
open Go.RowKit
theorem frosts_append (l m : List Fr) : frosts (l ++ m) = frosts l ++ frosts m := by simp [frosts]
theorem info_frostA : (Try.prog.info? 69).map (fun i => (i.zero, i.size, i.bytes)) = some (some (.agg #[.int .i64 0, .int .i64 0, .int .i64 0, .int .i64 0]), 4, 32) := by kernel_rfl
end Go.Proofs.Ytjkajcpanhlbkaa
