/- Frosts in memory: one more of them. -/
import Derived.Test.YtmddbnjbliponaaB2
import Derived.Test.YtmddbnjbliponaaZ
namespace Go.Proofs.Ytmddbnjbliponaa
set_option linter.unusedSimpArgs false
set_option linter.unusedVariables false
open Go.RowKit
theorem frosts_append (l m : List Fr) : frosts (l ++ m) = frosts l ++ frosts m := by simp [frosts]
theorem frosts_one (l : List Fr) : ∀ u ∈ frosts l, u.oneCell' = true := fun u hu => by
  unfold frosts at hu
  obtain ⟨f, _, h⟩ := List.mem_flatMap.1 hu
  simp [Fr.cells] at h
  rcases h with rfl | rfl | rfl | rfl <;> rfl
theorem info_frostA : (Try.prog.info? 69).map (fun i => (i.zero, i.size, i.bytes)) = some (some (.agg #[.int .i64 0, .int .i64 0, .int .i64 0, .int .i64 0]), 4, 32) := by kernel_rfl
end Go.Proofs.Ytmddbnjbliponaa
