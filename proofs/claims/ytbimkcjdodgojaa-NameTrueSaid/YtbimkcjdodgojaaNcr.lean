/- Name: how long ears and names are. -/
import Derived.Test.YtbimkcjdodgojaaNd
namespace Go.Proofs.Ytbimkcjdodgojaa
set_option linter.unusedSimpArgs false
set_option linter.unusedVariables false
open Go Go.RowKit

theorem ear_lens {l : List ByteArray} {mu : ByteArray} {sl : Int} (h : Ear.ok ⟨l, mu, sl⟩ = true) : l.length ≤ 4 ∧ (∀ i (hi : i < l.length), l[i].size ≤ 4) ∧ mu.size ≤ 3 ∧ 0 ≤ sl ∧ sl ≤ 3 := by
 unfold Ear.ok groupsB at h
 simp only [Bool.and_eq_true, decide_eq_true_eq, Bool.not_eq_true', decide_eq_false_iff_not] at h
 obtain ⟨⟨h1, _⟩, ⟨h2, h3, _⟩, h4, h5⟩ := h
 refine ⟨by omega, fun i hi => ?_, by omega, h4, h5⟩
 have := List.all_eq_true.1 h3 _ (List.getElem_mem hi)
 unfold groupB at this
 simp only [Bool.and_eq_true, decide_eq_true_eq] at this
 omega
theorem name_short {s : ByteArray} (h : nameB s.data.toList = true) : s.size ≤ 12 := by
 unfold nameB at h
 simp only [Bool.and_eq_true, decide_eq_true_eq] at h
 have h1 : s.data.toList.length = s.size := by simp
 omega
end Go.Proofs.Ytbimkcjdodgojaa
