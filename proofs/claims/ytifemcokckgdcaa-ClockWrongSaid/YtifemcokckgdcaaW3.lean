/- The layer's law's examples: what each call of them returns. -/
import Derived.Test.YtifemcokckgdcaaW2
import Derived.Test.YtifemcokckgdcaaP11
namespace Go.Proofs.Ytifemcokckgdcaa
set_option linter.unusedSimpArgs false
set_option linter.unusedVariables false
open Go.RowKit Go.Shelf
attribute [local go_sem high] cell_set_wr
attribute [local go_sem low] cell_wr frozen_wr
attribute [local go_sem] wr_set wr_drew wr_drewN wr_alloc wr_new

theorem tShows (A : Option Addr) (cap : Nat) (w : World) (hA : Arr w w.heap.size A (frosts frL)) :
    Calls Try.prog 14 #[.agg #[.int .i64 100, .slice A 2 cap], .int .i64 60] w fun e w' => e = .returned (.tuple #[.agg #[.int .i64 150, .int .i64 152], .int .i64 0]) ∧ Below w.heap.size w w' := by
  have h := pShows_any 100 A cap frL 60 w hA
  rw [show pShowsR ⟨100, frL⟩ 60 = (⟨150, 152⟩, 0) from by decide +kernel] at h
  exact h
theorem tMeans (A : Option Addr) (cap : Nat) (w : World) (hA : Arr w w.heap.size A (frosts frL)) :
    Calls Try.prog 18 #[.agg #[.int .i64 100, .slice A 2 cap], .int .i64 151] w fun e w' => e = .returned (.tuple #[.agg #[.int .i64 51, .int .i64 82], .int .i64 0]) ∧ Below w.heap.size w w' := by
  have h := pMeans_any 100 A cap frL 151 w hA
  rw [show pMeansR ⟨100, frL⟩ 151 = (⟨51, 82⟩, 0) from by decide +kernel] at h
  exact h
theorem tPassed (A : Option Addr) (cap : Nat) (w : World) (hA : Arr w w.heap.size A (frosts frL)) :
    Calls Try.prog 20 #[.agg #[.int .i64 100, .slice A 2 cap], .int .i64 150, .int .i64 150] w fun e w' => e = .returned (.tuple #[.agg #[.int .i64 0, .int .i64 31], .int .i64 0]) ∧ Below w.heap.size w w' := by
  have h := pPassed_any 100 A cap frL 150 150 w hA
  rw [show pPassedR ⟨100, frL⟩ 150 150 = (⟨0, 31⟩, 0) from by decide +kernel] at h
  exact h
theorem tBefore (A : Option Addr) (cap : Nat) (w : World) (hA : Arr w w.heap.size A (frosts frL)) :
    Calls Try.prog 23 #[.agg #[.int .i64 100, .slice A 2 cap], .int .i64 160, .agg #[.int .i64 0, .slice none 0 0], .int .i64 90] w fun e w' => e = .returned (.tuple #[.int .i64 1, .int .i64 0]) ∧ Below w.heap.size w w' := by
  have h := pBefore_any 100 A cap frL 160 0 none 0 [] 90 w hA (Arr.nil _ _ _)
  rw [show pBeforeR ⟨100, frL⟩ 160 ⟨0, []⟩ 90 = (1, 0) from by decide +kernel] at h
  exact h
theorem tRight (A L : Option Addr) (cap lcap : Nat) (w : World) (hA : Arr w w.heap.size A (frosts frL)) (hL : Arr w w.heap.size L (lines (wrL 95))) :
    Calls Try.prog 25 #[.agg #[.int .i64 100, .slice A 2 cap], .slice L 3 lcap] w fun e w' => e = .returned (.tuple #[.bool true, .int .i64 0]) ∧ Below w.heap.size w w' := by
  have h := pRight_any 100 A L cap lcap frL (wrL 95) w hA hL (by decide)
  rw [show pRightR ⟨100, frL⟩ (wrL 95) = (true, 0) from by decide +kernel] at h
  exact h
theorem tTimes (A L : Option Addr) (cap lcap : Nat) (w : World) (hA : Arr w w.heap.size A (frosts frL)) (hL : Arr w w.heap.size L (lines (wrL 95))) :
    Calls Try.prog 27 #[.agg #[.int .i64 100, .slice A 2 cap], .slice L 3 lcap] w fun e w' =>
      (∃ O ocap, e = .returned (.tuple #[.slice O 3 ocap, .int .i64 0]) ∧ ocap ≤ maxLen ∧ Arr w' w'.heap.size O (spans [⟨20, 20⟩, ⟨90, 90⟩, ⟨95, 95⟩])) ∧ Below w.heap.size w w' := by
  have h := pTimes_any 100 A L cap lcap frL (wrL 95) w hA hL (by decide)
  rw [show pTimesR ⟨100, frL⟩ (wrL 95) = ([⟨20, 20⟩, ⟨90, 90⟩, ⟨95, 95⟩], 0) from by decide +kernel] at h
  exact h
theorem tStopped (A L : Option Addr) (cap lcap : Nat) (w : World) (hA : Arr w w.heap.size A (frosts frL)) (hL : Arr w w.heap.size L (lines (wrL 95))) :
    Calls Try.prog 30 #[.agg #[.int .i64 100, .slice A 2 cap], .slice L 3 lcap] w fun e w' => e = .returned (.tuple #[.agg #[.int .i64 40, .int .i64 42], .int .i64 0]) ∧ Below w.heap.size w w' := by
  have h := pStopped_any 100 A L cap lcap frL (wrL 95) w hA hL (by decide)
  rw [show pStoppedR ⟨100, frL⟩ (wrL 95) = (⟨40, 42⟩, 0) from by decide +kernel] at h
  exact h
theorem tWrong (A L : Option Addr) (cap lcap : Nat) (w : World) (hA : Arr w w.heap.size A (frosts frL)) (hL : Arr w w.heap.size L (lines (wrL 97))) :
    Calls Try.prog 32 #[.agg #[.int .i64 100, .slice A 2 cap], .slice L 3 lcap] w fun e w' =>
      (∃ O ocap, e = .returned (.tuple #[.slice O 1 ocap, .int .i64 0]) ∧ ocap ≤ maxLen ∧ Arr w' w'.heap.size O (ints [2])) ∧ Below w.heap.size w w' := by
  have h := pWrong_any 100 A L cap lcap frL (wrL 97) w hA hL (by decide)
  rw [show pWrongR ⟨100, frL⟩ (wrL 97) = ([2], 0) from by decide +kernel] at h
  exact h
end Go.Proofs.Ytifemcokckgdcaa
