/- The layer's law's examples: the chapter's clock and book. -/
import Derived.Test.YtjkajcpanhlbkaaP19
import Derived.Test.YtjkajcpanhlbkaaP12
import Derived.Test.YtjkajcpanhlbkaaB2
namespace Go.Proofs.Ytjkajcpanhlbkaa
set_option linter.unusedSimpArgs false
set_option linter.unusedVariables false
open Go.RowKit Go.Shelf
attribute [local go_sem high] cell_set_wr
attribute [local go_sem low] cell_wr frozen_wr
attribute [local go_sem] wr_set wr_drew wr_drewN wr_alloc wr_new

def frL : List Fr := [⟨⟨50, 52⟩, ⟨80, 81⟩⟩, ⟨⟨200, 200⟩, ⟨210, 212⟩⟩]
def wrL (last : Int) : List Ln := [⟨120, ⟨0, 4319⟩⟩, ⟨160, ⟨0, 90⟩⟩, ⟨165, ⟨last, last⟩⟩]

set_option maxRecDepth 100000 in
set_option maxHeartbeats 4000000 in
theorem frosty_any (w : World) :
    Calls Try.prog 53 #[] w fun e w' => (∃ A cap, e = .returned (.agg #[.int .i64 100, .slice A 2 cap]) ∧ cap ≤ maxLen ∧ Arr w' w'.heap.size A (frosts frL)) ∧ Below w.heap.size w w' := by
  go_enter Try.func53, Try.ntmps53
  go_wp2_with (first
    | (go_at_call 41; refine (to_any _ _ _).mono ?_; rintro e w1 ⟨rfl, hb1⟩; (first | replace hb1 := Below.un1 hb1 | replace hb1 := Below.un2 hb1 | skip); obtain ⟨hc1, hf1, hl1, hm1, hw1⟩ := bcell hb1; have hz1 := hb1.size; (try simp only [World.size_alloc, World.size_setCell] at hz1); have n1 : w.heap.size < w1.heap.size := (by omega))
    | (go_at_call 47; refine (one_any _ _).mono ?_; rintro e w2 ⟨rfl, hb2⟩; (first | replace hb2 := Below.un1 hb2 | replace hb2 := Below.un2 hb2 | skip); obtain ⟨hc2, hf2, hl2, hm2, hw2⟩ := bcell hb2; have hz2 := hb2.size; (try simp only [World.size_alloc, World.size_setCell] at hz2); have n2 : w.heap.size < w2.heap.size := (by omega)))

  have q0 : Wr w1 w.heap.size 0 := by
    (repeat' (first | (with_reducible assumption) | (refine wr_new rfl ?_; (first | decide | (simp; done))) | (with_reducible refine wr_drew' ?_) | (with_reducible refine wr_drewN' ?_) | (with_reducible refine wr_set' ?_) | (refine wr_below ?_ (by assumption) ?_) | (with_reducible refine wr_alloc _ ?_) | go_size))
  have q1 : Wr w1 w.heap.size 1 := by
    (repeat' (first | (with_reducible assumption) | (refine wr_new rfl ?_; (first | decide | (simp; done))) | (with_reducible refine wr_drew' ?_) | (with_reducible refine wr_drewN' ?_) | (with_reducible refine wr_set' ?_) | (refine wr_below ?_ (by assumption) ?_) | (with_reducible refine wr_alloc _ ?_) | go_size))
  have hB : Below w.heap.size w w1 := by (repeat' (first | (with_reducible exact Below.refl _ _) | (with_reducible assumption) | (with_reducible refine Below.drew ?_) | (with_reducible refine below_drewN ?_ _) | (with_reducible refine Below.setCell ?_ ?_ _) | (with_reducible refine Below.alloc ?_ ?_ _) | go_size | (exact Below.size (by assumption)) | (refine Below.trans ?_ (Below.mono (by assumption) ?_))))
  have hlt : w.heap.size < w1.heap.size := q0.lt
  obtain ⟨W5, hW5⟩ : ∃ W5, W5 = (((w1.setCell ⟨w.heap.size, 0, none⟩ (.int .i64 100)).setCell ⟨w.heap.size, 1, none⟩ (.slice (some ⟨w1.heap.size, 0, none⟩) 2 2)).alloc
    (.cells #[.int .i64 50, .int .i64 52, .int .i64 80, .int .i64 81, .int .i64 200, .int .i64 200, .int .i64 210, .int .i64 212] 69)) := ⟨_, rfl⟩
  have hne : ∀ {o o' : Nat} {v : Value} {X : World}, o' ≠ o → (X.setCell ⟨w.heap.size, o, none⟩ v).cell? ⟨w.heap.size, o', none⟩ = X.cell? ⟨w.heap.size, o', none⟩ := fun hne => World.cell?_setCell_other _ _ _ _ (fun e => hne (congrArg Addr.off e).symm)
  have hs : ((w1.setCell ⟨w.heap.size, 0, none⟩ (.int .i64 100)).setCell ⟨w.heap.size, 1, none⟩ (.slice (some ⟨w1.heap.size, 0, none⟩) 2 2)).heap.size = w1.heap.size := by simp
  have hba := (Below.refl w1.heap.size ((w1.setCell ⟨w.heap.size, 0, none⟩ (.int .i64 100)).setCell ⟨w.heap.size, 1, none⟩ (.slice (some ⟨w1.heap.size, 0, none⟩) 2 2))).alloc (by rw [hs]; exact Nat.le_refl _) (.cells #[.int .i64 50, .int .i64 52, .int .i64 80, .int .i64 81, .int .i64 200, .int .i64 200, .int .i64 210, .int .i64 212] 69)
  have e0 : W5.cell? ⟨w.heap.size, 0, none⟩ = some (.int .i64 100) := by
    rw [hW5, hba.cell (by simp only; omega), hne (by omega)]
    exact World.cell?_setCell_same' _ _ _ q0.1
  have e1 : W5.cell? ⟨w.heap.size, 1, none⟩ = some (.slice (some ⟨w1.heap.size, 0, none⟩) 2 2) := by
    rw [hW5, hba.cell (by simp only; omega)]
    exact World.cell?_setCell_same' _ _ _ (by rw [hne (by omega)]; exact q1.1)
  have eB : Below w.heap.size w W5 := by rw [hW5]; (repeat' (first | (with_reducible exact Below.refl _ _) | (with_reducible assumption) | (with_reducible refine Below.drew ?_) | (with_reducible refine below_drewN ?_ _) | (with_reducible refine Below.setCell ?_ ?_ _) | (with_reducible refine Below.alloc ?_ ?_ _) | go_size | (exact Below.size (by assumption)) | (refine Below.trans ?_ (Below.mono (by assumption) ?_))))
  have hfr : frosts frL = [.int .i64 50, .int .i64 52, .int .i64 80, .int .i64 81, .int .i64 200, .int .i64 200, .int .i64 210, .int .i64 212] := rfl
  have eA : Arr W5 W5.heap.size (some ⟨w1.heap.size, 0, none⟩) (frosts frL) := by
    rw [hfr, hW5]
    have h := arr_new ((w1.setCell ⟨w.heap.size, 0, none⟩ (.int .i64 100)).setCell ⟨w.heap.size, 1, none⟩ (.slice (some ⟨w1.heap.size, 0, none⟩) 2 2)) #[.int .i64 50, .int .i64 52, .int .i64 80, .int .i64 81, .int .i64 200, .int .i64 200, .int .i64 210, .int .i64 212] 69
    rw [hs] at h
    exact h.more (by simp)
  rw [← hW5]
  clear hW5
  exact bodyPost_ret (v := .agg #[.int .i64 100, .slice (some ⟨w1.heap.size, 0, none⟩) 2 2]) (by simp [results, Try.results53, go_sem, e0, e1]) rfl ⟨⟨_, _, rfl, by unfold maxLen; omega, eA⟩, eB⟩

set_option maxRecDepth 100000 in
set_option maxHeartbeats 4000000 in
theorem written_any (last : Int) (w : World) :
    Calls Try.prog 54 #[.int .i64 last] w fun e w' => (∃ A cap, e = .returned (.slice A 3 cap) ∧ cap ≤ maxLen ∧ Arr w' w'.heap.size A (lines (wrL last))) ∧ Below w.heap.size w w' := by
  go_enter Try.func54, Try.ntmps54
  go_wp2_with (first
    | (go_at_call 41; refine (to_any _ _ _).mono ?_; rintro e w1 ⟨rfl, hb1⟩; (first | replace hb1 := Below.un1 hb1 | replace hb1 := Below.un2 hb1 | skip); obtain ⟨hc1, hf1, hl1, hm1, hw1⟩ := bcell hb1; have hz1 := hb1.size; (try simp only [World.size_alloc, World.size_setCell] at hz1); have n1 : w.heap.size ≤ w1.heap.size := (by omega))
    | (go_at_call 47; refine (one_any _ _).mono ?_; rintro e w2 ⟨rfl, hb2⟩; (first | replace hb2 := Below.un1 hb2 | replace hb2 := Below.un2 hb2 | skip); obtain ⟨hc2, hf2, hl2, hm2, hw2⟩ := bcell hb2; have hz2 := hb2.size; (try simp only [World.size_alloc, World.size_setCell] at hz2); have n2 : w.heap.size ≤ w2.heap.size := (by omega)))
  go_ret
  have hfr : lines (wrL last) = [.int .i64 120, .int .i64 0, .int .i64 4319, .int .i64 160, .int .i64 0, .int .i64 90, .int .i64 165, .int .i64 last, .int .i64 last] := rfl
  refine ⟨⟨_, _, rfl, by unfold maxLen; omega, ?_⟩, by (repeat' (first | (with_reducible exact Below.refl _ _) | (with_reducible assumption) | (with_reducible refine Below.drew ?_) | (with_reducible refine below_drewN ?_ _) | (with_reducible refine Below.setCell ?_ ?_ _) | (with_reducible refine Below.alloc ?_ ?_ _) | go_size | (exact Below.size (by assumption)) | (refine Below.trans ?_ (Below.mono (by assumption) ?_))))⟩
  rw [hfr]
  exact (arr_new w2 #[.int .i64 120, .int .i64 0, .int .i64 4319, .int .i64 160, .int .i64 0, .int .i64 90, .int .i64 165, .int .i64 last, .int .i64 last] 67).more (by simp)
end Go.Proofs.Ytjkajcpanhlbkaa
