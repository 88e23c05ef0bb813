/- The layer's law's examples hold. -/
import Derived.Test.YtnkbcapikenbbaaP19
import Derived.Test.YtnkbcapikenbbaaP12
import Derived.Test.YtnkbcapikenbbaaB2
import Derived.Test.YtnkbcapikenbbaaP11
namespace Go.Proofs.Ytnkbcapikenbbaa
set_option linter.unusedSimpArgs false
set_option linter.unusedVariables false
open Go.RowKit Go.Shelf
attribute [local go_sem high] cell_set_wr
attribute [local go_sem low] cell_wr frozen_wr
attribute [local go_sem] wr_set wr_drew wr_drewN wr_alloc wr_new

def frL : List Fr := [⟨⟨50, 52⟩, ⟨80, 81⟩⟩, ⟨⟨200, 200⟩, ⟨210, 212⟩⟩]
def wrL (last : Int) : List Ln := [⟨120, ⟨0, 4319⟩⟩, ⟨160, ⟨0, 90⟩⟩, ⟨165, ⟨last, last⟩⟩]

set_option maxRecDepth 100000 in
set_option maxHeartbeats 4000000 in
theorem frosty_any (w : World) :
    Calls Try.prog 53 #[] w fun e w' => (∃ A cap, e = .returned (.agg #[.int .i64 100, .slice A 2 cap]) ∧ cap ≤ maxLen ∧ Arr w' w'.heap.size A (frosts frL)) ∧ Below w.heap.size w w' := by
  go_enter Try.func53, Try.ntmps53
  go_wp2_with (first
    | (go_at_call 41; refine (to_any _ _ _).mono ?_; rintro e w1 ⟨rfl, hb1⟩; (first | replace hb1 := Below.un1 hb1 | replace hb1 := Below.un2 hb1 | skip); obtain ⟨hc1, hf1, hl1, hm1, hw1⟩ := bcell hb1; have hz1 := hb1.size; (try simp only [World.size_alloc, World.size_setCell] at hz1); have n1 : w.heap.size < w1.heap.size := (by omega))
    | (go_at_call 47; refine (one_any _ _).mono ?_; rintro e w2 ⟨rfl, hb2⟩; (first | replace hb2 := Below.un1 hb2 | replace hb2 := Below.un2 hb2 | skip); obtain ⟨hc2, hf2, hl2, hm2, hw2⟩ := bcell hb2; have hz2 := hb2.size; (try simp only [World.size_alloc, World.size_setCell] at hz2); have n2 : w.heap.size < w2.heap.size := (by omega)))

  have q0 : Wr w1 w.heap.size 0 := by
    (repeat' (first | (with_reducible assumption) | (refine wr_new rfl ?_; (first | decide | (simp; done))) | (with_reducible refine wr_drew' ?_) | (with_reducible refine wr_drewN' ?_) | (with_reducible refine wr_set' ?_) | (refine wr_below ?_ (by assumption) ?_) | (with_reducible refine wr_alloc _ ?_) | go_size))
  have q1 : Wr w1 w.heap.size 1 := by
    (repeat' (first | (with_reducible assumption) | (refine wr_new rfl ?_; (first | decide | (simp; done))) | (with_reducible refine wr_drew' ?_) | (with_reducible refine wr_drewN' ?_) | (with_reducible refine wr_set' ?_) | (refine wr_below ?_ (by assumption) ?_) | (with_reducible refine wr_alloc _ ?_) | go_size))
  have hB : Below w.heap.size w w1 := by (repeat' (first | (with_reducible exact Below.refl _ _) | (with_reducible assumption) | (with_reducible refine Below.drew ?_) | (with_reducible refine below_drewN ?_ _) | (with_reducible refine Below.setCell ?_ ?_ _) | (with_reducible refine Below.alloc ?_ ?_ _) | go_size | (exact Below.size (by assumption)) | (refine Below.trans ?_ (Below.mono (by assumption) ?_))))
  have hlt : w.heap.size < w1.heap.size := q0.lt
  obtain ⟨W5, hW5⟩ : ∃ W5, W5 = (((w1.setCell ⟨w.heap.size, 0, none⟩ (.int .i64 100)).setCell ⟨w.heap.size, 1, none⟩ (.slice (some ⟨w1.heap.size, 0, none⟩) 2 2)).alloc
    (.cells #[.int .i64 50, .int .i64 52, .int .i64 80, .int .i64 81, .int .i64 200, .int .i64 200, .int .i64 210, .int .i64 212] 69)) := ⟨_, rfl⟩
  have hne : ∀ {o o' : Nat} {v : Value} {X : World}, o' ≠ o → (X.setCell ⟨w.heap.size, o, none⟩ v).cell? ⟨w.heap.size, o', none⟩ = X.cell? ⟨w.heap.size, o', none⟩ := fun hne => World.cell?_setCell_other _ _ _ _ (fun e => hne (congrArg Addr.off e).symm)
  have hs : ((w1.setCell ⟨w.heap.size, 0, none⟩ (.int .i64 100)).setCell ⟨w.heap.size, 1, none⟩ (.slice (some ⟨w1.heap.size, 0, none⟩) 2 2)).heap.size = w1.heap.size := by simp
  have hba := (Below.refl w1.heap.size ((w1.setCell ⟨w.heap.size, 0, none⟩ (.int .i64 100)).setCell ⟨w.heap.size, 1, none⟩ (.slice (some ⟨w1.heap.size, 0, none⟩) 2 2))).alloc (by rw [hs]; exact Nat.le_refl _) (.cells #[.int .i64 50, .int .i64 52, .int .i64 80, .int .i64 81, .int .i64 200, .int .i64 200, .int .i64 210, .int .i64 212] 69)
  have e0 : W5.cell? ⟨w.heap.size, 0, none⟩ = some (.int .i64 100) := by
    rw [hW5, hba.cell (by simp only; omega), hne (by omega)]
    exact World.cell?_setCell_same' _ _ _ q0.1
  have e1 : W5.cell? ⟨w.heap.size, 1, none⟩ = some (.slice (some ⟨w1.heap.size, 0, none⟩) 2 2) := by
    rw [hW5, hba.cell (by simp only; omega)]
    exact World.cell?_setCell_same' _ _ _ (by rw [hne (by omega)]; exact q1.1)
  have eB : Below w.heap.size w W5 := by rw [hW5]; (repeat' (first | (with_reducible exact Below.refl _ _) | (with_reducible assumption) | (with_reducible refine Below.drew ?_) | (with_reducible refine below_drewN ?_ _) | (with_reducible refine Below.setCell ?_ ?_ _) | (with_reducible refine Below.alloc ?_ ?_ _) | go_size | (exact Below.size (by assumption)) | (refine Below.trans ?_ (Below.mono (by assumption) ?_))))
  have hfr : frosts frL = [.int .i64 50, .int .i64 52, .int .i64 80, .int .i64 81, .int .i64 200, .int .i64 200, .int .i64 210, .int .i64 212] := rfl
  have eA : Arr W5 W5.heap.size (some ⟨w1.heap.size, 0, none⟩) (frosts frL) := by
    rw [hfr, hW5]
    have h := arr_new ((w1.setCell ⟨w.heap.size, 0, none⟩ (.int .i64 100)).setCell ⟨w.heap.size, 1, none⟩ (.slice (some ⟨w1.heap.size, 0, none⟩) 2 2)) #[.int .i64 50, .int .i64 52, .int .i64 80, .int .i64 81, .int .i64 200, .int .i64 200, .int .i64 210, .int .i64 212] 69
    rw [hs] at h
    exact h.more (by simp)
  rw [← hW5]
  clear hW5
  exact bodyPost_ret (v := .agg #[.int .i64 100, .slice (some ⟨w1.heap.size, 0, none⟩) 2 2]) (by simp [results, Try.results53, go_sem, e0, e1]) rfl ⟨⟨_, _, rfl, by unfold maxLen; omega, eA⟩, eB⟩

set_option maxRecDepth 100000 in
set_option maxHeartbeats 4000000 in
theorem written_any (last : Int) (w : World) :
    Calls Try.prog 54 #[.int .i64 last] w fun e w' => (∃ A cap, e = .returned (.slice A 3 cap) ∧ cap ≤ maxLen ∧ Arr w' w'.heap.size A (lines (wrL last))) ∧ Below w.heap.size w w' := by
  go_enter Try.func54, Try.ntmps54
  go_wp2_with (first
    | (go_at_call 41; refine (to_any _ _ _).mono ?_; rintro e w1 ⟨rfl, hb1⟩; (first | replace hb1 := Below.un1 hb1 | replace hb1 := Below.un2 hb1 | skip); obtain ⟨hc1, hf1, hl1, hm1, hw1⟩ := bcell hb1; have hz1 := hb1.size; (try simp only [World.size_alloc, World.size_setCell] at hz1); have n1 : w.heap.size ≤ w1.heap.size := (by omega))
    | (go_at_call 47; refine (one_any _ _).mono ?_; rintro e w2 ⟨rfl, hb2⟩; (first | replace hb2 := Below.un1 hb2 | replace hb2 := Below.un2 hb2 | skip); obtain ⟨hc2, hf2, hl2, hm2, hw2⟩ := bcell hb2; have hz2 := hb2.size; (try simp only [World.size_alloc, World.size_setCell] at hz2); have n2 : w.heap.size ≤ w2.heap.size := (by omega)))
  go_ret
  have hfr : lines (wrL last) = [.int .i64 120, .int .i64 0, .int .i64 4319, .int .i64 160, .int .i64 0, .int .i64 90, .int .i64 165, .int .i64 last, .int .i64 last] := rfl
  refine ⟨⟨_, _, rfl, by unfold maxLen; omega, ?_⟩, by (repeat' (first | (with_reducible exact Below.refl _ _) | (with_reducible assumption) | (with_reducible refine Below.drew ?_) | (with_reducible refine below_drewN ?_ _) | (with_reducible refine Below.setCell ?_ ?_ _) | (with_reducible refine Below.alloc ?_ ?_ _) | go_size | (exact Below.size (by assumption)) | (refine Below.trans ?_ (Below.mono (by assumption) ?_))))⟩
  rw [hfr]
  exact (arr_new w2 #[.int .i64 120, .int .i64 0, .int .i64 4319, .int .i64 160, .int .i64 0, .int .i64 90, .int .i64 165, .int .i64 last, .int .i64 last] 67).more (by simp)

theorem tShows (A : Option Addr) (cap : Nat) (w : World) (hA : Arr w w.heap.size A (frosts frL)) :
    Calls Try.prog 14 #[.agg #[.int .i64 100, .slice A 2 cap], .int .i64 60] w fun e w' => e = .returned (.tuple #[.agg #[.int .i64 150, .int .i64 152], .int .i64 0]) ∧ Below w.heap.size w w' := by
  have h := pShows_any 100 A cap frL 60 w hA
  rw [show pShowsR ⟨100, frL⟩ 60 = (⟨150, 152⟩, 0) from by decide +kernel] at h
  exact h
theorem tMeans (A : Option Addr) (cap : Nat) (w : World) (hA : Arr w w.heap.size A (frosts frL)) :
    Calls Try.prog 18 #[.agg #[.int .i64 100, .slice A 2 cap], .int .i64 151] w fun e w' => e = .returned (.tuple #[.agg #[.int .i64 51, .int .i64 82], .int .i64 0]) ∧ Below w.heap.size w w' := by
  have h := pMeans_any 100 A cap frL 151 w hA
  rw [show pMeansR ⟨100, frL⟩ 151 = (⟨51, 82⟩, 0) from by decide +kernel] at h
  exact h
theorem tPassed (A : Option Addr) (cap : Nat) (w : World) (hA : Arr w w.heap.size A (frosts frL)) :
    Calls Try.prog 20 #[.agg #[.int .i64 100, .slice A 2 cap], .int .i64 150, .int .i64 150] w fun e w' => e = .returned (.tuple #[.agg #[.int .i64 0, .int .i64 31], .int .i64 0]) ∧ Below w.heap.size w w' := by
  have h := pPassed_any 100 A cap frL 150 150 w hA
  rw [show pPassedR ⟨100, frL⟩ 150 150 = (⟨0, 31⟩, 0) from by decide +kernel] at h
  exact h
theorem tBefore (A : Option Addr) (cap : Nat) (w : World) (hA : Arr w w.heap.size A (frosts frL)) :
    Calls Try.prog 23 #[.agg #[.int .i64 100, .slice A 2 cap], .int .i64 160, .agg #[.int .i64 0, .slice none 0 0], .int .i64 90] w fun e w' => e = .returned (.tuple #[.int .i64 1, .int .i64 0]) ∧ Below w.heap.size w w' := by
  have h := pBefore_any 100 A cap frL 160 0 none 0 [] 90 w hA (Arr.nil _ _ _)
  rw [show pBeforeR ⟨100, frL⟩ 160 ⟨0, []⟩ 90 = (1, 0) from by decide +kernel] at h
  exact h
theorem tRight (A L : Option Addr) (cap lcap : Nat) (w : World) (hA : Arr w w.heap.size A (frosts frL)) (hL : Arr w w.heap.size L (lines (wrL 95))) :
    Calls Try.prog 25 #[.agg #[.int .i64 100, .slice A 2 cap], .slice L 3 lcap] w fun e w' => e = .returned (.tuple #[.bool true, .int .i64 0]) ∧ Below w.heap.size w w' := by
  have h := pRight_any 100 A L cap lcap frL (wrL 95) w hA hL (by decide)
  rw [show pRightR ⟨100, frL⟩ (wrL 95) = (true, 0) from by decide +kernel] at h
  exact h
theorem tTimes (A L : Option Addr) (cap lcap : Nat) (w : World) (hA : Arr w w.heap.size A (frosts frL)) (hL : Arr w w.heap.size L (lines (wrL 95))) :
    Calls Try.prog 27 #[.agg #[.int .i64 100, .slice A 2 cap], .slice L 3 lcap] w fun e w' =>
      (∃ O ocap, e = .returned (.tuple #[.slice O 3 ocap, .int .i64 0]) ∧ ocap ≤ maxLen ∧ Arr w' w'.heap.size O (spans [⟨20, 20⟩, ⟨90, 90⟩, ⟨95, 95⟩])) ∧ Below w.heap.size w w' := by
  have h := pTimes_any 100 A L cap lcap frL (wrL 95) w hA hL (by decide)
  rw [show pTimesR ⟨100, frL⟩ (wrL 95) = ([⟨20, 20⟩, ⟨90, 90⟩, ⟨95, 95⟩], 0) from by decide +kernel] at h
  exact h
theorem tStopped (A L : Option Addr) (cap lcap : Nat) (w : World) (hA : Arr w w.heap.size A (frosts frL)) (hL : Arr w w.heap.size L (lines (wrL 95))) :
    Calls Try.prog 30 #[.agg #[.int .i64 100, .slice A 2 cap], .slice L 3 lcap] w fun e w' => e = .returned (.tuple #[.agg #[.int .i64 40, .int .i64 42], .int .i64 0]) ∧ Below w.heap.size w w' := by
  have h := pStopped_any 100 A L cap lcap frL (wrL 95) w hA hL (by decide)
  rw [show pStoppedR ⟨100, frL⟩ (wrL 95) = (⟨40, 42⟩, 0) from by decide +kernel] at h
  exact h
theorem tWrong (A L : Option Addr) (cap lcap : Nat) (w : World) (hA : Arr w w.heap.size A (frosts frL)) (hL : Arr w w.heap.size L (lines (wrL 97))) :
    Calls Try.prog 32 #[.agg #[.int .i64 100, .slice A 2 cap], .slice L 3 lcap] w fun e w' =>
      (∃ O ocap, e = .returned (.tuple #[.slice O 1 ocap, .int .i64 0]) ∧ ocap ≤ maxLen ∧ Arr w' w'.heap.size O (ints [2])) ∧ Below w.heap.size w w' := by
  have h := pWrong_any 100 A L cap lcap frL (wrL 97) w hA hL (by decide)
  rw [show pWrongR ⟨100, frL⟩ (wrL 97) = ([2], 0) from by decide +kernel] at h
  exact h

theorem arr_sp3 (X : World) (ty : TypeId) : Arr (X.alloc (.cells #[.int .i64 20, .int .i64 20, .int .i64 90, .int .i64 90, .int .i64 95, .int .i64 95] ty)) (X.alloc (.cells #[.int .i64 20, .int .i64 20, .int .i64 90, .int .i64 90, .int .i64 95, .int .i64 95] ty)).heap.size (some ⟨X.heap.size, 0, none⟩) (spans [⟨20, 20⟩, ⟨90, 90⟩, ⟨95, 95⟩]) :=
  (arr_new X #[.int .i64 20, .int .i64 20, .int .i64 90, .int .i64 90, .int .i64 95, .int .i64 95] ty).more (by simp)
theorem arr_i1 (X : World) (ty : TypeId) : Arr (X.alloc (.cells #[.int .i64 2] ty)) (X.alloc (.cells #[.int .i64 2] ty)).heap.size (some ⟨X.heap.size, 0, none⟩) (ints [2]) :=
  (arr_new X #[.int .i64 2] ty).more (by simp)

theorem eqS_any (O : Option Addr) (oc : Nat) (X : World) (ty : TypeId) (h : Arr X X.heap.size O (spans [⟨20, 20⟩, ⟨90, 90⟩, ⟨95, 95⟩])) :
    Calls Try.prog 29 #[.slice O 3 oc, .slice (some ⟨X.heap.size, 0, none⟩) 3 3] (X.alloc (.cells #[.int .i64 20, .int .i64 20, .int .i64 90, .int .i64 90, .int .i64 95, .int .i64 95] ty)) fun e w' =>
      e = .returned (.bool true) ∧ Below X.heap.size X w' := by
  have hb := (Below.refl X.heap.size X).alloc (Nat.le_refl _) (.cells #[.int .i64 20, .int .i64 20, .int .i64 90, .int .i64 90, .int .i64 95, .int .i64 95] ty)
  refine (equalSpans_any O _ oc 3 [⟨20, 20⟩, ⟨90, 90⟩, ⟨95, 95⟩] [⟨20, 20⟩, ⟨90, 90⟩, ⟨95, 95⟩] _ ((h.below hb).more (by simp)) (arr_sp3 _ _) (by decide)).mono ?_
  rintro e w' ⟨rfl, h'⟩
  exact ⟨rfl, hb.trans (h'.mono (by simp))⟩
theorem eqI_any (O : Option Addr) (oc : Nat) (X : World) (ty : TypeId) (h : Arr X X.heap.size O (ints [2])) :
    Calls Try.prog 34 #[.slice O 1 oc, .slice (some ⟨X.heap.size, 0, none⟩) 1 1] (X.alloc (.cells #[.int .i64 2] ty)) fun e w' =>
      e = .returned (.bool true) ∧ Below X.heap.size X w' := by
  have hb := (Below.refl X.heap.size X).alloc (Nat.le_refl _) (.cells #[.int .i64 2] ty)
  refine (equal_any O _ oc 1 [2] [2] _ ((h.below hb).more (by simp)) (arr_i1 _ _) (by decide)).mono ?_
  rintro e w' ⟨rfl, h'⟩
  exact ⟨rfl, hb.trans (h'.mono (by simp))⟩

set_option maxRecDepth 100000 in
set_option maxHeartbeats 4000000 in
theorem ticks_any (w : World) :
    Calls Try.prog 22 #[] w fun e w' => e = .returned (.bool true) ∧ Below w.heap.size w w' := by
  go_enter Try.func22, Try.ntmps22
  go_wp2_with (first
    | (go_at_call 53; refine (frosty_any _).mono ?_; rintro e wf ⟨⟨A, cap, rfl, hcap, hA⟩, hbf⟩; (first | replace hbf := Below.un1 hbf | replace hbf := Below.un2 hbf | skip); obtain ⟨hcf, hff, hlf, hmf, hwf⟩ := bcell hbf; have hzf := hbf.size; (try simp only [World.size_alloc, World.size_setCell] at hzf))
    | (go_at_call 54; refine (written_any _ _).mono ?_; rintro e wg ⟨⟨L, lcap, rfl, hlcap, hL⟩, hbg⟩; (first | replace hbg := Below.un1 hbg | replace hbg := Below.un2 hbg | skip); obtain ⟨hcg, hfg, hlg, hmg, hwg⟩ := bcell hbg; have hzg := hbg.size)
    | (go_at_call 14; refine (tShows A cap _ ?_).mono ?_; (focus (first | exact hA | (refine (hA.below ?_).more ?_; (repeat' (first | (with_reducible exact Below.refl _ _) | (with_reducible assumption) | (with_reducible refine Below.drew ?_) | (with_reducible refine below_drewN ?_ _) | (with_reducible refine Below.setCell ?_ ?_ _) | (with_reducible refine Below.alloc ?_ ?_ _) | go_size | (exact Below.size (by assumption)) | (refine Below.trans ?_ (Below.mono (by assumption) ?_))))))); rintro e w1 ⟨rfl, hb1⟩; (first | replace hb1 := Below.un1 hb1 | replace hb1 := Below.un2 hb1 | skip); obtain ⟨hc1, hf1, hl1, hm1, hw1⟩ := bcell hb1; have hz1 := hb1.size; (try simp only [World.size_alloc, World.size_setCell] at hz1))
    | (go_at_call 18; refine (tMeans A cap _ ?_).mono ?_; (focus (first | exact hA | (refine (hA.below ?_).more ?_; (repeat' (first | (with_reducible exact Below.refl _ _) | (with_reducible assumption) | (with_reducible refine Below.drew ?_) | (with_reducible refine below_drewN ?_ _) | (with_reducible refine Below.setCell ?_ ?_ _) | (with_reducible refine Below.alloc ?_ ?_ _) | go_size | (exact Below.size (by assumption)) | (refine Below.trans ?_ (Below.mono (by assumption) ?_))))))); rintro e w2 ⟨rfl, hb2⟩; (first | replace hb2 := Below.un1 hb2 | replace hb2 := Below.un2 hb2 | skip); obtain ⟨hc2, hf2, hl2, hm2, hw2⟩ := bcell hb2; have hz2 := hb2.size; (try simp only [World.size_alloc, World.size_setCell] at hz2))
    | (go_at_call 20; refine (tPassed A cap _ ?_).mono ?_; (focus (first | exact hA | (refine (hA.below ?_).more ?_; (repeat' (first | (with_reducible exact Below.refl _ _) | (with_reducible assumption) | (with_reducible refine Below.drew ?_) | (with_reducible refine below_drewN ?_ _) | (with_reducible refine Below.setCell ?_ ?_ _) | (with_reducible refine Below.alloc ?_ ?_ _) | go_size | (exact Below.size (by assumption)) | (refine Below.trans ?_ (Below.mono (by assumption) ?_))))))); rintro e w3 ⟨rfl, hb3⟩; (first | replace hb3 := Below.un1 hb3 | replace hb3 := Below.un2 hb3 | skip); obtain ⟨hc3, hf3, hl3, hm3, hw3⟩ := bcell hb3; have hz3 := hb3.size; (try simp only [World.size_alloc, World.size_setCell] at hz3))
    | (go_at_call 23; refine (tBefore A cap _ ?_).mono ?_; (focus (first | exact hA | (refine (hA.below ?_).more ?_; (repeat' (first | (with_reducible exact Below.refl _ _) | (with_reducible assumption) | (with_reducible refine Below.drew ?_) | (with_reducible refine below_drewN ?_ _) | (with_reducible refine Below.setCell ?_ ?_ _) | (with_reducible refine Below.alloc ?_ ?_ _) | go_size | (exact Below.size (by assumption)) | (refine Below.trans ?_ (Below.mono (by assumption) ?_))))))); rintro e w4 ⟨rfl, hb4⟩; (first | replace hb4 := Below.un1 hb4 | replace hb4 := Below.un2 hb4 | skip); obtain ⟨hc4, hf4, hl4, hm4, hw4⟩ := bcell hb4; have hz4 := hb4.size; (try simp only [World.size_alloc, World.size_setCell] at hz4))
    | (go_at_call 25; refine (tRight A L cap lcap _ ?_ ?_).mono ?_; (focus (refine (hA.below ?_).more ?_; (repeat' (first | (with_reducible exact Below.refl _ _) | (with_reducible assumption) | (with_reducible refine Below.drew ?_) | (with_reducible refine below_drewN ?_ _) | (with_reducible refine Below.setCell ?_ ?_ _) | (with_reducible refine Below.alloc ?_ ?_ _) | go_size | (exact Below.size (by assumption)) | (refine Below.trans ?_ (Below.mono (by assumption) ?_)))))); (focus (exact hL)); rintro e w5 ⟨rfl, hb5⟩; (first | replace hb5 := Below.un1 hb5 | replace hb5 := Below.un2 hb5 | skip); obtain ⟨hc5, hf5, hl5, hm5, hw5⟩ := bcell hb5; have hz5 := hb5.size; (try simp only [World.size_alloc, World.size_setCell] at hz5)))
  obtain ⟨B1, B2, B3, B5⟩ : (Below (w1.heap.size + 1) (w1.alloc (.cells #[.int .i64 150, .int .i64 152] 27)) w5) ∧ (Below (w2.heap.size + 1) (w2.alloc (.cells #[.int .i64 51, .int .i64 82] 27)) w5) ∧ (Below (w3.heap.size + 1) (w3.alloc (.cells #[.int .i64 0, .int .i64 31] 27)) w5) ∧ Below w.heap.size w w5 := ⟨by ((repeat (first | (with_reducible exact Below.refl _ _) | (with_reducible refine Below.alloc ?_ ?_ _) | (refine Below.trans ?_ (Below.mono (by assumption) ?_)))); all_goals ((try simp only [World.size_alloc, World.size_setCell]); omega)), by ((repeat (first | (with_reducible exact Below.refl _ _) | (with_reducible refine Below.alloc ?_ ?_ _) | (refine Below.trans ?_ (Below.mono (by assumption) ?_)))); all_goals ((try simp only [World.size_alloc, World.size_setCell]); omega)), by ((repeat (first | (with_reducible exact Below.refl _ _) | (with_reducible refine Below.alloc ?_ ?_ _) | (refine Below.trans ?_ (Below.mono (by assumption) ?_)))); all_goals ((try simp only [World.size_alloc, World.size_setCell]); omega)), by ((repeat (first | (with_reducible exact Below.refl _ _) | (with_reducible refine Below.alloc ?_ ?_ _) | (refine Below.trans ?_ (Below.mono (by assumption) ?_)))); all_goals ((try simp only [World.size_alloc, World.size_setCell]); omega))⟩
  have c10 : w5.cell? ⟨w1.heap.size, 0, none⟩ = some (.int .i64 150) := (B1.cell (by simp)).trans (by simp [go_sem])
  have c11 : w5.cell? ⟨w1.heap.size, 1, none⟩ = some (.int .i64 152) := (B1.cell (by simp)).trans (by simp [go_sem])
  have c20 : w5.cell? ⟨w2.heap.size, 0, none⟩ = some (.int .i64 51) := (B2.cell (by simp)).trans (by simp [go_sem])
  have c21 : w5.cell? ⟨w2.heap.size, 1, none⟩ = some (.int .i64 82) := (B2.cell (by simp)).trans (by simp [go_sem])
  have c30 : w5.cell? ⟨w3.heap.size, 0, none⟩ = some (.int .i64 0) := (B3.cell (by simp)).trans (by simp [go_sem])
  have c31 : w5.cell? ⟨w3.heap.size, 1, none⟩ = some (.int .i64 31) := (B3.cell (by simp)).trans (by simp [go_sem])
  have s1 : w1.heap.size < w5.heap.size := by have := B1.size; simp at this; omega
  have s2 : w2.heap.size < w5.heap.size := by have := B2.size; simp at this; omega
  have s3 : w3.heap.size < w5.heap.size := by have := B3.size; simp at this; omega
  clear hcf hff hlf hmf hwf hbf hcg hfg hlg hmg hwg hbg hc1 hf1 hl1 hm1 hw1 hb1 hc2 hf2 hl2 hm2 hw2 hb2 hc3 hf3 hl3 hm3 hw3 hb3 hc4 hf4 hl4 hm4 hw4 hb4 hc5 hf5 hl5 hm5 hw5 hb5
  clear B1 B2 B3
  go_region_held3 (fun w' => (w'.cell? ⟨w1.heap.size, 0, none⟩ = some (.int .i64 150) ∧ w'.cell? ⟨w1.heap.size, 1, none⟩ = some (.int .i64 152) ∧ w'.cell? ⟨w2.heap.size, 0, none⟩ = some (.int .i64 51) ∧ w'.cell? ⟨w2.heap.size, 1, none⟩ = some (.int .i64 82) ∧
      w'.cell? ⟨w3.heap.size, 0, none⟩ = some (.int .i64 0) ∧ w'.cell? ⟨w3.heap.size, 1, none⟩ = some (.int .i64 31)) ∧ Below w5.heap.size w5 w') (((refine ⟨?_, ?_⟩; (focus (first | (simp [go_sem, wr_set, wr_drew, wr_drewN, wr_alloc, wr_new]; done) | (simp [go_sem, wr_set, wr_drew, wr_drewN, wr_alloc, wr_new, *]; done) | (simp (disch := go_size) [go_sem, wr_set, wr_drew, wr_drewN, wr_alloc, wr_new, *]; done))); (repeat' (first | (with_reducible exact Below.refl _ _) | (with_reducible assumption) | (with_reducible refine Below.drew ?_) | (with_reducible refine below_drewN ?_ _) | (with_reducible refine Below.setCell ?_ ?_ _) | (with_reducible refine Below.alloc ?_ ?_ _) | go_size | (exact Below.size (by assumption)) | (refine Below.trans ?_ (Below.mono (by assumption) ?_)))))))
    ((go_at_call 41; refine (to_any _ _ _).mono ?_; rintro e w6 ⟨rfl, hb6⟩; (first | replace hb6 := Below.un1 hb6 | replace hb6 := Below.un2 hb6 | skip); obtain ⟨hc6, hf6, hl6, hm6, hw6⟩ := bcell hb6; have hz6 := hb6.size; (try simp only [World.size_alloc, World.size_setCell] at hz6)))
  obtain ⟨-, hBx⟩ := ‹(_ ∧ _) ∧ Below w5.heap.size w5 _›
  have B6 := B5.trans (hBx.mono B5.size)
  clear hBx c10 c11 c20 c21 c30 c31 s1 s2 s3
  go_wp2_with (first
    | (go_at_call 53; refine (frosty_any _).mono ?_; rintro e wf ⟨⟨A, cap, rfl, hcap, hA⟩, hbf⟩; (first | replace hbf := Below.un1 hbf | replace hbf := Below.un2 hbf | skip); obtain ⟨hcf, hff, hlf, hmf, hwf⟩ := bcell hbf; have hzf := hbf.size; (try simp only [World.size_alloc, World.size_setCell] at hzf))
    | (go_at_call 54; refine (written_any _ _).mono ?_; rintro e wg ⟨⟨L, lcap, rfl, hlcap, hL⟩, hbg⟩; (first | replace hbg := Below.un1 hbg | replace hbg := Below.un2 hbg | skip); obtain ⟨hcg, hfg, hlg, hmg, hwg⟩ := bcell hbg; have hzg := hbg.size)
    | (go_at_call 27; refine (tTimes A L cap lcap _ ?_ ?_).mono ?_; (focus (refine (hA.below ?_).more ?_; (repeat' (first | (with_reducible exact Below.refl _ _) | (with_reducible assumption) | (with_reducible refine Below.drew ?_) | (with_reducible refine below_drewN ?_ _) | (with_reducible refine Below.setCell ?_ ?_ _) | (with_reducible refine Below.alloc ?_ ?_ _) | go_size | (exact Below.size (by assumption)) | (refine Below.trans ?_ (Below.mono (by assumption) ?_)))))); (focus (exact hL)); rintro e w7 ⟨⟨O7, oc7, rfl, hoc7, hO7⟩, hb7⟩; (first | replace hb7 := Below.un1 hb7 | replace hb7 := Below.un2 hb7 | skip); have hz7 := hb7.size)
    | (go_at_call 30; refine (tStopped A L cap lcap _ ?_ ?_).mono ?_; (focus (refine (hA.below ?_).more ?_; (repeat' (first | (with_reducible exact Below.refl _ _) | (with_reducible assumption) | (with_reducible refine Below.drew ?_) | (with_reducible refine below_drewN ?_ _) | (with_reducible refine Below.setCell ?_ ?_ _) | (with_reducible refine Below.alloc ?_ ?_ _) | go_size | (exact Below.size (by assumption)) | (refine Below.trans ?_ (Below.mono (by assumption) ?_)))))); (focus (exact hL)); rintro e w8 ⟨rfl, hb8⟩; (first | replace hb8 := Below.un1 hb8 | replace hb8 := Below.un2 hb8 | skip); obtain ⟨hc8, hf8, hl8, hm8, hw8⟩ := bcell hb8; have hz8 := hb8.size; (try simp only [World.size_alloc, World.size_setCell] at hz8))
    | (go_at_call 32; refine (tWrong A L cap lcap _ ?_ ?_).mono ?_; (focus (refine (hA.below ?_).more ?_; (repeat' (first | (with_reducible exact Below.refl _ _) | (with_reducible assumption) | (with_reducible refine Below.drew ?_) | (with_reducible refine below_drewN ?_ _) | (with_reducible refine Below.setCell ?_ ?_ _) | (with_reducible refine Below.alloc ?_ ?_ _) | go_size | (exact Below.size (by assumption)) | (refine Below.trans ?_ (Below.mono (by assumption) ?_)))))); (focus (exact hL)); rintro e w9 ⟨⟨O9, oc9, rfl, hoc9, hO9⟩, hb9⟩; (first | replace hb9 := Below.un1 hb9 | replace hb9 := Below.un2 hb9 | skip); have hz9 := hb9.size))
  obtain ⟨B8, B7, B9⟩ : (Below (w8.heap.size + 1) (w8.alloc (.cells #[.int .i64 40, .int .i64 42] 27)) w9) ∧ Below w7.heap.size w7 w9 ∧ Below w6.heap.size w6 w9 := ⟨by ((repeat (first | (with_reducible exact Below.refl _ _) | (with_reducible refine Below.alloc ?_ ?_ _) | (refine Below.trans ?_ (Below.mono (by assumption) ?_)))); all_goals ((try simp only [World.size_alloc, World.size_setCell]); omega)), by ((repeat (first | (with_reducible exact Below.refl _ _) | (with_reducible refine Below.alloc ?_ ?_ _) | (refine Below.trans ?_ (Below.mono (by assumption) ?_)))); all_goals ((try simp only [World.size_alloc, World.size_setCell]); omega)), by ((repeat (first | (with_reducible exact Below.refl _ _) | (with_reducible refine Below.alloc ?_ ?_ _) | (refine Below.trans ?_ (Below.mono (by assumption) ?_)))); all_goals ((try simp only [World.size_alloc, World.size_setCell]); omega))⟩
  have c80 : w9.cell? ⟨w8.heap.size, 0, none⟩ = some (.int .i64 40) := (B8.cell (by simp)).trans (by simp [go_sem])
  have c81 : w9.cell? ⟨w8.heap.size, 1, none⟩ = some (.int .i64 42) := (B8.cell (by simp)).trans (by simp [go_sem])
  have s8 : w8.heap.size < w9.heap.size := by have := B8.size; simp at this; omega
  have hO7' := (hO7.below B7).more B7.size
  have BW := B6.trans (B9.mono B6.size)
  have HS : Hid (decide ([(⟨20, 20⟩ : Sp), ⟨90, 90⟩, ⟨95, 95⟩] = [⟨20, 20⟩, ⟨90, 90⟩, ⟨95, 95⟩]) = true) := hid (by decide)
  have HI : Hid (decide ([(2 : Int)] = [2]) = true) := hid (by decide)
  clear hcf hff hlf hmf hwf hbf hzf hcg hfg hlg hmg hwg hbg hzg hc8 hf8 hl8 hm8 hw8 hb8 hz8 hb7 hz7 hb9 hz9 B7 B8 B9 hO7 B6
  go_region_held3 (fun w' => (w'.cell? ⟨w8.heap.size, 0, none⟩ = some (.int .i64 40) ∧ w'.cell? ⟨w8.heap.size, 1, none⟩ = some (.int .i64 42)) ∧ Below w9.heap.size w9 w') (((refine ⟨?_, ?_⟩; (focus (first | (simp [go_sem, wr_set, wr_drew, wr_drewN, wr_alloc, wr_new]; done) | (simp [go_sem, wr_set, wr_drew, wr_drewN, wr_alloc, wr_new, *]; done) | (simp (disch := go_size) [go_sem, wr_set, wr_drew, wr_drewN, wr_alloc, wr_new, *]; done))); (repeat' (first | (with_reducible exact Below.refl _ _) | (with_reducible assumption) | (with_reducible refine Below.drew ?_) | (with_reducible refine below_drewN ?_ _) | (with_reducible refine Below.setCell ?_ ?_ _) | (with_reducible refine Below.alloc ?_ ?_ _) | go_size | (exact Below.size (by assumption)) | (refine Below.trans ?_ (Below.mono (by assumption) ?_)))))))
    (first
      | (go_at_call 41; refine (to_any _ _ _).mono ?_; rintro e w6 ⟨rfl, hb6⟩; (first | replace hb6 := Below.un1 hb6 | replace hb6 := Below.un2 hb6 | skip); obtain ⟨hc6, hf6, hl6, hm6, hw6⟩ := bcell hb6; have hz6 := hb6.size; (try simp only [World.size_alloc, World.size_setCell] at hz6))
      | (go_at_call 47; refine (one_any _ _).mono ?_; rintro e w6 ⟨rfl, hb6⟩; (first | replace hb6 := Below.un1 hb6 | replace hb6 := Below.un2 hb6 | skip); obtain ⟨hc6, hf6, hl6, hm6, hw6⟩ := bcell hb6; have hz6 := hb6.size; (try simp only [World.size_alloc, World.size_setCell] at hz6))
      | (go_at_call 29; refine (eqS_any O7 oc7 _ _ ?_).mono ?_; (focus (refine (hO7'.below ?_).more ?_; (repeat' (first | (with_reducible exact Below.refl _ _) | (with_reducible assumption) | (with_reducible refine Below.drew ?_) | (with_reducible refine below_drewN ?_ _) | (with_reducible refine Below.setCell ?_ ?_ _) | (with_reducible refine Below.alloc ?_ ?_ _) | go_size | (exact Below.size (by assumption)) | (refine Below.trans ?_ (Below.mono (by assumption) ?_)))))); rintro e w7 ⟨rfl, hb7⟩; (first | replace hb7 := Below.un1 hb7 | replace hb7 := Below.un2 hb7 | skip); obtain ⟨hc7, hf7, hl7, hm7, hw7⟩ := bcell hb7; have hz7 := hb7.size; (try simp only [World.size_alloc, World.size_setCell] at hz7))
      | (go_at_call 34; refine (eqI_any O9 oc9 _ _ ?_).mono ?_; (focus (refine (hO9.below ?_).more ?_; (repeat' (first | (with_reducible exact Below.refl _ _) | (with_reducible assumption) | (with_reducible refine Below.drew ?_) | (with_reducible refine below_drewN ?_ _) | (with_reducible refine Below.setCell ?_ ?_ _) | (with_reducible refine Below.alloc ?_ ?_ _) | go_size | (exact Below.size (by assumption)) | (refine Below.trans ?_ (Below.mono (by assumption) ?_)))))); rintro e w7 ⟨rfl, hb7⟩; (first | replace hb7 := Below.un1 hb7 | replace hb7 := Below.un2 hb7 | skip); obtain ⟨hc7, hf7, hl7, hm7, hw7⟩ := bcell hb7; have hz7 := hb7.size; (try simp only [World.size_alloc, World.size_setCell] at hz7)))
  all_goals
    obtain ⟨-, hBy⟩ := ‹(_ ∧ _) ∧ Below w9.heap.size w9 _›
    go_wp2
    go_ret
    exact ⟨rfl, BW.trans (hBy.mono BW.size)⟩
end Go.Proofs.Ytnkbcapikenbbaa
