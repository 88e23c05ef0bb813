/- Helpers of the layer's laws. -/
import Derived.Test.YtmddbnjbliponaaP8
namespace Go.Proofs.Ytmddbnjbliponaa
set_option linter.unusedSimpArgs false
set_option linter.unusedVariables false
open Go.RowKit
attribute [local go_sem high] cell_set_wr
attribute [local go_sem low] cell_wr frozen_wr
attribute [local go_sem] wr_set wr_drew wr_drewN wr_alloc wr_new

theorem minute_any (n : Int) (w : World) :
    Calls Try.prog 38 #[.int .i64 n] w fun e w' => e = .returned (.int .i64 (windI n 4320)) ∧ Below w.heap.size w w' := by
  go_enter Try.func38, Try.ntmps38
  go_wp2_with (go_at_call 42; refine (wind_any n 4320 (by omega) _).mono ?_; rintro e w1 ⟨rfl, rfl⟩)
  go_ret
  exact ⟨rfl, by (repeat' (first | (with_reducible exact Below.refl _ _) | (with_reducible assumption) | (with_reducible refine Below.drew ?_) | (with_reducible refine below_drewN ?_ _) | (with_reducible refine Below.setCell ?_ ?_ _) | (with_reducible refine Below.alloc ?_ ?_ _) | go_size | (exact Below.size (by assumption)) | (refine Below.trans ?_ (Below.mono (by assumption) ?_))))⟩

set_option maxRecDepth 100000 in
set_option maxHeartbeats 4000000 in
theorem sound_any (set : Int) (A : Option Addr) (cap : Nat) (fs : List Fr) (w : World) (hA : Arr w w.heap.size A (frosts fs)) :
    Calls Try.prog 35 #[.agg #[.int .i64 set, .slice A fs.length cap]] w fun e w' => e = .returned (.bool (Ck.ok ⟨set, fs⟩)) ∧ Below w.heap.size w w' := by
  have HC : Hid (checkE ⟨set, fs⟩ = if (Ck.ok ⟨set, fs⟩) then 0 else 10) := hid rfl
  have hba := (Below.refl w.heap.size w).alloc (Nat.le_refl _) (.cells #[.int .i64 set, .slice A fs.length cap] 24)
  have hA' := (hA.below hba).more (by simp : w.heap.size ≤ (w.alloc (.cells #[.int .i64 set, .slice A fs.length cap] 24)).heap.size)
  cases ho : (Ck.ok ⟨set, fs⟩)
  · have HO := hid ho
    have HC2 : Hid (checkE ⟨set, fs⟩ = 10) := hid (by rw [HC.out, HO.out]; rfl)
    go_enter Try.func35, Try.ntmps35
    go_wp2_with (go_at_call 16; refine (pCheck_any _ _ _ _ _ hA').mono ?_; rw [HC2.out]; rintro e w1 ⟨rfl, hb1⟩; (first | replace hb1 := Below.un1 hb1 | replace hb1 := Below.un2 hb1 | skip); obtain ⟨hc1, hf1, hl1, hm1, hw1⟩ := bcell hb1; have hz1 := hb1.size; (try simp only [World.size_alloc, World.size_setCell] at hz1))
    refine wp_loop_rounds 2 ?_
    rw [rounds_succ]
    go_wp2
    go_ret
    exact ⟨rfl, by (repeat' (first | (with_reducible exact Below.refl _ _) | (with_reducible assumption) | (with_reducible refine Below.drew ?_) | (with_reducible refine below_drewN ?_ _) | (with_reducible refine Below.setCell ?_ ?_ _) | (with_reducible refine Below.alloc ?_ ?_ _) | go_size | (exact Below.size (by assumption)) | (refine Below.trans ?_ (Below.mono (by assumption) ?_))))⟩
  · have HO := hid ho
    have HC2 : Hid (checkE ⟨set, fs⟩ = 0) := hid (by rw [HC.out, HO.out]; rfl)
    simp only [Ck.ok, Bool.and_eq_true, decide_eq_true_eq] at ho
    obtain ⟨h1, h2, h3, h4⟩ := ho
    have h3' : (fs.length : Int) ≤ 3 := by omega
    have hd3 : decide ((fs.length : Int) ≤ 3) = true := decide_eq_true h3'
    have hbet : (decide (0 ≤ set) && decide (set ≤ 4319)) = true := by simp [h1, h2]
    go_enter Try.func35, Try.ntmps35
    go_wp2_with (first
      | (go_at_call 16; refine (pCheck_any _ _ _ _ _ hA').mono ?_; rw [HC2.out]; rintro e w1 ⟨rfl, hb1⟩; (first | replace hb1 := Below.un1 hb1 | replace hb1 := Below.un2 hb1 | skip); obtain ⟨hc1, hf1, hl1, hm1, hw1⟩ := bcell hb1; have hz1 := hb1.size; (try simp only [World.size_alloc, World.size_setCell] at hz1))
      | (go_at_call 44; refine (between_any _ _ _ _).mono ?_; rw [hbet]; rintro e w2 ⟨rfl, hw⟩; subst hw))
    have hB1 := hb1
    clear hc1 hf1 hl1 hm1 hw1
    go_loopw [3, 4, 5] (fun okv ov iv wr => ∃ (k : Nat) (o : Int), k ≤ fs.length ∧ iv = .int .i64 k ∧ ov = .int .i64 o ∧ okv = .bool true ∧ Hid (chk o (fs.drop k) = true) ∧
        wr.cell? ⟨w.heap.size, 0, none⟩ = some (.int .i64 set) ∧ wr.cell? ⟨w.heap.size, 1, none⟩ = some (.slice A fs.length cap) ∧ w.heap.size < wr.heap.size ∧ Below w.heap.size w wr) (fun _ _ iv _ => fs.length - (intOf iv).toNat)
    case atStart =>
      refine ⟨0, 0, Nat.zero_le _, by simp, by simp, by simp, hid h4, ?_, ?_, ?_, ?_⟩
      · exact (hB1.cell (by simp)).trans (by simp [go_sem])
      · exact (hB1.cell (by simp)).trans (by simp [go_sem])
      · have := hB1.size; simp at this; omega
      · (repeat' (first | (with_reducible exact Below.refl _ _) | (with_reducible assumption) | (with_reducible refine Below.drew ?_) | (with_reducible refine below_drewN ?_ _) | (with_reducible refine Below.setCell ?_ ?_ _) | (with_reducible refine Below.alloc ?_ ?_ _) | go_size | (exact Below.size (by assumption)) | (refine Below.trans ?_ (Below.mono (by assumption) ?_))))
    case round =>
      obtain ⟨k, o, hk, rfl, rfl, rfl, HK, x0, x1, hlt0, hB⟩ := hrel
      by_cases hlt : k < fs.length
      · have hi1 : k + 1 ≤ fs.length := hlt
        obtain ⟨b, o', rfl, hb, c0, c1, c2, c3⟩ := (hA.below hB).fr hlt
        have hck := HK.out
        rw [chk_drop o fs k hlt] at hck
        simp only [okFr, nearB, minutesB, Bool.and_eq_true, decide_eq_true_eq] at hck
        obtain ⟨⟨⟨⟨p1, p2, p3⟩, p4⟩, ⟨⟨p5, p6, p7⟩, p8⟩, p9, p10⟩, hrest⟩ := hck
        have HK2 : Hid (chk fs[k].e.hi (fs.drop (k + 1)) = true) := hid hrest
        clear hA hA' hrest HK
        generalize fs[k] = g at *
        have s1 : (decide (o ≤ g.b.lo) && (decide (g.b.lo ≤ g.b.hi) && decide (g.b.hi ≤ 4319))) = true := by simp; omega
        have s2 : (decide (g.b.hi ≤ g.e.lo) && (decide (g.e.lo ≤ g.e.hi) && decide (g.e.hi ≤ 4319))) = true := by simp; omega
        have hzr := hB.size
        go_wp2_with (first
          | (go_at_call 81; refine (spans_any _ _ _ _ _).mono ?_; (first | rw [s1] | rw [s2]); rintro e w5 ⟨rfl, hb5⟩; (first | replace hb5 := Below.un1 hb5 | replace hb5 := Below.un2 hb5 | skip); obtain ⟨hc5, hf5, hl5, hm5, hw5⟩ := bcell hb5; have hz5 := hb5.size; (try simp only [World.size_alloc, World.size_setCell] at hz5); have m1 := hl5 w.heap.size (by first | assumption | (simp; omega))))
        go_roundw
        case rel =>
          refine ⟨k + 1, g.e.hi, hi1, by go_num, rfl, rfl, HK2, ?_, ?_, ?_, ?_⟩
          · (first | (simp [go_sem, wr_set, wr_drew, wr_drewN, wr_alloc, wr_new]; done) | (simp [go_sem, wr_set, wr_drew, wr_drewN, wr_alloc, wr_new, *]; done) | (simp (disch := go_size) [go_sem, wr_set, wr_drew, wr_drewN, wr_alloc, wr_new, *]; done))
          · (first | (simp [go_sem, wr_set, wr_drew, wr_drewN, wr_alloc, wr_new]; done) | (simp [go_sem, wr_set, wr_drew, wr_drewN, wr_alloc, wr_new, *]; done) | (simp (disch := go_size) [go_sem, wr_set, wr_drew, wr_drewN, wr_alloc, wr_new, *]; done))
          · assumption
          · (repeat' (first | (with_reducible exact Below.refl _ _) | (with_reducible assumption) | (with_reducible refine Below.drew ?_) | (with_reducible refine below_drewN ?_ _) | (with_reducible refine Below.setCell ?_ ?_ _) | (with_reducible refine Below.alloc ?_ ?_ _) | go_size | (exact Below.size (by assumption)) | (refine Below.trans ?_ (Below.mono (by assumption) ?_))))
        case measure => simp [intOf]; omega
      · obtain rfl : k = fs.length := by omega
        go_wp2
        go_ret
        exact ⟨rfl, by (repeat' (first | (with_reducible exact Below.refl _ _) | (with_reducible assumption) | (with_reducible refine Below.drew ?_) | (with_reducible refine below_drewN ?_ _) | (with_reducible refine Below.setCell ?_ ?_ _) | (with_reducible refine Below.alloc ?_ ?_ _) | go_size | (exact Below.size (by assumption)) | (refine Below.trans ?_ (Below.mono (by assumption) ?_))))⟩
end Go.Proofs.Ytmddbnjbliponaa
