/- ClockPlain: the walk. -/
import Derived.Test.YtifemcokckgdcaaW4
import Derived.Test.YtifemcokckgdcaaW5
import Derived.Test.YtifemcokckgdcaaE1
namespace Go.Proofs.Ytifemcokckgdcaa
set_option linter.unusedSimpArgs false
set_option linter.unusedVariables false
open Go.RowKit Go.Shelf
attribute [local go_sem high] cell_set_wr
attribute [local go_sem low] cell_wr frozen_wr
attribute [local go_sem] wr_set wr_drew wr_drewN wr_alloc wr_new

theorem minute_same (n : Int) (w : World) :
    Calls Try.prog 38 #[.int .i64 n] w fun e w' => e = .returned (.int .i64 (windI n 4320)) ∧ w' = w := by
  go_enter Try.func38, Try.ntmps38
  go_wp2_with (go_at_call 42; refine (wind_any n 4320 (by omega) _).mono ?_; rintro e w1 ⟨rfl, rfl⟩)
  go_ret
  exact ⟨rfl, rfl⟩

set_option maxRecDepth 100000 in
set_option maxHeartbeats 4000000 in
theorem plain_false (set : Int) (A : Option Addr) (cap : Nat) (fs : List Fr) (n0 n1 : Int) (w : World) (hA : Arr w w.heap.size A (frosts fs)) (ho : Ck.ok ⟨set, fs⟩ = false) :
    Calls Try.prog 12 #[.agg #[.int .i64 set, .slice A fs.length cap], .agg #[.int .i64 n0, .int .i64 n1]] w fun e w' => e = .returned (.bool true) ∧ Below w.heap.size w w' := by
  have HO := hid ho
  go_enter Try.func12, Try.ntmps12
  go_wp2_with (first
    | (go_at_call 35; refine (sound_any set A cap fs _ ?_).mono ?_; (focus (refine (hA.below ?_).more ?_; (repeat' (first | (with_reducible exact Below.refl _ _) | (with_reducible assumption) | (with_reducible refine Below.drew ?_) | (with_reducible refine below_drewN ?_ _) | (with_reducible refine Below.setCell ?_ ?_ _) | (with_reducible refine Below.alloc ?_ ?_ _) | go_size | (exact Below.size (by assumption)) | (refine Below.trans ?_ (Below.mono (by assumption) ?_)))))); rw [HO.out]; rintro e w1 ⟨rfl, hb1⟩; (first | replace hb1 := Below.un1 hb1 | replace hb1 := Below.un2 hb1 | skip); obtain ⟨hc1, hf1, hl1, hm1, hw1⟩ := bcell hb1; have hz1 := hb1.size; (try simp only [World.size_alloc, World.size_setCell] at hz1))
    | (go_at_call 22; refine (ticks_any _).mono ?_; rintro e w2 ⟨rfl, hb2⟩; (first | replace hb2 := Below.un1 hb2 | replace hb2 := Below.un2 hb2 | skip); obtain ⟨hc2, hf2, hl2, hm2, hw2⟩ := bcell hb2; have hz2 := hb2.size; (try simp only [World.size_alloc, World.size_setCell] at hz2)))
  go_ret
  exact ⟨rfl, by (repeat' (first | (with_reducible exact Below.refl _ _) | (with_reducible assumption) | (with_reducible refine Below.drew ?_) | (with_reducible refine below_drewN ?_ _) | (with_reducible refine Below.setCell ?_ ?_ _) | (with_reducible refine Below.alloc ?_ ?_ _) | go_size | (exact Below.size (by assumption)) | (refine Below.trans ?_ (Below.mono (by assumption) ?_))))⟩

theorem uShows (set a : Int) (w : World) (hs : 0 ≤ set ∧ set ≤ 4319) (ha : 0 ≤ a ∧ a ≤ 4319) :
    Calls Try.prog 14 #[.agg #[.int .i64 set, .slice none 0 0], .int .i64 a] w fun e w' => e = .returned (.tuple #[.agg #[.int .i64 (set + a), .int .i64 (set + a)], .int .i64 0]) ∧ Below w.heap.size w w' := by
  have h := pShows_any set none 0 [] a w (Arr.nil _ _ _)
  rw [plain_shows set a hs ha] at h
  exact h
theorem uMeans (set z : Int) (w : World) (hs : 0 ≤ set ∧ set ≤ 4319) (hz : 0 ≤ z ∧ z ≤ 4319) :
    Calls Try.prog 18 #[.agg #[.int .i64 set, .slice none 0 0], .int .i64 (set + z)] w fun e w' => e = .returned (.tuple #[.agg #[.int .i64 z, .int .i64 z], .int .i64 0]) ∧ Below w.heap.size w w' := by
  have h := pMeans_any set none 0 [] (set + z) w (Arr.nil _ _ _)
  rw [plain_means set z hs hz] at h
  exact h
theorem uPassed (set a z : Int) (w : World) (hs : 0 ≤ set ∧ set ≤ 4319) (ha : 0 ≤ a ∧ a ≤ z) (hz : z ≤ 4319) :
    Calls Try.prog 20 #[.agg #[.int .i64 set, .slice none 0 0], .int .i64 (set + a), .int .i64 (set + z)] w fun e w' => e = .returned (.tuple #[.agg #[.int .i64 (z - a), .int .i64 (z - a)], .int .i64 0]) ∧ Below w.heap.size w w' := by
  have h := pPassed_any set none 0 [] (set + a) (set + z) w (Arr.nil _ _ _)
  rw [plain_passed set a z hs ha hz] at h
  exact h

set_option maxRecDepth 100000 in
set_option maxHeartbeats 4000000 in
theorem plain_core (set : Int) (A : Option Addr) (cap : Nat) (fs : List Fr) (n0 n1 : Int) (w : World) (hA : Arr w w.heap.size A (frosts fs)) (ho : Ck.ok ⟨set, fs⟩ = true) (a z : Int)
    (HA : Hid ((if windI n1 4320 < windI n0 4320 then windI n1 4320 else windI n0 4320) = a)) (HZ : Hid ((if windI n0 4320 < windI n1 4320 then windI n1 4320 else windI n0 4320) = z))
    (haz : 0 ≤ a ∧ a ≤ z) (hz' : 0 ≤ z ∧ z ≤ 4319) (S M P : Sp) (f g : Int)
    (HS : Hid (pShowsR ⟨set, fs⟩ a = (S, 0))) (HM : Hid (pMeansR ⟨set, fs⟩ (set + z) = (M, f))) (HP : Hid (pPassedR ⟨set, fs⟩ (set + a) (set + z) = (P, g)))
    (hS : S.hi ≤ set + a) (hfg : (f = 0 ∧ z ≤ M.lo ∧ ((g = 0 ∧ z - a ≤ P.lo ∧ P.lo ≤ P.hi) ∨ g = 4)) ∨ (f = 4 ∧ g = 4)) :
    Calls Try.prog 12 #[.agg #[.int .i64 set, .slice A fs.length cap], .agg #[.int .i64 n0, .int .i64 n1]] w fun e w' => e = .returned (.bool true) ∧ Below w.heap.size w w' := by
  have HO := hid ho
  have HFG := hid hfg
  obtain ⟨hs1, hs2⟩ := ok_set ho
  have ha : 0 ≤ a ∧ a ≤ 4319 := by omega
  clear ho hfg
  go_enter Try.func12, Try.ntmps12
  go_wp2_with (first
    | (go_at_call 35; refine (sound_any set A cap fs _ ?_).mono ?_; (focus (refine (hA.below ?_).more ?_; (repeat' (first | (with_reducible exact Below.refl _ _) | (with_reducible assumption) | (with_reducible refine Below.drew ?_) | (with_reducible refine below_drewN ?_ _) | (with_reducible refine Below.setCell ?_ ?_ _) | (with_reducible refine Below.alloc ?_ ?_ _) | go_size | (exact Below.size (by assumption)) | (refine Below.trans ?_ (Below.mono (by assumption) ?_)))))); rw [HO.out]; rintro e w1 ⟨rfl, hb1⟩; (first | replace hb1 := Below.un1 hb1 | replace hb1 := Below.un2 hb1 | skip); obtain ⟨hc1, hf1, hl1, hm1, hw1⟩ := bcell hb1; have hz1 := hb1.size; (try simp only [World.size_alloc, World.size_setCell] at hz1)))
  have hB0 : Below w.heap.size w (w1.alloc (.cells #[.int .i64 set, .slice none 0 0] 24)) := by (repeat' (first | (with_reducible exact Below.refl _ _) | (with_reducible assumption) | (with_reducible refine Below.drew ?_) | (with_reducible refine below_drewN ?_ _) | (with_reducible refine Below.setCell ?_ ?_ _) | (with_reducible refine Below.alloc ?_ ?_ _) | go_size | (exact Below.size (by assumption)) | (refine Below.trans ?_ (Below.mono (by assumption) ?_))))
  have x0 : (w1.alloc (.cells #[.int .i64 set, .slice none 0 0] 24)).cell? ⟨w.heap.size, 0, none⟩ = some (.int .i64 set) := by (first | (simp [go_sem, wr_set, wr_drew, wr_drewN, wr_alloc, wr_new]; done) | (simp [go_sem, wr_set, wr_drew, wr_drewN, wr_alloc, wr_new, *]; done) | (simp (disch := go_size) [go_sem, wr_set, wr_drew, wr_drewN, wr_alloc, wr_new, *]; done))
  have x1 : (w1.alloc (.cells #[.int .i64 set, .slice none 0 0] 24)).cell? ⟨w.heap.size, 1, none⟩ = some (.slice A fs.length cap) := by (first | (simp [go_sem, wr_set, wr_drew, wr_drewN, wr_alloc, wr_new]; done) | (simp [go_sem, wr_set, wr_drew, wr_drewN, wr_alloc, wr_new, *]; done) | (simp (disch := go_size) [go_sem, wr_set, wr_drew, wr_drewN, wr_alloc, wr_new, *]; done))
  have x2 : (w1.alloc (.cells #[.int .i64 set, .slice none 0 0] 24)).cell? ⟨w.heap.size + 1, 0, none⟩ = some (.int .i64 n0) := by (first | (simp [go_sem, wr_set, wr_drew, wr_drewN, wr_alloc, wr_new]; done) | (simp [go_sem, wr_set, wr_drew, wr_drewN, wr_alloc, wr_new, *]; done) | (simp (disch := go_size) [go_sem, wr_set, wr_drew, wr_drewN, wr_alloc, wr_new, *]; done))
  have x3 : (w1.alloc (.cells #[.int .i64 set, .slice none 0 0] 24)).cell? ⟨w.heap.size + 1, 1, none⟩ = some (.int .i64 n1) := by (first | (simp [go_sem, wr_set, wr_drew, wr_drewN, wr_alloc, wr_new]; done) | (simp [go_sem, wr_set, wr_drew, wr_drewN, wr_alloc, wr_new, *]; done) | (simp (disch := go_size) [go_sem, wr_set, wr_drew, wr_drewN, wr_alloc, wr_new, *]; done))
  have x4 : (w1.alloc (.cells #[.int .i64 set, .slice none 0 0] 24)).cell? ⟨w1.heap.size, 0, none⟩ = some (.int .i64 set) := by simp [go_sem]
  have x5 : (w1.alloc (.cells #[.int .i64 set, .slice none 0 0] 24)).cell? ⟨w1.heap.size, 1, none⟩ = some (.slice none 0 0) := by simp [go_sem]
  have hz : w.heap.size + 1 < w1.heap.size := by omega
  have hzz : (w1.alloc (.cells #[.int .i64 set, .slice none 0 0] 24)).heap.size = w1.heap.size + 1 := by simp
  generalize w1.alloc (.cells #[.int .i64 set, .slice none 0 0] 24) = W at *
  clear hc1 hf1 hl1 hm1 hw1 hb1 hz1
  generalize w1.heap.size = xb at *
  go_quiet ((go_at_call 38; exact Calls.quiet_of_same (minute_same _ _)))
  have y0 : (W.drewN nq).cell? ⟨w.heap.size, 0, none⟩ = some (.int .i64 set) := x0
  have y1 : (W.drewN nq).cell? ⟨w.heap.size, 1, none⟩ = some (.slice A fs.length cap) := x1
  have y4 : (W.drewN nq).cell? ⟨xb, 0, none⟩ = some (.int .i64 set) := x4
  have y5 : (W.drewN nq).cell? ⟨xb, 1, none⟩ = some (.slice none 0 0) := x5
  have yz : (W.drewN nq).heap.size = xb + 1 := hzz
  have yB : Below w.heap.size w (W.drewN nq) := below_drewN hB0 nq
  rw [HA.out, HZ.out]
  generalize W.drewN nq = V at *
  clear x0 x1 x2 x3 x4 x5 hzz hB0
  have n0' : w.heap.size < V.heap.size := by omega
  have n1' : xb < V.heap.size := by omega
  clear yz
  go_wp2_with (first
    | (go_at_call 14; refine (uShows set a _ ⟨hs1, hs2⟩ ha).mono ?_; rintro e w5 ⟨rfl, hb5⟩; (first | replace hb5 := Below.un1 hb5 | replace hb5 := Below.un2 hb5 | skip); obtain ⟨hc5, hf5, hl5, hm5, hw5⟩ := bcell hb5; have hz5 := hb5.size; (try simp only [World.size_alloc, World.size_setCell] at hz5); have n5 : w.heap.size < w5.heap.size := (by omega); have m5 : xb < w5.heap.size := (by omega))
    | (go_at_call 18; refine (uMeans set z _ ⟨hs1, hs2⟩ hz').mono ?_; rintro e w6 ⟨rfl, hb6⟩; (first | replace hb6 := Below.un1 hb6 | replace hb6 := Below.un2 hb6 | skip); obtain ⟨hc6, hf6, hl6, hm6, hw6⟩ := bcell hb6; have hz6 := hb6.size; (try simp only [World.size_alloc, World.size_setCell] at hz6); have n6 : w.heap.size < w6.heap.size := (by omega); have m6 : xb < w6.heap.size := (by omega))
    | (go_at_call 20; refine (uPassed set a z _ ⟨hs1, hs2⟩ haz hz'.2).mono ?_; rintro e w7 ⟨rfl, hb7⟩; (first | replace hb7 := Below.un1 hb7 | replace hb7 := Below.un2 hb7 | skip); obtain ⟨hc7, hf7, hl7, hm7, hw7⟩ := bcell hb7; have hz7 := hb7.size; (try simp only [World.size_alloc, World.size_setCell] at hz7); have n7 : w.heap.size < w7.heap.size := (by omega); have m7 : xb < w7.heap.size := (by omega)))
  obtain ⟨W7, hW7⟩ : ∃ W7, W7 = w7.alloc (.cells #[.int .i64 (z - a), .int .i64 (z - a)] 27) := ⟨_, rfl⟩
  have hb8 : Below w7.heap.size w7 W7 := by rw [hW7]; exact (Below.refl _ _).alloc (Nat.le_refl _) _
  have hz8 : w7.heap.size < W7.heap.size := by rw [hW7]; simp
  have c70 : W7.cell? ⟨w7.heap.size, 0, none⟩ = some (.int .i64 (z - a)) := by rw [hW7]; simp [go_sem]
  have c71 : W7.cell? ⟨w7.heap.size, 1, none⟩ = some (.int .i64 (z - a)) := by rw [hW7]; simp [go_sem]
  have q70 : Wr W7 w7.heap.size 0 := by rw [hW7]; exact wr_new rfl (by simp)
  have q71 : Wr W7 w7.heap.size 1 := by rw [hW7]; exact wr_new rfl (by simp)
  rw [← hW7]
  clear hW7
  obtain ⟨B5, B6, BV⟩ : (Below (w5.heap.size + 1) (w5.alloc (.cells #[.int .i64 (set + a), .int .i64 (set + a)] 27)) W7) ∧ (Below (w6.heap.size + 1) (w6.alloc (.cells #[.int .i64 z, .int .i64 z] 27)) W7) ∧ Below V.heap.size V W7 := ⟨by ((repeat (first | (with_reducible exact Below.refl _ _) | (with_reducible refine Below.alloc ?_ ?_ _) | (refine Below.trans ?_ (Below.mono (by assumption) ?_)))); all_goals ((try simp only [World.size_alloc, World.size_setCell]); omega)), by ((repeat (first | (with_reducible exact Below.refl _ _) | (with_reducible refine Below.alloc ?_ ?_ _) | (refine Below.trans ?_ (Below.mono (by assumption) ?_)))); all_goals ((try simp only [World.size_alloc, World.size_setCell]); omega)), by ((repeat (first | (with_reducible exact Below.refl _ _) | (with_reducible refine Below.alloc ?_ ?_ _) | (refine Below.trans ?_ (Below.mono (by assumption) ?_)))); all_goals ((try simp only [World.size_alloc, World.size_setCell]); omega))⟩
  have c50 : W7.cell? ⟨w5.heap.size, 0, none⟩ = some (.int .i64 (set + a)) := (B5.cell (by simp)).trans (by simp [go_sem])
  have c51 : W7.cell? ⟨w5.heap.size, 1, none⟩ = some (.int .i64 (set + a)) := (B5.cell (by simp)).trans (by simp [go_sem])
  have c60 : W7.cell? ⟨w6.heap.size, 0, none⟩ = some (.int .i64 z) := (B6.cell (by simp)).trans (by simp [go_sem])
  have c61 : W7.cell? ⟨w6.heap.size, 1, none⟩ = some (.int .i64 z) := (B6.cell (by simp)).trans (by simp [go_sem])
  have q50 : Wr W7 w5.heap.size 0 := wr_below (wr_new rfl (by simp)) B5 (by omega)
  have q51 : Wr W7 w5.heap.size 1 := wr_below (wr_new rfl (by simp)) B5 (by omega)
  have q60 : Wr W7 w6.heap.size 0 := wr_below (wr_new rfl (by simp)) B6 (by omega)
  have q61 : Wr W7 w6.heap.size 1 := wr_below (wr_new rfl (by simp)) B6 (by omega)
  have d0 : W7.cell? ⟨w.heap.size, 0, none⟩ = some (.int .i64 set) := (BV.cell n0').trans y0
  have d1 : W7.cell? ⟨w.heap.size, 1, none⟩ = some (.slice A fs.length cap) := (BV.cell n0').trans y1
  have s5 : w5.heap.size < W7.heap.size := q50.lt
  have s6 : w6.heap.size < W7.heap.size := q60.lt
  have s0 : w.heap.size < W7.heap.size := by omega
  have e5 : w.heap.size ≠ w5.heap.size := by omega
  have e6 : w.heap.size ≠ w6.heap.size := by omega
  have e7 : w.heap.size ≠ w7.heap.size := by omega
  have e56 : w5.heap.size ≠ w6.heap.size := by omega
  have e57 : w5.heap.size ≠ w7.heap.size := by omega
  have e67 : w6.heap.size ≠ w7.heap.size := by omega
  have yW := yB.trans (BV.mono yB.size)
  have g5 : w.heap.size ≤ w5.heap.size := by omega
  have g6 : w.heap.size ≤ w6.heap.size := by omega
  have g7 : w.heap.size ≤ w7.heap.size := by omega
  clear hc5 hf5 hl5 hm5 hw5 hb5 hz5 hc6 hf6 hl6 hm6 hw6 hb6 hz6 hc7 hf7 hl7 hm7 hw7 hb7 hz7 hb8 B5 B6 BV y0 y1 y4 y5 yB n5 n6 n7 m5 m6 m7 n0' n1' hz
  have r1 : IntKind.i64.wrap (set + a) = set + a := IntWalk.i64_in _ (by omega)
  have r2 : IntKind.i64.wrap (z - a) = z - a := IntWalk.i64_in _ (by omega)
  have r3 : IntKind.i64.wrap (set + z) = set + z := IntWalk.i64_in _ (by omega)
  have r4 : ((set + a) == (set + a)) = true := by simp
  have r5 : (z == z) = true := by simp
  have r6 : ((z - a) == (z - a)) = true := by simp
  generalize w5.heap.size = b5 at *
  generalize w6.heap.size = b6 at *
  generalize w7.heap.size = b7 at *
  go_region_held3 (fun w' => (w'.cell? ⟨w.heap.size, 0, none⟩ = some (.int .i64 set) ∧ w'.cell? ⟨w.heap.size, 1, none⟩ = some (.slice A fs.length cap) ∧ w'.cell? ⟨b5, 0, none⟩ = some (.int .i64 (set + a)) ∧ w'.cell? ⟨b5, 1, none⟩ = some (.int .i64 (set + a)) ∧
      w'.cell? ⟨b6, 0, none⟩ = some (.int .i64 z) ∧ w'.cell? ⟨b6, 1, none⟩ = some (.int .i64 z) ∧ w'.cell? ⟨b7, 0, none⟩ = some (.int .i64 (z - a)) ∧ w'.cell? ⟨b7, 1, none⟩ = some (.int .i64 (z - a)) ∧
      Wr w' b5 0 ∧ Wr w' b5 1 ∧ Wr w' b6 0 ∧ Wr w' b6 1 ∧ Wr w' b7 0 ∧ Wr w' b7 1) ∧ Below W7.heap.size W7 w') (((refine ⟨?_, ?_⟩; (focus (first | (simp [go_sem, wr_set, wr_drew, wr_drewN, wr_alloc, wr_new]; done) | (simp [go_sem, wr_set, wr_drew, wr_drewN, wr_alloc, wr_new, *]; done) | (simp (disch := go_size) [go_sem, wr_set, wr_drew, wr_drewN, wr_alloc, wr_new, *]; done))); (repeat' (first | (with_reducible exact Below.refl _ _) | (with_reducible assumption) | (with_reducible refine Below.drew ?_) | (with_reducible refine below_drewN ?_ _) | (with_reducible refine Below.setCell ?_ ?_ _) | (with_reducible refine Below.alloc ?_ ?_ _) | go_size | (exact Below.size (by assumption)) | (refine Below.trans ?_ (Below.mono (by assumption) ?_)))))))
    ((go_at_call 47; refine (one_any _ _).mono ?_; rintro e w9 ⟨rfl, hb9⟩; (first | replace hb9 := Below.un1 hb9 | replace hb9 := Below.un2 hb9 | skip); obtain ⟨hc9, hf9, hl9, hm9, hw9⟩ := bcell hb9; have hz9 := hb9.size; (try simp only [World.size_alloc, World.size_setCell] at hz9)))
  obtain ⟨⟨f0, f1, -, -, -, -, -, -, q50, q51, q60, q61, q70, q71⟩, hBx⟩ := ‹(_ ∧ _) ∧ Below W7.heap.size W7 w9›
  have yX := yW.trans (hBx.mono yW.size)
  have hAX := (hA.below yX).more yX.size
  have s0 : w.heap.size < w9.heap.size := by have := hBx.size; omega
  have s5 := q50.lt
  have s6 := q60.lt
  have s7 := q70.lt
  clear hBx c50 c51 c60 c61 c70 c71 d0 d1 yW r4 r5 r6
  clear hc9 hf9 hl9 hm9 hw9 hb9 hz9
  have t1 : decide (set + a < S.hi) = false := by simp; omega
  have hfg := HFG.out
  clear HFG
  rcases hfg with ⟨rfl, hM, ⟨rfl, hP1, hP2⟩ | rfl⟩ | ⟨rfl, rfl⟩
  all_goals (try have t2 : decide (M.lo < z) = false := (by simp; omega))
  all_goals (try have t3 : decide (z - a ≤ P.lo) = true := (by simp; omega))
  all_goals (try have t4 : decide (P.lo ≤ P.hi) = true := (by simp; omega))
  all_goals
   go_wp2_with (first
    | (go_at_call 22; refine (ticks_any _).mono ?_; rintro e w13 ⟨rfl, hb13⟩; (first | replace hb13 := Below.un1 hb13 | replace hb13 := Below.un2 hb13 | skip); obtain ⟨hc13, hf13, hl13, hm13, hw13⟩ := bcell hb13; have hz13 := hb13.size; (try simp only [World.size_alloc, World.size_setCell] at hz13))
    | (go_at_call 14; refine (pShows_any set A cap fs a _ ?_).mono ?_; (focus (refine (hAX.below ?_).more ?_; (repeat' (first | (with_reducible exact Below.refl _ _) | (with_reducible assumption) | (with_reducible refine Below.drew ?_) | (with_reducible refine below_drewN ?_ _) | (with_reducible refine Below.setCell ?_ ?_ _) | (with_reducible refine Below.alloc ?_ ?_ _) | go_size | (exact Below.size (by assumption)) | (refine Below.trans ?_ (Below.mono (by assumption) ?_)))))); rw [HS.out]; rintro e w10 ⟨rfl, hb10⟩; (first | replace hb10 := Below.un1 hb10 | replace hb10 := Below.un2 hb10 | skip); obtain ⟨hc10, hf10, hl10, hm10, hw10⟩ := bcell hb10; have hz10 := hb10.size; (try simp only [World.size_alloc, World.size_setCell] at hz10); have n10 : w.heap.size < w10.heap.size := (by omega); have n15 : b5 < w10.heap.size := (by omega); have n16 : b6 < w10.heap.size := (by omega); have n17 : b7 < w10.heap.size := (by omega))
    | (go_at_call 18; refine (pMeans_any set A cap fs (set + z) _ ?_).mono ?_; (focus (refine (hA.below ?_).more ?_; (repeat' (first | (with_reducible exact Below.refl _ _) | (with_reducible assumption) | (with_reducible refine Below.drew ?_) | (with_reducible refine below_drewN ?_ _) | (with_reducible refine Below.setCell ?_ ?_ _) | (with_reducible refine Below.alloc ?_ ?_ _) | go_size | (exact Below.size (by assumption)) | (refine Below.trans ?_ (Below.mono (by assumption) ?_)))))); rw [HM.out]; rintro e w11 ⟨rfl, hb11⟩; (first | replace hb11 := Below.un1 hb11 | replace hb11 := Below.un2 hb11 | skip); obtain ⟨hc11, hf11, hl11, hm11, hw11⟩ := bcell hb11; have hz11 := hb11.size; (try simp only [World.size_alloc, World.size_setCell] at hz11); have n11 : w.heap.size < w11.heap.size := (by omega); have n25 : b5 < w11.heap.size := (by omega); have n26 : b6 < w11.heap.size := (by omega); have n27 : b7 < w11.heap.size := (by omega))
    | (go_at_call 20; refine (pPassed_any set A cap fs (set + a) (set + z) _ ?_).mono ?_; (focus (refine (hA.below ?_).more ?_; (repeat' (first | (with_reducible exact Below.refl _ _) | (with_reducible assumption) | (with_reducible refine Below.drew ?_) | (with_reducible refine below_drewN ?_ _) | (with_reducible refine Below.setCell ?_ ?_ _) | (with_reducible refine Below.alloc ?_ ?_ _) | go_size | (exact Below.size (by assumption)) | (refine Below.trans ?_ (Below.mono (by assumption) ?_)))))); rw [HP.out]; rintro e w12 ⟨rfl, hb12⟩; (first | replace hb12 := Below.un1 hb12 | replace hb12 := Below.un2 hb12 | skip); obtain ⟨hc12, hf12, hl12, hm12, hw12⟩ := bcell hb12; have hz12 := hb12.size; (try simp only [World.size_alloc, World.size_setCell] at hz12); have n12 : w.heap.size < w12.heap.size := (by omega); have n35 : b5 < w12.heap.size := (by omega); have n36 : b6 < w12.heap.size := (by omega); have n37 : b7 < w12.heap.size := (by omega)))
   go_ret
   exact ⟨rfl, by (repeat' (first | (with_reducible exact Below.refl _ _) | (with_reducible assumption) | (with_reducible refine Below.drew ?_) | (with_reducible refine below_drewN ?_ _) | (with_reducible refine Below.setCell ?_ ?_ _) | (with_reducible refine Below.alloc ?_ ?_ _) | go_size | (exact Below.size (by assumption)) | (refine Below.trans ?_ (Below.mono (by assumption) ?_))))⟩
end Go.Proofs.Ytifemcokckgdcaa
