/- What a dial shows, and what it tells. -/
import Derived.Test.YtnkbcapikenbbaaP1
import Derived.ChangeKeysEq
import Derived.Laws.EntriesVeiled
namespace Go.Proofs.Ytnkbcapikenbbaa
set_option linter.unusedSimpArgs false
set_option linter.unusedVariables false
open Go.RowKit
attribute [local go_sem high] cell_set_wr
attribute [local go_sem low] cell_wr frozen_wr
attribute [local go_sem] wr_set wr_drew wr_drewN wr_alloc wr_new

theorem info_frost : (Try.prog.info? 101).map (fun i => i.size) = some 2 := by kernel_rfl
theorem cells_frost : Try.prog.cellsOf 101 = 2 := by kernel_rfl
theorem eq_when (a b c d e f : Int) (w : World) : (Op.equalIn 10000 103 (.agg #[.int .i64 a, .int .i64 b, .int .i64 c, .int .i64 d, .int .i64 e, .int .i64 f]) (.agg #[.int .i64 0, .int .i64 0, .int .i64 0, .int .i64 0, .int .i64 0, .int .i64 0])).run Try.prog w =
    .ok (zeroB a b c d e f) w := by
  obtain ⟨i, hi, _⟩ := Option.map_eq_some_iff.1 info_frost
  rw [run_equalIn_array w 9999 _ _ Try.underlying103 hi, cells_frost]
  have hr : List.range 3 = [0, 1, 2] := rfl
  rw [hr]
  simp only [Op.eqItems, Sem.run_bind]
  go_simp
  unfold zeroB
  by_cases ha : a = 0
  by_cases hb : b = 0
  by_cases hc : c = 0
  by_cases hd : d = 0
  by_cases he : e = 0
  by_cases hf : f = 0
  all_goals simp [*]
theorem idx0 (a b c d e f : Int) (w : World) : (Instr.index 103 (.agg #[.int .i64 a, .int .i64 b, .int .i64 c, .int .i64 d, .int .i64 e, .int .i64 f]) (.int .i64 0)).run Try.prog w = .ok (.agg #[.int .i64 a, .int .i64 b]) w := by kernel_rfl
theorem idx1 (a b c d e f : Int) (w : World) : (Instr.index 103 (.agg #[.int .i64 a, .int .i64 b, .int .i64 c, .int .i64 d, .int .i64 e, .int .i64 f]) (.int .i64 1)).run Try.prog w = .ok (.agg #[.int .i64 c, .int .i64 d]) w := by kernel_rfl
theorem idx2 (a b c d e f : Int) (w : World) : (Instr.index 103 (.agg #[.int .i64 a, .int .i64 b, .int .i64 c, .int .i64 d, .int .i64 e, .int .i64 f]) (.int .i64 2)).run Try.prog w = .ok (.agg #[.int .i64 e, .int .i64 f]) w := by kernel_rfl
attribute [local go_sem high] eq_when idx0 idx1 idx2

set_option maxRecDepth 100000 in
set_option maxHeartbeats 4000000 in
theorem dStopped_any (set : Int) (F : Option Addr) (fl fc : Nat) (f0 f1 f2 : Sp) (m : Int) (w : World) (hD : OkD [f0, f1, f2]) (hm : 0 ≤ m ∧ m ≤ 4320) :
    Calls Try.prog 105 #[.agg #[.int .i64 set, .slice F fl fc, .int .i64 f0.lo, .int .i64 f0.hi, .int .i64 f1.lo, .int .i64 f1.hi, .int .i64 f2.lo, .int .i64 f2.hi], .int .i64 m] w
      fun e w' => e = .returned (.int .i64 (stopD [f0, f1, f2] m)) ∧ Below w.heap.size w w' := by
  obtain ⟨m1, m2⟩ := hm
  have d0 := hD.2 f0 (by simp)
  have d1 := hD.2 f1 (by simp)
  have d2 := hD.2 f2 (by simp)
  obtain ⟨a0, b0, c0⟩ := cutF_bd ⟨f0.lo, f0.hi⟩ m d0 m1
  obtain ⟨a1, b1, c1⟩ := cutF_bd ⟨f1.lo, f1.hi⟩ m d1 m1
  obtain ⟨a2, b2, c2⟩ := cutF_bd ⟨f2.lo, f2.hi⟩ m d2 m1
  have HS : Hid (stopD [f0, f1, f2] m = ((cutF ⟨f0.lo, f0.hi⟩ m).hi - (cutF ⟨f0.lo, f0.hi⟩ m).lo) + (((cutF ⟨f1.lo, f1.hi⟩ m).hi - (cutF ⟨f1.lo, f1.hi⟩ m).lo) + (((cutF ⟨f2.lo, f2.hi⟩ m).hi - (cutF ⟨f2.lo, f2.hi⟩ m).lo) + 0))) := hid rfl
  have HZ := hid (stopD_zero f0 f1 f2 m)
  clear d0 d1 d2 hD
  cases hz : zeroB f0.lo f0.hi f1.lo f1.hi f2.lo f2.hi
  · go_enter Try.func105, Try.ntmps105
    go_wp2_with fail
    refine wp_loop_rounds 4 ?_
    rw [rounds_succ]
    go_wp2_with (go_at_call 99; refine (before_any _ _ _ _).mono ?_; rintro e w1 ⟨rfl, hb1⟩; (first | replace hb1 := Below.un1 hb1 | replace hb1 := Below.un2 hb1 | skip); obtain ⟨hc1, hf1, hl1, hm1, hw1⟩ := bcell hb1; have hz1 := hb1.size; (try simp only [World.size_alloc, World.size_setCell] at hz1))
    rw [rounds_succ]
    go_wp2_with (go_at_call 99; refine (before_any _ _ _ _).mono ?_; rintro e w2 ⟨rfl, hb2⟩; (first | replace hb2 := Below.un1 hb2 | replace hb2 := Below.un2 hb2 | skip); obtain ⟨hc2, hf2, hl2, hm2, hw2⟩ := bcell hb2; have hz2 := hb2.size; (try simp only [World.size_alloc, World.size_setCell] at hz2))
    rw [rounds_succ]
    go_wp2_with (go_at_call 99; refine (before_any _ _ _ _).mono ?_; rintro e w3 ⟨rfl, hb3⟩; (first | replace hb3 := Below.un1 hb3 | replace hb3 := Below.un2 hb3 | skip); obtain ⟨hc3, hf3, hl3, hm3, hw3⟩ := bcell hb3; have hz3 := hb3.size; (try simp only [World.size_alloc, World.size_setCell] at hz3))
    rw [rounds_succ]
    go_wp2
    go_ret
    exact ⟨ret_int (by rw [HS.out]; omega), by (repeat' (first | (with_reducible exact Below.refl _ _) | (with_reducible assumption) | (with_reducible refine Below.drew ?_) | (with_reducible refine below_drewN ?_ _) | (with_reducible refine Below.setCell ?_ ?_ _) | (with_reducible refine Below.alloc ?_ ?_ _) | go_size | (exact Below.size (by assumption)) | (refine Below.trans ?_ (Below.mono (by assumption) ?_))))⟩
  · have H0 : Hid (stopD [f0, f1, f2] m = 0) := hid (HZ.out hz)
    go_enter Try.func105, Try.ntmps105
    go_wp2
    go_ret
    exact ⟨ret_int (by rw [H0.out]), by (repeat' (first | (with_reducible exact Below.refl _ _) | (with_reducible assumption) | (with_reducible refine Below.drew ?_) | (with_reducible refine below_drewN ?_ _) | (with_reducible refine Below.setCell ?_ ?_ _) | (with_reducible refine Below.alloc ?_ ?_ _) | go_size | (exact Below.size (by assumption)) | (refine Below.trans ?_ (Below.mono (by assumption) ?_))))⟩

set_option maxRecDepth 100000 in
set_option maxHeartbeats 4000000 in
theorem dShown_any (set : Int) (F : Option Addr) (fl fc : Nat) (f0 f1 f2 : Sp) (m : Int) (w : World) (hs : 0 ≤ set ∧ set ≤ 4319) (hD : OkD [f0, f1, f2]) (hm : 0 ≤ m ∧ m ≤ 4320) :
    Calls Try.prog 102 #[.agg #[.int .i64 set, .slice F fl fc, .int .i64 f0.lo, .int .i64 f0.hi, .int .i64 f1.lo, .int .i64 f1.hi, .int .i64 f2.lo, .int .i64 f2.hi], .int .i64 m] w
      fun e w' => e = .returned (.int .i64 (shownD set [f0, f1, f2] m)) ∧ Below w.heap.size w w' := by
  obtain ⟨s1, s2⟩ := hs
  have HB := stopD_bd [f0, f1, f2] m hD.2 hm.1
  obtain ⟨b1, b2⟩ := HB
  simp only [List.length_cons, List.length_nil] at b2
  have m1 := hm.1
  have m2 := hm.2
  have HS : Hid (shownD set [f0, f1, f2] m = set + m - stopD [f0, f1, f2] m) := hid rfl
  generalize hq : stopD [f0, f1, f2] m = q at *
  have HQ := hid hq
  clear hq
  go_enter Try.func102, Try.ntmps102
  go_wp2
  go_region_held3 (fun w' => (w'.cell? ⟨w.heap.size, 0, none⟩ = some (.int .i64 set) ∧ w'.cell? ⟨w.heap.size, 1, none⟩ = some (.slice F fl fc) ∧ w'.cell? ⟨w.heap.size, 2, none⟩ = some (.int .i64 f0.lo) ∧ w'.cell? ⟨w.heap.size, 3, none⟩ = some (.int .i64 f0.hi) ∧
      w'.cell? ⟨w.heap.size, 4, none⟩ = some (.int .i64 f1.lo) ∧ w'.cell? ⟨w.heap.size, 5, none⟩ = some (.int .i64 f1.hi) ∧ w'.cell? ⟨w.heap.size, 6, none⟩ = some (.int .i64 f2.lo) ∧ w'.cell? ⟨w.heap.size, 7, none⟩ = some (.int .i64 f2.hi)) ∧ Below w.heap.size w w') (((refine ⟨?_, ?_⟩; (focus (first | (simp [go_sem, wr_set, wr_drew, wr_drewN, wr_alloc, wr_new]; done) | (simp [go_sem, wr_set, wr_drew, wr_drewN, wr_alloc, wr_new, *]; done) | (simp (disch := go_size) [go_sem, wr_set, wr_drew, wr_drewN, wr_alloc, wr_new, *]; done))); (repeat' (first | (with_reducible exact Below.refl _ _) | (with_reducible assumption) | (with_reducible refine Below.drew ?_) | (with_reducible refine below_drewN ?_ _) | (with_reducible refine Below.setCell ?_ ?_ _) | (with_reducible refine Below.alloc ?_ ?_ _) | go_size | (exact Below.size (by assumption)) | (refine Below.trans ?_ (Below.mono (by assumption) ?_)))))))
    (first
      | (go_at_call 105; refine (dStopped_any set F fl fc f0 f1 f2 m _ hD hm).mono ?_; rw [HQ.out]; rintro e w1 ⟨rfl, hb1⟩; (first | replace hb1 := Below.un1 hb1 | replace hb1 := Below.un2 hb1 | skip); obtain ⟨hc1, hf1, hl1, hm1, hw1⟩ := bcell hb1; have hz1 := hb1.size; (try simp only [World.size_alloc, World.size_setCell] at hz1)))
  simp (disch := omega) only [IntWalk.i64_in]
  go_wp2
  go_ret
  exact ⟨ret_int (by rw [HS.out]), by (repeat' (first | (with_reducible exact Below.refl _ _) | (with_reducible assumption) | (with_reducible refine Below.drew ?_) | (with_reducible refine below_drewN ?_ _) | (with_reducible refine Below.setCell ?_ ?_ _) | (with_reducible refine Below.alloc ?_ ?_ _) | go_size | (exact Below.size (by assumption)) | (refine Below.trans ?_ (Below.mono (by assumption) ?_))))⟩

theorem lastStep_yes (m : Int) (f : Sp) (h : isZ f.lo f.hi = true ∨ m < f.lo) : lastStep m f = m := by
  unfold lastStep
  rw [if_pos]
  rcases h with h | h
  · left
    simp only [isZ, Bool.and_eq_true, decide_eq_true_eq] at h
    cases f; simp_all
  · exact .inr h
theorem lastStep_no (m : Int) (f : Sp) (h : isZ f.lo f.hi = false) (h' : f.lo ≤ m) : lastStep m f = m + (f.hi - f.lo) := by
  unfold lastStep
  rw [if_neg]
  rintro (rfl | h2)
  · simp [isZ] at h
  · omega
theorem eq_frost (a b : Int) (w : World) : (Op.equalIn 10000 101 (.agg #[.int .i64 a, .int .i64 b]) (.agg #[.int .i64 0, .int .i64 0])).run Try.prog w = .ok (isZ a b) w := by
  go_simp
  unfold isZ
  by_cases ha : a = 0
  by_cases hb : b = 0
  all_goals simp [*]
attribute [local go_sem high] eq_frost

set_option maxRecDepth 100000 in
set_option maxHeartbeats 4000000 in
theorem dLast_any (set : Int) (F : Option Addr) (fl fc : Nat) (f0 f1 f2 : Sp) (r : Int) (w : World) (hs : 0 ≤ set ∧ set ≤ 4319) (hD : OkD [f0, f1, f2]) (hr : -1 ≤ r ∧ r ≤ 8638) :
    Calls Try.prog 104 #[.agg #[.int .i64 set, .slice F fl fc, .int .i64 f0.lo, .int .i64 f0.hi, .int .i64 f1.lo, .int .i64 f1.hi, .int .i64 f2.lo, .int .i64 f2.hi], .int .i64 r] w
      fun e w' => e = .returned (.int .i64 (lastD set [f0, f1, f2] r)) ∧ Below w.heap.size w w' := by
  obtain ⟨s1, s2⟩ := hs
  obtain ⟨r1, r2⟩ := hr
  obtain ⟨d0, e0, g0⟩ := hD.2 f0 (by simp)
  obtain ⟨d1, e1, g1⟩ := hD.2 f1 (by simp)
  obtain ⟨d2, e2, g2⟩ := hD.2 f2 (by simp)
  have HS : Hid (lastD set [f0, f1, f2] r = lastStep (lastStep (lastStep (r - set) f0) f1) f2) := hid rfl
  have hm0 : -4320 ≤ r - set ∧ r - set ≤ 8638 := by omega
  clear hD
  go_enter Try.func104, Try.ntmps104
  go_wp2_with fail
  go_loopw [5, 15] (fun mv i wr => ∃ (k : Nat) (m : Int), k ≤ 3 ∧ i = .int .i64 k ∧ mv = .int .i64 m ∧ Hid (lastD set [f0, f1, f2] r = ([f0, f1, f2].drop k).foldl lastStep m) ∧ -4320 ≤ m ∧ m ≤ 8638 + 4320 * k ∧ Below w.heap.size w wr) (fun _ i _ => 3 - (intOf i).toNat)
  case atStart => exact ⟨0, r - set, by omega, rfl, rfl, hid rfl, by omega, by simp; omega, by (repeat' (first | (with_reducible exact Below.refl _ _) | (with_reducible assumption) | (with_reducible refine Below.drew ?_) | (with_reducible refine below_drewN ?_ _) | (with_reducible refine Below.setCell ?_ ?_ _) | (with_reducible refine Below.alloc ?_ ?_ _) | go_size | (exact Below.size (by assumption)) | (refine Below.trans ?_ (Below.mono (by assumption) ?_))))⟩
  case round =>
    obtain ⟨k, m, hk, rfl, rfl, HK, hm1, hm2, hB⟩ := hrel
    rcases (by omega : k = 0 ∨ k = 1 ∨ k = 2 ∨ k = 3) with rfl | rfl | rfl | rfl
    · have hl := lastStep_bd m f0 ⟨d0, e0, g0⟩
      have HY := hid (lastStep_yes m f0)
      have HN := hid (lastStep_no m f0)
      by_cases hz : isZ f0.lo f0.hi = true
      · have HL := hid (HY.out (.inl hz))
        clear HY HN
        go_wp2
        exact ⟨⟨1, lastStep m f0, by omega, by go_num, by rw [HL.out], hid HK.out, by omega, by omega, by (repeat' (first | (with_reducible exact Below.refl _ _) | (with_reducible assumption) | (with_reducible refine Below.drew ?_) | (with_reducible refine below_drewN ?_ _) | (with_reducible refine Below.setCell ?_ ?_ _) | (with_reducible refine Below.alloc ?_ ?_ _) | go_size | (exact Below.size (by assumption)) | (refine Below.trans ?_ (Below.mono (by assumption) ?_))))⟩, by simp [intOf]⟩
      · have hz' : isZ f0.lo f0.hi = false := by simpa using hz
        clear hz
        by_cases hm : m < f0.lo
        · have HL := hid (HY.out (.inr hm))
          clear HY HN
          go_wp2
          exact ⟨⟨1, lastStep m f0, by omega, by go_num, by rw [HL.out], hid HK.out, by omega, by omega, by (repeat' (first | (with_reducible exact Below.refl _ _) | (with_reducible assumption) | (with_reducible refine Below.drew ?_) | (with_reducible refine below_drewN ?_ _) | (with_reducible refine Below.setCell ?_ ?_ _) | (with_reducible refine Below.alloc ?_ ?_ _) | go_size | (exact Below.size (by assumption)) | (refine Below.trans ?_ (Below.mono (by assumption) ?_))))⟩, by simp [intOf]⟩
        · have HL := hid (HN.out hz' (by omega))
          clear HY HN
          go_wp2
          exact ⟨⟨1, lastStep m f0, by omega, by go_num, by rw [HL.out], hid HK.out, by omega, by omega, by (repeat' (first | (with_reducible exact Below.refl _ _) | (with_reducible assumption) | (with_reducible refine Below.drew ?_) | (with_reducible refine below_drewN ?_ _) | (with_reducible refine Below.setCell ?_ ?_ _) | (with_reducible refine Below.alloc ?_ ?_ _) | go_size | (exact Below.size (by assumption)) | (refine Below.trans ?_ (Below.mono (by assumption) ?_))))⟩, by simp [intOf]⟩
    · have hl := lastStep_bd m f1 ⟨d1, e1, g1⟩
      have HY := hid (lastStep_yes m f1)
      have HN := hid (lastStep_no m f1)
      by_cases hz : isZ f1.lo f1.hi = true
      · have HL := hid (HY.out (.inl hz))
        clear HY HN
        go_wp2
        exact ⟨⟨2, lastStep m f1, by omega, by go_num, by rw [HL.out], hid HK.out, by omega, by omega, by (repeat' (first | (with_reducible exact Below.refl _ _) | (with_reducible assumption) | (with_reducible refine Below.drew ?_) | (with_reducible refine below_drewN ?_ _) | (with_reducible refine Below.setCell ?_ ?_ _) | (with_reducible refine Below.alloc ?_ ?_ _) | go_size | (exact Below.size (by assumption)) | (refine Below.trans ?_ (Below.mono (by assumption) ?_))))⟩, by simp [intOf]⟩
      · have hz' : isZ f1.lo f1.hi = false := by simpa using hz
        clear hz
        by_cases hm : m < f1.lo
        · have HL := hid (HY.out (.inr hm))
          clear HY HN
          go_wp2
          exact ⟨⟨2, lastStep m f1, by omega, by go_num, by rw [HL.out], hid HK.out, by omega, by omega, by (repeat' (first | (with_reducible exact Below.refl _ _) | (with_reducible assumption) | (with_reducible refine Below.drew ?_) | (with_reducible refine below_drewN ?_ _) | (with_reducible refine Below.setCell ?_ ?_ _) | (with_reducible refine Below.alloc ?_ ?_ _) | go_size | (exact Below.size (by assumption)) | (refine Below.trans ?_ (Below.mono (by assumption) ?_))))⟩, by simp [intOf]⟩
        · have HL := hid (HN.out hz' (by omega))
          clear HY HN
          go_wp2
          exact ⟨⟨2, lastStep m f1, by omega, by go_num, by rw [HL.out], hid HK.out, by omega, by omega, by (repeat' (first | (with_reducible exact Below.refl _ _) | (with_reducible assumption) | (with_reducible refine Below.drew ?_) | (with_reducible refine below_drewN ?_ _) | (with_reducible refine Below.setCell ?_ ?_ _) | (with_reducible refine Below.alloc ?_ ?_ _) | go_size | (exact Below.size (by assumption)) | (refine Below.trans ?_ (Below.mono (by assumption) ?_))))⟩, by simp [intOf]⟩
    · have hl := lastStep_bd m f2 ⟨d2, e2, g2⟩
      have HY := hid (lastStep_yes m f2)
      have HN := hid (lastStep_no m f2)
      by_cases hz : isZ f2.lo f2.hi = true
      · have HL := hid (HY.out (.inl hz))
        clear HY HN
        go_wp2
        exact ⟨⟨3, lastStep m f2, by omega, by go_num, by rw [HL.out], hid HK.out, by omega, by omega, by (repeat' (first | (with_reducible exact Below.refl _ _) | (with_reducible assumption) | (with_reducible refine Below.drew ?_) | (with_reducible refine below_drewN ?_ _) | (with_reducible refine Below.setCell ?_ ?_ _) | (with_reducible refine Below.alloc ?_ ?_ _) | go_size | (exact Below.size (by assumption)) | (refine Below.trans ?_ (Below.mono (by assumption) ?_))))⟩, by simp [intOf]⟩
      · have hz' : isZ f2.lo f2.hi = false := by simpa using hz
        clear hz
        by_cases hm : m < f2.lo
        · have HL := hid (HY.out (.inr hm))
          clear HY HN
          go_wp2
          exact ⟨⟨3, lastStep m f2, by omega, by go_num, by rw [HL.out], hid HK.out, by omega, by omega, by (repeat' (first | (with_reducible exact Below.refl _ _) | (with_reducible assumption) | (with_reducible refine Below.drew ?_) | (with_reducible refine below_drewN ?_ _) | (with_reducible refine Below.setCell ?_ ?_ _) | (with_reducible refine Below.alloc ?_ ?_ _) | go_size | (exact Below.size (by assumption)) | (refine Below.trans ?_ (Below.mono (by assumption) ?_))))⟩, by simp [intOf]⟩
        · have HL := hid (HN.out hz' (by omega))
          clear HY HN
          go_wp2
          exact ⟨⟨3, lastStep m f2, by omega, by go_num, by rw [HL.out], hid HK.out, by omega, by omega, by (repeat' (first | (with_reducible exact Below.refl _ _) | (with_reducible assumption) | (with_reducible refine Below.drew ?_) | (with_reducible refine below_drewN ?_ _) | (with_reducible refine Below.setCell ?_ ?_ _) | (with_reducible refine Below.alloc ?_ ?_ _) | go_size | (exact Below.size (by assumption)) | (refine Below.trans ?_ (Below.mono (by assumption) ?_))))⟩, by simp [intOf]⟩
    · go_wp2
      go_ret
      exact ⟨ret_int (by rw [HK.out]; rfl), by (repeat' (first | (with_reducible exact Below.refl _ _) | (with_reducible assumption) | (with_reducible refine Below.drew ?_) | (with_reducible refine below_drewN ?_ _) | (with_reducible refine Below.setCell ?_ ?_ _) | (with_reducible refine Below.alloc ?_ ?_ _) | go_size | (exact Below.size (by assumption)) | (refine Below.trans ?_ (Below.mono (by assumption) ?_))))⟩

set_option maxRecDepth 100000 in
set_option maxHeartbeats 4000000 in
theorem dFirst_any (set : Int) (F : Option Addr) (fl fc : Nat) (f0 f1 f2 : Sp) (r : Int) (w : World) (hs : 0 ≤ set ∧ set ≤ 4319) (hD : OkD [f0, f1, f2]) (hr : 0 ≤ r ∧ r ≤ 8638) :
    Calls Try.prog 103 #[.agg #[.int .i64 set, .slice F fl fc, .int .i64 f0.lo, .int .i64 f0.hi, .int .i64 f1.lo, .int .i64 f1.hi, .int .i64 f2.lo, .int .i64 f2.hi], .int .i64 r] w
      fun e w' => e = .returned (.int .i64 (firstD set [f0, f1, f2] r)) ∧ Below w.heap.size w w' := by
  have HS : Hid (firstD set [f0, f1, f2] r = lastD set [f0, f1, f2] (r - 1) + 1) := hid rfl
  have hb := last_bd [f0, f1, f2] (r - 1 - set) hD.2
  have hb' : -4320 ≤ lastD set [f0, f1, f2] (r - 1) ∧ lastD set [f0, f1, f2] (r - 1) ≤ 30000 := by
    unfold lastD
    simp only [List.length_cons, List.length_nil] at hb
    omega
  obtain ⟨r1, r2⟩ := hr
  obtain ⟨b1, b2⟩ := hb'
  clear hb
  go_enter Try.func103, Try.ntmps103
  go_wp2_with (go_at_call 104; refine (dLast_any set F fl fc f0 f1 f2 (r - 1) _ hs hD ⟨by omega, by omega⟩).mono ?_; rintro e w1 ⟨rfl, hb1⟩; (first | replace hb1 := Below.un1 hb1 | replace hb1 := Below.un2 hb1 | skip); obtain ⟨hc1, hf1, hl1, hm1, hw1⟩ := bcell hb1; have hz1 := hb1.size; (try simp only [World.size_alloc, World.size_setCell] at hz1))
  go_ret
  exact ⟨ret_int (by rw [HS.out]), by (repeat' (first | (with_reducible exact Below.refl _ _) | (with_reducible assumption) | (with_reducible refine Below.drew ?_) | (with_reducible refine below_drewN ?_ _) | (with_reducible refine Below.setCell ?_ ?_ _) | (with_reducible refine Below.alloc ?_ ?_ _) | go_size | (exact Below.size (by assumption)) | (refine Below.trans ?_ (Below.mono (by assumption) ?_))))⟩

theorem answers_any (w : World) :
    Calls Try.prog 98 #[] w fun e w' => e = .returned (.agg #[.func (.func 102) #[] #[], .func (.func 102) #[] #[], .func (.func 103) #[] #[], .func (.func 104) #[] #[], .func (.func 105) #[] #[], .func (.func 105) #[] #[]]) ∧ Below w.heap.size w w' := by
  go_enter Try.func98, Try.ntmps98
  go_wp2
  go_returns
  exact ⟨rfl, by (repeat' (first | (with_reducible exact Below.refl _ _) | (with_reducible assumption) | (with_reducible refine Below.drew ?_) | (with_reducible refine below_drewN ?_ _) | (with_reducible refine Below.setCell ?_ ?_ _) | (with_reducible refine Below.alloc ?_ ?_ _) | go_size | (exact Below.size (by assumption)) | (refine Below.trans ?_ (Below.mono (by assumption) ?_))))⟩

theorem tab0 (a b c d e f : Value) (w : World) : (Instr.index 140 (.agg #[a, b, c, d, e, f]) (.int .i64 0)).run Try.prog w = .ok (.agg #[a, b]) w := by kernel_rfl
theorem tab1 (a b c d e f : Value) (w : World) : (Instr.index 140 (.agg #[a, b, c, d, e, f]) (.int .i64 1)).run Try.prog w = .ok (.agg #[c, d]) w := by kernel_rfl
theorem tab2 (a b c d e f : Value) (w : World) : (Instr.index 140 (.agg #[a, b, c, d, e, f]) (.int .i64 2)).run Try.prog w = .ok (.agg #[e, f]) w := by kernel_rfl
attribute [local go_sem high] tab0 tab1 tab2

end Go.Proofs.Ytnkbcapikenbbaa
