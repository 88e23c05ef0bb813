/- What Shows and Means return. -/
import Derived.Test.YtnkbcapikenbbaaP7
import Derived.Test.YtnkbcapikenbbaaP8
namespace Go.Proofs.Ytnkbcapikenbbaa
set_option linter.unusedSimpArgs false
set_option linter.unusedVariables false
open Go.RowKit
attribute [local go_sem high] cell_set_wr
attribute [local go_sem low] cell_wr frozen_wr
attribute [local go_sem] wr_set wr_drew wr_drewN wr_alloc wr_new

def pShowsR (c : Ck) (m : Int) : Sp × Int := if askE c (minuteB m) = 0 then (⟨(toldR c.set (dialsOf c.frs m) 0 m ⟨0, 8638⟩).lo, (toldR c.set (dialsOf c.frs m) 0 m ⟨0, 8638⟩).hi⟩, 0) else (zeroSp, askE c (minuteB m))
def rcOut (r : Rc) : Sp × Int := if r.any = true then (⟨r.lo, r.hi⟩, 0) else (zeroSp, 4)
def pMeansR (c : Ck) (r : Int) : Sp × Int := if askE c (isReadingB r) = 0 then rcOut (toldR c.set (dialsOf c.frs 4320) 1 r ⟨0, 4319⟩) else (zeroSp, askE c (isReadingB r))
theorem askE_zero {c : Ck} {q : Bool} (h : askE c q = 0) : c.ok = true ∧ q = true := by
  unfold askE at h
  revert h
  cases c.ok <;> cases q <;> simp

theorem wr_alloc' {w : World} {b o : Nat} {x : Obj} (h : b < w.heap.size) : Wr (w.alloc x) b o = Wr w b o := by
  have hb := (Below.refl (b + 1) w).alloc (by omega) x
  unfold Wr
  rw [hb.cell (p := ⟨b, o, none⟩) (by simp), hb.frozen (p := ⟨b, o, none⟩) (by simp)]
theorem size_drew' (w : World) : w.drew.heap.size = w.heap.size := rfl
theorem size_drewN' (w : World) (n : Nat) : (w.drewN n).heap.size = w.heap.size := rfl
set_option maxRecDepth 100000 in
set_option maxHeartbeats 4000000 in
theorem pShows_any (set : Int) (A : Option Addr) (cap : Nat) (fs : List Fr) (m : Int) (w : World) (hA : Arr w w.heap.size A (frosts fs)) :
    Calls Try.prog 14 #[.agg #[.int .i64 set, .slice A fs.length cap], .int .i64 m] w fun e w' =>
      e = .returned (.tuple #[.agg #[.int .i64 (pShowsR ⟨set, fs⟩ m).1.lo, .int .i64 (pShowsR ⟨set, fs⟩ m).1.hi], .int .i64 (pShowsR ⟨set, fs⟩ m).2]) ∧ Below w.heap.size w w' := by
  have HB : Hid (minuteB m = (decide (0 ≤ m) && decide (m ≤ 4319))) := hid rfl
  go_enter Try.func14, Try.ntmps14
  go_wp2
  go_region_held3 (fun w' => (w'.cell? ⟨w.heap.size, 0, none⟩ = some (.int .i64 set) ∧ w'.cell? ⟨w.heap.size, 1, none⟩ = some (.slice A fs.length cap) ∧ Wr w' (w.heap.size + 1) 0 ∧ Wr w' (w.heap.size + 1) 1) ∧ Below w.heap.size w w') (((refine ⟨?_, ?_⟩; (focus (first | (simp [go_sem, wr_set, wr_drew, wr_drewN, wr_alloc, wr_new]; done) | (simp [go_sem, wr_set, wr_drew, wr_drewN, wr_alloc, wr_new, *]; done) | (simp (disch := go_size) [go_sem, wr_set, wr_drew, wr_drewN, wr_alloc, wr_new, *]; done))); (repeat' (first | (with_reducible exact Below.refl _ _) | (with_reducible assumption) | (with_reducible refine Below.drew ?_) | (with_reducible refine below_drewN ?_ _) | (with_reducible refine Below.setCell ?_ ?_ _) | (with_reducible refine Below.alloc ?_ ?_ _) | go_size | (exact Below.size (by assumption)) | (refine Below.trans ?_ (Below.mono (by assumption) ?_)))))))
    (first
      | (go_at_call 56; refine (within_any _ _ _ _).mono ?_; rintro e w1 ⟨rfl, rfl⟩)
      | (go_at_call 55; refine (refuse_any set A cap fs _ _ ?_).mono ?_; (focus (refine (hA.below ?_).more ?_; (repeat' (first | (with_reducible exact Below.refl _ _) | (with_reducible assumption) | (with_reducible refine Below.drew ?_) | (with_reducible refine below_drewN ?_ _) | (with_reducible refine Below.setCell ?_ ?_ _) | (with_reducible refine Below.alloc ?_ ?_ _) | go_size | (exact Below.size (by assumption)) | (refine Below.trans ?_ (Below.mono (by assumption) ?_)))))); rintro e w2 ⟨rfl, hb2⟩; (first | replace hb2 := Below.un1 hb2 | replace hb2 := Below.un2 hb2 | skip); obtain ⟨hc2, hf2, hl2, hm2, hw2⟩ := bcell hb2; have hz2 := hb2.size; (try simp only [World.size_alloc, World.size_setCell] at hz2)))
  obtain ⟨⟨s0, s1, s2, s3⟩, hB⟩ := ‹(_ ∧ _) ∧ Below w.heap.size w w2›
  clear hc2 hf2 hl2 hm2 hw2
  have hlw : w.heap.size + 1 < w2.heap.size := s2.lt
  rw [← HB.out]
  have HR : Hid (pShowsR ⟨set, fs⟩ m = if askE ⟨set, fs⟩ (minuteB m) = 0 then (⟨(toldR set (dialsOf fs m) 0 m ⟨0, 8638⟩).lo, (toldR set (dialsOf fs m) 0 m ⟨0, 8638⟩).hi⟩, 0) else (zeroSp, askE ⟨set, fs⟩ (minuteB m))) := hid rfl
  by_cases he : askE ⟨set, fs⟩ (minuteB m) = 0
  · have H1 : Hid (pShowsR ⟨set, fs⟩ m = (⟨(toldR set (dialsOf fs m) 0 m ⟨0, 8638⟩).lo, (toldR set (dialsOf fs m) 0 m ⟨0, 8638⟩).hi⟩, 0)) := hid (by rw [HR.out, if_pos he])
    obtain ⟨hok, hmm⟩ := askE_zero he
    obtain ⟨hO, hs1, hs2⟩ := okFs_of hok
    simp only [minuteB, Bool.and_eq_true, decide_eq_true_eq] at hmm
    obtain ⟨hm0, hm1⟩ := hmm
    clear HR hok HB
    go_wp2_with (go_at_call 57; refine (told_any set A cap fs m 0 m 0 8638 _ ?_ hO (by omega) (by omega) (.inl ⟨rfl, by omega, by omega⟩)).mono ?_; (focus (refine (hA.below ?_).more ?_; (repeat' (first | (with_reducible exact Below.refl _ _) | (with_reducible assumption) | (with_reducible refine Below.drew ?_) | (with_reducible refine below_drewN ?_ _) | (with_reducible refine Below.setCell ?_ ?_ _) | (with_reducible refine Below.alloc ?_ ?_ _) | go_size | (exact Below.size (by assumption)) | (refine Below.trans ?_ (Below.mono (by assumption) ?_)))))); rintro e w3 ⟨rfl, hb3⟩; (first | replace hb3 := Below.un1 hb3 | replace hb3 := Below.un2 hb3 | skip); obtain ⟨hc3, hf3, hl3, hm3, hw3⟩ := bcell hb3; have hz3 := hb3.size; (try simp only [World.size_alloc, World.size_setCell] at hz3))
    simp [bodyPost, results, Try.results14, go_sem, H1.out, *]
    (repeat' (first | (with_reducible exact Below.refl _ _) | (with_reducible assumption) | (with_reducible refine Below.drew ?_) | (with_reducible refine below_drewN ?_ _) | (with_reducible refine Below.setCell ?_ ?_ _) | (with_reducible refine Below.alloc ?_ ?_ _) | go_size | (exact Below.size (by assumption)) | (refine Below.trans ?_ (Below.mono (by assumption) ?_))))
  · have H1 : Hid (pShowsR ⟨set, fs⟩ m = (zeroSp, askE ⟨set, fs⟩ (minuteB m))) := hid (by rw [HR.out, if_neg he])
    have ht : (askE ⟨set, fs⟩ (minuteB m) != 0) = true := by rw [bne_iff_ne]; exact he
    clear HR he
    go_wp2
    simp [bodyPost, results, Try.results14, go_sem, H1.out, zeroSp, *]
    (repeat' (first | (with_reducible exact Below.refl _ _) | (with_reducible assumption) | (with_reducible refine Below.drew ?_) | (with_reducible refine below_drewN ?_ _) | (with_reducible refine Below.setCell ?_ ?_ _) | (with_reducible refine Below.alloc ?_ ?_ _) | go_size | (exact Below.size (by assumption)) | (refine Below.trans ?_ (Below.mono (by assumption) ?_))))

set_option maxRecDepth 100000 in
set_option maxHeartbeats 4000000 in
theorem pMeans_any (set : Int) (A : Option Addr) (cap : Nat) (fs : List Fr) (r : Int) (w : World) (hA : Arr w w.heap.size A (frosts fs)) :
    Calls Try.prog 18 #[.agg #[.int .i64 set, .slice A fs.length cap], .int .i64 r] w fun e w' =>
      e = .returned (.tuple #[.agg #[.int .i64 (pMeansR ⟨set, fs⟩ r).1.lo, .int .i64 (pMeansR ⟨set, fs⟩ r).1.hi], .int .i64 (pMeansR ⟨set, fs⟩ r).2]) ∧ Below w.heap.size w w' := by
  have HB : Hid (isReadingB r = (decide (0 ≤ r) && decide (r ≤ 8638))) := hid rfl
  go_enter Try.func18, Try.ntmps18
  go_wp2
  go_region_held3 (fun w' => (w'.cell? ⟨w.heap.size, 0, none⟩ = some (.int .i64 set) ∧ w'.cell? ⟨w.heap.size, 1, none⟩ = some (.slice A fs.length cap) ∧ Wr w' (w.heap.size + 1) 0 ∧ Wr w' (w.heap.size + 1) 1) ∧ Below w.heap.size w w') (((refine ⟨?_, ?_⟩; (focus (first | (simp [go_sem, wr_set, wr_drew, wr_drewN, wr_alloc, wr_new]; done) | (simp [go_sem, wr_set, wr_drew, wr_drewN, wr_alloc, wr_new, *]; done) | (simp (disch := go_size) [go_sem, wr_set, wr_drew, wr_drewN, wr_alloc, wr_new, *]; done))); (repeat' (first | (with_reducible exact Below.refl _ _) | (with_reducible assumption) | (with_reducible refine Below.drew ?_) | (with_reducible refine below_drewN ?_ _) | (with_reducible refine Below.setCell ?_ ?_ _) | (with_reducible refine Below.alloc ?_ ?_ _) | go_size | (exact Below.size (by assumption)) | (refine Below.trans ?_ (Below.mono (by assumption) ?_)))))))
    (first
      | (go_at_call 56; refine (within_any _ _ _ _).mono ?_; rintro e w1 ⟨rfl, rfl⟩)
      | (go_at_call 55; refine (refuse_any set A cap fs _ _ ?_).mono ?_; (focus (refine (hA.below ?_).more ?_; (repeat' (first | (with_reducible exact Below.refl _ _) | (with_reducible assumption) | (with_reducible refine Below.drew ?_) | (with_reducible refine below_drewN ?_ _) | (with_reducible refine Below.setCell ?_ ?_ _) | (with_reducible refine Below.alloc ?_ ?_ _) | go_size | (exact Below.size (by assumption)) | (refine Below.trans ?_ (Below.mono (by assumption) ?_)))))); rintro e w2 ⟨rfl, hb2⟩; (first | replace hb2 := Below.un1 hb2 | replace hb2 := Below.un2 hb2 | skip); obtain ⟨hc2, hf2, hl2, hm2, hw2⟩ := bcell hb2; have hz2 := hb2.size; (try simp only [World.size_alloc, World.size_setCell] at hz2)))
  obtain ⟨⟨s0, s1, s2, s3⟩, hB⟩ := ‹(_ ∧ _) ∧ Below w.heap.size w w2›
  clear hc2 hf2 hl2 hm2 hw2
  have hlw : w.heap.size + 1 < w2.heap.size := s2.lt
  rw [← HB.out]
  have HR : Hid (pMeansR ⟨set, fs⟩ r = if askE ⟨set, fs⟩ (isReadingB r) = 0 then rcOut (toldR set (dialsOf fs 4320) 1 r ⟨0, 4319⟩) else (zeroSp, askE ⟨set, fs⟩ (isReadingB r))) := hid rfl
  by_cases he : askE ⟨set, fs⟩ (isReadingB r) = 0
  · have H1 : Hid (pMeansR ⟨set, fs⟩ r = rcOut (toldR set (dialsOf fs 4320) 1 r ⟨0, 4319⟩)) := hid (by rw [HR.out, if_pos he])
    obtain ⟨hok, hmm⟩ := askE_zero he
    obtain ⟨hO, hs1, hs2⟩ := okFs_of hok
    simp only [isReadingB, Bool.and_eq_true, decide_eq_true_eq] at hmm
    obtain ⟨hm0, hm1⟩ := hmm
    have hlw0 : w.heap.size < w2.heap.size := by omega
    clear HR hok HB hb2
    rw [he]
    go_wp2_with fail
    go_cut [7, 8] (fun s7 s8 wx => ∃ O : Nat, s7 = .pointer (some ⟨O, 0, none⟩) ∧ s8 = .bool (toldR set (dialsOf fs 4320) 1 r ⟨0, 4319⟩).any ∧ w.heap.size + 1 < O ∧ O < wx.heap.size ∧ wx.cell? ⟨O, 0, none⟩ = some (.int .i64 (toldR set (dialsOf fs 4320) 1 r ⟨0, 4319⟩).lo) ∧
      wx.cell? ⟨O, 1, none⟩ = some (.int .i64 (toldR set (dialsOf fs 4320) 1 r ⟨0, 4319⟩).hi) ∧ Wr wx (w.heap.size + 1) 0 ∧ Wr wx (w.heap.size + 1) 1 ∧ Below w.heap.size w wx)
    case first =>
      go_region_held3 (fun w' => (w'.cell? ⟨w.heap.size, 0, none⟩ = some (.int .i64 set) ∧ w'.cell? ⟨w.heap.size, 1, none⟩ = some (.slice A fs.length cap) ∧ Wr w' (w.heap.size + 1) 0 ∧ Wr w' (w.heap.size + 1) 1) ∧ Below w.heap.size w w') (((refine ⟨?_, ?_⟩; (focus (first | (simp [go_sem, wr_set, wr_drew, wr_drewN, wr_alloc, wr_new]; done) | (simp [go_sem, wr_set, wr_drew, wr_drewN, wr_alloc, wr_new, *]; done) | (simp (disch := go_size) [go_sem, wr_set, wr_drew, wr_drewN, wr_alloc, wr_new, *]; done))); (repeat' (first | (with_reducible exact Below.refl _ _) | (with_reducible assumption) | (with_reducible refine Below.drew ?_) | (with_reducible refine below_drewN ?_ _) | (with_reducible refine Below.setCell ?_ ?_ _) | (with_reducible refine Below.alloc ?_ ?_ _) | go_size | (exact Below.size (by assumption)) | (refine Below.trans ?_ (Below.mono (by assumption) ?_)))))))
        (first
          | (go_at_call 63; refine (pMinutes_any _).mono ?_; rintro e w3 ⟨rfl, hb3⟩; (first | replace hb3 := Below.un1 hb3 | replace hb3 := Below.un2 hb3 | skip); obtain ⟨hc3, hf3, hl3, hm3, hw3⟩ := bcell hb3; have hz3 := hb3.size; (try simp only [World.size_alloc, World.size_setCell] at hz3); have hq3 := hb3.size; (try simp only [World.size_alloc, size_drew', size_drewN'] at hq3); have n3a : w.heap.size < w3.heap.size := (by omega); have n3b : w.heap.size + 1 < w3.heap.size := (by omega))
          | (go_at_call 57; refine (told_any set A cap fs 4320 1 r 0 4319 _ ?_ hO (by omega) (by omega) (.inr (.inl ⟨rfl, by omega, by omega⟩))).mono ?_; (focus (refine (hA.below ?_).more ?_; (repeat' (first | (with_reducible exact Below.refl _ _) | (with_reducible assumption) | (with_reducible refine Below.drew ?_) | (with_reducible refine below_drewN ?_ _) | (with_reducible refine Below.setCell ?_ ?_ _) | (with_reducible refine Below.alloc ?_ ?_ _) | go_size | (exact Below.size (by assumption)) | (refine Below.trans ?_ (Below.mono (by assumption) ?_)))))); rintro e w4 ⟨rfl, hb4⟩; (first | replace hb4 := Below.un1 hb4 | replace hb4 := Below.un2 hb4 | skip); obtain ⟨hc4, hf4, hl4, hm4, hw4⟩ := bcell hb4; have hz4 := hb4.size; (try simp only [World.size_alloc, World.size_setCell] at hz4); have hq4 := hb4.size; (try simp only [World.size_alloc, size_drew', size_drewN'] at hq4); have n4a : w.heap.size < w4.heap.size := (by omega); have n4b : w.heap.size + 1 < w4.heap.size := (by omega)))
      all_goals
        rename_i hHeld
        obtain ⟨⟨-, -, s2', s3'⟩, hB'⟩ := hHeld
        go_wp2_with fail
        go_meet
        refine ⟨_, rfl, rfl, by omega, by first | omega | (simp; done) | (simp; omega), ?_, ?_, s2', s3', hB'⟩
        · first
            | ((rw [World.cell?_setCell_other _ _ _ _ (fun e => by cases e)]); exact World.cell?_setCell_same' _ _ _ (by rw [hc4 _ _ (by first | omega | (simp; done) | (simp; omega))]; first | (simp [go_sem]; done) | (rw [hc3 _ _ (by first | omega | (simp; done) | (simp; omega))]; simp [go_sem]; done)))
            | (first | (simp [go_sem, wr_set, wr_drew, wr_drewN, wr_alloc, wr_new]; done) | (simp [go_sem, wr_set, wr_drew, wr_drewN, wr_alloc, wr_new, *]; done) | (simp (disch := go_size) [go_sem, wr_set, wr_drew, wr_drewN, wr_alloc, wr_new, *]; done))
        · first
            | (exact World.cell?_setCell_same' _ _ _ (by rw [World.cell?_setCell_other _ _ _ _ (fun e => by cases e), hc4 _ _ (by first | omega | (simp; done) | (simp; omega))]; first | (simp [go_sem]; done) | (rw [hc3 _ _ (by first | omega | (simp; done) | (simp; omega))]; simp [go_sem]; done)))
            | (first | (simp [go_sem, wr_set, wr_drew, wr_drewN, wr_alloc, wr_new]; done) | (simp [go_sem, wr_set, wr_drew, wr_drewN, wr_alloc, wr_new, *]; done) | (simp (disch := go_size) [go_sem, wr_set, wr_drew, wr_drewN, wr_alloc, wr_new, *]; done))
    case rest =>
      obtain ⟨O, rfl, rfl, hO1, hO2, o0, o1, q0, q1, hBx⟩ := hcut
      generalize toldR set (dialsOf fs 4320) 1 r ⟨0, 4319⟩ = T at *
      cases hT : T.any
      · have H2 : Hid (pMeansR ⟨set, fs⟩ r = (zeroSp, 4)) := hid (by rw [H1.out]; unfold rcOut; rw [hT]; rfl)
        go_wp2
        simp [bodyPost, results, Try.results18, go_sem, H2.out, zeroSp, *]
        (repeat' (first | (with_reducible exact Below.refl _ _) | (with_reducible assumption) | (with_reducible refine Below.drew ?_) | (with_reducible refine below_drewN ?_ _) | (with_reducible refine Below.setCell ?_ ?_ _) | (with_reducible refine Below.alloc ?_ ?_ _) | go_size | (exact Below.size (by assumption)) | (refine Below.trans ?_ (Below.mono (by assumption) ?_))))
      · have H2 : Hid (pMeansR ⟨set, fs⟩ r = (⟨T.lo, T.hi⟩, 0)) := hid (by rw [H1.out]; unfold rcOut; rw [hT]; rfl)
        go_wp2
        simp [bodyPost, results, Try.results18, go_sem, H2.out, *]
        (repeat' (first | (with_reducible exact Below.refl _ _) | (with_reducible assumption) | (with_reducible refine Below.drew ?_) | (with_reducible refine below_drewN ?_ _) | (with_reducible refine Below.setCell ?_ ?_ _) | (with_reducible refine Below.alloc ?_ ?_ _) | go_size | (exact Below.size (by assumption)) | (refine Below.trans ?_ (Below.mono (by assumption) ?_))))
  · have H1 : Hid (pMeansR ⟨set, fs⟩ r = (zeroSp, askE ⟨set, fs⟩ (isReadingB r))) := hid (by rw [HR.out, if_neg he])
    have ht : (askE ⟨set, fs⟩ (isReadingB r) != 0) = true := by rw [bne_iff_ne]; exact he
    clear HR he
    go_wp2
    simp [bodyPost, results, Try.results18, go_sem, H1.out, zeroSp, *]
    (repeat' (first | (with_reducible exact Below.refl _ _) | (with_reducible assumption) | (with_reducible refine Below.drew ?_) | (with_reducible refine below_drewN ?_ _) | (with_reducible refine Below.setCell ?_ ?_ _) | (with_reducible refine Below.alloc ?_ ?_ _) | go_size | (exact Below.size (by assumption)) | (refine Below.trans ?_ (Below.mono (by assumption) ?_))))
end Go.Proofs.Ytnkbcapikenbbaa
