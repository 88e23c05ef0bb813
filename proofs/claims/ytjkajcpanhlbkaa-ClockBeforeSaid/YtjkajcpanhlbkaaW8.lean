/- ClockTrue: the walk. -/
import Derived.Test.YtjkajcpanhlbkaaW4
import Derived.Test.YtjkajcpanhlbkaaW5
import Derived.Test.YtjkajcpanhlbkaaW7
import Derived.Test.YtjkajcpanhlbkaaE2
import Derived.Test.YtjkajcpanhlbkaaTr
namespace Go.Proofs.Ytjkajcpanhlbkaa
set_option linter.unusedSimpArgs false
set_option linter.unusedVariables false
open Go.RowKit Go.Shelf
attribute [local go_sem high] cell_set_wr
attribute [local go_sem low] cell_wr frozen_wr
attribute [local go_sem] wr_set wr_drew wr_drewN wr_alloc wr_new

theorem minute_keep (n : Int) (w : World) :
    Calls Try.prog 38 #[.int .i64 n] w fun e w' => e = .returned (.int .i64 (windI n 4320)) ∧ w' = w := by
  go_enter Try.func38, Try.ntmps38
  go_wp2_with (go_at_call 42; refine (wind_any n 4320 (by omega) _).mono ?_; rintro e w1 ⟨rfl, rfl⟩)
  go_ret
  exact ⟨rfl, rfl⟩
theorem exactF_length (fs : List Fr) (bits : List Int) : (exactF (trulyL fs bits)).length = fs.length := by simp [exactF, trulyL_length]
/-- what the clock shows in a truth that numbers choose, minute by minute -/
def trueFaces (set : Int) (fs : List Fr) (bits : List Int) : List Int := facesL set (exactF (trulyL fs bits)) 4320
theorem trueFaces_length (set : Int) (fs : List Fr) (bits : List Int) : (trueFaces set fs bits).length = 4320 := facesL_length _ _ _
theorem faces_true (set : Int) (O : Option Addr) (oc : Nat) (fs : List Fr) (bits : List Int) (w : World) (hA : Arr w w.heap.size O (frosts (exactF (trulyL fs bits)))) (hs : 0 ≤ set ∧ set ≤ 4319) (hl3 : fs.length ≤ 3) :
    Calls Try.prog 36 #[.agg #[.int .i64 set, .slice O fs.length oc]] w fun e w' =>
      (∃ L lc, e = .returned (.slice L 4320 lc) ∧ lc ≤ maxLen ∧ Arr w' w'.heap.size L (ints (trueFaces set fs bits))) ∧ Below w.heap.size w w' := by
  have h := faces_any set O oc (exactF (trulyL fs bits)) w hA hs (by rw [exactF_length]; exact hl3)
  rw [exactF_length] at h
  exact h

theorem in_yes (n lo hi : Int) (h : lo ≤ n ∧ n ≤ hi) (w : World) :
    Calls Try.prog 39 #[.int .i64 n, .agg #[.int .i64 lo, .int .i64 hi]] w fun e w' => e = .returned (.bool true) ∧ Below w.heap.size w w' := by
  refine (in_any n lo hi w).mono ?_
  rintro e w' ⟨rfl, hb⟩
  exact ⟨ret_bool (by simp [h.1, h.2]), hb⟩
theorem inside_yes (a z lo hi : Int) (h : lo ≤ a ∧ z ≤ hi) (w : World) :
    Calls Try.prog 40 #[.agg #[.int .i64 a, .int .i64 z], .agg #[.int .i64 lo, .int .i64 hi]] w fun e w' => e = .returned (.bool true) ∧ Below w.heap.size w w' := by
  refine (inside_any a z lo hi w).mono ?_
  rintro e w' ⟨rfl, hb⟩
  exact ⟨ret_bool (by simp [h.1, h.2]), hb⟩

set_option maxRecDepth 100000 in
set_option maxHeartbeats 4000000 in
theorem true_false (set : Int) (A Bi : Option Addr) (cap bcap : Nat) (fs : List Fr) (bits : List Int) (n0 n1 : Int) (w : World) (hA : Arr w w.heap.size A (frosts fs)) (ho : Ck.ok ⟨set, fs⟩ = false) :
    Calls Try.prog 6 #[.agg #[.int .i64 set, .slice A fs.length cap], .agg #[.int .i64 n0, .int .i64 n1], .slice Bi bits.length bcap] w fun e w' => e = .returned (.bool true) ∧ Below w.heap.size w w' := by
  have HO := hid ho
  go_enter Try.func6, Try.ntmps6
  go_wp2_with (first
    | (go_at_call 35; refine (sound_any set A cap fs _ ?_).mono ?_; (focus (refine (hA.below ?_).more ?_; (repeat' (first | (with_reducible exact Below.refl _ _) | (with_reducible assumption) | (with_reducible refine Below.drew ?_) | (with_reducible refine below_drewN ?_ _) | (with_reducible refine Below.setCell ?_ ?_ _) | (with_reducible refine Below.alloc ?_ ?_ _) | go_size | (exact Below.size (by assumption)) | (refine Below.trans ?_ (Below.mono (by assumption) ?_)))))); rw [HO.out]; rintro e w1 ⟨rfl, hb1⟩; (first | replace hb1 := Below.un1 hb1 | replace hb1 := Below.un2 hb1 | skip); obtain ⟨hc1, hf1, hl1, hm1, hw1⟩ := bcell hb1; have hz1 := hb1.size; (try simp only [World.size_alloc, World.size_setCell] at hz1))
    | (go_at_call 22; refine (ticks_any _).mono ?_; rintro e w2 ⟨rfl, hb2⟩; (first | replace hb2 := Below.un1 hb2 | replace hb2 := Below.un2 hb2 | skip); obtain ⟨hc2, hf2, hl2, hm2, hw2⟩ := bcell hb2; have hz2 := hb2.size; (try simp only [World.size_alloc, World.size_setCell] at hz2)))
  go_ret
  exact ⟨rfl, by (repeat' (first | (with_reducible exact Below.refl _ _) | (with_reducible assumption) | (with_reducible refine Below.drew ?_) | (with_reducible refine below_drewN ?_ _) | (with_reducible refine Below.setCell ?_ ?_ _) | (with_reducible refine Below.alloc ?_ ?_ _) | go_size | (exact Below.size (by assumption)) | (refine Below.trans ?_ (Below.mono (by assumption) ?_))))⟩

set_option maxRecDepth 100000 in
set_option maxHeartbeats 4000000 in
theorem true_core (set : Int) (A Bi : Option Addr) (cap bcap : Nat) (fs : List Fr) (bits : List Int) (n0 n1 : Int) (w : World) (hA : Arr w w.heap.size A (frosts fs)) (hBi : Arr w w.heap.size Bi (ints bits)) (hbl : bits.length ≤ 9223372036854775807) (ho : Ck.ok ⟨set, fs⟩ = true) (a z : Nat)
    (HA : Hid ((if windI n1 4320 < windI n0 4320 then windI n1 4320 else windI n0 4320) = (a : Int))) (HZ : Hid ((if windI n0 4320 < windI n1 4320 then windI n1 4320 else windI n0 4320) = (z : Int)))
    (haz : a ≤ z) (hz' : z < 4320) (la lz : Int) (HLA : Hid (∀ h, (trueFaces set fs bits)[a]'h = la)) (HLZ : Hid (∀ h, (trueFaces set fs bits)[z]'h = lz)) (S M P : Sp)
    (HS : Hid (pShowsR ⟨set, fs⟩ a = (S, 0))) (HM : Hid (pMeansR ⟨set, fs⟩ lz = (M, 0))) (HP : Hid (pPassedR ⟨set, fs⟩ la lz = (P, 0)))
    (h1 : S.lo ≤ la ∧ la ≤ S.hi) (h2 : M.lo ≤ z ∧ z ≤ M.hi) (h3 : P.lo ≤ (z : Int) - a ∧ (z : Int) - a ≤ P.hi) (h4 : 0 ≤ P.lo ∧ P.hi ≤ 4319) :
    Calls Try.prog 6 #[.agg #[.int .i64 set, .slice A fs.length cap], .agg #[.int .i64 n0, .int .i64 n1], .slice Bi bits.length bcap] w fun e w' => e = .returned (.bool true) ∧ Below w.heap.size w w' := by
  have HO := hid ho
  obtain ⟨hO, hs1, hs2⟩ := okFs_of ho
  have hl3 := hO.1
  have HT := hid h1
  have HT2 := hid h2
  have HT3 := hid h3
  have HT4 := hid h4
  clear ho h1 h2 h3 h4
  go_enter Try.func6, Try.ntmps6
  go_wp2_with (first
    | (go_at_call 35; refine (sound_any set A cap fs _ ?_).mono ?_; (focus (refine (hA.below ?_).more ?_; (repeat' (first | (with_reducible exact Below.refl _ _) | (with_reducible assumption) | (with_reducible refine Below.drew ?_) | (with_reducible refine below_drewN ?_ _) | (with_reducible refine Below.setCell ?_ ?_ _) | (with_reducible refine Below.alloc ?_ ?_ _) | go_size | (exact Below.size (by assumption)) | (refine Below.trans ?_ (Below.mono (by assumption) ?_)))))); rw [HO.out]; rintro e w1 ⟨rfl, hb1⟩; (first | replace hb1 := Below.un1 hb1 | replace hb1 := Below.un2 hb1 | skip); obtain ⟨hc1, hf1, hl1, hm1, hw1⟩ := bcell hb1; have hz1 := hb1.size; (try simp only [World.size_alloc, World.size_setCell] at hz1); have e1 : w.heap.size + 1 < w1.heap.size := (by omega))
    | (go_at_call 37; refine (truly_any set A Bi cap bcap fs bits _ ?_ ?_ hO hbl).mono ?_; (focus (refine (hA.below ?_).more ?_; (repeat' (first | (with_reducible exact Below.refl _ _) | (with_reducible assumption) | (with_reducible refine Below.drew ?_) | (with_reducible refine below_drewN ?_ _) | (with_reducible refine Below.setCell ?_ ?_ _) | (with_reducible refine Below.alloc ?_ ?_ _) | go_size | (exact Below.size (by assumption)) | (refine Below.trans ?_ (Below.mono (by assumption) ?_)))))); (focus (refine (hBi.below ?_).more ?_; (repeat' (first | (with_reducible exact Below.refl _ _) | (with_reducible assumption) | (with_reducible refine Below.drew ?_) | (with_reducible refine below_drewN ?_ _) | (with_reducible refine Below.setCell ?_ ?_ _) | (with_reducible refine Below.alloc ?_ ?_ _) | go_size | (exact Below.size (by assumption)) | (refine Below.trans ?_ (Below.mono (by assumption) ?_)))))); rintro e w2 ⟨⟨O, oc, rfl, hoc, hOA⟩, hb2⟩; (first | replace hb2 := Below.un1 hb2 | replace hb2 := Below.un2 hb2 | skip); obtain ⟨hc2, hf2, hl2, hm2, hw2⟩ := bcell hb2; have hz2 := hb2.size; (try simp only [World.size_alloc, World.size_setCell] at hz2); have n2 : w.heap.size + 1 < w2.heap.size := (by omega))
    | (go_at_call 36; refine (faces_true set O oc fs bits _ ?_ ⟨hs1, hs2⟩ hl3).mono ?_; (focus (refine (hOA.below ?_).more ?_; (repeat' (first | (with_reducible exact Below.refl _ _) | (with_reducible assumption) | (with_reducible refine Below.drew ?_) | (with_reducible refine below_drewN ?_ _) | (with_reducible refine Below.setCell ?_ ?_ _) | (with_reducible refine Below.alloc ?_ ?_ _) | go_size | (exact Below.size (by assumption)) | (refine Below.trans ?_ (Below.mono (by assumption) ?_)))))); rintro e w3 ⟨⟨L, lc, rfl, hlc, hLA⟩, hb3⟩; (first | replace hb3 := Below.un1 hb3 | replace hb3 := Below.un2 hb3 | skip); obtain ⟨hc3, hf3, hl3', hm3, hw3⟩ := bcell hb3; have hz3 := hb3.size; (try simp only [World.size_alloc, World.size_setCell] at hz3); have n3 : w.heap.size + 1 < w3.heap.size := (by omega)))
  have x0 : w3.cell? ⟨w.heap.size, 0, none⟩ = some (.int .i64 set) := by (first | (simp [go_sem, wr_set, wr_drew, wr_drewN, wr_alloc, wr_new]; done) | (simp [go_sem, wr_set, wr_drew, wr_drewN, wr_alloc, wr_new, *]; done) | (simp (disch := go_size) [go_sem, wr_set, wr_drew, wr_drewN, wr_alloc, wr_new, *]; done))
  have x1 : w3.cell? ⟨w.heap.size, 1, none⟩ = some (.slice A fs.length cap) := by (first | (simp [go_sem, wr_set, wr_drew, wr_drewN, wr_alloc, wr_new]; done) | (simp [go_sem, wr_set, wr_drew, wr_drewN, wr_alloc, wr_new, *]; done) | (simp (disch := go_size) [go_sem, wr_set, wr_drew, wr_drewN, wr_alloc, wr_new, *]; done))
  have x2 : w3.cell? ⟨w.heap.size + 1, 0, none⟩ = some (.int .i64 n0) := by (first | (simp [go_sem, wr_set, wr_drew, wr_drewN, wr_alloc, wr_new]; done) | (simp [go_sem, wr_set, wr_drew, wr_drewN, wr_alloc, wr_new, *]; done) | (simp (disch := go_size) [go_sem, wr_set, wr_drew, wr_drewN, wr_alloc, wr_new, *]; done))
  have x3 : w3.cell? ⟨w.heap.size + 1, 1, none⟩ = some (.int .i64 n1) := by (first | (simp [go_sem, wr_set, wr_drew, wr_drewN, wr_alloc, wr_new]; done) | (simp [go_sem, wr_set, wr_drew, wr_drewN, wr_alloc, wr_new, *]; done) | (simp (disch := go_size) [go_sem, wr_set, wr_drew, wr_drewN, wr_alloc, wr_new, *]; done))
  have yB : Below w.heap.size w w3 := by (repeat' (first | (with_reducible exact Below.refl _ _) | (with_reducible assumption) | (with_reducible refine Below.drew ?_) | (with_reducible refine below_drewN ?_ _) | (with_reducible refine Below.setCell ?_ ?_ _) | (with_reducible refine Below.alloc ?_ ?_ _) | go_size | (exact Below.size (by assumption)) | (refine Below.trans ?_ (Below.mono (by assumption) ?_))))
  have hAw := (hA.below yB).more yB.size
  obtain ⟨lb, lo, rfl, hlb, la0⟩ := hLA.int (k := a) (by rw [trueFaces_length]; omega)
  obtain ⟨lb', lo', hpq, hlb', lz0⟩ := hLA.int (k := z) (by rw [trueFaces_length]; omega)
  simp only [Option.some.injEq, Addr.mk.injEq, and_true] at hpq
  obtain ⟨rfl, rfl⟩ := hpq
  rw [HLA.out] at la0
  rw [HLZ.out] at lz0
  clear hc1 hf1 hl1 hm1 hw1 hb1 hz1 e1 hc2 hf2 hl2 hm2 hw2 hb2 hz2 n2 hc3 hf3 hl3' hm3 hw3 hb3 hz3 hOA hLA hA hBi hlb'
  go_quiet ((go_at_call 38; exact Calls.quiet_of_same (minute_keep _ _)))
  have y0 : (w3.drewN nq).cell? ⟨w.heap.size, 0, none⟩ = some (.int .i64 set) := x0
  have y1 : (w3.drewN nq).cell? ⟨w.heap.size, 1, none⟩ = some (.slice A fs.length cap) := x1
  have y2 : (w3.drewN nq).cell? ⟨lb, lo + a, none⟩ = some (.int .i64 la) := la0
  have y3 : (w3.drewN nq).cell? ⟨lb, lo + z, none⟩ = some (.int .i64 lz) := lz0
  have yl : lb < (w3.drewN nq).heap.size := hlb
  have yz : w.heap.size + 1 < (w3.drewN nq).heap.size := n3
  have yW : Below w.heap.size w (w3.drewN nq) := below_drewN yB nq
  have hAV : Arr (w3.drewN nq) (w3.drewN nq).heap.size A (frosts fs) := hAw
  rw [HA.out, HZ.out]
  generalize w3.drewN nq = V at *
  clear x0 x1 x2 x3 la0 lz0 hlb n3 yB hAw
  have ha1 : (a : Int) < 4320 := by omega
  have hz1 : (z : Int) < 4320 := by omega
  have ha0 : (0 : Int) ≤ (a : Int) := by omega
  have hz0 : (0 : Int) ≤ (z : Int) := by omega
  have yz0 : w.heap.size < V.heap.size := by omega
  go_wp2_with (first
    | (go_at_call 14; refine (pShows_any set A cap fs a _ ?_).mono ?_; (focus (refine (hAV.below ?_).more ?_; (repeat' (first | (with_reducible exact Below.refl _ _) | (with_reducible assumption) | (with_reducible refine Below.drew ?_) | (with_reducible refine below_drewN ?_ _) | (with_reducible refine Below.setCell ?_ ?_ _) | (with_reducible refine Below.alloc ?_ ?_ _) | go_size | (exact Below.size (by assumption)) | (refine Below.trans ?_ (Below.mono (by assumption) ?_)))))); rw [HS.out]; rintro e w4 ⟨rfl, hb4⟩; (first | replace hb4 := Below.un1 hb4 | replace hb4 := Below.un2 hb4 | skip); obtain ⟨hc4, hf4, hl4, hm4, hw4⟩ := bcell hb4; have hz4 := hb4.size; (try simp only [World.size_alloc, World.size_setCell] at hz4); have n4 : w.heap.size < w4.heap.size := (by omega); have m4 : lb < w4.heap.size := (by omega)))
  obtain ⟨W4, hW4⟩ : ∃ W4, W4 = w4.alloc (.cells #[.int .i64 S.lo, .int .i64 S.hi] 27) := ⟨_, rfl⟩
  have hbW : Below V.heap.size V W4 := by rw [hW4]; exact hb4.alloc hz4 _
  have s0 : W4.cell? ⟨w4.heap.size, 0, none⟩ = some (.int .i64 S.lo) := by rw [hW4]; simp [go_sem]
  have s1 : W4.cell? ⟨w4.heap.size, 1, none⟩ = some (.int .i64 S.hi) := by rw [hW4]; simp [go_sem]
  have sz : w4.heap.size < W4.heap.size := by rw [hW4]; simp
  rw [← hW4]
  clear hW4
  have c0 : W4.cell? ⟨w.heap.size, 0, none⟩ = some (.int .i64 set) := (hbW.cell (by simp only; omega)).trans y0
  have c1 : W4.cell? ⟨w.heap.size, 1, none⟩ = some (.slice A fs.length cap) := (hbW.cell (by simp only; omega)).trans y1
  have c2 : W4.cell? ⟨lb, lo + a, none⟩ = some (.int .i64 la) := (hbW.cell (by simp only; omega)).trans y2
  have c3 : W4.cell? ⟨lb, lo + z, none⟩ = some (.int .i64 lz) := (hbW.cell (by simp only; omega)).trans y3
  have cl : lb < W4.heap.size := by omega
  have cz : w.heap.size + 1 < W4.heap.size := by omega
  have cz0 : w.heap.size < W4.heap.size := by omega
  have cW : Below w.heap.size w W4 := yW.trans (hbW.mono (by omega))
  have hAW := (hAV.below hbW).more hbW.size
  generalize w4.heap.size = sb at *
  clear hc4 hf4 hl4 hm4 hw4 hb4 hz4 n4 m4 y0 y1 y2 y3 yl yz yW hbW yz0 hAV
  go_cut [12, 13] (fun p e wx => ∃ O : Nat, p = .pointer (some ⟨O, 0, none⟩) ∧ e = .int .i64 0 ∧ W4.heap.size ≤ O ∧ O < wx.heap.size ∧ wx.cell? ⟨O, 0, none⟩ = some (.int .i64 M.lo) ∧ wx.cell? ⟨O, 1, none⟩ = some (.int .i64 M.hi) ∧ Below W4.heap.size W4 wx)
  case first =>
    go_region_held3 (fun w' => (w'.cell? ⟨w.heap.size, 0, none⟩ = some (.int .i64 set) ∧ w'.cell? ⟨w.heap.size, 1, none⟩ = some (.slice A fs.length cap) ∧ w'.cell? ⟨lb, lo + z, none⟩ = some (.int .i64 lz)) ∧ Below W4.heap.size W4 w') (((refine ⟨?_, ?_⟩; (focus (first | (simp [go_sem, wr_set, wr_drew, wr_drewN, wr_alloc, wr_new]; done) | (simp [go_sem, wr_set, wr_drew, wr_drewN, wr_alloc, wr_new, *]; done) | (simp (disch := go_size) [go_sem, wr_set, wr_drew, wr_drewN, wr_alloc, wr_new, *]; done))); (repeat' (first | (with_reducible exact Below.refl _ _) | (with_reducible assumption) | (with_reducible refine Below.drew ?_) | (with_reducible refine below_drewN ?_ _) | (with_reducible refine Below.setCell ?_ ?_ _) | (with_reducible refine Below.alloc ?_ ?_ _) | go_size | (exact Below.size (by assumption)) | (refine Below.trans ?_ (Below.mono (by assumption) ?_)))))))
      (first
        | (go_at_call 18; refine (pMeans_any set A cap fs lz _ ?_).mono ?_; (focus (refine (hAW.below ?_).more ?_; (repeat' (first | (with_reducible exact Below.refl _ _) | (with_reducible assumption) | (with_reducible refine Below.drew ?_) | (with_reducible refine below_drewN ?_ _) | (with_reducible refine Below.setCell ?_ ?_ _) | (with_reducible refine Below.alloc ?_ ?_ _) | go_size | (exact Below.size (by assumption)) | (refine Below.trans ?_ (Below.mono (by assumption) ?_)))))); rw [HM.out]; rintro e w5 ⟨rfl, hb5⟩; (first | replace hb5 := Below.un1 hb5 | replace hb5 := Below.un2 hb5 | skip); obtain ⟨hc5, hf5, hl5, hm5, hw5⟩ := bcell hb5; have hz5 := hb5.size; (try simp only [World.size_alloc, World.size_setCell] at hz5); have n5 : w.heap.size < w5.heap.size := (by omega); have m5 : lb < w5.heap.size := (by omega)))
    all_goals
      rename_i hHeld
      go_wp2_with fail
      go_meet
      refine ⟨_, rfl, rfl, by first | exact Nat.le_refl _ | omega, by first | omega | (simp; done) | (simp; omega), ?_, ?_, hHeld.2⟩
      · (first | (simp [go_sem, wr_set, wr_drew, wr_drewN, wr_alloc, wr_new]; done) | (simp [go_sem, wr_set, wr_drew, wr_drewN, wr_alloc, wr_new, *]; done) | (simp (disch := go_size) [go_sem, wr_set, wr_drew, wr_drewN, wr_alloc, wr_new, *]; done))
      · (first | (simp [go_sem, wr_set, wr_drew, wr_drewN, wr_alloc, wr_new]; done) | (simp [go_sem, wr_set, wr_drew, wr_drewN, wr_alloc, wr_new, *]; done) | (simp (disch := go_size) [go_sem, wr_set, wr_drew, wr_drewN, wr_alloc, wr_new, *]; done))
  case rest =>
    obtain ⟨mb, rfl, rfl, hm1, hm2, m0, m1, hbM⟩ := hcut
    have d0 : wc.cell? ⟨w.heap.size, 0, none⟩ = some (.int .i64 set) := (hbM.cell (by simp only; omega)).trans c0
    have d1 : wc.cell? ⟨w.heap.size, 1, none⟩ = some (.slice A fs.length cap) := (hbM.cell (by simp only; omega)).trans c1
    have d2 : wc.cell? ⟨lb, lo + a, none⟩ = some (.int .i64 la) := (hbM.cell (by simp only; omega)).trans c2
    have d3 : wc.cell? ⟨lb, lo + z, none⟩ = some (.int .i64 lz) := (hbM.cell (by simp only; omega)).trans c3
    have d4 : wc.cell? ⟨sb, 0, none⟩ = some (.int .i64 S.lo) := (hbM.cell (by simp only; omega)).trans s0
    have d5 : wc.cell? ⟨sb, 1, none⟩ = some (.int .i64 S.hi) := (hbM.cell (by simp only; omega)).trans s1
    have hz5 := hbM.size
    have dW : Below w.heap.size w wc := cW.trans (hbM.mono (by omega))
    have hAC := (hAW.below hbM).more hbM.size
    have n6 : w.heap.size < wc.heap.size := by omega
    have n7 : lb < wc.heap.size := by omega
    have n8 : sb < wc.heap.size := by omega
    clear c0 c1 c2 c3 s0 s1 cW hAW hbM
    go_wp2_with fail
    go_cut [14, 15] (fun p e wx => ∃ O : Nat, p = .pointer (some ⟨O, 0, none⟩) ∧ e = .int .i64 0 ∧ wc.heap.size ≤ O ∧ O < wx.heap.size ∧ wx.cell? ⟨O, 0, none⟩ = some (.int .i64 P.lo) ∧ wx.cell? ⟨O, 1, none⟩ = some (.int .i64 P.hi) ∧ Below wc.heap.size wc wx)
    case first =>
      go_region_held3 (fun w' => (w'.cell? ⟨w.heap.size, 0, none⟩ = some (.int .i64 set) ∧ w'.cell? ⟨w.heap.size, 1, none⟩ = some (.slice A fs.length cap) ∧ w'.cell? ⟨lb, lo + a, none⟩ = some (.int .i64 la) ∧ w'.cell? ⟨lb, lo + z, none⟩ = some (.int .i64 lz)) ∧ Below wc.heap.size wc w') (((refine ⟨?_, ?_⟩; (focus (first | (simp [go_sem, wr_set, wr_drew, wr_drewN, wr_alloc, wr_new]; done) | (simp [go_sem, wr_set, wr_drew, wr_drewN, wr_alloc, wr_new, *]; done) | (simp (disch := go_size) [go_sem, wr_set, wr_drew, wr_drewN, wr_alloc, wr_new, *]; done))); (repeat' (first | (with_reducible exact Below.refl _ _) | (with_reducible assumption) | (with_reducible refine Below.drew ?_) | (with_reducible refine below_drewN ?_ _) | (with_reducible refine Below.setCell ?_ ?_ _) | (with_reducible refine Below.alloc ?_ ?_ _) | go_size | (exact Below.size (by assumption)) | (refine Below.trans ?_ (Below.mono (by assumption) ?_)))))))
        (first
          | (go_at_call 20; refine (pPassed_any set A cap fs la lz _ ?_).mono ?_; (focus (refine (hAC.below ?_).more ?_; (repeat' (first | (with_reducible exact Below.refl _ _) | (with_reducible assumption) | (with_reducible refine Below.drew ?_) | (with_reducible refine below_drewN ?_ _) | (with_reducible refine Below.setCell ?_ ?_ _) | (with_reducible refine Below.alloc ?_ ?_ _) | go_size | (exact Below.size (by assumption)) | (refine Below.trans ?_ (Below.mono (by assumption) ?_)))))); rw [HP.out]; rintro e w6 ⟨rfl, hb6⟩; (first | replace hb6 := Below.un1 hb6 | replace hb6 := Below.un2 hb6 | skip); obtain ⟨hc6, hf6, hl6, hm6, hw6⟩ := bcell hb6; have hz6 := hb6.size; (try simp only [World.size_alloc, World.size_setCell] at hz6); have n6' : w.heap.size < w6.heap.size := (by omega); have n7' : lb < w6.heap.size := (by omega)))
      all_goals
        rename_i hHeld
        go_wp2_with fail
        go_meet
        refine ⟨_, rfl, rfl, by first | exact Nat.le_refl _ | omega, by first | omega | (simp; done) | (simp; omega), ?_, ?_, hHeld.2⟩
        · (first | (simp [go_sem, wr_set, wr_drew, wr_drewN, wr_alloc, wr_new]; done) | (simp [go_sem, wr_set, wr_drew, wr_drewN, wr_alloc, wr_new, *]; done) | (simp (disch := go_size) [go_sem, wr_set, wr_drew, wr_drewN, wr_alloc, wr_new, *]; done))
        · (first | (simp [go_sem, wr_set, wr_drew, wr_drewN, wr_alloc, wr_new]; done) | (simp [go_sem, wr_set, wr_drew, wr_drewN, wr_alloc, wr_new, *]; done) | (simp (disch := go_size) [go_sem, wr_set, wr_drew, wr_drewN, wr_alloc, wr_new, *]; done))
    case rest =>
      obtain ⟨pb, rfl, rfl, hp1, hp2, p0, p1, hbP⟩ := hcut
      have e2 : wc.cell? ⟨lb, lo + a, none⟩ = some (.int .i64 la) := (hbP.cell (by simp only; omega)).trans d2
      have e4 : wc.cell? ⟨sb, 0, none⟩ = some (.int .i64 S.lo) := (hbP.cell (by simp only; omega)).trans d4
      have e5 : wc.cell? ⟨sb, 1, none⟩ = some (.int .i64 S.hi) := (hbP.cell (by simp only; omega)).trans d5
      have e6 : wc.cell? ⟨mb, 0, none⟩ = some (.int .i64 M.lo) := (hbP.cell (by simp only; omega)).trans m0
      have e7 : wc.cell? ⟨mb, 1, none⟩ = some (.int .i64 M.hi) := (hbP.cell (by simp only; omega)).trans m1
      have hz6 := hbP.size
      have eW : Below w.heap.size w wc := dW.trans (hbP.mono (by omega))
      have n9 : w.heap.size < wc.heap.size := by omega
      have n10 : lb < wc.heap.size := by omega
      have n11 : sb < wc.heap.size := by omega
      have n12 : mb < wc.heap.size := by omega
      have r1 : IntKind.i64.wrap ((z : Int) - (a : Int)) = (z : Int) - (a : Int) := IntWalk.i64_in _ (by omega)
      have T1 : (decide (S.lo ≤ la) && decide (la ≤ S.hi)) = true := by simp [HT.out.1, HT.out.2]
      have T2 : (decide (M.lo ≤ (z : Int)) && decide ((z : Int) ≤ M.hi)) = true := by simp [HT2.out.1, HT2.out.2]
      have T3 : (decide (P.lo ≤ (z : Int) - (a : Int)) && decide ((z : Int) - (a : Int) ≤ P.hi)) = true := by simp [HT3.out.1, HT3.out.2]
      have T4 : (decide (0 ≤ P.lo) && decide (P.hi ≤ 4319)) = true := by simp [HT4.out.1, HT4.out.2]
      clear d0 d1 d2 d3 d4 d5 m0 m1 dW hbP hAC
      go_wp2_with fail
      go_region_held3 (fun w' => (w'.cell? ⟨lb, lo + a, none⟩ = some (.int .i64 la) ∧ w'.cell? ⟨sb, 0, none⟩ = some (.int .i64 S.lo) ∧ w'.cell? ⟨sb, 1, none⟩ = some (.int .i64 S.hi) ∧ w'.cell? ⟨mb, 0, none⟩ = some (.int .i64 M.lo) ∧ w'.cell? ⟨mb, 1, none⟩ = some (.int .i64 M.hi) ∧
          w'.cell? ⟨pb, 0, none⟩ = some (.int .i64 P.lo) ∧ w'.cell? ⟨pb, 1, none⟩ = some (.int .i64 P.hi)) ∧ Below wc.heap.size wc w') (((refine ⟨?_, ?_⟩; (focus (first | (simp [go_sem, wr_set, wr_drew, wr_drewN, wr_alloc, wr_new]; done) | (simp [go_sem, wr_set, wr_drew, wr_drewN, wr_alloc, wr_new, *]; done) | (simp (disch := go_size) [go_sem, wr_set, wr_drew, wr_drewN, wr_alloc, wr_new, *]; done))); (repeat' (first | (with_reducible exact Below.refl _ _) | (with_reducible assumption) | (with_reducible refine Below.drew ?_) | (with_reducible refine below_drewN ?_ _) | (with_reducible refine Below.setCell ?_ ?_ _) | (with_reducible refine Below.alloc ?_ ?_ _) | go_size | (exact Below.size (by assumption)) | (refine Below.trans ?_ (Below.mono (by assumption) ?_)))))))
        (first
          | (go_at_call 39; refine (in_any _ _ _ _).mono ?_; (first | rw [T1] | rw [T2] | rw [T3]); rintro e w7 ⟨rfl, hb7⟩; (first | replace hb7 := Below.un1 hb7 | replace hb7 := Below.un2 hb7 | skip); obtain ⟨hc7, hf7, hl7, hm7, hw7⟩ := bcell hb7; have hz7 := hb7.size; (try simp only [World.size_alloc, World.size_setCell] at hz7); have k7 : w.heap.size < w7.heap.size := (by omega); have j7 : lb < w7.heap.size := (by omega); have i7 : sb < w7.heap.size := (by omega); have h7 : mb < w7.heap.size := (by omega); have g7 : pb < w7.heap.size := (by omega))
          | (go_at_call 41; refine (to_any _ _ _).mono ?_; rintro e w10 ⟨rfl, hb10⟩; (first | replace hb10 := Below.un1 hb10 | replace hb10 := Below.un2 hb10 | skip); obtain ⟨hc10, hf10, hl10, hm10, hw10⟩ := bcell hb10; have hz10 := hb10.size; (try simp only [World.size_alloc, World.size_setCell] at hz10); have k10 : w.heap.size < w10.heap.size := (by omega); have j10 : lb < w10.heap.size := (by omega); have i10 : sb < w10.heap.size := (by omega); have h10 : mb < w10.heap.size := (by omega); have g10 : pb < w10.heap.size := (by omega))
          | (go_at_call 40; refine (inside_any _ _ _ _ _).mono ?_; rw [T4]; rintro e w11 ⟨rfl, hb11⟩; (first | replace hb11 := Below.un1 hb11 | replace hb11 := Below.un2 hb11 | skip); obtain ⟨hc11, hf11, hl11, hm11, hw11⟩ := bcell hb11; have hz11 := hb11.size; (try simp only [World.size_alloc, World.size_setCell] at hz11); have k11 : w.heap.size < w11.heap.size := (by omega); have j11 : lb < w11.heap.size := (by omega); have i11 : sb < w11.heap.size := (by omega); have h11 : mb < w11.heap.size := (by omega); have g11 : pb < w11.heap.size := (by omega))
          | (go_at_call 22; refine (ticks_any _).mono ?_; rintro e w12 ⟨rfl, hb12⟩; (first | replace hb12 := Below.un1 hb12 | replace hb12 := Below.un2 hb12 | skip); obtain ⟨hc12, hf12, hl12, hm12, hw12⟩ := bcell hb12; have hz12 := hb12.size; (try simp only [World.size_alloc, World.size_setCell] at hz12)))
      rename_i hHeld
      have fW := eW.trans (hHeld.2.mono eW.size)
      go_wp2_with fail
      go_ret
      exact ⟨rfl, fW⟩
end Go.Proofs.Ytjkajcpanhlbkaa
