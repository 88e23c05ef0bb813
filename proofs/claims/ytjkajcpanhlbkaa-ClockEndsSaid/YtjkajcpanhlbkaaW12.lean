/- ClockEnds: the walk. -/
import Derived.Test.YtjkajcpanhlbkaaW4
import Derived.Test.YtjkajcpanhlbkaaW5
import Derived.Test.YtjkajcpanhlbkaaW7
import Derived.Test.YtjkajcpanhlbkaaE3
namespace Go.Proofs.Ytjkajcpanhlbkaa
set_option linter.unusedSimpArgs false
set_option linter.unusedVariables false
open Go.RowKit Go.Shelf
attribute [local go_sem high] cell_set_wr
attribute [local go_sem low] cell_wr frozen_wr
attribute [local go_sem] wr_set wr_drew wr_drewN wr_alloc wr_new

/-- what the clock shows minute by minute, if all frosts are as long as they can be, or as short -/
def endFaces (set : Int) (fs : List Fr) (long : Bool) : List Int := facesL set (exactF (endsL fs long)) 4320
theorem endFaces_length (set : Int) (fs : List Fr) (long : Bool) : (endFaces set fs long).length = 4320 := facesL_length _ _ _
theorem exactE_length (fs : List Fr) (long : Bool) : (exactF (endsL fs long)).length = fs.length := by simp [exactF, endsL]
theorem faces_ends (set : Int) (O : Option Addr) (oc : Nat) (fs : List Fr) (long : Bool) (w : World) (hA : Arr w w.heap.size O (frosts (exactF (endsL fs long)))) (hs : 0 ≤ set ∧ set ≤ 4319) (hl3 : fs.length ≤ 3) :
    Calls Try.prog 36 #[.agg #[.int .i64 set, .slice O fs.length oc]] w fun e w' =>
      (∃ L lc, e = .returned (.slice L 4320 lc) ∧ lc ≤ maxLen ∧ Arr w' w'.heap.size L (ints (endFaces set fs long))) ∧ Below w.heap.size w w' := by
  have h := faces_any set O oc (exactF (endsL fs long)) w hA hs (by rw [exactE_length]; exact hl3)
  rw [exactE_length] at h
  exact h
/-- what each step of the statement 'low, high := faces(ends(c, true)), faces(ends(c, false))' leaves -/
def endsG (set : Int) (A : Option Addr) (n cap : Nat) (fs : List Fr) : Nat → Value → World → Prop
  | 0, v, _ => v = .agg #[.int .i64 set, .slice A n cap]
  | 1, v, w => ∃ O oc, v = .agg #[.int .i64 set, .slice O fs.length oc] ∧ Arr w w.heap.size O (frosts (exactF (endsL fs true)))
  | 2, v, w => ∃ l c, v = .slice (some l) 4320 c ∧ Arr w w.heap.size (some l) (ints (endFaces set fs true))
  | 3, v, _ => v = .agg #[.int .i64 set, .slice A n cap]
  | 4, v, w => ∃ O oc, v = .agg #[.int .i64 set, .slice O fs.length oc] ∧ Arr w w.heap.size O (frosts (exactF (endsL fs false)))
  | 5, v, w => ∃ l c, v = .slice (some l) 4320 c ∧ Arr w w.heap.size (some l) (ints (endFaces set fs false))
  | _, _, _ => True
theorem endsG_stable (set : Int) (A : Option Addr) (n cap : Nat) (fs : List Fr) : ∀ j v w w', Below w.heap.size w w' → endsG set A n cap fs j v w → endsG set A n cap fs j v w' := by
  intro j v w w' hR h
  unfold endsG at *
  split at h
  all_goals (try exact h)
  all_goals
    obtain ⟨O, oc, h1, h2⟩ := h
    exact ⟨O, oc, h1, (h2.below hR).more hR.size⟩
theorem facesG_of {set : Int} {fs : List Fr} {long : Bool} {w : World} {L : Option Addr} {lc : Nat} (h : Arr w w.heap.size L (ints (endFaces set fs long))) :
    ∃ l c, Value.slice L 4320 lc = .slice (some l) 4320 c ∧ Arr w w.heap.size (some l) (ints (endFaces set fs long)) := by
  obtain ⟨b, o, rfl, _, _⟩ := h.int (k := 0) (by rw [endFaces_length]; omega)
  exact ⟨_, _, rfl, h⟩

/-- what each step of the last statement leaves -/
def endsH (tb ub sb lb lo hb' ho' cL cH m tl uh tp un : Nat) (th ul sl sh tv uv : Int) (tz uz : Bool) : Nat → Value → World → Prop
  | 0, v, _ => v = .int .i64 0
  | 1, v, _ => v = .bool true
  | 2, v, _ => v = .bool true
  | 3, v, _ => v = .int .i64 0
  | 4, v, _ => v = .bool true
  | 5, v, _ => v = .bool true
  | 6, v, _ => v = .bool true
  | 7, v, _ => v = .agg #[.int .i64 (tl : Int), .int .i64 th]
  | 8, v, _ => v = .agg #[.int .i64 0, .int .i64 4319]
  | 9, v, _ => v = .bool true
  | 10, v, _ => v = .bool true
  | 11, v, _ => v = .bool true
  | 12, v, _ => v = .agg #[.int .i64 ul, .int .i64 (uh : Int)]
  | 13, v, _ => v = .agg #[.int .i64 0, .int .i64 4319]
  | 14, v, _ => v = .bool true
  | 15, v, _ => v = .bool true
  | 16, v, _ => v = .bool true
  | 17, v, _ => v = .int .i64 (m : Int)
  | 18, v, _ => v = .agg #[.int .i64 (tl : Int), .int .i64 th]
  | 19, v, _ => v = .bool true
  | 20, v, _ => v = .bool true
  | 21, v, _ => v = .bool true
  | 22, v, _ => v = .int .i64 (m : Int)
  | 23, v, _ => v = .agg #[.int .i64 ul, .int .i64 (uh : Int)]
  | 24, v, _ => v = .bool true
  | 25, v, _ => v = .bool true
  | 26, v, _ => v = .bool true
  | 27, v, _ => v = .slice (some ⟨hb', ho', none⟩) 4320 cH
  | 28, v, _ => v = .pointer (some ⟨tb, 0, none⟩)
  | 29, v, _ => v = .int .i64 (tl : Int)
  | 30, v, _ => v = .pointer (some ⟨hb', ho' + tl, none⟩)
  | 31, v, _ => v = .int .i64 sh
  | 32, v, _ => v = .pointer (some ⟨sb, 1, none⟩)
  | 33, v, _ => v = .int .i64 sh
  | 34, v, _ => v = .bool true
  | 35, v, _ => v = .bool true
  | 36, v, _ => v = .bool true
  | 37, v, _ => v = .pointer (some ⟨tb, 0, none⟩)
  | 38, v, _ => v = .int .i64 (tl : Int)
  | 39, v, _ => v = .bool tz
  | 40, v, _ => v = .bool tz
  | 41, v, _ => v = if tz then undef else .slice (some ⟨hb', ho', none⟩) 4320 cH
  | 42, v, _ => v = if tz then undef else .pointer (some ⟨tb, 0, none⟩)
  | 43, v, _ => v = if tz then undef else .int .i64 (tl : Int)
  | 44, v, _ => v = if tz then undef else .int .i64 (tp : Int)
  | 45, v, _ => v = if tz then undef else .pointer (some ⟨hb', ho' + tp, none⟩)
  | 46, v, _ => v = if tz then undef else .int .i64 tv
  | 47, v, _ => v = if tz then undef else .pointer (some ⟨sb, 1, none⟩)
  | 48, v, _ => v = if tz then undef else .int .i64 sh
  | 49, v, _ => v = if tz then undef else .bool true
  | 50, v, _ => v = .bool true
  | 51, v, _ => v = .bool true
  | 52, v, _ => v = .bool true
  | 53, v, _ => v = .slice (some ⟨lb, lo, none⟩) 4320 cL
  | 54, v, _ => v = .pointer (some ⟨ub, 1, none⟩)
  | 55, v, _ => v = .int .i64 (uh : Int)
  | 56, v, _ => v = .pointer (some ⟨lb, lo + uh, none⟩)
  | 57, v, _ => v = .int .i64 sl
  | 58, v, _ => v = .pointer (some ⟨sb, 0, none⟩)
  | 59, v, _ => v = .int .i64 sl
  | 60, v, _ => v = .bool true
  | 61, v, _ => v = .bool true
  | 62, v, _ => v = .bool true
  | 63, v, _ => v = .pointer (some ⟨ub, 1, none⟩)
  | 64, v, _ => v = .int .i64 (uh : Int)
  | 65, v, _ => v = .bool uz
  | 66, v, _ => v = .bool uz
  | 67, v, _ => v = if uz then undef else .slice (some ⟨lb, lo, none⟩) 4320 cL
  | 68, v, _ => v = if uz then undef else .pointer (some ⟨ub, 1, none⟩)
  | 69, v, _ => v = if uz then undef else .int .i64 (uh : Int)
  | 70, v, _ => v = if uz then undef else .int .i64 (un : Int)
  | 71, v, _ => v = if uz then undef else .pointer (some ⟨lb, lo + un, none⟩)
  | 72, v, _ => v = if uz then undef else .int .i64 uv
  | 73, v, _ => v = if uz then undef else .pointer (some ⟨sb, 0, none⟩)
  | 74, v, _ => v = if uz then undef else .int .i64 sl
  | 75, v, _ => v = if uz then undef else .bool true
  | 76, v, _ => v = .bool true
  | 77, v, _ => v = .bool true
  | 78, v, _ => v = .bool true
  | 79, v, _ => v = .bool true
  | 80, v, _ => v = .bool true
  | _, _, _ => True
theorem endsH_stable (tb ub sb lb lo hb' ho' cL cH m tl uh tp un : Nat) (th ul sl sh tv uv : Int) (tz uz : Bool) : ∀ j v w w', Below w.heap.size w w' → endsH tb ub sb lb lo hb' ho' cL cH m tl uh tp un th ul sl sh tv uv tz uz j v w → endsH tb ub sb lb lo hb' ho' cL cH m tl uh tp un th ul sl sh tv uv tz uz j v w' := by
  intro j v w w' _ h
  unfold endsH at *
  split at h
  all_goals exact h

set_option maxRecDepth 100000 in
set_option maxHeartbeats 4000000 in
theorem ends_false (set : Int) (A : Option Addr) (cap : Nat) (fs : List Fr) (n : Int) (w : World) (hA : Arr w w.heap.size A (frosts fs)) (ho : Ck.ok ⟨set, fs⟩ = false) :
    Calls Try.prog 7 #[.agg #[.int .i64 set, .slice A fs.length cap], .int .i64 n] w fun e w' => e = .returned (.bool true) ∧ Below w.heap.size w w' := by
  have HO := hid ho
  go_enter Try.func7, Try.ntmps7
  go_wp2_with (first
    | (go_at_call 35; refine (sound_any set A cap fs _ ?_).mono ?_; (focus (refine (hA.below ?_).more ?_; (repeat' (first | (with_reducible exact Below.refl _ _) | (with_reducible assumption) | (with_reducible refine Below.drew ?_) | (with_reducible refine below_drewN ?_ _) | (with_reducible refine Below.setCell ?_ ?_ _) | (with_reducible refine Below.alloc ?_ ?_ _) | go_size | (exact Below.size (by assumption)) | (refine Below.trans ?_ (Below.mono (by assumption) ?_)))))); rw [HO.out]; rintro e w1 ⟨rfl, hb1⟩; (first | replace hb1 := Below.un1 hb1 | replace hb1 := Below.un2 hb1 | skip); obtain ⟨hc1, hf1, hl1, hm1, hw1⟩ := bcell hb1; have hz1 := hb1.size; (try simp only [World.size_alloc, World.size_setCell] at hz1))
    | (go_at_call 22; refine (ticks_any _).mono ?_; rintro e w2 ⟨rfl, hb2⟩; (first | replace hb2 := Below.un1 hb2 | replace hb2 := Below.un2 hb2 | skip); obtain ⟨hc2, hf2, hl2, hm2, hw2⟩ := bcell hb2; have hz2 := hb2.size; (try simp only [World.size_alloc, World.size_setCell] at hz2)))
  go_ret
  exact ⟨rfl, by (repeat' (first | (with_reducible exact Below.refl _ _) | (with_reducible assumption) | (with_reducible refine Below.drew ?_) | (with_reducible refine below_drewN ?_ _) | (with_reducible refine Below.setCell ?_ ?_ _) | (with_reducible refine Below.alloc ?_ ?_ _) | go_size | (exact Below.size (by assumption)) | (refine Below.trans ?_ (Below.mono (by assumption) ?_))))⟩

set_option maxRecDepth 100000 in
set_option maxHeartbeats 4000000 in
theorem ends_core (set : Int) (A : Option Addr) (cap : Nat) (fs : List Fr) (n : Int) (w : World) (hA : Arr w w.heap.size A (frosts fs)) (ho : Ck.ok ⟨set, fs⟩ = true) (m : Nat) (HM : Hid (windI n 4319 = (m : Int))) (hm : m < 4319)
    (sl sh nl nh : Int) (HS : Hid (pShowsR ⟨set, fs⟩ m = (⟨sl, sh⟩, 0))) (HN : Hid (pShowsR ⟨set, fs⟩ ((m : Int) + 1) = (⟨nl, nh⟩, 0))) (hb : 0 ≤ sl ∧ sl ≤ 8638 ∧ 0 ≤ sh ∧ sh ≤ 8638)
    (n1 : sl ≤ nl ∧ nl ≤ sl + 1) (n2 : sh ≤ nh ∧ nh ≤ sh + 1) (HLm : Hid (∀ h, (endFaces set fs true)[m]'h = sl)) (HHm : Hid (∀ h, (endFaces set fs false)[m]'h = sh))
    (tl uh : Nat) (th ul : Int) (HT : Hid (pMeansR ⟨set, fs⟩ sh = (⟨tl, th⟩, 0))) (HU : Hid (pMeansR ⟨set, fs⟩ sl = (⟨ul, uh⟩, 0))) (ht : tl ≤ m ∧ (m : Int) ≤ th ∧ th ≤ 4319) (hu : 0 ≤ ul ∧ ul ≤ (m : Int) ∧ m ≤ uh ∧ uh ≤ 4319)
    (HTL : Hid (∀ h, (endFaces set fs false)[tl]'h = sh)) (HUH : Hid (∀ h, (endFaces set fs true)[uh]'h = sl))
    (tp un : Nat) (tv uv : Int) (hT1 : tl = 0 ∨ (tl = tp + 1 ∧ tv < sh)) (hU1 : uh = 4319 ∨ (un = uh + 1 ∧ un ≤ 4319 ∧ sl < uv)) (HTP : Hid (tl = 0 ∨ ∀ h, (endFaces set fs false)[tp]'h = tv)) (HUN : Hid (uh = 4319 ∨ ∀ h, (endFaces set fs true)[un]'h = uv)) :
    Calls Try.prog 7 #[.agg #[.int .i64 set, .slice A fs.length cap], .int .i64 n] w fun e w' => e = .returned (.bool true) ∧ Below w.heap.size w w' := by
  have HO := hid ho
  obtain ⟨hO, hs1, hs2⟩ := okFs_of ho
  have hm0 : (m : Int) < 4319 := by omega
  have hm1 : (0 : Int) ≤ (m : Int) := by omega
  have hm2 : (m : Int) < 4320 := by omega
  have r1 : IntKind.i64.wrap ((m : Int) + 1) = (m : Int) + 1 := IntWalk.i64_in _ (by omega)
  have hT1' := hid hT1
  have hU1' := hid hU1
  have hn1 := hid n1
  have hn2 := hid n2
  have ht' := hid ht
  have hu' := hid hu
  clear ho hT1 hU1 n1 n2 ht hu
  go_enter Try.func7, Try.ntmps7
  go_wp2_with (first
    | (go_at_call 35; refine (sound_any set A cap fs _ ?_).mono ?_; (focus (refine (hA.below ?_).more ?_; (repeat' (first | (with_reducible exact Below.refl _ _) | (with_reducible assumption) | (with_reducible refine Below.drew ?_) | (with_reducible refine below_drewN ?_ _) | (with_reducible refine Below.setCell ?_ ?_ _) | (with_reducible refine Below.alloc ?_ ?_ _) | go_size | (exact Below.size (by assumption)) | (refine Below.trans ?_ (Below.mono (by assumption) ?_)))))); rw [HO.out]; rintro e w1 ⟨rfl, hb1⟩; (first | replace hb1 := Below.un1 hb1 | replace hb1 := Below.un2 hb1 | skip); obtain ⟨hc1, hf1, hl1, hm1, hw1⟩ := bcell hb1; have hz1 := hb1.size; (try simp only [World.size_alloc, World.size_setCell] at hz1); have a1 : w.heap.size < w1.heap.size := (by omega))
    | (go_at_call 42; refine (wind_any n 4319 (by omega) _).mono ?_; rw [HM.out]; rintro e w2 ⟨rfl, rfl⟩)
    | (go_at_call 14; refine (pShows_any set A cap fs _ _ ?_).mono ?_; (focus (refine (hA.below ?_).more ?_; (repeat' (first | (with_reducible exact Below.refl _ _) | (with_reducible assumption) | (with_reducible refine Below.drew ?_) | (with_reducible refine below_drewN ?_ _) | (with_reducible refine Below.setCell ?_ ?_ _) | (with_reducible refine Below.alloc ?_ ?_ _) | go_size | (exact Below.size (by assumption)) | (refine Below.trans ?_ (Below.mono (by assumption) ?_)))))); (first | (rw [HS.out]; rintro e w3 ⟨rfl, hb3⟩; (first | replace hb3 := Below.un1 hb3 | replace hb3 := Below.un2 hb3 | skip); obtain ⟨hc3, hf3, hl3, hm3, hw3⟩ := bcell hb3; have hz3 := hb3.size; (try simp only [World.size_alloc, World.size_setCell] at hz3); have a3 : w.heap.size < w3.heap.size := (by omega)) | (rw [HN.out]; rintro e w4 ⟨rfl, hb4⟩; (first | replace hb4 := Below.un1 hb4 | replace hb4 := Below.un2 hb4 | skip); obtain ⟨hc4, hf4, hl4, hm4, hw4⟩ := bcell hb4; have hz4 := hb4.size; (try simp only [World.size_alloc, World.size_setCell] at hz4); have a4 : w.heap.size < w4.heap.size := (by omega); have b4 : w3.heap.size < w4.heap.size := (by omega)))))
  obtain ⟨X, hX⟩ : ∃ X, X = w4.alloc (.cells #[.int .i64 nl, .int .i64 nh] 27) := ⟨_, rfl⟩
  have c0 : X.cell? ⟨w.heap.size, 0, none⟩ = some (.int .i64 set) := by rw [hX]; (first | (simp [go_sem, wr_set, wr_drew, wr_drewN, wr_alloc, wr_new]; done) | (simp [go_sem, wr_set, wr_drew, wr_drewN, wr_alloc, wr_new, *]; done) | (simp (disch := go_size) [go_sem, wr_set, wr_drew, wr_drewN, wr_alloc, wr_new, *]; done))
  have c1 : X.cell? ⟨w.heap.size, 1, none⟩ = some (.slice A fs.length cap) := by rw [hX]; (first | (simp [go_sem, wr_set, wr_drew, wr_drewN, wr_alloc, wr_new]; done) | (simp [go_sem, wr_set, wr_drew, wr_drewN, wr_alloc, wr_new, *]; done) | (simp (disch := go_size) [go_sem, wr_set, wr_drew, wr_drewN, wr_alloc, wr_new, *]; done))
  have s0 : X.cell? ⟨w3.heap.size, 0, none⟩ = some (.int .i64 sl) := by rw [hX]; (first | (simp [go_sem, wr_set, wr_drew, wr_drewN, wr_alloc, wr_new]; done) | (simp [go_sem, wr_set, wr_drew, wr_drewN, wr_alloc, wr_new, *]; done) | (simp (disch := go_size) [go_sem, wr_set, wr_drew, wr_drewN, wr_alloc, wr_new, *]; done))
  have s1 : X.cell? ⟨w3.heap.size, 1, none⟩ = some (.int .i64 sh) := by rw [hX]; (first | (simp [go_sem, wr_set, wr_drew, wr_drewN, wr_alloc, wr_new]; done) | (simp [go_sem, wr_set, wr_drew, wr_drewN, wr_alloc, wr_new, *]; done) | (simp (disch := go_size) [go_sem, wr_set, wr_drew, wr_drewN, wr_alloc, wr_new, *]; done))
  have e0 : X.cell? ⟨w4.heap.size, 0, none⟩ = some (.int .i64 nl) := by rw [hX]; (first | (simp [go_sem, wr_set, wr_drew, wr_drewN, wr_alloc, wr_new]; done) | (simp [go_sem, wr_set, wr_drew, wr_drewN, wr_alloc, wr_new, *]; done) | (simp (disch := go_size) [go_sem, wr_set, wr_drew, wr_drewN, wr_alloc, wr_new, *]; done))
  have e1 : X.cell? ⟨w4.heap.size, 1, none⟩ = some (.int .i64 nh) := by rw [hX]; (first | (simp [go_sem, wr_set, wr_drew, wr_drewN, wr_alloc, wr_new]; done) | (simp [go_sem, wr_set, wr_drew, wr_drewN, wr_alloc, wr_new, *]; done) | (simp (disch := go_size) [go_sem, wr_set, wr_drew, wr_drewN, wr_alloc, wr_new, *]; done))
  have xB : Below w.heap.size w X := by rw [hX]; (repeat' (first | (with_reducible exact Below.refl _ _) | (with_reducible assumption) | (with_reducible refine Below.drew ?_) | (with_reducible refine below_drewN ?_ _) | (with_reducible refine Below.setCell ?_ ?_ _) | (with_reducible refine Below.alloc ?_ ?_ _) | go_size | (exact Below.size (by assumption)) | (refine Below.trans ?_ (Below.mono (by assumption) ?_))))
  have k0 : w.heap.size < X.heap.size := by rw [hX]; simp; omega
  have k1 : w3.heap.size < X.heap.size := by rw [hX]; simp; omega
  have k2 : w4.heap.size < X.heap.size := by rw [hX]; simp
  have hAX := (hA.below xB).more xB.size
  rw [← hX]
  clear hX hc1 hf1 hl1 hm1 hw1 hb1 hz1 a1 hc3 hf3 hl3 hm3 hw3 hb3 hz3 a3 hc4 hf4 hl4 hm4 hw4 hb4 hz4 a4 b4
  generalize w3.heap.size = sb at *
  generalize w4.heap.size = nb at *
  go_cut [10, 11] (fun p q wx => ∃ (l1 l2 : Addr) (c1 c2 : Nat), p = .slice (some l1) 4320 c1 ∧ q = .slice (some l2) 4320 c2 ∧ Arr wx wx.heap.size (some l1) (ints (endFaces set fs true)) ∧ Arr wx wx.heap.size (some l2) (ints (endFaces set fs false)) ∧ Below X.heap.size X wx)
  case first =>
    refine wp_region_any (by kernel_rfl) ?_
    have T0 : Below X.heap.size X X.drew := (Below.refl _ _).drew
    refine lin_any [6, 7] 177 (endsG set A fs.length cap fs) (fun w' => Below X.heap.size X w') (fun w1 w2 => Below w1.heap.size w1 w2)
      [0, 1, 2, 3, 4, 5, 6, 7, 8, 9, 10, 11, 12, 13, 14, 15, 16, 17, 18, 19, 20, 21, 22, 23, 24, 25, 26, 27, 28, 29, 30, 31, 32, 33, 40, 41, 42, 43, 44, 45, 46, 47, 48, 49, 50, 51, 52, 53, 54, 55, 56, 57, 58, 59, 60, 61, 62, 63, 64, 65, 66, 67, 68, 69, 70, 71, 72, 73, 74, 75, 76, 77, 78, 79, 80, 81, 82, 83, 84, 85, 86, 87, 88, 89, 90, 91, 92, 93, 94, 95, 96, 97, 98, 99, 100, 101, 102, 103, 104, 105, 106, 107, 108, 109, 110, 111, 112, 113, 114, 115, 116, 117, 118, 119, 120, 121, 122, 123, 124, 125, 126, 127, 128, 129, 130, 131, 132, 133, 134, 135, 136, 137, 138, 139, 140, 141, 142, 143, 144, 145, 146, 147, 148, 149, 150, 151, 152, 153, 154, 155, 156, 157, 158, 159, 160, 161, 162, 163, 164, 165, 166, 167, 168, 169, 170, 171, 172, 173, 174, 175, 176] #[true, true, true, true, true, true, false, false] [0, 1, 2, 3, 4, 5] (by kernel_rfl) (by kernel_rfl) (by kernel_rfl) (by kernel_rfl) (by kernel_rfl) (by kernel_rfl) (by kernel_rfl) (by kernel_rfl) (by kernel_rfl) (by kernel_rfl)
      (endsG_stable _ _ _ _ _) (by rfl) T0 ?_ ?_
    · intro a' w' hd hsz hkn hT
      obtain ⟨xs, D⟩ := a'; obtain ⟨l0⟩ := xs; dsimp only at hd hsz hkn; subst hd; have hs0 := hsz; clear hsz; simp only [List.size_toArray] at hs0; obtain ⟨x0, x1, x2, x3, x4, x5, x6, x7, x8, x9, l1, rfl, hs1⟩ := len_ten hs0; clear hs0; obtain ⟨x10, x11, x12, x13, x14, x15, x16, x17, x18, x19, l2, rfl, hs2⟩ := len_ten hs1; clear hs1; obtain ⟨x20, x21, x22, x23, x24, x25, x26, x27, x28, x29, l3, rfl, hs3⟩ := len_ten hs2; clear hs2; obtain ⟨x30, x31, x32, x33, x34, x35, x36, x37, x38, x39, l4, rfl, hs4⟩ := len_ten hs3; clear hs3; obtain ⟨x40, x41, x42, x43, x44, x45, x46, x47, x48, x49, l5, rfl, hs5⟩ := len_ten hs4; clear hs4; obtain ⟨x50, x51, x52, x53, x54, x55, x56, x57, x58, x59, l6, rfl, hs6⟩ := len_ten hs5; clear hs5; obtain ⟨x60, x61, x62, x63, x64, x65, x66, x67, x68, x69, l7, rfl, hs7⟩ := len_ten hs6; clear hs6; obtain ⟨x70, x71, x72, x73, x74, x75, x76, x77, x78, x79, l8, rfl, hs8⟩ := len_ten hs7; clear hs7; obtain ⟨x80, x81, x82, x83, x84, x85, x86, x87, x88, x89, l9, rfl, hs9⟩ := len_ten hs8; clear hs8; obtain ⟨x90, x91, x92, x93, x94, x95, x96, x97, x98, x99, l10, rfl, hs10⟩ := len_ten hs9; clear hs9; obtain ⟨x100, x101, x102, x103, x104, x105, x106, x107, x108, x109, l11, rfl, hs11⟩ := len_ten hs10; clear hs10; obtain ⟨x110, x111, x112, x113, x114, x115, x116, x117, x118, x119, l12, rfl, hs12⟩ := len_ten hs11; clear hs11; obtain ⟨x120, x121, x122, x123, x124, x125, x126, x127, x128, x129, l13, rfl, hs13⟩ := len_ten hs12; clear hs12; obtain ⟨x130, x131, x132, x133, x134, x135, x136, x137, x138, x139, l14, rfl, hs14⟩ := len_ten hs13; clear hs13; obtain ⟨x140, x141, x142, x143, x144, x145, x146, x147, x148, x149, l15, rfl, hs15⟩ := len_ten hs14; clear hs14; obtain ⟨x150, x151, x152, x153, x154, x155, x156, x157, x158, x159, l16, rfl, hs16⟩ := len_ten hs15; clear hs15; obtain ⟨x160, x161, x162, x163, x164, x165, x166, x167, x168, x169, l17, rfl, hs17⟩ := len_ten hs16; clear hs16; obtain ⟨x170, l18, rfl, hs18⟩ := len_succ hs17; clear hs17; obtain ⟨x171, l19, rfl, hs19⟩ := len_succ hs18; clear hs18; obtain ⟨x172, l20, rfl, hs20⟩ := len_succ hs19; clear hs19; obtain ⟨x173, l21, rfl, hs21⟩ := len_succ hs20; clear hs20; obtain ⟨x174, l22, rfl, hs22⟩ := len_succ hs21; clear hs21; obtain ⟨x175, l23, rfl, hs23⟩ := len_succ hs22; clear hs22; obtain ⟨x176, l24, rfl, hs24⟩ := len_succ hs23; clear hs23; obtain rfl := List.length_eq_zero_iff.1 hs24; clear hs24; have kn := known_list hkn; clear hkn; simp only [List.map_cons, List.map_nil, List.getElem?_toArray, List.getElem?_cons_succ, List.getElem?_cons_zero, Array.getD_eq_getD_getElem?, Option.getD_some, List.cons.injEq, Option.some.injEq, and_true] at kn; obtain ⟨rfl, rfl, rfl, rfl, rfl, rfl, rfl, rfl, rfl, rfl, rfl, rfl, rfl, rfl, rfl, rfl, rfl, rfl, rfl, rfl, rfl, rfl, rfl, rfl, rfl, rfl, rfl, rfl, rfl, rfl, rfl, rfl, rfl, rfl, rfl, rfl, rfl, rfl, rfl, rfl, rfl, rfl, rfl, rfl, rfl, rfl, rfl, rfl, rfl, rfl, rfl, rfl, rfl, rfl, rfl, rfl, rfl, rfl, rfl, rfl, rfl, rfl, rfl, rfl, rfl, rfl, rfl, rfl, rfl, rfl, rfl, rfl, rfl, rfl, rfl, rfl, rfl, rfl, rfl, rfl, rfl, rfl, rfl, rfl, rfl, rfl, rfl, rfl, rfl, rfl, rfl, rfl, rfl, rfl, rfl, rfl, rfl, rfl, rfl, rfl, rfl, rfl, rfl, rfl, rfl, rfl, rfl, rfl, rfl, rfl, rfl, rfl, rfl, rfl, rfl, rfl, rfl, rfl, rfl, rfl, rfl, rfl, rfl, rfl, rfl, rfl, rfl, rfl, rfl, rfl, rfl, rfl, rfl, rfl, rfl, rfl, rfl, rfl, rfl, rfl, rfl, rfl, rfl, rfl, rfl, rfl, rfl, rfl, rfl, rfl, rfl, rfl, rfl, rfl, rfl, rfl, rfl, rfl, rfl, rfl, rfl, rfl, rfl, rfl, rfl, rfl, rfl, rfl, rfl, rfl, rfl⟩ := kn
      have d0 : w'.cell? ⟨w.heap.size, 0, none⟩ = some (.int .i64 set) := (hT.cell (by simp only; omega)).trans c0
      have d1 : w'.cell? ⟨w.heap.size, 1, none⟩ = some (.slice A fs.length cap) := (hT.cell (by simp only; omega)).trans c1
      refine LinOps.cons (by simp only [List.getElem?_toArray, List.getElem?_cons_succ, List.getElem?_cons_zero]; rfl) (fun hk K hK => ?_) ?_
      · go_simp
        exact hK.out _ _ _ rfl rfl hT (Below.refl _ _)
      refine LinOps.cons (by simp only [List.getElem?_toArray, List.getElem?_cons_succ, List.getElem?_cons_zero]; rfl) (fun hk K hK => ?_) ?_
      · (obtain ⟨v, hv, hf⟩ := Known.get (hk 0 (by kernel_rfl) (by simp)) (d := 34) (by kernel_rfl); simp only [List.getElem?_toArray, List.getElem?_cons_succ, List.getElem?_cons_zero, Option.some.injEq] at hv; subst hv; simp only [endsG] at hf; (try subst hf))
        go_simp
        go_at_call 43; refine (ends_any set A cap fs true _ ((hAX.below hT).more hT.size) hO.1).mono ?_
        rintro e w3 ⟨⟨O, oc, rfl, hoc, hOA⟩, h3⟩
        exact hK.out _ _ _ rfl ⟨O, oc, rfl, hOA⟩ (hT.trans (h3.mono hT.size)) h3
      refine LinOps.cons (by simp only [List.getElem?_toArray, List.getElem?_cons_succ, List.getElem?_cons_zero]; rfl) (fun hk K hK => ?_) ?_
      · (obtain ⟨v, hv, hf⟩ := Known.get (hk 1 (by kernel_rfl) (by simp)) (d := 35) (by kernel_rfl); simp only [List.getElem?_toArray, List.getElem?_cons_succ, List.getElem?_cons_zero, Option.some.injEq] at hv; subst hv; simp only [endsG] at hf; (try subst hf))
        obtain ⟨O, oc, rfl, hOA⟩ := hf
        go_simp
        go_at_call 36; refine (faces_ends set O oc fs true _ hOA ⟨hs1, hs2⟩ hO.1).mono ?_
        rintro e w3 ⟨⟨L, lc, rfl, hlc, hLA⟩, h3⟩
        exact hK.out _ _ _ rfl (facesG_of hLA) (hT.trans (h3.mono hT.size)) h3
      refine LinOps.cons (by simp only [List.getElem?_toArray, List.getElem?_cons_succ, List.getElem?_cons_zero]; rfl) (fun hk K hK => ?_) ?_
      · go_simp
        exact hK.out _ _ _ rfl rfl hT (Below.refl _ _)
      refine LinOps.cons (by simp only [List.getElem?_toArray, List.getElem?_cons_succ, List.getElem?_cons_zero]; rfl) (fun hk K hK => ?_) ?_
      · (obtain ⟨v, hv, hf⟩ := Known.get (hk 3 (by kernel_rfl) (by simp)) (d := 37) (by kernel_rfl); simp only [List.getElem?_toArray, List.getElem?_cons_succ, List.getElem?_cons_zero, Option.some.injEq] at hv; subst hv; simp only [endsG] at hf; (try subst hf))
        go_simp
        go_at_call 43; refine (ends_any set A cap fs false _ ((hAX.below hT).more hT.size) hO.1).mono ?_
        rintro e w3 ⟨⟨O, oc, rfl, hoc, hOA⟩, h3⟩
        exact hK.out _ _ _ rfl ⟨O, oc, rfl, hOA⟩ (hT.trans (h3.mono hT.size)) h3
      refine LinOps.cons (by simp only [List.getElem?_toArray, List.getElem?_cons_succ, List.getElem?_cons_zero]; rfl) (fun hk K hK => ?_) ?_
      · (obtain ⟨v, hv, hf⟩ := Known.get (hk 4 (by kernel_rfl) (by simp)) (d := 38) (by kernel_rfl); simp only [List.getElem?_toArray, List.getElem?_cons_succ, List.getElem?_cons_zero, Option.some.injEq] at hv; subst hv; simp only [endsG] at hf; (try subst hf))
        obtain ⟨O, oc, rfl, hOA⟩ := hf
        go_simp
        go_at_call 36; refine (faces_ends set O oc fs false _ hOA ⟨hs1, hs2⟩ hO.1).mono ?_
        rintro e w3 ⟨⟨L, lc, rfl, hlc, hLA⟩, h3⟩
        exact hK.out _ _ _ rfl (facesG_of hLA) (hT.trans (h3.mono hT.size)) h3
      exact LinOps.nil
    · intro a' w' hd hsz hkn hT hall
      obtain ⟨xs, D⟩ := a'; obtain ⟨l0⟩ := xs; dsimp only at hd hsz hkn; subst hd; have hs0 := hsz; clear hsz; simp only [List.size_toArray] at hs0; obtain ⟨x0, x1, x2, x3, x4, x5, x6, x7, x8, x9, l1, rfl, hs1⟩ := len_ten hs0; clear hs0; obtain ⟨x10, x11, x12, x13, x14, x15, x16, x17, x18, x19, l2, rfl, hs2⟩ := len_ten hs1; clear hs1; obtain ⟨x20, x21, x22, x23, x24, x25, x26, x27, x28, x29, l3, rfl, hs3⟩ := len_ten hs2; clear hs2; obtain ⟨x30, x31, x32, x33, x34, x35, x36, x37, x38, x39, l4, rfl, hs4⟩ := len_ten hs3; clear hs3; obtain ⟨x40, x41, x42, x43, x44, x45, x46, x47, x48, x49, l5, rfl, hs5⟩ := len_ten hs4; clear hs4; obtain ⟨x50, x51, x52, x53, x54, x55, x56, x57, x58, x59, l6, rfl, hs6⟩ := len_ten hs5; clear hs5; obtain ⟨x60, x61, x62, x63, x64, x65, x66, x67, x68, x69, l7, rfl, hs7⟩ := len_ten hs6; clear hs6; obtain ⟨x70, x71, x72, x73, x74, x75, x76, x77, x78, x79, l8, rfl, hs8⟩ := len_ten hs7; clear hs7; obtain ⟨x80, x81, x82, x83, x84, x85, x86, x87, x88, x89, l9, rfl, hs9⟩ := len_ten hs8; clear hs8; obtain ⟨x90, x91, x92, x93, x94, x95, x96, x97, x98, x99, l10, rfl, hs10⟩ := len_ten hs9; clear hs9; obtain ⟨x100, x101, x102, x103, x104, x105, x106, x107, x108, x109, l11, rfl, hs11⟩ := len_ten hs10; clear hs10; obtain ⟨x110, x111, x112, x113, x114, x115, x116, x117, x118, x119, l12, rfl, hs12⟩ := len_ten hs11; clear hs11; obtain ⟨x120, x121, x122, x123, x124, x125, x126, x127, x128, x129, l13, rfl, hs13⟩ := len_ten hs12; clear hs12; obtain ⟨x130, x131, x132, x133, x134, x135, x136, x137, x138, x139, l14, rfl, hs14⟩ := len_ten hs13; clear hs13; obtain ⟨x140, x141, x142, x143, x144, x145, x146, x147, x148, x149, l15, rfl, hs15⟩ := len_ten hs14; clear hs14; obtain ⟨x150, x151, x152, x153, x154, x155, x156, x157, x158, x159, l16, rfl, hs16⟩ := len_ten hs15; clear hs15; obtain ⟨x160, x161, x162, x163, x164, x165, x166, x167, x168, x169, l17, rfl, hs17⟩ := len_ten hs16; clear hs16; obtain ⟨x170, l18, rfl, hs18⟩ := len_succ hs17; clear hs17; obtain ⟨x171, l19, rfl, hs19⟩ := len_succ hs18; clear hs18; obtain ⟨x172, l20, rfl, hs20⟩ := len_succ hs19; clear hs19; obtain ⟨x173, l21, rfl, hs21⟩ := len_succ hs20; clear hs20; obtain ⟨x174, l22, rfl, hs22⟩ := len_succ hs21; clear hs21; obtain ⟨x175, l23, rfl, hs23⟩ := len_succ hs22; clear hs22; obtain ⟨x176, l24, rfl, hs24⟩ := len_succ hs23; clear hs23; obtain rfl := List.length_eq_zero_iff.1 hs24; clear hs24; have kn := known_list hkn; clear hkn; simp only [List.map_cons, List.map_nil, List.getElem?_toArray, List.getElem?_cons_succ, List.getElem?_cons_zero, Array.getD_eq_getD_getElem?, Option.getD_some, List.cons.injEq, Option.some.injEq, and_true] at kn; obtain ⟨rfl, rfl, rfl, rfl, rfl, rfl, rfl, rfl, rfl, rfl, rfl, rfl, rfl, rfl, rfl, rfl, rfl, rfl, rfl, rfl, rfl, rfl, rfl, rfl, rfl, rfl, rfl, rfl, rfl, rfl, rfl, rfl, rfl, rfl, rfl, rfl, rfl, rfl, rfl, rfl, rfl, rfl, rfl, rfl, rfl, rfl, rfl, rfl, rfl, rfl, rfl, rfl, rfl, rfl, rfl, rfl, rfl, rfl, rfl, rfl, rfl, rfl, rfl, rfl, rfl, rfl, rfl, rfl, rfl, rfl, rfl, rfl, rfl, rfl, rfl, rfl, rfl, rfl, rfl, rfl, rfl, rfl, rfl, rfl, rfl, rfl, rfl, rfl, rfl, rfl, rfl, rfl, rfl, rfl, rfl, rfl, rfl, rfl, rfl, rfl, rfl, rfl, rfl, rfl, rfl, rfl, rfl, rfl, rfl, rfl, rfl, rfl, rfl, rfl, rfl, rfl, rfl, rfl, rfl, rfl, rfl, rfl, rfl, rfl, rfl, rfl, rfl, rfl, rfl, rfl, rfl, rfl, rfl, rfl, rfl, rfl, rfl, rfl, rfl, rfl, rfl, rfl, rfl, rfl, rfl, rfl, rfl, rfl, rfl, rfl, rfl, rfl, rfl, rfl, rfl, rfl, rfl, rfl, rfl, rfl, rfl, rfl, rfl, rfl, rfl, rfl, rfl, rfl, rfl, rfl, rfl⟩ := kn
      (obtain ⟨v, hv, hf⟩ := Known.get (hall 2 (by kernel_rfl) ) (d := 36) (by kernel_rfl); simp only [List.getElem?_toArray, List.getElem?_cons_succ, List.getElem?_cons_zero, Option.some.injEq] at hv; subst hv; simp only [endsG] at hf; (try subst hf))
      obtain ⟨l1, c1, rfl, hL1⟩ := hf
      (obtain ⟨v, hv, hf⟩ := Known.get (hall 5 (by kernel_rfl) ) (d := 39) (by kernel_rfl); simp only [List.getElem?_toArray, List.getElem?_cons_succ, List.getElem?_cons_zero, Option.some.injEq] at hv; subst hv; simp only [endsG] at hf; (try subst hf))
      obtain ⟨l2, c2, rfl, hL2⟩ := hf
      clear hall
      refine wpAny_ready (rs := [6]) (by kernel_rfl) (by simp) ?_; refine AllReady.cons (by simp only [List.getElem?_toArray, List.getElem?_cons_succ, List.getElem?_cons_zero]; rfl) (fun K hK => ?_) AllReady.nil
      go_simp
      refine hK _ _ ?_
      (try simp only [Act.put, List.setIfInBounds_toArray, List.set_cons_zero, List.set_cons_succ])
      clear hK K
      refine wpAny_ready (rs := [7]) (by kernel_rfl) (by simp) ?_; refine AllReady.cons (by simp only [List.getElem?_toArray, List.getElem?_cons_succ, List.getElem?_cons_zero]; rfl) (fun K hK => ?_) AllReady.nil
      go_simp
      refine hK _ _ ?_
      (try simp only [Act.put, List.setIfInBounds_toArray, List.set_cons_zero, List.set_cons_succ])
      clear hK K
      refine wpAny_done (by kernel_rfl) ?_ _
      go_wp2_with fail
      go_meet
      exact ⟨l1, l2, c1, c2, rfl, rfl, hL1, hL2, hT⟩
  case rest =>
    obtain ⟨l1, l2, c1', c2', rfl, rfl, hL1, hL2, hbC⟩ := hcut
    obtain ⟨t1, t2, t3⟩ := ht'.out
    obtain ⟨u1, u2, u3, u4⟩ := hu'.out
    obtain ⟨lb, lo, hlq, hlb, p0⟩ := hL1.int (k := m) (by rw [endFaces_length]; omega)
    obtain ⟨hb', ho', hhq, hhb, p1⟩ := hL2.int (k := m) (by rw [endFaces_length]; omega)
    injection hlq with hlq
    injection hhq with hhq
    subst hlq hhq
    have q0 : wc.cell? ⟨hb', ho' + tl, none⟩ = some (.int .i64 sh) := by
      obtain ⟨b, o, e, _, h⟩ := hL2.int (k := tl) (by rw [endFaces_length]; omega)
      simp only [Option.some.injEq, Addr.mk.injEq, and_true] at e
      obtain ⟨rfl, rfl⟩ := e
      rw [HTL.out] at h; exact h
    have q1 : wc.cell? ⟨lb, lo + uh, none⟩ = some (.int .i64 sl) := by
      obtain ⟨b, o, e, _, h⟩ := hL1.int (k := uh) (by rw [endFaces_length]; omega)
      simp only [Option.some.injEq, Addr.mk.injEq, and_true] at e
      obtain ⟨rfl, rfl⟩ := e
      rw [HUH.out] at h; exact h
    have q2 : tl = 0 ∨ (tl = tp + 1 ∧ tv < sh ∧ wc.cell? ⟨hb', ho' + tp, none⟩ = some (.int .i64 tv)) := by
      rcases hT1'.out with h0 | ⟨h0, h1⟩
      · exact .inl h0
      · refine .inr ⟨h0, h1, ?_⟩
        obtain ⟨b, o, e, _, h⟩ := hL2.int (k := tp) (by rw [endFaces_length]; omega)
        simp only [Option.some.injEq, Addr.mk.injEq, and_true] at e
        obtain ⟨rfl, rfl⟩ := e
        rcases HTP.out with h2 | h2
        · omega
        · rw [h2] at h; exact h
    have q3 : uh = 4319 ∨ (un = uh + 1 ∧ un ≤ 4319 ∧ sl < uv ∧ wc.cell? ⟨lb, lo + un, none⟩ = some (.int .i64 uv)) := by
      rcases hU1'.out with h0 | ⟨h0, h1, h2⟩
      · exact .inl h0
      · refine .inr ⟨h0, h1, h2, ?_⟩
        obtain ⟨b, o, e, _, h⟩ := hL1.int (k := un) (by rw [endFaces_length]; omega)
        simp only [Option.some.injEq, Addr.mk.injEq, and_true] at e
        obtain ⟨rfl, rfl⟩ := e
        rcases HUN.out with h2 | h2
        · omega
        · rw [h2] at h; exact h
    have hq2 := hid q2
    have hq3 := hid q3
    rw [HLm.out] at p0
    rw [HHm.out] at p1
    have y0 : wc.cell? ⟨w.heap.size, 0, none⟩ = some (.int .i64 set) := (hbC.cell (by simp only; omega)).trans c0
    have y1 : wc.cell? ⟨w.heap.size, 1, none⟩ = some (.slice A fs.length cap) := (hbC.cell (by simp only; omega)).trans c1
    have y2 : wc.cell? ⟨sb, 0, none⟩ = some (.int .i64 sl) := (hbC.cell (by simp only; omega)).trans s0
    have y3 : wc.cell? ⟨sb, 1, none⟩ = some (.int .i64 sh) := (hbC.cell (by simp only; omega)).trans s1
    have y4 : wc.cell? ⟨nb, 0, none⟩ = some (.int .i64 nl) := (hbC.cell (by simp only; omega)).trans e0
    have y5 : wc.cell? ⟨nb, 1, none⟩ = some (.int .i64 nh) := (hbC.cell (by simp only; omega)).trans e1
    have hzC := hbC.size
    have yB : Below w.heap.size w wc := xB.trans (hbC.mono (by omega))
    have hAC := (hAX.below hbC).more hbC.size
    have g0 : w.heap.size < wc.heap.size := by omega
    have g1 : sb < wc.heap.size := by omega
    have g2 : nb < wc.heap.size := by omega
    have T1 : (decide (sl ≤ nl) && decide (nl ≤ sl + 1)) = true := by have := hn1.out; simp [this.1, this.2]
    have T2 : (decide (sh ≤ nh) && decide (nh ≤ sh + 1)) = true := by have := hn2.out; simp [this.1, this.2]
    have r2 : IntKind.i64.wrap (sl + 1) = sl + 1 := IntWalk.i64_in _ (by omega)
    have r3 : IntKind.i64.wrap (sh + 1) = sh + 1 := IntWalk.i64_in _ (by omega)
    clear c0 c1 s0 s1 e0 e1 xB k0 k1 k2 hAX hL1 hL2 hbC q2 q3 t1 t2 t3 u1 u2 u3 u4
    go_wp2_with fail
    go_region_held3 (fun w' => (w'.cell? ⟨lb, lo + m, none⟩ = some (.int .i64 sl) ∧ w'.cell? ⟨hb', ho' + m, none⟩ = some (.int .i64 sh) ∧ w'.cell? ⟨sb, 0, none⟩ = some (.int .i64 sl) ∧ w'.cell? ⟨sb, 1, none⟩ = some (.int .i64 sh) ∧ w'.cell? ⟨nb, 0, none⟩ = some (.int .i64 nl) ∧ w'.cell? ⟨nb, 1, none⟩ = some (.int .i64 nh)) ∧ Below wc.heap.size wc w') (((refine ⟨?_, ?_⟩; (focus (first | (simp [go_sem, wr_set, wr_drew, wr_drewN, wr_alloc, wr_new]; done) | (simp [go_sem, wr_set, wr_drew, wr_drewN, wr_alloc, wr_new, *]; done) | (simp (disch := go_size) [go_sem, wr_set, wr_drew, wr_drewN, wr_alloc, wr_new, *]; done))); (repeat' (first | (with_reducible exact Below.refl _ _) | (with_reducible assumption) | (with_reducible refine Below.drew ?_) | (with_reducible refine below_drewN ?_ _) | (with_reducible refine Below.setCell ?_ ?_ _) | (with_reducible refine Below.alloc ?_ ?_ _) | go_size | (exact Below.size (by assumption)) | (refine Below.trans ?_ (Below.mono (by assumption) ?_)))))))
      (first
        | (go_at_call 41; refine (to_any _ _ _).mono ?_; rintro e w5 ⟨rfl, hb5⟩; (first | replace hb5 := Below.un1 hb5 | replace hb5 := Below.un2 hb5 | skip); obtain ⟨hc5, hf5, hl5, hm5, hw5⟩ := bcell hb5; have hz5 := hb5.size; (try simp only [World.size_alloc, World.size_setCell] at hz5); have a5 : lb < w5.heap.size := (by omega); have b5 : hb' < w5.heap.size := (by omega); have d5 : sb < w5.heap.size := (by omega); have e5 : nb < w5.heap.size := (by omega))
        | (go_at_call 44; refine (between_any _ _ _ _).mono ?_; (first | rw [T1] | rw [T2]); rintro e w6 ⟨rfl, rfl⟩))
    rename_i hHeld
    obtain ⟨⟨-, -, z2, z3, -, -⟩, hBh⟩ := hHeld
    have z0 : w5.cell? ⟨w.heap.size, 0, none⟩ = some (.int .i64 set) := (hBh.cell (by simp only; omega)).trans y0
    have z1 : w5.cell? ⟨w.heap.size, 1, none⟩ = some (.slice A fs.length cap) := (hBh.cell (by simp only; omega)).trans y1
    have z4 : w5.cell? ⟨hb', ho' + tl, none⟩ = some (.int .i64 sh) := (hBh.cell (by simp only; omega)).trans q0
    have z5 : w5.cell? ⟨lb, lo + uh, none⟩ = some (.int .i64 sl) := (hBh.cell (by simp only; omega)).trans q1
    have z6 : Hid (tl = 0 ∨ (tl = tp + 1 ∧ tv < sh ∧ w5.cell? ⟨hb', ho' + tp, none⟩ = some (.int .i64 tv))) := hid (hq2.out.imp id fun ⟨h1, h2, h3⟩ => ⟨h1, h2, (hBh.cell (by simp only; omega)).trans h3⟩)
    have z7 : Hid (uh = 4319 ∨ (un = uh + 1 ∧ un ≤ 4319 ∧ sl < uv ∧ w5.cell? ⟨lb, lo + un, none⟩ = some (.int .i64 uv))) := hid (hq3.out.imp id fun ⟨h1, h2, h3, h4⟩ => ⟨h1, h2, h3, (hBh.cell (by simp only; omega)).trans h4⟩)
    have hzh := hBh.size
    have zB : Below w.heap.size w w5 := yB.trans (hBh.mono (by omega))
    have hAZ := (hAC.below hBh).more hBh.size
    have g3 : w.heap.size < w5.heap.size := by omega
    clear hc5 hf5 hl5 hm5 hw5 hb5 hz5 y0 y1 y2 y3 y4 y5 yB hAC g0 g1 g2 T1 T2 r2 r3 hBh q0 q1 hq2 hq3 p0 p1
    go_wp2_with (first
      | (go_at_call 18; refine (pMeans_any set A cap fs _ _ ?_).mono ?_; (focus (refine (hAZ.below ?_).more ?_; (repeat' (first | (with_reducible exact Below.refl _ _) | (with_reducible assumption) | (with_reducible refine Below.drew ?_) | (with_reducible refine below_drewN ?_ _) | (with_reducible refine Below.setCell ?_ ?_ _) | (with_reducible refine Below.alloc ?_ ?_ _) | go_size | (exact Below.size (by assumption)) | (refine Below.trans ?_ (Below.mono (by assumption) ?_)))))); (first | (rw [HT.out]; rintro e w6 ⟨rfl, hb6⟩; (first | replace hb6 := Below.un1 hb6 | replace hb6 := Below.un2 hb6 | skip); obtain ⟨hc6, hf6, hl6, hm6, hw6⟩ := bcell hb6; have hz6 := hb6.size; (try simp only [World.size_alloc, World.size_setCell] at hz6); have a6 : w.heap.size < w6.heap.size := (by omega); have b6 : hb' < w6.heap.size := (by omega); have d6 : lb < w6.heap.size := (by omega); have f6 : sb < w6.heap.size := (by omega)) | (rw [HU.out]; rintro e w7 ⟨rfl, hb7⟩; (first | replace hb7 := Below.un1 hb7 | replace hb7 := Below.un2 hb7 | skip); obtain ⟨hc7, hf7, hl7, hm7, hw7⟩ := bcell hb7; have hz7 := hb7.size; (try simp only [World.size_alloc, World.size_setCell] at hz7); have a7 : w.heap.size < w7.heap.size := (by omega); have b7 : hb' < w7.heap.size := (by omega); have d7 : lb < w7.heap.size := (by omega); have f7 : sb < w7.heap.size := (by omega); have k7 : w6.heap.size < w7.heap.size := (by omega))))
      | (go_at_call 41; refine (to_any _ _ _).mono ?_; rintro e w8 ⟨rfl, hb8⟩; (first | replace hb8 := Below.un1 hb8 | replace hb8 := Below.un2 hb8 | skip); obtain ⟨hc8, hf8, hl8, hm8, hw8⟩ := bcell hb8; have hz8 := hb8.size; (try simp only [World.size_alloc, World.size_setCell] at hz8); have a8 : w.heap.size < w8.heap.size := (by omega); have b8 : hb' < w8.heap.size := (by omega); have d8 : lb < w8.heap.size := (by omega); have f8 : sb < w8.heap.size := (by omega); have k8 : w6.heap.size < w8.heap.size := (by omega); have l8 : w7.heap.size < w8.heap.size := (by omega)))
    obtain ⟨tz, htz⟩ : ∃ tz : Bool, Hid ((tz = true ∧ tl = 0) ∨ (tz = false ∧ tl = tp + 1 ∧ tv < sh ∧ w5.cell? ⟨hb', ho' + tp, none⟩ = some (.int .i64 tv))) := by
      rcases z6.out with h | h
      · exact ⟨true, hid (.inl ⟨rfl, h⟩)⟩
      · exact ⟨false, hid (.inr ⟨rfl, h⟩)⟩
    obtain ⟨uz, huz⟩ : ∃ uz : Bool, Hid ((uz = true ∧ uh = 4319) ∨ (uz = false ∧ un = uh + 1 ∧ un ≤ 4319 ∧ sl < uv ∧ w5.cell? ⟨lb, lo + un, none⟩ = some (.int .i64 uv))) := by
      rcases z7.out with h | h
      · exact ⟨true, hid (.inl ⟨rfl, h⟩)⟩
      · exact ⟨false, hid (.inr ⟨rfl, h⟩)⟩
    obtain ⟨W, hW⟩ : ∃ W, W = w8.alloc (.cells #[.int .i64 0, .int .i64 4319] 27) := ⟨_, rfl⟩
    have hW5 : Below w5.heap.size w5 W := by rw [hW]; (repeat' (first | (with_reducible exact Below.refl _ _) | (with_reducible assumption) | (with_reducible refine Below.drew ?_) | (with_reducible refine below_drewN ?_ _) | (with_reducible refine Below.setCell ?_ ?_ _) | (with_reducible refine Below.alloc ?_ ?_ _) | go_size | (exact Below.size (by assumption)) | (refine Below.trans ?_ (Below.mono (by assumption) ?_))))
    have o0 : W.cell? ⟨w6.heap.size, 0, none⟩ = some (.int .i64 (tl : Int)) := by rw [hW]; (first | (simp [go_sem, wr_set, wr_drew, wr_drewN, wr_alloc, wr_new]; done) | (simp [go_sem, wr_set, wr_drew, wr_drewN, wr_alloc, wr_new, *]; done) | (simp (disch := go_size) [go_sem, wr_set, wr_drew, wr_drewN, wr_alloc, wr_new, *]; done))
    have o1 : W.cell? ⟨w6.heap.size, 1, none⟩ = some (.int .i64 th) := by rw [hW]; (first | (simp [go_sem, wr_set, wr_drew, wr_drewN, wr_alloc, wr_new]; done) | (simp [go_sem, wr_set, wr_drew, wr_drewN, wr_alloc, wr_new, *]; done) | (simp (disch := go_size) [go_sem, wr_set, wr_drew, wr_drewN, wr_alloc, wr_new, *]; done))
    have o2 : W.cell? ⟨w7.heap.size, 0, none⟩ = some (.int .i64 ul) := by rw [hW]; (first | (simp [go_sem, wr_set, wr_drew, wr_drewN, wr_alloc, wr_new]; done) | (simp [go_sem, wr_set, wr_drew, wr_drewN, wr_alloc, wr_new, *]; done) | (simp (disch := go_size) [go_sem, wr_set, wr_drew, wr_drewN, wr_alloc, wr_new, *]; done))
    have o3 : W.cell? ⟨w7.heap.size, 1, none⟩ = some (.int .i64 (uh : Int)) := by rw [hW]; (first | (simp [go_sem, wr_set, wr_drew, wr_drewN, wr_alloc, wr_new]; done) | (simp [go_sem, wr_set, wr_drew, wr_drewN, wr_alloc, wr_new, *]; done) | (simp (disch := go_size) [go_sem, wr_set, wr_drew, wr_drewN, wr_alloc, wr_new, *]; done))
    have o4 : W.cell? ⟨w8.heap.size, 0, none⟩ = some (.int .i64 0) := by rw [hW]; (first | (simp [go_sem, wr_set, wr_drew, wr_drewN, wr_alloc, wr_new]; done) | (simp [go_sem, wr_set, wr_drew, wr_drewN, wr_alloc, wr_new, *]; done) | (simp (disch := go_size) [go_sem, wr_set, wr_drew, wr_drewN, wr_alloc, wr_new, *]; done))
    have o5 : W.cell? ⟨w8.heap.size, 1, none⟩ = some (.int .i64 4319) := by rw [hW]; (first | (simp [go_sem, wr_set, wr_drew, wr_drewN, wr_alloc, wr_new]; done) | (simp [go_sem, wr_set, wr_drew, wr_drewN, wr_alloc, wr_new, *]; done) | (simp (disch := go_size) [go_sem, wr_set, wr_drew, wr_drewN, wr_alloc, wr_new, *]; done))
    have l6 : w6.heap.size < W.heap.size := by rw [hW]; simp; omega
    have l7 : w7.heap.size < W.heap.size := by rw [hW]; simp; omega
    have l9 : w8.heap.size < W.heap.size := by rw [hW]; simp
    rw [← hW]
    have HZF : Hid (tz = false → tl = tp + 1 ∧ tv < sh ∧ W.cell? ⟨hb', ho' + tp, none⟩ = some (.int .i64 tv)) := hid fun hf => by
      rcases htz.out with ⟨h1, _⟩ | ⟨_, h2, h3, h4⟩
      · rw [h1] at hf; cases hf
      · exact ⟨h2, h3, (hW5.cell (by simp only; omega)).trans h4⟩
    have HUF : Hid (uz = false → un = uh + 1 ∧ un ≤ 4319 ∧ sl < uv ∧ W.cell? ⟨lb, lo + un, none⟩ = some (.int .i64 uv)) := hid fun hf => by
      rcases huz.out with ⟨h1, _⟩ | ⟨_, h2, h3, h4, h5⟩
      · rw [h1] at hf; cases hf
      · exact ⟨h2, h3, h4, (hW5.cell (by simp only; omega)).trans h5⟩
    have HZT : Hid (((tl : Int) == 0) = tz) := hid (by rcases htz.out with ⟨h1, h2⟩ | ⟨h1, h2, _⟩ <;> rw [h1, h2] <;> simp <;> omega)
    have HUT : Hid (((uh : Int) == 4319) = uz) := hid (by
      rcases huz.out with ⟨h1, h2⟩ | ⟨h1, h2, h3, _⟩
      · rw [h1, h2]; rfl
      · rw [h1, beq_eq_false_iff_ne]; omega)
    have o6 : W.cell? ⟨sb, 0, none⟩ = some (.int .i64 sl) := (hW5.cell (by simp only; omega)).trans z2
    have o7 : W.cell? ⟨sb, 1, none⟩ = some (.int .i64 sh) := (hW5.cell (by simp only; omega)).trans z3
    have o8 : W.cell? ⟨hb', ho' + tl, none⟩ = some (.int .i64 sh) := (hW5.cell (by simp only; omega)).trans z4
    have o9 : W.cell? ⟨lb, lo + uh, none⟩ = some (.int .i64 sl) := (hW5.cell (by simp only; omega)).trans z5
    have hz9 := hW5.size
    have WB : Below w.heap.size w W := zB.trans (hW5.mono (by omega))
    have m1 : sb < W.heap.size := by omega
    have m2 : hb' < W.heap.size := by omega
    have m3 : lb < W.heap.size := by omega
    obtain ⟨t1, t2, t3⟩ := ht'.out
    obtain ⟨u1, u2, u3, u4⟩ := hu'.out
    have T5 : (decide (0 ≤ (tl : Int)) && decide (th ≤ 4319)) = true := by simp; omega
    have T6 : (decide (0 ≤ ul) && decide ((uh : Int) ≤ 4319)) = true := by simp; omega
    have T7 : (decide ((tl : Int) ≤ (m : Int)) && decide ((m : Int) ≤ th)) = true := by simp; omega
    have T8 : (decide (ul ≤ (m : Int)) && decide ((m : Int) ≤ (uh : Int))) = true := by simp; omega
    have HT5 := hid T5
    have HT6 := hid T6
    have HT7 := hid T7
    have HT8 := hid T8
    have v1 : (tl : Int) < 4320 := by omega
    have v2 : (0 : Int) ≤ (tl : Int) := by omega
    have v3 : (uh : Int) < 4320 := by omega
    have v4 : (0 : Int) ≤ (uh : Int) := by omega
    clear hW hW5 hc6 hf6 hl6 hm6 hw6 hb6 hz6 a6 b6 d6 f6 hc7 hf7 hl7 hm7 hw7 hb7 hz7 a7 b7 d7 f7 k7 hc8 hf8 hl8 hm8 hw8 hb8 hz8 a8 b8 d8 f8 k8 l8 z0 z1 z2 z3 z4 z5 z6 z7 zB hAZ g3 T5 T6 T7 T8 htz huz
    generalize w6.heap.size = tb at *
    generalize w7.heap.size = ub at *
    generalize w8.heap.size = db at *
    simp only [List.append_eq, List.cons_append, List.nil_append]
    refine wp_region_any (by kernel_rfl) ?_
    have T0 : Below W.heap.size W W.drew := (Below.refl _ _).drew
    refine lin_any [81] 177 (endsH tb ub sb lb lo hb' ho' c1' c2' m tl uh tp un th ul sl sh tv uv tz uz) (fun w' => Below W.heap.size W w') (fun w1 w2 => Below w1.heap.size w1 w2)
      [0, 1, 2, 3, 4, 5, 6, 7, 8, 9, 10, 11, 12, 13, 14, 15, 16, 17, 18, 19, 20, 21, 22, 23, 24, 25, 26, 27, 28, 29, 30, 31, 32, 33, 34, 35, 36, 37, 38, 39, 40, 41, 42, 43, 44, 45, 46, 47, 48, 49, 50, 51, 52, 53, 54, 55, 56, 57, 58, 59, 60, 61, 62, 63, 64, 65, 66, 67, 68, 69, 70, 71, 72, 73, 74, 75, 76, 77, 78, 79, 80, 81, 82, 83, 84, 85, 86, 87, 88, 89, 90, 91, 92, 93, 94, 95] #[true, true, true, true, true, true, true, true, true, true, true, true, true, true, true, true, true, true, true, true, true, true, true, true, true, true, true, true, true, true, true, true, true, true, true, true, true, true, true, true, true, true, true, true, true, true, true, true, true, true, true, true, true, true, true, true, true, true, true, true, true, true, true, true, true, true, true, true, true, true, true, true, true, true, true, true, true, true, true, true, true, false] [0, 1, 2, 3, 4, 5, 6, 7, 8, 9, 10, 11, 12, 13, 14, 15, 16, 17, 18, 19, 20, 21, 22, 23, 24, 25, 26, 27, 28, 29, 30, 31, 32, 33, 34, 35, 36, 37, 38, 39, 40, 41, 42, 43, 44, 45, 46, 47, 48, 49, 50, 51, 52, 53, 54, 55, 56, 57, 58, 59, 60, 61, 62, 63, 64, 65, 66, 67, 68, 69, 70, 71, 72, 73, 74, 75, 76, 77, 78, 79, 80] (by kernel_rfl) (by kernel_rfl) (by kernel_rfl) (by kernel_rfl) (by kernel_rfl) (by kernel_rfl) (by kernel_rfl) (by kernel_rfl) (by kernel_rfl) (by kernel_rfl)
      (endsH_stable _ _ _ _ _ _ _ _ _ _ _ _ _ _ _ _ _ _ _ _ _ _) (by rfl) T0 ?_ ?_
    · intro a' w' hd hsz hkn hT
      obtain ⟨xs, D⟩ := a'; obtain ⟨l0⟩ := xs; dsimp only at hd hsz hkn; subst hd; have hs0 := hsz; clear hsz; simp only [List.size_toArray] at hs0; obtain ⟨x0, x1, x2, x3, x4, x5, x6, x7, x8, x9, l1, rfl, hs1⟩ := len_ten hs0; clear hs0; obtain ⟨x10, x11, x12, x13, x14, x15, x16, x17, x18, x19, l2, rfl, hs2⟩ := len_ten hs1; clear hs1; obtain ⟨x20, x21, x22, x23, x24, x25, x26, x27, x28, x29, l3, rfl, hs3⟩ := len_ten hs2; clear hs2; obtain ⟨x30, x31, x32, x33, x34, x35, x36, x37, x38, x39, l4, rfl, hs4⟩ := len_ten hs3; clear hs3; obtain ⟨x40, x41, x42, x43, x44, x45, x46, x47, x48, x49, l5, rfl, hs5⟩ := len_ten hs4; clear hs4; obtain ⟨x50, x51, x52, x53, x54, x55, x56, x57, x58, x59, l6, rfl, hs6⟩ := len_ten hs5; clear hs5; obtain ⟨x60, x61, x62, x63, x64, x65, x66, x67, x68, x69, l7, rfl, hs7⟩ := len_ten hs6; clear hs6; obtain ⟨x70, x71, x72, x73, x74, x75, x76, x77, x78, x79, l8, rfl, hs8⟩ := len_ten hs7; clear hs7; obtain ⟨x80, x81, x82, x83, x84, x85, x86, x87, x88, x89, l9, rfl, hs9⟩ := len_ten hs8; clear hs8; obtain ⟨x90, x91, x92, x93, x94, x95, x96, x97, x98, x99, l10, rfl, hs10⟩ := len_ten hs9; clear hs9; obtain ⟨x100, x101, x102, x103, x104, x105, x106, x107, x108, x109, l11, rfl, hs11⟩ := len_ten hs10; clear hs10; obtain ⟨x110, x111, x112, x113, x114, x115, x116, x117, x118, x119, l12, rfl, hs12⟩ := len_ten hs11; clear hs11; obtain ⟨x120, x121, x122, x123, x124, x125, x126, x127, x128, x129, l13, rfl, hs13⟩ := len_ten hs12; clear hs12; obtain ⟨x130, x131, x132, x133, x134, x135, x136, x137, x138, x139, l14, rfl, hs14⟩ := len_ten hs13; clear hs13; obtain ⟨x140, x141, x142, x143, x144, x145, x146, x147, x148, x149, l15, rfl, hs15⟩ := len_ten hs14; clear hs14; obtain ⟨x150, x151, x152, x153, x154, x155, x156, x157, x158, x159, l16, rfl, hs16⟩ := len_ten hs15; clear hs15; obtain ⟨x160, x161, x162, x163, x164, x165, x166, x167, x168, x169, l17, rfl, hs17⟩ := len_ten hs16; clear hs16; obtain ⟨x170, l18, rfl, hs18⟩ := len_succ hs17; clear hs17; obtain ⟨x171, l19, rfl, hs19⟩ := len_succ hs18; clear hs18; obtain ⟨x172, l20, rfl, hs20⟩ := len_succ hs19; clear hs19; obtain ⟨x173, l21, rfl, hs21⟩ := len_succ hs20; clear hs20; obtain ⟨x174, l22, rfl, hs22⟩ := len_succ hs21; clear hs21; obtain ⟨x175, l23, rfl, hs23⟩ := len_succ hs22; clear hs22; obtain ⟨x176, l24, rfl, hs24⟩ := len_succ hs23; clear hs23; obtain rfl := List.length_eq_zero_iff.1 hs24; clear hs24; have kn := known_list hkn; clear hkn; simp only [List.map_cons, List.map_nil, List.getElem?_toArray, List.getElem?_cons_succ, List.getElem?_cons_zero, Array.getD_eq_getD_getElem?, Option.getD_some, List.cons.injEq, Option.some.injEq, and_true] at kn; obtain ⟨rfl, rfl, rfl, rfl, rfl, rfl, rfl, rfl, rfl, rfl, rfl, rfl, rfl, rfl, rfl, rfl, rfl, rfl, rfl, rfl, rfl, rfl, rfl, rfl, rfl, rfl, rfl, rfl, rfl, rfl, rfl, rfl, rfl, rfl, rfl, rfl, rfl, rfl, rfl, rfl, rfl, rfl, rfl, rfl, rfl, rfl, rfl, rfl, rfl, rfl, rfl, rfl, rfl, rfl, rfl, rfl, rfl, rfl, rfl, rfl, rfl, rfl, rfl, rfl, rfl, rfl, rfl, rfl, rfl, rfl, rfl, rfl, rfl, rfl, rfl, rfl, rfl, rfl, rfl, rfl, rfl, rfl, rfl, rfl, rfl, rfl, rfl, rfl, rfl, rfl, rfl, rfl, rfl, rfl, rfl, rfl⟩ := kn
      have hz := hT.size
      have x0' : w'.cell? ⟨tb, 0, none⟩ = some (.int .i64 (tl : Int)) := (hT.cell (by simp only; omega)).trans o0
      have x1' : w'.cell? ⟨tb, 1, none⟩ = some (.int .i64 th) := (hT.cell (by simp only; omega)).trans o1
      have x2' : w'.cell? ⟨ub, 0, none⟩ = some (.int .i64 ul) := (hT.cell (by simp only; omega)).trans o2
      have x3' : w'.cell? ⟨ub, 1, none⟩ = some (.int .i64 (uh : Int)) := (hT.cell (by simp only; omega)).trans o3
      have x4' : w'.cell? ⟨db, 0, none⟩ = some (.int .i64 0) := (hT.cell (by simp only; omega)).trans o4
      have x5' : w'.cell? ⟨db, 1, none⟩ = some (.int .i64 4319) := (hT.cell (by simp only; omega)).trans o5
      have x6' : w'.cell? ⟨sb, 0, none⟩ = some (.int .i64 sl) := (hT.cell (by simp only; omega)).trans o6
      have x7' : w'.cell? ⟨sb, 1, none⟩ = some (.int .i64 sh) := (hT.cell (by simp only; omega)).trans o7
      have x8' : w'.cell? ⟨hb', ho' + tl, none⟩ = some (.int .i64 sh) := (hT.cell (by simp only; omega)).trans o8
      have x9' : w'.cell? ⟨lb, lo + uh, none⟩ = some (.int .i64 sl) := (hT.cell (by simp only; omega)).trans o9
      clear o0 o1 o2 o3 o4 o5 o6 o7 o8 o9
      refine LinOps.cons (by simp only [List.getElem?_toArray, List.getElem?_cons_succ, List.getElem?_cons_zero]; rfl) (fun hk K hK => ?_) ?_
      · go_simp
        exact hK.out _ _ _ rfl rfl hT (Below.refl _ _)
      refine LinOps.cons (by simp only [List.getElem?_toArray, List.getElem?_cons_succ, List.getElem?_cons_zero]; rfl) (fun hk K hK => ?_) ?_
      · (obtain ⟨v, hv, hf⟩ := Known.get (hk 0 (by kernel_rfl) (by simp)) (d := 96) (by kernel_rfl); simp only [List.getElem?_toArray, List.getElem?_cons_succ, List.getElem?_cons_zero, Option.some.injEq] at hv; subst hv; simp only [endsH] at hf; (try subst hf))
        go_simp
        exact hK.out _ _ _ rfl rfl hT (Below.refl _ _)
      refine LinOps.cons (by simp only [List.getElem?_toArray, List.getElem?_cons_succ, List.getElem?_cons_zero]; rfl) (fun hk K hK => ?_) ?_
      · (obtain ⟨v, hv, hf⟩ := Known.get (hk 1 (by kernel_rfl) (by simp)) (d := 97) (by kernel_rfl); simp only [List.getElem?_toArray, List.getElem?_cons_succ, List.getElem?_cons_zero, Option.some.injEq] at hv; subst hv; simp only [endsH] at hf; (try subst hf))
        go_simp
        exact hK.out _ _ _ rfl rfl hT (Below.refl _ _)
      refine LinOps.cons (by simp only [List.getElem?_toArray, List.getElem?_cons_succ, List.getElem?_cons_zero]; rfl) (fun hk K hK => ?_) ?_
      · (obtain ⟨v, hv, hf⟩ := Known.get (hk 2 (by kernel_rfl) (by simp)) (d := 98) (by kernel_rfl); simp only [List.getElem?_toArray, List.getElem?_cons_succ, List.getElem?_cons_zero, Option.some.injEq] at hv; subst hv; simp only [endsH] at hf; (try subst hf))
        go_simp
        exact hK.out _ _ _ rfl rfl hT (Below.refl _ _)
      refine LinOps.cons (by simp only [List.getElem?_toArray, List.getElem?_cons_succ, List.getElem?_cons_zero]; rfl) (fun hk K hK => ?_) ?_
      · (obtain ⟨v, hv, hf⟩ := Known.get (hk 2 (by kernel_rfl) (by simp)) (d := 98) (by kernel_rfl); simp only [List.getElem?_toArray, List.getElem?_cons_succ, List.getElem?_cons_zero, Option.some.injEq] at hv; subst hv; simp only [endsH] at hf; (try subst hf)); (obtain ⟨v, hv, hf⟩ := Known.get (hk 3 (by kernel_rfl) (by simp)) (d := 99) (by kernel_rfl); simp only [List.getElem?_toArray, List.getElem?_cons_succ, List.getElem?_cons_zero, Option.some.injEq] at hv; subst hv; simp only [endsH] at hf; (try subst hf))
        go_simp
        exact hK.out _ _ _ rfl rfl hT (Below.refl _ _)
      refine LinOps.cons (by simp only [List.getElem?_toArray, List.getElem?_cons_succ, List.getElem?_cons_zero]; rfl) (fun hk K hK => ?_) ?_
      · (obtain ⟨v, hv, hf⟩ := Known.get (hk 2 (by kernel_rfl) (by simp)) (d := 98) (by kernel_rfl); simp only [List.getElem?_toArray, List.getElem?_cons_succ, List.getElem?_cons_zero, Option.some.injEq] at hv; subst hv; simp only [endsH] at hf; (try subst hf)); (obtain ⟨v, hv, hf⟩ := Known.get (hk 4 (by kernel_rfl) (by simp)) (d := 100) (by kernel_rfl); simp only [List.getElem?_toArray, List.getElem?_cons_succ, List.getElem?_cons_zero, Option.some.injEq] at hv; subst hv; simp only [endsH] at hf; (try subst hf))
        go_simp
        exact hK.out _ _ _ rfl rfl hT (Below.refl _ _)
      refine LinOps.cons (by simp only [List.getElem?_toArray, List.getElem?_cons_succ, List.getElem?_cons_zero]; rfl) (fun hk K hK => ?_) ?_
      · (obtain ⟨v, hv, hf⟩ := Known.get (hk 5 (by kernel_rfl) (by simp)) (d := 101) (by kernel_rfl); simp only [List.getElem?_toArray, List.getElem?_cons_succ, List.getElem?_cons_zero, Option.some.injEq] at hv; subst hv; simp only [endsH] at hf; (try subst hf))
        go_simp
        exact hK.out _ _ _ rfl rfl hT (Below.refl _ _)
      refine LinOps.cons (by simp only [List.getElem?_toArray, List.getElem?_cons_succ, List.getElem?_cons_zero]; rfl) (fun hk K hK => ?_) ?_
      · (obtain ⟨v, hv, hf⟩ := Known.get (hk 6 (by kernel_rfl) (by simp)) (d := 102) (by kernel_rfl); simp only [List.getElem?_toArray, List.getElem?_cons_succ, List.getElem?_cons_zero, Option.some.injEq] at hv; subst hv; simp only [endsH] at hf; (try subst hf))
        go_simp
        exact hK.out _ _ _ rfl rfl hT (Below.refl _ _)
      refine LinOps.cons (by simp only [List.getElem?_toArray, List.getElem?_cons_succ, List.getElem?_cons_zero]; rfl) (fun hk K hK => ?_) ?_
      · (obtain ⟨v, hv, hf⟩ := Known.get (hk 6 (by kernel_rfl) (by simp)) (d := 102) (by kernel_rfl); simp only [List.getElem?_toArray, List.getElem?_cons_succ, List.getElem?_cons_zero, Option.some.injEq] at hv; subst hv; simp only [endsH] at hf; (try subst hf))
        go_simp
        exact hK.out _ _ _ rfl rfl hT (Below.refl _ _)
      refine LinOps.cons (by simp only [List.getElem?_toArray, List.getElem?_cons_succ, List.getElem?_cons_zero]; rfl) (fun hk K hK => ?_) ?_
      · (obtain ⟨v, hv, hf⟩ := Known.get (hk 6 (by kernel_rfl) (by simp)) (d := 102) (by kernel_rfl); simp only [List.getElem?_toArray, List.getElem?_cons_succ, List.getElem?_cons_zero, Option.some.injEq] at hv; subst hv; simp only [endsH] at hf; (try subst hf)); (obtain ⟨v, hv, hf⟩ := Known.get (hk 7 (by kernel_rfl) (by simp)) (d := 103) (by kernel_rfl); simp only [List.getElem?_toArray, List.getElem?_cons_succ, List.getElem?_cons_zero, Option.some.injEq] at hv; subst hv; simp only [endsH] at hf; (try subst hf)); (obtain ⟨v, hv, hf⟩ := Known.get (hk 8 (by kernel_rfl) (by simp)) (d := 104) (by kernel_rfl); simp only [List.getElem?_toArray, List.getElem?_cons_succ, List.getElem?_cons_zero, Option.some.injEq] at hv; subst hv; simp only [endsH] at hf; (try subst hf))
        go_simp
        go_at_call 40; refine (inside_any _ _ _ _ _).mono ?_; (first | rw [HT5.out] | rw [HT6.out] | rw [HT7.out] | rw [HT8.out])
        rintro e w2 ⟨rfl, h2⟩
        exact hK.out _ _ _ rfl rfl (hT.trans (h2.mono hT.size)) h2
      refine LinOps.cons (by simp only [List.getElem?_toArray, List.getElem?_cons_succ, List.getElem?_cons_zero]; rfl) (fun hk K hK => ?_) ?_
      · (obtain ⟨v, hv, hf⟩ := Known.get (hk 6 (by kernel_rfl) (by simp)) (d := 102) (by kernel_rfl); simp only [List.getElem?_toArray, List.getElem?_cons_succ, List.getElem?_cons_zero, Option.some.injEq] at hv; subst hv; simp only [endsH] at hf; (try subst hf)); (obtain ⟨v, hv, hf⟩ := Known.get (hk 9 (by kernel_rfl) (by simp)) (d := 105) (by kernel_rfl); simp only [List.getElem?_toArray, List.getElem?_cons_succ, List.getElem?_cons_zero, Option.some.injEq] at hv; subst hv; simp only [endsH] at hf; (try subst hf))
        go_simp
        exact hK.out _ _ _ rfl rfl hT (Below.refl _ _)
      refine LinOps.cons (by simp only [List.getElem?_toArray, List.getElem?_cons_succ, List.getElem?_cons_zero]; rfl) (fun hk K hK => ?_) ?_
      · (obtain ⟨v, hv, hf⟩ := Known.get (hk 10 (by kernel_rfl) (by simp)) (d := 106) (by kernel_rfl); simp only [List.getElem?_toArray, List.getElem?_cons_succ, List.getElem?_cons_zero, Option.some.injEq] at hv; subst hv; simp only [endsH] at hf; (try subst hf))
        go_simp
        exact hK.out _ _ _ rfl rfl hT (Below.refl _ _)
      refine LinOps.cons (by simp only [List.getElem?_toArray, List.getElem?_cons_succ, List.getElem?_cons_zero]; rfl) (fun hk K hK => ?_) ?_
      · (obtain ⟨v, hv, hf⟩ := Known.get (hk 11 (by kernel_rfl) (by simp)) (d := 107) (by kernel_rfl); simp only [List.getElem?_toArray, List.getElem?_cons_succ, List.getElem?_cons_zero, Option.some.injEq] at hv; subst hv; simp only [endsH] at hf; (try subst hf))
        go_simp
        exact hK.out _ _ _ rfl rfl hT (Below.refl _ _)
      refine LinOps.cons (by simp only [List.getElem?_toArray, List.getElem?_cons_succ, List.getElem?_cons_zero]; rfl) (fun hk K hK => ?_) ?_
      · (obtain ⟨v, hv, hf⟩ := Known.get (hk 11 (by kernel_rfl) (by simp)) (d := 107) (by kernel_rfl); simp only [List.getElem?_toArray, List.getElem?_cons_succ, List.getElem?_cons_zero, Option.some.injEq] at hv; subst hv; simp only [endsH] at hf; (try subst hf))
        go_simp
        exact hK.out _ _ _ rfl rfl hT (Below.refl _ _)
      refine LinOps.cons (by simp only [List.getElem?_toArray, List.getElem?_cons_succ, List.getElem?_cons_zero]; rfl) (fun hk K hK => ?_) ?_
      · (obtain ⟨v, hv, hf⟩ := Known.get (hk 11 (by kernel_rfl) (by simp)) (d := 107) (by kernel_rfl); simp only [List.getElem?_toArray, List.getElem?_cons_succ, List.getElem?_cons_zero, Option.some.injEq] at hv; subst hv; simp only [endsH] at hf; (try subst hf)); (obtain ⟨v, hv, hf⟩ := Known.get (hk 12 (by kernel_rfl) (by simp)) (d := 108) (by kernel_rfl); simp only [List.getElem?_toArray, List.getElem?_cons_succ, List.getElem?_cons_zero, Option.some.injEq] at hv; subst hv; simp only [endsH] at hf; (try subst hf)); (obtain ⟨v, hv, hf⟩ := Known.get (hk 13 (by kernel_rfl) (by simp)) (d := 109) (by kernel_rfl); simp only [List.getElem?_toArray, List.getElem?_cons_succ, List.getElem?_cons_zero, Option.some.injEq] at hv; subst hv; simp only [endsH] at hf; (try subst hf))
        go_simp
        go_at_call 40; refine (inside_any _ _ _ _ _).mono ?_; (first | rw [HT5.out] | rw [HT6.out] | rw [HT7.out] | rw [HT8.out])
        rintro e w2 ⟨rfl, h2⟩
        exact hK.out _ _ _ rfl rfl (hT.trans (h2.mono hT.size)) h2
      refine LinOps.cons (by simp only [List.getElem?_toArray, List.getElem?_cons_succ, List.getElem?_cons_zero]; rfl) (fun hk K hK => ?_) ?_
      · (obtain ⟨v, hv, hf⟩ := Known.get (hk 11 (by kernel_rfl) (by simp)) (d := 107) (by kernel_rfl); simp only [List.getElem?_toArray, List.getElem?_cons_succ, List.getElem?_cons_zero, Option.some.injEq] at hv; subst hv; simp only [endsH] at hf; (try subst hf)); (obtain ⟨v, hv, hf⟩ := Known.get (hk 14 (by kernel_rfl) (by simp)) (d := 110) (by kernel_rfl); simp only [List.getElem?_toArray, List.getElem?_cons_succ, List.getElem?_cons_zero, Option.some.injEq] at hv; subst hv; simp only [endsH] at hf; (try subst hf))
        go_simp
        exact hK.out _ _ _ rfl rfl hT (Below.refl _ _)
      refine LinOps.cons (by simp only [List.getElem?_toArray, List.getElem?_cons_succ, List.getElem?_cons_zero]; rfl) (fun hk K hK => ?_) ?_
      · (obtain ⟨v, hv, hf⟩ := Known.get (hk 15 (by kernel_rfl) (by simp)) (d := 111) (by kernel_rfl); simp only [List.getElem?_toArray, List.getElem?_cons_succ, List.getElem?_cons_zero, Option.some.injEq] at hv; subst hv; simp only [endsH] at hf; (try subst hf))
        go_simp
        exact hK.out _ _ _ rfl rfl hT (Below.refl _ _)
      refine LinOps.cons (by simp only [List.getElem?_toArray, List.getElem?_cons_succ, List.getElem?_cons_zero]; rfl) (fun hk K hK => ?_) ?_
      · (obtain ⟨v, hv, hf⟩ := Known.get (hk 16 (by kernel_rfl) (by simp)) (d := 112) (by kernel_rfl); simp only [List.getElem?_toArray, List.getElem?_cons_succ, List.getElem?_cons_zero, Option.some.injEq] at hv; subst hv; simp only [endsH] at hf; (try subst hf))
        go_simp
        exact hK.out _ _ _ rfl rfl hT (Below.refl _ _)
      refine LinOps.cons (by simp only [List.getElem?_toArray, List.getElem?_cons_succ, List.getElem?_cons_zero]; rfl) (fun hk K hK => ?_) ?_
      · (obtain ⟨v, hv, hf⟩ := Known.get (hk 16 (by kernel_rfl) (by simp)) (d := 112) (by kernel_rfl); simp only [List.getElem?_toArray, List.getElem?_cons_succ, List.getElem?_cons_zero, Option.some.injEq] at hv; subst hv; simp only [endsH] at hf; (try subst hf))
        go_simp
        exact hK.out _ _ _ rfl rfl hT (Below.refl _ _)
      refine LinOps.cons (by simp only [List.getElem?_toArray, List.getElem?_cons_succ, List.getElem?_cons_zero]; rfl) (fun hk K hK => ?_) ?_
      · (obtain ⟨v, hv, hf⟩ := Known.get (hk 16 (by kernel_rfl) (by simp)) (d := 112) (by kernel_rfl); simp only [List.getElem?_toArray, List.getElem?_cons_succ, List.getElem?_cons_zero, Option.some.injEq] at hv; subst hv; simp only [endsH] at hf; (try subst hf)); (obtain ⟨v, hv, hf⟩ := Known.get (hk 17 (by kernel_rfl) (by simp)) (d := 113) (by kernel_rfl); simp only [List.getElem?_toArray, List.getElem?_cons_succ, List.getElem?_cons_zero, Option.some.injEq] at hv; subst hv; simp only [endsH] at hf; (try subst hf)); (obtain ⟨v, hv, hf⟩ := Known.get (hk 18 (by kernel_rfl) (by simp)) (d := 114) (by kernel_rfl); simp only [List.getElem?_toArray, List.getElem?_cons_succ, List.getElem?_cons_zero, Option.some.injEq] at hv; subst hv; simp only [endsH] at hf; (try subst hf))
        go_simp
        go_at_call 39; refine (in_any _ _ _ _).mono ?_; (first | rw [HT5.out] | rw [HT6.out] | rw [HT7.out] | rw [HT8.out])
        rintro e w2 ⟨rfl, h2⟩
        exact hK.out _ _ _ rfl rfl (hT.trans (h2.mono hT.size)) h2
      refine LinOps.cons (by simp only [List.getElem?_toArray, List.getElem?_cons_succ, List.getElem?_cons_zero]; rfl) (fun hk K hK => ?_) ?_
      · (obtain ⟨v, hv, hf⟩ := Known.get (hk 16 (by kernel_rfl) (by simp)) (d := 112) (by kernel_rfl); simp only [List.getElem?_toArray, List.getElem?_cons_succ, List.getElem?_cons_zero, Option.some.injEq] at hv; subst hv; simp only [endsH] at hf; (try subst hf)); (obtain ⟨v, hv, hf⟩ := Known.get (hk 19 (by kernel_rfl) (by simp)) (d := 115) (by kernel_rfl); simp only [List.getElem?_toArray, List.getElem?_cons_succ, List.getElem?_cons_zero, Option.some.injEq] at hv; subst hv; simp only [endsH] at hf; (try subst hf))
        go_simp
        exact hK.out _ _ _ rfl rfl hT (Below.refl _ _)
      refine LinOps.cons (by simp only [List.getElem?_toArray, List.getElem?_cons_succ, List.getElem?_cons_zero]; rfl) (fun hk K hK => ?_) ?_
      · (obtain ⟨v, hv, hf⟩ := Known.get (hk 20 (by kernel_rfl) (by simp)) (d := 116) (by kernel_rfl); simp only [List.getElem?_toArray, List.getElem?_cons_succ, List.getElem?_cons_zero, Option.some.injEq] at hv; subst hv; simp only [endsH] at hf; (try subst hf))
        go_simp
        exact hK.out _ _ _ rfl rfl hT (Below.refl _ _)
      refine LinOps.cons (by simp only [List.getElem?_toArray, List.getElem?_cons_succ, List.getElem?_cons_zero]; rfl) (fun hk K hK => ?_) ?_
      · (obtain ⟨v, hv, hf⟩ := Known.get (hk 21 (by kernel_rfl) (by simp)) (d := 117) (by kernel_rfl); simp only [List.getElem?_toArray, List.getElem?_cons_succ, List.getElem?_cons_zero, Option.some.injEq] at hv; subst hv; simp only [endsH] at hf; (try subst hf))
        go_simp
        exact hK.out _ _ _ rfl rfl hT (Below.refl _ _)
      refine LinOps.cons (by simp only [List.getElem?_toArray, List.getElem?_cons_succ, List.getElem?_cons_zero]; rfl) (fun hk K hK => ?_) ?_
      · (obtain ⟨v, hv, hf⟩ := Known.get (hk 21 (by kernel_rfl) (by simp)) (d := 117) (by kernel_rfl); simp only [List.getElem?_toArray, List.getElem?_cons_succ, List.getElem?_cons_zero, Option.some.injEq] at hv; subst hv; simp only [endsH] at hf; (try subst hf))
        go_simp
        exact hK.out _ _ _ rfl rfl hT (Below.refl _ _)
      refine LinOps.cons (by simp only [List.getElem?_toArray, List.getElem?_cons_succ, List.getElem?_cons_zero]; rfl) (fun hk K hK => ?_) ?_
      · (obtain ⟨v, hv, hf⟩ := Known.get (hk 21 (by kernel_rfl) (by simp)) (d := 117) (by kernel_rfl); simp only [List.getElem?_toArray, List.getElem?_cons_succ, List.getElem?_cons_zero, Option.some.injEq] at hv; subst hv; simp only [endsH] at hf; (try subst hf)); (obtain ⟨v, hv, hf⟩ := Known.get (hk 22 (by kernel_rfl) (by simp)) (d := 118) (by kernel_rfl); simp only [List.getElem?_toArray, List.getElem?_cons_succ, List.getElem?_cons_zero, Option.some.injEq] at hv; subst hv; simp only [endsH] at hf; (try subst hf)); (obtain ⟨v, hv, hf⟩ := Known.get (hk 23 (by kernel_rfl) (by simp)) (d := 119) (by kernel_rfl); simp only [List.getElem?_toArray, List.getElem?_cons_succ, List.getElem?_cons_zero, Option.some.injEq] at hv; subst hv; simp only [endsH] at hf; (try subst hf))
        go_simp
        go_at_call 39; refine (in_any _ _ _ _).mono ?_; (first | rw [HT5.out] | rw [HT6.out] | rw [HT7.out] | rw [HT8.out])
        rintro e w2 ⟨rfl, h2⟩
        exact hK.out _ _ _ rfl rfl (hT.trans (h2.mono hT.size)) h2
      refine LinOps.cons (by simp only [List.getElem?_toArray, List.getElem?_cons_succ, List.getElem?_cons_zero]; rfl) (fun hk K hK => ?_) ?_
      · (obtain ⟨v, hv, hf⟩ := Known.get (hk 21 (by kernel_rfl) (by simp)) (d := 117) (by kernel_rfl); simp only [List.getElem?_toArray, List.getElem?_cons_succ, List.getElem?_cons_zero, Option.some.injEq] at hv; subst hv; simp only [endsH] at hf; (try subst hf)); (obtain ⟨v, hv, hf⟩ := Known.get (hk 24 (by kernel_rfl) (by simp)) (d := 120) (by kernel_rfl); simp only [List.getElem?_toArray, List.getElem?_cons_succ, List.getElem?_cons_zero, Option.some.injEq] at hv; subst hv; simp only [endsH] at hf; (try subst hf))
        go_simp
        exact hK.out _ _ _ rfl rfl hT (Below.refl _ _)
      refine LinOps.cons (by simp only [List.getElem?_toArray, List.getElem?_cons_succ, List.getElem?_cons_zero]; rfl) (fun hk K hK => ?_) ?_
      · (obtain ⟨v, hv, hf⟩ := Known.get (hk 25 (by kernel_rfl) (by simp)) (d := 121) (by kernel_rfl); simp only [List.getElem?_toArray, List.getElem?_cons_succ, List.getElem?_cons_zero, Option.some.injEq] at hv; subst hv; simp only [endsH] at hf; (try subst hf))
        go_simp
        exact hK.out _ _ _ rfl rfl hT (Below.refl _ _)
      refine LinOps.cons (by simp only [List.getElem?_toArray, List.getElem?_cons_succ, List.getElem?_cons_zero]; rfl) (fun hk K hK => ?_) ?_
      · (obtain ⟨v, hv, hf⟩ := Known.get (hk 26 (by kernel_rfl) (by simp)) (d := 122) (by kernel_rfl); simp only [List.getElem?_toArray, List.getElem?_cons_succ, List.getElem?_cons_zero, Option.some.injEq] at hv; subst hv; simp only [endsH] at hf; (try subst hf))
        go_simp
        exact hK.out _ _ _ rfl rfl hT (Below.refl _ _)
      refine LinOps.cons (by simp only [List.getElem?_toArray, List.getElem?_cons_succ, List.getElem?_cons_zero]; rfl) (fun hk K hK => ?_) ?_
      · (obtain ⟨v, hv, hf⟩ := Known.get (hk 26 (by kernel_rfl) (by simp)) (d := 122) (by kernel_rfl); simp only [List.getElem?_toArray, List.getElem?_cons_succ, List.getElem?_cons_zero, Option.some.injEq] at hv; subst hv; simp only [endsH] at hf; (try subst hf))
        go_simp
        exact hK.out _ _ _ rfl rfl hT (Below.refl _ _)
      refine LinOps.cons (by simp only [List.getElem?_toArray, List.getElem?_cons_succ, List.getElem?_cons_zero]; rfl) (fun hk K hK => ?_) ?_
      · (obtain ⟨v, hv, hf⟩ := Known.get (hk 26 (by kernel_rfl) (by simp)) (d := 122) (by kernel_rfl); simp only [List.getElem?_toArray, List.getElem?_cons_succ, List.getElem?_cons_zero, Option.some.injEq] at hv; subst hv; simp only [endsH] at hf; (try subst hf)); (obtain ⟨v, hv, hf⟩ := Known.get (hk 28 (by kernel_rfl) (by simp)) (d := 124) (by kernel_rfl); simp only [List.getElem?_toArray, List.getElem?_cons_succ, List.getElem?_cons_zero, Option.some.injEq] at hv; subst hv; simp only [endsH] at hf; (try subst hf))
        go_simp
        exact hK.out _ _ _ rfl rfl hT (Below.refl _ _)
      refine LinOps.cons (by simp only [List.getElem?_toArray, List.getElem?_cons_succ, List.getElem?_cons_zero]; rfl) (fun hk K hK => ?_) ?_
      · (obtain ⟨v, hv, hf⟩ := Known.get (hk 26 (by kernel_rfl) (by simp)) (d := 122) (by kernel_rfl); simp only [List.getElem?_toArray, List.getElem?_cons_succ, List.getElem?_cons_zero, Option.some.injEq] at hv; subst hv; simp only [endsH] at hf; (try subst hf)); (obtain ⟨v, hv, hf⟩ := Known.get (hk 27 (by kernel_rfl) (by simp)) (d := 123) (by kernel_rfl); simp only [List.getElem?_toArray, List.getElem?_cons_succ, List.getElem?_cons_zero, Option.some.injEq] at hv; subst hv; simp only [endsH] at hf; (try subst hf)); (obtain ⟨v, hv, hf⟩ := Known.get (hk 29 (by kernel_rfl) (by simp)) (d := 125) (by kernel_rfl); simp only [List.getElem?_toArray, List.getElem?_cons_succ, List.getElem?_cons_zero, Option.some.injEq] at hv; subst hv; simp only [endsH] at hf; (try subst hf))
        go_simp
        exact hK.out _ _ _ rfl rfl hT (Below.refl _ _)
      refine LinOps.cons (by simp only [List.getElem?_toArray, List.getElem?_cons_succ, List.getElem?_cons_zero]; rfl) (fun hk K hK => ?_) ?_
      · (obtain ⟨v, hv, hf⟩ := Known.get (hk 26 (by kernel_rfl) (by simp)) (d := 122) (by kernel_rfl); simp only [List.getElem?_toArray, List.getElem?_cons_succ, List.getElem?_cons_zero, Option.some.injEq] at hv; subst hv; simp only [endsH] at hf; (try subst hf)); (obtain ⟨v, hv, hf⟩ := Known.get (hk 30 (by kernel_rfl) (by simp)) (d := 126) (by kernel_rfl); simp only [List.getElem?_toArray, List.getElem?_cons_succ, List.getElem?_cons_zero, Option.some.injEq] at hv; subst hv; simp only [endsH] at hf; (try subst hf))
        go_simp
        exact hK.out _ _ _ rfl rfl hT (Below.refl _ _)
      refine LinOps.cons (by simp only [List.getElem?_toArray, List.getElem?_cons_succ, List.getElem?_cons_zero]; rfl) (fun hk K hK => ?_) ?_
      · (obtain ⟨v, hv, hf⟩ := Known.get (hk 26 (by kernel_rfl) (by simp)) (d := 122) (by kernel_rfl); simp only [List.getElem?_toArray, List.getElem?_cons_succ, List.getElem?_cons_zero, Option.some.injEq] at hv; subst hv; simp only [endsH] at hf; (try subst hf))
        go_simp
        exact hK.out _ _ _ rfl rfl hT (Below.refl _ _)
      refine LinOps.cons (by simp only [List.getElem?_toArray, List.getElem?_cons_succ, List.getElem?_cons_zero]; rfl) (fun hk K hK => ?_) ?_
      · (obtain ⟨v, hv, hf⟩ := Known.get (hk 26 (by kernel_rfl) (by simp)) (d := 122) (by kernel_rfl); simp only [List.getElem?_toArray, List.getElem?_cons_succ, List.getElem?_cons_zero, Option.some.injEq] at hv; subst hv; simp only [endsH] at hf; (try subst hf)); (obtain ⟨v, hv, hf⟩ := Known.get (hk 32 (by kernel_rfl) (by simp)) (d := 128) (by kernel_rfl); simp only [List.getElem?_toArray, List.getElem?_cons_succ, List.getElem?_cons_zero, Option.some.injEq] at hv; subst hv; simp only [endsH] at hf; (try subst hf))
        go_simp
        exact hK.out _ _ _ rfl rfl hT (Below.refl _ _)
      refine LinOps.cons (by simp only [List.getElem?_toArray, List.getElem?_cons_succ, List.getElem?_cons_zero]; rfl) (fun hk K hK => ?_) ?_
      · (obtain ⟨v, hv, hf⟩ := Known.get (hk 26 (by kernel_rfl) (by simp)) (d := 122) (by kernel_rfl); simp only [List.getElem?_toArray, List.getElem?_cons_succ, List.getElem?_cons_zero, Option.some.injEq] at hv; subst hv; simp only [endsH] at hf; (try subst hf)); (obtain ⟨v, hv, hf⟩ := Known.get (hk 31 (by kernel_rfl) (by simp)) (d := 127) (by kernel_rfl); simp only [List.getElem?_toArray, List.getElem?_cons_succ, List.getElem?_cons_zero, Option.some.injEq] at hv; subst hv; simp only [endsH] at hf; (try subst hf)); (obtain ⟨v, hv, hf⟩ := Known.get (hk 33 (by kernel_rfl) (by simp)) (d := 129) (by kernel_rfl); simp only [List.getElem?_toArray, List.getElem?_cons_succ, List.getElem?_cons_zero, Option.some.injEq] at hv; subst hv; simp only [endsH] at hf; (try subst hf))
        go_simp
        exact hK.out _ _ _ rfl rfl hT (Below.refl _ _)
      refine LinOps.cons (by simp only [List.getElem?_toArray, List.getElem?_cons_succ, List.getElem?_cons_zero]; rfl) (fun hk K hK => ?_) ?_
      · (obtain ⟨v, hv, hf⟩ := Known.get (hk 26 (by kernel_rfl) (by simp)) (d := 122) (by kernel_rfl); simp only [List.getElem?_toArray, List.getElem?_cons_succ, List.getElem?_cons_zero, Option.some.injEq] at hv; subst hv; simp only [endsH] at hf; (try subst hf)); (obtain ⟨v, hv, hf⟩ := Known.get (hk 34 (by kernel_rfl) (by simp)) (d := 130) (by kernel_rfl); simp only [List.getElem?_toArray, List.getElem?_cons_succ, List.getElem?_cons_zero, Option.some.injEq] at hv; subst hv; simp only [endsH] at hf; (try subst hf))
        go_simp
        exact hK.out _ _ _ rfl rfl hT (Below.refl _ _)
      refine LinOps.cons (by simp only [List.getElem?_toArray, List.getElem?_cons_succ, List.getElem?_cons_zero]; rfl) (fun hk K hK => ?_) ?_
      · (obtain ⟨v, hv, hf⟩ := Known.get (hk 35 (by kernel_rfl) (by simp)) (d := 131) (by kernel_rfl); simp only [List.getElem?_toArray, List.getElem?_cons_succ, List.getElem?_cons_zero, Option.some.injEq] at hv; subst hv; simp only [endsH] at hf; (try subst hf))
        go_simp
        exact hK.out _ _ _ rfl rfl hT (Below.refl _ _)
      refine LinOps.cons (by simp only [List.getElem?_toArray, List.getElem?_cons_succ, List.getElem?_cons_zero]; rfl) (fun hk K hK => ?_) ?_
      · (obtain ⟨v, hv, hf⟩ := Known.get (hk 36 (by kernel_rfl) (by simp)) (d := 132) (by kernel_rfl); simp only [List.getElem?_toArray, List.getElem?_cons_succ, List.getElem?_cons_zero, Option.some.injEq] at hv; subst hv; simp only [endsH] at hf; (try subst hf))
        go_simp
        exact hK.out _ _ _ rfl rfl hT (Below.refl _ _)
      refine LinOps.cons (by simp only [List.getElem?_toArray, List.getElem?_cons_succ, List.getElem?_cons_zero]; rfl) (fun hk K hK => ?_) ?_
      · (obtain ⟨v, hv, hf⟩ := Known.get (hk 36 (by kernel_rfl) (by simp)) (d := 132) (by kernel_rfl); simp only [List.getElem?_toArray, List.getElem?_cons_succ, List.getElem?_cons_zero, Option.some.injEq] at hv; subst hv; simp only [endsH] at hf; (try subst hf)); (obtain ⟨v, hv, hf⟩ := Known.get (hk 37 (by kernel_rfl) (by simp)) (d := 133) (by kernel_rfl); simp only [List.getElem?_toArray, List.getElem?_cons_succ, List.getElem?_cons_zero, Option.some.injEq] at hv; subst hv; simp only [endsH] at hf; (try subst hf))
        go_simp
        exact hK.out _ _ _ rfl rfl hT (Below.refl _ _)
      refine LinOps.cons (by simp only [List.getElem?_toArray, List.getElem?_cons_succ, List.getElem?_cons_zero]; rfl) (fun hk K hK => ?_) ?_
      · (obtain ⟨v, hv, hf⟩ := Known.get (hk 36 (by kernel_rfl) (by simp)) (d := 132) (by kernel_rfl); simp only [List.getElem?_toArray, List.getElem?_cons_succ, List.getElem?_cons_zero, Option.some.injEq] at hv; subst hv; simp only [endsH] at hf; (try subst hf)); (obtain ⟨v, hv, hf⟩ := Known.get (hk 38 (by kernel_rfl) (by simp)) (d := 134) (by kernel_rfl); simp only [List.getElem?_toArray, List.getElem?_cons_succ, List.getElem?_cons_zero, Option.some.injEq] at hv; subst hv; simp only [endsH] at hf; (try subst hf))
        go_simp
        refine hK.out _ _ _ rfl ?_ hT (Below.refl _ _)
        have h := HZT.out
        first | (simp only [endsH, h]; done) | (simp only [endsH]; rw [← h]; simp; done)
      refine LinOps.cons (by simp only [List.getElem?_toArray, List.getElem?_cons_succ, List.getElem?_cons_zero]; rfl) (fun hk K hK => ?_) ?_
      · (obtain ⟨v, hv, hf⟩ := Known.get (hk 36 (by kernel_rfl) (by simp)) (d := 132) (by kernel_rfl); simp only [List.getElem?_toArray, List.getElem?_cons_succ, List.getElem?_cons_zero, Option.some.injEq] at hv; subst hv; simp only [endsH] at hf; (try subst hf)); (obtain ⟨v, hv, hf⟩ := Known.get (hk 39 (by kernel_rfl) (by simp)) (d := 135) (by kernel_rfl); simp only [List.getElem?_toArray, List.getElem?_cons_succ, List.getElem?_cons_zero, Option.some.injEq] at hv; subst hv; simp only [endsH] at hf; (try subst hf))
        go_simp
        exact hK.out _ _ _ rfl rfl hT (Below.refl _ _)
      refine LinOps.cons (by simp only [List.getElem?_toArray, List.getElem?_cons_succ, List.getElem?_cons_zero]; rfl) (fun hk K hK => ?_) ?_
      · (obtain ⟨v, hv, hf⟩ := Known.get (hk 40 (by kernel_rfl) (by simp)) (d := 136) (by kernel_rfl); simp only [List.getElem?_toArray, List.getElem?_cons_succ, List.getElem?_cons_zero, Option.some.injEq] at hv; subst hv; simp only [endsH] at hf; (try subst hf))
        cases tz
        · obtain ⟨e1, e2, e3⟩ := HZF.out rfl
          have e4 : w'.cell? ⟨hb', ho' + tp, none⟩ = some (.int .i64 tv) := (hT.cell (by simp only; omega)).trans e3
          have r : IntKind.i64.wrap ((tl : Int) - 1) = (tp : Int) := by rw [IntWalk.i64_in _ (by omega)]; omega
          have r1 : (tp : Int) < 4320 := by omega
          have r2 : (0 : Int) ≤ (tp : Int) := by omega
          clear e1 e3
          go_simp
          refine hK.out _ _ _ rfl ?_ hT (Below.refl _ _)
          first | rfl | (simp only [endsH, r]; rfl) | (simp [endsH, e2]; done)
        · go_simp
          exact hK.out _ _ _ rfl rfl hT (Below.refl _ _)
      refine LinOps.cons (by simp only [List.getElem?_toArray, List.getElem?_cons_succ, List.getElem?_cons_zero]; rfl) (fun hk K hK => ?_) ?_
      · (obtain ⟨v, hv, hf⟩ := Known.get (hk 40 (by kernel_rfl) (by simp)) (d := 136) (by kernel_rfl); simp only [List.getElem?_toArray, List.getElem?_cons_succ, List.getElem?_cons_zero, Option.some.injEq] at hv; subst hv; simp only [endsH] at hf; (try subst hf))
        cases tz
        · obtain ⟨e1, e2, e3⟩ := HZF.out rfl
          have e4 : w'.cell? ⟨hb', ho' + tp, none⟩ = some (.int .i64 tv) := (hT.cell (by simp only; omega)).trans e3
          have r : IntKind.i64.wrap ((tl : Int) - 1) = (tp : Int) := by rw [IntWalk.i64_in _ (by omega)]; omega
          have r1 : (tp : Int) < 4320 := by omega
          have r2 : (0 : Int) ≤ (tp : Int) := by omega
          clear e1 e3
          go_simp
          refine hK.out _ _ _ rfl ?_ hT (Below.refl _ _)
          first | rfl | (simp only [endsH, r]; rfl) | (simp [endsH, e2]; done)
        · go_simp
          exact hK.out _ _ _ rfl rfl hT (Below.refl _ _)
      refine LinOps.cons (by simp only [List.getElem?_toArray, List.getElem?_cons_succ, List.getElem?_cons_zero]; rfl) (fun hk K hK => ?_) ?_
      · (obtain ⟨v, hv, hf⟩ := Known.get (hk 40 (by kernel_rfl) (by simp)) (d := 136) (by kernel_rfl); simp only [List.getElem?_toArray, List.getElem?_cons_succ, List.getElem?_cons_zero, Option.some.injEq] at hv; subst hv; simp only [endsH] at hf; (try subst hf)); (obtain ⟨v, hv, hf⟩ := Known.get (hk 42 (by kernel_rfl) (by simp)) (d := 138) (by kernel_rfl); simp only [List.getElem?_toArray, List.getElem?_cons_succ, List.getElem?_cons_zero, Option.some.injEq] at hv; subst hv; simp only [endsH] at hf; (try subst hf))
        cases tz
        · obtain ⟨e1, e2, e3⟩ := HZF.out rfl
          have e4 : w'.cell? ⟨hb', ho' + tp, none⟩ = some (.int .i64 tv) := (hT.cell (by simp only; omega)).trans e3
          have r : IntKind.i64.wrap ((tl : Int) - 1) = (tp : Int) := by rw [IntWalk.i64_in _ (by omega)]; omega
          have r1 : (tp : Int) < 4320 := by omega
          have r2 : (0 : Int) ≤ (tp : Int) := by omega
          clear e1 e3
          go_simp
          refine hK.out _ _ _ rfl ?_ hT (Below.refl _ _)
          first | rfl | (simp only [endsH, r]; rfl) | (simp [endsH, e2]; done)
        · go_simp
          exact hK.out _ _ _ rfl rfl hT (Below.refl _ _)
      refine LinOps.cons (by simp only [List.getElem?_toArray, List.getElem?_cons_succ, List.getElem?_cons_zero]; rfl) (fun hk K hK => ?_) ?_
      · (obtain ⟨v, hv, hf⟩ := Known.get (hk 40 (by kernel_rfl) (by simp)) (d := 136) (by kernel_rfl); simp only [List.getElem?_toArray, List.getElem?_cons_succ, List.getElem?_cons_zero, Option.some.injEq] at hv; subst hv; simp only [endsH] at hf; (try subst hf)); (obtain ⟨v, hv, hf⟩ := Known.get (hk 43 (by kernel_rfl) (by simp)) (d := 139) (by kernel_rfl); simp only [List.getElem?_toArray, List.getElem?_cons_succ, List.getElem?_cons_zero, Option.some.injEq] at hv; subst hv; simp only [endsH] at hf; (try subst hf))
        cases tz
        · obtain ⟨e1, e2, e3⟩ := HZF.out rfl
          have e4 : w'.cell? ⟨hb', ho' + tp, none⟩ = some (.int .i64 tv) := (hT.cell (by simp only; omega)).trans e3
          have r : IntKind.i64.wrap ((tl : Int) - 1) = (tp : Int) := by rw [IntWalk.i64_in _ (by omega)]; omega
          have r1 : (tp : Int) < 4320 := by omega
          have r2 : (0 : Int) ≤ (tp : Int) := by omega
          clear e1 e3
          go_simp
          refine hK.out _ _ _ rfl ?_ hT (Below.refl _ _)
          first | rfl | (simp only [endsH, r]; rfl) | (simp [endsH, e2]; done)
        · go_simp
          exact hK.out _ _ _ rfl rfl hT (Below.refl _ _)
      refine LinOps.cons (by simp only [List.getElem?_toArray, List.getElem?_cons_succ, List.getElem?_cons_zero]; rfl) (fun hk K hK => ?_) ?_
      · (obtain ⟨v, hv, hf⟩ := Known.get (hk 40 (by kernel_rfl) (by simp)) (d := 136) (by kernel_rfl); simp only [List.getElem?_toArray, List.getElem?_cons_succ, List.getElem?_cons_zero, Option.some.injEq] at hv; subst hv; simp only [endsH] at hf; (try subst hf)); (obtain ⟨v, hv, hf⟩ := Known.get (hk 41 (by kernel_rfl) (by simp)) (d := 137) (by kernel_rfl); simp only [List.getElem?_toArray, List.getElem?_cons_succ, List.getElem?_cons_zero, Option.some.injEq] at hv; subst hv; simp only [endsH] at hf; (try subst hf)); (obtain ⟨v, hv, hf⟩ := Known.get (hk 44 (by kernel_rfl) (by simp)) (d := 140) (by kernel_rfl); simp only [List.getElem?_toArray, List.getElem?_cons_succ, List.getElem?_cons_zero, Option.some.injEq] at hv; subst hv; simp only [endsH] at hf; (try subst hf))
        cases tz
        · obtain ⟨e1, e2, e3⟩ := HZF.out rfl
          have e4 : w'.cell? ⟨hb', ho' + tp, none⟩ = some (.int .i64 tv) := (hT.cell (by simp only; omega)).trans e3
          have r : IntKind.i64.wrap ((tl : Int) - 1) = (tp : Int) := by rw [IntWalk.i64_in _ (by omega)]; omega
          have r1 : (tp : Int) < 4320 := by omega
          have r2 : (0 : Int) ≤ (tp : Int) := by omega
          clear e1 e3
          go_simp
          refine hK.out _ _ _ rfl ?_ hT (Below.refl _ _)
          first | rfl | (simp only [endsH, r]; rfl) | (simp [endsH, e2]; done)
        · go_simp
          exact hK.out _ _ _ rfl rfl hT (Below.refl _ _)
      refine LinOps.cons (by simp only [List.getElem?_toArray, List.getElem?_cons_succ, List.getElem?_cons_zero]; rfl) (fun hk K hK => ?_) ?_
      · (obtain ⟨v, hv, hf⟩ := Known.get (hk 40 (by kernel_rfl) (by simp)) (d := 136) (by kernel_rfl); simp only [List.getElem?_toArray, List.getElem?_cons_succ, List.getElem?_cons_zero, Option.some.injEq] at hv; subst hv; simp only [endsH] at hf; (try subst hf)); (obtain ⟨v, hv, hf⟩ := Known.get (hk 45 (by kernel_rfl) (by simp)) (d := 141) (by kernel_rfl); simp only [List.getElem?_toArray, List.getElem?_cons_succ, List.getElem?_cons_zero, Option.some.injEq] at hv; subst hv; simp only [endsH] at hf; (try subst hf))
        cases tz
        · obtain ⟨e1, e2, e3⟩ := HZF.out rfl
          have e4 : w'.cell? ⟨hb', ho' + tp, none⟩ = some (.int .i64 tv) := (hT.cell (by simp only; omega)).trans e3
          have r : IntKind.i64.wrap ((tl : Int) - 1) = (tp : Int) := by rw [IntWalk.i64_in _ (by omega)]; omega
          have r1 : (tp : Int) < 4320 := by omega
          have r2 : (0 : Int) ≤ (tp : Int) := by omega
          clear e1 e3
          go_simp
          refine hK.out _ _ _ rfl ?_ hT (Below.refl _ _)
          first | rfl | (simp only [endsH, r]; rfl) | (simp [endsH, e2]; done)
        · go_simp
          exact hK.out _ _ _ rfl rfl hT (Below.refl _ _)
      refine LinOps.cons (by simp only [List.getElem?_toArray, List.getElem?_cons_succ, List.getElem?_cons_zero]; rfl) (fun hk K hK => ?_) ?_
      · (obtain ⟨v, hv, hf⟩ := Known.get (hk 40 (by kernel_rfl) (by simp)) (d := 136) (by kernel_rfl); simp only [List.getElem?_toArray, List.getElem?_cons_succ, List.getElem?_cons_zero, Option.some.injEq] at hv; subst hv; simp only [endsH] at hf; (try subst hf))
        cases tz
        · obtain ⟨e1, e2, e3⟩ := HZF.out rfl
          have e4 : w'.cell? ⟨hb', ho' + tp, none⟩ = some (.int .i64 tv) := (hT.cell (by simp only; omega)).trans e3
          have r : IntKind.i64.wrap ((tl : Int) - 1) = (tp : Int) := by rw [IntWalk.i64_in _ (by omega)]; omega
          have r1 : (tp : Int) < 4320 := by omega
          have r2 : (0 : Int) ≤ (tp : Int) := by omega
          clear e1 e3
          go_simp
          refine hK.out _ _ _ rfl ?_ hT (Below.refl _ _)
          first | rfl | (simp only [endsH, r]; rfl) | (simp [endsH, e2]; done)
        · go_simp
          exact hK.out _ _ _ rfl rfl hT (Below.refl _ _)
      refine LinOps.cons (by simp only [List.getElem?_toArray, List.getElem?_cons_succ, List.getElem?_cons_zero]; rfl) (fun hk K hK => ?_) ?_
      · (obtain ⟨v, hv, hf⟩ := Known.get (hk 40 (by kernel_rfl) (by simp)) (d := 136) (by kernel_rfl); simp only [List.getElem?_toArray, List.getElem?_cons_succ, List.getElem?_cons_zero, Option.some.injEq] at hv; subst hv; simp only [endsH] at hf; (try subst hf)); (obtain ⟨v, hv, hf⟩ := Known.get (hk 47 (by kernel_rfl) (by simp)) (d := 143) (by kernel_rfl); simp only [List.getElem?_toArray, List.getElem?_cons_succ, List.getElem?_cons_zero, Option.some.injEq] at hv; subst hv; simp only [endsH] at hf; (try subst hf))
        cases tz
        · obtain ⟨e1, e2, e3⟩ := HZF.out rfl
          have e4 : w'.cell? ⟨hb', ho' + tp, none⟩ = some (.int .i64 tv) := (hT.cell (by simp only; omega)).trans e3
          have r : IntKind.i64.wrap ((tl : Int) - 1) = (tp : Int) := by rw [IntWalk.i64_in _ (by omega)]; omega
          have r1 : (tp : Int) < 4320 := by omega
          have r2 : (0 : Int) ≤ (tp : Int) := by omega
          clear e1 e3
          go_simp
          refine hK.out _ _ _ rfl ?_ hT (Below.refl _ _)
          first | rfl | (simp only [endsH, r]; rfl) | (simp [endsH, e2]; done)
        · go_simp
          exact hK.out _ _ _ rfl rfl hT (Below.refl _ _)
      refine LinOps.cons (by simp only [List.getElem?_toArray, List.getElem?_cons_succ, List.getElem?_cons_zero]; rfl) (fun hk K hK => ?_) ?_
      · (obtain ⟨v, hv, hf⟩ := Known.get (hk 40 (by kernel_rfl) (by simp)) (d := 136) (by kernel_rfl); simp only [List.getElem?_toArray, List.getElem?_cons_succ, List.getElem?_cons_zero, Option.some.injEq] at hv; subst hv; simp only [endsH] at hf; (try subst hf)); (obtain ⟨v, hv, hf⟩ := Known.get (hk 46 (by kernel_rfl) (by simp)) (d := 142) (by kernel_rfl); simp only [List.getElem?_toArray, List.getElem?_cons_succ, List.getElem?_cons_zero, Option.some.injEq] at hv; subst hv; simp only [endsH] at hf; (try subst hf)); (obtain ⟨v, hv, hf⟩ := Known.get (hk 48 (by kernel_rfl) (by simp)) (d := 144) (by kernel_rfl); simp only [List.getElem?_toArray, List.getElem?_cons_succ, List.getElem?_cons_zero, Option.some.injEq] at hv; subst hv; simp only [endsH] at hf; (try subst hf))
        cases tz
        · obtain ⟨e1, e2, e3⟩ := HZF.out rfl
          have e4 : w'.cell? ⟨hb', ho' + tp, none⟩ = some (.int .i64 tv) := (hT.cell (by simp only; omega)).trans e3
          have r : IntKind.i64.wrap ((tl : Int) - 1) = (tp : Int) := by rw [IntWalk.i64_in _ (by omega)]; omega
          have r1 : (tp : Int) < 4320 := by omega
          have r2 : (0 : Int) ≤ (tp : Int) := by omega
          clear e1 e3
          go_simp
          refine hK.out _ _ _ rfl ?_ hT (Below.refl _ _)
          first | rfl | (simp only [endsH, r]; rfl) | (simp [endsH, e2]; done)
        · go_simp
          exact hK.out _ _ _ rfl rfl hT (Below.refl _ _)
      refine LinOps.cons (by simp only [List.getElem?_toArray, List.getElem?_cons_succ, List.getElem?_cons_zero]; rfl) (fun hk K hK => ?_) ?_
      · (obtain ⟨v, hv, hf⟩ := Known.get (hk 36 (by kernel_rfl) (by simp)) (d := 132) (by kernel_rfl); simp only [List.getElem?_toArray, List.getElem?_cons_succ, List.getElem?_cons_zero, Option.some.injEq] at hv; subst hv; simp only [endsH] at hf; (try subst hf)); (obtain ⟨v, hv, hf⟩ := Known.get (hk 40 (by kernel_rfl) (by simp)) (d := 136) (by kernel_rfl); simp only [List.getElem?_toArray, List.getElem?_cons_succ, List.getElem?_cons_zero, Option.some.injEq] at hv; subst hv; simp only [endsH] at hf; (try subst hf)); (obtain ⟨v, hv, hf⟩ := Known.get (hk 49 (by kernel_rfl) (by simp)) (d := 145) (by kernel_rfl); simp only [List.getElem?_toArray, List.getElem?_cons_succ, List.getElem?_cons_zero, Option.some.injEq] at hv; subst hv; simp only [endsH] at hf; (try subst hf))
        cases tz
        · go_simp
          exact hK.out _ _ _ rfl rfl hT (Below.refl _ _)
        · go_simp
          exact hK.out _ _ _ rfl rfl hT (Below.refl _ _)
      refine LinOps.cons (by simp only [List.getElem?_toArray, List.getElem?_cons_succ, List.getElem?_cons_zero]; rfl) (fun hk K hK => ?_) ?_
      · (obtain ⟨v, hv, hf⟩ := Known.get (hk 36 (by kernel_rfl) (by simp)) (d := 132) (by kernel_rfl); simp only [List.getElem?_toArray, List.getElem?_cons_succ, List.getElem?_cons_zero, Option.some.injEq] at hv; subst hv; simp only [endsH] at hf; (try subst hf)); (obtain ⟨v, hv, hf⟩ := Known.get (hk 50 (by kernel_rfl) (by simp)) (d := 146) (by kernel_rfl); simp only [List.getElem?_toArray, List.getElem?_cons_succ, List.getElem?_cons_zero, Option.some.injEq] at hv; subst hv; simp only [endsH] at hf; (try subst hf))
        go_simp
        exact hK.out _ _ _ rfl rfl hT (Below.refl _ _)
      refine LinOps.cons (by simp only [List.getElem?_toArray, List.getElem?_cons_succ, List.getElem?_cons_zero]; rfl) (fun hk K hK => ?_) ?_
      · (obtain ⟨v, hv, hf⟩ := Known.get (hk 51 (by kernel_rfl) (by simp)) (d := 147) (by kernel_rfl); simp only [List.getElem?_toArray, List.getElem?_cons_succ, List.getElem?_cons_zero, Option.some.injEq] at hv; subst hv; simp only [endsH] at hf; (try subst hf))
        go_simp
        exact hK.out _ _ _ rfl rfl hT (Below.refl _ _)
      refine LinOps.cons (by simp only [List.getElem?_toArray, List.getElem?_cons_succ, List.getElem?_cons_zero]; rfl) (fun hk K hK => ?_) ?_
      · (obtain ⟨v, hv, hf⟩ := Known.get (hk 52 (by kernel_rfl) (by simp)) (d := 148) (by kernel_rfl); simp only [List.getElem?_toArray, List.getElem?_cons_succ, List.getElem?_cons_zero, Option.some.injEq] at hv; subst hv; simp only [endsH] at hf; (try subst hf))
        go_simp
        exact hK.out _ _ _ rfl rfl hT (Below.refl _ _)
      refine LinOps.cons (by simp only [List.getElem?_toArray, List.getElem?_cons_succ, List.getElem?_cons_zero]; rfl) (fun hk K hK => ?_) ?_
      · (obtain ⟨v, hv, hf⟩ := Known.get (hk 52 (by kernel_rfl) (by simp)) (d := 148) (by kernel_rfl); simp only [List.getElem?_toArray, List.getElem?_cons_succ, List.getElem?_cons_zero, Option.some.injEq] at hv; subst hv; simp only [endsH] at hf; (try subst hf))
        go_simp
        exact hK.out _ _ _ rfl rfl hT (Below.refl _ _)
      refine LinOps.cons (by simp only [List.getElem?_toArray, List.getElem?_cons_succ, List.getElem?_cons_zero]; rfl) (fun hk K hK => ?_) ?_
      · (obtain ⟨v, hv, hf⟩ := Known.get (hk 52 (by kernel_rfl) (by simp)) (d := 148) (by kernel_rfl); simp only [List.getElem?_toArray, List.getElem?_cons_succ, List.getElem?_cons_zero, Option.some.injEq] at hv; subst hv; simp only [endsH] at hf; (try subst hf)); (obtain ⟨v, hv, hf⟩ := Known.get (hk 54 (by kernel_rfl) (by simp)) (d := 150) (by kernel_rfl); simp only [List.getElem?_toArray, List.getElem?_cons_succ, List.getElem?_cons_zero, Option.some.injEq] at hv; subst hv; simp only [endsH] at hf; (try subst hf))
        go_simp
        exact hK.out _ _ _ rfl rfl hT (Below.refl _ _)
      refine LinOps.cons (by simp only [List.getElem?_toArray, List.getElem?_cons_succ, List.getElem?_cons_zero]; rfl) (fun hk K hK => ?_) ?_
      · (obtain ⟨v, hv, hf⟩ := Known.get (hk 52 (by kernel_rfl) (by simp)) (d := 148) (by kernel_rfl); simp only [List.getElem?_toArray, List.getElem?_cons_succ, List.getElem?_cons_zero, Option.some.injEq] at hv; subst hv; simp only [endsH] at hf; (try subst hf)); (obtain ⟨v, hv, hf⟩ := Known.get (hk 53 (by kernel_rfl) (by simp)) (d := 149) (by kernel_rfl); simp only [List.getElem?_toArray, List.getElem?_cons_succ, List.getElem?_cons_zero, Option.some.injEq] at hv; subst hv; simp only [endsH] at hf; (try subst hf)); (obtain ⟨v, hv, hf⟩ := Known.get (hk 55 (by kernel_rfl) (by simp)) (d := 151) (by kernel_rfl); simp only [List.getElem?_toArray, List.getElem?_cons_succ, List.getElem?_cons_zero, Option.some.injEq] at hv; subst hv; simp only [endsH] at hf; (try subst hf))
        go_simp
        exact hK.out _ _ _ rfl rfl hT (Below.refl _ _)
      refine LinOps.cons (by simp only [List.getElem?_toArray, List.getElem?_cons_succ, List.getElem?_cons_zero]; rfl) (fun hk K hK => ?_) ?_
      · (obtain ⟨v, hv, hf⟩ := Known.get (hk 52 (by kernel_rfl) (by simp)) (d := 148) (by kernel_rfl); simp only [List.getElem?_toArray, List.getElem?_cons_succ, List.getElem?_cons_zero, Option.some.injEq] at hv; subst hv; simp only [endsH] at hf; (try subst hf)); (obtain ⟨v, hv, hf⟩ := Known.get (hk 56 (by kernel_rfl) (by simp)) (d := 152) (by kernel_rfl); simp only [List.getElem?_toArray, List.getElem?_cons_succ, List.getElem?_cons_zero, Option.some.injEq] at hv; subst hv; simp only [endsH] at hf; (try subst hf))
        go_simp
        exact hK.out _ _ _ rfl rfl hT (Below.refl _ _)
      refine LinOps.cons (by simp only [List.getElem?_toArray, List.getElem?_cons_succ, List.getElem?_cons_zero]; rfl) (fun hk K hK => ?_) ?_
      · (obtain ⟨v, hv, hf⟩ := Known.get (hk 52 (by kernel_rfl) (by simp)) (d := 148) (by kernel_rfl); simp only [List.getElem?_toArray, List.getElem?_cons_succ, List.getElem?_cons_zero, Option.some.injEq] at hv; subst hv; simp only [endsH] at hf; (try subst hf))
        go_simp
        exact hK.out _ _ _ rfl rfl hT (Below.refl _ _)
      refine LinOps.cons (by simp only [List.getElem?_toArray, List.getElem?_cons_succ, List.getElem?_cons_zero]; rfl) (fun hk K hK => ?_) ?_
      · (obtain ⟨v, hv, hf⟩ := Known.get (hk 52 (by kernel_rfl) (by simp)) (d := 148) (by kernel_rfl); simp only [List.getElem?_toArray, List.getElem?_cons_succ, List.getElem?_cons_zero, Option.some.injEq] at hv; subst hv; simp only [endsH] at hf; (try subst hf)); (obtain ⟨v, hv, hf⟩ := Known.get (hk 58 (by kernel_rfl) (by simp)) (d := 154) (by kernel_rfl); simp only [List.getElem?_toArray, List.getElem?_cons_succ, List.getElem?_cons_zero, Option.some.injEq] at hv; subst hv; simp only [endsH] at hf; (try subst hf))
        go_simp
        exact hK.out _ _ _ rfl rfl hT (Below.refl _ _)
      refine LinOps.cons (by simp only [List.getElem?_toArray, List.getElem?_cons_succ, List.getElem?_cons_zero]; rfl) (fun hk K hK => ?_) ?_
      · (obtain ⟨v, hv, hf⟩ := Known.get (hk 52 (by kernel_rfl) (by simp)) (d := 148) (by kernel_rfl); simp only [List.getElem?_toArray, List.getElem?_cons_succ, List.getElem?_cons_zero, Option.some.injEq] at hv; subst hv; simp only [endsH] at hf; (try subst hf)); (obtain ⟨v, hv, hf⟩ := Known.get (hk 57 (by kernel_rfl) (by simp)) (d := 153) (by kernel_rfl); simp only [List.getElem?_toArray, List.getElem?_cons_succ, List.getElem?_cons_zero, Option.some.injEq] at hv; subst hv; simp only [endsH] at hf; (try subst hf)); (obtain ⟨v, hv, hf⟩ := Known.get (hk 59 (by kernel_rfl) (by simp)) (d := 155) (by kernel_rfl); simp only [List.getElem?_toArray, List.getElem?_cons_succ, List.getElem?_cons_zero, Option.some.injEq] at hv; subst hv; simp only [endsH] at hf; (try subst hf))
        go_simp
        exact hK.out _ _ _ rfl rfl hT (Below.refl _ _)
      refine LinOps.cons (by simp only [List.getElem?_toArray, List.getElem?_cons_succ, List.getElem?_cons_zero]; rfl) (fun hk K hK => ?_) ?_
      · (obtain ⟨v, hv, hf⟩ := Known.get (hk 52 (by kernel_rfl) (by simp)) (d := 148) (by kernel_rfl); simp only [List.getElem?_toArray, List.getElem?_cons_succ, List.getElem?_cons_zero, Option.some.injEq] at hv; subst hv; simp only [endsH] at hf; (try subst hf)); (obtain ⟨v, hv, hf⟩ := Known.get (hk 60 (by kernel_rfl) (by simp)) (d := 156) (by kernel_rfl); simp only [List.getElem?_toArray, List.getElem?_cons_succ, List.getElem?_cons_zero, Option.some.injEq] at hv; subst hv; simp only [endsH] at hf; (try subst hf))
        go_simp
        exact hK.out _ _ _ rfl rfl hT (Below.refl _ _)
      refine LinOps.cons (by simp only [List.getElem?_toArray, List.getElem?_cons_succ, List.getElem?_cons_zero]; rfl) (fun hk K hK => ?_) ?_
      · (obtain ⟨v, hv, hf⟩ := Known.get (hk 61 (by kernel_rfl) (by simp)) (d := 157) (by kernel_rfl); simp only [List.getElem?_toArray, List.getElem?_cons_succ, List.getElem?_cons_zero, Option.some.injEq] at hv; subst hv; simp only [endsH] at hf; (try subst hf))
        go_simp
        exact hK.out _ _ _ rfl rfl hT (Below.refl _ _)
      refine LinOps.cons (by simp only [List.getElem?_toArray, List.getElem?_cons_succ, List.getElem?_cons_zero]; rfl) (fun hk K hK => ?_) ?_
      · (obtain ⟨v, hv, hf⟩ := Known.get (hk 62 (by kernel_rfl) (by simp)) (d := 158) (by kernel_rfl); simp only [List.getElem?_toArray, List.getElem?_cons_succ, List.getElem?_cons_zero, Option.some.injEq] at hv; subst hv; simp only [endsH] at hf; (try subst hf))
        go_simp
        exact hK.out _ _ _ rfl rfl hT (Below.refl _ _)
      refine LinOps.cons (by simp only [List.getElem?_toArray, List.getElem?_cons_succ, List.getElem?_cons_zero]; rfl) (fun hk K hK => ?_) ?_
      · (obtain ⟨v, hv, hf⟩ := Known.get (hk 62 (by kernel_rfl) (by simp)) (d := 158) (by kernel_rfl); simp only [List.getElem?_toArray, List.getElem?_cons_succ, List.getElem?_cons_zero, Option.some.injEq] at hv; subst hv; simp only [endsH] at hf; (try subst hf)); (obtain ⟨v, hv, hf⟩ := Known.get (hk 63 (by kernel_rfl) (by simp)) (d := 159) (by kernel_rfl); simp only [List.getElem?_toArray, List.getElem?_cons_succ, List.getElem?_cons_zero, Option.some.injEq] at hv; subst hv; simp only [endsH] at hf; (try subst hf))
        go_simp
        exact hK.out _ _ _ rfl rfl hT (Below.refl _ _)
      refine LinOps.cons (by simp only [List.getElem?_toArray, List.getElem?_cons_succ, List.getElem?_cons_zero]; rfl) (fun hk K hK => ?_) ?_
      · (obtain ⟨v, hv, hf⟩ := Known.get (hk 62 (by kernel_rfl) (by simp)) (d := 158) (by kernel_rfl); simp only [List.getElem?_toArray, List.getElem?_cons_succ, List.getElem?_cons_zero, Option.some.injEq] at hv; subst hv; simp only [endsH] at hf; (try subst hf)); (obtain ⟨v, hv, hf⟩ := Known.get (hk 64 (by kernel_rfl) (by simp)) (d := 160) (by kernel_rfl); simp only [List.getElem?_toArray, List.getElem?_cons_succ, List.getElem?_cons_zero, Option.some.injEq] at hv; subst hv; simp only [endsH] at hf; (try subst hf))
        go_simp
        refine hK.out _ _ _ rfl ?_ hT (Below.refl _ _)
        have h := HUT.out
        first | (simp only [endsH, h]; done) | (simp only [endsH]; rw [← h]; simp; done)
      refine LinOps.cons (by simp only [List.getElem?_toArray, List.getElem?_cons_succ, List.getElem?_cons_zero]; rfl) (fun hk K hK => ?_) ?_
      · (obtain ⟨v, hv, hf⟩ := Known.get (hk 62 (by kernel_rfl) (by simp)) (d := 158) (by kernel_rfl); simp only [List.getElem?_toArray, List.getElem?_cons_succ, List.getElem?_cons_zero, Option.some.injEq] at hv; subst hv; simp only [endsH] at hf; (try subst hf)); (obtain ⟨v, hv, hf⟩ := Known.get (hk 65 (by kernel_rfl) (by simp)) (d := 161) (by kernel_rfl); simp only [List.getElem?_toArray, List.getElem?_cons_succ, List.getElem?_cons_zero, Option.some.injEq] at hv; subst hv; simp only [endsH] at hf; (try subst hf))
        go_simp
        exact hK.out _ _ _ rfl rfl hT (Below.refl _ _)
      refine LinOps.cons (by simp only [List.getElem?_toArray, List.getElem?_cons_succ, List.getElem?_cons_zero]; rfl) (fun hk K hK => ?_) ?_
      · (obtain ⟨v, hv, hf⟩ := Known.get (hk 66 (by kernel_rfl) (by simp)) (d := 162) (by kernel_rfl); simp only [List.getElem?_toArray, List.getElem?_cons_succ, List.getElem?_cons_zero, Option.some.injEq] at hv; subst hv; simp only [endsH] at hf; (try subst hf))
        cases uz
        · obtain ⟨e1, e0, e2, e3⟩ := HUF.out rfl
          have e4 : w'.cell? ⟨lb, lo + un, none⟩ = some (.int .i64 uv) := (hT.cell (by simp only; omega)).trans e3
          have r : IntKind.i64.wrap ((uh : Int) + 1) = (un : Int) := by rw [IntWalk.i64_in _ (by omega)]; omega
          have r1 : (un : Int) < 4320 := by omega
          have r2 : (0 : Int) ≤ (un : Int) := by omega
          clear e1 e0 e3
          go_simp
          refine hK.out _ _ _ rfl ?_ hT (Below.refl _ _)
          first | rfl | (simp only [endsH, r]; rfl) | (simp [endsH, e2]; done)
        · go_simp
          exact hK.out _ _ _ rfl rfl hT (Below.refl _ _)
      refine LinOps.cons (by simp only [List.getElem?_toArray, List.getElem?_cons_succ, List.getElem?_cons_zero]; rfl) (fun hk K hK => ?_) ?_
      · (obtain ⟨v, hv, hf⟩ := Known.get (hk 66 (by kernel_rfl) (by simp)) (d := 162) (by kernel_rfl); simp only [List.getElem?_toArray, List.getElem?_cons_succ, List.getElem?_cons_zero, Option.some.injEq] at hv; subst hv; simp only [endsH] at hf; (try subst hf))
        cases uz
        · obtain ⟨e1, e0, e2, e3⟩ := HUF.out rfl
          have e4 : w'.cell? ⟨lb, lo + un, none⟩ = some (.int .i64 uv) := (hT.cell (by simp only; omega)).trans e3
          have r : IntKind.i64.wrap ((uh : Int) + 1) = (un : Int) := by rw [IntWalk.i64_in _ (by omega)]; omega
          have r1 : (un : Int) < 4320 := by omega
          have r2 : (0 : Int) ≤ (un : Int) := by omega
          clear e1 e0 e3
          go_simp
          refine hK.out _ _ _ rfl ?_ hT (Below.refl _ _)
          first | rfl | (simp only [endsH, r]; rfl) | (simp [endsH, e2]; done)
        · go_simp
          exact hK.out _ _ _ rfl rfl hT (Below.refl _ _)
      refine LinOps.cons (by simp only [List.getElem?_toArray, List.getElem?_cons_succ, List.getElem?_cons_zero]; rfl) (fun hk K hK => ?_) ?_
      · (obtain ⟨v, hv, hf⟩ := Known.get (hk 66 (by kernel_rfl) (by simp)) (d := 162) (by kernel_rfl); simp only [List.getElem?_toArray, List.getElem?_cons_succ, List.getElem?_cons_zero, Option.some.injEq] at hv; subst hv; simp only [endsH] at hf; (try subst hf)); (obtain ⟨v, hv, hf⟩ := Known.get (hk 68 (by kernel_rfl) (by simp)) (d := 164) (by kernel_rfl); simp only [List.getElem?_toArray, List.getElem?_cons_succ, List.getElem?_cons_zero, Option.some.injEq] at hv; subst hv; simp only [endsH] at hf; (try subst hf))
        cases uz
        · obtain ⟨e1, e0, e2, e3⟩ := HUF.out rfl
          have e4 : w'.cell? ⟨lb, lo + un, none⟩ = some (.int .i64 uv) := (hT.cell (by simp only; omega)).trans e3
          have r : IntKind.i64.wrap ((uh : Int) + 1) = (un : Int) := by rw [IntWalk.i64_in _ (by omega)]; omega
          have r1 : (un : Int) < 4320 := by omega
          have r2 : (0 : Int) ≤ (un : Int) := by omega
          clear e1 e0 e3
          go_simp
          refine hK.out _ _ _ rfl ?_ hT (Below.refl _ _)
          first | rfl | (simp only [endsH, r]; rfl) | (simp [endsH, e2]; done)
        · go_simp
          exact hK.out _ _ _ rfl rfl hT (Below.refl _ _)
      refine LinOps.cons (by simp only [List.getElem?_toArray, List.getElem?_cons_succ, List.getElem?_cons_zero]; rfl) (fun hk K hK => ?_) ?_
      · (obtain ⟨v, hv, hf⟩ := Known.get (hk 66 (by kernel_rfl) (by simp)) (d := 162) (by kernel_rfl); simp only [List.getElem?_toArray, List.getElem?_cons_succ, List.getElem?_cons_zero, Option.some.injEq] at hv; subst hv; simp only [endsH] at hf; (try subst hf)); (obtain ⟨v, hv, hf⟩ := Known.get (hk 69 (by kernel_rfl) (by simp)) (d := 165) (by kernel_rfl); simp only [List.getElem?_toArray, List.getElem?_cons_succ, List.getElem?_cons_zero, Option.some.injEq] at hv; subst hv; simp only [endsH] at hf; (try subst hf))
        cases uz
        · obtain ⟨e1, e0, e2, e3⟩ := HUF.out rfl
          have e4 : w'.cell? ⟨lb, lo + un, none⟩ = some (.int .i64 uv) := (hT.cell (by simp only; omega)).trans e3
          have r : IntKind.i64.wrap ((uh : Int) + 1) = (un : Int) := by rw [IntWalk.i64_in _ (by omega)]; omega
          have r1 : (un : Int) < 4320 := by omega
          have r2 : (0 : Int) ≤ (un : Int) := by omega
          clear e1 e0 e3
          go_simp
          refine hK.out _ _ _ rfl ?_ hT (Below.refl _ _)
          first | rfl | (simp only [endsH, r]; rfl) | (simp [endsH, e2]; done)
        · go_simp
          exact hK.out _ _ _ rfl rfl hT (Below.refl _ _)
      refine LinOps.cons (by simp only [List.getElem?_toArray, List.getElem?_cons_succ, List.getElem?_cons_zero]; rfl) (fun hk K hK => ?_) ?_
      · (obtain ⟨v, hv, hf⟩ := Known.get (hk 66 (by kernel_rfl) (by simp)) (d := 162) (by kernel_rfl); simp only [List.getElem?_toArray, List.getElem?_cons_succ, List.getElem?_cons_zero, Option.some.injEq] at hv; subst hv; simp only [endsH] at hf; (try subst hf)); (obtain ⟨v, hv, hf⟩ := Known.get (hk 67 (by kernel_rfl) (by simp)) (d := 163) (by kernel_rfl); simp only [List.getElem?_toArray, List.getElem?_cons_succ, List.getElem?_cons_zero, Option.some.injEq] at hv; subst hv; simp only [endsH] at hf; (try subst hf)); (obtain ⟨v, hv, hf⟩ := Known.get (hk 70 (by kernel_rfl) (by simp)) (d := 166) (by kernel_rfl); simp only [List.getElem?_toArray, List.getElem?_cons_succ, List.getElem?_cons_zero, Option.some.injEq] at hv; subst hv; simp only [endsH] at hf; (try subst hf))
        cases uz
        · obtain ⟨e1, e0, e2, e3⟩ := HUF.out rfl
          have e4 : w'.cell? ⟨lb, lo + un, none⟩ = some (.int .i64 uv) := (hT.cell (by simp only; omega)).trans e3
          have r : IntKind.i64.wrap ((uh : Int) + 1) = (un : Int) := by rw [IntWalk.i64_in _ (by omega)]; omega
          have r1 : (un : Int) < 4320 := by omega
          have r2 : (0 : Int) ≤ (un : Int) := by omega
          clear e1 e0 e3
          go_simp
          refine hK.out _ _ _ rfl ?_ hT (Below.refl _ _)
          first | rfl | (simp only [endsH, r]; rfl) | (simp [endsH, e2]; done)
        · go_simp
          exact hK.out _ _ _ rfl rfl hT (Below.refl _ _)
      refine LinOps.cons (by simp only [List.getElem?_toArray, List.getElem?_cons_succ, List.getElem?_cons_zero]; rfl) (fun hk K hK => ?_) ?_
      · (obtain ⟨v, hv, hf⟩ := Known.get (hk 66 (by kernel_rfl) (by simp)) (d := 162) (by kernel_rfl); simp only [List.getElem?_toArray, List.getElem?_cons_succ, List.getElem?_cons_zero, Option.some.injEq] at hv; subst hv; simp only [endsH] at hf; (try subst hf)); (obtain ⟨v, hv, hf⟩ := Known.get (hk 71 (by kernel_rfl) (by simp)) (d := 167) (by kernel_rfl); simp only [List.getElem?_toArray, List.getElem?_cons_succ, List.getElem?_cons_zero, Option.some.injEq] at hv; subst hv; simp only [endsH] at hf; (try subst hf))
        cases uz
        · obtain ⟨e1, e0, e2, e3⟩ := HUF.out rfl
          have e4 : w'.cell? ⟨lb, lo + un, none⟩ = some (.int .i64 uv) := (hT.cell (by simp only; omega)).trans e3
          have r : IntKind.i64.wrap ((uh : Int) + 1) = (un : Int) := by rw [IntWalk.i64_in _ (by omega)]; omega
          have r1 : (un : Int) < 4320 := by omega
          have r2 : (0 : Int) ≤ (un : Int) := by omega
          clear e1 e0 e3
          go_simp
          refine hK.out _ _ _ rfl ?_ hT (Below.refl _ _)
          first | rfl | (simp only [endsH, r]; rfl) | (simp [endsH, e2]; done)
        · go_simp
          exact hK.out _ _ _ rfl rfl hT (Below.refl _ _)
      refine LinOps.cons (by simp only [List.getElem?_toArray, List.getElem?_cons_succ, List.getElem?_cons_zero]; rfl) (fun hk K hK => ?_) ?_
      · (obtain ⟨v, hv, hf⟩ := Known.get (hk 66 (by kernel_rfl) (by simp)) (d := 162) (by kernel_rfl); simp only [List.getElem?_toArray, List.getElem?_cons_succ, List.getElem?_cons_zero, Option.some.injEq] at hv; subst hv; simp only [endsH] at hf; (try subst hf))
        cases uz
        · obtain ⟨e1, e0, e2, e3⟩ := HUF.out rfl
          have e4 : w'.cell? ⟨lb, lo + un, none⟩ = some (.int .i64 uv) := (hT.cell (by simp only; omega)).trans e3
          have r : IntKind.i64.wrap ((uh : Int) + 1) = (un : Int) := by rw [IntWalk.i64_in _ (by omega)]; omega
          have r1 : (un : Int) < 4320 := by omega
          have r2 : (0 : Int) ≤ (un : Int) := by omega
          clear e1 e0 e3
          go_simp
          refine hK.out _ _ _ rfl ?_ hT (Below.refl _ _)
          first | rfl | (simp only [endsH, r]; rfl) | (simp [endsH, e2]; done)
        · go_simp
          exact hK.out _ _ _ rfl rfl hT (Below.refl _ _)
      refine LinOps.cons (by simp only [List.getElem?_toArray, List.getElem?_cons_succ, List.getElem?_cons_zero]; rfl) (fun hk K hK => ?_) ?_
      · (obtain ⟨v, hv, hf⟩ := Known.get (hk 66 (by kernel_rfl) (by simp)) (d := 162) (by kernel_rfl); simp only [List.getElem?_toArray, List.getElem?_cons_succ, List.getElem?_cons_zero, Option.some.injEq] at hv; subst hv; simp only [endsH] at hf; (try subst hf)); (obtain ⟨v, hv, hf⟩ := Known.get (hk 73 (by kernel_rfl) (by simp)) (d := 169) (by kernel_rfl); simp only [List.getElem?_toArray, List.getElem?_cons_succ, List.getElem?_cons_zero, Option.some.injEq] at hv; subst hv; simp only [endsH] at hf; (try subst hf))
        cases uz
        · obtain ⟨e1, e0, e2, e3⟩ := HUF.out rfl
          have e4 : w'.cell? ⟨lb, lo + un, none⟩ = some (.int .i64 uv) := (hT.cell (by simp only; omega)).trans e3
          have r : IntKind.i64.wrap ((uh : Int) + 1) = (un : Int) := by rw [IntWalk.i64_in _ (by omega)]; omega
          have r1 : (un : Int) < 4320 := by omega
          have r2 : (0 : Int) ≤ (un : Int) := by omega
          clear e1 e0 e3
          go_simp
          refine hK.out _ _ _ rfl ?_ hT (Below.refl _ _)
          first | rfl | (simp only [endsH, r]; rfl) | (simp [endsH, e2]; done)
        · go_simp
          exact hK.out _ _ _ rfl rfl hT (Below.refl _ _)
      refine LinOps.cons (by simp only [List.getElem?_toArray, List.getElem?_cons_succ, List.getElem?_cons_zero]; rfl) (fun hk K hK => ?_) ?_
      · (obtain ⟨v, hv, hf⟩ := Known.get (hk 66 (by kernel_rfl) (by simp)) (d := 162) (by kernel_rfl); simp only [List.getElem?_toArray, List.getElem?_cons_succ, List.getElem?_cons_zero, Option.some.injEq] at hv; subst hv; simp only [endsH] at hf; (try subst hf)); (obtain ⟨v, hv, hf⟩ := Known.get (hk 72 (by kernel_rfl) (by simp)) (d := 168) (by kernel_rfl); simp only [List.getElem?_toArray, List.getElem?_cons_succ, List.getElem?_cons_zero, Option.some.injEq] at hv; subst hv; simp only [endsH] at hf; (try subst hf)); (obtain ⟨v, hv, hf⟩ := Known.get (hk 74 (by kernel_rfl) (by simp)) (d := 170) (by kernel_rfl); simp only [List.getElem?_toArray, List.getElem?_cons_succ, List.getElem?_cons_zero, Option.some.injEq] at hv; subst hv; simp only [endsH] at hf; (try subst hf))
        cases uz
        · obtain ⟨e1, e0, e2, e3⟩ := HUF.out rfl
          have e4 : w'.cell? ⟨lb, lo + un, none⟩ = some (.int .i64 uv) := (hT.cell (by simp only; omega)).trans e3
          have r : IntKind.i64.wrap ((uh : Int) + 1) = (un : Int) := by rw [IntWalk.i64_in _ (by omega)]; omega
          have r1 : (un : Int) < 4320 := by omega
          have r2 : (0 : Int) ≤ (un : Int) := by omega
          clear e1 e0 e3
          go_simp
          refine hK.out _ _ _ rfl ?_ hT (Below.refl _ _)
          first | rfl | (simp only [endsH, r]; rfl) | (simp [endsH, e2]; done)
        · go_simp
          exact hK.out _ _ _ rfl rfl hT (Below.refl _ _)
      refine LinOps.cons (by simp only [List.getElem?_toArray, List.getElem?_cons_succ, List.getElem?_cons_zero]; rfl) (fun hk K hK => ?_) ?_
      · (obtain ⟨v, hv, hf⟩ := Known.get (hk 62 (by kernel_rfl) (by simp)) (d := 158) (by kernel_rfl); simp only [List.getElem?_toArray, List.getElem?_cons_succ, List.getElem?_cons_zero, Option.some.injEq] at hv; subst hv; simp only [endsH] at hf; (try subst hf)); (obtain ⟨v, hv, hf⟩ := Known.get (hk 66 (by kernel_rfl) (by simp)) (d := 162) (by kernel_rfl); simp only [List.getElem?_toArray, List.getElem?_cons_succ, List.getElem?_cons_zero, Option.some.injEq] at hv; subst hv; simp only [endsH] at hf; (try subst hf)); (obtain ⟨v, hv, hf⟩ := Known.get (hk 75 (by kernel_rfl) (by simp)) (d := 171) (by kernel_rfl); simp only [List.getElem?_toArray, List.getElem?_cons_succ, List.getElem?_cons_zero, Option.some.injEq] at hv; subst hv; simp only [endsH] at hf; (try subst hf))
        cases uz
        · go_simp
          exact hK.out _ _ _ rfl rfl hT (Below.refl _ _)
        · go_simp
          exact hK.out _ _ _ rfl rfl hT (Below.refl _ _)
      refine LinOps.cons (by simp only [List.getElem?_toArray, List.getElem?_cons_succ, List.getElem?_cons_zero]; rfl) (fun hk K hK => ?_) ?_
      · (obtain ⟨v, hv, hf⟩ := Known.get (hk 62 (by kernel_rfl) (by simp)) (d := 158) (by kernel_rfl); simp only [List.getElem?_toArray, List.getElem?_cons_succ, List.getElem?_cons_zero, Option.some.injEq] at hv; subst hv; simp only [endsH] at hf; (try subst hf)); (obtain ⟨v, hv, hf⟩ := Known.get (hk 76 (by kernel_rfl) (by simp)) (d := 172) (by kernel_rfl); simp only [List.getElem?_toArray, List.getElem?_cons_succ, List.getElem?_cons_zero, Option.some.injEq] at hv; subst hv; simp only [endsH] at hf; (try subst hf))
        go_simp
        exact hK.out _ _ _ rfl rfl hT (Below.refl _ _)
      refine LinOps.cons (by simp only [List.getElem?_toArray, List.getElem?_cons_succ, List.getElem?_cons_zero]; rfl) (fun hk K hK => ?_) ?_
      · (obtain ⟨v, hv, hf⟩ := Known.get (hk 77 (by kernel_rfl) (by simp)) (d := 173) (by kernel_rfl); simp only [List.getElem?_toArray, List.getElem?_cons_succ, List.getElem?_cons_zero, Option.some.injEq] at hv; subst hv; simp only [endsH] at hf; (try subst hf))
        go_simp
        exact hK.out _ _ _ rfl rfl hT (Below.refl _ _)
      refine LinOps.cons (by simp only [List.getElem?_toArray, List.getElem?_cons_succ, List.getElem?_cons_zero]; rfl) (fun hk K hK => ?_) ?_
      · (obtain ⟨v, hv, hf⟩ := Known.get (hk 78 (by kernel_rfl) (by simp)) (d := 174) (by kernel_rfl); simp only [List.getElem?_toArray, List.getElem?_cons_succ, List.getElem?_cons_zero, Option.some.injEq] at hv; subst hv; simp only [endsH] at hf; (try subst hf))
        go_simp
        go_at_call 22; refine (ticks_any _).mono ?_
        rintro e w2 ⟨rfl, h2⟩
        exact hK.out _ _ _ rfl rfl (hT.trans (h2.mono hT.size)) h2
      refine LinOps.cons (by simp only [List.getElem?_toArray, List.getElem?_cons_succ, List.getElem?_cons_zero]; rfl) (fun hk K hK => ?_) ?_
      · (obtain ⟨v, hv, hf⟩ := Known.get (hk 78 (by kernel_rfl) (by simp)) (d := 174) (by kernel_rfl); simp only [List.getElem?_toArray, List.getElem?_cons_succ, List.getElem?_cons_zero, Option.some.injEq] at hv; subst hv; simp only [endsH] at hf; (try subst hf)); (obtain ⟨v, hv, hf⟩ := Known.get (hk 79 (by kernel_rfl) (by simp)) (d := 175) (by kernel_rfl); simp only [List.getElem?_toArray, List.getElem?_cons_succ, List.getElem?_cons_zero, Option.some.injEq] at hv; subst hv; simp only [endsH] at hf; (try subst hf))
        go_simp
        exact hK.out _ _ _ rfl rfl hT (Below.refl _ _)
      exact LinOps.nil
    · intro a' w' hd hsz hkn hT hall
      obtain ⟨xs, D⟩ := a'; obtain ⟨l0⟩ := xs; dsimp only at hd hsz hkn; subst hd; have hs0 := hsz; clear hsz; simp only [List.size_toArray] at hs0; obtain ⟨x0, x1, x2, x3, x4, x5, x6, x7, x8, x9, l1, rfl, hs1⟩ := len_ten hs0; clear hs0; obtain ⟨x10, x11, x12, x13, x14, x15, x16, x17, x18, x19, l2, rfl, hs2⟩ := len_ten hs1; clear hs1; obtain ⟨x20, x21, x22, x23, x24, x25, x26, x27, x28, x29, l3, rfl, hs3⟩ := len_ten hs2; clear hs2; obtain ⟨x30, x31, x32, x33, x34, x35, x36, x37, x38, x39, l4, rfl, hs4⟩ := len_ten hs3; clear hs3; obtain ⟨x40, x41, x42, x43, x44, x45, x46, x47, x48, x49, l5, rfl, hs5⟩ := len_ten hs4; clear hs4; obtain ⟨x50, x51, x52, x53, x54, x55, x56, x57, x58, x59, l6, rfl, hs6⟩ := len_ten hs5; clear hs5; obtain ⟨x60, x61, x62, x63, x64, x65, x66, x67, x68, x69, l7, rfl, hs7⟩ := len_ten hs6; clear hs6; obtain ⟨x70, x71, x72, x73, x74, x75, x76, x77, x78, x79, l8, rfl, hs8⟩ := len_ten hs7; clear hs7; obtain ⟨x80, x81, x82, x83, x84, x85, x86, x87, x88, x89, l9, rfl, hs9⟩ := len_ten hs8; clear hs8; obtain ⟨x90, x91, x92, x93, x94, x95, x96, x97, x98, x99, l10, rfl, hs10⟩ := len_ten hs9; clear hs9; obtain ⟨x100, x101, x102, x103, x104, x105, x106, x107, x108, x109, l11, rfl, hs11⟩ := len_ten hs10; clear hs10; obtain ⟨x110, x111, x112, x113, x114, x115, x116, x117, x118, x119, l12, rfl, hs12⟩ := len_ten hs11; clear hs11; obtain ⟨x120, x121, x122, x123, x124, x125, x126, x127, x128, x129, l13, rfl, hs13⟩ := len_ten hs12; clear hs12; obtain ⟨x130, x131, x132, x133, x134, x135, x136, x137, x138, x139, l14, rfl, hs14⟩ := len_ten hs13; clear hs13; obtain ⟨x140, x141, x142, x143, x144, x145, x146, x147, x148, x149, l15, rfl, hs15⟩ := len_ten hs14; clear hs14; obtain ⟨x150, x151, x152, x153, x154, x155, x156, x157, x158, x159, l16, rfl, hs16⟩ := len_ten hs15; clear hs15; obtain ⟨x160, x161, x162, x163, x164, x165, x166, x167, x168, x169, l17, rfl, hs17⟩ := len_ten hs16; clear hs16; obtain ⟨x170, l18, rfl, hs18⟩ := len_succ hs17; clear hs17; obtain ⟨x171, l19, rfl, hs19⟩ := len_succ hs18; clear hs18; obtain ⟨x172, l20, rfl, hs20⟩ := len_succ hs19; clear hs19; obtain ⟨x173, l21, rfl, hs21⟩ := len_succ hs20; clear hs20; obtain ⟨x174, l22, rfl, hs22⟩ := len_succ hs21; clear hs21; obtain ⟨x175, l23, rfl, hs23⟩ := len_succ hs22; clear hs22; obtain ⟨x176, l24, rfl, hs24⟩ := len_succ hs23; clear hs23; obtain rfl := List.length_eq_zero_iff.1 hs24; clear hs24; have kn := known_list hkn; clear hkn; simp only [List.map_cons, List.map_nil, List.getElem?_toArray, List.getElem?_cons_succ, List.getElem?_cons_zero, Array.getD_eq_getD_getElem?, Option.getD_some, List.cons.injEq, Option.some.injEq, and_true] at kn; obtain ⟨rfl, rfl, rfl, rfl, rfl, rfl, rfl, rfl, rfl, rfl, rfl, rfl, rfl, rfl, rfl, rfl, rfl, rfl, rfl, rfl, rfl, rfl, rfl, rfl, rfl, rfl, rfl, rfl, rfl, rfl, rfl, rfl, rfl, rfl, rfl, rfl, rfl, rfl, rfl, rfl, rfl, rfl, rfl, rfl, rfl, rfl, rfl, rfl, rfl, rfl, rfl, rfl, rfl, rfl, rfl, rfl, rfl, rfl, rfl, rfl, rfl, rfl, rfl, rfl, rfl, rfl, rfl, rfl, rfl, rfl, rfl, rfl, rfl, rfl, rfl, rfl, rfl, rfl, rfl, rfl, rfl, rfl, rfl, rfl, rfl, rfl, rfl, rfl, rfl, rfl, rfl, rfl, rfl, rfl, rfl, rfl⟩ := kn
      (obtain ⟨v, hv, hf⟩ := Known.get (hall 80 (by kernel_rfl) ) (d := 176) (by kernel_rfl); simp only [List.getElem?_toArray, List.getElem?_cons_succ, List.getElem?_cons_zero, Option.some.injEq] at hv; subst hv; simp only [endsH] at hf; (try subst hf))
      clear hall
      refine wpAny_ready (rs := [81]) (by kernel_rfl) (by simp) ?_; refine AllReady.cons (by simp only [List.getElem?_toArray, List.getElem?_cons_succ, List.getElem?_cons_zero]; rfl) (fun K hK => ?_) AllReady.nil
      go_simp
      refine hK _ _ ?_
      (try simp only [Act.put, List.setIfInBounds_toArray, List.set_cons_zero, List.set_cons_succ])
      clear hK K
      refine wpAny_done (by kernel_rfl) ?_ _
      go_wp2_with fail
      go_ret
      exact ⟨rfl, WB.trans (hT.mono WB.size)⟩
end Go.Proofs.Ytjkajcpanhlbkaa
