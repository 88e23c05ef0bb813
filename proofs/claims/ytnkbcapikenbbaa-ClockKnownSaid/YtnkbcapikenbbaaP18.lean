/- What Right, Stopped and Wrong return. -/
import Derived.Test.YtnkbcapikenbbaaP17
import Derived.Test.YtnkbcapikenbbaaP15
import Derived.Test.YtnkbcapikenbbaaP9
namespace Go.Proofs.Ytnkbcapikenbbaa
set_option linter.unusedSimpArgs false
set_option linter.unusedVariables false
open Go.RowKit Go.Shelf
attribute [local go_sem high] cell_set_wr
attribute [local go_sem low] cell_wr frozen_wr
attribute [local go_sem] wr_set wr_drew wr_drewN wr_alloc wr_new

def pRightR (c : Ck) (ls : List Ln) : Bool × Int := if askE c (bookB ls) = 0 then (rightD c.set c.frs ls [], 0) else (false, askE c (bookB ls))
set_option maxRecDepth 100000 in
set_option maxHeartbeats 4000000 in
theorem pIsBook_all (A : Option Addr) (cap : Nat) (l : List Ln) (w : World) (hA : Arr w w.heap.size A (lines l)) (hl : l.length ≤ 9223372036854775807) :
    Calls Try.prog 70 #[.slice A l.length cap] w fun e w' => e = .returned (.bool (bookB l)) ∧ Below w.heap.size w w' := by
  have HE : Hid (bookB l = (decide (l.length ≤ 6) && l.all lineB)) := hid rfl
  go_enter Try.func70, Try.ntmps70
  go_wp2
  go_loopw [7] (fun i wr => ∃ (k : Nat), k ≤ l.length ∧ i = .int .i64 k ∧ Hid (l.all lineB = (l.drop k).all lineB) ∧ Below w.heap.size w wr) (fun i _ => l.length - (intOf i).toNat)
  case atStart => exact ⟨0, Nat.zero_le _, rfl, hid (by simp), Below.refl _ _⟩
  case round =>
    obtain ⟨k, hk, rfl, HB, hB⟩ := hrel
    have hzr := hB.size
    by_cases hlt : k < l.length
    · obtain ⟨b, o, rfl, hb, c0, c1, c2⟩ := (hA.below hB).ln hlt
      have HT := hid (all_take lineB l k hlt)
      have HL : Hid (lineB l[k] = (isReadingB l[k].r && minutesB l[k].k)) := hid rfl
      have HR : Hid (isReadingB l[k].r = (decide (0 ≤ l[k].r) && decide (l[k].r ≤ 8638))) := hid rfl
      have hi1 : k + 1 ≤ l.length := hlt
      clear hA
      generalize l[k] = x at *
      cases hr : isReadingB x.r
      · have hr' : (decide (0 ≤ x.r) && decide (x.r ≤ 8638)) = false := by rw [← HR.out]; exact hr
        have HR2 := hid hr
        go_wp2_with (first
          | (go_at_call 56; refine (within_any _ _ _ _).mono ?_; rw [hr']; rintro e w1 ⟨rfl, rfl⟩))
        go_ret
        exact ⟨ret_bool (by rw [HE.out, HB.out, HT.out, HL.out, HR2.out]; simp), by (repeat' (first | (with_reducible exact Below.refl _ _) | (with_reducible assumption) | (with_reducible refine Below.drew ?_) | (with_reducible refine below_drewN ?_ _) | (with_reducible refine Below.setCell ?_ ?_ _) | (with_reducible refine Below.alloc ?_ ?_ _) | go_size | (exact Below.size (by assumption)) | (refine Below.trans ?_ (Below.mono (by assumption) ?_))))⟩
      · have hr' : (decide (0 ≤ x.r) && decide (x.r ≤ 8638)) = true := by rw [← HR.out]; exact hr
        have HR2 := hid hr
        cases hm : minutesB x.k
        · have HM := hid hm
          go_wp2_with (first
            | (go_at_call 56; refine (within_any _ _ _ _).mono ?_; rw [hr']; rintro e w1 ⟨rfl, rfl⟩)
            | (go_at_call 86; refine (isSpan_any _ _ _).mono ?_; rw [HM.out]; rintro e w2 ⟨rfl, hb2⟩; (first | replace hb2 := Below.un1 hb2 | replace hb2 := Below.un2 hb2 | skip); obtain ⟨hc2, hf2, hl2, hm2, hw2⟩ := bcell hb2; have hz2 := hb2.size; (try simp only [World.size_alloc, World.size_setCell] at hz2)))
          go_ret
          exact ⟨ret_bool (by rw [HE.out, HB.out, HT.out, HL.out, HM.out]; simp), by (repeat' (first | (with_reducible exact Below.refl _ _) | (with_reducible assumption) | (with_reducible refine Below.drew ?_) | (with_reducible refine below_drewN ?_ _) | (with_reducible refine Below.setCell ?_ ?_ _) | (with_reducible refine Below.alloc ?_ ?_ _) | go_size | (exact Below.size (by assumption)) | (refine Below.trans ?_ (Below.mono (by assumption) ?_))))⟩
        · have HM := hid hm
          go_wp2_with (first
            | (go_at_call 56; refine (within_any _ _ _ _).mono ?_; rw [hr']; rintro e w1 ⟨rfl, rfl⟩)
            | (go_at_call 86; refine (isSpan_any _ _ _).mono ?_; rw [HM.out]; rintro e w2 ⟨rfl, hb2⟩; (first | replace hb2 := Below.un1 hb2 | replace hb2 := Below.un2 hb2 | skip); obtain ⟨hc2, hf2, hl2, hm2, hw2⟩ := bcell hb2; have hz2 := hb2.size; (try simp only [World.size_alloc, World.size_setCell] at hz2)))
          refine ⟨⟨k + 1, hi1, by go_num, hid (by rw [HB.out, HT.out, HL.out, HR2.out, HM.out]; simp), ?_⟩, by simp [intOf]; omega⟩
          (repeat' (first | (with_reducible exact Below.refl _ _) | (with_reducible assumption) | (with_reducible refine Below.drew ?_) | (with_reducible refine below_drewN ?_ _) | (with_reducible refine Below.setCell ?_ ?_ _) | (with_reducible refine Below.alloc ?_ ?_ _) | go_size | (exact Below.size (by assumption)) | (refine Below.trans ?_ (Below.mono (by assumption) ?_))))
    · obtain rfl : k = l.length := by omega
      go_wp2
      go_ret
      exact ⟨ret_bool (by rw [HE.out, HB.out, List.drop_length]; simp; omega), by (repeat' (first | (with_reducible exact Below.refl _ _) | (with_reducible assumption) | (with_reducible refine Below.drew ?_) | (with_reducible refine below_drewN ?_ _) | (with_reducible refine Below.setCell ?_ ?_ _) | (with_reducible refine Below.alloc ?_ ?_ _) | go_size | (exact Below.size (by assumption)) | (refine Below.trans ?_ (Below.mono (by assumption) ?_))))⟩

theorem book_of {ls : List Ln} (h : bookB ls = true) : ls.length ≤ 6 ∧ ∀ l ∈ ls, lineB l = true := by
  simp only [bookB, Bool.and_eq_true, decide_eq_true_eq, List.all_eq_true] at h
  exact h

set_option maxRecDepth 100000 in
set_option maxHeartbeats 4000000 in
theorem pRight_any (set : Int) (A L : Option Addr) (cap lcap : Nat) (fs : List Fr) (ls : List Ln) (w : World) (hA : Arr w w.heap.size A (frosts fs)) (hL : Arr w w.heap.size L (lines ls)) (hl : ls.length ≤ 9223372036854775807) :
    Calls Try.prog 25 #[.agg #[.int .i64 set, .slice A fs.length cap], .slice L ls.length lcap] w fun e w' =>
      e = .returned (.tuple #[.bool (pRightR ⟨set, fs⟩ ls).1, .int .i64 (pRightR ⟨set, fs⟩ ls).2]) ∧ Below w.heap.size w w' := by
  have HR : Hid (pRightR ⟨set, fs⟩ ls = if askE ⟨set, fs⟩ (bookB ls) = 0 then (rightD set fs ls [], 0) else (false, askE ⟨set, fs⟩ (bookB ls))) := hid rfl
  go_enter Try.func25, Try.ntmps25
  go_wp2
  go_region_held3 (fun w' => (w'.cell? ⟨w.heap.size, 0, none⟩ = some (.int .i64 set) ∧ w'.cell? ⟨w.heap.size, 1, none⟩ = some (.slice A fs.length cap)) ∧ Below w.heap.size w w') (((refine ⟨?_, ?_⟩; (focus (first | (simp [go_sem, wr_set, wr_drew, wr_drewN, wr_alloc, wr_new]; done) | (simp [go_sem, wr_set, wr_drew, wr_drewN, wr_alloc, wr_new, *]; done) | (simp (disch := go_size) [go_sem, wr_set, wr_drew, wr_drewN, wr_alloc, wr_new, *]; done))); (repeat' (first | (with_reducible exact Below.refl _ _) | (with_reducible assumption) | (with_reducible refine Below.drew ?_) | (with_reducible refine below_drewN ?_ _) | (with_reducible refine Below.setCell ?_ ?_ _) | (with_reducible refine Below.alloc ?_ ?_ _) | go_size | (exact Below.size (by assumption)) | (refine Below.trans ?_ (Below.mono (by assumption) ?_)))))))
    (first
      | (go_at_call 70; refine (pIsBook_all L lcap ls _ ?_ hl).mono ?_; (focus (refine (hL.below ?_).more ?_; (repeat' (first | (with_reducible exact Below.refl _ _) | (with_reducible assumption) | (with_reducible refine Below.drew ?_) | (with_reducible refine below_drewN ?_ _) | (with_reducible refine Below.setCell ?_ ?_ _) | (with_reducible refine Below.alloc ?_ ?_ _) | go_size | (exact Below.size (by assumption)) | (refine Below.trans ?_ (Below.mono (by assumption) ?_)))))); rintro e w2 ⟨rfl, hb2⟩; (first | replace hb2 := Below.un1 hb2 | replace hb2 := Below.un2 hb2 | skip); obtain ⟨hc2, hf2, hl2, hm2, hw2⟩ := bcell hb2; have hz2 := hb2.size; (try simp only [World.size_alloc, World.size_setCell] at hz2))
      | (go_at_call 55; refine (refuse_any set A cap fs _ _ ?_).mono ?_; (focus (refine (hA.below ?_).more ?_; (repeat' (first | (with_reducible exact Below.refl _ _) | (with_reducible assumption) | (with_reducible refine Below.drew ?_) | (with_reducible refine below_drewN ?_ _) | (with_reducible refine Below.setCell ?_ ?_ _) | (with_reducible refine Below.alloc ?_ ?_ _) | go_size | (exact Below.size (by assumption)) | (refine Below.trans ?_ (Below.mono (by assumption) ?_)))))); rintro e w3 ⟨rfl, hb3⟩; (first | replace hb3 := Below.un1 hb3 | replace hb3 := Below.un2 hb3 | skip); obtain ⟨hc3, hf3, hl3, hm3, hw3⟩ := bcell hb3; have hz3 := hb3.size; (try simp only [World.size_alloc, World.size_setCell] at hz3)))
  obtain ⟨⟨s0, s1⟩, hB⟩ := ‹(_ ∧ _) ∧ Below w.heap.size w w3›
  clear hc2 hf2 hl2 hm2 hw2 hb2 hc3 hf3 hl3 hm3 hw3 hb3
  by_cases he : askE ⟨set, fs⟩ (bookB ls) = 0
  · have H1 : Hid (pRightR ⟨set, fs⟩ ls = (rightD set fs ls [], 0)) := hid (by rw [HR.out, if_pos he])
    obtain ⟨hok, hbk⟩ := askE_zero he
    obtain ⟨hO, hs1, hs2⟩ := okFs_of hok
    obtain ⟨hl6, hlb⟩ := book_of hbk
    clear HR hok
    rw [he]
    clear he hbk
    go_wp2_with (go_at_call 71; refine (rightWithout_any set A L none cap lcap 0 fs ls [] _ hO ⟨hs1, hs2⟩ hl6 hlb ?_ ?_ (Arr.nil _ _ _) (by simp)).mono ?_; (focus (refine (hA.below ?_).more ?_; (repeat' (first | (with_reducible exact Below.refl _ _) | (with_reducible assumption) | (with_reducible refine Below.drew ?_) | (with_reducible refine below_drewN ?_ _) | (with_reducible refine Below.setCell ?_ ?_ _) | (with_reducible refine Below.alloc ?_ ?_ _) | go_size | (exact Below.size (by assumption)) | (refine Below.trans ?_ (Below.mono (by assumption) ?_)))))); (focus (refine (hL.below ?_).more ?_; (repeat' (first | (with_reducible exact Below.refl _ _) | (with_reducible assumption) | (with_reducible refine Below.drew ?_) | (with_reducible refine below_drewN ?_ _) | (with_reducible refine Below.setCell ?_ ?_ _) | (with_reducible refine Below.alloc ?_ ?_ _) | go_size | (exact Below.size (by assumption)) | (refine Below.trans ?_ (Below.mono (by assumption) ?_)))))); rintro e w4 ⟨rfl, hb4⟩; (first | replace hb4 := Below.un1 hb4 | replace hb4 := Below.un2 hb4 | skip); obtain ⟨hc4, hf4, hl4, hm4, hw4⟩ := bcell hb4; have hz4 := hb4.size; (try simp only [World.size_alloc, World.size_setCell] at hz4))
    go_ret2
    exact ⟨by rw [H1.out]; rfl, by (repeat' (first | (with_reducible exact Below.refl _ _) | (with_reducible assumption) | (with_reducible refine Below.drew ?_) | (with_reducible refine below_drewN ?_ _) | (with_reducible refine Below.setCell ?_ ?_ _) | (with_reducible refine Below.alloc ?_ ?_ _) | go_size | (exact Below.size (by assumption)) | (refine Below.trans ?_ (Below.mono (by assumption) ?_))))⟩
  · have H1 : Hid (pRightR ⟨set, fs⟩ ls = (false, askE ⟨set, fs⟩ (bookB ls))) := hid (by rw [HR.out, if_neg he])
    have ht : (askE ⟨set, fs⟩ (bookB ls) != 0) = true := by rw [bne_iff_ne]; exact he
    clear HR he
    go_wp2
    go_ret2
    exact ⟨by rw [H1.out]; rfl, by (repeat' (first | (with_reducible exact Below.refl _ _) | (with_reducible assumption) | (with_reducible refine Below.drew ?_) | (with_reducible refine below_drewN ?_ _) | (with_reducible refine Below.setCell ?_ ?_ _) | (with_reducible refine Below.alloc ?_ ?_ _) | go_size | (exact Below.size (by assumption)) | (refine Below.trans ?_ (Below.mono (by assumption) ?_))))⟩

def falseE (c : Ck) (ls : List Ln) : Int := if (pRightR c ls).2 = 0 then (if (pRightR c ls).1 then 0 else 12) else (pRightR c ls).2
theorem falseE_zero {c : Ck} {ls : List Ln} (h : falseE c ls = 0) : askE c (bookB ls) = 0 ∧ rightD c.set c.frs ls [] = true := by
  unfold falseE pRightR at h
  by_cases he : askE c (bookB ls) = 0
  · rw [if_pos he] at h
    refine ⟨he, ?_⟩
    revert h
    cases rightD c.set c.frs ls [] <;> simp
  · rw [if_neg he] at h
    simp only [if_neg he] at h
    exact absurd h he

set_option maxRecDepth 100000 in
set_option maxHeartbeats 4000000 in
theorem refuseFalse_any (set : Int) (A L : Option Addr) (cap lcap : Nat) (fs : List Fr) (ls : List Ln) (w : World) (hA : Arr w w.heap.size A (frosts fs)) (hL : Arr w w.heap.size L (lines ls)) (hl : ls.length ≤ 9223372036854775807) :
    Calls Try.prog 74 #[.agg #[.int .i64 set, .slice A fs.length cap], .slice L ls.length lcap] w fun e w' =>
      e = .returned (.int .i64 (falseE ⟨set, fs⟩ ls)) ∧ Below w.heap.size w w' := by
  have HR : Hid (falseE ⟨set, fs⟩ ls = if (pRightR ⟨set, fs⟩ ls).2 = 0 then (if (pRightR ⟨set, fs⟩ ls).1 then 0 else 12) else (pRightR ⟨set, fs⟩ ls).2) := hid rfl
  have hc := fun W (h1 : Arr W W.heap.size A (frosts fs)) (h2 : Arr W W.heap.size L (lines ls)) => pRight_any set A L cap lcap fs ls W h1 h2 hl
  generalize pRightR ⟨set, fs⟩ ls = r at *
  obtain ⟨b, e⟩ := r
  have HC := hid hc
  clear hc
  by_cases he : e = 0
  · subst he
    cases b
    all_goals
      go_enter Try.func74, Try.ntmps74
      go_wp2_with (go_at_call 25; refine (HC.out _ ?_ ?_).mono ?_; (focus (refine (hA.below ?_).more ?_; (repeat' (first | (with_reducible exact Below.refl _ _) | (with_reducible assumption) | (with_reducible refine Below.drew ?_) | (with_reducible refine below_drewN ?_ _) | (with_reducible refine Below.setCell ?_ ?_ _) | (with_reducible refine Below.alloc ?_ ?_ _) | go_size | (exact Below.size (by assumption)) | (refine Below.trans ?_ (Below.mono (by assumption) ?_)))))); (focus (refine (hL.below ?_).more ?_; (repeat' (first | (with_reducible exact Below.refl _ _) | (with_reducible assumption) | (with_reducible refine Below.drew ?_) | (with_reducible refine below_drewN ?_ _) | (with_reducible refine Below.setCell ?_ ?_ _) | (with_reducible refine Below.alloc ?_ ?_ _) | go_size | (exact Below.size (by assumption)) | (refine Below.trans ?_ (Below.mono (by assumption) ?_)))))); rintro e w4 ⟨rfl, hb4⟩; (first | replace hb4 := Below.un1 hb4 | replace hb4 := Below.un2 hb4 | skip); obtain ⟨hc4, hf4, hl4, hm4, hw4⟩ := bcell hb4; have hz4 := hb4.size; (try simp only [World.size_alloc, World.size_setCell] at hz4))
      go_ret
      exact ⟨ret_int (by rw [HR.out]; rfl), by (repeat' (first | (with_reducible exact Below.refl _ _) | (with_reducible assumption) | (with_reducible refine Below.drew ?_) | (with_reducible refine below_drewN ?_ _) | (with_reducible refine Below.setCell ?_ ?_ _) | (with_reducible refine Below.alloc ?_ ?_ _) | go_size | (exact Below.size (by assumption)) | (refine Below.trans ?_ (Below.mono (by assumption) ?_))))⟩
  · have h1 : (e == 0) = false := by rw [beq_eq_false_iff_ne]; exact he
    have HR2 : Hid (falseE ⟨set, fs⟩ ls = e) := hid (by rw [HR.out]; simp only; rw [if_neg he])
    clear he
    go_enter Try.func74, Try.ntmps74
    go_wp2_with (go_at_call 25; refine (HC.out _ ?_ ?_).mono ?_; (focus (refine (hA.below ?_).more ?_; (repeat' (first | (with_reducible exact Below.refl _ _) | (with_reducible assumption) | (with_reducible refine Below.drew ?_) | (with_reducible refine below_drewN ?_ _) | (with_reducible refine Below.setCell ?_ ?_ _) | (with_reducible refine Below.alloc ?_ ?_ _) | go_size | (exact Below.size (by assumption)) | (refine Below.trans ?_ (Below.mono (by assumption) ?_)))))); (focus (refine (hL.below ?_).more ?_; (repeat' (first | (with_reducible exact Below.refl _ _) | (with_reducible assumption) | (with_reducible refine Below.drew ?_) | (with_reducible refine below_drewN ?_ _) | (with_reducible refine Below.setCell ?_ ?_ _) | (with_reducible refine Below.alloc ?_ ?_ _) | go_size | (exact Below.size (by assumption)) | (refine Below.trans ?_ (Below.mono (by assumption) ?_)))))); rintro e w4 ⟨rfl, hb4⟩; (first | replace hb4 := Below.un1 hb4 | replace hb4 := Below.un2 hb4 | skip); obtain ⟨hc4, hf4, hl4, hm4, hw4⟩ := bcell hb4; have hz4 := hb4.size; (try simp only [World.size_alloc, World.size_setCell] at hz4))
    go_ret
    exact ⟨ret_int (by rw [HR2.out]), by (repeat' (first | (with_reducible exact Below.refl _ _) | (with_reducible assumption) | (with_reducible refine Below.drew ?_) | (with_reducible refine below_drewN ?_ _) | (with_reducible refine Below.setCell ?_ ?_ _) | (with_reducible refine Below.alloc ?_ ?_ _) | go_size | (exact Below.size (by assumption)) | (refine Below.trans ?_ (Below.mono (by assumption) ?_))))⟩

def pStoppedR (c : Ck) (ls : List Ln) : Sp × Int := if falseE c ls = 0 then (⟨(stopR c.set (coursesL c.set c.frs 4320 ls)).lo, (stopR c.set (coursesL c.set c.frs 4320 ls)).hi⟩, 0) else (zeroSp, falseE c ls)

set_option maxRecDepth 100000 in
set_option maxHeartbeats 4000000 in
theorem pStopped_any (set : Int) (A L : Option Addr) (cap lcap : Nat) (fs : List Fr) (ls : List Ln) (w : World) (hA : Arr w w.heap.size A (frosts fs)) (hL : Arr w w.heap.size L (lines ls)) (hl : ls.length ≤ 9223372036854775807) :
    Calls Try.prog 30 #[.agg #[.int .i64 set, .slice A fs.length cap], .slice L ls.length lcap] w fun e w' =>
      e = .returned (.tuple #[.agg #[.int .i64 (pStoppedR ⟨set, fs⟩ ls).1.lo, .int .i64 (pStoppedR ⟨set, fs⟩ ls).1.hi], .int .i64 (pStoppedR ⟨set, fs⟩ ls).2]) ∧ Below w.heap.size w w' := by
  have HR : Hid (pStoppedR ⟨set, fs⟩ ls = if falseE ⟨set, fs⟩ ls = 0 then (⟨(stopR set (coursesL set fs 4320 ls)).lo, (stopR set (coursesL set fs 4320 ls)).hi⟩, 0) else (zeroSp, falseE ⟨set, fs⟩ ls)) := hid rfl
  by_cases he : falseE ⟨set, fs⟩ ls = 0
  · have H1 : Hid (pStoppedR ⟨set, fs⟩ ls = (⟨(stopR set (coursesL set fs 4320 ls)).lo, (stopR set (coursesL set fs 4320 ls)).hi⟩, 0)) := hid (by rw [HR.out, if_pos he])
    obtain ⟨he', _⟩ := falseE_zero he
    obtain ⟨hok, hbk⟩ := askE_zero he'
    obtain ⟨hO, hs1, hs2⟩ := okFs_of hok
    obtain ⟨hl6, hlb⟩ := book_of hbk
    have HE := hid he
    clear HR hok he he' hbk
    go_enter Try.func30, Try.ntmps30
    go_wp2_with (first
      | (go_at_call 74; refine (refuseFalse_any set A L cap lcap fs ls _ ?_ ?_ hl).mono ?_; (focus (refine (hA.below ?_).more ?_; (repeat' (first | (with_reducible exact Below.refl _ _) | (with_reducible assumption) | (with_reducible refine Below.drew ?_) | (with_reducible refine below_drewN ?_ _) | (with_reducible refine Below.setCell ?_ ?_ _) | (with_reducible refine Below.alloc ?_ ?_ _) | go_size | (exact Below.size (by assumption)) | (refine Below.trans ?_ (Below.mono (by assumption) ?_)))))); (focus (refine (hL.below ?_).more ?_; (repeat' (first | (with_reducible exact Below.refl _ _) | (with_reducible assumption) | (with_reducible refine Below.drew ?_) | (with_reducible refine below_drewN ?_ _) | (with_reducible refine Below.setCell ?_ ?_ _) | (with_reducible refine Below.alloc ?_ ?_ _) | go_size | (exact Below.size (by assumption)) | (refine Below.trans ?_ (Below.mono (by assumption) ?_)))))); rw [HE.out]; rintro e w2 ⟨rfl, hb2⟩; (first | replace hb2 := Below.un1 hb2 | replace hb2 := Below.un2 hb2 | skip); obtain ⟨hc2, hf2, hl2, hm2, hw2⟩ := bcell hb2; have hz2 := hb2.size; (try simp only [World.size_alloc, World.size_setCell] at hz2))
      | (go_at_call 77; refine (stopped_any set A L cap lcap fs ls _ hO ⟨hs1, hs2⟩ hl6 hlb ?_ ?_).mono ?_; (focus (refine (hA.below ?_).more ?_; (repeat' (first | (with_reducible exact Below.refl _ _) | (with_reducible assumption) | (with_reducible refine Below.drew ?_) | (with_reducible refine below_drewN ?_ _) | (with_reducible refine Below.setCell ?_ ?_ _) | (with_reducible refine Below.alloc ?_ ?_ _) | go_size | (exact Below.size (by assumption)) | (refine Below.trans ?_ (Below.mono (by assumption) ?_)))))); (focus (refine (hL.below ?_).more ?_; (repeat' (first | (with_reducible exact Below.refl _ _) | (with_reducible assumption) | (with_reducible refine Below.drew ?_) | (with_reducible refine below_drewN ?_ _) | (with_reducible refine Below.setCell ?_ ?_ _) | (with_reducible refine Below.alloc ?_ ?_ _) | go_size | (exact Below.size (by assumption)) | (refine Below.trans ?_ (Below.mono (by assumption) ?_)))))); rintro e w4 ⟨rfl, hb4⟩; (first | replace hb4 := Below.un1 hb4 | replace hb4 := Below.un2 hb4 | skip); obtain ⟨hc4, hf4, hl4, hm4, hw4⟩ := bcell hb4; have hz4 := hb4.size; (try simp only [World.size_alloc, World.size_setCell] at hz4)))
    have q0 : Wr w4 (w.heap.size + 1) 0 := wr_below (wr_below (wr_new (by simp) (by simp)) hb2 (by simp)) hb4 (by have := hb2.size; simp at this; omega)
    have q1 : Wr w4 (w.heap.size + 1) 1 := wr_below (wr_below (wr_new (by simp) (by simp)) hb2 (by simp)) hb4 (by have := hb2.size; simp at this; omega)
    generalize stopR set (coursesL set fs 4320 ls) = T at *
    have s0' : ((w4.setCell ⟨w.heap.size + 1, 0, none⟩ (.int .i64 T.lo)).setCell ⟨w.heap.size + 1, 1, none⟩ (.int .i64 T.hi)).cell? ⟨w.heap.size + 1, 0, none⟩ = some (.int .i64 T.lo) :=
      (World.cell?_setCell_other _ _ _ _ (fun e => by cases e)).trans (World.cell?_setCell_same' _ _ _ q0.1)
    have s1' : ((w4.setCell ⟨w.heap.size + 1, 0, none⟩ (.int .i64 T.lo)).setCell ⟨w.heap.size + 1, 1, none⟩ (.int .i64 T.hi)).cell? ⟨w.heap.size + 1, 1, none⟩ = some (.int .i64 T.hi) :=
      World.cell?_setCell_same' _ _ _ (by rw [World.cell?_setCell_other _ _ _ _ (fun e => by cases e)]; exact q1.1)
    have sB' : Below w.heap.size w ((w4.setCell ⟨w.heap.size + 1, 0, none⟩ (.int .i64 T.lo)).setCell ⟨w.heap.size + 1, 1, none⟩ (.int .i64 T.hi)) := by (repeat' (first | (with_reducible exact Below.refl _ _) | (with_reducible assumption) | (with_reducible refine Below.drew ?_) | (with_reducible refine below_drewN ?_ _) | (with_reducible refine Below.setCell ?_ ?_ _) | (with_reducible refine Below.alloc ?_ ?_ _) | go_size | (exact Below.size (by assumption)) | (refine Below.trans ?_ (Below.mono (by assumption) ?_))))
    generalize (w4.setCell ⟨w.heap.size + 1, 0, none⟩ (.int .i64 T.lo)).setCell ⟨w.heap.size + 1, 1, none⟩ (.int .i64 T.hi) = V3 at *
    clear hc2 hf2 hl2 hm2 hw2 hc4 hf4 hl4 hm4 hw4
    simp [bodyPost, results, Try.results30, go_sem, s0', s1', H1.out, sB']
  · have H1 : Hid (pStoppedR ⟨set, fs⟩ ls = (zeroSp, falseE ⟨set, fs⟩ ls)) := hid (by rw [HR.out, if_neg he])
    have ht : (falseE ⟨set, fs⟩ ls != 0) = true := by rw [bne_iff_ne]; exact he
    clear HR he
    go_enter Try.func30, Try.ntmps30
    go_wp2_with (go_at_call 74; refine (refuseFalse_any set A L cap lcap fs ls _ ?_ ?_ hl).mono ?_; (focus (refine (hA.below ?_).more ?_; (repeat' (first | (with_reducible exact Below.refl _ _) | (with_reducible assumption) | (with_reducible refine Below.drew ?_) | (with_reducible refine below_drewN ?_ _) | (with_reducible refine Below.setCell ?_ ?_ _) | (with_reducible refine Below.alloc ?_ ?_ _) | go_size | (exact Below.size (by assumption)) | (refine Below.trans ?_ (Below.mono (by assumption) ?_)))))); (focus (refine (hL.below ?_).more ?_; (repeat' (first | (with_reducible exact Below.refl _ _) | (with_reducible assumption) | (with_reducible refine Below.drew ?_) | (with_reducible refine below_drewN ?_ _) | (with_reducible refine Below.setCell ?_ ?_ _) | (with_reducible refine Below.alloc ?_ ?_ _) | go_size | (exact Below.size (by assumption)) | (refine Below.trans ?_ (Below.mono (by assumption) ?_)))))); rintro e w2 ⟨rfl, hb2⟩; (first | replace hb2 := Below.un1 hb2 | replace hb2 := Below.un2 hb2 | skip); obtain ⟨hc2, hf2, hl2, hm2, hw2⟩ := bcell hb2; have hz2 := hb2.size; (try simp only [World.size_alloc, World.size_setCell] at hz2))
    simp [bodyPost, results, Try.results30, go_sem, H1.out, zeroSp, *]
    (repeat' (first | (with_reducible exact Below.refl _ _) | (with_reducible assumption) | (with_reducible refine Below.drew ?_) | (with_reducible refine below_drewN ?_ _) | (with_reducible refine Below.setCell ?_ ?_ _) | (with_reducible refine Below.alloc ?_ ?_ _) | go_size | (exact Below.size (by assumption)) | (refine Below.trans ?_ (Below.mono (by assumption) ?_))))

def pWrongR (c : Ck) (ls : List Ln) : List Int × Int := if askE c (bookB ls) = 0 then ((fewestL ls.length (rightD c.set c.frs ls)).getD [], 0) else ([], askE c (bookB ls))

set_option maxRecDepth 100000 in
set_option maxHeartbeats 4000000 in
theorem pWrong_any (set : Int) (A L : Option Addr) (cap lcap : Nat) (fs : List Fr) (ls : List Ln) (w : World) (hA : Arr w w.heap.size A (frosts fs)) (hL : Arr w w.heap.size L (lines ls)) (hl : ls.length ≤ 9223372036854775807) :
    Calls Try.prog 32 #[.agg #[.int .i64 set, .slice A fs.length cap], .slice L ls.length lcap] w fun e w' =>
      (∃ O ocap, e = .returned (.tuple #[.slice O (pWrongR ⟨set, fs⟩ ls).1.length ocap, .int .i64 (pWrongR ⟨set, fs⟩ ls).2]) ∧ ocap ≤ maxLen ∧ Arr w' w'.heap.size O (ints (pWrongR ⟨set, fs⟩ ls).1)) ∧ Below w.heap.size w w' := by
  have HR : Hid (pWrongR ⟨set, fs⟩ ls = if askE ⟨set, fs⟩ (bookB ls) = 0 then ((fewestL ls.length (rightD set fs ls)).getD [], 0) else ([], askE ⟨set, fs⟩ (bookB ls))) := hid rfl
  go_enter Try.func32, Try.ntmps32
  go_wp2
  go_region_held3 (fun w' => (w'.cell? ⟨w.heap.size, 0, none⟩ = some (.int .i64 set) ∧ w'.cell? ⟨w.heap.size, 1, none⟩ = some (.slice A fs.length cap)) ∧ Below w.heap.size w w') (((refine ⟨?_, ?_⟩; (focus (first | (simp [go_sem, wr_set, wr_drew, wr_drewN, wr_alloc, wr_new]; done) | (simp [go_sem, wr_set, wr_drew, wr_drewN, wr_alloc, wr_new, *]; done) | (simp (disch := go_size) [go_sem, wr_set, wr_drew, wr_drewN, wr_alloc, wr_new, *]; done))); (repeat' (first | (with_reducible exact Below.refl _ _) | (with_reducible assumption) | (with_reducible refine Below.drew ?_) | (with_reducible refine below_drewN ?_ _) | (with_reducible refine Below.setCell ?_ ?_ _) | (with_reducible refine Below.alloc ?_ ?_ _) | go_size | (exact Below.size (by assumption)) | (refine Below.trans ?_ (Below.mono (by assumption) ?_)))))))
    (first
      | (go_at_call 70; refine (pIsBook_all L lcap ls _ ?_ hl).mono ?_; (focus (refine (hL.below ?_).more ?_; (repeat' (first | (with_reducible exact Below.refl _ _) | (with_reducible assumption) | (with_reducible refine Below.drew ?_) | (with_reducible refine below_drewN ?_ _) | (with_reducible refine Below.setCell ?_ ?_ _) | (with_reducible refine Below.alloc ?_ ?_ _) | go_size | (exact Below.size (by assumption)) | (refine Below.trans ?_ (Below.mono (by assumption) ?_)))))); rintro e w2 ⟨rfl, hb2⟩; (first | replace hb2 := Below.un1 hb2 | replace hb2 := Below.un2 hb2 | skip); obtain ⟨hc2, hf2, hl2, hm2, hw2⟩ := bcell hb2; have hz2 := hb2.size; (try simp only [World.size_alloc, World.size_setCell] at hz2))
      | (go_at_call 55; refine (refuse_any set A cap fs _ _ ?_).mono ?_; (focus (refine (hA.below ?_).more ?_; (repeat' (first | (with_reducible exact Below.refl _ _) | (with_reducible assumption) | (with_reducible refine Below.drew ?_) | (with_reducible refine below_drewN ?_ _) | (with_reducible refine Below.setCell ?_ ?_ _) | (with_reducible refine Below.alloc ?_ ?_ _) | go_size | (exact Below.size (by assumption)) | (refine Below.trans ?_ (Below.mono (by assumption) ?_)))))); rintro e w3 ⟨rfl, hb3⟩; (first | replace hb3 := Below.un1 hb3 | replace hb3 := Below.un2 hb3 | skip); obtain ⟨hc3, hf3, hl3, hm3, hw3⟩ := bcell hb3; have hz3 := hb3.size; (try simp only [World.size_alloc, World.size_setCell] at hz3)))
  obtain ⟨⟨s0, s1⟩, hB⟩ := ‹(_ ∧ _) ∧ Below w.heap.size w w3›
  clear hc2 hf2 hl2 hm2 hw2 hb2 hc3 hf3 hl3 hm3 hw3 hb3
  by_cases he : askE ⟨set, fs⟩ (bookB ls) = 0
  · have H1 : Hid (pWrongR ⟨set, fs⟩ ls = ((fewestL ls.length (rightD set fs ls)).getD [], 0)) := hid (by rw [HR.out, if_pos he])
    obtain ⟨hok, hbk⟩ := askE_zero he
    obtain ⟨hO, hs1, hs2⟩ := okFs_of hok
    obtain ⟨hl6, hlb⟩ := book_of hbk
    have hfw := fun W (h1 : Arr W W.heap.size A (frosts fs)) (h2 : Arr W W.heap.size L (lines ls)) => fewest_any ls.length set A L cap lcap fs ls W hO ⟨hs1, hs2⟩ hl6 hlb (by omega) h1 h2
    unfold noteV at hfw
    have HF := hid hfw
    clear HR hok hfw
    rw [he]
    clear he hbk
    go_wp2_with (go_at_call 79; refine (HF.out _ ?_ ?_).mono ?_; (focus (refine (hA.below ?_).more ?_; (repeat' (first | (with_reducible exact Below.refl _ _) | (with_reducible assumption) | (with_reducible refine Below.drew ?_) | (with_reducible refine below_drewN ?_ _) | (with_reducible refine Below.setCell ?_ ?_ _) | (with_reducible refine Below.alloc ?_ ?_ _) | go_size | (exact Below.size (by assumption)) | (refine Below.trans ?_ (Below.mono (by assumption) ?_)))))); (focus (refine (hL.below ?_).more ?_; (repeat' (first | (with_reducible exact Below.refl _ _) | (with_reducible assumption) | (with_reducible refine Below.drew ?_) | (with_reducible refine below_drewN ?_ _) | (with_reducible refine Below.setCell ?_ ?_ _) | (with_reducible refine Below.alloc ?_ ?_ _) | go_size | (exact Below.size (by assumption)) | (refine Below.trans ?_ (Below.mono (by assumption) ?_)))))); rintro e w4 ⟨⟨O, oc, rfl, hoc, hOA⟩, hb4⟩)
    go_ret2
    refine ⟨⟨O, oc, ?_, hoc, ?_⟩, by (repeat' (first | (with_reducible exact Below.refl _ _) | (with_reducible assumption) | (with_reducible refine Below.drew ?_) | (with_reducible refine below_drewN ?_ _) | (with_reducible refine Below.setCell ?_ ?_ _) | (with_reducible refine Below.alloc ?_ ?_ _) | go_size | (exact Below.size (by assumption)) | (refine Below.trans ?_ (Below.mono (by assumption) ?_))))⟩
    · rw [H1.out]; rfl
    · rw [H1.out]; exact hOA
  · have H1 : Hid (pWrongR ⟨set, fs⟩ ls = ([], askE ⟨set, fs⟩ (bookB ls))) := hid (by rw [HR.out, if_neg he])
    have ht : (askE ⟨set, fs⟩ (bookB ls) != 0) = true := by rw [bne_iff_ne]; exact he
    clear HR he
    go_wp2
    go_ret2
    refine ⟨⟨none, 0, ?_, by unfold maxLen; omega, ?_⟩, by (repeat' (first | (with_reducible exact Below.refl _ _) | (with_reducible assumption) | (with_reducible refine Below.drew ?_) | (with_reducible refine below_drewN ?_ _) | (with_reducible refine Below.setCell ?_ ?_ _) | (with_reducible refine Below.alloc ?_ ?_ _) | go_size | (exact Below.size (by assumption)) | (refine Below.trans ?_ (Below.mono (by assumption) ?_))))⟩
    · rw [H1.out]; rfl
    · rw [H1.out]; exact Arr.nil _ _ _
end Go.Proofs.Ytnkbcapikenbbaa
