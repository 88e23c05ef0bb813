/- What the small functions of package clock return. -/
import Derived.Test.YtnkbcapikenbbaaB2
import Derived.Test.YtnkbcapikenbbaaN
import Derived.Deep.RegionHeld3
import Derived.Deep.DeepCutAuto
namespace Go.Proofs.Ytnkbcapikenbbaa
set_option linter.unusedSimpArgs false
set_option linter.unusedVariables false
open Go.RowKit
attribute [local go_sem high] cell_set_wr
attribute [local go_sem low] cell_wr frozen_wr
attribute [local go_sem] wr_set wr_drew wr_drewN wr_alloc wr_new

theorem within_any (n lo hi : Int) (w : World) :
    Calls Try.prog 56 #[.int .i64 n, .int .i64 lo, .int .i64 hi] w fun e w' => e = .returned (.bool (decide (lo ≤ n) && decide (n ≤ hi))) ∧ w = w' := by
  by_cases h : lo ≤ n
  all_goals
    go_enter Try.func56, Try.ntmps56
    go_wp2
    go_ret
    exact ⟨ret_bool (by first | (simp [h]; done) | (simp; omega)), rfl⟩

theorem isEmpty_any (lo hi : Int) (w : World) :
    Calls Try.prog 92 #[.agg #[.int .i64 lo, .int .i64 hi]] w fun e w' => e = .returned (.bool (decide (hi < lo))) ∧ Below w.heap.size w w' := by
  go_enter Try.func92, Try.ntmps92
  go_wp2
  go_ret
  exact ⟨rfl, by (repeat' (first | (with_reducible exact Below.refl _ _) | (with_reducible assumption) | (with_reducible refine Below.drew ?_) | (with_reducible refine below_drewN ?_ _) | (with_reducible refine Below.setCell ?_ ?_ _) | (with_reducible refine Below.alloc ?_ ?_ _) | go_size | (exact Below.size (by assumption)) | (refine Below.trans ?_ (Below.mono (by assumption) ?_))))⟩

theorem pMinutes_any (w : World) :
    Calls Try.prog 63 #[] w fun e w' => e = .returned (.agg #[.int .i64 0, .int .i64 4319]) ∧ Below w.heap.size w w' := by
  go_enter Try.func63, Try.ntmps63
  go_wp2
  go_returns
  exact ⟨rfl, by (repeat' (first | (with_reducible exact Below.refl _ _) | (with_reducible assumption) | (with_reducible refine Below.drew ?_) | (with_reducible refine below_drewN ?_ _) | (with_reducible refine Below.setCell ?_ ?_ _) | (with_reducible refine Below.alloc ?_ ?_ _) | go_size | (exact Below.size (by assumption)) | (refine Below.trans ?_ (Below.mono (by assumption) ?_))))⟩

theorem isSpan_any (lo hi : Int) (w : World) :
    Calls Try.prog 86 #[.agg #[.int .i64 lo, .int .i64 hi]] w fun e w' => e = .returned (.bool (minutesB ⟨lo, hi⟩)) ∧ Below w.heap.size w w' := by
  have HM : Hid (minutesB ⟨lo, hi⟩ = (decide (0 ≤ lo) && (decide (lo ≤ hi) && decide (hi ≤ 4319)))) := hid rfl
  by_cases h : 0 ≤ lo
  by_cases h' : lo ≤ hi
  all_goals
    go_enter Try.func86, Try.ntmps86
    go_wp2
    go_ret
    exact ⟨ret_bool (by rw [HM.out]; first | (simp [*]; done) | (simp [*]; omega)), by (repeat' (first | (with_reducible exact Below.refl _ _) | (with_reducible assumption) | (with_reducible refine Below.drew ?_) | (with_reducible refine below_drewN ?_ _) | (with_reducible refine Below.setCell ?_ ?_ _) | (with_reducible refine Below.alloc ?_ ?_ _) | go_size | (exact Below.size (by assumption)) | (refine Below.trans ?_ (Below.mono (by assumption) ?_))))⟩

theorem isNarrow_any (lo hi : Int) (w : World) :
    Calls Try.prog 61 #[.agg #[.int .i64 lo, .int .i64 hi]] w fun e w' => e = .returned (.bool (nearB ⟨lo, hi⟩)) ∧ Below w.heap.size w w' := by
  have HN : Hid (nearB ⟨lo, hi⟩ = (minutesB ⟨lo, hi⟩ && decide (hi - lo ≤ 3))) := hid rfl
  cases hm : minutesB ⟨lo, hi⟩
  · have HM := hid hm
    go_enter Try.func61, Try.ntmps61
    go_wp2_with (go_at_call 86; refine (isSpan_any _ _ _).mono ?_; rintro e w1 ⟨rfl, hb1⟩; (first | replace hb1 := Below.un1 hb1 | replace hb1 := Below.un2 hb1 | skip); obtain ⟨hc1, hf1, hl1, hm1, hw1⟩ := bcell hb1; have hz1 := hb1.size; (try simp only [World.size_alloc, World.size_setCell] at hz1))
    go_ret
    exact ⟨ret_bool (by rw [HN.out, HM.out]; rfl), by (repeat' (first | (with_reducible exact Below.refl _ _) | (with_reducible assumption) | (with_reducible refine Below.drew ?_) | (with_reducible refine below_drewN ?_ _) | (with_reducible refine Below.setCell ?_ ?_ _) | (with_reducible refine Below.alloc ?_ ?_ _) | go_size | (exact Below.size (by assumption)) | (refine Below.trans ?_ (Below.mono (by assumption) ?_))))⟩
  · have HM := hid hm
    have h0 : 0 ≤ lo ∧ lo ≤ hi ∧ hi ≤ 4319 := by simpa [minutesB] using hm
    obtain ⟨h1, h2, h3⟩ := h0
    go_enter Try.func61, Try.ntmps61
    go_wp2_with (go_at_call 86; refine (isSpan_any _ _ _).mono ?_; rintro e w1 ⟨rfl, hb1⟩; (first | replace hb1 := Below.un1 hb1 | replace hb1 := Below.un2 hb1 | skip); obtain ⟨hc1, hf1, hl1, hm1, hw1⟩ := bcell hb1; have hz1 := hb1.size; (try simp only [World.size_alloc, World.size_setCell] at hz1))
    go_ret
    exact ⟨ret_bool (by rw [HN.out, HM.out]; rfl), by (repeat' (first | (with_reducible exact Below.refl _ _) | (with_reducible assumption) | (with_reducible refine Below.drew ?_) | (with_reducible refine below_drewN ?_ _) | (with_reducible refine Below.setCell ?_ ?_ _) | (with_reducible refine Below.alloc ?_ ?_ _) | go_size | (exact Below.size (by assumption)) | (refine Below.trans ?_ (Below.mono (by assumption) ?_))))⟩

/-- the greater of two numbers: the variadic function called with one number more -/
theorem greatest_any {B : Nat} (A : Option Addr) (c : Nat) (x y : Int) (w : World) (hA : Arr w B A [.int .i64 y]) :
    Calls Try.prog 93 #[.int .i64 x, .slice A 1 c] w fun e w' => e = .returned (.int .i64 (max x y)) ∧ w = w' := by
  obtain ⟨b, o, rfl, _, hc⟩ := hA (by simp)
  have c0 : w.cell? ⟨b, o, none⟩ = some (.int .i64 y) := by have := hc 0 _ rfl; rwa [Nat.add_zero] at this
  clear hc hA
  by_cases h : x < y
  · have hm : Hid (max x y = y) := hid (by omega)
    go_enter Try.func93, Try.ntmps93
    go_wp2
    go_rounds 2
    go_ret
    exact ⟨ret_int (by rw [hm.out]), rfl⟩
  · have hm : Hid (max x y = x) := hid (by omega)
    go_enter Try.func93, Try.ntmps93
    go_wp2
    go_rounds 2
    go_ret
    exact ⟨ret_int (by rw [hm.out]), rfl⟩

theorem greatest_at (b o c : Nat) (x y : Int) (w : World) (hc : w.cell? ⟨b, o, none⟩ = some (.int .i64 y)) :
    Calls Try.prog 93 #[.int .i64 x, .slice (some ⟨b, o, none⟩) 1 c] w fun e w' => e = .returned (.int .i64 (max x y)) ∧ w = w' :=
  greatest_any (some ⟨b, o, none⟩) c x y w (arr_one w b o _ hc)

theorem cut_eq (lo hi m a b : Int) (ha : a = min lo m) (hb : b = min hi m) (h : a = b) : (cutF ⟨lo, hi⟩ m) = ⟨0, 0⟩ := by
  unfold cutF; rw [if_pos (by show min lo m = min hi m; omega)]
theorem cut_ne (lo hi m a b : Int) (ha : a = min lo m) (hb : b = min hi m) (h : a ≠ b) : (cutF ⟨lo, hi⟩ m) = ⟨a, b⟩ := by
  unfold cutF; rw [if_neg (by show ¬ min lo m = min hi m; omega), ha, hb]

theorem before_any (lo hi m : Int) (w : World) :
    Calls Try.prog 99 #[.agg #[.int .i64 lo, .int .i64 hi], .int .i64 m] w fun e w' => e = .returned (.agg #[.int .i64 (cutF ⟨lo, hi⟩ m).lo, .int .i64 (cutF ⟨lo, hi⟩ m).hi]) ∧ Below w.heap.size w w' := by
  by_cases h1 : m < lo
  · by_cases h2 : m < hi
    · have HC := hid (cut_eq lo hi m m m (by omega) (by omega) rfl)
      go_enter Try.func99, Try.ntmps99
      go_wp2
      simp [bodyPost, results, Try.results99, go_sem, HC.out]
      (repeat' (first | (with_reducible exact Below.refl _ _) | (with_reducible assumption) | (with_reducible refine Below.drew ?_) | (with_reducible refine below_drewN ?_ _) | (with_reducible refine Below.setCell ?_ ?_ _) | (with_reducible refine Below.alloc ?_ ?_ _) | go_size | (exact Below.size (by assumption)) | (refine Below.trans ?_ (Below.mono (by assumption) ?_))))
    · by_cases h3 : m = hi
      · have HC := hid (cut_eq lo hi m m hi (by omega) (by omega) h3)
        have h4 := beq_iff_eq.2 h3
        clear h3
        go_enter Try.func99, Try.ntmps99
        go_wp2
        simp [bodyPost, results, Try.results99, go_sem, HC.out]
        (repeat' (first | (with_reducible exact Below.refl _ _) | (with_reducible assumption) | (with_reducible refine Below.drew ?_) | (with_reducible refine below_drewN ?_ _) | (with_reducible refine Below.setCell ?_ ?_ _) | (with_reducible refine Below.alloc ?_ ?_ _) | go_size | (exact Below.size (by assumption)) | (refine Below.trans ?_ (Below.mono (by assumption) ?_))))
      · have HC := hid (cut_ne lo hi m m hi (by omega) (by omega) h3)
        have h4 := beq_eq_false_iff_ne.2 h3
        clear h3
        go_enter Try.func99, Try.ntmps99
        go_wp2
        simp [bodyPost, results, Try.results99, go_sem, HC.out]
        (repeat' (first | (with_reducible exact Below.refl _ _) | (with_reducible assumption) | (with_reducible refine Below.drew ?_) | (with_reducible refine below_drewN ?_ _) | (with_reducible refine Below.setCell ?_ ?_ _) | (with_reducible refine Below.alloc ?_ ?_ _) | go_size | (exact Below.size (by assumption)) | (refine Below.trans ?_ (Below.mono (by assumption) ?_))))
  · by_cases h2 : m < hi
    · by_cases h3 : lo = m
      · have HC := hid (cut_eq lo hi m lo m (by omega) (by omega) h3)
        have h4 := beq_iff_eq.2 h3
        clear h3
        go_enter Try.func99, Try.ntmps99
        go_wp2
        simp [bodyPost, results, Try.results99, go_sem, HC.out]
        (repeat' (first | (with_reducible exact Below.refl _ _) | (with_reducible assumption) | (with_reducible refine Below.drew ?_) | (with_reducible refine below_drewN ?_ _) | (with_reducible refine Below.setCell ?_ ?_ _) | (with_reducible refine Below.alloc ?_ ?_ _) | go_size | (exact Below.size (by assumption)) | (refine Below.trans ?_ (Below.mono (by assumption) ?_))))
      · have HC := hid (cut_ne lo hi m lo m (by omega) (by omega) h3)
        have h4 := beq_eq_false_iff_ne.2 h3
        clear h3
        go_enter Try.func99, Try.ntmps99
        go_wp2
        simp [bodyPost, results, Try.results99, go_sem, HC.out]
        (repeat' (first | (with_reducible exact Below.refl _ _) | (with_reducible assumption) | (with_reducible refine Below.drew ?_) | (with_reducible refine below_drewN ?_ _) | (with_reducible refine Below.setCell ?_ ?_ _) | (with_reducible refine Below.alloc ?_ ?_ _) | go_size | (exact Below.size (by assumption)) | (refine Below.trans ?_ (Below.mono (by assumption) ?_))))
    · by_cases h3 : lo = hi
      · have HC := hid (cut_eq lo hi m lo hi (by omega) (by omega) h3)
        have h4 := beq_iff_eq.2 h3
        clear h3
        go_enter Try.func99, Try.ntmps99
        go_wp2
        simp [bodyPost, results, Try.results99, go_sem, HC.out]
        (repeat' (first | (with_reducible exact Below.refl _ _) | (with_reducible assumption) | (with_reducible refine Below.drew ?_) | (with_reducible refine below_drewN ?_ _) | (with_reducible refine Below.setCell ?_ ?_ _) | (with_reducible refine Below.alloc ?_ ?_ _) | go_size | (exact Below.size (by assumption)) | (refine Below.trans ?_ (Below.mono (by assumption) ?_))))
      · have HC := hid (cut_ne lo hi m lo hi (by omega) (by omega) h3)
        have h4 := beq_eq_false_iff_ne.2 h3
        clear h3
        go_enter Try.func99, Try.ntmps99
        go_wp2
        simp [bodyPost, results, Try.results99, go_sem, HC.out]
        (repeat' (first | (with_reducible exact Below.refl _ _) | (with_reducible assumption) | (with_reducible refine Below.drew ?_) | (with_reducible refine below_drewN ?_ _) | (with_reducible refine Below.setCell ?_ ?_ _) | (with_reducible refine Below.alloc ?_ ?_ _) | go_size | (exact Below.size (by assumption)) | (refine Below.trans ?_ (Below.mono (by assumption) ?_))))
end Go.Proofs.Ytnkbcapikenbbaa
