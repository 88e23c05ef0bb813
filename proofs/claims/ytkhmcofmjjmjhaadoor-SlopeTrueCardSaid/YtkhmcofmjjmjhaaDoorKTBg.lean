/- clavendierref00's functions, for any seat. -/
import Derived.Test.YtkhmcofmjjmjhaaDoorKTMm
import Derived.WalkKit
import Derived.WalkSpells
import Derived.WalkLawsBesides
import Derived.LoopTactic
import Derived.Handy
import Derived.Deep.QuietTactic
import Derived.BigQuiet
namespace Go.Proofs.YtkhmcofmjjmjhaaDoor
set_option linter.unusedSimpArgs false
set_option linter.unusedVariables false
open Go.RowKit
theorem between_any (n lo hi : Int) (w : World) :
    Calls Tryd.prog 48 #[.int .i64 n, .int .i64 lo, .int .i64 hi] w fun e w' =>
     e = .returned (.bool (decide (lo ≤ n) && decide (n ≤ hi))) ∧ w = w' := by
 by_cases h : lo ≤ n
 all_goals
  go_enter Tryd.func48, Tryd.ntmps48
  go_wp2
  go_ret
  exact ⟨ret_bool (by first | (simp [h]; done) | (simp; omega)), rfl⟩
theorem to_any (lo hi : Int) (w : World) :
    Calls Tryd.prog 54 #[.int .i64 lo, .int .i64 hi] w fun e w' =>
     e = .returned (.agg #[.int .i64 lo, .int .i64 hi]) ∧ Below w.heap.size w w' := by
 go_enter Tryd.func54, Tryd.ntmps54
 go_wp2
 go_returns
 exact ⟨rfl, by (repeat' (first | (with_reducible exact Below.refl _ _) | (with_reducible assumption) | (with_reducible refine Below.drew ?_) | (with_reducible refine below_drewN ?_ _) | (with_reducible refine Below.setCell ?_ ?_ _) | (with_reducible refine Below.alloc ?_ ?_ _) | go_size | (exact Below.size (by assumption)) | (refine Below.trans ?_ (Below.mono (by assumption) ?_))))⟩
theorem one_any (n : Int) (w : World) :
    Calls Tryd.prog 43 #[.int .i64 n] w fun e w' => e = .returned (.agg #[.int .i64 n, .int .i64 n]) ∧ Below w.heap.size w w' := by
 go_enter Tryd.func43, Tryd.ntmps43
 go_wp2_with (go_at_call 54; refine (to_any _ _ _).mono ?_; rintro e w1 ⟨rfl, hb1⟩; (first | replace hb1 := Below.un1 hb1 | replace hb1 := Below.un2 hb1 | skip); obtain ⟨hc1, hf1, hl1, hm1, hw1⟩ := bcell hb1; have hz1 := hb1.size; (try simp only [World.size_alloc, World.size_setCell] at hz1))
 simp [bodyPost, results, Tryd.results43, go_sem, hc1, hf1]
 (repeat' (first | (with_reducible exact Below.refl _ _) | (with_reducible assumption) | (with_reducible refine Below.drew ?_) | (with_reducible refine below_drewN ?_ _) | (with_reducible refine Below.setCell ?_ ?_ _) | (with_reducible refine Below.alloc ?_ ?_ _) | go_size | (exact Below.size (by assumption)) | (refine Below.trans ?_ (Below.mono (by assumption) ?_))))
theorem take_eq_step {α : Type} {a b : List α} {k : Nat} (ha : k < a.length) (hb : k < b.length) (h : a.take k = b.take k) (he : a[k] = b[k]) : a.take (k + 1) = b.take (k + 1) := by
 rw [List.take_succ_eq_append_getElem ha, List.take_succ_eq_append_getElem hb, h, he]
theorem bequal_any (A B : Option Addr) (n m : Nat) (a b : List Int) (w : World) (hA : Arr w w.heap.size A (ints a)) (hB : Arr w w.heap.size B (ints b)) (hn : a.length ≤ 9223372036854775807) :
    Calls Tryd.prog 25 #[.slice A a.length n, .slice B b.length m] w fun e w' => e = .returned (.bool (decide (a = b))) ∧ Below w.heap.size w w' := by
 by_cases hl : a.length = b.length
 ·have Hl := hid hl
  have hl' : ((a.length : Int) != (b.length : Int)) = false := by simp [hl]
  clear hl
  go_enter Tryd.func25, Tryd.ntmps25
  go_wp2
  go_loopw [5] (fun i wr => ∃ k : Nat, k ≤ a.length ∧ i = .int .i64 k ∧ Hid (a.take k = b.take k) ∧ ∃ n, wr = w.drewN n) (fun i _ => a.length - (intOf i).toNat)
  case atStart => exact ⟨0, Nat.zero_le _, rfl, hid (by simp), 0, rfl⟩
  case round =>
   obtain ⟨k, hk, rfl, HT, nd, rfl⟩ := hrel
   by_cases hlt : k < a.length
   ·have hlb : k < b.length := by have := Hl.out; omega
    obtain ⟨ba, oa, rfl, _, ca⟩ := hA.int hlt
    obtain ⟨bb, ob, rfl, _, cb⟩ := hB.int hlb
    clear hA hB
    by_cases he : a[k] = b[k]
    ·have HE := hid he
     have he' : (a[k] != b[k]) = false := by simp [he]
     clear he
     go_wp2
     go_quiet (fail)
     go_wp2
     exact ⟨⟨k + 1, by omega, by go_num, hid (take_eq_step hlt hlb HT.out HE.out), _, rfl⟩, by simp [intOf]; omega⟩
    ·have HE := hid he
     have he' : (a[k] != b[k]) = true := by simp [he]
     clear he
     go_wp2
     go_quiet (fail)
     go_wp2
     go_ret
     exact ⟨ret_bool (by rw [decide_eq_false (fun h => HE.out (by simp [h]))]), by (repeat' (first | (with_reducible exact Below.refl _ _) | (with_reducible assumption) | (with_reducible refine Below.drew ?_) | (with_reducible refine below_drewN ?_ _) | (with_reducible refine Below.setCell ?_ ?_ _) | (with_reducible refine Below.alloc ?_ ?_ _) | go_size | (exact Below.size (by assumption)) | (refine Below.trans ?_ (Below.mono (by assumption) ?_))))⟩
   ·obtain rfl : k = a.length := by omega
    go_wp2
    go_ret
    exact ⟨ret_bool (by rw [decide_eq_true]; have h := HT.out; rw [List.take_length] at h; rw [h, Hl.out, List.take_length]), by (repeat' (first | (with_reducible exact Below.refl _ _) | (with_reducible assumption) | (with_reducible refine Below.drew ?_) | (with_reducible refine below_drewN ?_ _) | (with_reducible refine Below.setCell ?_ ?_ _) | (with_reducible refine Below.alloc ?_ ?_ _) | go_size | (exact Below.size (by assumption)) | (refine Below.trans ?_ (Below.mono (by assumption) ?_))))⟩
 ·have Hl := hid hl
  have hl' : ((a.length : Int) != (b.length : Int)) = true := by simp; omega
  clear hl
  go_enter Tryd.func25, Tryd.ntmps25
  go_wp2
  go_ret
  exact ⟨ret_bool (by rw [decide_eq_false (fun h => Hl.out (by rw [h]))]), by (repeat' (first | (with_reducible exact Below.refl _ _) | (with_reducible assumption) | (with_reducible refine Below.drew ?_) | (with_reducible refine below_drewN ?_ _) | (with_reducible refine Below.setCell ?_ ?_ _) | (with_reducible refine Below.alloc ?_ ?_ _) | go_size | (exact Below.size (by assumption)) | (refine Below.trans ?_ (Below.mono (by assumption) ?_))))⟩
def nthI (l : List Int) (n : Int) : Int := if l.length = 0 then 0 else l.getD (n % l.length).toNat 0
def atI (l : List Int) (n : Int) : Int := match l with
 | [] => -1
 | x :: r => if x = n then 0 else if atI r n < 0 then -1 else atI r n + 1
theorem spans_any (lo hi a z : Int) (w : World) :
    Calls Tryd.prog 44 #[.agg #[.int .i64 lo, .int .i64 hi], .int .i64 a, .int .i64 z] w fun e w' =>
     e = .returned (.bool (decide (a ≤ lo) && (decide (lo ≤ hi) && decide (hi ≤ z)))) ∧ Below w.heap.size w w' := by
 by_cases h : a ≤ lo
 by_cases h' : lo ≤ hi
 all_goals
  go_enter Tryd.func44, Tryd.ntmps44
  go_wp2
  go_ret
  exact ⟨ret_bool (by first | (simp [*]; done) | (simp [*]; omega)), by (repeat' (first | (with_reducible exact Below.refl _ _) | (with_reducible assumption) | (with_reducible refine Below.drew ?_) | (with_reducible refine below_drewN ?_ _) | (with_reducible refine Below.setCell ?_ ?_ _) | (with_reducible refine Below.alloc ?_ ?_ _) | go_size | (exact Below.size (by assumption)) | (refine Below.trans ?_ (Below.mono (by assumption) ?_))))⟩
theorem in_any (n lo hi : Int) (w : World) :
    Calls Tryd.prog 38 #[.int .i64 n, .agg #[.int .i64 lo, .int .i64 hi]] w fun e w' =>
     e = .returned (.bool (decide (lo ≤ n) && decide (n ≤ hi))) ∧ Below w.heap.size w w' := by
 go_enter Tryd.func38, Tryd.ntmps38
 go_wp2_with (go_at_call 48; refine (between_any _ _ _ _).mono ?_; rintro e w1 ⟨rfl, rfl⟩)
 go_ret
 exact ⟨rfl, by (repeat' (first | (with_reducible exact Below.refl _ _) | (with_reducible assumption) | (with_reducible refine Below.drew ?_) | (with_reducible refine below_drewN ?_ _) | (with_reducible refine Below.setCell ?_ ?_ _) | (with_reducible refine Below.alloc ?_ ?_ _) | go_size | (exact Below.size (by assumption)) | (refine Below.trans ?_ (Below.mono (by assumption) ?_))))⟩
theorem void_any (lo hi : Int) (w : World) :
    Calls Tryd.prog 92 #[.agg #[.int .i64 lo, .int .i64 hi]] w fun e w' =>
     e = .returned (.bool (decide (hi < lo))) ∧ Below w.heap.size w w' := by
 go_enter Tryd.func92, Tryd.ntmps92
 go_wp2
 go_ret
 exact ⟨rfl, by (repeat' (first | (with_reducible exact Below.refl _ _) | (with_reducible assumption) | (with_reducible refine Below.drew ?_) | (with_reducible refine below_drewN ?_ _) | (with_reducible refine Below.setCell ?_ ?_ _) | (with_reducible refine Below.alloc ?_ ?_ _) | go_size | (exact Below.size (by assumption)) | (refine Below.trans ?_ (Below.mono (by assumption) ?_))))⟩
/-- Wind: the remainder that is not below 0 -/
def windI (n b : Int) : Int := if b ≤ 0 then 0 else n % b
theorem windI_range (n b : Int) (h : 0 < b) : 0 ≤ windI n b ∧ windI n b < b := by
 unfold windI; rw [if_neg (by omega)]; exact ⟨Int.emod_nonneg _ (by omega), Int.emod_lt_of_pos _ h⟩
theorem tmod_facts (n b : Int) (h : 0 < b) : -b < n.tmod b ∧ n.tmod b < b ∧ (n.tmod b < 0 → n.tmod b + b = n % b) ∧ (0 ≤ n.tmod b → n.tmod b = n % b) := by
 have h1 := Int.tmod_eq_emod (a := n) (b := b)
 have h2 := Int.emod_nonneg n (show b ≠ 0 by omega)
 have h3 := Int.emod_lt_of_pos n h
 split at h1 <;> (refine ⟨?_, ?_, ?_, ?_⟩ <;> omega)
theorem wind_any (n b : Int) (hb : b ≤ 9223372036854775807) (w : World) :
    Calls Tryd.prog 40 #[.int .i64 n, .int .i64 b] w fun e w' => e = .returned (.int .i64 (windI n b)) ∧ w = w' := by
 by_cases h : b ≤ 0
 ·go_enter Tryd.func40, Tryd.ntmps40
  go_wp2
  go_ret
  exact ⟨ret_int (by unfold windI; rw [if_pos h]), rfl⟩
 ·obtain ⟨h1, h2, h3, h4⟩ := tmod_facts n b (by omega)
  have H3 := hid h3
  have H4 := hid h4
  clear h3 h4
  by_cases h5 : n.tmod b < 0
  all_goals
   go_enter Tryd.func40, Tryd.ntmps40
   go_wp2
   go_ret
   exact ⟨ret_int (by unfold windI; rw [if_neg (by omega)]; first | exact H3.out (by omega) | exact H4.out (by omega)), rfl⟩
theorem nth_any (A : Option Addr) (n : Nat) (l : List Int) (i : Int) (w : World) (hA : Arr w w.heap.size A (ints l)) (hn : l.length ≤ 9223372036854775807) :
    Calls Tryd.prog 78 #[.slice A l.length n, .int .i64 i] w fun e w' => e = .returned (.int .i64 (nthI l i)) ∧ Below w.heap.size w w' := by
 by_cases h0 : l.length = 0
 ·have H0 := hid h0
  have h1 : ((l.length : Int) == 0) = true := by simp [h0]
  clear h0
  go_enter Tryd.func78, Tryd.ntmps78
  go_wp2
  go_ret
  exact ⟨ret_int (by unfold nthI; rw [if_pos H0.out]), by (repeat' (first | (with_reducible exact Below.refl _ _) | (with_reducible assumption) | (with_reducible refine Below.drew ?_) | (with_reducible refine below_drewN ?_ _) | (with_reducible refine Below.setCell ?_ ?_ _) | (with_reducible refine Below.alloc ?_ ?_ _) | go_size | (exact Below.size (by assumption)) | (refine Below.trans ?_ (Below.mono (by assumption) ?_))))⟩
 ·have h1 : ((l.length : Int) == 0) = false := by rw [beq_eq_false_iff_ne]; omega
  obtain ⟨r1, r2⟩ := windI_range i l.length (by omega)
  have HW : Hid (nthI l i = l.getD (windI i l.length).toNat 0) := hid (by unfold nthI windI; rw [if_neg h0, if_neg (show ¬ ((l.length : Int) ≤ 0) by omega)])
  obtain ⟨b, o, rfl, _, hc⟩ := hA.int (k := (windI i l.length).toNat) (by omega)
  have HD : Hid (l.getD (windI i l.length).toNat 0 = l[(windI i l.length).toNat]'(by omega)) := hid (by rw [List.getD_eq_getElem?_getD, List.getElem?_eq_getElem (by omega)]; rfl)
  have h0' := hid h0
  clear h0 hA
  go_enter Tryd.func78, Tryd.ntmps78
  go_wp2_with (go_at_call 40; refine (wind_any _ _ (by omega) _).mono ?_; rintro e w1 ⟨rfl, rfl⟩)
  go_ret
  exact ⟨ret_int (by rw [HW.out, HD.out]), by (repeat' (first | (with_reducible exact Below.refl _ _) | (with_reducible assumption) | (with_reducible refine Below.drew ?_) | (with_reducible refine below_drewN ?_ _) | (with_reducible refine Below.setCell ?_ ?_ _) | (with_reducible refine Below.alloc ?_ ?_ _) | go_size | (exact Below.size (by assumption)) | (refine Below.trans ?_ (Below.mono (by assumption) ?_))))⟩
theorem some_any (lo hi i : Int) (w : World) (h1 : -1000000000000 ≤ lo) (h2 : hi ≤ 1000000000000) (h3 : lo ≤ hi) :
    Calls Tryd.prog 77 #[.agg #[.int .i64 lo, .int .i64 hi], .int .i64 i] w fun e w' => e = .returned (.int .i64 (lo + windI i (hi - lo + 1))) ∧ Below w.heap.size w w' := by
 obtain ⟨r1, r2⟩ := windI_range i (hi - lo + 1) (by omega)
 go_enter Tryd.func77, Tryd.ntmps77
 go_wp2_with (first
  | (go_at_call 92; refine (void_any _ _ _).mono ?_; rintro e w1 ⟨rfl, hb1⟩; (first | replace hb1 := Below.un1 hb1 | replace hb1 := Below.un2 hb1 | skip); obtain ⟨hc1, hf1, hl1, hm1, hw1⟩ := bcell hb1; have hz1 := hb1.size; (try simp only [World.size_alloc, World.size_setCell] at hz1))
  | (go_at_call 40; refine (wind_any _ _ (by omega) _).mono ?_; rintro e w2 ⟨rfl, rfl⟩))
 go_quiet ((go_at_call 40; exact Calls.quiet_of_same ((wind_any _ _ (by omega) _).mono fun _ _ h => ⟨h.1, h.2.symm⟩)))
 go_wp2
 go_ret
 exact ⟨rfl, by (repeat' (first | (with_reducible exact Below.refl _ _) | (with_reducible assumption) | (with_reducible refine Below.drew ?_) | (with_reducible refine below_drewN ?_ _) | (with_reducible refine Below.setCell ?_ ?_ _) | (with_reducible refine Below.alloc ?_ ?_ _) | go_size | (exact Below.size (by assumption)) | (refine Below.trans ?_ (Below.mono (by assumption) ?_))))⟩
theorem atI_lt (l : List Int) (n : Int) : -1 ≤ atI l n ∧ atI l n < l.length := by
 induction l with
 | nil => simp [atI]
 | cons x r ih =>
  unfold atI
  simp only [List.length_cons]
  split
  ·omega
  ·split <;> omega
theorem atI_drop (l : List Int) (n : Int) (k : Nat) (hk : k < l.length) : atI (l.drop k) n = if l[k] = n then 0 else if atI (l.drop (k + 1)) n < 0 then -1 else atI (l.drop (k + 1)) n + 1 := by
 rw [List.drop_eq_getElem_cons hk]; rfl
/-- what At has found when the elements from k on have been looked at -/
def atFrom (l : List Int) (n : Int) (k : Nat) : Int := if atI (l.drop k) n < 0 then -1 else atI (l.drop k) n + k
theorem at_any (A : Option Addr) (n : Nat) (l : List Int) (i : Int) (w : World) (hA : Arr w w.heap.size A (ints l)) (hn : l.length ≤ 9223372036854775807) :
    Calls Tryd.prog 39 #[.slice A l.length n, .int .i64 i] w fun e w' => e = .returned (.int .i64 (atI l i)) ∧ Below w.heap.size w w' := by
 go_enter Tryd.func39, Tryd.ntmps39
 go_wp2
 go_loop [5, 6] (fun at_ j => ∃ k : Nat, k ≤ l.length ∧ j = .int .i64 ((k : Int) - 1) ∧ at_ = .int .i64 (atFrom l i k)) (fun _ j => (intOf j + 1).toNat)
 case atStart => exact ⟨l.length, Nat.le_refl _, by first | rfl | simp, by simp [atFrom, atI]⟩
 case round =>
  obtain ⟨k, hk, rfl, rfl⟩ := hrel
  by_cases hlt : 0 < k
  ·obtain ⟨j, rfl⟩ : ∃ j, k = j + 1 := ⟨k - 1, by omega⟩
   have hjl : j < l.length := by omega
   obtain ⟨b, o, rfl, _, hc⟩ := hA.int hjl
   have HD := hid (atI_drop l i j hjl)
   have ej : ((j + 1 : Nat) : Int) - 1 = j := by omega
   clear hA
   by_cases he : l[j] = i
   ·have he' : (l[j] == i) = true := by simp [he]
    have HE := hid he
    clear he
    rw [ej]
    clear ej
    go_wp2
    exact ⟨⟨j, by omega, rfl, by unfold atFrom; rw [HD.out, if_pos HE.out]; simp⟩, by simp [intOf]⟩
   ·have he' : (l[j] == i) = false := by simp [he]
    have HE := hid he
    clear he
    rw [ej]
    clear ej
    go_wp2
    have hr := atI_lt (l.drop (j + 1)) i
    refine ⟨⟨j, by omega, rfl, ?_⟩, by simp [intOf]⟩
    unfold atFrom; rw [HD.out, if_neg HE.out]
    congr 1
    split <;> split <;> omega
  ·obtain rfl : k = 0 := by omega
   go_wp2
   go_ret
   refine ⟨ret_int ?_, by (repeat' (first | (with_reducible exact Below.refl _ _) | (with_reducible assumption) | (with_reducible refine Below.drew ?_) | (with_reducible refine below_drewN ?_ _) | (with_reducible refine Below.setCell ?_ ?_ _) | (with_reducible refine Below.alloc ?_ ?_ _) | go_size | (exact Below.size (by assumption)) | (refine Below.trans ?_ (Below.mono (by assumption) ?_))))⟩
   have hr := atI_lt l i
   simp only [atFrom, List.drop_zero]
   split <;> omega
/-- strictly increasing numbers from 0 on, below another one -/
def Climbs (l : List Int) (below : Int) : Prop := ∀ k (h : k < l.length), 0 ≤ l[k] ∧ l[k] < below ∧ ∀ (h0 : 0 < k), l[k - 1] < l[k]
theorem climbs_yes (A : Option Addr) (n : Nat) (l : List Int) (z : Int) (w : World) (hA : Arr w w.heap.size A (ints l)) (hn : l.length ≤ 9223372036854775807) (hC : Climbs l z) :
    Calls Tryd.prog 37 #[.slice A l.length n, .int .i64 z] w fun e w' => e = .returned (.bool true) ∧ Below w.heap.size w w' := by
 have HC := hid hC
 clear hC
 go_enter Tryd.func37, Tryd.ntmps37
 go_wp2
 go_loopw [5] (fun i wr => ∃ k : Nat, k ≤ l.length ∧ i = .int .i64 k ∧ ∃ n, wr = w.drewN n) (fun i _ => l.length - (intOf i).toNat)
 case atStart => exact ⟨0, Nat.zero_le _, rfl, 0, rfl⟩
 case round =>
  obtain ⟨k, hk, rfl, nd, rfl⟩ := hrel
  by_cases hlt : k < l.length
  ·obtain ⟨c1, c2, c3⟩ := HC.out k hlt
   by_cases h0 : 0 < k
   ·have c3' := c3 h0
    have hlt' : k - 1 < l.length := by omega
    obtain ⟨b', o', e', _, hc'⟩ := hA.int hlt'
    obtain ⟨b, o, rfl, _, hc⟩ := hA.int hlt
    simp only [Option.some.injEq, Addr.mk.injEq, true_and, and_true] at e'
    obtain ⟨rfl, rfl⟩ := e'
    have t1 : decide (z ≤ l[k]) = false := by simp; omega
    have t2 : decide (l[k] < 0) = false := by simp; omega
    have t3 : decide (0 < (k : Int)) = true := by simp; omega
    have t4 : decide (l[k] ≤ l[k - 1]) = false := by simp; omega
    have hr : 0 ≤ (k : Int) - 1 := by omega
    have ht : ((k : Int) - 1).toNat = k - 1 := by omega
    clear hA c3
    go_wp2
    go_quiet (fail)
    go_wp2
    exact ⟨⟨k + 1, by omega, by go_num, _, rfl⟩, by simp [intOf]; omega⟩
   ·obtain ⟨b, o, rfl, _, hc⟩ := hA.int hlt
    have t1 : decide (z ≤ l[k]) = false := by simp; omega
    have t2 : decide (l[k] < 0) = false := by simp; omega
    have t3 : decide (0 < (k : Int)) = false := by simp; omega
    clear hA c3
    go_wp2
    go_quiet (fail)
    go_wp2
    exact ⟨⟨k + 1, by omega, by go_num, _, rfl⟩, by simp [intOf]; omega⟩
  ·go_wp2
   go_ret
   exact ⟨rfl, by (repeat' (first | (with_reducible exact Below.refl _ _) | (with_reducible assumption) | (with_reducible refine Below.drew ?_) | (with_reducible refine below_drewN ?_ _) | (with_reducible refine Below.setCell ?_ ?_ _) | (with_reducible refine Below.alloc ?_ ?_ _) | go_size | (exact Below.size (by assumption)) | (refine Below.trans ?_ (Below.mono (by assumption) ?_))))⟩
end Go.Proofs.YtkhmcofmjjmjhaaDoor
