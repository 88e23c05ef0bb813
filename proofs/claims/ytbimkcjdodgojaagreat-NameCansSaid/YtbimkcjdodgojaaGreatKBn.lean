/- clavendierref00's functions for the Name seat (as XB, XB2). -/
import Derived.Test.YtbimkcjdodgojaaGreatKNo
import Derived.Test.YtbimkcjdodgojaaGreatKNpb
import Derived.WalkKit
import Derived.WalkSpells
import Derived.WalkLawsBesides
import Derived.LoopTactic
import Derived.Handy
import Derived.Deep.QuietTactic
import Derived.BigQuiet
namespace Go.Proofs.YtbimkcjdodgojaaGreat
set_option linter.unusedSimpArgs false
set_option linter.unusedVariables false
open Go.RowKit
theorem to_any (lo hi : Int) (w : World) :
    Calls Tryz.prog 49 #[.int .i64 lo, .int .i64 hi] w fun e w' =>
     e = .returned (.agg #[.int .i64 lo, .int .i64 hi]) ∧ Below w.heap.size w w' := by
 go_enter Tryz.func49, Tryz.ntmps49
 go_wp2
 go_returns
 exact ⟨rfl, by (repeat' (first | (with_reducible exact Below.refl _ _) | (with_reducible assumption) | (with_reducible refine Below.drew ?_) | (with_reducible refine below_drewN ?_ _) | (with_reducible refine Below.setCell ?_ ?_ _) | (with_reducible refine Below.alloc ?_ ?_ _) | go_size | (exact Below.size (by assumption)) | (refine Below.trans ?_ (Below.mono (by assumption) ?_))))⟩
theorem take_eq_step {α : Type} {a b : List α} {k : Nat} (ha : k < a.length) (hb : k < b.length) (h : a.take k = b.take k) (he : a[k] = b[k]) : a.take (k + 1) = b.take (k + 1) := by
 rw [List.take_succ_eq_append_getElem ha, List.take_succ_eq_append_getElem hb, h, he]
theorem bequal_any (A B : Option Addr) (n m : Nat) (a b : List Int) (w : World) (hA : Arr w w.heap.size A (ints a)) (hB : Arr w w.heap.size B (ints b)) (hn : a.length ≤ 9223372036854775807) :
    Calls Tryz.prog 62 #[.slice A a.length n, .slice B b.length m] w fun e w' => e = .returned (.bool (decide (a = b))) ∧ Below w.heap.size w w' := by
 by_cases hl : a.length = b.length
 ·have Hl := hid hl
  have hl' : ((a.length : Int) != (b.length : Int)) = false := by simp [hl]
  clear hl
  go_enter Tryz.func62, Tryz.ntmps62
  go_wp2
  go_loopw [5] (fun i wr => ∃ k : Nat, k ≤ a.length ∧ i = .int .i64 k ∧ Hid (a.take k = b.take k) ∧ ∃ n, wr = w.drewN n) (fun i _ => a.length - (intOf i).toNat)
  case atStart => exact ⟨0, Nat.zero_le _, rfl, hid (by simp), 0, rfl⟩
  case round =>
   obtain ⟨k, hk, rfl, HT, nd, rfl⟩ := hrel
   by_cases hlt : k < a.length
   ·have hlb : k < b.length := by have := Hl.out; omega
    obtain ⟨ba, oa, rfl, _, ca⟩ := hA.int hlt
    obtain ⟨bb, ob, rfl, _, cb⟩ := hB.int hlb
    clear hA hB
    by_cases he : a[k] = b[k]
    ·have HE := hid he
     have he' : (a[k] != b[k]) = false := by simp [he]
     clear he
     go_wp2
     go_quiet (fail)
     go_wp2
     exact ⟨⟨k + 1, by omega, by go_num, hid (take_eq_step hlt hlb HT.out HE.out), _, rfl⟩, by simp [intOf]; omega⟩
    ·have HE := hid he
     have he' : (a[k] != b[k]) = true := by simp [he]
     clear he
     go_wp2
     go_quiet (fail)
     go_wp2
     go_ret
     exact ⟨ret_bool (by rw [decide_eq_false (fun h => HE.out (by simp [h]))]), by (repeat' (first | (with_reducible exact Below.refl _ _) | (with_reducible assumption) | (with_reducible refine Below.drew ?_) | (with_reducible refine below_drewN ?_ _) | (with_reducible refine Below.setCell ?_ ?_ _) | (with_reducible refine Below.alloc ?_ ?_ _) | go_size | (exact Below.size (by assumption)) | (refine Below.trans ?_ (Below.mono (by assumption) ?_))))⟩
   ·obtain rfl : k = a.length := by omega
    go_wp2
    go_ret
    exact ⟨ret_bool (by rw [decide_eq_true]; have h := HT.out; rw [List.take_length] at h; rw [h, Hl.out, List.take_length]), by (repeat' (first | (with_reducible exact Below.refl _ _) | (with_reducible assumption) | (with_reducible refine Below.drew ?_) | (with_reducible refine below_drewN ?_ _) | (with_reducible refine Below.setCell ?_ ?_ _) | (with_reducible refine Below.alloc ?_ ?_ _) | go_size | (exact Below.size (by assumption)) | (refine Below.trans ?_ (Below.mono (by assumption) ?_))))⟩
 ·have Hl := hid hl
  have hl' : ((a.length : Int) != (b.length : Int)) = true := by simp; omega
  clear hl
  go_enter Tryz.func62, Tryz.ntmps62
  go_wp2
  go_ret
  exact ⟨ret_bool (by rw [decide_eq_false (fun h => Hl.out (by rw [h]))]), by (repeat' (first | (with_reducible exact Below.refl _ _) | (with_reducible assumption) | (with_reducible refine Below.drew ?_) | (with_reducible refine below_drewN ?_ _) | (with_reducible refine Below.setCell ?_ ?_ _) | (with_reducible refine Below.alloc ?_ ?_ _) | go_size | (exact Below.size (by assumption)) | (refine Below.trans ?_ (Below.mono (by assumption) ?_))))⟩
end Go.Proofs.YtbimkcjdodgojaaGreat
namespace Go.Proofs.YtbimkcjdodgojaaGreat
set_option linter.unusedSimpArgs false
set_option linter.unusedVariables false
open Go.RowKit
theorem spans_any (lo hi a z : Int) (w : World) :
    Calls Tryz.prog 37 #[.agg #[.int .i64 lo, .int .i64 hi], .int .i64 a, .int .i64 z] w fun e w' =>
     e = .returned (.bool (decide (a ≤ lo) && (decide (lo ≤ hi) && decide (hi ≤ z)))) ∧ Below w.heap.size w w' := by
 by_cases h : a ≤ lo
 by_cases h' : lo ≤ hi
 all_goals
  go_enter Tryz.func37, Tryz.ntmps37
  go_wp2
  go_ret
  exact ⟨ret_bool (by first | (simp [*]; done) | (simp [*]; omega)), by (repeat' (first | (with_reducible exact Below.refl _ _) | (with_reducible assumption) | (with_reducible refine Below.drew ?_) | (with_reducible refine below_drewN ?_ _) | (with_reducible refine Below.setCell ?_ ?_ _) | (with_reducible refine Below.alloc ?_ ?_ _) | go_size | (exact Below.size (by assumption)) | (refine Below.trans ?_ (Below.mono (by assumption) ?_))))⟩
theorem in_any (n lo hi : Int) (w : World) :
    Calls Tryz.prog 67 #[.int .i64 n, .agg #[.int .i64 lo, .int .i64 hi]] w fun e w' =>
     e = .returned (.bool (decide (lo ≤ n) && decide (n ≤ hi))) ∧ Below w.heap.size w w' := by
 go_enter Tryz.func67, Tryz.ntmps67
 go_wp2_with (go_at_call 38; refine (between_any _ _ _ _).mono ?_; rintro e w1 ⟨rfl, rfl⟩)
 go_ret
 exact ⟨rfl, by (repeat' (first | (with_reducible exact Below.refl _ _) | (with_reducible assumption) | (with_reducible refine Below.drew ?_) | (with_reducible refine below_drewN ?_ _) | (with_reducible refine Below.setCell ?_ ?_ _) | (with_reducible refine Below.alloc ?_ ?_ _) | go_size | (exact Below.size (by assumption)) | (refine Below.trans ?_ (Below.mono (by assumption) ?_))))⟩
end Go.Proofs.YtbimkcjdodgojaaGreat
