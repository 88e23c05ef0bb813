/- Books: the last minute that matters, and which lines are left out. -/
import Derived.Test.YtnkbcapikenbbaaP1
import Derived.Test.YtnkbcapikenbbaaR4
namespace Go.Proofs.Ytnkbcapikenbbaa
set_option linter.unusedSimpArgs false
set_option linter.unusedVariables false
open Go.RowKit
attribute [local go_sem high] cell_set_wr
attribute [local go_sem low] cell_wr frozen_wr
attribute [local go_sem] wr_set wr_drew wr_drewN wr_alloc wr_new

/-- the last minute that a line of any course can have -/
def untilL (ls : List Ln) : Int := match ls.getLast? with
  | none => 0
  | some l => l.k.hi

theorem until_any (set : Int) (A : Option Addr) (n cap : Nat) (L : Option Addr) (lcap : Nat) (ls : List Ln) (w : World) (hL : Arr w w.heap.size L (lines ls)) (hl : ls.length ≤ 281474976710656) :
    Calls Try.prog 96 #[.agg #[.int .i64 set, .slice A n cap, .slice L ls.length lcap]] w fun e w' => e = .returned (.int .i64 (untilL ls)) ∧ Below w.heap.size w w' := by
  rcases Nat.eq_zero_or_pos ls.length with h0 | h0
  · have hU : Hid (untilL ls = 0) := hid (by rw [List.length_eq_zero_iff.1 h0]; rfl)
    go_enter Try.func96, Try.ntmps96
    go_wp2
    go_ret
    exact ⟨ret_int (by rw [hU.out]), by (repeat' (first | (with_reducible exact Below.refl _ _) | (with_reducible assumption) | (with_reducible refine Below.drew ?_) | (with_reducible refine below_drewN ?_ _) | (with_reducible refine Below.setCell ?_ ?_ _) | (with_reducible refine Below.alloc ?_ ?_ _) | go_size | (exact Below.size (by assumption)) | (refine Below.trans ?_ (Below.mono (by assumption) ?_))))⟩
  · have hlt : ls.length - 1 < ls.length := by omega
    have hU : Hid (untilL ls = ls[ls.length - 1].k.hi) := hid (by
      unfold untilL
      rw [List.getLast?_eq_getElem?, List.getElem?_eq_getElem hlt])
    have hne : ((ls.length : Int) == 0) = false := by rw [beq_eq_false_iff_ne]; omega
    obtain ⟨b, o, rfl, hb, c0, c1, c2⟩ := hL.ln hlt
    have hcast : ((ls.length : Int) - 1) = ((ls.length - 1 : Nat) : Int) := by omega
    generalize hk : ls.length - 1 = k at *
    have hkl : ls.length = k + 1 := by omega
    generalize ls[k] = x at *
    go_enter Try.func96, Try.ntmps96
    go_wp2
    go_ret
    exact ⟨ret_int (by rw [hU.out]), by (repeat' (first | (with_reducible exact Below.refl _ _) | (with_reducible assumption) | (with_reducible refine Below.drew ?_) | (with_reducible refine below_drewN ?_ _) | (with_reducible refine Below.setCell ?_ ?_ _) | (with_reducible refine Below.alloc ?_ ?_ _) | go_size | (exact Below.size (by assumption)) | (refine Below.trans ?_ (Below.mono (by assumption) ?_))))⟩

set_option maxRecDepth 100000 in
set_option maxHeartbeats 4000000 in
theorem index_any (A : Option Addr) (cap : Nat) (l : List Int) (v : Int) (w : World) (hA : Arr w w.heap.size A (ints l)) (hl : l.length ≤ 281474976710656) :
    Calls Try.prog 100 #[.slice A l.length cap, .int .i64 v] w fun e w' => (∃ r : Int, e = .returned (.int .i64 r) ∧ (0 ≤ r ↔ v ∈ l) ∧ -1 ≤ r) ∧ Below w.heap.size w w' := by
  go_enter Try.func100, Try.ntmps100
  go_wp2
  go_loopw [8] (fun iv wr => ∃ k : Nat, k ≤ l.length ∧ iv = .int .i64 k ∧ Hid (v ∈ l ↔ v ∈ l.drop k) ∧ wr = w) (fun iv _ => l.length - (intOf iv).toNat)
  case atStart => exact ⟨0, Nat.zero_le _, by simp, hid (by simp), by simp⟩
  case round =>
    obtain ⟨k, hk, rfl, HK, rfl⟩ := hrel
    by_cases hlt : k < l.length
    · have hi1 : k + 1 ≤ l.length := hlt
      obtain ⟨b, o, rfl, hb, c0⟩ := hA.int hlt
      have hd : l.drop k = l[k] :: l.drop (k + 1) := List.drop_eq_getElem_cons hlt
      have HD : Hid (v ∈ l.drop k ↔ v = l[k] ∨ v ∈ l.drop (k + 1)) := hid (by rw [hd, List.mem_cons])
      clear hd hA
      generalize l[k] = x at *
      by_cases hx : v = x
      · have he : (v == x) = true := by rw [beq_iff_eq]; exact hx
        have HM : Hid (v ∈ l) := hid (HK.out.2 (HD.out.2 (.inl hx)))
        go_wp2
        go_ret
        exact ⟨⟨_, rfl, ⟨fun _ => HM.out, fun _ => by omega⟩, by omega⟩, Below.refl _ _⟩
      · have he : (v == x) = false := by rw [beq_eq_false_iff_ne]; exact hx
        have HK2 : Hid (v ∈ l ↔ v ∈ l.drop (k + 1)) := hid (by rw [HK.out, HD.out]; simp [hx])
        go_wp2
        refine ⟨⟨k + 1, hi1, by go_num, HK2, by simp⟩, by simp [intOf]; omega⟩
    · obtain rfl : k = l.length := by omega
      have HM : Hid (v ∉ l) := hid (fun h => by have := HK.out.1 h; rw [List.drop_length] at this; simp at this)
      go_wp2
      go_ret
      exact ⟨⟨_, rfl, ⟨fun h => absurd h (by decide), fun h => absurd h HM.out⟩, by decide⟩, Below.refl _ _⟩

theorem contains_any (A : Option Addr) (cap : Nat) (l : List Int) (v : Int) (w : World) (hA : Arr w w.heap.size A (ints l)) (hl : l.length ≤ 281474976710656) :
    Calls Try.prog 94 #[.slice A l.length cap, .int .i64 v] w fun e w' => e = .returned (.bool (decide (v ∈ l))) ∧ Below w.heap.size w w' := by
  by_cases hm : v ∈ l
  · have hd : Hid (decide (v ∈ l) = true) := hid (decide_eq_true hm)
    go_enter Try.func94, Try.ntmps94
    go_wp2_with (go_at_call 100; refine (index_any A cap l v _ hA hl).mono ?_; rintro e w1 ⟨⟨r, rfl, hr1, hr2⟩, hb1⟩; have hr3 := hr1.2 hm; clear hr1)
    go_ret
    exact ⟨ret_bool (by rw [hd.out]; try (first | rfl | (simp; done) | (simp; omega))), by (repeat' (first | (with_reducible exact Below.refl _ _) | (with_reducible assumption) | (with_reducible refine Below.drew ?_) | (with_reducible refine below_drewN ?_ _) | (with_reducible refine Below.setCell ?_ ?_ _) | (with_reducible refine Below.alloc ?_ ?_ _) | go_size | (exact Below.size (by assumption)) | (refine Below.trans ?_ (Below.mono (by assumption) ?_))))⟩
  · have hd : Hid (decide (v ∈ l) = false) := hid (decide_eq_false hm)
    go_enter Try.func94, Try.ntmps94
    go_wp2_with (go_at_call 100; refine (index_any A cap l v _ hA hl).mono ?_; rintro e w1 ⟨⟨r, rfl, hr1, hr2⟩, hb1⟩; have hr3 : r < 0 := (Int.not_le.1 fun h => hm (hr1.1 h)); clear hr1)
    go_ret
    exact ⟨ret_bool (by rw [hd.out]; try (first | rfl | (simp; done) | (simp; omega))), by (repeat' (first | (with_reducible exact Below.refl _ _) | (with_reducible assumption) | (with_reducible refine Below.drew ?_) | (with_reducible refine below_drewN ?_ _) | (with_reducible refine Below.setCell ?_ ?_ _) | (with_reducible refine Below.alloc ?_ ?_ _) | go_size | (exact Below.size (by assumption)) | (refine Below.trans ?_ (Below.mono (by assumption) ?_))))⟩
end Go.Proofs.Ytnkbcapikenbbaa
