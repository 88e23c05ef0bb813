/- fewest: the first one of the shortest lists that will do. -/
import Derived.Test.YtjkajcpanhlbkaaP16
namespace Go.Proofs.Ytjkajcpanhlbkaa
set_option linter.unusedSimpArgs false
set_option linter.unusedVariables false
open Go.RowKit Go.Shelf
attribute [local go_sem] Oper.semAt_some
attribute [local go_sem] run_store_func
attribute [local go_sem high] cell_set_wr
attribute [local go_sem low] cell_wr frozen_wr
attribute [local go_sem] wr_set wr_drew wr_drewN wr_alloc wr_new

set_option maxRecDepth 100000 in
set_option maxHeartbeats 4000000 in
theorem fewest_any (n : Nat) (set : Int) (A L : Option Addr) (cap lcap : Nat) (fs : List Fr) (ls : List Ln) (w : World) (hO : OkFs fs) (hs : 0 ≤ set ∧ set ≤ 4319) (hl6 : ls.length ≤ 6) (hb : ∀ l ∈ ls, lineB l = true) (hn : n ≤ 62)
    (hA : Arr w w.heap.size A (frosts fs)) (hL : Arr w w.heap.size L (lines ls)) :
    Calls Try.prog 79 #[.int .i64 n, .func (.func 71) #[noteV set A fs.length cap L ls.length lcap] #[]] w fun e w' =>
      (∃ O ocap, e = .returned (.slice O ((fewestL n (rightD set fs ls)).getD []).length ocap) ∧ ocap ≤ maxLen ∧ Arr w' w'.heap.size O (ints ((fewestL n (rightD set fs ls)).getD []))) ∧ Below w.heap.size w w' := by
  have HP : Hid (fewestL n (rightD set fs ls) = firstOf (fun more => pickL n (rightD set fs ls) more [] 0) 0 (n + 1)) := hid rfl
  go_enter Try.func79, Try.ntmps79
  go_wp2_with fail
  obtain ⟨W, hW⟩ : ∃ W, W = (((w.alloc (.cells #[.int .i64 n] 3)).alloc (.cells #[.func (.func 71) #[noteV set A fs.length cap L ls.length lcap] #[]] 110)).alloc (.cells #[.slice none 0 0] 47)).alloc
    (.cells #[.func (.func 97) #[] #[.pointer (some ⟨w.heap.size + 1 + 1, 0, none⟩), .pointer (some ⟨w.heap.size + 1, 0, none⟩), .pointer (some ⟨w.heap.size, 0, none⟩), .pointer (some ⟨w.heap.size + 1 + 1 + 1, 0, none⟩)]] 136) := ⟨_, rfl⟩
  have hWz : W.heap.size = w.heap.size + 4 := by rw [hW]; simp
  have hWB : Below w.heap.size w W := by rw [hW]; (repeat' (first | (with_reducible exact Below.refl _ _) | (with_reducible assumption) | (with_reducible refine Below.drew ?_) | (with_reducible refine below_drewN ?_ _) | (with_reducible refine Below.setCell ?_ ?_ _) | (with_reducible refine Below.alloc ?_ ?_ _) | go_size | (exact Below.size (by assumption)) | (refine Below.trans ?_ (Below.mono (by assumption) ?_))))
  have hF : WFix W (w.heap.size + 1 + 1) (w.heap.size + 1) w.heap.size (w.heap.size + 1 + 1 + 1) w.heap.size n set A fs.length cap L ls.length lcap fs ls := by
    refine ⟨?_, ?_, ?_, ?_, by omega, hA.below hWB, hL.below hWB⟩
    all_goals (rw [hW]; first | (simp [go_sem]; done) | exact ⟨by simp [go_sem], by simp [go_sem]⟩)
  rw [← hW]
  clear hW
  go_loopw [11] (fun iv wr => ∃ i : Nat, i ≤ n + 1 ∧ iv = .int .i64 i ∧ Hid (fewestL n (rightD set fs ls) = firstOf (fun more => pickL n (rightD set fs ls) more [] 0) i (n + 1 - i)) ∧ Wr wr (w.heap.size + 1 + 1) 0 ∧ But (w.heap.size + 1 + 1) W wr) (fun iv _ => n + 1 - (intOf iv).toNat)
  case atStart => exact ⟨0, Nat.zero_le _, by simp, HP, hF.f, But.refl _ _⟩
  case round =>
    obtain ⟨i, hi, rfl, HK, hwf, hbt⟩ := hrel
    have hWr := hF.but hbt hwf
    have hbw : Below w.heap.size w wr := hWB.trans (hbt.below (by omega) (by omega))
    clear HP
    by_cases hlt : i < n + 1
    · have HK2 : Hid (n + 1 - i = (n + 1 - (i + 1)) + 1) := hid (by omega)
      have hlt' : (i : Int) < (n : Int) + 1 := by omega
      have hc := add_calls (w.heap.size + 1 + 1) (w.heap.size + 1) w.heap.size (w.heap.size + 1 + 1 + 1) w.heap.size n set A L cap lcap fs ls hO hs hl6 hb hn i [] 0 none 0 wr (by simp; omega) (by omega) (.inl ⟨rfl, rfl, rfl⟩) hWr
      obtain ⟨r, hr⟩ : ∃ r, r = pickL n (rightD set fs ls) i [] 0 := ⟨_, rfl⟩
      rw [← hr] at hc
      have HN : Hid (fewestL n (rightD set fs ls) = orElse' r (firstOf (fun more => pickL n (rightD set fs ls) more [] 0) (i + 1) (n + 1 - (i + 1)))) := hid (by
        rw [HK.out, HK2.out, firstOf_orElse, ← hr])
      clear hr
      simp only [List.length_nil, Int.natCast_zero] at hc
      have h3 := hWr.a
      go_wp2_with fail
      refine hc.mono ?_
      rintro e w2 ⟨rfl, hret, hwf2, hbt2⟩
      cases r with
      | some a =>
        obtain ⟨O, oc, hcell, hform⟩ := hret a rfl
        have hoc : oc ≤ maxLen := by
          rcases hform with ⟨_, _, rfl⟩ | ⟨_, _, _, _, _, h, _⟩
          · unfold maxLen; omega
          · exact h
        go_wp2
        go_ret
        have e : (fewestL n (rightD set fs ls)).getD [] = a := by rw [HN.out]; rfl
        rw [e]
        exact ⟨⟨O, oc, rfl, hoc, hform.arr⟩, hbw.trans (hbt2.below (by omega) (by have := hbw.size; omega))⟩
      | none =>
        go_wp2
        exact ⟨⟨i + 1, by omega, by go_num, HN, hwf2, hbt.trans hbt2⟩, by simp [intOf]; omega⟩
    · have HE : Hid (fewestL n (rightD set fs ls) = none) := hid (by rw [HK.out, show n + 1 - i = 0 from by omega]; rfl)
      have hlt' : ¬ (i : Int) < (n : Int) + 1 := by omega
      go_wp2
      go_ret
      rw [HE.out]
      exact ⟨⟨none, 0, rfl, by unfold maxLen; omega, Arr.nil _ _ _⟩, hbw⟩
end Go.Proofs.Ytjkajcpanhlbkaa
