/- ClockKnown: what the exported functions say of clocks and books that are none, and of the chapter's. -/
import Derived.Test.YtnkbcapikenbbaaW4
import Derived.Test.YtnkbcapikenbbaaP18
import Derived.Test.YtnkbcapikenbbaaP19
namespace Go.Proofs.Ytnkbcapikenbbaa
set_option linter.unusedSimpArgs false
set_option linter.unusedVariables false
open Go.RowKit Go.Shelf

section
variable {set set2 m z : Int} {A A2 L : Option Addr} {cap cap2 lcap nf nf2 nl n : Nat} {fs fs2 : List Fr} {ls : List Ln}
theorem kShows {s : Sp} {x : Int} (P : pShowsR ⟨set, fs⟩ m = (s, x)) (hf : fs.length = nf) (W : World) (hA : Arr W W.heap.size A (frosts fs)) :
    Calls Try.prog 14 #[.agg #[.int .i64 set, .slice A nf cap], .int .i64 m] W fun e w' => e = .returned (.tuple #[.agg #[.int .i64 s.lo, .int .i64 s.hi], .int .i64 x]) ∧ Below W.heap.size W w' := by
  subst hf
  have h := pShows_any set A cap fs m W hA
  rw [P] at h
  exact h
theorem kMeans {s : Sp} {x : Int} (P : pMeansR ⟨set, fs⟩ m = (s, x)) (hf : fs.length = nf) (W : World) (hA : Arr W W.heap.size A (frosts fs)) :
    Calls Try.prog 18 #[.agg #[.int .i64 set, .slice A nf cap], .int .i64 m] W fun e w' => e = .returned (.tuple #[.agg #[.int .i64 s.lo, .int .i64 s.hi], .int .i64 x]) ∧ Below W.heap.size W w' := by
  subst hf
  have h := pMeans_any set A cap fs m W hA
  rw [P] at h
  exact h
theorem kPassed {s : Sp} {x : Int} (P : pPassedR ⟨set, fs⟩ m z = (s, x)) (hf : fs.length = nf) (W : World) (hA : Arr W W.heap.size A (frosts fs)) :
    Calls Try.prog 20 #[.agg #[.int .i64 set, .slice A nf cap], .int .i64 m, .int .i64 z] W fun e w' => e = .returned (.tuple #[.agg #[.int .i64 s.lo, .int .i64 s.hi], .int .i64 x]) ∧ Below W.heap.size W w' := by
  subst hf
  have h := pPassed_any set A cap fs m z W hA
  rw [P] at h
  exact h
theorem kBefore {y x : Int} (P : pBeforeR ⟨set, fs⟩ m ⟨set2, fs2⟩ z = (y, x)) (hf : fs.length = nf) (hf2 : fs2.length = nf2) (W : World) (hA : Arr W W.heap.size A (frosts fs)) (hA2 : Arr W W.heap.size A2 (frosts fs2)) :
    Calls Try.prog 23 #[.agg #[.int .i64 set, .slice A nf cap], .int .i64 m, .agg #[.int .i64 set2, .slice A2 nf2 cap2], .int .i64 z] W fun e w' => e = .returned (.tuple #[.int .i64 y, .int .i64 x]) ∧ Below W.heap.size W w' := by
  subst hf hf2
  have h := pBefore_any set A cap fs m set2 A2 cap2 fs2 z W hA hA2
  rw [P] at h
  exact h
theorem kCheck {x : Int} (P : checkE ⟨set, fs⟩ = x) (hf : fs.length = nf) (W : World) (hA : Arr W W.heap.size A (frosts fs)) :
    Calls Try.prog 16 #[.agg #[.int .i64 set, .slice A nf cap]] W fun e w' => e = .returned (.int .i64 x) ∧ Below W.heap.size W w' := by
  subst hf
  have h := pCheck_any set A cap fs W hA
  rw [P] at h
  exact h
theorem kRight {q : Bool} {x : Int} (P : pRightR ⟨set, fs⟩ ls = (q, x)) (hf : fs.length = nf) (hl : ls.length = nl) (hb : nl ≤ 9223372036854775807) (W : World) (hA : Arr W W.heap.size A (frosts fs)) (hL : Arr W W.heap.size L (lines ls)) :
    Calls Try.prog 25 #[.agg #[.int .i64 set, .slice A nf cap], .slice L nl lcap] W fun e w' => e = .returned (.tuple #[.bool q, .int .i64 x]) ∧ Below W.heap.size W w' := by
  subst hf hl
  have h := pRight_any set A L cap lcap fs ls W hA hL hb
  rw [P] at h
  exact h
theorem kStopped {s : Sp} {x : Int} (P : pStoppedR ⟨set, fs⟩ ls = (s, x)) (hf : fs.length = nf) (hl : ls.length = nl) (hb : nl ≤ 9223372036854775807) (W : World) (hA : Arr W W.heap.size A (frosts fs)) (hL : Arr W W.heap.size L (lines ls)) :
    Calls Try.prog 30 #[.agg #[.int .i64 set, .slice A nf cap], .slice L nl lcap] W fun e w' => e = .returned (.tuple #[.agg #[.int .i64 s.lo, .int .i64 s.hi], .int .i64 x]) ∧ Below W.heap.size W w' := by
  subst hf hl
  have h := pStopped_any set A L cap lcap fs ls W hA hL hb
  rw [P] at h
  exact h
theorem kTimes {l : List Sp} {x : Int} (P : pTimesR ⟨set, fs⟩ ls = (l, x)) (hn : l.length = n) (hf : fs.length = nf) (hl : ls.length = nl) (hb : nl ≤ 9223372036854775807) (W : World) (hA : Arr W W.heap.size A (frosts fs)) (hL : Arr W W.heap.size L (lines ls)) :
    Calls Try.prog 27 #[.agg #[.int .i64 set, .slice A nf cap], .slice L nl lcap] W fun e w' => ∃ O oc, e = .returned (.tuple #[.slice O n oc, .int .i64 x]) ∧ Below W.heap.size W w' := by
  subst hf hl hn
  have h := pTimes_any set A L cap lcap fs ls W hA hL hb
  rw [P] at h
  exact h.mono fun e w' ⟨⟨O, oc, h1, _, _⟩, h3⟩ => ⟨O, oc, h1, h3⟩
theorem kWrong {l : List Int} {x : Int} (P : pWrongR ⟨set, fs⟩ ls = (l, x)) (hn : l.length = n) (hf : fs.length = nf) (hl : ls.length = nl) (hb : nl ≤ 9223372036854775807) (W : World) (hA : Arr W W.heap.size A (frosts fs)) (hL : Arr W W.heap.size L (lines ls)) :
    Calls Try.prog 32 #[.agg #[.int .i64 set, .slice A nf cap], .slice L nl lcap] W fun e w' => ∃ O oc, e = .returned (.tuple #[.slice O n oc, .int .i64 x]) ∧ Below W.heap.size W w' := by
  subst hf hl hn
  have h := pWrong_any set A L cap lcap fs ls W hA hL hb
  rw [P] at h
  exact h.mono fun e w' ⟨⟨O, oc, h1, _, _⟩, h3⟩ => ⟨O, oc, h1, h3⟩
end

/-- of no clock -/
theorem bad_ask {c : Ck} (h : c.ok = false) (q : Bool) : askE c q = 10 := by simp [askE, h]
theorem bad_check {c : Ck} (h : c.ok = false) : checkE c = 10 := by simp [checkE, h]
theorem bad_shows {c : Ck} (h : c.ok = false) (m : Int) : pShowsR c m = (zeroSp, 10) := by unfold pShowsR; rw [bad_ask h]; rfl
theorem bad_means {c : Ck} (h : c.ok = false) (m : Int) : pMeansR c m = (zeroSp, 10) := by unfold pMeansR; rw [bad_ask h]; rfl
theorem bad_passed {c : Ck} (h : c.ok = false) (a z : Int) : pPassedR c a z = (zeroSp, 10) := by unfold pPassedR; rw [bad_ask h]; rfl
theorem bad_before {c : Ck} (h : c.ok = false) (d : Ck) (a z : Int) : pBeforeR c a d z = (0, 10) := by unfold pBeforeR; rw [bad_check h]; rfl
theorem bad_after {c d : Ck} (hc : c.ok = true) (h : d.ok = false) (a z : Int) : pBeforeR c a d z = (0, 10) := by
  unfold pBeforeR
  rw [bad_ask h, if_neg (by simp [checkE, hc])]; rfl
theorem bad_right {c : Ck} (h : c.ok = false) (ls : List Ln) : pRightR c ls = (false, 10) := by unfold pRightR; rw [bad_ask h]; rfl
theorem bad_false {c : Ck} (h : c.ok = false) (ls : List Ln) : falseE c ls = 10 := by unfold falseE; rw [bad_right h]; rfl
theorem bad_times {c : Ck} (h : c.ok = false) (ls : List Ln) : pTimesR c ls = ([], 10) := by unfold pTimesR; rw [bad_false h]; rfl
theorem bad_stopped {c : Ck} (h : c.ok = false) (ls : List Ln) : pStoppedR c ls = (zeroSp, 10) := by unfold pStoppedR; rw [bad_false h]; rfl
theorem bad_wrong {c : Ck} (h : c.ok = false) (ls : List Ln) : pWrongR c ls = ([], 10) := by unfold pWrongR; rw [bad_ask h]; rfl
/-- of no book -/
theorem no_ask {c : Ck} (h : c.ok = true) {q : Bool} (hq : q = false) : askE c q = 11 := by simp [askE, h, hq]
theorem no_right {c : Ck} (h : c.ok = true) {ls : List Ln} (hl : bookB ls = false) : pRightR c ls = (false, 11) := by unfold pRightR; rw [no_ask h hl]; rfl
theorem no_false {c : Ck} (h : c.ok = true) {ls : List Ln} (hl : bookB ls = false) : falseE c ls = 11 := by unfold falseE; rw [no_right h hl]; rfl
theorem no_times {c : Ck} (h : c.ok = true) {ls : List Ln} (hl : bookB ls = false) : pTimesR c ls = ([], 11) := by unfold pTimesR; rw [no_false h hl]; rfl
theorem no_stopped {c : Ck} (h : c.ok = true) {ls : List Ln} (hl : bookB ls = false) : pStoppedR c ls = (zeroSp, 11) := by unfold pStoppedR; rw [no_false h hl]; rfl
theorem no_wrong {c : Ck} (h : c.ok = true) {ls : List Ln} (hl : bookB ls = false) : pWrongR c ls = ([], 11) := by unfold pWrongR; rw [no_ask h hl]; rfl
theorem frosty_ok : Ck.ok ⟨100, frL⟩ = true := by decide +kernel

/-- the chapter's clock and book -/
theorem v_shows1 : pShowsR ⟨100, frL⟩ 4320 = (zeroSp, 11) := by decide +kernel
theorem v_means1 : pMeansR ⟨100, frL⟩ 8639 = (zeroSp, 11) := by decide +kernel
theorem v_passed1 : pPassedR ⟨100, frL⟩ 0 8639 = (zeroSp, 11) := by decide +kernel
theorem v_before1 : pBeforeR ⟨100, frL⟩ 0 ⟨100, frL⟩ 8639 = (0, 11) := by decide +kernel
theorem v_means2 : pMeansR ⟨100, frL⟩ 99 = (zeroSp, 4) := by decide +kernel
theorem v_passed2 : pPassedR ⟨100, frL⟩ 160 120 = (zeroSp, 4) := by decide +kernel
theorem v_before2 : pBeforeR ⟨100, frL⟩ 160 ⟨0, []⟩ 4320 = (0, 4) := by decide +kernel
theorem v_times1 : pTimesR ⟨100, frL⟩ (wrL 97) = ([], 12) := by decide +kernel
theorem v_stopped1 : pStoppedR ⟨100, frL⟩ (wrL 97) = (zeroSp, 12) := by decide +kernel
theorem v_shows2 : pShowsR ⟨100, frL⟩ 0 = (⟨100, 100⟩, 0) := by decide +kernel
theorem v_shows3 : pShowsR ⟨100, frL⟩ 100 = (⟨169, 172⟩, 0) := by decide +kernel
theorem v_shows4 : pShowsR ⟨100, frL⟩ 300 = (⟨357, 362⟩, 0) := by decide +kernel
theorem v_means3 : pMeansR ⟨100, frL⟩ 365 = (⟨303, 308⟩, 0) := by decide +kernel
theorem v_passed3 : pPassedR ⟨100, frL⟩ 120 160 = (⟨68, 71⟩, 0) := by decide +kernel
theorem v_before3 : pBeforeR ⟨100, frL⟩ 160 ⟨0, []⟩ 92 = (2, 0) := by decide +kernel
theorem v_before4 : pBeforeR ⟨100, frL⟩ 160 ⟨0, []⟩ 88 = (0, 0) := by decide +kernel
theorem v_right1 : pRightR ⟨100, frL⟩ (wrL 97) = (false, 0) := by decide +kernel
theorem v_times2 : pTimesR ⟨100, frL⟩ [] = ([], 0) := by decide +kernel
theorem v_wrong1 : pWrongR ⟨100, frL⟩ (wrL 95) = ([], 0) := by decide +kernel
theorem v_stopped2 : pStoppedR ⟨100, frL⟩ [] = (⟨38, 43⟩, 0) := by decide +kernel
end Go.Proofs.Ytnkbcapikenbbaa
