/- What clavendierref01's Right and Stopped return, for any clock and book. -/
import Derived.Test.YtmddbnjbliponaaR8
import Derived.Test.YtmddbnjbliponaaR5
namespace Go.Proofs.Ytmddbnjbliponaa
set_option linter.unusedSimpArgs false
set_option linter.unusedVariables false
open Go.RowKit
attribute [local go_sem high] cell_set_wr
attribute [local go_sem low] cell_wr frozen_wr
attribute [local go_sem] wr_set wr_drew wr_drewN wr_alloc wr_new

theorem course_no {set : Int} {A : Option Addr} {n cap : Nat} {fs : List Fr} {T : Option Addr} {tcap : Nat} {tr : List When} {L : Option Addr} {lcap : Nat} {ls : List Ln} {w : World} (hr : courseT ⟨set, fs⟩ ls tr = none) (hT : Arr w w.heap.size T (spans tr)) (hL : Arr w w.heap.size L (lines ls))
    (hTr : OkTr tr) (hv : ∀ l ∈ ls, lineB l = true) (h6 : ls.length ≤ 6) (hs : 0 ≤ set ∧ set ≤ 4319) :
    Calls Try.prog 76 #[.agg #[.int .i64 set, .slice A n cap], .slice T tr.length tcap, .slice L ls.length lcap] w fun e w' => e = .returned (.tuple #[.slice none 0 0, .bool false]) ∧ Below w.heap.size w w' := by
  have h := course_any set A n cap fs T tcap tr L lcap ls w hT hL hTr hv h6 hs
  rw [hr] at h
  exact h
theorem course_yes {set : Int} {A : Option Addr} {n cap : Nat} {fs : List Fr} {T : Option Addr} {tcap : Nat} {tr : List When} {L : Option Addr} {lcap : Nat} {ls : List Ln} {w : World} {s : List Sp} (hr : courseT ⟨set, fs⟩ ls tr = some s) (hT : Arr w w.heap.size T (spans tr)) (hL : Arr w w.heap.size L (lines ls))
    (hTr : OkTr tr) (hv : ∀ l ∈ ls, lineB l = true) (h6 : ls.length ≤ 6) (hs : 0 ≤ set ∧ set ≤ 4319) :
    Calls Try.prog 76 #[.agg #[.int .i64 set, .slice A n cap], .slice T tr.length tcap, .slice L ls.length lcap] w fun e w' => ∃ O oc, e = .returned (.tuple #[.slice O s.length oc, .bool true]) ∧ oc ≤ maxLen ∧ w'.ownsRow w.heap.size 27 2 (.slice O s.length oc) s.length (spans s) ∧ Below w.heap.size w w' := by
  have h := course_any set A n cap fs T tcap tr L lcap ls w hT hL hTr hv h6 hs
  rw [hr] at h
  refine h.mono fun e w' h' => ?_
  obtain ⟨⟨O, oc, h1, h2, h3⟩, h4⟩ := h'
  exact ⟨O, oc, h1, h2, h3, h4⟩
theorem any_drop {α : Type} (l : List α) (p : α → Bool) (k : Nat) (hk : k < l.length) : (l.drop k).any p = (p l[k] || (l.drop (k + 1)).any p) := by
  rw [List.drop_eq_getElem_cons hk]; rfl

set_option maxRecDepth 100000 in
set_option maxHeartbeats 4000000 in
theorem right_any (set : Int) (A L : Option Addr) (cap lcap : Nat) (fs : List Fr) (ls : List Ln) (w : World) (hA : Arr w w.heap.size A (frosts fs)) (hL : Arr w w.heap.size L (lines ls))
    (hO : OkFs fs) (hv : ∀ l ∈ ls, lineB l = true) (h6 : ls.length ≤ 6) (hs : 0 ≤ set ∧ set ≤ 4319) :
    Calls Try.prog 73 #[.agg #[.int .i64 set, .slice A fs.length cap], .slice L ls.length lcap] w fun e w' =>
      e = .returned (.bool (rightB ⟨set, fs⟩ ls)) ∧ Below w.heap.size w w' := by
  have HR : Hid (rightB ⟨set, fs⟩ ls = (truths fs).any fun tr => (courseT ⟨set, fs⟩ ls tr).isSome) := hid rfl
  have hTr : Hid (∀ tr ∈ truths fs, OkTr tr) := hid fun tr h => okTr_mem hO h
  have hRL := truths_small fs hO 0
  rw [List.drop_zero] at hRL
  go_enter Try.func73, Try.ntmps73
  go_wp2_with (go_at_call 59; refine (truths_any fs.length 0 0 set A cap fs _ (by omega) (by omega) (by rfl) ?_ hO).mono ?_; (focus (refine (hA.below ?_).more ?_; (repeat' (first | (with_reducible exact Below.refl _ _) | (with_reducible assumption) | (with_reducible refine Below.drew ?_) | (with_reducible refine below_drewN ?_ _) | (with_reducible refine Below.setCell ?_ ?_ _) | (with_reducible refine Below.alloc ?_ ?_ _) | go_size | (exact Below.size (by assumption)) | (refine Below.trans ?_ (Below.mono (by assumption) ?_)))))); rintro e w4 ⟨A4, cap4, rfl, hcap4, hA4, hb4⟩; obtain ⟨hc4, hf4, hl4, hm4, hw4⟩ := bcell hb4)
  rw [List.drop_zero] at hA4
  have q0 : w4.cell? ⟨w.heap.size, 0, none⟩ = some (.int .i64 set) := by (first | (simp [go_sem, wr_set, wr_drew, wr_drewN, wr_alloc, wr_new]; done) | (simp [go_sem, wr_set, wr_drew, wr_drewN, wr_alloc, wr_new, *]; done) | (simp (disch := go_size) [go_sem, wr_set, wr_drew, wr_drewN, wr_alloc, wr_new, *]; done))
  have q1 : w4.cell? ⟨w.heap.size, 1, none⟩ = some (.slice A fs.length cap) := by (first | (simp [go_sem, wr_set, wr_drew, wr_drewN, wr_alloc, wr_new]; done) | (simp [go_sem, wr_set, wr_drew, wr_drewN, wr_alloc, wr_new, *]; done) | (simp (disch := go_size) [go_sem, wr_set, wr_drew, wr_drewN, wr_alloc, wr_new, *]; done))
  have hB4 : Below w.heap.size w w4 := by (repeat' (first | (with_reducible exact Below.refl _ _) | (with_reducible assumption) | (with_reducible refine Below.drew ?_) | (with_reducible refine below_drewN ?_ _) | (with_reducible refine Below.setCell ?_ ?_ _) | (with_reducible refine Below.alloc ?_ ?_ _) | go_size | (exact Below.size (by assumption)) | (refine Below.trans ?_ (Below.mono (by assumption) ?_))))
  have n4 : w.heap.size < w4.heap.size := by have := hb4.size; simp only [World.size_alloc] at this; omega
  have hb4' : w.heap.size ≤ w4.heap.size := by omega
  clear hc4 hf4 hl4 hm4 hw4 hb4
  generalize hgR : truths fs = R at *
  clear hgR
  go_loopw [6] (fun i wr => ∃ k : Nat, k ≤ R.length ∧ i = .int .i64 k ∧ Hid (R.any (fun tr => (courseT ⟨set, fs⟩ ls tr).isSome) = (R.drop k).any fun tr => (courseT ⟨set, fs⟩ ls tr).isSome) ∧ Below w4.heap.size w4 wr) (fun i _ => R.length - (intOf i).toNat)
  case atStart => exact ⟨0, Nat.zero_le _, rfl, hid (by simp), Below.refl _ _⟩
  case round =>
    obtain ⟨k, hk, rfl, HK, hB⟩ := hrel
    have hzr := hB.size
    have hBr : Below w.heap.size w wr := hB4.trans (hB.mono hb4')
    by_cases hlt : k < R.length
    · obtain ⟨b', o', A'', c'', rfl, hb', hck, hAk⟩ := (hA4.below hB).at_ hlt
      have hTk := hTr.out _ (List.getElem_mem hlt)
      have hk1 : k + 1 ≤ R.length := hlt
      have HM := hid (any_drop R (fun tr => (courseT ⟨set, fs⟩ ls tr).isSome) k hlt)
      have e0 := (hB.cell (p := ⟨w.heap.size, 0, none⟩) n4).trans q0
      have e1 := (hB.cell (p := ⟨w.heap.size, 1, none⟩) n4).trans q1
      have hLr := (hL.below hBr).more (show w.heap.size ≤ wr.heap.size by omega)
      have hAr := hAk.more hzr
      have hbr : b' < wr.heap.size := by omega
      have hwr : w.heap.size < wr.heap.size := by omega
      generalize R[k] = tr at *
      obtain ⟨r, hr⟩ : ∃ r, courseT ⟨set, fs⟩ ls tr = r := ⟨_, rfl⟩
      have HRr := hid hr
      clear hr q0 q1 hAk
      cases r with
      | none =>
        go_wp2_with fail
        go_region_held3 (fun w' => (w'.cell? ⟨w.heap.size, 0, none⟩ = some (.int .i64 set) ∧ w'.cell? ⟨w.heap.size, 1, none⟩ = some (.slice A fs.length cap) ∧ w'.cell? ⟨b', o' + k, none⟩ = some (.slice A'' tr.length c'')) ∧ Below wr.heap.size wr w') (((refine ⟨?_, ?_⟩; (focus (first | (simp [go_sem, wr_set, wr_drew, wr_drewN, wr_alloc, wr_new]; done) | (simp [go_sem, wr_set, wr_drew, wr_drewN, wr_alloc, wr_new, *]; done) | (simp (disch := go_size) [go_sem, wr_set, wr_drew, wr_drewN, wr_alloc, wr_new, *]; done))); (repeat' (first | (with_reducible exact Below.refl _ _) | (with_reducible assumption) | (with_reducible refine Below.drew ?_) | (with_reducible refine below_drewN ?_ _) | (with_reducible refine Below.setCell ?_ ?_ _) | (with_reducible refine Below.alloc ?_ ?_ _) | go_size | (exact Below.size (by assumption)) | (refine Below.trans ?_ (Below.mono (by assumption) ?_)))))))
          (first
            | (go_at_call 76; refine (course_no HRr.out ?_ ?_ hTk hv h6 hs).mono ?_; (focus (refine (hAr.below ?_).more ?_; (repeat' (first | (with_reducible exact Below.refl _ _) | (with_reducible assumption) | (with_reducible refine Below.drew ?_) | (with_reducible refine below_drewN ?_ _) | (with_reducible refine Below.setCell ?_ ?_ _) | (with_reducible refine Below.alloc ?_ ?_ _) | go_size | (exact Below.size (by assumption)) | (refine Below.trans ?_ (Below.mono (by assumption) ?_)))))); (focus (refine (hLr.below ?_).more ?_; (repeat' (first | (with_reducible exact Below.refl _ _) | (with_reducible assumption) | (with_reducible refine Below.drew ?_) | (with_reducible refine below_drewN ?_ _) | (with_reducible refine Below.setCell ?_ ?_ _) | (with_reducible refine Below.alloc ?_ ?_ _) | go_size | (exact Below.size (by assumption)) | (refine Below.trans ?_ (Below.mono (by assumption) ?_)))))); rintro e w5 ⟨rfl, hb5⟩; (first | replace hb5 := Below.un1 hb5 | replace hb5 := Below.un2 hb5 | skip); obtain ⟨hc5, hf5, hl5, hm5, hw5⟩ := bcell hb5; have hz5 := hb5.size; (try simp only [World.size_alloc, World.size_setCell] at hz5)))
        all_goals
          rename_i hHeld
          go_wp2_with fail
          refine ⟨⟨k + 1, hk1, by go_num, hid (by rw [HK.out, HM.out, HRr.out]; rfl), ?_⟩, by simp [intOf]; omega⟩
          exact hB.trans (hHeld.2.mono hzr)
      | some s =>
        go_wp2_with fail
        go_region_held3 (fun w' => (w'.cell? ⟨w.heap.size, 0, none⟩ = some (.int .i64 set) ∧ w'.cell? ⟨w.heap.size, 1, none⟩ = some (.slice A fs.length cap) ∧ w'.cell? ⟨b', o' + k, none⟩ = some (.slice A'' tr.length c'')) ∧ Below wr.heap.size wr w') (((refine ⟨?_, ?_⟩; (focus (first | (simp [go_sem, wr_set, wr_drew, wr_drewN, wr_alloc, wr_new]; done) | (simp [go_sem, wr_set, wr_drew, wr_drewN, wr_alloc, wr_new, *]; done) | (simp (disch := go_size) [go_sem, wr_set, wr_drew, wr_drewN, wr_alloc, wr_new, *]; done))); (repeat' (first | (with_reducible exact Below.refl _ _) | (with_reducible assumption) | (with_reducible refine Below.drew ?_) | (with_reducible refine below_drewN ?_ _) | (with_reducible refine Below.setCell ?_ ?_ _) | (with_reducible refine Below.alloc ?_ ?_ _) | go_size | (exact Below.size (by assumption)) | (refine Below.trans ?_ (Below.mono (by assumption) ?_)))))))
          (first
            | (go_at_call 76; refine (course_yes HRr.out ?_ ?_ hTk hv h6 hs).mono ?_; (focus (refine (hAr.below ?_).more ?_; (repeat' (first | (with_reducible exact Below.refl _ _) | (with_reducible assumption) | (with_reducible refine Below.drew ?_) | (with_reducible refine below_drewN ?_ _) | (with_reducible refine Below.setCell ?_ ?_ _) | (with_reducible refine Below.alloc ?_ ?_ _) | go_size | (exact Below.size (by assumption)) | (refine Below.trans ?_ (Below.mono (by assumption) ?_)))))); (focus (refine (hLr.below ?_).more ?_; (repeat' (first | (with_reducible exact Below.refl _ _) | (with_reducible assumption) | (with_reducible refine Below.drew ?_) | (with_reducible refine below_drewN ?_ _) | (with_reducible refine Below.setCell ?_ ?_ _) | (with_reducible refine Below.alloc ?_ ?_ _) | go_size | (exact Below.size (by assumption)) | (refine Below.trans ?_ (Below.mono (by assumption) ?_)))))); rintro e w5 ⟨O5, oc5, rfl, hoc5, hown5, hb5⟩; (first | replace hb5 := Below.un1 hb5 | replace hb5 := Below.un2 hb5 | skip); obtain ⟨hc5, hf5, hl5, hm5, hw5⟩ := bcell hb5))
        all_goals
          rename_i hHeld
          go_wp2_with fail
          go_ret
          exact ⟨ret_bool (by rw [HR.out, HK.out, HM.out, HRr.out]; rfl), hBr.trans (hHeld.2.mono hBr.size)⟩
    · obtain rfl : k = R.length := by omega
      go_wp2
      go_ret
      exact ⟨ret_bool (by rw [HR.out, HK.out, List.drop_length]; rfl), hBr⟩

theorem book_two {ls : List Ln} (h : bookB ls = true) : ls.length ≤ 6 ∧ ∀ l ∈ ls, lineB l = true := by
  simp only [bookB, Bool.and_eq_true, decide_eq_true_eq, List.all_eq_true] at h
  exact h
theorem ask_two {c : Ck} {q : Bool} (h : askE c q = 0) : c.ok = true ∧ q = true := by
  unfold askE at h
  revert h
  cases c.ok <;> cases q <;> simp

set_option maxRecDepth 100000 in
set_option maxHeartbeats 4000000 in
theorem rRight_any (set : Int) (A L : Option Addr) (cap lcap : Nat) (fs : List Fr) (ls : List Ln) (w : World) (hA : Arr w w.heap.size A (frosts fs)) (hL : Arr w w.heap.size L (lines ls)) :
    Calls Try.prog 26 #[.agg #[.int .i64 set, .slice A fs.length cap], .slice L ls.length lcap] w fun e w' =>
      e = .returned (.tuple #[.bool (rightR ⟨set, fs⟩ ls).1, .int .i64 (rightR ⟨set, fs⟩ ls).2]) ∧ Below w.heap.size w w' := by
  have HR : Hid (rightR ⟨set, fs⟩ ls = if askE ⟨set, fs⟩ (bookB ls) = 0 then (rightB ⟨set, fs⟩ ls, 0) else (false, askE ⟨set, fs⟩ (bookB ls))) := hid rfl
  go_enter Try.func26, Try.ntmps26
  go_wp2
  go_region_held3 (fun w' => (w'.cell? ⟨w.heap.size, 0, none⟩ = some (.int .i64 set) ∧ w'.cell? ⟨w.heap.size, 1, none⟩ = some (.slice A fs.length cap)) ∧ Below w.heap.size w w') (((refine ⟨?_, ?_⟩; (focus (first | (simp [go_sem, wr_set, wr_drew, wr_drewN, wr_alloc, wr_new]; done) | (simp [go_sem, wr_set, wr_drew, wr_drewN, wr_alloc, wr_new, *]; done) | (simp (disch := go_size) [go_sem, wr_set, wr_drew, wr_drewN, wr_alloc, wr_new, *]; done))); (repeat' (first | (with_reducible exact Below.refl _ _) | (with_reducible assumption) | (with_reducible refine Below.drew ?_) | (with_reducible refine below_drewN ?_ _) | (with_reducible refine Below.setCell ?_ ?_ _) | (with_reducible refine Below.alloc ?_ ?_ _) | go_size | (exact Below.size (by assumption)) | (refine Below.trans ?_ (Below.mono (by assumption) ?_)))))))
    (first
      | (go_at_call 72; refine (isBook_any L lcap ls _ ?_).mono ?_; (focus (refine (hL.below ?_).more ?_; (repeat' (first | (with_reducible exact Below.refl _ _) | (with_reducible assumption) | (with_reducible refine Below.drew ?_) | (with_reducible refine below_drewN ?_ _) | (with_reducible refine Below.setCell ?_ ?_ _) | (with_reducible refine Below.alloc ?_ ?_ _) | go_size | (exact Below.size (by assumption)) | (refine Below.trans ?_ (Below.mono (by assumption) ?_)))))); rintro e w1 ⟨rfl, hb1⟩; (first | replace hb1 := Below.un1 hb1 | replace hb1 := Below.un2 hb1 | skip); obtain ⟨hc1, hf1, hl1, hm1, hw1⟩ := bcell hb1; have hz1 := hb1.size; (try simp only [World.size_alloc, World.size_setCell] at hz1))
      | (go_at_call 58; refine (asked_any set A cap fs _ _ ?_).mono ?_; (focus (refine (hA.below ?_).more ?_; (repeat' (first | (with_reducible exact Below.refl _ _) | (with_reducible assumption) | (with_reducible refine Below.drew ?_) | (with_reducible refine below_drewN ?_ _) | (with_reducible refine Below.setCell ?_ ?_ _) | (with_reducible refine Below.alloc ?_ ?_ _) | go_size | (exact Below.size (by assumption)) | (refine Below.trans ?_ (Below.mono (by assumption) ?_)))))); rintro e w2 ⟨rfl, hb2⟩; (first | replace hb2 := Below.un1 hb2 | replace hb2 := Below.un2 hb2 | skip); obtain ⟨hc2, hf2, hl2, hm2, hw2⟩ := bcell hb2; have hz2 := hb2.size; (try simp only [World.size_alloc, World.size_setCell] at hz2)))
  all_goals
    rename_i hHeld
    obtain ⟨⟨s0, s1⟩, hB⟩ := hHeld
    clear hc2 hf2 hl2 hm2 hw2
    by_cases he : askE ⟨set, fs⟩ (bookB ls) = 0
    · obtain ⟨h1, h2⟩ := ask_two he
      obtain ⟨hO, hs1, hs2⟩ := okFs_of h1
      obtain ⟨h6, hv⟩ := book_two h2
      have H1 : Hid (rightR ⟨set, fs⟩ ls = (rightB ⟨set, fs⟩ ls, 0)) := hid (by rw [HR.out, if_pos he])
      clear HR h1 h2
      go_wp2_with (go_at_call 73; refine (right_any set A L cap lcap fs ls _ ?_ ?_ hO hv h6 ⟨hs1, hs2⟩).mono ?_; (focus (refine (hA.below ?_).more ?_; (repeat' (first | (with_reducible exact Below.refl _ _) | (with_reducible assumption) | (with_reducible refine Below.drew ?_) | (with_reducible refine below_drewN ?_ _) | (with_reducible refine Below.setCell ?_ ?_ _) | (with_reducible refine Below.alloc ?_ ?_ _) | go_size | (exact Below.size (by assumption)) | (refine Below.trans ?_ (Below.mono (by assumption) ?_)))))); (focus (refine (hL.below ?_).more ?_; (repeat' (first | (with_reducible exact Below.refl _ _) | (with_reducible assumption) | (with_reducible refine Below.drew ?_) | (with_reducible refine below_drewN ?_ _) | (with_reducible refine Below.setCell ?_ ?_ _) | (with_reducible refine Below.alloc ?_ ?_ _) | go_size | (exact Below.size (by assumption)) | (refine Below.trans ?_ (Below.mono (by assumption) ?_)))))); rintro e w3 ⟨rfl, hb3⟩; (first | replace hb3 := Below.un1 hb3 | replace hb3 := Below.un2 hb3 | skip); obtain ⟨hc3, hf3, hl3, hm3, hw3⟩ := bcell hb3; have hz3 := hb3.size; (try simp only [World.size_alloc, World.size_setCell] at hz3))
      simp [bodyPost, results, Try.results26, go_sem, H1.out, *]
      (repeat' (first | (with_reducible exact Below.refl _ _) | (with_reducible assumption) | (with_reducible refine Below.drew ?_) | (with_reducible refine below_drewN ?_ _) | (with_reducible refine Below.setCell ?_ ?_ _) | (with_reducible refine Below.alloc ?_ ?_ _) | go_size | (exact Below.size (by assumption)) | (refine Below.trans ?_ (Below.mono (by assumption) ?_))))
    · have H1 : Hid (rightR ⟨set, fs⟩ ls = (false, askE ⟨set, fs⟩ (bookB ls))) := hid (by rw [HR.out, if_neg he])
      have ht : (askE ⟨set, fs⟩ (bookB ls) != 0) = true := by rw [bne_iff_ne]; exact he
      clear HR he
      go_wp2
      simp [bodyPost, results, Try.results26, go_sem, H1.out, *]
      (repeat' (first | (with_reducible exact Below.refl _ _) | (with_reducible assumption) | (with_reducible refine Below.drew ?_) | (with_reducible refine below_drewN ?_ _) | (with_reducible refine Below.setCell ?_ ?_ _) | (with_reducible refine Below.alloc ?_ ?_ _) | go_size | (exact Below.size (by assumption)) | (refine Below.trans ?_ (Below.mono (by assumption) ?_))))
end Go.Proofs.Ytmddbnjbliponaa
