/- What Times returns. -/
import Derived.Test.YtifemcokckgdcaaP18
import Derived.Test.YtifemcokckgdcaaP19
namespace Go.Proofs.Ytifemcokckgdcaa
set_option linter.unusedSimpArgs false
set_option linter.unusedVariables false
open Go.RowKit Go.Shelf
attribute [local go_sem high] cell_set_wr
attribute [local go_sem low] cell_wr frozen_wr
attribute [local go_sem] wr_set wr_drew wr_drewN wr_alloc wr_new

def pTimesR (c : Ck) (ls : List Ln) : List Sp × Int := if falseE c ls = 0 then (timesL (coursesL c.set c.frs (untilL ls) ls) ls.length, 0) else ([], falseE c ls)
theorem timesL_length (XS : List (List Sp × List Sp)) (n : Nat) : (timesL XS n).length = n := by simp [timesL]

set_option maxRecDepth 100000 in
set_option maxHeartbeats 4000000 in
theorem pTimes_any (set : Int) (A L : Option Addr) (cap lcap : Nat) (fs : List Fr) (ls : List Ln) (w : World) (hA : Arr w w.heap.size A (frosts fs)) (hL : Arr w w.heap.size L (lines ls)) (hl : ls.length ≤ 281474976710656) :
    Calls Try.prog 27 #[.agg #[.int .i64 set, .slice A fs.length cap], .slice L ls.length lcap] w fun e w' =>
      (∃ O ocap, e = .returned (.tuple #[.slice O (pTimesR ⟨set, fs⟩ ls).1.length ocap, .int .i64 (pTimesR ⟨set, fs⟩ ls).2]) ∧ ocap ≤ maxLen ∧ Arr w' w'.heap.size O (spans (pTimesR ⟨set, fs⟩ ls).1)) ∧ Below w.heap.size w w' := by
  have HR : Hid (pTimesR ⟨set, fs⟩ ls = if falseE ⟨set, fs⟩ ls = 0 then (timesL (coursesL set fs (untilL ls) ls) ls.length, 0) else ([], falseE ⟨set, fs⟩ ls)) := hid rfl
  by_cases he : falseE ⟨set, fs⟩ ls = 0
  · have H1 : Hid (pTimesR ⟨set, fs⟩ ls = (timesL (coursesL set fs (untilL ls) ls) ls.length, 0)) := hid (by rw [HR.out, if_pos he])
    obtain ⟨he', _⟩ := falseE_zero he
    obtain ⟨hok, hbk⟩ := askE_zero he'
    obtain ⟨hO, hs1, hs2⟩ := okFs_of hok
    obtain ⟨hl6, hlb⟩ := book_of hbk
    have HE := hid he
    clear HR hok he he' hbk
    go_enter Try.func27, Try.ntmps27
    go_wp2_with (first
      | (go_at_call 74; refine (refuseFalse_any set A L cap lcap fs ls _ ?_ ?_ hl).mono ?_; (focus (refine (hA.below ?_).more ?_; (repeat' (first | (with_reducible exact Below.refl _ _) | (with_reducible assumption) | (with_reducible refine Below.drew ?_) | (with_reducible refine below_drewN ?_ _) | (with_reducible refine Below.setCell ?_ ?_ _) | (with_reducible refine Below.alloc ?_ ?_ _) | go_size | (exact Below.size (by assumption)) | (refine Below.trans ?_ (Below.mono (by assumption) ?_)))))); (focus (refine (hL.below ?_).more ?_; (repeat' (first | (with_reducible exact Below.refl _ _) | (with_reducible assumption) | (with_reducible refine Below.drew ?_) | (with_reducible refine below_drewN ?_ _) | (with_reducible refine Below.setCell ?_ ?_ _) | (with_reducible refine Below.alloc ?_ ?_ _) | go_size | (exact Below.size (by assumption)) | (refine Below.trans ?_ (Below.mono (by assumption) ?_)))))); rw [HE.out]; rintro e w2 ⟨rfl, hb2⟩; (first | replace hb2 := Below.un1 hb2 | replace hb2 := Below.un2 hb2 | skip); obtain ⟨hc2, hf2, hl2, hm2, hw2⟩ := bcell hb2; have hz2 := hb2.size; (try simp only [World.size_alloc, World.size_setCell] at hz2))
      | (go_at_call 75; refine (times_any set A L cap lcap fs ls _ hO ⟨hs1, hs2⟩ hl6 hlb ?_ ?_).mono ?_; (focus (refine (hA.below ?_).more ?_; (repeat' (first | (with_reducible exact Below.refl _ _) | (with_reducible assumption) | (with_reducible refine Below.drew ?_) | (with_reducible refine below_drewN ?_ _) | (with_reducible refine Below.setCell ?_ ?_ _) | (with_reducible refine Below.alloc ?_ ?_ _) | go_size | (exact Below.size (by assumption)) | (refine Below.trans ?_ (Below.mono (by assumption) ?_)))))); (focus (refine (hL.below ?_).more ?_; (repeat' (first | (with_reducible exact Below.refl _ _) | (with_reducible assumption) | (with_reducible refine Below.drew ?_) | (with_reducible refine below_drewN ?_ _) | (with_reducible refine Below.setCell ?_ ?_ _) | (with_reducible refine Below.alloc ?_ ?_ _) | go_size | (exact Below.size (by assumption)) | (refine Below.trans ?_ (Below.mono (by assumption) ?_)))))); rintro e w4 ⟨⟨O, oc, rfl, hoc, hOA⟩, hb4⟩))
    go_ret2
    refine ⟨⟨O, oc, ?_, hoc, ?_⟩, by (repeat' (first | (with_reducible exact Below.refl _ _) | (with_reducible assumption) | (with_reducible refine Below.drew ?_) | (with_reducible refine below_drewN ?_ _) | (with_reducible refine Below.setCell ?_ ?_ _) | (with_reducible refine Below.alloc ?_ ?_ _) | go_size | (exact Below.size (by assumption)) | (refine Below.trans ?_ (Below.mono (by assumption) ?_))))⟩
    · rw [H1.out, timesL_length]; rfl
    · rw [H1.out]; exact hOA
  · have H1 : Hid (pTimesR ⟨set, fs⟩ ls = ([], falseE ⟨set, fs⟩ ls)) := hid (by rw [HR.out, if_neg he])
    have ht : (falseE ⟨set, fs⟩ ls != 0) = true := by rw [bne_iff_ne]; exact he
    clear HR he
    go_enter Try.func27, Try.ntmps27
    go_wp2_with (go_at_call 74; refine (refuseFalse_any set A L cap lcap fs ls _ ?_ ?_ hl).mono ?_; (focus (refine (hA.below ?_).more ?_; (repeat' (first | (with_reducible exact Below.refl _ _) | (with_reducible assumption) | (with_reducible refine Below.drew ?_) | (with_reducible refine below_drewN ?_ _) | (with_reducible refine Below.setCell ?_ ?_ _) | (with_reducible refine Below.alloc ?_ ?_ _) | go_size | (exact Below.size (by assumption)) | (refine Below.trans ?_ (Below.mono (by assumption) ?_)))))); (focus (refine (hL.below ?_).more ?_; (repeat' (first | (with_reducible exact Below.refl _ _) | (with_reducible assumption) | (with_reducible refine Below.drew ?_) | (with_reducible refine below_drewN ?_ _) | (with_reducible refine Below.setCell ?_ ?_ _) | (with_reducible refine Below.alloc ?_ ?_ _) | go_size | (exact Below.size (by assumption)) | (refine Below.trans ?_ (Below.mono (by assumption) ?_)))))); rintro e w2 ⟨rfl, hb2⟩; (first | replace hb2 := Below.un1 hb2 | replace hb2 := Below.un2 hb2 | skip); obtain ⟨hc2, hf2, hl2, hm2, hw2⟩ := bcell hb2; have hz2 := hb2.size; (try simp only [World.size_alloc, World.size_setCell] at hz2))
    go_ret2
    refine ⟨⟨none, 0, ?_, by unfold maxLen; omega, ?_⟩, by (repeat' (first | (with_reducible exact Below.refl _ _) | (with_reducible assumption) | (with_reducible refine Below.drew ?_) | (with_reducible refine below_drewN ?_ _) | (with_reducible refine Below.setCell ?_ ?_ _) | (with_reducible refine Below.alloc ?_ ?_ _) | go_size | (exact Below.size (by assumption)) | (refine Below.trans ?_ (Below.mono (by assumption) ?_))))⟩
    · rw [H1.out]; rfl
    · rw [H1.out]; exact Arr.nil _ _ _
end Go.Proofs.Ytifemcokckgdcaa
