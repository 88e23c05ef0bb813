/- What clavendierref01's Stopped returns, for any clock and book. -/
import Derived.Test.YtmddbnjbliponaaR9
import Derived.Test.YtmddbnjbliponaaD3
namespace Go.Proofs.Ytmddbnjbliponaa
set_option linter.unusedSimpArgs false
set_option linter.unusedVariables false
open Go.RowKit
attribute [local go_sem high] cell_set_wr
attribute [local go_sem low] cell_wr frozen_wr
attribute [local go_sem] wr_set wr_drew wr_drewN wr_alloc wr_new

/-- what one truth adds to how long the clock can have stood still -/
def stepS (c : Ck) (ls : List Ln) (h : Option Sp) (tr : List When) : Option Sp := if (courseT c ls tr).isSome then addS h (stillS tr 4320) else h
theorem stopped_fold (c : Ck) (ls : List Ln) : ∀ (l : List (List When)) (h : Option Sp), ((l.filter fun tr => (courseT c ls tr).isSome).map fun tr => stillS tr 4320).foldl addS h = l.foldl (stepS c ls) h := fun l => by
  induction l with
  | nil => intro h; rfl
  | cons x l ih =>
    intro h
    rw [List.foldl_cons, List.filter_cons]
    unfold stepS
    cases hp : (courseT c ls x).isSome
    · simp only [Bool.false_eq_true, if_false]; exact ih h
    · simp only [if_true, List.map_cons, List.foldl_cons]; exact ih _
theorem fold_drop {α β : Type} (l : List α) (f : β → α → β) (b : β) (k : Nat) (hk : k < l.length) : (l.drop k).foldl f b = (l.drop (k + 1)).foldl f (f b l[k]) := by
  rw [List.drop_eq_getElem_cons hk]; rfl

set_option maxRecDepth 100000 in
set_option maxHeartbeats 4000000 in
theorem rStopped_any (set : Int) (A L : Option Addr) (cap lcap : Nat) (fs : List Fr) (ls : List Ln) (w : World) (hA : Arr w w.heap.size A (frosts fs)) (hL : Arr w w.heap.size L (lines ls)) :
    Calls Try.prog 31 #[.agg #[.int .i64 set, .slice A fs.length cap], .slice L ls.length lcap] w fun e w' =>
      e = .returned (.tuple #[.agg #[.int .i64 (stoppedR ⟨set, fs⟩ ls).1.lo, .int .i64 (stoppedR ⟨set, fs⟩ ls).1.hi], .int .i64 (stoppedR ⟨set, fs⟩ ls).2]) ∧ Below w.heap.size w w' := by
  have HR : Hid (stoppedR ⟨set, fs⟩ ls = if askE ⟨set, fs⟩ (bookB ls) = 0 then (match stoppedH ⟨set, fs⟩ ls with | none => (zeroSp, 12) | some s => (s, 0)) else (zeroSp, askE ⟨set, fs⟩ (bookB ls))) := hid rfl
  go_enter Try.func31, Try.ntmps31
  go_wp2
  go_region_held3 (fun w' => (w'.cell? ⟨w.heap.size, 0, none⟩ = some (.int .i64 set) ∧ w'.cell? ⟨w.heap.size, 1, none⟩ = some (.slice A fs.length cap) ∧ Wr w' (w.heap.size + 1) 0 ∧ Wr w' (w.heap.size + 1) 1) ∧ Below w.heap.size w w') (((refine ⟨?_, ?_⟩; (focus (first | (simp [go_sem, wr_set, wr_drew, wr_drewN, wr_alloc, wr_new]; done) | (simp [go_sem, wr_set, wr_drew, wr_drewN, wr_alloc, wr_new, *]; done) | (simp (disch := go_size) [go_sem, wr_set, wr_drew, wr_drewN, wr_alloc, wr_new, *]; done))); (repeat' (first | (with_reducible exact Below.refl _ _) | (with_reducible assumption) | (with_reducible refine Below.drew ?_) | (with_reducible refine below_drewN ?_ _) | (with_reducible refine Below.setCell ?_ ?_ _) | (with_reducible refine Below.alloc ?_ ?_ _) | go_size | (exact Below.size (by assumption)) | (refine Below.trans ?_ (Below.mono (by assumption) ?_)))))))
    (first
      | (go_at_call 72; refine (isBook_any L lcap ls _ ?_).mono ?_; (focus (refine (hL.below ?_).more ?_; (repeat' (first | (with_reducible exact Below.refl _ _) | (with_reducible assumption) | (with_reducible refine Below.drew ?_) | (with_reducible refine below_drewN ?_ _) | (with_reducible refine Below.setCell ?_ ?_ _) | (with_reducible refine Below.alloc ?_ ?_ _) | go_size | (exact Below.size (by assumption)) | (refine Below.trans ?_ (Below.mono (by assumption) ?_)))))); rintro e w1 ⟨rfl, hb1⟩; (first | replace hb1 := Below.un1 hb1 | replace hb1 := Below.un2 hb1 | skip); obtain ⟨hc1, hf1, hl1, hm1, hw1⟩ := bcell hb1; have hz1 := hb1.size; (try simp only [World.size_alloc, World.size_setCell] at hz1); have n1 : w.heap.size < w1.heap.size := (by omega); have n2 : w.heap.size + 1 < w1.heap.size := (by omega))
      | (go_at_call 58; refine (asked_any set A cap fs _ _ ?_).mono ?_; (focus (refine (hA.below ?_).more ?_; (repeat' (first | (with_reducible exact Below.refl _ _) | (with_reducible assumption) | (with_reducible refine Below.drew ?_) | (with_reducible refine below_drewN ?_ _) | (with_reducible refine Below.setCell ?_ ?_ _) | (with_reducible refine Below.alloc ?_ ?_ _) | go_size | (exact Below.size (by assumption)) | (refine Below.trans ?_ (Below.mono (by assumption) ?_)))))); rintro e w2 ⟨rfl, hb2⟩; (first | replace hb2 := Below.un1 hb2 | replace hb2 := Below.un2 hb2 | skip); obtain ⟨hc2, hf2, hl2, hm2, hw2⟩ := bcell hb2; have hz2 := hb2.size; (try simp only [World.size_alloc, World.size_setCell] at hz2)))
  rename_i hHeld
  obtain ⟨⟨s0, s1, s2, s3⟩, hB⟩ := hHeld
  clear hc2 hf2 hl2 hm2 hw2
  have hlw : w.heap.size + 1 < w2.heap.size := s2.lt
  by_cases he : askE ⟨set, fs⟩ (bookB ls) = 0
  · have H1 : Hid (stoppedR ⟨set, fs⟩ ls = match stoppedH ⟨set, fs⟩ ls with | none => (zeroSp, 12) | some s => (s, 0)) := hid (by rw [HR.out, if_pos he])
    obtain ⟨h1, h2⟩ := ask_two he
    obtain ⟨hO, hs1, hs2⟩ := okFs_of h1
    obtain ⟨h6, hv⟩ := book_two h2
    have hS : Hid (∀ tr ∈ truths fs, still tr 4320 ≤ 4320) := hid fun tr ht => by
      have := still_most fs 0 (chk_of h1) tr ((mem_truths fs tr).1 ht) 4320
      omega
    clear HR h1 h2
    go_wp2_with (first
      | (go_at_call 41; refine (to_any _ _ _).mono ?_; rintro e w3 ⟨rfl, hb3⟩; (first | replace hb3 := Below.un1 hb3 | replace hb3 := Below.un2 hb3 | skip); obtain ⟨hc3, hf3, hl3, hm3, hw3⟩ := bcell hb3; have hz3 := hb3.size; (try simp only [World.size_alloc, World.size_setCell] at hz3); have n3 : w.heap.size + 1 < w3.heap.size := (by omega); have n3' : w.heap.size < w3.heap.size := (by omega); have p0 : w3.cell? ⟨w.heap.size, 0, none⟩ = some (.int .i64 set) := ((hc3 _ _ (by omega)).trans s0); have p1 : w3.cell? ⟨w.heap.size, 1, none⟩ = some (.slice A fs.length cap) := ((hc3 _ _ (by omega)).trans s1))
      | (go_at_call 59; refine (truths_any fs.length 0 0 set A cap fs _ (by omega) (by omega) (by rfl) ?_ hO).mono ?_; (focus (refine (hA.below ?_).more ?_; (repeat' (first | (with_reducible exact Below.refl _ _) | (with_reducible assumption) | (with_reducible refine Below.drew ?_) | (with_reducible refine below_drewN ?_ _) | (with_reducible refine Below.setCell ?_ ?_ _) | (with_reducible refine Below.alloc ?_ ?_ _) | go_size | (exact Below.size (by assumption)) | (refine Below.trans ?_ (Below.mono (by assumption) ?_)))))); rintro e w4 ⟨A4, cap4, rfl, hcap4, hA4, hb4⟩; obtain ⟨hc4, hf4, hl4, hm4, hw4⟩ := bcell hb4))
    rw [List.drop_zero] at hA4
    have hTr : Hid (∀ tr ∈ truths fs, OkTr tr) := hid fun tr h => okTr_mem hO h
    have HH : Hid (stoppedH ⟨set, fs⟩ ls = (truths fs).foldl (stepS ⟨set, fs⟩ ls) none) := hid (stopped_fold _ _ _ _)
    have hRL := truths_small fs hO 0
    rw [List.drop_zero] at hRL
    have q0 : w4.cell? ⟨w.heap.size, 0, none⟩ = some (.int .i64 set) := by (first | (simp [go_sem, wr_set, wr_drew, wr_drewN, wr_alloc, wr_new]; done) | (simp [go_sem, wr_set, wr_drew, wr_drewN, wr_alloc, wr_new, *]; done) | (simp (disch := go_size) [go_sem, wr_set, wr_drew, wr_drewN, wr_alloc, wr_new, *]; done))
    have q1 : w4.cell? ⟨w.heap.size, 1, none⟩ = some (.slice A fs.length cap) := by (first | (simp [go_sem, wr_set, wr_drew, wr_drewN, wr_alloc, wr_new]; done) | (simp [go_sem, wr_set, wr_drew, wr_drewN, wr_alloc, wr_new, *]; done) | (simp (disch := go_size) [go_sem, wr_set, wr_drew, wr_drewN, wr_alloc, wr_new, *]; done))
    have q2 : Wr w4 (w.heap.size + 1) 0 := by (repeat' (first | (with_reducible assumption) | (refine wr_new rfl ?_; (first | decide | (simp; done))) | (with_reducible refine wr_drew' ?_) | (with_reducible refine wr_drewN' ?_) | (with_reducible refine wr_set' ?_) | (refine wr_below ?_ (by assumption) ?_) | (with_reducible refine wr_alloc _ ?_) | go_size))
    have q3 : Wr w4 (w.heap.size + 1) 1 := by (repeat' (first | (with_reducible assumption) | (refine wr_new rfl ?_; (first | decide | (simp; done))) | (with_reducible refine wr_drew' ?_) | (with_reducible refine wr_drewN' ?_) | (with_reducible refine wr_set' ?_) | (refine wr_below ?_ (by assumption) ?_) | (with_reducible refine wr_alloc _ ?_) | go_size))
    have o0 : w4.cell? ⟨w3.heap.size, 0, none⟩ = some (.int .i64 4320) := by (first | (simp [go_sem, wr_set, wr_drew, wr_drewN, wr_alloc, wr_new]; done) | (simp [go_sem, wr_set, wr_drew, wr_drewN, wr_alloc, wr_new, *]; done) | (simp (disch := go_size) [go_sem, wr_set, wr_drew, wr_drewN, wr_alloc, wr_new, *]; done))
    have o1 : w4.cell? ⟨w3.heap.size, 1, none⟩ = some (.int .i64 (-1)) := by (first | (simp [go_sem, wr_set, wr_drew, wr_drewN, wr_alloc, wr_new]; done) | (simp [go_sem, wr_set, wr_drew, wr_drewN, wr_alloc, wr_new, *]; done) | (simp (disch := go_size) [go_sem, wr_set, wr_drew, wr_drewN, wr_alloc, wr_new, *]; done))
    have o2 : Wr w4 w3.heap.size 0 := by (repeat' (first | (with_reducible assumption) | (refine wr_new rfl ?_; (first | decide | (simp; done))) | (with_reducible refine wr_drew' ?_) | (with_reducible refine wr_drewN' ?_) | (with_reducible refine wr_set' ?_) | (refine wr_below ?_ (by assumption) ?_) | (with_reducible refine wr_alloc _ ?_) | go_size))
    have o3 : Wr w4 w3.heap.size 1 := by (repeat' (first | (with_reducible assumption) | (refine wr_new rfl ?_; (first | decide | (simp; done))) | (with_reducible refine wr_drew' ?_) | (with_reducible refine wr_drewN' ?_) | (with_reducible refine wr_set' ?_) | (refine wr_below ?_ (by assumption) ?_) | (with_reducible refine wr_alloc _ ?_) | go_size))
    have o4 : ∀ j, 2 ≤ j → w4.cell? ⟨w3.heap.size, j, none⟩ = none := fun j hj => by
      rw [hc4 _ _ (by simp)]
      exact cell_past w3 _ _ j (by simpa using hj)
    have hB4 : Below w.heap.size w w4 := by (repeat' (first | (with_reducible exact Below.refl _ _) | (with_reducible assumption) | (with_reducible refine Below.drew ?_) | (with_reducible refine below_drewN ?_ _) | (with_reducible refine Below.setCell ?_ ?_ _) | (with_reducible refine Below.alloc ?_ ?_ _) | go_size | (exact Below.size (by assumption)) | (refine Below.trans ?_ (Below.mono (by assumption) ?_))))
    have hz4 : w3.heap.size < w4.heap.size := o2.lt
    have n4 : w.heap.size + 1 < w4.heap.size := by omega
    have hO0 : w.heap.size + 1 < w3.heap.size := n3
    clear hc3 hf3 hl3 hm3 hw3 hb3 hz3 n3 n3' p0 p1 hc4 hf4 hl4 hm4 hw4 hb4 s0 s1 s2 s3 hB hb2 hz2 hlw
    generalize w3.heap.size = O at *
    generalize hgR : truths fs = R at *
    clear hgR
    go_loopw [9] (fun i wr => ∃ (k : Nat) (h : Option Sp), k ≤ R.length ∧ i = .int .i64 k ∧ wr.cell? ⟨O, 0, none⟩ = some (.int .i64 (outOf h).lo) ∧ wr.cell? ⟨O, 1, none⟩ = some (.int .i64 (outOf h).hi) ∧ Wr wr O 0 ∧ Wr wr O 1 ∧
        Hid (R.foldl (stepS ⟨set, fs⟩ ls) none = (R.drop k).foldl (stepS ⟨set, fs⟩ ls) h) ∧ Hid (∀ t, h = some t → t.lo ≤ t.hi) ∧
        (∀ b o, b < w4.heap.size → b ≠ O → wr.cell? ⟨b, o, none⟩ = w4.cell? ⟨b, o, none⟩) ∧ Wr wr (w.heap.size + 1) 0 ∧ Wr wr (w.heap.size + 1) 1 ∧ w4.heap.size ≤ wr.heap.size ∧ Below w.heap.size w wr) (fun i _ => R.length - (intOf i).toNat)
    case atStart =>
      exact ⟨0, none, Nat.zero_le _, rfl, o0, o1, o2, o3, hid (by rw [List.drop_zero]), hid (fun t ht => by cases ht), fun _ _ _ _ => rfl, q2, q3, Nat.le_refl _, hB4⟩
    case round =>
      obtain ⟨k, h, hk, rfl, b0, b1, b2, b3, HK, HV, hsame, g2, g3, hzr, hBr⟩ := hrel
      have Hs := hid hsame
      clear hsame
      have hOr : O < wr.heap.size := by omega
      have hnr : w.heap.size + 1 < wr.heap.size := by omega
      by_cases hlt : k < R.length
      · obtain ⟨b', o', A'', c'', rfl, hb', hck, hAk⟩ := hA4.at_ hlt
        have hTk := hTr.out _ (List.getElem_mem hlt)
        have hSk := hS.out _ (List.getElem_mem hlt)
        have hSn := still_nonneg R[k] 4320
        have hk1 : k + 1 ≤ R.length := hlt
        have HM := hid (fold_drop R (stepS ⟨set, fs⟩ ls) h k hlt)
        have hbO : b' ≠ O := fun e => by
          rw [e] at hck
          rcases Nat.lt_or_ge (o' + k) 2 with ho | ho
          · rcases Nat.lt_or_ge (o' + k) 1 with h' | h'
            · rw [show o' + k = 0 by omega, o0] at hck; cases hck
            · rw [show o' + k = 1 by omega, o1] at hck; cases hck
          · rw [o4 _ ho] at hck; cases hck
        have hne' := spans_ne hAk o0 o1 o4 fun t ht => by have := hTk.2 t ht; omega
        have hAk' := (arr_same hAk Hs.out hne').more hzr
        have hck' := (Hs.out b' (o' + k) hb' hbO).trans hck
        have e0 := (Hs.out w.heap.size 0 (by omega) (by omega)).trans q0
        have e1 := (Hs.out w.heap.size 1 (by omega) (by omega)).trans q1
        have hLr := (hL.below hBr).more (show w.heap.size ≤ wr.heap.size by omega)
        have hbr : b' < wr.heap.size := by omega
        have hnr' : w.heap.size < wr.heap.size := by omega
        clear hck hAk hne'
        generalize R[k] = tr at *
        have HST : Hid (stepS ⟨set, fs⟩ ls h tr = if (courseT ⟨set, fs⟩ ls tr).isSome then addS h (stillS tr 4320) else h) := hid rfl
        have HAd := hid (outOf_add h (stillS tr 4320) (Int.le_refl _) (by simp only [stillS]; omega) (by simp only [stillS]; omega))
        have HAO := hid (addS_ok h (stillS tr 4320) HV.out)
        obtain ⟨n, hn⟩ : ∃ n, still tr 4320 = n := ⟨_, rfl⟩
        have HAd1 : Hid ((outOf (addS h (stillS tr 4320))).lo = min (outOf h).lo n) := hid (by rw [HAd.out]; simp only [stillS, hn])
        have HAd2 : Hid ((outOf (addS h (stillS tr 4320))).hi = max (outOf h).hi n) := hid (by rw [HAd.out]; simp only [stillS, hn])
        have HN := hid hn
        obtain ⟨r, hr⟩ : ∃ r, courseT ⟨set, fs⟩ ls tr = r := ⟨_, rfl⟩
        have HRr := hid hr
        rw [hn] at hSk hSn
        clear hr hn HAd
        cases r with
        | none =>
          have HST2 : Hid (stepS ⟨set, fs⟩ ls h tr = h) := hid (by rw [HST.out, HRr.out]; rfl)
          clear HST HAO
          go_wp2
          go_cut [11] (fun p wx => p = .bool false ∧ Below wr.heap.size wr wx)
          case first =>
            clear o0 o1 o4 q0 q1
            go_region_held3 (fun w' => (w'.cell? ⟨w.heap.size, 0, none⟩ = some (.int .i64 set) ∧ w'.cell? ⟨w.heap.size, 1, none⟩ = some (.slice A fs.length cap) ∧ w'.cell? ⟨b', o' + k, none⟩ = some (.slice A'' tr.length c'')) ∧ Below wr.heap.size wr w') (((refine ⟨?_, ?_⟩; (focus (first | (simp [go_sem, wr_set, wr_drew, wr_drewN, wr_alloc, wr_new]; done) | (simp [go_sem, wr_set, wr_drew, wr_drewN, wr_alloc, wr_new, *]; done) | (simp (disch := go_size) [go_sem, wr_set, wr_drew, wr_drewN, wr_alloc, wr_new, *]; done))); (repeat' (first | (with_reducible exact Below.refl _ _) | (with_reducible assumption) | (with_reducible refine Below.drew ?_) | (with_reducible refine below_drewN ?_ _) | (with_reducible refine Below.setCell ?_ ?_ _) | (with_reducible refine Below.alloc ?_ ?_ _) | go_size | (exact Below.size (by assumption)) | (refine Below.trans ?_ (Below.mono (by assumption) ?_)))))))
              (first
                | (go_at_call 76; refine (course_no HRr.out ?_ ?_ hTk hv h6 ⟨hs1, hs2⟩).mono ?_; (focus (refine (hAk'.below ?_).more ?_; (repeat' (first | (with_reducible exact Below.refl _ _) | (with_reducible assumption) | (with_reducible refine Below.drew ?_) | (with_reducible refine below_drewN ?_ _) | (with_reducible refine Below.setCell ?_ ?_ _) | (with_reducible refine Below.alloc ?_ ?_ _) | go_size | (exact Below.size (by assumption)) | (refine Below.trans ?_ (Below.mono (by assumption) ?_)))))); (focus (refine (hLr.below ?_).more ?_; (repeat' (first | (with_reducible exact Below.refl _ _) | (with_reducible assumption) | (with_reducible refine Below.drew ?_) | (with_reducible refine below_drewN ?_ _) | (with_reducible refine Below.setCell ?_ ?_ _) | (with_reducible refine Below.alloc ?_ ?_ _) | go_size | (exact Below.size (by assumption)) | (refine Below.trans ?_ (Below.mono (by assumption) ?_)))))); rintro e w5 ⟨rfl, hb5⟩; (first | replace hb5 := Below.un1 hb5 | replace hb5 := Below.un2 hb5 | skip); obtain ⟨hc5, hf5, hl5, hm5, hw5⟩ := bcell hb5; have hz5 := hb5.size; (try simp only [World.size_alloc, World.size_setCell] at hz5)))
            all_goals
              rename_i hHeld
              go_wp2_with fail
              go_meet
              exact ⟨rfl, hHeld.2⟩
          case rest =>
            obtain ⟨rfl, hbP⟩ := hcut
            have d0 : wc.cell? ⟨O, 0, none⟩ = some (.int .i64 (outOf h).lo) := (hbP.cell (by simp only; omega)).trans b0
            have d1 : wc.cell? ⟨O, 1, none⟩ = some (.int .i64 (outOf h).hi) := (hbP.cell (by simp only; omega)).trans b1
            have d2 : Wr wc O 0 := wr_below b2 hbP hOr
            have d3 : Wr wc O 1 := wr_below b3 hbP hOr
            have f2 : Wr wc (w.heap.size + 1) 0 := wr_below g2 hbP hnr
            have f3 : Wr wc (w.heap.size + 1) 1 := wr_below g3 hbP hnr
            have Hs' : Hid (∀ b o, b < w4.heap.size → b ≠ O → wc.cell? ⟨b, o, none⟩ = w4.cell? ⟨b, o, none⟩) := hid fun b o h1 h2 => (hbP.cell (by simp only; omega)).trans (Hs.out b o h1 h2)
            have hBc : Below w.heap.size w wc := hBr.trans (hbP.mono (by omega))
            have hzc : w4.heap.size ≤ wc.heap.size := by have := hbP.size; omega
            clear b0 b1 b2 b3 g2 g3 Hs hBr hzr hOr hnr hnr' hbr e0 e1 hck' hAk'
            go_wp2_with fail
            refine ⟨⟨k + 1, h, hk1, by go_num, d0, d1, d2, d3, hid (by rw [HK.out, HM.out, HST2.out]), HV, Hs'.out, f2, f3, hzc, hBc⟩, by simp [intOf]; omega⟩
        | some s =>
          have HST2 : Hid (stepS ⟨set, fs⟩ ls h tr = addS h (stillS tr 4320)) := hid (by rw [HST.out, HRr.out]; rfl)
          clear HST
          go_wp2
          go_cut [11] (fun p wx => p = .bool true ∧ Below wr.heap.size wr wx)
          case first =>
            clear o0 o1 o4 q0 q1
            go_region_held3 (fun w' => (w'.cell? ⟨w.heap.size, 0, none⟩ = some (.int .i64 set) ∧ w'.cell? ⟨w.heap.size, 1, none⟩ = some (.slice A fs.length cap) ∧ w'.cell? ⟨b', o' + k, none⟩ = some (.slice A'' tr.length c'')) ∧ Below wr.heap.size wr w') (((refine ⟨?_, ?_⟩; (focus (first | (simp [go_sem, wr_set, wr_drew, wr_drewN, wr_alloc, wr_new]; done) | (simp [go_sem, wr_set, wr_drew, wr_drewN, wr_alloc, wr_new, *]; done) | (simp (disch := go_size) [go_sem, wr_set, wr_drew, wr_drewN, wr_alloc, wr_new, *]; done))); (repeat' (first | (with_reducible exact Below.refl _ _) | (with_reducible assumption) | (with_reducible refine Below.drew ?_) | (with_reducible refine below_drewN ?_ _) | (with_reducible refine Below.setCell ?_ ?_ _) | (with_reducible refine Below.alloc ?_ ?_ _) | go_size | (exact Below.size (by assumption)) | (refine Below.trans ?_ (Below.mono (by assumption) ?_)))))))
              (first
                | (go_at_call 76; refine (course_yes HRr.out ?_ ?_ hTk hv h6 ⟨hs1, hs2⟩).mono ?_; (focus (refine (hAk'.below ?_).more ?_; (repeat' (first | (with_reducible exact Below.refl _ _) | (with_reducible assumption) | (with_reducible refine Below.drew ?_) | (with_reducible refine below_drewN ?_ _) | (with_reducible refine Below.setCell ?_ ?_ _) | (with_reducible refine Below.alloc ?_ ?_ _) | go_size | (exact Below.size (by assumption)) | (refine Below.trans ?_ (Below.mono (by assumption) ?_)))))); (focus (refine (hLr.below ?_).more ?_; (repeat' (first | (with_reducible exact Below.refl _ _) | (with_reducible assumption) | (with_reducible refine Below.drew ?_) | (with_reducible refine below_drewN ?_ _) | (with_reducible refine Below.setCell ?_ ?_ _) | (with_reducible refine Below.alloc ?_ ?_ _) | go_size | (exact Below.size (by assumption)) | (refine Below.trans ?_ (Below.mono (by assumption) ?_)))))); rintro e w5 ⟨O5, oc5, rfl, hoc5, hown5, hb5⟩; (first | replace hb5 := Below.un1 hb5 | replace hb5 := Below.un2 hb5 | skip); obtain ⟨hc5, hf5, hl5, hm5, hw5⟩ := bcell hb5))
            all_goals
              rename_i hHeld
              go_wp2_with fail
              go_meet
              exact ⟨rfl, hHeld.2⟩
          case rest =>
            obtain ⟨rfl, hbP⟩ := hcut
            have d0 : wc.cell? ⟨O, 0, none⟩ = some (.int .i64 (outOf h).lo) := (hbP.cell (by simp only; omega)).trans b0
            have d1 : wc.cell? ⟨O, 1, none⟩ = some (.int .i64 (outOf h).hi) := (hbP.cell (by simp only; omega)).trans b1
            have d2 : Wr wc O 0 := wr_below b2 hbP hOr
            have d3 : Wr wc O 1 := wr_below b3 hbP hOr
            have f2 : Wr wc (w.heap.size + 1) 0 := wr_below g2 hbP hnr
            have f3 : Wr wc (w.heap.size + 1) 1 := wr_below g3 hbP hnr
            have Hs' : Hid (∀ b o, b < w4.heap.size → b ≠ O → wc.cell? ⟨b, o, none⟩ = w4.cell? ⟨b, o, none⟩) := hid fun b o h1 h2 => (hbP.cell (by simp only; omega)).trans (Hs.out b o h1 h2)
            have hBc : Below w.heap.size w wc := hBr.trans (hbP.mono (by omega))
            have hzc : w4.heap.size ≤ wc.heap.size := by have := hbP.size; omega
            have hOc : O < wc.heap.size := by omega
            have hnc : w.heap.size + 1 < wc.heap.size := by omega
            have hbc : b' < wc.heap.size := by omega
            have cck : wc.cell? ⟨b', o' + k, none⟩ = some (.slice A'' tr.length c'') := (hbP.cell (by simp only; omega)).trans hck'
            have hAc := (hAk'.below hbP).more hbP.size
            have E1 : Hid ((if n < (outOf h).lo then n else (outOf h).lo) = min (outOf h).lo n) := hid (by split <;> omega)
            have E2 : Hid ((if (outOf h).hi < n then n else (outOf h).hi) = max (outOf h).hi n) := hid (by split <;> omega)
            clear b0 b1 b2 b3 g2 g3 Hs hBr hzr hOr hnr hnr' hbr e0 e1 hck' hAk' o0 o1 o4 q0 q1 hbP
            go_wp2_with (first
              | (go_at_call 78; refine (still_any A'' c'' tr 4320 _ hAc hTk ⟨by omega, by omega⟩).mono ?_; rw [HN.out]; rintro e w6 ⟨rfl, n6, rfl⟩)
              | (go_at_call 41; rw [E1.out, E2.out]; refine (to_any _ _ _).mono ?_; rintro e w7 ⟨rfl, hb7⟩; (first | replace hb7 := Below.un1 hb7 | replace hb7 := Below.un2 hb7 | skip); obtain ⟨hc7, hf7, hl7, hm7, hw7⟩ := bcell hb7; have hz7 := hb7.size; (try simp only [World.size_alloc, World.size_setCell] at hz7)))
            refine ⟨⟨k + 1, addS h (stillS tr 4320), hk1, by go_num, ?_, ?_, ?_, ?_, hid (by rw [HK.out, HM.out, HST2.out]), HAO, ?_, ?_, ?_, ?_, ?_⟩, by simp [intOf]; omega⟩
            · rw [HAd1.out]; (first | (simp [go_sem, wr_set, wr_drew, wr_drewN, wr_alloc, wr_new]; done) | (simp [go_sem, wr_set, wr_drew, wr_drewN, wr_alloc, wr_new, *]; done) | (simp (disch := go_size) [go_sem, wr_set, wr_drew, wr_drewN, wr_alloc, wr_new, *]; done))
            · rw [HAd2.out]; (first | (simp [go_sem, wr_set, wr_drew, wr_drewN, wr_alloc, wr_new]; done) | (simp [go_sem, wr_set, wr_drew, wr_drewN, wr_alloc, wr_new, *]; done) | (simp (disch := go_size) [go_sem, wr_set, wr_drew, wr_drewN, wr_alloc, wr_new, *]; done))
            · (first | (simp [go_sem, wr_set, wr_drew, wr_drewN, wr_alloc, wr_new]; done) | (simp [go_sem, wr_set, wr_drew, wr_drewN, wr_alloc, wr_new, *]; done) | (simp (disch := go_size) [go_sem, wr_set, wr_drew, wr_drewN, wr_alloc, wr_new, *]; done))
            · (first | (simp [go_sem, wr_set, wr_drew, wr_drewN, wr_alloc, wr_new]; done) | (simp [go_sem, wr_set, wr_drew, wr_drewN, wr_alloc, wr_new, *]; done) | (simp (disch := go_size) [go_sem, wr_set, wr_drew, wr_drewN, wr_alloc, wr_new, *]; done))
            · have hsame' := Hs'.out
              (repeat' (first | (with_reducible assumption) | (with_reducible exact same_refl) | (with_reducible refine same_drew ?_) | (with_reducible refine same_drewN ?_) | (with_reducible refine same_alloc ?_ ?_) | (with_reducible refine same_set ?_ (.inl ?_)) | (with_reducible refine same_set ?_ (.inr ?_)) | (refine same_below ?_ (by assumption) ?_) | rfl | go_size))
            · (first | (simp [go_sem, wr_set, wr_drew, wr_drewN, wr_alloc, wr_new]; done) | (simp [go_sem, wr_set, wr_drew, wr_drewN, wr_alloc, wr_new, *]; done) | (simp (disch := go_size) [go_sem, wr_set, wr_drew, wr_drewN, wr_alloc, wr_new, *]; done))
            · (first | (simp [go_sem, wr_set, wr_drew, wr_drewN, wr_alloc, wr_new]; done) | (simp [go_sem, wr_set, wr_drew, wr_drewN, wr_alloc, wr_new, *]; done) | (simp (disch := go_size) [go_sem, wr_set, wr_drew, wr_drewN, wr_alloc, wr_new, *]; done))
            · simp; omega
            · (repeat' (first | (with_reducible exact Below.refl _ _) | (with_reducible assumption) | (with_reducible refine Below.drew ?_) | (with_reducible refine below_drewN ?_ _) | (with_reducible refine Below.setCell ?_ ?_ _) | (with_reducible refine Below.alloc ?_ ?_ _) | go_size | (exact Below.size (by assumption)) | (refine Below.trans ?_ (Below.mono (by assumption) ?_))))
      · obtain rfl : k = R.length := by omega
        have HF : Hid (stoppedH ⟨set, fs⟩ ls = h) := hid (by rw [HH.out, HK.out, List.drop_length]; rfl)
        have t1 := outOf_void h HV.out
        have H3 : Hid (stoppedR ⟨set, fs⟩ ls = if h.isNone then (zeroSp, 12) else (outOf h, 0)) := hid (by rw [H1.out, HF.out]; cases h <;> rfl)
        generalize outOf h = u at *
        generalize h.isNone = q at *
        clear o0 o1 o4 q0 q1 Hs HK HV HF
        cases q
        · have H2 : Hid (stoppedR ⟨set, fs⟩ ls = (u, 0)) := hid (by rw [H3.out]; rfl)
          go_wp2_with (go_at_call 66; refine (void_any _ _ _).mono ?_; rw [t1]; rintro e w6 ⟨rfl, hb6⟩; (first | replace hb6 := Below.un1 hb6 | replace hb6 := Below.un2 hb6 | skip); obtain ⟨hc6, hf6, hl6, hm6, hw6⟩ := bcell hb6; have hz6 := hb6.size; (try simp only [World.size_alloc, World.size_setCell] at hz6); have n6 : w.heap.size + 1 < w6.heap.size := (by omega); have n7 : O < w6.heap.size := (by omega))
          simp [bodyPost, results, Try.results31, go_sem, H2.out, *]
          (repeat' (first | (with_reducible exact Below.refl _ _) | (with_reducible assumption) | (with_reducible refine Below.drew ?_) | (with_reducible refine below_drewN ?_ _) | (with_reducible refine Below.setCell ?_ ?_ _) | (with_reducible refine Below.alloc ?_ ?_ _) | go_size | (exact Below.size (by assumption)) | (refine Below.trans ?_ (Below.mono (by assumption) ?_))))
        · have H2 : Hid (stoppedR ⟨set, fs⟩ ls = (zeroSp, 12)) := hid (by rw [H3.out]; rfl)
          go_wp2_with (go_at_call 66; refine (void_any _ _ _).mono ?_; rw [t1]; rintro e w6 ⟨rfl, hb6⟩; (first | replace hb6 := Below.un1 hb6 | replace hb6 := Below.un2 hb6 | skip); obtain ⟨hc6, hf6, hl6, hm6, hw6⟩ := bcell hb6; have hz6 := hb6.size; (try simp only [World.size_alloc, World.size_setCell] at hz6); have n6 : w.heap.size + 1 < w6.heap.size := (by omega))
          simp [bodyPost, results, Try.results31, go_sem, H2.out, zeroSp, *]
          (repeat' (first | (with_reducible exact Below.refl _ _) | (with_reducible assumption) | (with_reducible refine Below.drew ?_) | (with_reducible refine below_drewN ?_ _) | (with_reducible refine Below.setCell ?_ ?_ _) | (with_reducible refine Below.alloc ?_ ?_ _) | go_size | (exact Below.size (by assumption)) | (refine Below.trans ?_ (Below.mono (by assumption) ?_))))
  · have H1 : Hid (stoppedR ⟨set, fs⟩ ls = (zeroSp, askE ⟨set, fs⟩ (bookB ls))) := hid (by rw [HR.out, if_neg he])
    have ht : (askE ⟨set, fs⟩ (bookB ls) != 0) = true := by rw [bne_iff_ne]; exact he
    clear HR he
    go_wp2
    simp [bodyPost, results, Try.results31, go_sem, H1.out, zeroSp, *]
    (repeat' (first | (with_reducible exact Below.refl _ _) | (with_reducible assumption) | (with_reducible refine Below.drew ?_) | (with_reducible refine below_drewN ?_ _) | (with_reducible refine Below.setCell ?_ ?_ _) | (with_reducible refine Below.alloc ?_ ?_ _) | go_size | (exact Below.size (by assumption)) | (refine Below.trans ?_ (Below.mono (by assumption) ?_))))
end Go.Proofs.Ytmddbnjbliponaa
