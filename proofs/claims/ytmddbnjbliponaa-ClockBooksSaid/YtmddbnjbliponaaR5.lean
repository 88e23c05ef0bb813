/- What clavendierref01's Means returns, for any clock. -/
import Derived.Test.YtmddbnjbliponaaR4
namespace Go.Proofs.Ytmddbnjbliponaa
set_option linter.unusedSimpArgs false
set_option linter.unusedVariables false
open Go.RowKit
attribute [local go_sem high] cell_set_wr
attribute [local go_sem low] cell_wr frozen_wr
attribute [local go_sem] wr_set wr_drew wr_drewN wr_alloc wr_new

/-- the span in which what was found so far lies, as the specification keeps it -/
def outOf (h : Option Sp) : Sp := h.getD ⟨4320, -1⟩
theorem outOf_add (h : Option Sp) (s : Sp) (h1 : s.lo ≤ s.hi) (h2 : -1 ≤ s.hi) (h3 : s.lo ≤ 4320) : outOf (addS h s) = ⟨min (outOf h).lo s.lo, max (outOf h).hi s.hi⟩ := by
  cases h with
  | none =>
    have e : addS none s = some s := by unfold addS; rw [if_neg (by omega)]
    rw [e]
    simp only [outOf, Option.getD_some, Option.getD_none]
    rw [show min (4320 : Int) s.lo = s.lo by omega, show max (-1 : Int) s.hi = s.hi by omega]
  | some t => rw [addS_some _ _ h1]; rfl
theorem addS_void (h : Option Sp) (s : Sp) (h1 : s.hi < s.lo) : addS h s = h := by unfold addS; rw [if_pos h1]
theorem addS_ok (h : Option Sp) (s : Sp) (hh : ∀ t, h = some t → t.lo ≤ t.hi) : ∀ t, addS h s = some t → t.lo ≤ t.hi := by
  intro t ht
  unfold addS at ht
  split at ht
  · exact hh t ht
  · cases h with
    | none => simp only [Option.some.injEq] at ht; subst ht; omega
    | some u =>
      simp only [Option.some.injEq] at ht
      have := hh u rfl
      subst ht
      simp only
      omega
theorem outOf_void (h : Option Sp) (hh : ∀ t, h = some t → t.lo ≤ t.hi) : decide ((outOf h).hi < (outOf h).lo) = h.isNone := by
  cases h with
  | none => rfl
  | some t => exact decide_eq_false (by have := hh t rfl; simp only [outOf, Option.getD_some]; omega)
theorem meansT_in (c : Ck) (tr : List When) (r : Int) (h : (meansT c tr r).lo ≤ (meansT c tr r).hi) : 0 ≤ (meansT c tr r).lo ∧ (meansT c tr r).hi ≤ 4319 := by
  revert h
  unfold meansT
  split
  · intro h; simp only at h; omega
  · intro _; simp only [Sp.common]; omega

/-- a list of spans does not lie where 4320 and -1 lie -/
theorem spans_ne {w : World} {B O : Nat} {A : Option Addr} {l : List Sp} (h : Arr w B A (spans l)) (h0 : w.cell? ⟨O, 0, none⟩ = some (.int .i64 4320)) (h1 : w.cell? ⟨O, 1, none⟩ = some (.int .i64 (-1))) (h2 : ∀ j, 2 ≤ j → w.cell? ⟨O, j, none⟩ = none)
    (hl : ∀ t ∈ l, 0 ≤ t.lo ∧ t.lo ≤ 4319) : l = [] ∨ ∃ b o, A = some ⟨b, o, none⟩ ∧ b ≠ O := by
  cases l with
  | nil => exact .inl rfl
  | cons t l =>
    obtain ⟨b, o, hA, _, c0, _⟩ := h.sp (k := 0) (by simp)
    refine .inr ⟨b, o, hA, fun e => ?_⟩
    have ht := hl t (List.mem_cons_self ..)
    simp only [Nat.zero_mul, Nat.add_zero, List.getElem_cons_zero] at c0
    rw [e] at c0
    rcases Nat.lt_or_ge o 2 with ho | ho
    · rcases Nat.lt_or_ge o 1 with h' | h'
      · obtain rfl : o = 0 := by omega
        rw [c0] at h0
        simp only [Option.some.injEq, Value.int.injEq, true_and] at h0
        omega
      · obtain rfl : o = 1 := by omega
        rw [c0] at h1
        simp only [Option.some.injEq, Value.int.injEq, true_and] at h1
        omega
    · rw [h2 o ho] at c0
      cases c0
theorem arr_same {w w' : World} {B O : Nat} {A : Option Addr} {l : List Sp} (h : Arr w B A (spans l)) (hs : ∀ b o, b < B → b ≠ O → w'.cell? ⟨b, o, none⟩ = w.cell? ⟨b, o, none⟩) (hn : l = [] ∨ ∃ b o, A = some ⟨b, o, none⟩ ∧ b ≠ O) : Arr w' B A (spans l) := by
  rcases hn with rfl | ⟨b, o, hA, hne⟩
  · exact Arr.nil _ _ _
  · intro hx
    obtain ⟨b', o', hA', hlt, hc⟩ := h hx
    rw [hA] at hA'
    simp only [Option.some.injEq, Addr.mk.injEq, and_true] at hA'
    obtain ⟨rfl, rfl⟩ := hA'
    exact ⟨b, o, hA, hlt, fun j u hu => (hs b _ hlt hne).trans (hc j u hu)⟩

theorem cell_past (w : World) (cs : Array Value) (ty : TypeId) (j : Nat) (hj : cs.size ≤ j) : (w.alloc (.cells cs ty)).cell? ⟨w.heap.size, j, none⟩ = none := by
  have hn : (w.alloc (.cells cs ty)).heap[w.heap.size]? = some (.cells cs ty) := by show (w.heap.push _)[w.heap.size]? = _; simp
  simp only [World.cell?, hn]
  simp [hj]

set_option maxRecDepth 100000 in
set_option maxHeartbeats 4000000 in
theorem rMeans_any (set : Int) (A : Option Addr) (cap : Nat) (fs : List Fr) (r : Int) (w : World) (hA : Arr w w.heap.size A (frosts fs)) :
    Calls Try.prog 19 #[.agg #[.int .i64 set, .slice A fs.length cap], .int .i64 r] w fun e w' =>
      e = .returned (.tuple #[.agg #[.int .i64 (meansR ⟨set, fs⟩ r).1.lo, .int .i64 (meansR ⟨set, fs⟩ r).1.hi], .int .i64 (meansR ⟨set, fs⟩ r).2]) ∧ Below w.heap.size w w' := by
  go_enter Try.func19, Try.ntmps19
  go_wp2
  go_region_held3 (fun w' => (w'.cell? ⟨w.heap.size, 0, none⟩ = some (.int .i64 set) ∧ w'.cell? ⟨w.heap.size, 1, none⟩ = some (.slice A fs.length cap) ∧ Wr w' (w.heap.size + 1) 0 ∧ Wr w' (w.heap.size + 1) 1) ∧ Below w.heap.size w w') (((refine ⟨?_, ?_⟩; (focus (first | (simp [go_sem, wr_set, wr_drew, wr_drewN, wr_alloc, wr_new]; done) | (simp [go_sem, wr_set, wr_drew, wr_drewN, wr_alloc, wr_new, *]; done) | (simp (disch := go_size) [go_sem, wr_set, wr_drew, wr_drewN, wr_alloc, wr_new, *]; done))); (repeat' (first | (with_reducible exact Below.refl _ _) | (with_reducible assumption) | (with_reducible refine Below.drew ?_) | (with_reducible refine below_drewN ?_ _) | (with_reducible refine Below.setCell ?_ ?_ _) | (with_reducible refine Below.alloc ?_ ?_ _) | go_size | (exact Below.size (by assumption)) | (refine Below.trans ?_ (Below.mono (by assumption) ?_)))))))
    (first
      | (go_at_call 64; refine (rIsReading_any _ _).mono ?_; rintro e w1 ⟨rfl, rfl⟩)
      | (go_at_call 58; refine (asked_any set A cap fs _ _ ?_).mono ?_; (focus (refine (hA.below ?_).more ?_; (repeat' (first | (with_reducible exact Below.refl _ _) | (with_reducible assumption) | (with_reducible refine Below.drew ?_) | (with_reducible refine below_drewN ?_ _) | (with_reducible refine Below.setCell ?_ ?_ _) | (with_reducible refine Below.alloc ?_ ?_ _) | go_size | (exact Below.size (by assumption)) | (refine Below.trans ?_ (Below.mono (by assumption) ?_)))))); rintro e w2 ⟨rfl, hb2⟩; (first | replace hb2 := Below.un1 hb2 | replace hb2 := Below.un2 hb2 | skip); obtain ⟨hc2, hf2, hl2, hm2, hw2⟩ := bcell hb2; have hz2 := hb2.size; (try simp only [World.size_alloc, World.size_setCell] at hz2)))
  obtain ⟨⟨s0, s1, s2, s3⟩, hB⟩ := ‹(_ ∧ _) ∧ Below w.heap.size w w2›
  clear hc2 hf2 hl2 hm2 hw2
  have hlw : w.heap.size + 1 < w2.heap.size := s2.lt
  have HR : Hid (meansR ⟨set, fs⟩ r = if askE ⟨set, fs⟩ (isReadingB r) = 0 then orNone (meansH ⟨set, fs⟩ r) else (zeroSp, askE ⟨set, fs⟩ (isReadingB r))) := hid rfl
  by_cases he : askE ⟨set, fs⟩ (isReadingB r) = 0
  · have H1 : Hid (meansR ⟨set, fs⟩ r = orNone (meansH ⟨set, fs⟩ r)) := hid (by rw [HR.out, if_pos he])
    have hok : Ck.ok ⟨set, fs⟩ = true ∧ isReadingB r = true := by
      unfold askE at he
      revert he
      cases Ck.ok ⟨set, fs⟩ <;> cases isReadingB r <;> simp
    obtain ⟨hO, hs1, hs2⟩ := okFs_of hok.1
    have hmm := hok.2
    simp only [isReadingB, Bool.and_eq_true, decide_eq_true_eq] at hmm
    obtain ⟨hm0, hm1⟩ := hmm
    clear HR hok
    go_wp2_with (first
      | (go_at_call 41; refine (to_any _ _ _).mono ?_; rintro e w3 ⟨rfl, hb3⟩; (first | replace hb3 := Below.un1 hb3 | replace hb3 := Below.un2 hb3 | skip); obtain ⟨hc3, hf3, hl3, hm3, hw3⟩ := bcell hb3; have hz3 := hb3.size; (try simp only [World.size_alloc, World.size_setCell] at hz3); have n3 : w.heap.size + 1 < w3.heap.size := (by omega); have n3' : w.heap.size < w3.heap.size := (by omega); have p0 : w3.cell? ⟨w.heap.size, 0, none⟩ = some (.int .i64 set) := ((hc3 _ _ (by omega)).trans s0); have p1 : w3.cell? ⟨w.heap.size, 1, none⟩ = some (.slice A fs.length cap) := ((hc3 _ _ (by omega)).trans s1))
      | (go_at_call 59; refine (truths_any fs.length 0 0 set A cap fs _ (by omega) (by omega) (by rfl) ?_ hO).mono ?_; (focus (refine (hA.below ?_).more ?_; (repeat' (first | (with_reducible exact Below.refl _ _) | (with_reducible assumption) | (with_reducible refine Below.drew ?_) | (with_reducible refine below_drewN ?_ _) | (with_reducible refine Below.setCell ?_ ?_ _) | (with_reducible refine Below.alloc ?_ ?_ _) | go_size | (exact Below.size (by assumption)) | (refine Below.trans ?_ (Below.mono (by assumption) ?_)))))); rintro e w4 ⟨A4, cap4, rfl, hcap4, hA4, hb4⟩; obtain ⟨hc4, hf4, hl4, hm4, hw4⟩ := bcell hb4))
    rw [List.drop_zero] at hA4
    have hne := truths_ne fs hO
    have hTr : Hid (∀ tr ∈ truths fs, OkTr tr) := hid fun tr h => okTr_mem hO h
    have HH : Hid (meansH ⟨set, fs⟩ r = hull ((truths fs).map fun tr => meansT ⟨set, fs⟩ tr r)) := hid rfl
    have hRL := truths_small fs hO 0
    rw [List.drop_zero] at hRL
    have q0 : w4.cell? ⟨w.heap.size, 0, none⟩ = some (.int .i64 set) := by (first | (simp [go_sem, wr_set, wr_drew, wr_drewN, wr_alloc, wr_new]; done) | (simp [go_sem, wr_set, wr_drew, wr_drewN, wr_alloc, wr_new, *]; done) | (simp (disch := go_size) [go_sem, wr_set, wr_drew, wr_drewN, wr_alloc, wr_new, *]; done))
    have q1 : w4.cell? ⟨w.heap.size, 1, none⟩ = some (.slice A fs.length cap) := by (first | (simp [go_sem, wr_set, wr_drew, wr_drewN, wr_alloc, wr_new]; done) | (simp [go_sem, wr_set, wr_drew, wr_drewN, wr_alloc, wr_new, *]; done) | (simp (disch := go_size) [go_sem, wr_set, wr_drew, wr_drewN, wr_alloc, wr_new, *]; done))
    have q2 : Wr w4 (w.heap.size + 1) 0 := by (repeat' (first | (with_reducible assumption) | (refine wr_new rfl ?_; (first | decide | (simp; done))) | (with_reducible refine wr_drew' ?_) | (with_reducible refine wr_drewN' ?_) | (with_reducible refine wr_set' ?_) | (refine wr_below ?_ (by assumption) ?_) | (with_reducible refine wr_alloc _ ?_) | go_size))
    have q3 : Wr w4 (w.heap.size + 1) 1 := by (repeat' (first | (with_reducible assumption) | (refine wr_new rfl ?_; (first | decide | (simp; done))) | (with_reducible refine wr_drew' ?_) | (with_reducible refine wr_drewN' ?_) | (with_reducible refine wr_set' ?_) | (refine wr_below ?_ (by assumption) ?_) | (with_reducible refine wr_alloc _ ?_) | go_size))
    have o0 : w4.cell? ⟨w3.heap.size, 0, none⟩ = some (.int .i64 4320) := by (first | (simp [go_sem, wr_set, wr_drew, wr_drewN, wr_alloc, wr_new]; done) | (simp [go_sem, wr_set, wr_drew, wr_drewN, wr_alloc, wr_new, *]; done) | (simp (disch := go_size) [go_sem, wr_set, wr_drew, wr_drewN, wr_alloc, wr_new, *]; done))
    have o1 : w4.cell? ⟨w3.heap.size, 1, none⟩ = some (.int .i64 (-1)) := by (first | (simp [go_sem, wr_set, wr_drew, wr_drewN, wr_alloc, wr_new]; done) | (simp [go_sem, wr_set, wr_drew, wr_drewN, wr_alloc, wr_new, *]; done) | (simp (disch := go_size) [go_sem, wr_set, wr_drew, wr_drewN, wr_alloc, wr_new, *]; done))
    have o2 : Wr w4 w3.heap.size 0 := by (repeat' (first | (with_reducible assumption) | (refine wr_new rfl ?_; (first | decide | (simp; done))) | (with_reducible refine wr_drew' ?_) | (with_reducible refine wr_drewN' ?_) | (with_reducible refine wr_set' ?_) | (refine wr_below ?_ (by assumption) ?_) | (with_reducible refine wr_alloc _ ?_) | go_size))
    have o3 : Wr w4 w3.heap.size 1 := by (repeat' (first | (with_reducible assumption) | (refine wr_new rfl ?_; (first | decide | (simp; done))) | (with_reducible refine wr_drew' ?_) | (with_reducible refine wr_drewN' ?_) | (with_reducible refine wr_set' ?_) | (refine wr_below ?_ (by assumption) ?_) | (with_reducible refine wr_alloc _ ?_) | go_size))
    have o4 : ∀ j, 2 ≤ j → w4.cell? ⟨w3.heap.size, j, none⟩ = none := fun j hj => by
      rw [hc4 _ _ (by simp)]
      exact cell_past w3 _ _ j (by simpa using hj)
    have hB4 : Below w.heap.size w w4 := by (repeat' (first | (with_reducible exact Below.refl _ _) | (with_reducible assumption) | (with_reducible refine Below.drew ?_) | (with_reducible refine below_drewN ?_ _) | (with_reducible refine Below.setCell ?_ ?_ _) | (with_reducible refine Below.alloc ?_ ?_ _) | go_size | (exact Below.size (by assumption)) | (refine Below.trans ?_ (Below.mono (by assumption) ?_))))
    have hz4 : w3.heap.size < w4.heap.size := o2.lt
    have n4 : w.heap.size + 1 < w4.heap.size := by omega
    have hO0 : w.heap.size + 1 < w3.heap.size := n3
    clear hc3 hf3 hl3 hm3 hw3 hb3 hz3 n3 n3' p0 p1 hc4 hf4 hl4 hm4 hw4 hb4 s0 s1 s2 s3 hB hb2 hz2 hlw
    generalize w3.heap.size = O at *
    generalize hgR : truths fs = R at *
    clear hgR
    go_loopw [9] (fun i wr => ∃ (k : Nat) (h : Option Sp), k ≤ R.length ∧ i = .int .i64 k ∧ wr.cell? ⟨O, 0, none⟩ = some (.int .i64 (outOf h).lo) ∧ wr.cell? ⟨O, 1, none⟩ = some (.int .i64 (outOf h).hi) ∧ Wr wr O 0 ∧ Wr wr O 1 ∧
        Hid (hull (R.map fun tr => meansT ⟨set, fs⟩ tr r) = ((R.drop k).map fun tr => meansT ⟨set, fs⟩ tr r).foldl addS h) ∧ Hid (∀ t, h = some t → t.lo ≤ t.hi) ∧
        (∀ b o, b < w4.heap.size → b ≠ O → wr.cell? ⟨b, o, none⟩ = w4.cell? ⟨b, o, none⟩) ∧ Wr wr (w.heap.size + 1) 0 ∧ Wr wr (w.heap.size + 1) 1 ∧ w4.heap.size ≤ wr.heap.size ∧ Below w.heap.size w wr) (fun i _ => R.length - (intOf i).toNat)
    case atStart =>
      exact ⟨0, none, Nat.zero_le _, rfl, o0, o1, o2, o3, hid (by rw [List.drop_zero]; rfl), hid (fun t ht => by cases ht), fun _ _ _ _ => rfl, q2, q3, Nat.le_refl _, hB4⟩
    case round =>
      obtain ⟨k, h, hk, rfl, b0, b1, b2, b3, HK, HV, hsame, g2, g3, hzr, hBr⟩ := hrel
      have Hs := hid hsame
      clear hsame
      have hOr : O < wr.heap.size := by omega
      have hnr : w.heap.size + 1 < wr.heap.size := by omega
      by_cases hlt : k < R.length
      · obtain ⟨b', o', A'', c'', rfl, hb', hck, hAk⟩ := hA4.at_ hlt
        have hTk := hTr.out _ (List.getElem_mem hlt)
        have hk1 : k + 1 ≤ R.length := hlt
        have HM := hid (map_drop R (fun tr => meansT ⟨set, fs⟩ tr r) k hlt)
        have hbO : b' ≠ O := fun e => by
          rw [e] at hck
          rcases Nat.lt_or_ge (o' + k) 2 with ho | ho
          · rcases Nat.lt_or_ge (o' + k) 1 with h' | h'
            · rw [show o' + k = 0 by omega, o0] at hck; cases hck
            · rw [show o' + k = 1 by omega, o1] at hck; cases hck
          · rw [o4 _ ho] at hck; cases hck
        have hne' := spans_ne hAk o0 o1 o4 fun t ht => by have := hTk.2 t ht; omega
        have hAk' := arr_same hAk Hs.out hne'
        have hck' := (Hs.out b' (o' + k) hb' hbO).trans hck
        have e0 := (Hs.out w.heap.size 0 (by omega) (by omega)).trans q0
        have e1 := (Hs.out w.heap.size 1 (by omega) (by omega)).trans q1
        have hbr : b' < wr.heap.size := by omega
        have hnr' : w.heap.size < wr.heap.size := by omega
        clear hck hAk hne'
        generalize R[k] = tr at *
        have hmi := hid (meansT_in ⟨set, fs⟩ tr r)
        generalize hs' : meansT ⟨set, fs⟩ tr r = s at *
        have HS := hid hs'
        clear hs'
        go_wp2
        go_cut [10] (fun p wx => ∃ P : Nat, p = .pointer (some ⟨P, 0, none⟩) ∧ wr.heap.size ≤ P ∧ P < wx.heap.size ∧ wx.cell? ⟨P, 0, none⟩ = some (.int .i64 s.lo) ∧ wx.cell? ⟨P, 1, none⟩ = some (.int .i64 s.hi) ∧ Below wr.heap.size wr wx)
        case first =>
          clear o0 o1 o4 q0 q1
          go_region_held3 (fun w' => (w'.cell? ⟨w.heap.size, 0, none⟩ = some (.int .i64 set) ∧ w'.cell? ⟨w.heap.size, 1, none⟩ = some (.slice A fs.length cap) ∧ w'.cell? ⟨b', o' + k, none⟩ = some (.slice A'' tr.length c'')) ∧ Below wr.heap.size wr w') (((refine ⟨?_, ?_⟩; (focus (first | (simp [go_sem, wr_set, wr_drew, wr_drewN, wr_alloc, wr_new]; done) | (simp [go_sem, wr_set, wr_drew, wr_drewN, wr_alloc, wr_new, *]; done) | (simp (disch := go_size) [go_sem, wr_set, wr_drew, wr_drewN, wr_alloc, wr_new, *]; done))); (repeat' (first | (with_reducible exact Below.refl _ _) | (with_reducible assumption) | (with_reducible refine Below.drew ?_) | (with_reducible refine below_drewN ?_ _) | (with_reducible refine Below.setCell ?_ ?_ _) | (with_reducible refine Below.alloc ?_ ?_ _) | go_size | (exact Below.size (by assumption)) | (refine Below.trans ?_ (Below.mono (by assumption) ?_)))))))
            (first
              | (go_at_call 65; refine (means_any set _ _ _ fs A'' c'' tr r _ ?_ (Nat.le_refl _) hTk ⟨hm0, hm1⟩ ⟨hs1, hs2⟩).mono ?_; (focus (refine (hAk'.below ?_).more ?_; (repeat' (first | (with_reducible exact Below.refl _ _) | (with_reducible assumption) | (with_reducible refine Below.drew ?_) | (with_reducible refine below_drewN ?_ _) | (with_reducible refine Below.setCell ?_ ?_ _) | (with_reducible refine Below.alloc ?_ ?_ _) | go_size | (exact Below.size (by assumption)) | (refine Below.trans ?_ (Below.mono (by assumption) ?_)))))); rw [HS.out]; rintro e w5 ⟨rfl, hb5⟩; (first | replace hb5 := Below.un1 hb5 | replace hb5 := Below.un2 hb5 | skip); obtain ⟨hc5, hf5, hl5, hm5, hw5⟩ := bcell hb5; have hz5 := hb5.size; (try simp only [World.size_alloc, World.size_setCell] at hz5)))
          all_goals
            rename_i hHeld
            go_wp2_with fail
            go_meet
            refine ⟨_, rfl, by first | exact Nat.le_refl _ | omega, by first | omega | (simp; done) | (simp; omega), ?_, ?_, hHeld.2⟩
            · (first | (simp [go_sem, wr_set, wr_drew, wr_drewN, wr_alloc, wr_new]; done) | (simp [go_sem, wr_set, wr_drew, wr_drewN, wr_alloc, wr_new, *]; done) | (simp (disch := go_size) [go_sem, wr_set, wr_drew, wr_drewN, wr_alloc, wr_new, *]; done))
            · (first | (simp [go_sem, wr_set, wr_drew, wr_drewN, wr_alloc, wr_new]; done) | (simp [go_sem, wr_set, wr_drew, wr_drewN, wr_alloc, wr_new, *]; done) | (simp (disch := go_size) [go_sem, wr_set, wr_drew, wr_drewN, wr_alloc, wr_new, *]; done))
        case rest =>
          obtain ⟨P, rfl, hP1, hP2, p0, p1, hbP⟩ := hcut
          have d0 : wc.cell? ⟨O, 0, none⟩ = some (.int .i64 (outOf h).lo) := (hbP.cell (by simp only; omega)).trans b0
          have d1 : wc.cell? ⟨O, 1, none⟩ = some (.int .i64 (outOf h).hi) := (hbP.cell (by simp only; omega)).trans b1
          have d2 : Wr wc O 0 := wr_below b2 hbP hOr
          have d3 : Wr wc O 1 := wr_below b3 hbP hOr
          have f2 : Wr wc (w.heap.size + 1) 0 := wr_below g2 hbP hnr
          have f3 : Wr wc (w.heap.size + 1) 1 := wr_below g3 hbP hnr
          have Hs' : Hid (∀ b o, b < w4.heap.size → b ≠ O → wc.cell? ⟨b, o, none⟩ = w4.cell? ⟨b, o, none⟩) := hid fun b o h1 h2 => (hbP.cell (by simp only; omega)).trans (Hs.out b o h1 h2)
          have hBc : Below w.heap.size w wc := hBr.trans (hbP.mono (by omega))
          have hzc : w4.heap.size ≤ wc.heap.size := by have := hbP.size; omega
          have hOc : O < wc.heap.size := by omega
          have hnc : w.heap.size + 1 < wc.heap.size := by omega
          have hPO : P ≠ O := by omega
          clear b0 b1 b2 b3 g2 g3 Hs hBr hzr hOr hnr hnr' hbr e0 e1 hck' hAk' hP1
          by_cases hv : s.hi < s.lo
          · have t1 : decide (s.hi < s.lo) = true := decide_eq_true hv
            have HA := hid (addS_void h s hv)
            clear hv
            go_wp2_with (go_at_call 66; refine (void_any _ _ _).mono ?_; rw [t1]; rintro e w6 ⟨rfl, hb6⟩; (first | replace hb6 := Below.un1 hb6 | replace hb6 := Below.un2 hb6 | skip); obtain ⟨hc6, hf6, hl6, hm6, hw6⟩ := bcell hb6; have hz6 := hb6.size; (try simp only [World.size_alloc, World.size_setCell] at hz6))
            refine ⟨⟨k + 1, h, hk1, by go_num, ?_, ?_, ?_, ?_, hid (by rw [HK.out, HM.out, List.foldl_cons, HA.out]), HV, ?_, ?_, ?_, ?_, ?_⟩, by simp [intOf]; omega⟩
            · (first | (simp [go_sem, wr_set, wr_drew, wr_drewN, wr_alloc, wr_new]; done) | (simp [go_sem, wr_set, wr_drew, wr_drewN, wr_alloc, wr_new, *]; done) | (simp (disch := go_size) [go_sem, wr_set, wr_drew, wr_drewN, wr_alloc, wr_new, *]; done))
            · (first | (simp [go_sem, wr_set, wr_drew, wr_drewN, wr_alloc, wr_new]; done) | (simp [go_sem, wr_set, wr_drew, wr_drewN, wr_alloc, wr_new, *]; done) | (simp (disch := go_size) [go_sem, wr_set, wr_drew, wr_drewN, wr_alloc, wr_new, *]; done))
            · (first | (simp [go_sem, wr_set, wr_drew, wr_drewN, wr_alloc, wr_new]; done) | (simp [go_sem, wr_set, wr_drew, wr_drewN, wr_alloc, wr_new, *]; done) | (simp (disch := go_size) [go_sem, wr_set, wr_drew, wr_drewN, wr_alloc, wr_new, *]; done))
            · (first | (simp [go_sem, wr_set, wr_drew, wr_drewN, wr_alloc, wr_new]; done) | (simp [go_sem, wr_set, wr_drew, wr_drewN, wr_alloc, wr_new, *]; done) | (simp (disch := go_size) [go_sem, wr_set, wr_drew, wr_drewN, wr_alloc, wr_new, *]; done))
            · have hsame' := Hs'.out
              (repeat' (first | (with_reducible assumption) | (with_reducible exact same_refl) | (with_reducible refine same_drew ?_) | (with_reducible refine same_drewN ?_) | (with_reducible refine same_alloc ?_ ?_) | (with_reducible refine same_set ?_ (.inl ?_)) | (with_reducible refine same_set ?_ (.inr ?_)) | (refine same_below ?_ (by assumption) ?_) | rfl | go_size))
            · (first | (simp [go_sem, wr_set, wr_drew, wr_drewN, wr_alloc, wr_new]; done) | (simp [go_sem, wr_set, wr_drew, wr_drewN, wr_alloc, wr_new, *]; done) | (simp (disch := go_size) [go_sem, wr_set, wr_drew, wr_drewN, wr_alloc, wr_new, *]; done))
            · (first | (simp [go_sem, wr_set, wr_drew, wr_drewN, wr_alloc, wr_new]; done) | (simp [go_sem, wr_set, wr_drew, wr_drewN, wr_alloc, wr_new, *]; done) | (simp (disch := go_size) [go_sem, wr_set, wr_drew, wr_drewN, wr_alloc, wr_new, *]; done))
            · omega
            · (repeat' (first | (with_reducible exact Below.refl _ _) | (with_reducible assumption) | (with_reducible refine Below.drew ?_) | (with_reducible refine below_drewN ?_ _) | (with_reducible refine Below.setCell ?_ ?_ _) | (with_reducible refine Below.alloc ?_ ?_ _) | go_size | (exact Below.size (by assumption)) | (refine Below.trans ?_ (Below.mono (by assumption) ?_))))
          · have t1 : decide (s.hi < s.lo) = false := decide_eq_false hv
            have hmi' := hmi.out (by omega)
            have HA := hid (outOf_add h s (by omega) (by omega) (by omega))
            have HAO := hid (addS_ok h s HV.out)
            have E1 : Hid ((if s.lo < (outOf h).lo then s.lo else (outOf h).lo) = min (outOf h).lo s.lo) := hid (by split <;> omega)
            have E2 : Hid ((if (outOf h).hi < s.hi then s.hi else (outOf h).hi) = max (outOf h).hi s.hi) := hid (by split <;> omega)
            clear hv hmi'
            go_wp2_with (first
              | (go_at_call 66; refine (void_any _ _ _).mono ?_; rw [t1]; rintro e w6 ⟨rfl, hb6⟩; (first | replace hb6 := Below.un1 hb6 | replace hb6 := Below.un2 hb6 | skip); obtain ⟨hc6, hf6, hl6, hm6, hw6⟩ := bcell hb6; have hz6 := hb6.size; (try simp only [World.size_alloc, World.size_setCell] at hz6); have n6 : O < w6.heap.size := (by omega); have n7 : P < w6.heap.size := (by omega))
              | (go_at_call 41; rw [E1.out, E2.out]; refine (to_any _ _ _).mono ?_; rintro e w7 ⟨rfl, hb7⟩; (first | replace hb7 := Below.un1 hb7 | replace hb7 := Below.un2 hb7 | skip); obtain ⟨hc7, hf7, hl7, hm7, hw7⟩ := bcell hb7; have hz7 := hb7.size; (try simp only [World.size_alloc, World.size_setCell] at hz7)))
            refine ⟨⟨k + 1, addS h s, hk1, by go_num, ?_, ?_, ?_, ?_, hid (by rw [HK.out, HM.out, List.foldl_cons]), HAO, ?_, ?_, ?_, ?_, ?_⟩, by simp [intOf]; omega⟩
            · rw [HA.out]; (first | (simp [go_sem, wr_set, wr_drew, wr_drewN, wr_alloc, wr_new]; done) | (simp [go_sem, wr_set, wr_drew, wr_drewN, wr_alloc, wr_new, *]; done) | (simp (disch := go_size) [go_sem, wr_set, wr_drew, wr_drewN, wr_alloc, wr_new, *]; done))
            · rw [HA.out]; (first | (simp [go_sem, wr_set, wr_drew, wr_drewN, wr_alloc, wr_new]; done) | (simp [go_sem, wr_set, wr_drew, wr_drewN, wr_alloc, wr_new, *]; done) | (simp (disch := go_size) [go_sem, wr_set, wr_drew, wr_drewN, wr_alloc, wr_new, *]; done))
            · (first | (simp [go_sem, wr_set, wr_drew, wr_drewN, wr_alloc, wr_new]; done) | (simp [go_sem, wr_set, wr_drew, wr_drewN, wr_alloc, wr_new, *]; done) | (simp (disch := go_size) [go_sem, wr_set, wr_drew, wr_drewN, wr_alloc, wr_new, *]; done))
            · (first | (simp [go_sem, wr_set, wr_drew, wr_drewN, wr_alloc, wr_new]; done) | (simp [go_sem, wr_set, wr_drew, wr_drewN, wr_alloc, wr_new, *]; done) | (simp (disch := go_size) [go_sem, wr_set, wr_drew, wr_drewN, wr_alloc, wr_new, *]; done))
            · have hsame' := Hs'.out
              (repeat' (first | (with_reducible assumption) | (with_reducible exact same_refl) | (with_reducible refine same_drew ?_) | (with_reducible refine same_drewN ?_) | (with_reducible refine same_alloc ?_ ?_) | (with_reducible refine same_set ?_ (.inl ?_)) | (with_reducible refine same_set ?_ (.inr ?_)) | (refine same_below ?_ (by assumption) ?_) | rfl | go_size))
            · (first | (simp [go_sem, wr_set, wr_drew, wr_drewN, wr_alloc, wr_new]; done) | (simp [go_sem, wr_set, wr_drew, wr_drewN, wr_alloc, wr_new, *]; done) | (simp (disch := go_size) [go_sem, wr_set, wr_drew, wr_drewN, wr_alloc, wr_new, *]; done))
            · (first | (simp [go_sem, wr_set, wr_drew, wr_drewN, wr_alloc, wr_new]; done) | (simp [go_sem, wr_set, wr_drew, wr_drewN, wr_alloc, wr_new, *]; done) | (simp (disch := go_size) [go_sem, wr_set, wr_drew, wr_drewN, wr_alloc, wr_new, *]; done))
            · simp; omega
            · (repeat' (first | (with_reducible exact Below.refl _ _) | (with_reducible assumption) | (with_reducible refine Below.drew ?_) | (with_reducible refine below_drewN ?_ _) | (with_reducible refine Below.setCell ?_ ?_ _) | (with_reducible refine Below.alloc ?_ ?_ _) | go_size | (exact Below.size (by assumption)) | (refine Below.trans ?_ (Below.mono (by assumption) ?_))))
      · obtain rfl : k = R.length := by omega
        have HF : Hid (meansH ⟨set, fs⟩ r = h) := hid (by rw [HH.out, HK.out, List.drop_length]; rfl)
        have t1 := outOf_void h HV.out
        have H3 : Hid (meansR ⟨set, fs⟩ r = if h.isNone then (zeroSp, 4) else (outOf h, 0)) := hid (by rw [H1.out, HF.out]; cases h <;> rfl)
        generalize outOf h = u at *
        generalize h.isNone = q at *
        clear o0 o1 o4 q0 q1 Hs HK HV HF
        cases q
        · have H2 : Hid (meansR ⟨set, fs⟩ r = (u, 0)) := hid (by rw [H3.out]; rfl)
          go_wp2_with (go_at_call 66; refine (void_any _ _ _).mono ?_; rw [t1]; rintro e w6 ⟨rfl, hb6⟩; (first | replace hb6 := Below.un1 hb6 | replace hb6 := Below.un2 hb6 | skip); obtain ⟨hc6, hf6, hl6, hm6, hw6⟩ := bcell hb6; have hz6 := hb6.size; (try simp only [World.size_alloc, World.size_setCell] at hz6); have n6 : w.heap.size + 1 < w6.heap.size := (by omega); have n7 : O < w6.heap.size := (by omega))
          simp [bodyPost, results, Try.results19, go_sem, H2.out, *]
          (repeat' (first | (with_reducible exact Below.refl _ _) | (with_reducible assumption) | (with_reducible refine Below.drew ?_) | (with_reducible refine below_drewN ?_ _) | (with_reducible refine Below.setCell ?_ ?_ _) | (with_reducible refine Below.alloc ?_ ?_ _) | go_size | (exact Below.size (by assumption)) | (refine Below.trans ?_ (Below.mono (by assumption) ?_))))
        · have H2 : Hid (meansR ⟨set, fs⟩ r = (zeroSp, 4)) := hid (by rw [H3.out]; rfl)
          go_wp2_with (go_at_call 66; refine (void_any _ _ _).mono ?_; rw [t1]; rintro e w6 ⟨rfl, hb6⟩; (first | replace hb6 := Below.un1 hb6 | replace hb6 := Below.un2 hb6 | skip); obtain ⟨hc6, hf6, hl6, hm6, hw6⟩ := bcell hb6; have hz6 := hb6.size; (try simp only [World.size_alloc, World.size_setCell] at hz6); have n6 : w.heap.size + 1 < w6.heap.size := (by omega))
          simp [bodyPost, results, Try.results19, go_sem, H2.out, zeroSp, *]
          (repeat' (first | (with_reducible exact Below.refl _ _) | (with_reducible assumption) | (with_reducible refine Below.drew ?_) | (with_reducible refine below_drewN ?_ _) | (with_reducible refine Below.setCell ?_ ?_ _) | (with_reducible refine Below.alloc ?_ ?_ _) | go_size | (exact Below.size (by assumption)) | (refine Below.trans ?_ (Below.mono (by assumption) ?_))))
  · have H1 : Hid (meansR ⟨set, fs⟩ r = (zeroSp, askE ⟨set, fs⟩ (isReadingB r))) := hid (by rw [HR.out, if_neg he])
    have ht : (askE ⟨set, fs⟩ (isReadingB r) != 0) = true := by rw [bne_iff_ne]; exact he
    clear HR he
    go_wp2
    simp [bodyPost, results, Try.results19, go_sem, H1.out, zeroSp, *]
    (repeat' (first | (with_reducible exact Below.refl _ _) | (with_reducible assumption) | (with_reducible refine Below.drew ?_) | (with_reducible refine below_drewN ?_ _) | (with_reducible refine Below.setCell ?_ ?_ _) | (with_reducible refine Below.alloc ?_ ?_ _) | go_size | (exact Below.size (by assumption)) | (refine Below.trans ?_ (Below.mono (by assumption) ?_))))
end Go.Proofs.Ytmddbnjbliponaa
