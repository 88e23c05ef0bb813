/- What clavendierref01 returns of readings, and whether a book is one, for any clock. -/
import Derived.Test.YtnkbcapikenbbaaR3
import Derived.Deep.DeepCutAuto
namespace Go.Proofs.Ytnkbcapikenbbaa
set_option linter.unusedSimpArgs false
set_option linter.unusedVariables false
open Go.RowKit
attribute [local go_sem high] cell_set_wr
attribute [local go_sem low] cell_wr frozen_wr
attribute [local go_sem] wr_set wr_drew wr_drewN wr_alloc wr_new

theorem asked_any (set : Int) (A : Option Addr) (cap : Nat) (fs : List Fr) (q : Bool) (w : World) (hA : Arr w w.heap.size A (frosts fs)) :
    Calls Try.prog 58 #[.agg #[.int .i64 set, .slice A fs.length cap], .bool q] w fun e w' => e = .returned (.int .i64 (askE ⟨set, fs⟩ q)) ∧ Below w.heap.size w w' := by
  have HE : Hid (askE ⟨set, fs⟩ q = if (Ck.ok ⟨set, fs⟩) then (if q then 0 else 11) else 10) := hid rfl
  have HC : Hid (checkE ⟨set, fs⟩ = if (Ck.ok ⟨set, fs⟩) then 0 else 10) := hid rfl
  cases ho : Ck.ok ⟨set, fs⟩
  · have H1 : Hid (askE ⟨set, fs⟩ q = 10) := hid (by rw [HE.out, ho]; rfl)
    have h2 : checkE ⟨set, fs⟩ = 10 := by rw [HC.out, ho]; rfl
    clear ho HE HC
    go_enter Try.func58, Try.ntmps58
    go_wp2_with (go_at_call 17; refine (rCheck_any set A cap fs _ ?_).mono ?_; (focus (refine (hA.below ?_).more ?_; (repeat' (first | (with_reducible exact Below.refl _ _) | (with_reducible assumption) | (with_reducible refine Below.drew ?_) | (with_reducible refine below_drewN ?_ _) | (with_reducible refine Below.setCell ?_ ?_ _) | (with_reducible refine Below.alloc ?_ ?_ _) | go_size | (exact Below.size (by assumption)) | (refine Below.trans ?_ (Below.mono (by assumption) ?_)))))); rintro e w1 ⟨rfl, hb1⟩; (first | replace hb1 := Below.un1 hb1 | replace hb1 := Below.un2 hb1 | skip); obtain ⟨hc1, hf1, hl1, hm1, hw1⟩ := bcell hb1; have hz1 := hb1.size; (try simp only [World.size_alloc, World.size_setCell] at hz1))
    go_ret
    exact ⟨ret_int (by rw [H1.out]), by (repeat' (first | (with_reducible exact Below.refl _ _) | (with_reducible assumption) | (with_reducible refine Below.drew ?_) | (with_reducible refine below_drewN ?_ _) | (with_reducible refine Below.setCell ?_ ?_ _) | (with_reducible refine Below.alloc ?_ ?_ _) | go_size | (exact Below.size (by assumption)) | (refine Below.trans ?_ (Below.mono (by assumption) ?_))))⟩
  · have h2 : checkE ⟨set, fs⟩ = 0 := by rw [HC.out, ho]; rfl
    cases q
    all_goals
      have H1 := hid (HE.out.trans (by rw [ho]))
      clear ho HE HC
      go_enter Try.func58, Try.ntmps58
      go_wp2_with (go_at_call 17; refine (rCheck_any set A cap fs _ ?_).mono ?_; (focus (refine (hA.below ?_).more ?_; (repeat' (first | (with_reducible exact Below.refl _ _) | (with_reducible assumption) | (with_reducible refine Below.drew ?_) | (with_reducible refine below_drewN ?_ _) | (with_reducible refine Below.setCell ?_ ?_ _) | (with_reducible refine Below.alloc ?_ ?_ _) | go_size | (exact Below.size (by assumption)) | (refine Below.trans ?_ (Below.mono (by assumption) ?_)))))); rintro e w1 ⟨rfl, hb1⟩; (first | replace hb1 := Below.un1 hb1 | replace hb1 := Below.un2 hb1 | skip); obtain ⟨hc1, hf1, hl1, hm1, hw1⟩ := bcell hb1; have hz1 := hb1.size; (try simp only [World.size_alloc, World.size_setCell] at hz1))
      go_ret
      exact ⟨ret_int (by have h := H1.out; simpa using h.symm), by (repeat' (first | (with_reducible exact Below.refl _ _) | (with_reducible assumption) | (with_reducible refine Below.drew ?_) | (with_reducible refine below_drewN ?_ _) | (with_reducible refine Below.setCell ?_ ?_ _) | (with_reducible refine Below.alloc ?_ ?_ _) | go_size | (exact Below.size (by assumption)) | (refine Below.trans ?_ (Below.mono (by assumption) ?_))))⟩

theorem all_take {α : Type} (p : α → Bool) (l : List α) (k : Nat) (hk : k < l.length) : (l.drop k).all p = (p l[k] && (l.drop (k + 1)).all p) := by
  rw [List.drop_eq_getElem_cons hk]; rfl

set_option maxRecDepth 100000 in
set_option maxHeartbeats 4000000 in
theorem isBook_any (A : Option Addr) (cap : Nat) (l : List Ln) (w : World) (hA : Arr w w.heap.size A (lines l)) :
    Calls Try.prog 72 #[.slice A l.length cap] w fun e w' => e = .returned (.bool (bookB l)) ∧ Below w.heap.size w w' := by
  have HE : Hid (bookB l = (decide (l.length ≤ 6) && l.all lineB)) := hid rfl
  by_cases h6 : l.length ≤ 6
  · have H1 : Hid (bookB l = l.all lineB) := hid (by rw [HE.out, decide_eq_true h6]; rfl)
    have hd : decide ((l.length : Int) ≤ 6) = true := by simp; omega
    clear HE
    go_enter Try.func72, Try.ntmps72
    go_wp2
    go_loopw [3, 4] (fun ok i wr => ∃ (k : Nat) (b : Bool), k ≤ l.length ∧ i = .int .i64 k ∧ ok = .bool b ∧ Hid (l.all lineB = (b && (l.drop k).all lineB)) ∧ Below w.heap.size w wr) (fun _ i _ => l.length - (intOf i).toNat)
    case atStart => exact ⟨0, true, Nat.zero_le _, rfl, by rfl, hid (by simp), Below.refl _ _⟩
    case round =>
      obtain ⟨k, b, hk, rfl, rfl, HB, hB⟩ := hrel
      cases b
      · go_wp2
        go_ret
        exact ⟨ret_bool (by rw [H1.out, HB.out]; rfl), by (repeat' (first | (with_reducible exact Below.refl _ _) | (with_reducible assumption) | (with_reducible refine Below.drew ?_) | (with_reducible refine below_drewN ?_ _) | (with_reducible refine Below.setCell ?_ ?_ _) | (with_reducible refine Below.alloc ?_ ?_ _) | go_size | (exact Below.size (by assumption)) | (refine Below.trans ?_ (Below.mono (by assumption) ?_))))⟩
      · by_cases hlt : k < l.length
        · obtain ⟨b, o, rfl, hb, c0, c1, c2⟩ := (hA.below hB).ln hlt
          have HT := hid (all_take lineB l k hlt)
          have HL : Hid (lineB l[k] = (isReadingB l[k].r && minutesB l[k].k)) := hid rfl
          have hi1 : k + 1 ≤ l.length := hlt
          clear hA
          generalize l[k] = x at *
          cases hr : isReadingB x.r
          · have HR := hid hr
            go_wp2_with (first
              | (go_at_call 64; refine (rIsReading_any _ _).mono ?_; rintro e w1 ⟨rfl, rfl⟩))
            exact ⟨⟨k + 1, false, hi1, by go_num, rfl, hid (by rw [HB.out, HT.out, HL.out, HR.out]; rfl), hB⟩, by simp [intOf]; omega⟩
          · have HR := hid hr
            go_wp2_with (first
              | (go_at_call 64; refine (rIsReading_any _ _).mono ?_; rintro e w1 ⟨rfl, rfl⟩)
              | (go_at_call 87; refine (rMinutes_any _ _ _).mono ?_; rintro e w2 ⟨rfl, hb2⟩; (first | replace hb2 := Below.un1 hb2 | replace hb2 := Below.un2 hb2 | skip); obtain ⟨hc2, hf2, hl2, hm2, hw2⟩ := bcell hb2; have hz2 := hb2.size; (try simp only [World.size_alloc, World.size_setCell] at hz2)))
            refine ⟨⟨k + 1, minutesB x.k, hi1, by go_num, rfl, hid (by rw [HB.out, HT.out, HL.out, HR.out]; simp), ?_⟩, by simp [intOf]; omega⟩
            (repeat' (first | (with_reducible exact Below.refl _ _) | (with_reducible assumption) | (with_reducible refine Below.drew ?_) | (with_reducible refine below_drewN ?_ _) | (with_reducible refine Below.setCell ?_ ?_ _) | (with_reducible refine Below.alloc ?_ ?_ _) | go_size | (exact Below.size (by assumption)) | (refine Below.trans ?_ (Below.mono (by assumption) ?_))))
        · obtain rfl : k = l.length := by omega
          go_wp2
          go_ret
          exact ⟨ret_bool (by rw [H1.out, HB.out, List.drop_length]; rfl), by (repeat' (first | (with_reducible exact Below.refl _ _) | (with_reducible assumption) | (with_reducible refine Below.drew ?_) | (with_reducible refine below_drewN ?_ _) | (with_reducible refine Below.setCell ?_ ?_ _) | (with_reducible refine Below.alloc ?_ ?_ _) | go_size | (exact Below.size (by assumption)) | (refine Below.trans ?_ (Below.mono (by assumption) ?_))))⟩
  · have H1 : Hid (bookB l = false) := hid (by rw [HE.out, decide_eq_false h6]; rfl)
    have hd : decide ((l.length : Int) ≤ 6) = false := by simp; omega
    clear HE
    go_enter Try.func72, Try.ntmps72
    go_wp2
    go_loopw [3, 4] (fun ok i wr => ok = .bool false ∧ i = .int .i64 0 ∧ wr = w) (fun _ i _ => 0)
    case atStart => exact ⟨by rfl, rfl, rfl⟩
    case round =>
      obtain ⟨rfl, rfl, rfl⟩ := hrel
      go_wp2
      go_ret
      exact ⟨ret_bool (by rw [H1.out]), by (repeat' (first | (with_reducible exact Below.refl _ _) | (with_reducible assumption) | (with_reducible refine Below.drew ?_) | (with_reducible refine below_drewN ?_ _) | (with_reducible refine Below.setCell ?_ ?_ _) | (with_reducible refine Below.alloc ?_ ?_ _) | go_size | (exact Below.size (by assumption)) | (refine Below.trans ?_ (Below.mono (by assumption) ?_))))⟩

theorem hull_none (l : List Sp) (h : ∀ s ∈ l, s.hi < s.lo) : hull l = none := by
  unfold hull
  induction l with
  | nil => rfl
  | cons s l ih =>
    have h1 := h s (List.mem_cons_self ..)
    simp only [List.foldl_cons, addS, if_pos h1]
    exact ih fun t ht => h t (List.mem_cons_of_mem _ ht)

theorem truths_ne (fs : List Fr) (ho : OkFs fs) : 0 < (truths fs).length := by
  have h : ∃ tr, InT fs tr := by
    have go : ∀ fs : List Fr, (∀ f ∈ fs, f.b.lo ≤ f.b.hi ∧ f.e.lo ≤ f.e.hi) → ∃ tr, InT fs tr := fun fs => by
      induction fs with
      | nil => exact fun _ => ⟨[], trivial⟩
      | cons f fs ih =>
        intro h
        obtain ⟨tr, ht⟩ := ih fun g hg => h g (List.mem_cons_of_mem _ hg)
        have h1 := h f (List.mem_cons_self ..)
        exact ⟨⟨f.b.lo, f.e.lo⟩ :: tr, ⟨Int.le_refl _, h1.1, Int.le_refl _, h1.2⟩, ht⟩
    exact go fs fun f hf => ⟨(ho.2 f hf).2.1, (ho.2 f hf).2.2.2.2.1⟩
  obtain ⟨tr, ht⟩ := h
  exact List.length_pos_of_mem ((mem_truths fs tr).2 ht)

theorem okFs_of {set : Int} {fs : List Fr} (h : Ck.ok ⟨set, fs⟩ = true) : OkFs fs ∧ 0 ≤ set ∧ set ≤ 4319 := by
  simp only [Ck.ok, Bool.and_eq_true, decide_eq_true_eq] at h
  obtain ⟨h1, h2, h3, h4⟩ := h
  refine ⟨⟨h3, ?_⟩, h1, h2⟩
  have go : ∀ (fs : List Fr) (ov : Int), 0 ≤ ov → chk ov fs = true → ∀ f ∈ fs, 0 ≤ f.b.lo ∧ f.b.lo ≤ f.b.hi ∧ f.b.hi - f.b.lo ≤ 3 ∧ f.b.hi ≤ f.e.lo ∧ f.e.lo ≤ f.e.hi ∧ f.e.hi - f.e.lo ≤ 3 ∧ f.e.hi ≤ 4319 := fun fs => by
    induction fs with
    | nil => intro _ _ _ f hf; simp at hf
    | cons g fs ih =>
      intro ov hov hc f hf
      simp only [chk, okFr, nearB, minutesB, Bool.and_eq_true, decide_eq_true_eq] at hc
      rcases List.mem_cons.1 hf with rfl | hf
      · omega
      · exact ih g.e.hi (by omega) hc.2 f hf
  exact go fs 0 (Int.le_refl _) h4

set_option maxRecDepth 100000 in
set_option maxHeartbeats 4000000 in
theorem rShows_any (set : Int) (A : Option Addr) (cap : Nat) (fs : List Fr) (m : Int) (w : World) (hA : Arr w w.heap.size A (frosts fs)) :
    Calls Try.prog 15 #[.agg #[.int .i64 set, .slice A fs.length cap], .int .i64 m] w fun e w' =>
      e = .returned (.tuple #[.agg #[.int .i64 (showsR ⟨set, fs⟩ m).1.lo, .int .i64 (showsR ⟨set, fs⟩ m).1.hi], .int .i64 (showsR ⟨set, fs⟩ m).2]) ∧ Below w.heap.size w w' := by
  have HB : Hid (minuteB m = (decide (0 ≤ m) && decide (m ≤ 4319))) := hid rfl
  go_enter Try.func15, Try.ntmps15
  go_wp2
  go_region_held3 (fun w' => (w'.cell? ⟨w.heap.size, 0, none⟩ = some (.int .i64 set) ∧ w'.cell? ⟨w.heap.size, 1, none⟩ = some (.slice A fs.length cap) ∧ Wr w' (w.heap.size + 1) 0 ∧ Wr w' (w.heap.size + 1) 1) ∧ Below w.heap.size w w') (((refine ⟨?_, ?_⟩; (focus (first | (simp [go_sem, wr_set, wr_drew, wr_drewN, wr_alloc, wr_new]; done) | (simp [go_sem, wr_set, wr_drew, wr_drewN, wr_alloc, wr_new, *]; done) | (simp (disch := go_size) [go_sem, wr_set, wr_drew, wr_drewN, wr_alloc, wr_new, *]; done))); (repeat' (first | (with_reducible exact Below.refl _ _) | (with_reducible assumption) | (with_reducible refine Below.drew ?_) | (with_reducible refine below_drewN ?_ _) | (with_reducible refine Below.setCell ?_ ?_ _) | (with_reducible refine Below.alloc ?_ ?_ _) | go_size | (exact Below.size (by assumption)) | (refine Below.trans ?_ (Below.mono (by assumption) ?_)))))))
    (first
      | (go_at_call 44; refine (between_any _ _ _ _).mono ?_; rintro e w1 ⟨rfl, rfl⟩)
      | (go_at_call 58; refine (asked_any set A cap fs _ _ ?_).mono ?_; (focus (refine (hA.below ?_).more ?_; (repeat' (first | (with_reducible exact Below.refl _ _) | (with_reducible assumption) | (with_reducible refine Below.drew ?_) | (with_reducible refine below_drewN ?_ _) | (with_reducible refine Below.setCell ?_ ?_ _) | (with_reducible refine Below.alloc ?_ ?_ _) | go_size | (exact Below.size (by assumption)) | (refine Below.trans ?_ (Below.mono (by assumption) ?_)))))); rintro e w2 ⟨rfl, hb2⟩; (first | replace hb2 := Below.un1 hb2 | replace hb2 := Below.un2 hb2 | skip); obtain ⟨hc2, hf2, hl2, hm2, hw2⟩ := bcell hb2; have hz2 := hb2.size; (try simp only [World.size_alloc, World.size_setCell] at hz2)))
  obtain ⟨⟨s0, s1, s2, s3⟩, hB⟩ := ‹(_ ∧ _) ∧ Below w.heap.size w w2›
  clear hc2 hf2 hl2 hm2 hw2
  have hlw : w.heap.size + 1 < w2.heap.size := s2.lt
  rw [← HB.out]
  have HR : Hid (showsR ⟨set, fs⟩ m = if askE ⟨set, fs⟩ (minuteB m) = 0 then ((showsH ⟨set, fs⟩ m).getD zeroSp, 0) else (zeroSp, askE ⟨set, fs⟩ (minuteB m))) := hid rfl
  by_cases he : askE ⟨set, fs⟩ (minuteB m) = 0
  · have H1 : Hid (showsR ⟨set, fs⟩ m = ((showsH ⟨set, fs⟩ m).getD zeroSp, 0)) := hid (by rw [HR.out, if_pos he])
    have hok : Ck.ok ⟨set, fs⟩ = true ∧ minuteB m = true := by
      unfold askE at he
      revert he
      cases Ck.ok ⟨set, fs⟩ <;> cases minuteB m <;> simp
    obtain ⟨hO, hs1, hs2⟩ := okFs_of hok.1
    have hmm := hok.2
    simp only [minuteB, Bool.and_eq_true, decide_eq_true_eq] at hmm
    obtain ⟨hm0, hm1⟩ := hmm
    clear HR hok HB
    go_wp2_with (go_at_call 59; refine (truths_any fs.length 0 0 set A cap fs _ (by omega) (by omega) (by rfl) ?_ hO).mono ?_; (focus (refine (hA.below ?_).more ?_; (repeat' (first | (with_reducible exact Below.refl _ _) | (with_reducible assumption) | (with_reducible refine Below.drew ?_) | (with_reducible refine below_drewN ?_ _) | (with_reducible refine Below.setCell ?_ ?_ _) | (with_reducible refine Below.alloc ?_ ?_ _) | go_size | (exact Below.size (by assumption)) | (refine Below.trans ?_ (Below.mono (by assumption) ?_)))))); rintro e w3 ⟨A3, cap3, rfl, hcap3, hA3, hb3⟩; obtain ⟨hc3, hf3, hl3, hm3, hw3⟩ := bcell hb3)
    rw [List.drop_zero] at hA3
    have hne := truths_ne fs hO
    have hTr : Hid (∀ tr ∈ truths fs, OkTr tr) := hid fun tr h => okTr_mem hO h
    have HH : Hid (showsH ⟨set, fs⟩ m = hull ((truths fs).map (showS ⟨set, fs⟩ m))) := hid rfl
    have hRL := truths_small fs hO 0
    rw [List.drop_zero] at hRL
    have z0 : w3.cell? ⟨w.heap.size, 0, none⟩ = some (.int .i64 set) := by rw [hc3 _ _ (by omega)]; exact s0
    have z1 : w3.cell? ⟨w.heap.size, 1, none⟩ = some (.slice A fs.length cap) := by rw [hc3 _ _ (by omega)]; exact s1
    have z2 : Wr w3 (w.heap.size + 1) 0 := by rw [hw3 _ _ hlw]; exact s2
    have z3 : Wr w3 (w.heap.size + 1) 1 := by rw [hw3 _ _ hlw]; exact s3
    have hlw3 : w.heap.size + 1 < w3.heap.size := z2.lt
    have hlw3' : w.heap.size < w3.heap.size := by omega
    have hB3 : Below w.heap.size w w3 := by (repeat' (first | (with_reducible exact Below.refl _ _) | (with_reducible assumption) | (with_reducible refine Below.drew ?_) | (with_reducible refine below_drewN ?_ _) | (with_reducible refine Below.setCell ?_ ?_ _) | (with_reducible refine Below.alloc ?_ ?_ _) | go_size | (exact Below.size (by assumption)) | (refine Below.trans ?_ (Below.mono (by assumption) ?_))))
    clear hc3 hf3 hl3 hm3 hw3 s0 s1 s2 s3
    generalize truths fs = R at *
    obtain ⟨b, o, A', c', rfl, hbb, hc0, hAr⟩ := hA3.at_ hne
    rw [Nat.add_zero] at hc0
    have hT0 := hTr.out _ (List.getElem_mem hne)
    have HD : Hid (R.map (showS ⟨set, fs⟩ m) = showS ⟨set, fs⟩ m R[0] :: (R.drop 1).map (showS ⟨set, fs⟩ m)) := hid (by
      have h := map_drop R (showS ⟨set, fs⟩ m) 0 hne
      rwa [List.drop_zero] at h)
    generalize R[0] = r0 at *
    go_cut [8] (fun s8 wx => ∃ O : Nat, s8 = .pointer (some ⟨O, 0, none⟩) ∧ w3.heap.size ≤ O ∧ wx.cell? ⟨O, 0, none⟩ = some (.int .i64 (showS ⟨set, fs⟩ m r0).lo) ∧ wx.cell? ⟨O, 1, none⟩ = some (.int .i64 (showS ⟨set, fs⟩ m r0).hi) ∧ Wr wx O 0 ∧ Wr wx O 1 ∧ Below w3.heap.size w3 wx)
    case first =>
      go_region_held3 (fun w' => (w'.cell? ⟨w.heap.size, 0, none⟩ = some (.int .i64 set) ∧ w'.cell? ⟨w.heap.size, 1, none⟩ = some (.slice A fs.length cap) ∧ Wr w' (w.heap.size + 1) 0 ∧ Wr w' (w.heap.size + 1) 1 ∧ w'.cell? ⟨b, o, none⟩ = some (.slice A' r0.length c')) ∧ Below w3.heap.size w3 w') (((refine ⟨?_, ?_⟩; (focus (first | (simp [go_sem, wr_set, wr_drew, wr_drewN, wr_alloc, wr_new]; done) | (simp [go_sem, wr_set, wr_drew, wr_drewN, wr_alloc, wr_new, *]; done) | (simp (disch := go_size) [go_sem, wr_set, wr_drew, wr_drewN, wr_alloc, wr_new, *]; done))); (repeat' (first | (with_reducible exact Below.refl _ _) | (with_reducible assumption) | (with_reducible refine Below.drew ?_) | (with_reducible refine below_drewN ?_ _) | (with_reducible refine Below.setCell ?_ ?_ _) | (with_reducible refine Below.alloc ?_ ?_ _) | go_size | (exact Below.size (by assumption)) | (refine Below.trans ?_ (Below.mono (by assumption) ?_)))))))
        (first
          | (go_at_call 60; refine (shows_any set _ _ _ fs A' c' r0 m _ ?_ hT0 ⟨hm0, by omega⟩ ⟨hs1, hs2⟩).mono ?_; (focus (refine (hAr.below ?_).more ?_; (repeat' (first | (with_reducible exact Below.refl _ _) | (with_reducible assumption) | (with_reducible refine Below.drew ?_) | (with_reducible refine below_drewN ?_ _) | (with_reducible refine Below.setCell ?_ ?_ _) | (with_reducible refine Below.alloc ?_ ?_ _) | go_size | (exact Below.size (by assumption)) | (refine Below.trans ?_ (Below.mono (by assumption) ?_)))))); rintro e w4 ⟨rfl, hb4⟩; (first | replace hb4 := Below.un1 hb4 | replace hb4 := Below.un2 hb4 | skip); obtain ⟨hc4, hf4, hl4, hm4, hw4⟩ := bcell hb4; have hz4 := hb4.size; (try simp only [World.size_alloc, World.size_setCell] at hz4))
          | (go_at_call 47; refine (one_any _ _).mono ?_; rintro e w5 ⟨rfl, hb5⟩; (first | replace hb5 := Below.un1 hb5 | replace hb5 := Below.un2 hb5 | skip); (first | replace hb5 := Below.chain hb4 hb5 | skip); obtain ⟨hc5, hf5, hl5, hm5, hw5⟩ := bcell hb5; have hz5 := hb5.size; (try simp only [World.size_alloc, World.size_setCell] at hz5)))
      all_goals
        go_wp2_with fail
        go_meet
        refine ⟨_, rfl, by first | exact Nat.le_refl _ | omega, ?_, ?_, ?_, ?_, ?_⟩
        · unfold showS; (first | (simp [go_sem, wr_set, wr_drew, wr_drewN, wr_alloc, wr_new]; done) | (simp [go_sem, wr_set, wr_drew, wr_drewN, wr_alloc, wr_new, *]; done) | (simp (disch := go_size) [go_sem, wr_set, wr_drew, wr_drewN, wr_alloc, wr_new, *]; done))
        · unfold showS; (first | (simp [go_sem, wr_set, wr_drew, wr_drewN, wr_alloc, wr_new]; done) | (simp [go_sem, wr_set, wr_drew, wr_drewN, wr_alloc, wr_new, *]; done) | (simp (disch := go_size) [go_sem, wr_set, wr_drew, wr_drewN, wr_alloc, wr_new, *]; done))
        · (first | (simp [go_sem, wr_set, wr_drew, wr_drewN, wr_alloc, wr_new]; done) | (simp [go_sem, wr_set, wr_drew, wr_drewN, wr_alloc, wr_new, *]; done) | (simp (disch := go_size) [go_sem, wr_set, wr_drew, wr_drewN, wr_alloc, wr_new, *]; done))
        · (first | (simp [go_sem, wr_set, wr_drew, wr_drewN, wr_alloc, wr_new]; done) | (simp [go_sem, wr_set, wr_drew, wr_drewN, wr_alloc, wr_new, *]; done) | (simp (disch := go_size) [go_sem, wr_set, wr_drew, wr_drewN, wr_alloc, wr_new, *]; done))
        · (repeat' (first | (with_reducible exact Below.refl _ _) | (with_reducible assumption) | (with_reducible refine Below.drew ?_) | (with_reducible refine below_drewN ?_ _) | (with_reducible refine Below.setCell ?_ ?_ _) | (with_reducible refine Below.alloc ?_ ?_ _) | go_size | (exact Below.size (by assumption)) | (refine Below.trans ?_ (Below.mono (by assumption) ?_))))
    case rest =>
      obtain ⟨O, rfl, hO3, o0, o1, o2, o3, hBx⟩ := hcut
      go_wp2
      go_loopw [9] (fun i wr => ∃ (k : Nat) (s : Sp), k ≤ R.length ∧ i = .int .i64 k ∧ wr.cell? ⟨O, 0, none⟩ = some (.int .i64 s.lo) ∧ wr.cell? ⟨O, 1, none⟩ = some (.int .i64 s.hi) ∧ Wr wr O 0 ∧ Wr wr O 1 ∧
          Hid (hull (R.map (showS ⟨set, fs⟩ m)) = ((R.drop k).map (showS ⟨set, fs⟩ m)).foldl addS (some s)) ∧ Below w3.heap.size w3 wr) (fun i _ => R.length - (intOf i).toNat)
      case atStart =>
        exact ⟨1, _, hne, rfl, o0, o1, o2, o3, hid (by rw [HD.out, hull_cons _ _ (Int.le_refl _)]), hBx⟩
      case round =>
        clear o0 o1 o2 o3 hBx
        obtain ⟨k, s, hk, rfl, o0, o1, o2, o3, HK, hBr⟩ := hrel
        have hO := o2.lt
        have q0 : wr.cell? ⟨w.heap.size, 0, none⟩ = some (.int .i64 set) := (hBr.cell (by simp; omega)).trans z0
        have q1 : wr.cell? ⟨w.heap.size, 1, none⟩ = some (.slice A fs.length cap) := (hBr.cell (by simp; omega)).trans z1
        by_cases hlt : k < R.length
        · obtain ⟨b', o', A'', c'', e', hb', hck, hAk⟩ := (hA3.below hBr).at_ hlt
          simp only [Option.some.injEq, Addr.mk.injEq, true_and, and_true] at e'
          obtain ⟨rfl, rfl⟩ := e'
          have hTk := hTr.out _ (List.getElem_mem hlt)
          have hk1 : k + 1 ≤ R.length := hlt
          have HM := hid (map_drop R (showS ⟨set, fs⟩ m) k hlt)
          generalize R[k] = r at *
          have hlr : w.heap.size + 1 < wr.heap.size := by have := hBr.size; omega
          have hlr' : w.heap.size < wr.heap.size := by omega
          have hbr : b < wr.heap.size := by have := hBr.size; omega
          generalize hn : showsT ⟨set, fs⟩ r m = nn
          have HN := hid hn
          clear hn
          have E1 : Hid ((if nn < s.lo then nn else s.lo) = min s.lo nn) := hid (by split <;> omega)
          have E2 : Hid ((if s.hi < nn then nn else s.hi) = max s.hi nn) := hid (by split <;> omega)
          have HS : Hid (addS (some s) (showS ⟨set, fs⟩ m r) = some ⟨min s.lo nn, max s.hi nn⟩) := hid (by rw [addS_some _ _ (Int.le_refl _)]; unfold showS; rw [HN.out])
          go_wp2
          go_region_held3 (fun w' => (w'.cell? ⟨w.heap.size, 0, none⟩ = some (.int .i64 set) ∧ w'.cell? ⟨w.heap.size, 1, none⟩ = some (.slice A fs.length cap) ∧ w'.cell? ⟨b, o + k, none⟩ = some (.slice A'' r.length c'')) ∧ Below wr.heap.size wr w') (((refine ⟨?_, ?_⟩; (focus (first | (simp [go_sem, wr_set, wr_drew, wr_drewN, wr_alloc, wr_new]; done) | (simp [go_sem, wr_set, wr_drew, wr_drewN, wr_alloc, wr_new, *]; done) | (simp (disch := go_size) [go_sem, wr_set, wr_drew, wr_drewN, wr_alloc, wr_new, *]; done))); (repeat' (first | (with_reducible exact Below.refl _ _) | (with_reducible assumption) | (with_reducible refine Below.drew ?_) | (with_reducible refine below_drewN ?_ _) | (with_reducible refine Below.setCell ?_ ?_ _) | (with_reducible refine Below.alloc ?_ ?_ _) | go_size | (exact Below.size (by assumption)) | (refine Below.trans ?_ (Below.mono (by assumption) ?_)))))))
            (first
              | (go_at_call 60; refine (shows_any set _ _ _ fs A'' c'' r m _ ?_ hTk ⟨hm0, by omega⟩ ⟨hs1, hs2⟩).mono ?_; (focus (refine (hAk.below ?_).more ?_; (repeat' (first | (with_reducible exact Below.refl _ _) | (with_reducible assumption) | (with_reducible refine Below.drew ?_) | (with_reducible refine below_drewN ?_ _) | (with_reducible refine Below.setCell ?_ ?_ _) | (with_reducible refine Below.alloc ?_ ?_ _) | go_size | (exact Below.size (by assumption)) | (refine Below.trans ?_ (Below.mono (by assumption) ?_)))))); rw [HN.out]; rintro e w4 ⟨rfl, hb4⟩; (first | replace hb4 := Below.un1 hb4 | replace hb4 := Below.un2 hb4 | skip); obtain ⟨hc4, hf4, hl4, hm4, hw4⟩ := bcell hb4; have hz4 := hb4.size; (try simp only [World.size_alloc, World.size_setCell] at hz4)))
          go_wp2_with (go_at_call 41; rw [E1.out, E2.out]; refine (to_any _ _ _).mono ?_; rintro e w5 ⟨rfl, hb5⟩; (first | replace hb5 := Below.un1 hb5 | replace hb5 := Below.un2 hb5 | skip); (first | replace hb5 := Below.chain hb4 hb5 | skip); obtain ⟨hc5, hf5, hl5, hm5, hw5⟩ := bcell hb5; have hz5 := hb5.size; (try simp only [World.size_alloc, World.size_setCell] at hz5))
          refine ⟨⟨k + 1, ⟨min s.lo nn, max s.hi nn⟩, hk1, by go_num, ?_, ?_, ?_, ?_, hid (by rw [HK.out, HM.out, List.foldl_cons, HS.out]), ?_⟩, by simp [intOf]; omega⟩
          · (first | (simp [go_sem, wr_set, wr_drew, wr_drewN, wr_alloc, wr_new]; done) | (simp [go_sem, wr_set, wr_drew, wr_drewN, wr_alloc, wr_new, *]; done) | (simp (disch := go_size) [go_sem, wr_set, wr_drew, wr_drewN, wr_alloc, wr_new, *]; done))
          · (first | (simp [go_sem, wr_set, wr_drew, wr_drewN, wr_alloc, wr_new]; done) | (simp [go_sem, wr_set, wr_drew, wr_drewN, wr_alloc, wr_new, *]; done) | (simp (disch := go_size) [go_sem, wr_set, wr_drew, wr_drewN, wr_alloc, wr_new, *]; done))
          · (first | (simp [go_sem, wr_set, wr_drew, wr_drewN, wr_alloc, wr_new]; done) | (simp [go_sem, wr_set, wr_drew, wr_drewN, wr_alloc, wr_new, *]; done) | (simp (disch := go_size) [go_sem, wr_set, wr_drew, wr_drewN, wr_alloc, wr_new, *]; done))
          · (first | (simp [go_sem, wr_set, wr_drew, wr_drewN, wr_alloc, wr_new]; done) | (simp [go_sem, wr_set, wr_drew, wr_drewN, wr_alloc, wr_new, *]; done) | (simp (disch := go_size) [go_sem, wr_set, wr_drew, wr_drewN, wr_alloc, wr_new, *]; done))
          · (repeat' (first | (with_reducible exact Below.refl _ _) | (with_reducible assumption) | (with_reducible refine Below.drew ?_) | (with_reducible refine below_drewN ?_ _) | (with_reducible refine Below.setCell ?_ ?_ _) | (with_reducible refine Below.alloc ?_ ?_ _) | go_size | (exact Below.size (by assumption)) | (refine Below.trans ?_ (Below.mono (by assumption) ?_))))
        · obtain rfl : k = R.length := by omega
          have z2' : Wr wr (w.heap.size + 1) 0 := by have h := (bcell hBr).2.2.2.2 (w.heap.size + 1) 0 hlw3; rw [h]; exact z2
          have z3' : Wr wr (w.heap.size + 1) 1 := by have h := (bcell hBr).2.2.2.2 (w.heap.size + 1) 1 hlw3; rw [h]; exact z3
          have HF : Hid (showsH ⟨set, fs⟩ m = some s) := hid (by rw [HH.out, HK.out, List.drop_length]; rfl)
          go_wp2
          simp [bodyPost, results, Try.results15, go_sem, H1.out, HF.out, *]
          (repeat' (first | (with_reducible exact Below.refl _ _) | (with_reducible assumption) | (with_reducible refine Below.drew ?_) | (with_reducible refine below_drewN ?_ _) | (with_reducible refine Below.setCell ?_ ?_ _) | (with_reducible refine Below.alloc ?_ ?_ _) | go_size | (exact Below.size (by assumption)) | (refine Below.trans ?_ (Below.mono (by assumption) ?_))))
  · have H1 : Hid (showsR ⟨set, fs⟩ m = (zeroSp, askE ⟨set, fs⟩ (minuteB m))) := hid (by rw [HR.out, if_neg he])
    have ht : (askE ⟨set, fs⟩ (minuteB m) != 0) = true := by rw [bne_iff_ne]; exact he
    clear HR he
    go_wp2
    simp [bodyPost, results, Try.results15, go_sem, H1.out, zeroSp, *]
    (repeat' (first | (with_reducible exact Below.refl _ _) | (with_reducible assumption) | (with_reducible refine Below.drew ?_) | (with_reducible refine below_drewN ?_ _) | (with_reducible refine Below.setCell ?_ ?_ _) | (with_reducible refine Below.alloc ?_ ?_ _) | go_size | (exact Below.size (by assumption)) | (refine Below.trans ?_ (Below.mono (by assumption) ?_))))
end Go.Proofs.Ytnkbcapikenbbaa
