/- What clavendierref01 reckons in one truth: what a clock shows, and what a reading means. -/
import Derived.Test.YtnkbcapikenbbaaR1
import Derived.Deep.RegionHeld3
namespace Go.Proofs.Ytnkbcapikenbbaa
set_option linter.unusedSimpArgs false
set_option linter.unusedVariables false
open Go.RowKit

attribute [local go_sem high] cell_set_wr
attribute [local go_sem low] cell_wr frozen_wr
attribute [local go_sem] wr_set wr_drew wr_drewN wr_alloc wr_new

theorem rIsReading_any (n : Int) (w : World) :
    Calls Try.prog 64 #[.int .i64 n] w fun e w' => e = .returned (.bool (isReadingB n)) ∧ w = w' := by
  go_enter Try.func64, Try.ntmps64
  go_wp2_with (go_at_call 44; refine (between_any _ _ _ _).mono ?_; rintro e w1 ⟨rfl, rfl⟩)
  go_ret
  exact ⟨rfl, rfl⟩

theorem still_any {B : Nat} (A : Option Addr) (n : Nat) (tr : List When) (m : Int) (w : World) (hA : Arr w B A (spans tr)) (hT : OkTr tr) (hm : 0 ≤ m ∧ m ≤ 4320) :
    Calls Try.prog 78 #[.slice A tr.length n, .int .i64 m] w fun e w' => e = .returned (.int .i64 (still tr m)) ∧ ∃ n, w' = w.drewN n := by
  obtain ⟨hl, hT⟩ := hT
  have HT := hid hT
  obtain ⟨m1, m2⟩ := hm
  have s1 := still_nonneg tr m
  have s2 := still_le tr m hT
  clear hT
  go_enter Try.func78, Try.ntmps78
  go_wp2
  go_loopw [5, 6] (fun s i wr => ∃ (k : Nat) (x : Int), k ≤ tr.length ∧ i = .int .i64 k ∧ s = .int .i64 x ∧ 0 ≤ x ∧ x + still (tr.drop k) m = still tr m ∧ ∃ n, wr = w.drewN n) (fun _ i _ => tr.length - (intOf i).toNat)
  case atStart => exact ⟨0, 0, Nat.zero_le _, rfl, rfl, by omega, by simp, 0, rfl⟩
  case round =>
    obtain ⟨k, x, hk, rfl, rfl, hx, HX, nd, rfl⟩ := hrel
    by_cases hlt : k < tr.length
    · obtain ⟨b, o, rfl, _, c0, c1⟩ := hA.sp hlt
      obtain ⟨t1, t2, t3⟩ := HT.out _ (List.getElem_mem hlt)
      have hn := still_nonneg (tr.drop (k + 1)) m
      have HD := still_drop tr m k hlt
      have hb : x ≤ 13000 := by omega
      have HX' := hid HX
      have HD' := hid HD
      clear HX HD hA
      generalize tr[k] = t at *
      have E : Hid ((if t.lo < if t.hi < m then t.hi else m then (if t.hi < m then t.hi else m) - t.lo else 0) = max 0 (min m t.hi - t.lo)) := hid (by split <;> split <;> omega)
      go_wp2
      go_quiet (fail)
      rw [E.out]
      have hy : 0 ≤ max 0 (min m t.hi - t.lo) := by omega
      clear E
      generalize max 0 (min m t.hi - t.lo) = y at *
      go_wp2
      exact ⟨⟨k + 1, x + y, by omega, by go_num, rfl, by omega, by rw [← HX'.out, HD'.out]; omega, _, rfl⟩, by simp [intOf]; omega⟩
    · obtain rfl : k = tr.length := by omega
      have hz : Hid (still (tr.drop tr.length) m = 0) := hid (by rw [List.drop_length]; rfl)
      have HX' := hid HX
      clear HX
      go_wp2
      go_ret
      exact ⟨ret_int (by have := HX'.out; rw [hz.out] at this; omega), _, rfl⟩

theorem shows_any (set : Int) (F : Option Addr) (fl fc : Nat) (fs : List Fr) (A : Option Addr) (n : Nat) (tr : List When) (m : Int) (w : World) (hA : Arr w w.heap.size A (spans tr)) (hT : OkTr tr) (hm : 0 ≤ m ∧ m ≤ 4320) (hs : 0 ≤ set ∧ set ≤ 4319) :
    Calls Try.prog 60 #[.agg #[.int .i64 set, .slice F fl fc], .slice A tr.length n, .int .i64 m] w fun e w' => e = .returned (.int .i64 (showsT ⟨set, fs⟩ tr m)) ∧ Below w.heap.size w w' := by
  have s1 := still_nonneg tr m
  have s2 := still_le tr m hT.2
  have s3 := hT.1
  obtain ⟨m1, m2⟩ := hm
  obtain ⟨hs1, hs2⟩ := hs
  go_enter Try.func60, Try.ntmps60
  go_wp2
  have hb0 := Below.refl (w.heap.size + 1) (w.alloc (.cells #[.int .i64 set, .slice F fl fc] 24))
  go_region_held3 (fun w' => w'.cell? ⟨w.heap.size, 0, none⟩ = some (.int .i64 set) ∧ Below (w.heap.size + 1) (w.alloc (.cells #[.int .i64 set, .slice F fl fc] 24)) w') ((refine ⟨?_, ?_⟩; (focus (first | (simp [go_sem, wr_set, wr_drew, wr_drewN, wr_alloc, wr_new]; done) | (simp [go_sem, wr_set, wr_drew, wr_drewN, wr_alloc, wr_new, *]; done) | (simp (disch := go_size) [go_sem, wr_set, wr_drew, wr_drewN, wr_alloc, wr_new, *]; done))); (repeat' (first | (with_reducible exact Below.refl _ _) | (with_reducible assumption) | (with_reducible refine Below.drew ?_) | (with_reducible refine below_drewN ?_ _) | (with_reducible refine Below.setCell ?_ ?_ _) | (with_reducible refine Below.alloc ?_ ?_ _) | go_size | (exact Below.size (by assumption)) | (refine Below.trans ?_ (Below.mono (by assumption) ?_))))))
    (first | (go_at_call 78; refine (still_any (B := w.heap.size) A n tr m _ ?_ hT ⟨m1, m2⟩).mono ?_; (focus (refine hA.below ?_; (repeat' (first | (with_reducible exact Below.refl _ _) | (with_reducible assumption) | (with_reducible refine Below.drew ?_) | (with_reducible refine below_drewN ?_ _) | (with_reducible refine Below.setCell ?_ ?_ _) | (with_reducible refine Below.alloc ?_ ?_ _) | go_size | (exact Below.size (by assumption)) | (refine Below.trans ?_ (Below.mono (by assumption) ?_)))))); rintro e w1 ⟨rfl, n1, rfl⟩))
  simp (disch := omega) only [IntWalk.i64_in]
  go_wp2
  go_ret
  exact ⟨rfl, by (repeat' (first | (with_reducible exact Below.refl _ _) | (with_reducible assumption) | (with_reducible refine Below.drew ?_) | (with_reducible refine below_drewN ?_ _) | (with_reducible refine Below.setCell ?_ ?_ _) | (with_reducible refine Below.alloc ?_ ?_ _) | go_size | (exact Below.size (by assumption)) | (refine Below.trans ?_ (Below.mono (by assumption) ?_))))⟩

theorem meanStep_facts (s t : Sp) (h1 : 0 ≤ t.lo) (h2 : t.lo ≤ t.hi) (h3 : t.hi ≤ 4319) : s.lo ≤ (meanStep s t).lo ∧ (meanStep s t).lo ≤ s.lo + 4319 ∧ s.hi ≤ (meanStep s t).hi ∧ (meanStep s t).hi ≤ s.hi + 4319 := by
  unfold meanStep; simp only; split <;> split <;> (refine ⟨?_, ?_, ?_, ?_⟩ <;> omega)

theorem foldl_drop {α β : Type} (f : β → α → β) (s : β) (l : List α) (k : Nat) (hk : k < l.length) : (l.drop k).foldl f s = (l.drop (k + 1)).foldl f (f s l[k]) := by
  rw [List.drop_eq_getElem_cons hk]; rfl

set_option maxRecDepth 100000 in
set_option maxHeartbeats 4000000 in
theorem means_any {B : Nat} (set : Int) (F : Option Addr) (fl fc : Nat) (fs : List Fr) (A : Option Addr) (n : Nat) (tr : List When) (r : Int) (w : World) (hA : Arr w B A (spans tr)) (hB0 : B ≤ w.heap.size) (hT : OkTr tr) (hr : 0 ≤ r ∧ r ≤ 8638) (hs : 0 ≤ set ∧ set ≤ 4319) :
    Calls Try.prog 65 #[.agg #[.int .i64 set, .slice F fl fc], .slice A tr.length n, .int .i64 r] w fun e w' =>
      e = .returned (.agg #[.int .i64 (meansT ⟨set, fs⟩ tr r).lo, .int .i64 (meansT ⟨set, fs⟩ tr r).hi]) ∧ Below w.heap.size w w' := by
  obtain ⟨hl, hT⟩ := hT
  have HT := hid hT
  obtain ⟨r1, r2⟩ := hr
  obtain ⟨hs1, hs2⟩ := hs
  clear hT
  by_cases h0 : r < set
  · have HM : Hid (meansT ⟨set, fs⟩ tr r = ⟨1, 0⟩) := hid (by unfold meansT; rw [if_pos h0])
    go_enter Try.func65, Try.ntmps65
    go_wp2_with (go_at_call 41; refine (to_any _ _ _).mono ?_; rintro e w1 ⟨rfl, hb1⟩; (first | replace hb1 := Below.un1 hb1 | replace hb1 := Below.un2 hb1 | skip); obtain ⟨hc1, hf1, hl1, hm1, hw1⟩ := bcell hb1; have hz1 := hb1.size; (try simp only [World.size_alloc, World.size_setCell] at hz1))
    simp [bodyPost, results, Try.results65, go_sem, hc1, hf1, HM.out]
    (repeat' (first | (with_reducible exact Below.refl _ _) | (with_reducible assumption) | (with_reducible refine Below.drew ?_) | (with_reducible refine below_drewN ?_ _) | (with_reducible refine Below.setCell ?_ ?_ _) | (with_reducible refine Below.alloc ?_ ?_ _) | go_size | (exact Below.size (by assumption)) | (refine Below.trans ?_ (Below.mono (by assumption) ?_))))
  · have HM : Hid (meansT ⟨set, fs⟩ tr r = (tr.foldl meanStep ⟨r - set, r - set⟩).common ⟨0, 4319⟩) := hid (by unfold meansT; rw [if_neg h0])
    go_enter Try.func65, Try.ntmps65
    go_wp2_with (go_at_call 47; refine (one_any _ _).mono ?_; rintro e w1 ⟨rfl, hb1⟩; (first | replace hb1 := Below.un1 hb1 | replace hb1 := Below.un2 hb1 | skip); obtain ⟨hc1, hf1, hl1, hm1, hw1⟩ := bcell hb1; have hz1 := hb1.size; (try simp only [World.size_alloc, World.size_setCell] at hz1))
    clear hc1 hf1 hl1 hm1
    go_loopw [8, 9] (fun i _ wr => ∃ (k : Nat) (s : Sp), k ≤ tr.length ∧ i = .int .i64 k ∧ wr.cell? ⟨w1.heap.size, 0, none⟩ = some (.int .i64 s.lo) ∧ wr.cell? ⟨w1.heap.size, 1, none⟩ = some (.int .i64 s.hi) ∧
        wr.frozen? ⟨w1.heap.size, 0, none⟩ = false ∧ wr.frozen? ⟨w1.heap.size, 1, none⟩ = false ∧ Hid (tr.foldl meanStep ⟨r - set, r - set⟩ = (tr.drop k).foldl meanStep s) ∧
        0 ≤ s.lo ∧ s.lo ≤ 8638 + 4319 * k ∧ 0 ≤ s.hi ∧ s.hi ≤ 8638 + 4319 * k ∧ w1.heap.size < wr.heap.size ∧ Below w1.heap.size w1 wr) (fun i _ _ => tr.length - (intOf i).toNat)
    case atStart =>
      refine ⟨0, ⟨r - set, r - set⟩, Nat.zero_le _, rfl, by simp [go_sem], by simp [go_sem], by simp [go_sem], by simp [go_sem], hid rfl, by simp; omega, by simp; omega, by simp; omega, by simp; omega, by simp, ?_⟩
      (repeat' (first | (with_reducible exact Below.refl _ _) | (with_reducible assumption) | (with_reducible refine Below.drew ?_) | (with_reducible refine below_drewN ?_ _) | (with_reducible refine Below.setCell ?_ ?_ _) | (with_reducible refine Below.alloc ?_ ?_ _) | go_size | (exact Below.size (by assumption)) | (refine Below.trans ?_ (Below.mono (by assumption) ?_))))
    case round =>
      obtain ⟨k, s, hk, rfl, b0, b1, z0, z1, HK, hs3, hs4, hs5, hs6, hlw, hB⟩ := hrel
      have hwr : Below w.heap.size w wr := by (repeat' (first | (with_reducible exact Below.refl _ _) | (with_reducible assumption) | (with_reducible refine Below.drew ?_) | (with_reducible refine below_drewN ?_ _) | (with_reducible refine Below.setCell ?_ ?_ _) | (with_reducible refine Below.alloc ?_ ?_ _) | go_size | (exact Below.size (by assumption)) | (refine Below.trans ?_ (Below.mono (by assumption) ?_))))
      by_cases hlt : k < tr.length
      · obtain ⟨b, o, rfl, hbB, c0, c1⟩ := (hA.below (hwr.mono hB0)).sp hlt
        have hne1 : ¬ b = w1.heap.size := by omega
        have hne2 : ¬ w1.heap.size = b := by omega
        obtain ⟨t1, t2, t3⟩ := HT.out _ (List.getElem_mem hlt)
        have HD := hid (foldl_drop meanStep s tr k hlt)
        have hF := meanStep_facts s tr[k] t1 t2 t3
        obtain ⟨f1, f2, f3, f4⟩ := hF
        have HE : Hid (meanStep s tr[k] = ⟨if tr[k].lo < s.lo then s.lo + (tr[k].hi - tr[k].lo) else s.lo, if tr[k].lo ≤ s.hi then s.hi + (tr[k].hi - tr[k].lo) else s.hi⟩) := hid rfl
        clear hA
        generalize tr[k] = t at *
        by_cases h1 : t.lo < s.lo
        all_goals by_cases h2 : t.lo ≤ s.hi
        all_goals
          go_wp2
          go_quiet (fail)
          go_wp2
          go_quiet (fail)
          go_wp2
          go_quiet (fail)
          go_wp2
          refine ⟨⟨k + 1, meanStep s t, by omega, by go_num, ?_, ?_, ?_, ?_, hid (by rw [HK.out, HD.out]), by omega, by omega, by omega, by omega, by simpa using hlw, by (repeat' (first | (with_reducible exact Below.refl _ _) | (with_reducible assumption) | (with_reducible refine Below.drew ?_) | (with_reducible refine below_drewN ?_ _) | (with_reducible refine Below.setCell ?_ ?_ _) | (with_reducible refine Below.alloc ?_ ?_ _) | go_size | (exact Below.size (by assumption)) | (refine Below.trans ?_ (Below.mono (by assumption) ?_))))⟩, by simp [intOf]; omega⟩
          all_goals (try rw [HE.out])
          all_goals (try simp [go_sem, h1, h2, b0, b1, z0, z1])
          all_goals omega
      · obtain rfl : k = tr.length := by omega
        have hX : Hid (meansT ⟨set, fs⟩ tr r = s.common ⟨0, 4319⟩) := hid (by rw [HM.out, HK.out, List.drop_length]; rfl)
        have hq0 : Wr wr (w.heap.size + 1) 0 := Wr.of (v := .int .i64 0) ((hB.cell (by simp; omega)).trans ((hb1.cell (by simp)).trans (by simp [go_sem]))) ((hB.frozen (by simp; omega)).trans ((hb1.frozen (by simp)).trans (by simp [go_sem])))
        have hq1 : Wr wr (w.heap.size + 1) 1 := Wr.of (v := .int .i64 0) ((hB.cell (by simp; omega)).trans ((hb1.cell (by simp)).trans (by simp [go_sem]))) ((hB.frozen (by simp; omega)).trans ((hb1.frozen (by simp)).trans (by simp [go_sem])))
        have hlw2 : w.heap.size + 1 < wr.heap.size := by omega
        go_wp2
        go_region_held3 (fun w' => (w'.cell? ⟨w1.heap.size, 0, none⟩ = some (.int .i64 s.lo) ∧ w'.cell? ⟨w1.heap.size, 1, none⟩ = some (.int .i64 s.hi) ∧ Wr w' (w.heap.size + 1) 0 ∧ Wr w' (w.heap.size + 1) 1) ∧ Below w.heap.size w w') (((refine ⟨?_, ?_⟩; (focus (first | (simp [go_sem, wr_set, wr_drew, wr_drewN, wr_alloc, wr_new]; done) | (simp [go_sem, wr_set, wr_drew, wr_drewN, wr_alloc, wr_new, *]; done) | (simp (disch := go_size) [go_sem, wr_set, wr_drew, wr_drewN, wr_alloc, wr_new, *]; done))); (repeat' (first | (with_reducible exact Below.refl _ _) | (with_reducible assumption) | (with_reducible refine Below.drew ?_) | (with_reducible refine below_drewN ?_ _) | (with_reducible refine Below.setCell ?_ ?_ _) | (with_reducible refine Below.alloc ?_ ?_ _) | go_size | (exact Below.size (by assumption)) | (refine Below.trans ?_ (Below.mono (by assumption) ?_)))))))
          (first | (go_at_call 41; refine (to_any _ _ _).mono ?_; rintro e w2 ⟨rfl, hb2⟩; (first | replace hb2 := Below.un1 hb2 | replace hb2 := Below.un2 hb2 | skip); obtain ⟨hc2, hf2, hl2, hm2, hw2⟩ := bcell hb2; have hz2 := hb2.size; (try simp only [World.size_alloc, World.size_setCell] at hz2)) | (go_at_call 88; refine (common_any _ _ _ _ _).mono ?_; rintro e w3 ⟨rfl, hb3⟩; (first | replace hb3 := Below.un1 hb3 | replace hb3 := Below.un2 hb3 | skip); (first | replace hb3 := Below.chain hb2 hb3 | skip); obtain ⟨hc3, hf3, hl3, hm3, hw3⟩ := bcell hb3; have hz3 := hb3.size; (try simp only [World.size_alloc, World.size_setCell] at hz3)))
        go_wp2
        simp [bodyPost, results, Try.results65, go_sem, hX.out, Sp.common, *]
        (repeat' (first | (with_reducible exact Below.refl _ _) | (with_reducible assumption) | (with_reducible refine Below.drew ?_) | (with_reducible refine below_drewN ?_ _) | (with_reducible refine Below.setCell ?_ ?_ _) | (with_reducible refine Below.alloc ?_ ?_ _) | go_size | (exact Below.size (by assumption)) | (refine Below.trans ?_ (Below.mono (by assumption) ?_))))
end Go.Proofs.Ytnkbcapikenbbaa
