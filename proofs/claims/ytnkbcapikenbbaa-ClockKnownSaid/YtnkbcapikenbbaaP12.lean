/- What Before returns. -/
import Derived.Test.YtnkbcapikenbbaaP9
import Derived.Deep.RegionHeld3
import Derived.Deep.DeepCutAuto
namespace Go.Proofs.Ytnkbcapikenbbaa
set_option linter.unusedSimpArgs false
set_option linter.unusedVariables false
open Go.RowKit
attribute [local go_sem high] cell_set_wr
attribute [local go_sem low] cell_wr frozen_wr
attribute [local go_sem] wr_set wr_drew wr_drewN wr_alloc wr_new

def pBeforeR (c : Ck) (r : Int) (d : Ck) (o : Int) : Int × Int :=
  if checkE c ≠ 0 then (0, checkE c)
  else if askE d (isReadingB r && isReadingB o) ≠ 0 then (0, askE d (isReadingB r && isReadingB o))
  else if (pMeansR c r).2 ≠ 0 then (0, (pMeansR c r).2)
  else if (pMeansR d o).2 ≠ 0 then (0, (pMeansR d o).2)
  else if (pMeansR c r).1.hi < (pMeansR d o).1.lo then (2, 0)
  else if (pMeansR d o).1.hi ≤ (pMeansR c r).1.lo then (0, 0)
  else (1, 0)

set_option maxRecDepth 100000 in
set_option maxHeartbeats 4000000 in
theorem pBefore_any (set : Int) (A : Option Addr) (cap : Nat) (fs : List Fr) (r : Int) (set2 : Int) (A2 : Option Addr) (cap2 : Nat) (fs2 : List Fr) (o : Int) (w : World) (hA : Arr w w.heap.size A (frosts fs)) (hA2 : Arr w w.heap.size A2 (frosts fs2)) :
    Calls Try.prog 23 #[.agg #[.int .i64 set, .slice A fs.length cap], .int .i64 r, .agg #[.int .i64 set2, .slice A2 fs2.length cap2], .int .i64 o] w fun e w' =>
      e = .returned (.tuple #[.int .i64 (pBeforeR ⟨set, fs⟩ r ⟨set2, fs2⟩ o).1, .int .i64 (pBeforeR ⟨set, fs⟩ r ⟨set2, fs2⟩ o).2]) ∧ Below w.heap.size w w' := by
  have HB : Hid (isReadingB r = (decide (0 ≤ r) && decide (r ≤ 8638))) := hid rfl
  have HZ : Hid (isReadingB o = (decide (0 ≤ o) && decide (o ≤ 8638))) := hid rfl
  obtain ⟨q, hq⟩ : ∃ q, q = (isReadingB r && isReadingB o) := ⟨_, rfl⟩
  have HQ : Hid (q = (isReadingB r && isReadingB o)) := hid hq
  have HP : Hid (pBeforeR ⟨set, fs⟩ r ⟨set2, fs2⟩ o = if checkE ⟨set, fs⟩ ≠ 0 then (0, checkE ⟨set, fs⟩) else if askE ⟨set2, fs2⟩ q ≠ 0 then (0, askE ⟨set2, fs2⟩ q)
    else if (pMeansR ⟨set, fs⟩ r).2 ≠ 0 then (0, (pMeansR ⟨set, fs⟩ r).2) else if (pMeansR ⟨set2, fs2⟩ o).2 ≠ 0 then (0, (pMeansR ⟨set2, fs2⟩ o).2)
    else if (pMeansR ⟨set, fs⟩ r).1.hi < (pMeansR ⟨set2, fs2⟩ o).1.lo then (2, 0) else if (pMeansR ⟨set2, fs2⟩ o).1.hi ≤ (pMeansR ⟨set, fs⟩ r).1.lo then (0, 0) else (1, 0)) := hid (by rw [HQ.out]; rfl)
  have hq2 : (isReadingB r = false ∧ q = false) ∨ (isReadingB r = true ∧ q = isReadingB o) := by rw [hq]; cases isReadingB r <;> simp
  clear hq
  rcases hq2 with ⟨hr, hq⟩ | ⟨hr, hq⟩
  all_goals
    have HQE := hid hq
    go_enter Try.func23, Try.ntmps23
    go_wp2_with (go_at_call 56; refine (within_any _ _ _ _).mono ?_; (first | rw [← HB.out, hr] | rw [← HZ.out]); rintro e w1 ⟨rfl, rfl⟩)
    rw [← HQE.out]
    clear hq HQE hr
    go_region_held3 (fun w' => (w'.cell? ⟨w.heap.size, 0, none⟩ = some (.int .i64 set) ∧ w'.cell? ⟨w.heap.size, 1, none⟩ = some (.slice A fs.length cap) ∧ w'.cell? ⟨w.heap.size + 1, 0, none⟩ = some (.int .i64 set2) ∧ w'.cell? ⟨w.heap.size + 1, 1, none⟩ = some (.slice A2 fs2.length cap2)) ∧ Below w.heap.size w w') (((refine ⟨?_, ?_⟩; (focus (first | (simp [go_sem, wr_set, wr_drew, wr_drewN, wr_alloc, wr_new]; done) | (simp [go_sem, wr_set, wr_drew, wr_drewN, wr_alloc, wr_new, *]; done) | (simp (disch := go_size) [go_sem, wr_set, wr_drew, wr_drewN, wr_alloc, wr_new, *]; done))); (repeat' (first | (with_reducible exact Below.refl _ _) | (with_reducible assumption) | (with_reducible refine Below.drew ?_) | (with_reducible refine below_drewN ?_ _) | (with_reducible refine Below.setCell ?_ ?_ _) | (with_reducible refine Below.alloc ?_ ?_ _) | go_size | (exact Below.size (by assumption)) | (refine Below.trans ?_ (Below.mono (by assumption) ?_)))))))
      (first
        | (go_at_call 16; refine (pCheck_any set A cap fs _ ?_).mono ?_; (focus (refine (hA.below ?_).more ?_; (repeat' (first | (with_reducible exact Below.refl _ _) | (with_reducible assumption) | (with_reducible refine Below.drew ?_) | (with_reducible refine below_drewN ?_ _) | (with_reducible refine Below.setCell ?_ ?_ _) | (with_reducible refine Below.alloc ?_ ?_ _) | go_size | (exact Below.size (by assumption)) | (refine Below.trans ?_ (Below.mono (by assumption) ?_)))))); rintro e w2 ⟨rfl, hb2⟩; (first | replace hb2 := Below.un1 hb2 | replace hb2 := Below.un2 hb2 | skip); obtain ⟨hc2, hf2, hl2, hm2, hw2⟩ := bcell hb2; have hz2 := hb2.size; (try simp only [World.size_alloc, World.size_setCell] at hz2); have m1 := hl2 w.heap.size (by first | (simp; done) | (simp; omega)); have m2 := hl2 (w.heap.size + 1) (by first | (simp; done) | (simp; omega)))
        | (go_at_call 55; refine (refuse_any set2 A2 cap2 fs2 _ _ ?_).mono ?_; (focus (refine (hA2.below ?_).more ?_; (repeat' (first | (with_reducible exact Below.refl _ _) | (with_reducible assumption) | (with_reducible refine Below.drew ?_) | (with_reducible refine below_drewN ?_ _) | (with_reducible refine Below.setCell ?_ ?_ _) | (with_reducible refine Below.alloc ?_ ?_ _) | go_size | (exact Below.size (by assumption)) | (refine Below.trans ?_ (Below.mono (by assumption) ?_)))))); rintro e w3 ⟨rfl, hb3⟩; (first | replace hb3 := Below.un1 hb3 | replace hb3 := Below.un2 hb3 | skip); obtain ⟨hc3, hf3, hl3, hm3, hw3⟩ := bcell hb3; have hz3 := hb3.size; (try simp only [World.size_alloc, World.size_setCell] at hz3); have m3 := hl3 w.heap.size (by assumption); have m4 := hl3 (w.heap.size + 1) (by assumption)))
    obtain ⟨⟨s0, s1, s2, s3⟩, hB⟩ := ‹(_ ∧ _) ∧ Below w.heap.size w _›
    have hzz := hB.size
    have k0 : w.heap.size < w3.heap.size := by omega
    have k1 : w.heap.size + 1 < w3.heap.size := by omega
    by_cases h1 : checkE ⟨set, fs⟩ = 0
    · by_cases h2 : askE ⟨set2, fs2⟩ q = 0
      · have HP2 : Hid (pBeforeR ⟨set, fs⟩ r ⟨set2, fs2⟩ o = if (pMeansR ⟨set, fs⟩ r).2 ≠ 0 then (0, (pMeansR ⟨set, fs⟩ r).2) else if (pMeansR ⟨set2, fs2⟩ o).2 ≠ 0 then (0, (pMeansR ⟨set2, fs2⟩ o).2)
          else if (pMeansR ⟨set, fs⟩ r).1.hi < (pMeansR ⟨set2, fs2⟩ o).1.lo then (2, 0) else if (pMeansR ⟨set2, fs2⟩ o).1.hi ≤ (pMeansR ⟨set, fs⟩ r).1.lo then (0, 0) else (1, 0)) := hid (by rw [HP.out, if_neg (fun h => h h1), if_neg (fun h => h h2)])
        clear HP
        rw [h1, h2]
        generalize hm1 : pMeansR ⟨set, fs⟩ r = M1 at *
        generalize hm2 : pMeansR ⟨set2, fs2⟩ o = M2 at *
        have HM1 := hid hm1
        have HM2 := hid hm2
        clear hm1 hm2 h1 h2
        by_cases e1 : M1.2 = 0
        · have ez : Hid (M1.2 = 0) := hid e1
          by_cases e2 : M2.2 = 0
          · have HP3 : Hid (pBeforeR ⟨set, fs⟩ r ⟨set2, fs2⟩ o = if M1.1.hi < M2.1.lo then (2, 0) else if M2.1.hi ≤ M1.1.lo then (0, 0) else (1, 0)) := hid (by rw [HP2.out, if_neg (fun h => h e1), if_neg (fun h => h e2)])
            clear HP2
            by_cases g1 : M1.1.hi < M2.1.lo
            · have H1 : Hid (pBeforeR ⟨set, fs⟩ r ⟨set2, fs2⟩ o = (2, 0)) := hid (by rw [HP3.out, if_pos g1])
              clear HP3
              go_wp2_with fail
              refine wp_loop_rounds 3 ?_
              rw [rounds_succ]
              go_wp2_with fail
              rw [rounds_succ]
              go_wp2_with fail
              rw [rounds_succ]
              go_wp2_with (first | (go_at_call 18; refine (pMeans_any _ _ _ _ _ _ ?_).mono ?_; (focus (first | (refine (hA.below ?_).more ?_; (repeat' (first | (with_reducible exact Below.refl _ _) | (with_reducible assumption) | (with_reducible refine Below.drew ?_) | (with_reducible refine below_drewN ?_ _) | (with_reducible refine Below.setCell ?_ ?_ _) | (with_reducible refine Below.alloc ?_ ?_ _) | go_size | (exact Below.size (by assumption)) | (refine Below.trans ?_ (Below.mono (by assumption) ?_))))) | (refine (hA2.below ?_).more ?_; (repeat' (first | (with_reducible exact Below.refl _ _) | (with_reducible assumption) | (with_reducible refine Below.drew ?_) | (with_reducible refine below_drewN ?_ _) | (with_reducible refine Below.setCell ?_ ?_ _) | (with_reducible refine Below.alloc ?_ ?_ _) | go_size | (exact Below.size (by assumption)) | (refine Below.trans ?_ (Below.mono (by assumption) ?_))))))); (try rw [HM1.out]); (try rw [HM2.out]); rintro e w4 ⟨rfl, hb4⟩; (first | replace hb4 := Below.un1 hb4 | replace hb4 := Below.un2 hb4 | skip); obtain ⟨hc4, hf4, hl4, hm4, hw4⟩ := bcell hb4; have hz4 := hb4.size; (try simp only [World.size_alloc, World.size_setCell] at hz4); have m5 := hl4 w.heap.size (by first | assumption | (simp; omega)); have m6 := hl4 (w.heap.size + 1) (by first | assumption | (simp; omega))))
              simp [bodyPost, results, Try.results23, go_sem, H1.out, *]
              (repeat' (first | (with_reducible exact Below.refl _ _) | (with_reducible assumption) | (with_reducible refine Below.drew ?_) | (with_reducible refine below_drewN ?_ _) | (with_reducible refine Below.setCell ?_ ?_ _) | (with_reducible refine Below.alloc ?_ ?_ _) | go_size | (exact Below.size (by assumption)) | (refine Below.trans ?_ (Below.mono (by assumption) ?_))))
            · by_cases g2 : M2.1.hi ≤ M1.1.lo
              · have H1 : Hid (pBeforeR ⟨set, fs⟩ r ⟨set2, fs2⟩ o = (0, 0)) := hid (by rw [HP3.out, if_neg g1, if_pos g2])
                clear HP3
                go_wp2_with fail
                refine wp_loop_rounds 3 ?_
                rw [rounds_succ]
                go_wp2_with fail
                rw [rounds_succ]
                go_wp2_with fail
                rw [rounds_succ]
                go_wp2_with (first | (go_at_call 18; refine (pMeans_any _ _ _ _ _ _ ?_).mono ?_; (focus (first | (refine (hA.below ?_).more ?_; (repeat' (first | (with_reducible exact Below.refl _ _) | (with_reducible assumption) | (with_reducible refine Below.drew ?_) | (with_reducible refine below_drewN ?_ _) | (with_reducible refine Below.setCell ?_ ?_ _) | (with_reducible refine Below.alloc ?_ ?_ _) | go_size | (exact Below.size (by assumption)) | (refine Below.trans ?_ (Below.mono (by assumption) ?_))))) | (refine (hA2.below ?_).more ?_; (repeat' (first | (with_reducible exact Below.refl _ _) | (with_reducible assumption) | (with_reducible refine Below.drew ?_) | (with_reducible refine below_drewN ?_ _) | (with_reducible refine Below.setCell ?_ ?_ _) | (with_reducible refine Below.alloc ?_ ?_ _) | go_size | (exact Below.size (by assumption)) | (refine Below.trans ?_ (Below.mono (by assumption) ?_))))))); (try rw [HM1.out]); (try rw [HM2.out]); rintro e w4 ⟨rfl, hb4⟩; (first | replace hb4 := Below.un1 hb4 | replace hb4 := Below.un2 hb4 | skip); obtain ⟨hc4, hf4, hl4, hm4, hw4⟩ := bcell hb4; have hz4 := hb4.size; (try simp only [World.size_alloc, World.size_setCell] at hz4); have m5 := hl4 w.heap.size (by first | assumption | (simp; omega)); have m6 := hl4 (w.heap.size + 1) (by first | assumption | (simp; omega))))
                simp [bodyPost, results, Try.results23, go_sem, H1.out, *]
                (repeat' (first | (with_reducible exact Below.refl _ _) | (with_reducible assumption) | (with_reducible refine Below.drew ?_) | (with_reducible refine below_drewN ?_ _) | (with_reducible refine Below.setCell ?_ ?_ _) | (with_reducible refine Below.alloc ?_ ?_ _) | go_size | (exact Below.size (by assumption)) | (refine Below.trans ?_ (Below.mono (by assumption) ?_))))
              · have H1 : Hid (pBeforeR ⟨set, fs⟩ r ⟨set2, fs2⟩ o = (1, 0)) := hid (by rw [HP3.out, if_neg g1, if_neg g2])
                clear HP3
                go_wp2_with fail
                refine wp_loop_rounds 3 ?_
                rw [rounds_succ]
                go_wp2_with fail
                rw [rounds_succ]
                go_wp2_with fail
                rw [rounds_succ]
                go_wp2_with (first | (go_at_call 18; refine (pMeans_any _ _ _ _ _ _ ?_).mono ?_; (focus (first | (refine (hA.below ?_).more ?_; (repeat' (first | (with_reducible exact Below.refl _ _) | (with_reducible assumption) | (with_reducible refine Below.drew ?_) | (with_reducible refine below_drewN ?_ _) | (with_reducible refine Below.setCell ?_ ?_ _) | (with_reducible refine Below.alloc ?_ ?_ _) | go_size | (exact Below.size (by assumption)) | (refine Below.trans ?_ (Below.mono (by assumption) ?_))))) | (refine (hA2.below ?_).more ?_; (repeat' (first | (with_reducible exact Below.refl _ _) | (with_reducible assumption) | (with_reducible refine Below.drew ?_) | (with_reducible refine below_drewN ?_ _) | (with_reducible refine Below.setCell ?_ ?_ _) | (with_reducible refine Below.alloc ?_ ?_ _) | go_size | (exact Below.size (by assumption)) | (refine Below.trans ?_ (Below.mono (by assumption) ?_))))))); (try rw [HM1.out]); (try rw [HM2.out]); rintro e w4 ⟨rfl, hb4⟩; (first | replace hb4 := Below.un1 hb4 | replace hb4 := Below.un2 hb4 | skip); obtain ⟨hc4, hf4, hl4, hm4, hw4⟩ := bcell hb4; have hz4 := hb4.size; (try simp only [World.size_alloc, World.size_setCell] at hz4); have m5 := hl4 w.heap.size (by first | assumption | (simp; omega)); have m6 := hl4 (w.heap.size + 1) (by first | assumption | (simp; omega))))
                simp [bodyPost, results, Try.results23, go_sem, H1.out, *]
                (repeat' (first | (with_reducible exact Below.refl _ _) | (with_reducible assumption) | (with_reducible refine Below.drew ?_) | (with_reducible refine below_drewN ?_ _) | (with_reducible refine Below.setCell ?_ ?_ _) | (with_reducible refine Below.alloc ?_ ?_ _) | go_size | (exact Below.size (by assumption)) | (refine Below.trans ?_ (Below.mono (by assumption) ?_))))
          · have H1 : Hid (pBeforeR ⟨set, fs⟩ r ⟨set2, fs2⟩ o = (0, M2.2)) := hid (by rw [HP2.out, if_neg (fun h => h e1), if_pos e2])
            have ht : (M2.2 != 0) = true := by rw [bne_iff_ne]; exact e2
            clear HP2 e2
            go_wp2_with fail
            refine wp_loop_rounds 3 ?_
            rw [rounds_succ]
            go_wp2_with fail
            rw [rounds_succ]
            go_wp2_with fail
            rw [rounds_succ]
            go_wp2_with (first | (go_at_call 18; refine (pMeans_any _ _ _ _ _ _ ?_).mono ?_; (focus (first | (refine (hA.below ?_).more ?_; (repeat' (first | (with_reducible exact Below.refl _ _) | (with_reducible assumption) | (with_reducible refine Below.drew ?_) | (with_reducible refine below_drewN ?_ _) | (with_reducible refine Below.setCell ?_ ?_ _) | (with_reducible refine Below.alloc ?_ ?_ _) | go_size | (exact Below.size (by assumption)) | (refine Below.trans ?_ (Below.mono (by assumption) ?_))))) | (refine (hA2.below ?_).more ?_; (repeat' (first | (with_reducible exact Below.refl _ _) | (with_reducible assumption) | (with_reducible refine Below.drew ?_) | (with_reducible refine below_drewN ?_ _) | (with_reducible refine Below.setCell ?_ ?_ _) | (with_reducible refine Below.alloc ?_ ?_ _) | go_size | (exact Below.size (by assumption)) | (refine Below.trans ?_ (Below.mono (by assumption) ?_))))))); (try rw [HM1.out]); (try rw [HM2.out]); rintro e w4 ⟨rfl, hb4⟩; (first | replace hb4 := Below.un1 hb4 | replace hb4 := Below.un2 hb4 | skip); obtain ⟨hc4, hf4, hl4, hm4, hw4⟩ := bcell hb4; have hz4 := hb4.size; (try simp only [World.size_alloc, World.size_setCell] at hz4); have m5 := hl4 w.heap.size (by first | assumption | (simp; omega)); have m6 := hl4 (w.heap.size + 1) (by first | assumption | (simp; omega))))
            simp [bodyPost, results, Try.results23, go_sem, H1.out, *]
            (repeat' (first | (with_reducible exact Below.refl _ _) | (with_reducible assumption) | (with_reducible refine Below.drew ?_) | (with_reducible refine below_drewN ?_ _) | (with_reducible refine Below.setCell ?_ ?_ _) | (with_reducible refine Below.alloc ?_ ?_ _) | go_size | (exact Below.size (by assumption)) | (refine Below.trans ?_ (Below.mono (by assumption) ?_))))
        · have H1 : Hid (pBeforeR ⟨set, fs⟩ r ⟨set2, fs2⟩ o = (0, M1.2)) := hid (by rw [HP2.out, if_pos e1])
          have ht : (M1.2 != 0) = true := by rw [bne_iff_ne]; exact e1
          clear HP2 e1
          go_wp2_with fail
          refine wp_loop_rounds 3 ?_
          rw [rounds_succ]
          go_wp2_with fail
          rw [rounds_succ]
          go_wp2_with fail
          rw [rounds_succ]
          go_wp2_with (first | (go_at_call 18; refine (pMeans_any _ _ _ _ _ _ ?_).mono ?_; (focus (first | (refine (hA.below ?_).more ?_; (repeat' (first | (with_reducible exact Below.refl _ _) | (with_reducible assumption) | (with_reducible refine Below.drew ?_) | (with_reducible refine below_drewN ?_ _) | (with_reducible refine Below.setCell ?_ ?_ _) | (with_reducible refine Below.alloc ?_ ?_ _) | go_size | (exact Below.size (by assumption)) | (refine Below.trans ?_ (Below.mono (by assumption) ?_))))) | (refine (hA2.below ?_).more ?_; (repeat' (first | (with_reducible exact Below.refl _ _) | (with_reducible assumption) | (with_reducible refine Below.drew ?_) | (with_reducible refine below_drewN ?_ _) | (with_reducible refine Below.setCell ?_ ?_ _) | (with_reducible refine Below.alloc ?_ ?_ _) | go_size | (exact Below.size (by assumption)) | (refine Below.trans ?_ (Below.mono (by assumption) ?_))))))); (try rw [HM1.out]); (try rw [HM2.out]); rintro e w4 ⟨rfl, hb4⟩; (first | replace hb4 := Below.un1 hb4 | replace hb4 := Below.un2 hb4 | skip); obtain ⟨hc4, hf4, hl4, hm4, hw4⟩ := bcell hb4; have hz4 := hb4.size; (try simp only [World.size_alloc, World.size_setCell] at hz4); have m5 := hl4 w.heap.size (by first | assumption | (simp; omega)); have m6 := hl4 (w.heap.size + 1) (by first | assumption | (simp; omega))))
          simp [bodyPost, results, Try.results23, go_sem, H1.out, *]
          (repeat' (first | (with_reducible exact Below.refl _ _) | (with_reducible assumption) | (with_reducible refine Below.drew ?_) | (with_reducible refine below_drewN ?_ _) | (with_reducible refine Below.setCell ?_ ?_ _) | (with_reducible refine Below.alloc ?_ ?_ _) | go_size | (exact Below.size (by assumption)) | (refine Below.trans ?_ (Below.mono (by assumption) ?_))))
      · have H1 : Hid (pBeforeR ⟨set, fs⟩ r ⟨set2, fs2⟩ o = (0, askE ⟨set2, fs2⟩ q)) := hid (by rw [HP.out, if_neg (fun h => h h1), if_pos h2])
        have ht : (askE ⟨set2, fs2⟩ q != 0) = true := by rw [bne_iff_ne]; exact h2
        rw [h1]
        clear h1 h2 HP
        go_wp2_with fail
        refine wp_loop_rounds 3 ?_
        rw [rounds_succ]
        go_wp2_with fail
        rw [rounds_succ]
        go_wp2
        simp [bodyPost, results, Try.results23, go_sem, H1.out, *]
        (repeat' (first | (with_reducible exact Below.refl _ _) | (with_reducible assumption) | (with_reducible refine Below.drew ?_) | (with_reducible refine below_drewN ?_ _) | (with_reducible refine Below.setCell ?_ ?_ _) | (with_reducible refine Below.alloc ?_ ?_ _) | go_size | (exact Below.size (by assumption)) | (refine Below.trans ?_ (Below.mono (by assumption) ?_))))
    · have H1 : Hid (pBeforeR ⟨set, fs⟩ r ⟨set2, fs2⟩ o = (0, checkE ⟨set, fs⟩)) := hid (by rw [HP.out, if_pos h1])
      have ht : (checkE ⟨set, fs⟩ != 0) = true := by rw [bne_iff_ne]; exact h1
      clear h1 HP
      go_wp2_with fail
      refine wp_loop_rounds 3 ?_
      rw [rounds_succ]
      go_wp2
      simp [bodyPost, results, Try.results23, go_sem, H1.out, *]
      (repeat' (first | (with_reducible exact Below.refl _ _) | (with_reducible assumption) | (with_reducible refine Below.drew ?_) | (with_reducible refine below_drewN ?_ _) | (with_reducible refine Below.setCell ?_ ?_ _) | (with_reducible refine Below.alloc ?_ ?_ _) | go_size | (exact Below.size (by assumption)) | (refine Below.trans ?_ (Below.mono (by assumption) ?_))))
end Go.Proofs.Ytnkbcapikenbbaa
