/- What clavendierref01's Before returns, for any two clocks. -/
import Derived.Test.YtjkajcpanhlbkaaR6
import Derived.Test.YtjkajcpanhlbkaaD3
namespace Go.Proofs.Ytjkajcpanhlbkaa
set_option linter.unusedSimpArgs false
set_option linter.unusedVariables false
open Go.RowKit
attribute [local go_sem high] cell_set_wr
attribute [local go_sem low] cell_wr frozen_wr
attribute [local go_sem] wr_set wr_drew wr_drewN wr_alloc wr_new

theorem means_code {c : Ck} {r : Int} (h1 : c.ok = true) (h2 : isReadingB r = true) : (pMeansR c r).2 = 0 ∨ (pMeansR c r).2 = 4 := by
  have h : askE c (isReadingB r) = 0 := by simp [askE, h1, h2]
  unfold pMeansR
  rw [if_pos h]
  unfold rcOut
  split
  · exact .inl rfl
  · exact .inr rfl

set_option maxRecDepth 100000 in
set_option maxHeartbeats 4000000 in
theorem rBefore_any (set : Int) (A : Option Addr) (cap : Nat) (fs : List Fr) (r : Int) (set2 : Int) (A2 : Option Addr) (cap2 : Nat) (fs2 : List Fr) (o : Int) (w : World) (hA : Arr w w.heap.size A (frosts fs)) (hA2 : Arr w w.heap.size A2 (frosts fs2)) :
    Calls Try.prog 24 #[.agg #[.int .i64 set, .slice A fs.length cap], .int .i64 r, .agg #[.int .i64 set2, .slice A2 fs2.length cap2], .int .i64 o] w fun e w' =>
      e = .returned (.tuple #[.int .i64 (pBeforeR ⟨set, fs⟩ r ⟨set2, fs2⟩ o).1, .int .i64 (pBeforeR ⟨set, fs⟩ r ⟨set2, fs2⟩ o).2]) ∧ Below w.heap.size w w' := by
  have HP : Hid (pBeforeR ⟨set, fs⟩ r ⟨set2, fs2⟩ o = if checkE ⟨set, fs⟩ ≠ 0 then (0, checkE ⟨set, fs⟩) else if askE ⟨set2, fs2⟩ (isReadingB r && isReadingB o) ≠ 0 then (0, askE ⟨set2, fs2⟩ (isReadingB r && isReadingB o))
    else if (pMeansR ⟨set, fs⟩ r).2 ≠ 0 then (0, (pMeansR ⟨set, fs⟩ r).2) else if (pMeansR ⟨set2, fs2⟩ o).2 ≠ 0 then (0, (pMeansR ⟨set2, fs2⟩ o).2)
    else if (pMeansR ⟨set, fs⟩ r).1.hi < (pMeansR ⟨set2, fs2⟩ o).1.lo then (2, 0) else if (pMeansR ⟨set2, fs2⟩ o).1.hi ≤ (pMeansR ⟨set, fs⟩ r).1.lo then (0, 0) else (1, 0)) := hid rfl
  by_cases h1 : checkE ⟨set, fs⟩ = 0
  · have HP1 : Hid (pBeforeR ⟨set, fs⟩ r ⟨set2, fs2⟩ o = if askE ⟨set2, fs2⟩ (isReadingB r && isReadingB o) ≠ 0 then (0, askE ⟨set2, fs2⟩ (isReadingB r && isReadingB o))
      else if (pMeansR ⟨set, fs⟩ r).2 ≠ 0 then (0, (pMeansR ⟨set, fs⟩ r).2) else if (pMeansR ⟨set2, fs2⟩ o).2 ≠ 0 then (0, (pMeansR ⟨set2, fs2⟩ o).2)
      else if (pMeansR ⟨set, fs⟩ r).1.hi < (pMeansR ⟨set2, fs2⟩ o).1.lo then (2, 0) else if (pMeansR ⟨set2, fs2⟩ o).1.hi ≤ (pMeansR ⟨set, fs⟩ r).1.lo then (0, 0) else (1, 0)) := hid (by rw [HP.out, if_neg (fun h => h h1)])
    have hok1 : Hid (Ck.ok ⟨set, fs⟩ = true) := hid (by unfold checkE at h1; revert h1; cases Ck.ok ⟨set, fs⟩ <;> simp)
    clear HP
    go_enter Try.func24, Try.ntmps24
    go_wp2_with (go_at_call 17; refine (rCheck_any set A cap fs _ ?_).mono ?_; (focus (refine (hA.below ?_).more ?_; (repeat' (first | (with_reducible exact Below.refl _ _) | (with_reducible assumption) | (with_reducible refine Below.drew ?_) | (with_reducible refine below_drewN ?_ _) | (with_reducible refine Below.setCell ?_ ?_ _) | (with_reducible refine Below.alloc ?_ ?_ _) | go_size | (exact Below.size (by assumption)) | (refine Below.trans ?_ (Below.mono (by assumption) ?_)))))); rw [h1]; rintro e w1 ⟨rfl, hb1⟩; (first | replace hb1 := Below.un1 hb1 | replace hb1 := Below.un2 hb1 | skip); obtain ⟨hc1, hf1, hl1, hm1, hw1⟩ := bcell hb1; have hz1 := hb1.size; (try simp only [World.size_alloc, World.size_setCell] at hz1); have n1 : w.heap.size < w1.heap.size := (by omega); have n2 : w.heap.size + 1 < w1.heap.size := (by omega))
    have x0 : w1.cell? ⟨w.heap.size, 0, none⟩ = some (.int .i64 set) := by (first | (simp [go_sem, wr_set, wr_drew, wr_drewN, wr_alloc, wr_new]; done) | (simp [go_sem, wr_set, wr_drew, wr_drewN, wr_alloc, wr_new, *]; done) | (simp (disch := go_size) [go_sem, wr_set, wr_drew, wr_drewN, wr_alloc, wr_new, *]; done))
    have x1 : w1.cell? ⟨w.heap.size, 1, none⟩ = some (.slice A fs.length cap) := by (first | (simp [go_sem, wr_set, wr_drew, wr_drewN, wr_alloc, wr_new]; done) | (simp [go_sem, wr_set, wr_drew, wr_drewN, wr_alloc, wr_new, *]; done) | (simp (disch := go_size) [go_sem, wr_set, wr_drew, wr_drewN, wr_alloc, wr_new, *]; done))
    have x2 : w1.cell? ⟨w.heap.size + 1, 0, none⟩ = some (.int .i64 set2) := by (first | (simp [go_sem, wr_set, wr_drew, wr_drewN, wr_alloc, wr_new]; done) | (simp [go_sem, wr_set, wr_drew, wr_drewN, wr_alloc, wr_new, *]; done) | (simp (disch := go_size) [go_sem, wr_set, wr_drew, wr_drewN, wr_alloc, wr_new, *]; done))
    have x3 : w1.cell? ⟨w.heap.size + 1, 1, none⟩ = some (.slice A2 fs2.length cap2) := by (first | (simp [go_sem, wr_set, wr_drew, wr_drewN, wr_alloc, wr_new]; done) | (simp [go_sem, wr_set, wr_drew, wr_drewN, wr_alloc, wr_new, *]; done) | (simp (disch := go_size) [go_sem, wr_set, wr_drew, wr_drewN, wr_alloc, wr_new, *]; done))
    have yB : Below w.heap.size w w1 := by (repeat' (first | (with_reducible exact Below.refl _ _) | (with_reducible assumption) | (with_reducible refine Below.drew ?_) | (with_reducible refine below_drewN ?_ _) | (with_reducible refine Below.setCell ?_ ?_ _) | (with_reducible refine Below.alloc ?_ ?_ _) | go_size | (exact Below.size (by assumption)) | (refine Below.trans ?_ (Below.mono (by assumption) ?_))))
    clear hc1 hf1 hl1 hm1 hw1 hb1 hz1
    go_cut [11] (fun s w' => s = .int .i64 (askE ⟨set2, fs2⟩ (isReadingB r && isReadingB o)) ∧ w'.cell? ⟨w.heap.size, 0, none⟩ = some (.int .i64 set) ∧ w'.cell? ⟨w.heap.size, 1, none⟩ = some (.slice A fs.length cap) ∧ w'.cell? ⟨w.heap.size + 1, 0, none⟩ = some (.int .i64 set2) ∧ w'.cell? ⟨w.heap.size + 1, 1, none⟩ = some (.slice A2 fs2.length cap2) ∧ w.heap.size + 1 < w'.heap.size ∧ Below w.heap.size w w')
    case first =>
      obtain ⟨ba, hba⟩ : ∃ b, isReadingB r = b := ⟨_, rfl⟩
      have HBA := hid hba
      refine wp_region_drew (by kernel_rfl) ?_
      refine lin_any [8] 60 (passF set2 A2 fs2.length cap2 fs2 r o ba) (fun w' => w'.cell? ⟨w.heap.size, 0, none⟩ = some (.int .i64 set) ∧ w'.cell? ⟨w.heap.size, 1, none⟩ = some (.slice A fs.length cap) ∧ w'.cell? ⟨w.heap.size + 1, 0, none⟩ = some (.int .i64 set2) ∧ w'.cell? ⟨w.heap.size + 1, 1, none⟩ = some (.slice A2 fs2.length cap2) ∧ w.heap.size + 1 < w'.heap.size ∧ Below w.heap.size w w') (fun w1 w2 => Below w1.heap.size w1 w2)
        [0, 1, 2, 3, 4, 5, 6, 7, 8, 9, 10, 11, 12, 13, 14, 15, 16, 17, 18, 19, 20, 29, 30, 31, 32, 33, 34, 35, 36, 37, 38, 39, 40, 41, 42, 43, 44, 45, 46, 47, 48, 49, 50, 51, 52, 53, 54, 55, 56, 57, 58, 59] #[true, true, true, true, true, true, true, true, false] [0, 1, 2, 3, 4, 5, 6, 7] (by kernel_rfl) (by kernel_rfl) (by kernel_rfl) (by kernel_rfl) (by kernel_rfl) (by kernel_rfl) (by kernel_rfl) (by kernel_rfl) (by kernel_rfl) (by kernel_rfl)
        (passF_stable _ _ _ _ _ _ _ _) (by rfl) ⟨x0, x1, x2, x3, n2, by (repeat' (first | (with_reducible exact Below.refl _ _) | (with_reducible assumption) | (with_reducible refine Below.drew ?_) | (with_reducible refine below_drewN ?_ _) | (with_reducible refine Below.setCell ?_ ?_ _) | (with_reducible refine Below.alloc ?_ ?_ _) | go_size | (exact Below.size (by assumption)) | (refine Below.trans ?_ (Below.mono (by assumption) ?_))))⟩ ?_ ?_
      · intro a' w' hd hsz hkn hT
        obtain ⟨xs, D⟩ := a'; obtain ⟨l0⟩ := xs; dsimp only at hd hsz hkn; subst hd; have hs0 := hsz; clear hsz; simp only [List.size_toArray] at hs0; obtain ⟨x0, x1, x2, x3, x4, x5, x6, x7, x8, x9, l1, rfl, hs1⟩ := len_ten hs0; clear hs0; obtain ⟨x10, x11, x12, x13, x14, x15, x16, x17, x18, x19, l2, rfl, hs2⟩ := len_ten hs1; clear hs1; obtain ⟨x20, x21, x22, x23, x24, x25, x26, x27, x28, x29, l3, rfl, hs3⟩ := len_ten hs2; clear hs2; obtain ⟨x30, x31, x32, x33, x34, x35, x36, x37, x38, x39, l4, rfl, hs4⟩ := len_ten hs3; clear hs3; obtain ⟨x40, x41, x42, x43, x44, x45, x46, x47, x48, x49, l5, rfl, hs5⟩ := len_ten hs4; clear hs4; obtain ⟨x50, x51, x52, x53, x54, x55, x56, x57, x58, x59, l6, rfl, hs6⟩ := len_ten hs5; clear hs5; obtain rfl := List.length_eq_zero_iff.1 hs6; clear hs6; have kn := known_list hkn; clear hkn; simp only [List.map_cons, List.map_nil, List.getElem?_toArray, List.getElem?_cons_succ, List.getElem?_cons_zero, Array.getD_eq_getD_getElem?, Option.getD_some, List.cons.injEq, Option.some.injEq, and_true] at kn; obtain ⟨rfl, rfl, rfl, rfl, rfl, rfl, rfl, rfl, rfl, rfl, rfl, rfl, rfl, rfl, rfl, rfl, rfl, rfl, rfl, rfl, rfl, rfl, rfl, rfl, rfl, rfl, rfl, rfl, rfl, rfl, rfl, rfl, rfl, rfl, rfl, rfl, rfl, rfl, rfl, rfl, rfl, rfl, rfl, rfl, rfl, rfl, rfl, rfl, rfl, rfl, rfl, rfl⟩ := kn
        obtain ⟨t0, t1, t2, t3, t4, hTB⟩ := hT
        have hT : w'.cell? ⟨w.heap.size, 0, none⟩ = some (.int .i64 set) ∧ w'.cell? ⟨w.heap.size, 1, none⟩ = some (.slice A fs.length cap) ∧ w'.cell? ⟨w.heap.size + 1, 0, none⟩ = some (.int .i64 set2) ∧ w'.cell? ⟨w.heap.size + 1, 1, none⟩ = some (.slice A2 fs2.length cap2) ∧ w.heap.size + 1 < w'.heap.size ∧ Below w.heap.size w w' := ⟨t0, t1, t2, t3, t4, hTB⟩
        refine LinOps.cons (by simp only [List.getElem?_toArray, List.getElem?_cons_succ, List.getElem?_cons_zero]; rfl) (fun hk K hK => ?_) ?_
        · go_simp
          exact hK.out _ _ _ rfl rfl hT (Below.refl _ _)
        refine LinOps.cons (by simp only [List.getElem?_toArray, List.getElem?_cons_succ, List.getElem?_cons_zero]; rfl) (fun hk K hK => ?_) ?_
        · go_simp
          exact hK.out _ _ _ rfl rfl hT (Below.refl _ _)
        refine LinOps.cons (by simp only [List.getElem?_toArray, List.getElem?_cons_succ, List.getElem?_cons_zero]; rfl) (fun hk K hK => ?_) ?_
        · (obtain ⟨v, hv, hf⟩ := Known.get (hk 1 (by kernel_rfl) (by simp)) (d := 22) (by kernel_rfl); simp only [List.getElem?_toArray, List.getElem?_cons_succ, List.getElem?_cons_zero, Option.some.injEq] at hv; subst hv; simp only [passF] at hf; (try subst hf))
          go_simp
          go_at_call 64; refine (rIsReading_any _ _).mono ?_
          rintro e w1 ⟨rfl, rfl⟩
          exact hK.out _ _ _ rfl (by simp only [passF, HBA.out]) hT (Below.refl _ _)
        refine LinOps.cons (by simp only [List.getElem?_toArray, List.getElem?_cons_succ, List.getElem?_cons_zero]; rfl) (fun hk K hK => ?_) ?_
        · (obtain ⟨v, hv, hf⟩ := Known.get (hk 2 (by kernel_rfl) (by simp)) (d := 23) (by kernel_rfl); simp only [List.getElem?_toArray, List.getElem?_cons_succ, List.getElem?_cons_zero, Option.some.injEq] at hv; subst hv; simp only [passF] at hf; (try subst hf))
          go_simp
          exact hK.out _ _ _ rfl rfl hT (Below.refl _ _)
        refine LinOps.cons (by simp only [List.getElem?_toArray, List.getElem?_cons_succ, List.getElem?_cons_zero]; rfl) (fun hk K hK => ?_) ?_
        · (obtain ⟨v, hv, hf⟩ := Known.get (hk 3 (by kernel_rfl) (by simp)) (d := 24) (by kernel_rfl); simp only [List.getElem?_toArray, List.getElem?_cons_succ, List.getElem?_cons_zero, Option.some.injEq] at hv; subst hv; simp only [passF] at hf; (try subst hf))
          cases ba
          · go_simp
            exact hK.out _ _ _ rfl rfl hT (Below.refl _ _)
          · go_simp
            exact hK.out _ _ _ rfl rfl hT (Below.refl _ _)
        refine LinOps.cons (by simp only [List.getElem?_toArray, List.getElem?_cons_succ, List.getElem?_cons_zero]; rfl) (fun hk K hK => ?_) ?_
        · (obtain ⟨v, hv, hf⟩ := Known.get (hk 3 (by kernel_rfl) (by simp)) (d := 24) (by kernel_rfl); simp only [List.getElem?_toArray, List.getElem?_cons_succ, List.getElem?_cons_zero, Option.some.injEq] at hv; subst hv; simp only [passF] at hf; (try subst hf)); (obtain ⟨v, hv, hf⟩ := Known.get (hk 4 (by kernel_rfl) (by simp)) (d := 25) (by kernel_rfl); simp only [List.getElem?_toArray, List.getElem?_cons_succ, List.getElem?_cons_zero, Option.some.injEq] at hv; subst hv; simp only [passF] at hf; (try subst hf))
          cases ba
          · go_simp
            exact hK.out _ _ _ rfl rfl hT (Below.refl _ _)
          · go_simp
            go_at_call 64; refine (rIsReading_any _ _).mono ?_
            rintro e w1 ⟨rfl, rfl⟩
            exact hK.out _ _ _ rfl rfl hT (Below.refl _ _)
        refine LinOps.cons (by simp only [List.getElem?_toArray, List.getElem?_cons_succ, List.getElem?_cons_zero]; rfl) (fun hk K hK => ?_) ?_
        · (obtain ⟨v, hv, hf⟩ := Known.get (hk 3 (by kernel_rfl) (by simp)) (d := 24) (by kernel_rfl); simp only [List.getElem?_toArray, List.getElem?_cons_succ, List.getElem?_cons_zero, Option.some.injEq] at hv; subst hv; simp only [passF] at hf; (try subst hf)); (obtain ⟨v, hv, hf⟩ := Known.get (hk 5 (by kernel_rfl) (by simp)) (d := 26) (by kernel_rfl); simp only [List.getElem?_toArray, List.getElem?_cons_succ, List.getElem?_cons_zero, Option.some.injEq] at hv; subst hv; simp only [passF] at hf; (try subst hf))
          cases ba
          · go_simp
            exact hK.out _ _ _ rfl rfl hT (Below.refl _ _)
          · go_simp
            exact hK.out _ _ _ rfl rfl hT (Below.refl _ _)
        refine LinOps.cons (by simp only [List.getElem?_toArray, List.getElem?_cons_succ, List.getElem?_cons_zero]; rfl) (fun hk K hK => ?_) ?_
        · (obtain ⟨v, hv, hf⟩ := Known.get (hk 0 (by kernel_rfl) (by simp)) (d := 21) (by kernel_rfl); simp only [List.getElem?_toArray, List.getElem?_cons_succ, List.getElem?_cons_zero, Option.some.injEq] at hv; subst hv; simp only [passF] at hf; (try subst hf)); (obtain ⟨v, hv, hf⟩ := Known.get (hk 6 (by kernel_rfl) (by simp)) (d := 27) (by kernel_rfl); simp only [List.getElem?_toArray, List.getElem?_cons_succ, List.getElem?_cons_zero, Option.some.injEq] at hv; subst hv; simp only [passF] at hf; (try subst hf))
          go_simp
          go_at_call 58; refine (asked_any set2 A2 cap2 fs2 _ _ ((hA2.below hTB).more hTB.size)).mono ?_
          rintro e w1 ⟨rfl, h1⟩
          exact hK.out _ _ _ rfl rfl ⟨(h1.cell (by simp only; omega)).trans t0, (h1.cell (by simp only; omega)).trans t1, (h1.cell (by simp only; omega)).trans t2, (h1.cell (by simp only; omega)).trans t3, Nat.lt_of_lt_of_le t4 h1.size, hTB.trans (h1.mono hTB.size)⟩ h1
        exact LinOps.nil
      · intro a' w' hd hsz hkn hT hall
        obtain ⟨xs, D⟩ := a'; obtain ⟨l0⟩ := xs; dsimp only at hd hsz hkn; subst hd; have hs0 := hsz; clear hsz; simp only [List.size_toArray] at hs0; obtain ⟨x0, x1, x2, x3, x4, x5, x6, x7, x8, x9, l1, rfl, hs1⟩ := len_ten hs0; clear hs0; obtain ⟨x10, x11, x12, x13, x14, x15, x16, x17, x18, x19, l2, rfl, hs2⟩ := len_ten hs1; clear hs1; obtain ⟨x20, x21, x22, x23, x24, x25, x26, x27, x28, x29, l3, rfl, hs3⟩ := len_ten hs2; clear hs2; obtain ⟨x30, x31, x32, x33, x34, x35, x36, x37, x38, x39, l4, rfl, hs4⟩ := len_ten hs3; clear hs3; obtain ⟨x40, x41, x42, x43, x44, x45, x46, x47, x48, x49, l5, rfl, hs5⟩ := len_ten hs4; clear hs4; obtain ⟨x50, x51, x52, x53, x54, x55, x56, x57, x58, x59, l6, rfl, hs6⟩ := len_ten hs5; clear hs5; obtain rfl := List.length_eq_zero_iff.1 hs6; clear hs6; have kn := known_list hkn; clear hkn; simp only [List.map_cons, List.map_nil, List.getElem?_toArray, List.getElem?_cons_succ, List.getElem?_cons_zero, Array.getD_eq_getD_getElem?, Option.getD_some, List.cons.injEq, Option.some.injEq, and_true] at kn; obtain ⟨rfl, rfl, rfl, rfl, rfl, rfl, rfl, rfl, rfl, rfl, rfl, rfl, rfl, rfl, rfl, rfl, rfl, rfl, rfl, rfl, rfl, rfl, rfl, rfl, rfl, rfl, rfl, rfl, rfl, rfl, rfl, rfl, rfl, rfl, rfl, rfl, rfl, rfl, rfl, rfl, rfl, rfl, rfl, rfl, rfl, rfl, rfl, rfl, rfl, rfl, rfl, rfl⟩ := kn
        (obtain ⟨v, hv, hf⟩ := Known.get (hall 7 (by kernel_rfl) ) (d := 28) (by kernel_rfl); simp only [List.getElem?_toArray, List.getElem?_cons_succ, List.getElem?_cons_zero, Option.some.injEq] at hv; subst hv; simp only [passF] at hf; (try subst hf))
        clear hall
        refine wpAny_ready (rs := [8]) (by kernel_rfl) (by simp) ?_; refine AllReady.cons (by simp only [List.getElem?_toArray, List.getElem?_cons_succ, List.getElem?_cons_zero]; rfl) (fun K hK => ?_) AllReady.nil
        go_simp
        refine hK _ _ ?_
        (try simp only [Act.put, List.setIfInBounds_toArray, List.set_cons_zero, List.set_cons_succ])
        clear hK K
        refine wpAny_done (by kernel_rfl) ?_ _
        go_wp2_with fail
        go_meet
        refine ⟨?_, hT⟩
        rw [HBA.out]
    case rest =>
      obtain ⟨rfl, y0, y1, y2, y3, y4, hB⟩ := hcut
      have y5 : w.heap.size < wc.heap.size := by omega
      clear x0 x1 x2 x3 n1 n2 yB
      by_cases h2 : askE ⟨set2, fs2⟩ (isReadingB r && isReadingB o) = 0
      · have hok2 : Ck.ok ⟨set2, fs2⟩ = true ∧ isReadingB r = true ∧ isReadingB o = true := by
          unfold askE at h2
          revert h2
          cases Ck.ok ⟨set2, fs2⟩ <;> cases isReadingB r <;> cases isReadingB o <;> simp
        have HP2 : Hid (pBeforeR ⟨set, fs⟩ r ⟨set2, fs2⟩ o = if (pMeansR ⟨set, fs⟩ r).2 ≠ 0 then (0, (pMeansR ⟨set, fs⟩ r).2) else if (pMeansR ⟨set2, fs2⟩ o).2 ≠ 0 then (0, (pMeansR ⟨set2, fs2⟩ o).2)
          else if (pMeansR ⟨set, fs⟩ r).1.hi < (pMeansR ⟨set2, fs2⟩ o).1.lo then (2, 0) else if (pMeansR ⟨set2, fs2⟩ o).1.hi ≤ (pMeansR ⟨set, fs⟩ r).1.lo then (0, 0) else (1, 0)) := hid (by rw [HP1.out, if_neg (fun h => h h2)])
        have k1 := means_code hok1.out hok2.2.1
        have k2 := means_code hok2.1 hok2.2.2
        clear HP1 hok2
        have q1 := pMeans_eq ⟨set, fs⟩ r
        have q2 := pMeans_eq ⟨set2, fs2⟩ o
        have HQ1 := hid q1
        have HQ2 := hid q2
        clear q1 q2
        generalize pMeansR ⟨set, fs⟩ r = M1 at *
        generalize pMeansR ⟨set2, fs2⟩ o = M2 at *
        obtain ⟨S1, e1⟩ := M1
        obtain ⟨S2, e2⟩ := M2
        simp only at k1 k2 HP2
        rw [h2]
        have ARM1 : ∀ W : World, Arr W W.heap.size A (frosts fs) → Calls Try.prog 19 #[.agg #[.int .i64 set, .slice A fs.length cap], .int .i64 r] W fun e w' => e = .returned (.tuple #[.agg #[.int .i64 S1.lo, .int .i64 S1.hi], .int .i64 e1]) ∧ Below W.heap.size W w' := fun W h => by
          have := rMeans_any set A cap fs r W h
          rw [← HQ1.out] at this
          exact this
        have ARM2 : ∀ W : World, Arr W W.heap.size A2 (frosts fs2) → Calls Try.prog 19 #[.agg #[.int .i64 set2, .slice A2 fs2.length cap2], .int .i64 o] W fun e w' => e = .returned (.tuple #[.agg #[.int .i64 S2.lo, .int .i64 S2.hi], .int .i64 e2]) ∧ Below W.heap.size W w' := fun W h => by
          have := rMeans_any set2 A2 cap2 fs2 o W h
          rw [← HQ2.out] at this
          exact this
        have HA1 := hid ARM1
        have HA2 := hid ARM2
        clear ARM1 ARM2 HQ1 HQ2
        have hAc : Arr wc wc.heap.size A (frosts fs) := (hA.below hB).more hB.size
        have hA2c : Arr wc wc.heap.size A2 (frosts fs2) := (hA2.below hB).more hB.size
        rcases k1 with rfl | rfl
        · rcases k2 with rfl | rfl
          · by_cases g1 : S1.hi < S2.lo
            · have t1 : decide (S1.hi < S2.lo) = true := decide_eq_true g1
              have H1 : Hid (pBeforeR ⟨set, fs⟩ r ⟨set2, fs2⟩ o = (2, 0)) := hid (by rw [HP2.out]; simp [g1])
              clear HP2
              clear g1
              go_wp2_with (first
                | (go_at_call 19; refine (HA1.out _ ?_).mono ?_; (focus (refine (hAc.below ?_).more ?_; (repeat' (first | (with_reducible exact Below.refl _ _) | (with_reducible assumption) | (with_reducible refine Below.drew ?_) | (with_reducible refine below_drewN ?_ _) | (with_reducible refine Below.setCell ?_ ?_ _) | (with_reducible refine Below.alloc ?_ ?_ _) | go_size | (exact Below.size (by assumption)) | (refine Below.trans ?_ (Below.mono (by assumption) ?_)))))); rintro e w2 ⟨rfl, hb2⟩; (first | replace hb2 := Below.un1 hb2 | replace hb2 := Below.un2 hb2 | skip); obtain ⟨hc2, hf2, hl2, hm2, hw2⟩ := bcell hb2; have hz2 := hb2.size; (try simp only [World.size_alloc, World.size_setCell] at hz2); have n2 : w.heap.size < w2.heap.size := (by omega); have n3 : w.heap.size + 1 < w2.heap.size := (by omega); clear HA1)
                | (go_at_call 19; refine (HA2.out _ ?_).mono ?_; (focus (refine (hA2c.below ?_).more ?_; (repeat' (first | (with_reducible exact Below.refl _ _) | (with_reducible assumption) | (with_reducible refine Below.drew ?_) | (with_reducible refine below_drewN ?_ _) | (with_reducible refine Below.setCell ?_ ?_ _) | (with_reducible refine Below.alloc ?_ ?_ _) | go_size | (exact Below.size (by assumption)) | (refine Below.trans ?_ (Below.mono (by assumption) ?_)))))); rintro e w3 ⟨rfl, hb3⟩; (first | replace hb3 := Below.un1 hb3 | replace hb3 := Below.un2 hb3 | skip); obtain ⟨hc3, hf3, hl3, hm3, hw3⟩ := bcell hb3; have hz3 := hb3.size; (try simp only [World.size_alloc, World.size_setCell] at hz3); have n4 : w2.heap.size < w3.heap.size := (by omega)))
              simp [bodyPost, results, Try.results24, go_sem, H1.out, *]
              (repeat' (first | (with_reducible exact Below.refl _ _) | (with_reducible assumption) | (with_reducible refine Below.drew ?_) | (with_reducible refine below_drewN ?_ _) | (with_reducible refine Below.setCell ?_ ?_ _) | (with_reducible refine Below.alloc ?_ ?_ _) | go_size | (exact Below.size (by assumption)) | (refine Below.trans ?_ (Below.mono (by assumption) ?_))))
            · have t1 : decide (S1.hi < S2.lo) = false := decide_eq_false g1
              by_cases g2 : S2.hi ≤ S1.lo
              · have t2 : decide (S1.lo < S2.hi) = false := decide_eq_false (by omega)
                have H1 : Hid (pBeforeR ⟨set, fs⟩ r ⟨set2, fs2⟩ o = (0, 0)) := hid (by rw [HP2.out]; simp [g1, g2])
                clear HP2
                clear g1 g2
                go_wp2_with (first
                  | (go_at_call 19; refine (HA1.out _ ?_).mono ?_; (focus (refine (hAc.below ?_).more ?_; (repeat' (first | (with_reducible exact Below.refl _ _) | (with_reducible assumption) | (with_reducible refine Below.drew ?_) | (with_reducible refine below_drewN ?_ _) | (with_reducible refine Below.setCell ?_ ?_ _) | (with_reducible refine Below.alloc ?_ ?_ _) | go_size | (exact Below.size (by assumption)) | (refine Below.trans ?_ (Below.mono (by assumption) ?_)))))); rintro e w2 ⟨rfl, hb2⟩; (first | replace hb2 := Below.un1 hb2 | replace hb2 := Below.un2 hb2 | skip); obtain ⟨hc2, hf2, hl2, hm2, hw2⟩ := bcell hb2; have hz2 := hb2.size; (try simp only [World.size_alloc, World.size_setCell] at hz2); have n2 : w.heap.size < w2.heap.size := (by omega); have n3 : w.heap.size + 1 < w2.heap.size := (by omega); clear HA1)
                  | (go_at_call 19; refine (HA2.out _ ?_).mono ?_; (focus (refine (hA2c.below ?_).more ?_; (repeat' (first | (with_reducible exact Below.refl _ _) | (with_reducible assumption) | (with_reducible refine Below.drew ?_) | (with_reducible refine below_drewN ?_ _) | (with_reducible refine Below.setCell ?_ ?_ _) | (with_reducible refine Below.alloc ?_ ?_ _) | go_size | (exact Below.size (by assumption)) | (refine Below.trans ?_ (Below.mono (by assumption) ?_)))))); rintro e w3 ⟨rfl, hb3⟩; (first | replace hb3 := Below.un1 hb3 | replace hb3 := Below.un2 hb3 | skip); obtain ⟨hc3, hf3, hl3, hm3, hw3⟩ := bcell hb3; have hz3 := hb3.size; (try simp only [World.size_alloc, World.size_setCell] at hz3); have n4 : w2.heap.size < w3.heap.size := (by omega)))
                simp [bodyPost, results, Try.results24, go_sem, H1.out, *]
                (repeat' (first | (with_reducible exact Below.refl _ _) | (with_reducible assumption) | (with_reducible refine Below.drew ?_) | (with_reducible refine below_drewN ?_ _) | (with_reducible refine Below.setCell ?_ ?_ _) | (with_reducible refine Below.alloc ?_ ?_ _) | go_size | (exact Below.size (by assumption)) | (refine Below.trans ?_ (Below.mono (by assumption) ?_))))
              · have t2 : decide (S1.lo < S2.hi) = true := decide_eq_true (by omega)
                have H1 : Hid (pBeforeR ⟨set, fs⟩ r ⟨set2, fs2⟩ o = (1, 0)) := hid (by rw [HP2.out]; simp [g1, g2])
                clear HP2
                clear g1 g2
                go_wp2_with (first
                  | (go_at_call 19; refine (HA1.out _ ?_).mono ?_; (focus (refine (hAc.below ?_).more ?_; (repeat' (first | (with_reducible exact Below.refl _ _) | (with_reducible assumption) | (with_reducible refine Below.drew ?_) | (with_reducible refine below_drewN ?_ _) | (with_reducible refine Below.setCell ?_ ?_ _) | (with_reducible refine Below.alloc ?_ ?_ _) | go_size | (exact Below.size (by assumption)) | (refine Below.trans ?_ (Below.mono (by assumption) ?_)))))); rintro e w2 ⟨rfl, hb2⟩; (first | replace hb2 := Below.un1 hb2 | replace hb2 := Below.un2 hb2 | skip); obtain ⟨hc2, hf2, hl2, hm2, hw2⟩ := bcell hb2; have hz2 := hb2.size; (try simp only [World.size_alloc, World.size_setCell] at hz2); have n2 : w.heap.size < w2.heap.size := (by omega); have n3 : w.heap.size + 1 < w2.heap.size := (by omega); clear HA1)
                  | (go_at_call 19; refine (HA2.out _ ?_).mono ?_; (focus (refine (hA2c.below ?_).more ?_; (repeat' (first | (with_reducible exact Below.refl _ _) | (with_reducible assumption) | (with_reducible refine Below.drew ?_) | (with_reducible refine below_drewN ?_ _) | (with_reducible refine Below.setCell ?_ ?_ _) | (with_reducible refine Below.alloc ?_ ?_ _) | go_size | (exact Below.size (by assumption)) | (refine Below.trans ?_ (Below.mono (by assumption) ?_)))))); rintro e w3 ⟨rfl, hb3⟩; (first | replace hb3 := Below.un1 hb3 | replace hb3 := Below.un2 hb3 | skip); obtain ⟨hc3, hf3, hl3, hm3, hw3⟩ := bcell hb3; have hz3 := hb3.size; (try simp only [World.size_alloc, World.size_setCell] at hz3); have n4 : w2.heap.size < w3.heap.size := (by omega)))
                simp [bodyPost, results, Try.results24, go_sem, H1.out, *]
                (repeat' (first | (with_reducible exact Below.refl _ _) | (with_reducible assumption) | (with_reducible refine Below.drew ?_) | (with_reducible refine below_drewN ?_ _) | (with_reducible refine Below.setCell ?_ ?_ _) | (with_reducible refine Below.alloc ?_ ?_ _) | go_size | (exact Below.size (by assumption)) | (refine Below.trans ?_ (Below.mono (by assumption) ?_))))
          · have H1 : Hid (pBeforeR ⟨set, fs⟩ r ⟨set2, fs2⟩ o = (0, 4)) := hid (by rw [HP2.out]; simp)
            clear HP2
            go_wp2_with (first
              | (go_at_call 19; refine (HA1.out _ ?_).mono ?_; (focus (refine (hAc.below ?_).more ?_; (repeat' (first | (with_reducible exact Below.refl _ _) | (with_reducible assumption) | (with_reducible refine Below.drew ?_) | (with_reducible refine below_drewN ?_ _) | (with_reducible refine Below.setCell ?_ ?_ _) | (with_reducible refine Below.alloc ?_ ?_ _) | go_size | (exact Below.size (by assumption)) | (refine Below.trans ?_ (Below.mono (by assumption) ?_)))))); rintro e w2 ⟨rfl, hb2⟩; (first | replace hb2 := Below.un1 hb2 | replace hb2 := Below.un2 hb2 | skip); obtain ⟨hc2, hf2, hl2, hm2, hw2⟩ := bcell hb2; have hz2 := hb2.size; (try simp only [World.size_alloc, World.size_setCell] at hz2); have n2 : w.heap.size < w2.heap.size := (by omega); have n3 : w.heap.size + 1 < w2.heap.size := (by omega); clear HA1)
              | (go_at_call 19; refine (HA2.out _ ?_).mono ?_; (focus (refine (hA2c.below ?_).more ?_; (repeat' (first | (with_reducible exact Below.refl _ _) | (with_reducible assumption) | (with_reducible refine Below.drew ?_) | (with_reducible refine below_drewN ?_ _) | (with_reducible refine Below.setCell ?_ ?_ _) | (with_reducible refine Below.alloc ?_ ?_ _) | go_size | (exact Below.size (by assumption)) | (refine Below.trans ?_ (Below.mono (by assumption) ?_)))))); rintro e w3 ⟨rfl, hb3⟩; (first | replace hb3 := Below.un1 hb3 | replace hb3 := Below.un2 hb3 | skip); obtain ⟨hc3, hf3, hl3, hm3, hw3⟩ := bcell hb3; have hz3 := hb3.size; (try simp only [World.size_alloc, World.size_setCell] at hz3); have n4 : w2.heap.size < w3.heap.size := (by omega)))
            simp [bodyPost, results, Try.results24, go_sem, H1.out, *]
            (repeat' (first | (with_reducible exact Below.refl _ _) | (with_reducible assumption) | (with_reducible refine Below.drew ?_) | (with_reducible refine below_drewN ?_ _) | (with_reducible refine Below.setCell ?_ ?_ _) | (with_reducible refine Below.alloc ?_ ?_ _) | go_size | (exact Below.size (by assumption)) | (refine Below.trans ?_ (Below.mono (by assumption) ?_))))
        · have H1 : Hid (pBeforeR ⟨set, fs⟩ r ⟨set2, fs2⟩ o = (0, 4)) := hid (by rw [HP2.out]; simp)
          clear HP2
          go_wp2_with (first
            | (go_at_call 19; refine (HA1.out _ ?_).mono ?_; (focus (refine (hAc.below ?_).more ?_; (repeat' (first | (with_reducible exact Below.refl _ _) | (with_reducible assumption) | (with_reducible refine Below.drew ?_) | (with_reducible refine below_drewN ?_ _) | (with_reducible refine Below.setCell ?_ ?_ _) | (with_reducible refine Below.alloc ?_ ?_ _) | go_size | (exact Below.size (by assumption)) | (refine Below.trans ?_ (Below.mono (by assumption) ?_)))))); rintro e w2 ⟨rfl, hb2⟩; (first | replace hb2 := Below.un1 hb2 | replace hb2 := Below.un2 hb2 | skip); obtain ⟨hc2, hf2, hl2, hm2, hw2⟩ := bcell hb2; have hz2 := hb2.size; (try simp only [World.size_alloc, World.size_setCell] at hz2); have n2 : w.heap.size < w2.heap.size := (by omega); have n3 : w.heap.size + 1 < w2.heap.size := (by omega); clear HA1)
            | (go_at_call 19; refine (HA2.out _ ?_).mono ?_; (focus (refine (hA2c.below ?_).more ?_; (repeat' (first | (with_reducible exact Below.refl _ _) | (with_reducible assumption) | (with_reducible refine Below.drew ?_) | (with_reducible refine below_drewN ?_ _) | (with_reducible refine Below.setCell ?_ ?_ _) | (with_reducible refine Below.alloc ?_ ?_ _) | go_size | (exact Below.size (by assumption)) | (refine Below.trans ?_ (Below.mono (by assumption) ?_)))))); rintro e w3 ⟨rfl, hb3⟩; (first | replace hb3 := Below.un1 hb3 | replace hb3 := Below.un2 hb3 | skip); obtain ⟨hc3, hf3, hl3, hm3, hw3⟩ := bcell hb3; have hz3 := hb3.size; (try simp only [World.size_alloc, World.size_setCell] at hz3); have n4 : w2.heap.size < w3.heap.size := (by omega)))
          simp [bodyPost, results, Try.results24, go_sem, H1.out, *]
          (repeat' (first | (with_reducible exact Below.refl _ _) | (with_reducible assumption) | (with_reducible refine Below.drew ?_) | (with_reducible refine below_drewN ?_ _) | (with_reducible refine Below.setCell ?_ ?_ _) | (with_reducible refine Below.alloc ?_ ?_ _) | go_size | (exact Below.size (by assumption)) | (refine Below.trans ?_ (Below.mono (by assumption) ?_))))
      · have H1 : Hid (pBeforeR ⟨set, fs⟩ r ⟨set2, fs2⟩ o = (0, askE ⟨set2, fs2⟩ (isReadingB r && isReadingB o))) := hid (by rw [HP1.out, if_pos h2])
        have ht : (askE ⟨set2, fs2⟩ (isReadingB r && isReadingB o) != 0) = true := by rw [bne_iff_ne]; exact h2
        clear HP1 h2
        go_wp2
        simp [bodyPost, results, Try.results24, go_sem, H1.out, *]
        (repeat' (first | (with_reducible exact Below.refl _ _) | (with_reducible assumption) | (with_reducible refine Below.drew ?_) | (with_reducible refine below_drewN ?_ _) | (with_reducible refine Below.setCell ?_ ?_ _) | (with_reducible refine Below.alloc ?_ ?_ _) | go_size | (exact Below.size (by assumption)) | (refine Below.trans ?_ (Below.mono (by assumption) ?_))))
  · have H1 : Hid (pBeforeR ⟨set, fs⟩ r ⟨set2, fs2⟩ o = (0, checkE ⟨set, fs⟩)) := hid (by rw [HP.out, if_pos h1])
    have ht : (checkE ⟨set, fs⟩ != 0) = true := by rw [bne_iff_ne]; exact h1
    clear HP h1
    go_enter Try.func24, Try.ntmps24
    go_wp2_with (go_at_call 17; refine (rCheck_any set A cap fs _ ?_).mono ?_; (focus (refine (hA.below ?_).more ?_; (repeat' (first | (with_reducible exact Below.refl _ _) | (with_reducible assumption) | (with_reducible refine Below.drew ?_) | (with_reducible refine below_drewN ?_ _) | (with_reducible refine Below.setCell ?_ ?_ _) | (with_reducible refine Below.alloc ?_ ?_ _) | go_size | (exact Below.size (by assumption)) | (refine Below.trans ?_ (Below.mono (by assumption) ?_)))))); rintro e w1 ⟨rfl, hb1⟩; (first | replace hb1 := Below.un1 hb1 | replace hb1 := Below.un2 hb1 | skip); obtain ⟨hc1, hf1, hl1, hm1, hw1⟩ := bcell hb1; have hz1 := hb1.size; (try simp only [World.size_alloc, World.size_setCell] at hz1))
    simp [bodyPost, results, Try.results24, go_sem, H1.out, *]
    (repeat' (first | (with_reducible exact Below.refl _ _) | (with_reducible assumption) | (with_reducible refine Below.drew ?_) | (with_reducible refine below_drewN ?_ _) | (with_reducible refine Below.setCell ?_ ?_ _) | (with_reducible refine Below.alloc ?_ ?_ _) | go_size | (exact Below.size (by assumption)) | (refine Below.trans ?_ (Below.mono (by assumption) ?_))))
end Go.Proofs.Ytjkajcpanhlbkaa
