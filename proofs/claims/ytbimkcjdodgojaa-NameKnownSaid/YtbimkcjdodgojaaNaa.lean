/- Name: the line that is paired with a line, and how many are in no pair. -/
import Derived.Test.YtbimkcjdodgojaaNz
namespace Go.Proofs.Ytbimkcjdodgojaa
set_option linter.unusedSimpArgs false
set_option linter.unusedVariables false
open Go Go.RowKit
attribute [local go_sem high] cell_set_wr
attribute [local go_sem low] cell_wr frozen_wr
attribute [local go_sem] wr_set wr_drew wr_drewN wr_alloc wr_new

theorem row_new (w : World) (cs : Array Value) (t : TypeId) : Row (w.alloc (.cells cs t)) w.heap.size cs.toList := (blk_new (N := 0) w cs t (Nat.zero_le _)).row
theorem row_cells {w : World} {G : Nat} {l : List Value} (h : Row w G l) (hG : G < w.heap.size) : Cells w G l := ⟨hG, fun j u hu => (h j u hu).1⟩
theorem matchP_one {t : Prs} {k : Nat} (hk : k < t.length) {l : Nat} (h : l = t[k].1) : matchP (t.drop k) l = t[k].2 := by rw [matchP_drop t k hk, if_pos h]
theorem matchP_two {t : Prs} {k : Nat} (hk : k < t.length) {l : Nat} (h1 : ¬ l = t[k].1) (h : l = t[k].2) : matchP (t.drop k) l = t[k].1 := by rw [matchP_drop t k hk, if_neg h1, if_pos h]
theorem matchP_none {t : Prs} {k : Nat} (hk : k < t.length) {l : Nat} (h1 : ¬ l = t[k].1) (h : ¬ l = t[k].2) : matchP (t.drop k) l = matchP (t.drop (k + 1)) l := by rw [matchP_drop t k hk, if_neg h1, if_neg h]
set_option maxRecDepth 100000 in
set_option maxHeartbeats 1000000 in
theorem match_any (A : Option Addr) (c : Nat) (t : Prs) (l : Nat) (w : World) (hA : Arr w w.heap.size A (pairsV t)) (ht : t.length ≤ 9223372036854775807) : Calls Try.prog 97 #[.slice A t.length c, .int .i64 l] w fun e w' => e = .returned (.agg #[.int .i64 l, .int .i64 (matchP t l)]) ∧ Below w.heap.size w w' := by
 refine enterE Try.func97 rfl Try.ntmps97 (by simp) (fun a hE => ?_); simp only [envOf, Nat.zero_add, Nat.reduceAdd] at hE
 (repeat with_reducible first|refine ctl ?_|refine miss ?_)
 refine Rs 1 fun Q' K hK => ?_
 refine Lp fun K' hK' => ?_
 refine op0 fun ρ qc qf qg => ?_; go_simp; (try clear qc qf qg)
 refine Ln hE hK' fun a_1 hE_1 => ?_; clear hK' K' hE a
 refine late_done [0, 1, 4] hE_1 hK (fun a hE => ?_); clear hK K Q' hE_1; simp only [lk, pick, Nat.reduceEqDiff, ↓reduceIte] at hE
 obtain ⟨R, hRe⟩ : ∃ B, B = w.heap.size := ⟨_, rfl⟩; have hnR : w.heap.size ≤ R := Nat.le_of_eq hRe.symm; rw [← hRe] at hE; refine world_cut (fun wt => Below w.heap.size w wt ∧ R < wt.heap.size ∧ Row wt R [.int .i64 0, .int .i64 0]) ⟨(Below.refl _ _).alloc (Nat.le_refl _) _, by rw [hRe]; simp, by rw [hRe]; exact row_new _ _ _⟩ (fun w1 hCut => ?_); obtain ⟨hbw1, hlR, hRR⟩ := hCut; clear hRe
 (repeat with_reducible first|refine ctl ?_|refine miss ?_)
 refine Rs 3 fun Q' K hK => ?_
 refine Lp fun K' hK' => ?_
 have r0 := hE.at 0 rfl; refine op1 r0 fun ρ qc qf qg q0 => ?_; go_simp; (try clear qc qf qg r0 q0)
 refine Ln hE hK' fun a_1 hE_1 => ?_; clear hK' K' hE a
 refine Lp fun K' hK' => ?_
 have r7 := hE_1.at 7 rfl; refine op1 r7 fun ρ qc qf qg q7 => ?_; go_simp; (try go_bits); (try clear qc qf qg r7 q7)
 refine Ln hE_1 hK' fun a_2 hE_2 => ?_; clear hK' K' hE_1
 refine Lp fun K' hK' => ?_
 refine op0 fun ρ qc qf qg => ?_; go_simp; (try clear qc qf qg)
 refine Ln hE_2 hK' fun a_3 hE_3 => ?_; clear hK' K' hE_2
 refine late_done [1, 4, 7, 8, 9] hE_3 hK (fun a hE => ?_); clear hK K Q' hE_3; simp only [lk, pick, Nat.reduceEqDiff, ↓reduceIte] at hE
 (repeat with_reducible first|refine ctl ?_|refine miss ?_)
 refine loop_st (fun (k : Nat) a w' => k ≤ t.length ∧ Fits 33 [(1, .int .i64 l), (4, .pointer (some ⟨R, 0, none⟩)), (7, .slice A t.length c), (8, .int .i64 t.length), (9, .int .i64 k)] a ∧ Below w.heap.size w w' ∧ (R < w'.heap.size ∧ Row w' R [.int .i64 0, .int .i64 0]) ∧ matchP (t.drop k) l = matchP t l) (fun k => t.length - k) 0 ?_ (fun k a w' hI => ?_)
 ·exact ⟨Nat.zero_le _, by simpa using hE, hbw1, ⟨hlR, hRR⟩, rfl⟩
 clear hE hbw1 hlR hRR
 obtain ⟨hk, hE, hB, ⟨hlR, hRR⟩, hM⟩ := hI
 have HM := hid hM
 clear hM
 (repeat with_reducible first|refine ctl ?_|refine miss ?_)
 refine Rs 1 fun Q' K hK => ?_
 refine Lp fun K' hK' => ?_
 have r9 := hE.at 9 rfl; have r8 := hE.at 8 rfl
 refine op2 r9 r8 fun ρ qc qf qg q9 q8 => ?_; go_simp; (try go_bits); (try clear qc qf qg r9 q9 r8 q8)
 (try clear r9 r8)
 refine Ln hE hK' fun a_1 hE_1 => ?_; clear hK' K' hE a
 refine late_done [1, 4, 7, 8, 9, 10] hE_1 hK (fun a hE => ?_); clear hK K Q' hE_1; simp only [lk, pick, Nat.reduceEqDiff, ↓reduceIte] at hE
 (repeat with_reducible first|refine ctl ?_|refine miss ?_)
 refine cond_part hE (t := 10) rfl (fun h => ?_) (fun h => ?_)
 ·have hlt : k < t.length := by have := of_decide_eq_true h; omega
  clear h
  have hltI : (k : Int) < t.length := by omega
  have hd := matchP_drop t k hlt l
  have HD := hid hd
  clear hd
  obtain ⟨b, o, rfl, hb, c0, c1⟩ := (hA.below hB).pr hlt
  obtain ⟨p, hp⟩ : ∃ p, t[k] = p := ⟨_, rfl⟩
  rw [hp] at c0 c1
  have HP := hid hp
  clear hp
  have hbw : b < w'.heap.size := Nat.lt_of_lt_of_le hb hB.size
  (repeat with_reducible first|refine ctl ?_|refine miss ?_)
  refine Rs 4 fun Q' K hK => ?_
  refine Lp fun K' hK' => ?_
  have r7 := hE.at 7 rfl; have r9 := hE.at 9 rfl
  refine op2 r7 r9 fun ρ qc qf qg q7 q9 => ?_; go_simp; (try go_bits); (try clear qc qf qg r7 q7 r9 q9)
  (try clear r7 r9)
  refine Ln hE hK' fun a_1 hE_1 => ?_; clear hK' K' hE a
  refine Lp fun K' hK' => ?_
  have r11 := hE_1.at 11 rfl; refine op1 r11 fun ρ qc qf qg q11 => ?_; go_simp; (try clear qc qf qg r11 q11)
  refine Ln hE_1 hK' fun a_2 hE_2 => ?_; clear hK' K' hE_1
  refine Lp fun K' hK' => ?_
  refine op0 fun ρ qc qf qg => ?_; go_simp; (try clear qc qf qg)
  refine Ln hE_2 hK' fun a_3 hE_3 => ?_; clear hK' K' hE_2
  refine Lp fun K' hK' => ?_
  have r6 := hE_3.at 6 rfl; have r12 := hE_3.at 12 rfl
  refine op2 r6 r12 fun ρ qc qf qg q6 q12 => ?_; go_simp; (try clear qc qf qg r6 q6 r12 q12)
  (try clear r6 r12)
  refine late_skip hE_3 hK' (fun a_4 hE_4 => ?_); clear hK' K'; clear hE_3
  refine late_done [1, 4, 6, 7, 8, 9] hE_4 hK (fun a hE => ?_); clear hK K Q' hE_4; simp only [lk, pick, Nat.reduceEqDiff, ↓reduceIte] at hE
  obtain ⟨F, hFe⟩ : ∃ B, B = w'.heap.size := ⟨_, rfl⟩; have hnF : w'.heap.size ≤ F := Nat.le_of_eq hFe.symm; rw [← hFe] at hE; refine world_cut (fun wt => Below w'.heap.size w' wt ∧ F < wt.heap.size ∧ Row wt F [.int .i64 p.1, .int .i64 p.2]) ⟨(Below.refl _ _).alloc (Nat.le_refl _) _, by rw [hFe]; simp, by rw [hFe]; exact row_new _ _ _⟩ (fun w2 hCut => ?_); obtain ⟨hbw2, hlF, hRF⟩ := hCut; clear hFe
  have hB2 := hB.trans (hbw2.mono hB.size)
  replace hRR := hRR.below hbw2 hlR
  have hlR2 := Nat.lt_of_lt_of_le hlR hbw2.size
  have hRn := hnR
  have hCF := row_cells hRF hlF
  clear hbw2 c0 c1 hbw hnR
  have nF := hCF.1; have cF0 := hCF.2 0 _ rfl; have cF1 := hCF.2 1 _ rfl
  (repeat with_reducible first|refine ctl ?_|refine miss ?_)
  refine Rs 1 fun Q' K hK => ?_
  refine Lp fun K' hK' => ?_
  have r1 := hE.at 1 rfl; refine op1 r1 fun ρ qc qf qg q1 => ?_; go_simp; (try clear qc qf qg r1 q1)
  refine Ln hE hK' fun a_1 hE_1 => ?_; clear hK' K' hE a
  refine late_done [1, 4, 6, 7, 8, 9, 13] hE_1 hK (fun a hE => ?_); clear hK K Q' hE_1; simp only [lk, pick, Nat.reduceEqDiff, ↓reduceIte] at hE
  (repeat with_reducible first|refine ctl ?_|refine miss ?_)
  refine Rs 4 fun Q' K hK => ?_
  refine Lp fun K' hK' => ?_
  have r6 := hE.at 6 rfl; refine op1 r6 fun ρ qc qf qg q6 => ?_; go_simp; (try clear qc qf qg r6 q6)
  refine Ln hE hK' fun a_1 hE_1 => ?_; clear hK' K' hE a
  refine Lp fun K' hK' => ?_
  have r15 := hE_1.at 15 rfl; refine op1 r15 fun ρ qc qf qg q15 => ?_; go_simp; (try clear qc qf qg r15 q15)
  refine Ln hE_1 hK' fun a_2 hE_2 => ?_; clear hK' K' hE_1
  refine Lp fun K' hK' => ?_
  have r13 := hE_2.at 13 rfl; have r16 := hE_2.at 16 rfl
  refine op2 r13 r16 fun ρ qc qf qg q13 q16 => ?_; go_simp; (try go_bits); (try clear qc qf qg r13 q13 r16 q16)
  (try clear r13 r16)
  refine Ln hE_2 hK' fun a_3 hE_3 => ?_; clear hK' K' hE_2
  refine Lp fun K' hK' => ?_
  have r17 := hE_3.at 17 rfl; refine op1 r17 fun ρ qc qf qg q17 => ?_; go_simp; (try clear qc qf qg r17 q17)
  refine Ln hE_3 hK' fun a_4 hE_4 => ?_; clear hK' K' hE_3
  refine late_done [1, 4, 6, 7, 8, 9, 13, 14] hE_4 hK (fun a hE => ?_); clear hK K Q' hE_4; simp only [lk, pick, Nat.reduceEqDiff, ↓reduceIte] at hE
  (repeat with_reducible first|refine ctl ?_|refine miss ?_)
  have g0 := (hRR 0 _ rfl).1
  have g1 := (hRR 1 _ rfl).1
  have y0 := (hRR 0 _ rfl).2
  have y1 := (hRR 1 _ rfl).2
  refine cond_part hE (t := 14) rfl (fun h => ?_) (fun h => ?_)
  ·(repeat with_reducible first|refine ctl ?_|refine miss ?_)
   refine Rs 5 fun Q' K hK => ?_
   refine Lp fun K' hK' => ?_
   have r1 := hE.at 1 rfl; refine op1 r1 fun ρ qc qf qg q1 => ?_; go_simp; (try clear qc qf qg r1 q1)
   refine Ln hE hK' fun a_1 hE_1 => ?_; clear hK' K' hE a
   refine Lp fun K' hK' => ?_
   have r6 := hE_1.at 6 rfl; refine op1 r6 fun ρ qc qf qg q6 => ?_; go_simp; (try clear qc qf qg r6 q6)
   refine Ln hE_1 hK' fun a_2 hE_2 => ?_; clear hK' K' hE_1
   refine Lp fun K' hK' => ?_
   have r19 := hE_2.at 19 rfl; refine op1 r19 fun ρ qc qf qg q19 => ?_; go_simp; (try clear qc qf qg r19 q19)
   refine Ln hE_2 hK' fun a_3 hE_3 => ?_; clear hK' K' hE_2
   refine Lp fun K' hK' => ?_
   have r18 := hE_3.at 18 rfl; have r20 := hE_3.at 20 rfl
   refine op2 r18 r20 fun ρ qc qf qg q18 q20 => ?_; go_simp; (try clear qc qf qg r18 q18 r20 q20)
   (try clear r18 r20)
   refine Ln hE_3 hK' fun a_4 hE_4 => ?_; clear hK' K' hE_3
   refine Lp fun K' hK' => ?_
   have r4 := hE_4.at 4 rfl; have r21 := hE_4.at 21 rfl
   refine op2 r4 r21 fun ρ qc qf qg q4 q21 => ?_; go_simp; (try clear qc qf qg r4 q4 r21 q21)
   (try clear r4 r21)
   refine late_skip hE_4 hK' (fun a_5 hE_5 => ?_); clear hK' K'; clear hE_4
   refine late_done [4] hE_5 hK (fun a hE => ?_); clear hK K Q' hE_5; simp only [lk, pick, Nat.reduceEqDiff, ↓reduceIte] at hE
   refine world_cut (fun wt => Below w.heap.size w wt ∧ Cells wt R [.int .i64 l, .int .i64 p.2]) ⟨(hB2.setCell hRn _).setCell hRn _, row_cells ((hRR.set (by simp)).set (by simp)) (by simp; omega)⟩ (fun w3 hC => ?_)
   obtain ⟨hB3, hCR⟩ := hC
   clear g0 g1 y0 y1 nF cF0 cF1
   have nR := hCR.1; have cR0 := hCR.2 0 _ rfl; have cR1 := hCR.2 1 _ rfl
   (repeat with_reducible first|refine ctl ?_|refine miss ?_)
   have g := hE.at 4 rfl
   refine bodyPost_ret (v := .agg #[.int .i64 l, .int .i64 p.2]) (by simp [results, Try.results97, go_sem, g, cR0, cR1]) hE.1 ⟨?_, hB3⟩
   have hh : l = p.1 := by (have h' : ((l : Int) = p.1) := (by simpa using h)); omega
   rw [← HM.out, HD.out, HP.out, if_pos hh]
  ·(repeat with_reducible first|refine ctl ?_|refine miss ?_)
   refine Rs 4 fun Q' K hK => ?_
   refine Lp fun K' hK' => ?_
   have r6 := hE.at 6 rfl; refine op1 r6 fun ρ qc qf qg q6 => ?_; go_simp; (try clear qc qf qg r6 q6)
   refine Ln hE hK' fun a_1 hE_1 => ?_; clear hK' K' hE a
   refine Lp fun K' hK' => ?_
   have r23 := hE_1.at 23 rfl; refine op1 r23 fun ρ qc qf qg q23 => ?_; go_simp; (try clear qc qf qg r23 q23)
   refine Ln hE_1 hK' fun a_2 hE_2 => ?_; clear hK' K' hE_1
   refine Lp fun K' hK' => ?_
   have r13 := hE_2.at 13 rfl; have r24 := hE_2.at 24 rfl
   refine op2 r13 r24 fun ρ qc qf qg q13 q24 => ?_; go_simp; (try go_bits); (try clear qc qf qg r13 q13 r24 q24)
   (try clear r13 r24)
   refine Ln hE_2 hK' fun a_3 hE_3 => ?_; clear hK' K' hE_2
   refine Lp fun K' hK' => ?_
   have r25 := hE_3.at 25 rfl; refine op1 r25 fun ρ qc qf qg q25 => ?_; go_simp; (try clear qc qf qg r25 q25)
   refine Ln hE_3 hK' fun a_4 hE_4 => ?_; clear hK' K' hE_3
   refine late_done [1, 4, 6, 7, 8, 9, 13, 22] hE_4 hK (fun a hE => ?_); clear hK K Q' hE_4; simp only [lk, pick, Nat.reduceEqDiff, ↓reduceIte] at hE
   (repeat with_reducible first|refine ctl ?_|refine miss ?_)
   have hh : ¬ l = p.1 := by (have h' : ¬ ((l : Int) = p.1) := (by simpa using h)); omega
   have HH := hid hh
   clear h hh
   refine cond_part hE (t := 22) rfl (fun h => ?_) (fun h => ?_)
   ·(repeat with_reducible first|refine ctl ?_|refine miss ?_)
    refine Rs 5 fun Q' K hK => ?_
    refine Lp fun K' hK' => ?_
    have r1 := hE.at 1 rfl; refine op1 r1 fun ρ qc qf qg q1 => ?_; go_simp; (try clear qc qf qg r1 q1)
    refine Ln hE hK' fun a_1 hE_1 => ?_; clear hK' K' hE a
    refine Lp fun K' hK' => ?_
    have r6 := hE_1.at 6 rfl; refine op1 r6 fun ρ qc qf qg q6 => ?_; go_simp; (try clear qc qf qg r6 q6)
    refine Ln hE_1 hK' fun a_2 hE_2 => ?_; clear hK' K' hE_1
    refine Lp fun K' hK' => ?_
    have r27 := hE_2.at 27 rfl; refine op1 r27 fun ρ qc qf qg q27 => ?_; go_simp; (try clear qc qf qg r27 q27)
    refine Ln hE_2 hK' fun a_3 hE_3 => ?_; clear hK' K' hE_2
    refine Lp fun K' hK' => ?_
    have r26 := hE_3.at 26 rfl; have r28 := hE_3.at 28 rfl
    refine op2 r26 r28 fun ρ qc qf qg q26 q28 => ?_; go_simp; (try clear qc qf qg r26 q26 r28 q28)
    (try clear r26 r28)
    refine Ln hE_3 hK' fun a_4 hE_4 => ?_; clear hK' K' hE_3
    refine Lp fun K' hK' => ?_
    have r4 := hE_4.at 4 rfl; have r29 := hE_4.at 29 rfl
    refine op2 r4 r29 fun ρ qc qf qg q4 q29 => ?_; go_simp; (try clear qc qf qg r4 q4 r29 q29)
    (try clear r4 r29)
    refine late_skip hE_4 hK' (fun a_5 hE_5 => ?_); clear hK' K'; clear hE_4
    refine late_done [4] hE_5 hK (fun a hE => ?_); clear hK K Q' hE_5; simp only [lk, pick, Nat.reduceEqDiff, ↓reduceIte] at hE
    refine world_cut (fun wt => Below w.heap.size w wt ∧ Cells wt R [.int .i64 l, .int .i64 p.1]) ⟨(hB2.setCell hRn _).setCell hRn _, row_cells ((hRR.set (by simp)).set (by simp)) (by simp; omega)⟩ (fun w3 hC => ?_)
    obtain ⟨hB3, hCR⟩ := hC
    clear g0 g1 y0 y1 nF cF0 cF1
    have nR := hCR.1; have cR0 := hCR.2 0 _ rfl; have cR1 := hCR.2 1 _ rfl
    (repeat with_reducible first|refine ctl ?_|refine miss ?_)
    have g := hE.at 4 rfl
    refine bodyPost_ret (v := .agg #[.int .i64 l, .int .i64 p.1]) (by simp [results, Try.results97, go_sem, g, cR0, cR1]) hE.1 ⟨?_, hB3⟩
    have hh : l = p.2 := by (have h' : ((l : Int) = p.2) := (by simpa using h)); omega
    rw [← HM.out, HD.out, HP.out, if_neg HH.out, if_pos hh]
   ·have hh : ¬ l = p.2 := by (have h' : ¬ ((l : Int) = p.2) := (by simpa using h)); omega
    (repeat with_reducible first|refine ctl ?_|refine miss ?_)
    refine Rs 2 fun Q' K hK => ?_
    refine Lp fun K' hK' => ?_
    have r9 := hE.at 9 rfl; refine op1 r9 fun ρ qc qf qg q9 => ?_; go_simp; (try go_bits); (try simp (disch := omega) only [IntWalk.i64_in]); (try clear qc qf qg r9 q9)
    refine Ln hE hK' fun a_1 hE_1 => ?_; clear hK' K' hE a
    refine Lp fun K' hK' => ?_
    have r30 := hE_1.at 30 rfl; refine op1 r30 fun ρ qc qf qg q30 => ?_; go_simp; (try clear qc qf qg r30 q30)
    refine Ln hE_1 hK' fun a_2 hE_2 => ?_; clear hK' K' hE_1
    refine late_done [1, 4, 7, 8, 9] hE_2 hK (fun a hE => ?_); clear hK K Q' hE_2; simp only [lk, pick, Nat.reduceEqDiff, ↓reduceIte] at hE
    (repeat with_reducible first|refine ctl ?_|refine miss ?_)
    refine ⟨k + 1, ⟨hlt, by simpa using hE, hB2, ⟨hlR2, hRR⟩, ?_⟩, by omega⟩
    rw [← HM.out, HD.out, HP.out, if_neg HH.out, if_neg hh]
 ·have hkk : k = t.length := by have := of_decide_eq_false h; omega
  clear h
  have g0 := (hRR 0 _ rfl).1
  have g1 := (hRR 1 _ rfl).1
  have y0 := (hRR 0 _ rfl).2
  have y1 := (hRR 1 _ rfl).2
  (repeat with_reducible first|refine ctl ?_|refine miss ?_)
  refine Rs 3 fun Q' K hK => ?_
  refine Lp fun K' hK' => ?_
  have r1 := hE.at 1 rfl; refine op1 r1 fun ρ qc qf qg q1 => ?_; go_simp; (try clear qc qf qg r1 q1)
  refine Ln hE hK' fun a_1 hE_1 => ?_; clear hK' K' hE a
  refine Lp fun K' hK' => ?_
  have r31 := hE_1.at 31 rfl; refine op1 r31 fun ρ qc qf qg q31 => ?_; go_simp; (try clear qc qf qg r31 q31)
  refine Ln hE_1 hK' fun a_2 hE_2 => ?_; clear hK' K' hE_1
  refine Lp fun K' hK' => ?_
  have r4 := hE_2.at 4 rfl; have r32 := hE_2.at 32 rfl
  refine op2 r4 r32 fun ρ qc qf qg q4 q32 => ?_; go_simp; (try clear qc qf qg r4 q4 r32 q32)
  (try clear r4 r32)
  refine late_skip hE_2 hK' (fun a_3 hE_3 => ?_); clear hK' K'; clear hE_2
  refine late_done [4] hE_3 hK (fun a hE => ?_); clear hK K Q' hE_3; simp only [lk, pick, Nat.reduceEqDiff, ↓reduceIte] at hE
  refine world_cut (fun wt => Below w.heap.size w wt ∧ Cells wt R [.int .i64 l, .int .i64 (-1)]) ⟨(hB.setCell hnR _).setCell hnR _, row_cells ((hRR.set (by simp)).set (by simp)) (by simp; omega)⟩ (fun w3 hC => ?_)
  obtain ⟨hB3, hCR⟩ := hC
  clear g0 g1 y0 y1
  have nR := hCR.1; have cR0 := hCR.2 0 _ rfl; have cR1 := hCR.2 1 _ rfl
  (repeat with_reducible first|refine ctl ?_|refine miss ?_)
  have g := hE.at 4 rfl
  refine bodyPost_ret (v := .agg #[.int .i64 l, .int .i64 (-1)]) (by simp [results, Try.results97, go_sem, g, cR0, cR1]) hE.1 ⟨?_, hB3⟩
  rw [← HM.out, hkk, List.drop_length]; rfl
end Go.Proofs.Ytbimkcjdodgojaa
