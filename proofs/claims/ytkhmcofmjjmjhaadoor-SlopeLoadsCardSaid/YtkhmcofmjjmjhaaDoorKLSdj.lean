/- Slope: the loads of each hour, as the reference counts them. -/
import Derived.Test.YtkhmcofmjjmjhaaDoorKLSdgw
import Derived.Test.YtkhmcofmjjmjhaaDoorKLSbf
import Derived.Test.YtkhmcofmjjmjhaaDoorKLFc

namespace Go.Proofs.YtkhmcofmjjmjhaaDoor
set_option linter.unusedSimpArgs false
set_option linter.unusedVariables false
open Go Go.RowKit
attribute [local go_sem high] cell_set_wr
attribute [local go_sem low] cell_wr frozen_wr
attribute [local go_sem] wr_set wr_drew wr_drewN wr_alloc wr_new Rho.c Rho.n Rho.g
theorem gam_first {b : Sb} (hb : OkB b) {l : Nat} (h : l ≤ 300) : gamB b 0 l = goalP (hpsOf b) l := by
 unfold gamB
 rw [if_neg (by omega), List.drop_zero]
section
variable (H : Option Addr) (hcap : Nat) (S : Option Addr) (scap : Nat) (b : Sb)
set_option maxRecDepth 100000 in
set_option maxHeartbeats 2000000 in
theorem rright_any (hb : OkB b) (w : World) (hM : SbAt w H S b) : Calls Tryd.prog 57 #[.agg (sbV H hcap S scap b).toArray] w fun e w' => e = .returned (.bool (rtB b)) ∧ Below w.heap.size w w' := by
 have hst := hb.start; have HR := hid (right_ref hb); have HC := hid fun (W : World) hW => goals_any H hcap S scap b hb W hW; have HG := hid fun (l : Nat) (h : l ≤ 300) => gam_first hb h
 obtain ⟨N1, hN1⟩ : ∃ n, b.hours.length + 1 = n := ⟨_, rfl⟩; have hN0 : 0 < N1 := by omega
 rw [hN1] at HC; clear hN1; refine En Tryd.func57 Tryd.ntmps57 fun a hE => ?_; refine Ks ?_; refine Rs 2 fun Q' K hK => ?_; refine M1 hE 0 fun K' J ρ q0 => ?_; go_simp; refine Ln hE J fun _ Eb => ?_; clear J K' hE a q0; refine M0 fun K' J ρ => ?_; go_simp; refine Ln Eb J fun _ Ea => ?_; clear J K' Eb; refine Ld [1] Ea hK fun a hE => ?_; clear hK K Q' Ea; obtain ⟨B, hBe⟩ : ∃ B, B = w.heap.size := ⟨_, rfl⟩; rw [← hBe] at hE; refine world_cut (fun wt => Below w.heap.size w wt ∧ Cells wt B (sbV H hcap S scap b)) ⟨(Below.refl _ _).alloc (Nat.le_refl _) _, by rw [hBe]; exact cells_new _ _ _⟩ (fun w1 hCut => ?_); obtain ⟨hbw1, hCB⟩ := hCut; clear hBe; replace hM := hM.below hbw1; have nB := hCB.1; have cB5 := hCB.2 5 _ rfl; have cB6 := hCB.2 6 _ rfl; refine Ks ?_; refine Rs 3 fun Q' K hK => ?_; refine Lp fun K' J => ?_; have r1 := hE.at 1 rfl; refine wp_load_mid 29 (.tmp 1) rfl B 0 (eval_of r1) (sbV H hcap S scap b) _ (fun j u hu => by rw [Nat.zero_add]; exact hCB.2 j u hu) Tryd.underlying29 rfl (by kernel_rfl) ?_; (try clear r1); refine Ln hE J fun _ Eb => ?_; clear J K' hE a; refine M1 Eb 5 fun K' J ρ q5 => ?_; go_simp; (try go_bits); (try clear q5); go_at_call 73; refine (HC.out _ hM).mono ?_; rintro e w2 ⟨⟨O, rfl, hO⟩, h2⟩; (try clear r5); refine Ln Eb J fun _ Ea => ?_; clear J K' Eb; refine M1 Ea 6 fun K' J ρ q6 => ?_; go_simp; refine Ln Ea J fun _ Eb => ?_; clear J K' Ea q6; refine Ld [1, 3] Eb hK fun a hE => ?_; clear hK K Q' Eb; have hbw2 := hbw1.trans (h2.mono hbw1.size); replace hCB := hCB.below h2
 clear nB cB5 cB6; have nB := hCB.1; have cB5 := hCB.2 5 _ rfl; have cB6 := hCB.2 6 _ rfl; replace hM := hM.below h2; refine Ks ?_; refine Rs 4 fun Q' K hK => ?_; refine M1 hE 1 fun K' J ρ q1 => ?_; go_simp; refine Ln hE J fun _ Eb => ?_; clear J K' hE a q1; refine M1 Eb 7 fun K' J ρ q7 => ?_; go_simp; refine Ln Eb J fun _ Ea => ?_; clear J K' Eb q7; refine M1 Ea 8 fun K' J ρ q8 => ?_; go_simp; refine Ln Ea J fun _ Eb => ?_; clear J K' Ea q8; refine M1 Eb 9 fun K' J ρ q9 => ?_; go_simp; refine Ln Eb J fun _ Ea => ?_; clear J K' Eb q9; refine Ld [1, 3, 4] Ea hK fun a hE => ?_; clear hK K Q' Ea; refine Ks ?_; obtain ⟨C, F, og0, og1, nO, hG⟩ := hO.get (i := 0) (Nat.le_refl _) (Nat.zero_le _); simp only [Nat.zero_mul, Nat.zero_add] at og0 og1; have nC := hG.can.lt; refine loop_st (fun (k : Nat) a w' => w' = w2 ∧ (k : Int) ≤ b.hi - b.lo + 1 ∧ Fits 24 [(1, .pointer (some ⟨B, 0, none⟩)), (3, .slice (some ⟨O, 0, none⟩) N1 N1), (4, .int .i64 (b.lo + k))] a ∧ ∀ j, j < k → goalP (hpsOf b) (b.lo.toNat + j) = none) (fun k => (b.hi - b.lo + 1 - k).toNat) 0 ⟨rfl, by omega, by simpa using hE, fun j hj => absurd hj (Nat.not_lt_zero _)⟩ (fun k a w' hI => ?_); clear hE; obtain ⟨hw, hk, hE, hn⟩ := hI; subst hw; have HN := hid hn; clear hn
 by_cases hlt : (k : Int) ≤ b.hi - b.lo
 ·obtain ⟨m, hm⟩ : ∃ m, b.lo.toNat + k = m := ⟨_, rfl⟩; have hmI : b.lo + k = (m : Int) := by omega
  have hm3 : m ≤ 300 := by omega
  have hmb : (m : Int) < 1500 := by omega
  have hmle : (m : Int) ≤ b.hi := by omega
  have x0 := hG.can.cell m (by omega); simp only [canV] at x0; rw [HG.out m hm3] at x0; obtain ⟨q, hq⟩ : ∃ q, goalP (hpsOf b) m = q := ⟨_, rfl⟩; rw [hq] at x0; have HQ := hid hq; have HMe := hid hm; have HMI := hid hmI; have HLT := hid hlt; rw [hmI] at hE; clear hq hm hmI hlt; refine Ks ?_; refine Rs 5 fun Q' K hK => ?_; refine M1 hE 4 fun K' J ρ q4 => ?_; go_simp; refine Ln hE J fun _ Eb => ?_; clear J K' hE a q4; refine M1 Eb 1 fun K' J ρ q1 => ?_; go_simp; refine Ln Eb J fun _ Ea => ?_; clear J K' Eb q1; refine M1 Ea 11 fun K' J ρ q11 => ?_; go_simp; refine Ln Ea J fun _ Eb => ?_; clear J K' Ea q11; refine M1 Eb 12 fun K' J ρ q12 => ?_; go_simp; refine Ln Eb J fun _ Ea => ?_; clear J K' Eb q12; refine M2 Ea 10 13 fun K' J ρ q10 q13 => ?_; go_simp; (try go_bits); refine Ln Ea J fun _ Eb => ?_; clear J K' Ea q10 q13; replace Eb := Eb.turn 14 (v' := .bool true) rfl (by (first | (simp; done) | (simp; omega))); refine Ld [1, 3, 4, 14] Eb hK fun a hE => ?_; clear hK K Q' Eb; refine Ks ?_; refine cond_yes hE (t := 14) rfl ?_; refine Ks ?_; refine Rs 7 fun Q' K hK => ?_; refine M1 hE 3 fun K' J ρ q3 => ?_; go_simp; refine Ln hE J fun _ Eb => ?_; clear J K' hE a q3; refine M1 Eb 17 fun K' J ρ q17 => ?_; go_simp; (try go_bits); refine Ln Eb J fun _ Ea => ?_; clear J K' Eb q17; refine M1 Ea 18 fun K' J ρ q18 => ?_; go_simp; refine Ln Ea J fun _ Eb => ?_; clear J K' Ea q18; refine M1 Eb 19 fun K' J ρ q19 => ?_; go_simp; refine Ln Eb J fun _ Ea => ?_; clear J K' Eb q19; refine M1 Ea 4 fun K' J ρ q4 => ?_; go_simp
  refine Ln Ea J fun _ Eb => ?_; clear J K' Ea q4; refine M2 Eb 20 21 fun K' J ρ q20 q21 => ?_; go_simp; (try go_bits); refine Ln Eb J fun _ Ea => ?_; clear J K' Eb q20 q21; refine M1 Ea 22 fun K' J ρ q22 => ?_; go_simp; refine Ln Ea J fun _ Eb => ?_; clear J K' Ea q22; refine Ld [1, 3, 4, 23] Eb hK fun a hE => ?_; clear hK K Q' Eb
  rcases q with _ | p
  ·skip
   refine Ks ?_; refine cond_no hE (t := 23) rfl ?_; refine Ks ?_; refine Rs 3 fun Q' K hK => ?_; refine M1 hE 4 fun K' J ρ q4 => ?_; go_simp; refine Ln hE J fun _ Eb => ?_; clear J K' hE a q4; refine M1 Eb 15 fun K' J ρ q15 => ?_; go_simp; (try go_bits); (try simp (disch := omega) only [IntWalk.i64_in]); refine Ln Eb J fun _ Ea => ?_; clear J K' Eb q15; refine M1 Ea 16 fun K' J ρ q16 => ?_; go_simp; refine Ln Ea J fun _ Eb => ?_; clear J K' Ea q16; refine Ld [1, 3, 4] Eb hK fun a hE => ?_; clear hK K Q' Eb; refine Ks ?_
   exact ⟨k + 1, ⟨rfl, by have := HLT.out; omega, by rw [← HMI.out] at hE; simpa [Int.add_assoc] using hE, fun j hj => by
    by_cases e : j = k
    ·rw [e, HMe.out]; exact HQ.out
    ·exact HN.out j (by omega)⟩, by have := HLT.out; omega⟩
  ·have hr : rtB b = true := by
    rw [← HR.out]
    unfold begR begN
    simp only [List.any_eq_true, List.mem_map, List.mem_range]; exact ⟨_, ⟨k, by have := HLT.out; omega, rfl⟩, by rw [HMe.out, HQ.out]; rfl⟩
   refine Ks ?_; refine cond_yes hE (t := 23) rfl ?_; refine Ks ?_; refine Rs 1 fun Q' K hK => ?_; refine M0 fun K' J ρ => ?_; go_simp; refine Ln hE J fun _ Eb => ?_; clear J K' hE a; refine Ld [2] Eb hK fun a hE => ?_; clear hK K Q' Eb; refine Ks ?_; exact ret_one hE rfl rfl ⟨by rw [hr], hbw2⟩
 ·have hr : rtB b = false := by
   rw [← HR.out]
   unfold begR begN
   rw [List.any_eq_false]
   intro o ho
   obtain ⟨j, hj, rfl⟩ := List.mem_map.1 ho; rw [List.mem_range] at hj; rw [HN.out j (by omega)]
   simp
  refine Ks ?_; refine Rs 5 fun Q' K hK => ?_; refine M1 hE 4 fun K' J ρ q4 => ?_; go_simp; refine Ln hE J fun _ Eb => ?_; clear J K' hE a q4; refine M1 Eb 1 fun K' J ρ q1 => ?_; go_simp; refine Ln Eb J fun _ Ea => ?_; clear J K' Eb q1; refine M1 Ea 11 fun K' J ρ q11 => ?_; go_simp; refine Ln Ea J fun _ Eb => ?_; clear J K' Ea q11; refine M1 Eb 12 fun K' J ρ q12 => ?_; go_simp; refine Ln Eb J fun _ Ea => ?_; clear J K' Eb q12; refine M2 Ea 10 13 fun K' J ρ q10 q13 => ?_; go_simp; (try go_bits); refine Ln Ea J fun _ Eb => ?_; clear J K' Ea q10 q13; replace Eb := Eb.turn 14 (v' := .bool false) rfl (by (first | (simp; done) | (simp; omega))); refine Ld [1, 3, 4, 14] Eb hK fun a hE => ?_; clear hK K Q' Eb; refine Ks ?_; refine cond_no hE (t := 14) rfl ?_; refine Ks ?_; refine Rs 1 fun Q' K hK => ?_; refine M0 fun K' J ρ => ?_; go_simp; refine Ln hE J fun _ Eb => ?_; clear J K' hE a; refine Ld [2] Eb hK fun a hE => ?_; clear hK K Q' Eb; refine Ks ?_; exact ret_one hE rfl rfl ⟨by rw [hr], hbw2⟩
set_option maxRecDepth 100000 in
set_option maxHeartbeats 2000000 in
theorem asked_any (v : Bool) (w : World) (hM : SbAt w H S b) (hh : b.hours.length ≤ 9223372036854775807) (hss : b.sights.length ≤ 9223372036854775807) : Calls Tryd.prog 67 #[.agg (sbV H hcap S scap b).toArray, .bool v] w fun e w' => e = .returned (.int .i64 (frE b v)) ∧ Below w.heap.size w w' := by
 have C1 := hid fun (W : World) hW => rCheck_any H hcap S scap b W hW hh hss; have HF : Hid (frE b v = if b.ok = true then (if v = true then (if rtB b = true then 0 else 32) else 31) else 30) := hid rfl
 cases ho : b.ok
 ·have e0 : sbE b = 30 := by unfold sbE; rw [ho]; rfl
  rw [e0] at C1; rw [ho] at HF; rw [HF.out]; clear ho e0; refine En Tryd.func67 Tryd.ntmps67 fun a hE => ?_; refine Ks ?_; refine Rs 2 fun Q' K hK => ?_; refine M1 hE 0 fun K' J ρ q0 => ?_; go_simp; refine Ln hE J fun _ Eb => ?_; clear J K' hE a q0; refine M0 fun K' J ρ => ?_; go_simp; refine Ln Eb J fun _ Ea => ?_; clear J K' Eb; refine Ld [1, 2] Ea hK fun a hE => ?_; clear hK K Q' Ea; obtain ⟨B, hBe⟩ : ∃ B, B = w.heap.size := ⟨_, rfl⟩; rw [← hBe] at hE; refine world_cut (fun wt => Below w.heap.size w wt ∧ Cells wt B (sbV H hcap S scap b)) ⟨(Below.refl _ _).alloc (Nat.le_refl _) _, by rw [hBe]; exact cells_new _ _ _⟩ (fun w1 hCut => ?_); obtain ⟨hbw1, hCB⟩ := hCut; clear hBe; replace hM := hM.below hbw1; refine Ks ?_; refine Rs 3 fun Q' K hK => ?_; refine Lp fun K' J => ?_; have r2 := hE.at 2 rfl; refine wp_load_mid 29 (.tmp 2) rfl B 0 (eval_of r2) (sbV H hcap S scap b) _ (fun j u hu => by rw [Nat.zero_add]; exact hCB.2 j u hu) Tryd.underlying29 rfl (by kernel_rfl) ?_; (try clear r2); refine Ln hE J fun _ Eb => ?_; clear J K' hE a; refine M1 Eb 6 fun K' J ρ q6 => ?_; go_simp; (try go_bits); (try clear q6); go_at_call 17; refine (C1.out _ hM).mono ?_; rintro e w2 ⟨rfl, h2⟩; (try clear r6); refine Ln Eb J fun _ Ea => ?_; clear J K' Eb; refine M1 Ea 7 fun K' J ρ q7 => ?_; go_simp; refine Ln Ea J fun _ Eb => ?_; clear J K' Ea q7; refine Ld [1, 2, 5] Eb hK fun a hE => ?_; clear hK K Q' Eb; have hbw2 := hbw1.trans (h2.mono hbw1.size); replace hM := hM.below h2; refine Ks ?_; refine Rs 2 fun Q' K hK => ?_
  refine M1 hE 5 fun K' J ρ q5 => ?_; go_simp; refine Ln hE J fun _ Eb => ?_; clear J K' hE a q5; refine M1 Eb 8 fun K' J ρ q8 => ?_; go_simp; (try go_bits); refine Ln Eb J fun _ Ea => ?_; clear J K' Eb q8; replace Ea := Ea.turn 9 (v' := .bool true) rfl (by (first | rfl | simp)); refine Ld [1, 2, 5, 9] Ea hK fun a hE => ?_; clear hK K Q' Ea; refine Ks ?_; refine cond_yes hE (t := 9) rfl ?_; refine Ks ?_; refine Rs 2 fun Q' K hK => ?_; refine M1 hE 5 fun K' J ρ q5 => ?_; go_simp; refine Ln hE J fun _ Eb => ?_; clear J K' hE a q5; refine M1 Eb 10 fun K' J ρ q10 => ?_; go_simp; refine Ln Eb J fun _ Ea => ?_; clear J K' Eb q10; refine Ld [4] Ea hK fun a hE => ?_; clear hK K Q' Ea; refine Ks ?_; exact ret_one hE rfl rfl ⟨rfl, hbw2⟩
 ·have e0 : sbE b = 0 := by unfold sbE; rw [ho]; rfl
  rw [e0] at C1; have C2 := hid fun (W : World) hW => rright_any H hcap S scap b (ok_iff.1 ho) W hW; rw [ho] at HF; rw [HF.out]; clear ho e0
  cases v
  ·skip
   refine En Tryd.func67 Tryd.ntmps67 fun a hE => ?_; refine Ks ?_; refine Rs 2 fun Q' K hK => ?_; refine M1 hE 0 fun K' J ρ q0 => ?_; go_simp; refine Ln hE J fun _ Eb => ?_; clear J K' hE a q0; refine M0 fun K' J ρ => ?_; go_simp; refine Ln Eb J fun _ Ea => ?_; clear J K' Eb; refine Ld [1, 2] Ea hK fun a hE => ?_; clear hK K Q' Ea; obtain ⟨B, hBe⟩ : ∃ B, B = w.heap.size := ⟨_, rfl⟩; rw [← hBe] at hE; refine world_cut (fun wt => Below w.heap.size w wt ∧ Cells wt B (sbV H hcap S scap b)) ⟨(Below.refl _ _).alloc (Nat.le_refl _) _, by rw [hBe]; exact cells_new _ _ _⟩ (fun w1 hCut => ?_); obtain ⟨hbw1, hCB⟩ := hCut; clear hBe; replace hM := hM.below hbw1; refine Ks ?_; refine Rs 3 fun Q' K hK => ?_; refine Lp fun K' J => ?_; have r2 := hE.at 2 rfl; refine wp_load_mid 29 (.tmp 2) rfl B 0 (eval_of r2) (sbV H hcap S scap b) _ (fun j u hu => by rw [Nat.zero_add]; exact hCB.2 j u hu) Tryd.underlying29 rfl (by kernel_rfl) ?_; (try clear r2); refine Ln hE J fun _ Eb => ?_; clear J K' hE a; refine M1 Eb 6 fun K' J ρ q6 => ?_; go_simp; (try go_bits); (try clear q6); go_at_call 17; refine (C1.out _ hM).mono ?_; rintro e w2 ⟨rfl, h2⟩; (try clear r6); refine Ln Eb J fun _ Ea => ?_; clear J K' Eb; refine M1 Ea 7 fun K' J ρ q7 => ?_; go_simp; refine Ln Ea J fun _ Eb => ?_; clear J K' Ea q7; refine Ld [1, 2, 5] Eb hK fun a hE => ?_; clear hK K Q' Eb; have hbw2 := hbw1.trans (h2.mono hbw1.size); replace hM := hM.below h2; refine Ks ?_; refine Rs 2 fun Q' K hK => ?_; refine M1 hE 5 fun K' J ρ q5 => ?_; go_simp
   refine Ln hE J fun _ Eb => ?_; clear J K' hE a q5; refine M1 Eb 8 fun K' J ρ q8 => ?_; go_simp; (try go_bits); refine Ln Eb J fun _ Ea => ?_; clear J K' Eb q8; replace Ea := Ea.turn 9 (v' := .bool false) rfl (by (first | rfl | simp)); refine Ld [1, 2, 5, 9] Ea hK fun a hE => ?_; clear hK K Q' Ea; refine Ks ?_; refine cond_no hE (t := 9) rfl ?_; refine Ks ?_; refine Rs 2 fun Q' K hK => ?_; refine M1 hE 1 fun K' J ρ q1 => ?_; go_simp; refine Ln hE J fun _ Eb => ?_; clear J K' hE a q1; refine M1 Eb 11 fun K' J ρ q11 => ?_; go_simp; (try go_bits); (try simp (disch := omega) only [IntWalk.i64_in]); refine Ln Eb J fun _ Ea => ?_; clear J K' Eb q11; replace Ea := Ea.turn 12 (v' := .bool true) rfl (by (first | rfl | simp)); refine Ld [2, 12] Ea hK fun a hE => ?_; clear hK K Q' Ea; refine Ks ?_; refine cond_yes hE (t := 12) rfl ?_; refine Ks ?_; refine Rs 1 fun Q' K hK => ?_; refine M0 fun K' J ρ => ?_; go_simp; refine Ln hE J fun _ Eb => ?_; clear J K' hE a; refine Ld [4] Eb hK fun a hE => ?_; clear hK K Q' Eb; refine Ks ?_; exact ret_one hE rfl rfl ⟨rfl, hbw2⟩
  ·obtain ⟨q, hq⟩ : ∃ q, rtB b = q := ⟨_, rfl⟩; rw [hq] at C2; rw [hq]; clear hq HF; refine En Tryd.func67 Tryd.ntmps67 fun a hE => ?_; refine Ks ?_; refine Rs 2 fun Q' K hK => ?_; refine M1 hE 0 fun K' J ρ q0 => ?_; go_simp; refine Ln hE J fun _ Eb => ?_; clear J K' hE a q0; refine M0 fun K' J ρ => ?_; go_simp; refine Ln Eb J fun _ Ea => ?_; clear J K' Eb; refine Ld [1, 2] Ea hK fun a hE => ?_; clear hK K Q' Ea; obtain ⟨B, hBe⟩ : ∃ B, B = w.heap.size := ⟨_, rfl⟩; rw [← hBe] at hE; refine world_cut (fun wt => Below w.heap.size w wt ∧ Cells wt B (sbV H hcap S scap b)) ⟨(Below.refl _ _).alloc (Nat.le_refl _) _, by rw [hBe]; exact cells_new _ _ _⟩ (fun w1 hCut => ?_); obtain ⟨hbw1, hCB⟩ := hCut; clear hBe; replace hM := hM.below hbw1; refine Ks ?_; refine Rs 3 fun Q' K hK => ?_; refine Lp fun K' J => ?_; have r2 := hE.at 2 rfl; refine wp_load_mid 29 (.tmp 2) rfl B 0 (eval_of r2) (sbV H hcap S scap b) _ (fun j u hu => by rw [Nat.zero_add]; exact hCB.2 j u hu) Tryd.underlying29 rfl (by kernel_rfl) ?_; (try clear r2); refine Ln hE J fun _ Eb => ?_; clear J K' hE a; refine M1 Eb 6 fun K' J ρ q6 => ?_; go_simp; (try go_bits); (try clear q6); go_at_call 17; refine (C1.out _ hM).mono ?_; rintro e w2 ⟨rfl, h2⟩; (try clear r6); refine Ln Eb J fun _ Ea => ?_; clear J K' Eb; refine M1 Ea 7 fun K' J ρ q7 => ?_; go_simp; refine Ln Ea J fun _ Eb => ?_; clear J K' Ea q7; refine Ld [1, 2, 5] Eb hK fun a hE => ?_; clear hK K Q' Eb; replace hCB := hCB.below h2; have hbw2 := hbw1.trans (h2.mono hbw1.size)
   replace hM := hM.below h2; refine Ks ?_; refine Rs 2 fun Q' K hK => ?_; refine M1 hE 5 fun K' J ρ q5 => ?_; go_simp; refine Ln hE J fun _ Eb => ?_; clear J K' hE a q5; refine M1 Eb 8 fun K' J ρ q8 => ?_; go_simp; (try go_bits); refine Ln Eb J fun _ Ea => ?_; clear J K' Eb q8; replace Ea := Ea.turn 9 (v' := .bool false) rfl (by (first | rfl | simp)); refine Ld [1, 2, 5, 9] Ea hK fun a hE => ?_; clear hK K Q' Ea; refine Ks ?_; refine cond_no hE (t := 9) rfl ?_; refine Ks ?_; refine Rs 2 fun Q' K hK => ?_; refine M1 hE 1 fun K' J ρ q1 => ?_; go_simp; refine Ln hE J fun _ Eb => ?_; clear J K' hE a q1; refine M1 Eb 11 fun K' J ρ q11 => ?_; go_simp; (try go_bits); (try simp (disch := omega) only [IntWalk.i64_in]); refine Ln Eb J fun _ Ea => ?_; clear J K' Eb q11; replace Ea := Ea.turn 12 (v' := .bool false) rfl (by (first | rfl | simp)); refine Ld [2, 12] Ea hK fun a hE => ?_; clear hK K Q' Ea; refine Ks ?_; refine cond_no hE (t := 12) rfl ?_; refine Ks ?_; refine Rs 3 fun Q' K hK => ?_; refine Lp fun K' J => ?_; have r2 := hE.at 2 rfl; refine wp_load_mid 29 (.tmp 2) rfl B 0 (eval_of r2) (sbV H hcap S scap b) _ (fun j u hu => by rw [Nat.zero_add]; exact hCB.2 j u hu) Tryd.underlying29 rfl (by kernel_rfl) ?_; (try clear r2); refine Ln hE J fun _ Eb => ?_; clear J K' hE a; refine M1 Eb 13 fun K' J ρ q13 => ?_; go_simp; (try go_bits); (try clear q13); go_at_call 57; refine (C2.out _ hM).mono ?_; rintro e w3 ⟨rfl, h3⟩; (try clear r13); refine Ln Eb J fun _ Ea => ?_; clear J K' Eb; refine M1 Ea 14 fun K' J ρ q14 => ?_; go_simp; (try go_bits); (try simp (disch := omega) only [IntWalk.i64_in])
   refine Ln Ea J fun _ Eb => ?_; clear J K' Ea q14; refine Ld [15] Eb hK fun a hE => ?_; clear hK K Q' Eb; have hbw3 := hbw2.trans (h3.mono hbw2.size); replace hM := hM.below h3
   cases q
   ·skip
    refine Ks ?_; refine cond_yes hE (t := 15) rfl ?_; refine Ks ?_; refine Rs 1 fun Q' K hK => ?_; refine M0 fun K' J ρ => ?_; go_simp; refine Ln hE J fun _ Eb => ?_; clear J K' hE a; refine Ld [4] Eb hK fun a hE => ?_; clear hK K Q' Eb; refine Ks ?_; exact ret_one hE rfl rfl ⟨rfl, hbw3⟩
   ·skip
    refine Ks ?_; refine cond_no hE (t := 15) rfl ?_; refine Ks ?_; refine Rs 1 fun Q' K hK => ?_; refine M0 fun K' J ρ => ?_; go_simp; refine Ln hE J fun _ Eb => ?_; clear J K' hE a; refine Ld [4] Eb hK fun a hE => ?_; clear hK K Q' Eb; refine Ks ?_; exact ret_one hE rfl rfl ⟨rfl, hbw3⟩
end
end Go.Proofs.YtkhmcofmjjmjhaaDoor
namespace Go.Proofs.YtkhmcofmjjmjhaaDoor
set_option linter.unusedSimpArgs false
set_option linter.unusedVariables false
open Go Go.RowKit
attribute [local go_sem high] cell_set_wr
attribute [local go_sem low] cell_wr frozen_wr
attribute [local go_sem] wr_set wr_drew wr_drewN wr_alloc wr_new Rho.c Rho.n Rho.g
theorem allR_succ (x : Hp) (f : Nat → Bool) (n : Nat) : allR x f (n + 1) = allR x f n ++ if f n then x.brings.map (loN x n) else [] := by
 unfold allR
 rw [List.range_succ, List.filter_append, List.flatMap_append]
 congr 1
 cases h : f n <;> simp [h]
/-- what can be left before an hour, if what follows can be -/
def befR (b : Sb) : Nat → Nat → Bool
 | 0 => f0 b
 | h + 1 => match b.hours[h]? with
  | some x => nxR (hpI b h x) ((hpsOf b).drop (h + 1)) (befR b h)
  | none => fun _ => false
theorem befR_succ {b : Sb} {h : Nat} (hh : h < b.hours.length) : befR b (h + 1) = nxR (hpI b h b.hours[h]) ((hpsOf b).drop (h + 1)) (befR b h) := by
 show (match b.hours[h]? with
  | some x => nxR (hpI b h x) ((hpsOf b).drop (h + 1)) (befR b h)
  | none => fun _ => false) = _
 rw [List.getElem?_eq_getElem hh]
theorem spansR_drop (b : Sb) : ∀ h, h ≤ b.hours.length → (spansR (hpsOf b) (f0 b)).drop h = spansR ((hpsOf b).drop h) (befR b h)
 | 0, _ => by rw [List.drop_zero, List.drop_zero]; rfl
 | h + 1, hh => by
  have ih := spansR_drop b h (by omega); have hh' : h < (hpsOf b).length := by rw [hpsOf_length]; omega
  rw [List.drop_eq_getElem_cons hh', hpsOf_at b h (by omega) hh'] at ih; rw [← List.drop_drop, ih, befR_succ (by omega)]
  rfl
theorem spansR_at {b : Sb} {h : Nat} (hh : h < b.hours.length) (hl : h < (spansR (hpsOf b) (f0 b)).length) : (spansR (hpsOf b) (f0 b))[h] = spanR (hpI b h b.hours[h]) ((hpsOf b).drop (h + 1)) (befR b h) := by
 have h1 := spansR_drop b h (by omega); have hh' : h < (hpsOf b).length := by rw [hpsOf_length]; exact hh
 rw [List.drop_eq_getElem_cons hl, List.drop_eq_getElem_cons hh', hpsOf_at b h hh hh', spansR] at h1; exact (List.cons.inj h1).1
theorem befR_fit {b : Sb} (hb : OkB b) : ∀ h, h ≤ b.hours.length → Fit (befR b h) (300 + 95 * h)
 | 0, _ => f0_fit hb
 | h + 1, hh => by
  have ih := befR_fit hb h (by omega); have hh' : h < (hpsOf b).length := by rw [hpsOf_length]; omega
  rw [befR_succ (by omega)]
  have hs : Small (hpI b h b.hours[h] :: (hpsOf b).drop (h + 1)) := by
   have := List.drop_eq_getElem_cons hh'; rw [hpsOf_at b h (by omega) hh'] at this; rw [← this]; exact fun x hx => small_of hb x (List.mem_of_mem_drop hx)
  have := nxR_fit ih hs
  rwa [show 300 + 95 * (h + 1) = 300 + 95 * h + 95 by omega]
def spv (l : List (Int × Int)) : List Value := l.flatMap fun s => [.int .i64 s.1, .int .i64 s.2]
theorem spv_snoc (l : List (Int × Int)) (s : Int × Int) : spv (l ++ [s]) = spv l ++ [.int .i64 s.1, .int .i64 s.2] := by simp [spv]
/-- an hour at hand: what can be left behind it so far, and its loads -/
structure SpS (w : World) (N R : Nat) (g : Nat → Bool) (s : Int × Int) (V : World) : Prop where
 below : Below w.heap.size w V
 next : FArr V N 1500 (fun x => .bool (g x))
 row : Row V R [.int .i64 s.1, .int .i64 s.2]
 lt : R < V.heap.size
theorem SpS.on {w : World} {N R : Nat} {g : Nat → Bool} {s : Int × Int} {V V' : World} (h : SpS w N R g s V) (hb : Below V.heap.size V V') : SpS w N R g s V' := ⟨h.below.trans (hb.mono h.below.size), h.next.below hb, h.row.below hb h.lt, Nat.lt_of_lt_of_le h.lt hb.size⟩
theorem SpS.put {w : World} {N R : Nat} {g : Nat → Bool} {s : Int × Int} {V : World} (h : SpS w N R g s V) {m : Nat} (hm : m < 1500) (hN : w.heap.size ≤ N) (hNR : N ≠ R) : SpS w N R (fun x => g x || decide (x = m)) s (V.setCell ⟨N, m, none⟩ (.bool true)) :=
 ⟨h.below.setCell hN _, (h.next.put (.bool true) hm).congr fun x hx => by
  by_cases e : x = m
  ·subst e; simp
  ·simp [e], h.row.other hNR, by simpa using h.lt⟩
theorem SpS.congr {w : World} {N R : Nat} {g g' : Nat → Bool} {s s' : Int × Int} {V : World} (h : SpS w N R g s V) (e : ∀ x, g x = g' x) (es : s = s') : SpS w N R g' s' V := by
 subst es; exact ⟨h.below, h.next.congr fun x _ => by rw [e x], h.row, h.lt⟩
theorem SpS.span {w : World} {N R : Nat} {g : Nat → Bool} {s : Int × Int} {V : World} (h : SpS w N R g s V) (hR : w.heap.size ≤ R) (hNR : N ≠ R) (s' : Int × Int) : SpS w N R g s' (V.setCells R 0 [.int .i64 s'.1, .int .i64 s'.2]) :=
 ⟨below_setCells h.below hR _ _, (h.next.other _ (Ne.symm hNR)).other _ (Ne.symm hNR), row_all h.row rfl, by rw [size_setCellsN]; exact h.lt⟩
end Go.Proofs.YtkhmcofmjjmjhaaDoor
