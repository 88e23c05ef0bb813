/- Slope: the reference's goals, walked. -/
import Derived.Test.YtkhmcofmjjmjhaaDoorKLFc

namespace Go.Proofs.YtkhmcofmjjmjhaaDoor
set_option linter.unusedSimpArgs false
set_option linter.unusedVariables false
open Go Go.RowKit
attribute [local go_sem high] cell_set_wr
attribute [local go_sem low] cell_wr frozen_wr
attribute [local go_sem] wr_set wr_drew wr_drewN wr_alloc wr_new Rho.c Rho.n Rho.g
theorem below_setCells {B R : Nat} {w w' : World} (h : Below B w w') (hR : B ≤ R) (o : Nat) (vs : List Value) : Below B w (w'.setCells R o vs) := by
 induction vs generalizing o w' with
 | nil => exact h
 | cons v r ih => exact ih (h.setCell hR _) _
section
variable (H : Option Addr) (hcap : Nat) (S : Option Addr) (scap : Nat) (b : Sb)
set_option maxRecDepth 100000 in
set_option maxHeartbeats 4000000 in
theorem goals_any (hb : OkB b) (w : World) (hM : SbAt w H S b) : Calls Tryd.prog 73 #[.agg (sbV H hcap S scap b).toArray] w fun e w' => (∃ O, e = .returned (.slice (some ⟨O, 0, none⟩) (b.hours.length + 1) (b.hours.length + 1)) ∧ OutG w' O b 0) ∧ Below w.heap.size w w' := by
 have h12 := hb.hours; have h6 := hb.sights; obtain ⟨N1, hN1⟩ : ∃ n, b.hours.length + 1 = n := ⟨_, rfl⟩; rw [hN1]; have HN1 := hid hN1; refine En Tryd.func73 Tryd.ntmps73 fun a hE => ?_; refine Ks ?_; refine Rs 2 fun Q' K hK => ?_; refine M1 hE 0 fun K' J ρ q0 => ?_; go_simp; refine Ln hE J fun _ Eb => ?_; clear J K' hE a q0; refine M0 fun K' J ρ => ?_; go_simp; refine Ln Eb J fun _ Ea => ?_; clear J K' Eb; refine Ld [1] Ea hK fun a hE => ?_; clear hK K Q' Ea; obtain ⟨B, hBe⟩ : ∃ B, B = w.heap.size := ⟨_, rfl⟩; rw [← hBe] at hE; refine world_cut (fun wt => Below w.heap.size w wt ∧ Cells wt B (sbV H hcap S scap b)) ⟨(Below.refl _ _).alloc (Nat.le_refl _) _, by rw [hBe]; exact cells_new _ _ _⟩ (fun w1 hCut => ?_); obtain ⟨hbw1, hCB⟩ := hCut; clear hBe; have hM1 := hM.below hbw1; have nB := hCB.1; have cB7 := hCB.2 7 _ rfl; refine Ks ?_; refine Rs 4 fun Q' K hK => ?_; refine M1 hE 1 fun K' J ρ q1 => ?_; go_simp; refine Ln hE J fun _ Eb => ?_; clear J K' hE a q1; refine M1 Eb 10 fun K' J ρ q10 => ?_; go_simp; refine Ln Eb J fun _ Ea => ?_; clear J K' Eb q10; refine M1 Ea 11 fun K' J ρ q11 => ?_; go_simp; (try go_bits); refine Ln Ea J fun _ Eb => ?_; clear J K' Ea q11; refine M1 Eb 12 fun K' J ρ q12 => ?_; go_simp; refine Ln Eb J fun _ Ea => ?_; clear J K' Eb q12; refine Ld [1, 3] Ea hK fun a hE => ?_; clear hK K Q' Ea; refine Ks ?_; refine Rs 4 fun Q' K hK => ?_; refine M1 hE 3 fun K' J ρ q3 => ?_; go_simp; refine Ln hE J fun _ Eb => ?_; clear J K' hE a q3; refine M1 Eb 13 fun K' J ρ q13 => ?_; go_simp; (try go_bits); (try simp (disch := omega) only [IntWalk.i64_in])
 refine Ln Eb J fun _ Ea => ?_; clear J K' Eb q13; have hN1I : (b.hours.length : Int) + 1 = N1 := by omega
 refine Lp fun K' J => ?_; have r14 := Ea.at 14 rfl; refine wp_make 105 (.tmp 14) (.tmp 14) rfl 104 (.agg #[.slice none 0 0, .slice none 0 0]) 2 48 Tryd.underlying105 (by kernel_rfl) N1 (eval_of r14) (eval_of r14) hN1I hN1I (by omega) (by omega) ?_; (try clear r14); refine Ln Ea J fun _ Eb => ?_; clear J K' Ea; refine M1 Eb 15 fun K' J ρ q15 => ?_; go_simp; refine Ln Eb J fun _ Ea => ?_; clear J K' Eb q15; refine Ld [1, 3, 4] Ea hK fun a hE => ?_; clear hK K Q' Ea; obtain ⟨O, hOe⟩ : ∃ B, B = w1.heap.size := ⟨_, rfl⟩; rw [← hOe] at hE; have hwO : w1.heap.size ≤ O := Nat.le_of_eq hOe.symm; refine world_cut (fun wt => Below w1.heap.size w1 wt ∧ OutG wt O b (b.hours.length + 1)) ⟨(Below.refl _ _).alloc (Nat.le_refl _) _, ⟨_, by rw [hOe, HN1.out]; exact farr_new w1 _ (N1 * 2) _, fun i hi hi2 => absurd hi (by omega)⟩⟩ (fun w2 hCut => ?_); obtain ⟨hW2, hO2⟩ := hCut; clear hOe hN1I nB cB7; refine Ks ?_; refine Rs 2 fun Q' K hK => ?_; refine M1 hE 3 fun K' J ρ q3 => ?_; go_simp; refine Ln hE J fun _ Eb => ?_; clear J K' hE a q3; refine M1 Eb 16 fun K' J ρ q16 => ?_; go_simp; refine Ln Eb J fun _ Ea => ?_; clear J K' Eb q16; refine Ld [1, 3, 4, 5] Ea hK fun a hE => ?_; clear hK K Q' Ea; refine Ks ?_; refine loop_st (fun (k : Nat) a w' => k ≤ b.hours.length + 1 ∧ Fits 151 [(1, .pointer (some ⟨B, 0, none⟩)), (3, .int .i64 b.hours.length), (4, .slice (some ⟨O, 0, none⟩) N1 N1), (5, .int .i64 ((k : Int) - 1))] a ∧ Below w1.heap.size w1 w' ∧ OutG w' O b k) (fun k => k) (b.hours.length + 1) ⟨Nat.le_refl _, by simpa using hE, hW2, hO2⟩ (fun k a wr hI => ?_)
 clear hE hO2 hW2; obtain ⟨hk, hE, hW, hO⟩ := hI; have hbr := hbw1.trans (hW.mono hbw1.size)
 rcases Nat.eq_zero_or_pos k with hk0 | hk0
 ·subst hk0; refine Ks ?_; refine Rs 2 fun Q' K hK => ?_; refine M1 hE 5 fun K' J ρ q5 => ?_; go_simp; refine Ln hE J fun _ Eb => ?_; clear J K' hE a q5; refine M1 Eb 17 fun K' J ρ q17 => ?_; go_simp; (try go_bits); refine Ln Eb J fun _ Ea => ?_; clear J K' Eb q17; replace Ea := Ea.turn 18 (v' := .bool false) rfl (by (first | (simp; done) | (simp; omega))); refine Ld [1, 3, 4, 5, 18] Ea hK fun a hE => ?_; clear hK K Q' Ea; refine Ks ?_; refine cond_no hE (t := 18) rfl ?_; refine Ks ?_; refine Rs 2 fun Q' K hK => ?_; refine M1 hE 4 fun K' J ρ q4 => ?_; go_simp; refine Ln hE J fun _ Eb => ?_; clear J K' hE a q4; refine M1 Eb 150 fun K' J ρ q150 => ?_; go_simp; refine Ln Eb J fun _ Ea => ?_; clear J K' Eb q150; refine Ld [2] Ea hK fun a hE => ?_; clear hK K Q' Ea; refine Ks ?_; exact ret_one hE rfl rfl ⟨⟨O, rfl, hO⟩, hbr⟩
 ·obtain ⟨h, rfl⟩ : ∃ h, k = h + 1 := ⟨k - 1, by omega⟩; have hhI : (((h + 1 : Nat) : Int) - 1) = h := by omega
  rw [hhI] at hE; clear hhI; have hhn : h ≤ b.hours.length := by omega
  refine Ks ?_; refine Rs 2 fun Q' K hK => ?_; refine M1 hE 5 fun K' J ρ q5 => ?_; go_simp; refine Ln hE J fun _ Eb => ?_; clear J K' hE a q5; refine M1 Eb 17 fun K' J ρ q17 => ?_; go_simp; (try go_bits); refine Ln Eb J fun _ Ea => ?_; clear J K' Eb q17; replace Ea := Ea.turn 18 (v' := .bool true) rfl (by (first | (simp; done) | (simp; omega))); refine Ld [1, 3, 4, 5, 18] Ea hK fun a hE => ?_; clear hK K Q' Ea; refine Ks ?_; refine cond_yes hE (t := 18) rfl ?_; refine Ks ?_; refine Rd [4] (fun wt => Below wr.heap.size wr wt) (fun w1 w2 => Below w1.heap.size w1 w2) [(0, some 21), (1, some 22), (2, some 23), (3, some 6)] [21, 22, 23, 6] #[true, true, true, true, false] [1, 3, 4, 5] hE ((Below.refl _ _).drew) fun Q' K hK => ?_; refine SeqOps.say (fun v wt => ∃ C, v = .slice (some ⟨C, 0, none⟩) 1500 1500 ∧ wr.heap.size ≤ C ∧ FArr wt C 1500 (fun _ => .bool false)) (fun _ _ _ hR ⟨C, e, h1, h2⟩ => ⟨C, e, h1, h2.below hR⟩) (Sp fun ax wx hS hT' hd K' J => ?_) ?_
  ·obtain ⟨_, _, _, _, _, hzT⟩ := bT hT'; refine wp_make 50 (.const (.int .i64 1500)) (.const (.int .i64 1500)) rfl 4 (.bool false) 1 1 Tryd.underlying50 (by kernel_rfl) 1500 rfl rfl rfl rfl (by decide) (by decide) ?_; exact J.out _ _ _ rfl ⟨_, rfl, hzT, (farr_new wx _ 1500 _).congr fun x hx => by show #[Value.bool false][x % 1]! = _; rw [Nat.mod_one]; rfl⟩ (hT'.trans (((Below.refl _ _).alloc (Nat.le_refl _) _).mono hT'.size)) ((Below.refl _ _).alloc (Nat.le_refl _) _)
  refine SeqOps.say (fun v wt => ∃ F, v = .slice (some ⟨F, 0, none⟩) 1500 1500 ∧ wr.heap.size ≤ F ∧ FArr wt F 3000 (fun _ => natV 0)) (fun _ _ _ hR ⟨C, e, h1, h2⟩ => ⟨C, e, h1, h2.below hR⟩) (Sp fun ax wx hS hT' hd K' J => ?_) ?_
  ·obtain ⟨_, _, _, _, _, hzT⟩ := bT hT'; refine wp_make 81 (.const (.int .i64 1500)) (.const (.int .i64 1500)) rfl 25 (.agg #[.int .i64 0, .int .i64 0]) 2 16 Tryd.underlying81 (by kernel_rfl) 1500 rfl rfl rfl rfl (by decide) (by decide) ?_; exact J.out _ _ _ rfl ⟨_, rfl, hzT, (farr_new wx _ 3000 _).congr fun x hx => by show #[Value.int .i64 0, Value.int .i64 0][x % 2]! = _; rcases Nat.mod_two_eq_zero_or_one x with e | e <;> rw [e] <;> rfl⟩ (hT'.trans (((Below.refl _ _).alloc (Nat.le_refl _) _).mono hT'.size)) ((Below.refl _ _).alloc (Nat.le_refl _) _)
  refine SeqOps.say (fun v wt => ∃ C F, v = .agg #[.slice (some ⟨C, 0, none⟩) 1500 1500, .slice (some ⟨F, 0, none⟩) 1500 1500] ∧ wr.heap.size ≤ C ∧ FArr wt C 1500 (fun _ => .bool false) ∧ wr.heap.size ≤ F ∧ FArr wt F 3000 (fun _ => natV 0)) (fun _ _ _ hR ⟨C, F, e, h1, h2, h3, h4⟩ => ⟨C, F, e, h1, h2.below hR, h3, h4.below hR⟩) (Sp fun ax wx hS hT' hd K' J => ?_) ?_
  ·obtain ⟨v21, r21, h21⟩ := Tg hd 1 0 21; obtain ⟨C0, rfl, hCw0, hC0⟩ := h21; obtain ⟨v22, r22, h22⟩ := Tg hd 0 1 22; obtain ⟨F0, rfl, hFw0, hF0⟩ := h22; obtain ⟨_, _, _, _, _, hzT⟩ := bT hT'; refine o2 r21 r22 fun ρ q21 q22 => ?_; go_simp; exact J.out _ _ _ rfl ⟨C0, F0, rfl, hCw0, hC0, hFw0, hF0⟩ hT' (Below.refl _ _)
  refine SeqOps.say (fun v wt => ∃ G, v = .pointer (some ⟨G, 0, none⟩) ∧ wr.heap.size ≤ G ∧ G < wt.heap.size ∧ Row wt G [.slice none 0 0, .slice none 0 0]) (fun _ _ _ hR ⟨C, e, h1, h2, h3⟩ => ⟨C, e, h1, Nat.lt_of_lt_of_le h2 hR.size, h3.below hR h2⟩) (Sp fun ax wx hS hT' hd K' J => ?_) ?_
  ·obtain ⟨_, _, _, _, _, hzT⟩ := bT hT'; refine o0 fun ρ => ?_; go_simp; exact J.out _ _ _ rfl ⟨_, rfl, hzT, by simp, row_new wx _ _⟩ (hT'.trans (((Below.refl _ _).alloc (Nat.le_refl _) _).mono hT'.size)) ((Below.refl _ _).alloc (Nat.le_refl _) _)
  refine SeqOps.nil ?_
  intro wa hBm; (refine fun v h => ?_; obtain ⟨C0, rfl, hCw0, hC0⟩ := h); (refine fun v h => ?_; obtain ⟨F0, rfl, hFw0, hF0⟩ := h); (refine fun v h => ?_; obtain ⟨C, F, rfl, hCw, hC, hFw, hF⟩ := h); (refine fun v h => ?_; obtain ⟨G, rfl, hGw, hGl, hGR⟩ := h);
  refine fun amx hEmx => ?_; simp only [lk, pick, Nat.reduceEqDiff, ↓reduceIte] at hEmx; refine Lp fun K' J => ?_; have r6 := hEmx.at 6 rfl; have r23 := hEmx.at 23 rfl; refine wp_store_mid 104 (.tmp 6) (.tmp 23) rfl G 0 #[.slice (some ⟨C, 0, none⟩) 1500 1500, .slice (some ⟨F, 0, none⟩) 1500 1500] (eval_of r6) (eval_of r23) (there_row hGR (Nat.le_of_eq rfl)) (by kernel_rfl) (by kernel_rfl) ?_; (try clear r6 r23); refine late_skip hEmx J (fun am_1 hEm_1 => ?_); clear J K'; clear hEmx; refine Ld [1, 3, 4, 5, 6] hEm_1 hK fun a hE => ?_; clear hK K Q' hEm_1; have hbwa := hbr.trans (hBm.mono hbr.size); have hCG : C ≠ G := fun e => by subst e; have h1 := hC.cell 0 (by omega); rw [(hGR 0 _ rfl).1] at h1; cases h1
  have hFG : F ≠ G := fun e => by subst e; have h1 := hF.cell 0 (by omega); rw [(hGR 0 _ rfl).1] at h1; cases h1
  have hCF : C ≠ F := fun e => by subst e; have h1 := hC.cell 0 (by omega); rw [hF.cell 0 (by omega)] at h1; cases h1
  refine world_cut (fun wt => GoS wr G C F (fun _ => none) wt) ⟨below_setCells hBm hGw _ _, row_cells (row_all hGR rfl) (by rw [size_setCellsN]; exact hGl), ⟨(hC.other _ (Ne.symm hCG)).other _ (Ne.symm hCG), ((hF.other _ (Ne.symm hFG)).other _ (Ne.symm hFG)).congr fun x hx => by unfold falV; split <;> rfl⟩⟩ (fun wb hS => ?_); have hOl : O < wr.heap.size := (hO.ex.elim fun _ h => h.1.lt); have hCO : C ≠ O := by omega
  have hFO : F ≠ O := by omega
  have HOx : Hid (∀ V, Below wr.heap.size wr V → OutG V O b (h + 1)) := hid fun V hV => hO.below hV; have HCr : Hid (∀ V, Below wr.heap.size wr V → Cells V B (sbV H hcap S scap b)) := hid fun V hV => (hCB.below hW).below hV; have HMr : Hid (∀ V, Below wr.heap.size wr V → SbAt V H S b) := hid fun V hV => (hM1.below hW).below hV; clear hC hF hGR hGl hBm hC0 hF0 hCw0 hFw0; refine Ks ?_; refine Rs 1 fun Q' K hK => ?_; refine M0 fun K' J ρ => ?_; go_simp; refine Ln hE J fun _ Eb => ?_; clear J K' hE a; refine Ld [1, 3, 4, 5, 6, 7] Eb hK fun a hE => ?_; clear hK K Q' Eb; refine Ks ?_; refine loop_st (fun (l : Nat) a w' => l ≤ 1500 ∧ Fits 151 [(1, .pointer (some ⟨B, 0, none⟩)), (3, .int .i64 b.hours.length), (4, .slice (some ⟨O, 0, none⟩) N1 N1), (5, .int .i64 h), (6, .pointer (some ⟨G, 0, none⟩)), (7, .int .i64 l)] a ∧ GoS wr G C F (fun y => if y < l then gamB b h y else none) w') (fun l => 1500 - l) 0 ⟨Nat.zero_le _, by simpa using hE, hS.congr fun y _ => by rw [if_neg (by omega)]⟩ (fun l a ws hL => ?_); clear hE hS; obtain ⟨hl, hE, hS⟩ := hL
  by_cases hlt : l < 1500
  ·have hltI : (l : Int) < 1500 := by omega
   by_cases hlast : h = b.hours.length
   ·have hlI : (h : Int) = b.hours.length := by omega
    have nG := hS.row.1; have eG0 := hS.row.2 0 _ rfl; have yw := hS.at_.can.wr l hlt; have nC := hS.at_.can.lt; have hgl : gamB b h l = some (0, 0) := by rw [hlast]; exact gam_last b l
    have HGl := hid hgl; have HLI := hid hlI; clear hgl hlast hlI; refine Ks ?_; refine Rs 2 fun Q' K hK => ?_; refine M1 hE 7 fun K' J ρ q7 => ?_; go_simp; refine Ln hE J fun _ Eb => ?_; clear J K' hE a q7; refine M1 Eb 24 fun K' J ρ q24 => ?_; go_simp; (try go_bits); refine Ln Eb J fun _ Ea => ?_; clear J K' Eb q24; replace Ea := Ea.turn 25 (v' := .bool true) rfl (by (first | (simp; done) | (simp; omega))); refine Ld [1, 3, 4, 5, 6, 7, 25] Ea hK fun a hE => ?_; clear hK K Q' Ea; refine Ks ?_; refine cond_yes hE (t := 25) rfl ?_; refine Ks ?_; refine Rs 3 fun Q' K hK => ?_; refine M1 hE 5 fun K' J ρ q5 => ?_; go_simp; refine Ln hE J fun _ Eb => ?_; clear J K' hE a q5; refine M1 Eb 3 fun K' J ρ q3 => ?_; go_simp; refine Ln Eb J fun _ Ea => ?_; clear J K' Eb q3; refine M2 Ea 28 29 fun K' J ρ q28 q29 => ?_; go_simp; (try go_bits); refine Ln Ea J fun _ Eb => ?_; clear J K' Ea q28 q29; replace Eb := Eb.turn 30 (v' := .bool true) rfl (by (rw [HLI.out]; first | (simp; done) | (simp; omega))); refine Ld [1, 3, 4, 5, 6, 7, 30] Eb hK fun a hE => ?_; clear hK K Q' Eb; refine Ks ?_; refine cond_yes hE (t := 30) rfl ?_; refine Ks ?_; refine Rs 5 fun Q' K hK => ?_; refine M1 hE 6 fun K' J ρ q6 => ?_; go_simp; refine Ln hE J fun _ Eb => ?_; clear J K' hE a q6; refine M1 Eb 31 fun K' J ρ q31 => ?_; go_simp; refine Ln Eb J fun _ Ea => ?_; clear J K' Eb q31; refine M1 Ea 7 fun K' J ρ q7 => ?_; go_simp; refine Ln Ea J fun _ Eb => ?_; clear J K' Ea q7; refine M2 Eb 32 33 fun K' J ρ q32 q33 => ?_; go_simp; (try go_bits)
    refine Ln Eb J fun _ Ea => ?_; clear J K' Eb q32 q33; refine M1 Ea 34 fun K' J ρ q34 => ?_; go_simp; (try clear q34); refine late_skip Ea J (fun _ Eb => ?_); clear J K'; clear Ea; refine Ld [1, 3, 4, 5, 6, 7] Eb hK fun a hE => ?_; clear hK K Q' Eb; refine world_cut (fun wt => GoS wr G C F (fun y => if y < l + 1 then gamB b h y else none) wt) (hS.last hlt HGl.out hCG hCF hCw) (fun wt hSn => ?_); clear yw nC nG eG0; refine Ks ?_; refine Rs 3 fun Q' K hK => ?_; refine M1 hE 7 fun K' J ρ q7 => ?_; go_simp; refine Ln hE J fun _ Eb => ?_; clear J K' hE a q7; refine M1 Eb 26 fun K' J ρ q26 => ?_; go_simp; (try go_bits); (try simp (disch := omega) only [IntWalk.i64_in]); refine Ln Eb J fun _ Ea => ?_; clear J K' Eb q26; refine M1 Ea 27 fun K' J ρ q27 => ?_; go_simp; refine Ln Ea J fun _ Eb => ?_; clear J K' Ea q27; refine Ld [1, 3, 4, 5, 6, 7] Eb hK fun a hE => ?_; clear hK K Q' Eb; refine Ks ?_; exact ⟨l + 1, ⟨hlt, by simpa using hE, hSn⟩, by omega⟩
   ·have hh : h < b.hours.length := by omega
    have hneI : ¬ (h : Int) = b.hours.length := by omega
    have h12' : h < 12 := by omega
    have HNE := hid hneI; clear hneI
    by_cases hbk : 300 + 95 * h < l
    ·replace hS := hS.congr (g' := gamB b h) fun y _ => by
      by_cases e : y < l
      ·rw [if_pos e]
      ·rw [if_neg e, gam_none hh (by omega)]
     refine Ks ?_; refine Rs 2 fun Q' K hK => ?_; refine M1 hE 7 fun K' J ρ q7 => ?_; go_simp; refine Ln hE J fun _ Eb => ?_; clear J K' hE a q7; refine M1 Eb 24 fun K' J ρ q24 => ?_; go_simp; (try go_bits); refine Ln Eb J fun _ Ea => ?_; clear J K' Eb q24; replace Ea := Ea.turn 25 (v' := .bool true) rfl (by (first | (simp; done) | (simp; omega))); refine Ld [1, 3, 4, 5, 6, 7, 25] Ea hK fun a hE => ?_; clear hK K Q' Ea; refine Ks ?_; refine cond_yes hE (t := 25) rfl ?_; refine Ks ?_; refine Rs 3 fun Q' K hK => ?_; refine M1 hE 5 fun K' J ρ q5 => ?_; go_simp; refine Ln hE J fun _ Eb => ?_; clear J K' hE a q5; refine M1 Eb 3 fun K' J ρ q3 => ?_; go_simp; refine Ln Eb J fun _ Ea => ?_; clear J K' Eb q3; refine M2 Ea 28 29 fun K' J ρ q28 q29 => ?_; go_simp; (try go_bits); refine Ln Ea J fun _ Eb => ?_; clear J K' Ea q28 q29; replace Eb := Eb.turn 30 (v' := .bool false) rfl (by (first | (simp [HNE.out]; done) | (simp; have := HNE.out; omega))); refine Ld [1, 3, 4, 5, 6, 7, 30] Eb hK fun a hE => ?_; clear hK K Q' Eb; refine Ks ?_; refine cond_no hE (t := 30) rfl ?_; refine Ks ?_; refine Rs 5 fun Q' K hK => ?_; refine M1 hE 7 fun K' J ρ q7 => ?_; go_simp; refine Ln hE J fun _ Eb => ?_; clear J K' hE a q7; refine M1 Eb 5 fun K' J ρ q5 => ?_; go_simp; refine Ln Eb J fun _ Ea => ?_; clear J K' Eb q5; refine M1 Ea 36 fun K' J ρ q36 => ?_; go_simp; (try go_bits); (try simp (disch := omega) only [IntWalk.i64_in]); refine Ln Ea J fun _ Eb => ?_; clear J K' Ea q36; refine M1 Eb 37 fun K' J ρ q37 => ?_; go_simp; (try go_bits); (try simp (disch := omega) only [IntWalk.i64_in])
     refine Ln Eb J fun _ Ea => ?_; clear J K' Eb q37; refine M2 Ea 35 38 fun K' J ρ q35 q38 => ?_; go_simp; (try go_bits); refine Ln Ea J fun _ Eb => ?_; clear J K' Ea q35 q38; replace Eb := Eb.turn 39 (v' := .bool true) rfl (by (first | (simp; done) | (simp; omega))); refine Ld [1, 3, 4, 5, 6, 7, 39] Eb hK fun a hE => ?_; clear hK K Q' Eb; refine Ks ?_; refine cond_yes hE (t := 39) rfl ?_; refine Ks ?_; have hSx := hS; have hOx := HOx.out _ hSx.below; have hGr := hSx.row; have hbx := hbr.trans (hSx.below.mono hbr.size); have hOF := hOx.ex; have hN1J : (h : Int) < N1 := by have := HN1.out; omega
     obtain ⟨gg, hgF, _⟩ := hOF; refine Rs 5 fun Q' K hK => ?_; refine M1 hE 4 fun K' J ρ q4 => ?_; go_simp; refine Ln hE J fun _ Eb => ?_; clear J K' hE a q4; refine M1 Eb 5 fun K' J ρ q5 => ?_; go_simp; refine Ln Eb J fun _ Ea => ?_; clear J K' Eb q5; refine Lp fun K' J => ?_; have r6 := Ea.at 6 rfl; refine wp_load_mid 104 (.tmp 6) rfl G 0 (eval_of r6) [.slice (some ⟨C, 0, none⟩) 1500 1500, .slice (some ⟨F, 0, none⟩) 1500 1500] _ (fun j u hu => by rw [Nat.zero_add]; exact hGr.2 j u hu) Tryd.underlying104 rfl (by kernel_rfl) ?_; (try clear r6); refine Ln Ea J fun _ Eb => ?_; clear J K' Ea; refine M2 Eb 146 147 fun K' J ρ q146 q147 => ?_; go_simp; (try go_bits); refine Ln Eb J fun _ Ea => ?_; clear J K' Eb q146 q147; refine Lp fun K' J => ?_; have r149 := Ea.at 149 rfl; have r148 := Ea.at 148 rfl; refine wp_store_mid 104 (.tmp 149) (.tmp 148) rfl O (h * 2) #[.slice (some ⟨C, 0, none⟩) 1500 1500, .slice (some ⟨F, 0, none⟩) 1500 1500] (eval_of r149) (eval_of r148) (hgF.there (show h * 2 + 2 ≤ (b.hours.length + 1) * 2 by omega)) (by kernel_rfl) (by kernel_rfl) ?_; (try clear r149 r148); refine late_skip Ea J (fun _ Eb => ?_); clear J K'; clear Ea; refine Ld [1, 3, 4, 5] Eb hK fun a hE => ?_; clear hK K Q' Eb; refine world_cut (fun wt => Below w1.heap.size w1 wt ∧ OutG wt O b h) ⟨below_setCells (hW.trans (hSx.below.mono hW.size)) hwO _ _, hOx.next hhn hSx.at_ hCO hFO⟩ (fun wt hCut => ?_); obtain ⟨hWt, hOt⟩ := hCut; clear hgF hOx hGr hSx; refine Ks ?_; refine Rs 3 fun Q' K hK => ?_
     refine M1 hE 5 fun K' J ρ q5 => ?_; go_simp; refine Ln hE J fun _ Eb => ?_; clear J K' hE a q5; refine M1 Eb 19 fun K' J ρ q19 => ?_; go_simp; (try go_bits); (try simp (disch := omega) only [IntWalk.i64_in]); refine Ln Eb J fun _ Ea => ?_; clear J K' Eb q19; refine M1 Ea 20 fun K' J ρ q20 => ?_; go_simp; refine Ln Ea J fun _ Eb => ?_; clear J K' Ea q20; refine Ld [1, 3, 4, 5] Eb hK fun a hE => ?_; clear hK K Q' Eb; refine Ks ?_; exact ⟨h, ⟨by omega, by simpa using hE, hWt, hOt⟩, by omega⟩
    ·have hld : l ≤ 300 + 95 * h := by omega
     have hCrV := HCr.out _ hS.below; refine Ks ?_; refine Rs 2 fun Q' K hK => ?_; refine M1 hE 7 fun K' J ρ q7 => ?_; go_simp; refine Ln hE J fun _ Eb => ?_; clear J K' hE a q7; refine M1 Eb 24 fun K' J ρ q24 => ?_; go_simp; (try go_bits); refine Ln Eb J fun _ Ea => ?_; clear J K' Eb q24; replace Ea := Ea.turn 25 (v' := .bool true) rfl (by (first | (simp; done) | (simp; omega))); refine Ld [1, 3, 4, 5, 6, 7, 25] Ea hK fun a hE => ?_; clear hK K Q' Ea; refine Ks ?_; refine cond_yes hE (t := 25) rfl ?_; refine Ks ?_; refine Rs 3 fun Q' K hK => ?_; refine M1 hE 5 fun K' J ρ q5 => ?_; go_simp; refine Ln hE J fun _ Eb => ?_; clear J K' hE a q5; refine M1 Eb 3 fun K' J ρ q3 => ?_; go_simp; refine Ln Eb J fun _ Ea => ?_; clear J K' Eb q3; refine M2 Ea 28 29 fun K' J ρ q28 q29 => ?_; go_simp; (try go_bits); refine Ln Ea J fun _ Eb => ?_; clear J K' Ea q28 q29; replace Eb := Eb.turn 30 (v' := .bool false) rfl (by (first | (simp [HNE.out]; done) | (simp; have := HNE.out; omega))); refine Ld [1, 3, 4, 5, 6, 7, 30] Eb hK fun a hE => ?_; clear hK K Q' Eb; refine Ks ?_; refine cond_no hE (t := 30) rfl ?_; refine Ks ?_; refine Rs 5 fun Q' K hK => ?_; refine M1 hE 7 fun K' J ρ q7 => ?_; go_simp; refine Ln hE J fun _ Eb => ?_; clear J K' hE a q7; refine M1 Eb 5 fun K' J ρ q5 => ?_; go_simp; refine Ln Eb J fun _ Ea => ?_; clear J K' Eb q5; refine M1 Ea 36 fun K' J ρ q36 => ?_; go_simp; (try go_bits); (try simp (disch := omega) only [IntWalk.i64_in]); refine Ln Ea J fun _ Eb => ?_; clear J K' Ea q36
     refine M1 Eb 37 fun K' J ρ q37 => ?_; go_simp; (try go_bits); (try simp (disch := omega) only [IntWalk.i64_in]); refine Ln Eb J fun _ Ea => ?_; clear J K' Eb q37; refine M2 Ea 35 38 fun K' J ρ q35 q38 => ?_; go_simp; (try go_bits); refine Ln Ea J fun _ Eb => ?_; clear J K' Ea q35 q38; replace Eb := Eb.turn 39 (v' := .bool false) rfl (by (first | (simp; done) | (simp; omega))); refine Ld [1, 3, 4, 5, 6, 7, 39] Eb hK fun a hE => ?_; clear hK K Q' Eb; refine Ks ?_; refine cond_no hE (t := 39) rfl ?_; refine Ks ?_; refine Rs 5 fun Q' K hK => ?_; refine Lp fun K' J => ?_; have r1 := hE.at 1 rfl; refine wp_load_mid 29 (.tmp 1) rfl B 0 (eval_of r1) (sbV H hcap S scap b) _ (fun j u hu => by rw [Nat.zero_add]; exact (hCrV).2 j u hu) Tryd.underlying29 rfl (by kernel_rfl) ?_; (try clear r1); refine Ln hE J fun _ Eb => ?_; clear J K' hE a; refine M1 Eb 5 fun K' J ρ q5 => ?_; go_simp; refine Ln Eb J fun _ Ea => ?_; clear J K' Eb q5; refine M1 Ea 7 fun K' J ρ q7 => ?_; go_simp; refine Ln Ea J fun _ Eb => ?_; clear J K' Ea q7; refine M3 Eb 40 41 42 fun K' J ρ q40 q41 q42 => ?_; go_simp; (try go_bits); (try clear q40 q41 q42); go_at_call 86; refine (rloads_any H hcap S scap b hb hh l (by omega) _ (HMr.out _ hS.below)).mono ?_; rintro e u1 ⟨⟨Dg, dc, rfl, hDw, hFD⟩, k1⟩; (try clear r40 r41 r42); refine Ln Eb J fun _ Ea => ?_; clear J K' Eb; refine M1 Ea 43 fun K' J ρ q43 => ?_; go_simp; refine Ln Ea J fun _ Eb => ?_; clear J K' Ea q43; refine Ld [1, 3, 4, 5, 6, 7, 8] Eb hK fun a hE => ?_; clear hK K Q' Eb
     have hDC : Dg ≠ C := by have := hS.at_.can.lt; omega
     have hDF : Dg ≠ F := by have := hS.at_.fal.lt; omega
     replace hS := hS.on k1; clear hCrV; have HGM : Hid (gamB b h l = (ldsR b h b.hours[h] l).foldl (stepG (hpI b h b.hours[h]) (goalP ((hpsOf b).drop (h + 1)))) none) := hid (gam_step hh hld)
     have HDM : Hid (∀ i, (hi : i < (ldsR b h b.hours[h] l).length) → (ldsR b h b.hours[h] l).getD i 0 ≤ l + 95) := hid fun i hi => by
      have hs : Small (hpI b h b.hours[h] :: (hpsOf b).drop (h + 1)) := by
       have hh' : h < (hpsOf b).length := by rw [hpsOf_length]; exact hh
       have := List.drop_eq_getElem_cons hh'; rw [hpsOf_at b h hh hh'] at this; rw [← this]; exact fun x hx => small_of hb x (List.mem_of_mem_drop hx)
      refine loN_le hs (l := l) ?_; rw [List.getD_eq_getElem?_getD, List.getElem?_eq_getElem hi]; exact List.getElem_mem hi
     have CF : Hid (∀ (m : Nat) (f : Bool) (W : World), SbAt W H S b → Calls Tryd.prog 87 #[.agg (sbV H hcap S scap b).toArray, .int .i64 h, .int .i64 m, .bool f] W fun e w' => e = .returned (.bool (fiB (hpI b h b.hours[h]) m f)) ∧ Below W.heap.size W w') := hid fun m f W hW => by
      have h0 := rfits_any H hcap S scap b (by omega) h m f W hW; rw [fitR_eq b h b.hours[h] m f] at h0; exact h0
     obtain ⟨D, hDe⟩ : ∃ D, ldsR b h b.hours[h] l = D := ⟨_, rfl⟩; rw [hDe] at hFD HGM HDM hE
     have HD64 : D.length ≤ 64 := by
      rw [← hDe]
      unfold ldsR
      rw [List.length_map]; refine Nat.le_trans (nub_len _) ?_; rw [← lis_all]; have hHr := hb.hour b.hours[h] (List.getElem_mem hh); have := lisA_len b.sl b.hours[h] (b.hours[h].n2 - b.hours[h].n1 + 1).toNat (by omega) (by omega)
      omega
     clear hDe; refine Ks ?_; refine Rs 1 fun Q' K hK => ?_; refine M0 fun K' J ρ => ?_; go_simp; refine Ln hE J fun _ Eb => ?_; clear J K' hE a; refine Ld [1, 3, 4, 5, 6, 7, 8, 9] Eb hK fun a hE => ?_; clear hK K Q' Eb; refine Ks ?_; refine loop_st (fun (i : Nat) a w' => i ≤ D.length ∧ Fits 151 [(1, .pointer (some ⟨B, 0, none⟩)), (3, .int .i64 b.hours.length), (4, .slice (some ⟨O, 0, none⟩) N1 N1), (5, .int .i64 h), (6, .pointer (some ⟨G, 0, none⟩)), (7, .int .i64 l), (8, .slice (some ⟨Dg, 0, none⟩) D.length dc), (9, .int .i64 i)] a ∧ GoS wr G C F (updG (fun y => if y < l then gamB b h y else none) l ((D.take i).foldl (stepG (hpI b h b.hours[h]) (goalP ((hpsOf b).drop (h + 1)))) none)) w' ∧ FArr w' Dg D.length (fun x => natV (D.getD x 0))) (fun i => D.length - i) 0 ⟨Nat.zero_le _, by simpa using hE, hS.congr fun y _ => by unfold updG; by_cases e : y = l <;> simp [e], hFD⟩ (fun i a wv hJ => ?_); clear hE hS hFD; obtain ⟨hi, hE, hS, hFD⟩ := hJ
     by_cases hil : i < D.length
     ·have hilI : (i : Int) < D.length := by omega
      have HIL := hid hil; have hml := HDM.out i hil; have HFo := hid (fold_take (stepG (hpI b h b.hours[h]) (goalP ((hpsOf b).drop (h + 1)))) none hil); obtain ⟨m, hm⟩ : ∃ m, D.getD i 0 = m := ⟨_, rfl⟩; rw [hm] at hml HFo; have HMv := hid hm; replace CF := hid fun (f : Bool) (W : World) hW => CF.out m f W hW; obtain ⟨acc0, hac0⟩ : ∃ acc, (D.take i).foldl (stepG (hpI b h b.hours[h]) (goalP ((hpsOf b).drop (h + 1)))) none = acc := ⟨_, rfl⟩; rw [hac0] at hS HFo; have hmI : (m : Int) < 1500 := by omega
      have hN1I : (h : Int) + 1 < N1 := by have := HN1.out; omega
      have hN1J : (h : Int) < N1 := by omega
      clear hm hac0 hi; refine Ks ?_; refine Rs 4 fun Q' K hK => ?_; refine M1 hE 9 fun K' J ρ q9 => ?_; go_simp; refine Ln hE J fun _ Eb => ?_; clear J K' hE a q9; refine M1 Eb 8 fun K' J ρ q8 => ?_; go_simp; refine Ln Eb J fun _ Ea => ?_; clear J K' Eb q8; refine M1 Ea 45 fun K' J ρ q45 => ?_; go_simp; (try go_bits); refine Ln Ea J fun _ Eb => ?_; clear J K' Ea q45; refine M2 Eb 44 46 fun K' J ρ q44 q46 => ?_; go_simp; (try go_bits); refine Ln Eb J fun _ Ea => ?_; clear J K' Eb q44 q46; replace Ea := Ea.turn 47 (v' := .bool true) rfl (by (first | (simp; done) | (simp; omega))); refine Ld [1, 3, 4, 5, 6, 7, 8, 9, 47] Ea hK fun a hE => ?_; clear hK K Q' Ea; refine Ks ?_; refine cond_yes hE (t := 47) rfl ?_; refine Ks ?_; refine cut2 (I := fun a V => ∃ acc, Fits 151 [(1, .pointer (some ⟨B, 0, none⟩)), (3, .int .i64 b.hours.length), (4, .slice (some ⟨O, 0, none⟩) N1 N1), (5, .int .i64 h), (6, .pointer (some ⟨G, 0, none⟩)), (7, .int .i64 l), (8, .slice (some ⟨Dg, 0, none⟩) D.length dc), (9, .int .i64 i)] a ∧ stepA (hpI b h b.hours[h]) (goalP ((hpsOf b).drop (h + 1))) acc0 m = acc ∧ GoS wr G C F (updG (fun y => if y < l then gamB b h y else none) l acc) V ∧ FArr V Dg D.length (fun x => natV (D.getD x 0))) ?_ (fun a V hI => ?_)
      ·skip
       obtain ⟨C1, F1, og0, og1, nO, hG1⟩ := (HOx.out _ hS.below).get (i := h + 1) (Nat.le_refl _) (by omega); have nC1 := hG1.can.lt; have nF1 := hG1.fal.lt; have z0 := hG1.can.cell m (by omega); obtain ⟨z1, z2⟩ := hG1.fal.fals (l := m) (by omega); have HG1 : Hid (gamB b (h + 1) m = goalP ((hpsOf b).drop (h + 1)) m) := hid (gam_next (by omega)); rw [HG1.out] at z0 z1 z2; simp only [canV, natV] at z0 z1 z2; have y0 := hFD.cell i HIL.out; have nD := hFD.lt; rw [HMv.out] at y0; simp only [natV] at y0; have hCrV := HCr.out _ hS.below; have hMV := HMr.out _ hS.below; clear hG1
       cases hq1 : fiB (hpI b h b.hours[h]) m false
       ·have CF1 := hid fun W hW => CF.out false W hW; rw [hq1] at CF1; refine Rd [20] (fun wt => Below wv.heap.size wv wt) (fun w1 w2 => Below w1.heap.size w1 w2) [(0, some 50), (1, some 51), (2, some 52), (3, some 53), (4, some 54), (5, some 55), (6, some 56), (7, some 57), (8, some 58), (9, some 59), (10, some 60), (11, some 61), (12, some 62), (13, some 63), (14, some 64), (15, some 65), (16, some 66), (17, some 67), (18, some 68), (19, some 69)] [50, 51, 52, 53, 54, 55, 56, 57, 58, 59, 60, 61, 62, 63, 64, 65, 66, 67, 68, 69] #[true, true, true, true, true, true, true, true, true, true, true, true, true, true, true, true, true, true, true, true, false] [1, 3, 4, 5, 6, 7, 8, 9, 70] hE ((Below.refl _ _).drew) fun Q' K hK => ?_; refine SeqOps.val ?_ (Sp fun ax wx hS hT' hd K' J => ?_) ?_; rotate_left 1
        ·have r1 := Ta hS hE 1; obtain ⟨_, _, _, _, _, hzT⟩ := bT hT'; refine wp_load_mid 29 (.tmp 1) rfl B 0 (eval_of r1) (sbV H hcap S scap b) _ (fun j u hu => by rw [Nat.zero_add]; exact (hCrV.below hT').2 j u hu) Tryd.underlying29 rfl (by kernel_rfl) ?_; refine J.out _ _ _ rfl ?_ hT' (Below.refl _ _); rfl
        refine SeqOps.val ?_ (Sp fun ax wx hS hT' hd K' J => ?_) ?_; rotate_left 1
        ·have r5 := Ta hS hE 5; refine o1 r5 fun ρ q5 => ?_; go_simp; exact Jo J hT'
        refine SeqOps.val ?_ (Sp fun ax wx hS hT' hd K' J => ?_) ?_; rotate_left 1
        ·have r8 := Ta hS hE 8; refine o1 r8 fun ρ q8 => ?_; go_simp; exact Jo J hT'
        refine SeqOps.val ?_ (Sp fun ax wx hS hT' hd K' J => ?_) ?_; rotate_left 1
        ·have r9 := Ta hS hE 9; refine o1 r9 fun ρ q9 => ?_; go_simp; exact Jo J hT'
        refine SeqOps.val ?_ (Sp fun ax wx hS hT' hd K' J => ?_) ?_; rotate_left 1
        ·have r52 := Tv hd 1 2 52; have r53 := Tv hd 0 3 53; refine o2 r52 r53 fun ρ q52 q53 => ?_; go_simp; (try go_bits); refine J.out _ _ _ rfl ?_ hT' (Below.refl _ _); rfl
        refine SeqOps.val ?_ (Sp fun ax wx hS hT' hd K' J => ?_) ?_; rotate_left 1
        ·have r54 := Tv hd 0 4 54; obtain ⟨_, _, _, _, _, hzT⟩ := bT hT'; refine o1 r54 fun ρ q54 => ?_; go_simp; exact Jo J hT'
        refine SeqOps.val ?_ (Sp fun ax wx hS hT' hd K' J => ?_) ?_; rotate_left 1
        ·have r50 := Tv hd 5 0 50; have r51 := Tv hd 4 1 51; have r55 := Tv hd 0 5 55; obtain ⟨_, _, _, _, _, hzT⟩ := bT hT'; refine o3 r50 r51 r55 fun ρ q50 q51 q55 => ?_; go_simp; (try go_bits); go_at_call 87; refine (CF1.out _ (hMV.below hT')).mono ?_; rintro e g1 ⟨rfl, k1⟩; refine J.out _ _ _ rfl ?_ (hT'.trans (k1.mono hT'.size)) k1; rfl
        refine SeqOps.val ?_ (Sp fun ax wx hS hT' hd K' J => ?_) ?_; rotate_left 1
        ·have r56 := Tv hd 0 6 56; refine o1 r56 fun ρ q56 => ?_; go_simp; exact Jo J hT'
        refine SeqOps.val _ (Sn 0 57) ?_; refine SeqOps.val _ (Sn 1 57) ?_; refine SeqOps.val _ (Sn 2 57) ?_; refine SeqOps.val _ (Sn 3 57) ?_; refine SeqOps.val _ (Sn 4 57) ?_; refine SeqOps.val _ (Sn 5 57) ?_; refine SeqOps.val _ (Sn 6 57) ?_; refine SeqOps.val _ (Sn 7 57) ?_; refine SeqOps.val _ (Sn 8 57) ?_; refine SeqOps.val _ (Sn 9 57) ?_; refine SeqOps.val _ (Sn 10 57) ?_; refine SeqOps.val _ (Sn 11 57) ?_; refine SeqOps.nil ?_
        intro wf hBf; (repeat refine Ek ?_)
        refine fun afx hEfx => ?_; simp only [lk, pick, Nat.reduceEqDiff, ↓reduceIte] at hEfx; refine M2 hEfx 57 69 fun K' J ρ q57 q69 => ?_; go_simp; (try go_bits); (try clear q57 q69); refine Ln hEfx J fun af_1 hEf_1 => ?_; clear J K' hEfx; refine Ld [1, 3, 4, 5, 6, 7, 8, 9, 70] hEf_1 hK fun a hE => ?_; clear hK K Q' hEf_1; replace hE := hE.turn 70 (v' := .bool false) rfl (by first | rfl | simp); refine Ks ?_; refine cond_no hE (t := 70) rfl ?_; refine Ks ?_; replace hS := hS.on hBf; replace hFD := hFD.below hBf; clear og0 og1 nO nC1 nF1 z0 z1 z2 y0 nD hCrV hMV; exact ⟨acc0, hE.keep [1, 3, 4, 5, 6, 7, 8, 9], step_no (by rw [hq1]; rfl), hS, hFD⟩
       ·have CF1 := hid fun W hW => CF.out false W hW; rw [hq1] at CF1; obtain ⟨po1, hpo1⟩ : ∃ po, goalP ((hpsOf b).drop (h + 1)) m = po := ⟨_, rfl⟩; rw [hpo1] at z0 z1 z2; have HPO1 := hid hpo1; clear hpo1
        rcases po1 with _ | p
        ·skip
         refine Rd [20] (fun wt => Below wv.heap.size wv wt) (fun w1 w2 => Below w1.heap.size w1 w2) [(0, some 50), (1, some 51), (2, some 52), (3, some 53), (4, some 54), (5, some 55), (6, some 56), (7, some 57), (8, some 58), (9, some 59), (10, some 60), (11, some 61), (12, some 62), (13, some 63), (14, some 64), (15, some 65), (16, some 66), (17, some 67), (18, some 68), (19, some 69)] [50, 51, 52, 53, 54, 55, 56, 57, 58, 59, 60, 61, 62, 63, 64, 65, 66, 67, 68, 69] #[true, true, true, true, true, true, true, true, true, true, true, true, true, true, true, true, true, true, true, true, false] [1, 3, 4, 5, 6, 7, 8, 9, 70] hE ((Below.refl _ _).drew) fun Q' K hK => ?_; refine SeqOps.val ?_ (Sp fun ax wx hS hT' hd K' J => ?_) ?_; rotate_left 1
         ·have r1 := Ta hS hE 1; obtain ⟨_, _, _, _, _, hzT⟩ := bT hT'; refine wp_load_mid 29 (.tmp 1) rfl B 0 (eval_of r1) (sbV H hcap S scap b) _ (fun j u hu => by rw [Nat.zero_add]; exact (hCrV.below hT').2 j u hu) Tryd.underlying29 rfl (by kernel_rfl) ?_; refine J.out _ _ _ rfl ?_ hT' (Below.refl _ _); rfl
         refine SeqOps.val ?_ (Sp fun ax wx hS hT' hd K' J => ?_) ?_; rotate_left 1
         ·have r5 := Ta hS hE 5; refine o1 r5 fun ρ q5 => ?_; go_simp; exact Jo J hT'
         refine SeqOps.val ?_ (Sp fun ax wx hS hT' hd K' J => ?_) ?_; rotate_left 1
         ·have r8 := Ta hS hE 8; refine o1 r8 fun ρ q8 => ?_; go_simp; exact Jo J hT'
         refine SeqOps.val ?_ (Sp fun ax wx hS hT' hd K' J => ?_) ?_; rotate_left 1
         ·have r9 := Ta hS hE 9; refine o1 r9 fun ρ q9 => ?_; go_simp; exact Jo J hT'
         refine SeqOps.val ?_ (Sp fun ax wx hS hT' hd K' J => ?_) ?_; rotate_left 1
         ·have r52 := Tv hd 1 2 52; have r53 := Tv hd 0 3 53; refine o2 r52 r53 fun ρ q52 q53 => ?_; go_simp; (try go_bits); refine J.out _ _ _ rfl ?_ hT' (Below.refl _ _); rfl
         refine SeqOps.val ?_ (Sp fun ax wx hS hT' hd K' J => ?_) ?_; rotate_left 1
         ·have r54 := Tv hd 0 4 54; obtain ⟨_, _, _, _, _, hzT⟩ := bT hT'; refine o1 r54 fun ρ q54 => ?_; go_simp; exact Jo J hT'
         refine SeqOps.val ?_ (Sp fun ax wx hS hT' hd K' J => ?_) ?_; rotate_left 1
         ·have r50 := Tv hd 5 0 50; have r51 := Tv hd 4 1 51; have r55 := Tv hd 0 5 55; obtain ⟨_, _, _, _, _, hzT⟩ := bT hT'; refine o3 r50 r51 r55 fun ρ q50 q51 q55 => ?_; go_simp; (try go_bits); go_at_call 87; refine (CF1.out _ (hMV.below hT')).mono ?_; rintro e g1 ⟨rfl, k1⟩; refine J.out _ _ _ rfl ?_ (hT'.trans (k1.mono hT'.size)) k1; rfl
         refine SeqOps.val ?_ (Sp fun ax wx hS hT' hd K' J => ?_) ?_; rotate_left 1
         ·have r56 := Tv hd 0 6 56; refine o1 r56 fun ρ q56 => ?_; go_simp; exact Jo J hT'
         refine SeqOps.val ?_ (Sy 0 57 fun ax wx hS hT' hd K' J => ?_) ?_; rotate_left 1
         ·have r4 := Ta hS hE 4; refine o1 r4 fun ρ q4 => ?_; go_simp; exact Jo J hT'
         refine SeqOps.val ?_ (Sy 1 57 fun ax wx hS hT' hd K' J => ?_) ?_; rotate_left 1
         ·have r5 := Ta hS hE 5; refine o1 r5 fun ρ q5 => ?_; go_simp; exact Jo J hT'
         refine SeqOps.val ?_ (Sy 2 57 fun ax wx hS hT' hd K' J => ?_) ?_; rotate_left 1
         ·have r59 := Tv hd 0 9 59; refine o1 r59 fun ρ q59 => ?_; go_simp; (try go_bits); (try simp (disch := omega) only [IntWalk.i64_in]); exact Jo J hT'
         refine SeqOps.val ?_ (Sy 3 57 fun ax wx hS hT' hd K' J => ?_) ?_; rotate_left 1
         ·have r58 := Tv hd 2 8 58; have r60 := Tv hd 0 10 60; obtain ⟨_, _, _, _, _, hzT⟩ := bT hT'; refine o2 r58 r60 fun ρ q58 q60 => ?_; go_simp; (try go_bits); refine J.out _ _ _ rfl ?_ hT' (Below.refl _ _); rfl
         refine SeqOps.val ?_ (Sy 4 57 fun ax wx hS hT' hd K' J => ?_) ?_; rotate_left 1
         ·have r61 := Tv hd 0 11 61; refine o1 r61 fun ρ q61 => ?_; go_simp; exact Jo J hT'
         refine SeqOps.val ?_ (Sy 5 57 fun ax wx hS hT' hd K' J => ?_) ?_; rotate_left 1
         ·have r62 := Tv hd 0 12 62; obtain ⟨_, _, _, _, _, hzT⟩ := bT hT'; refine o1 r62 fun ρ q62 => ?_; go_simp; exact Jo J hT'
         refine SeqOps.val ?_ (Sy 6 57 fun ax wx hS hT' hd K' J => ?_) ?_; rotate_left 1
         ·have r8 := Ta hS hE 8; refine o1 r8 fun ρ q8 => ?_; go_simp; exact Jo J hT'
         refine SeqOps.val ?_ (Sy 7 57 fun ax wx hS hT' hd K' J => ?_) ?_; rotate_left 1
         ·have r9 := Ta hS hE 9; refine o1 r9 fun ρ q9 => ?_; go_simp; exact Jo J hT'
         refine SeqOps.val ?_ (Sy 8 57 fun ax wx hS hT' hd K' J => ?_) ?_; rotate_left 1
         ·have r64 := Tv hd 1 14 64; have r65 := Tv hd 0 15 65; refine o2 r64 r65 fun ρ q64 q65 => ?_; go_simp; (try go_bits); refine J.out _ _ _ rfl ?_ hT' (Below.refl _ _); rfl
         refine SeqOps.val ?_ (Sy 9 57 fun ax wx hS hT' hd K' J => ?_) ?_; rotate_left 1
         ·have r66 := Tv hd 0 16 66; obtain ⟨_, _, _, _, _, hzT⟩ := bT hT'; refine o1 r66 fun ρ q66 => ?_; go_simp; exact Jo J hT'
         refine SeqOps.val ?_ (Sy 10 57 fun ax wx hS hT' hd K' J => ?_) ?_; rotate_left 1
         ·have r63 := Tv hd 4 13 63; have r67 := Tv hd 0 17 67; refine o2 r63 r67 fun ρ q63 q67 => ?_; go_simp; (try go_bits); refine J.out _ _ _ rfl ?_ hT' (Below.refl _ _); rfl
         refine SeqOps.val ?_ (Sy 11 57 fun ax wx hS hT' hd K' J => ?_) ?_; rotate_left 1
         ·have r68 := Tv hd 0 18 68; obtain ⟨_, _, _, _, _, hzT⟩ := bT hT'; refine o1 r68 fun ρ q68 => ?_; go_simp; exact Jo J hT'
         refine SeqOps.nil ?_
         intro wf hBf; (repeat refine Ek ?_)
         refine fun afx hEfx => ?_; simp only [lk, pick, Nat.reduceEqDiff, ↓reduceIte] at hEfx; refine M2 hEfx 57 69 fun K' J ρ q57 q69 => ?_; go_simp; (try go_bits); (try clear q57 q69); refine Ln hEfx J fun af_1 hEf_1 => ?_; clear J K' hEfx; refine Ld [1, 3, 4, 5, 6, 7, 8, 9, 70] hEf_1 hK fun a hE => ?_; clear hK K Q' hEf_1; replace hE := hE.turn 70 (v' := .bool false) rfl (by first | rfl | simp); refine Ks ?_; refine cond_no hE (t := 70) rfl ?_; refine Ks ?_; replace hS := hS.on hBf; replace hFD := hFD.below hBf; clear og0 og1 nO nC1 nF1 z0 z1 z2 y0 nD hCrV hMV; exact ⟨acc0, hE.keep [1, 3, 4, 5, 6, 7, 8, 9], step_no (by rw [HPO1.out]; simp), hS, hFD⟩
        ·have hps := gam_small hb (HG1.out.trans HPO1.out); refine Rd [20] (fun wt => Below wv.heap.size wv wt) (fun w1 w2 => Below w1.heap.size w1 w2) [(0, some 50), (1, some 51), (2, some 52), (3, some 53), (4, some 54), (5, some 55), (6, some 56), (7, some 57), (8, some 58), (9, some 59), (10, some 60), (11, some 61), (12, some 62), (13, some 63), (14, some 64), (15, some 65), (16, some 66), (17, some 67), (18, some 68), (19, some 69)] [50, 51, 52, 53, 54, 55, 56, 57, 58, 59, 60, 61, 62, 63, 64, 65, 66, 67, 68, 69] #[true, true, true, true, true, true, true, true, true, true, true, true, true, true, true, true, true, true, true, true, false] [1, 3, 4, 5, 6, 7, 8, 9, 70] hE ((Below.refl _ _).drew) fun Q' K hK => ?_; refine SeqOps.val ?_ (Sp fun ax wx hS hT' hd K' J => ?_) ?_; rotate_left 1
         ·have r1 := Ta hS hE 1; obtain ⟨_, _, _, _, _, hzT⟩ := bT hT'; refine wp_load_mid 29 (.tmp 1) rfl B 0 (eval_of r1) (sbV H hcap S scap b) _ (fun j u hu => by rw [Nat.zero_add]; exact (hCrV.below hT').2 j u hu) Tryd.underlying29 rfl (by kernel_rfl) ?_; refine J.out _ _ _ rfl ?_ hT' (Below.refl _ _); rfl
         refine SeqOps.val ?_ (Sp fun ax wx hS hT' hd K' J => ?_) ?_; rotate_left 1
         ·have r5 := Ta hS hE 5; refine o1 r5 fun ρ q5 => ?_; go_simp; exact Jo J hT'
         refine SeqOps.val ?_ (Sp fun ax wx hS hT' hd K' J => ?_) ?_; rotate_left 1
         ·have r8 := Ta hS hE 8; refine o1 r8 fun ρ q8 => ?_; go_simp; exact Jo J hT'
         refine SeqOps.val ?_ (Sp fun ax wx hS hT' hd K' J => ?_) ?_; rotate_left 1
         ·have r9 := Ta hS hE 9; refine o1 r9 fun ρ q9 => ?_; go_simp; exact Jo J hT'
         refine SeqOps.val ?_ (Sp fun ax wx hS hT' hd K' J => ?_) ?_; rotate_left 1
         ·have r52 := Tv hd 1 2 52; have r53 := Tv hd 0 3 53; refine o2 r52 r53 fun ρ q52 q53 => ?_; go_simp; (try go_bits); refine J.out _ _ _ rfl ?_ hT' (Below.refl _ _); rfl
         refine SeqOps.val ?_ (Sp fun ax wx hS hT' hd K' J => ?_) ?_; rotate_left 1
         ·have r54 := Tv hd 0 4 54; obtain ⟨_, _, _, _, _, hzT⟩ := bT hT'; refine o1 r54 fun ρ q54 => ?_; go_simp; exact Jo J hT'
         refine SeqOps.val ?_ (Sp fun ax wx hS hT' hd K' J => ?_) ?_; rotate_left 1
         ·have r50 := Tv hd 5 0 50; have r51 := Tv hd 4 1 51; have r55 := Tv hd 0 5 55; obtain ⟨_, _, _, _, _, hzT⟩ := bT hT'; refine o3 r50 r51 r55 fun ρ q50 q51 q55 => ?_; go_simp; (try go_bits); go_at_call 87; refine (CF1.out _ (hMV.below hT')).mono ?_; rintro e g1 ⟨rfl, k1⟩; refine J.out _ _ _ rfl ?_ (hT'.trans (k1.mono hT'.size)) k1; rfl
         refine SeqOps.val ?_ (Sp fun ax wx hS hT' hd K' J => ?_) ?_; rotate_left 1
         ·have r56 := Tv hd 0 6 56; refine o1 r56 fun ρ q56 => ?_; go_simp; exact Jo J hT'
         refine SeqOps.val ?_ (Sy 0 57 fun ax wx hS hT' hd K' J => ?_) ?_; rotate_left 1
         ·have r4 := Ta hS hE 4; refine o1 r4 fun ρ q4 => ?_; go_simp; exact Jo J hT'
         refine SeqOps.val ?_ (Sy 1 57 fun ax wx hS hT' hd K' J => ?_) ?_; rotate_left 1
         ·have r5 := Ta hS hE 5; refine o1 r5 fun ρ q5 => ?_; go_simp; exact Jo J hT'
         refine SeqOps.val ?_ (Sy 2 57 fun ax wx hS hT' hd K' J => ?_) ?_; rotate_left 1
         ·have r59 := Tv hd 0 9 59; refine o1 r59 fun ρ q59 => ?_; go_simp; (try go_bits); (try simp (disch := omega) only [IntWalk.i64_in]); exact Jo J hT'
         refine SeqOps.val ?_ (Sy 3 57 fun ax wx hS hT' hd K' J => ?_) ?_; rotate_left 1
         ·have r58 := Tv hd 2 8 58; have r60 := Tv hd 0 10 60; obtain ⟨_, _, _, _, _, hzT⟩ := bT hT'; refine o2 r58 r60 fun ρ q58 q60 => ?_; go_simp; (try go_bits); refine J.out _ _ _ rfl ?_ hT' (Below.refl _ _); rfl
         refine SeqOps.val ?_ (Sy 4 57 fun ax wx hS hT' hd K' J => ?_) ?_; rotate_left 1
         ·have r61 := Tv hd 0 11 61; refine o1 r61 fun ρ q61 => ?_; go_simp; exact Jo J hT'
         refine SeqOps.val ?_ (Sy 5 57 fun ax wx hS hT' hd K' J => ?_) ?_; rotate_left 1
         ·have r62 := Tv hd 0 12 62; obtain ⟨_, _, _, _, _, hzT⟩ := bT hT'; refine o1 r62 fun ρ q62 => ?_; go_simp; exact Jo J hT'
         refine SeqOps.val ?_ (Sy 6 57 fun ax wx hS hT' hd K' J => ?_) ?_; rotate_left 1
         ·have r8 := Ta hS hE 8; refine o1 r8 fun ρ q8 => ?_; go_simp; exact Jo J hT'
         refine SeqOps.val ?_ (Sy 7 57 fun ax wx hS hT' hd K' J => ?_) ?_; rotate_left 1
         ·have r9 := Ta hS hE 9; refine o1 r9 fun ρ q9 => ?_; go_simp; exact Jo J hT'
         refine SeqOps.val ?_ (Sy 8 57 fun ax wx hS hT' hd K' J => ?_) ?_; rotate_left 1
         ·have r64 := Tv hd 1 14 64; have r65 := Tv hd 0 15 65; refine o2 r64 r65 fun ρ q64 q65 => ?_; go_simp; (try go_bits); refine J.out _ _ _ rfl ?_ hT' (Below.refl _ _); rfl
         refine SeqOps.val ?_ (Sy 9 57 fun ax wx hS hT' hd K' J => ?_) ?_; rotate_left 1
         ·have r66 := Tv hd 0 16 66; obtain ⟨_, _, _, _, _, hzT⟩ := bT hT'; refine o1 r66 fun ρ q66 => ?_; go_simp; exact Jo J hT'
         refine SeqOps.val ?_ (Sy 10 57 fun ax wx hS hT' hd K' J => ?_) ?_; rotate_left 1
         ·have r63 := Tv hd 4 13 63; have r67 := Tv hd 0 17 67; refine o2 r63 r67 fun ρ q63 q67 => ?_; go_simp; (try go_bits); refine J.out _ _ _ rfl ?_ hT' (Below.refl _ _); rfl
         refine SeqOps.val ?_ (Sy 11 57 fun ax wx hS hT' hd K' J => ?_) ?_; rotate_left 1
         ·have r68 := Tv hd 0 18 68; obtain ⟨_, _, _, _, _, hzT⟩ := bT hT'; refine o1 r68 fun ρ q68 => ?_; go_simp; exact Jo J hT'
         refine SeqOps.nil ?_
         intro wf hBf; (repeat refine Ek ?_)
         refine fun afx hEfx => ?_; simp only [lk, pick, Nat.reduceEqDiff, ↓reduceIte] at hEfx; refine M2 hEfx 57 69 fun K' J ρ q57 q69 => ?_; go_simp; (try go_bits); (try clear q57 q69); refine Ln hEfx J fun af_1 hEf_1 => ?_; clear J K' hEfx; refine Ld [1, 3, 4, 5, 6, 7, 8, 9, 70] hEf_1 hK fun a hE => ?_; clear hK K Q' hEf_1; replace hE := hE.turn 70 (v' := .bool true) rfl (by first | rfl | simp); refine Ks ?_; refine cond_yes hE (t := 70) rfl ?_; refine Ks ?_; replace hS := hS.on hBf; replace hFD := hFD.below hBf; replace og0 := (hBf.cell (p := ⟨O, (h + 1) * 2, none⟩) nO).trans og0; replace og1 := (hBf.cell (p := ⟨O, (h + 1) * 2 + 1, none⟩) nO).trans og1; replace z1 := (hBf.cell (p := ⟨F1, m * 2, none⟩) nF1).trans z1; replace z2 := (hBf.cell (p := ⟨F1, m * 2 + 1, none⟩) nF1).trans z2; replace y0 := (hBf.cell (p := ⟨Dg, i, none⟩) nD).trans y0; replace nO := Nat.lt_of_lt_of_le nO hBf.size; replace nF1 := Nat.lt_of_lt_of_le nF1 hBf.size; replace nD := Nat.lt_of_lt_of_le nD hBf.size; clear z0 nC1 hCrV hMV; obtain ⟨a0, c0, hwi, ha0, hc0⟩ := wid_vals0 acc0 p
         have CW : Hid (∀ W, Calls Tryd.prog 74 #[.bool acc0.isSome, .agg #[.int .i64 ((acc0.getD (0, 0)).1 : Nat), .int .i64 ((acc0.getD (0, 0)).2 : Nat)], .agg #[.int .i64 (p.1 : Nat), .int .i64 (p.2 : Nat)], .int .i64 0] W fun r w' => r = .returned (.agg #[.int .i64 (a0 : Nat), .int .i64 (c0 : Nat)]) ∧ Below W.heap.size W w') := hid fun W => by
          have h := wider_any acc0.isSome ((acc0.getD (0, 0)).1 : Nat) ((acc0.getD (0, 0)).2 : Nat) (p.1 : Nat) (p.2 : Nat) 0 (by omega) (by omega) W; rw [← ha0, ← hc0] at h; exact h
         have HWI := hid hwi; clear ha0 hc0 hwi; have hSv := hS; have hFv := hFD; have hCs := hS.row; have nG := hCs.1; have eG0 := hCs.2 0 _ rfl; have eG1 := hCs.2 1 _ rfl; have nC := hS.at_.can.lt; have nF := hS.at_.fal.lt; have e2 := hS.at_.can.cell l hlt; obtain ⟨e3, e4⟩ := hS.at_.fal.fals hlt; simp only [upd_same, canV, natV] at e2 e3 e4; clear hCs; refine Rd [27] (fun wt => Below wf.heap.size wf wt) (fun w1 w2 => Below w1.heap.size w1 w2) [(0, some 71), (1, some 72), (2, some 73), (3, some 74), (4, some 75), (5, some 76), (6, some 77), (7, some 78), (8, some 79), (9, some 80), (10, some 81), (11, some 82), (12, some 83), (13, some 84), (14, some 85), (15, some 86), (16, some 87), (17, some 88), (18, some 89), (19, some 90), (20, some 91), (21, some 92), (22, some 93), (23, some 94), (24, some 95), (25, some 96), (26, some 97)] [71, 72, 73, 74, 75, 76, 77, 78, 79, 80, 81, 82, 83, 84, 85, 86, 87, 88, 89, 90, 91, 92, 93, 94, 95, 96, 97] #[true, true, true, true, true, true, true, true, true, true, true, true, true, true, true, true, true, true, true, true, true, true, true, true, true, true, true, false] [1, 3, 4, 5, 6, 7, 8, 9] hE ((Below.refl _ _).drew) fun Q' K hK => ?_; refine SeqOps.val ?_ (Sp fun ax wx hS hT' hd K' J => ?_) ?_; rotate_left 1
         ·have r6 := Ta hS hE 6; refine o1 r6 fun ρ q6 => ?_; go_simp; exact Jo J hT'
         refine SeqOps.val ?_ (Sp fun ax wx hS hT' hd K' J => ?_) ?_; rotate_left 1
         ·have r71 := Tv hd 0 0 71; obtain ⟨_, _, _, _, _, hzT⟩ := bT hT'; refine o1 r71 fun ρ q71 => ?_; go_simp; exact Jo J hT'
         refine SeqOps.val ?_ (Sp fun ax wx hS hT' hd K' J => ?_) ?_; rotate_left 1
         ·have r7 := Ta hS hE 7; refine o1 r7 fun ρ q7 => ?_; go_simp; exact Jo J hT'
         refine SeqOps.val ?_ (Sp fun ax wx hS hT' hd K' J => ?_) ?_; rotate_left 1
         ·have r6 := Ta hS hE 6; refine o1 r6 fun ρ q6 => ?_; go_simp; exact Jo J hT'
         refine SeqOps.val ?_ (Sp fun ax wx hS hT' hd K' J => ?_) ?_; rotate_left 1
         ·have r74 := Tv hd 0 3 74; obtain ⟨_, _, _, _, _, hzT⟩ := bT hT'; refine o1 r74 fun ρ q74 => ?_; go_simp; exact Jo J hT'
         refine SeqOps.val ?_ (Sp fun ax wx hS hT' hd K' J => ?_) ?_; rotate_left 1
         ·have r7 := Ta hS hE 7; refine o1 r7 fun ρ q7 => ?_; go_simp; exact Jo J hT'
         refine SeqOps.val ?_ (Sp fun ax wx hS hT' hd K' J => ?_) ?_; rotate_left 1
         ·have r75 := Tv hd 1 4 75; have r76 := Tv hd 0 5 76; refine o2 r75 r76 fun ρ q75 q76 => ?_; go_simp; (try go_bits); refine J.out _ _ _ rfl ?_ hT' (Below.refl _ _); rfl
         refine SeqOps.val ?_ (Sp fun ax wx hS hT' hd K' J => ?_) ?_; rotate_left 1
         ·have r77 := Tv hd 0 6 77; obtain ⟨_, _, _, _, _, hzT⟩ := bT hT'; refine o1 r77 fun ρ q77 => ?_; go_simp; exact Jo J hT'
         refine SeqOps.val ?_ (Sp fun ax wx hS hT' hd K' J => ?_) ?_; rotate_left 1
         ·have r6 := Ta hS hE 6; refine o1 r6 fun ρ q6 => ?_; go_simp; exact Jo J hT'
         refine SeqOps.val ?_ (Sp fun ax wx hS hT' hd K' J => ?_) ?_; rotate_left 1
         ·have r79 := Tv hd 0 8 79; obtain ⟨_, _, _, _, _, hzT⟩ := bT hT'; refine o1 r79 fun ρ q79 => ?_; go_simp; exact Jo J hT'
         refine SeqOps.val ?_ (Sp fun ax wx hS hT' hd K' J => ?_) ?_; rotate_left 1
         ·have r7 := Ta hS hE 7; refine o1 r7 fun ρ q7 => ?_; go_simp; exact Jo J hT'
         refine SeqOps.val ?_ (Sp fun ax wx hS hT' hd K' J => ?_) ?_; rotate_left 1
         ·have r80 := Tv hd 1 9 80; have r81 := Tv hd 0 10 81; refine o2 r80 r81 fun ρ q80 q81 => ?_; go_simp; (try go_bits); refine J.out _ _ _ rfl ?_ hT' (Below.refl _ _); rfl
         refine SeqOps.val ?_ (Sp fun ax wx hS hT' hd K' J => ?_) ?_; rotate_left 1
         ·have r82 := Tv hd 0 11 82; obtain ⟨_, _, _, _, _, hzT⟩ := bT hT'; refine o1 r82 fun ρ q82 => ?_; go_simp; exact Jo J hT'
         refine SeqOps.val ?_ (Sp fun ax wx hS hT' hd K' J => ?_) ?_; rotate_left 1
         ·have r4 := Ta hS hE 4; refine o1 r4 fun ρ q4 => ?_; go_simp; exact Jo J hT'
         refine SeqOps.val ?_ (Sp fun ax wx hS hT' hd K' J => ?_) ?_; rotate_left 1
         ·have r5 := Ta hS hE 5; refine o1 r5 fun ρ q5 => ?_; go_simp; exact Jo J hT'
         refine SeqOps.val ?_ (Sp fun ax wx hS hT' hd K' J => ?_) ?_; rotate_left 1
         ·have r85 := Tv hd 0 14 85; refine o1 r85 fun ρ q85 => ?_; go_simp; (try go_bits); (try simp (disch := omega) only [IntWalk.i64_in]); exact Jo J hT'
         refine SeqOps.val ?_ (Sp fun ax wx hS hT' hd K' J => ?_) ?_; rotate_left 1
         ·have r84 := Tv hd 2 13 84; have r86 := Tv hd 0 15 86; obtain ⟨_, _, _, _, _, hzT⟩ := bT hT'; refine o2 r84 r86 fun ρ q84 q86 => ?_; go_simp; (try go_bits); refine J.out _ _ _ rfl ?_ hT' (Below.refl _ _); rfl
         refine SeqOps.val ?_ (Sp fun ax wx hS hT' hd K' J => ?_) ?_; rotate_left 1
         ·have r87 := Tv hd 0 16 87; refine o1 r87 fun ρ q87 => ?_; go_simp; exact Jo J hT'
         refine SeqOps.val ?_ (Sp fun ax wx hS hT' hd K' J => ?_) ?_; rotate_left 1
         ·have r88 := Tv hd 0 17 88; obtain ⟨_, _, _, _, _, hzT⟩ := bT hT'; refine o1 r88 fun ρ q88 => ?_; go_simp; exact Jo J hT'
         refine SeqOps.val ?_ (Sp fun ax wx hS hT' hd K' J => ?_) ?_; rotate_left 1
         ·have r8 := Ta hS hE 8; refine o1 r8 fun ρ q8 => ?_; go_simp; exact Jo J hT'
         refine SeqOps.val ?_ (Sp fun ax wx hS hT' hd K' J => ?_) ?_; rotate_left 1
         ·have r9 := Ta hS hE 9; refine o1 r9 fun ρ q9 => ?_; go_simp; exact Jo J hT'
         refine SeqOps.val ?_ (Sp fun ax wx hS hT' hd K' J => ?_) ?_; rotate_left 1
         ·have r90 := Tv hd 1 19 90; have r91 := Tv hd 0 20 91; refine o2 r90 r91 fun ρ q90 q91 => ?_; go_simp; (try go_bits); refine J.out _ _ _ rfl ?_ hT' (Below.refl _ _); rfl
         refine SeqOps.val ?_ (Sp fun ax wx hS hT' hd K' J => ?_) ?_; rotate_left 1
         ·have r92 := Tv hd 0 21 92; obtain ⟨_, _, _, _, _, hzT⟩ := bT hT'; refine o1 r92 fun ρ q92 => ?_; go_simp; exact Jo J hT'
         refine SeqOps.val ?_ (Sp fun ax wx hS hT' hd K' J => ?_) ?_; rotate_left 1
         ·have r89 := Tv hd 4 18 89; have r93 := Tv hd 0 22 93; refine o2 r89 r93 fun ρ q89 q93 => ?_; go_simp; (try go_bits); refine J.out _ _ _ rfl ?_ hT' (Below.refl _ _); rfl
         refine SeqOps.val ?_ (Sp fun ax wx hS hT' hd K' J => ?_) ?_; rotate_left 1
         ·have r94 := Tv hd 0 23 94; obtain ⟨_, _, _, _, _, hzT⟩ := bT hT'; refine o1 r94 fun ρ q94 => ?_; go_simp; exact Jo J hT'
         refine SeqOps.val ?_ (Sp fun ax wx hS hT' hd K' J => ?_) ?_; rotate_left 1
         ·have r78 := Tv hd 17 7 78; have r83 := Tv hd 12 12 83; have r95 := Tv hd 0 24 95; obtain ⟨_, _, _, _, _, hzT⟩ := bT hT'; refine o3 r78 r83 r95 fun ρ q78 q83 q95 => ?_; go_simp; (try go_bits); go_at_call 74; refine (CW.out _).mono ?_; rintro e g1 ⟨rfl, k1⟩; refine J.out _ _ _ rfl ?_ (hT'.trans (k1.mono hT'.size)) k1; rfl
         refine SeqOps.val ?_ (Sp fun ax wx hS hT' hd K' J => ?_) ?_; rotate_left 1
         ·have r72 := Tv hd 24 1 72; have r73 := Tv hd 23 2 73; refine o2 r72 r73 fun ρ q72 q73 => ?_; go_simp; (try go_bits); refine J.out _ _ _ rfl ?_ hT' (Below.refl _ _); rfl
         refine SeqOps.nil ?_
         intro whr hBhr; (repeat refine Ek ?_)
         refine fun ahrx hEhrx => ?_; simp only [lk, pick, Nat.reduceEqDiff, ↓reduceIte] at hEhrx; refine Lp fun K' J => ?_; have r97 := hEhrx.at 97 rfl; have r96 := hEhrx.at 96 rfl; refine wp_store_mid 25 (.tmp 97) (.tmp 96) rfl F (l * 2) #[natV a0, natV c0] (eval_of r97) (eval_of r96) ((hSv.at_.fal.below hBhr).there (show l * 2 + 2 ≤ 3000 by omega)) (by kernel_rfl) (by kernel_rfl) ?_; (try clear r97 r96); refine late_skip hEhrx J (fun ahr_1 hEhr_1 => ?_); clear J K'; clear hEhrx; refine Ld [1, 3, 4, 5, 6, 7, 8, 9] hEhr_1 hK fun a hE => ?_; clear hK K Q' hEhr_1; have hbwhr := hBf.trans (hBhr.mono hBf.size); have hSz := hSv.on hBhr; have hFz := hFv.below hBhr; obtain ⟨i1, i2, i3, i4⟩ := hSz.hitF hlt hFG hCF (by omega) a0 c0; have i5 : FArr (whr.setCells F (l * 2) [natV a0, natV c0]) Dg D.length (fun x => natV (D.getD x 0)) := (hFz.other _ (Ne.symm hDF)).other _ (Ne.symm hDF); refine world_cut (fun wt => Below wr.heap.size wr wt ∧ Cells wt G [.slice (some ⟨C, 0, none⟩) 1500 1500, .slice (some ⟨F, 0, none⟩) 1500 1500] ∧ FArr wt C 1500 (fun y => canV (updG (fun y => if y < l then gamB b h y else none) l acc0 y)) ∧ FArr wt F 3000 (falV (updG (fun y => if y < l then gamB b h y else none) l (some (a0, c0)))) ∧ FArr wt Dg D.length (fun x => natV (D.getD x 0))) ⟨i1, i2, i3, i4, i5⟩ (fun wir hCut => ?_); clear i1 i2 i3 i4 i5 hSz hFz nG eG0 eG1 nC nF e2 e3 e4 hS hFD og0 og1 z1 z2 y0 nO nF1 nD; obtain ⟨i1, i2, i3, i4, i5⟩ := hCut; have nG := i2.1; have eG0 := i2.2 0 _ rfl; have yw := i3.wr l hlt
         have nC := i3.lt; refine Ks ?_; refine Rs 5 fun Q' K hK => ?_; refine M1 hE 6 fun K' J ρ q6 => ?_; go_simp; refine Ln hE J fun _ Eb => ?_; clear J K' hE a q6; refine M1 Eb 98 fun K' J ρ q98 => ?_; go_simp; refine Ln Eb J fun _ Ea => ?_; clear J K' Eb q98; refine M1 Ea 7 fun K' J ρ q7 => ?_; go_simp; refine Ln Ea J fun _ Eb => ?_; clear J K' Ea q7; refine M2 Eb 99 100 fun K' J ρ q99 q100 => ?_; go_simp; (try go_bits); refine Ln Eb J fun _ Ea => ?_; clear J K' Eb q99 q100; refine M1 Ea 101 fun K' J ρ q101 => ?_; go_simp; (try clear q101); refine late_skip Ea J (fun _ Eb => ?_); clear J K'; clear Ea; refine Ld [1, 3, 4, 5, 6, 7, 8, 9] Eb hK fun a hE => ?_; clear hK K Q' Eb; refine world_cut (fun wt => GoS wr G C F (updG (fun y => if y < l then gamB b h y else none) l (some (a0, c0))) wt ∧ FArr wt Dg D.length (fun x => natV (D.getD x 0))) ⟨⟨i1.setCell hCw _, i2.put _ hCG, ⟨i3.canput hlt _, i4.other _ hCF⟩⟩, i5.other _ (Ne.symm hDC)⟩ (fun wjr hCut => ?_); clear i1 i2 i3 i4 i5 nG eG0 yw nC; obtain ⟨hS, hFD⟩ := hCut; refine Ks ?_; exact ⟨some (a0, c0), hE.keep [1, 3, 4, 5, 6, 7, 8, 9], (step_yes hq1 HPO1.out).trans HWI.out, hS, hFD⟩
      ·clear hE hS hFD; obtain ⟨acc, hE, hac, hS, hFD⟩ := hI; have HAC := hid hac; clear hac; refine Ks ?_; obtain ⟨C2, F2, og0, og1, nO, hG2⟩ := (HOx.out _ hS.below).get (i := h + 1) (Nat.le_refl _) (by omega); have nC2 := hG2.can.lt; have nF2 := hG2.fal.lt; have z0 := hG2.can.cell 0 (by omega); obtain ⟨z1, z2⟩ := hG2.fal.fals (l := 0) (by omega); have HG0 : Hid (gamB b (h + 1) 0 = goalP ((hpsOf b).drop (h + 1)) 0) := hid (gam_next (by omega)); rw [HG0.out] at z0 z1 z2; simp only [canV, natV, Nat.zero_mul, Nat.zero_add] at z0 z1 z2; have y0 := hFD.cell i HIL.out; have nD := hFD.lt; rw [HMv.out] at y0; simp only [natV] at y0; have hCrV := HCr.out _ hS.below; have hMV := HMr.out _ hS.below; clear hG2
       cases hq2 : fiB (hpI b h b.hours[h]) m true
       ·have CF2 := hid fun W hW => CF.out true W hW; rw [hq2] at CF2; refine Rd [16] (fun wt => Below V.heap.size V wt) (fun w1 w2 => Below w1.heap.size w1 w2) [(0, some 102), (1, some 103), (2, some 104), (3, some 105), (4, some 106), (5, some 107), (6, some 108), (7, some 109), (8, some 110), (9, some 111), (10, some 112), (11, some 113), (12, some 114), (13, some 115), (14, some 116), (15, some 117)] [102, 103, 104, 105, 106, 107, 108, 109, 110, 111, 112, 113, 114, 115, 116, 117] #[true, true, true, true, true, true, true, true, true, true, true, true, true, true, true, true, false] [1, 3, 4, 5, 6, 7, 8, 9, 118] hE ((Below.refl _ _).drew) fun Q' K hK => ?_; refine SeqOps.val ?_ (Sp fun ax wx hS hT' hd K' J => ?_) ?_; rotate_left 1
        ·have r1 := Ta hS hE 1; obtain ⟨_, _, _, _, _, hzT⟩ := bT hT'; refine wp_load_mid 29 (.tmp 1) rfl B 0 (eval_of r1) (sbV H hcap S scap b) _ (fun j u hu => by rw [Nat.zero_add]; exact (hCrV.below hT').2 j u hu) Tryd.underlying29 rfl (by kernel_rfl) ?_; refine J.out _ _ _ rfl ?_ hT' (Below.refl _ _); rfl
        refine SeqOps.val ?_ (Sp fun ax wx hS hT' hd K' J => ?_) ?_; rotate_left 1
        ·have r5 := Ta hS hE 5; refine o1 r5 fun ρ q5 => ?_; go_simp; exact Jo J hT'
        refine SeqOps.val ?_ (Sp fun ax wx hS hT' hd K' J => ?_) ?_; rotate_left 1
        ·have r8 := Ta hS hE 8; refine o1 r8 fun ρ q8 => ?_; go_simp; exact Jo J hT'
        refine SeqOps.val ?_ (Sp fun ax wx hS hT' hd K' J => ?_) ?_; rotate_left 1
        ·have r9 := Ta hS hE 9; refine o1 r9 fun ρ q9 => ?_; go_simp; exact Jo J hT'
        refine SeqOps.val ?_ (Sp fun ax wx hS hT' hd K' J => ?_) ?_; rotate_left 1
        ·have r104 := Tv hd 1 2 104; have r105 := Tv hd 0 3 105; refine o2 r104 r105 fun ρ q104 q105 => ?_; go_simp; (try go_bits); refine J.out _ _ _ rfl ?_ hT' (Below.refl _ _); rfl
        refine SeqOps.val ?_ (Sp fun ax wx hS hT' hd K' J => ?_) ?_; rotate_left 1
        ·have r106 := Tv hd 0 4 106; obtain ⟨_, _, _, _, _, hzT⟩ := bT hT'; refine o1 r106 fun ρ q106 => ?_; go_simp; exact Jo J hT'
        refine SeqOps.val ?_ (Sp fun ax wx hS hT' hd K' J => ?_) ?_; rotate_left 1
        ·have r102 := Tv hd 5 0 102; have r103 := Tv hd 4 1 103; have r107 := Tv hd 0 5 107; obtain ⟨_, _, _, _, _, hzT⟩ := bT hT'; refine o3 r102 r103 r107 fun ρ q102 q103 q107 => ?_; go_simp; (try go_bits); go_at_call 87; refine (CF2.out _ (hMV.below hT')).mono ?_; rintro e g1 ⟨rfl, k1⟩; refine J.out _ _ _ rfl ?_ (hT'.trans (k1.mono hT'.size)) k1; rfl
        refine SeqOps.val ?_ (Sp fun ax wx hS hT' hd K' J => ?_) ?_; rotate_left 1
        ·have r108 := Tv hd 0 6 108; refine o1 r108 fun ρ q108 => ?_; go_simp; exact Jo J hT'
        refine SeqOps.val _ (Sn 0 109) ?_; refine SeqOps.val _ (Sn 1 109) ?_; refine SeqOps.val _ (Sn 2 109) ?_; refine SeqOps.val _ (Sn 3 109) ?_; refine SeqOps.val _ (Sn 4 109) ?_; refine SeqOps.val _ (Sn 5 109) ?_; refine SeqOps.val _ (Sn 6 109) ?_; refine SeqOps.val _ (Sn 7 109) ?_; refine SeqOps.nil ?_
        intro wk hBk; (repeat refine Ek ?_)
        refine fun akx hEkx => ?_; simp only [lk, pick, Nat.reduceEqDiff, ↓reduceIte] at hEkx; refine M2 hEkx 109 117 fun K' J ρ q109 q117 => ?_; go_simp; (try go_bits); (try clear q109 q117); refine Ln hEkx J fun ak_1 hEk_1 => ?_; clear J K' hEkx; refine Ld [1, 3, 4, 5, 6, 7, 8, 9, 118] hEk_1 hK fun a hE => ?_; clear hK K Q' hEk_1; replace hE := hE.turn 118 (v' := .bool false) rfl (by first | rfl | simp); refine Ks ?_; refine cond_no hE (t := 118) rfl ?_; refine Ks ?_; refine Rs 3 fun Q' K hK => ?_; refine M1 hE 9 fun K' J ρ q9 => ?_; go_simp; refine Ln hE J fun _ Eb => ?_; clear J K' hE a q9; refine M1 Eb 48 fun K' J ρ q48 => ?_; go_simp; (try go_bits); (try simp (disch := omega) only [IntWalk.i64_in]); refine Ln Eb J fun _ Ea => ?_; clear J K' Eb q48; refine M1 Ea 49 fun K' J ρ q49 => ?_; go_simp; refine Ln Ea J fun _ Eb => ?_; clear J K' Ea q49; refine Ld [1, 3, 4, 5, 6, 7, 8, 9] Eb hK fun a hE => ?_; clear hK K Q' Eb; refine Ks ?_; have hfin : (D.take (i + 1)).foldl (stepG (hpI b h b.hours[h]) (goalP ((hpsOf b).drop (h + 1)))) none = acc := by rw [HFo.out]; unfold stepG; rw [HAC.out]; exact stepb_no (by rw [hq2]; rfl)
        exact ⟨i + 1, ⟨HIL.out, by simpa using hE, by rw [hfin]; exact (hS.on hBk), (hFD.below hBk)⟩, by have := HIL.out; omega⟩

       ·have CF2 := hid fun W hW => CF.out true W hW; rw [hq2] at CF2; obtain ⟨po, hpo⟩ : ∃ po, goalP ((hpsOf b).drop (h + 1)) 0 = po := ⟨_, rfl⟩; rw [hpo] at z0 z1 z2; have HPO := hid hpo
        rcases po with _ | p
        ·skip
         refine Rd [16] (fun wt => Below V.heap.size V wt) (fun w1 w2 => Below w1.heap.size w1 w2) [(0, some 102), (1, some 103), (2, some 104), (3, some 105), (4, some 106), (5, some 107), (6, some 108), (7, some 109), (8, some 110), (9, some 111), (10, some 112), (11, some 113), (12, some 114), (13, some 115), (14, some 116), (15, some 117)] [102, 103, 104, 105, 106, 107, 108, 109, 110, 111, 112, 113, 114, 115, 116, 117] #[true, true, true, true, true, true, true, true, true, true, true, true, true, true, true, true, false] [1, 3, 4, 5, 6, 7, 8, 9, 118] hE ((Below.refl _ _).drew) fun Q' K hK => ?_; refine SeqOps.val ?_ (Sp fun ax wx hS hT' hd K' J => ?_) ?_; rotate_left 1
         ·have r1 := Ta hS hE 1; obtain ⟨_, _, _, _, _, hzT⟩ := bT hT'; refine wp_load_mid 29 (.tmp 1) rfl B 0 (eval_of r1) (sbV H hcap S scap b) _ (fun j u hu => by rw [Nat.zero_add]; exact (hCrV.below hT').2 j u hu) Tryd.underlying29 rfl (by kernel_rfl) ?_; refine J.out _ _ _ rfl ?_ hT' (Below.refl _ _); rfl
         refine SeqOps.val ?_ (Sp fun ax wx hS hT' hd K' J => ?_) ?_; rotate_left 1
         ·have r5 := Ta hS hE 5; refine o1 r5 fun ρ q5 => ?_; go_simp; exact Jo J hT'
         refine SeqOps.val ?_ (Sp fun ax wx hS hT' hd K' J => ?_) ?_; rotate_left 1
         ·have r8 := Ta hS hE 8; refine o1 r8 fun ρ q8 => ?_; go_simp; exact Jo J hT'
         refine SeqOps.val ?_ (Sp fun ax wx hS hT' hd K' J => ?_) ?_; rotate_left 1
         ·have r9 := Ta hS hE 9; refine o1 r9 fun ρ q9 => ?_; go_simp; exact Jo J hT'
         refine SeqOps.val ?_ (Sp fun ax wx hS hT' hd K' J => ?_) ?_; rotate_left 1
         ·have r104 := Tv hd 1 2 104; have r105 := Tv hd 0 3 105; refine o2 r104 r105 fun ρ q104 q105 => ?_; go_simp; (try go_bits); refine J.out _ _ _ rfl ?_ hT' (Below.refl _ _); rfl
         refine SeqOps.val ?_ (Sp fun ax wx hS hT' hd K' J => ?_) ?_; rotate_left 1
         ·have r106 := Tv hd 0 4 106; obtain ⟨_, _, _, _, _, hzT⟩ := bT hT'; refine o1 r106 fun ρ q106 => ?_; go_simp; exact Jo J hT'
         refine SeqOps.val ?_ (Sp fun ax wx hS hT' hd K' J => ?_) ?_; rotate_left 1
         ·have r102 := Tv hd 5 0 102; have r103 := Tv hd 4 1 103; have r107 := Tv hd 0 5 107; obtain ⟨_, _, _, _, _, hzT⟩ := bT hT'; refine o3 r102 r103 r107 fun ρ q102 q103 q107 => ?_; go_simp; (try go_bits); go_at_call 87; refine (CF2.out _ (hMV.below hT')).mono ?_; rintro e g1 ⟨rfl, k1⟩; refine J.out _ _ _ rfl ?_ (hT'.trans (k1.mono hT'.size)) k1; rfl
         refine SeqOps.val ?_ (Sp fun ax wx hS hT' hd K' J => ?_) ?_; rotate_left 1
         ·have r108 := Tv hd 0 6 108; refine o1 r108 fun ρ q108 => ?_; go_simp; exact Jo J hT'
         refine SeqOps.val ?_ (Sy 0 109 fun ax wx hS hT' hd K' J => ?_) ?_; rotate_left 1
         ·have r4 := Ta hS hE 4; refine o1 r4 fun ρ q4 => ?_; go_simp; exact Jo J hT'
         refine SeqOps.val ?_ (Sy 1 109 fun ax wx hS hT' hd K' J => ?_) ?_; rotate_left 1
         ·have r5 := Ta hS hE 5; refine o1 r5 fun ρ q5 => ?_; go_simp; exact Jo J hT'
         refine SeqOps.val ?_ (Sy 2 109 fun ax wx hS hT' hd K' J => ?_) ?_; rotate_left 1
         ·have r111 := Tv hd 0 9 111; refine o1 r111 fun ρ q111 => ?_; go_simp; (try go_bits); (try simp (disch := omega) only [IntWalk.i64_in]); exact Jo J hT'
         refine SeqOps.val ?_ (Sy 3 109 fun ax wx hS hT' hd K' J => ?_) ?_; rotate_left 1
         ·have r110 := Tv hd 2 8 110; have r112 := Tv hd 0 10 112; obtain ⟨_, _, _, _, _, hzT⟩ := bT hT'; refine o2 r110 r112 fun ρ q110 q112 => ?_; go_simp; (try go_bits); refine J.out _ _ _ rfl ?_ hT' (Below.refl _ _); rfl
         refine SeqOps.val ?_ (Sy 4 109 fun ax wx hS hT' hd K' J => ?_) ?_; rotate_left 1
         ·have r113 := Tv hd 0 11 113; refine o1 r113 fun ρ q113 => ?_; go_simp; exact Jo J hT'
         refine SeqOps.val ?_ (Sy 5 109 fun ax wx hS hT' hd K' J => ?_) ?_; rotate_left 1
         ·have r114 := Tv hd 0 12 114; obtain ⟨_, _, _, _, _, hzT⟩ := bT hT'; refine o1 r114 fun ρ q114 => ?_; go_simp; exact Jo J hT'
         refine SeqOps.val ?_ (Sy 6 109 fun ax wx hS hT' hd K' J => ?_) ?_; rotate_left 1
         ·have r115 := Tv hd 0 13 115; refine o1 r115 fun ρ q115 => ?_; go_simp; (try go_bits); refine J.out _ _ _ rfl ?_ hT' (Below.refl _ _); rfl
         refine SeqOps.val ?_ (Sy 7 109 fun ax wx hS hT' hd K' J => ?_) ?_; rotate_left 1
         ·have r116 := Tv hd 0 14 116; obtain ⟨_, _, _, _, _, hzT⟩ := bT hT'; refine o1 r116 fun ρ q116 => ?_; go_simp; exact Jo J hT'
         refine SeqOps.nil ?_
         intro wk hBk; (repeat refine Ek ?_)
         refine fun akx hEkx => ?_; simp only [lk, pick, Nat.reduceEqDiff, ↓reduceIte] at hEkx; refine M2 hEkx 109 117 fun K' J ρ q109 q117 => ?_; go_simp; (try go_bits); (try clear q109 q117); refine Ln hEkx J fun ak_1 hEk_1 => ?_; clear J K' hEkx; refine Ld [1, 3, 4, 5, 6, 7, 8, 9, 118] hEk_1 hK fun a hE => ?_; clear hK K Q' hEk_1; replace hE := hE.turn 118 (v' := .bool false) rfl (by first | rfl | simp); refine Ks ?_; refine cond_no hE (t := 118) rfl ?_; refine Ks ?_; refine Rs 3 fun Q' K hK => ?_; refine M1 hE 9 fun K' J ρ q9 => ?_; go_simp; refine Ln hE J fun _ Eb => ?_; clear J K' hE a q9; refine M1 Eb 48 fun K' J ρ q48 => ?_; go_simp; (try go_bits); (try simp (disch := omega) only [IntWalk.i64_in]); refine Ln Eb J fun _ Ea => ?_; clear J K' Eb q48; refine M1 Ea 49 fun K' J ρ q49 => ?_; go_simp; refine Ln Ea J fun _ Eb => ?_; clear J K' Ea q49; refine Ld [1, 3, 4, 5, 6, 7, 8, 9] Eb hK fun a hE => ?_; clear hK K Q' Eb; refine Ks ?_; have hfin : (D.take (i + 1)).foldl (stepG (hpI b h b.hours[h]) (goalP ((hpsOf b).drop (h + 1)))) none = acc := by rw [HFo.out]; unfold stepG; rw [HAC.out]; exact stepb_no (by rw [HPO.out]; simp)
         exact ⟨i + 1, ⟨HIL.out, by simpa using hE, by rw [hfin]; exact (hS.on hBk), (hFD.below hBk)⟩, by have := HIL.out; omega⟩
        ·have hps := gam_small hb (HG0.out.trans HPO.out); refine Rd [16] (fun wt => Below V.heap.size V wt) (fun w1 w2 => Below w1.heap.size w1 w2) [(0, some 102), (1, some 103), (2, some 104), (3, some 105), (4, some 106), (5, some 107), (6, some 108), (7, some 109), (8, some 110), (9, some 111), (10, some 112), (11, some 113), (12, some 114), (13, some 115), (14, some 116), (15, some 117)] [102, 103, 104, 105, 106, 107, 108, 109, 110, 111, 112, 113, 114, 115, 116, 117] #[true, true, true, true, true, true, true, true, true, true, true, true, true, true, true, true, false] [1, 3, 4, 5, 6, 7, 8, 9, 118] hE ((Below.refl _ _).drew) fun Q' K hK => ?_; refine SeqOps.val ?_ (Sp fun ax wx hS hT' hd K' J => ?_) ?_; rotate_left 1
         ·have r1 := Ta hS hE 1; obtain ⟨_, _, _, _, _, hzT⟩ := bT hT'; refine wp_load_mid 29 (.tmp 1) rfl B 0 (eval_of r1) (sbV H hcap S scap b) _ (fun j u hu => by rw [Nat.zero_add]; exact (hCrV.below hT').2 j u hu) Tryd.underlying29 rfl (by kernel_rfl) ?_; refine J.out _ _ _ rfl ?_ hT' (Below.refl _ _); rfl
         refine SeqOps.val ?_ (Sp fun ax wx hS hT' hd K' J => ?_) ?_; rotate_left 1
         ·have r5 := Ta hS hE 5; refine o1 r5 fun ρ q5 => ?_; go_simp; exact Jo J hT'
         refine SeqOps.val ?_ (Sp fun ax wx hS hT' hd K' J => ?_) ?_; rotate_left 1
         ·have r8 := Ta hS hE 8; refine o1 r8 fun ρ q8 => ?_; go_simp; exact Jo J hT'
         refine SeqOps.val ?_ (Sp fun ax wx hS hT' hd K' J => ?_) ?_; rotate_left 1
         ·have r9 := Ta hS hE 9; refine o1 r9 fun ρ q9 => ?_; go_simp; exact Jo J hT'
         refine SeqOps.val ?_ (Sp fun ax wx hS hT' hd K' J => ?_) ?_; rotate_left 1
         ·have r104 := Tv hd 1 2 104; have r105 := Tv hd 0 3 105; refine o2 r104 r105 fun ρ q104 q105 => ?_; go_simp; (try go_bits); refine J.out _ _ _ rfl ?_ hT' (Below.refl _ _); rfl
         refine SeqOps.val ?_ (Sp fun ax wx hS hT' hd K' J => ?_) ?_; rotate_left 1
         ·have r106 := Tv hd 0 4 106; obtain ⟨_, _, _, _, _, hzT⟩ := bT hT'; refine o1 r106 fun ρ q106 => ?_; go_simp; exact Jo J hT'
         refine SeqOps.val ?_ (Sp fun ax wx hS hT' hd K' J => ?_) ?_; rotate_left 1
         ·have r102 := Tv hd 5 0 102; have r103 := Tv hd 4 1 103; have r107 := Tv hd 0 5 107; obtain ⟨_, _, _, _, _, hzT⟩ := bT hT'; refine o3 r102 r103 r107 fun ρ q102 q103 q107 => ?_; go_simp; (try go_bits); go_at_call 87; refine (CF2.out _ (hMV.below hT')).mono ?_; rintro e g1 ⟨rfl, k1⟩; refine J.out _ _ _ rfl ?_ (hT'.trans (k1.mono hT'.size)) k1; rfl
         refine SeqOps.val ?_ (Sp fun ax wx hS hT' hd K' J => ?_) ?_; rotate_left 1
         ·have r108 := Tv hd 0 6 108; refine o1 r108 fun ρ q108 => ?_; go_simp; exact Jo J hT'
         refine SeqOps.val ?_ (Sy 0 109 fun ax wx hS hT' hd K' J => ?_) ?_; rotate_left 1
         ·have r4 := Ta hS hE 4; refine o1 r4 fun ρ q4 => ?_; go_simp; exact Jo J hT'
         refine SeqOps.val ?_ (Sy 1 109 fun ax wx hS hT' hd K' J => ?_) ?_; rotate_left 1
         ·have r5 := Ta hS hE 5; refine o1 r5 fun ρ q5 => ?_; go_simp; exact Jo J hT'
         refine SeqOps.val ?_ (Sy 2 109 fun ax wx hS hT' hd K' J => ?_) ?_; rotate_left 1
         ·have r111 := Tv hd 0 9 111; refine o1 r111 fun ρ q111 => ?_; go_simp; (try go_bits); (try simp (disch := omega) only [IntWalk.i64_in]); exact Jo J hT'
         refine SeqOps.val ?_ (Sy 3 109 fun ax wx hS hT' hd K' J => ?_) ?_; rotate_left 1
         ·have r110 := Tv hd 2 8 110; have r112 := Tv hd 0 10 112; obtain ⟨_, _, _, _, _, hzT⟩ := bT hT'; refine o2 r110 r112 fun ρ q110 q112 => ?_; go_simp; (try go_bits); refine J.out _ _ _ rfl ?_ hT' (Below.refl _ _); rfl
         refine SeqOps.val ?_ (Sy 4 109 fun ax wx hS hT' hd K' J => ?_) ?_; rotate_left 1
         ·have r113 := Tv hd 0 11 113; refine o1 r113 fun ρ q113 => ?_; go_simp; exact Jo J hT'
         refine SeqOps.val ?_ (Sy 5 109 fun ax wx hS hT' hd K' J => ?_) ?_; rotate_left 1
         ·have r114 := Tv hd 0 12 114; obtain ⟨_, _, _, _, _, hzT⟩ := bT hT'; refine o1 r114 fun ρ q114 => ?_; go_simp; exact Jo J hT'
         refine SeqOps.val ?_ (Sy 6 109 fun ax wx hS hT' hd K' J => ?_) ?_; rotate_left 1
         ·have r115 := Tv hd 0 13 115; refine o1 r115 fun ρ q115 => ?_; go_simp; (try go_bits); refine J.out _ _ _ rfl ?_ hT' (Below.refl _ _); rfl
         refine SeqOps.val ?_ (Sy 7 109 fun ax wx hS hT' hd K' J => ?_) ?_; rotate_left 1
         ·have r116 := Tv hd 0 14 116; obtain ⟨_, _, _, _, _, hzT⟩ := bT hT'; refine o1 r116 fun ρ q116 => ?_; go_simp; exact Jo J hT'
         refine SeqOps.nil ?_
         intro wk hBk; (repeat refine Ek ?_)
         refine fun akx hEkx => ?_; simp only [lk, pick, Nat.reduceEqDiff, ↓reduceIte] at hEkx; refine M2 hEkx 109 117 fun K' J ρ q109 q117 => ?_; go_simp; (try go_bits); (try clear q109 q117); refine Ln hEkx J fun ak_1 hEk_1 => ?_; clear J K' hEkx; refine Ld [1, 3, 4, 5, 6, 7, 8, 9, 118] hEk_1 hK fun a hE => ?_; clear hK K Q' hEk_1; replace hE := hE.turn 118 (v' := .bool true) rfl (by first | rfl | simp); refine Ks ?_; refine cond_yes hE (t := 118) rfl ?_; refine Ks ?_; replace hS := hS.on hBk; replace hFD := hFD.below hBk; replace og0 := (hBk.cell (p := ⟨O, (h + 1) * 2, none⟩) nO).trans og0; replace og1 := (hBk.cell (p := ⟨O, (h + 1) * 2 + 1, none⟩) nO).trans og1; replace z1 := (hBk.cell (p := ⟨F2, 0, none⟩) nF2).trans z1; replace z2 := (hBk.cell (p := ⟨F2, 1, none⟩) nF2).trans z2; replace nO := Nat.lt_of_lt_of_le nO hBk.size; replace nF2 := Nat.lt_of_lt_of_le nF2 hBk.size; clear z0 y0 nD nC2 hCrV hMV; obtain ⟨a0, c0, hwi, ha0, hc0⟩ := wid_vals1 acc p
         have CW : Hid (∀ W, Calls Tryd.prog 74 #[.bool acc.isSome, .agg #[.int .i64 ((acc.getD (0, 0)).1 : Nat), .int .i64 ((acc.getD (0, 0)).2 : Nat)], .agg #[.int .i64 (p.1 : Nat), .int .i64 (p.2 : Nat)], .int .i64 1] W fun r w' => r = .returned (.agg #[.int .i64 (a0 : Nat), .int .i64 (c0 : Nat)]) ∧ Below W.heap.size W w') := hid fun W => by
          have h := wider_any acc.isSome ((acc.getD (0, 0)).1 : Nat) ((acc.getD (0, 0)).2 : Nat) (p.1 : Nat) (p.2 : Nat) 1 (by omega) (by omega) W; rw [← ha0, ← hc0] at h; exact h
         have HWI := hid hwi; clear ha0 hc0 hwi; have hSv := hS; have hFv := hFD; have hCs := hS.row; have nG := hCs.1; have eG0 := hCs.2 0 _ rfl; have eG1 := hCs.2 1 _ rfl; have nC := hS.at_.can.lt; have nF := hS.at_.fal.lt; have e2 := hS.at_.can.cell l hlt; obtain ⟨e3, e4⟩ := hS.at_.fal.fals hlt; simp only [upd_same, canV, natV] at e2 e3 e4; clear hCs; refine Rd [23] (fun wt => Below wk.heap.size wk wt) (fun w1 w2 => Below w1.heap.size w1 w2) [(0, some 119), (1, some 120), (2, some 121), (3, some 122), (4, some 123), (5, some 124), (6, some 125), (7, some 126), (8, some 127), (9, some 128), (10, some 129), (11, some 130), (12, some 131), (13, some 132), (14, some 133), (15, some 134), (16, some 135), (17, some 136), (18, some 137), (19, some 138), (20, some 139), (21, some 140), (22, some 141)] [119, 120, 121, 122, 123, 124, 125, 126, 127, 128, 129, 130, 131, 132, 133, 134, 135, 136, 137, 138, 139, 140, 141] #[true, true, true, true, true, true, true, true, true, true, true, true, true, true, true, true, true, true, true, true, true, true, true, false] [1, 3, 4, 5, 6, 7, 8, 9] hE ((Below.refl _ _).drew) fun Q' K hK => ?_; refine SeqOps.val ?_ (Sp fun ax wx hS hT' hd K' J => ?_) ?_; rotate_left 1
         ·have r6 := Ta hS hE 6; refine o1 r6 fun ρ q6 => ?_; go_simp; exact Jo J hT'
         refine SeqOps.val ?_ (Sp fun ax wx hS hT' hd K' J => ?_) ?_; rotate_left 1
         ·have r119 := Tv hd 0 0 119; obtain ⟨_, _, _, _, _, hzT⟩ := bT hT'; refine o1 r119 fun ρ q119 => ?_; go_simp; exact Jo J hT'
         refine SeqOps.val ?_ (Sp fun ax wx hS hT' hd K' J => ?_) ?_; rotate_left 1
         ·have r7 := Ta hS hE 7; refine o1 r7 fun ρ q7 => ?_; go_simp; exact Jo J hT'
         refine SeqOps.val ?_ (Sp fun ax wx hS hT' hd K' J => ?_) ?_; rotate_left 1
         ·have r6 := Ta hS hE 6; refine o1 r6 fun ρ q6 => ?_; go_simp; exact Jo J hT'
         refine SeqOps.val ?_ (Sp fun ax wx hS hT' hd K' J => ?_) ?_; rotate_left 1
         ·have r122 := Tv hd 0 3 122; obtain ⟨_, _, _, _, _, hzT⟩ := bT hT'; refine o1 r122 fun ρ q122 => ?_; go_simp; exact Jo J hT'
         refine SeqOps.val ?_ (Sp fun ax wx hS hT' hd K' J => ?_) ?_; rotate_left 1
         ·have r7 := Ta hS hE 7; refine o1 r7 fun ρ q7 => ?_; go_simp; exact Jo J hT'
         refine SeqOps.val ?_ (Sp fun ax wx hS hT' hd K' J => ?_) ?_; rotate_left 1
         ·have r123 := Tv hd 1 4 123; have r124 := Tv hd 0 5 124; refine o2 r123 r124 fun ρ q123 q124 => ?_; go_simp; (try go_bits); refine J.out _ _ _ rfl ?_ hT' (Below.refl _ _); rfl
         refine SeqOps.val ?_ (Sp fun ax wx hS hT' hd K' J => ?_) ?_; rotate_left 1
         ·have r125 := Tv hd 0 6 125; obtain ⟨_, _, _, _, _, hzT⟩ := bT hT'; refine o1 r125 fun ρ q125 => ?_; go_simp; exact Jo J hT'
         refine SeqOps.val ?_ (Sp fun ax wx hS hT' hd K' J => ?_) ?_; rotate_left 1
         ·have r6 := Ta hS hE 6; refine o1 r6 fun ρ q6 => ?_; go_simp; exact Jo J hT'
         refine SeqOps.val ?_ (Sp fun ax wx hS hT' hd K' J => ?_) ?_; rotate_left 1
         ·have r127 := Tv hd 0 8 127; obtain ⟨_, _, _, _, _, hzT⟩ := bT hT'; refine o1 r127 fun ρ q127 => ?_; go_simp; exact Jo J hT'
         refine SeqOps.val ?_ (Sp fun ax wx hS hT' hd K' J => ?_) ?_; rotate_left 1
         ·have r7 := Ta hS hE 7; refine o1 r7 fun ρ q7 => ?_; go_simp; exact Jo J hT'
         refine SeqOps.val ?_ (Sp fun ax wx hS hT' hd K' J => ?_) ?_; rotate_left 1
         ·have r128 := Tv hd 1 9 128; have r129 := Tv hd 0 10 129; refine o2 r128 r129 fun ρ q128 q129 => ?_; go_simp; (try go_bits); refine J.out _ _ _ rfl ?_ hT' (Below.refl _ _); rfl
         refine SeqOps.val ?_ (Sp fun ax wx hS hT' hd K' J => ?_) ?_; rotate_left 1
         ·have r130 := Tv hd 0 11 130; obtain ⟨_, _, _, _, _, hzT⟩ := bT hT'; refine o1 r130 fun ρ q130 => ?_; go_simp; exact Jo J hT'
         refine SeqOps.val ?_ (Sp fun ax wx hS hT' hd K' J => ?_) ?_; rotate_left 1
         ·have r4 := Ta hS hE 4; refine o1 r4 fun ρ q4 => ?_; go_simp; exact Jo J hT'
         refine SeqOps.val ?_ (Sp fun ax wx hS hT' hd K' J => ?_) ?_; rotate_left 1
         ·have r5 := Ta hS hE 5; refine o1 r5 fun ρ q5 => ?_; go_simp; exact Jo J hT'
         refine SeqOps.val ?_ (Sp fun ax wx hS hT' hd K' J => ?_) ?_; rotate_left 1
         ·have r133 := Tv hd 0 14 133; refine o1 r133 fun ρ q133 => ?_; go_simp; (try go_bits); (try simp (disch := omega) only [IntWalk.i64_in]); exact Jo J hT'
         refine SeqOps.val ?_ (Sp fun ax wx hS hT' hd K' J => ?_) ?_; rotate_left 1
         ·have r132 := Tv hd 2 13 132; have r134 := Tv hd 0 15 134; obtain ⟨_, _, _, _, _, hzT⟩ := bT hT'; refine o2 r132 r134 fun ρ q132 q134 => ?_; go_simp; (try go_bits); refine J.out _ _ _ rfl ?_ hT' (Below.refl _ _); rfl
         refine SeqOps.val ?_ (Sp fun ax wx hS hT' hd K' J => ?_) ?_; rotate_left 1
         ·have r135 := Tv hd 0 16 135; refine o1 r135 fun ρ q135 => ?_; go_simp; exact Jo J hT'
         refine SeqOps.val ?_ (Sp fun ax wx hS hT' hd K' J => ?_) ?_; rotate_left 1
         ·have r136 := Tv hd 0 17 136; obtain ⟨_, _, _, _, _, hzT⟩ := bT hT'; refine o1 r136 fun ρ q136 => ?_; go_simp; exact Jo J hT'
         refine SeqOps.val ?_ (Sp fun ax wx hS hT' hd K' J => ?_) ?_; rotate_left 1
         ·have r137 := Tv hd 0 18 137; refine o1 r137 fun ρ q137 => ?_; go_simp; (try go_bits); refine J.out _ _ _ rfl ?_ hT' (Below.refl _ _); rfl
         refine SeqOps.val ?_ (Sp fun ax wx hS hT' hd K' J => ?_) ?_; rotate_left 1
         ·have r138 := Tv hd 0 19 138; obtain ⟨_, _, _, _, _, hzT⟩ := bT hT'; refine o1 r138 fun ρ q138 => ?_; go_simp; exact Jo J hT'
         refine SeqOps.val ?_ (Sp fun ax wx hS hT' hd K' J => ?_) ?_; rotate_left 1
         ·have r126 := Tv hd 13 7 126; have r131 := Tv hd 8 12 131; have r139 := Tv hd 0 20 139; obtain ⟨_, _, _, _, _, hzT⟩ := bT hT'; refine o3 r126 r131 r139 fun ρ q126 q131 q139 => ?_; go_simp; (try go_bits); go_at_call 74; refine (CW.out _).mono ?_; rintro e g1 ⟨rfl, k1⟩; refine J.out _ _ _ rfl ?_ (hT'.trans (k1.mono hT'.size)) k1; rfl
         refine SeqOps.val ?_ (Sp fun ax wx hS hT' hd K' J => ?_) ?_; rotate_left 1
         ·have r120 := Tv hd 20 1 120; have r121 := Tv hd 19 2 121; refine o2 r120 r121 fun ρ q120 q121 => ?_; go_simp; (try go_bits); refine J.out _ _ _ rfl ?_ hT' (Below.refl _ _); rfl
         refine SeqOps.nil ?_
         intro whs hBhs; (repeat refine Ek ?_)
         refine fun ahsx hEhsx => ?_; simp only [lk, pick, Nat.reduceEqDiff, ↓reduceIte] at hEhsx; refine Lp fun K' J => ?_; have r141 := hEhsx.at 141 rfl; have r140 := hEhsx.at 140 rfl; refine wp_store_mid 25 (.tmp 141) (.tmp 140) rfl F (l * 2) #[natV a0, natV c0] (eval_of r141) (eval_of r140) ((hSv.at_.fal.below hBhs).there (show l * 2 + 2 ≤ 3000 by omega)) (by kernel_rfl) (by kernel_rfl) ?_; (try clear r141 r140); refine late_skip hEhsx J (fun ahs_1 hEhs_1 => ?_); clear J K'; clear hEhsx; refine Ld [1, 3, 4, 5, 6, 7, 8, 9] hEhs_1 hK fun a hE => ?_; clear hK K Q' hEhs_1; have hbwhs := hBk.trans (hBhs.mono hBk.size); have hSz := hSv.on hBhs; have hFz := hFv.below hBhs; obtain ⟨i1, i2, i3, i4⟩ := hSz.hitF hlt hFG hCF (by omega) a0 c0; have i5 : FArr (whs.setCells F (l * 2) [natV a0, natV c0]) Dg D.length (fun x => natV (D.getD x 0)) := (hFz.other _ (Ne.symm hDF)).other _ (Ne.symm hDF); refine world_cut (fun wt => Below wr.heap.size wr wt ∧ Cells wt G [.slice (some ⟨C, 0, none⟩) 1500 1500, .slice (some ⟨F, 0, none⟩) 1500 1500] ∧ FArr wt C 1500 (fun y => canV (updG (fun y => if y < l then gamB b h y else none) l acc y)) ∧ FArr wt F 3000 (falV (updG (fun y => if y < l then gamB b h y else none) l (some (a0, c0)))) ∧ FArr wt Dg D.length (fun x => natV (D.getD x 0))) ⟨i1, i2, i3, i4, i5⟩ (fun wis hCut => ?_); clear i1 i2 i3 i4 i5 hSz hFz nG eG0 eG1 nC nF e2 e3 e4 hS hFD og0 og1 z1 z2 nO nF2; obtain ⟨i1, i2, i3, i4, i5⟩ := hCut; have nG := i2.1; have eG0 := i2.2 0 _ rfl; have yw := i3.wr l hlt
         have nC := i3.lt; refine Ks ?_; refine Rs 5 fun Q' K hK => ?_; refine M1 hE 6 fun K' J ρ q6 => ?_; go_simp; refine Ln hE J fun _ Eb => ?_; clear J K' hE a q6; refine M1 Eb 142 fun K' J ρ q142 => ?_; go_simp; refine Ln Eb J fun _ Ea => ?_; clear J K' Eb q142; refine M1 Ea 7 fun K' J ρ q7 => ?_; go_simp; refine Ln Ea J fun _ Eb => ?_; clear J K' Ea q7; refine M2 Eb 143 144 fun K' J ρ q143 q144 => ?_; go_simp; (try go_bits); refine Ln Eb J fun _ Ea => ?_; clear J K' Eb q143 q144; refine M1 Ea 145 fun K' J ρ q145 => ?_; go_simp; (try clear q145); refine late_skip Ea J (fun _ Eb => ?_); clear J K'; clear Ea; refine Ld [1, 3, 4, 5, 6, 7, 8, 9] Eb hK fun a hE => ?_; clear hK K Q' Eb; refine world_cut (fun wt => GoS wr G C F (updG (fun y => if y < l then gamB b h y else none) l (some (a0, c0))) wt ∧ FArr wt Dg D.length (fun x => natV (D.getD x 0))) ⟨⟨i1.setCell hCw _, i2.put _ hCG, ⟨i3.canput hlt _, i4.other _ hCF⟩⟩, i5.other _ (Ne.symm hDC)⟩ (fun wjs hCut => ?_); clear i1 i2 i3 i4 i5 nG eG0 yw nC; obtain ⟨hS, hFD⟩ := hCut; refine Ks ?_; refine Rs 3 fun Q' K hK => ?_; refine M1 hE 9 fun K' J ρ q9 => ?_; go_simp; refine Ln hE J fun _ Eb => ?_; clear J K' hE a q9; refine M1 Eb 48 fun K' J ρ q48 => ?_; go_simp; (try go_bits); (try simp (disch := omega) only [IntWalk.i64_in]); refine Ln Eb J fun _ Ea => ?_; clear J K' Eb q48; refine M1 Ea 49 fun K' J ρ q49 => ?_; go_simp; refine Ln Ea J fun _ Eb => ?_; clear J K' Ea q49; refine Ld [1, 3, 4, 5, 6, 7, 8, 9] Eb hK fun a hE => ?_; clear hK K Q' Eb
         refine Ks ?_; have hfin : (D.take (i + 1)).foldl (stepG (hpI b h b.hours[h]) (goalP ((hpsOf b).drop (h + 1)))) none = some (a0, c0) := by rw [HFo.out]; unfold stepG; rw [HAC.out]; exact (stepb_yes hq2 HPO.out).trans HWI.out
         exact ⟨i + 1, ⟨HIL.out, by simpa using hE, by rw [hfin]; exact hS, hFD⟩, by have := HIL.out; omega⟩
     ·have hie : i = D.length := by omega
      subst hie; rw [List.take_length, ← HGM.out] at hS; refine Ks ?_; refine Rs 4 fun Q' K hK => ?_; refine M1 hE 9 fun K' J ρ q9 => ?_; go_simp; refine Ln hE J fun _ Eb => ?_; clear J K' hE a q9; refine M1 Eb 8 fun K' J ρ q8 => ?_; go_simp; refine Ln Eb J fun _ Ea => ?_; clear J K' Eb q8; refine M1 Ea 45 fun K' J ρ q45 => ?_; go_simp; (try go_bits); refine Ln Ea J fun _ Eb => ?_; clear J K' Ea q45; refine M2 Eb 44 46 fun K' J ρ q44 q46 => ?_; go_simp; (try go_bits); refine Ln Eb J fun _ Ea => ?_; clear J K' Eb q44 q46; replace Ea := Ea.turn 47 (v' := .bool false) rfl (by simp); refine Ld [1, 3, 4, 5, 6, 7, 8, 9, 47] Ea hK fun a hE => ?_; clear hK K Q' Ea; refine Ks ?_; refine cond_no hE (t := 47) rfl ?_; refine Ks ?_; refine Rs 3 fun Q' K hK => ?_; refine M1 hE 7 fun K' J ρ q7 => ?_; go_simp; refine Ln hE J fun _ Eb => ?_; clear J K' hE a q7; refine M1 Eb 26 fun K' J ρ q26 => ?_; go_simp; (try go_bits); (try simp (disch := omega) only [IntWalk.i64_in]); refine Ln Eb J fun _ Ea => ?_; clear J K' Eb q26; refine M1 Ea 27 fun K' J ρ q27 => ?_; go_simp; refine Ln Ea J fun _ Eb => ?_; clear J K' Ea q27; refine Ld [1, 3, 4, 5, 6, 7] Eb hK fun a hE => ?_; clear hK K Q' Eb; refine Ks ?_; refine ⟨l + 1, ⟨hlt, by simpa using hE, hS.congr fun y _ => ?_⟩, by omega⟩
      unfold updG
      by_cases e : y = l
      ·rw [if_pos e, if_pos (by omega), e]
      ·rw [if_neg e]
       show (if y < l then gamB b h y else none) = _
       by_cases e2 : y < l
       ·rw [if_pos e2, if_pos (by omega)]
       ·rw [if_neg e2, if_neg (by omega)]
  ·have hle : l = 1500 := by omega
   replace hS := hS.congr (g' := gamB b h) fun y hy => by rw [if_pos (by omega)]
   refine Ks ?_; refine Rs 2 fun Q' K hK => ?_; refine M1 hE 7 fun K' J ρ q7 => ?_; go_simp; refine Ln hE J fun _ Eb => ?_; clear J K' hE a q7; refine M1 Eb 24 fun K' J ρ q24 => ?_; go_simp; (try go_bits); refine Ln Eb J fun _ Ea => ?_; clear J K' Eb q24; replace Ea := Ea.turn 25 (v' := .bool false) rfl (by (first | (simp; done) | (simp; omega))); refine Ld [1, 3, 4, 5, 6, 7, 25] Ea hK fun a hE => ?_; clear hK K Q' Ea; refine Ks ?_; refine cond_no hE (t := 25) rfl ?_; refine Ks ?_; have hSx := hS; have hOx := HOx.out _ hSx.below; have hGr := hSx.row; have hbx := hbr.trans (hSx.below.mono hbr.size); have hOF := hOx.ex; have hN1J : (h : Int) < N1 := by have := HN1.out; omega
   obtain ⟨gg, hgF, _⟩ := hOF; refine Rs 5 fun Q' K hK => ?_; refine M1 hE 4 fun K' J ρ q4 => ?_; go_simp; refine Ln hE J fun _ Eb => ?_; clear J K' hE a q4; refine M1 Eb 5 fun K' J ρ q5 => ?_; go_simp; refine Ln Eb J fun _ Ea => ?_; clear J K' Eb q5; refine Lp fun K' J => ?_; have r6 := Ea.at 6 rfl; refine wp_load_mid 104 (.tmp 6) rfl G 0 (eval_of r6) [.slice (some ⟨C, 0, none⟩) 1500 1500, .slice (some ⟨F, 0, none⟩) 1500 1500] _ (fun j u hu => by rw [Nat.zero_add]; exact hGr.2 j u hu) Tryd.underlying104 rfl (by kernel_rfl) ?_; (try clear r6); refine Ln Ea J fun _ Eb => ?_; clear J K' Ea; refine M2 Eb 146 147 fun K' J ρ q146 q147 => ?_; go_simp; (try go_bits); refine Ln Eb J fun _ Ea => ?_; clear J K' Eb q146 q147; refine Lp fun K' J => ?_; have r149 := Ea.at 149 rfl; have r148 := Ea.at 148 rfl; refine wp_store_mid 104 (.tmp 149) (.tmp 148) rfl O (h * 2) #[.slice (some ⟨C, 0, none⟩) 1500 1500, .slice (some ⟨F, 0, none⟩) 1500 1500] (eval_of r149) (eval_of r148) (hgF.there (show h * 2 + 2 ≤ (b.hours.length + 1) * 2 by omega)) (by kernel_rfl) (by kernel_rfl) ?_; (try clear r149 r148); refine late_skip Ea J (fun _ Eb => ?_); clear J K'; clear Ea; refine Ld [1, 3, 4, 5] Eb hK fun a hE => ?_; clear hK K Q' Eb; refine world_cut (fun wt => Below w1.heap.size w1 wt ∧ OutG wt O b h) ⟨below_setCells (hW.trans (hSx.below.mono hW.size)) hwO _ _, hOx.next hhn hSx.at_ hCO hFO⟩ (fun wt hCut => ?_); obtain ⟨hWt, hOt⟩ := hCut; clear hgF hOx hGr hSx; refine Ks ?_; refine Rs 3 fun Q' K hK => ?_; refine M1 hE 5 fun K' J ρ q5 => ?_; go_simp
   refine Ln hE J fun _ Eb => ?_; clear J K' hE a q5; refine M1 Eb 19 fun K' J ρ q19 => ?_; go_simp; (try go_bits); (try simp (disch := omega) only [IntWalk.i64_in]); refine Ln Eb J fun _ Ea => ?_; clear J K' Eb q19; refine M1 Ea 20 fun K' J ρ q20 => ?_; go_simp; refine Ln Ea J fun _ Eb => ?_; clear J K' Ea q20; refine Ld [1, 3, 4, 5] Eb hK fun a hE => ?_; clear hK K Q' Eb; refine Ks ?_; exact ⟨h, ⟨by omega, by simpa using hE, hWt, hOt⟩, by omega⟩
end
end Go.Proofs.YtkhmcofmjjmjhaaDoor
