/- Slope: the exported functions, third part. -/
import Derived.Test.YtkhmcofmjjmjhaaDoorKTSbh

namespace Go.Proofs.YtkhmcofmjjmjhaaDoor
set_option linter.unusedSimpArgs false
set_option linter.unusedVariables false
open Go Go.RowKit
attribute [local go_sem high] cell_set_wr
attribute [local go_sem low] cell_wr frozen_wr
attribute [local go_sem] wr_set wr_drew wr_drewN wr_alloc wr_new Rho.c Rho.n Rho.g
theorem isHour_nat {b : Sb} {n : Int} (h : b.isHour n = true) : ∃ k : Nat, n = k ∧ k < b.hours.length := by
 have := wB_iff.1 h
 exact ⟨n.toNat, by omega, by omega⟩
def loadR (b : Sb) (hour : Int) : Nat × Nat := if frE b (b.isHour hour) = 0 then (loH b hour.toNat, hiH b hour.toNat) else (0, 0)
def safeR (b : Sb) (hour : Int) : Bool := if frE b (b.isHour hour) = 0 then safB b hour.toNat else false
section
variable (H : Option Addr) (hcap : Nat) (S : Option Addr) (scap : Nat) (b : Sb)
set_option maxRecDepth 100000 in
set_option maxHeartbeats 1000000 in
theorem pLoad_any (hour : Int) (w : World) (hM : SbAt w H S b) (hh : b.hours.length ≤ 9223372036854775807) (hss : b.sights.length ≤ 9223372036854775807) : Calls Tryd.prog 18 #[.agg (sbV H hcap S scap b).toArray, .int .i64 hour] w fun e w' => e = .returned (.tuple #[.agg #[.int .i64 (loadR b hour).1, .int .i64 (loadR b hour).2], .int .i64 (frE b (b.isHour hour))]) ∧ Below w.heap.size w w' := by
 have CF := hid fun (W : World) hW => foreseen_any H hcap S scap b (b.isHour hour) W hW hh hss
 have CI := hid fun (W : World) => isHour_any H hcap S scap b hour W hh
 clear hh hss
 refine enterE Tryd.func18 rfl Tryd.ntmps18 (by simp) (fun a hE => ?_); simp only [envOf, Nat.zero_add, Nat.reduceAdd] at hE
 refine Ks ?_
 refine Rs 3 fun Q' K hK => ?_
 refine M1 hE 0 fun K' J ρ q0 => ?_; go_simp
 refine Ln hE J fun _ Eb => ?_; clear J K' hE a q0
 refine M0 fun K' J ρ => ?_; go_simp;
 refine Ln Eb J fun _ Ea => ?_; clear J K' Eb
 refine M0 fun K' J ρ => ?_; go_simp;
 refine Ln Ea J fun _ Eb => ?_; clear J K' Ea
 refine Ld [1, 2, 4] Eb hK fun a hE => ?_; clear hK K Q' Eb
 obtain ⟨B, hB⟩ : ∃ B, B = w.heap.size := ⟨_, rfl⟩
 obtain ⟨R, hR⟩ : ∃ B, B = w.heap.size + 1 := ⟨_, rfl⟩
 rw [← hR, ← hB] at hE
 refine world_cut (fun wt => Below w.heap.size w wt ∧ Cells wt B (sbV H hcap S scap b) ∧ RowD wt R 2) ?_ (fun w1 hC => ?_)
 ·rw [hB, hR]; obtain ⟨q1, q2, q3, q4⟩ := box_row w (sbV H hcap S scap b).toArray 29 #[.int .i64 0, .int .i64 0] 25; exact ⟨q1, q2, q3, _, rfl, q4⟩
 obtain ⟨hbw1, hCB, hRD⟩ := hC
 have hnR : w.heap.size ≤ R := by omega
 have hM1 := hM.below hbw1
 clear hB hR
 refine Ks ?_
 refine region_drawn_mem [10] (fun wt => Below w1.heap.size w1 wt) (TurnO b (frE b (b.isHour hour)) w1.heap.size) [(0, some 9), (1, some 10), (2, some 11), (3, some 12), (4, some 13), (5, some 8), (6, some 14), (7, some 15), (8, some 6)] [9, 10, 11, 12, 13, 8, 14, 15, 6] 9 6 (fun v wt => StoM b (frE b (b.isHour hour)) w1.heap.size v wt) #[true, true, true, true, true, true, true, true, true, true, false] [1, 4, 7] hE (fun _ _ _ hR h => h.turned hR) (by kernel_rfl) (by kernel_rfl) (by kernel_rfl) (by kernel_rfl) (by kernel_rfl) (by kernel_rfl) (by kernel_rfl) (by kernel_rfl) (by kernel_rfl) (by kernel_rfl) (by kernel_rfl) (by kernel_rfl) (by kernel_rfl) (by kernel_rfl) ((Below.refl _ _).drew) (fun Q' K hK => ?_)
 refine SeqOps.val ?_ (Sp fun ax wx hS hT' hd K' J => ?_) ?_; rotate_left 1
 ·have r2 := hS.at 2 (by decide) (hE.at 2 rfl); obtain ⟨_, _, _, _, _, _⟩ := bT hT'
  refine wp_load_mid 29 (.tmp 2) rfl B 0 (eval_of r2) (sbV H hcap S scap b) _ (fun j u hu => by rw [Nat.zero_add]; exact (hCB.below hT').2 j u hu) Tryd.underlying29 rfl (by kernel_rfl) ?_
  refine J.out _ _ _ rfl ?_ hT' TurnO.refl; rfl
 refine SeqOps.val ?_ (Sp fun ax wx hS hT' hd K' J => ?_) ?_; rotate_left 1
 ·have r2 := hS.at 2 (by decide) (hE.at 2 rfl); obtain ⟨_, _, _, _, _, _⟩ := bT hT'
  refine wp_load_mid 29 (.tmp 2) rfl B 0 (eval_of r2) (sbV H hcap S scap b) _ (fun j u hu => by rw [Nat.zero_add]; exact (hCB.below hT').2 j u hu) Tryd.underlying29 rfl (by kernel_rfl) ?_
  refine J.out _ _ _ rfl ?_ hT' TurnO.refl; rfl
 refine SeqOps.val ?_ (Sp fun ax wx hS hT' hd K' J => ?_) ?_; rotate_left 1
 ·have r1 := hS.at 1 (by decide) (hE.at 1 rfl); obtain ⟨_, _, _, _, _, _⟩ := bT hT'
  refine o1 r1 fun ρ q1 => ?_; go_simp;
  refine J.out _ _ _ rfl ?_ hT' (TurnO.refl); rfl
 refine SeqOps.val ?_ (Sp fun ax wx hS hT' hd K' J => ?_) ?_; rotate_left 1
 ·have r10 := Tv hd 1 1 10; have r11 := Tv hd 0 2 11; obtain ⟨_, _, _, _, _, _⟩ := bT hT'
  refine o2 r10 r11 fun ρ q10 q11 => ?_; go_simp; (try go_bits);
  go_at_call 62; refine (CI.out _).mono ?_; rintro e g1 ⟨rfl, k1⟩
  refine J.out _ _ _ rfl ?_ (hT'.trans (k1.mono hT'.size)) (TurnO.of k1); rfl
 refine SeqOps.say (fun v wt => SetV b (frE b (b.isHour hour)) v wt) (fun _ _ _ hR h => h.turned hR) (Sp fun ax wx hS hT' hd K' J => ?_) ?_
 ·have r9 := Tv hd 3 0 9; have r12 := Tv hd 0 3 12; obtain ⟨_, _, _, _, _, _⟩ := bT hT'
  refine o2 r9 r12 fun ρ q9 q12 => ?_; go_simp; (try go_bits);
  go_at_call 65; refine (CF.out _ (hM1.below hT')).mono ?_; rintro e g1 ⟨⟨V, rfl, hV⟩, k1⟩
  exact J.out _ _ _ rfl ⟨V, rfl, hV, hV.nob⟩ (hT'.trans (k1.mono hT'.size)) (TurnO.of k1)
 refine SeqOps.say (fun v wt => SetV b (frE b (b.isHour hour)) v wt) (fun _ _ _ hR h => h.turned hR) (Sp fun ax wx hS hT' hd K' J => ?_) ?_
 ·obtain ⟨v13, r13, h13⟩ := Tg hd 0 4 13; obtain ⟨_, _, _, _, _, _⟩ := bT hT'
  refine o1 r13 fun ρ q13 => ?_; go_simp;
  exact J.out _ _ _ rfl h13 hT' TurnO.refl
 refine SeqOps.say (fun v wt => SetA b (frE b (b.isHour hour)) v wt) (fun _ _ _ hR h => h.turned hR) (Sp fun ax wx hS hT' hd K' J => ?_) ?_
 ·obtain ⟨v8, r8, h8⟩ := Tg hd 0 5 8; obtain ⟨V, rfl, hV, hVn⟩ := h8; obtain ⟨_, _, _, _, _, _⟩ := bT hT'
  refine o1 r8 fun ρ q8 => ?_; go_simp;
  exact J.out _ _ _ rfl ⟨V, rfl, hV, hVn⟩ hT' TurnO.refl
 refine SeqOps.val ?_ (Sp fun ax wx hS hT' hd K' J => ?_) ?_; rotate_left 1
 ·obtain ⟨v8, r8, h8⟩ := Tg hd 1 5 8; obtain ⟨V, rfl, hV, hVn⟩ := h8; obtain ⟨_, _, _, _, _, _⟩ := bT hT'
  refine o1 r8 fun ρ q8 => ?_; go_simp;
  refine J.out _ _ _ rfl ?_ hT' (TurnO.refl); rfl
 refine SeqOps.say (fun v wt => NewO w1.heap.size v wt) (fun _ _ _ hR h => h.turned hR) (Sp fun ax wx hS hT' hd K' J => ?_) ?_
 ·obtain ⟨_, _, _, _, _, _⟩ := bT hT'
  refine o0 fun ρ => ?_; go_simp;
  exact J.out _ _ _ rfl ⟨_, rfl, hT'.size, ⟨_, World.alloc_heap_new _ _, rfl, z12_noB⟩⟩ (hT'.alloc hT'.size _) (TurnO.of ((Below.refl _ _).alloc (Nat.le_refl _) _))
 refine SeqOps.nil ?_
 refine ⟨StepMem.plain (by (first | (simp only [List.getElem?_toArray, List.getElem?_cons_succ, List.getElem?_cons_zero]; rfl) | rfl)) rfl (fun ax wx hS hT' hd K' J => ?_), ?_⟩
 ·obtain ⟨v6, r6, h6⟩ := Tg hd 0 8 6; obtain ⟨C, rfl, hCn, hCb⟩ := h6; obtain ⟨v14, r14, h14⟩ := Tg hd 2 6 14; obtain ⟨V, rfl, hV, hVn⟩ := h14; obtain ⟨_, _, _, _, _, _⟩ := bT hT'
  have hVs : V.toArray.size = 12 := by simpa using hV.len
  obtain ⟨zs, hzs, hRC, hCl⟩ := hCb.row
  refine wp_store_mid 94 (.tmp 6) (.tmp 14) rfl C 0 V.toArray (eval_of r6) (eval_of r14) (there_row hRC (by rw [hzs, hVs]; exact Nat.le_refl _)) (by rw [hVs]; kernel_rfl) hV.one ?_
  have hq := cells_stored (w := w1) hRC (vs := V) (by rw [hzs, hV.len]) hCl hCn hT'
  exact J.out _ _ _ rfl r6 ⟨C, V, rfl, hCn, hq.1, hV.turned (.inr ⟨C, V, hCn, hCb, hV, hVn, rfl⟩)⟩ hq.2.1 (.inr ⟨C, V, hCn, hCb, hV, hVn, rfl⟩)
 intro w2 hBm; (repeat refine Ek ?_); (refine fun v13 h13 => ?_); (refine fun v h => ?_; obtain ⟨V, rfl, hV, hVn⟩ := h); (refine fun v h => ?_; obtain ⟨V, rfl, hV, hVn⟩ := h); (repeat refine Ek ?_); (refine fun v h => ?_; obtain ⟨C, rfl, hCn, hCb⟩ := h);
 refine fun amx hEmx => ?_
 refine fun vm hvm hM => ?_; obtain rfl := Option.some.inj (hvm.symm.trans (hEmx.at 6 rfl)); clear hvm
 simp only [lk, pick, Nat.reduceEqDiff, ↓reduceIte] at hEmx
 refine M1 hEmx 15 fun K' J ρ q15 => ?_; go_simp; (try clear q15)
 refine Ln hEmx J fun am_1 hEm_1 => ?_; clear J K' hEmx
 refine Ld [1, 4, 6, 7] hEm_1 hK fun a hE => ?_; clear hK K Q' hEm_1
 have hbw2 := hbw1.trans (hBm.mono hbw1.size)
 obtain ⟨C', V', hCe, hCn', hCQ, hV3⟩ := hM
 obtain rfl : C = C' := by cases hCe; rfl
 clear V hV hVn hCb hCe
 have hRD2 := hRD.below hBm
 by_cases he : frE b (b.isHour hour) = 0
 ·obtain ⟨hok, hva, hrt⟩ := frE_zero.1 he
  have hb := ok_iff.1 hok
  have hOV := hV3.ov he
  have HV12 := hid hV3.len
  have hfl : loadR b hour = (loH b hour.toNat, hiH b hour.toNat) := by unfold loadR; rw [if_pos he]
  rw [hfl, he]
  rw [he] at hE
  obtain ⟨h, rfl, hh⟩ := isHour_nat hva
  rw [Int.toNat_natCast]
  have CL := hid (oload_b hb hrt hh V' w2 hOV)
  clear hfl he hok hva hrt hb
  refine Ks ?_
  refine Rs 2 fun Q' K hK => ?_
  refine M1 hE 7 fun K' J ρ q7 => ?_; go_simp
  refine Ln hE J fun _ Eb => ?_; clear J K' hE a q7
  refine M1 Eb 16 fun K' J ρ q16 => ?_; go_simp; (try go_bits)
  refine Ln Eb J fun _ Ea => ?_; clear J K' Eb q16
  refine Ld [1, 4, 6, 7, 17] Ea hK fun a hE => ?_; clear hK K Q' Ea
  refine Ks ?_
  refine cond_no hE (t := 17) rfl ?_
  refine Ks ?_
  refine Rs 5 fun Q' K hK => ?_
  refine Lp fun K' J => ?_
  have r6 := hE.at 6 rfl
  refine wp_load_mid 94 (.tmp 6) rfl C 0 (eval_of r6) V' _ (fun j u hu => by rw [Nat.zero_add]; exact hCQ.2 j u hu) Tryd.underlying94 rfl (by rw [HV12.out]; kernel_rfl) ?_
  (try clear r6)
  refine Ln hE J fun _ Eb => ?_; clear J K' hE a
  refine M1 Eb 1 fun K' J ρ q1 => ?_; go_simp
  refine Ln Eb J fun _ Ea => ?_; clear J K' Eb q1
  refine M2 Ea 20 21 fun K' J ρ q20 q21 => ?_; go_simp; (try go_bits); (try clear q20 q21)
  go_at_call 66; refine CL.out.mono ?_; rintro e w5 ⟨rfl, h5⟩
  obtain ⟨hlR, zs, hzs, hRR⟩ := hRD2.below h5
  have hb5 := hbw2.trans (h5.mono hbw2.size)
  (try clear r20 r21)
  refine Ln Ea J fun _ Eb => ?_; clear J K' Ea
  refine Lp fun K' J => ?_
  have r4 := Eb.at 4 rfl; have r22 := Eb.at 22 rfl
  refine wp_store_mid 25 (.tmp 4) (.tmp 22) rfl R 0 #[.int .i64 (loH b h), .int .i64 (hiH b h)] (eval_of r4) (eval_of r22) (there_row hRR (by rw [hzs]; exact Nat.le_refl _)) (by kernel_rfl) (by kernel_rfl) ?_
  (try clear r4 r22)
  refine late_skip Eb J (fun _ Ea => ?_); clear J K'; clear Eb
  refine M0 fun K' J ρ => ?_; go_simp;
  refine Ln Ea J fun _ Eb => ?_; clear J K' Ea
  refine Ld [4, 5] Eb hK fun a hE => ?_; clear hK K Q' Eb
  obtain ⟨q1, q2, _, _⟩ := cells_stored hRR (vs := [.int .i64 (loH b h), .int .i64 (hiH b h)]) (by rw [hzs]; rfl) hlR hnR hb5
  refine world_cut (fun wt => Cells wt R [.int .i64 (loH b h), .int .i64 (hiH b h)] ∧ Below w.heap.size w wt) ⟨q1, q2⟩ (fun w9 hCut => ?_)
  obtain ⟨hC9, hb9⟩ := hCut
  refine Ks ?_
  exact ret_cell_two hE rfl rfl rfl hC9.2 Tryd.underlying25 rfl (by kernel_rfl) ⟨rfl, hb9⟩
 ·have hfl : loadR b hour = (0, 0) := by unfold loadR; rw [if_neg he]
  rw [hfl]
  obtain ⟨hlR, zs, hzs, hRR⟩ := hRD2
  refine Ks ?_
  refine Rs 2 fun Q' K hK => ?_
  refine M1 hE 7 fun K' J ρ q7 => ?_; go_simp
  refine Ln hE J fun _ Eb => ?_; clear J K' hE a q7
  refine M1 Eb 16 fun K' J ρ q16 => ?_; go_simp; (try go_bits)
  refine Ln Eb J fun _ Ea => ?_; clear J K' Eb q16
  refine Ld [1, 4, 6, 7, 17] Ea hK fun a hE => ?_; clear hK K Q' Ea
  replace hE := hE.turn 17 (v' := .bool true) rfl (by simp [he])
  refine Ks ?_
  refine cond_yes hE (t := 17) rfl ?_
  refine Ks ?_
  refine Rs 4 fun Q' K hK => ?_
  refine M0 fun K' J ρ => ?_; go_simp;
  refine Ln hE J fun _ Eb => ?_; clear J K' hE a
  refine M1 Eb 7 fun K' J ρ q7 => ?_; go_simp
  refine Ln Eb J fun _ Ea => ?_; clear J K' Eb q7
  refine Lp fun K' J => ?_
  have r4 := Ea.at 4 rfl; have r18 := Ea.at 18 rfl
  refine wp_store_mid 25 (.tmp 4) (.tmp 18) rfl R 0 #[.int .i64 0, .int .i64 0] (eval_of r4) (eval_of r18) (there_row hRR (by rw [hzs]; exact Nat.le_refl _)) (by kernel_rfl) (by kernel_rfl) ?_
  (try clear r4 r18)
  refine late_skip Ea J (fun _ Eb => ?_); clear J K'; clear Ea
  refine M1 Eb 19 fun K' J ρ q19 => ?_; go_simp
  refine Ln Eb J fun _ Ea => ?_; clear J K' Eb q19
  refine Ld [4, 5] Ea hK fun a hE => ?_; clear hK K Q' Ea
  obtain ⟨q1, q2, _, _⟩ := cells_stored hRR (vs := [.int .i64 0, .int .i64 0]) (by rw [hzs]; rfl) hlR hnR hbw2
  refine world_cut (fun wt => Cells wt R [.int .i64 0, .int .i64 0] ∧ Below w.heap.size w wt) ⟨q1, q2⟩ (fun w9 hCut => ?_)
  obtain ⟨hC9, hb9⟩ := hCut
  refine Ks ?_
  exact ret_cell_two hE rfl rfl rfl hC9.2 Tryd.underlying25 rfl (by kernel_rfl) ⟨rfl, hb9⟩
set_option maxRecDepth 100000 in
set_option maxHeartbeats 1000000 in
theorem pSafe_any (hour : Int) (w : World) (hM : SbAt w H S b) (hh : b.hours.length ≤ 9223372036854775807) (hss : b.sights.length ≤ 9223372036854775807) : Calls Tryd.prog 20 #[.agg (sbV H hcap S scap b).toArray, .int .i64 hour] w fun e w' => e = .returned (.tuple #[.bool (safeR b hour), .int .i64 (frE b (b.isHour hour))]) ∧ Below w.heap.size w w' := by
 have CF := hid fun (W : World) hW => foreseen_any H hcap S scap b (b.isHour hour) W hW hh hss
 have CI := hid fun (W : World) => isHour_any H hcap S scap b hour W hh
 clear hh hss
 refine enterE Tryd.func20 rfl Tryd.ntmps20 (by simp) (fun a hE => ?_); simp only [envOf, Nat.zero_add, Nat.reduceAdd] at hE
 refine Ks ?_
 refine Rs 3 fun Q' K hK => ?_
 refine M1 hE 0 fun K' J ρ q0 => ?_; go_simp
 refine Ln hE J fun _ Eb => ?_; clear J K' hE a q0
 refine M0 fun K' J ρ => ?_; go_simp;
 refine Ln Eb J fun _ Ea => ?_; clear J K' Eb
 refine M0 fun K' J ρ => ?_; go_simp;
 refine Ln Ea J fun _ Eb => ?_; clear J K' Ea
 refine Ld [1, 2] Eb hK fun a hE => ?_; clear hK K Q' Eb
 obtain ⟨B, hBe⟩ : ∃ B, B = w.heap.size := ⟨_, rfl⟩; have hnB : w.heap.size ≤ B := Nat.le_of_eq hBe.symm; rw [← hBe] at hE; refine world_cut (fun wt => Below w.heap.size w wt ∧ B < wt.heap.size ∧ Row wt B (sbV H hcap S scap b)) ⟨(Below.refl _ _).alloc (Nat.le_refl _) _, by rw [hBe]; simp, by rw [hBe]; exact row_new _ _ _⟩ (fun w1 hCut => ?_); obtain ⟨hbw1, hlB, hRB⟩ := hCut; clear hBe
 have hCB := row_cells hRB hlB
 have hM1 := hM.below hbw1
 refine Ks ?_
 refine region_drawn_mem [10] (fun wt => Below w1.heap.size w1 wt) (TurnO b (frE b (b.isHour hour)) w1.heap.size) [(0, some 9), (1, some 10), (2, some 11), (3, some 12), (4, some 13), (5, some 8), (6, some 14), (7, some 15), (8, some 6)] [9, 10, 11, 12, 13, 8, 14, 15, 6] 9 6 (fun v wt => StoM b (frE b (b.isHour hour)) w1.heap.size v wt) #[true, true, true, true, true, true, true, true, true, true, false] [1, 7] hE (fun _ _ _ hR h => h.turned hR) (by kernel_rfl) (by kernel_rfl) (by kernel_rfl) (by kernel_rfl) (by kernel_rfl) (by kernel_rfl) (by kernel_rfl) (by kernel_rfl) (by kernel_rfl) (by kernel_rfl) (by kernel_rfl) (by kernel_rfl) (by kernel_rfl) (by kernel_rfl) ((Below.refl _ _).drew) (fun Q' K hK => ?_)
 refine SeqOps.val ?_ (Sp fun ax wx hS hT' hd K' J => ?_) ?_; rotate_left 1
 ·have r2 := hS.at 2 (by decide) (hE.at 2 rfl); obtain ⟨_, _, _, _, _, _⟩ := bT hT'
  refine wp_load_mid 29 (.tmp 2) rfl B 0 (eval_of r2) (sbV H hcap S scap b) _ (fun j u hu => by rw [Nat.zero_add]; exact (hCB.below hT').2 j u hu) Tryd.underlying29 rfl (by kernel_rfl) ?_
  refine J.out _ _ _ rfl ?_ hT' TurnO.refl; rfl
 refine SeqOps.val ?_ (Sp fun ax wx hS hT' hd K' J => ?_) ?_; rotate_left 1
 ·have r2 := hS.at 2 (by decide) (hE.at 2 rfl); obtain ⟨_, _, _, _, _, _⟩ := bT hT'
  refine wp_load_mid 29 (.tmp 2) rfl B 0 (eval_of r2) (sbV H hcap S scap b) _ (fun j u hu => by rw [Nat.zero_add]; exact (hCB.below hT').2 j u hu) Tryd.underlying29 rfl (by kernel_rfl) ?_
  refine J.out _ _ _ rfl ?_ hT' TurnO.refl; rfl
 refine SeqOps.val ?_ (Sp fun ax wx hS hT' hd K' J => ?_) ?_; rotate_left 1
 ·have r1 := hS.at 1 (by decide) (hE.at 1 rfl); obtain ⟨_, _, _, _, _, _⟩ := bT hT'
  refine o1 r1 fun ρ q1 => ?_; go_simp;
  refine J.out _ _ _ rfl ?_ hT' (TurnO.refl); rfl
 refine SeqOps.val ?_ (Sp fun ax wx hS hT' hd K' J => ?_) ?_; rotate_left 1
 ·have r10 := Tv hd 1 1 10; have r11 := Tv hd 0 2 11; obtain ⟨_, _, _, _, _, _⟩ := bT hT'
  refine o2 r10 r11 fun ρ q10 q11 => ?_; go_simp; (try go_bits);
  go_at_call 62; refine (CI.out _).mono ?_; rintro e g1 ⟨rfl, k1⟩
  refine J.out _ _ _ rfl ?_ (hT'.trans (k1.mono hT'.size)) (TurnO.of k1); rfl
 refine SeqOps.say (fun v wt => SetV b (frE b (b.isHour hour)) v wt) (fun _ _ _ hR h => h.turned hR) (Sp fun ax wx hS hT' hd K' J => ?_) ?_
 ·have r9 := Tv hd 3 0 9; have r12 := Tv hd 0 3 12; obtain ⟨_, _, _, _, _, _⟩ := bT hT'
  refine o2 r9 r12 fun ρ q9 q12 => ?_; go_simp; (try go_bits);
  go_at_call 65; refine (CF.out _ (hM1.below hT')).mono ?_; rintro e g1 ⟨⟨V, rfl, hV⟩, k1⟩
  exact J.out _ _ _ rfl ⟨V, rfl, hV, hV.nob⟩ (hT'.trans (k1.mono hT'.size)) (TurnO.of k1)
 refine SeqOps.say (fun v wt => SetV b (frE b (b.isHour hour)) v wt) (fun _ _ _ hR h => h.turned hR) (Sp fun ax wx hS hT' hd K' J => ?_) ?_
 ·obtain ⟨v13, r13, h13⟩ := Tg hd 0 4 13; obtain ⟨_, _, _, _, _, _⟩ := bT hT'
  refine o1 r13 fun ρ q13 => ?_; go_simp;
  exact J.out _ _ _ rfl h13 hT' TurnO.refl
 refine SeqOps.say (fun v wt => SetA b (frE b (b.isHour hour)) v wt) (fun _ _ _ hR h => h.turned hR) (Sp fun ax wx hS hT' hd K' J => ?_) ?_
 ·obtain ⟨v8, r8, h8⟩ := Tg hd 0 5 8; obtain ⟨V, rfl, hV, hVn⟩ := h8; obtain ⟨_, _, _, _, _, _⟩ := bT hT'
  refine o1 r8 fun ρ q8 => ?_; go_simp;
  exact J.out _ _ _ rfl ⟨V, rfl, hV, hVn⟩ hT' TurnO.refl
 refine SeqOps.val ?_ (Sp fun ax wx hS hT' hd K' J => ?_) ?_; rotate_left 1
 ·obtain ⟨v8, r8, h8⟩ := Tg hd 1 5 8; obtain ⟨V, rfl, hV, hVn⟩ := h8; obtain ⟨_, _, _, _, _, _⟩ := bT hT'
  refine o1 r8 fun ρ q8 => ?_; go_simp;
  refine J.out _ _ _ rfl ?_ hT' (TurnO.refl); rfl
 refine SeqOps.say (fun v wt => NewO w1.heap.size v wt) (fun _ _ _ hR h => h.turned hR) (Sp fun ax wx hS hT' hd K' J => ?_) ?_
 ·obtain ⟨_, _, _, _, _, _⟩ := bT hT'
  refine o0 fun ρ => ?_; go_simp;
  exact J.out _ _ _ rfl ⟨_, rfl, hT'.size, ⟨_, World.alloc_heap_new _ _, rfl, z12_noB⟩⟩ (hT'.alloc hT'.size _) (TurnO.of ((Below.refl _ _).alloc (Nat.le_refl _) _))
 refine SeqOps.nil ?_
 refine ⟨StepMem.plain (by (first | (simp only [List.getElem?_toArray, List.getElem?_cons_succ, List.getElem?_cons_zero]; rfl) | rfl)) rfl (fun ax wx hS hT' hd K' J => ?_), ?_⟩
 ·obtain ⟨v6, r6, h6⟩ := Tg hd 0 8 6; obtain ⟨C, rfl, hCn, hCb⟩ := h6; obtain ⟨v14, r14, h14⟩ := Tg hd 2 6 14; obtain ⟨V, rfl, hV, hVn⟩ := h14; obtain ⟨_, _, _, _, _, _⟩ := bT hT'
  have hVs : V.toArray.size = 12 := by simpa using hV.len
  obtain ⟨zs, hzs, hRC, hCl⟩ := hCb.row
  refine wp_store_mid 94 (.tmp 6) (.tmp 14) rfl C 0 V.toArray (eval_of r6) (eval_of r14) (there_row hRC (by rw [hzs, hVs]; exact Nat.le_refl _)) (by rw [hVs]; kernel_rfl) hV.one ?_
  have hq := cells_stored (w := w1) hRC (vs := V) (by rw [hzs, hV.len]) hCl hCn hT'
  exact J.out _ _ _ rfl r6 ⟨C, V, rfl, hCn, hq.1, hV.turned (.inr ⟨C, V, hCn, hCb, hV, hVn, rfl⟩)⟩ hq.2.1 (.inr ⟨C, V, hCn, hCb, hV, hVn, rfl⟩)
 intro w2 hBm; (repeat refine Ek ?_); (refine fun v13 h13 => ?_); (refine fun v h => ?_; obtain ⟨V, rfl, hV, hVn⟩ := h); (refine fun v h => ?_; obtain ⟨V, rfl, hV, hVn⟩ := h); (repeat refine Ek ?_); (refine fun v h => ?_; obtain ⟨C, rfl, hCn, hCb⟩ := h);
 refine fun amx hEmx => ?_
 refine fun vm hvm hM => ?_; obtain rfl := Option.some.inj (hvm.symm.trans (hEmx.at 6 rfl)); clear hvm
 simp only [lk, pick, Nat.reduceEqDiff, ↓reduceIte] at hEmx
 refine M1 hEmx 15 fun K' J ρ q15 => ?_; go_simp; (try clear q15)
 refine Ln hEmx J fun am_1 hEm_1 => ?_; clear J K' hEmx
 refine Ld [1, 6, 7] hEm_1 hK fun a hE => ?_; clear hK K Q' hEm_1
 have hbw2 := hbw1.trans (hBm.mono hbw1.size)
 obtain ⟨C', V', hCe, hCn', hCQ, hV3⟩ := hM
 obtain rfl : C = C' := by cases hCe; rfl
 clear V hV hVn hCb hCe
 by_cases he : frE b (b.isHour hour) = 0
 ·obtain ⟨hok, hva, hrt⟩ := frE_zero.1 he
  have hb := ok_iff.1 hok
  have hOV := hV3.ov he
  have HV12 := hid hV3.len
  have hfl : safeR b hour = safB b hour.toNat := by unfold safeR; rw [if_pos he]
  rw [hfl, he]
  rw [he] at hE
  obtain ⟨h, rfl, hh⟩ := isHour_nat hva
  rw [Int.toNat_natCast]
  have CL := hid (isSafe_b hb hrt hh V' w2 hOV)
  clear hfl he hok hva hrt hb
  refine Ks ?_
  refine Rs 2 fun Q' K hK => ?_
  refine M1 hE 7 fun K' J ρ q7 => ?_; go_simp
  refine Ln hE J fun _ Eb => ?_; clear J K' hE a q7
  refine M1 Eb 16 fun K' J ρ q16 => ?_; go_simp; (try go_bits)
  refine Ln Eb J fun _ Ea => ?_; clear J K' Eb q16
  refine Ld [1, 6, 7, 17] Ea hK fun a hE => ?_; clear hK K Q' Ea
  refine Ks ?_
  refine cond_no hE (t := 17) rfl ?_
  refine Ks ?_
  refine Rs 5 fun Q' K hK => ?_
  refine Lp fun K' J => ?_
  have r6 := hE.at 6 rfl
  refine wp_load_mid 94 (.tmp 6) rfl C 0 (eval_of r6) V' _ (fun j u hu => by rw [Nat.zero_add]; exact hCQ.2 j u hu) Tryd.underlying94 rfl (by rw [HV12.out]; kernel_rfl) ?_
  (try clear r6)
  refine Ln hE J fun _ Eb => ?_; clear J K' hE a
  refine M1 Eb 1 fun K' J ρ q1 => ?_; go_simp
  refine Ln Eb J fun _ Ea => ?_; clear J K' Eb q1
  refine M2 Ea 19 20 fun K' J ρ q19 q20 => ?_; go_simp; (try go_bits); (try clear q19 q20)
  go_at_call 69; refine CL.out.mono ?_; rintro e w5 ⟨rfl, h5⟩
  (try clear r19 r20)
  refine Ln Ea J fun _ Eb => ?_; clear J K' Ea
  refine M1 Eb 21 fun K' J ρ q21 => ?_; go_simp
  refine Ln Eb J fun _ Ea => ?_; clear J K' Eb q21
  refine M0 fun K' J ρ => ?_; go_simp;
  refine Ln Ea J fun _ Eb => ?_; clear J K' Ea
  refine Ld [4, 5] Eb hK fun a hE => ?_; clear hK K Q' Eb
  have hb5 := hbw2.trans (h5.mono hbw2.size)
  refine Ks ?_
  exact ret_two hE rfl rfl rfl ⟨rfl, hb5⟩
 ·have hfl : safeR b hour = false := by unfold safeR; rw [if_neg he]
  rw [hfl]
  refine Ks ?_
  refine Rs 2 fun Q' K hK => ?_
  refine M1 hE 7 fun K' J ρ q7 => ?_; go_simp
  refine Ln hE J fun _ Eb => ?_; clear J K' hE a q7
  refine M1 Eb 16 fun K' J ρ q16 => ?_; go_simp; (try go_bits)
  refine Ln Eb J fun _ Ea => ?_; clear J K' Eb q16
  refine Ld [1, 6, 7, 17] Ea hK fun a hE => ?_; clear hK K Q' Ea
  replace hE := hE.turn 17 (v' := .bool true) rfl (by simp [he])
  refine Ks ?_
  refine cond_yes hE (t := 17) rfl ?_
  refine Ks ?_
  refine Rs 3 fun Q' K hK => ?_
  refine M1 hE 7 fun K' J ρ q7 => ?_; go_simp
  refine Ln hE J fun _ Eb => ?_; clear J K' hE a q7
  refine M0 fun K' J ρ => ?_; go_simp;
  refine Ln Eb J fun _ Ea => ?_; clear J K' Eb
  refine M1 Ea 18 fun K' J ρ q18 => ?_; go_simp
  refine Ln Ea J fun _ Eb => ?_; clear J K' Ea q18
  refine Ld [4, 5] Eb hK fun a hE => ?_; clear hK K Q' Eb
  refine Ks ?_
  exact ret_two hE rfl rfl rfl ⟨rfl, hbw2⟩
end
end Go.Proofs.YtkhmcofmjjmjhaaDoor
