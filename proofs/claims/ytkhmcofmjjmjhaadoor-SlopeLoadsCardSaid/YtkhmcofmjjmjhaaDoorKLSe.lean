/- Slope: the first load from an end on. -/
import Derived.Test.YtkhmcofmjjmjhaaDoorKLSd

namespace Go.Proofs.YtkhmcofmjjmjhaaDoor
set_option linter.unusedSimpArgs false
set_option linter.unusedVariables false
open Go Go.RowKit
attribute [local go_sem high] cell_set_wr
attribute [local go_sem low] cell_wr frozen_wr
attribute [local go_sem] wr_set wr_drew wr_drewN wr_alloc wr_new Rho.c Rho.n Rho.g
/-- what an end's func value says -/
structure EndF (F : FuncId) (g : Nat → Nat) : Prop where
 enter : ∀ args w, (callFunc F args).run Tryd.prog w = .ok (.enter F args) w
 calls : ∀ (k : Nat) (W : World), k < 2000 → Calls Tryd.prog F #[.int .i64 k] W fun e w' => e = .returned (.int .i64 (g k)) ∧ W = w'
 lt : ∀ k, k < 2000 → g k < 2000
/-- Bools in memory, to be read -/
def RowB (w : World) (B : Nat) (f : Nat → Bool) : Prop := ∀ k, k < 2000 → w.cell? ⟨B, k, none⟩ = some (.bool (f k))
def endV (F : FuncId) : Value := .agg #[.func (.func F) #[] #[]]
set_option maxRecDepth 100000 in
set_option maxHeartbeats 1000000 in
theorem upward_any (k : Nat) (w : World) (hk : k < 2000) : Calls Tryd.prog 106 #[.int .i64 k] w fun e w' => e = .returned (.int .i64 k) ∧ w = w' := by
 refine En Tryd.func106 Tryd.ntmps106 fun a hE => ?_; refine Ks ?_; refine Rs 1 fun Q' K hK => ?_; refine M0 fun K' J ρ => ?_; go_simp; refine Ln hE J fun _ Eb => ?_; clear J K' hE a; refine Ld [0] Eb hK fun a hE => ?_; clear hK K Q' Eb; refine Ks ?_; refine Rs 2 fun Q' K hK => ?_; refine M1 hE 0 fun K' J ρ q0 => ?_; go_simp; refine Ln hE J fun _ Eb => ?_; clear J K' hE a q0; refine M1 Eb 3 fun K' J ρ q3 => ?_; go_simp; refine Ln Eb J fun _ Ea => ?_; clear J K' Eb q3; refine Ld [2] Ea hK fun a hE => ?_; clear hK K Q' Ea; refine Ks ?_; exact ret_one hE rfl rfl ⟨rfl, rfl⟩
set_option maxRecDepth 100000 in
set_option maxHeartbeats 1000000 in
theorem downward_any (k : Nat) (w : World) (hk : k < 2000) : Calls Tryd.prog 107 #[.int .i64 k] w fun e w' => e = .returned (.int .i64 ((1999 - k : Nat) : Int)) ∧ w = w' := by
 refine En Tryd.func107 Tryd.ntmps107 fun a hE => ?_; refine Ks ?_; refine Rs 1 fun Q' K hK => ?_; refine M0 fun K' J ρ => ?_; go_simp; refine Ln hE J fun _ Eb => ?_; clear J K' hE a; refine Ld [0] Eb hK fun a hE => ?_; clear hK K Q' Eb; refine Ks ?_; refine Rs 3 fun Q' K hK => ?_; refine M1 hE 0 fun K' J ρ q0 => ?_; go_simp; refine Ln hE J fun _ Eb => ?_; clear J K' hE a q0; refine M1 Eb 3 fun K' J ρ q3 => ?_; go_simp; (try go_bits); (try simp (disch := omega) only [IntWalk.i64_in]); refine Ln Eb J fun _ Ea => ?_; clear J K' Eb q3; refine M1 Ea 4 fun K' J ρ q4 => ?_; go_simp; refine Ln Ea J fun _ Eb => ?_; clear J K' Ea q4; refine Ld [2] Eb hK fun a hE => ?_; clear hK K Q' Eb; refine Ks ?_; exact ret_one hE rfl rfl ⟨by rw [Int.ofNat_sub (by omega)]; rfl, rfl⟩
set_option maxRecDepth 100000 in
set_option maxHeartbeats 1000000 in
theorem first_any (f : Nat → Bool) (F : FuncId) (g : Nat → Nat) (HF : Hid (EndF F g)) (m : Nat) (hm : m < 2000) (hn : ∀ k, k < m → f (g k) = false) (hy : f (g m) = true) (w : World) : Calls Tryd.prog 105 #[.agg (bls f).toArray, endV F] w fun e w' => e = .returned (.int .i64 (g m)) ∧ Below w.heap.size w w' := by
 have HN := hid hn; have HY := hid hy; clear hn hy
 unfold endV
 refine En Tryd.func105 Tryd.ntmps105 fun a hE => ?_; refine Ks ?_; refine Rs 3 fun Q' K hK => ?_; refine M1 hE 0 fun K' J ρ q0 => ?_; go_simp; refine Ln hE J fun _ Eb => ?_; clear J K' hE a q0; refine M1 Eb 1 fun K' J ρ q1 => ?_; go_simp; refine Ln Eb J fun _ Ea => ?_; clear J K' Eb q1; refine M0 fun K' J ρ => ?_; go_simp; refine Ln Ea J fun _ Eb => ?_; clear J K' Ea; refine Ld [2, 3] Eb hK fun a hE => ?_; clear hK K Q' Eb; obtain ⟨B, hB⟩ : ∃ B, B = w.heap.size := ⟨_, rfl⟩; obtain ⟨R, hR⟩ : ∃ B, B = w.heap.size + 1 := ⟨_, rfl⟩; rw [← hR, ← hB] at hE; refine world_cut (fun wt => Below w.heap.size w wt ∧ RowB wt B f ∧ wt.cell? ⟨R, 0, none⟩ = some (.func (.func F) #[] #[])) ?_ (fun w1 hC => ?_)
 ·rw [hB, hR]; obtain ⟨q1, q2, q3, q4⟩ := box_row w (bls f).toArray 123 #[.func (.func F) #[] #[]] 148; exact ⟨q1, fun k hk => q2.2 k _ (bls_at f hk), (q4 0 _ rfl).1⟩
 obtain ⟨hbw1, hRB, cR⟩ := hC; clear hB hR; refine Ks ?_; refine Rs 1 fun Q' K hK => ?_; refine M0 fun K' J ρ => ?_; go_simp; refine Ln hE J fun _ Eb => ?_; clear J K' hE a; refine Ld [2, 3, 7] Eb hK fun a hE => ?_; clear hK K Q' Eb; refine Ks ?_; refine loop_st (fun (k : Nat) a w' => k ≤ m ∧ Fits 19 [(2, .pointer (some ⟨B, 0, none⟩)), (3, .pointer (some ⟨R, 0, none⟩)), (7, .int .i64 k)] a ∧ w' = w1) (fun k => 2000 - k) 0 ⟨Nat.zero_le _, by simpa using hE, rfl⟩ (fun k a wr hI => ?_); clear hE; obtain ⟨hk, hE, rfl⟩ := hI; have hlt : k < 2000 := by omega
 have hltI : (k : Int) < 2000 := by omega
 have hgk := HF.out.lt k hlt; have hgkI : (g k : Int) < 2000 := by omega
 have c0 : wr.cell? ⟨B, g k, none⟩ = some (.bool (f (g k))) := hRB (g k) hgk; have HPk := hid (HF.out.calls k wr hlt); have HPe := hid HF.out.enter
 by_cases hkm : k < m
 ·rw [HN.out k hkm] at c0; refine Ks ?_; refine Rs 1 fun Q' K hK => ?_; refine M1 hE 7 fun K' J ρ q7 => ?_; go_simp; (try go_bits); refine Ln hE J fun _ Eb => ?_; clear J K' hE a q7; replace Eb := Eb.turn 8 (v' := .bool true) rfl (by (first | (simp; done) | (simp; omega))); refine Ld [2, 3, 7, 8] Eb hK fun a hE => ?_; clear hK K Q' Eb; refine Ks ?_; refine cond_yes hE (t := 8) rfl ?_; refine Ks ?_; refine Rs 2 fun Q' K hK => ?_; refine M1 hE 7 fun K' J ρ q7 => ?_; go_simp; refine Ln hE J fun _ Eb => ?_; clear J K' hE a q7; refine M1 Eb 9 fun K' J ρ q9 => ?_; go_simp; refine Ln Eb J fun _ Ea => ?_; clear J K' Eb q9; refine Ld [2, 3, 5, 7] Ea hK fun a hE => ?_; clear hK K Q' Ea; refine Ks ?_; refine Rs 5 fun Q' K hK => ?_; refine M1 hE 3 fun K' J ρ q3 => ?_; go_simp; refine Ln hE J fun _ Eb => ?_; clear J K' hE a q3; refine M1 Eb 10 fun K' J ρ q10 => ?_; go_simp; refine Ln Eb J fun _ Ea => ?_; clear J K' Eb q10; refine M1 Ea 5 fun K' J ρ q5 => ?_; go_simp; refine Ln Ea J fun _ Eb => ?_; clear J K' Ea q5; refine M2 Eb 11 12 fun K' J ρ q11 q12 => ?_; go_simp; (try go_bits); (try clear q11 q12); rw [HPe.out]; go_simp; refine (HPk.out).mono ?_; rintro e w5 ⟨rfl, rfl⟩; (try clear r11 r12); refine Ln Eb J fun _ Ea => ?_; clear J K' Eb; refine M1 Ea 13 fun K' J ρ q13 => ?_; go_simp; refine Ln Ea J fun _ Eb => ?_; clear J K' Ea q13; refine Ld [2, 3, 6, 7] Eb hK fun a hE => ?_; clear hK K Q' Eb; refine Ks ?_; refine Rs 3 fun Q' K hK => ?_; refine M1 hE 6 fun K' J ρ q6 => ?_; go_simp; refine Ln hE J fun _ Eb => ?_; clear J K' hE a q6
  refine M2 Eb 2 14 fun K' J ρ q2 q14 => ?_; go_simp; (try go_bits); refine Ln Eb J fun _ Ea => ?_; clear J K' Eb q2 q14; refine M1 Ea 15 fun K' J ρ q15 => ?_; go_simp; refine Ln Ea J fun _ Eb => ?_; clear J K' Ea q15; replace Eb := Eb.turn 16 (v' := .bool false) rfl (by (first | rfl | simp)); refine Ld [2, 3, 6, 7, 16] Eb hK fun a hE => ?_; clear hK K Q' Eb; refine Ks ?_; refine cond_no hE (t := 16) rfl ?_; refine Ks ?_; refine Rs 2 fun Q' K hK => ?_; refine M1 hE 7 fun K' J ρ q7 => ?_; go_simp; (try go_bits); (try simp (disch := omega) only [IntWalk.i64_in]); refine Ln hE J fun _ Eb => ?_; clear J K' hE a q7; refine M1 Eb 18 fun K' J ρ q18 => ?_; go_simp; refine Ln Eb J fun _ Ea => ?_; clear J K' Eb q18; refine Ld [2, 3, 7] Ea hK fun a hE => ?_; clear hK K Q' Ea; refine Ks ?_; exact ⟨k + 1, ⟨hkm, by simpa using hE, rfl⟩, by omega⟩
 ·have hke : k = m := by omega
  subst hke; rw [HY.out] at c0; refine Ks ?_; refine Rs 1 fun Q' K hK => ?_; refine M1 hE 7 fun K' J ρ q7 => ?_; go_simp; (try go_bits); refine Ln hE J fun _ Eb => ?_; clear J K' hE a q7; replace Eb := Eb.turn 8 (v' := .bool true) rfl (by (first | (simp; done) | (simp; omega))); refine Ld [2, 3, 7, 8] Eb hK fun a hE => ?_; clear hK K Q' Eb; refine Ks ?_; refine cond_yes hE (t := 8) rfl ?_; refine Ks ?_; refine Rs 2 fun Q' K hK => ?_; refine M1 hE 7 fun K' J ρ q7 => ?_; go_simp; refine Ln hE J fun _ Eb => ?_; clear J K' hE a q7; refine M1 Eb 9 fun K' J ρ q9 => ?_; go_simp; refine Ln Eb J fun _ Ea => ?_; clear J K' Eb q9; refine Ld [2, 3, 5, 7] Ea hK fun a hE => ?_; clear hK K Q' Ea; refine Ks ?_; refine Rs 5 fun Q' K hK => ?_; refine M1 hE 3 fun K' J ρ q3 => ?_; go_simp; refine Ln hE J fun _ Eb => ?_; clear J K' hE a q3; refine M1 Eb 10 fun K' J ρ q10 => ?_; go_simp; refine Ln Eb J fun _ Ea => ?_; clear J K' Eb q10; refine M1 Ea 5 fun K' J ρ q5 => ?_; go_simp; refine Ln Ea J fun _ Eb => ?_; clear J K' Ea q5; refine M2 Eb 11 12 fun K' J ρ q11 q12 => ?_; go_simp; (try go_bits); (try clear q11 q12); rw [HPe.out]; go_simp; refine (HPk.out).mono ?_; rintro e w5 ⟨rfl, rfl⟩; (try clear r11 r12); refine Ln Eb J fun _ Ea => ?_; clear J K' Eb; refine M1 Ea 13 fun K' J ρ q13 => ?_; go_simp; refine Ln Ea J fun _ Eb => ?_; clear J K' Ea q13; refine Ld [2, 3, 6, 7] Eb hK fun a hE => ?_; clear hK K Q' Eb; refine Ks ?_; refine Rs 3 fun Q' K hK => ?_; refine M1 hE 6 fun K' J ρ q6 => ?_; go_simp
  refine Ln hE J fun _ Eb => ?_; clear J K' hE a q6; refine M2 Eb 2 14 fun K' J ρ q2 q14 => ?_; go_simp; (try go_bits); refine Ln Eb J fun _ Ea => ?_; clear J K' Eb q2 q14; refine M1 Ea 15 fun K' J ρ q15 => ?_; go_simp; refine Ln Ea J fun _ Eb => ?_; clear J K' Ea q15; replace Eb := Eb.turn 16 (v' := .bool true) rfl (by (first | rfl | simp)); refine Ld [2, 3, 6, 7, 16] Eb hK fun a hE => ?_; clear hK K Q' Eb; refine Ks ?_; refine cond_yes hE (t := 16) rfl ?_; refine Ks ?_; refine Rs 2 fun Q' K hK => ?_; refine M1 hE 6 fun K' J ρ q6 => ?_; go_simp; refine Ln hE J fun _ Eb => ?_; clear J K' hE a q6; refine M1 Eb 17 fun K' J ρ q17 => ?_; go_simp; refine Ln Eb J fun _ Ea => ?_; clear J K' Eb q17; refine Ld [4] Ea hK fun a hE => ?_; clear hK K Q' Ea; refine Ks ?_; exact ret_one hE rfl rfl ⟨rfl, hbw1⟩
theorem upward_end : EndF 106 fun k => k where
 enter := fun args w => by kernel_rfl
 calls := fun k w hk => upward_any k w hk
 lt := fun k hk => hk
theorem downward_end : EndF 107 fun k => 1999 - k where
 enter := fun args w => by kernel_rfl
 calls := fun k w hk => downward_any k w hk
 lt := fun k hk => by omega
set_option maxRecDepth 100000 in
set_option maxHeartbeats 1000000 in
theorem span_any (f : Nat → Bool) (lo hi : Nat) (hlo : lo < 2000) (hl : ∀ k, k < lo → f k = false) (hl1 : f lo = true) (hhi : hi < 2000) (hh : ∀ k, hi < k → k < 2000 → f k = false) (hh1 : f hi = true) (w : World) : Calls Tryd.prog 85 #[.agg (bls f).toArray] w fun e w' => e = .returned (.agg #[.int .i64 lo, .int .i64 hi]) ∧ Below w.heap.size w w' := by
 have C1 := hid (first_any f _ _ (hid upward_end) lo hlo hl hl1); have C2 := hid (first_any f _ _ (hid downward_end) (1999 - hi) (by omega) (fun k hk => hh _ (by omega) (by omega)) (by rw [show 1999 - (1999 - hi) = hi by omega]; exact hh1)); simp only [show 1999 - (1999 - hi) = hi by omega] at C2; clear hlo hl hl1 hhi hh hh1; refine En Tryd.func85 Tryd.ntmps85 fun a hE => ?_; refine Ks ?_; refine Rs 2 fun Q' K hK => ?_; refine M1 hE 0 fun K' J ρ q0 => ?_; go_simp; refine Ln hE J fun _ Eb => ?_; clear J K' hE a q0; refine M0 fun K' J ρ => ?_; go_simp; refine Ln Eb J fun _ Ea => ?_; clear J K' Eb; refine Ld [1, 2] Ea hK fun a hE => ?_; clear hK K Q' Ea; obtain ⟨B, hB⟩ : ∃ B, B = w.heap.size := ⟨_, rfl⟩; obtain ⟨R, hR⟩ : ∃ B, B = w.heap.size + 1 := ⟨_, rfl⟩; rw [← hR, ← hB] at hE; refine world_cut (fun wt => Below w.heap.size w wt ∧ B < wt.heap.size ∧ Row wt B (bls f) ∧ RowD wt R 2) ?_ (fun w1 hC => ?_)
 ·rw [hB, hR]; obtain ⟨q1, q2, q3, q4⟩ := box_row w (bls f).toArray 123 #[.int .i64 0, .int .i64 0] 25; exact ⟨q1, q2.1, ((row_new w (bls f).toArray _).below ((Below.refl _ _).alloc (Nat.le_refl _) _) (by simp)), q3, _, rfl, q4⟩
 obtain ⟨hbw1, hlB, hRB, hRD⟩ := hC; have hnR : w.heap.size ≤ R := by omega
 clear hB hR; refine Ks ?_; refine Rd [7] (fun wt => Below w1.heap.size w1 wt) (fun w1 w2 => Below w1.heap.size w1 w2) [(0, some 3), (1, some 4), (2, some 5), (3, some 6), (4, some 7), (5, some 8), (6, some 9)] [3, 4, 5, 6, 7, 8, 9] #[true, true, true, true, true, true, true, false] [2] hE ((Below.refl _ _).drew) fun Q' K hK => ?_; refine SeqOps.val ?_ (Sp fun ax wx hS hT' hd K' J => ?_) ?_; rotate_left 1
 ·have r1 := Ta hS hE 1; obtain ⟨_, _, _, _, _, _⟩ := bT hT'; refine wp_load_mid 123 (.tmp 1) rfl B 0 (eval_of r1) (bls f) _ (fun j u hu => by rw [Nat.zero_add]; exact ((hRB.below hT' hlB) j u hu).1) Tryd.underlying123 rfl (by rw [bls_length]; kernel_rfl) ?_; refine J.out _ _ _ rfl ?_ hT' (Below.refl _ _); rfl
 refine SeqOps.val ?_ (Sp fun ax wx hS hT' hd K' J => ?_) ?_; rotate_left 1
 ·skip
  refine o0 fun ρ => ?_; go_simp; exact Jo J hT'
 refine SeqOps.val ?_ (Sp fun ax wx hS hT' hd K' J => ?_) ?_; rotate_left 1
 ·have r3 := Tv hd 1 0 3; have r4 := Tv hd 0 1 4; obtain ⟨_, _, _, _, _, _⟩ := bT hT'; refine o2 r3 r4 fun ρ q3 q4 => ?_; go_simp; (try go_bits); go_at_call 105; refine (C1.out _).mono ?_; rintro e w4 ⟨rfl, h4⟩; refine J.out _ _ _ rfl ?_ (hT'.trans (h4.mono hT'.size)) h4; rfl
 refine SeqOps.val ?_ (Sp fun ax wx hS hT' hd K' J => ?_) ?_; rotate_left 1
 ·have r1 := Ta hS hE 1; obtain ⟨_, _, _, _, _, _⟩ := bT hT'; refine wp_load_mid 123 (.tmp 1) rfl B 0 (eval_of r1) (bls f) _ (fun j u hu => by rw [Nat.zero_add]; exact ((hRB.below hT' hlB) j u hu).1) Tryd.underlying123 rfl (by rw [bls_length]; kernel_rfl) ?_; refine J.out _ _ _ rfl ?_ hT' (Below.refl _ _); rfl
 refine SeqOps.val ?_ (Sp fun ax wx hS hT' hd K' J => ?_) ?_; rotate_left 1
 ·skip
  refine o0 fun ρ => ?_; go_simp; exact Jo J hT'
 refine SeqOps.val ?_ (Sp fun ax wx hS hT' hd K' J => ?_) ?_; rotate_left 1
 ·have r6 := Tv hd 1 3 6; have r7 := Tv hd 0 4 7; obtain ⟨_, _, _, _, _, _⟩ := bT hT'; refine o2 r6 r7 fun ρ q6 q7 => ?_; go_simp; (try go_bits); go_at_call 105; refine (C2.out _).mono ?_; rintro e w4 ⟨rfl, h4⟩; refine J.out _ _ _ rfl ?_ (hT'.trans (h4.mono hT'.size)) h4; rfl
 refine SeqOps.val ?_ (Sp fun ax wx hS hT' hd K' J => ?_) ?_; rotate_left 1
 ·have r5 := Tv hd 3 2 5; have r8 := Tv hd 0 5 8; refine o2 r5 r8 fun ρ q5 q8 => ?_; go_simp; exact Jo J hT'
 refine SeqOps.nil ?_
 intro w2 hBm; (repeat refine Ek ?_)
 refine fun amx hEmx => ?_; simp only [lk, pick, Nat.reduceEqDiff, ↓reduceIte] at hEmx; refine Lp fun K' J => ?_; have r2 := hEmx.at 2 rfl; have r9 := hEmx.at 9 rfl; obtain ⟨hlR, zs, hzs, hRR⟩ := hRD.below hBm; refine wp_store_mid 25 (.tmp 2) (.tmp 9) rfl R 0 #[.int .i64 lo, .int .i64 hi] (eval_of r2) (eval_of r9) (there_row hRR (by rw [hzs]; exact Nat.le_refl _)) (by kernel_rfl) (by kernel_rfl) ?_; (try clear r2 r9); refine late_skip hEmx J (fun am_1 hEm_1 => ?_); clear J K'; clear hEmx; refine Ld [2] hEm_1 hK fun a hE => ?_; clear hK K Q' hEm_1; have hbw2 := hbw1.trans (hBm.mono hbw1.size); have hbr := hbw1.trans (hBm.mono hbw1.size); refine world_cut (fun wt => Cells wt R [.int .i64 lo, .int .i64 hi] ∧ Below w.heap.size w wt) ⟨(cells_stored hRR (vs := [.int .i64 lo, .int .i64 hi]) (by rw [hzs]; rfl) hlR hnR hbr).1, (cells_stored hRR (vs := [.int .i64 lo, .int .i64 hi]) (by rw [hzs]; rfl) hlR hnR hbr).2.1⟩ (fun w9 hCut => ?_); obtain ⟨hC9, hb9⟩ := hCut; refine Ks ?_; exact ret_cell hE rfl rfl hC9.2 Tryd.underlying25 rfl (by kernel_rfl) ⟨rfl, hb9⟩
end Go.Proofs.YtkhmcofmjjmjhaaDoor
