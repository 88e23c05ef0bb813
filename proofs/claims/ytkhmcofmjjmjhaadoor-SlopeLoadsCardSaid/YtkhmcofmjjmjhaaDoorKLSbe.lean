/- Slope: the least and the greatest member of a set of numbers. -/
import Derived.Test.YtkhmcofmjjmjhaaDoorKLSk
import Derived.Test.YtkhmcofmjjmjhaaDoorKLSo
import Derived.Test.YtkhmcofmjjmjhaaDoorKLSu
import Derived.BigFrame
namespace Go.Proofs.YtkhmcofmjjmjhaaDoor
set_option linter.unusedSimpArgs false
set_option linter.unusedVariables false
open Go Go.RowKit
attribute [local go_sem high] cell_set_wr
attribute [local go_sem low] cell_wr frozen_wr
attribute [local go_sem] wr_set wr_drew wr_drewN wr_alloc wr_new Rho.c Rho.n Rho.g
def idxK (k : Nat) : Nat := 2 ^ k * 285870213051353865 % 18446744073709551616 / 288230376151711744
def lowN (x : Nat) : Nat := ((List.range 14).find? fun k => x.testBit k).getD 0
def tzE (x : Nat) : Int := IntKind.u64.wrap (bits BinOp.and IntKind.u64 (x : Int) (IntKind.u64.wrap (-(x : Int))) * 285870213051353865) / 288230376151711744
theorem tz_all : ((List.range 16384).all fun x => x == 0 || tzE x == (idxK (lowN x) : Int)) = true := by decide +kernel
theorem tz_at {x : Nat} (hx : x < 16384) (h0 : 0 < x) : tzE x = (idxK (lowN x) : Int) := by
 have h := List.all_eq_true.1 tz_all x (List.mem_range.2 hx); simp only [Bool.or_eq_true, beq_iff_eq] at h
 rcases h with h | h
 ·omega
 ·exact h
theorem low_is {x k : Nat} (hx : x < 16384) (hk : x.testBit k = true) (hm : ∀ j, j < k → x.testBit j = false) : lowN x = k ∧ k < 14 := by
 have h14 : k < 14 := by
  refine Nat.lt_of_not_le fun h => ?_; have : x < 2 ^ k := Nat.lt_of_lt_of_le (show x < 2 ^ 14 from hx) (Nat.pow_le_pow_right (by omega) h); rw [Nat.testBit_lt_two_pow this] at hk
  cases hk
 refine ⟨?_, h14⟩
 unfold lowN
 have : (List.range 14).find? (fun k => x.testBit k) = some k := by
  have hr : List.range 14 = List.range k ++ k :: List.range' (k + 1) (13 - k) := by
   rw [List.range_eq_range', List.range_eq_range', show 14 = k + (14 - k) by omega, ← List.range'_append_1, show 14 - k = (13 - k) + 1 by omega, List.range'_succ, Nat.zero_add]
  rw [hr, List.find?_append, List.find?_eq_none.2 (fun j hj => by rw [hm j (List.mem_range.1 hj)]; simp), Option.none_or, List.find?_cons, hk]
 rw [this]
 rfl
/-- the table that the program has of the low bits -/
def TabW (w : World) : Prop := ∀ k, k < 14 → w.cell? ⟨1, idxK k, none⟩ = some (.int .u8 (k : Int))
theorem TabW.below {w w' : World} (h : TabW w) (hb : Below w.heap.size w w') : TabW w' := fun k hk => by
 have h1 := h k hk
 have hlt : 1 < w.heap.size := by
  cases hb : w.heap[1]? with
  | none => simp [World.cell?, hb] at h1
  | some x => exact heap_lt hb
 exact (hb.cell (p := ⟨1, idxK k, none⟩) hlt).trans h1
theorem idxK_lt (k : Nat) : idxK k < 64 := by
 unfold idxK
 have : 2 ^ k * 285870213051353865 % 18446744073709551616 < 18446744073709551616 := Nat.mod_lt _ (by decide)
 omega
set_option maxRecDepth 100000 in
theorem tz64_any (x k : Nat) (hx : x < 16384) (h0 : 0 < x) (hk : lowN x = k) (hk14 : k < 14) (w : World) (hT : TabW w) : Calls Tryd.prog 110 #[.int .u64 x] w fun e w' => e = .returned (.int .i64 k) ∧ w = w' := by
 have hx0 : ¬ (x : Int) = 0 := by omega
 have hz := tz_at hx h0; rw [hk] at hz; have HZ := hid hz; have hc := hT k hk14; have hi := idxK_lt k; obtain ⟨i, hie⟩ : ∃ i, idxK k = i := ⟨_, rfl⟩; rw [hie] at HZ hc hi; have hiI : (i : Int) < 64 := by omega
 clear hz hie hk; refine En Tryd.func110 Tryd.ntmps110 fun a hE => ?_; refine Ks ?_; refine Rs 1 fun Q' K hK => ?_; refine M0 fun K' J ρ => ?_; go_simp; refine Ln hE J fun _ Eb => ?_; clear J K' hE a; refine Ld [0] Eb hK fun a hE => ?_; clear hK K Q' Eb; refine Ks ?_; refine Rs 2 fun Q' K hK => ?_; refine M1 hE 0 fun K' J ρ q0 => ?_; go_simp; refine Ln hE J fun _ Eb => ?_; clear J K' hE a q0; refine M1 Eb 3 fun K' J ρ q3 => ?_; go_simp; (try go_bits); refine Ln Eb J fun _ Ea => ?_; clear J K' Eb q3; replace Ea := Ea.turn 4 (v' := .bool false) rfl (by (simp; omega)); refine Ld [0, 4] Ea hK fun a hE => ?_; clear hK K Q' Ea; refine Ks ?_; refine cond_no hE (t := 4) rfl ?_; refine Ks ?_; refine Rs 10 fun Q' K hK => ?_; refine M1 hE 0 fun K' J ρ q0 => ?_; go_simp; refine Ln hE J fun _ Eb => ?_; clear J K' hE a q0; refine M1 Eb 0 fun K' J ρ q0 => ?_; go_simp; refine Ln Eb J fun _ Ea => ?_; clear J K' Eb q0; refine M1 Ea 6 fun K' J ρ q6 => ?_; go_simp; (try go_bits); (try simp (disch := omega) only [IntWalk.i64_in]); refine Ln Ea J fun _ Eb => ?_; clear J K' Ea q6; refine M2 Eb 5 7 fun K' J ρ q5 q7 => ?_; go_simp; (try go_bits); refine Ln Eb J fun _ Ea => ?_; clear J K' Eb q5 q7; refine M1 Ea 8 fun K' J ρ q8 => ?_; go_simp; (try go_bits); (try simp (disch := omega) only [IntWalk.i64_in]); refine Ln Ea J fun _ Eb => ?_; clear J K' Ea q8; refine M1 Eb 9 fun K' J ρ q9 => ?_; go_simp; (try go_bits); refine Ln Eb J fun _ Ea => ?_; clear J K' Eb q9; replace Ea := Ea.turn 10 (v' := .int .u64 (i : Int)) rfl (by (rw [← HZ.out]; rfl))
 refine M1 Ea 10 fun K' J ρ q10 => ?_; go_simp; (try go_bits); refine Ln Ea J fun _ Eb => ?_; clear J K' Ea q10; refine M1 Eb 11 fun K' J ρ q11 => ?_; go_simp; refine Ln Eb J fun _ Ea => ?_; clear J K' Eb q11; refine M1 Ea 12 fun K' J ρ q12 => ?_; go_simp; (try go_bits); (try simp (disch := omega) only [IntWalk.i64_in]); refine Ln Ea J fun _ Eb => ?_; clear J K' Ea q12; refine M1 Eb 13 fun K' J ρ q13 => ?_; go_simp; refine Ln Eb J fun _ Ea => ?_; clear J K' Eb q13; refine Ld [2] Ea hK fun a hE => ?_; clear hK K Q' Ea; refine Ks ?_; exact ret_one hE rfl rfl ⟨rfl, rfl⟩
set_option maxRecDepth 100000 in
theorem tz_any (x k : Nat) (hx : x < 16384) (h0 : 0 < x) (hk : lowN x = k) (hk14 : k < 14) (w : World) (hT : TabW w) : Calls Tryd.prog 88 #[.int .u64 x] w fun e w' => e = .returned (.int .i64 k) ∧ w = w' := by
 have C1 := hid (tz64_any x k hx h0 hk hk14 w hT); refine En Tryd.func88 Tryd.ntmps88 fun a hE => ?_; refine Ks ?_; refine Rs 1 fun Q' K hK => ?_; refine M0 fun K' J ρ => ?_; go_simp; refine Ln hE J fun _ Eb => ?_; clear J K' hE a; refine Ld [0] Eb hK fun a hE => ?_; clear hK K Q' Eb; refine Ks ?_; refine wp_cond_false rfl ?_; refine Ks ?_; refine Rs 3 fun Q' K hK => ?_; refine M1 hE 0 fun K' J ρ q0 => ?_; go_simp; refine Ln hE J fun _ Eb => ?_; clear J K' hE a q0; refine M1 Eb 6 fun K' J ρ q6 => ?_; go_simp; (try go_bits); (try clear q6); go_at_call 110; refine (C1.out).mono ?_; rintro e w2 ⟨rfl, rfl⟩; (try clear r6); refine Ln Eb J fun _ Ea => ?_; clear J K' Eb; refine M1 Ea 7 fun K' J ρ q7 => ?_; go_simp; refine Ln Ea J fun _ Eb => ?_; clear J K' Ea q7; refine Ld [2] Eb hK fun a hE => ?_; clear hK K Q' Eb; refine Ks ?_; exact ret_one hE rfl rfl ⟨rfl, rfl⟩
def highN (x : Nat) : Nat := ((List.range 14).reverse.find? fun k => x.testBit k).getD 0
theorem len_all : ((List.range 16384).all fun x => x == 0 || Lib.bitLen x == highN x + 1) = true := by decide +kernel
theorem len_at {x : Nat} (hx : x < 16384) (h0 : 0 < x) : Lib.bitLen x = highN x + 1 := by
 have h := List.all_eq_true.1 len_all x (List.mem_range.2 hx); simp only [Bool.or_eq_true, beq_iff_eq] at h
 rcases h with h | h
 ·omega
 ·exact h
theorem bit_lt {x k : Nat} (hx : x < 16384) (hk : x.testBit k = true) : k < 14 := by
 refine Nat.lt_of_not_le fun h => ?_; have : x < 2 ^ k := Nat.lt_of_lt_of_le (show x < 2 ^ 14 from hx) (Nat.pow_le_pow_right (by omega) h); rw [Nat.testBit_lt_two_pow this] at hk
 cases hk
theorem high_is {x k : Nat} (hx : x < 16384) (hk : x.testBit k = true) (hm : ∀ j, k < j → j < 14 → x.testBit j = false) : highN x = k := by
 have h14 := bit_lt hx hk
 unfold highN
 have h : ∃ m, (List.range 14).reverse.find? (fun k => x.testBit k) = some m := by
  cases hf : (List.range 14).reverse.find? (fun k => x.testBit k) with
  | none => exact absurd hk (List.find?_eq_none.1 hf k (List.mem_reverse.2 (List.mem_range.2 h14)))
  | some m => exact ⟨m, rfl⟩
 obtain ⟨m, hmm⟩ := h; obtain ⟨h1, h2, h3⟩ := find_back 14 m hmm; rw [hmm]
 show m = k
 rcases Nat.lt_trichotomy m k with h4 | h4 | h4
 ·rw [h3 k h4 h14] at hk; cases hk
 ·exact h4
 ·rw [hm m h4 h2] at h1; cases h1
set_option maxRecDepth 100000 in
theorem setspan_any (x lo hi : Nat) (hx : x < 16384) (hl : x.testBit lo = true) (hlm : ∀ j, j < lo → x.testBit j = false) (hh : x.testBit hi = true) (hhm : ∀ j, hi < j → j < 14 → x.testBit j = false) (w : World) (hT : TabW w) : Calls Tryd.prog 72 #[.int .u64 x] w fun e w' => e = .returned (.agg #[.int .i64 lo, .int .i64 hi]) ∧ Below w.heap.size w w' := by
 have h0 : 0 < x := Nat.pos_of_ne_zero fun e => by subst e; simp at hl
 obtain ⟨h1, h2⟩ := low_is hx hl hlm; have h3 := high_is hx hh hhm; have h4 := len_at hx h0; rw [h3] at h4; have h5 := bit_lt hx hh; have C1 := hid fun (W : World) (hW : TabW W) => tz_any x lo hx h0 h1 h2 W hW; have C2 := hid fun (W : World) => sh_bits_Len x W (by omega) (by omega); rw [Int.toNat_natCast, h4] at C2; clear hl hlm hh hhm h1 h3 h4; refine En Tryd.func72 Tryd.ntmps72 fun a hE => ?_; refine Ks ?_; refine Rs 1 fun Q' K hK => ?_; refine M0 fun K' J ρ => ?_; go_simp; refine Ln hE J fun _ Eb => ?_; clear J K' hE a; refine Ld [0, 2] Eb hK fun a hE => ?_; clear hK K Q' Eb; obtain ⟨R, hR⟩ : ∃ B, B = w.heap.size := ⟨_, rfl⟩; rw [← hR] at hE; refine world_cut (fun wt => Below w.heap.size w wt ∧ RowD wt R 2) ⟨(Below.refl _ _).alloc (Nat.le_refl _) _, by rw [hR]; exact ⟨by simp, _, rfl, row_new w _ _⟩⟩ (fun w1 hC => ?_); obtain ⟨hbw1, hRD⟩ := hC; have hnR : w.heap.size ≤ R := Nat.le_of_eq hR.symm; clear hR; obtain ⟨hlR, zs, hzs, hRR⟩ := hRD; have hT1 := hT.below hbw1; refine Ks ?_; refine Rs 7 fun Q' K hK => ?_; refine M1 hE 0 fun K' J ρ q0 => ?_; go_simp; refine Ln hE J fun _ Eb => ?_; clear J K' hE a q0; refine M1 Eb 3 fun K' J ρ q3 => ?_; go_simp; (try go_bits); (try clear q3); go_at_call 88; refine (C1.out _ hT1).mono ?_; rintro e w2 ⟨rfl, rfl⟩; (try clear r3); refine Ln Eb J fun _ Ea => ?_; clear J K' Eb; refine M1 Ea 0 fun K' J ρ q0 => ?_; go_simp; refine Ln Ea J fun _ Eb => ?_; clear J K' Ea q0; refine M1 Eb 5 fun K' J ρ q5 => ?_; go_simp; (try go_bits); (try clear q5)
 go_at_call 89; refine (C2.out _).mono ?_; rintro e w2 ⟨rfl, rfl⟩; (try clear r5); refine Ln Eb J fun _ Ea => ?_; clear J K' Eb; refine M1 Ea 6 fun K' J ρ q6 => ?_; go_simp; (try go_bits); (try simp (disch := omega) only [IntWalk.i64_in]); refine Ln Ea J fun _ Eb => ?_; clear J K' Ea q6; refine M2 Eb 4 7 fun K' J ρ q4 q7 => ?_; go_simp; refine Ln Eb J fun _ Ea => ?_; clear J K' Eb q4 q7; refine Lp fun K' J => ?_; have r2 := Ea.at 2 rfl; have r8 := Ea.at 8 rfl; refine wp_store_mid 25 (.tmp 2) (.tmp 8) rfl R 0 #[.int .i64 lo, .int .i64 hi] (eval_of r2) ?_ (there_row hRR (by rw [hzs]; exact Nat.le_refl _)) (by kernel_rfl) (by kernel_rfl) ?_
 ·rw [eval_of r8]
 (try clear r2 r8); refine late_skip Ea J (fun _ Eb => ?_); clear J K'; clear Ea; refine Ld [2] Eb hK fun a hE => ?_; clear hK K Q' Eb; obtain ⟨q1, q2, _, _⟩ := cells_stored hRR (vs := [.int .i64 lo, .int .i64 hi]) (by rw [hzs]; rfl) hlR hnR hbw1; refine world_cut (fun wt => Cells wt R [.int .i64 lo, .int .i64 hi] ∧ Below w.heap.size w wt) ⟨q1, q2⟩ (fun w9 hCut => ?_); obtain ⟨hC9, hb9⟩ := hCut; refine Ks ?_; exact ret_cell hE rfl rfl hC9.2 Tryd.underlying25 rfl (by kernel_rfl) ⟨rfl, hb9⟩
end Go.Proofs.YtkhmcofmjjmjhaaDoor
