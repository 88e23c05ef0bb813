/- Slope: what is left behind an hour. -/
import Derived.Test.YtkhmcofmjjmjhaaDoorKTSe
import Derived.ChangeKeysEq
namespace Go.Proofs.YtkhmcofmjjmjhaaDoor
set_option linter.unusedSimpArgs false
set_option linter.unusedVariables false
open Go Go.RowKit
attribute [local go_sem high] cell_set_wr
attribute [local go_sem low] cell_wr frozen_wr
attribute [local go_sem] wr_set wr_drew wr_drewN wr_alloc wr_new Rho.c Rho.n Rho.g
/-- a course's cells -/
def bls2 (f g : Nat → Bool) : List Value := bls f ++ bls g
theorem bls2_length (f g : Nat → Bool) : (bls2 f g).length = 4000 := by rw [bls2, List.length_append, bls_length, bls_length]
theorem bls2_zero {w : World} {B : Nat} {f g : Nat → Bool} (h : Row w B (bls2 f g)) : w.rangeAt B 0 (bls f) := fun j u hu => by
 rw [Nat.zero_add]
 exact (h j u (by rw [bls2, List.getElem?_append_left (List.getElem?_eq_some_iff.1 hu).1]; exact hu)).1
theorem bls2_one {w : World} {B : Nat} {f g : Nat → Bool} (h : Row w B (bls2 f g)) : w.rangeAt B 2000 (bls g) := fun j u hu =>
 (h (2000 + j) u (by rw [bls2, List.getElem?_append_right (by rw [bls_length]; omega), bls_length, Nat.add_sub_cancel_left]; exact hu)).1
/-- whether one of them is so -/
def anyB (g : Nat → Bool) : Bool := (List.range 2000).any g
theorem eq_items (g h : Nat → Bool) (w : World) : ∀ is : List Nat, (∀ i, i ∈ is → i < 2000) → (Op.eqItems 9999 4 (Program.cellsOf Tryd.prog 4) (.mk (bls g)) (.mk (bls h)) is).run Tryd.prog w = .ok (is.all fun i => g i == h i) w
 | [], _ => by simp [Op.eqItems]
 | i :: is, hl => by
  have hi : i < 2000 := hl i (by simp)
  have hc : Program.cellsOf Tryd.prog 4 = 1 := by kernel_rfl
  have he : Tryd.prog.underlying 4 = some .bool := by kernel_rfl
  have px : ∀ f : Nat → Bool, (part 4 (.mk (bls f)) (i * 1)).run Tryd.prog w = .ok (.bool (f i)) w := fun f => by
   have := bls_at f hi
   simp [part, isAgg, run_underlying he, this]
  have ih := eq_items g h w is fun j hj => hl j (by simp [hj])
  rw [hc] at ih ⊢
  simp only [Op.eqItems, Sem.run_bind, px, Result.andThen_ok, run_equalIn_bool w 9998 _ _ _ he, List.all_cons]
  cases hb : (g i == h i)
  ·simp
  ·simpa using ih
set_option maxRecDepth 100000 in
theorem eq_loads (g : Nat → Bool) (w : World) : (Op.equalIn 10000 123 (.agg (bls g).toArray) (.agg Tryd.zeroCells123)).run Tryd.prog w = .ok (!anyB g) w := by
 rw [zero_loads]
 obtain ⟨i, hi⟩ : ∃ i, Tryd.prog.info? 4 = some i := ⟨_, rfl⟩
 rw [run_equalIn_array w 9999 (n := 2000) (e := 4) (i := i) _ _ (by kernel_rfl) hi, eq_items g _ w (List.range 2000) (fun i hi => List.mem_range.1 hi)]
 congr 1
 unfold anyB
 generalize List.range 2000 = is
 induction is with
 | nil => rfl
 | cons j is ih => rw [List.all_cons, List.any_cons, ih, Bool.not_or]; cases g j <;> rfl
set_option maxRecDepth 100000 in
set_option maxHeartbeats 1000000 in
theorem cleft_any (f g : Nat → Bool) (w : World) : Calls Tryd.prog 100 #[.agg (bls2 f g).toArray] w fun e w' => e = .returned (.agg (bls fun k => if k = 0 then f 0 || anyB g else f k).toArray) ∧ Below w.heap.size w w' := by
 refine enterE Tryd.func100 rfl Tryd.ntmps100 (by simp) (fun a hE => ?_); simp only [envOf, Nat.zero_add, Nat.reduceAdd] at hE
 refine Ks ?_
 refine Rs 2 fun Q' K hK => ?_
 refine M1 hE 0 fun K' J ρ q0 => ?_; go_simp
 refine Ln hE J fun _ Eb => ?_; clear J K' hE a q0
 refine M0 fun K' J ρ => ?_; go_simp;
 refine Ln Eb J fun _ Ea => ?_; clear J K' Eb
 refine Ld [1, 2] Ea hK fun a hE => ?_; clear hK K Q' Ea
 rw [zero_loads]
 obtain ⟨B, hB⟩ : ∃ B, B = w.heap.size := ⟨_, rfl⟩
 obtain ⟨R, hR⟩ : ∃ B, B = w.heap.size + 1 := ⟨_, rfl⟩
 rw [← hR, ← hB] at hE
 refine world_cut (fun wt => Below w.heap.size w wt ∧ B < wt.heap.size ∧ Row wt B (bls2 f g) ∧ RowD wt R 2000) ?_ (fun w1 hC => ?_)
 ·rw [hB, hR]; obtain ⟨q1, q2, q3, q4⟩ := box_row w (bls2 f g).toArray 141 (bls fun _ => false).toArray 123; exact ⟨q1, q2.1, ((row_new w (bls2 f g).toArray _).below ((Below.refl _ _).alloc (Nat.le_refl _) _) (by simp)), q3, bls fun _ => false, bls_length _, q4⟩
 obtain ⟨hbw1, hlB, hRB, hRD⟩ := hC
 have hnR : w.heap.size ≤ R := by omega
 clear hB hR
 refine Ks ?_
 refine Rs 4 fun Q' K hK => ?_
 refine M1 hE 1 fun K' J ρ q1 => ?_; go_simp
 refine Ln hE J fun _ Eb => ?_; clear J K' hE a q1
 refine Lp fun K' J => ?_
 have r4 := Eb.at 4 rfl
 refine wp_load_mid 123 (.tmp 4) rfl B 0 (eval_of r4) (bls f) _ (bls2_zero hRB) Tryd.underlying123 rfl (by rw [bls_length]; kernel_rfl) ?_
 (try clear r4)
 refine Ln Eb J fun _ Ea => ?_; clear J K' Eb
 refine M0 fun K' J ρ => ?_; go_simp;
 refine Ln Ea J fun _ Eb => ?_; clear J K' Ea
 refine Lp fun K' J => ?_
 have r3 := Eb.at 3 rfl; have r5 := Eb.at 5 rfl
 rw [zero_loads]
 refine wp_store_mid 123 (.tmp 3) (.tmp 5) rfl w1.heap.size 0 (bls f).toArray (eval_of r3) (eval_of r5) (there_row (row_new w1 _ _) (by simp [bls_length])) (by rw [List.size_toArray, bls_length]; kernel_rfl) (bls_one _) ?_
 (try clear r3 r5)
 refine late_skip Eb J (fun _ Ea => ?_); clear J K'; clear Eb
 refine Ld [1, 2, 3] Ea hK fun a hE => ?_; clear hK K Q' Ea
 obtain ⟨C, hC⟩ : ∃ B, B = w1.heap.size := ⟨_, rfl⟩
 rw [← hC] at hE
 refine world_cut (fun wt => Below w1.heap.size w1 wt ∧ C < wt.heap.size ∧ Row wt C (bls f)) ?_ (fun w2 hCut => ?_)
 ·rw [hC]; have q := boxed_new w1 (bls fun _ => false).toArray 123 (bls f) (by rw [List.size_toArray, bls_length, bls_length]); exact ⟨q.1, q.2.1, row_all (row_new w1 _ _) (by rw [List.toList_toArray, bls_length, bls_length])⟩
 obtain ⟨h2, hlC, hRC⟩ := hCut
 have hnC : w1.heap.size ≤ C := Nat.le_of_eq hC.symm
 have hRC1 : C ≠ R := by have := hRD.1; omega
 clear hC
 have hRB2 := hRB.below h2 hlB
 have hRD2 := hRD.below h2
 have hbw2 := hbw1.trans (h2.mono hbw1.size)
 refine Ks ?_
 refine Rs 4 fun Q' K hK => ?_
 refine M1 hE 1 fun K' J ρ q1 => ?_; go_simp
 refine Ln hE J fun _ Eb => ?_; clear J K' hE a q1
 refine Lp fun K' J => ?_
 have r6 := Eb.at 6 rfl
 refine wp_load_mid 123 (.tmp 6) rfl B 2000 (eval_of r6) (bls g) _ (bls2_one hRB2) Tryd.underlying123 rfl (by rw [bls_length]; kernel_rfl) ?_
 (try clear r6)
 refine Ln Eb J fun _ Ea => ?_; clear J K' Eb
 refine M0 fun K' J ρ => ?_; go_simp;
 refine Ln Ea J fun _ Eb => ?_; clear J K' Ea
 refine M2 Eb 7 8 fun K' J ρ q7 q8 => ?_; go_simp; (try go_bits); (try clear q7 q8)
 rw [eq_loads]
 go_simp
 (try clear r7 r8)
 refine Ln Eb J fun _ Ea => ?_; clear J K' Eb
 refine Ld [2, 3, 9] Ea hK fun a hE => ?_; clear hK K Q' Ea
 cases hv : anyB g
 ·have HV := hid hv
  rw [hv] at hE
  clear hv
  obtain ⟨hlR, zs, hzs, hRR⟩ := hRD2
  refine Ks ?_
  refine cond_no hE (t := 9) rfl ?_
  refine Ks ?_
  refine Rs 2 fun Q' K hK => ?_
  refine Lp fun K' J => ?_
  have r3 := hE.at 3 rfl
  refine wp_load_mid 123 (.tmp 3) rfl C 0 (eval_of r3) (bls f) _ (fun j u hu => by rw [Nat.zero_add]; exact (hRC j u hu).1) Tryd.underlying123 rfl (by rw [bls_length]; kernel_rfl) ?_
  (try clear r3)
  refine Ln hE J fun _ Eb => ?_; clear J K' hE a
  refine Lp fun K' J => ?_
  have r2 := Eb.at 2 rfl; have r11 := Eb.at 11 rfl
  refine wp_store_mid 123 (.tmp 2) (.tmp 11) rfl R 0 (bls f).toArray (eval_of r2) (eval_of r11) (there_row hRR (by rw [hzs, List.size_toArray, bls_length]; exact Nat.le_refl _)) (by rw [List.size_toArray, bls_length]; kernel_rfl) (bls_one _) ?_
  (try clear r2 r11)
  refine late_skip Eb J (fun _ Ea => ?_); clear J K'; clear Eb
  refine Ld [2] Ea hK fun a hE => ?_; clear hK K Q' Ea
  refine world_cut (fun wt => Below w.heap.size w wt ∧ Row wt R (bls f)) ⟨Lib.below_setCells R hnR _ _ hbw2, row_all hRR (by rw [hzs, bls_length])⟩ (fun w9 hC => ?_)
  obtain ⟨hb9, hRR9⟩ := hC
  refine Ks ?_
  exact ret_cell hE rfl rfl (fun j u hu => (hRR9 j u hu).1) Tryd.underlying123 rfl (by rw [bls_length]; kernel_rfl) ⟨by rw [bls_congr (f := fun k => if k = 0 then f 0 || false else f k) (g := f) fun i hi => by by_cases e : i = 0 <;> simp [e]], hb9⟩
 ·have HV := hid hv
  rw [hv] at hE
  clear hv
  have c0 : w2.cell? ⟨C, 0, none⟩ = some (.bool (f 0)) := row_at hRC (bls_at f (by omega))
  have hw0 := (hRC 0 _ (bls_at f (by omega))).2
  refine Ks ?_
  refine cond_yes hE (t := 9) rfl ?_
  refine Ks ?_
  refine Rs 2 fun Q' K hK => ?_
  refine M1 hE 3 fun K' J ρ q3 => ?_; go_simp; (try go_bits)
  refine Ln hE J fun _ Eb => ?_; clear J K' hE a q3
  refine M1 Eb 10 fun K' J ρ q10 => ?_; go_simp; (try clear q10)
  refine late_skip Eb J (fun _ Ea => ?_); clear J K'; clear Eb
  refine Ld [2, 3] Ea hK fun a hE => ?_; clear hK K Q' Ea
  refine world_cut (fun wt => Below w.heap.size w wt ∧ Row wt C (bls (fun k => if k = 0 then true else f k)) ∧ RowD wt R 2000) ?_ (fun w6 hC => ?_)
  ·obtain ⟨g1, zs, g2, g3⟩ := hRD2; exact ⟨hbw2.setCell (by simp only; have := hbw1.size; omega) _, by have h := hRC.set (o := 0) (v := .bool true) (by rw [bls_length]; omega); rw [bls_set] at h; exact h, by simpa using g1, zs, g2, g3.other hRC1⟩
  obtain ⟨hb6, hRC6, hRD6⟩ := hC
  obtain ⟨hlR, zs, hzs, hRR⟩ := hRD6
  refine Ks ?_
  refine Rs 2 fun Q' K hK => ?_
  refine Lp fun K' J => ?_
  have r3 := hE.at 3 rfl
  refine wp_load_mid 123 (.tmp 3) rfl C 0 (eval_of r3) (bls (fun k => if k = 0 then true else f k)) _ (fun j u hu => by rw [Nat.zero_add]; exact (hRC6 j u hu).1) Tryd.underlying123 rfl (by rw [bls_length]; kernel_rfl) ?_
  (try clear r3)
  refine Ln hE J fun _ Eb => ?_; clear J K' hE a
  refine Lp fun K' J => ?_
  have r2 := Eb.at 2 rfl; have r11 := Eb.at 11 rfl
  refine wp_store_mid 123 (.tmp 2) (.tmp 11) rfl R 0 (bls (fun k => if k = 0 then true else f k)).toArray (eval_of r2) (eval_of r11) (there_row hRR (by rw [hzs, List.size_toArray, bls_length]; exact Nat.le_refl _)) (by rw [List.size_toArray, bls_length]; kernel_rfl) (bls_one _) ?_
  (try clear r2 r11)
  refine late_skip Eb J (fun _ Ea => ?_); clear J K'; clear Eb
  refine Ld [2] Ea hK fun a hE => ?_; clear hK K Q' Ea
  refine world_cut (fun wt => Below w.heap.size w wt ∧ Row wt R (bls (fun k => if k = 0 then true else f k))) ⟨Lib.below_setCells R hnR _ _ hb6, row_all hRR (by rw [hzs, bls_length])⟩ (fun w9 hC => ?_)
  obtain ⟨hb9, hRR9⟩ := hC
  refine Ks ?_
  exact ret_cell hE rfl rfl (fun j u hu => (hRR9 j u hu).1) Tryd.underlying123 rfl (by rw [bls_length]; kernel_rfl) ⟨by rw [bls_congr (f := fun k => if k = 0 then f 0 || true else f k) (g := fun k => if k = 0 then true else f k) fun i hi => by by_cases e : i = 0 <;> simp [e]], hb9⟩
theorem orF_step (f g : Nat → Bool) (k : Nat) : (fun j => if j = k then (f k || g k) else (if j < k then f j || g j else f j)) = fun j => if j < k + 1 then f j || g j else f j := by
 funext j
 by_cases e : j = k
 ·subst e; simp
 ·by_cases h : j < k
  ·simp [e, h, show j < k + 1 by omega]
  ·simp [e, h, show ¬ j < k + 1 by omega]
theorem loads_step {f g : Nat → Bool} {w wv : World} {B R C k : Nat} (hnC : w.heap.size ≤ C) (hCR : C ≠ R) (hCB : C ≠ B) (hk : k < 2000) (hW : Below w.heap.size w wv) (hlC : C < wv.heap.size) (hRC : Row wv C (bls fun j => if j < k then f j || g j else f j)) (hRB : Row wv B (bls2 f g)) (hRD : RowD wv R 2000) {b : Bool} (hb : b = (f k || g k)) :
    Below w.heap.size w (wv.setCell ⟨C, k, none⟩ (.bool b)) ∧ C < (wv.setCell ⟨C, k, none⟩ (.bool b)).heap.size ∧ Row (wv.setCell ⟨C, k, none⟩ (.bool b)) C (bls fun j => if j < k + 1 then f j || g j else f j) ∧ Row (wv.setCell ⟨C, k, none⟩ (.bool b)) B (bls2 f g) ∧ RowD (wv.setCell ⟨C, k, none⟩ (.bool b)) R 2000 := by
 have hz : (wv.setCell ⟨C, k, none⟩ (.bool b)).heap.size = wv.heap.size := by simp
 obtain ⟨g1, zs, g2, g3⟩ := hRD
 refine ⟨hW.setCell hnC _, by rw [hz]; exact hlC, ?_, hRB.other hCB, by rw [hz]; exact g1, zs, g2, g3.other hCR⟩
 have h := hRC.set (o := k) (v := .bool b) (by rw [bls_length]; exact hk)
 rw [bls_set, hb] at h
 have e : (bls fun j => if j = k then (f k || g k) else (if j < k then f j || g j else f j)) = bls fun j => if j < k + 1 then f j || g j else f j := by rw [orF_step]
 rw [e] at h
 rw [hb]
 exact h
theorem bls2_at1 (f g : Nat → Bool) {k : Nat} (h : k < 2000) : (bls2 f g)[2000 + k]? = some (.bool (g k)) := by
 rw [bls2, List.getElem?_append_right (by rw [bls_length]; omega), bls_length, Nat.add_sub_cancel_left]
 exact bls_at g h
set_option maxRecDepth 100000 in
set_option maxHeartbeats 1000000 in
theorem cloads_any (f g : Nat → Bool) (w : World) : Calls Tryd.prog 103 #[.agg (bls2 f g).toArray] w fun e w' => e = .returned (.agg (bls fun k => f k || g k).toArray) ∧ Below w.heap.size w w' := by
 refine enterE Tryd.func103 rfl Tryd.ntmps103 (by simp) (fun a hE => ?_); simp only [envOf, Nat.zero_add, Nat.reduceAdd] at hE
 refine Ks ?_
 refine Rs 2 fun Q' K hK => ?_
 refine M1 hE 0 fun K' J ρ q0 => ?_; go_simp
 refine Ln hE J fun _ Eb => ?_; clear J K' hE a q0
 refine M0 fun K' J ρ => ?_; go_simp;
 refine Ln Eb J fun _ Ea => ?_; clear J K' Eb
 refine Ld [1, 2] Ea hK fun a hE => ?_; clear hK K Q' Ea
 rw [zero_loads]
 obtain ⟨B, hB⟩ : ∃ B, B = w.heap.size := ⟨_, rfl⟩
 obtain ⟨R, hR⟩ : ∃ B, B = w.heap.size + 1 := ⟨_, rfl⟩
 rw [← hR, ← hB] at hE
 refine world_cut (fun wt => Below w.heap.size w wt ∧ B < wt.heap.size ∧ Row wt B (bls2 f g) ∧ RowD wt R 2000) ?_ (fun w1 hC => ?_)
 ·rw [hB, hR]; obtain ⟨q1, q2, q3, q4⟩ := box_row w (bls2 f g).toArray 141 (bls fun _ => false).toArray 123; exact ⟨q1, q2.1, ((row_new w (bls2 f g).toArray _).below ((Below.refl _ _).alloc (Nat.le_refl _) _) (by simp)), q3, bls fun _ => false, bls_length _, q4⟩
 obtain ⟨hbw1, hlB, hRB, hRD⟩ := hC
 have hnR : w.heap.size ≤ R := by omega
 clear hB hR
 refine Ks ?_
 refine Rs 4 fun Q' K hK => ?_
 refine M1 hE 1 fun K' J ρ q1 => ?_; go_simp
 refine Ln hE J fun _ Eb => ?_; clear J K' hE a q1
 refine Lp fun K' J => ?_
 have r5 := Eb.at 5 rfl
 refine wp_load_mid 123 (.tmp 5) rfl B 0 (eval_of r5) (bls f) _ (bls2_zero hRB) Tryd.underlying123 rfl (by rw [bls_length]; kernel_rfl) ?_
 (try clear r5)
 refine Ln Eb J fun _ Ea => ?_; clear J K' Eb
 refine M0 fun K' J ρ => ?_; go_simp;
 refine Ln Ea J fun _ Eb => ?_; clear J K' Ea
 refine Lp fun K' J => ?_
 have r3 := Eb.at 3 rfl; have r6 := Eb.at 6 rfl
 rw [zero_loads]
 refine wp_store_mid 123 (.tmp 3) (.tmp 6) rfl w1.heap.size 0 (bls f).toArray (eval_of r3) (eval_of r6) (there_row (row_new w1 _ _) (by simp [bls_length])) (by rw [List.size_toArray, bls_length]; kernel_rfl) (bls_one _) ?_
 (try clear r3 r6)
 refine late_skip Eb J (fun _ Ea => ?_); clear J K'; clear Eb
 refine Ld [1, 2, 3] Ea hK fun a hE => ?_; clear hK K Q' Ea
 obtain ⟨C, hC⟩ : ∃ B, B = w1.heap.size := ⟨_, rfl⟩
 rw [← hC] at hE
 refine world_cut (fun wt => Below w1.heap.size w1 wt ∧ C < wt.heap.size ∧ Row wt C (bls f)) ?_ (fun w2 hCut => ?_)
 ·rw [hC]; have q := boxed_new w1 (bls fun _ => false).toArray 123 (bls f) (by rw [List.size_toArray, bls_length, bls_length]); exact ⟨q.1, q.2.1, row_all (row_new w1 _ _) (by rw [List.toList_toArray, bls_length, bls_length])⟩
 obtain ⟨h2, hlC, hRC⟩ := hCut
 have hnC : w1.heap.size ≤ C := Nat.le_of_eq hC.symm
 have hCB : C ≠ B := by omega
 have hRC1 : C ≠ R := by have := hRD.1; omega
 clear hC
 have hRB2 := hRB.below h2 hlB
 have hRD2 := hRD.below h2
 have hbw2 := hbw1.trans (h2.mono hbw1.size)
 refine Ks ?_
 refine Rs 1 fun Q' K hK => ?_
 refine M0 fun K' J ρ => ?_; go_simp;
 refine Ln hE J fun _ Eb => ?_; clear J K' hE a
 refine Ld [1, 2, 3, 7] Eb hK fun a hE => ?_; clear hK K Q' Eb
 refine Ks ?_
 refine loop_st (fun (k : Nat) a w' => k ≤ 2000 ∧ Fits 23 [(1, .pointer (some ⟨B, 0, none⟩)), (2, .pointer (some ⟨R, 0, none⟩)), (3, .pointer (some ⟨C, 0, none⟩)), (7, .int .i64 k)] a ∧ Below w.heap.size w w' ∧ C < w'.heap.size ∧ Row w' C (bls fun j => if j < k then f j || g j else f j) ∧ Row w' B (bls2 f g) ∧ RowD w' R 2000) (fun k => 2000 - k) 0 ⟨Nat.zero_le _, by simpa using hE, hbw2, hlC, by simpa using hRC, hRB2, hRD2⟩ (fun k a wr hI => ?_)
 clear hE hRC hRB hRB2 hRD hRD2 hlC
 have hnC' : w.heap.size ≤ C := Nat.le_trans hbw1.size hnC
 obtain ⟨hk, hE, hW, hlC, hRC, hRB, hRD⟩ := hI
 by_cases hlt : k < 2000
 ·have hltI : (k : Int) < 2000 := by omega
  have c0 : wr.cell? ⟨C, k, none⟩ = some (.bool (f k)) := row_at hRC (by rw [bls_at _ hlt]; simp)
  have c1 : wr.cell? ⟨B, 2000 + k, none⟩ = some (.bool (g k)) := row_at hRB (bls2_at1 f g hlt)
  have hwk := (hRC k _ (bls_at _ hlt)).2
  have hst : ∀ b, b = (f k || g k) → _ := fun b hb => loads_step hnC' hRC1 hCB hlt hW hlC hRC hRB hRD (b := b) hb
  have HST := hid hst
  clear hst
  refine Ks ?_
  refine Rs 1 fun Q' K hK => ?_
  refine M1 hE 7 fun K' J ρ q7 => ?_; go_simp; (try go_bits)
  refine Ln hE J fun _ Eb => ?_; clear J K' hE a q7
  replace Eb := Eb.turn 8 (v' := .bool true) rfl (by (first | (simp; done) | (simp; omega)))
  refine Ld [1, 2, 3, 7, 8] Eb hK fun a hE => ?_; clear hK K Q' Eb
  refine Ks ?_
  refine cond_yes hE (t := 8) rfl ?_
  refine Ks ?_
  refine Rs 2 fun Q' K hK => ?_
  refine M1 hE 7 fun K' J ρ q7 => ?_; go_simp
  refine Ln hE J fun _ Eb => ?_; clear J K' hE a q7
  refine M1 Eb 9 fun K' J ρ q9 => ?_; go_simp
  refine Ln Eb J fun _ Ea => ?_; clear J K' Eb q9
  refine Ld [1, 2, 3, 4, 7] Ea hK fun a hE => ?_; clear hK K Q' Ea
  cases hv : f k
  ·rw [hv] at c0
   have HV := hid hv
   clear hv
   refine Ks ?_
   refine Rs 12 fun Q' K hK => ?_
   refine M1 hE 4 fun K' J ρ q4 => ?_; go_simp
   refine Ln hE J fun _ Eb => ?_; clear J K' hE a q4
   refine M1 Eb 4 fun K' J ρ q4 => ?_; go_simp
   refine Ln Eb J fun _ Ea => ?_; clear J K' Eb q4
   refine M2 Ea 3 11 fun K' J ρ q3 q11 => ?_; go_simp; (try go_bits)
   refine Ln Ea J fun _ Eb => ?_; clear J K' Ea q3 q11
   refine M1 Eb 12 fun K' J ρ q12 => ?_; go_simp
   refine Ln Eb J fun _ Ea => ?_; clear J K' Eb q12
   refine M1 Ea 13 fun K' J ρ q13 => ?_; go_simp
   refine Ln Ea J fun _ Eb => ?_; clear J K' Ea q13
   refine N1 Eb 14 4 fun K' J ρ q4 => ?_; go_simp
   refine Ln Eb J fun _ Ea => ?_; clear J K' Eb q4
   refine N1 Ea 14 1 fun K' J ρ q1 => ?_; go_simp
   refine Ln Ea J fun _ Eb => ?_; clear J K' Ea q1
   refine N2 Eb 14 16 15 fun K' J ρ q16 q15 => ?_; go_simp; (try go_bits)
   refine Ln Eb J fun _ Ea => ?_; clear J K' Eb q16 q15
   refine N1 Ea 14 17 fun K' J ρ q17 => ?_; go_simp
   refine Ln Ea J fun _ Eb => ?_; clear J K' Ea q17
   refine M2 Eb 14 18 fun K' J ρ q14 q18 => ?_; go_simp; (try go_bits)
   refine Ln Eb J fun _ Ea => ?_; clear J K' Eb q14 q18
   refine M2 Ea 3 10 fun K' J ρ q3 q10 => ?_; go_simp; (try go_bits)
   refine Ln Ea J fun _ Eb => ?_; clear J K' Ea q3 q10
   refine M2 Eb 20 19 fun K' J ρ q20 q19 => ?_; go_simp; (try clear q20 q19)
   refine late_skip Eb J (fun _ Ea => ?_); clear J K'; clear Eb
   refine Ld [1, 2, 3, 7] Ea hK fun a hE => ?_; clear hK K Q' Ea
   refine world_cut (fun wt => Below w.heap.size w wt ∧ C < wt.heap.size ∧ Row wt C (bls fun j => if j < k + 1 then f j || g j else f j) ∧ Row wt B (bls2 f g) ∧ RowD wt R 2000) (HST.out _ (by rw [HV.out]; rfl)) (fun w6 hC => ?_)
   obtain ⟨hW6, hlC6, hRC6, hRB6, hRD6⟩ := hC
   refine Ks ?_
   refine Rs 2 fun Q' K hK => ?_
   refine M1 hE 7 fun K' J ρ q7 => ?_; go_simp; (try go_bits); (try simp (disch := omega) only [IntWalk.i64_in])
   refine Ln hE J fun _ Eb => ?_; clear J K' hE a q7
   refine M1 Eb 21 fun K' J ρ q21 => ?_; go_simp
   refine Ln Eb J fun _ Ea => ?_; clear J K' Eb q21
   refine Ld [1, 2, 3, 7] Ea hK fun a hE => ?_; clear hK K Q' Ea
   refine Ks ?_
   exact ⟨k + 1, ⟨hlt, by simpa using hE, hW6, hlC6, hRC6, hRB6, hRD6⟩, by omega⟩
  ·rw [hv] at c0
   have HV := hid hv
   clear hv
   refine Ks ?_
   refine Rs 12 fun Q' K hK => ?_
   refine M1 hE 4 fun K' J ρ q4 => ?_; go_simp
   refine Ln hE J fun _ Eb => ?_; clear J K' hE a q4
   refine M1 Eb 4 fun K' J ρ q4 => ?_; go_simp
   refine Ln Eb J fun _ Ea => ?_; clear J K' Eb q4
   refine M2 Ea 3 11 fun K' J ρ q3 q11 => ?_; go_simp; (try go_bits)
   refine Ln Ea J fun _ Eb => ?_; clear J K' Ea q3 q11
   refine M1 Eb 12 fun K' J ρ q12 => ?_; go_simp
   refine Ln Eb J fun _ Ea => ?_; clear J K' Eb q12
   refine M1 Ea 13 fun K' J ρ q13 => ?_; go_simp
   refine Ln Ea J fun _ Eb => ?_; clear J K' Ea q13
   refine Lno Eb 14 ?_
   refine Lu Eb fun _ Ea => ?_
   refine Lno Ea 14 ?_
   refine Lu Ea fun _ Eb => ?_
   refine Lno Eb 14 ?_
   refine Lu Eb fun _ Ea => ?_
   refine Lno Ea 14 ?_
   refine Lu Ea fun _ Eb => ?_
   refine M2 Eb 14 18 fun K' J ρ q14 q18 => ?_; go_simp; (try go_bits)
   refine Ln Eb J fun _ Ea => ?_; clear J K' Eb q14 q18
   refine M2 Ea 3 10 fun K' J ρ q3 q10 => ?_; go_simp; (try go_bits)
   refine Ln Ea J fun _ Eb => ?_; clear J K' Ea q3 q10
   refine M2 Eb 20 19 fun K' J ρ q20 q19 => ?_; go_simp; (try clear q20 q19)
   refine late_skip Eb J (fun _ Ea => ?_); clear J K'; clear Eb
   refine Ld [1, 2, 3, 7] Ea hK fun a hE => ?_; clear hK K Q' Ea
   refine world_cut (fun wt => Below w.heap.size w wt ∧ C < wt.heap.size ∧ Row wt C (bls fun j => if j < k + 1 then f j || g j else f j) ∧ Row wt B (bls2 f g) ∧ RowD wt R 2000) (HST.out _ (by rw [HV.out]; rfl)) (fun w6 hC => ?_)
   obtain ⟨hW6, hlC6, hRC6, hRB6, hRD6⟩ := hC
   refine Ks ?_
   refine Rs 2 fun Q' K hK => ?_
   refine M1 hE 7 fun K' J ρ q7 => ?_; go_simp; (try go_bits); (try simp (disch := omega) only [IntWalk.i64_in])
   refine Ln hE J fun _ Eb => ?_; clear J K' hE a q7
   refine M1 Eb 21 fun K' J ρ q21 => ?_; go_simp
   refine Ln Eb J fun _ Ea => ?_; clear J K' Eb q21
   refine Ld [1, 2, 3, 7] Ea hK fun a hE => ?_; clear hK K Q' Ea
   refine Ks ?_
   exact ⟨k + 1, ⟨hlt, by simpa using hE, hW6, hlC6, hRC6, hRB6, hRD6⟩, by omega⟩
 ·have hke : k = 2000 := by omega
  subst hke
  have hRC2 : Row wr C (bls fun i => f i || g i) := by
   have e : (bls fun j => if j < 2000 then f j || g j else f j) = bls fun i => f i || g i := bls_congr fun i hi => by rw [if_pos hi]
   rw [← e]; exact hRC
  clear hRC
  obtain ⟨hlR, zs, hzs, hRR⟩ := hRD
  refine Ks ?_
  refine Rs 1 fun Q' K hK => ?_
  refine M1 hE 7 fun K' J ρ q7 => ?_; go_simp; (try go_bits)
  refine Ln hE J fun _ Eb => ?_; clear J K' hE a q7
  replace Eb := Eb.turn 8 (v' := .bool false) rfl (by simp)
  refine Ld [1, 2, 3, 7, 8] Eb hK fun a hE => ?_; clear hK K Q' Eb
  refine Ks ?_
  refine cond_no hE (t := 8) rfl ?_
  refine Ks ?_
  refine Rs 2 fun Q' K hK => ?_
  refine Lp fun K' J => ?_
  have r3 := hE.at 3 rfl
  refine wp_load_mid 123 (.tmp 3) rfl C 0 (eval_of r3) (bls fun i => f i || g i) _ (fun j u hu => by rw [Nat.zero_add]; exact (hRC2 j u hu).1) Tryd.underlying123 rfl (by rw [bls_length]; kernel_rfl) ?_
  (try clear r3)
  refine Ln hE J fun _ Eb => ?_; clear J K' hE a
  refine Lp fun K' J => ?_
  have r2 := Eb.at 2 rfl; have r22 := Eb.at 22 rfl
  refine wp_store_mid 123 (.tmp 2) (.tmp 22) rfl R 0 (bls fun i => f i || g i).toArray (eval_of r2) (eval_of r22) (there_row hRR (by rw [hzs, List.size_toArray, bls_length]; exact Nat.le_refl _)) (by rw [List.size_toArray, bls_length]; kernel_rfl) (bls_one _) ?_
  (try clear r2 r22)
  refine late_skip Eb J (fun _ Ea => ?_); clear J K'; clear Eb
  refine Ld [2] Ea hK fun a hE => ?_; clear hK K Q' Ea
  refine world_cut (fun wt => Below w.heap.size w wt ∧ Row wt R (bls fun i => f i || g i)) ⟨Lib.below_setCells R hnR _ _ hW, row_all hRR (by rw [hzs, bls_length])⟩ (fun w9 hC => ?_)
  obtain ⟨hb9, hRR9⟩ := hC
  refine Ks ?_
  exact ret_cell hE rfl rfl (fun j u hu => (hRR9 j u hu).1) Tryd.underlying123 rfl (by rw [bls_length]; kernel_rfl) ⟨rfl, hb9⟩
end Go.Proofs.YtkhmcofmjjmjhaaDoor
