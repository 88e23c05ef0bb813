/- Slope: which loads there can be. -/
import Derived.Test.YtkhmcofmjjmjhaaDoorKLSc

namespace Go.Proofs.YtkhmcofmjjmjhaaDoor
set_option linter.unusedSimpArgs false
set_option linter.unusedVariables false
open Go Go.RowKit
attribute [local go_sem high] cell_set_wr
attribute [local go_sem low] cell_wr frozen_wr
attribute [local go_sem] wr_set wr_drew wr_drewN wr_alloc wr_new Rho.c Rho.n Rho.g
/-- an array of Bools -/
def bls (f : Nat → Bool) : List Value := (List.range 2000).map fun i => .bool (f i)
theorem bls_length (f : Nat → Bool) : (bls f).length = 2000 := by simp [bls]
theorem bls_at (f : Nat → Bool) {i : Nat} (h : i < 2000) : (bls f)[i]? = some (.bool (f i)) := by simp [bls, h]
theorem bls_set (f : Nat → Bool) (i : Nat) (b : Bool) : (bls f).set i (.bool b) = bls fun j => if j = i then b else f j := by
 refine List.ext_getElem? fun k => ?_
 unfold bls
 rw [List.getElem?_set, List.getElem?_map, List.getElem?_map]
 by_cases h : k < 2000
 ·by_cases e : i = k
  ·subst e; simp [h]
  ·have e' : ¬ k = i := fun x => e x.symm; simp [h, e, e']
 ·by_cases e : i = k
  ·subst e; simp [h]
  ·simp [h, e]
theorem bls_congr {f g : Nat → Bool} (h : ∀ i, i < 2000 → f i = g i) : bls f = bls g := by
 unfold bls
 refine List.map_congr_left fun i hi => ?_; rw [h i (List.mem_range.1 hi)]
theorem bls_one (f : Nat → Bool) : (bls f).toArray.all (·.oneCell') = true := by
 rw [List.all_toArray, List.all_eq_true]
 intro v hv
 obtain ⟨i, _, rfl⟩ := List.mem_map.1 hv
 rfl
/-- what was there is as it was, but for some blocks -/
structure KeepX (M : Nat → Prop) (w w' : World) : Prop where
 os : w'.os = w.os
 tape : w'.tape = w.tape
 output : w'.output = w.output
 size : w.heap.size ≤ w'.heap.size
 block : ∀ k, k < w.heap.size → ¬ M k → w'.heap[k]? = w.heap[k]?
theorem KeepX.refl (M : Nat → Prop) (w : World) : KeepX M w w := ⟨rfl, rfl, rfl, Nat.le_refl _, fun _ _ _ => rfl⟩
theorem KeepX.of_below {M : Nat → Prop} {w w' : World} (h : Below w.heap.size w w') : KeepX M w w' := ⟨h.os, h.tape, h.output, h.size, fun k hk _ => h.block k hk⟩
theorem KeepX.below {w w' : World} (h : KeepX (fun _ => False) w w') : Below w.heap.size w w' := ⟨h.os, h.tape, h.output, h.size, fun k hk => h.block k hk (fun x => x)⟩
theorem KeepX.trans {M : Nat → Prop} {a b c : World} (h : KeepX M a b) (k : KeepX M b c) : KeepX M a c := ⟨k.os.trans h.os, k.tape.trans h.tape, k.output.trans h.output, Nat.le_trans h.size k.size, fun i hi hM => (k.block i (Nat.lt_of_lt_of_le hi h.size) hM).trans (h.block i hi hM)⟩
/-- behind what a call of the walk's own has made -/
theorem KeepX.own {M : Nat → Prop} {N : Nat} {a b c : World} (h : KeepX M a b) (hN : N = a.heap.size) (k : Below N b c) : KeepX M a c := ⟨k.os.trans h.os, k.tape.trans h.tape, k.output.trans h.output, Nat.le_trans h.size k.size, fun i hi hM => (k.block i (by omega)).trans (h.block i hi hM)⟩
theorem Row.keepX {M : Nat → Prop} {w w' : World} {G : Nat} {l : List Value} (h : Row w G l) (hk : KeepX M w w') (hG : G < w.heap.size) (hM : ¬ M G) : Row w' G l := row_of_block h (hk.block G hG hM)
theorem zero_loads : Tryd.zeroCells123 = (bls fun _ => false).toArray := by kernel_rfl
/-- what a func value of Bools says, over a state of its own -/
structure PredF (M : Nat → Prop) (J : World → Prop) (N : Nat) (F : FuncId) (pre caps : Array Value) (p : Nat → Bool) : Prop where
 enter : ∀ args w, (callFunc F args).run Tryd.prog w = .ok (.enter F args) w
 calls : ∀ (k : Nat) (W : World), k < 2000 → N ≤ W.heap.size → J W → Calls Tryd.prog F (pre.push (.int .i64 k) ++ caps) W fun e w' => e = .returned (.bool (p k)) ∧ KeepX M W w' ∧ J w'
theorem andF_step (f p : Nat → Bool) (k : Nat) : (fun j => if j = k then (f k && p k) else (if j < k then f j && p j else f j)) = fun j => if j < k + 1 then f j && p j else f j := by
 funext j
 by_cases e : j = k
 ·subst e; simp
 ·by_cases h : j < k
  ·simp [e, h, show j < k + 1 by omega]
  ·simp [e, h, show ¬ j < k + 1 by omega]
theorem RowD.keepX {M : Nat → Prop} {w w' : World} {R n : Nat} (h : RowD w R n) (hk : KeepX M w w') (hM : ¬ M R) : RowD w' R n := by
 obtain ⟨h1, zs, h2, h3⟩ := h; exact ⟨Nat.lt_of_lt_of_le h1 hk.size, zs, h2, h3.keepX hk h1 hM⟩
theorem those_step {M : Nat → Prop} {J : World → Prop} {f p : Nat → Bool} {w wv : World} {B R k : Nat} (HST : ∀ W W', J W → w.heap.size ≤ W.heap.size → Below w.heap.size W W' → J W') (hnB : w.heap.size ≤ B) (hBR : B ≠ R) (hk : k < 2000) (hW : KeepX M w wv) (hJ : J wv) (hlB : B < wv.heap.size) (hRB : Row wv B (bls fun j => if j < k then f j && p j else f j)) (hRD : RowD wv R 2000) {b : Bool} (hb : b = (f k && p k)) :
    KeepX M w (wv.setCell ⟨B, k, none⟩ (.bool b)) ∧ J (wv.setCell ⟨B, k, none⟩ (.bool b)) ∧ B < (wv.setCell ⟨B, k, none⟩ (.bool b)).heap.size ∧ Row (wv.setCell ⟨B, k, none⟩ (.bool b)) B (bls fun j => if j < k + 1 then f j && p j else f j) ∧ RowD (wv.setCell ⟨B, k, none⟩ (.bool b)) R 2000 := by
 have h1 : Below w.heap.size wv (wv.setCell ⟨B, k, none⟩ (.bool b)) := (Below.refl _ _).setCell hnB _; have hz : (wv.setCell ⟨B, k, none⟩ (.bool b)).heap.size = wv.heap.size := by simp
 obtain ⟨g1, zs, g2, g3⟩ := hRD; refine ⟨hW.own rfl h1, HST _ _ hJ hW.size h1, by rw [hz]; exact hlB, ?_, by rw [hz]; exact g1, zs, g2, g3.other hBR⟩; have h := hRB.set (o := k) (v := .bool b) (by rw [bls_length]; exact hk); rw [bls_set, hb] at h; have e : (bls fun j => if j = k then (f k && p k) else (if j < k then f j && p j else f j)) = bls fun j => if j < k + 1 then f j && p j else f j := by rw [andF_step]
 rw [e] at h; rw [hb]; exact h
set_option maxRecDepth 100000 in
set_option maxHeartbeats 1000000 in
theorem those_any (M : Nat → Prop) (J : World → Prop) (F : FuncId) (pre caps : Array Value) (f p : Nat → Bool) (w : World) (hJ : J w) (hMN : ∀ k, M k → k < w.heap.size) (hst : ∀ W W', J W → w.heap.size ≤ W.heap.size → Below w.heap.size W W' → J W') (HP : Hid (PredF M J w.heap.size F pre caps p)) : Calls Tryd.prog 104 #[.agg (bls f).toArray, .func (.func F) pre caps] w fun e w' => e = .returned (.agg (bls fun i => f i && p i).toArray) ∧ KeepX M w w' ∧ J w' := by
 have HST := hid hst; have HMN := hid hMN; clear hst hMN; refine En Tryd.func104 Tryd.ntmps104 fun a hE => ?_; refine Ks ?_; refine Rs 2 fun Q' K hK => ?_; refine M1 hE 0 fun K' Kh ρ q0 => ?_; go_simp; refine Ln hE Kh fun _ Eb => ?_; clear Kh K' hE a q0; refine M0 fun K' Kh ρ => ?_; go_simp; refine Ln Eb Kh fun _ Ea => ?_; clear Kh K' Eb; refine Ld [1, 2, 4] Ea hK fun a hE => ?_; clear hK K Q' Ea; rw [zero_loads]; obtain ⟨B, hB⟩ : ∃ B, B = w.heap.size := ⟨_, rfl⟩; obtain ⟨R, hR⟩ : ∃ B, B = w.heap.size + 1 := ⟨_, rfl⟩; rw [← hR, ← hB] at hE; refine world_cut (fun wt => Below w.heap.size w wt ∧ B < wt.heap.size ∧ Row wt B (bls f) ∧ RowD wt R 2000) ?_ (fun w1 hC => ?_)
 ·rw [hB, hR]; obtain ⟨q1, q2, q3, q4⟩ := box_row w (bls f).toArray 123 (bls fun _ => false).toArray 123; exact ⟨q1, q2.1, ((row_new w (bls f).toArray _).below ((Below.refl _ _).alloc (Nat.le_refl _) _) (by simp)), q3, bls fun _ => false, bls_length _, q4⟩
 obtain ⟨hbw1, hlB, hRB, hRD⟩ := hC; have hnB : w.heap.size ≤ B := Nat.le_of_eq hB.symm; have hnR : w.heap.size ≤ R := by omega
 have hBR : B ≠ R := by omega
 clear hB hR; refine Ks ?_; refine Rs 1 fun Q' K hK => ?_; refine M0 fun K' Kh ρ => ?_; go_simp; refine Ln hE Kh fun _ Eb => ?_; clear Kh K' hE a; refine Ld [1, 2, 4, 6] Eb hK fun a hE => ?_; clear hK K Q' Eb; refine Ks ?_; refine loop_st (fun (k : Nat) a w' => k ≤ 2000 ∧ Fits 21 [(1, .func (.func F) pre caps), (2, .pointer (some ⟨B, 0, none⟩)), (4, .pointer (some ⟨R, 0, none⟩)), (6, .int .i64 k)] a ∧ KeepX M w w' ∧ J w' ∧ B < w'.heap.size ∧ Row w' B (bls fun j => if j < k then f j && p j else f j) ∧ RowD w' R 2000) (fun k => 2000 - k) 0 ⟨Nat.zero_le _, by simpa using hE, .of_below hbw1, HST.out _ _ hJ (Nat.le_refl _) hbw1, hlB, by simpa using hRB, hRD⟩ (fun k a wr hI => ?_); clear hE hRB hRD hlB; obtain ⟨hk, hE, hW, hJr, hlB, hRB, hRD⟩ := hI
 by_cases hlt : k < 2000
 ·have hltI : (k : Int) < 2000 := by omega
  have c0 : wr.cell? ⟨B, k, none⟩ = some (.bool (f k)) := row_at hRB (by rw [bls_at _ hlt]; simp); have hwk := (hRB k _ (bls_at _ hlt)).2; have HPk := hid (HP.out.calls k wr hlt hW.size hJr); have HPe := hid HP.out.enter; refine Ks ?_; refine Rs 1 fun Q' K hK => ?_; refine M1 hE 6 fun K' Kh ρ q6 => ?_; go_simp; (try go_bits); refine Ln hE Kh fun _ Eb => ?_; clear Kh K' hE a q6; replace Eb := Eb.turn 7 (v' := .bool true) rfl (by (first | (simp; done) | (simp; omega))); refine Ld [1, 2, 4, 6, 7] Eb hK fun a hE => ?_; clear hK K Q' Eb; refine Ks ?_; refine cond_yes hE (t := 7) rfl ?_; refine Ks ?_; refine Rs 2 fun Q' K hK => ?_; refine M1 hE 6 fun K' Kh ρ q6 => ?_; go_simp; refine Ln hE Kh fun _ Eb => ?_; clear Kh K' hE a q6; refine M1 Eb 8 fun K' Kh ρ q8 => ?_; go_simp; refine Ln Eb Kh fun _ Ea => ?_; clear Kh K' Eb q8; refine Ld [1, 2, 4, 5, 6] Ea hK fun a hE => ?_; clear hK K Q' Ea
  cases hv : f k
  ·rw [hv] at c0; have HV := hid hv; clear hv HPk HPe; refine Ks ?_; refine Rs 11 fun Q' K hK => ?_; refine M1 hE 5 fun K' Kh ρ q5 => ?_; go_simp; refine Ln hE Kh fun _ Eb => ?_; clear Kh K' hE a q5; refine M1 Eb 5 fun K' Kh ρ q5 => ?_; go_simp; refine Ln Eb Kh fun _ Ea => ?_; clear Kh K' Eb q5; refine M2 Ea 2 10 fun K' Kh ρ q2 q10 => ?_; go_simp; (try go_bits); refine Ln Ea Kh fun _ Eb => ?_; clear Kh K' Ea q2 q10; refine M1 Eb 11 fun K' Kh ρ q11 => ?_; go_simp; refine Ln Eb Kh fun _ Ea => ?_; clear Kh K' Eb q11; refine M1 Ea 12 fun K' Kh ρ q12 => ?_; go_simp; refine Ln Ea Kh fun _ Eb => ?_; clear Kh K' Ea q12; refine Lno Eb 13 ?_; refine Lu Eb fun _ Ea => ?_; refine Lno Ea 13 ?_; refine Lu Ea fun _ Eb => ?_; refine Lno Eb 13 ?_; refine Lu Eb fun _ Ea => ?_; refine M2 Ea 13 16 fun K' Kh ρ q13 q16 => ?_; go_simp; (try go_bits); refine Ln Ea Kh fun _ Eb => ?_; clear Kh K' Ea q13 q16; refine M2 Eb 2 9 fun K' Kh ρ q2 q9 => ?_; go_simp; (try go_bits); refine Ln Eb Kh fun _ Ea => ?_; clear Kh K' Eb q2 q9; refine M2 Ea 18 17 fun K' Kh ρ q18 q17 => ?_; go_simp; (try clear q18 q17); refine late_skip Ea Kh (fun _ Eb => ?_); clear Kh K'; clear Ea; refine Ld [1, 2, 4, 6] Eb hK fun a hE => ?_; clear hK K Q' Eb; refine world_cut (fun wt => KeepX M w wt ∧ J wt ∧ B < wt.heap.size ∧ Row wt B (bls fun j => if j < k + 1 then f j && p j else f j) ∧ RowD wt R 2000) (those_step HST.out hnB hBR hlt hW hJr hlB hRB hRD (by rw [HV.out]; rfl)) (fun w6 hC => ?_); obtain ⟨hW6, hJ6, hlB6, hRB6, hRD6⟩ := hC
   refine Ks ?_; refine Rs 2 fun Q' K hK => ?_; refine M1 hE 6 fun K' Kh ρ q6 => ?_; go_simp; (try go_bits); (try simp (disch := omega) only [IntWalk.i64_in]); refine Ln hE Kh fun _ Eb => ?_; clear Kh K' hE a q6; refine M1 Eb 19 fun K' Kh ρ q19 => ?_; go_simp; refine Ln Eb Kh fun _ Ea => ?_; clear Kh K' Eb q19; refine Ld [1, 2, 4, 6] Ea hK fun a hE => ?_; clear hK K Q' Ea; refine Ks ?_; exact ⟨k + 1, ⟨hlt, by simpa using hE, hW6, hJ6, hlB6, hRB6, hRD6⟩, by omega⟩
  ·rw [hv] at c0; have HV := hid hv; clear hv; refine Ks ?_; refine Rs 11 fun Q' K hK => ?_; refine M1 hE 5 fun K' Kh ρ q5 => ?_; go_simp; refine Ln hE Kh fun _ Eb => ?_; clear Kh K' hE a q5; refine M1 Eb 5 fun K' Kh ρ q5 => ?_; go_simp; refine Ln Eb Kh fun _ Ea => ?_; clear Kh K' Eb q5; refine M2 Ea 2 10 fun K' Kh ρ q2 q10 => ?_; go_simp; (try go_bits); refine Ln Ea Kh fun _ Eb => ?_; clear Kh K' Ea q2 q10; refine M1 Eb 11 fun K' Kh ρ q11 => ?_; go_simp; refine Ln Eb Kh fun _ Ea => ?_; clear Kh K' Eb q11; refine M1 Ea 12 fun K' Kh ρ q12 => ?_; go_simp; refine Ln Ea Kh fun _ Eb => ?_; clear Kh K' Ea q12; refine N1 Eb 13 1 fun K' Kh ρ q1 => ?_; go_simp; refine Ln Eb Kh fun _ Ea => ?_; clear Kh K' Eb q1; refine N1 Ea 13 5 fun K' Kh ρ q5 => ?_; go_simp; refine Ln Ea Kh fun _ Eb => ?_; clear Kh K' Ea q5; refine N2 Eb 13 14 15 fun K' Kh ρ q14 q15 => ?_; go_simp; (try go_bits); (try clear q14 q15); rw [HPe.out]; go_simp; refine (HPk.out).mono ?_; rintro e w5 ⟨rfl, k5, j5⟩; have hMB : ¬ M B := fun h => Nat.not_lt.2 hnB (HMN.out _ h); have hMR : ¬ M R := fun h => Nat.not_lt.2 hnR (HMN.out _ h); have hRB5 := hRB.keepX k5 hlB hMB; have hRD5 := hRD.keepX k5 hMR; have hlB5 := Nat.lt_of_lt_of_le hlB k5.size; have hwk5 := (hRB5 k _ (bls_at _ hlt)).2; clear hRB hRD hlB hwk c0 hJr; (try clear r14 r15); refine Ln Eb Kh fun _ Ea => ?_; clear Kh K' Eb; refine M2 Ea 13 16 fun K' Kh ρ q13 q16 => ?_; go_simp; (try go_bits); refine Ln Ea Kh fun _ Eb => ?_; clear Kh K' Ea q13 q16; refine M2 Eb 2 9 fun K' Kh ρ q2 q9 => ?_; go_simp; (try go_bits)
   refine Ln Eb Kh fun _ Ea => ?_; clear Kh K' Eb q2 q9; refine M2 Ea 18 17 fun K' Kh ρ q18 q17 => ?_; go_simp; (try clear q18 q17); refine late_skip Ea Kh (fun _ Eb => ?_); clear Kh K'; clear Ea; refine Ld [1, 2, 4, 6] Eb hK fun a hE => ?_; clear hK K Q' Eb; refine world_cut (fun wt => KeepX M w wt ∧ J wt ∧ B < wt.heap.size ∧ Row wt B (bls fun j => if j < k + 1 then f j && p j else f j) ∧ RowD wt R 2000) (those_step HST.out hnB hBR hlt (hW.trans k5) j5 hlB5 hRB5 hRD5 (by rw [HV.out]; rfl)) (fun w6 hC => ?_); obtain ⟨hW6, hJ6, hlB6, hRB6, hRD6⟩ := hC; refine Ks ?_; refine Rs 2 fun Q' K hK => ?_; refine M1 hE 6 fun K' Kh ρ q6 => ?_; go_simp; (try go_bits); (try simp (disch := omega) only [IntWalk.i64_in]); refine Ln hE Kh fun _ Eb => ?_; clear Kh K' hE a q6; refine M1 Eb 19 fun K' Kh ρ q19 => ?_; go_simp; refine Ln Eb Kh fun _ Ea => ?_; clear Kh K' Eb q19; refine Ld [1, 2, 4, 6] Ea hK fun a hE => ?_; clear hK K Q' Ea; refine Ks ?_; exact ⟨k + 1, ⟨hlt, by simpa using hE, hW6, hJ6, hlB6, hRB6, hRD6⟩, by omega⟩
 ·have hke : k = 2000 := by omega
  subst hke
  have hRB2 : Row wr B (bls fun i => f i && p i) := by
   have e : (bls fun j => if j < 2000 then f j && p j else f j) = bls fun i => f i && p i := bls_congr fun i hi => by rw [if_pos hi]
   rw [← e]; exact hRB
  clear hRB; obtain ⟨hlR, zs, hzs, hRR⟩ := hRD; refine Ks ?_; refine Rs 1 fun Q' K hK => ?_; refine M1 hE 6 fun K' Kh ρ q6 => ?_; go_simp; (try go_bits); refine Ln hE Kh fun _ Eb => ?_; clear Kh K' hE a q6; replace Eb := Eb.turn 7 (v' := .bool false) rfl (by simp); refine Ld [1, 2, 4, 6, 7] Eb hK fun a hE => ?_; clear hK K Q' Eb; refine Ks ?_; refine cond_no hE (t := 7) rfl ?_; refine Ks ?_; refine Rs 2 fun Q' K hK => ?_; refine Lp fun K' Kh => ?_; have r2 := hE.at 2 rfl; refine wp_load_mid 123 (.tmp 2) rfl B 0 (eval_of r2) (bls fun i => f i && p i) _ (fun j u hu => by rw [Nat.zero_add]; exact (hRB2 j u hu).1) Tryd.underlying123 rfl (by rw [bls_length]; kernel_rfl) ?_; (try clear r2); refine Ln hE Kh fun _ Eb => ?_; clear Kh K' hE a; refine Lp fun K' Kh => ?_; have r4 := Eb.at 4 rfl; have r20 := Eb.at 20 rfl; refine wp_store_mid 123 (.tmp 4) (.tmp 20) rfl R 0 (bls fun i => f i && p i).toArray (eval_of r4) (eval_of r20) (there_row hRR (by rw [hzs, List.size_toArray, bls_length]; exact Nat.le_refl _)) (by rw [List.size_toArray, bls_length]; kernel_rfl) (bls_one _) ?_; (try clear r4 r20); refine late_skip Eb Kh (fun _ Ea => ?_); clear Kh K'; clear Eb; refine Ld [4] Ea hK fun a hE => ?_; clear hK K Q' Ea; refine world_cut (fun wt => KeepX M w wt ∧ J wt ∧ Row wt R (bls fun i => f i && p i)) ?_ (fun w9 hC => ?_)
  ·have h1 : Below w.heap.size wr (wr.setCells R 0 (bls fun i => f i && p i)) := Lib.below_setCells R hnR _ _ (Below.refl _ _); exact ⟨hW.own rfl h1, HST.out _ _ hJr hW.size h1, row_all hRR (by rw [hzs, bls_length])⟩
  obtain ⟨hW9, hJ9, hRR9⟩ := hC; refine Ks ?_; exact ret_cell hE rfl rfl (fun j u hu => (hRR9 j u hu).1) Tryd.underlying123 rfl (by rw [bls_length]; kernel_rfl) ⟨rfl, hW9, hJ9⟩
end Go.Proofs.YtkhmcofmjjmjhaaDoor
