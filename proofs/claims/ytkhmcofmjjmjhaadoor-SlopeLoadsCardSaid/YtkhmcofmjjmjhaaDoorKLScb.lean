/- Slope: the law's own books. -/
import Derived.Test.YtkhmcofmjjmjhaaDoorKLSbj

namespace Go.Proofs.YtkhmcofmjjmjhaaDoor
set_option linter.unusedSimpArgs false
set_option linter.unusedVariables false
open Go Go.RowKit
attribute [local go_sem high] cell_set_wr
attribute [local go_sem low] cell_wr frozen_wr
attribute [local go_sem] wr_set wr_drew wr_drewN wr_alloc wr_new Rho.c Rho.n Rho.g
def chB (l : List Si) : Sb := ⟨⟨4, 3, 2, 5, 60⟩, 20, 30, [⟨3, 4, 1, 1, 0, 0⟩, ⟨2, 5, 2, 2, 0, 0⟩, ⟨0, 0, 0, 1, 3, 4⟩, ⟨0, 0, 0, 0, 0, 0⟩], l⟩
def poS (h lo hi : Int) : Si := ⟨h, false, lo, hi⟩
def feS (h : Int) : Si := ⟨h, true, 0, 2000⟩
set_option maxRecDepth 100000
theorem ch_ok0 : (chB []).ok = true := by decide +kernel
theorem ch_ok1 : (chB [poS 1 39 60]).ok = true := by decide +kernel
theorem ch_ok2 : (chB [feS 1]).ok = true := by decide +kernel
theorem ch_ok3 : (chB [feS 0, poS 1 39 60]).ok = true := by decide +kernel
theorem ch_rt0 : rtB (chB []) = true := by rw [enum_rt ch_ok0]; decide +kernel
theorem ch_rt1 : rtB (chB [poS 1 39 60]) = true := by rw [enum_rt ch_ok1]; decide +kernel
theorem ch_rt2 : rtB (chB [feS 1]) = true := by rw [enum_rt ch_ok2]; decide +kernel
theorem ch_rt3 : rtB (chB [feS 0, poS 1 39 60]) = false := by rw [enum_rt ch_ok3]; decide +kernel
theorem ch_load : loadR (chB []) 2 = (6, 71) := by
 have h1 : frE (chB []) ((chB []).isHour 2) = 0 := frE_zero.2 ⟨ch_ok0, by decide +kernel, ch_rt0⟩; have h2 := enum_ends ch_ok0 (h := 2) (lo := 6) (hi := 71) (by decide) (by decide +kernel); have e2 : (2 : Int).toNat = 2 := rfl
 unfold loadR
 rw [if_pos h1, e2, h2.1, h2.2]
theorem ch_loadE : frE (chB []) ((chB []).isHour 2) = 0 := frE_zero.2 ⟨ch_ok0, by decide +kernel, ch_rt0⟩
theorem saf_of {b : Sb} (hok : b.ok = true) {h lo hi : Nat} (hh : h < b.hours.length) (he : endsB ((enumT b).filterMap fun t => (t[h]?).map (·.1)) lo hi = true) : safB b h = decide ((hi : Int) ≤ b.sl.hold) := by
 unfold safB
 rw [(enum_ends hok hh he).2]
theorem sf10 : safB (chB [poS 1 39 60]) 0 = true := saf_of ch_ok1 (lo := 30) (hi := 44) (by decide) (by decide +kernel)
theorem sf11 : safB (chB [poS 1 39 60]) 1 = true := saf_of ch_ok1 (lo := 39) (hi := 60) (by decide) (by decide +kernel)
theorem sf12 : safB (chB [poS 1 39 60]) 2 = false := saf_of ch_ok1 (lo := 40) (hi := 66) (by decide) (by decide +kernel)
theorem sf13 : safB (chB [poS 1 39 60]) 3 = false := saf_of ch_ok1 (lo := 0) (hi := 61) (by decide) (by decide +kernel)
theorem sf22 : safB (chB [feS 1]) 2 = true := saf_of ch_ok2 (lo := 6) (hi := 11) (by decide) (by decide +kernel)
theorem sf23 : safB (chB [feS 1]) 3 = true := saf_of ch_ok2 (lo := 1) (hi := 6) (by decide) (by decide +kernel)
theorem sf00 : safB (chB []) 0 = true := saf_of ch_ok0 (lo := 30) (hi := 44) (by decide) (by decide +kernel)
theorem ch_len (l : List Si) : (chB l).hours.length = 4 := rfl
theorem ch_run1 : runB (chB [poS 1 39 60]) 0 = 2 := by
 unfold runB
 rw [ch_len]; refine runN_is _ _ _ _ (by decide) (fun j hj => ?_) (.inr ?_)
 ·rw [Nat.zero_add]; have : j = 0 ∨ j = 1 := by omega
  rcases this with rfl | rfl
  ·exact sf10
  ·exact sf11
 ·rw [Nat.zero_add]; exact sf12
theorem ch_run2 : runB (chB [feS 1]) 2 = 2 := by
 unfold runB
 rw [ch_len]; simp only [runN, Nat.reduceSub, Nat.reduceAdd, sf22, sf23, if_true]
theorem croN_at (P : Nat → Bool) (r h : Nat) (hp : P h = true) : croN P (r + 1) h = some h := by
 unfold croN
 rw [if_pos hp]
theorem ch_free : freL (chB [poS 1 39 60]) = [0, 1] := by
 have h1 : frE (chB [poS 1 39 60]) true = 0 := frE_zero.2 ⟨ch_ok1, rfl, ch_rt1⟩
 unfold freL
 rw [if_pos h1, ch_len]; have hr : List.range 4 = [0, 1, 2, 3] := by decide
 unfold freK
 rw [hr]; simp only [List.filter_cons, List.filter_nil, sf10, sf11, sf12, sf13, if_true, Bool.false_eq_true, if_false]
theorem ch_freeE : frE (chB [poS 1 39 60]) true = 0 := frE_zero.2 ⟨ch_ok1, rfl, ch_rt1⟩
theorem ch_cross : croR (chB [poS 1 39 60]) 0 2 = (0, 0) := by
 have h1 : frE (chB [poS 1 39 60]) ((chB [poS 1 39 60]).isHour 0 && wB 2 1 12) = 0 := frE_zero.2 ⟨ch_ok1, by decide +kernel, ch_rt1⟩
 unfold croR
 rw [if_pos h1]; have e0 : (0 : Int).toNat = 0 := rfl
 have h3 : croB (chB [poS 1 39 60]) 0 2 = some 0 := by
  unfold croB
  rw [ch_len]; exact croN_at _ 3 0 (crP_yes (by rw [ch_run1]; decide))
 rw [e0, h3]
 unfold croV
 simp
theorem ch_until : untR (chB [feS 1]) 2 = (3, 0) := by
 have h1 : frE (chB [feS 1]) ((chB [feS 1]).isHour 2) = 0 := frE_zero.2 ⟨ch_ok2, by decide +kernel, ch_rt2⟩
 unfold untR
 rw [if_pos h1]; have e2 : (2 : Int).toNat = 2 := rfl; rw [e2, ch_run2, if_neg (by decide)]
 simp
theorem ch_safe : safeR (chB []) 0 = true := by
 have h1 : frE (chB []) ((chB []).isHour 0) = 0 := frE_zero.2 ⟨ch_ok0, by decide +kernel, ch_rt0⟩
 unfold safeR
 rw [if_pos h1]; exact sf00
theorem ch_safeE : frE (chB []) ((chB []).isHour 0) = 0 := frE_zero.2 ⟨ch_ok0, by decide +kernel, ch_rt0⟩
theorem ch_right : ((chB [feS 0, poS 1 39 60]).ok && rtB (chB [feS 0, poS 1 39 60])) = false := by rw [ch_rt3, Bool.and_false]
theorem ch_rightE : sbE (chB [feS 0, poS 1 39 60]) = 0 := by unfold sbE; rw [ch_ok3]; rfl
theorem ch_wrong : (if (chB [feS 0, poS 1 39 60]).ok then wroB (chB [feS 0, poS 1 39 60]) else []) = [0] := by
 rw [ch_ok3, if_pos rfl]; have h0 : rtB (withoutB (chB [feS 0, poS 1 39 60]) []) = false := ch_rt3; have h1 : rtB (withoutB (chB [feS 0, poS 1 39 60]) [0]) = true := ch_rt1
 show leaP (fun out => rtB (withoutB (chB [feS 0, poS 1 39 60]) out)) 2 3 [] 0 [0, 1] = [0]
 have hr0 : List.range' 0 (2 - 0) = [0, 1] := by decide
 simp only [leaP, hr0, List.foldl_cons, List.foldl_nil, List.nil_append, h0, h1, List.length_cons, List.length_nil, Nat.reduceAdd, Nat.reduceLeDiff, if_false, if_true, Bool.false_eq_true, Nat.le_refl]
theorem ch_falls : falR (chB []) = (0, 1) := by
 have h1 : frE (chB []) true = 0 := frE_zero.2 ⟨ch_ok0, rfl, ch_rt0⟩; have h2 := enum_falls ch_ok0 (lo := 0) (hi := 1) (by decide +kernel)
 unfold falR
 rw [if_pos h1, h2.1, h2.2]
theorem ch_fallsE : frE (chB []) true = 0 := frE_zero.2 ⟨ch_ok0, rfl, ch_rt0⟩
theorem arr_other {V w : World} {A B G : Nat} {xs : List Value} (h : Arr V A (some ⟨G, 0, none⟩) xs) (e : w.heap[G]? = V.heap[G]?) (hB : A ≤ B) : Arr w B (some ⟨G, 0, none⟩) xs := fun hx => by
 obtain ⟨b, o, h1, hb, hc⟩ := h hx
 cases h1
 exact ⟨G, 0, rfl, by omega, fun j u hu => by
  have := hc j u hu; simp only [World.cell?] at this ⊢; rw [e]; exact this⟩
/-- a list of some structs -/
theorem wp_buildN {P : Program} {o : Oper} {a : Act} {w : World} {K : Act → World → Prop} {Q : Exit → Act → World → Prop} (t e : TypeId) (m : Nat) (parts : Array (Nat × Operand)) (ho : o.op = .buildSlice t m parts) (vs cs : List Value) (n : Nat) (hp : (parts.map fun (i, x) => (i, a.eval x)).toList = (vs.zipIdx 0).map fun x => (x.2, x.1))
    (hu : P.underlying t = some (.slice e)) (hi : (P.info? e).map (·.size) = some n) (hz : ((P.info? e).bind (·.zero)).isSome = true) (hl : vs.length = m) (h1 : ∀ v ∈ vs, v.cells.size = n) (hcs : (vs.flatMap fun v => v.cells.toList) = cs) (hpos : 0 < n) (hm : 0 < m) (hsm : m * n ≤ 16777216)
    (h : K (a.put o.dst (.slice (some ⟨w.heap.size, 0, none⟩) m m)) (w.alloc (.cells cs.toArray e))) : o.wp P a w K Q := by
 cases hie : P.info? e with
 | none => simp [hie] at hi
 | some ie =>
  simp only [hie, Option.map_some, Option.some.injEq, Option.bind_some] at hi hz; obtain ⟨z, hzz⟩ := Option.isSome_iff_exists.1 hz; have hmn : 0 < m * n := Nat.mul_pos hm hpos; refine wp_buildSlice t e m parts ho cs.toArray ie z hu hie hzz (by rw [hi]; omega) (by rw [hi]; omega) ?_ h; rw [hi, hp]; have := Great.fill_whole hpos vs ((Array.range (m * n)).map (z.cells[· % z.cells.size]!)) h1 (by simp [hl]); rw [hcs] at this; exact this
set_option maxRecDepth 100000 in
theorem pole_any (h lo hi : Int) (w : World) : Calls Tryd.prog 46 #[.int .i64 h, .int .i64 lo, .int .i64 hi] w fun e w' => e = .returned (.agg (Si.cells (poS h lo hi)).toArray) ∧ Below w.heap.size w w' := by
 simp only [Si.cells, poS]; refine En Tryd.func46 Tryd.ntmps46 fun a hE => ?_; refine Ks ?_; refine Rs 1 fun Q' K hK => ?_; refine M0 fun K' J ρ => ?_; go_simp; refine Ln hE J fun _ Eb => ?_; clear J K' hE a; refine Ld [0, 1, 2, 6] Eb hK fun a hE => ?_; clear hK K Q' Eb; obtain ⟨R, hR⟩ : ∃ B, B = w.heap.size := ⟨_, rfl⟩; rw [← hR] at hE; refine world_cut (fun wt => Below w.heap.size w wt ∧ RowD wt R 4) ⟨(Below.refl _ _).alloc (Nat.le_refl _) _, by rw [hR]; exact ⟨by simp, _, rfl, row_new w _ _⟩⟩ (fun w1 hC => ?_); obtain ⟨hbw1, hRD⟩ := hC; have hnR : w.heap.size ≤ R := Nat.le_of_eq hR.symm; clear hR; refine Ks ?_; refine Rs 6 fun Q' K hK => ?_; refine M1 hE 0 fun K' J ρ q0 => ?_; go_simp; refine Ln hE J fun _ Eb => ?_; clear J K' hE a q0; refine M1 Eb 1 fun K' J ρ q1 => ?_; go_simp; refine Ln Eb J fun _ Ea => ?_; clear J K' Eb q1; refine M1 Ea 2 fun K' J ρ q2 => ?_; go_simp; refine Ln Ea J fun _ Eb => ?_; clear J K' Ea q2; refine M2 Eb 8 9 fun K' J ρ q8 q9 => ?_; go_simp; (try go_bits); (try clear q8 q9); go_at_call 54; refine (to_any lo hi _).mono ?_; rintro e g1 ⟨rfl, h1⟩; obtain ⟨hlR, zs, hzs, hRR⟩ := hRD.below h1; have hb1 := hbw1.trans (h1.mono hbw1.size); (try clear r8 r9); refine Ln Eb J fun _ Ea => ?_; clear J K' Eb; refine M2 Ea 7 10 fun K' J ρ q7 q10 => ?_; go_simp; refine Ln Ea J fun _ Eb => ?_; clear J K' Ea q7 q10; refine Lp fun K' J => ?_; have r6 := Eb.at 6 rfl; have r11 := Eb.at 11 rfl; refine wp_store_mid 68 (.tmp 6) (.tmp 11) rfl R 0 #[.int .i64 h, .bool false, .int .i64 lo, .int .i64 hi] (eval_of r6) (eval_of r11) (there_row hRR (by rw [hzs]; exact Nat.le_refl _)) (by kernel_rfl) (by kernel_rfl) ?_
 (try clear r6 r11); refine late_skip Eb J (fun _ Ea => ?_); clear J K'; clear Eb; refine Ld [6] Ea hK fun a hE => ?_; clear hK K Q' Ea; obtain ⟨q1, q2, _, _⟩ := cells_stored hRR (vs := [.int .i64 h, .bool false, .int .i64 lo, .int .i64 hi]) (by rw [hzs]; rfl) hlR hnR hb1; refine world_cut (fun wt => Cells wt R [.int .i64 h, .bool false, .int .i64 lo, .int .i64 hi] ∧ Below w.heap.size w wt) ⟨q1, q2⟩ (fun w9 hCut => ?_); obtain ⟨hC9, hb9⟩ := hCut; refine Ks ?_; exact ret_cell hE rfl rfl hC9.2 Tryd.underlying68 rfl (by kernel_rfl) ⟨rfl, hb9⟩
set_option maxRecDepth 100000 in
theorem fell_any (h : Int) (w : World) : Calls Tryd.prog 47 #[.int .i64 h] w fun e w' => e = .returned (.agg (Si.cells (feS h)).toArray) ∧ Below w.heap.size w w' := by
 simp only [Si.cells, feS]; refine En Tryd.func47 Tryd.ntmps47 fun a hE => ?_; refine Ks ?_; refine Rs 1 fun Q' K hK => ?_; refine M0 fun K' J ρ => ?_; go_simp; refine Ln hE J fun _ Eb => ?_; clear J K' hE a; refine Ld [0, 2] Eb hK fun a hE => ?_; clear hK K Q' Eb; obtain ⟨R, hR⟩ : ∃ B, B = w.heap.size := ⟨_, rfl⟩; rw [← hR] at hE; refine world_cut (fun wt => Below w.heap.size w wt ∧ RowD wt R 4) ⟨(Below.refl _ _).alloc (Nat.le_refl _) _, by rw [hR]; exact ⟨by simp, _, rfl, row_new w _ _⟩⟩ (fun w1 hC => ?_); obtain ⟨hbw1, hRD⟩ := hC; have hnR : w.heap.size ≤ R := Nat.le_of_eq hR.symm; clear hR; refine Ks ?_; refine Rs 4 fun Q' K hK => ?_; refine M1 hE 0 fun K' J ρ q0 => ?_; go_simp; refine Ln hE J fun _ Eb => ?_; clear J K' hE a q0; refine M0 fun K' J ρ => ?_; go_simp; (try go_bits); go_at_call 54; refine (to_any 0 2000 _).mono ?_; rintro e g1 ⟨rfl, h1⟩; obtain ⟨hlR, zs, hzs, hRR⟩ := hRD.below h1; have hb1 := hbw1.trans (h1.mono hbw1.size); refine Ln Eb J fun _ Ea => ?_; clear J K' Eb; refine M2 Ea 3 4 fun K' J ρ q3 q4 => ?_; go_simp; refine Ln Ea J fun _ Eb => ?_; clear J K' Ea q3 q4; refine Lp fun K' J => ?_; have r2 := Eb.at 2 rfl; have r5 := Eb.at 5 rfl; refine wp_store_mid 68 (.tmp 2) (.tmp 5) rfl R 0 #[.int .i64 h, .bool true, .int .i64 0, .int .i64 2000] (eval_of r2) (eval_of r5) (there_row hRR (by rw [hzs]; exact Nat.le_refl _)) (by kernel_rfl) (by kernel_rfl) ?_; (try clear r2 r5); refine late_skip Eb J (fun _ Ea => ?_); clear J K'; clear Eb; refine Ld [2] Ea hK fun a hE => ?_; clear hK K Q' Ea
 obtain ⟨q1, q2, _, _⟩ := cells_stored hRR (vs := [.int .i64 h, .bool true, .int .i64 0, .int .i64 2000]) (by rw [hzs]; rfl) hlR hnR hb1; refine world_cut (fun wt => Cells wt R [.int .i64 h, .bool true, .int .i64 0, .int .i64 2000] ∧ Below w.heap.size w wt) ⟨q1, q2⟩ (fun w9 hCut => ?_); obtain ⟨hC9, hb9⟩ := hCut; refine Ks ?_; exact ret_cell hE rfl rfl hC9.2 Tryd.underlying68 rfl (by kernel_rfl) ⟨rfl, hb9⟩
set_option maxRecDepth 100000 in
set_option maxHeartbeats 1000000 in
theorem book_any (S : Option Addr) (scap : Nat) (l : List Si) (w : World) (hS : ArrD w S (sis l)) : Calls Tryd.prog 53 #[.slice S l.length scap] w fun e w' => (∃ H, e = .returned (.agg (sbV H 4 S scap (chB l)).toArray) ∧ SbAt w' H S (chB l)) ∧ Below w.heap.size w w' := by
 refine En Tryd.func53 Tryd.ntmps53 fun a hE => ?_; refine Ks ?_; refine Rs 1 fun Q' K hK => ?_; refine M0 fun K' J ρ => ?_; go_simp; refine Ln hE J fun _ Eb => ?_; clear J K' hE a; refine Ld [0, 2] Eb hK fun a hE => ?_; clear hK K Q' Eb; obtain ⟨R, hR⟩ : ∃ B, B = w.heap.size := ⟨_, rfl⟩; rw [← hR] at hE; refine world_cut (fun wt => Below w.heap.size w wt ∧ RowD wt R 9) ⟨(Below.refl _ _).alloc (Nat.le_refl _) _, by rw [hR]; exact ⟨by simp, _, rfl, row_new w _ _⟩⟩ (fun w1 hC => ?_); obtain ⟨hbw1, hRD⟩ := hC; have hnR : w.heap.size ≤ R := Nat.le_of_eq hR.symm; clear hR; refine Ks ?_; refine Rs 16 fun Q' K hK => ?_; refine M0 fun K' J ρ => ?_; go_simp; refine Ln hE J fun _ Eb => ?_; clear J K' hE a; refine M0 fun K' J ρ => ?_; go_simp; (try go_bits); go_at_call 54; refine (to_any 20 30 _).mono ?_; rintro e g1 ⟨rfl, h1⟩; refine Ln Eb J fun _ Ea => ?_; clear J K' Eb; refine M0 fun K' J ρ => ?_; go_simp; (try go_bits); go_at_call 54; refine (to_any 3 4 _).mono ?_; rintro e g2 ⟨rfl, h2⟩; replace h2 := h1.trans (h2.mono h1.size); refine Ln Ea J fun _ Eb => ?_; clear J K' Ea; refine M0 fun K' J ρ => ?_; go_simp; (try go_bits); go_at_call 43; refine (one_any 1 _).mono ?_; rintro e g3 ⟨rfl, h3⟩; replace h3 := h2.trans (h3.mono h2.size); refine Ln Eb J fun _ Ea => ?_; clear J K' Eb; refine M2 Ea 5 6 fun K' J ρ q5 q6 => ?_; go_simp; refine Ln Ea J fun _ Eb => ?_; clear J K' Ea q5 q6; refine M0 fun K' J ρ => ?_; go_simp; (try go_bits); go_at_call 54; refine (to_any 2 5 _).mono ?_; rintro e g4 ⟨rfl, h4⟩
 replace h4 := h3.trans (h4.mono h3.size); refine Ln Eb J fun _ Ea => ?_; clear J K' Eb; refine M0 fun K' J ρ => ?_; go_simp; (try go_bits); go_at_call 43; refine (one_any 2 _).mono ?_; rintro e g5 ⟨rfl, h5⟩; replace h5 := h4.trans (h5.mono h4.size); refine Ln Ea J fun _ Eb => ?_; clear J K' Ea; refine M2 Eb 8 9 fun K' J ρ q8 q9 => ?_; go_simp; refine Ln Eb J fun _ Ea => ?_; clear J K' Eb q8 q9; refine M0 fun K' J ρ => ?_; go_simp; (try go_bits); go_at_call 54; refine (to_any 0 1 _).mono ?_; rintro e g6 ⟨rfl, h6⟩; replace h6 := h5.trans (h6.mono h5.size); refine Ln Ea J fun _ Eb => ?_; clear J K' Ea; refine M0 fun K' J ρ => ?_; go_simp; (try go_bits); go_at_call 54; refine (to_any 3 4 _).mono ?_; rintro e g7 ⟨rfl, h7⟩; replace h7 := h6.trans (h7.mono h6.size); refine Ln Eb J fun _ Ea => ?_; clear J K' Eb; refine M2 Ea 11 12 fun K' J ρ q11 q12 => ?_; go_simp; refine Ln Ea J fun _ Eb => ?_; clear J K' Ea q11 q12; refine M0 fun K' J ρ => ?_; go_simp; refine Ln Eb J fun _ Ea => ?_; clear J K' Eb; refine Lp fun K' J => ?_; have r7 := Ea.at 7 rfl; have r10 := Ea.at 10 rfl; have r13 := Ea.at 13 rfl; have r14 := Ea.at 14 rfl; refine wp_buildN 26 62 4 _ rfl [.agg #[.int .i64 3, .int .i64 4, .int .i64 1, .int .i64 1, .int .i64 0, .int .i64 0], .agg #[.int .i64 2, .int .i64 5, .int .i64 2, .int .i64 2, .int .i64 0, .int .i64 0], .agg #[.int .i64 0, .int .i64 0, .int .i64 0, .int .i64 1, .int .i64 3, .int .i64 4], .agg #[.int .i64 0, .int .i64 0, .int .i64 0, .int .i64 0, .int .i64 0, .int .i64 0]] (hrs (chB []).hours) 6 (by simp [eval_of r7, eval_of r10, eval_of r13, eval_of r14]) Tryd.underlying26 (by kernel_rfl) (by kernel_rfl) rfl (by simp [Value.cells]) (by simp [Value.cells, hrs, chB, Hr.cells]) (by decide) (by decide) (by decide) ?_
 (try clear r7 r10 r13 r14); refine Ln Ea J fun _ Eb => ?_; clear J K' Ea; refine M1 Eb 0 fun K' J ρ q0 => ?_; go_simp; refine Ln Eb J fun _ Ea => ?_; clear J K' Eb q0; refine Lp fun K' J => ?_; have r3 := Ea.at 3 rfl; have r4 := Ea.at 4 rfl; have r15 := Ea.at 15 rfl; have r16 := Ea.at 16 rfl; refine op_run (fun ρ hρ qc qf qg => ?_); have q3 := rho hρ r3; have q4 := rho hρ r4; have q15 := rho hρ r15; have q16 := rho hρ r16; clear hρ; go_simp; (try clear r3 q3 r4 q4 r15 q15 r16 q16); (try clear r3 r4 r15 r16); refine Ln Ea J fun _ Eb => ?_; clear J K' Ea; refine Lp fun K' J => ?_; have r2 := Eb.at 2 rfl; have r17 := Eb.at 17 rfl; have h8 : Below w1.heap.size w1 (g7.alloc (.cells (hrs (chB []).hours).toArray 62)) := h7.alloc h7.size _; obtain ⟨hlR, zs, hzs, hRR⟩ := hRD.below h8; have hb8 := hbw1.trans (h8.mono hbw1.size); refine wp_store_mid 29 (.tmp 2) (.tmp 17) rfl R 0 #[.int .i64 4, .int .i64 3, .int .i64 2, .int .i64 5, .int .i64 60, .int .i64 20, .int .i64 30, .slice (some ⟨g7.heap.size, 0, none⟩) 4 4, .slice S l.length scap] (eval_of r2) (eval_of r17) (there_row hRR (by rw [hzs]; exact Nat.le_refl _)) (by kernel_rfl) (by kernel_rfl) ?_; (try clear r2 r17); refine late_skip Eb J (fun _ Ea => ?_); clear J K'; clear Eb; refine Ld [2] Ea hK fun a hE => ?_; clear hK K Q' Ea; obtain ⟨q1, q2, q3, q4⟩ := cells_stored hRR (vs := [.int .i64 4, .int .i64 3, .int .i64 2, .int .i64 5, .int .i64 60, .int .i64 20, .int .i64 30, .slice (some ⟨g7.heap.size, 0, none⟩) 4 4, .slice S l.length scap]) (by rw [hzs]; rfl) hlR hnR hb8
 have hHA := arr_new g7 (hrs (chB []).hours).toArray 62; have hne : g7.heap.size ≠ R := by have := hRD.1; have := h7.size; omega
 have hHB := arr_other hHA (q3 _ hne) (B := (g7.alloc (.cells (hrs (chB []).hours).toArray 62)).heap.size) (by simp); rw [← q4] at hHB; refine world_cut (fun wt => ∃ G, Cells wt R [.int .i64 4, .int .i64 3, .int .i64 2, .int .i64 5, .int .i64 60, .int .i64 20, .int .i64 30, .slice (some ⟨G, 0, none⟩) 4 4, .slice S l.length scap] ∧ ArrD wt (some ⟨G, 0, none⟩) (hrs (chB l).hours) ∧ Below w.heap.size w wt) ⟨_, q1, hHB, q2⟩ (fun w9 hCut => ?_); obtain ⟨G, hC9, hH9, hb9⟩ := hCut; refine Ks ?_; exact ret_cell hE rfl rfl hC9.2 Tryd.underlying29 rfl (by kernel_rfl) ⟨⟨some ⟨G, 0, none⟩, rfl, hH9, hS.below hb9⟩, hb9⟩
end Go.Proofs.YtkhmcofmjjmjhaaDoor
