/- Name: the law's examples. -/
import Derived.Test.YtbimkcjdodgojaaGreatKBNbe
import Derived.Test.YtbimkcjdodgojaaGreatKBNy

namespace Go.Proofs.YtbimkcjdodgojaaGreat
set_option linter.unusedSimpArgs false
set_option linter.unusedVariables false
open Go Go.RowKit
attribute [local go_sem high] cell_set_wr
attribute [local go_sem low] cell_wr frozen_wr
attribute [local go_sem] wr_set wr_drew wr_drewN wr_alloc wr_new Rho.c Rho.n Rho.g
theorem ch_small (n : Int) : (chBk n).small 2 5 := by
 refine ⟨by simp [chBk, chEar], by simp [chBk, chEar], by simp [chBk], by simp [chBk], by simp [chBk, chEar]; decide, ?_⟩
 intro i h
 have h5 : i < 5 := h
 match i, h5 with
 | 0, _ => exact (by decide : (ByteArray.mk #[112, 101, 116, 101, 114]).size ≤ 9223372036854775807)
 | 1, _ => exact (by decide : (ByteArray.mk #[104, 97, 110, 115]).size ≤ 9223372036854775807)
 | 2, _ => exact (by decide : (ByteArray.mk #[98, 101, 116, 101, 114]).size ≤ 9223372036854775807)
 | 3, _ => exact (by decide : (ByteArray.mk #[97, 110, 115]).size ≤ 9223372036854775807)
 | 4, _ => exact (by decide : (ByteArray.mk #[112, 101, 100, 101, 114]).size ≤ 9223372036854775807)
set_option maxRecDepth 100000
theorem v_near : pNearR chEar ⟨#[112, 101, 116, 101, 114]⟩ ⟨#[98, 101, 116, 101, 114]⟩ = (1, 0) := by decide +kernel
theorem v_can : pCanR (chBk 1) 0 4 = (true, 0) := by decide +kernel
theorem v_is : pIsTruthR (chBk 1) [(0, 4), (1, 3)] = (true, 0) := by decide +kernel
theorem v_truths : pTruthsR (chBk 1) = (2, 0) := by decide +kernel
theorem v_kind : pKindR (chBk 1) 0 2 = (1, 0) := by decide +kernel
theorem v_set1 : setE (chBk 1) true = 0 := by decide +kernel
theorem v_joined : pJoinedL (chBk 1) = [(1, 3)] := by decide +kernel
theorem v_set5 : setE (chBk 5) true = 0 := by decide +kernel
theorem v_people : pPeopleR (chBk 5) = (3, 5) := by decide +kernel
theorem v_wrong : pWrongL (chBk 0) = [2] := by decide +kernel
theorem v_bk0 : bkE (chBk 0) = 0 := by decide +kernel
theorem v_ask0 : pAskR (chBk 0) = (0, 22) := by decide +kernel
theorem v_ask5 : pAskR (chBk 5) = (0, 0) := by decide +kernel
section
variable {w : World} {A L : Option Addr}
theorem wNear {G : Nat} (hG : Arr w w.heap.size (some ⟨G, 0, none⟩) (txts chEar.alike)) : Calls Tryz.prog 45 #[.agg #[.slice (some ⟨G, 0, none⟩) 2 2, .string ⟨#[104]⟩, .int .i64 1], .string ⟨#[112, 101, 116, 101, 114]⟩, .string ⟨#[98, 101, 116, 101, 114]⟩] w fun e w' => e = .returned (.tuple #[.int .i64 1, .int .i64 0]) ∧ Below w.heap.size w w' := by
 have h := pNear_any (some ⟨G, 0, none⟩) 2 chEar.alike ⟨#[104]⟩ 1 ⟨#[112, 101, 116, 101, 114]⟩ ⟨#[98, 101, 116, 101, 114]⟩ w hG (by decide) (by decide) (by decide) (by decide) (by decide)
 have e : pNearR ⟨chEar.alike, ⟨#[104]⟩, 1⟩ ⟨#[112, 101, 116, 101, 114]⟩ ⟨#[98, 101, 116, 101, 114]⟩ = (1, 0) := v_near
 rw [e] at h
 exact h
theorem wCan (hM : BkAt w A L (chBk 1)) : Calls Tryz.prog 6 #[.agg (bkV A 2 L 5 (chBk 1)).toArray, .int .i64 0, .int .i64 4] w fun e w' => e = .returned (.tuple #[.bool true, .int .i64 0]) ∧ Below w.heap.size w w' := by
 have h := pCan_any A 2 L 5 (chBk 1) 0 4 w hM (ch_small 1)
 rw [v_can] at h
 exact h
theorem wIs (hM : BkAt w A L (chBk 1)) {G : Nat} (hG : Arr w w.heap.size (some ⟨G, 0, none⟩) [.int .i64 0, .int .i64 4, .int .i64 1, .int .i64 3]) : Calls Tryz.prog 10 #[.agg (bkV A 2 L 5 (chBk 1)).toArray, .slice (some ⟨G, 0, none⟩) 2 2] w fun e w' => e = .returned (.tuple #[.bool true, .int .i64 0]) ∧ Below w.heap.size w w' := by
 have h := pIsTruth_any A 2 L 5 (chBk 1) (some ⟨G, 0, none⟩) 2 [(0, 4), (1, 3)] w hM (ch_small 1) hG (by decide)
 rw [v_is] at h
 exact h
theorem wTruths (hM : BkAt w A L (chBk 1)) : Calls Tryz.prog 12 #[.agg (bkV A 2 L 5 (chBk 1)).toArray] w fun e w' => e = .returned (.tuple #[.int .i64 2, .int .i64 0]) ∧ Below w.heap.size w w' := by
 have h := pTruths_any A 2 L 5 (chBk 1) w hM (ch_small 1)
 rw [v_truths] at h
 exact h
theorem wKind (hM : BkAt w A L (chBk 1)) : Calls Tryz.prog 15 #[.agg (bkV A 2 L 5 (chBk 1)).toArray, .int .i64 0, .int .i64 2] w fun e w' => e = .returned (.tuple #[.int .i64 1, .int .i64 0]) ∧ Below w.heap.size w w' := by
 have h := pKind_any A 2 L 5 (chBk 1) 0 2 w hM (ch_small 1)
 rw [v_kind] at h
 exact h
theorem wJoined (hM : BkAt w A L (chBk 1)) : Calls Tryz.prog 17 #[.agg (bkV A 2 L 5 (chBk 1)).toArray] w fun e w' => (∃ T c, e = .returned (.tuple #[.slice T 1 c, .int .i64 0]) ∧ Arr w' w'.heap.size T [.int .i64 1, .int .i64 3]) ∧ Below w.heap.size w w' := by
 have h := pJoined_any A 2 L 5 (chBk 1) w hM (ch_small 1)
 rw [v_set1, v_joined] at h
 exact h
theorem wPeople (hM : BkAt w A L (chBk 5)) : Calls Tryz.prog 20 #[.agg (bkV A 2 L 5 (chBk 5)).toArray] w fun e w' => e = .returned (.tuple #[.agg #[.int .i64 3, .int .i64 5], .int .i64 0]) ∧ Below w.heap.size w w' := by
 have h := pPeople_any A 2 L 5 (chBk 5) w hM (ch_small 5)
 rw [v_set5, v_people] at h
 exact h
theorem wWrong (hM : BkAt w A L (chBk 0)) : Calls Tryz.prog 22 #[.agg (bkV A 2 L 5 (chBk 0)).toArray] w fun e w' => (∃ T c, e = .returned (.tuple #[.slice T 1 c, .int .i64 0]) ∧ Arr w' w'.heap.size T [.int .i64 2]) ∧ Below w.heap.size w w' := by
 have h := pWrong_any A 2 L 5 (chBk 0) w hM (ch_small 0)
 rw [v_wrong, v_bk0] at h
 exact h
theorem wAsk0 (hM : BkAt w A L (chBk 0)) : Calls Tryz.prog 25 #[.agg (bkV A 2 L 5 (chBk 0)).toArray] w fun e w' => e = .returned (.tuple #[.int .i64 0, .int .i64 22]) ∧ Below w.heap.size w w' := by
 have h := pAsk_any A 2 L 5 (chBk 0) w hM (ch_small 0)
 rw [v_ask0] at h
 exact h
theorem wAsk5 (hM : BkAt w A L (chBk 5)) : Calls Tryz.prog 25 #[.agg (bkV A 2 L 5 (chBk 5)).toArray] w fun e w' => e = .returned (.tuple #[.int .i64 0, .int .i64 0]) ∧ Below w.heap.size w w' := by
 have h := pAsk_any A 2 L 5 (chBk 5) w hM (ch_small 5)
 rw [v_ask5] at h
 exact h
theorem equalN_any (A B : Option Addr) (n m : Nat) (a b : List Int) (w : World) (hA : Arr w w.heap.size A (ints a)) (hB : Arr w w.heap.size B (ints b)) (hn : a.length ≤ 9223372036854775807) : Calls Tryz.prog 24 #[.slice A a.length n, .slice B b.length m] w fun e w' => e = .returned (.bool (decide (a = b))) ∧ Below w.heap.size w w' := by
 refine enterE Tryz.func24 rfl Tryz.ntmps24 (by simp) (fun a hE => ?_); simp only [envOf, Nat.zero_add, Nat.reduceAdd] at hE
 refine Ks ?_
 refine Rs 1 fun Q' K hK => ?_
 refine M0 fun K' J ρ => ?_; go_simp;
 refine Ln hE J fun _ Eb => ?_; clear J K' hE a
 refine Ld [0, 1] Eb hK fun a hE => ?_; clear hK K Q' Eb
 refine Ks ?_
 refine Rs 4 fun Q' K hK => ?_
 refine M1 hE 0 fun K' J ρ q0 => ?_; go_simp
 refine Ln hE J fun _ Eb => ?_; clear J K' hE a q0
 refine M1 Eb 1 fun K' J ρ q1 => ?_; go_simp
 refine Ln Eb J fun _ Ea => ?_; clear J K' Eb q1
 refine M2 Ea 5 6 fun K' J ρ q5 q6 => ?_; go_simp; (try go_bits); (try clear q5 q6)
 go_at_call 62; refine (bequal_any A B n m a b w hA hB hn).mono ?_; rintro e w1 ⟨rfl, h1⟩
 (try clear r5 r6)
 refine Ln Ea J fun _ Eb => ?_; clear J K' Ea
 refine M1 Eb 7 fun K' J ρ q7 => ?_; go_simp
 refine Ln Eb J fun _ Ea => ?_; clear J K' Eb q7
 refine Ld [4] Ea hK fun a hE => ?_; clear hK K Q' Ea
 refine Ks ?_
 exact ret_one hE rfl rfl ⟨rfl, h1⟩
set_option maxHeartbeats 4000000 in
theorem written_any (w : World) : Calls Tryz.prog 14 #[] w fun e w' => e = .returned (.bool true) ∧ Below w.heap.size w w' := by
 refine enterE Tryz.func14 rfl Tryz.ntmps14 (by simp) (fun a hE => ?_); simp only [envOf, Nat.zero_add, Nat.reduceAdd] at hE
 refine Ks ?_
 refine Rs 1 fun Q' K hK => ?_
 refine M0 fun K' J ρ => ?_; go_simp;
 refine Ln hE J fun _ Eb => ?_; clear J K' hE a
 refine Ld [0] Eb hK fun a hE => ?_; clear hK K Q' Eb
 refine Ks ?_
 refine Rs 7 fun Q' K hK => ?_
 refine M0 fun K' J ρ => ?_; go_simp; (try go_bits);
 go_at_call 46; refine (ear_any _).mono ?_; rintro e w1 ⟨⟨G, rfl, _, hG⟩, h1⟩
 refine Ln hE J fun _ Eb => ?_; clear J K' hE a
 refine M1 Eb 18 fun K' J ρ q18 => ?_; go_simp; (try go_bits); (try clear q18)
 go_at_call 45; refine (wNear hG).mono ?_; rintro e w2 ⟨rfl, h2⟩
 (try clear r18)
 refine Ln Eb J fun _ Ea => ?_; clear J K' Eb
 refine M1 Ea 19 fun K' J ρ q19 => ?_; go_simp
 refine Ln Ea J fun _ Eb => ?_; clear J K' Ea q19
 refine M1 Eb 17 fun K' J ρ q17 => ?_; go_simp
 refine Ln Eb J fun _ Ea => ?_; clear J K' Eb q17
 refine M1 Ea 17 fun K' J ρ q17 => ?_; go_simp
 refine Ln Ea J fun _ Eb => ?_; clear J K' Ea q17
 refine M1 Eb 20 fun K' J ρ q20 => ?_; go_simp
 refine Ln Eb J fun _ Ea => ?_; clear J K' Eb q20
 refine M1 Ea 21 fun K' J ρ q21 => ?_; go_simp
 refine Ln Ea J fun _ Eb => ?_; clear J K' Ea q21
 refine Ld [1, 2] Eb hK fun a hE => ?_; clear hK K Q' Eb
 have hb := h1.trans (h2.mono h1.size)
 clear hG h1 h2
 refine Ks ?_
 refine Rs 7 fun Q' K hK => ?_
 refine M0 fun K' J ρ => ?_; go_simp; (try go_bits);
 go_at_call 47; refine (books_any 1 _).mono ?_; rintro e w3 ⟨⟨A, L, rfl, hM⟩, h1⟩
 refine Ln hE J fun _ Eb => ?_; clear J K' hE a
 refine M1 Eb 23 fun K' J ρ q23 => ?_; go_simp; (try go_bits); (try clear q23)
 go_at_call 6; refine (wCan hM).mono ?_; rintro e w4 ⟨rfl, h2⟩
 (try clear r23)
 refine Ln Eb J fun _ Ea => ?_; clear J K' Eb
 refine M1 Ea 24 fun K' J ρ q24 => ?_; go_simp
 refine Ln Ea J fun _ Eb => ?_; clear J K' Ea q24
 refine M1 Eb 22 fun K' J ρ q22 => ?_; go_simp
 refine Ln Eb J fun _ Ea => ?_; clear J K' Eb q22
 refine M1 Ea 22 fun K' J ρ q22 => ?_; go_simp
 refine Ln Ea J fun _ Eb => ?_; clear J K' Ea q22
 refine M1 Eb 25 fun K' J ρ q25 => ?_; go_simp
 refine Ln Eb J fun _ Ea => ?_; clear J K' Eb q25
 refine M1 Ea 26 fun K' J ρ q26 => ?_; go_simp
 refine Ln Ea J fun _ Eb => ?_; clear J K' Ea q26
 refine Ld [1, 2, 3, 4] Eb hK fun a hE => ?_; clear hK K Q' Eb
 replace hb := hb.trans ((h1.trans (h2.mono h1.size)).mono hb.size)
 clear hM h1 h2
 refine Ks ?_
 refine Rs 10 fun Q' K hK => ?_
 refine M0 fun K' J ρ => ?_; go_simp; (try go_bits);
 go_at_call 47; refine (books_any 1 _).mono ?_; rintro e w5 ⟨⟨A, L, rfl, hM⟩, h1⟩
 refine Ln hE J fun _ Eb => ?_; clear J K' hE a
 refine M0 fun K' J ρ => ?_; go_simp; (try go_bits);
 go_at_call 48; refine (lpair_any _ _ _).mono ?_; rintro e u1 ⟨rfl, k1⟩
 refine Ln Eb J fun _ Ea => ?_; clear J K' Eb
 refine M0 fun K' J ρ => ?_; go_simp; (try go_bits);
 go_at_call 48; refine (lpair_any _ _ _).mono ?_; rintro e u2 ⟨rfl, k2⟩
 have hk := h1.trans ((k1.trans (k2.mono k1.size)).mono h1.size)
 have hM2 := hM.below (k1.trans (k2.mono k1.size))
 have hA2 : Below u2.heap.size u2 (u2.alloc (.cells #[.int .i64 0, .int .i64 4, .int .i64 1, .int .i64 3] 82)) := (Below.refl _ _).alloc (Nat.le_refl _) _
 refine Ln Ea J fun _ Eb => ?_; clear J K' Ea
 refine M2 Eb 29 30 fun K' J ρ q29 q30 => ?_; go_simp
 refine Ln Eb J fun _ Ea => ?_; clear J K' Eb q29 q30
 refine M2 Ea 28 31 fun K' J ρ q28 q31 => ?_; go_simp; (try go_bits); (try clear q28 q31)
 go_at_call 10; refine (wIs (hM2.below ((Below.refl _ _).alloc (Nat.le_refl _) _)) ((arr_new u2 _ _).more (by simp))).mono ?_; rintro e w6 ⟨rfl, h2⟩
 (try clear r28 r31)
 refine Ln Ea J fun _ Eb => ?_; clear J K' Ea
 refine M1 Eb 32 fun K' J ρ q32 => ?_; go_simp
 refine Ln Eb J fun _ Ea => ?_; clear J K' Eb q32
 refine M1 Ea 27 fun K' J ρ q27 => ?_; go_simp
 refine Ln Ea J fun _ Eb => ?_; clear J K' Ea q27
 refine M1 Eb 27 fun K' J ρ q27 => ?_; go_simp
 refine Ln Eb J fun _ Ea => ?_; clear J K' Eb q27
 refine M1 Ea 33 fun K' J ρ q33 => ?_; go_simp
 refine Ln Ea J fun _ Eb => ?_; clear J K' Ea q33
 refine M1 Eb 34 fun K' J ρ q34 => ?_; go_simp
 refine Ln Eb J fun _ Ea => ?_; clear J K' Eb q34
 refine Ld [1, 2, 3, 4, 5, 6] Ea hK fun a hE => ?_; clear hK K Q' Ea
 replace hb := hb.trans ((hk.trans ((((Below.refl u2.heap.size u2).alloc (Nat.le_refl _) _).trans (h2.mono (by simp))).mono hk.size)).mono hb.size)
 clear hM hM2 hA2 h1 k1 k2 hk h2
 refine Ks ?_
 refine Rs 7 fun Q' K hK => ?_
 refine M0 fun K' J ρ => ?_; go_simp; (try go_bits);
 go_at_call 47; refine (books_any 1 _).mono ?_; rintro e w7 ⟨⟨A, L, rfl, hM⟩, h1⟩
 refine Ln hE J fun _ Eb => ?_; clear J K' hE a
 refine M1 Eb 36 fun K' J ρ q36 => ?_; go_simp; (try go_bits); (try clear q36)
 go_at_call 12; refine (wTruths hM).mono ?_; rintro e w8 ⟨rfl, h2⟩
 (try clear r36)
 refine Ln Eb J fun _ Ea => ?_; clear J K' Eb
 refine M1 Ea 37 fun K' J ρ q37 => ?_; go_simp
 refine Ln Ea J fun _ Eb => ?_; clear J K' Ea q37
 refine M1 Eb 35 fun K' J ρ q35 => ?_; go_simp
 refine Ln Eb J fun _ Ea => ?_; clear J K' Eb q35
 refine M1 Ea 35 fun K' J ρ q35 => ?_; go_simp
 refine Ln Ea J fun _ Eb => ?_; clear J K' Ea q35
 refine M1 Eb 38 fun K' J ρ q38 => ?_; go_simp
 refine Ln Eb J fun _ Ea => ?_; clear J K' Eb q38
 refine M1 Ea 39 fun K' J ρ q39 => ?_; go_simp
 refine Ln Ea J fun _ Eb => ?_; clear J K' Ea q39
 refine Ld [1, 2, 3, 4, 5, 6, 7, 8] Eb hK fun a hE => ?_; clear hK K Q' Eb
 replace hb := hb.trans ((h1.trans (h2.mono h1.size)).mono hb.size)
 clear hM h1 h2
 refine Ks ?_
 refine Rs 30 fun Q' K hK => ?_
 refine M1 hE 2 fun K' J ρ q2 => ?_; go_simp
 refine Ln hE J fun _ Eb => ?_; clear J K' hE a q2
 refine M1 Eb 40 fun K' J ρ q40 => ?_; go_simp; (try go_bits)
 refine Ln Eb J fun _ Ea => ?_; clear J K' Eb q40
 refine M1 Ea 41 fun K' J ρ q41 => ?_; go_simp
 refine Ln Ea J fun _ Eb => ?_; clear J K' Ea q41
 refine N1 Eb 42 4 fun K' J ρ q4 => ?_; go_simp
 refine Ln Eb J fun _ Ea => ?_; clear J K' Eb q4
 refine N1 Ea 42 43 fun K' J ρ q43 => ?_; go_simp; (try go_bits)
 refine Ln Ea J fun _ Eb => ?_; clear J K' Ea q43
 refine M2 Eb 42 44 fun K' J ρ q42 q44 => ?_; go_simp; (try go_bits)
 refine Ln Eb J fun _ Ea => ?_; clear J K' Eb q42 q44
 refine M1 Ea 45 fun K' J ρ q45 => ?_; go_simp
 refine Ln Ea J fun _ Eb => ?_; clear J K' Ea q45
 refine N1 Eb 46 6 fun K' J ρ q6 => ?_; go_simp
 refine Ln Eb J fun _ Ea => ?_; clear J K' Eb q6
 refine N1 Ea 46 47 fun K' J ρ q47 => ?_; go_simp; (try go_bits)
 refine Ln Ea J fun _ Eb => ?_; clear J K' Ea q47
 refine M2 Eb 46 48 fun K' J ρ q46 q48 => ?_; go_simp; (try go_bits)
 refine Ln Eb J fun _ Ea => ?_; clear J K' Eb q46 q48
 refine M1 Ea 49 fun K' J ρ q49 => ?_; go_simp
 refine Ln Ea J fun _ Eb => ?_; clear J K' Ea q49
 refine N1 Eb 50 8 fun K' J ρ q8 => ?_; go_simp
 refine Ln Eb J fun _ Ea => ?_; clear J K' Eb q8
 refine N1 Ea 50 51 fun K' J ρ q51 => ?_; go_simp; (try go_bits)
 refine Ln Ea J fun _ Eb => ?_; clear J K' Ea q51
 refine M2 Eb 50 52 fun K' J ρ q50 q52 => ?_; go_simp; (try go_bits)
 refine Ln Eb J fun _ Ea => ?_; clear J K' Eb q50 q52
 refine M1 Ea 53 fun K' J ρ q53 => ?_; go_simp
 refine Ln Ea J fun _ Eb => ?_; clear J K' Ea q53
 refine N1 Eb 54 1 fun K' J ρ q1 => ?_; go_simp
 refine Ln Eb J fun _ Ea => ?_; clear J K' Eb q1
 refine N1 Ea 54 55 fun K' J ρ q55 => ?_; go_simp; (try go_bits)
 refine Ln Ea J fun _ Eb => ?_; clear J K' Ea q55
 refine M2 Eb 54 56 fun K' J ρ q54 q56 => ?_; go_simp; (try go_bits)
 refine Ln Eb J fun _ Ea => ?_; clear J K' Eb q54 q56
 refine M1 Ea 57 fun K' J ρ q57 => ?_; go_simp
 refine Ln Ea J fun _ Eb => ?_; clear J K' Ea q57
 refine N1 Eb 58 3 fun K' J ρ q3 => ?_; go_simp
 refine Ln Eb J fun _ Ea => ?_; clear J K' Eb q3
 refine N1 Ea 58 59 fun K' J ρ q59 => ?_; go_simp; (try go_bits); (try simp (disch := omega) only [IntWalk.i64_in])
 refine Ln Ea J fun _ Eb => ?_; clear J K' Ea q59
 refine M2 Eb 58 60 fun K' J ρ q58 q60 => ?_; go_simp; (try go_bits)
 refine Ln Eb J fun _ Ea => ?_; clear J K' Eb q58 q60
 refine M1 Ea 61 fun K' J ρ q61 => ?_; go_simp
 refine Ln Ea J fun _ Eb => ?_; clear J K' Ea q61
 refine N1 Eb 62 5 fun K' J ρ q5 => ?_; go_simp
 refine Ln Eb J fun _ Ea => ?_; clear J K' Eb q5
 refine N1 Ea 62 63 fun K' J ρ q63 => ?_; go_simp; (try go_bits); (try simp (disch := omega) only [IntWalk.i64_in])
 refine Ln Ea J fun _ Eb => ?_; clear J K' Ea q63
 refine M2 Eb 62 64 fun K' J ρ q62 q64 => ?_; go_simp; (try go_bits)
 refine Ln Eb J fun _ Ea => ?_; clear J K' Eb q62 q64
 refine M1 Ea 65 fun K' J ρ q65 => ?_; go_simp
 refine Ln Ea J fun _ Eb => ?_; clear J K' Ea q65
 refine N1 Eb 66 7 fun K' J ρ q7 => ?_; go_simp
 refine Ln Eb J fun _ Ea => ?_; clear J K' Eb q7
 refine N1 Ea 66 67 fun K' J ρ q67 => ?_; go_simp; (try go_bits)
 refine Ln Ea J fun _ Eb => ?_; clear J K' Ea q67
 refine M2 Eb 66 68 fun K' J ρ q66 q68 => ?_; go_simp; (try go_bits)
 refine Ln Eb J fun _ Ea => ?_; clear J K' Eb q66 q68
 refine Ld [69] Ea hK fun a hE => ?_; clear hK K Q' Ea
 refine Ks ?_
 refine cond_no hE (t := 69) rfl ?_
 refine Ks ?_
 refine Rs 7 fun Q' K hK => ?_
 refine M0 fun K' J ρ => ?_; go_simp; (try go_bits);
 go_at_call 47; refine (books_any 1 _).mono ?_; rintro e w9 ⟨⟨A, L, rfl, hM⟩, h1⟩
 refine Ln hE J fun _ Eb => ?_; clear J K' hE a
 refine M1 Eb 71 fun K' J ρ q71 => ?_; go_simp; (try go_bits); (try clear q71)
 go_at_call 15; refine (wKind hM).mono ?_; rintro e w10 ⟨rfl, h2⟩
 (try clear r71)
 refine Ln Eb J fun _ Ea => ?_; clear J K' Eb
 refine M1 Ea 72 fun K' J ρ q72 => ?_; go_simp
 refine Ln Ea J fun _ Eb => ?_; clear J K' Ea q72
 refine M1 Eb 70 fun K' J ρ q70 => ?_; go_simp
 refine Ln Eb J fun _ Ea => ?_; clear J K' Eb q70
 refine M1 Ea 70 fun K' J ρ q70 => ?_; go_simp
 refine Ln Ea J fun _ Eb => ?_; clear J K' Ea q70
 refine M1 Eb 73 fun K' J ρ q73 => ?_; go_simp
 refine Ln Eb J fun _ Ea => ?_; clear J K' Eb q73
 refine M1 Ea 74 fun K' J ρ q74 => ?_; go_simp
 refine Ln Ea J fun _ Eb => ?_; clear J K' Ea q74
 refine Ld [2, 9] Eb hK fun a hE => ?_; clear hK K Q' Eb
 replace hb := hb.trans ((h1.trans (h2.mono h1.size)).mono hb.size)
 clear hM h1 h2
 refine Ks ?_
 refine Rs 7 fun Q' K hK => ?_
 refine M0 fun K' J ρ => ?_; go_simp; (try go_bits);
 go_at_call 47; refine (books_any 1 _).mono ?_; rintro e w11 ⟨⟨A, L, rfl, hM⟩, h1⟩
 refine Ln hE J fun _ Eb => ?_; clear J K' hE a
 refine M1 Eb 76 fun K' J ρ q76 => ?_; go_simp; (try go_bits); (try clear q76)
 go_at_call 17; refine (wJoined hM).mono ?_; rintro e w12 ⟨⟨T, c, rfl, hT⟩, h2⟩
 (try clear r76)
 refine Ln Eb J fun _ Ea => ?_; clear J K' Eb
 refine M1 Ea 77 fun K' J ρ q77 => ?_; go_simp
 refine Ln Ea J fun _ Eb => ?_; clear J K' Ea q77
 refine M1 Eb 75 fun K' J ρ q75 => ?_; go_simp
 refine Ln Eb J fun _ Ea => ?_; clear J K' Eb q75
 refine M1 Ea 75 fun K' J ρ q75 => ?_; go_simp
 refine Ln Ea J fun _ Eb => ?_; clear J K' Ea q75
 refine M1 Eb 78 fun K' J ρ q78 => ?_; go_simp
 refine Ln Eb J fun _ Ea => ?_; clear J K' Eb q78
 refine M1 Ea 79 fun K' J ρ q79 => ?_; go_simp
 refine Ln Ea J fun _ Eb => ?_; clear J K' Ea q79
 refine Ld [2, 4, 9, 10] Eb hK fun a hE => ?_; clear hK K Q' Eb
 replace hb := hb.trans ((h1.trans (h2.mono h1.size)).mono hb.size)
 clear hM h1 h2
 refine Ks ?_
 refine Rs 8 fun Q' K hK => ?_
 refine M0 fun K' J ρ => ?_; go_simp; (try go_bits);
 go_at_call 47; refine (books_any 5 _).mono ?_; rintro e w13 ⟨⟨A, L, rfl, hM⟩, h1⟩
 refine Ln hE J fun _ Eb => ?_; clear J K' hE a
 refine M1 Eb 81 fun K' J ρ q81 => ?_; go_simp; (try go_bits); (try clear q81)
 go_at_call 20; refine (wPeople hM).mono ?_; rintro e w14 ⟨rfl, h2⟩
 (try clear r81)
 refine Ln Eb J fun _ Ea => ?_; clear J K' Eb
 refine M1 Ea 82 fun K' J ρ q82 => ?_; go_simp
 refine Ln Ea J fun _ Eb => ?_; clear J K' Ea q82
 refine M1 Eb 80 fun K' J ρ q80 => ?_; go_simp
 refine Ln Eb J fun _ Ea => ?_; clear J K' Eb q80
 refine M1 Ea 80 fun K' J ρ q80 => ?_; go_simp
 refine Ln Ea J fun _ Eb => ?_; clear J K' Ea q80
 refine M0 fun K' J ρ => ?_; go_simp;
 refine Ln Eb J fun _ Ea => ?_; clear J K' Eb
 refine M2 Ea 11 83 fun K' J ρ q11 q83 => ?_; go_simp; (try clear q11 q83)
 refine late_skip Ea J (fun _ Eb => ?_); clear J K'; clear Ea
 refine M1 Eb 84 fun K' J ρ q84 => ?_; go_simp
 refine Ln Eb J fun _ Ea => ?_; clear J K' Eb q84
 refine Ld [2, 4, 6, 9, 10, 11] Ea hK fun a hE => ?_; clear hK K Q' Ea
 obtain ⟨S, hSe⟩ : ∃ B, B = w14.heap.size := ⟨_, rfl⟩; rw [← hSe] at hE; refine world_cut (fun wt => Below w14.heap.size w14 wt ∧ Cells wt S [.int .i64 3, .int .i64 5]) ⟨(Below.refl _ _).alloc (Nat.le_refl _) _, by rw [hSe]; exact cells_new _ _ _⟩ (fun w15 hCut => ?_); obtain ⟨hbw15, hCS⟩ := hCut; clear hSe
 replace hb := hb.trans ((h1.trans ((h2.trans (hbw15.mono h2.size)).mono h1.size)).mono hb.size)
 replace hT := (hT.below (h1.trans ((h2.trans (hbw15.mono h2.size)).mono h1.size))).more (h1.trans ((h2.trans (hbw15.mono h2.size)).mono h1.size)).size
 clear hM h1 h2 hbw15
 refine Ks ?_
 refine Rs 7 fun Q' K hK => ?_
 refine M0 fun K' J ρ => ?_; go_simp; (try go_bits);
 go_at_call 47; refine (books_any 0 _).mono ?_; rintro e w16 ⟨⟨A, L, rfl, hM⟩, h1⟩
 refine Ln hE J fun _ Eb => ?_; clear J K' hE a
 refine M1 Eb 86 fun K' J ρ q86 => ?_; go_simp; (try go_bits); (try clear q86)
 go_at_call 22; refine (wWrong hM).mono ?_; rintro e w17 ⟨⟨D, d, rfl, hD⟩, h2⟩
 (try clear r86)
 refine Ln Eb J fun _ Ea => ?_; clear J K' Eb
 refine M1 Ea 87 fun K' J ρ q87 => ?_; go_simp
 refine Ln Ea J fun _ Eb => ?_; clear J K' Ea q87
 refine M1 Eb 85 fun K' J ρ q85 => ?_; go_simp
 refine Ln Eb J fun _ Ea => ?_; clear J K' Eb q85
 refine M1 Ea 85 fun K' J ρ q85 => ?_; go_simp
 refine Ln Ea J fun _ Eb => ?_; clear J K' Ea q85
 refine M1 Eb 88 fun K' J ρ q88 => ?_; go_simp
 refine Ln Eb J fun _ Ea => ?_; clear J K' Eb q88
 refine M1 Ea 89 fun K' J ρ q89 => ?_; go_simp
 refine Ln Ea J fun _ Eb => ?_; clear J K' Ea q89
 refine Ld [2, 4, 6, 8, 9, 10, 11, 12] Eb hK fun a hE => ?_; clear hK K Q' Eb
 have h12 := h1.trans (h2.mono h1.size)
 replace hb := hb.trans (h12.mono hb.size)
 replace hT := (hT.below h12).more h12.size
 replace hCS := hCS.below h12
 clear hM h1 h2 h12
 refine Ks ?_
 refine Rs 7 fun Q' K hK => ?_
 refine M0 fun K' J ρ => ?_; go_simp; (try go_bits);
 go_at_call 47; refine (books_any 0 _).mono ?_; rintro e w18 ⟨⟨A, L, rfl, hM⟩, h1⟩
 refine Ln hE J fun _ Eb => ?_; clear J K' hE a
 refine M1 Eb 91 fun K' J ρ q91 => ?_; go_simp; (try go_bits); (try clear q91)
 go_at_call 25; refine (wAsk0 hM).mono ?_; rintro e w19 ⟨rfl, h2⟩
 (try clear r91)
 refine Ln Eb J fun _ Ea => ?_; clear J K' Eb
 refine M1 Ea 92 fun K' J ρ q92 => ?_; go_simp
 refine Ln Ea J fun _ Eb => ?_; clear J K' Ea q92
 refine M1 Eb 90 fun K' J ρ q90 => ?_; go_simp
 refine Ln Eb J fun _ Ea => ?_; clear J K' Eb q90
 refine M1 Ea 90 fun K' J ρ q90 => ?_; go_simp
 refine Ln Ea J fun _ Eb => ?_; clear J K' Ea q90
 refine M1 Eb 93 fun K' J ρ q93 => ?_; go_simp
 refine Ln Eb J fun _ Ea => ?_; clear J K' Eb q93
 refine M1 Ea 94 fun K' J ρ q94 => ?_; go_simp
 refine Ln Ea J fun _ Eb => ?_; clear J K' Ea q94
 refine Ld [2, 4, 6, 8, 9, 10, 11, 12, 14] Eb hK fun a hE => ?_; clear hK K Q' Eb
 have h12 := h1.trans (h2.mono h1.size)
 replace hb := hb.trans (h12.mono hb.size)
 replace hT := (hT.below h12).more h12.size
 replace hCS := hCS.below h12
 replace hD := (hD.below h12).more h12.size
 clear hM h1 h2 h12
 refine Ks ?_
 refine Rs 7 fun Q' K hK => ?_
 refine M0 fun K' J ρ => ?_; go_simp; (try go_bits);
 go_at_call 47; refine (books_any 5 _).mono ?_; rintro e w20 ⟨⟨A, L, rfl, hM⟩, h1⟩
 refine Ln hE J fun _ Eb => ?_; clear J K' hE a
 refine M1 Eb 96 fun K' J ρ q96 => ?_; go_simp; (try go_bits); (try clear q96)
 go_at_call 25; refine (wAsk5 hM).mono ?_; rintro e w21 ⟨rfl, h2⟩
 (try clear r96)
 refine Ln Eb J fun _ Ea => ?_; clear J K' Eb
 refine M1 Ea 97 fun K' J ρ q97 => ?_; go_simp
 refine Ln Ea J fun _ Eb => ?_; clear J K' Ea q97
 refine M1 Eb 95 fun K' J ρ q95 => ?_; go_simp
 refine Ln Eb J fun _ Ea => ?_; clear J K' Eb q95
 refine M1 Ea 95 fun K' J ρ q95 => ?_; go_simp
 refine Ln Ea J fun _ Eb => ?_; clear J K' Ea q95
 refine M1 Eb 98 fun K' J ρ q98 => ?_; go_simp
 refine Ln Eb J fun _ Ea => ?_; clear J K' Eb q98
 refine M1 Ea 99 fun K' J ρ q99 => ?_; go_simp
 refine Ln Ea J fun _ Eb => ?_; clear J K' Ea q99
 refine Ld [2, 4, 6, 8, 9, 10, 11, 12, 14, 15, 16] Eb hK fun a hE => ?_; clear hK K Q' Eb
 have h12 := h1.trans (h2.mono h1.size)
 replace hb := hb.trans (h12.mono hb.size)
 replace hT := (hT.below h12).more h12.size
 replace hCS := hCS.below h12
 replace hD := (hD.below h12).more h12.size
 clear hM h1 h2 h12
 refine Ks ?_
 obtain ⟨nS, cS0, cS1⟩ := hCS.c2
 obtain ⟨bt, ot, rfl, hbt, hct⟩ := hT (by simp)
 have ct0 := hct 0 _ rfl
 have ct1 := hct 1 _ rfl
 simp only [Nat.add_zero] at ct0
 refine Rd [52] (fun wt => Below w21.heap.size w21 wt) (fun w1 w2 => Below w1.heap.size w1 w2) [(0, some 100), (1, some 101), (2, some 102), (3, some 103), (4, some 104), (5, some 105), (6, some 106), (7, some 107), (8, some 108), (9, some 109), (10, some 110), (11, some 111), (12, some 112), (13, some 113), (14, some 114), (15, some 115), (16, some 116), (17, some 117), (18, some 118), (19, some 119), (20, some 120), (21, some 121), (22, some 122), (23, some 123), (24, some 124), (25, some 125), (26, some 126), (27, some 127), (28, some 128), (29, some 129), (30, some 130), (31, some 131), (32, some 132), (33, some 133), (34, some 134), (35, some 135), (36, some 136), (37, some 137), (38, some 138), (39, some 139), (40, some 140), (41, some 141), (42, some 142), (43, some 143), (44, some 144), (45, some 145), (46, some 146), (47, some 147), (48, some 148), (49, some 149), (50, some 150), (51, some 151)] [100, 101, 102, 103, 104, 105, 106, 107, 108, 109, 110, 111, 112, 113, 114, 115, 116, 117, 118, 119, 120, 121, 122, 123, 124, 125, 126, 127, 128, 129, 130, 131, 132, 133, 134, 135, 136, 137, 138, 139, 140, 141, 142, 143, 144, 145, 146, 147, 148, 149, 150, 151] #[true, true, true, true, true, true, true, true, true, true, true, true, true, true, true, true, true, true, true, true, true, true, true, true, true, true, true, true, true, true, true, true, true, true, true, true, true, true, true, true, true, true, true, true, true, true, true, true, true, true, true, true, false] [0] hE ((Below.refl _ _).drew) fun Q' K hK => ?_
 refine SeqOps.val ?_ (Sp fun ax wx hS hT' hd K' J => ?_) ?_; rotate_left 1
 ·have r2 := hS.at 2 (by decide) (hE.at 2 rfl); obtain ⟨_, _, _, _, _, _⟩ := bT hT'
  refine o1 r2 fun ρ q2 => ?_; go_simp;
  exact Jo J hT'
 refine SeqOps.val ?_ (Sp fun ax wx hS hT' hd K' J => ?_) ?_; rotate_left 1
 ·have r100 := Tv hd 0 0 100; obtain ⟨_, _, _, _, _, _⟩ := bT hT'
  refine o1 r100 fun ρ q100 => ?_; go_simp; (try go_bits);
  exact Jo J hT'
 refine SeqOps.val ?_ (Sp fun ax wx hS hT' hd K' J => ?_) ?_; rotate_left 1
 ·have r101 := Tv hd 0 1 101; obtain ⟨_, _, _, _, _, _⟩ := bT hT'
  refine o1 r101 fun ρ q101 => ?_; go_simp;
  exact Jo J hT'
 refine SeqOps.val ?_ (Sy 0 102 fun ax wx hS hT' hd K' J => ?_) ?_; rotate_left 1
 ·have r4 := hS.at 4 (by decide) (hE.at 4 rfl); obtain ⟨_, _, _, _, _, _⟩ := bT hT'
  refine o1 r4 fun ρ q4 => ?_; go_simp;
  exact Jo J hT'
 refine SeqOps.val ?_ (Sy 1 102 fun ax wx hS hT' hd K' J => ?_) ?_; rotate_left 1
 ·have r103 := Tv hd 0 3 103; obtain ⟨_, _, _, _, _, _⟩ := bT hT'
  refine o1 r103 fun ρ q103 => ?_; go_simp; (try go_bits);
  exact Jo J hT'
 refine SeqOps.val ?_ (Sp fun ax wx hS hT' hd K' J => ?_) ?_; rotate_left 1
 ·have r102 := Tv hd 2 2 102; have r104 := Tv hd 0 4 104; obtain ⟨_, _, _, _, _, _⟩ := bT hT'
  refine o2 r102 r104 fun ρ q102 q104 => ?_; go_simp; (try go_bits);
  exact Jo J hT'
 refine SeqOps.val ?_ (Sp fun ax wx hS hT' hd K' J => ?_) ?_; rotate_left 1
 ·have r105 := Tv hd 0 5 105; obtain ⟨_, _, _, _, _, _⟩ := bT hT'
  refine o1 r105 fun ρ q105 => ?_; go_simp;
  exact Jo J hT'
 refine SeqOps.val ?_ (Sy 0 106 fun ax wx hS hT' hd K' J => ?_) ?_; rotate_left 1
 ·have r6 := hS.at 6 (by decide) (hE.at 6 rfl); obtain ⟨_, _, _, _, _, _⟩ := bT hT'
  refine o1 r6 fun ρ q6 => ?_; go_simp;
  exact Jo J hT'
 refine SeqOps.val ?_ (Sy 1 106 fun ax wx hS hT' hd K' J => ?_) ?_; rotate_left 1
 ·have r107 := Tv hd 0 7 107; obtain ⟨_, _, _, _, _, _⟩ := bT hT'
  refine o1 r107 fun ρ q107 => ?_; go_simp; (try go_bits);
  exact Jo J hT'
 refine SeqOps.val ?_ (Sp fun ax wx hS hT' hd K' J => ?_) ?_; rotate_left 1
 ·have r106 := Tv hd 2 6 106; have r108 := Tv hd 0 8 108; obtain ⟨_, _, _, _, _, _⟩ := bT hT'
  refine o2 r106 r108 fun ρ q106 q108 => ?_; go_simp; (try go_bits);
  exact Jo J hT'
 refine SeqOps.val ?_ (Sp fun ax wx hS hT' hd K' J => ?_) ?_; rotate_left 1
 ·have r109 := Tv hd 0 9 109; obtain ⟨_, _, _, _, _, _⟩ := bT hT'
  refine o1 r109 fun ρ q109 => ?_; go_simp;
  exact Jo J hT'
 refine SeqOps.val ?_ (Sy 0 110 fun ax wx hS hT' hd K' J => ?_) ?_; rotate_left 1
 ·have r8 := hS.at 8 (by decide) (hE.at 8 rfl); obtain ⟨_, _, _, _, _, _⟩ := bT hT'
  refine o1 r8 fun ρ q8 => ?_; go_simp;
  exact Jo J hT'
 refine SeqOps.val ?_ (Sy 1 110 fun ax wx hS hT' hd K' J => ?_) ?_; rotate_left 1
 ·have r111 := Tv hd 0 11 111; obtain ⟨_, _, _, _, _, _⟩ := bT hT'
  refine o1 r111 fun ρ q111 => ?_; go_simp; (try go_bits);
  exact Jo J hT'
 refine SeqOps.val ?_ (Sp fun ax wx hS hT' hd K' J => ?_) ?_; rotate_left 1
 ·have r110 := Tv hd 2 10 110; have r112 := Tv hd 0 12 112; obtain ⟨_, _, _, _, _, _⟩ := bT hT'
  refine o2 r110 r112 fun ρ q110 q112 => ?_; go_simp; (try go_bits);
  exact Jo J hT'
 refine SeqOps.val ?_ (Sp fun ax wx hS hT' hd K' J => ?_) ?_; rotate_left 1
 ·have r113 := Tv hd 0 13 113; obtain ⟨_, _, _, _, _, _⟩ := bT hT'
  refine o1 r113 fun ρ q113 => ?_; go_simp;
  exact Jo J hT'
 refine SeqOps.val ?_ (Sy 0 114 fun ax wx hS hT' hd K' J => ?_) ?_; rotate_left 1
 ·have r14 := hS.at 14 (by decide) (hE.at 14 rfl); obtain ⟨_, _, _, _, _, _⟩ := bT hT'
  refine o1 r14 fun ρ q14 => ?_; go_simp;
  exact Jo J hT'
 refine SeqOps.val ?_ (Sy 1 114 fun ax wx hS hT' hd K' J => ?_) ?_; rotate_left 1
 ·have r115 := Tv hd 0 15 115; obtain ⟨_, _, _, _, _, _⟩ := bT hT'
  refine o1 r115 fun ρ q115 => ?_; go_simp; (try go_bits);
  exact Jo J hT'
 refine SeqOps.val ?_ (Sp fun ax wx hS hT' hd K' J => ?_) ?_; rotate_left 1
 ·have r114 := Tv hd 2 14 114; have r116 := Tv hd 0 16 116; obtain ⟨_, _, _, _, _, _⟩ := bT hT'
  refine o2 r114 r116 fun ρ q114 q116 => ?_; go_simp; (try go_bits);
  exact Jo J hT'
 refine SeqOps.val ?_ (Sp fun ax wx hS hT' hd K' J => ?_) ?_; rotate_left 1
 ·have r117 := Tv hd 0 17 117; obtain ⟨_, _, _, _, _, _⟩ := bT hT'
  refine o1 r117 fun ρ q117 => ?_; go_simp;
  exact Jo J hT'
 refine SeqOps.val ?_ (Sy 0 118 fun ax wx hS hT' hd K' J => ?_) ?_; rotate_left 1
 ·have r16 := hS.at 16 (by decide) (hE.at 16 rfl); obtain ⟨_, _, _, _, _, _⟩ := bT hT'
  refine o1 r16 fun ρ q16 => ?_; go_simp;
  exact Jo J hT'
 refine SeqOps.val ?_ (Sy 1 118 fun ax wx hS hT' hd K' J => ?_) ?_; rotate_left 1
 ·have r119 := Tv hd 0 19 119; obtain ⟨_, _, _, _, _, _⟩ := bT hT'
  refine o1 r119 fun ρ q119 => ?_; go_simp; (try go_bits);
  exact Jo J hT'
 refine SeqOps.val ?_ (Sp fun ax wx hS hT' hd K' J => ?_) ?_; rotate_left 1
 ·have r118 := Tv hd 2 18 118; have r120 := Tv hd 0 20 120; obtain ⟨_, _, _, _, _, _⟩ := bT hT'
  refine o2 r118 r120 fun ρ q118 q120 => ?_; go_simp; (try go_bits);
  exact Jo J hT'
 refine SeqOps.val ?_ (Sp fun ax wx hS hT' hd K' J => ?_) ?_; rotate_left 1
 ·have r121 := Tv hd 0 21 121; obtain ⟨_, _, _, _, _, _⟩ := bT hT'
  refine o1 r121 fun ρ q121 => ?_; go_simp;
  exact Jo J hT'
 refine SeqOps.val ?_ (Sy 0 122 fun ax wx hS hT' hd K' J => ?_) ?_; rotate_left 1
 ·have r9 := hS.at 9 (by decide) (hE.at 9 rfl); obtain ⟨_, _, _, _, _, _⟩ := bT hT'
  refine o1 r9 fun ρ q9 => ?_; go_simp;
  exact Jo J hT'
 refine SeqOps.val ?_ (Sy 1 122 fun ax wx hS hT' hd K' J => ?_) ?_; rotate_left 1
 ·have r123 := Tv hd 0 23 123; obtain ⟨_, _, _, _, _, _⟩ := bT hT'
  refine o1 r123 fun ρ q123 => ?_; go_simp; (try go_bits);
  exact Jo J hT'
 refine SeqOps.val ?_ (Sp fun ax wx hS hT' hd K' J => ?_) ?_; rotate_left 1
 ·have r122 := Tv hd 2 22 122; have r124 := Tv hd 0 24 124; obtain ⟨_, _, _, _, _, _⟩ := bT hT'
  refine o2 r122 r124 fun ρ q122 q124 => ?_; go_simp; (try go_bits);
  exact Jo J hT'
 refine SeqOps.val ?_ (Sp fun ax wx hS hT' hd K' J => ?_) ?_; rotate_left 1
 ·have r125 := Tv hd 0 25 125; obtain ⟨_, _, _, _, _, _⟩ := bT hT'
  refine o1 r125 fun ρ q125 => ?_; go_simp;
  exact Jo J hT'
 refine SeqOps.val ?_ (Sy 0 126 fun ax wx hS hT' hd K' J => ?_) ?_; rotate_left 1
 ·have r10 := hS.at 10 (by decide) (hE.at 10 rfl); obtain ⟨_, _, _, _, _, _⟩ := bT hT'
  refine o1 r10 fun ρ q10 => ?_; go_simp;
  exact Jo J hT'
 refine SeqOps.val ?_ (Sy 1 126 fun ax wx hS hT' hd K' J => ?_) ?_; rotate_left 1
 ·have r127 := Tv hd 0 27 127; obtain ⟨_, _, _, _, _, _⟩ := bT hT'
  refine o1 r127 fun ρ q127 => ?_; go_simp; (try go_bits);
  exact Jo J hT'
 refine SeqOps.val ?_ (Sy 2 126 fun ax wx hS hT' hd K' J => ?_) ?_; rotate_left 1
 ·have r128 := Tv hd 0 28 128; obtain ⟨_, _, _, _, _, _⟩ := bT hT'
  refine o1 r128 fun ρ q128 => ?_; go_simp; (try go_bits);
  exact Jo J hT'
 refine SeqOps.val ?_ (Sp fun ax wx hS hT' hd K' J => ?_) ?_; rotate_left 1
 ·have r126 := Tv hd 3 26 126; have r129 := Tv hd 0 29 129; obtain ⟨_, _, _, _, _, _⟩ := bT hT'
  refine o2 r126 r129 fun ρ q126 q129 => ?_; go_simp; (try go_bits);
  exact Jo J hT'
 refine SeqOps.val ?_ (Sp fun ax wx hS hT' hd K' J => ?_) ?_; rotate_left 1
 ·have r130 := Tv hd 0 30 130; obtain ⟨_, _, _, _, _, _⟩ := bT hT'
  refine o1 r130 fun ρ q130 => ?_; go_simp;
  exact Jo J hT'
 refine SeqOps.val ?_ (Sy 0 131 fun ax wx hS hT' hd K' J => ?_) ?_; rotate_left 1
 ·have r10 := hS.at 10 (by decide) (hE.at 10 rfl); obtain ⟨_, _, _, _, _, _⟩ := bT hT'
  refine o1 r10 fun ρ q10 => ?_; go_simp;
  exact Jo J hT'
 refine SeqOps.val ?_ (Sy 1 131 fun ax wx hS hT' hd K' J => ?_) ?_; rotate_left 1
 ·have r132 := Tv hd 0 32 132; obtain ⟨_, _, _, _, _, _⟩ := bT hT'
  refine o1 r132 fun ρ q132 => ?_; go_simp; (try go_bits);
  exact Jo J hT'
 refine SeqOps.val ?_ (Sy 2 131 fun ax wx hS hT' hd K' J => ?_) ?_; rotate_left 1
 ·have r133 := Tv hd 0 33 133; obtain ⟨_, _, _, _, _, _⟩ := bT hT'
  refine o1 r133 fun ρ q133 => ?_; go_simp;
  exact Jo J hT'
 refine SeqOps.val ?_ (Sy 3 131 fun ax wx hS hT' hd K' J => ?_) ?_; rotate_left 1
 ·obtain ⟨_, _, _, _, _, _⟩ := bT hT'
  refine o0 fun ρ => ?_; go_simp; (try go_bits);
  go_at_call 48; refine (lpair_any _ _ _).mono ?_; rintro e g1 ⟨rfl, k1⟩
  refine J.out _ _ _ rfl ?_ (hT'.trans (k1.mono hT'.size)) k1; rfl
 refine SeqOps.val ?_ (Sy 4 131 fun ax wx hS hT' hd K' J => ?_) ?_; rotate_left 1
 ·have r134 := Tv hd 1 34 134; have r135 := Tv hd 0 35 135; obtain ⟨_, _, _, _, _, _⟩ := bT hT'
  refine o2 r134 r135 fun ρ q134 q135 => ?_; go_simp; (try go_bits);
  exact Jo J hT'
 refine SeqOps.val ?_ (Sp fun ax wx hS hT' hd K' J => ?_) ?_; rotate_left 1
 ·have r131 := Tv hd 5 31 131; have r136 := Tv hd 0 36 136; obtain ⟨_, _, _, _, _, _⟩ := bT hT'
  refine o2 r131 r136 fun ρ q131 q136 => ?_; go_simp; (try go_bits);
  exact Jo J hT'
 refine SeqOps.val ?_ (Sp fun ax wx hS hT' hd K' J => ?_) ?_; rotate_left 1
 ·have r137 := Tv hd 0 37 137; obtain ⟨_, _, _, _, _, _⟩ := bT hT'
  refine o1 r137 fun ρ q137 => ?_; go_simp;
  exact Jo J hT'
 refine SeqOps.val ?_ (Sy 0 138 fun ax wx hS hT' hd K' J => ?_) ?_; rotate_left 1
 ·have r11 := hS.at 11 (by decide) (hE.at 11 rfl); obtain ⟨_, _, _, _, _, _⟩ := bT hT'
  refine o1 r11 fun ρ q11 => ?_; go_simp;
  exact Jo J hT'
 refine SeqOps.val ?_ (Sy 1 138 fun ax wx hS hT' hd K' J => ?_) ?_; rotate_left 1
 ·obtain ⟨_, _, _, _, _, _⟩ := bT hT'
  refine o0 fun ρ => ?_; go_simp; (try go_bits);
  go_at_call 49; refine (to_any _ _ _).mono ?_; rintro e g1 ⟨rfl, k1⟩
  refine J.out _ _ _ rfl ?_ (hT'.trans (k1.mono hT'.size)) k1; rfl
 refine SeqOps.val ?_ (Sy 2 138 fun ax wx hS hT' hd K' J => ?_) ?_; rotate_left 1
 ·have r139 := Tv hd 1 39 139; have r140 := Tv hd 0 40 140; obtain ⟨_, _, _, _, _, _⟩ := bT hT'
  refine o2 r139 r140 fun ρ q139 q140 => ?_; go_simp; (try go_bits);
  exact Jo J hT'
 refine SeqOps.val ?_ (Sp fun ax wx hS hT' hd K' J => ?_) ?_; rotate_left 1
 ·have r138 := Tv hd 3 38 138; have r141 := Tv hd 0 41 141; obtain ⟨_, _, _, _, _, _⟩ := bT hT'
  refine o2 r138 r141 fun ρ q138 q141 => ?_; go_simp; (try go_bits);
  exact Jo J hT'
 refine SeqOps.val ?_ (Sp fun ax wx hS hT' hd K' J => ?_) ?_; rotate_left 1
 ·have r142 := Tv hd 0 42 142; obtain ⟨_, _, _, _, _, _⟩ := bT hT'
  refine o1 r142 fun ρ q142 => ?_; go_simp;
  exact Jo J hT'
 refine SeqOps.val ?_ (Sy 0 143 fun ax wx hS hT' hd K' J => ?_) ?_; rotate_left 1
 ·have r12 := hS.at 12 (by decide) (hE.at 12 rfl); obtain ⟨_, _, _, _, _, _⟩ := bT hT'
  refine o1 r12 fun ρ q12 => ?_; go_simp;
  exact Jo J hT'
 refine SeqOps.say (fun v wt => ∃ G, v = .slice (some ⟨G, 0, none⟩) 1 1 ∧ Arr wt wt.heap.size (some ⟨G, 0, none⟩) (ints [2])) (fun _ _ _ hR ⟨G, e, h⟩ => ⟨G, e, (h.below hR).more hR.size⟩) (Sy 1 143 fun ax wx hS hT' hd K' J => ?_) ?_
 ·obtain ⟨_, _, _, _, _, _⟩ := bT hT'
  refine o0 fun ρ => ?_; go_simp;
  refine J.out _ _ _ rfl ⟨_, rfl, (arr_new wx _ _).more (by simp)⟩ (hT'.trans (((Below.refl _ _).alloc (Nat.le_refl _) _).mono hT'.size)) ((Below.refl _ _).alloc (Nat.le_refl _) _)
 refine SeqOps.val ?_ (Sy 2 143 fun ax wx hS hT' hd K' J => ?_) ?_; rotate_left 1
 ·have r144 := Tv hd 1 44 144; obtain ⟨v145, r145, h145⟩ := Tg hd 0 45 145; obtain ⟨G, rfl, hG⟩ := h145; obtain ⟨_, _, _, _, _, _⟩ := bT hT'
  refine o2 r144 r145 fun ρ q144 q145 => ?_; go_simp; (try go_bits);
  go_at_call 24; refine (equalN_any D _ d 1 [2] [2] _ ((hD.below hT').more hT'.size) hG (by decide)).mono ?_; rintro e g1 ⟨rfl, k1⟩
  refine J.out _ _ _ rfl ?_ (hT'.trans (k1.mono hT'.size)) k1; rfl
 refine SeqOps.val ?_ (Sp fun ax wx hS hT' hd K' J => ?_) ?_; rotate_left 1
 ·have r143 := Tv hd 3 43 143; have r146 := Tv hd 0 46 146; obtain ⟨_, _, _, _, _, _⟩ := bT hT'
  refine o2 r143 r146 fun ρ q143 q146 => ?_; go_simp; (try go_bits);
  exact Jo J hT'
 refine SeqOps.val ?_ (Sp fun ax wx hS hT' hd K' J => ?_) ?_; rotate_left 1
 ·have r147 := Tv hd 0 47 147; obtain ⟨_, _, _, _, _, _⟩ := bT hT'
  refine o1 r147 fun ρ q147 => ?_; go_simp;
  exact Jo J hT'
 refine SeqOps.val ?_ (Sy 0 148 fun ax wx hS hT' hd K' J => ?_) ?_; rotate_left 1
 ·have r15 := hS.at 15 (by decide) (hE.at 15 rfl); obtain ⟨_, _, _, _, _, _⟩ := bT hT'
  refine o1 r15 fun ρ q15 => ?_; go_simp;
  exact Jo J hT'
 refine SeqOps.val ?_ (Sy 1 148 fun ax wx hS hT' hd K' J => ?_) ?_; rotate_left 1
 ·have r149 := Tv hd 0 49 149; obtain ⟨_, _, _, _, _, _⟩ := bT hT'
  refine o1 r149 fun ρ q149 => ?_; go_simp; (try go_bits);
  exact Jo J hT'
 refine SeqOps.val ?_ (Sp fun ax wx hS hT' hd K' J => ?_) ?_; rotate_left 1
 ·have r148 := Tv hd 2 48 148; have r150 := Tv hd 0 50 150; obtain ⟨_, _, _, _, _, _⟩ := bT hT'
  refine o2 r148 r150 fun ρ q148 q150 => ?_; go_simp; (try go_bits);
  exact Jo J hT'
 refine SeqOps.nil ?_
 intro w22 hBl; (repeat refine Ek ?_); (refine fun v h => ?_; obtain ⟨G, rfl, hG⟩ := h); (repeat refine Ek ?_)
 refine fun ax hEx => ?_
 simp only [lk, pick, Nat.reduceEqDiff, ↓reduceIte] at hEx
 refine M1 hEx 151 fun K' J ρ q151 => ?_; go_simp
 refine Ln hEx J fun _ Eb => ?_; clear J K' hEx q151
 refine Ld [0] Eb hK fun a hE => ?_; clear hK K Q' Eb
 refine Ks ?_
 exact ret_one hE rfl rfl ⟨rfl, hb.trans (hBl.mono hb.size)⟩
end
end Go.Proofs.YtbimkcjdodgojaaGreat
