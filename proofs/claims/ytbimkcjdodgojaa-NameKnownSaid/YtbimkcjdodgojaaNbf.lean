/- Name: the law's examples. -/
import Derived.Test.YtbimkcjdodgojaaNbe
import Derived.Test.YtbimkcjdodgojaaNy
namespace Go.Proofs.Ytbimkcjdodgojaa
set_option linter.unusedSimpArgs false
set_option linter.unusedVariables false
open Go Go.RowKit
attribute [local go_sem high] cell_set_wr
attribute [local go_sem low] cell_wr frozen_wr
attribute [local go_sem] wr_set wr_drew wr_drewN wr_alloc wr_new

theorem ch_small (n : Int) : (chBk n).small 2 5 := by
 refine ⟨by simp [chBk, chEar], by simp [chBk, chEar], by simp [chBk], by simp [chBk], by simp [chBk, chEar]; decide, ?_⟩
 intro i h
 have h5 : i < 5 := h
 match i, h5 with
 | 0, _ => exact (by decide : (ByteArray.mk #[112, 101, 116, 101, 114]).size ≤ 9223372036854775807)
 | 1, _ => exact (by decide : (ByteArray.mk #[104, 97, 110, 115]).size ≤ 9223372036854775807)
 | 2, _ => exact (by decide : (ByteArray.mk #[98, 101, 116, 101, 114]).size ≤ 9223372036854775807)
 | 3, _ => exact (by decide : (ByteArray.mk #[97, 110, 115]).size ≤ 9223372036854775807)
 | 4, _ => exact (by decide : (ByteArray.mk #[112, 101, 100, 101, 114]).size ≤ 9223372036854775807)
set_option maxRecDepth 100000
theorem v_near : pNearR chEar ⟨#[112, 101, 116, 101, 114]⟩ ⟨#[98, 101, 116, 101, 114]⟩ = (1, 0) := by decide +kernel
theorem v_can : pCanR (chBk 1) 0 4 = (true, 0) := by decide +kernel
theorem v_is : pIsTruthR (chBk 1) [(0, 4), (1, 3)] = (true, 0) := by decide +kernel
theorem v_truths : pTruthsR (chBk 1) = (2, 0) := by decide +kernel
theorem v_kind : pKindR (chBk 1) 0 2 = (1, 0) := by decide +kernel
theorem v_set1 : setE (chBk 1) true = 0 := by decide +kernel
theorem v_joined : pJoinedL (chBk 1) = [(1, 3)] := by decide +kernel
theorem v_set5 : setE (chBk 5) true = 0 := by decide +kernel
theorem v_people : pPeopleR (chBk 5) = (3, 5) := by decide +kernel
theorem v_wrong : pWrongL (chBk 0) = [2] := by decide +kernel
theorem v_bk0 : bkE (chBk 0) = 0 := by decide +kernel
theorem v_ask0 : pAskR (chBk 0) = (0, 22) := by decide +kernel
theorem v_ask5 : pAskR (chBk 5) = (0, 0) := by decide +kernel
section
variable {w : World} {A L : Option Addr}
theorem wNear {G : Nat} (hG : Arr w w.heap.size (some ⟨G, 0, none⟩) (txts chEar.alike)) : Calls Try.prog 11 #[.agg #[.slice (some ⟨G, 0, none⟩) 2 2, .string ⟨#[104]⟩, .int .i64 1], .string ⟨#[112, 101, 116, 101, 114]⟩, .string ⟨#[98, 101, 116, 101, 114]⟩] w fun e w' => e = .returned (.tuple #[.int .i64 1, .int .i64 0]) ∧ Below w.heap.size w w' := by
 have h := pNear_any (some ⟨G, 0, none⟩) 2 chEar.alike ⟨#[104]⟩ 1 ⟨#[112, 101, 116, 101, 114]⟩ ⟨#[98, 101, 116, 101, 114]⟩ w hG (by decide) (by decide) (by decide) (by decide) (by decide)
 have e : pNearR ⟨chEar.alike, ⟨#[104]⟩, 1⟩ ⟨#[112, 101, 116, 101, 114]⟩ ⟨#[98, 101, 116, 101, 114]⟩ = (1, 0) := v_near
 rw [e] at h
 exact h
theorem wCan (hM : BkAt w A L (chBk 1)) : Calls Try.prog 23 #[.agg (bkV A 2 L 5 (chBk 1)).toArray, .int .i64 0, .int .i64 4] w fun e w' => e = .returned (.tuple #[.bool true, .int .i64 0]) ∧ Below w.heap.size w w' := by
 have h := pCan_any A 2 L 5 (chBk 1) 0 4 w hM (ch_small 1)
 rw [v_can] at h
 exact h
theorem wIs (hM : BkAt w A L (chBk 1)) {G : Nat} (hG : Arr w w.heap.size (some ⟨G, 0, none⟩) [.int .i64 0, .int .i64 4, .int .i64 1, .int .i64 3]) : Calls Try.prog 18 #[.agg (bkV A 2 L 5 (chBk 1)).toArray, .slice (some ⟨G, 0, none⟩) 2 2] w fun e w' => e = .returned (.tuple #[.bool true, .int .i64 0]) ∧ Below w.heap.size w w' := by
 have h := pIsTruth_any A 2 L 5 (chBk 1) (some ⟨G, 0, none⟩) 2 [(0, 4), (1, 3)] w hM (ch_small 1) hG (by decide)
 rw [v_is] at h
 exact h
theorem wTruths (hM : BkAt w A L (chBk 1)) : Calls Try.prog 30 #[.agg (bkV A 2 L 5 (chBk 1)).toArray] w fun e w' => e = .returned (.tuple #[.int .i64 2, .int .i64 0]) ∧ Below w.heap.size w w' := by
 have h := pTruths_any A 2 L 5 (chBk 1) w hM (ch_small 1)
 rw [v_truths] at h
 exact h
theorem wKind (hM : BkAt w A L (chBk 1)) : Calls Try.prog 24 #[.agg (bkV A 2 L 5 (chBk 1)).toArray, .int .i64 0, .int .i64 2] w fun e w' => e = .returned (.tuple #[.int .i64 1, .int .i64 0]) ∧ Below w.heap.size w w' := by
 have h := pKind_any A 2 L 5 (chBk 1) 0 2 w hM (ch_small 1)
 rw [v_kind] at h
 exact h
theorem wJoined (hM : BkAt w A L (chBk 1)) : Calls Try.prog 19 #[.agg (bkV A 2 L 5 (chBk 1)).toArray] w fun e w' => (∃ T c, e = .returned (.tuple #[.slice T 1 c, .int .i64 0]) ∧ Arr w' w'.heap.size T [.int .i64 1, .int .i64 3]) ∧ Below w.heap.size w w' := by
 have h := pJoined_any A 2 L 5 (chBk 1) w hM (ch_small 1)
 rw [v_set1, v_joined] at h
 exact h
theorem wPeople (hM : BkAt w A L (chBk 5)) : Calls Try.prog 20 #[.agg (bkV A 2 L 5 (chBk 5)).toArray] w fun e w' => e = .returned (.tuple #[.agg #[.int .i64 3, .int .i64 5], .int .i64 0]) ∧ Below w.heap.size w w' := by
 have h := pPeople_any A 2 L 5 (chBk 5) w hM (ch_small 5)
 rw [v_set5, v_people] at h
 exact h
theorem wWrong (hM : BkAt w A L (chBk 0)) : Calls Try.prog 21 #[.agg (bkV A 2 L 5 (chBk 0)).toArray] w fun e w' => (∃ T c, e = .returned (.tuple #[.slice T 1 c, .int .i64 0]) ∧ Arr w' w'.heap.size T [.int .i64 2]) ∧ Below w.heap.size w w' := by
 have h := pWrong_any A 2 L 5 (chBk 0) w hM (ch_small 0)
 rw [v_wrong, v_bk0] at h
 exact h
theorem wAsk0 (hM : BkAt w A L (chBk 0)) : Calls Try.prog 41 #[.agg (bkV A 2 L 5 (chBk 0)).toArray] w fun e w' => e = .returned (.tuple #[.int .i64 0, .int .i64 22]) ∧ Below w.heap.size w w' := by
 have h := pAsk_any A 2 L 5 (chBk 0) w hM (ch_small 0)
 rw [v_ask0] at h
 exact h
theorem wAsk5 (hM : BkAt w A L (chBk 5)) : Calls Try.prog 41 #[.agg (bkV A 2 L 5 (chBk 5)).toArray] w fun e w' => e = .returned (.tuple #[.int .i64 0, .int .i64 0]) ∧ Below w.heap.size w w' := by
 have h := pAsk_any A 2 L 5 (chBk 5) w hM (ch_small 5)
 rw [v_ask5] at h
 exact h
theorem equalN_any (A B : Option Addr) (n m : Nat) (a b : List Int) (w : World) (hA : Arr w w.heap.size A (ints a)) (hB : Arr w w.heap.size B (ints b)) (hn : a.length ≤ 9223372036854775807) : Calls Try.prog 54 #[.slice A a.length n, .slice B b.length m] w fun e w' => e = .returned (.bool (decide (a = b))) ∧ Below w.heap.size w w' := by
 refine enterE Try.func54 rfl Try.ntmps54 (by simp) (fun a hE => ?_); simp only [envOf, Nat.zero_add, Nat.reduceAdd] at hE
 (repeat with_reducible first|refine ctl ?_|refine miss ?_)
 refine Rs 1 fun Q' K hK => ?_
 refine Lp fun K' J => ?_
 refine op0 fun ρ qc qf qg => ?_; go_simp; (try clear qc qf qg)
 refine Ln hE J fun a_1 E1 => ?_; clear J K' hE a
 refine late_done [0, 1] E1 hK (fun a hE => ?_); clear hK K Q' E1; simp only [lk, pick, Nat.reduceEqDiff, ↓reduceIte] at hE
 (repeat with_reducible first|refine ctl ?_|refine miss ?_)
 refine Rs 4 fun Q' K hK => ?_
 refine Lp fun K' J => op1 (hE.at 0 rfl) fun ρ qc qf qg q0 => ?_; go_simp; (try clear qc qf qg q0)
 refine Ln hE J fun a_1 E1 => ?_; clear J K' hE a
 refine Lp fun K' J => op1 (E1.at 1 rfl) fun ρ qc qf qg q1 => ?_; go_simp; (try clear qc qf qg q1)
 refine Ln E1 J fun a_2 E2 => ?_; clear J K' E1
 refine Lp fun K' J => ?_
 have r5 := E2.at 5 rfl; have r6 := E2.at 6 rfl
 refine op2 r5 r6 fun ρ qc qf qg q5 q6 => ?_; go_simp; (try go_bits); (try clear qc qf qg r5 q5 r6 q6)
 go_at_call 89; refine (bequal_any A B n m a b w hA hB hn).mono ?_; rintro e w1 ⟨rfl, h1⟩
 (try clear r5 r6)
 refine Ln E2 J fun a_3 E3 => ?_; clear J K' E2
 refine Lp fun K' J => op1 (E3.at 7 rfl) fun ρ qc qf qg q7 => ?_; go_simp; (try clear qc qf qg q7)
 refine Ln E3 J fun a_4 E4 => ?_; clear J K' E3
 refine late_done [4] E4 hK (fun a hE => ?_); clear hK K Q' E4; simp only [lk, pick, Nat.reduceEqDiff, ↓reduceIte] at hE
 (repeat with_reducible first|refine ctl ?_|refine miss ?_)
 exact ret_one hE rfl rfl ⟨rfl, h1⟩
set_option maxHeartbeats 4000000 in
theorem written_any (w : World) : Calls Try.prog 15 #[] w fun e w' => e = .returned (.bool true) ∧ Below w.heap.size w w' := by
 refine enterE Try.func15 rfl Try.ntmps15 (by simp) (fun a hE => ?_); simp only [envOf, Nat.zero_add, Nat.reduceAdd] at hE
 (repeat with_reducible first|refine ctl ?_|refine miss ?_)
 refine Rs 1 fun Q' K hK => ?_
 refine Lp fun K' J => ?_
 refine op0 fun ρ qc qf qg => ?_; go_simp; (try clear qc qf qg)
 refine Ln hE J fun a_1 E1 => ?_; clear J K' hE a
 refine late_done [0] E1 hK (fun a hE => ?_); clear hK K Q' E1; simp only [lk, pick, Nat.reduceEqDiff, ↓reduceIte] at hE
 (repeat with_reducible first|refine ctl ?_|refine miss ?_)
 refine Rs 7 fun Q' K hK => ?_
 refine Lp fun K' J => ?_
 refine op0 fun ρ qc qf qg => ?_; go_simp; (try go_bits); (try clear qc qf qg)
 go_at_call 45; refine (ear_any _).mono ?_; rintro e w1 ⟨⟨G, rfl, _, hG⟩, h1⟩
 refine Ln hE J fun a_1 E1 => ?_; clear J K' hE a
 refine Lp fun K' J => op1 (E1.at 18 rfl) fun ρ qc qf qg q18 => ?_; go_simp; (try go_bits); (try clear qc qf qg q18)
 go_at_call 11; refine (wNear hG).mono ?_; rintro e w2 ⟨rfl, h2⟩
 (try clear r18)
 refine Ln E1 J fun a_2 E2 => ?_; clear J K' E1
 refine Lp fun K' J => op1 (E2.at 19 rfl) fun ρ qc qf qg q19 => ?_; go_simp; (try clear qc qf qg q19)
 refine Ln E2 J fun a_3 E3 => ?_; clear J K' E2
 refine Lp fun K' J => op1 (E3.at 17 rfl) fun ρ qc qf qg q17 => ?_; go_simp; (try clear qc qf qg q17)
 refine Ln E3 J fun a_4 E4 => ?_; clear J K' E3
 refine Lp fun K' J => op1 (E4.at 17 rfl) fun ρ qc qf qg q17 => ?_; go_simp; (try clear qc qf qg q17)
 refine Ln E4 J fun a_5 E5 => ?_; clear J K' E4
 refine Lp fun K' J => op1 (E5.at 20 rfl) fun ρ qc qf qg q20 => ?_; go_simp; (try clear qc qf qg q20)
 refine Ln E5 J fun a_6 E6 => ?_; clear J K' E5
 refine Lp fun K' J => op1 (E6.at 21 rfl) fun ρ qc qf qg q21 => ?_; go_simp; (try clear qc qf qg q21)
 refine Ln E6 J fun a_7 E7 => ?_; clear J K' E6
 refine late_done [1, 2] E7 hK (fun a hE => ?_); clear hK K Q' E7; simp only [lk, pick, Nat.reduceEqDiff, ↓reduceIte] at hE
 have hb := h1.trans (h2.mono h1.size)
 clear hG h1 h2
 (repeat with_reducible first|refine ctl ?_|refine miss ?_)
 refine Rs 7 fun Q' K hK => ?_
 refine Lp fun K' J => ?_
 refine op0 fun ρ qc qf qg => ?_; go_simp; (try go_bits); (try clear qc qf qg)
 go_at_call 43; refine (books_any 1 _).mono ?_; rintro e w3 ⟨⟨A, L, rfl, hM⟩, h1⟩
 refine Ln hE J fun a_1 E1 => ?_; clear J K' hE a
 refine Lp fun K' J => op1 (E1.at 23 rfl) fun ρ qc qf qg q23 => ?_; go_simp; (try go_bits); (try clear qc qf qg q23)
 go_at_call 23; refine (wCan hM).mono ?_; rintro e w4 ⟨rfl, h2⟩
 (try clear r23)
 refine Ln E1 J fun a_2 E2 => ?_; clear J K' E1
 refine Lp fun K' J => op1 (E2.at 24 rfl) fun ρ qc qf qg q24 => ?_; go_simp; (try clear qc qf qg q24)
 refine Ln E2 J fun a_3 E3 => ?_; clear J K' E2
 refine Lp fun K' J => op1 (E3.at 22 rfl) fun ρ qc qf qg q22 => ?_; go_simp; (try clear qc qf qg q22)
 refine Ln E3 J fun a_4 E4 => ?_; clear J K' E3
 refine Lp fun K' J => op1 (E4.at 22 rfl) fun ρ qc qf qg q22 => ?_; go_simp; (try clear qc qf qg q22)
 refine Ln E4 J fun a_5 E5 => ?_; clear J K' E4
 refine Lp fun K' J => op1 (E5.at 25 rfl) fun ρ qc qf qg q25 => ?_; go_simp; (try clear qc qf qg q25)
 refine Ln E5 J fun a_6 E6 => ?_; clear J K' E5
 refine Lp fun K' J => op1 (E6.at 26 rfl) fun ρ qc qf qg q26 => ?_; go_simp; (try clear qc qf qg q26)
 refine Ln E6 J fun a_7 E7 => ?_; clear J K' E6
 refine late_done [1, 2, 3, 4] E7 hK (fun a hE => ?_); clear hK K Q' E7; simp only [lk, pick, Nat.reduceEqDiff, ↓reduceIte] at hE
 replace hb := hb.trans ((h1.trans (h2.mono h1.size)).mono hb.size)
 clear hM h1 h2
 (repeat with_reducible first|refine ctl ?_|refine miss ?_)
 refine Rs 10 fun Q' K hK => ?_
 refine Lp fun K' J => ?_
 refine op0 fun ρ qc qf qg => ?_; go_simp; (try go_bits); (try clear qc qf qg)
 go_at_call 43; refine (books_any 1 _).mono ?_; rintro e w5 ⟨⟨A, L, rfl, hM⟩, h1⟩
 refine Ln hE J fun a_1 E1 => ?_; clear J K' hE a
 refine Lp fun K' J => ?_
 refine op0 fun ρ qc qf qg => ?_; go_simp; (try go_bits); (try clear qc qf qg)
 go_at_call 46; refine (lpair_any _ _ _).mono ?_; rintro e u1 ⟨rfl, k1⟩
 refine Ln E1 J fun a_2 E2 => ?_; clear J K' E1
 refine Lp fun K' J => ?_
 refine op0 fun ρ qc qf qg => ?_; go_simp; (try go_bits); (try clear qc qf qg)
 go_at_call 46; refine (lpair_any _ _ _).mono ?_; rintro e u2 ⟨rfl, k2⟩
 have hk := h1.trans ((k1.trans (k2.mono k1.size)).mono h1.size)
 have hM2 := hM.below (k1.trans (k2.mono k1.size))
 have hA2 : Below u2.heap.size u2 (u2.alloc (.cells #[.int .i64 0, .int .i64 4, .int .i64 1, .int .i64 3] 51)) := (Below.refl _ _).alloc (Nat.le_refl _) _
 refine Ln E2 J fun a_3 E3 => ?_; clear J K' E2
 refine Lp fun K' J => ?_
 have r29 := E3.at 29 rfl; have r30 := E3.at 30 rfl
 refine op2 r29 r30 fun ρ qc qf qg q29 q30 => ?_; go_simp; (try clear qc qf qg r29 q29 r30 q30)
 (try clear r29 r30)
 refine Ln E3 J fun a_4 E4 => ?_; clear J K' E3
 refine Lp fun K' J => ?_
 have r28 := E4.at 28 rfl; have r31 := E4.at 31 rfl
 refine op2 r28 r31 fun ρ qc qf qg q28 q31 => ?_; go_simp; (try go_bits); (try clear qc qf qg r28 q28 r31 q31)
 go_at_call 18; refine (wIs (hM2.below ((Below.refl _ _).alloc (Nat.le_refl _) _)) ((arr_new u2 _ _).more (by simp))).mono ?_; rintro e w6 ⟨rfl, h2⟩
 (try clear r28 r31)
 refine Ln E4 J fun a_5 E5 => ?_; clear J K' E4
 refine Lp fun K' J => op1 (E5.at 32 rfl) fun ρ qc qf qg q32 => ?_; go_simp; (try clear qc qf qg q32)
 refine Ln E5 J fun a_6 E6 => ?_; clear J K' E5
 refine Lp fun K' J => op1 (E6.at 27 rfl) fun ρ qc qf qg q27 => ?_; go_simp; (try clear qc qf qg q27)
 refine Ln E6 J fun a_7 E7 => ?_; clear J K' E6
 refine Lp fun K' J => op1 (E7.at 27 rfl) fun ρ qc qf qg q27 => ?_; go_simp; (try clear qc qf qg q27)
 refine Ln E7 J fun a_8 E8 => ?_; clear J K' E7
 refine Lp fun K' J => op1 (E8.at 33 rfl) fun ρ qc qf qg q33 => ?_; go_simp; (try clear qc qf qg q33)
 refine Ln E8 J fun a_9 E9 => ?_; clear J K' E8
 refine Lp fun K' J => op1 (E9.at 34 rfl) fun ρ qc qf qg q34 => ?_; go_simp; (try clear qc qf qg q34)
 refine Ln E9 J fun a_10 E10 => ?_; clear J K' E9
 refine late_done [1, 2, 3, 4, 5, 6] E10 hK (fun a hE => ?_); clear hK K Q' E10; simp only [lk, pick, Nat.reduceEqDiff, ↓reduceIte] at hE
 replace hb := hb.trans ((hk.trans ((((Below.refl u2.heap.size u2).alloc (Nat.le_refl _) _).trans (h2.mono (by simp))).mono hk.size)).mono hb.size)
 clear hM hM2 hA2 h1 k1 k2 hk h2
 (repeat with_reducible first|refine ctl ?_|refine miss ?_)
 refine Rs 7 fun Q' K hK => ?_
 refine Lp fun K' J => ?_
 refine op0 fun ρ qc qf qg => ?_; go_simp; (try go_bits); (try clear qc qf qg)
 go_at_call 43; refine (books_any 1 _).mono ?_; rintro e w7 ⟨⟨A, L, rfl, hM⟩, h1⟩
 refine Ln hE J fun a_1 E1 => ?_; clear J K' hE a
 refine Lp fun K' J => op1 (E1.at 36 rfl) fun ρ qc qf qg q36 => ?_; go_simp; (try go_bits); (try clear qc qf qg q36)
 go_at_call 30; refine (wTruths hM).mono ?_; rintro e w8 ⟨rfl, h2⟩
 (try clear r36)
 refine Ln E1 J fun a_2 E2 => ?_; clear J K' E1
 refine Lp fun K' J => op1 (E2.at 37 rfl) fun ρ qc qf qg q37 => ?_; go_simp; (try clear qc qf qg q37)
 refine Ln E2 J fun a_3 E3 => ?_; clear J K' E2
 refine Lp fun K' J => op1 (E3.at 35 rfl) fun ρ qc qf qg q35 => ?_; go_simp; (try clear qc qf qg q35)
 refine Ln E3 J fun a_4 E4 => ?_; clear J K' E3
 refine Lp fun K' J => op1 (E4.at 35 rfl) fun ρ qc qf qg q35 => ?_; go_simp; (try clear qc qf qg q35)
 refine Ln E4 J fun a_5 E5 => ?_; clear J K' E4
 refine Lp fun K' J => op1 (E5.at 38 rfl) fun ρ qc qf qg q38 => ?_; go_simp; (try clear qc qf qg q38)
 refine Ln E5 J fun a_6 E6 => ?_; clear J K' E5
 refine Lp fun K' J => op1 (E6.at 39 rfl) fun ρ qc qf qg q39 => ?_; go_simp; (try clear qc qf qg q39)
 refine Ln E6 J fun a_7 E7 => ?_; clear J K' E6
 refine late_done [1, 2, 3, 4, 5, 6, 7, 8] E7 hK (fun a hE => ?_); clear hK K Q' E7; simp only [lk, pick, Nat.reduceEqDiff, ↓reduceIte] at hE
 replace hb := hb.trans ((h1.trans (h2.mono h1.size)).mono hb.size)
 clear hM h1 h2
 (repeat with_reducible first|refine ctl ?_|refine miss ?_)
 refine Rs 30 fun Q' K hK => ?_
 refine Lp fun K' J => op1 (hE.at 2 rfl) fun ρ qc qf qg q2 => ?_; go_simp; (try clear qc qf qg q2)
 refine Ln hE J fun a_1 E1 => ?_; clear J K' hE a
 refine Lp fun K' J => op1 (E1.at 40 rfl) fun ρ qc qf qg q40 => ?_; go_simp; (try go_bits); (try clear qc qf qg q40)
 refine Ln E1 J fun a_2 E2 => ?_; clear J K' E1
 refine Lp fun K' J => op1 (E2.at 41 rfl) fun ρ qc qf qg q41 => ?_; go_simp; (try clear qc qf qg q41)
 refine Ln E2 J fun a_3 E3 => ?_; clear J K' E2
 refine Ly E3 42 fun K' J => ?_
 refine op1 (E3.at 4 rfl) fun ρ qc qf qg q4 => ?_; go_simp; (try clear qc qf qg q4)
 refine Ln E3 J fun a_4 E4 => ?_; clear J K' E3
 refine Ly E4 42 fun K' J => ?_
 refine op1 (E4.at 43 rfl) fun ρ qc qf qg q43 => ?_; go_simp; (try go_bits); (try clear qc qf qg q43)
 refine Ln E4 J fun a_5 E5 => ?_; clear J K' E4
 refine Lp fun K' J => ?_
 have r42 := E5.at 42 rfl; have r44 := E5.at 44 rfl
 refine op2 r42 r44 fun ρ qc qf qg q42 q44 => ?_; go_simp; (try go_bits); (try clear qc qf qg r42 q42 r44 q44)
 (try clear r42 r44)
 refine Ln E5 J fun a_6 E6 => ?_; clear J K' E5
 refine Lp fun K' J => op1 (E6.at 45 rfl) fun ρ qc qf qg q45 => ?_; go_simp; (try clear qc qf qg q45)
 refine Ln E6 J fun a_7 E7 => ?_; clear J K' E6
 refine Ly E7 46 fun K' J => ?_
 refine op1 (E7.at 6 rfl) fun ρ qc qf qg q6 => ?_; go_simp; (try clear qc qf qg q6)
 refine Ln E7 J fun a_8 E8 => ?_; clear J K' E7
 refine Ly E8 46 fun K' J => ?_
 refine op1 (E8.at 47 rfl) fun ρ qc qf qg q47 => ?_; go_simp; (try go_bits); (try clear qc qf qg q47)
 refine Ln E8 J fun a_9 E9 => ?_; clear J K' E8
 refine Lp fun K' J => ?_
 have r46 := E9.at 46 rfl; have r48 := E9.at 48 rfl
 refine op2 r46 r48 fun ρ qc qf qg q46 q48 => ?_; go_simp; (try go_bits); (try clear qc qf qg r46 q46 r48 q48)
 (try clear r46 r48)
 refine Ln E9 J fun a_10 E10 => ?_; clear J K' E9
 refine Lp fun K' J => op1 (E10.at 49 rfl) fun ρ qc qf qg q49 => ?_; go_simp; (try clear qc qf qg q49)
 refine Ln E10 J fun a_11 E11 => ?_; clear J K' E10
 refine Ly E11 50 fun K' J => ?_
 refine op1 (E11.at 8 rfl) fun ρ qc qf qg q8 => ?_; go_simp; (try clear qc qf qg q8)
 refine Ln E11 J fun a_12 E12 => ?_; clear J K' E11
 refine Ly E12 50 fun K' J => ?_
 refine op1 (E12.at 51 rfl) fun ρ qc qf qg q51 => ?_; go_simp; (try go_bits); (try clear qc qf qg q51)
 refine Ln E12 J fun a_13 E13 => ?_; clear J K' E12
 refine Lp fun K' J => ?_
 have r50 := E13.at 50 rfl; have r52 := E13.at 52 rfl
 refine op2 r50 r52 fun ρ qc qf qg q50 q52 => ?_; go_simp; (try go_bits); (try clear qc qf qg r50 q50 r52 q52)
 (try clear r50 r52)
 refine Ln E13 J fun a_14 E14 => ?_; clear J K' E13
 refine Lp fun K' J => op1 (E14.at 53 rfl) fun ρ qc qf qg q53 => ?_; go_simp; (try clear qc qf qg q53)
 refine Ln E14 J fun a_15 E15 => ?_; clear J K' E14
 refine Ly E15 54 fun K' J => ?_
 refine op1 (E15.at 1 rfl) fun ρ qc qf qg q1 => ?_; go_simp; (try clear qc qf qg q1)
 refine Ln E15 J fun a_16 E16 => ?_; clear J K' E15
 refine Ly E16 54 fun K' J => ?_
 refine op1 (E16.at 55 rfl) fun ρ qc qf qg q55 => ?_; go_simp; (try go_bits); (try clear qc qf qg q55)
 refine Ln E16 J fun a_17 E17 => ?_; clear J K' E16
 refine Lp fun K' J => ?_
 have r54 := E17.at 54 rfl; have r56 := E17.at 56 rfl
 refine op2 r54 r56 fun ρ qc qf qg q54 q56 => ?_; go_simp; (try go_bits); (try clear qc qf qg r54 q54 r56 q56)
 (try clear r54 r56)
 refine Ln E17 J fun a_18 E18 => ?_; clear J K' E17
 refine Lp fun K' J => op1 (E18.at 57 rfl) fun ρ qc qf qg q57 => ?_; go_simp; (try clear qc qf qg q57)
 refine Ln E18 J fun a_19 E19 => ?_; clear J K' E18
 refine Ly E19 58 fun K' J => ?_
 refine op1 (E19.at 3 rfl) fun ρ qc qf qg q3 => ?_; go_simp; (try clear qc qf qg q3)
 refine Ln E19 J fun a_20 E20 => ?_; clear J K' E19
 refine Ly E20 58 fun K' J => ?_
 have r59 := E20.at 59 rfl; refine op1 r59 fun ρ qc qf qg q59 => ?_; go_simp; (try go_bits); (try simp (disch := omega) only [IntWalk.i64_in]); (try clear qc qf qg r59 q59)
 refine Ln E20 J fun a_21 E21 => ?_; clear J K' E20
 refine Lp fun K' J => ?_
 have r58 := E21.at 58 rfl; have r60 := E21.at 60 rfl
 refine op2 r58 r60 fun ρ qc qf qg q58 q60 => ?_; go_simp; (try go_bits); (try clear qc qf qg r58 q58 r60 q60)
 (try clear r58 r60)
 refine Ln E21 J fun a_22 E22 => ?_; clear J K' E21
 refine Lp fun K' J => op1 (E22.at 61 rfl) fun ρ qc qf qg q61 => ?_; go_simp; (try clear qc qf qg q61)
 refine Ln E22 J fun a_23 E23 => ?_; clear J K' E22
 refine Ly E23 62 fun K' J => ?_
 refine op1 (E23.at 5 rfl) fun ρ qc qf qg q5 => ?_; go_simp; (try clear qc qf qg q5)
 refine Ln E23 J fun a_24 E24 => ?_; clear J K' E23
 refine Ly E24 62 fun K' J => ?_
 have r63 := E24.at 63 rfl; refine op1 r63 fun ρ qc qf qg q63 => ?_; go_simp; (try go_bits); (try simp (disch := omega) only [IntWalk.i64_in]); (try clear qc qf qg r63 q63)
 refine Ln E24 J fun a_25 E25 => ?_; clear J K' E24
 refine Lp fun K' J => ?_
 have r62 := E25.at 62 rfl; have r64 := E25.at 64 rfl
 refine op2 r62 r64 fun ρ qc qf qg q62 q64 => ?_; go_simp; (try go_bits); (try clear qc qf qg r62 q62 r64 q64)
 (try clear r62 r64)
 refine Ln E25 J fun a_26 E26 => ?_; clear J K' E25
 refine Lp fun K' J => op1 (E26.at 65 rfl) fun ρ qc qf qg q65 => ?_; go_simp; (try clear qc qf qg q65)
 refine Ln E26 J fun a_27 E27 => ?_; clear J K' E26
 refine Ly E27 66 fun K' J => ?_
 refine op1 (E27.at 7 rfl) fun ρ qc qf qg q7 => ?_; go_simp; (try clear qc qf qg q7)
 refine Ln E27 J fun a_28 E28 => ?_; clear J K' E27
 refine Ly E28 66 fun K' J => ?_
 refine op1 (E28.at 67 rfl) fun ρ qc qf qg q67 => ?_; go_simp; (try go_bits); (try clear qc qf qg q67)
 refine Ln E28 J fun a_29 E29 => ?_; clear J K' E28
 refine Lp fun K' J => ?_
 have r66 := E29.at 66 rfl; have r68 := E29.at 68 rfl
 refine op2 r66 r68 fun ρ qc qf qg q66 q68 => ?_; go_simp; (try go_bits); (try clear qc qf qg r66 q66 r68 q68)
 (try clear r66 r68)
 refine Ln E29 J fun a_30 E30 => ?_; clear J K' E29
 refine late_done [69] E30 hK (fun a hE => ?_); clear hK K Q' E30; simp only [lk, pick, Nat.reduceEqDiff, ↓reduceIte] at hE
 (repeat with_reducible first|refine ctl ?_|refine miss ?_)
 refine cond_no hE (t := 69) rfl ?_
 (repeat with_reducible first|refine ctl ?_|refine miss ?_)
 refine Rs 7 fun Q' K hK => ?_
 refine Lp fun K' J => ?_
 refine op0 fun ρ qc qf qg => ?_; go_simp; (try go_bits); (try clear qc qf qg)
 go_at_call 43; refine (books_any 1 _).mono ?_; rintro e w9 ⟨⟨A, L, rfl, hM⟩, h1⟩
 refine Ln hE J fun a_1 E1 => ?_; clear J K' hE a
 refine Lp fun K' J => op1 (E1.at 71 rfl) fun ρ qc qf qg q71 => ?_; go_simp; (try go_bits); (try clear qc qf qg q71)
 go_at_call 24; refine (wKind hM).mono ?_; rintro e w10 ⟨rfl, h2⟩
 (try clear r71)
 refine Ln E1 J fun a_2 E2 => ?_; clear J K' E1
 refine Lp fun K' J => op1 (E2.at 72 rfl) fun ρ qc qf qg q72 => ?_; go_simp; (try clear qc qf qg q72)
 refine Ln E2 J fun a_3 E3 => ?_; clear J K' E2
 refine Lp fun K' J => op1 (E3.at 70 rfl) fun ρ qc qf qg q70 => ?_; go_simp; (try clear qc qf qg q70)
 refine Ln E3 J fun a_4 E4 => ?_; clear J K' E3
 refine Lp fun K' J => op1 (E4.at 70 rfl) fun ρ qc qf qg q70 => ?_; go_simp; (try clear qc qf qg q70)
 refine Ln E4 J fun a_5 E5 => ?_; clear J K' E4
 refine Lp fun K' J => op1 (E5.at 73 rfl) fun ρ qc qf qg q73 => ?_; go_simp; (try clear qc qf qg q73)
 refine Ln E5 J fun a_6 E6 => ?_; clear J K' E5
 refine Lp fun K' J => op1 (E6.at 74 rfl) fun ρ qc qf qg q74 => ?_; go_simp; (try clear qc qf qg q74)
 refine Ln E6 J fun a_7 E7 => ?_; clear J K' E6
 refine late_done [2, 9] E7 hK (fun a hE => ?_); clear hK K Q' E7; simp only [lk, pick, Nat.reduceEqDiff, ↓reduceIte] at hE
 replace hb := hb.trans ((h1.trans (h2.mono h1.size)).mono hb.size)
 clear hM h1 h2
 (repeat with_reducible first|refine ctl ?_|refine miss ?_)
 refine Rs 7 fun Q' K hK => ?_
 refine Lp fun K' J => ?_
 refine op0 fun ρ qc qf qg => ?_; go_simp; (try go_bits); (try clear qc qf qg)
 go_at_call 43; refine (books_any 1 _).mono ?_; rintro e w11 ⟨⟨A, L, rfl, hM⟩, h1⟩
 refine Ln hE J fun a_1 E1 => ?_; clear J K' hE a
 refine Lp fun K' J => op1 (E1.at 76 rfl) fun ρ qc qf qg q76 => ?_; go_simp; (try go_bits); (try clear qc qf qg q76)
 go_at_call 19; refine (wJoined hM).mono ?_; rintro e w12 ⟨⟨T, c, rfl, hT⟩, h2⟩
 (try clear r76)
 refine Ln E1 J fun a_2 E2 => ?_; clear J K' E1
 refine Lp fun K' J => op1 (E2.at 77 rfl) fun ρ qc qf qg q77 => ?_; go_simp; (try clear qc qf qg q77)
 refine Ln E2 J fun a_3 E3 => ?_; clear J K' E2
 refine Lp fun K' J => op1 (E3.at 75 rfl) fun ρ qc qf qg q75 => ?_; go_simp; (try clear qc qf qg q75)
 refine Ln E3 J fun a_4 E4 => ?_; clear J K' E3
 refine Lp fun K' J => op1 (E4.at 75 rfl) fun ρ qc qf qg q75 => ?_; go_simp; (try clear qc qf qg q75)
 refine Ln E4 J fun a_5 E5 => ?_; clear J K' E4
 refine Lp fun K' J => op1 (E5.at 78 rfl) fun ρ qc qf qg q78 => ?_; go_simp; (try clear qc qf qg q78)
 refine Ln E5 J fun a_6 E6 => ?_; clear J K' E5
 refine Lp fun K' J => op1 (E6.at 79 rfl) fun ρ qc qf qg q79 => ?_; go_simp; (try clear qc qf qg q79)
 refine Ln E6 J fun a_7 E7 => ?_; clear J K' E6
 refine late_done [2, 4, 9, 10] E7 hK (fun a hE => ?_); clear hK K Q' E7; simp only [lk, pick, Nat.reduceEqDiff, ↓reduceIte] at hE
 replace hb := hb.trans ((h1.trans (h2.mono h1.size)).mono hb.size)
 clear hM h1 h2
 (repeat with_reducible first|refine ctl ?_|refine miss ?_)
 refine Rs 8 fun Q' K hK => ?_
 refine Lp fun K' J => ?_
 refine op0 fun ρ qc qf qg => ?_; go_simp; (try go_bits); (try clear qc qf qg)
 go_at_call 43; refine (books_any 5 _).mono ?_; rintro e w13 ⟨⟨A, L, rfl, hM⟩, h1⟩
 refine Ln hE J fun a_1 E1 => ?_; clear J K' hE a
 refine Lp fun K' J => op1 (E1.at 81 rfl) fun ρ qc qf qg q81 => ?_; go_simp; (try go_bits); (try clear qc qf qg q81)
 go_at_call 20; refine (wPeople hM).mono ?_; rintro e w14 ⟨rfl, h2⟩
 (try clear r81)
 refine Ln E1 J fun a_2 E2 => ?_; clear J K' E1
 refine Lp fun K' J => op1 (E2.at 82 rfl) fun ρ qc qf qg q82 => ?_; go_simp; (try clear qc qf qg q82)
 refine Ln E2 J fun a_3 E3 => ?_; clear J K' E2
 refine Lp fun K' J => op1 (E3.at 80 rfl) fun ρ qc qf qg q80 => ?_; go_simp; (try clear qc qf qg q80)
 refine Ln E3 J fun a_4 E4 => ?_; clear J K' E3
 refine Lp fun K' J => op1 (E4.at 80 rfl) fun ρ qc qf qg q80 => ?_; go_simp; (try clear qc qf qg q80)
 refine Ln E4 J fun a_5 E5 => ?_; clear J K' E4
 refine Lp fun K' J => ?_
 refine op0 fun ρ qc qf qg => ?_; go_simp; (try clear qc qf qg)
 refine Ln E5 J fun a_6 E6 => ?_; clear J K' E5
 refine Lp fun K' J => ?_
 have r11 := E6.at 11 rfl; have r83 := E6.at 83 rfl
 refine op2 r11 r83 fun ρ qc qf qg q11 q83 => ?_; go_simp; (try clear qc qf qg r11 q11 r83 q83)
 (try clear r11 r83)
 refine late_skip E6 J (fun a_7 E7 => ?_); clear J K'; clear E6
 refine Lp fun K' J => op1 (E7.at 84 rfl) fun ρ qc qf qg q84 => ?_; go_simp; (try clear qc qf qg q84)
 refine Ln E7 J fun a_8 E8 => ?_; clear J K' E7
 refine late_done [2, 4, 6, 9, 10, 11] E8 hK (fun a hE => ?_); clear hK K Q' E8; simp only [lk, pick, Nat.reduceEqDiff, ↓reduceIte] at hE
 obtain ⟨S, hSe⟩ : ∃ B, B = w14.heap.size := ⟨_, rfl⟩; rw [← hSe] at hE; refine world_cut (fun wt => Below w14.heap.size w14 wt ∧ Cells wt S [.int .i64 3, .int .i64 5]) ⟨(Below.refl _ _).alloc (Nat.le_refl _) _, by rw [hSe]; exact cells_new _ _ _⟩ (fun w15 hCut => ?_); obtain ⟨hbw15, hCS⟩ := hCut; clear hSe
 replace hb := hb.trans ((h1.trans ((h2.trans (hbw15.mono h2.size)).mono h1.size)).mono hb.size)
 replace hT := (hT.below (h1.trans ((h2.trans (hbw15.mono h2.size)).mono h1.size))).more (h1.trans ((h2.trans (hbw15.mono h2.size)).mono h1.size)).size
 clear hM h1 h2 hbw15
 (repeat with_reducible first|refine ctl ?_|refine miss ?_)
 refine Rs 7 fun Q' K hK => ?_
 refine Lp fun K' J => ?_
 refine op0 fun ρ qc qf qg => ?_; go_simp; (try go_bits); (try clear qc qf qg)
 go_at_call 43; refine (books_any 0 _).mono ?_; rintro e w16 ⟨⟨A, L, rfl, hM⟩, h1⟩
 refine Ln hE J fun a_1 E1 => ?_; clear J K' hE a
 refine Lp fun K' J => op1 (E1.at 86 rfl) fun ρ qc qf qg q86 => ?_; go_simp; (try go_bits); (try clear qc qf qg q86)
 go_at_call 21; refine (wWrong hM).mono ?_; rintro e w17 ⟨⟨D, d, rfl, hD⟩, h2⟩
 (try clear r86)
 refine Ln E1 J fun a_2 E2 => ?_; clear J K' E1
 refine Lp fun K' J => op1 (E2.at 87 rfl) fun ρ qc qf qg q87 => ?_; go_simp; (try clear qc qf qg q87)
 refine Ln E2 J fun a_3 E3 => ?_; clear J K' E2
 refine Lp fun K' J => op1 (E3.at 85 rfl) fun ρ qc qf qg q85 => ?_; go_simp; (try clear qc qf qg q85)
 refine Ln E3 J fun a_4 E4 => ?_; clear J K' E3
 refine Lp fun K' J => op1 (E4.at 85 rfl) fun ρ qc qf qg q85 => ?_; go_simp; (try clear qc qf qg q85)
 refine Ln E4 J fun a_5 E5 => ?_; clear J K' E4
 refine Lp fun K' J => op1 (E5.at 88 rfl) fun ρ qc qf qg q88 => ?_; go_simp; (try clear qc qf qg q88)
 refine Ln E5 J fun a_6 E6 => ?_; clear J K' E5
 refine Lp fun K' J => op1 (E6.at 89 rfl) fun ρ qc qf qg q89 => ?_; go_simp; (try clear qc qf qg q89)
 refine Ln E6 J fun a_7 E7 => ?_; clear J K' E6
 refine late_done [2, 4, 6, 8, 9, 10, 11, 12] E7 hK (fun a hE => ?_); clear hK K Q' E7; simp only [lk, pick, Nat.reduceEqDiff, ↓reduceIte] at hE
 have h12 := h1.trans (h2.mono h1.size)
 replace hb := hb.trans (h12.mono hb.size)
 replace hT := (hT.below h12).more h12.size
 replace hCS := hCS.below h12
 clear hM h1 h2 h12
 (repeat with_reducible first|refine ctl ?_|refine miss ?_)
 refine Rs 7 fun Q' K hK => ?_
 refine Lp fun K' J => ?_
 refine op0 fun ρ qc qf qg => ?_; go_simp; (try go_bits); (try clear qc qf qg)
 go_at_call 43; refine (books_any 0 _).mono ?_; rintro e w18 ⟨⟨A, L, rfl, hM⟩, h1⟩
 refine Ln hE J fun a_1 E1 => ?_; clear J K' hE a
 refine Lp fun K' J => op1 (E1.at 91 rfl) fun ρ qc qf qg q91 => ?_; go_simp; (try go_bits); (try clear qc qf qg q91)
 go_at_call 41; refine (wAsk0 hM).mono ?_; rintro e w19 ⟨rfl, h2⟩
 (try clear r91)
 refine Ln E1 J fun a_2 E2 => ?_; clear J K' E1
 refine Lp fun K' J => op1 (E2.at 92 rfl) fun ρ qc qf qg q92 => ?_; go_simp; (try clear qc qf qg q92)
 refine Ln E2 J fun a_3 E3 => ?_; clear J K' E2
 refine Lp fun K' J => op1 (E3.at 90 rfl) fun ρ qc qf qg q90 => ?_; go_simp; (try clear qc qf qg q90)
 refine Ln E3 J fun a_4 E4 => ?_; clear J K' E3
 refine Lp fun K' J => op1 (E4.at 90 rfl) fun ρ qc qf qg q90 => ?_; go_simp; (try clear qc qf qg q90)
 refine Ln E4 J fun a_5 E5 => ?_; clear J K' E4
 refine Lp fun K' J => op1 (E5.at 93 rfl) fun ρ qc qf qg q93 => ?_; go_simp; (try clear qc qf qg q93)
 refine Ln E5 J fun a_6 E6 => ?_; clear J K' E5
 refine Lp fun K' J => op1 (E6.at 94 rfl) fun ρ qc qf qg q94 => ?_; go_simp; (try clear qc qf qg q94)
 refine Ln E6 J fun a_7 E7 => ?_; clear J K' E6
 refine late_done [2, 4, 6, 8, 9, 10, 11, 12, 14] E7 hK (fun a hE => ?_); clear hK K Q' E7; simp only [lk, pick, Nat.reduceEqDiff, ↓reduceIte] at hE
 have h12 := h1.trans (h2.mono h1.size)
 replace hb := hb.trans (h12.mono hb.size)
 replace hT := (hT.below h12).more h12.size
 replace hCS := hCS.below h12
 replace hD := (hD.below h12).more h12.size
 clear hM h1 h2 h12
 (repeat with_reducible first|refine ctl ?_|refine miss ?_)
 refine Rs 7 fun Q' K hK => ?_
 refine Lp fun K' J => ?_
 refine op0 fun ρ qc qf qg => ?_; go_simp; (try go_bits); (try clear qc qf qg)
 go_at_call 43; refine (books_any 5 _).mono ?_; rintro e w20 ⟨⟨A, L, rfl, hM⟩, h1⟩
 refine Ln hE J fun a_1 E1 => ?_; clear J K' hE a
 refine Lp fun K' J => op1 (E1.at 96 rfl) fun ρ qc qf qg q96 => ?_; go_simp; (try go_bits); (try clear qc qf qg q96)
 go_at_call 41; refine (wAsk5 hM).mono ?_; rintro e w21 ⟨rfl, h2⟩
 (try clear r96)
 refine Ln E1 J fun a_2 E2 => ?_; clear J K' E1
 refine Lp fun K' J => op1 (E2.at 97 rfl) fun ρ qc qf qg q97 => ?_; go_simp; (try clear qc qf qg q97)
 refine Ln E2 J fun a_3 E3 => ?_; clear J K' E2
 refine Lp fun K' J => op1 (E3.at 95 rfl) fun ρ qc qf qg q95 => ?_; go_simp; (try clear qc qf qg q95)
 refine Ln E3 J fun a_4 E4 => ?_; clear J K' E3
 refine Lp fun K' J => op1 (E4.at 95 rfl) fun ρ qc qf qg q95 => ?_; go_simp; (try clear qc qf qg q95)
 refine Ln E4 J fun a_5 E5 => ?_; clear J K' E4
 refine Lp fun K' J => op1 (E5.at 98 rfl) fun ρ qc qf qg q98 => ?_; go_simp; (try clear qc qf qg q98)
 refine Ln E5 J fun a_6 E6 => ?_; clear J K' E5
 refine Lp fun K' J => op1 (E6.at 99 rfl) fun ρ qc qf qg q99 => ?_; go_simp; (try clear qc qf qg q99)
 refine Ln E6 J fun a_7 E7 => ?_; clear J K' E6
 refine late_done [2, 4, 6, 8, 9, 10, 11, 12, 14, 15, 16] E7 hK (fun a hE => ?_); clear hK K Q' E7; simp only [lk, pick, Nat.reduceEqDiff, ↓reduceIte] at hE
 have h12 := h1.trans (h2.mono h1.size)
 replace hb := hb.trans (h12.mono hb.size)
 replace hT := (hT.below h12).more h12.size
 replace hCS := hCS.below h12
 replace hD := (hD.below h12).more h12.size
 clear hM h1 h2 h12
 (repeat with_reducible first|refine ctl ?_|refine miss ?_)
 have nS := hCS.1; have cS0 := hCS.2 0 _ rfl; have cS1 := hCS.2 1 _ rfl
 obtain ⟨bt, ot, rfl, hbt, hct⟩ := hT (by simp)
 have ct0 := hct 0 _ rfl
 have ct1 := hct 1 _ rfl
 simp only [Nat.add_zero] at ct0
 refine Rd [52] (fun wt => Below w21.heap.size w21 wt) (fun w1 w2 => Below w1.heap.size w1 w2) [(0, some 100), (1, some 101), (2, some 102), (3, some 103), (4, some 104), (5, some 105), (6, some 106), (7, some 107), (8, some 108), (9, some 109), (10, some 110), (11, some 111), (12, some 112), (13, some 113), (14, some 114), (15, some 115), (16, some 116), (17, some 117), (18, some 118), (19, some 119), (20, some 120), (21, some 121), (22, some 122), (23, some 123), (24, some 124), (25, some 125), (26, some 126), (27, some 127), (28, some 128), (29, some 129), (30, some 130), (31, some 131), (32, some 132), (33, some 133), (34, some 134), (35, some 135), (36, some 136), (37, some 137), (38, some 138), (39, some 139), (40, some 140), (41, some 141), (42, some 142), (43, some 143), (44, some 144), (45, some 145), (46, some 146), (47, some 147), (48, some 148), (49, some 149), (50, some 150), (51, some 151)] [100, 101, 102, 103, 104, 105, 106, 107, 108, 109, 110, 111, 112, 113, 114, 115, 116, 117, 118, 119, 120, 121, 122, 123, 124, 125, 126, 127, 128, 129, 130, 131, 132, 133, 134, 135, 136, 137, 138, 139, 140, 141, 142, 143, 144, 145, 146, 147, 148, 149, 150, 151] #[true, true, true, true, true, true, true, true, true, true, true, true, true, true, true, true, true, true, true, true, true, true, true, true, true, true, true, true, true, true, true, true, true, true, true, true, true, true, true, true, true, true, true, true, true, true, true, true, true, true, true, true, false] [0] hE ((Below.refl _ _).drew) fun Q' K hK => ?_
 refine SeqOps.val ?_ (Sp fun ax wx hS hT' hd K' J => ?_) ?_; rotate_left 1
 ·have r2 := hS.at 2 (by decide) (hE.at 2 rfl); obtain ⟨hcT, hfT, hlT, hmT, hwT, hzT⟩ := bT hT'
  refine op1 r2 fun ρ qc qf qg q2 => ?_; go_simp;
  refine J.out _ _ _ rfl ?_ hT' (Below.refl _ _); rfl
 refine SeqOps.val ?_ (Sp fun ax wx hS hT' hd K' J => ?_) ?_; rotate_left 1
 ·have r100 := Tv hd 0 0 100; obtain ⟨hcT, hfT, hlT, hmT, hwT, hzT⟩ := bT hT'
  refine op1 r100 fun ρ qc qf qg q100 => ?_; go_simp; (try go_bits);
  refine J.out _ _ _ rfl ?_ hT' (Below.refl _ _); rfl
 refine SeqOps.val ?_ (Sp fun ax wx hS hT' hd K' J => ?_) ?_; rotate_left 1
 ·have r101 := Tv hd 0 1 101; obtain ⟨hcT, hfT, hlT, hmT, hwT, hzT⟩ := bT hT'
  refine op1 r101 fun ρ qc qf qg q101 => ?_; go_simp;
  refine J.out _ _ _ rfl ?_ hT' (Below.refl _ _); rfl
 refine SeqOps.val ?_ (Sy 0 102 fun ax wx hS hT' hd K' J => ?_) ?_; rotate_left 1
 ·have r4 := hS.at 4 (by decide) (hE.at 4 rfl); obtain ⟨hcT, hfT, hlT, hmT, hwT, hzT⟩ := bT hT'
  refine op1 r4 fun ρ qc qf qg q4 => ?_; go_simp;
  refine J.out _ _ _ rfl ?_ hT' (Below.refl _ _); rfl
 refine SeqOps.val ?_ (Sy 1 102 fun ax wx hS hT' hd K' J => ?_) ?_; rotate_left 1
 ·have r103 := Tv hd 0 3 103; obtain ⟨hcT, hfT, hlT, hmT, hwT, hzT⟩ := bT hT'
  refine op1 r103 fun ρ qc qf qg q103 => ?_; go_simp; (try go_bits);
  refine J.out _ _ _ rfl ?_ hT' (Below.refl _ _); rfl
 refine SeqOps.val ?_ (Sp fun ax wx hS hT' hd K' J => ?_) ?_; rotate_left 1
 ·have r102 := Tv hd 2 2 102; have r104 := Tv hd 0 4 104; obtain ⟨hcT, hfT, hlT, hmT, hwT, hzT⟩ := bT hT'
  refine op2 r102 r104 fun ρ qc qf qg q102 q104 => ?_; go_simp; (try go_bits);
  refine J.out _ _ _ rfl ?_ hT' (Below.refl _ _); rfl
 refine SeqOps.val ?_ (Sp fun ax wx hS hT' hd K' J => ?_) ?_; rotate_left 1
 ·have r105 := Tv hd 0 5 105; obtain ⟨hcT, hfT, hlT, hmT, hwT, hzT⟩ := bT hT'
  refine op1 r105 fun ρ qc qf qg q105 => ?_; go_simp;
  refine J.out _ _ _ rfl ?_ hT' (Below.refl _ _); rfl
 refine SeqOps.val ?_ (Sy 0 106 fun ax wx hS hT' hd K' J => ?_) ?_; rotate_left 1
 ·have r6 := hS.at 6 (by decide) (hE.at 6 rfl); obtain ⟨hcT, hfT, hlT, hmT, hwT, hzT⟩ := bT hT'
  refine op1 r6 fun ρ qc qf qg q6 => ?_; go_simp;
  refine J.out _ _ _ rfl ?_ hT' (Below.refl _ _); rfl
 refine SeqOps.val ?_ (Sy 1 106 fun ax wx hS hT' hd K' J => ?_) ?_; rotate_left 1
 ·have r107 := Tv hd 0 7 107; obtain ⟨hcT, hfT, hlT, hmT, hwT, hzT⟩ := bT hT'
  refine op1 r107 fun ρ qc qf qg q107 => ?_; go_simp; (try go_bits);
  refine J.out _ _ _ rfl ?_ hT' (Below.refl _ _); rfl
 refine SeqOps.val ?_ (Sp fun ax wx hS hT' hd K' J => ?_) ?_; rotate_left 1
 ·have r106 := Tv hd 2 6 106; have r108 := Tv hd 0 8 108; obtain ⟨hcT, hfT, hlT, hmT, hwT, hzT⟩ := bT hT'
  refine op2 r106 r108 fun ρ qc qf qg q106 q108 => ?_; go_simp; (try go_bits);
  refine J.out _ _ _ rfl ?_ hT' (Below.refl _ _); rfl
 refine SeqOps.val ?_ (Sp fun ax wx hS hT' hd K' J => ?_) ?_; rotate_left 1
 ·have r109 := Tv hd 0 9 109; obtain ⟨hcT, hfT, hlT, hmT, hwT, hzT⟩ := bT hT'
  refine op1 r109 fun ρ qc qf qg q109 => ?_; go_simp;
  refine J.out _ _ _ rfl ?_ hT' (Below.refl _ _); rfl
 refine SeqOps.val ?_ (Sy 0 110 fun ax wx hS hT' hd K' J => ?_) ?_; rotate_left 1
 ·have r8 := hS.at 8 (by decide) (hE.at 8 rfl); obtain ⟨hcT, hfT, hlT, hmT, hwT, hzT⟩ := bT hT'
  refine op1 r8 fun ρ qc qf qg q8 => ?_; go_simp;
  refine J.out _ _ _ rfl ?_ hT' (Below.refl _ _); rfl
 refine SeqOps.val ?_ (Sy 1 110 fun ax wx hS hT' hd K' J => ?_) ?_; rotate_left 1
 ·have r111 := Tv hd 0 11 111; obtain ⟨hcT, hfT, hlT, hmT, hwT, hzT⟩ := bT hT'
  refine op1 r111 fun ρ qc qf qg q111 => ?_; go_simp; (try go_bits);
  refine J.out _ _ _ rfl ?_ hT' (Below.refl _ _); rfl
 refine SeqOps.val ?_ (Sp fun ax wx hS hT' hd K' J => ?_) ?_; rotate_left 1
 ·have r110 := Tv hd 2 10 110; have r112 := Tv hd 0 12 112; obtain ⟨hcT, hfT, hlT, hmT, hwT, hzT⟩ := bT hT'
  refine op2 r110 r112 fun ρ qc qf qg q110 q112 => ?_; go_simp; (try go_bits);
  refine J.out _ _ _ rfl ?_ hT' (Below.refl _ _); rfl
 refine SeqOps.val ?_ (Sp fun ax wx hS hT' hd K' J => ?_) ?_; rotate_left 1
 ·have r113 := Tv hd 0 13 113; obtain ⟨hcT, hfT, hlT, hmT, hwT, hzT⟩ := bT hT'
  refine op1 r113 fun ρ qc qf qg q113 => ?_; go_simp;
  refine J.out _ _ _ rfl ?_ hT' (Below.refl _ _); rfl
 refine SeqOps.val ?_ (Sy 0 114 fun ax wx hS hT' hd K' J => ?_) ?_; rotate_left 1
 ·have r14 := hS.at 14 (by decide) (hE.at 14 rfl); obtain ⟨hcT, hfT, hlT, hmT, hwT, hzT⟩ := bT hT'
  refine op1 r14 fun ρ qc qf qg q14 => ?_; go_simp;
  refine J.out _ _ _ rfl ?_ hT' (Below.refl _ _); rfl
 refine SeqOps.val ?_ (Sy 1 114 fun ax wx hS hT' hd K' J => ?_) ?_; rotate_left 1
 ·have r115 := Tv hd 0 15 115; obtain ⟨hcT, hfT, hlT, hmT, hwT, hzT⟩ := bT hT'
  refine op1 r115 fun ρ qc qf qg q115 => ?_; go_simp; (try go_bits);
  refine J.out _ _ _ rfl ?_ hT' (Below.refl _ _); rfl
 refine SeqOps.val ?_ (Sp fun ax wx hS hT' hd K' J => ?_) ?_; rotate_left 1
 ·have r114 := Tv hd 2 14 114; have r116 := Tv hd 0 16 116; obtain ⟨hcT, hfT, hlT, hmT, hwT, hzT⟩ := bT hT'
  refine op2 r114 r116 fun ρ qc qf qg q114 q116 => ?_; go_simp; (try go_bits);
  refine J.out _ _ _ rfl ?_ hT' (Below.refl _ _); rfl
 refine SeqOps.val ?_ (Sp fun ax wx hS hT' hd K' J => ?_) ?_; rotate_left 1
 ·have r117 := Tv hd 0 17 117; obtain ⟨hcT, hfT, hlT, hmT, hwT, hzT⟩ := bT hT'
  refine op1 r117 fun ρ qc qf qg q117 => ?_; go_simp;
  refine J.out _ _ _ rfl ?_ hT' (Below.refl _ _); rfl
 refine SeqOps.val ?_ (Sy 0 118 fun ax wx hS hT' hd K' J => ?_) ?_; rotate_left 1
 ·have r16 := hS.at 16 (by decide) (hE.at 16 rfl); obtain ⟨hcT, hfT, hlT, hmT, hwT, hzT⟩ := bT hT'
  refine op1 r16 fun ρ qc qf qg q16 => ?_; go_simp;
  refine J.out _ _ _ rfl ?_ hT' (Below.refl _ _); rfl
 refine SeqOps.val ?_ (Sy 1 118 fun ax wx hS hT' hd K' J => ?_) ?_; rotate_left 1
 ·have r119 := Tv hd 0 19 119; obtain ⟨hcT, hfT, hlT, hmT, hwT, hzT⟩ := bT hT'
  refine op1 r119 fun ρ qc qf qg q119 => ?_; go_simp; (try go_bits);
  refine J.out _ _ _ rfl ?_ hT' (Below.refl _ _); rfl
 refine SeqOps.val ?_ (Sp fun ax wx hS hT' hd K' J => ?_) ?_; rotate_left 1
 ·have r118 := Tv hd 2 18 118; have r120 := Tv hd 0 20 120; obtain ⟨hcT, hfT, hlT, hmT, hwT, hzT⟩ := bT hT'
  refine op2 r118 r120 fun ρ qc qf qg q118 q120 => ?_; go_simp; (try go_bits);
  refine J.out _ _ _ rfl ?_ hT' (Below.refl _ _); rfl
 refine SeqOps.val ?_ (Sp fun ax wx hS hT' hd K' J => ?_) ?_; rotate_left 1
 ·have r121 := Tv hd 0 21 121; obtain ⟨hcT, hfT, hlT, hmT, hwT, hzT⟩ := bT hT'
  refine op1 r121 fun ρ qc qf qg q121 => ?_; go_simp;
  refine J.out _ _ _ rfl ?_ hT' (Below.refl _ _); rfl
 refine SeqOps.val ?_ (Sy 0 122 fun ax wx hS hT' hd K' J => ?_) ?_; rotate_left 1
 ·have r9 := hS.at 9 (by decide) (hE.at 9 rfl); obtain ⟨hcT, hfT, hlT, hmT, hwT, hzT⟩ := bT hT'
  refine op1 r9 fun ρ qc qf qg q9 => ?_; go_simp;
  refine J.out _ _ _ rfl ?_ hT' (Below.refl _ _); rfl
 refine SeqOps.val ?_ (Sy 1 122 fun ax wx hS hT' hd K' J => ?_) ?_; rotate_left 1
 ·have r123 := Tv hd 0 23 123; obtain ⟨hcT, hfT, hlT, hmT, hwT, hzT⟩ := bT hT'
  refine op1 r123 fun ρ qc qf qg q123 => ?_; go_simp; (try go_bits);
  refine J.out _ _ _ rfl ?_ hT' (Below.refl _ _); rfl
 refine SeqOps.val ?_ (Sp fun ax wx hS hT' hd K' J => ?_) ?_; rotate_left 1
 ·have r122 := Tv hd 2 22 122; have r124 := Tv hd 0 24 124; obtain ⟨hcT, hfT, hlT, hmT, hwT, hzT⟩ := bT hT'
  refine op2 r122 r124 fun ρ qc qf qg q122 q124 => ?_; go_simp; (try go_bits);
  refine J.out _ _ _ rfl ?_ hT' (Below.refl _ _); rfl
 refine SeqOps.val ?_ (Sp fun ax wx hS hT' hd K' J => ?_) ?_; rotate_left 1
 ·have r125 := Tv hd 0 25 125; obtain ⟨hcT, hfT, hlT, hmT, hwT, hzT⟩ := bT hT'
  refine op1 r125 fun ρ qc qf qg q125 => ?_; go_simp;
  refine J.out _ _ _ rfl ?_ hT' (Below.refl _ _); rfl
 refine SeqOps.val ?_ (Sy 0 126 fun ax wx hS hT' hd K' J => ?_) ?_; rotate_left 1
 ·have r10 := hS.at 10 (by decide) (hE.at 10 rfl); obtain ⟨hcT, hfT, hlT, hmT, hwT, hzT⟩ := bT hT'
  refine op1 r10 fun ρ qc qf qg q10 => ?_; go_simp;
  refine J.out _ _ _ rfl ?_ hT' (Below.refl _ _); rfl
 refine SeqOps.val ?_ (Sy 1 126 fun ax wx hS hT' hd K' J => ?_) ?_; rotate_left 1
 ·have r127 := Tv hd 0 27 127; obtain ⟨hcT, hfT, hlT, hmT, hwT, hzT⟩ := bT hT'
  refine op1 r127 fun ρ qc qf qg q127 => ?_; go_simp; (try go_bits);
  refine J.out _ _ _ rfl ?_ hT' (Below.refl _ _); rfl
 refine SeqOps.val ?_ (Sy 2 126 fun ax wx hS hT' hd K' J => ?_) ?_; rotate_left 1
 ·have r128 := Tv hd 0 28 128; obtain ⟨hcT, hfT, hlT, hmT, hwT, hzT⟩ := bT hT'
  refine op1 r128 fun ρ qc qf qg q128 => ?_; go_simp; (try go_bits);
  refine J.out _ _ _ rfl ?_ hT' (Below.refl _ _); rfl
 refine SeqOps.val ?_ (Sp fun ax wx hS hT' hd K' J => ?_) ?_; rotate_left 1
 ·have r126 := Tv hd 3 26 126; have r129 := Tv hd 0 29 129; obtain ⟨hcT, hfT, hlT, hmT, hwT, hzT⟩ := bT hT'
  refine op2 r126 r129 fun ρ qc qf qg q126 q129 => ?_; go_simp; (try go_bits);
  refine J.out _ _ _ rfl ?_ hT' (Below.refl _ _); rfl
 refine SeqOps.val ?_ (Sp fun ax wx hS hT' hd K' J => ?_) ?_; rotate_left 1
 ·have r130 := Tv hd 0 30 130; obtain ⟨hcT, hfT, hlT, hmT, hwT, hzT⟩ := bT hT'
  refine op1 r130 fun ρ qc qf qg q130 => ?_; go_simp;
  refine J.out _ _ _ rfl ?_ hT' (Below.refl _ _); rfl
 refine SeqOps.val ?_ (Sy 0 131 fun ax wx hS hT' hd K' J => ?_) ?_; rotate_left 1
 ·have r10 := hS.at 10 (by decide) (hE.at 10 rfl); obtain ⟨hcT, hfT, hlT, hmT, hwT, hzT⟩ := bT hT'
  refine op1 r10 fun ρ qc qf qg q10 => ?_; go_simp;
  refine J.out _ _ _ rfl ?_ hT' (Below.refl _ _); rfl
 refine SeqOps.val ?_ (Sy 1 131 fun ax wx hS hT' hd K' J => ?_) ?_; rotate_left 1
 ·have r132 := Tv hd 0 32 132; obtain ⟨hcT, hfT, hlT, hmT, hwT, hzT⟩ := bT hT'
  refine op1 r132 fun ρ qc qf qg q132 => ?_; go_simp; (try go_bits);
  refine J.out _ _ _ rfl ?_ hT' (Below.refl _ _); rfl
 refine SeqOps.val ?_ (Sy 2 131 fun ax wx hS hT' hd K' J => ?_) ?_; rotate_left 1
 ·have r133 := Tv hd 0 33 133; obtain ⟨hcT, hfT, hlT, hmT, hwT, hzT⟩ := bT hT'
  refine op1 r133 fun ρ qc qf qg q133 => ?_; go_simp;
  refine J.out _ _ _ rfl ?_ hT' (Below.refl _ _); rfl
 refine SeqOps.val ?_ (Sy 3 131 fun ax wx hS hT' hd K' J => ?_) ?_; rotate_left 1
 ·obtain ⟨hcT, hfT, hlT, hmT, hwT, hzT⟩ := bT hT'
  refine op0 fun ρ qc qf qg => ?_; go_simp; (try go_bits);
  go_at_call 46; refine (lpair_any _ _ _).mono ?_; rintro e g1 ⟨rfl, k1⟩
  refine J.out _ _ _ rfl ?_ (hT'.trans (k1.mono hT'.size)) k1; rfl
 refine SeqOps.val ?_ (Sy 4 131 fun ax wx hS hT' hd K' J => ?_) ?_; rotate_left 1
 ·have r134 := Tv hd 1 34 134; have r135 := Tv hd 0 35 135; obtain ⟨hcT, hfT, hlT, hmT, hwT, hzT⟩ := bT hT'
  refine op2 r134 r135 fun ρ qc qf qg q134 q135 => ?_; go_simp; (try go_bits);
  refine J.out _ _ _ rfl ?_ hT' (Below.refl _ _); rfl
 refine SeqOps.val ?_ (Sp fun ax wx hS hT' hd K' J => ?_) ?_; rotate_left 1
 ·have r131 := Tv hd 5 31 131; have r136 := Tv hd 0 36 136; obtain ⟨hcT, hfT, hlT, hmT, hwT, hzT⟩ := bT hT'
  refine op2 r131 r136 fun ρ qc qf qg q131 q136 => ?_; go_simp; (try go_bits);
  refine J.out _ _ _ rfl ?_ hT' (Below.refl _ _); rfl
 refine SeqOps.val ?_ (Sp fun ax wx hS hT' hd K' J => ?_) ?_; rotate_left 1
 ·have r137 := Tv hd 0 37 137; obtain ⟨hcT, hfT, hlT, hmT, hwT, hzT⟩ := bT hT'
  refine op1 r137 fun ρ qc qf qg q137 => ?_; go_simp;
  refine J.out _ _ _ rfl ?_ hT' (Below.refl _ _); rfl
 refine SeqOps.val ?_ (Sy 0 138 fun ax wx hS hT' hd K' J => ?_) ?_; rotate_left 1
 ·have r11 := hS.at 11 (by decide) (hE.at 11 rfl); obtain ⟨hcT, hfT, hlT, hmT, hwT, hzT⟩ := bT hT'
  refine op1 r11 fun ρ qc qf qg q11 => ?_; go_simp;
  refine J.out _ _ _ rfl ?_ hT' (Below.refl _ _); rfl
 refine SeqOps.val ?_ (Sy 1 138 fun ax wx hS hT' hd K' J => ?_) ?_; rotate_left 1
 ·obtain ⟨hcT, hfT, hlT, hmT, hwT, hzT⟩ := bT hT'
  refine op0 fun ρ qc qf qg => ?_; go_simp; (try go_bits);
  go_at_call 39; refine (to_any _ _ _).mono ?_; rintro e g1 ⟨rfl, k1⟩
  refine J.out _ _ _ rfl ?_ (hT'.trans (k1.mono hT'.size)) k1; rfl
 refine SeqOps.val ?_ (Sy 2 138 fun ax wx hS hT' hd K' J => ?_) ?_; rotate_left 1
 ·have r139 := Tv hd 1 39 139; have r140 := Tv hd 0 40 140; obtain ⟨hcT, hfT, hlT, hmT, hwT, hzT⟩ := bT hT'
  refine op2 r139 r140 fun ρ qc qf qg q139 q140 => ?_; go_simp; (try go_bits);
  refine J.out _ _ _ rfl ?_ hT' (Below.refl _ _); rfl
 refine SeqOps.val ?_ (Sp fun ax wx hS hT' hd K' J => ?_) ?_; rotate_left 1
 ·have r138 := Tv hd 3 38 138; have r141 := Tv hd 0 41 141; obtain ⟨hcT, hfT, hlT, hmT, hwT, hzT⟩ := bT hT'
  refine op2 r138 r141 fun ρ qc qf qg q138 q141 => ?_; go_simp; (try go_bits);
  refine J.out _ _ _ rfl ?_ hT' (Below.refl _ _); rfl
 refine SeqOps.val ?_ (Sp fun ax wx hS hT' hd K' J => ?_) ?_; rotate_left 1
 ·have r142 := Tv hd 0 42 142; obtain ⟨hcT, hfT, hlT, hmT, hwT, hzT⟩ := bT hT'
  refine op1 r142 fun ρ qc qf qg q142 => ?_; go_simp;
  refine J.out _ _ _ rfl ?_ hT' (Below.refl _ _); rfl
 refine SeqOps.val ?_ (Sy 0 143 fun ax wx hS hT' hd K' J => ?_) ?_; rotate_left 1
 ·have r12 := hS.at 12 (by decide) (hE.at 12 rfl); obtain ⟨hcT, hfT, hlT, hmT, hwT, hzT⟩ := bT hT'
  refine op1 r12 fun ρ qc qf qg q12 => ?_; go_simp;
  refine J.out _ _ _ rfl ?_ hT' (Below.refl _ _); rfl
 refine SeqOps.say (fun v wt => ∃ G, v = .slice (some ⟨G, 0, none⟩) 1 1 ∧ Arr wt wt.heap.size (some ⟨G, 0, none⟩) (ints [2])) (fun _ _ _ hR ⟨G, e, h⟩ => ⟨G, e, (h.below hR).more hR.size⟩) (Sy 1 143 fun ax wx hS hT' hd K' J => ?_) ?_
 ·obtain ⟨hcT, hfT, hlT, hmT, hwT, hzT⟩ := bT hT'
  refine op0 fun ρ qc qf qg => ?_; go_simp;
  refine J.out _ _ _ rfl ⟨_, rfl, (arr_new wx _ _).more (by simp)⟩ (hT'.trans (((Below.refl _ _).alloc (Nat.le_refl _) _).mono hT'.size)) ((Below.refl _ _).alloc (Nat.le_refl _) _)
 refine SeqOps.val ?_ (Sy 2 143 fun ax wx hS hT' hd K' J => ?_) ?_; rotate_left 1
 ·have r144 := Tv hd 1 44 144; obtain ⟨v145, r145, h145⟩ := Tg hd 0 45 145; obtain ⟨G, rfl, hG⟩ := h145; obtain ⟨hcT, hfT, hlT, hmT, hwT, hzT⟩ := bT hT'
  refine op2 r144 r145 fun ρ qc qf qg q144 q145 => ?_; go_simp; (try go_bits);
  go_at_call 54; refine (equalN_any D _ d 1 [2] [2] _ ((hD.below hT').more hT'.size) hG (by decide)).mono ?_; rintro e g1 ⟨rfl, k1⟩
  refine J.out _ _ _ rfl ?_ (hT'.trans (k1.mono hT'.size)) k1; rfl
 refine SeqOps.val ?_ (Sp fun ax wx hS hT' hd K' J => ?_) ?_; rotate_left 1
 ·have r143 := Tv hd 3 43 143; have r146 := Tv hd 0 46 146; obtain ⟨hcT, hfT, hlT, hmT, hwT, hzT⟩ := bT hT'
  refine op2 r143 r146 fun ρ qc qf qg q143 q146 => ?_; go_simp; (try go_bits);
  refine J.out _ _ _ rfl ?_ hT' (Below.refl _ _); rfl
 refine SeqOps.val ?_ (Sp fun ax wx hS hT' hd K' J => ?_) ?_; rotate_left 1
 ·have r147 := Tv hd 0 47 147; obtain ⟨hcT, hfT, hlT, hmT, hwT, hzT⟩ := bT hT'
  refine op1 r147 fun ρ qc qf qg q147 => ?_; go_simp;
  refine J.out _ _ _ rfl ?_ hT' (Below.refl _ _); rfl
 refine SeqOps.val ?_ (Sy 0 148 fun ax wx hS hT' hd K' J => ?_) ?_; rotate_left 1
 ·have r15 := hS.at 15 (by decide) (hE.at 15 rfl); obtain ⟨hcT, hfT, hlT, hmT, hwT, hzT⟩ := bT hT'
  refine op1 r15 fun ρ qc qf qg q15 => ?_; go_simp;
  refine J.out _ _ _ rfl ?_ hT' (Below.refl _ _); rfl
 refine SeqOps.val ?_ (Sy 1 148 fun ax wx hS hT' hd K' J => ?_) ?_; rotate_left 1
 ·have r149 := Tv hd 0 49 149; obtain ⟨hcT, hfT, hlT, hmT, hwT, hzT⟩ := bT hT'
  refine op1 r149 fun ρ qc qf qg q149 => ?_; go_simp; (try go_bits);
  refine J.out _ _ _ rfl ?_ hT' (Below.refl _ _); rfl
 refine SeqOps.val ?_ (Sp fun ax wx hS hT' hd K' J => ?_) ?_; rotate_left 1
 ·have r148 := Tv hd 2 48 148; have r150 := Tv hd 0 50 150; obtain ⟨hcT, hfT, hlT, hmT, hwT, hzT⟩ := bT hT'
  refine op2 r148 r150 fun ρ qc qf qg q148 q150 => ?_; go_simp; (try go_bits);
  refine J.out _ _ _ rfl ?_ hT' (Below.refl _ _); rfl
 refine SeqOps.nil ?_
 intro w22 hBl; (refine fun v h => ?_; obtain rfl := h); (refine fun v h => ?_; obtain rfl := h); (refine fun v h => ?_; obtain rfl := h); (refine fun v h => ?_; obtain rfl := h); (refine fun v h => ?_; obtain rfl := h); (refine fun v h => ?_; obtain rfl := h); (refine fun v h => ?_; obtain rfl := h); (refine fun v h => ?_; obtain rfl := h); (refine fun v h => ?_; obtain rfl := h); (refine fun v h => ?_; obtain rfl := h); (refine fun v h => ?_; obtain rfl := h); (refine fun v h => ?_; obtain rfl := h); (refine fun v h => ?_; obtain rfl := h); (refine fun v h => ?_; obtain rfl := h); (refine fun v h => ?_; obtain rfl := h); (refine fun v h => ?_; obtain rfl := h); (refine fun v h => ?_; obtain rfl := h); (refine fun v h => ?_; obtain rfl := h); (refine fun v h => ?_; obtain rfl := h); (refine fun v h => ?_; obtain rfl := h); (refine fun v h => ?_; obtain rfl := h); (refine fun v h => ?_; obtain rfl := h); (refine fun v h => ?_; obtain rfl := h); (refine fun v h => ?_; obtain rfl := h); (refine fun v h => ?_; obtain rfl := h); (refine fun v h => ?_; obtain rfl := h); (refine fun v h => ?_; obtain rfl := h); (refine fun v h => ?_; obtain rfl := h); (refine fun v h => ?_; obtain rfl := h); (refine fun v h => ?_; obtain rfl := h); (refine fun v h => ?_; obtain rfl := h); (refine fun v h => ?_; obtain rfl := h); (refine fun v h => ?_; obtain rfl := h); (refine fun v h => ?_; obtain rfl := h); (refine fun v h => ?_; obtain rfl := h); (refine fun v h => ?_; obtain rfl := h); (refine fun v h => ?_; obtain rfl := h); (refine fun v h => ?_; obtain rfl := h); (refine fun v h => ?_; obtain rfl := h); (refine fun v h => ?_; obtain rfl := h); (refine fun v h => ?_; obtain rfl := h); (refine fun v h => ?_; obtain rfl := h); (refine fun v h => ?_; obtain rfl := h); (refine fun v h => ?_; obtain rfl := h); (refine fun v h => ?_; obtain rfl := h); (refine fun v h => ?_; obtain ⟨G, rfl, hG⟩ := h); (refine fun v h => ?_; obtain rfl := h); (refine fun v h => ?_; obtain rfl := h); (refine fun v h => ?_; obtain rfl := h); (refine fun v h => ?_; obtain rfl := h); (refine fun v h => ?_; obtain rfl := h); (refine fun v h => ?_; obtain rfl := h);
 refine fun ax hEx => ?_
 simp only [lk, pick, Nat.reduceEqDiff, ↓reduceIte] at hEx
 refine Lp fun K' J => op1 (hEx.at 151 rfl) fun ρ qc qf qg q151 => ?_; go_simp; (try clear qc qf qg q151)
 refine Ln hEx J fun a_1 E1 => ?_; clear J K' hEx
 refine late_done [0] E1 hK (fun a hE => ?_); clear hK K Q' E1; simp only [lk, pick, Nat.reduceEqDiff, ↓reduceIte] at hE
 (repeat with_reducible first|refine ctl ?_|refine miss ?_)
 exact ret_one hE rfl rfl ⟨rfl, hb.trans (hBl.mono hb.size)⟩
end
end Go.Proofs.Ytbimkcjdodgojaa
