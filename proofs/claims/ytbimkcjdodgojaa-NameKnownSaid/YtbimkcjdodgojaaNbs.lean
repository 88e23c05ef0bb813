/- Name: the closed law, the books that are no books. -/
import Derived.Test.YtbimkcjdodgojaaNbr
import Derived.Test.YtbimkcjdodgojaaNbo
namespace Go.Proofs.Ytbimkcjdodgojaa
set_option linter.unusedSimpArgs false
set_option linter.unusedVariables false
open Go Go.RowKit
attribute [local go_sem high] cell_set_wr
attribute [local go_sem low] cell_wr frozen_wr
attribute [local go_sem] wr_set wr_drew wr_drewN wr_alloc wr_new

set_option maxRecDepth 100000
theorem bad_set {b : Bk} (h : b.ok = false) (v : Bool) : setE b v = 20 := by
 unfold setE refE
 rw [h]
 simp
theorem bad_kind {b : Bk} (h : b.ok = false) (x y : Int) : pKindR b x y = (0, 20) := by
 unfold pKindR
 rw [bad_set h]; simp
theorem bad_can {b : Bk} (h : b.ok = false) (x y : Int) : pCanR b x y = (false, 20) := by
 unfold pCanR
 rw [h]; rfl
theorem bad_ask {b : Bk} (h : b.ok = false) : pAskR b = (0, 20) := by
 unfold pAskR
 rw [bad_set h]; simp
theorem bad_people {b : Bk} (h : b.ok = false) : pPeopleR b = (0, 0) := by
 unfold pPeopleR
 rw [bad_set h]; simp
theorem bad_joined {b : Bk} (h : b.ok = false) : pJoinedL b = [] := by
 unfold pJoinedL
 rw [bad_set h]; simp
theorem bad_wrong {b : Bk} (h : b.ok = false) : pWrongL b = [] := by
 unfold pWrongL
 rw [h]; rfl
theorem bad_bk {b : Bk} (h : b.ok = false) : bkE b = 20 := by
 unfold bkE
 rw [h]; rfl
theorem bad_truths {b : Bk} (h : b.ok = false) : pTruthsR b = (0, 20) := by
 unfold pTruthsR
 rw [h]; rfl
theorem bad_is {b : Bk} (h : b.ok = false) (ps : IPrs) : pIsTruthR b ps = (false, 20) := by
 unfold pIsTruthR
 rw [h]; rfl
set_option maxHeartbeats 4000000 in
theorem known_bads (w V : World) (hb : Below w.heap.size w V) (P o : Nat) (hF : BadF P o V) (a : Act) (hE : Fits 562 [(6, .slice (some ⟨P, o, none⟩) 9 9)] a) : (cr 11 (bodyOf Try.f10)).wp Try.prog (bodyPost Try.prog Try.f10 fun e w' => e = .returned (.bool true) ∧ Below w.heap.size w w') a V := by
 refine wp_seq ?_; (repeat with_reducible first|refine ctl ?_|refine miss ?_)
 refine Rs 1 fun Q' K hK => ?_
 refine Lp fun K' J => ?_
 refine op0 fun ρ qc qf qg => ?_; go_simp; (try clear qc qf qg)
 refine Ln hE J fun a_1 E1 => ?_; clear J K' hE a
 refine late_done [6, 7] E1 hK (fun a hE => ?_); clear hK K Q' E1; simp only [lk, pick, Nat.reduceEqDiff, ↓reduceIte] at hE
 (repeat with_reducible first|refine ctl ?_|refine miss ?_)
 refine loop_st (fun (i : Nat) a w' => i ≤ 9 ∧ Fits 562 [(6, .slice (some ⟨P, o, none⟩) 9 9), (7, .int .i64 i)] a ∧ Below V.heap.size V w') (fun i => 9 - i) 0 ⟨Nat.zero_le _, by simpa using hE, Below.refl _ _⟩ (fun i a w' hI => ?_)
 clear hE
 obtain ⟨hi, hE, hW⟩ := hI
 obtain ⟨wr, hwr⟩ : ∃ x, x = w' := ⟨_, rfl⟩
 subst hwr
 (repeat with_reducible first|refine ctl ?_|refine miss ?_)
 refine Rs 4 fun Q' K hK => ?_
 refine Lp fun K' J => op1 (hE.at 7 rfl) fun ρ qc qf qg q7 => ?_; go_simp; (try clear qc qf qg q7)
 refine Ln hE J fun a_1 E1 => ?_; clear J K' hE a
 refine Lp fun K' J => op1 (E1.at 6 rfl) fun ρ qc qf qg q6 => ?_; go_simp; (try clear qc qf qg q6)
 refine Ln E1 J fun a_2 E2 => ?_; clear J K' E1
 refine Lp fun K' J => op1 (E2.at 166 rfl) fun ρ qc qf qg q166 => ?_; go_simp; (try go_bits); (try clear qc qf qg q166)
 refine Ln E2 J fun a_3 E3 => ?_; clear J K' E2
 refine Lp fun K' J => ?_
 have r165 := E3.at 165 rfl; have r167 := E3.at 167 rfl
 refine op2 r165 r167 fun ρ qc qf qg q165 q167 => ?_; go_simp; (try go_bits); (try clear qc qf qg r165 q165 r167 q167)
 (try clear r165 r167)
 refine Ln E3 J fun a_4 E4 => ?_; clear J K' E3
 refine late_done [6, 7, 168] E4 hK (fun a hE => ?_); clear hK K Q' E4; simp only [lk, pick, Nat.reduceEqDiff, ↓reduceIte] at hE
 (repeat with_reducible first|refine ctl ?_|refine miss ?_)
 refine cond_part hE (t := 168) rfl (fun h => ?_) (fun h => ?_)
 ·have hlt : i < 9 := by have := of_decide_eq_true h; omega
  clear h
  have hltI : (i : Int) < 9 := by omega
  have hbad := bs7_no i hlt
  obtain ⟨A, L, lc, hAr, hbk⟩ := hF.below hW
  obtain ⟨hsm, hM⟩ := hbk i hlt
  obtain ⟨b0, o0, hPo, hb0, hcl⟩ := Arr.elem (m := 7) (fun _ => rfl) (by omega) hAr (k := i) (by simpa using hlt)
  have e0 : b0 = P ∧ o0 = o := by cases hPo; exact ⟨rfl, rfl⟩
  obtain ⟨rfl, rfl⟩ := e0
  simp only [List.getElem_range] at hcl
  obtain ⟨BA, hBA⟩ : ∃ x, A i = x := ⟨_, rfl⟩
  obtain ⟨BL, hBL⟩ : ∃ x, L i = x := ⟨_, rfl⟩
  obtain ⟨bc, hbc⟩ : ∃ x, lc i = x := ⟨_, rfl⟩
  obtain ⟨b, hbb⟩ : ∃ x, bs7 i = x := ⟨_, rfl⟩
  rw [hBA, hBL, hbc, hbb] at hcl
  rw [hbc, hbb] at hsm
  rw [hBA, hBL, hbb] at hM
  rw [hbb] at hbad
  have HL : Hid (∀ W, Below wr.heap.size wr W → W.rangeAt b0 (o0 + i * 7) (bkV BA 2 BL bc b)) := hid fun W hW' j u hu => (hW'.cell (p := ⟨b0, o0 + i * 7 + j, none⟩) hb0).trans (hcl j u (by have := (List.getElem?_eq_some_iff.1 hu).1; simpa [bkV] using this) hu)
  clear hAr hbk hcl hPo hBA hBL hbc hbb hb0
  have HB := hid hbad
  clear hbad
  have hx0 : Below wr.heap.size wr wr := Below.refl _ _
  (repeat with_reducible first|refine ctl ?_|refine miss ?_)
  refine Rs 10 fun Q' K hK => ?_
  refine Lp fun K' J => op1 (hE.at 6 rfl) fun ρ qc qf qg q6 => ?_; go_simp; (try clear qc qf qg q6)
  refine Ln hE J fun a_1 E1 => ?_; clear J K' hE a
  refine Lp fun K' J => op1 (E1.at 7 rfl) fun ρ qc qf qg q7 => ?_; go_simp; (try clear qc qf qg q7)
  refine Ln E1 J fun a_2 E2 => ?_; clear J K' E1
  refine Lp fun K' J => ?_
  have r172 := E2.at 172 rfl; have r173 := E2.at 173 rfl
  refine op2 r172 r173 fun ρ qc qf qg q172 q173 => ?_; go_simp; (try go_bits); (try clear qc qf qg r172 q172 r173 q173)
  (try clear r172 r173)
  refine Ln E2 J fun a_3 E3 => ?_; clear J K' E2
  refine Lp fun K' J => ?_
  have r174 := E3.at 174 rfl
  refine wp_load_mid 35 (.tmp 174) rfl b0 (o0 + i * 7) (eval_of r174) (bkV BA 2 BL bc b) _ (HL.out _ hx0) Try.underlying35 rfl (by kernel_rfl) ?_
  (try clear r174)
  refine Ln E3 J fun a_4 E4 => ?_; clear J K' E3
  refine Lp fun K' J => op1 (E4.at 175 rfl) fun ρ qc qf qg q175 => ?_; go_simp; (try go_bits); (try clear qc qf qg q175)
  go_at_call 23; have hc := pCan_any BA 2 BL bc b (-1) 0 _ (hM.below hx0) hsm; rw [bad_can HB.out] at hc; refine hc.mono ?_; rintro e x1 ⟨rfl, h1⟩
  (try clear r175)
  refine Ln E4 J fun a_5 E5 => ?_; clear J K' E4
  refine Lp fun K' J => op1 (E5.at 176 rfl) fun ρ qc qf qg q176 => ?_; go_simp; (try clear qc qf qg q176)
  refine Ln E5 J fun a_6 E6 => ?_; clear J K' E5
  refine Lp fun K' J => op1 (E6.at 171 rfl) fun ρ qc qf qg q171 => ?_; go_simp; (try clear qc qf qg q171)
  refine Ln E6 J fun a_7 E7 => ?_; clear J K' E6
  refine Lp fun K' J => op1 (E7.at 171 rfl) fun ρ qc qf qg q171 => ?_; go_simp; (try clear qc qf qg q171)
  refine Ln E7 J fun a_8 E8 => ?_; clear J K' E7
  refine Lp fun K' J => op1 (E8.at 177 rfl) fun ρ qc qf qg q177 => ?_; go_simp; (try clear qc qf qg q177)
  refine Ln E8 J fun a_9 E9 => ?_; clear J K' E8
  refine Lp fun K' J => op1 (E9.at 178 rfl) fun ρ qc qf qg q178 => ?_; go_simp; (try clear qc qf qg q178)
  refine Ln E9 J fun a_10 E10 => ?_; clear J K' E9
  refine late_done [6, 7, 8, 9] E10 hK (fun a hE => ?_); clear hK K Q' E10; simp only [lk, pick, Nat.reduceEqDiff, ↓reduceIte] at hE
  have hx1 := hx0.trans (h1.mono hx0.size)
  clear h1
  (repeat with_reducible first|refine ctl ?_|refine miss ?_)
  refine Rs 10 fun Q' K hK => ?_
  refine Lp fun K' J => op1 (hE.at 6 rfl) fun ρ qc qf qg q6 => ?_; go_simp; (try clear qc qf qg q6)
  refine Ln hE J fun a_1 E1 => ?_; clear J K' hE a
  refine Lp fun K' J => op1 (E1.at 7 rfl) fun ρ qc qf qg q7 => ?_; go_simp; (try clear qc qf qg q7)
  refine Ln E1 J fun a_2 E2 => ?_; clear J K' E1
  refine Lp fun K' J => ?_
  have r180 := E2.at 180 rfl; have r181 := E2.at 181 rfl
  refine op2 r180 r181 fun ρ qc qf qg q180 q181 => ?_; go_simp; (try go_bits); (try clear qc qf qg r180 q180 r181 q181)
  (try clear r180 r181)
  refine Ln E2 J fun a_3 E3 => ?_; clear J K' E2
  refine Lp fun K' J => ?_
  have r182 := E3.at 182 rfl
  refine wp_load_mid 35 (.tmp 182) rfl b0 (o0 + i * 7) (eval_of r182) (bkV BA 2 BL bc b) _ (HL.out _ hx1) Try.underlying35 rfl (by kernel_rfl) ?_
  (try clear r182)
  refine Ln E3 J fun a_4 E4 => ?_; clear J K' E3
  refine Lp fun K' J => op1 (E4.at 183 rfl) fun ρ qc qf qg q183 => ?_; go_simp; (try go_bits); (try clear qc qf qg q183)
  go_at_call 18; have hc := pIsTruth_any BA 2 BL bc b none 0 [] _ (hM.below hx1) hsm (Arr.nil _ _ _) (by decide); rw [bad_is HB.out] at hc; refine hc.mono ?_; rintro e x2 ⟨rfl, h1⟩
  (try clear r183)
  refine Ln E4 J fun a_5 E5 => ?_; clear J K' E4
  refine Lp fun K' J => op1 (E5.at 184 rfl) fun ρ qc qf qg q184 => ?_; go_simp; (try clear qc qf qg q184)
  refine Ln E5 J fun a_6 E6 => ?_; clear J K' E5
  refine Lp fun K' J => op1 (E6.at 179 rfl) fun ρ qc qf qg q179 => ?_; go_simp; (try clear qc qf qg q179)
  refine Ln E6 J fun a_7 E7 => ?_; clear J K' E6
  refine Lp fun K' J => op1 (E7.at 179 rfl) fun ρ qc qf qg q179 => ?_; go_simp; (try clear qc qf qg q179)
  refine Ln E7 J fun a_8 E8 => ?_; clear J K' E7
  refine Lp fun K' J => op1 (E8.at 185 rfl) fun ρ qc qf qg q185 => ?_; go_simp; (try clear qc qf qg q185)
  refine Ln E8 J fun a_9 E9 => ?_; clear J K' E8
  refine Lp fun K' J => op1 (E9.at 186 rfl) fun ρ qc qf qg q186 => ?_; go_simp; (try clear qc qf qg q186)
  refine Ln E9 J fun a_10 E10 => ?_; clear J K' E9
  refine late_done [6, 7, 8, 9, 10, 11] E10 hK (fun a hE => ?_); clear hK K Q' E10; simp only [lk, pick, Nat.reduceEqDiff, ↓reduceIte] at hE
  have hx2 := hx1.trans (h1.mono hx1.size)
  clear h1
  (repeat with_reducible first|refine ctl ?_|refine miss ?_)
  refine Rs 10 fun Q' K hK => ?_
  refine Lp fun K' J => op1 (hE.at 6 rfl) fun ρ qc qf qg q6 => ?_; go_simp; (try clear qc qf qg q6)
  refine Ln hE J fun a_1 E1 => ?_; clear J K' hE a
  refine Lp fun K' J => op1 (E1.at 7 rfl) fun ρ qc qf qg q7 => ?_; go_simp; (try clear qc qf qg q7)
  refine Ln E1 J fun a_2 E2 => ?_; clear J K' E1
  refine Lp fun K' J => ?_
  have r188 := E2.at 188 rfl; have r189 := E2.at 189 rfl
  refine op2 r188 r189 fun ρ qc qf qg q188 q189 => ?_; go_simp; (try go_bits); (try clear qc qf qg r188 q188 r189 q189)
  (try clear r188 r189)
  refine Ln E2 J fun a_3 E3 => ?_; clear J K' E2
  refine Lp fun K' J => ?_
  have r190 := E3.at 190 rfl
  refine wp_load_mid 35 (.tmp 190) rfl b0 (o0 + i * 7) (eval_of r190) (bkV BA 2 BL bc b) _ (HL.out _ hx2) Try.underlying35 rfl (by kernel_rfl) ?_
  (try clear r190)
  refine Ln E3 J fun a_4 E4 => ?_; clear J K' E3
  refine Lp fun K' J => op1 (E4.at 191 rfl) fun ρ qc qf qg q191 => ?_; go_simp; (try go_bits); (try clear qc qf qg q191)
  go_at_call 30; have hc := pTruths_any BA 2 BL bc b _ (hM.below hx2) hsm; rw [bad_truths HB.out] at hc; refine hc.mono ?_; rintro e x3 ⟨rfl, h1⟩
  (try clear r191)
  refine Ln E4 J fun a_5 E5 => ?_; clear J K' E4
  refine Lp fun K' J => op1 (E5.at 192 rfl) fun ρ qc qf qg q192 => ?_; go_simp; (try clear qc qf qg q192)
  refine Ln E5 J fun a_6 E6 => ?_; clear J K' E5
  refine Lp fun K' J => op1 (E6.at 187 rfl) fun ρ qc qf qg q187 => ?_; go_simp; (try clear qc qf qg q187)
  refine Ln E6 J fun a_7 E7 => ?_; clear J K' E6
  refine Lp fun K' J => op1 (E7.at 187 rfl) fun ρ qc qf qg q187 => ?_; go_simp; (try clear qc qf qg q187)
  refine Ln E7 J fun a_8 E8 => ?_; clear J K' E7
  refine Lp fun K' J => op1 (E8.at 193 rfl) fun ρ qc qf qg q193 => ?_; go_simp; (try clear qc qf qg q193)
  refine Ln E8 J fun a_9 E9 => ?_; clear J K' E8
  refine Lp fun K' J => op1 (E9.at 194 rfl) fun ρ qc qf qg q194 => ?_; go_simp; (try clear qc qf qg q194)
  refine Ln E9 J fun a_10 E10 => ?_; clear J K' E9
  refine late_done [6, 7, 8, 9, 10, 11, 12, 13] E10 hK (fun a hE => ?_); clear hK K Q' E10; simp only [lk, pick, Nat.reduceEqDiff, ↓reduceIte] at hE
  have hx3 := hx2.trans (h1.mono hx2.size)
  clear h1
  (repeat with_reducible first|refine ctl ?_|refine miss ?_)
  refine Rs 10 fun Q' K hK => ?_
  refine Lp fun K' J => op1 (hE.at 6 rfl) fun ρ qc qf qg q6 => ?_; go_simp; (try clear qc qf qg q6)
  refine Ln hE J fun a_1 E1 => ?_; clear J K' hE a
  refine Lp fun K' J => op1 (E1.at 7 rfl) fun ρ qc qf qg q7 => ?_; go_simp; (try clear qc qf qg q7)
  refine Ln E1 J fun a_2 E2 => ?_; clear J K' E1
  refine Lp fun K' J => ?_
  have r196 := E2.at 196 rfl; have r197 := E2.at 197 rfl
  refine op2 r196 r197 fun ρ qc qf qg q196 q197 => ?_; go_simp; (try go_bits); (try clear qc qf qg r196 q196 r197 q197)
  (try clear r196 r197)
  refine Ln E2 J fun a_3 E3 => ?_; clear J K' E2
  refine Lp fun K' J => ?_
  have r198 := E3.at 198 rfl
  refine wp_load_mid 35 (.tmp 198) rfl b0 (o0 + i * 7) (eval_of r198) (bkV BA 2 BL bc b) _ (HL.out _ hx3) Try.underlying35 rfl (by kernel_rfl) ?_
  (try clear r198)
  refine Ln E3 J fun a_4 E4 => ?_; clear J K' E3
  refine Lp fun K' J => op1 (E4.at 199 rfl) fun ρ qc qf qg q199 => ?_; go_simp; (try go_bits); (try clear qc qf qg q199)
  go_at_call 24; have hc := pKind_any BA 2 BL bc b (-1) 0 _ (hM.below hx3) hsm; rw [bad_kind HB.out] at hc; refine hc.mono ?_; rintro e x4 ⟨rfl, h1⟩
  (try clear r199)
  refine Ln E4 J fun a_5 E5 => ?_; clear J K' E4
  refine Lp fun K' J => op1 (E5.at 200 rfl) fun ρ qc qf qg q200 => ?_; go_simp; (try clear qc qf qg q200)
  refine Ln E5 J fun a_6 E6 => ?_; clear J K' E5
  refine Lp fun K' J => op1 (E6.at 195 rfl) fun ρ qc qf qg q195 => ?_; go_simp; (try clear qc qf qg q195)
  refine Ln E6 J fun a_7 E7 => ?_; clear J K' E6
  refine Lp fun K' J => op1 (E7.at 195 rfl) fun ρ qc qf qg q195 => ?_; go_simp; (try clear qc qf qg q195)
  refine Ln E7 J fun a_8 E8 => ?_; clear J K' E7
  refine Lp fun K' J => op1 (E8.at 201 rfl) fun ρ qc qf qg q201 => ?_; go_simp; (try clear qc qf qg q201)
  refine Ln E8 J fun a_9 E9 => ?_; clear J K' E8
  refine Lp fun K' J => op1 (E9.at 202 rfl) fun ρ qc qf qg q202 => ?_; go_simp; (try clear qc qf qg q202)
  refine Ln E9 J fun a_10 E10 => ?_; clear J K' E9
  refine late_done [6, 7, 8, 9, 10, 11, 12, 13, 14, 15] E10 hK (fun a hE => ?_); clear hK K Q' E10; simp only [lk, pick, Nat.reduceEqDiff, ↓reduceIte] at hE
  have hx4 := hx3.trans (h1.mono hx3.size)
  clear h1
  (repeat with_reducible first|refine ctl ?_|refine miss ?_)
  refine Rs 10 fun Q' K hK => ?_
  refine Lp fun K' J => op1 (hE.at 6 rfl) fun ρ qc qf qg q6 => ?_; go_simp; (try clear qc qf qg q6)
  refine Ln hE J fun a_1 E1 => ?_; clear J K' hE a
  refine Lp fun K' J => op1 (E1.at 7 rfl) fun ρ qc qf qg q7 => ?_; go_simp; (try clear qc qf qg q7)
  refine Ln E1 J fun a_2 E2 => ?_; clear J K' E1
  refine Lp fun K' J => ?_
  have r204 := E2.at 204 rfl; have r205 := E2.at 205 rfl
  refine op2 r204 r205 fun ρ qc qf qg q204 q205 => ?_; go_simp; (try go_bits); (try clear qc qf qg r204 q204 r205 q205)
  (try clear r204 r205)
  refine Ln E2 J fun a_3 E3 => ?_; clear J K' E2
  refine Lp fun K' J => ?_
  have r206 := E3.at 206 rfl
  refine wp_load_mid 35 (.tmp 206) rfl b0 (o0 + i * 7) (eval_of r206) (bkV BA 2 BL bc b) _ (HL.out _ hx4) Try.underlying35 rfl (by kernel_rfl) ?_
  (try clear r206)
  refine Ln E3 J fun a_4 E4 => ?_; clear J K' E3
  refine Lp fun K' J => op1 (E4.at 207 rfl) fun ρ qc qf qg q207 => ?_; go_simp; (try go_bits); (try clear qc qf qg q207)
  go_at_call 19; have hc := pJoined_any BA 2 BL bc b _ (hM.below hx4) hsm; rw [bad_joined HB.out, bad_set HB.out] at hc; refine hc.mono ?_; rintro e x5 ⟨⟨T, c, rfl, hT⟩, h1⟩
  (try clear r207)
  refine Ln E4 J fun a_5 E5 => ?_; clear J K' E4
  refine Lp fun K' J => op1 (E5.at 208 rfl) fun ρ qc qf qg q208 => ?_; go_simp; (try clear qc qf qg q208)
  refine Ln E5 J fun a_6 E6 => ?_; clear J K' E5
  refine Lp fun K' J => op1 (E6.at 203 rfl) fun ρ qc qf qg q203 => ?_; go_simp; (try clear qc qf qg q203)
  refine Ln E6 J fun a_7 E7 => ?_; clear J K' E6
  refine Lp fun K' J => op1 (E7.at 203 rfl) fun ρ qc qf qg q203 => ?_; go_simp; (try clear qc qf qg q203)
  refine Ln E7 J fun a_8 E8 => ?_; clear J K' E7
  refine Lp fun K' J => op1 (E8.at 209 rfl) fun ρ qc qf qg q209 => ?_; go_simp; (try clear qc qf qg q209)
  refine Ln E8 J fun a_9 E9 => ?_; clear J K' E8
  refine Lp fun K' J => op1 (E9.at 210 rfl) fun ρ qc qf qg q210 => ?_; go_simp; (try clear qc qf qg q210)
  refine Ln E9 J fun a_10 E10 => ?_; clear J K' E9
  refine late_done [6, 7, 8, 9, 10, 11, 12, 13, 14, 15, 16, 17] E10 hK (fun a hE => ?_); clear hK K Q' E10; simp only [lk, pick, Nat.reduceEqDiff, ↓reduceIte] at hE
  have hx5 := hx4.trans (h1.mono hx4.size)
  clear h1
  (repeat with_reducible first|refine ctl ?_|refine miss ?_)
  refine Rs 11 fun Q' K hK => ?_
  refine Lp fun K' J => op1 (hE.at 6 rfl) fun ρ qc qf qg q6 => ?_; go_simp; (try clear qc qf qg q6)
  refine Ln hE J fun a_1 E1 => ?_; clear J K' hE a
  refine Lp fun K' J => op1 (E1.at 7 rfl) fun ρ qc qf qg q7 => ?_; go_simp; (try clear qc qf qg q7)
  refine Ln E1 J fun a_2 E2 => ?_; clear J K' E1
  refine Lp fun K' J => ?_
  have r212 := E2.at 212 rfl; have r213 := E2.at 213 rfl
  refine op2 r212 r213 fun ρ qc qf qg q212 q213 => ?_; go_simp; (try go_bits); (try clear qc qf qg r212 q212 r213 q213)
  (try clear r212 r213)
  refine Ln E2 J fun a_3 E3 => ?_; clear J K' E2
  refine Lp fun K' J => ?_
  have r214 := E3.at 214 rfl
  refine wp_load_mid 35 (.tmp 214) rfl b0 (o0 + i * 7) (eval_of r214) (bkV BA 2 BL bc b) _ (HL.out _ hx5) Try.underlying35 rfl (by kernel_rfl) ?_
  (try clear r214)
  refine Ln E3 J fun a_4 E4 => ?_; clear J K' E3
  refine Lp fun K' J => op1 (E4.at 215 rfl) fun ρ qc qf qg q215 => ?_; go_simp; (try go_bits); (try clear qc qf qg q215)
  go_at_call 20; have hc := pPeople_any BA 2 BL bc b _ (hM.below hx5) hsm; rw [bad_people HB.out, bad_set HB.out] at hc; refine hc.mono ?_; rintro e x6 ⟨rfl, h1⟩
  (try clear r215)
  refine Ln E4 J fun a_5 E5 => ?_; clear J K' E4
  refine Lp fun K' J => op1 (E5.at 216 rfl) fun ρ qc qf qg q216 => ?_; go_simp; (try clear qc qf qg q216)
  refine Ln E5 J fun a_6 E6 => ?_; clear J K' E5
  refine Lp fun K' J => op1 (E6.at 211 rfl) fun ρ qc qf qg q211 => ?_; go_simp; (try clear qc qf qg q211)
  refine Ln E6 J fun a_7 E7 => ?_; clear J K' E6
  refine Lp fun K' J => op1 (E7.at 211 rfl) fun ρ qc qf qg q211 => ?_; go_simp; (try clear qc qf qg q211)
  refine Ln E7 J fun a_8 E8 => ?_; clear J K' E7
  refine Lp fun K' J => ?_
  refine op0 fun ρ qc qf qg => ?_; go_simp; (try clear qc qf qg)
  refine Ln E8 J fun a_9 E9 => ?_; clear J K' E8
  refine Lp fun K' J => ?_
  have r18 := E9.at 18 rfl; have r217 := E9.at 217 rfl
  refine op2 r18 r217 fun ρ qc qf qg q18 q217 => ?_; go_simp; (try clear qc qf qg r18 q18 r217 q217)
  (try clear r18 r217)
  refine late_skip E9 J (fun a_10 E10 => ?_); clear J K'; clear E9
  refine Lp fun K' J => op1 (E10.at 218 rfl) fun ρ qc qf qg q218 => ?_; go_simp; (try clear qc qf qg q218)
  refine Ln E10 J fun a_11 E11 => ?_; clear J K' E10
  refine late_done [6, 7, 8, 9, 10, 11, 12, 13, 14, 15, 16, 17, 18, 19] E11 hK (fun a hE => ?_); clear hK K Q' E11; simp only [lk, pick, Nat.reduceEqDiff, ↓reduceIte] at hE
  obtain ⟨S, hSe⟩ : ∃ B, B = x6.heap.size := ⟨_, rfl⟩; rw [← hSe] at hE; refine world_cut (fun wt => Below x6.heap.size x6 wt ∧ Cells wt S [.int .i64 0, .int .i64 0]) ⟨(Below.refl _ _).alloc (Nat.le_refl _) _, by rw [hSe]; exact cells_new _ _ _⟩ (fun x7 hCut => ?_); obtain ⟨hbx7, hCS⟩ := hCut; clear hSe
  have hx7 := hx5.trans ((h1.trans (hbx7.mono h1.size)).mono hx5.size)
  clear h1 hbx7 hCS
  (repeat with_reducible first|refine ctl ?_|refine miss ?_)
  refine Rs 10 fun Q' K hK => ?_
  refine Lp fun K' J => op1 (hE.at 6 rfl) fun ρ qc qf qg q6 => ?_; go_simp; (try clear qc qf qg q6)
  refine Ln hE J fun a_1 E1 => ?_; clear J K' hE a
  refine Lp fun K' J => op1 (E1.at 7 rfl) fun ρ qc qf qg q7 => ?_; go_simp; (try clear qc qf qg q7)
  refine Ln E1 J fun a_2 E2 => ?_; clear J K' E1
  refine Lp fun K' J => ?_
  have r220 := E2.at 220 rfl; have r221 := E2.at 221 rfl
  refine op2 r220 r221 fun ρ qc qf qg q220 q221 => ?_; go_simp; (try go_bits); (try clear qc qf qg r220 q220 r221 q221)
  (try clear r220 r221)
  refine Ln E2 J fun a_3 E3 => ?_; clear J K' E2
  refine Lp fun K' J => ?_
  have r222 := E3.at 222 rfl
  refine wp_load_mid 35 (.tmp 222) rfl b0 (o0 + i * 7) (eval_of r222) (bkV BA 2 BL bc b) _ (HL.out _ hx7) Try.underlying35 rfl (by kernel_rfl) ?_
  (try clear r222)
  refine Ln E3 J fun a_4 E4 => ?_; clear J K' E3
  refine Lp fun K' J => op1 (E4.at 223 rfl) fun ρ qc qf qg q223 => ?_; go_simp; (try go_bits); (try clear qc qf qg q223)
  go_at_call 21; have hc := pWrong_any BA 2 BL bc b _ (hM.below hx7) hsm; rw [bad_wrong HB.out, bad_bk HB.out] at hc; refine hc.mono ?_; rintro e x8 ⟨⟨T, c, rfl, hT⟩, h1⟩
  (try clear r223)
  refine Ln E4 J fun a_5 E5 => ?_; clear J K' E4
  refine Lp fun K' J => op1 (E5.at 224 rfl) fun ρ qc qf qg q224 => ?_; go_simp; (try clear qc qf qg q224)
  refine Ln E5 J fun a_6 E6 => ?_; clear J K' E5
  refine Lp fun K' J => op1 (E6.at 219 rfl) fun ρ qc qf qg q219 => ?_; go_simp; (try clear qc qf qg q219)
  refine Ln E6 J fun a_7 E7 => ?_; clear J K' E6
  refine Lp fun K' J => op1 (E7.at 219 rfl) fun ρ qc qf qg q219 => ?_; go_simp; (try clear qc qf qg q219)
  refine Ln E7 J fun a_8 E8 => ?_; clear J K' E7
  refine Lp fun K' J => op1 (E8.at 225 rfl) fun ρ qc qf qg q225 => ?_; go_simp; (try clear qc qf qg q225)
  refine Ln E8 J fun a_9 E9 => ?_; clear J K' E8
  refine Lp fun K' J => op1 (E9.at 226 rfl) fun ρ qc qf qg q226 => ?_; go_simp; (try clear qc qf qg q226)
  refine Ln E9 J fun a_10 E10 => ?_; clear J K' E9
  refine late_done [6, 7, 8, 9, 10, 11, 12, 13, 14, 15, 16, 17, 18, 19, 20, 21] E10 hK (fun a hE => ?_); clear hK K Q' E10; simp only [lk, pick, Nat.reduceEqDiff, ↓reduceIte] at hE
  have hx8 := hx7.trans (h1.mono hx7.size)
  clear h1
  (repeat with_reducible first|refine ctl ?_|refine miss ?_)
  refine Rs 10 fun Q' K hK => ?_
  refine Lp fun K' J => op1 (hE.at 6 rfl) fun ρ qc qf qg q6 => ?_; go_simp; (try clear qc qf qg q6)
  refine Ln hE J fun a_1 E1 => ?_; clear J K' hE a
  refine Lp fun K' J => op1 (E1.at 7 rfl) fun ρ qc qf qg q7 => ?_; go_simp; (try clear qc qf qg q7)
  refine Ln E1 J fun a_2 E2 => ?_; clear J K' E1
  refine Lp fun K' J => ?_
  have r228 := E2.at 228 rfl; have r229 := E2.at 229 rfl
  refine op2 r228 r229 fun ρ qc qf qg q228 q229 => ?_; go_simp; (try go_bits); (try clear qc qf qg r228 q228 r229 q229)
  (try clear r228 r229)
  refine Ln E2 J fun a_3 E3 => ?_; clear J K' E2
  refine Lp fun K' J => ?_
  have r230 := E3.at 230 rfl
  refine wp_load_mid 35 (.tmp 230) rfl b0 (o0 + i * 7) (eval_of r230) (bkV BA 2 BL bc b) _ (HL.out _ hx8) Try.underlying35 rfl (by kernel_rfl) ?_
  (try clear r230)
  refine Ln E3 J fun a_4 E4 => ?_; clear J K' E3
  refine Lp fun K' J => op1 (E4.at 231 rfl) fun ρ qc qf qg q231 => ?_; go_simp; (try go_bits); (try clear qc qf qg q231)
  go_at_call 41; have hc := pAsk_any BA 2 BL bc b _ (hM.below hx8) hsm; rw [bad_ask HB.out] at hc; refine hc.mono ?_; rintro e x9 ⟨rfl, h1⟩
  (try clear r231)
  refine Ln E4 J fun a_5 E5 => ?_; clear J K' E4
  refine Lp fun K' J => op1 (E5.at 232 rfl) fun ρ qc qf qg q232 => ?_; go_simp; (try clear qc qf qg q232)
  refine Ln E5 J fun a_6 E6 => ?_; clear J K' E5
  refine Lp fun K' J => op1 (E6.at 227 rfl) fun ρ qc qf qg q227 => ?_; go_simp; (try clear qc qf qg q227)
  refine Ln E6 J fun a_7 E7 => ?_; clear J K' E6
  refine Lp fun K' J => op1 (E7.at 227 rfl) fun ρ qc qf qg q227 => ?_; go_simp; (try clear qc qf qg q227)
  refine Ln E7 J fun a_8 E8 => ?_; clear J K' E7
  refine Lp fun K' J => op1 (E8.at 233 rfl) fun ρ qc qf qg q233 => ?_; go_simp; (try clear qc qf qg q233)
  refine Ln E8 J fun a_9 E9 => ?_; clear J K' E8
  refine Lp fun K' J => op1 (E9.at 234 rfl) fun ρ qc qf qg q234 => ?_; go_simp; (try clear qc qf qg q234)
  refine Ln E9 J fun a_10 E10 => ?_; clear J K' E9
  refine late_done [6, 7, 8, 9, 10, 11, 12, 13, 14, 15, 16, 17, 18, 19, 20, 21, 22, 23] E10 hK (fun a hE => ?_); clear hK K Q' E10; simp only [lk, pick, Nat.reduceEqDiff, ↓reduceIte] at hE
  have hx9 := hx8.trans (h1.mono hx8.size)
  clear h1
  (repeat with_reducible first|refine ctl ?_|refine miss ?_)
  refine Rs 38 fun Q' K hK => ?_
  refine Lp fun K' J => op1 (hE.at 6 rfl) fun ρ qc qf qg q6 => ?_; go_simp; (try clear qc qf qg q6)
  refine Ln hE J fun a_1 E1 => ?_; clear J K' hE a
  refine Lp fun K' J => op1 (E1.at 7 rfl) fun ρ qc qf qg q7 => ?_; go_simp; (try clear qc qf qg q7)
  refine Ln E1 J fun a_2 E2 => ?_; clear J K' E1
  refine Lp fun K' J => ?_
  have r235 := E2.at 235 rfl; have r236 := E2.at 236 rfl
  refine op2 r235 r236 fun ρ qc qf qg q235 q236 => ?_; go_simp; (try go_bits); (try clear qc qf qg r235 q235 r236 q236)
  (try clear r235 r236)
  refine Ln E2 J fun a_3 E3 => ?_; clear J K' E2
  refine Lp fun K' J => ?_
  have r237 := E3.at 237 rfl
  refine wp_load_mid 35 (.tmp 237) rfl b0 (o0 + i * 7) (eval_of r237) (bkV BA 2 BL bc b) _ (HL.out _ hx9) Try.underlying35 rfl (by kernel_rfl) ?_
  (try clear r237)
  refine Ln E3 J fun a_4 E4 => ?_; clear J K' E3
  refine Lp fun K' J => op1 (E4.at 238 rfl) fun ρ qc qf qg q238 => ?_; go_simp; (try go_bits); (try clear qc qf qg q238)
  go_at_call 44; have hc := pCheck_any BA 2 BL bc b _ (hM.below hx9) hsm; rw [bad_bk HB.out] at hc; refine hc.mono ?_; rintro e x10 ⟨rfl, h1⟩
  (try clear r238)
  refine Ln E4 J fun a_5 E5 => ?_; clear J K' E4
  refine Lp fun K' J => op1 (E5.at 239 rfl) fun ρ qc qf qg q239 => ?_; go_simp; (try go_bits); (try clear qc qf qg q239)
  refine Ln E5 J fun a_6 E6 => ?_; clear J K' E5
  refine Lp fun K' J => op1 (E6.at 240 rfl) fun ρ qc qf qg q240 => ?_; go_simp; (try clear qc qf qg q240)
  refine Ln E6 J fun a_7 E7 => ?_; clear J K' E6
  refine Ly E7 241 fun K' J => ?_
  refine op1 (E7.at 9 rfl) fun ρ qc qf qg q9 => ?_; go_simp; (try clear qc qf qg q9)
  refine Ln E7 J fun a_8 E8 => ?_; clear J K' E7
  refine Ly E8 241 fun K' J => ?_
  refine op1 (E8.at 242 rfl) fun ρ qc qf qg q242 => ?_; go_simp; (try go_bits); (try clear qc qf qg q242)
  refine Ln E8 J fun a_9 E9 => ?_; clear J K' E8
  refine Lp fun K' J => ?_
  have r241 := E9.at 241 rfl; have r243 := E9.at 243 rfl
  refine op2 r241 r243 fun ρ qc qf qg q241 q243 => ?_; go_simp; (try go_bits); (try clear qc qf qg r241 q241 r243 q243)
  (try clear r241 r243)
  refine Ln E9 J fun a_10 E10 => ?_; clear J K' E9
  refine Lp fun K' J => op1 (E10.at 244 rfl) fun ρ qc qf qg q244 => ?_; go_simp; (try clear qc qf qg q244)
  refine Ln E10 J fun a_11 E11 => ?_; clear J K' E10
  refine Ly E11 245 fun K' J => ?_
  refine op1 (E11.at 11 rfl) fun ρ qc qf qg q11 => ?_; go_simp; (try clear qc qf qg q11)
  refine Ln E11 J fun a_12 E12 => ?_; clear J K' E11
  refine Ly E12 245 fun K' J => ?_
  refine op1 (E12.at 246 rfl) fun ρ qc qf qg q246 => ?_; go_simp; (try go_bits); (try clear qc qf qg q246)
  refine Ln E12 J fun a_13 E13 => ?_; clear J K' E12
  refine Lp fun K' J => ?_
  have r245 := E13.at 245 rfl; have r247 := E13.at 247 rfl
  refine op2 r245 r247 fun ρ qc qf qg q245 q247 => ?_; go_simp; (try go_bits); (try clear qc qf qg r245 q245 r247 q247)
  (try clear r245 r247)
  refine Ln E13 J fun a_14 E14 => ?_; clear J K' E13
  refine Lp fun K' J => op1 (E14.at 248 rfl) fun ρ qc qf qg q248 => ?_; go_simp; (try clear qc qf qg q248)
  refine Ln E14 J fun a_15 E15 => ?_; clear J K' E14
  refine Ly E15 249 fun K' J => ?_
  refine op1 (E15.at 13 rfl) fun ρ qc qf qg q13 => ?_; go_simp; (try clear qc qf qg q13)
  refine Ln E15 J fun a_16 E16 => ?_; clear J K' E15
  refine Ly E16 249 fun K' J => ?_
  refine op1 (E16.at 250 rfl) fun ρ qc qf qg q250 => ?_; go_simp; (try go_bits); (try clear qc qf qg q250)
  refine Ln E16 J fun a_17 E17 => ?_; clear J K' E16
  refine Lp fun K' J => ?_
  have r249 := E17.at 249 rfl; have r251 := E17.at 251 rfl
  refine op2 r249 r251 fun ρ qc qf qg q249 q251 => ?_; go_simp; (try go_bits); (try clear qc qf qg r249 q249 r251 q251)
  (try clear r249 r251)
  refine Ln E17 J fun a_18 E18 => ?_; clear J K' E17
  refine Lp fun K' J => op1 (E18.at 252 rfl) fun ρ qc qf qg q252 => ?_; go_simp; (try clear qc qf qg q252)
  refine Ln E18 J fun a_19 E19 => ?_; clear J K' E18
  refine Ly E19 253 fun K' J => ?_
  refine op1 (E19.at 15 rfl) fun ρ qc qf qg q15 => ?_; go_simp; (try clear qc qf qg q15)
  refine Ln E19 J fun a_20 E20 => ?_; clear J K' E19
  refine Ly E20 253 fun K' J => ?_
  refine op1 (E20.at 254 rfl) fun ρ qc qf qg q254 => ?_; go_simp; (try go_bits); (try clear qc qf qg q254)
  refine Ln E20 J fun a_21 E21 => ?_; clear J K' E20
  refine Lp fun K' J => ?_
  have r253 := E21.at 253 rfl; have r255 := E21.at 255 rfl
  refine op2 r253 r255 fun ρ qc qf qg q253 q255 => ?_; go_simp; (try go_bits); (try clear qc qf qg r253 q253 r255 q255)
  (try clear r253 r255)
  refine Ln E21 J fun a_22 E22 => ?_; clear J K' E21
  refine Lp fun K' J => op1 (E22.at 256 rfl) fun ρ qc qf qg q256 => ?_; go_simp; (try clear qc qf qg q256)
  refine Ln E22 J fun a_23 E23 => ?_; clear J K' E22
  refine Ly E23 257 fun K' J => ?_
  refine op1 (E23.at 17 rfl) fun ρ qc qf qg q17 => ?_; go_simp; (try clear qc qf qg q17)
  refine Ln E23 J fun a_24 E24 => ?_; clear J K' E23
  refine Ly E24 257 fun K' J => ?_
  refine op1 (E24.at 258 rfl) fun ρ qc qf qg q258 => ?_; go_simp; (try go_bits); (try clear qc qf qg q258)
  refine Ln E24 J fun a_25 E25 => ?_; clear J K' E24
  refine Lp fun K' J => ?_
  have r257 := E25.at 257 rfl; have r259 := E25.at 259 rfl
  refine op2 r257 r259 fun ρ qc qf qg q257 q259 => ?_; go_simp; (try go_bits); (try clear qc qf qg r257 q257 r259 q259)
  (try clear r257 r259)
  refine Ln E25 J fun a_26 E26 => ?_; clear J K' E25
  refine Lp fun K' J => op1 (E26.at 260 rfl) fun ρ qc qf qg q260 => ?_; go_simp; (try clear qc qf qg q260)
  refine Ln E26 J fun a_27 E27 => ?_; clear J K' E26
  refine Ly E27 261 fun K' J => ?_
  refine op1 (E27.at 19 rfl) fun ρ qc qf qg q19 => ?_; go_simp; (try clear qc qf qg q19)
  refine Ln E27 J fun a_28 E28 => ?_; clear J K' E27
  refine Ly E28 261 fun K' J => ?_
  refine op1 (E28.at 262 rfl) fun ρ qc qf qg q262 => ?_; go_simp; (try go_bits); (try clear qc qf qg q262)
  refine Ln E28 J fun a_29 E29 => ?_; clear J K' E28
  refine Lp fun K' J => ?_
  have r261 := E29.at 261 rfl; have r263 := E29.at 263 rfl
  refine op2 r261 r263 fun ρ qc qf qg q261 q263 => ?_; go_simp; (try go_bits); (try clear qc qf qg r261 q261 r263 q263)
  (try clear r261 r263)
  refine Ln E29 J fun a_30 E30 => ?_; clear J K' E29
  refine Lp fun K' J => op1 (E30.at 264 rfl) fun ρ qc qf qg q264 => ?_; go_simp; (try clear qc qf qg q264)
  refine Ln E30 J fun a_31 E31 => ?_; clear J K' E30
  refine Ly E31 265 fun K' J => ?_
  refine op1 (E31.at 21 rfl) fun ρ qc qf qg q21 => ?_; go_simp; (try clear qc qf qg q21)
  refine Ln E31 J fun a_32 E32 => ?_; clear J K' E31
  refine Ly E32 265 fun K' J => ?_
  refine op1 (E32.at 266 rfl) fun ρ qc qf qg q266 => ?_; go_simp; (try go_bits); (try clear qc qf qg q266)
  refine Ln E32 J fun a_33 E33 => ?_; clear J K' E32
  refine Lp fun K' J => ?_
  have r265 := E33.at 265 rfl; have r267 := E33.at 267 rfl
  refine op2 r265 r267 fun ρ qc qf qg q265 q267 => ?_; go_simp; (try go_bits); (try clear qc qf qg r265 q265 r267 q267)
  (try clear r265 r267)
  refine Ln E33 J fun a_34 E34 => ?_; clear J K' E33
  refine Lp fun K' J => op1 (E34.at 268 rfl) fun ρ qc qf qg q268 => ?_; go_simp; (try clear qc qf qg q268)
  refine Ln E34 J fun a_35 E35 => ?_; clear J K' E34
  refine Ly E35 269 fun K' J => ?_
  refine op1 (E35.at 23 rfl) fun ρ qc qf qg q23 => ?_; go_simp; (try clear qc qf qg q23)
  refine Ln E35 J fun a_36 E36 => ?_; clear J K' E35
  refine Ly E36 269 fun K' J => ?_
  refine op1 (E36.at 270 rfl) fun ρ qc qf qg q270 => ?_; go_simp; (try go_bits); (try clear qc qf qg q270)
  refine Ln E36 J fun a_37 E37 => ?_; clear J K' E36
  refine Lp fun K' J => ?_
  have r269 := E37.at 269 rfl; have r271 := E37.at 271 rfl
  refine op2 r269 r271 fun ρ qc qf qg q269 q271 => ?_; go_simp; (try go_bits); (try clear qc qf qg r269 q269 r271 q271)
  (try clear r269 r271)
  refine Ln E37 J fun a_38 E38 => ?_; clear J K' E37
  refine late_done [6, 7, 272] E38 hK (fun a hE => ?_); clear hK K Q' E38; simp only [lk, pick, Nat.reduceEqDiff, ↓reduceIte] at hE
  have hx10 := hx9.trans (h1.mono hx9.size)
  clear h1
  (repeat with_reducible first|refine ctl ?_|refine miss ?_)
  refine cond_no hE (t := 272) rfl ?_
  (repeat with_reducible first|refine ctl ?_|refine miss ?_)
  refine Rs 3 fun Q' K hK => ?_
  refine Lp fun K' J => op1 (hE.at 7 rfl) fun ρ qc qf qg q7 => ?_; go_simp; (try clear qc qf qg q7)
  refine Ln hE J fun a_1 E1 => ?_; clear J K' hE a
  refine Lp fun K' J => ?_
  have r169 := E1.at 169 rfl; refine op1 r169 fun ρ qc qf qg q169 => ?_; go_simp; (try go_bits); (try simp (disch := omega) only [IntWalk.i64_in]); (try clear qc qf qg r169 q169)
  refine Ln E1 J fun a_2 E2 => ?_; clear J K' E1
  refine Lp fun K' J => op1 (E2.at 170 rfl) fun ρ qc qf qg q170 => ?_; go_simp; (try clear qc qf qg q170)
  refine Ln E2 J fun a_3 E3 => ?_; clear J K' E2
  refine late_done [6, 7] E3 hK (fun a hE => ?_); clear hK K Q' E3; simp only [lk, pick, Nat.reduceEqDiff, ↓reduceIte] at hE
  (repeat with_reducible first|refine ctl ?_|refine miss ?_)
  exact ⟨i + 1, ⟨hlt, by simpa using hE, hW.trans (hx10.mono hW.size)⟩, by omega⟩
 ·(repeat with_reducible first|refine ctlE ?_|refine miss ?_)
  exact known_asks w _ (hb.trans (hW.mono hb.size)) _ _ hE
theorem known_books (w V : World) (hb : Below w.heap.size w V) (e : Env) (a : Act) (hE : Fits 562 e a) : (cr 3 (bodyOf Try.f10)).wp Try.prog (bodyPost Try.prog Try.f10 fun e w' => e = .returned (.bool true) ∧ Below w.heap.size w w') a V :=
 known_r10 (fun _ _ _ _ => known_r11 (known_r12 (known_r13 (known_r14 (known_r15 (known_r16 (known_r17 fun w V hb o hF a hE => known_bads w V hb _ o hF a hE))))))) w V hb e a hE
set_option maxHeartbeats 4000000 in
theorem nknown_any (w : World) : Calls Try.prog 10 #[] w fun e w' => e = .returned (.bool true) ∧ Below w.heap.size w w' := by
 refine enterE Try.func10 rfl Try.ntmps10 (by simp) (fun a hE => ?_); simp only [envOf, Nat.zero_add, Nat.reduceAdd] at hE
 (repeat with_reducible first|refine ctl ?_|refine miss ?_)
 refine Rs 1 fun Q' K hK => ?_
 refine Lp fun K' J => ?_
 refine op0 fun ρ qc qf qg => ?_; go_simp; (try clear qc qf qg)
 refine Ln hE J fun a_1 E1 => ?_; clear J K' hE a
 refine late_done [0] E1 hK (fun a hE => ?_); clear hK K Q' E1; simp only [lk, pick, Nat.reduceEqDiff, ↓reduceIte] at hE
 (repeat with_reducible first|refine ctlE ?_|refine miss ?_)
 exact known_ears known_books w w (Below.refl _ _) _ _ hE
end Go.Proofs.Ytbimkcjdodgojaa
