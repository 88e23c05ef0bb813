/- Name: the law of Wrong and Ask, walked. -/
import Derived.Test.YtbimkcjdodgojaaGreatKBNdt
import Derived.Test.YtbimkcjdodgojaaGreatKBNbf

namespace Go.Proofs.YtbimkcjdodgojaaGreat
set_option linter.unusedSimpArgs false
set_option linter.unusedVariables false
open Go Go.RowKit
attribute [local go_sem high] cell_set_wr
attribute [local go_sem low] cell_wr frozen_wr
attribute [local go_sem] wr_set wr_drew wr_drewN wr_alloc wr_new Rho.c Rho.n Rho.g
theorem equal_self {T T2 : Option Addr} {c c2 : Nat} {t : List Nat} {w : World} (h1 : ArrD w T (nats t)) (h2 : ArrD w T2 (nats t)) (hl : t.length ≤ 9) : Calls Tryz.prog 24 #[.slice T t.length c, .slice T2 t.length c2] w fun e w' => e = .returned (.bool true) ∧ Below w.heap.size w w' := by
 have h := equalN_any T T2 c c2 (t.map fun (n : Nat) => (n : Int)) (t.map fun (n : Nat) => (n : Int)) w (by rw [← nats_ints]; exact h1) (by rw [← nats_ints]; exact h2) (by rw [List.length_map]; omega)
 rw [List.length_map, decide_eq_true rfl] at h
 exact h
theorem pWrongL_short {b : Bk} : (pWrongL b).length ≤ 9 := by
 cases ho : b.ok
 ·unfold pWrongL; rw [ho]; simp
 ·have h9 := ok_nine ho
  have h : pWrongL b = bestR b (2 ^ b.lines.length) := by unfold pWrongL; rw [ho, best_done (ok_lost ho).1]; rfl
  rw [h]
  exact Nat.le_trans (bestR_len b _) h9
section
variable (A : Option Addr) (cap : Nat) (L : Option Addr) (lcap : Nat) (b : Bk)
set_option maxRecDepth 100000 in
set_option maxHeartbeats 4000000 in
theorem nwrongs_any (w : World) (hM : BkAt w A L b) (hs : b.small cap lcap) (hz : ∀ i (h : i < b.ear.alike.length), b.ear.alike[i].size ≤ 9223372036854775807) : Calls Tryz.prog 5 #[.agg (bkV A cap L lcap b).toArray] w fun e w' => e = .returned (.bool true) ∧ Below w.heap.size w w' := by
 have C1 := hid fun W hW => pWrong_any A cap L lcap b W hW hs
 have C2 := hid fun W hW => rWrong_full A cap L lcap b W hW hs hz
 have C3 := hid fun W hW => pAsk_any A cap L lcap b W hW hs
 have C4 := hid fun W hW => rAsk_full A cap L lcap b W hW hs hz
 have hj9 := pWrongL_short (b := b)
 obtain ⟨p1, hp1⟩ : ∃ p, (pAskR b).1 = p := ⟨_, rfl⟩
 obtain ⟨p2, hp2⟩ : ∃ p, (pAskR b).2 = p := ⟨_, rfl⟩
 obtain ⟨p3, hp3⟩ : ∃ p, bkE b = p := ⟨_, rfl⟩
 obtain ⟨j, hj⟩ : ∃ p, pWrongL b = p := ⟨_, rfl⟩
 rw [hj, hp3] at C1 C2
 rw [hp1, hp2] at C3 C4
 rw [hj] at hj9
 clear hp1 hp2 hp3 hj hz
 simp only [bkV] at C1 C2 C3 C4 ⊢
 refine enterE Tryz.func5 rfl Tryz.ntmps5 (by simp) (fun a hE => ?_); simp only [envOf, Nat.zero_add, Nat.reduceAdd] at hE
 refine Ks ?_
 refine Rs 2 fun Q' K hK => ?_
 refine M1 hE 0 fun K' J ρ q0 => ?_; go_simp
 refine Ln hE J fun _ Eb => ?_; clear J K' hE a q0
 refine M0 fun K' J ρ => ?_; go_simp;
 refine Ln Eb J fun _ Ea => ?_; clear J K' Eb
 refine Ld [1] Ea hK fun a hE => ?_; clear hK K Q' Ea
 obtain ⟨B, hBe⟩ : ∃ B, B = w.heap.size := ⟨_, rfl⟩; rw [← hBe] at hE; refine world_cut (fun wt => Below w.heap.size w wt ∧ Cells wt B (bkV A cap L lcap b)) ⟨(Below.refl _ _).alloc (Nat.le_refl _) _, by rw [hBe]; exact cells_new _ _ _⟩ (fun w1 hCut => ?_); obtain ⟨hbw1, hCB⟩ := hCut; clear hBe
 simp only [bkV] at hCB
 replace hM := hM.below hbw1
 obtain ⟨nB, cB0, cB1, cB2, cB3, cB4, cB5, cB6⟩ := hCB.c7
 refine Ks ?_
 refine Rs 7 fun Q' K hK => ?_
 refine M1 hE 1 fun K' J ρ q1 => ?_; go_simp
 refine Ln hE J fun _ Eb => ?_; clear J K' hE a q1
 refine M1 Eb 10 fun K' J ρ q10 => ?_; go_simp; (try go_bits); (try clear q10)
 go_at_call 22; refine (C1.out _ hM).mono ?_; rintro e w2 ⟨⟨T1, d1, rfl, hJ1⟩, h2⟩; have hbw2 := hbw1.trans (h2.mono hbw1.size); replace hCB := hCB.below h2; clear nB cB0 cB1 cB2 cB3 cB4 cB5 cB6; obtain ⟨nB, cB0, cB1, cB2, cB3, cB4, cB5, cB6⟩ := hCB.c7; replace hM := hM.below h2
 (try clear r10)
 refine Ln Eb J fun _ Ea => ?_; clear J K' Eb
 refine M1 Ea 11 fun K' J ρ q11 => ?_; go_simp
 refine Ln Ea J fun _ Eb => ?_; clear J K' Ea q11
 refine M1 Eb 9 fun K' J ρ q9 => ?_; go_simp
 refine Ln Eb J fun _ Ea => ?_; clear J K' Eb q9
 refine M1 Ea 9 fun K' J ρ q9 => ?_; go_simp
 refine Ln Ea J fun _ Eb => ?_; clear J K' Ea q9
 refine M1 Eb 12 fun K' J ρ q12 => ?_; go_simp
 refine Ln Eb J fun _ Ea => ?_; clear J K' Eb q12
 refine M1 Ea 13 fun K' J ρ q13 => ?_; go_simp
 refine Ln Ea J fun _ Eb => ?_; clear J K' Ea q13
 refine Ld [1, 3, 4] Eb hK fun a hE => ?_; clear hK K Q' Eb
 refine Ks ?_
 refine Rs 7 fun Q' K hK => ?_
 refine M1 hE 1 fun K' J ρ q1 => ?_; go_simp
 refine Ln hE J fun _ Eb => ?_; clear J K' hE a q1
 refine M1 Eb 15 fun K' J ρ q15 => ?_; go_simp; (try go_bits); (try clear q15)
 go_at_call 23; refine (C2.out _ hM).mono ?_; rintro e w3 ⟨⟨T2, d2, rfl, hJ2⟩, h3⟩; have hbw3 := hbw2.trans (h3.mono hbw2.size); replace hCB := hCB.below h3; clear nB cB0 cB1 cB2 cB3 cB4 cB5 cB6; obtain ⟨nB, cB0, cB1, cB2, cB3, cB4, cB5, cB6⟩ := hCB.c7; replace hM := hM.below h3
 (try clear r15)
 refine Ln Eb J fun _ Ea => ?_; clear J K' Eb
 refine M1 Ea 16 fun K' J ρ q16 => ?_; go_simp
 refine Ln Ea J fun _ Eb => ?_; clear J K' Ea q16
 refine M1 Eb 14 fun K' J ρ q14 => ?_; go_simp
 refine Ln Eb J fun _ Ea => ?_; clear J K' Eb q14
 refine M1 Ea 14 fun K' J ρ q14 => ?_; go_simp
 refine Ln Ea J fun _ Eb => ?_; clear J K' Ea q14
 refine M1 Eb 17 fun K' J ρ q17 => ?_; go_simp
 refine Ln Eb J fun _ Ea => ?_; clear J K' Eb q17
 refine M1 Ea 18 fun K' J ρ q18 => ?_; go_simp
 refine Ln Ea J fun _ Eb => ?_; clear J K' Ea q18
 refine Ld [1, 3, 4, 5, 6] Eb hK fun a hE => ?_; clear hK K Q' Eb
 refine Ks ?_
 refine Rs 9 fun Q' K hK => ?_
 refine M1 hE 3 fun K' J ρ q3 => ?_; go_simp
 refine Ln hE J fun _ Eb => ?_; clear J K' hE a q3
 refine M1 Eb 5 fun K' J ρ q5 => ?_; go_simp
 refine Ln Eb J fun _ Ea => ?_; clear J K' Eb q5
 refine M2 Ea 19 20 fun K' J ρ q19 q20 => ?_; go_simp; (try go_bits); (try clear q19 q20)
 go_at_call 24; refine (equal_self (ArrD.below hJ1 h3) hJ2 hj9).mono ?_; rintro e w4 ⟨rfl, h4⟩; have hbw4 := hbw3.trans (h4.mono hbw3.size); replace hCB := hCB.below h4; clear nB cB0 cB1 cB2 cB3 cB4 cB5 cB6; obtain ⟨nB, cB0, cB1, cB2, cB3, cB4, cB5, cB6⟩ := hCB.c7; replace hM := hM.below h4
 (try clear r19 r20)
 refine Ln Ea J fun _ Eb => ?_; clear J K' Ea
 refine M1 Eb 21 fun K' J ρ q21 => ?_; go_simp; (try go_bits); (try simp (disch := omega) only [IntWalk.i64_in])
 refine Ln Eb J fun _ Ea => ?_; clear J K' Eb q21
 refine M1 Ea 22 fun K' J ρ q22 => ?_; go_simp
 refine Ln Ea J fun _ Eb => ?_; clear J K' Ea q22
 refine N1 Eb 23 4 fun K' J ρ q4 => ?_; go_simp
 refine Ln Eb J fun _ Ea => ?_; clear J K' Eb q4
 refine N1 Ea 23 6 fun K' J ρ q6 => ?_; go_simp
 refine Ln Ea J fun _ Eb => ?_; clear J K' Ea q6
 refine N2 Eb 23 24 25 fun K' J ρ q24 q25 => ?_; go_simp; (try go_bits)
 refine Ln Eb J fun _ Ea => ?_; clear J K' Eb q24 q25
 refine M2 Ea 23 26 fun K' J ρ q23 q26 => ?_; go_simp; (try go_bits)
 refine Ln Ea J fun _ Eb => ?_; clear J K' Ea q23 q26
 replace Eb := Eb.turn 27 (v' := .bool false) rfl (by (first | rfl | simp))
 refine Ld [1, 27] Eb hK fun a hE => ?_; clear hK K Q' Eb
 refine Ks ?_
 refine cond_no hE (t := 27) rfl ?_
 refine Ks ?_
 refine Rs 7 fun Q' K hK => ?_
 refine M1 hE 1 fun K' J ρ q1 => ?_; go_simp
 refine Ln hE J fun _ Eb => ?_; clear J K' hE a q1
 refine M1 Eb 29 fun K' J ρ q29 => ?_; go_simp; (try go_bits); (try clear q29)
 go_at_call 25; refine (C3.out _ hM).mono ?_; rintro e w5 ⟨rfl, h5⟩; have hbw5 := hbw4.trans (h5.mono hbw4.size); replace hCB := hCB.below h5; clear nB cB0 cB1 cB2 cB3 cB4 cB5 cB6; obtain ⟨nB, cB0, cB1, cB2, cB3, cB4, cB5, cB6⟩ := hCB.c7; replace hM := hM.below h5
 (try clear r29)
 refine Ln Eb J fun _ Ea => ?_; clear J K' Eb
 refine M1 Ea 30 fun K' J ρ q30 => ?_; go_simp
 refine Ln Ea J fun _ Eb => ?_; clear J K' Ea q30
 refine M1 Eb 28 fun K' J ρ q28 => ?_; go_simp
 refine Ln Eb J fun _ Ea => ?_; clear J K' Eb q28
 refine M1 Ea 28 fun K' J ρ q28 => ?_; go_simp
 refine Ln Ea J fun _ Eb => ?_; clear J K' Ea q28
 refine M1 Eb 31 fun K' J ρ q31 => ?_; go_simp
 refine Ln Eb J fun _ Ea => ?_; clear J K' Eb q31
 refine M1 Ea 32 fun K' J ρ q32 => ?_; go_simp
 refine Ln Ea J fun _ Eb => ?_; clear J K' Ea q32
 refine Ld [1, 4, 7] Eb hK fun a hE => ?_; clear hK K Q' Eb
 refine Ks ?_
 refine Rs 7 fun Q' K hK => ?_
 refine M1 hE 1 fun K' J ρ q1 => ?_; go_simp
 refine Ln hE J fun _ Eb => ?_; clear J K' hE a q1
 refine M1 Eb 34 fun K' J ρ q34 => ?_; go_simp; (try go_bits); (try clear q34)
 go_at_call 26; refine (C4.out _ hM).mono ?_; rintro e w6 ⟨rfl, h6⟩; have hbw6 := hbw5.trans (h6.mono hbw5.size); replace hCB := hCB.below h6; clear nB cB0 cB1 cB2 cB3 cB4 cB5 cB6; obtain ⟨nB, cB0, cB1, cB2, cB3, cB4, cB5, cB6⟩ := hCB.c7; replace hM := hM.below h6
 (try clear r34)
 refine Ln Eb J fun _ Ea => ?_; clear J K' Eb
 refine M1 Ea 35 fun K' J ρ q35 => ?_; go_simp
 refine Ln Ea J fun _ Eb => ?_; clear J K' Ea q35
 refine M1 Eb 33 fun K' J ρ q33 => ?_; go_simp
 refine Ln Eb J fun _ Ea => ?_; clear J K' Eb q33
 refine M1 Ea 33 fun K' J ρ q33 => ?_; go_simp
 refine Ln Ea J fun _ Eb => ?_; clear J K' Ea q33
 refine M1 Eb 36 fun K' J ρ q36 => ?_; go_simp
 refine Ln Eb J fun _ Ea => ?_; clear J K' Eb q36
 refine M1 Ea 37 fun K' J ρ q37 => ?_; go_simp
 refine Ln Ea J fun _ Eb => ?_; clear J K' Ea q37
 refine Ld [4, 6, 7, 8] Eb hK fun a hE => ?_; clear hK K Q' Eb
 refine Ks ?_
 refine Rs 12 fun Q' K hK => ?_
 refine M1 hE 7 fun K' J ρ q7 => ?_; go_simp
 refine Ln hE J fun _ Eb => ?_; clear J K' hE a q7
 refine M1 Eb 8 fun K' J ρ q8 => ?_; go_simp
 refine Ln Eb J fun _ Ea => ?_; clear J K' Eb q8
 refine M2 Ea 38 39 fun K' J ρ q38 q39 => ?_; go_simp; (try go_bits)
 refine Ln Ea J fun _ Eb => ?_; clear J K' Ea q38 q39
 refine M1 Eb 40 fun K' J ρ q40 => ?_; go_simp
 refine Ln Eb J fun _ Ea => ?_; clear J K' Eb q40
 refine N1 Ea 41 4 fun K' J ρ q4 => ?_; go_simp
 refine Ln Ea J fun _ Eb => ?_; clear J K' Ea q4
 refine N1 Eb 41 6 fun K' J ρ q6 => ?_; go_simp
 refine Ln Eb J fun _ Ea => ?_; clear J K' Eb q6
 refine N2 Ea 41 42 43 fun K' J ρ q42 q43 => ?_; go_simp; (try go_bits)
 refine Ln Ea J fun _ Eb => ?_; clear J K' Ea q42 q43
 refine M2 Eb 41 44 fun K' J ρ q41 q44 => ?_; go_simp; (try go_bits)
 refine Ln Eb J fun _ Ea => ?_; clear J K' Eb q41 q44
 refine M1 Ea 45 fun K' J ρ q45 => ?_; go_simp
 refine Ln Ea J fun _ Eb => ?_; clear J K' Ea q45
 refine Ly Eb 46 fun K' J => ?_
 refine o0 fun ρ => ?_; go_simp; (try go_bits);
 go_at_call 14; refine (written_any _).mono ?_; rintro e w7 ⟨rfl, h7⟩; have hbw7 := hbw6.trans (h7.mono hbw6.size); replace hCB := hCB.below h7; clear nB cB0 cB1 cB2 cB3 cB4 cB5 cB6; obtain ⟨nB, cB0, cB1, cB2, cB3, cB4, cB5, cB6⟩ := hCB.c7; replace hM := hM.below h7
 refine Ln Eb J fun _ Ea => ?_; clear J K' Eb
 refine M2 Ea 46 47 fun K' J ρ q46 q47 => ?_; go_simp; (try go_bits)
 refine Ln Ea J fun _ Eb => ?_; clear J K' Ea q46 q47
 refine M1 Eb 48 fun K' J ρ q48 => ?_; go_simp
 refine Ln Eb J fun _ Ea => ?_; clear J K' Eb q48
 refine Ld [2] Ea hK fun a hE => ?_; clear hK K Q' Ea
 refine Ks ?_
 exact ret_one hE rfl rfl ⟨rfl, hbw7⟩
end
end Go.Proofs.YtbimkcjdodgojaaGreat
