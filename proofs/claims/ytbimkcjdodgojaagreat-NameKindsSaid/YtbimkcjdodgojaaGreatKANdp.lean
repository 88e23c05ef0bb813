/- Name: the law of Kind, Joined and People, walked. -/
import Derived.Test.YtbimkcjdodgojaaGreatKANdl
import Derived.Test.YtbimkcjdodgojaaGreatKANbf
import Derived.Test.YtbimkcjdodgojaaGreatKANdp1
import Derived.Test.YtbimkcjdodgojaaGreatKANbe

namespace Go.Proofs.YtbimkcjdodgojaaGreat
set_option linter.unusedSimpArgs false
set_option linter.unusedVariables false
open Go Go.RowKit
attribute [local go_sem high] cell_set_wr
attribute [local go_sem low] cell_wr frozen_wr
attribute [local go_sem] wr_set wr_drew wr_drewN wr_alloc wr_new Rho.c Rho.n Rho.g
theorem cells_two (w : World) (a b : Array Value) (ta tb : TypeId) : Below w.heap.size w ((w.alloc (.cells a ta)).alloc (.cells b tb)) ∧ Cells ((w.alloc (.cells a ta)).alloc (.cells b tb)) w.heap.size a.toList ∧ Cells ((w.alloc (.cells a ta)).alloc (.cells b tb)) (w.heap.size + 1) b.toList := by
 have h1 : (w.alloc (.cells a ta)).heap.size = w.heap.size + 1 := by simp
 have k1 := cells_new w a ta
 have k2 := cells_new (w.alloc (.cells a ta)) b tb
 rw [h1] at k2
 have b2 := (Below.refl (w.alloc (.cells a ta)).heap.size (w.alloc (.cells a ta))).alloc (Nat.le_refl _) (.cells b tb)
 exact ⟨((Below.refl _ _).alloc (Nat.le_refl _) _).alloc (by rw [h1]; omega) _, k1.below b2, k2⟩
section
variable (A : Option Addr) (cap : Nat) (L : Option Addr) (lcap : Nat) (b : Bk)
end
end Go.Proofs.YtbimkcjdodgojaaGreat
namespace Go.Proofs.YtbimkcjdodgojaaGreat
set_option linter.unusedSimpArgs false
set_option linter.unusedVariables false
open Go Go.RowKit
attribute [local go_sem high] cell_set_wr
attribute [local go_sem low] cell_wr frozen_wr
attribute [local go_sem] wr_set wr_drew wr_drewN wr_alloc wr_new Rho.c Rho.n Rho.g
theorem pJoinedL_short (b : Bk) : (pJoinedL b).length ≤ 9 := by
 by_cases h : setE b true = 0
 ·obtain ⟨hbo, _, hts⟩ := setE_ok h
  have h9 := ok_nine hbo
  have hpos : 0 < b.ts.length := by omega
  have hm : b.ts[0] ∈ b.ts := List.getElem_mem hpos
  unfold pJoinedL
  rw [if_pos h, ← joined_eq h9 hm]
  exact Nat.le_trans (List.length_filter_le _ _) (truthsR_short h9 ((mem_truthsR b _).2 hm))
 ·unfold pJoinedL
  rw [if_neg h]
  exact Nat.zero_le _
theorem pairsI_cast (t : Prs) : pairsI (t.map castP) = pairsV t := by
 unfold pairsI pairsV
 rw [List.flatMap_map]
 rfl
theorem same_self {T T2 : Option Addr} {c c2 : Nat} {t : Prs} {w : World} (h1 : ArrD w T (pairsV t)) (h2 : ArrD w T2 (pairsV t)) (hl : t.length ≤ 9) : Calls Tryz.prog 19 #[.slice T t.length c, .slice T2 t.length c2] w fun e w' => e = .returned (.bool true) ∧ Below w.heap.size w w' := by
 have h := rsame_any T c t T2 c2 (t.map castP) w h1 (by rw [pairsI_cast]; exact h2) (by omega) (by rw [List.length_map]; omega)
 rw [List.length_map] at h
 have e : sameP t (t.map castP) = true := by unfold sameP; exact beq_self_eq_true _
 rw [e] at h
 exact h
section
variable (A : Option Addr) (cap : Nat) (L : Option Addr) (lcap : Nat) (b : Bk)
set_option maxRecDepth 100000 in
set_option maxHeartbeats 4000000 in
theorem nkinds_any (n m : Int) (w : World) (hM : BkAt w A L b) (hs : b.small cap lcap) (hz : ∀ i (h : i < b.ear.alike.length), b.ear.alike[i].size ≤ 9223372036854775807) : Calls Tryz.prog 4 #[.agg (bkV A cap L lcap b).toArray, .agg #[.int .i64 n, .int .i64 m]] w fun e w' => e = .returned (.bool true) ∧ Below w.heap.size w w' := by
 have C1 := hid fun W hW => pKind_any A cap L lcap b n m W hW hs
 have C2 := hid fun W hW => rKind_full A cap L lcap b n m W hW hs hz
 have C3 := hid fun W hW => pJoined_any A cap L lcap b W hW hs
 have C4 := hid fun W hW => rJoined_full A cap L lcap b W hW hs hz
 have C5 := hid fun W hW => pPeople_any A cap L lcap b W hW hs
 have C6 := hid fun W hW => rPeople_full A cap L lcap b W hW hs hz
 have hj9 := pJoinedL_short b
 obtain ⟨p1, hp1⟩ : ∃ p, (pKindR b n m).1 = p := ⟨_, rfl⟩
 obtain ⟨p2, hp2⟩ : ∃ p, (pKindR b n m).2 = p := ⟨_, rfl⟩
 obtain ⟨p3, hp3⟩ : ∃ p, setE b true = p := ⟨_, rfl⟩
 obtain ⟨j, hj⟩ : ∃ p, pJoinedL b = p := ⟨_, rfl⟩
 obtain ⟨p4, hp4⟩ : ∃ p, (pPeopleR b).1 = p := ⟨_, rfl⟩
 obtain ⟨p5, hp5⟩ : ∃ p, (pPeopleR b).2 = p := ⟨_, rfl⟩
 rw [hp1, hp2] at C1 C2
 rw [hj, hp3] at C3 C4
 rw [hp4, hp5, hp3] at C5 C6
 rw [hj] at hj9
 clear hp1 hp2 hp3 hp4 hp5 hj hz
 simp only [bkV] at C1 C2 C3 C4 C5 C6 ⊢
 refine enterE Tryz.func4 rfl Tryz.ntmps4 (by simp) (fun a hE => ?_); simp only [envOf, Nat.zero_add, Nat.reduceAdd] at hE
 refine Ks ?_
 refine Rs 3 fun Q' K hK => ?_
 refine M1 hE 0 fun K' J ρ q0 => ?_; go_simp
 refine Ln hE J fun _ Eb => ?_; clear J K' hE a q0
 refine M1 Eb 1 fun K' J ρ q1 => ?_; go_simp
 refine Ln Eb J fun _ Ea => ?_; clear J K' Eb q1
 refine M0 fun K' J ρ => ?_; go_simp;
 refine Ln Ea J fun _ Eb => ?_; clear J K' Ea
 refine Ld [2, 3] Eb hK fun a hE => ?_; clear hK K Q' Eb
 obtain ⟨B, hXe⟩ : ∃ B, B = w.heap.size := ⟨_, rfl⟩; obtain ⟨C, hYe⟩ : ∃ B, B = w.heap.size + 1 := ⟨_, rfl⟩; rw [← hYe, ← hXe] at hE; refine world_cut (fun wt => Below w.heap.size w wt ∧ Cells wt B [.slice A b.ear.alike.length cap, .string b.ear.mute, .int .i64 b.ear.slips, .slice L b.lines.length lcap, .int .i64 b.lo, .int .i64 b.hi, .int .i64 b.lost] ∧ Cells wt C [.int .i64 n, .int .i64 m]) (by rw [hXe, hYe]; exact cells_two _ _ _ _ _) (fun w1 hCut => ?_); obtain ⟨hbw1, hCB, hCC⟩ := hCut; clear hXe hYe
 replace hM := hM.below hbw1
 obtain ⟨nB, cB0, cB1, cB2, cB3, cB4, cB5, cB6⟩ := hCB.c7
 obtain ⟨nC, cC0, cC1⟩ := hCC.c2
 refine Ks ?_
 refine Rs 11 fun Q' K hK => ?_
 refine M1 hE 2 fun K' J ρ q2 => ?_; go_simp
 refine Ln hE J fun _ Eb => ?_; clear J K' hE a q2
 refine M1 Eb 3 fun K' J ρ q3 => ?_; go_simp; (try go_bits)
 refine Ln Eb J fun _ Ea => ?_; clear J K' Eb q3
 refine M1 Ea 15 fun K' J ρ q15 => ?_; go_simp
 refine Ln Ea J fun _ Eb => ?_; clear J K' Ea q15
 refine M1 Eb 3 fun K' J ρ q3 => ?_; go_simp; (try go_bits)
 refine Ln Eb J fun _ Ea => ?_; clear J K' Eb q3
 refine M1 Ea 17 fun K' J ρ q17 => ?_; go_simp
 refine Ln Ea J fun _ Eb => ?_; clear J K' Ea q17
 refine M3 Eb 14 16 18 fun K' J ρ q14 q16 q18 => ?_; go_simp; (try go_bits); (try clear q14 q16 q18)
 go_at_call 15; refine (C1.out _ hM).mono ?_; rintro e w2 ⟨rfl, h2⟩; have hbw2 := hbw1.trans (h2.mono hbw1.size); replace hCB := hCB.below h2; clear nB cB0 cB1 cB2 cB3 cB4 cB5 cB6; obtain ⟨nB, cB0, cB1, cB2, cB3, cB4, cB5, cB6⟩ := hCB.c7; replace hCC := hCC.below h2; clear nC cC0 cC1; obtain ⟨nC, cC0, cC1⟩ := hCC.c2; replace hM := hM.below h2
 (try clear r14 r16 r18)
 refine Ln Eb J fun _ Ea => ?_; clear J K' Eb
 refine M1 Ea 19 fun K' J ρ q19 => ?_; go_simp
 refine Ln Ea J fun _ Eb => ?_; clear J K' Ea q19
 refine M1 Eb 13 fun K' J ρ q13 => ?_; go_simp
 refine Ln Eb J fun _ Ea => ?_; clear J K' Eb q13
 refine M1 Ea 13 fun K' J ρ q13 => ?_; go_simp
 refine Ln Ea J fun _ Eb => ?_; clear J K' Ea q13
 refine M1 Eb 20 fun K' J ρ q20 => ?_; go_simp
 refine Ln Eb J fun _ Ea => ?_; clear J K' Eb q20
 refine M1 Ea 21 fun K' J ρ q21 => ?_; go_simp
 refine Ln Ea J fun _ Eb => ?_; clear J K' Ea q21
 refine Ld [2, 3, 5, 6] Eb hK fun a hE => ?_; clear hK K Q' Eb
 refine Ks ?_
 refine Rs 11 fun Q' K hK => ?_
 refine M1 hE 2 fun K' J ρ q2 => ?_; go_simp
 refine Ln hE J fun _ Eb => ?_; clear J K' hE a q2
 refine M1 Eb 3 fun K' J ρ q3 => ?_; go_simp; (try go_bits)
 refine Ln Eb J fun _ Ea => ?_; clear J K' Eb q3
 refine M1 Ea 24 fun K' J ρ q24 => ?_; go_simp
 refine Ln Ea J fun _ Eb => ?_; clear J K' Ea q24
 refine M1 Eb 3 fun K' J ρ q3 => ?_; go_simp; (try go_bits)
 refine Ln Eb J fun _ Ea => ?_; clear J K' Eb q3
 refine M1 Ea 26 fun K' J ρ q26 => ?_; go_simp
 refine Ln Ea J fun _ Eb => ?_; clear J K' Ea q26
 refine M3 Eb 23 25 27 fun K' J ρ q23 q25 q27 => ?_; go_simp; (try go_bits); (try clear q23 q25 q27)
 go_at_call 16; refine (C2.out _ hM).mono ?_; rintro e w3 ⟨rfl, h3⟩; have hbw3 := hbw2.trans (h3.mono hbw2.size); replace hCB := hCB.below h3; clear nB cB0 cB1 cB2 cB3 cB4 cB5 cB6; obtain ⟨nB, cB0, cB1, cB2, cB3, cB4, cB5, cB6⟩ := hCB.c7; replace hCC := hCC.below h3; clear nC cC0 cC1; obtain ⟨nC, cC0, cC1⟩ := hCC.c2; replace hM := hM.below h3
 (try clear r23 r25 r27)
 refine Ln Eb J fun _ Ea => ?_; clear J K' Eb
 refine M1 Ea 28 fun K' J ρ q28 => ?_; go_simp
 refine Ln Ea J fun _ Eb => ?_; clear J K' Ea q28
 refine M1 Eb 22 fun K' J ρ q22 => ?_; go_simp
 refine Ln Eb J fun _ Ea => ?_; clear J K' Eb q22
 refine M1 Ea 22 fun K' J ρ q22 => ?_; go_simp
 refine Ln Ea J fun _ Eb => ?_; clear J K' Ea q22
 refine M1 Eb 29 fun K' J ρ q29 => ?_; go_simp
 refine Ln Eb J fun _ Ea => ?_; clear J K' Eb q29
 refine M1 Ea 30 fun K' J ρ q30 => ?_; go_simp
 refine Ln Ea J fun _ Eb => ?_; clear J K' Ea q30
 refine Ld [2, 5, 6, 7, 8] Eb hK fun a hE => ?_; clear hK K Q' Eb
 refine Ks ?_
 refine Rs 8 fun Q' K hK => ?_
 refine M1 hE 5 fun K' J ρ q5 => ?_; go_simp
 refine Ln hE J fun _ Eb => ?_; clear J K' hE a q5
 refine M1 Eb 7 fun K' J ρ q7 => ?_; go_simp
 refine Ln Eb J fun _ Ea => ?_; clear J K' Eb q7
 refine M2 Ea 31 32 fun K' J ρ q31 q32 => ?_; go_simp; (try go_bits)
 refine Ln Ea J fun _ Eb => ?_; clear J K' Ea q31 q32
 refine M1 Eb 33 fun K' J ρ q33 => ?_; go_simp
 refine Ln Eb J fun _ Ea => ?_; clear J K' Eb q33
 refine N1 Ea 34 6 fun K' J ρ q6 => ?_; go_simp
 refine Ln Ea J fun _ Eb => ?_; clear J K' Ea q6
 refine N1 Eb 34 8 fun K' J ρ q8 => ?_; go_simp
 refine Ln Eb J fun _ Ea => ?_; clear J K' Eb q8
 refine N2 Ea 34 35 36 fun K' J ρ q35 q36 => ?_; go_simp; (try go_bits)
 refine Ln Ea J fun _ Eb => ?_; clear J K' Ea q35 q36
 refine M2 Eb 34 37 fun K' J ρ q34 q37 => ?_; go_simp; (try go_bits)
 refine Ln Eb J fun _ Ea => ?_; clear J K' Eb q34 q37
 replace Ea := Ea.turn 38 (v' := .bool false) rfl (by (first | rfl | simp))
 refine Ld [2, 38] Ea hK fun a hE => ?_; clear hK K Q' Ea
 refine Ks ?_
 refine cond_no hE (t := 38) rfl ?_
 refine Ks ?_
 refine Rs 7 fun Q' K hK => ?_
 refine M1 hE 2 fun K' J ρ q2 => ?_; go_simp
 refine Ln hE J fun _ Eb => ?_; clear J K' hE a q2
 refine M1 Eb 40 fun K' J ρ q40 => ?_; go_simp; (try go_bits); (try clear q40)
 go_at_call 17; refine (C3.out _ hM).mono ?_; rintro e w4 ⟨⟨T1, d1, rfl, hJ1⟩, h4⟩; have hbw4 := hbw3.trans (h4.mono hbw3.size); replace hCB := hCB.below h4; clear nB cB0 cB1 cB2 cB3 cB4 cB5 cB6; obtain ⟨nB, cB0, cB1, cB2, cB3, cB4, cB5, cB6⟩ := hCB.c7; replace hCC := hCC.below h4; clear nC cC0 cC1; obtain ⟨nC, cC0, cC1⟩ := hCC.c2; replace hM := hM.below h4
 (try clear r40)
 refine Ln Eb J fun _ Ea => ?_; clear J K' Eb
 refine M1 Ea 41 fun K' J ρ q41 => ?_; go_simp
 refine Ln Ea J fun _ Eb => ?_; clear J K' Ea q41
 refine M1 Eb 39 fun K' J ρ q39 => ?_; go_simp
 refine Ln Eb J fun _ Ea => ?_; clear J K' Eb q39
 refine M1 Ea 39 fun K' J ρ q39 => ?_; go_simp
 refine Ln Ea J fun _ Eb => ?_; clear J K' Ea q39
 refine M1 Eb 42 fun K' J ρ q42 => ?_; go_simp
 refine Ln Eb J fun _ Ea => ?_; clear J K' Eb q42
 refine M1 Ea 43 fun K' J ρ q43 => ?_; go_simp
 refine Ln Ea J fun _ Eb => ?_; clear J K' Ea q43
 refine Ld [2, 6, 9] Eb hK fun a hE => ?_; clear hK K Q' Eb
 refine Ks ?_
 refine Rs 7 fun Q' K hK => ?_
 refine M1 hE 2 fun K' J ρ q2 => ?_; go_simp
 refine Ln hE J fun _ Eb => ?_; clear J K' hE a q2
 refine M1 Eb 45 fun K' J ρ q45 => ?_; go_simp; (try go_bits); (try clear q45)
 go_at_call 18; refine (C4.out _ hM).mono ?_; rintro e w5 ⟨⟨T2, d2, rfl, hJ2⟩, h5⟩; have hbw5 := hbw4.trans (h5.mono hbw4.size); replace hCB := hCB.below h5; clear nB cB0 cB1 cB2 cB3 cB4 cB5 cB6; obtain ⟨nB, cB0, cB1, cB2, cB3, cB4, cB5, cB6⟩ := hCB.c7; replace hCC := hCC.below h5; clear nC cC0 cC1; obtain ⟨nC, cC0, cC1⟩ := hCC.c2; replace hM := hM.below h5
 (try clear r45)
 refine Ln Eb J fun _ Ea => ?_; clear J K' Eb
 refine M1 Ea 46 fun K' J ρ q46 => ?_; go_simp
 refine Ln Ea J fun _ Eb => ?_; clear J K' Ea q46
 refine M1 Eb 44 fun K' J ρ q44 => ?_; go_simp
 refine Ln Eb J fun _ Ea => ?_; clear J K' Eb q44
 refine M1 Ea 44 fun K' J ρ q44 => ?_; go_simp
 refine Ln Ea J fun _ Eb => ?_; clear J K' Ea q44
 refine M1 Eb 47 fun K' J ρ q47 => ?_; go_simp
 refine Ln Eb J fun _ Ea => ?_; clear J K' Eb q47
 refine M1 Ea 48 fun K' J ρ q48 => ?_; go_simp
 refine Ln Ea J fun _ Eb => ?_; clear J K' Ea q48
 refine Ld [2, 6, 8, 9, 10] Eb hK fun a hE => ?_; clear hK K Q' Eb
 refine Ks ?_
 refine Rs 9 fun Q' K hK => ?_
 refine M1 hE 9 fun K' J ρ q9 => ?_; go_simp
 refine Ln hE J fun _ Eb => ?_; clear J K' hE a q9
 refine M1 Eb 10 fun K' J ρ q10 => ?_; go_simp
 refine Ln Eb J fun _ Ea => ?_; clear J K' Eb q10
 refine M2 Ea 49 50 fun K' J ρ q49 q50 => ?_; go_simp; (try go_bits); (try clear q49 q50)
 go_at_call 19; refine (same_self (ArrD.below hJ1 h5) hJ2 hj9).mono ?_; rintro e w6 ⟨rfl, h6⟩; have hbw6 := hbw5.trans (h6.mono hbw5.size); replace hCB := hCB.below h6; clear nB cB0 cB1 cB2 cB3 cB4 cB5 cB6; obtain ⟨nB, cB0, cB1, cB2, cB3, cB4, cB5, cB6⟩ := hCB.c7; replace hCC := hCC.below h6; clear nC cC0 cC1; obtain ⟨nC, cC0, cC1⟩ := hCC.c2; replace hM := hM.below h6
 (try clear r49 r50)
 refine Ln Ea J fun _ Eb => ?_; clear J K' Ea
 refine M1 Eb 51 fun K' J ρ q51 => ?_; go_simp; (try go_bits); (try simp (disch := omega) only [IntWalk.i64_in])
 refine Ln Eb J fun _ Ea => ?_; clear J K' Eb q51
 refine M1 Ea 52 fun K' J ρ q52 => ?_; go_simp
 refine Ln Ea J fun _ Eb => ?_; clear J K' Ea q52
 refine N1 Eb 53 6 fun K' J ρ q6 => ?_; go_simp
 refine Ln Eb J fun _ Ea => ?_; clear J K' Eb q6
 refine N1 Ea 53 8 fun K' J ρ q8 => ?_; go_simp
 refine Ln Ea J fun _ Eb => ?_; clear J K' Ea q8
 refine N2 Eb 53 54 55 fun K' J ρ q54 q55 => ?_; go_simp; (try go_bits)
 refine Ln Eb J fun _ Ea => ?_; clear J K' Eb q54 q55
 refine M2 Ea 53 56 fun K' J ρ q53 q56 => ?_; go_simp; (try go_bits)
 refine Ln Ea J fun _ Eb => ?_; clear J K' Ea q53 q56
 replace Eb := Eb.turn 57 (v' := .bool false) rfl (by (first | rfl | simp))
 refine Ld [2, 57] Eb hK fun a hE => ?_; clear hK K Q' Eb
 refine Ks ?_
 refine cond_no hE (t := 57) rfl ?_
 refine Ks ?_
 refine Rs 8 fun Q' K hK => ?_
 refine M1 hE 2 fun K' J ρ q2 => ?_; go_simp
 refine Ln hE J fun _ Eb => ?_; clear J K' hE a q2
 refine M1 Eb 59 fun K' J ρ q59 => ?_; go_simp; (try go_bits); (try clear q59)
 go_at_call 20; refine (C5.out _ hM).mono ?_; rintro e w7 ⟨rfl, h7⟩; have hbw7 := hbw6.trans (h7.mono hbw6.size); replace hCB := hCB.below h7; clear nB cB0 cB1 cB2 cB3 cB4 cB5 cB6; obtain ⟨nB, cB0, cB1, cB2, cB3, cB4, cB5, cB6⟩ := hCB.c7; replace hCC := hCC.below h7; clear nC cC0 cC1; obtain ⟨nC, cC0, cC1⟩ := hCC.c2; replace hM := hM.below h7
 (try clear r59)
 refine Ln Eb J fun _ Ea => ?_; clear J K' Eb
 refine M1 Ea 60 fun K' J ρ q60 => ?_; go_simp
 refine Ln Ea J fun _ Eb => ?_; clear J K' Ea q60
 refine M1 Eb 58 fun K' J ρ q58 => ?_; go_simp
 refine Ln Eb J fun _ Ea => ?_; clear J K' Eb q58
 refine M1 Ea 58 fun K' J ρ q58 => ?_; go_simp
 refine Ln Ea J fun _ Eb => ?_; clear J K' Ea q58
 refine M0 fun K' J ρ => ?_; go_simp;
 refine Ln Eb J fun _ Ea => ?_; clear J K' Eb
 refine Lp fun K' J => ?_
 have r11 := Ea.at 11 rfl; have r61 := Ea.at 61 rfl
 refine wp_store_mid 27 (.tmp 11) (.tmp 61) rfl w7.heap.size 0 #[.int .i64 p4, .int .i64 p5] (eval_of r11) (eval_of r61) (there_row (row_new w7 _ _) (Nat.le_of_eq rfl)) (by kernel_rfl) (by kernel_rfl) ?_
 (try clear r11 r61)
 refine late_skip Ea J (fun _ Eb => ?_); clear J K'; clear Ea
 refine M1 Eb 62 fun K' J ρ q62 => ?_; go_simp
 refine Ln Eb J fun _ Ea => ?_; clear J K' Eb q62
 refine Ld [2, 6, 11] Ea hK fun a hE => ?_; clear hK K Q' Ea
 obtain ⟨D, hD⟩ : ∃ B, B = w7.heap.size := ⟨_, rfl⟩
 rw [← hD] at hE
 refine world_cut (fun wt => Below w7.heap.size w7 wt ∧ Cells wt D [.int .i64 p4, .int .i64 p5]) (by rw [hD]; exact boxed_new w7 #[.int .i64 0, .int .i64 0] 27 [.int .i64 p4, .int .i64 p5] rfl) (fun w8 hCut => ?_)
 obtain ⟨h8, hCD⟩ := hCut
 clear hD
 have hbw8 := hbw7.trans (h8.mono hbw7.size)
 replace hCB := hCB.below h8
 clear nB cB0 cB1 cB2 cB3 cB4 cB5 cB6
 obtain ⟨nB, cB0, cB1, cB2, cB3, cB4, cB5, cB6⟩ := hCB.c7
 replace hCC := hCC.below h8
 clear nC cC0 cC1
 obtain ⟨nC, cC0, cC1⟩ := hCC.c2
 replace hM := hM.below h8
 obtain ⟨nD, cD0, cD1⟩ := hCD.c2
 refine Ks ?_
 refine Rs 8 fun Q' K hK => ?_
 refine M1 hE 2 fun K' J ρ q2 => ?_; go_simp
 refine Ln hE J fun _ Eb => ?_; clear J K' hE a q2
 refine M1 Eb 64 fun K' J ρ q64 => ?_; go_simp; (try go_bits); (try clear q64)
 go_at_call 21; refine (C6.out _ hM).mono ?_; rintro e w9 ⟨rfl, h9⟩; have hbw9 := hbw8.trans (h9.mono hbw8.size); replace hCB := hCB.below h9; clear nB cB0 cB1 cB2 cB3 cB4 cB5 cB6; obtain ⟨nB, cB0, cB1, cB2, cB3, cB4, cB5, cB6⟩ := hCB.c7; replace hCC := hCC.below h9; clear nC cC0 cC1; obtain ⟨nC, cC0, cC1⟩ := hCC.c2; replace hCD := hCD.below h9; clear nD cD0 cD1; obtain ⟨nD, cD0, cD1⟩ := hCD.c2; replace hM := hM.below h9
 (try clear r64)
 refine Ln Eb J fun _ Ea => ?_; clear J K' Eb
 refine M1 Ea 65 fun K' J ρ q65 => ?_; go_simp
 refine Ln Ea J fun _ Eb => ?_; clear J K' Ea q65
 refine M1 Eb 63 fun K' J ρ q63 => ?_; go_simp
 refine Ln Eb J fun _ Ea => ?_; clear J K' Eb q63
 refine M1 Ea 63 fun K' J ρ q63 => ?_; go_simp
 refine Ln Ea J fun _ Eb => ?_; clear J K' Ea q63
 refine M0 fun K' J ρ => ?_; go_simp;
 refine Ln Eb J fun _ Ea => ?_; clear J K' Eb
 refine Lp fun K' J => ?_
 have r12 := Ea.at 12 rfl; have r66 := Ea.at 66 rfl
 refine wp_store_mid 27 (.tmp 12) (.tmp 66) rfl w9.heap.size 0 #[.int .i64 p4, .int .i64 p5] (eval_of r12) (eval_of r66) (there_row (row_new w9 _ _) (Nat.le_of_eq rfl)) (by kernel_rfl) (by kernel_rfl) ?_
 (try clear r12 r66)
 refine late_skip Ea J (fun _ Eb => ?_); clear J K'; clear Ea
 refine M1 Eb 67 fun K' J ρ q67 => ?_; go_simp
 refine Ln Eb J fun _ Ea => ?_; clear J K' Eb q67
 refine Ld [6, 8, 11, 12] Ea hK fun a hE => ?_; clear hK K Q' Ea
 obtain ⟨E, hE'⟩ : ∃ B, B = w9.heap.size := ⟨_, rfl⟩
 rw [← hE'] at hE
 refine world_cut (fun wt => Below w9.heap.size w9 wt ∧ Cells wt E [.int .i64 p4, .int .i64 p5]) (by rw [hE']; exact boxed_new w9 #[.int .i64 0, .int .i64 0] 27 [.int .i64 p4, .int .i64 p5] rfl) (fun w10 hCut => ?_)
 obtain ⟨h10, hCE⟩ := hCut
 clear hE'
 have hbw10 := hbw9.trans (h10.mono hbw9.size)
 replace hCB := hCB.below h10
 clear nB cB0 cB1 cB2 cB3 cB4 cB5 cB6
 obtain ⟨nB, cB0, cB1, cB2, cB3, cB4, cB5, cB6⟩ := hCB.c7
 replace hCC := hCC.below h10
 clear nC cC0 cC1
 obtain ⟨nC, cC0, cC1⟩ := hCC.c2
 replace hCD := hCD.below h10
 clear nD cD0 cD1
 obtain ⟨nD, cD0, cD1⟩ := hCD.c2
 replace hM := hM.below h10
 obtain ⟨nE, cE0, cE1⟩ := hCE.c2
 refine Ks ?_
 refine Rs 12 fun Q' K hK => ?_
 refine M1 hE 11 fun K' J ρ q11 => ?_; go_simp
 refine Ln hE J fun _ Eb => ?_; clear J K' hE a q11
 refine M1 Eb 12 fun K' J ρ q12 => ?_; go_simp
 refine Ln Eb J fun _ Ea => ?_; clear J K' Eb q12
 refine M2 Ea 68 69 fun K' J ρ q68 q69 => ?_; go_simp; (try go_bits)
 refine Ln Ea J fun _ Eb => ?_; clear J K' Ea q68 q69
 refine M1 Eb 70 fun K' J ρ q70 => ?_; go_simp
 refine Ln Eb J fun _ Ea => ?_; clear J K' Eb q70
 refine N1 Ea 71 6 fun K' J ρ q6 => ?_; go_simp
 refine Ln Ea J fun _ Eb => ?_; clear J K' Ea q6
 refine N1 Eb 71 8 fun K' J ρ q8 => ?_; go_simp
 refine Ln Eb J fun _ Ea => ?_; clear J K' Eb q8
 refine N2 Ea 71 72 73 fun K' J ρ q72 q73 => ?_; go_simp; (try go_bits)
 refine Ln Ea J fun _ Eb => ?_; clear J K' Ea q72 q73
 refine M2 Eb 71 74 fun K' J ρ q71 q74 => ?_; go_simp; (try go_bits)
 refine Ln Eb J fun _ Ea => ?_; clear J K' Eb q71 q74
 refine M1 Ea 75 fun K' J ρ q75 => ?_; go_simp
 refine Ln Ea J fun _ Eb => ?_; clear J K' Ea q75
 refine Ly Eb 76 fun K' J => ?_
 refine o0 fun ρ => ?_; go_simp; (try go_bits);
 go_at_call 14; refine (written_any _).mono ?_; rintro e w11 ⟨rfl, h11⟩; have hbw11 := hbw10.trans (h11.mono hbw10.size); replace hCB := hCB.below h11; clear nB cB0 cB1 cB2 cB3 cB4 cB5 cB6; obtain ⟨nB, cB0, cB1, cB2, cB3, cB4, cB5, cB6⟩ := hCB.c7; replace hCC := hCC.below h11; clear nC cC0 cC1; obtain ⟨nC, cC0, cC1⟩ := hCC.c2; replace hCD := hCD.below h11; clear nD cD0 cD1; obtain ⟨nD, cD0, cD1⟩ := hCD.c2; replace hCE := hCE.below h11; clear nE cE0 cE1; obtain ⟨nE, cE0, cE1⟩ := hCE.c2; replace hM := hM.below h11
 refine Ln Eb J fun _ Ea => ?_; clear J K' Eb
 refine M2 Ea 76 77 fun K' J ρ q76 q77 => ?_; go_simp; (try go_bits)
 refine Ln Ea J fun _ Eb => ?_; clear J K' Ea q76 q77
 refine M1 Eb 78 fun K' J ρ q78 => ?_; go_simp
 refine Ln Eb J fun _ Ea => ?_; clear J K' Eb q78
 refine Ld [4] Ea hK fun a hE => ?_; clear hK K Q' Ea
 refine Ks ?_
 exact ret_one hE rfl rfl ⟨rfl, hbw11⟩
end
end Go.Proofs.YtbimkcjdodgojaaGreat
