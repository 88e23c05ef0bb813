/- Name: the reference's Kind. -/
import Derived.Test.YtbimkcjdodgojaaGreatKANdh
import Derived.Test.YtbimkcjdodgojaaGreatKANdl

namespace Go.Proofs.YtbimkcjdodgojaaGreat
set_option linter.unusedSimpArgs false
set_option linter.unusedVariables false
open Go Go.RowKit
attribute [local go_sem high] cell_set_wr
attribute [local go_sem low] cell_wr frozen_wr
attribute [local go_sem] wr_set wr_drew wr_drewN wr_alloc wr_new Rho.c Rho.n Rho.g
section
variable (A : Option Addr) (cap : Nat) (L : Option Addr) (lcap : Nat) (b : Bk)
set_option maxRecDepth 100000 in
set_option maxHeartbeats 4000000 in
theorem rKind_full (x y : Int) (w : World) (hM : BkAt w A L b) (hs : b.small cap lcap) (hz : ∀ i (h : i < b.ear.alike.length), b.ear.alike[i].size ≤ 9223372036854775807) :
    Calls Tryz.prog 16 #[.agg (bkV A cap L lcap b).toArray, .int .i64 x, .int .i64 y] w fun e w' => e = .returned (.tuple #[.int .i64 (pKindR b x y).1, .int .i64 (pKindR b x y).2]) ∧ Below w.heap.size w w' := by
 have C1 := hid fun W hW => rCheck_any A cap L lcap b W hW hs hz
 have C2 := hid fun k W => risLine_any A cap L lcap b k W hs
 have hl63 := hs.2.2.2.1
 have HSv : Hid (b.ok = false → ∀ v v', setE b v = setE b v') := hid fun h v v' => by unfold setE refE; rw [h]; rfl
 have HRest : Hid (∀ (v : Bool) (B : Nat) (w2 : World), Below w.heap.size w w2 → Cells w2 B (bkV A cap L lcap b) → setE b v = setE b (lineOfB b x 0 0 && lineOfB b y 1 1) ∧ (v = true → inLines b x = true) → ∀ a, Fits 52 [(1, .int .i64 x), (2, .int .i64 y), (3, .pointer (some ⟨B, 0, none⟩)), (8, .bool v)] a → (cr 2 (bodyOf Tryz.f16)).wp Tryz.prog (bodyPost Tryz.prog Tryz.f16 fun e w' => e = .returned (.tuple #[.int .i64 (pKindR b x y).1, .int .i64 (pKindR b x y).2]) ∧ Below w.heap.size w w') a w2) := hid fun v B w2 hb hC hv a hE => by
  refine rkind_rest A cap L lcap b x y v B w w2 hb hM hC hv.2 (hid fun W hW => rasked_full A cap L lcap b v W hW hs hz) (hid fun ho W hW => rAll_full A cap L lcap b hs hz ho W hW) _ _ ?_ a hE
  unfold pKindR
  rw [← hv.1]
  constructor
  ·intro h
   rw [if_pos h]
   exact ⟨rfl, rfl⟩
  ·intro h
   rw [if_neg h]
   exact ⟨rfl, rfl⟩
 clear hz
 cases ho : b.ok
 ·have e0 : bkE b = 20 := by unfold bkE; rw [ho]; rfl
  rw [e0] at C1
  have HV := hid (HSv.out ho false (lineOfB b x 0 0 && lineOfB b y 1 1))
  clear e0 ho HSv
  simp only [bkV] at C1 HRest ⊢
  refine enterE Tryz.func16 rfl Tryz.ntmps16 (by simp) (fun a hE => ?_); simp only [envOf, Nat.zero_add, Nat.reduceAdd] at hE
  refine Ks ?_
  refine Rs 3 fun Q' K hK => ?_
  refine M1 hE 0 fun K' J ρ q0 => ?_; go_simp
  refine Ln hE J fun _ Eb => ?_; clear J K' hE a q0
  refine M0 fun K' J ρ => ?_; go_simp;
  refine Ln Eb J fun _ Ea => ?_; clear J K' Eb
  refine M0 fun K' J ρ => ?_; go_simp;
  refine Ln Ea J fun _ Eb => ?_; clear J K' Ea
  refine Ld [1, 2, 3] Eb hK fun a hE => ?_; clear hK K Q' Eb
  obtain ⟨B, hBe⟩ : ∃ B, B = w.heap.size := ⟨_, rfl⟩; rw [← hBe] at hE; refine world_cut (fun wt => Below w.heap.size w wt ∧ Cells wt B (bkV A cap L lcap b)) ⟨(Below.refl _ _).alloc (Nat.le_refl _) _, by rw [hBe]; exact cells_new _ _ _⟩ (fun w1 hCut => ?_); obtain ⟨hbw1, hCB⟩ := hCut; clear hBe
  simp only [bkV] at hCB
  replace hM := hM.below hbw1
  obtain ⟨nB, cB0, cB1, cB2, cB3, cB4, cB5, cB6⟩ := hCB.c7
  refine Ks ?_
  refine Rs 32 fun Q' K hK => ?_
  refine M1 hE 3 fun K' J ρ q3 => ?_; go_simp
  refine Ln hE J fun _ Eb => ?_; clear J K' hE a q3
  refine M1 Eb 10 fun K' J ρ q10 => ?_; go_simp; (try go_bits); (try clear q10)
  go_at_call 9; refine (C1.out _ hM).mono ?_; rintro e w2 ⟨rfl, h2⟩; have hbw2 := hbw1.trans (h2.mono hbw1.size); replace hCB := hCB.below h2; clear nB cB0 cB1 cB2 cB3 cB4 cB5 cB6; obtain ⟨nB, cB0, cB1, cB2, cB3, cB4, cB5, cB6⟩ := hCB.c7; replace hM := hM.below h2
  (try clear r10)
  refine Ln Eb J fun _ Ea => ?_; clear J K' Eb
  refine M1 Ea 11 fun K' J ρ q11 => ?_; go_simp; (try go_bits)
  refine Ln Ea J fun _ Eb => ?_; clear J K' Ea q11
  replace Eb := Eb.turn 12 (v' := .bool false) rfl (by (first | rfl | simp))
  refine M1 Eb 12 fun K' J ρ q12 => ?_; go_simp
  refine Ln Eb J fun _ Ea => ?_; clear J K' Eb q12
  refine Lno Ea 13 ?_
  refine Lu Ea fun _ Eb => ?_
  refine Lno Eb 13 ?_
  refine Lu Eb fun _ Ea => ?_
  refine Lno Ea 13 ?_
  refine Lu Ea fun _ Eb => ?_
  refine M2 Eb 13 16 fun K' J ρ q13 q16 => ?_; go_simp; (try go_bits)
  refine Ln Eb J fun _ Ea => ?_; clear J K' Eb q13 q16
  refine M1 Ea 17 fun K' J ρ q17 => ?_; go_simp
  refine Ln Ea J fun _ Eb => ?_; clear J K' Ea q17
  refine Lno Eb 18 ?_
  refine Lu Eb fun _ Ea => ?_
  refine Lno Ea 18 ?_
  refine Lu Ea fun _ Eb => ?_
  refine Lno Eb 18 ?_
  refine Lu Eb fun _ Ea => ?_
  refine M2 Ea 18 21 fun K' J ρ q18 q21 => ?_; go_simp; (try go_bits)
  refine Ln Ea J fun _ Eb => ?_; clear J K' Ea q18 q21
  refine M1 Eb 22 fun K' J ρ q22 => ?_; go_simp
  refine Ln Eb J fun _ Ea => ?_; clear J K' Eb q22
  refine Lno Ea 23 ?_
  refine Lu Ea fun _ Eb => ?_
  refine Lno Eb 23 ?_
  refine Lu Eb fun _ Ea => ?_
  refine Lno Ea 23 ?_
  refine Lu Ea fun _ Eb => ?_
  refine Lno Eb 23 ?_
  refine Lu Eb fun _ Ea => ?_
  refine Lno Ea 23 ?_
  refine Lu Ea fun _ Eb => ?_
  refine Lno Eb 23 ?_
  refine Lu Eb fun _ Ea => ?_
  refine Lno Ea 23 ?_
  refine Lu Ea fun _ Eb => ?_
  refine M2 Eb 23 30 fun K' J ρ q23 q30 => ?_; go_simp; (try go_bits)
  refine Ln Eb J fun _ Ea => ?_; clear J K' Eb q23 q30
  refine M1 Ea 31 fun K' J ρ q31 => ?_; go_simp
  refine Ln Ea J fun _ Eb => ?_; clear J K' Ea q31
  refine Lno Eb 32 ?_
  refine Lu Eb fun _ Ea => ?_
  refine Lno Ea 32 ?_
  refine Lu Ea fun _ Eb => ?_
  refine Lno Eb 32 ?_
  refine Lu Eb fun _ Ea => ?_
  refine Lno Ea 32 ?_
  refine Lu Ea fun _ Eb => ?_
  refine Lno Eb 32 ?_
  refine Lu Eb fun _ Ea => ?_
  refine Lno Ea 32 ?_
  refine Lu Ea fun _ Eb => ?_
  refine Lno Eb 32 ?_
  refine Lu Eb fun _ Ea => ?_
  refine M2 Ea 32 39 fun K' J ρ q32 q39 => ?_; go_simp; (try go_bits)
  refine Ln Ea J fun _ Eb => ?_; clear J K' Ea q32 q39
  refine M1 Eb 40 fun K' J ρ q40 => ?_; go_simp
  refine Ln Eb J fun _ Ea => ?_; clear J K' Eb q40
  refine Ld [1, 2, 3, 8] Ea hK fun a hE => ?_; clear hK K Q' Ea
  refine KsE ?_
  exact HRest.out false B w2 hbw2 hCB ⟨HV.out, fun h => by cases h⟩ _ (hE.keep [1, 2, 3, 8])
 ·have e0 : bkE b = 0 := by unfold bkE; rw [ho]; rfl
  rw [e0] at C1
  have HO := hid ho
  clear e0 ho HSv
  obtain ⟨q1, hq1⟩ : ∃ q, inLines b x = q := ⟨_, rfl⟩
  obtain ⟨q2, hq2⟩ : ∃ q, inLines b y = q := ⟨_, rfl⟩
  have H1 := hid hq1
  have H2 := hid hq2
  clear hq1 hq2
  cases hv1 : q1
  ·have HV : Hid (inLines b x = false) := hid (by rw [H1.out, hv1])
   clear hv1 H1
   have H1 := HV
   have HL : Hid (setE b false = setE b (lineOfB b x 0 0 && lineOfB b y 1 1)) := hid (by rw [line_out H1.out]; rfl)
   simp only [bkV] at C1 C2 HRest ⊢
   refine enterE Tryz.func16 rfl Tryz.ntmps16 (by simp) (fun a hE => ?_); simp only [envOf, Nat.zero_add, Nat.reduceAdd] at hE
   refine Ks ?_
   refine Rs 3 fun Q' K hK => ?_
   refine M1 hE 0 fun K' J ρ q0 => ?_; go_simp
   refine Ln hE J fun _ Eb => ?_; clear J K' hE a q0
   refine M0 fun K' J ρ => ?_; go_simp;
   refine Ln Eb J fun _ Ea => ?_; clear J K' Eb
   refine M0 fun K' J ρ => ?_; go_simp;
   refine Ln Ea J fun _ Eb => ?_; clear J K' Ea
   refine Ld [1, 2, 3] Eb hK fun a hE => ?_; clear hK K Q' Eb
   obtain ⟨B, hBe⟩ : ∃ B, B = w.heap.size := ⟨_, rfl⟩; rw [← hBe] at hE; refine world_cut (fun wt => Below w.heap.size w wt ∧ Cells wt B (bkV A cap L lcap b)) ⟨(Below.refl _ _).alloc (Nat.le_refl _) _, by rw [hBe]; exact cells_new _ _ _⟩ (fun w1 hCut => ?_); obtain ⟨hbw1, hCB⟩ := hCut; clear hBe
   simp only [bkV] at hCB
   replace hM := hM.below hbw1
   obtain ⟨nB, cB0, cB1, cB2, cB3, cB4, cB5, cB6⟩ := hCB.c7
   refine Ks ?_
   refine Rs 32 fun Q' K hK => ?_
   refine M1 hE 3 fun K' J ρ q3 => ?_; go_simp
   refine Ln hE J fun _ Eb => ?_; clear J K' hE a q3
   refine M1 Eb 10 fun K' J ρ q10 => ?_; go_simp; (try go_bits); (try clear q10)
   go_at_call 9; refine (C1.out _ hM).mono ?_; rintro e w2 ⟨rfl, h2⟩; have hbw2 := hbw1.trans (h2.mono hbw1.size); replace hCB := hCB.below h2; clear nB cB0 cB1 cB2 cB3 cB4 cB5 cB6; obtain ⟨nB, cB0, cB1, cB2, cB3, cB4, cB5, cB6⟩ := hCB.c7; replace hM := hM.below h2
   (try clear r10)
   refine Ln Eb J fun _ Ea => ?_; clear J K' Eb
   refine M1 Ea 11 fun K' J ρ q11 => ?_; go_simp; (try go_bits)
   refine Ln Ea J fun _ Eb => ?_; clear J K' Ea q11
   replace Eb := Eb.turn 12 (v' := .bool true) rfl (by (first | rfl | simp))
   refine M1 Eb 12 fun K' J ρ q12 => ?_; go_simp
   refine Ln Eb J fun _ Ea => ?_; clear J K' Eb q12
   refine N1 Ea 13 3 fun K' J ρ q3 => ?_; go_simp
   refine Ln Ea J fun _ Eb => ?_; clear J K' Ea q3
   refine N1 Eb 13 1 fun K' J ρ q1 => ?_; go_simp
   refine Ln Eb J fun _ Ea => ?_; clear J K' Eb q1
   refine N2 Ea 13 14 15 fun K' J ρ q14 q15 => ?_; go_simp; (try go_bits); (try clear q14 q15)
   go_at_call 30; refine (C2.out x _).mono ?_; rw [H1.out]; rintro e w3 ⟨rfl, h3⟩
   (try clear r14 r15)
   refine Ln Ea J fun _ Eb => ?_; clear J K' Ea
   refine M2 Eb 13 16 fun K' J ρ q13 q16 => ?_; go_simp; (try go_bits)
   refine Ln Eb J fun _ Ea => ?_; clear J K' Eb q13 q16
   refine M1 Ea 17 fun K' J ρ q17 => ?_; go_simp
   refine Ln Ea J fun _ Eb => ?_; clear J K' Ea q17
   refine Lno Eb 18 ?_
   refine Lu Eb fun _ Ea => ?_
   refine Lno Ea 18 ?_
   refine Lu Ea fun _ Eb => ?_
   refine Lno Eb 18 ?_
   refine Lu Eb fun _ Ea => ?_
   refine M2 Ea 18 21 fun K' J ρ q18 q21 => ?_; go_simp; (try go_bits)
   refine Ln Ea J fun _ Eb => ?_; clear J K' Ea q18 q21
   refine M1 Eb 22 fun K' J ρ q22 => ?_; go_simp
   refine Ln Eb J fun _ Ea => ?_; clear J K' Eb q22
   refine Lno Ea 23 ?_
   refine Lu Ea fun _ Eb => ?_
   refine Lno Eb 23 ?_
   refine Lu Eb fun _ Ea => ?_
   refine Lno Ea 23 ?_
   refine Lu Ea fun _ Eb => ?_
   refine Lno Eb 23 ?_
   refine Lu Eb fun _ Ea => ?_
   refine Lno Ea 23 ?_
   refine Lu Ea fun _ Eb => ?_
   refine Lno Eb 23 ?_
   refine Lu Eb fun _ Ea => ?_
   refine Lno Ea 23 ?_
   refine Lu Ea fun _ Eb => ?_
   refine M2 Eb 23 30 fun K' J ρ q23 q30 => ?_; go_simp; (try go_bits)
   refine Ln Eb J fun _ Ea => ?_; clear J K' Eb q23 q30
   refine M1 Ea 31 fun K' J ρ q31 => ?_; go_simp
   refine Ln Ea J fun _ Eb => ?_; clear J K' Ea q31
   refine Lno Eb 32 ?_
   refine Lu Eb fun _ Ea => ?_
   refine Lno Ea 32 ?_
   refine Lu Ea fun _ Eb => ?_
   refine Lno Eb 32 ?_
   refine Lu Eb fun _ Ea => ?_
   refine Lno Ea 32 ?_
   refine Lu Ea fun _ Eb => ?_
   refine Lno Eb 32 ?_
   refine Lu Eb fun _ Ea => ?_
   refine Lno Ea 32 ?_
   refine Lu Ea fun _ Eb => ?_
   refine Lno Eb 32 ?_
   refine Lu Eb fun _ Ea => ?_
   refine M2 Ea 32 39 fun K' J ρ q32 q39 => ?_; go_simp; (try go_bits)
   refine Ln Ea J fun _ Eb => ?_; clear J K' Ea q32 q39
   refine M1 Eb 40 fun K' J ρ q40 => ?_; go_simp
   refine Ln Eb J fun _ Ea => ?_; clear J K' Eb q40
   refine Ld [1, 2, 3, 8] Ea hK fun a hE => ?_; clear hK K Q' Ea
   refine KsE ?_
   exact HRest.out false B w3 (hbw2.trans (h3.mono hbw2.size)) (hCB.below h3) ⟨HL.out, fun h => by cases h⟩ _ (hE.keep [1, 2, 3, 8])
  ·have HV : Hid (inLines b x = true) := hid (by rw [H1.out, hv1])
   clear hv1 H1
   have H1 := HV
   cases hv2 : q2
   ·have HV2 : Hid (inLines b y = false) := hid (by rw [H2.out, hv2])
    clear hv2 H2
    have H2 := HV2
    have HL : Hid (setE b false = setE b (lineOfB b x 0 0 && lineOfB b y 1 1)) := hid (by rw [line_out H2.out, Bool.and_false])
    simp only [bkV] at C1 C2 HRest ⊢
    refine enterE Tryz.func16 rfl Tryz.ntmps16 (by simp) (fun a hE => ?_); simp only [envOf, Nat.zero_add, Nat.reduceAdd] at hE
    refine Ks ?_
    refine Rs 3 fun Q' K hK => ?_
    refine M1 hE 0 fun K' J ρ q0 => ?_; go_simp
    refine Ln hE J fun _ Eb => ?_; clear J K' hE a q0
    refine M0 fun K' J ρ => ?_; go_simp;
    refine Ln Eb J fun _ Ea => ?_; clear J K' Eb
    refine M0 fun K' J ρ => ?_; go_simp;
    refine Ln Ea J fun _ Eb => ?_; clear J K' Ea
    refine Ld [1, 2, 3] Eb hK fun a hE => ?_; clear hK K Q' Eb
    obtain ⟨B, hBe⟩ : ∃ B, B = w.heap.size := ⟨_, rfl⟩; rw [← hBe] at hE; refine world_cut (fun wt => Below w.heap.size w wt ∧ Cells wt B (bkV A cap L lcap b)) ⟨(Below.refl _ _).alloc (Nat.le_refl _) _, by rw [hBe]; exact cells_new _ _ _⟩ (fun w1 hCut => ?_); obtain ⟨hbw1, hCB⟩ := hCut; clear hBe
    simp only [bkV] at hCB
    replace hM := hM.below hbw1
    obtain ⟨nB, cB0, cB1, cB2, cB3, cB4, cB5, cB6⟩ := hCB.c7
    refine Ks ?_
    refine Rs 32 fun Q' K hK => ?_
    refine M1 hE 3 fun K' J ρ q3 => ?_; go_simp
    refine Ln hE J fun _ Eb => ?_; clear J K' hE a q3
    refine M1 Eb 10 fun K' J ρ q10 => ?_; go_simp; (try go_bits); (try clear q10)
    go_at_call 9; refine (C1.out _ hM).mono ?_; rintro e w2 ⟨rfl, h2⟩; have hbw2 := hbw1.trans (h2.mono hbw1.size); replace hCB := hCB.below h2; clear nB cB0 cB1 cB2 cB3 cB4 cB5 cB6; obtain ⟨nB, cB0, cB1, cB2, cB3, cB4, cB5, cB6⟩ := hCB.c7; replace hM := hM.below h2
    (try clear r10)
    refine Ln Eb J fun _ Ea => ?_; clear J K' Eb
    refine M1 Ea 11 fun K' J ρ q11 => ?_; go_simp; (try go_bits)
    refine Ln Ea J fun _ Eb => ?_; clear J K' Ea q11
    replace Eb := Eb.turn 12 (v' := .bool true) rfl (by (first | rfl | simp))
    refine M1 Eb 12 fun K' J ρ q12 => ?_; go_simp
    refine Ln Eb J fun _ Ea => ?_; clear J K' Eb q12
    refine N1 Ea 13 3 fun K' J ρ q3 => ?_; go_simp
    refine Ln Ea J fun _ Eb => ?_; clear J K' Ea q3
    refine N1 Eb 13 1 fun K' J ρ q1 => ?_; go_simp
    refine Ln Eb J fun _ Ea => ?_; clear J K' Eb q1
    refine N2 Ea 13 14 15 fun K' J ρ q14 q15 => ?_; go_simp; (try go_bits); (try clear q14 q15)
    go_at_call 30; refine (C2.out x _).mono ?_; rw [H1.out]; rintro e w3 ⟨rfl, h3⟩; replace hCB := hCB.below h3; clear nB cB0 cB1 cB2 cB3 cB4 cB5 cB6; obtain ⟨nB, cB0, cB1, cB2, cB3, cB4, cB5, cB6⟩ := hCB.c7
    (try clear r14 r15)
    refine Ln Ea J fun _ Eb => ?_; clear J K' Ea
    refine M2 Eb 13 16 fun K' J ρ q13 q16 => ?_; go_simp; (try go_bits)
    refine Ln Eb J fun _ Ea => ?_; clear J K' Eb q13 q16
    refine M1 Ea 17 fun K' J ρ q17 => ?_; go_simp
    refine Ln Ea J fun _ Eb => ?_; clear J K' Ea q17
    refine N1 Eb 18 3 fun K' J ρ q3 => ?_; go_simp
    refine Ln Eb J fun _ Ea => ?_; clear J K' Eb q3
    refine N1 Ea 18 2 fun K' J ρ q2 => ?_; go_simp
    refine Ln Ea J fun _ Eb => ?_; clear J K' Ea q2
    refine N2 Eb 18 19 20 fun K' J ρ q19 q20 => ?_; go_simp; (try go_bits); (try clear q19 q20)
    go_at_call 30; refine (C2.out y _).mono ?_; rw [H2.out]; rintro e w4 ⟨rfl, h4⟩
    (try clear r19 r20)
    refine Ln Eb J fun _ Ea => ?_; clear J K' Eb
    refine M2 Ea 18 21 fun K' J ρ q18 q21 => ?_; go_simp; (try go_bits)
    refine Ln Ea J fun _ Eb => ?_; clear J K' Ea q18 q21
    refine M1 Eb 22 fun K' J ρ q22 => ?_; go_simp
    refine Ln Eb J fun _ Ea => ?_; clear J K' Eb q22
    refine Lno Ea 23 ?_
    refine Lu Ea fun _ Eb => ?_
    refine Lno Eb 23 ?_
    refine Lu Eb fun _ Ea => ?_
    refine Lno Ea 23 ?_
    refine Lu Ea fun _ Eb => ?_
    refine Lno Eb 23 ?_
    refine Lu Eb fun _ Ea => ?_
    refine Lno Ea 23 ?_
    refine Lu Ea fun _ Eb => ?_
    refine Lno Eb 23 ?_
    refine Lu Eb fun _ Ea => ?_
    refine Lno Ea 23 ?_
    refine Lu Ea fun _ Eb => ?_
    refine M2 Eb 23 30 fun K' J ρ q23 q30 => ?_; go_simp; (try go_bits)
    refine Ln Eb J fun _ Ea => ?_; clear J K' Eb q23 q30
    refine M1 Ea 31 fun K' J ρ q31 => ?_; go_simp
    refine Ln Ea J fun _ Eb => ?_; clear J K' Ea q31
    refine Lno Eb 32 ?_
    refine Lu Eb fun _ Ea => ?_
    refine Lno Ea 32 ?_
    refine Lu Ea fun _ Eb => ?_
    refine Lno Eb 32 ?_
    refine Lu Eb fun _ Ea => ?_
    refine Lno Ea 32 ?_
    refine Lu Ea fun _ Eb => ?_
    refine Lno Eb 32 ?_
    refine Lu Eb fun _ Ea => ?_
    refine Lno Ea 32 ?_
    refine Lu Ea fun _ Eb => ?_
    refine Lno Eb 32 ?_
    refine Lu Eb fun _ Ea => ?_
    refine M2 Ea 32 39 fun K' J ρ q32 q39 => ?_; go_simp; (try go_bits)
    refine Ln Ea J fun _ Eb => ?_; clear J K' Ea q32 q39
    refine M1 Eb 40 fun K' J ρ q40 => ?_; go_simp
    refine Ln Eb J fun _ Ea => ?_; clear J K' Eb q40
    refine Ld [1, 2, 3, 8] Ea hK fun a hE => ?_; clear hK K Q' Ea
    refine KsE ?_
    exact HRest.out false B w4 (hbw2.trans ((h3.trans (h4.mono h3.size)).mono hbw2.size)) (hCB.below h4) ⟨HL.out, fun h => by cases h⟩ _ (hE.keep [1, 2, 3, 8])
   ·have HV2 : Hid (inLines b y = true) := hid (by rw [H2.out, hv2])
    clear hv2 H2
    have H2 := HV2
    have hx := H1.out
    have hy := H2.out
    unfold inLines at hx hy
    simp only [Bool.and_eq_true, decide_eq_true_eq] at hx hy
    obtain ⟨i, hi0⟩ : ∃ i : Nat, x = i := ⟨x.toNat, by omega⟩
    obtain ⟨k, hk0⟩ : ∃ i : Nat, y = i := ⟨y.toNat, by omega⟩
    have hi : i < b.lines.length := by omega
    have hk : k < b.lines.length := by omega
    have hiI : (i : Int) < b.lines.length := by omega
    have hkI : (k : Int) < b.lines.length := by omega
    have HL : Hid (setE b ((b.lines[i].book == 0) && (b.lines[k].book == 1)) = setE b (lineOfB b x 0 0 && lineOfB b y 1 1)) := hid (by rw [book_in hi hi0 HO.out (.inl rfl), book_in hk hk0 HO.out (.inr rfl)])
    clear hx hy
    subst hi0
    subst hk0
    obtain ⟨b0, o0, rfl, hb0, c0, _, _⟩ := hM.2.nl hi
    obtain ⟨_, _, e, _, d0, _, _⟩ := hM.2.nl hk
    cases e
    obtain ⟨g, hg⟩ : ∃ g, b.lines[i].book = g := ⟨_, rfl⟩
    obtain ⟨g', hg'⟩ : ∃ g, b.lines[k].book = g := ⟨_, rfl⟩
    rw [hg, hg'] at HL
    rw [hg] at c0
    rw [hg'] at d0
    clear hg hg'
    have KG : LoadD w b0 (o0 + i * 3) (.int .i64 g) := ⟨hb0, c0⟩
    have KH : LoadD w b0 (o0 + k * 3) (.int .i64 g') := ⟨hb0, d0⟩
    clear c0 d0 hb0
    simp only [bkV] at C1 C2 HRest ⊢
    refine enterE Tryz.func16 rfl Tryz.ntmps16 (by simp) (fun a hE => ?_); simp only [envOf, Nat.zero_add, Nat.reduceAdd] at hE
    by_cases hg0 : g = 0
    ·subst hg0
     refine Ks ?_
     refine Rs 3 fun Q' K hK => ?_
     refine M1 hE 0 fun K' J ρ q0 => ?_; go_simp
     refine Ln hE J fun _ Eb => ?_; clear J K' hE a q0
     refine M0 fun K' J ρ => ?_; go_simp;
     refine Ln Eb J fun _ Ea => ?_; clear J K' Eb
     refine M0 fun K' J ρ => ?_; go_simp;
     refine Ln Ea J fun _ Eb => ?_; clear J K' Ea
     refine Ld [1, 2, 3] Eb hK fun a hE => ?_; clear hK K Q' Eb
     obtain ⟨B, hBe⟩ : ∃ B, B = w.heap.size := ⟨_, rfl⟩; rw [← hBe] at hE; refine world_cut (fun wt => Below w.heap.size w wt ∧ Cells wt B (bkV A cap (some ⟨b0, o0, none⟩) lcap b)) ⟨(Below.refl _ _).alloc (Nat.le_refl _) _, by rw [hBe]; exact cells_new _ _ _⟩ (fun w1 hCut => ?_); obtain ⟨hbw1, hCB⟩ := hCut; clear hBe
     simp only [bkV] at hCB
     replace hM := hM.below hbw1
     replace KG := KG.below hbw1
     replace KH := KH.below hbw1
     obtain ⟨nB, cB0, cB1, cB2, cB3, cB4, cB5, cB6⟩ := hCB.c7
     refine Ks ?_
     refine Rs 32 fun Q' K hK => ?_
     refine M1 hE 3 fun K' J ρ q3 => ?_; go_simp
     refine Ln hE J fun _ Eb => ?_; clear J K' hE a q3
     refine M1 Eb 10 fun K' J ρ q10 => ?_; go_simp; (try go_bits); (try clear q10)
     go_at_call 9; refine (C1.out _ hM).mono ?_; rintro e w2 ⟨rfl, h2⟩; have hbw2 := hbw1.trans (h2.mono hbw1.size); replace hCB := hCB.below h2; clear nB cB0 cB1 cB2 cB3 cB4 cB5 cB6; obtain ⟨nB, cB0, cB1, cB2, cB3, cB4, cB5, cB6⟩ := hCB.c7; replace hM := hM.below h2; replace KG := KG.below h2; replace KH := KH.below h2
     (try clear r10)
     refine Ln Eb J fun _ Ea => ?_; clear J K' Eb
     refine M1 Ea 11 fun K' J ρ q11 => ?_; go_simp; (try go_bits)
     refine Ln Ea J fun _ Eb => ?_; clear J K' Ea q11
     replace Eb := Eb.turn 12 (v' := .bool true) rfl (by (first | rfl | simp))
     refine M1 Eb 12 fun K' J ρ q12 => ?_; go_simp
     refine Ln Eb J fun _ Ea => ?_; clear J K' Eb q12
     refine N1 Ea 13 3 fun K' J ρ q3 => ?_; go_simp
     refine Ln Ea J fun _ Eb => ?_; clear J K' Ea q3
     refine N1 Eb 13 1 fun K' J ρ q1 => ?_; go_simp
     refine Ln Eb J fun _ Ea => ?_; clear J K' Eb q1
     refine N2 Ea 13 14 15 fun K' J ρ q14 q15 => ?_; go_simp; (try go_bits); (try clear q14 q15)
     go_at_call 30; refine (C2.out i _).mono ?_; rw [H1.out]; rintro e w3 ⟨rfl, h3⟩; replace hCB := hCB.below h3; clear nB cB0 cB1 cB2 cB3 cB4 cB5 cB6; obtain ⟨nB, cB0, cB1, cB2, cB3, cB4, cB5, cB6⟩ := hCB.c7
     (try clear r14 r15)
     refine Ln Ea J fun _ Eb => ?_; clear J K' Ea
     refine M2 Eb 13 16 fun K' J ρ q13 q16 => ?_; go_simp; (try go_bits)
     refine Ln Eb J fun _ Ea => ?_; clear J K' Eb q13 q16
     refine M1 Ea 17 fun K' J ρ q17 => ?_; go_simp
     refine Ln Ea J fun _ Eb => ?_; clear J K' Ea q17
     refine N1 Eb 18 3 fun K' J ρ q3 => ?_; go_simp
     refine Ln Eb J fun _ Ea => ?_; clear J K' Eb q3
     refine N1 Ea 18 2 fun K' J ρ q2 => ?_; go_simp
     refine Ln Ea J fun _ Eb => ?_; clear J K' Ea q2
     refine N2 Eb 18 19 20 fun K' J ρ q19 q20 => ?_; go_simp; (try go_bits); (try clear q19 q20)
     go_at_call 30; refine (C2.out k _).mono ?_; rw [H2.out]; rintro e w4 ⟨rfl, h4⟩; replace hCB := hCB.below h4; clear nB cB0 cB1 cB2 cB3 cB4 cB5 cB6; obtain ⟨nB, cB0, cB1, cB2, cB3, cB4, cB5, cB6⟩ := hCB.c7; obtain ⟨u1, u2⟩ := (KG.below h3).below h4; obtain ⟨u3, u4⟩ := (KH.below h3).below h4
     (try clear r19 r20)
     refine Ln Eb J fun _ Ea => ?_; clear J K' Eb
     refine M2 Ea 18 21 fun K' J ρ q18 q21 => ?_; go_simp; (try go_bits)
     refine Ln Ea J fun _ Eb => ?_; clear J K' Ea q18 q21
     refine M1 Eb 22 fun K' J ρ q22 => ?_; go_simp
     refine Ln Eb J fun _ Ea => ?_; clear J K' Eb q22
     refine N1 Ea 23 3 fun K' J ρ q3 => ?_; go_simp
     refine Ln Ea J fun _ Eb => ?_; clear J K' Ea q3
     refine N1 Eb 23 24 fun K' J ρ q24 => ?_; go_simp
     refine Ln Eb J fun _ Ea => ?_; clear J K' Eb q24
     refine N1 Ea 23 1 fun K' J ρ q1 => ?_; go_simp
     refine Ln Ea J fun _ Eb => ?_; clear J K' Ea q1
     refine N2 Eb 23 25 26 fun K' J ρ q25 q26 => ?_; go_simp; (try go_bits)
     refine Ln Eb J fun _ Ea => ?_; clear J K' Eb q25 q26
     refine N1 Ea 23 27 fun K' J ρ q27 => ?_; go_simp
     refine Ln Ea J fun _ Eb => ?_; clear J K' Ea q27
     refine N1 Eb 23 28 fun K' J ρ q28 => ?_; go_simp
     refine Ln Eb J fun _ Ea => ?_; clear J K' Eb q28
     refine N1 Ea 23 29 fun K' J ρ q29 => ?_; go_simp; (try go_bits)
     refine Ln Ea J fun _ Eb => ?_; clear J K' Ea q29
     replace Eb := Eb.turn 30 (v' := .bool true) rfl (by (first | rfl | simp))
     refine M2 Eb 23 30 fun K' J ρ q23 q30 => ?_; go_simp; (try go_bits)
     refine Ln Eb J fun _ Ea => ?_; clear J K' Eb q23 q30
     refine M1 Ea 31 fun K' J ρ q31 => ?_; go_simp
     refine Ln Ea J fun _ Eb => ?_; clear J K' Ea q31
     refine N1 Eb 32 3 fun K' J ρ q3 => ?_; go_simp
     refine Ln Eb J fun _ Ea => ?_; clear J K' Eb q3
     refine N1 Ea 32 33 fun K' J ρ q33 => ?_; go_simp
     refine Ln Ea J fun _ Eb => ?_; clear J K' Ea q33
     refine N1 Eb 32 2 fun K' J ρ q2 => ?_; go_simp
     refine Ln Eb J fun _ Ea => ?_; clear J K' Eb q2
     refine N2 Ea 32 34 35 fun K' J ρ q34 q35 => ?_; go_simp; (try go_bits)
     refine Ln Ea J fun _ Eb => ?_; clear J K' Ea q34 q35
     refine N1 Eb 32 36 fun K' J ρ q36 => ?_; go_simp
     refine Ln Eb J fun _ Ea => ?_; clear J K' Eb q36
     refine N1 Ea 32 37 fun K' J ρ q37 => ?_; go_simp
     refine Ln Ea J fun _ Eb => ?_; clear J K' Ea q37
     refine N1 Eb 32 38 fun K' J ρ q38 => ?_; go_simp; (try go_bits)
     refine Ln Eb J fun _ Ea => ?_; clear J K' Eb q38
     replace Ea := Ea.turn 39 (v' := .bool (decide (g' = 1))) rfl (by (first | rfl | simp))
     refine M2 Ea 32 39 fun K' J ρ q32 q39 => ?_; go_simp; (try go_bits)
     refine Ln Ea J fun _ Eb => ?_; clear J K' Ea q32 q39
     refine M1 Eb 40 fun K' J ρ q40 => ?_; go_simp
     refine Ln Eb J fun _ Ea => ?_; clear J K' Eb q40
     refine Ld [1, 2, 3, 8] Ea hK fun a hE => ?_; clear hK K Q' Ea
     refine KsE ?_
     exact HRest.out (decide (g' = 1)) B w4 (hbw2.trans ((h3.trans (h4.mono h3.size)).mono hbw2.size)) hCB ⟨by rw [← HL.out]; rfl, fun _ => H1.out⟩ _ (hE.keep [1, 2, 3, 8])
    ·have HG0 := hid hg0
     clear hg0
     refine Ks ?_
     refine Rs 3 fun Q' K hK => ?_
     refine M1 hE 0 fun K' J ρ q0 => ?_; go_simp
     refine Ln hE J fun _ Eb => ?_; clear J K' hE a q0
     refine M0 fun K' J ρ => ?_; go_simp;
     refine Ln Eb J fun _ Ea => ?_; clear J K' Eb
     refine M0 fun K' J ρ => ?_; go_simp;
     refine Ln Ea J fun _ Eb => ?_; clear J K' Ea
     refine Ld [1, 2, 3] Eb hK fun a hE => ?_; clear hK K Q' Eb
     obtain ⟨B, hBe⟩ : ∃ B, B = w.heap.size := ⟨_, rfl⟩; rw [← hBe] at hE; refine world_cut (fun wt => Below w.heap.size w wt ∧ Cells wt B (bkV A cap (some ⟨b0, o0, none⟩) lcap b)) ⟨(Below.refl _ _).alloc (Nat.le_refl _) _, by rw [hBe]; exact cells_new _ _ _⟩ (fun w1 hCut => ?_); obtain ⟨hbw1, hCB⟩ := hCut; clear hBe
     simp only [bkV] at hCB
     replace hM := hM.below hbw1
     replace KG := KG.below hbw1
     replace KH := KH.below hbw1
     obtain ⟨nB, cB0, cB1, cB2, cB3, cB4, cB5, cB6⟩ := hCB.c7
     refine Ks ?_
     refine Rs 32 fun Q' K hK => ?_
     refine M1 hE 3 fun K' J ρ q3 => ?_; go_simp
     refine Ln hE J fun _ Eb => ?_; clear J K' hE a q3
     refine M1 Eb 10 fun K' J ρ q10 => ?_; go_simp; (try go_bits); (try clear q10)
     go_at_call 9; refine (C1.out _ hM).mono ?_; rintro e w2 ⟨rfl, h2⟩; have hbw2 := hbw1.trans (h2.mono hbw1.size); replace hCB := hCB.below h2; clear nB cB0 cB1 cB2 cB3 cB4 cB5 cB6; obtain ⟨nB, cB0, cB1, cB2, cB3, cB4, cB5, cB6⟩ := hCB.c7; replace hM := hM.below h2; replace KG := KG.below h2; replace KH := KH.below h2
     (try clear r10)
     refine Ln Eb J fun _ Ea => ?_; clear J K' Eb
     refine M1 Ea 11 fun K' J ρ q11 => ?_; go_simp; (try go_bits)
     refine Ln Ea J fun _ Eb => ?_; clear J K' Ea q11
     replace Eb := Eb.turn 12 (v' := .bool true) rfl (by (first | rfl | simp))
     refine M1 Eb 12 fun K' J ρ q12 => ?_; go_simp
     refine Ln Eb J fun _ Ea => ?_; clear J K' Eb q12
     refine N1 Ea 13 3 fun K' J ρ q3 => ?_; go_simp
     refine Ln Ea J fun _ Eb => ?_; clear J K' Ea q3
     refine N1 Eb 13 1 fun K' J ρ q1 => ?_; go_simp
     refine Ln Eb J fun _ Ea => ?_; clear J K' Eb q1
     refine N2 Ea 13 14 15 fun K' J ρ q14 q15 => ?_; go_simp; (try go_bits); (try clear q14 q15)
     go_at_call 30; refine (C2.out i _).mono ?_; rw [H1.out]; rintro e w3 ⟨rfl, h3⟩; replace hCB := hCB.below h3; clear nB cB0 cB1 cB2 cB3 cB4 cB5 cB6; obtain ⟨nB, cB0, cB1, cB2, cB3, cB4, cB5, cB6⟩ := hCB.c7
     (try clear r14 r15)
     refine Ln Ea J fun _ Eb => ?_; clear J K' Ea
     refine M2 Eb 13 16 fun K' J ρ q13 q16 => ?_; go_simp; (try go_bits)
     refine Ln Eb J fun _ Ea => ?_; clear J K' Eb q13 q16
     refine M1 Ea 17 fun K' J ρ q17 => ?_; go_simp
     refine Ln Ea J fun _ Eb => ?_; clear J K' Ea q17
     refine N1 Eb 18 3 fun K' J ρ q3 => ?_; go_simp
     refine Ln Eb J fun _ Ea => ?_; clear J K' Eb q3
     refine N1 Ea 18 2 fun K' J ρ q2 => ?_; go_simp
     refine Ln Ea J fun _ Eb => ?_; clear J K' Ea q2
     refine N2 Eb 18 19 20 fun K' J ρ q19 q20 => ?_; go_simp; (try go_bits); (try clear q19 q20)
     go_at_call 30; refine (C2.out k _).mono ?_; rw [H2.out]; rintro e w4 ⟨rfl, h4⟩; replace hCB := hCB.below h4; clear nB cB0 cB1 cB2 cB3 cB4 cB5 cB6; obtain ⟨nB, cB0, cB1, cB2, cB3, cB4, cB5, cB6⟩ := hCB.c7; obtain ⟨u1, u2⟩ := (KG.below h3).below h4
     (try clear r19 r20)
     refine Ln Eb J fun _ Ea => ?_; clear J K' Eb
     refine M2 Ea 18 21 fun K' J ρ q18 q21 => ?_; go_simp; (try go_bits)
     refine Ln Ea J fun _ Eb => ?_; clear J K' Ea q18 q21
     refine M1 Eb 22 fun K' J ρ q22 => ?_; go_simp
     refine Ln Eb J fun _ Ea => ?_; clear J K' Eb q22
     refine N1 Ea 23 3 fun K' J ρ q3 => ?_; go_simp
     refine Ln Ea J fun _ Eb => ?_; clear J K' Ea q3
     refine N1 Eb 23 24 fun K' J ρ q24 => ?_; go_simp
     refine Ln Eb J fun _ Ea => ?_; clear J K' Eb q24
     refine N1 Ea 23 1 fun K' J ρ q1 => ?_; go_simp
     refine Ln Ea J fun _ Eb => ?_; clear J K' Ea q1
     refine N2 Eb 23 25 26 fun K' J ρ q25 q26 => ?_; go_simp; (try go_bits)
     refine Ln Eb J fun _ Ea => ?_; clear J K' Eb q25 q26
     refine N1 Ea 23 27 fun K' J ρ q27 => ?_; go_simp
     refine Ln Ea J fun _ Eb => ?_; clear J K' Ea q27
     refine N1 Eb 23 28 fun K' J ρ q28 => ?_; go_simp
     refine Ln Eb J fun _ Ea => ?_; clear J K' Eb q28
     refine N1 Ea 23 29 fun K' J ρ q29 => ?_; go_simp; (try go_bits)
     refine Ln Ea J fun _ Eb => ?_; clear J K' Ea q29
     replace Eb := Eb.turn 30 (v' := .bool false) rfl (by (simp [HG0.out]))
     refine M2 Eb 23 30 fun K' J ρ q23 q30 => ?_; go_simp; (try go_bits)
     refine Ln Eb J fun _ Ea => ?_; clear J K' Eb q23 q30
     refine M1 Ea 31 fun K' J ρ q31 => ?_; go_simp
     refine Ln Ea J fun _ Eb => ?_; clear J K' Ea q31
     refine Lno Eb 32 ?_
     refine Lu Eb fun _ Ea => ?_
     refine Lno Ea 32 ?_
     refine Lu Ea fun _ Eb => ?_
     refine Lno Eb 32 ?_
     refine Lu Eb fun _ Ea => ?_
     refine Lno Ea 32 ?_
     refine Lu Ea fun _ Eb => ?_
     refine Lno Eb 32 ?_
     refine Lu Eb fun _ Ea => ?_
     refine Lno Ea 32 ?_
     refine Lu Ea fun _ Eb => ?_
     refine Lno Eb 32 ?_
     refine Lu Eb fun _ Ea => ?_
     refine M2 Ea 32 39 fun K' J ρ q32 q39 => ?_; go_simp; (try go_bits)
     refine Ln Ea J fun _ Eb => ?_; clear J K' Ea q32 q39
     refine M1 Eb 40 fun K' J ρ q40 => ?_; go_simp
     refine Ln Eb J fun _ Ea => ?_; clear J K' Eb q40
     refine Ld [1, 2, 3, 8] Ea hK fun a hE => ?_; clear hK K Q' Ea
     refine KsE ?_
     exact HRest.out false B w4 (hbw2.trans ((h3.trans (h4.mono h3.size)).mono hbw2.size)) hCB ⟨by rw [← HL.out, show (g == 0) = false by simpa using HG0.out]; rfl, fun h => by cases h⟩ _ (hE.keep [1, 2, 3, 8])
end
end Go.Proofs.YtbimkcjdodgojaaGreat
