/- Slope: Check. -/
import Derived.Test.YtkhmcofmjjmjhaaDoorKTSa

namespace Go.Proofs.YtkhmcofmjjmjhaaDoor
set_option linter.unusedSimpArgs false
set_option linter.unusedVariables false
open Go Go.RowKit
attribute [local go_sem high] cell_set_wr
attribute [local go_sem low] cell_wr frozen_wr
attribute [local go_sem] wr_set wr_drew wr_drewN wr_alloc wr_new Rho.c Rho.n Rho.g
theorem sbE_head {b : Sb} (h : b.head = false) : sbE b = 30 := by unfold sbE Sb.ok; rw [h]; rfl
theorem sbE_hour {b : Sb} {k : Nat} (hk : k < b.hours.length) (h : b.hours[k].ok = false) : sbE b = 30 := by
 have : b.hours.all Hr.ok = false := by
  rw [List.all_eq_false]
  exact ⟨_, List.getElem_mem hk, by rw [h]; decide⟩
 unfold sbE Sb.ok
 rw [this, Bool.and_false]
 rfl
theorem sbE_sight {b : Sb} {k : Nat} (hk : k < b.sights.length) (h : Si.ok b b.sights[k] = false) : sbE b = 30 := by
 have : b.sights.all (Si.ok b) = false := by
  rw [List.all_eq_false]
  exact ⟨_, List.getElem_mem hk, by rw [h]; decide⟩
 unfold sbE Sb.ok
 rw [this, Bool.and_false]
 rfl
theorem sbE_yes {b : Sb} (h : b.head = true) (h1 : ∀ k (hk : k < b.hours.length), b.hours[k].ok = true) (h2 : ∀ k (hk : k < b.sights.length), Si.ok b b.sights[k] = true) : sbE b = 0 := by
 have e1 : b.hours.all Hr.ok = true := List.all_eq_true.2 fun x hx => by
  obtain ⟨i, hi, rfl⟩ := List.getElem_of_mem hx
  exact h1 i hi
 have e2 : b.sights.all (Si.ok b) = true := List.all_eq_true.2 fun x hx => by
  obtain ⟨i, hi, rfl⟩ := List.getElem_of_mem hx
  exact h2 i hi
 unfold sbE Sb.ok
 rw [h, e1, e2]
 rfl
section
variable (H : Option Addr) (hcap : Nat) (S : Option Addr) (scap : Nat) (b : Sb)
set_option maxRecDepth 100000 in
set_option maxHeartbeats 4000000 in
theorem pCheck_any (w : World) (hM : SbAt w H S b) (hh : b.hours.length ≤ 9223372036854775807) (hss : b.sights.length ≤ 9223372036854775807) : Calls Tryd.prog 16 #[.agg (sbV H hcap S scap b).toArray] w fun e w' => e = .returned (.int .i64 (sbE b)) ∧ Below w.heap.size w w' := by
 have C1 := hid fun W => isSlope_any b.sl W
 have C2 := hid fun W => isSpan_any b.lo b.hi 300 W
 have C3 := hid fun n W => isHour_any H hcap S scap b n W hh
 have HH : Hid (b.head = ((b.sl.ok && spB b.lo b.hi 300) && (wB b.hours.length 1 12 && decide ((b.sights.length : Int) ≤ 6)))) := hid rfl
 have HF : Hid (b.head = false → sbE b = 30) := hid sbE_head
 obtain ⟨q1, h1⟩ : ∃ q, b.sl.ok = q := ⟨_, rfl⟩
 obtain ⟨q2, h2⟩ : ∃ q, spB b.lo b.hi 300 = q := ⟨_, rfl⟩
 obtain ⟨q3, h3⟩ : ∃ q, wB b.hours.length 1 12 = q := ⟨_, rfl⟩
 rw [h1] at C1 HH
 rw [h2] at C2 HH
 rw [h3] at HH
 have H3 := hid h3
 clear h1 h2 h3
 simp only [sbV, Sl.cells] at C1 C3 ⊢
 cases hv : q1
 ·rw [hv] at C1 HH
  rw [HF.out (by rw [HH.out]; rfl)]
  clear hv
  refine enterE Tryd.func16 rfl Tryd.ntmps16 (by simp) (fun a hE => ?_); simp only [envOf, Nat.zero_add, Nat.reduceAdd] at hE
  refine Ks ?_
  refine Rs 2 fun Q' K hK => ?_
  refine M1 hE 0 fun K' J ρ q0 => ?_; go_simp
  refine Ln hE J fun _ Eb => ?_; clear J K' hE a q0
  refine M0 fun K' J ρ => ?_; go_simp;
  refine Ln Eb J fun _ Ea => ?_; clear J K' Eb
  refine Ld [1] Ea hK fun a hE => ?_; clear hK K Q' Ea
  obtain ⟨B, hBe⟩ : ∃ B, B = w.heap.size := ⟨_, rfl⟩; rw [← hBe] at hE; refine world_cut (fun wt => Below w.heap.size w wt ∧ Cells wt B (sbV H hcap S scap b)) ⟨(Below.refl _ _).alloc (Nat.le_refl _) _, by rw [hBe]; exact cells_new _ _ _⟩ (fun w1 hCut => ?_); obtain ⟨hbw1, hCB⟩ := hCut; clear hBe
  simp only [sbV] at hCB
  have nB := hCB.1; have cB0 := hCB.2 0 _ rfl; have cB1 := hCB.2 1 _ rfl; have cB2 := hCB.2 2 _ rfl; have cB3 := hCB.2 3 _ rfl; have cB4 := hCB.2 4 _ rfl; have cB5 := hCB.2 5 _ rfl; have cB6 := hCB.2 6 _ rfl; have cB7 := hCB.2 7 _ rfl; have cB8 := hCB.2 8 _ rfl
  refine Ks ?_
  refine Rs 10 fun Q' K hK => ?_
  refine M1 hE 1 fun K' J ρ q1 => ?_; go_simp
  refine Ln hE J fun _ Eb => ?_; clear J K' hE a q1
  refine M1 Eb 7 fun K' J ρ q7 => ?_; go_simp
  refine Ln Eb J fun _ Ea => ?_; clear J K' Eb q7
  refine M1 Ea 8 fun K' J ρ q8 => ?_; go_simp; (try go_bits); (try clear q8)
  go_at_call 58; refine (C1.out _).mono ?_; rintro e w2 ⟨rfl, h2⟩; have hbw2 := hbw1.trans (h2.mono hbw1.size); replace hCB := hCB.below h2; clear nB cB0 cB1 cB2 cB3 cB4 cB5 cB6 cB7 cB8; have nB := hCB.1; have cB0 := hCB.2 0 _ rfl; have cB1 := hCB.2 1 _ rfl; have cB2 := hCB.2 2 _ rfl; have cB3 := hCB.2 3 _ rfl; have cB4 := hCB.2 4 _ rfl; have cB5 := hCB.2 5 _ rfl; have cB6 := hCB.2 6 _ rfl; have cB7 := hCB.2 7 _ rfl; have cB8 := hCB.2 8 _ rfl
  (try clear r8)
  refine Ln Ea J fun _ Eb => ?_; clear J K' Ea
  refine M1 Eb 9 fun K' J ρ q9 => ?_; go_simp; (try go_bits); (try simp (disch := omega) only [IntWalk.i64_in])
  refine Ln Eb J fun _ Ea => ?_; clear J K' Eb q9
  refine M1 Ea 10 fun K' J ρ q10 => ?_; go_simp
  refine Ln Ea J fun _ Eb => ?_; clear J K' Ea q10
  replace Eb := Eb.turn 11 (v' := .bool true) rfl (by (first | rfl | simp))
  refine Lno Eb 11 ?_
  refine Lu Eb fun _ Ea => ?_
  refine Lno Ea 11 ?_
  refine Lu Ea fun _ Eb => ?_
  refine Lno Eb 11 ?_
  refine Lu Eb fun _ Ea => ?_
  refine Lno Ea 11 ?_
  refine Lu Ea fun _ Eb => ?_
  refine M2 Eb 11 15 fun K' J ρ q11 q15 => ?_; go_simp; (try go_bits)
  refine Ln Eb J fun _ Ea => ?_; clear J K' Eb q11 q15
  replace Ea := Ea.turn 16 (v' := .bool true) rfl (by (first | rfl | simp))
  refine Ld [1, 16] Ea hK fun a hE => ?_; clear hK K Q' Ea
  refine Ks ?_
  refine cond_yes hE (t := 16) rfl ?_
  refine Ks ?_
  refine Rs 1 fun Q' K hK => ?_
  refine M0 fun K' J ρ => ?_; go_simp;
  refine Ln hE J fun _ Eb => ?_; clear J K' hE a
  refine Ld [2] Eb hK fun a hE => ?_; clear hK K Q' Eb
  refine Ks ?_
  exact ret_one hE rfl rfl ⟨rfl, hbw2⟩
 ·rw [hv] at C1 HH
  clear hv
  cases hv : q2
  ·rw [hv] at C2 HH
   rw [HF.out (by rw [HH.out]; rfl)]
   clear hv
   refine enterE Tryd.func16 rfl Tryd.ntmps16 (by simp) (fun a hE => ?_); simp only [envOf, Nat.zero_add, Nat.reduceAdd] at hE
   refine Ks ?_
   refine Rs 2 fun Q' K hK => ?_
   refine M1 hE 0 fun K' J ρ q0 => ?_; go_simp
   refine Ln hE J fun _ Eb => ?_; clear J K' hE a q0
   refine M0 fun K' J ρ => ?_; go_simp;
   refine Ln Eb J fun _ Ea => ?_; clear J K' Eb
   refine Ld [1] Ea hK fun a hE => ?_; clear hK K Q' Ea
   obtain ⟨B, hBe⟩ : ∃ B, B = w.heap.size := ⟨_, rfl⟩; rw [← hBe] at hE; refine world_cut (fun wt => Below w.heap.size w wt ∧ Cells wt B (sbV H hcap S scap b)) ⟨(Below.refl _ _).alloc (Nat.le_refl _) _, by rw [hBe]; exact cells_new _ _ _⟩ (fun w1 hCut => ?_); obtain ⟨hbw1, hCB⟩ := hCut; clear hBe
   simp only [sbV] at hCB
   have nB := hCB.1; have cB0 := hCB.2 0 _ rfl; have cB1 := hCB.2 1 _ rfl; have cB2 := hCB.2 2 _ rfl; have cB3 := hCB.2 3 _ rfl; have cB4 := hCB.2 4 _ rfl; have cB5 := hCB.2 5 _ rfl; have cB6 := hCB.2 6 _ rfl; have cB7 := hCB.2 7 _ rfl; have cB8 := hCB.2 8 _ rfl
   refine Ks ?_
   refine Rs 10 fun Q' K hK => ?_
   refine M1 hE 1 fun K' J ρ q1 => ?_; go_simp
   refine Ln hE J fun _ Eb => ?_; clear J K' hE a q1
   refine M1 Eb 7 fun K' J ρ q7 => ?_; go_simp
   refine Ln Eb J fun _ Ea => ?_; clear J K' Eb q7
   refine M1 Ea 8 fun K' J ρ q8 => ?_; go_simp; (try go_bits); (try clear q8)
   go_at_call 58; refine (C1.out _).mono ?_; rintro e w2 ⟨rfl, h2⟩; have hbw2 := hbw1.trans (h2.mono hbw1.size); replace hCB := hCB.below h2; clear nB cB0 cB1 cB2 cB3 cB4 cB5 cB6 cB7 cB8; have nB := hCB.1; have cB0 := hCB.2 0 _ rfl; have cB1 := hCB.2 1 _ rfl; have cB2 := hCB.2 2 _ rfl; have cB3 := hCB.2 3 _ rfl; have cB4 := hCB.2 4 _ rfl; have cB5 := hCB.2 5 _ rfl; have cB6 := hCB.2 6 _ rfl; have cB7 := hCB.2 7 _ rfl; have cB8 := hCB.2 8 _ rfl
   (try clear r8)
   refine Ln Ea J fun _ Eb => ?_; clear J K' Ea
   refine M1 Eb 9 fun K' J ρ q9 => ?_; go_simp; (try go_bits); (try simp (disch := omega) only [IntWalk.i64_in])
   refine Ln Eb J fun _ Ea => ?_; clear J K' Eb q9
   refine M1 Ea 10 fun K' J ρ q10 => ?_; go_simp
   refine Ln Ea J fun _ Eb => ?_; clear J K' Ea q10
   replace Eb := Eb.turn 11 (v' := .bool false) rfl (by (first | rfl | simp))
   refine N1 Eb 11 1 fun K' J ρ q1 => ?_; go_simp
   refine Ln Eb J fun _ Ea => ?_; clear J K' Eb q1
   refine N1 Ea 11 12 fun K' J ρ q12 => ?_; go_simp
   refine Ln Ea J fun _ Eb => ?_; clear J K' Ea q12
   refine N1 Eb 11 13 fun K' J ρ q13 => ?_; go_simp; (try go_bits); (try clear q13)
   go_at_call 59; refine (C2.out _).mono ?_; rintro e w3 ⟨rfl, h3⟩; have hbw3 := hbw2.trans (h3.mono hbw2.size); replace hCB := hCB.below h3; clear nB cB0 cB1 cB2 cB3 cB4 cB5 cB6 cB7 cB8; have nB := hCB.1; have cB0 := hCB.2 0 _ rfl; have cB1 := hCB.2 1 _ rfl; have cB2 := hCB.2 2 _ rfl; have cB3 := hCB.2 3 _ rfl; have cB4 := hCB.2 4 _ rfl; have cB5 := hCB.2 5 _ rfl; have cB6 := hCB.2 6 _ rfl; have cB7 := hCB.2 7 _ rfl; have cB8 := hCB.2 8 _ rfl
   (try clear r13)
   refine Ln Eb J fun _ Ea => ?_; clear J K' Eb
   refine N1 Ea 11 14 fun K' J ρ q14 => ?_; go_simp; (try go_bits); (try simp (disch := omega) only [IntWalk.i64_in])
   refine Ln Ea J fun _ Eb => ?_; clear J K' Ea q14
   refine M2 Eb 11 15 fun K' J ρ q11 q15 => ?_; go_simp; (try go_bits)
   refine Ln Eb J fun _ Ea => ?_; clear J K' Eb q11 q15
   replace Ea := Ea.turn 16 (v' := .bool true) rfl (by (first | rfl | simp))
   refine Ld [1, 16] Ea hK fun a hE => ?_; clear hK K Q' Ea
   refine Ks ?_
   refine cond_yes hE (t := 16) rfl ?_
   refine Ks ?_
   refine Rs 1 fun Q' K hK => ?_
   refine M0 fun K' J ρ => ?_; go_simp;
   refine Ln hE J fun _ Eb => ?_; clear J K' hE a
   refine Ld [2] Eb hK fun a hE => ?_; clear hK K Q' Eb
   refine Ks ?_
   exact ret_one hE rfl rfl ⟨rfl, hbw3⟩
  ·rw [hv] at C2 HH
   clear hv
   cases hv : q3
   ·rw [hv] at H3 HH
    rw [HF.out (by rw [HH.out]; rfl)]
    clear hv
    refine enterE Tryd.func16 rfl Tryd.ntmps16 (by simp) (fun a hE => ?_); simp only [envOf, Nat.zero_add, Nat.reduceAdd] at hE
    refine Ks ?_
    refine Rs 2 fun Q' K hK => ?_
    refine M1 hE 0 fun K' J ρ q0 => ?_; go_simp
    refine Ln hE J fun _ Eb => ?_; clear J K' hE a q0
    refine M0 fun K' J ρ => ?_; go_simp;
    refine Ln Eb J fun _ Ea => ?_; clear J K' Eb
    refine Ld [1] Ea hK fun a hE => ?_; clear hK K Q' Ea
    obtain ⟨B, hBe⟩ : ∃ B, B = w.heap.size := ⟨_, rfl⟩; rw [← hBe] at hE; refine world_cut (fun wt => Below w.heap.size w wt ∧ Cells wt B (sbV H hcap S scap b)) ⟨(Below.refl _ _).alloc (Nat.le_refl _) _, by rw [hBe]; exact cells_new _ _ _⟩ (fun w1 hCut => ?_); obtain ⟨hbw1, hCB⟩ := hCut; clear hBe
    simp only [sbV] at hCB
    replace hM := hM.below hbw1
    have nB := hCB.1; have cB0 := hCB.2 0 _ rfl; have cB1 := hCB.2 1 _ rfl; have cB2 := hCB.2 2 _ rfl; have cB3 := hCB.2 3 _ rfl; have cB4 := hCB.2 4 _ rfl; have cB5 := hCB.2 5 _ rfl; have cB6 := hCB.2 6 _ rfl; have cB7 := hCB.2 7 _ rfl; have cB8 := hCB.2 8 _ rfl
    refine Ks ?_
    refine Rs 10 fun Q' K hK => ?_
    refine M1 hE 1 fun K' J ρ q1 => ?_; go_simp
    refine Ln hE J fun _ Eb => ?_; clear J K' hE a q1
    refine M1 Eb 7 fun K' J ρ q7 => ?_; go_simp
    refine Ln Eb J fun _ Ea => ?_; clear J K' Eb q7
    refine M1 Ea 8 fun K' J ρ q8 => ?_; go_simp; (try go_bits); (try clear q8)
    go_at_call 58; refine (C1.out _).mono ?_; rintro e w2 ⟨rfl, h2⟩; have hbw2 := hbw1.trans (h2.mono hbw1.size); replace hCB := hCB.below h2; clear nB cB0 cB1 cB2 cB3 cB4 cB5 cB6 cB7 cB8; have nB := hCB.1; have cB0 := hCB.2 0 _ rfl; have cB1 := hCB.2 1 _ rfl; have cB2 := hCB.2 2 _ rfl; have cB3 := hCB.2 3 _ rfl; have cB4 := hCB.2 4 _ rfl; have cB5 := hCB.2 5 _ rfl; have cB6 := hCB.2 6 _ rfl; have cB7 := hCB.2 7 _ rfl; have cB8 := hCB.2 8 _ rfl; replace hM := hM.below h2
    (try clear r8)
    refine Ln Ea J fun _ Eb => ?_; clear J K' Ea
    refine M1 Eb 9 fun K' J ρ q9 => ?_; go_simp; (try go_bits); (try simp (disch := omega) only [IntWalk.i64_in])
    refine Ln Eb J fun _ Ea => ?_; clear J K' Eb q9
    refine M1 Ea 10 fun K' J ρ q10 => ?_; go_simp
    refine Ln Ea J fun _ Eb => ?_; clear J K' Ea q10
    replace Eb := Eb.turn 11 (v' := .bool false) rfl (by (first | rfl | simp))
    refine N1 Eb 11 1 fun K' J ρ q1 => ?_; go_simp
    refine Ln Eb J fun _ Ea => ?_; clear J K' Eb q1
    refine N1 Ea 11 12 fun K' J ρ q12 => ?_; go_simp
    refine Ln Ea J fun _ Eb => ?_; clear J K' Ea q12
    refine N1 Eb 11 13 fun K' J ρ q13 => ?_; go_simp; (try go_bits); (try clear q13)
    go_at_call 59; refine (C2.out _).mono ?_; rintro e w3 ⟨rfl, h3⟩; have hbw3 := hbw2.trans (h3.mono hbw2.size); replace hCB := hCB.below h3; clear nB cB0 cB1 cB2 cB3 cB4 cB5 cB6 cB7 cB8; have nB := hCB.1; have cB0 := hCB.2 0 _ rfl; have cB1 := hCB.2 1 _ rfl; have cB2 := hCB.2 2 _ rfl; have cB3 := hCB.2 3 _ rfl; have cB4 := hCB.2 4 _ rfl; have cB5 := hCB.2 5 _ rfl; have cB6 := hCB.2 6 _ rfl; have cB7 := hCB.2 7 _ rfl; have cB8 := hCB.2 8 _ rfl; replace hM := hM.below h3
    (try clear r13)
    refine Ln Eb J fun _ Ea => ?_; clear J K' Eb
    refine N1 Ea 11 14 fun K' J ρ q14 => ?_; go_simp; (try go_bits); (try simp (disch := omega) only [IntWalk.i64_in])
    refine Ln Ea J fun _ Eb => ?_; clear J K' Ea q14
    refine M2 Eb 11 15 fun K' J ρ q11 q15 => ?_; go_simp; (try go_bits)
    refine Ln Eb J fun _ Ea => ?_; clear J K' Eb q11 q15
    replace Ea := Ea.turn 16 (v' := .bool false) rfl (by (first | rfl | simp))
    refine Ld [1, 16] Ea hK fun a hE => ?_; clear hK K Q' Ea
    refine Ks ?_
    refine cond_no hE (t := 16) rfl ?_
    refine Ks ?_
    refine Rs 11 fun Q' K hK => ?_
    refine M1 hE 1 fun K' J ρ q1 => ?_; go_simp
    refine Ln hE J fun _ Eb => ?_; clear J K' hE a q1
    refine M1 Eb 17 fun K' J ρ q17 => ?_; go_simp
    refine Ln Eb J fun _ Ea => ?_; clear J K' Eb q17
    refine M1 Ea 18 fun K' J ρ q18 => ?_; go_simp; (try go_bits)
    refine Ln Ea J fun _ Eb => ?_; clear J K' Ea q18
    refine M1 Eb 19 fun K' J ρ q19 => ?_; go_simp; (try go_bits); (try clear q19)
    go_at_call 60; refine (within_any _ _ _ _).mono ?_; rw [H3.out]; rintro e w4 ⟨rfl, rfl⟩
    (try clear r19)
    refine Ln Eb J fun _ Ea => ?_; clear J K' Eb
    refine M1 Ea 20 fun K' J ρ q20 => ?_; go_simp; (try go_bits); (try simp (disch := omega) only [IntWalk.i64_in])
    refine Ln Ea J fun _ Eb => ?_; clear J K' Ea q20
    refine M1 Eb 21 fun K' J ρ q21 => ?_; go_simp
    refine Ln Eb J fun _ Ea => ?_; clear J K' Eb q21
    replace Ea := Ea.turn 22 (v' := .bool true) rfl (by (first | rfl | simp))
    refine Lno Ea 22 ?_
    refine Lu Ea fun _ Eb => ?_
    refine Lno Eb 22 ?_
    refine Lu Eb fun _ Ea => ?_
    refine Lno Ea 22 ?_
    refine Lu Ea fun _ Eb => ?_
    refine Lno Eb 22 ?_
    refine Lu Eb fun _ Ea => ?_
    refine M2 Ea 22 26 fun K' J ρ q22 q26 => ?_; go_simp; (try go_bits)
    refine Ln Ea J fun _ Eb => ?_; clear J K' Ea q22 q26
    replace Eb := Eb.turn 27 (v' := .bool true) rfl (by (first | rfl | simp))
    refine Ld [1, 27] Eb hK fun a hE => ?_; clear hK K Q' Eb
    refine Ks ?_
    refine cond_yes hE (t := 27) rfl ?_
    refine Ks ?_
    refine Rs 1 fun Q' K hK => ?_
    refine M0 fun K' J ρ => ?_; go_simp;
    refine Ln hE J fun _ Eb => ?_; clear J K' hE a
    refine Ld [2] Eb hK fun a hE => ?_; clear hK K Q' Eb
    refine Ks ?_
    exact ret_one hE rfl rfl ⟨rfl, hbw3⟩
   ·rw [hv] at H3 HH
    clear hv
    refine enterE Tryd.func16 rfl Tryd.ntmps16 (by simp) (fun a hE => ?_); simp only [envOf, Nat.zero_add, Nat.reduceAdd] at hE
    refine Ks ?_
    refine Rs 2 fun Q' K hK => ?_
    refine M1 hE 0 fun K' J ρ q0 => ?_; go_simp
    refine Ln hE J fun _ Eb => ?_; clear J K' hE a q0
    refine M0 fun K' J ρ => ?_; go_simp;
    refine Ln Eb J fun _ Ea => ?_; clear J K' Eb
    refine Ld [1] Ea hK fun a hE => ?_; clear hK K Q' Ea
    obtain ⟨B, hBe⟩ : ∃ B, B = w.heap.size := ⟨_, rfl⟩; rw [← hBe] at hE; refine world_cut (fun wt => Below w.heap.size w wt ∧ Cells wt B (sbV H hcap S scap b)) ⟨(Below.refl _ _).alloc (Nat.le_refl _) _, by rw [hBe]; exact cells_new _ _ _⟩ (fun w1 hCut => ?_); obtain ⟨hbw1, hCB⟩ := hCut; clear hBe
    simp only [sbV] at hCB
    replace hM := hM.below hbw1
    have nB := hCB.1; have cB0 := hCB.2 0 _ rfl; have cB1 := hCB.2 1 _ rfl; have cB2 := hCB.2 2 _ rfl; have cB3 := hCB.2 3 _ rfl; have cB4 := hCB.2 4 _ rfl; have cB5 := hCB.2 5 _ rfl; have cB6 := hCB.2 6 _ rfl; have cB7 := hCB.2 7 _ rfl; have cB8 := hCB.2 8 _ rfl
    refine Ks ?_
    refine Rs 10 fun Q' K hK => ?_
    refine M1 hE 1 fun K' J ρ q1 => ?_; go_simp
    refine Ln hE J fun _ Eb => ?_; clear J K' hE a q1
    refine M1 Eb 7 fun K' J ρ q7 => ?_; go_simp
    refine Ln Eb J fun _ Ea => ?_; clear J K' Eb q7
    refine M1 Ea 8 fun K' J ρ q8 => ?_; go_simp; (try go_bits); (try clear q8)
    go_at_call 58; refine (C1.out _).mono ?_; rintro e w2 ⟨rfl, h2⟩; have hbw2 := hbw1.trans (h2.mono hbw1.size); replace hCB := hCB.below h2; clear nB cB0 cB1 cB2 cB3 cB4 cB5 cB6 cB7 cB8; have nB := hCB.1; have cB0 := hCB.2 0 _ rfl; have cB1 := hCB.2 1 _ rfl; have cB2 := hCB.2 2 _ rfl; have cB3 := hCB.2 3 _ rfl; have cB4 := hCB.2 4 _ rfl; have cB5 := hCB.2 5 _ rfl; have cB6 := hCB.2 6 _ rfl; have cB7 := hCB.2 7 _ rfl; have cB8 := hCB.2 8 _ rfl; replace hM := hM.below h2
    (try clear r8)
    refine Ln Ea J fun _ Eb => ?_; clear J K' Ea
    refine M1 Eb 9 fun K' J ρ q9 => ?_; go_simp; (try go_bits); (try simp (disch := omega) only [IntWalk.i64_in])
    refine Ln Eb J fun _ Ea => ?_; clear J K' Eb q9
    refine M1 Ea 10 fun K' J ρ q10 => ?_; go_simp
    refine Ln Ea J fun _ Eb => ?_; clear J K' Ea q10
    replace Eb := Eb.turn 11 (v' := .bool false) rfl (by (first | rfl | simp))
    refine N1 Eb 11 1 fun K' J ρ q1 => ?_; go_simp
    refine Ln Eb J fun _ Ea => ?_; clear J K' Eb q1
    refine N1 Ea 11 12 fun K' J ρ q12 => ?_; go_simp
    refine Ln Ea J fun _ Eb => ?_; clear J K' Ea q12
    refine N1 Eb 11 13 fun K' J ρ q13 => ?_; go_simp; (try go_bits); (try clear q13)
    go_at_call 59; refine (C2.out _).mono ?_; rintro e w3 ⟨rfl, h3⟩; have hbw3 := hbw2.trans (h3.mono hbw2.size); replace hCB := hCB.below h3; clear nB cB0 cB1 cB2 cB3 cB4 cB5 cB6 cB7 cB8; have nB := hCB.1; have cB0 := hCB.2 0 _ rfl; have cB1 := hCB.2 1 _ rfl; have cB2 := hCB.2 2 _ rfl; have cB3 := hCB.2 3 _ rfl; have cB4 := hCB.2 4 _ rfl; have cB5 := hCB.2 5 _ rfl; have cB6 := hCB.2 6 _ rfl; have cB7 := hCB.2 7 _ rfl; have cB8 := hCB.2 8 _ rfl; replace hM := hM.below h3
    (try clear r13)
    refine Ln Eb J fun _ Ea => ?_; clear J K' Eb
    refine N1 Ea 11 14 fun K' J ρ q14 => ?_; go_simp; (try go_bits); (try simp (disch := omega) only [IntWalk.i64_in])
    refine Ln Ea J fun _ Eb => ?_; clear J K' Ea q14
    refine M2 Eb 11 15 fun K' J ρ q11 q15 => ?_; go_simp; (try go_bits)
    refine Ln Eb J fun _ Ea => ?_; clear J K' Eb q11 q15
    replace Ea := Ea.turn 16 (v' := .bool false) rfl (by (first | rfl | simp))
    refine Ld [1, 16] Ea hK fun a hE => ?_; clear hK K Q' Ea
    refine Ks ?_
    refine cond_no hE (t := 16) rfl ?_
    refine Ks ?_
    refine Rs 11 fun Q' K hK => ?_
    refine M1 hE 1 fun K' J ρ q1 => ?_; go_simp
    refine Ln hE J fun _ Eb => ?_; clear J K' hE a q1
    refine M1 Eb 17 fun K' J ρ q17 => ?_; go_simp
    refine Ln Eb J fun _ Ea => ?_; clear J K' Eb q17
    refine M1 Ea 18 fun K' J ρ q18 => ?_; go_simp; (try go_bits)
    refine Ln Ea J fun _ Eb => ?_; clear J K' Ea q18
    refine M1 Eb 19 fun K' J ρ q19 => ?_; go_simp; (try go_bits); (try clear q19)
    go_at_call 60; refine (within_any _ _ _ _).mono ?_; rw [H3.out]; rintro e w4 ⟨rfl, rfl⟩
    (try clear r19)
    refine Ln Eb J fun _ Ea => ?_; clear J K' Eb
    refine M1 Ea 20 fun K' J ρ q20 => ?_; go_simp; (try go_bits); (try simp (disch := omega) only [IntWalk.i64_in])
    refine Ln Ea J fun _ Eb => ?_; clear J K' Ea q20
    refine M1 Eb 21 fun K' J ρ q21 => ?_; go_simp
    refine Ln Eb J fun _ Ea => ?_; clear J K' Eb q21
    replace Ea := Ea.turn 22 (v' := .bool false) rfl (by (first | rfl | simp))
    refine N1 Ea 22 1 fun K' J ρ q1 => ?_; go_simp
    refine Ln Ea J fun _ Eb => ?_; clear J K' Ea q1
    refine N1 Eb 22 23 fun K' J ρ q23 => ?_; go_simp
    refine Ln Eb J fun _ Ea => ?_; clear J K' Eb q23
    refine N1 Ea 22 24 fun K' J ρ q24 => ?_; go_simp; (try go_bits)
    refine Ln Ea J fun _ Eb => ?_; clear J K' Ea q24
    refine N1 Eb 22 25 fun K' J ρ q25 => ?_; go_simp; (try go_bits)
    refine Ln Eb J fun _ Ea => ?_; clear J K' Eb q25
    refine M2 Ea 22 26 fun K' J ρ q22 q26 => ?_; go_simp; (try go_bits)
    refine Ln Ea J fun _ Eb => ?_; clear J K' Ea q22 q26
    refine Ld [1, 27] Eb hK fun a hE => ?_; clear hK K Q' Eb
    refine Ks ?_
    refine cond_part hE (t := 27) rfl (fun h => ?_) (fun h => ?_)
    ·have h6 : ¬ (b.sights.length : Int) ≤ 6 := by have := of_decide_eq_true h; omega
     rw [HF.out (by rw [HH.out, decide_eq_false h6]; rfl)]
     clear h
     refine Ks ?_
     refine Rs 1 fun Q' K hK => ?_
     refine M0 fun K' J ρ => ?_; go_simp;
     refine Ln hE J fun _ Eb => ?_; clear J K' hE a
     refine Ld [2] Eb hK fun a hE => ?_; clear hK K Q' Eb
     refine Ks ?_
     exact ret_one hE rfl rfl ⟨rfl, hbw3⟩
    ·have h6 : (b.sights.length : Int) ≤ 6 := by have := of_decide_eq_false h; omega
     have HT : Hid (b.head = true) := hid (by rw [HH.out, decide_eq_true h6]; rfl)
     have hl12 : b.hours.length ≤ 12 := by
      have := H3.out
      unfold wB at this
      simp only [Bool.and_eq_true, decide_eq_true_eq] at this
      omega
     clear h HH HF C1 C2
     refine Ks ?_
     refine Rs 4 fun Q' K hK => ?_
     refine M1 hE 1 fun K' J ρ q1 => ?_; go_simp
     refine Ln hE J fun _ Eb => ?_; clear J K' hE a q1
     refine M1 Eb 28 fun K' J ρ q28 => ?_; go_simp
     refine Ln Eb J fun _ Ea => ?_; clear J K' Eb q28
     refine M1 Ea 29 fun K' J ρ q29 => ?_; go_simp; (try go_bits)
     refine Ln Ea J fun _ Eb => ?_; clear J K' Ea q29
     refine M0 fun K' J ρ => ?_; go_simp;
     refine Ln Eb J fun _ Ea => ?_; clear J K' Eb
     refine Ld [1, 29, 30, 31] Ea hK fun a hE => ?_; clear hK K Q' Ea
     refine Ks ?_
     have hM3 := hM
     have hCB3 := hCB
     clear nB cB0 cB1 cB2 cB3 cB4 cB5 cB6 cB7 cB8 hCB hM
     refine loop_st (fun (k : Nat) a w' => k ≤ b.hours.length ∧ Fits 58 [(1, .pointer (some ⟨B, 0, none⟩)), (29, .slice H b.hours.length hcap), (30, .int .i64 b.hours.length), (31, .int .i64 k)] a ∧ Below w3.heap.size w3 w' ∧ ∀ i (h : i < b.hours.length), i < k → b.hours[i].ok = true) (fun k => b.hours.length - k) 0 ⟨Nat.zero_le _, by simpa using hE, Below.refl _ _, fun i _ h => absurd h (Nat.not_lt_zero _)⟩ (fun k a wr hI => ?_)
     clear hE
     obtain ⟨hk, hE, hW, hN⟩ := hI
     have HN := hid hN
     clear hN
     have hbr := hbw3.trans (hW.mono hbw3.size)
     have hM := hM3.below hW
     have hCB := hCB3.below hW
     have nB := hCB.1; have cB0 := hCB.2 0 _ rfl; have cB1 := hCB.2 1 _ rfl; have cB2 := hCB.2 2 _ rfl; have cB3 := hCB.2 3 _ rfl; have cB4 := hCB.2 4 _ rfl; have cB5 := hCB.2 5 _ rfl; have cB6 := hCB.2 6 _ rfl; have cB7 := hCB.2 7 _ rfl; have cB8 := hCB.2 8 _ rfl
     by_cases hlt : k < b.hours.length
     ·have hltI : (k : Int) < b.hours.length := by omega
      obtain ⟨bx, ox, hHe, hbx, x0, x1, x2, x3, x4, x5⟩ := hM.1.hr hlt
      have HO := hid (sbE_hour (b := b) hlt)
      obtain ⟨X, hX⟩ : ∃ X, b.hours[k] = X := ⟨_, rfl⟩
      have HX := hid hX
      rw [hX] at x0 x1 x2 x3 x4 x5 HO
      have C4 := hid fun W => isWeather_any X W
      obtain ⟨n1, n2, w1', w2', s1, s2⟩ := X
      simp only [Hr.cells] at C4 x0 x1 x2 x3 x4 x5
      subst hHe
      clear hX
      refine Ks ?_
      refine Rs 1 fun Q' K hK => ?_
      refine M2 hE 31 30 fun K' J ρ q31 q30 => ?_; go_simp; (try go_bits)
      refine Ln hE J fun _ Eb => ?_; clear J K' hE a q31 q30
      replace Eb := Eb.turn 32 (v' := .bool true) rfl (by (first | (simp; done) | (simp; omega)))
      refine Ld [1, 29, 30, 31, 32] Eb hK fun a hE => ?_; clear hK K Q' Eb
      refine Ks ?_
      refine cond_yes hE (t := 32) rfl ?_
      refine Ks ?_
      refine Rs 4 fun Q' K hK => ?_
      refine M2 hE 29 31 fun K' J ρ q29 q31 => ?_; go_simp; (try go_bits)
      refine Ln hE J fun _ Eb => ?_; clear J K' hE a q29 q31
      refine M1 Eb 33 fun K' J ρ q33 => ?_; go_simp
      refine Ln Eb J fun _ Ea => ?_; clear J K' Eb q33
      refine M0 fun K' J ρ => ?_; go_simp;
      refine Ln Ea J fun _ Eb => ?_; clear J K' Ea
      refine Lp fun K' J => ?_
      have r4 := Eb.at 4 rfl; have r34 := Eb.at 34 rfl
      refine wp_store_mid 62 (.tmp 4) (.tmp 34) rfl wr.heap.size 0 #[.int .i64 n1, .int .i64 n2, .int .i64 w1', .int .i64 w2', .int .i64 s1, .int .i64 s2] (eval_of r4) (eval_of r34) (there_row (row_new wr _ _) (Nat.le_of_eq rfl)) (by kernel_rfl) (by kernel_rfl) ?_
      (try clear r4 r34)
      refine late_skip Eb J (fun _ Ea => ?_); clear J K'; clear Eb
      refine Ld [1, 4, 29, 30, 31] Ea hK fun a hE => ?_; clear hK K Q' Ea
      obtain ⟨C, hC⟩ : ∃ B, B = wr.heap.size := ⟨_, rfl⟩
      rw [← hC] at hE
      refine world_cut (fun wt => Below wr.heap.size wr wt ∧ Cells wt C [.int .i64 n1, .int .i64 n2, .int .i64 w1', .int .i64 w2', .int .i64 s1, .int .i64 s2]) (by rw [hC]; exact boxed_new wr #[.int .i64 0, .int .i64 0, .int .i64 0, .int .i64 0, .int .i64 0, .int .i64 0] 62 [.int .i64 n1, .int .i64 n2, .int .i64 w1', .int .i64 w2', .int .i64 s1, .int .i64 s2] rfl) (fun w4 hCut => ?_)
      obtain ⟨h4, hCC⟩ := hCut
      clear hC
      have hbw4 := hbr.trans (h4.mono hbr.size)
      replace hCB := hCB.below h4
      clear nB cB0 cB1 cB2 cB3 cB4 cB5 cB6 cB7 cB8
      have nB := hCB.1; have cB0 := hCB.2 0 _ rfl; have cB1 := hCB.2 1 _ rfl; have cB2 := hCB.2 2 _ rfl; have cB3 := hCB.2 3 _ rfl; have cB4 := hCB.2 4 _ rfl; have cB5 := hCB.2 5 _ rfl; have cB6 := hCB.2 6 _ rfl; have cB7 := hCB.2 7 _ rfl; have cB8 := hCB.2 8 _ rfl
      obtain ⟨nC, cC0, cC1, cC2, cC3, cC4, cC5⟩ := hCC.c6
      refine Ks ?_
      refine Rs 3 fun Q' K hK => ?_
      refine M1 hE 4 fun K' J ρ q4 => ?_; go_simp
      refine Ln hE J fun _ Eb => ?_; clear J K' hE a q4
      refine M1 Eb 35 fun K' J ρ q35 => ?_; go_simp; (try go_bits); (try clear q35)
      go_at_call 61; refine (C4.out _).mono ?_; rintro e w5 ⟨rfl, h5⟩; have hbw5 := hbw4.trans (h5.mono hbw4.size); replace hCB := hCB.below h5; clear nB cB0 cB1 cB2 cB3 cB4 cB5 cB6 cB7 cB8; have nB := hCB.1; have cB0 := hCB.2 0 _ rfl; have cB1 := hCB.2 1 _ rfl; have cB2 := hCB.2 2 _ rfl; have cB3 := hCB.2 3 _ rfl; have cB4 := hCB.2 4 _ rfl; have cB5 := hCB.2 5 _ rfl; have cB6 := hCB.2 6 _ rfl; have cB7 := hCB.2 7 _ rfl; have cB8 := hCB.2 8 _ rfl; replace hCC := hCC.below h5; clear nC cC0 cC1 cC2 cC3 cC4 cC5; obtain ⟨nC, cC0, cC1, cC2, cC3, cC4, cC5⟩ := hCC.c6
      (try clear r35)
      refine Ln Eb J fun _ Ea => ?_; clear J K' Eb
      refine M1 Ea 36 fun K' J ρ q36 => ?_; go_simp; (try go_bits); (try simp (disch := omega) only [IntWalk.i64_in])
      refine Ln Ea J fun _ Eb => ?_; clear J K' Ea q36
      refine Ld [1, 29, 30, 31, 37] Eb hK fun a hE => ?_; clear hK K Q' Eb
      refine Ks ?_
      have hW5 := (hW.trans (h4.mono hW.size)).trans (h5.mono (hW.trans (h4.mono hW.size)).size)
      refine cond_part hE (t := 37) rfl (fun h => ?_) (fun h => ?_)
      ·have hq : Hr.ok ⟨n1, n2, w1', w2', s1, s2⟩ = false := by simpa using h
       rw [HO.out hq]
       clear h hq
       refine Ks ?_
       refine Rs 1 fun Q' K hK => ?_
       refine M0 fun K' J ρ => ?_; go_simp;
       refine Ln hE J fun _ Eb => ?_; clear J K' hE a
       refine Ld [2] Eb hK fun a hE => ?_; clear hK K Q' Eb
       refine Ks ?_
       exact ret_one hE rfl rfl ⟨rfl, hbw5⟩
      ·have hq : Hr.ok ⟨n1, n2, w1', w2', s1, s2⟩ = true := by simpa using h
       have HQ := hid hq
       clear h hq
       refine Ks ?_
       refine Rs 2 fun Q' K hK => ?_
       refine M1 hE 31 fun K' J ρ q31 => ?_; go_simp; (try go_bits); (try simp (disch := omega) only [IntWalk.i64_in])
       refine Ln hE J fun _ Eb => ?_; clear J K' hE a q31
       refine M1 Eb 38 fun K' J ρ q38 => ?_; go_simp
       refine Ln Eb J fun _ Ea => ?_; clear J K' Eb q38
       refine Ld [1, 29, 30, 31] Ea hK fun a hE => ?_; clear hK K Q' Ea
       refine Ks ?_
       exact ⟨k + 1, ⟨hlt, by simpa using hE, hW5, fun i hi h1 => by
        by_cases e : i = k
        ·subst e; rw [HX.out]; exact HQ.out
        ·exact HN.out i hi (by omega)⟩, by omega⟩
     ·have hke : k = b.hours.length := by omega
      have HN2 : Hid (∀ i (h : i < b.hours.length), b.hours[i].ok = true) := hid fun i h => HN.out i h (by omega)
      subst hke
      clear HN
      refine Ks ?_
      refine Rs 1 fun Q' K hK => ?_
      refine M2 hE 31 30 fun K' J ρ q31 q30 => ?_; go_simp; (try go_bits)
      refine Ln hE J fun _ Eb => ?_; clear J K' hE a q31 q30
      replace Eb := Eb.turn 32 (v' := .bool false) rfl (by simp)
      refine Ld [1, 29, 30, 31, 32] Eb hK fun a hE => ?_; clear hK K Q' Eb
      refine Ks ?_
      refine cond_no hE (t := 32) rfl ?_
      refine Ks ?_
      refine Rs 4 fun Q' K hK => ?_
      refine M1 hE 1 fun K' J ρ q1 => ?_; go_simp
      refine Ln hE J fun _ Eb => ?_; clear J K' hE a q1
      refine M1 Eb 39 fun K' J ρ q39 => ?_; go_simp
      refine Ln Eb J fun _ Ea => ?_; clear J K' Eb q39
      refine M1 Ea 40 fun K' J ρ q40 => ?_; go_simp; (try go_bits)
      refine Ln Ea J fun _ Eb => ?_; clear J K' Ea q40
      refine M0 fun K' J ρ => ?_; go_simp;
      refine Ln Eb J fun _ Ea => ?_; clear J K' Eb
      refine Ld [1, 40, 41, 42] Ea hK fun a hE => ?_; clear hK K Q' Ea
      refine Ks ?_
      clear nB cB0 cB1 cB2 cB3 cB4 cB5 cB6 cB7 cB8 hCB hM
      have hW3 := hW
      refine loop_st (fun (k : Nat) a w' => k ≤ b.sights.length ∧ Fits 58 [(1, .pointer (some ⟨B, 0, none⟩)), (40, .slice S b.sights.length scap), (41, .int .i64 b.sights.length), (42, .int .i64 k)] a ∧ Below w3.heap.size w3 w' ∧ ∀ i (h : i < b.sights.length), i < k → Si.ok b b.sights[i] = true) (fun k => b.sights.length - k) 0 ⟨Nat.zero_le _, by simpa using hE, hW3, fun i _ h => absurd h (Nat.not_lt_zero _)⟩ (fun k a ws hI => ?_)
      clear hE hW hW3 hbr
      obtain ⟨hk2, hE, hW, hN⟩ := hI
      have HN := hid hN
      clear hN
      have hbr := hbw3.trans (hW.mono hbw3.size)
      have hM := hM3.below hW
      have hCB := hCB3.below hW
      have nB := hCB.1; have cB0 := hCB.2 0 _ rfl; have cB1 := hCB.2 1 _ rfl; have cB2 := hCB.2 2 _ rfl; have cB3 := hCB.2 3 _ rfl; have cB4 := hCB.2 4 _ rfl; have cB5 := hCB.2 5 _ rfl; have cB6 := hCB.2 6 _ rfl; have cB7 := hCB.2 7 _ rfl; have cB8 := hCB.2 8 _ rfl
      by_cases hlt : k < b.sights.length
      ·have hltI : (k : Int) < b.sights.length := by omega
       obtain ⟨bx, ox, hSe, hbx, x0, x1, x2, x3⟩ := hM.2.si hlt
       have HO := hid (sbE_sight (b := b) hlt)
       obtain ⟨X, hX⟩ : ∃ X, b.sights[k] = X := ⟨_, rfl⟩
       have HX := hid hX
       rw [hX] at x0 x1 x2 x3 HO
       have C4 := hid fun W => isSpan_any X.lo X.hi 2000 W
       have HS : Hid (Si.ok b X = (b.isHour X.hour && spB X.lo X.hi 2000)) := hid rfl
       obtain ⟨xh, xf, xl, xi⟩ := X
       simp only at C4 x0 x1 x2 x3 HS
       obtain ⟨p1, hp1⟩ : ∃ q, b.isHour xh = q := ⟨_, rfl⟩
       obtain ⟨p2, hp2⟩ : ∃ q, spB xl xi 2000 = q := ⟨_, rfl⟩
       have C5 := hid (fun W => C3.out xh W)
       rw [hp1] at C5 HS
       rw [hp2] at C4 HS
       subst hSe
       clear hX hp1 hp2
       refine Ks ?_
       refine Rs 1 fun Q' K hK => ?_
       refine M2 hE 42 41 fun K' J ρ q42 q41 => ?_; go_simp; (try go_bits)
       refine Ln hE J fun _ Eb => ?_; clear J K' hE a q42 q41
       replace Eb := Eb.turn 43 (v' := .bool true) rfl (by (first | (simp; done) | (simp; omega)))
       refine Ld [1, 40, 41, 42, 43] Eb hK fun a hE => ?_; clear hK K Q' Eb
       refine Ks ?_
       refine cond_yes hE (t := 43) rfl ?_
       refine Ks ?_
       refine Rs 4 fun Q' K hK => ?_
       refine M2 hE 40 42 fun K' J ρ q40 q42 => ?_; go_simp; (try go_bits)
       refine Ln hE J fun _ Eb => ?_; clear J K' hE a q40 q42
       refine M1 Eb 44 fun K' J ρ q44 => ?_; go_simp
       refine Ln Eb J fun _ Ea => ?_; clear J K' Eb q44
       refine M0 fun K' J ρ => ?_; go_simp;
       refine Ln Ea J fun _ Eb => ?_; clear J K' Ea
       refine Lp fun K' J => ?_
       have r6 := Eb.at 6 rfl; have r45 := Eb.at 45 rfl
       refine wp_store_mid 68 (.tmp 6) (.tmp 45) rfl ws.heap.size 0 #[.int .i64 xh, .bool xf, .int .i64 xl, .int .i64 xi] (eval_of r6) (eval_of r45) (there_row (row_new ws _ _) (Nat.le_of_eq rfl)) (by kernel_rfl) (by kernel_rfl) ?_
       (try clear r6 r45)
       refine late_skip Eb J (fun _ Ea => ?_); clear J K'; clear Eb
       refine Ld [1, 6, 40, 41, 42] Ea hK fun a hE => ?_; clear hK K Q' Ea
       obtain ⟨C, hC⟩ : ∃ B, B = ws.heap.size := ⟨_, rfl⟩
       rw [← hC] at hE
       refine world_cut (fun wt => Below ws.heap.size ws wt ∧ Cells wt C [.int .i64 xh, .bool xf, .int .i64 xl, .int .i64 xi]) (by rw [hC]; exact boxed_new ws #[.int .i64 0, .bool false, .int .i64 0, .int .i64 0] 68 [.int .i64 xh, .bool xf, .int .i64 xl, .int .i64 xi] rfl) (fun w4 hCut => ?_)
       obtain ⟨h4, hCC⟩ := hCut
       clear hC
       have hbw4 := hbr.trans (h4.mono hbr.size)
       replace hCB := hCB.below h4
       clear nB cB0 cB1 cB2 cB3 cB4 cB5 cB6 cB7 cB8
       have nB := hCB.1; have cB0 := hCB.2 0 _ rfl; have cB1 := hCB.2 1 _ rfl; have cB2 := hCB.2 2 _ rfl; have cB3 := hCB.2 3 _ rfl; have cB4 := hCB.2 4 _ rfl; have cB5 := hCB.2 5 _ rfl; have cB6 := hCB.2 6 _ rfl; have cB7 := hCB.2 7 _ rfl; have cB8 := hCB.2 8 _ rfl
       obtain ⟨nC, cC0, cC1, cC2, cC3⟩ := hCC.c4
       cases hv : p1
       ·rw [hv] at C5 HS
        have hq : Si.ok b ⟨xh, xf, xl, xi⟩ = false := by rw [HS.out]; rfl
        rw [HO.out hq]
        clear hq hv
        refine Ks ?_
        refine Rs 11 fun Q' K hK => ?_
        refine M1 hE 1 fun K' J ρ q1 => ?_; go_simp
        refine Ln hE J fun _ Eb => ?_; clear J K' hE a q1
        refine M1 Eb 6 fun K' J ρ q6 => ?_; go_simp
        refine Ln Eb J fun _ Ea => ?_; clear J K' Eb q6
        refine M1 Ea 47 fun K' J ρ q47 => ?_; go_simp
        refine Ln Ea J fun _ Eb => ?_; clear J K' Ea q47
        refine M2 Eb 46 48 fun K' J ρ q46 q48 => ?_; go_simp; (try go_bits); (try clear q46 q48)
        go_at_call 62; refine (C5.out _).mono ?_; rintro e w5 ⟨rfl, h5⟩; have hbw5 := hbw4.trans (h5.mono hbw4.size); replace hCB := hCB.below h5; clear nB cB0 cB1 cB2 cB3 cB4 cB5 cB6 cB7 cB8; have nB := hCB.1; have cB0 := hCB.2 0 _ rfl; have cB1 := hCB.2 1 _ rfl; have cB2 := hCB.2 2 _ rfl; have cB3 := hCB.2 3 _ rfl; have cB4 := hCB.2 4 _ rfl; have cB5 := hCB.2 5 _ rfl; have cB6 := hCB.2 6 _ rfl; have cB7 := hCB.2 7 _ rfl; have cB8 := hCB.2 8 _ rfl; replace hCC := hCC.below h5; clear nC cC0 cC1 cC2 cC3; obtain ⟨nC, cC0, cC1, cC2, cC3⟩ := hCC.c4
        (try clear r46 r48)
        refine Ln Eb J fun _ Ea => ?_; clear J K' Eb
        refine M1 Ea 49 fun K' J ρ q49 => ?_; go_simp; (try go_bits); (try simp (disch := omega) only [IntWalk.i64_in])
        refine Ln Ea J fun _ Eb => ?_; clear J K' Ea q49
        refine M1 Eb 50 fun K' J ρ q50 => ?_; go_simp
        refine Ln Eb J fun _ Ea => ?_; clear J K' Eb q50
        replace Ea := Ea.turn 51 (v' := .bool true) rfl (by (first | rfl | simp))
        refine Lno Ea 51 ?_
        refine Lu Ea fun _ Eb => ?_
        refine Lno Eb 51 ?_
        refine Lu Eb fun _ Ea => ?_
        refine Lno Ea 51 ?_
        refine Lu Ea fun _ Eb => ?_
        refine Lno Eb 51 ?_
        refine Lu Eb fun _ Ea => ?_
        refine M2 Ea 51 55 fun K' J ρ q51 q55 => ?_; go_simp; (try go_bits)
        refine Ln Ea J fun _ Eb => ?_; clear J K' Ea q51 q55
        replace Eb := Eb.turn 56 (v' := .bool true) rfl (by (first | rfl | simp))
        refine Ld [1, 40, 41, 42, 56] Eb hK fun a hE => ?_; clear hK K Q' Eb
        refine Ks ?_
        refine cond_yes hE (t := 56) rfl ?_
        refine Ks ?_
        refine Rs 1 fun Q' K hK => ?_
        refine M0 fun K' J ρ => ?_; go_simp;
        refine Ln hE J fun _ Eb => ?_; clear J K' hE a
        refine Ld [2] Eb hK fun a hE => ?_; clear hK K Q' Eb
        refine Ks ?_
        exact ret_one hE rfl rfl ⟨rfl, hbw5⟩
       ·rw [hv] at C5 HS
        clear hv
        refine Ks ?_
        refine Rs 11 fun Q' K hK => ?_
        refine M1 hE 1 fun K' J ρ q1 => ?_; go_simp
        refine Ln hE J fun _ Eb => ?_; clear J K' hE a q1
        refine M1 Eb 6 fun K' J ρ q6 => ?_; go_simp
        refine Ln Eb J fun _ Ea => ?_; clear J K' Eb q6
        refine M1 Ea 47 fun K' J ρ q47 => ?_; go_simp
        refine Ln Ea J fun _ Eb => ?_; clear J K' Ea q47
        refine M2 Eb 46 48 fun K' J ρ q46 q48 => ?_; go_simp; (try go_bits); (try clear q46 q48)
        go_at_call 62; refine (C5.out _).mono ?_; rintro e w5 ⟨rfl, h5⟩; have hbw5 := hbw4.trans (h5.mono hbw4.size); replace hCB := hCB.below h5; clear nB cB0 cB1 cB2 cB3 cB4 cB5 cB6 cB7 cB8; have nB := hCB.1; have cB0 := hCB.2 0 _ rfl; have cB1 := hCB.2 1 _ rfl; have cB2 := hCB.2 2 _ rfl; have cB3 := hCB.2 3 _ rfl; have cB4 := hCB.2 4 _ rfl; have cB5 := hCB.2 5 _ rfl; have cB6 := hCB.2 6 _ rfl; have cB7 := hCB.2 7 _ rfl; have cB8 := hCB.2 8 _ rfl; replace hCC := hCC.below h5; clear nC cC0 cC1 cC2 cC3; obtain ⟨nC, cC0, cC1, cC2, cC3⟩ := hCC.c4
        (try clear r46 r48)
        refine Ln Eb J fun _ Ea => ?_; clear J K' Eb
        refine M1 Ea 49 fun K' J ρ q49 => ?_; go_simp; (try go_bits); (try simp (disch := omega) only [IntWalk.i64_in])
        refine Ln Ea J fun _ Eb => ?_; clear J K' Ea q49
        refine M1 Eb 50 fun K' J ρ q50 => ?_; go_simp
        refine Ln Eb J fun _ Ea => ?_; clear J K' Eb q50
        replace Ea := Ea.turn 51 (v' := .bool false) rfl (by (first | rfl | simp))
        refine N1 Ea 51 6 fun K' J ρ q6 => ?_; go_simp
        refine Ln Ea J fun _ Eb => ?_; clear J K' Ea q6
        refine N1 Eb 51 52 fun K' J ρ q52 => ?_; go_simp
        refine Ln Eb J fun _ Ea => ?_; clear J K' Eb q52
        refine N1 Ea 51 53 fun K' J ρ q53 => ?_; go_simp; (try go_bits); (try clear q53)
        go_at_call 59; refine (C4.out _).mono ?_; rintro e w6 ⟨rfl, h6⟩; have hbw6 := hbw5.trans (h6.mono hbw5.size); replace hCB := hCB.below h6; clear nB cB0 cB1 cB2 cB3 cB4 cB5 cB6 cB7 cB8; have nB := hCB.1; have cB0 := hCB.2 0 _ rfl; have cB1 := hCB.2 1 _ rfl; have cB2 := hCB.2 2 _ rfl; have cB3 := hCB.2 3 _ rfl; have cB4 := hCB.2 4 _ rfl; have cB5 := hCB.2 5 _ rfl; have cB6 := hCB.2 6 _ rfl; have cB7 := hCB.2 7 _ rfl; have cB8 := hCB.2 8 _ rfl; replace hCC := hCC.below h6; clear nC cC0 cC1 cC2 cC3; obtain ⟨nC, cC0, cC1, cC2, cC3⟩ := hCC.c4
        (try clear r53)
        refine Ln Ea J fun _ Eb => ?_; clear J K' Ea
        refine N1 Eb 51 54 fun K' J ρ q54 => ?_; go_simp; (try go_bits); (try simp (disch := omega) only [IntWalk.i64_in])
        refine Ln Eb J fun _ Ea => ?_; clear J K' Eb q54
        refine M2 Ea 51 55 fun K' J ρ q51 q55 => ?_; go_simp; (try go_bits)
        refine Ln Ea J fun _ Eb => ?_; clear J K' Ea q51 q55
        refine Ld [1, 40, 41, 42, 56] Eb hK fun a hE => ?_; clear hK K Q' Eb
        refine Ks ?_
        have hW5 := (hW.trans (h4.mono hW.size))
        have hW6 := hW5.trans ((h5.trans (h6.mono h5.size)).mono hW5.size)
        refine cond_part hE (t := 56) rfl (fun h => ?_) (fun h => ?_)
        ·have hq : Si.ok b ⟨xh, xf, xl, xi⟩ = false := by rw [HS.out]; simpa using h
         rw [HO.out hq]
         clear h hq
         refine Ks ?_
         refine Rs 1 fun Q' K hK => ?_
         refine M0 fun K' J ρ => ?_; go_simp;
         refine Ln hE J fun _ Eb => ?_; clear J K' hE a
         refine Ld [2] Eb hK fun a hE => ?_; clear hK K Q' Eb
         refine Ks ?_
         exact ret_one hE rfl rfl ⟨rfl, hbw6⟩
        ·have hq : Si.ok b ⟨xh, xf, xl, xi⟩ = true := by rw [HS.out]; simpa using h
         have HQ := hid hq
         clear h hq
         refine Ks ?_
         refine Rs 2 fun Q' K hK => ?_
         refine M1 hE 42 fun K' J ρ q42 => ?_; go_simp; (try go_bits); (try simp (disch := omega) only [IntWalk.i64_in])
         refine Ln hE J fun _ Eb => ?_; clear J K' hE a q42
         refine M1 Eb 57 fun K' J ρ q57 => ?_; go_simp
         refine Ln Eb J fun _ Ea => ?_; clear J K' Eb q57
         refine Ld [1, 40, 41, 42] Ea hK fun a hE => ?_; clear hK K Q' Ea
         refine Ks ?_
         exact ⟨k + 1, ⟨hlt, by simpa using hE, hW6, fun i hi h1 => by
          by_cases e : i = k
          ·subst e; rw [HX.out]; exact HQ.out
          ·exact HN.out i hi (by omega)⟩, by omega⟩
      ·have hke : k = b.sights.length := by omega
       have HS2 : Hid (∀ i (h : i < b.sights.length), Si.ok b b.sights[i] = true) := hid fun i h => HN.out i h (by omega)
       rw [sbE_yes HT.out HN2.out HS2.out]
       subst hke
       clear HN HN2 HS2
       refine Ks ?_
       refine Rs 1 fun Q' K hK => ?_
       refine M2 hE 42 41 fun K' J ρ q42 q41 => ?_; go_simp; (try go_bits)
       refine Ln hE J fun _ Eb => ?_; clear J K' hE a q42 q41
       replace Eb := Eb.turn 43 (v' := .bool false) rfl (by simp)
       refine Ld [1, 40, 41, 42, 43] Eb hK fun a hE => ?_; clear hK K Q' Eb
       refine Ks ?_
       refine cond_no hE (t := 43) rfl ?_
       refine Ks ?_
       refine Rs 1 fun Q' K hK => ?_
       refine M0 fun K' J ρ => ?_; go_simp;
       refine Ln hE J fun _ Eb => ?_; clear J K' hE a
       refine Ld [2] Eb hK fun a hE => ?_; clear hK K Q' Eb
       refine Ks ?_
       exact ret_one hE rfl rfl ⟨rfl, hbr⟩
end
end Go.Proofs.YtkhmcofmjjmjhaaDoor
