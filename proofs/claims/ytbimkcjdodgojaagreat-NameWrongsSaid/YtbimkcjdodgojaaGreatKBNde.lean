/- Name: the reference's Can, over what its can says. -/
import Derived.Test.YtbimkcjdodgojaaGreatKBNdb
import Derived.Test.YtbimkcjdodgojaaGreatKBNaj
import Derived.Test.YtbimkcjdodgojaaGreatKBJ
import Derived.Test.YtbimkcjdodgojaaGreatKBNbd

namespace Go.Proofs.YtbimkcjdodgojaaGreat
set_option linter.unusedSimpArgs false
set_option linter.unusedVariables false
open Go Go.RowKit
attribute [local go_sem high] cell_set_wr
attribute [local go_sem low] cell_wr frozen_wr
attribute [local go_sem] wr_set wr_drew wr_drewN wr_alloc wr_new Rho.c Rho.n Rho.g
section
variable (A : Option Addr) (cap : Nat) (L : Option Addr) (lcap : Nat) (b : Bk)
set_option maxRecDepth 100000 in
set_option maxHeartbeats 2000000 in
theorem rasked_any (v : Bool) (w : World) (hM : BkAt w A L b) (hs : b.small cap lcap) (hz : ∀ i (h : i < b.ear.alike.length), b.ear.alike[i].size ≤ 9223372036854775807)
    (HC : Hid (b.ok = true → ∀ (W : World), BkAt W A L b → Calls Tryz.prog 42 #[.agg (bkV A cap L lcap b).toArray] W fun e w' => (∃ O c, e = .returned (.slice O b.ts.length c)) ∧ Below W.heap.size W w')) :
    Calls Tryz.prog 52 #[.agg (bkV A cap L lcap b).toArray, .bool v] w fun e w' => e = .returned (.int .i64 (setE b v)) ∧ Below w.heap.size w w' := by
 have C1 : Hid (∀ W, BkAt W A L b → Calls Tryz.prog 9 #[.agg (bkV A cap L lcap b).toArray] W fun e w' => e = .returned (.int .i64 (bkE b)) ∧ Below W.heap.size W w') := hid fun W hW => rCheck_any A cap L lcap b W hW hs hz
 cases ho : b.ok
 ·have e0 : bkE b = 20 := by unfold bkE; rw [ho]; rfl
  have e1 : setE b v = 20 := by unfold setE refE; rw [ho]; rfl
  rw [e0] at C1
  rw [e1]
  clear e0 e1 ho HC
  simp only [bkV] at C1 ⊢
  refine enterE Tryz.func52 rfl Tryz.ntmps52 (by simp) (fun a hE => ?_); simp only [envOf, Nat.zero_add, Nat.reduceAdd] at hE
  refine Ks ?_
  refine Rs 2 fun Q' K hK => ?_
  refine M1 hE 0 fun K' J ρ q0 => ?_; go_simp
  refine Ln hE J fun _ Eb => ?_; clear J K' hE a q0
  refine M0 fun K' J ρ => ?_; go_simp;
  refine Ln Eb J fun _ Ea => ?_; clear J K' Eb
  refine Ld [2] Ea hK fun a hE => ?_; clear hK K Q' Ea
  obtain ⟨B, hBe⟩ : ∃ B, B = w.heap.size := ⟨_, rfl⟩; rw [← hBe] at hE; refine world_cut (fun wt => Below w.heap.size w wt ∧ Cells wt B (bkV A cap L lcap b)) ⟨(Below.refl _ _).alloc (Nat.le_refl _) _, by rw [hBe]; exact cells_new _ _ _⟩ (fun w1 hCut => ?_); obtain ⟨hbw1, hCB⟩ := hCut; clear hBe
  have hM1 := hM.below hbw1
  simp only [bkV] at hCB
  obtain ⟨nB, cB0, cB1, cB2, cB3, cB4, cB5, cB6⟩ := hCB.c7
  refine Ks ?_
  refine Rs 3 fun Q' K hK => ?_
  refine M1 hE 2 fun K' J ρ q2 => ?_; go_simp
  refine Ln hE J fun _ Eb => ?_; clear J K' hE a q2
  refine M1 Eb 6 fun K' J ρ q6 => ?_; go_simp; (try go_bits); (try clear q6)
  go_at_call 9; refine (C1.out _ hM1).mono ?_; rintro e w2 ⟨rfl, h2⟩
  (try clear r6)
  refine Ln Eb J fun _ Ea => ?_; clear J K' Eb
  refine M1 Ea 7 fun K' J ρ q7 => ?_; go_simp
  refine Ln Ea J fun _ Eb => ?_; clear J K' Ea q7
  refine Ld [5] Eb hK fun a hE => ?_; clear hK K Q' Eb
  refine Ks ?_
  refine Rs 2 fun Q' K hK => ?_
  refine M1 hE 5 fun K' J ρ q5 => ?_; go_simp
  refine Ln hE J fun _ Eb => ?_; clear J K' hE a q5
  refine M1 Eb 8 fun K' J ρ q8 => ?_; go_simp; (try go_bits)
  refine Ln Eb J fun _ Ea => ?_; clear J K' Eb q8
  replace Ea := Ea.turn 9 (v' := .bool true) rfl (by (first | rfl | simp))
  refine Ld [5, 9] Ea hK fun a hE => ?_; clear hK K Q' Ea
  refine Ks ?_
  refine cond_yes hE (t := 9) rfl ?_
  refine Ks ?_
  refine Rs 2 fun Q' K hK => ?_
  refine M1 hE 5 fun K' J ρ q5 => ?_; go_simp
  refine Ln hE J fun _ Eb => ?_; clear J K' hE a q5
  refine M1 Eb 10 fun K' J ρ q10 => ?_; go_simp
  refine Ln Eb J fun _ Ea => ?_; clear J K' Eb q10
  refine Ld [4] Ea hK fun a hE => ?_; clear hK K Q' Ea
  refine Ks ?_
  exact ret_one hE rfl rfl ⟨rfl, hbw1.trans (h2.mono hbw1.size)⟩
 ·have e0 : bkE b = 0 := by unfold bkE; rw [ho]; rfl
  rw [e0] at C1
  have C3 := hid (HC.out ho)
  obtain ⟨m, hm⟩ : ∃ m, b.ts.length = m := ⟨_, rfl⟩
  have HS : Hid (setE b v = if v then (if m = 0 then 22 else 0) else 21) := hid (by
   unfold setE refE
   rw [ho, hm]
   cases v <;> rfl)
  rw [hm] at C3
  clear e0 ho HC hm
  simp only [bkV] at C1 C3 ⊢
  refine enterE Tryz.func52 rfl Tryz.ntmps52 (by simp) (fun a hE => ?_); simp only [envOf, Nat.zero_add, Nat.reduceAdd] at hE
  refine Ks ?_
  refine Rs 2 fun Q' K hK => ?_
  refine M1 hE 0 fun K' J ρ q0 => ?_; go_simp
  refine Ln hE J fun _ Eb => ?_; clear J K' hE a q0
  refine M0 fun K' J ρ => ?_; go_simp;
  refine Ln Eb J fun _ Ea => ?_; clear J K' Eb
  refine Ld [1, 2] Ea hK fun a hE => ?_; clear hK K Q' Ea
  obtain ⟨B, hBe⟩ : ∃ B, B = w.heap.size := ⟨_, rfl⟩; rw [← hBe] at hE; refine world_cut (fun wt => Below w.heap.size w wt ∧ Cells wt B (bkV A cap L lcap b)) ⟨(Below.refl _ _).alloc (Nat.le_refl _) _, by rw [hBe]; exact cells_new _ _ _⟩ (fun w1 hCut => ?_); obtain ⟨hbw1, hCB⟩ := hCut; clear hBe
  have hM1 := hM.below hbw1
  simp only [bkV] at hCB
  obtain ⟨nB, cB0, cB1, cB2, cB3, cB4, cB5, cB6⟩ := hCB.c7
  refine Ks ?_
  refine Rs 3 fun Q' K hK => ?_
  refine M1 hE 2 fun K' J ρ q2 => ?_; go_simp
  refine Ln hE J fun _ Eb => ?_; clear J K' hE a q2
  refine M1 Eb 6 fun K' J ρ q6 => ?_; go_simp; (try go_bits); (try clear q6)
  go_at_call 9; refine (C1.out _ hM1).mono ?_; rintro e w2 ⟨rfl, h2⟩
  (try clear r6)
  refine Ln Eb J fun _ Ea => ?_; clear J K' Eb
  refine M1 Ea 7 fun K' J ρ q7 => ?_; go_simp
  refine Ln Ea J fun _ Eb => ?_; clear J K' Ea q7
  refine Ld [1, 2, 5] Eb hK fun a hE => ?_; clear hK K Q' Eb
  have hb2 := hbw1.trans (h2.mono hbw1.size)
  have hM2 := hM.below hb2
  replace hCB := hCB.below h2
  clear nB cB0 cB1 cB2 cB3 cB4 cB5 cB6 hM1
  obtain ⟨nB, cB0, cB1, cB2, cB3, cB4, cB5, cB6⟩ := hCB.c7
  refine Ks ?_
  refine Rs 2 fun Q' K hK => ?_
  refine M1 hE 5 fun K' J ρ q5 => ?_; go_simp
  refine Ln hE J fun _ Eb => ?_; clear J K' hE a q5
  refine M1 Eb 8 fun K' J ρ q8 => ?_; go_simp; (try go_bits)
  refine Ln Eb J fun _ Ea => ?_; clear J K' Eb q8
  replace Ea := Ea.turn 9 (v' := .bool false) rfl (by (first | rfl | simp))
  refine Ld [1, 2, 9] Ea hK fun a hE => ?_; clear hK K Q' Ea
  refine Ks ?_
  refine cond_no hE (t := 9) rfl ?_
  refine Ks ?_
  cases v
  ·skip
   refine Rs 2 fun Q' K hK => ?_
   refine M1 hE 1 fun K' J ρ q1 => ?_; go_simp
   refine Ln hE J fun _ Eb => ?_; clear J K' hE a q1
   refine M1 Eb 11 fun K' J ρ q11 => ?_; go_simp; (try go_bits); (try simp (disch := omega) only [IntWalk.i64_in])
   refine Ln Eb J fun _ Ea => ?_; clear J K' Eb q11
   replace Ea := Ea.turn 12 (v' := .bool true) rfl (by (first | rfl | simp))
   refine Ld [12] Ea hK fun a hE => ?_; clear hK K Q' Ea
   refine Ks ?_
   refine cond_yes hE (t := 12) rfl ?_
   refine Ks ?_
   refine Rs 1 fun Q' K hK => ?_
   refine M0 fun K' J ρ => ?_; go_simp;
   refine Ln hE J fun _ Eb => ?_; clear J K' hE a
   refine Ld [4] Eb hK fun a hE => ?_; clear hK K Q' Eb
   refine Ks ?_
   exact ret_one hE rfl rfl ⟨by rw [HS.out]; rfl, hb2⟩
  ·skip
   refine Rs 2 fun Q' K hK => ?_
   refine M1 hE 1 fun K' J ρ q1 => ?_; go_simp
   refine Ln hE J fun _ Eb => ?_; clear J K' hE a q1
   refine M1 Eb 11 fun K' J ρ q11 => ?_; go_simp; (try go_bits); (try simp (disch := omega) only [IntWalk.i64_in])
   refine Ln Eb J fun _ Ea => ?_; clear J K' Eb q11
   replace Ea := Ea.turn 12 (v' := .bool false) rfl (by (first | rfl | simp))
   refine Ld [2, 12] Ea hK fun a hE => ?_; clear hK K Q' Ea
   refine Ks ?_
   refine cond_no hE (t := 12) rfl ?_
   refine Ks ?_
   refine Rs 4 fun Q' K hK => ?_
   refine M1 hE 2 fun K' J ρ q2 => ?_; go_simp
   refine Ln hE J fun _ Eb => ?_; clear J K' hE a q2
   refine M1 Eb 13 fun K' J ρ q13 => ?_; go_simp; (try go_bits); (try clear q13)
   go_at_call 42; refine (C3.out _ hM2).mono ?_; rintro e w3 ⟨⟨O, oc, rfl⟩, h3⟩
   (try clear r13)
   refine Ln Eb J fun _ Ea => ?_; clear J K' Eb
   refine M1 Ea 14 fun K' J ρ q14 => ?_; go_simp; (try go_bits)
   refine Ln Ea J fun _ Eb => ?_; clear J K' Ea q14
   refine M1 Eb 15 fun K' J ρ q15 => ?_; go_simp; (try go_bits)
   refine Ln Eb J fun _ Ea => ?_; clear J K' Eb q15
   refine Ld [16] Ea hK fun a hE => ?_; clear hK K Q' Ea
   have hb3 := hb2.trans (h3.mono hb2.size)
   refine Ks ?_
   refine cond_part hE (t := 16) rfl (fun h => ?_) (fun h => ?_)
   ·have hm0 : m = 0 := by have := of_decide_eq_true h; omega
    refine Ks ?_
    refine Rs 1 fun Q' K hK => ?_
    refine M0 fun K' J ρ => ?_; go_simp;
    refine Ln hE J fun _ Eb => ?_; clear J K' hE a
    refine Ld [4] Eb hK fun a hE => ?_; clear hK K Q' Eb
    refine Ks ?_
    exact ret_one hE rfl rfl ⟨by rw [HS.out, if_pos rfl, if_pos hm0], hb3⟩
   ·have hm0 : ¬ m = 0 := by have := of_decide_eq_false h; omega
    refine Ks ?_
    refine Rs 1 fun Q' K hK => ?_
    refine M0 fun K' J ρ => ?_; go_simp;
    refine Ln hE J fun _ Eb => ?_; clear J K' hE a
    refine Ld [4] Eb hK fun a hE => ?_; clear hK K Q' Eb
    refine Ks ?_
    exact ret_one hE rfl rfl ⟨by rw [HS.out, if_pos rfl, if_neg hm0], hb3⟩
end
end Go.Proofs.YtbimkcjdodgojaaGreat
