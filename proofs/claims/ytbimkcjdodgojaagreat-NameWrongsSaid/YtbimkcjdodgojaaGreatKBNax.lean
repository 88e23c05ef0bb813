/- Name: how many truths; the wrong lines. -/
import Derived.Test.YtbimkcjdodgojaaGreatKBJ
import Derived.Test.YtbimkcjdodgojaaGreatKBNan
import Derived.Test.YtbimkcjdodgojaaGreatKBNas
import Derived.Test.YtbimkcjdodgojaaGreatKBNai
import Derived.Test.YtbimkcjdodgojaaGreatKBNat

namespace Go.Proofs.YtbimkcjdodgojaaGreat
set_option linter.unusedSimpArgs false
set_option linter.unusedVariables false
open Go Go.RowKit
attribute [local go_sem high] cell_set_wr
attribute [local go_sem low] cell_wr frozen_wr
attribute [local go_sem] wr_set wr_drew wr_drewN wr_alloc wr_new Rho.c Rho.n Rho.g
/-- the book's truths -/
def Bk.ts (b : Bk) : List Prs := fromP b.lines.length b.lost (couldsP b) b.lines.length 0 []
def pIsTruthR (b : Bk) (ps : IPrs) : Bool × Int := if b.ok then (b.ts.any fun t => sameP t ps, 0) else (false, 20)
theorem ok_nine {b : Bk} (h : b.ok = true) : b.lines.length ≤ 9 := by
 unfold Bk.ok headB at h
 simp only [Bool.and_eq_true, Bool.not_eq_true', decide_eq_false_iff_not] at h
 have := h.2.1.1.1
 omega
theorem couldsP_nine {b : Bk} (h : b.lines.length ≤ 9) (k : Nat) : ((couldsP b).getD k []).length ≤ 9 := Nat.le_trans (couldsP_len b k) h
theorem ts_short (b : Bk) : ∀ x ∈ b.ts, x.length ≤ b.lines.length := fun x hx => by
 have := fromP_tlen _ _ _ _ _ _ x hx
 simpa using this
set_option maxRecDepth 100000 in
set_option maxHeartbeats 2000000 in
theorem pIsTruth_any (A : Option Addr) (cap : Nat) (L : Option Addr) (lcap : Nat) (b : Bk) (G : Option Addr) (d : Nat) (ps : IPrs) (w : World) (hM : BkAt w A L b) (hs : b.small cap lcap) (hG : Arr w w.heap.size G (pairsI ps)) (hps : ps.length ≤ 9223372036854775807) : Calls Tryz.prog 10 #[.agg (bkV A cap L lcap b).toArray, .slice G ps.length d] w fun e w' => e = .returned (.tuple #[.bool (pIsTruthR b ps).1, .int .i64 (pIsTruthR b ps).2]) ∧ Below w.heap.size w w' := by
 have C1 : Hid (∀ W, BkAt W A L b → Calls Tryz.prog 8 #[.agg (bkV A cap L lcap b).toArray] W fun e w' => e = .returned (.int .i64 (bkE b)) ∧ Below W.heap.size W w') := hid fun W hW => pCheck_any A cap L lcap b W hW hs
 have C2 : Hid (b.ok = true → ∀ W, BkAt W A L b → _) := hid fun ho W hW => compared_any A cap L lcap b W hW hs (ok_nine ho) (ok_minutes ho)
 simp only [bkV] at C1 C2 ⊢
 refine enterE Tryz.func10 rfl Tryz.ntmps10 (by simp) (fun a hE => ?_); simp only [envOf, Nat.zero_add, Nat.reduceAdd] at hE
 refine Ks ?_
 refine Rs 3 fun Q' K hK => ?_
 refine M1 hE 0 fun K' J ρ q0 => ?_; go_simp
 refine Ln hE J fun _ Eb => ?_; clear J K' hE a q0
 refine M0 fun K' J ρ => ?_; go_simp;
 refine Ln Eb J fun _ Ea => ?_; clear J K' Eb
 refine M0 fun K' J ρ => ?_; go_simp;
 refine Ln Ea J fun _ Eb => ?_; clear J K' Ea
 refine Ld [1, 2] Eb hK fun a hE => ?_; clear hK K Q' Eb
 obtain ⟨B, hBe⟩ : ∃ B, B = w.heap.size := ⟨_, rfl⟩; rw [← hBe] at hE; refine world_cut (fun wt => Below w.heap.size w wt ∧ Cells wt B (bkV A cap L lcap b)) ⟨(Below.refl _ _).alloc (Nat.le_refl _) _, by rw [hBe]; exact cells_new _ _ _⟩ (fun w1 hCut => ?_); obtain ⟨hbw1, hCB⟩ := hCut; clear hBe
 have hM1 := hM.below hbw1
 have hG1 := (hG.below hbw1).more hbw1.size
 simp only [bkV] at hCB
 obtain ⟨nB, cB0, cB1, cB2, cB3, cB4, cB5, cB6⟩ := hCB.c7
 obtain ⟨r, hr⟩ : ∃ r, bkE b = r := ⟨_, rfl⟩
 rw [hr] at C1
 have HR := hid hr
 clear hr
 refine Ks ?_
 refine Rs 3 fun Q' K hK => ?_
 refine M1 hE 2 fun K' J ρ q2 => ?_; go_simp
 refine Ln hE J fun _ Eb => ?_; clear J K' hE a q2
 refine M1 Eb 7 fun K' J ρ q7 => ?_; go_simp; (try go_bits); (try clear q7)
 go_at_call 8; refine (C1.out _ hM1).mono ?_; rintro e w2 ⟨rfl, h2⟩
 (try clear r7)
 refine Ln Eb J fun _ Ea => ?_; clear J K' Eb
 refine M1 Ea 8 fun K' J ρ q8 => ?_; go_simp
 refine Ln Ea J fun _ Eb => ?_; clear J K' Ea q8
 refine Ld [1, 2, 6] Eb hK fun a hE => ?_; clear hK K Q' Eb
 have hb2 := hbw1.trans (h2.mono hbw1.size)
 have hM2 := hM.below hb2
 have hG2 := (hG.below hb2).more hb2.size
 replace hCB := hCB.below h2
 clear nB cB0 cB1 cB2 cB3 cB4 cB5 cB6 C1
 obtain ⟨nB, cB0, cB1, cB2, cB3, cB4, cB5, cB6⟩ := hCB.c7
 by_cases hr0 : r = 0
 ·subst hr0
  have hok : b.ok = true := by
   have := HR.out
   unfold bkE at this
   revert this
   cases b.ok <;> simp
  have HO := hid hok
  clear hok
  refine Ks ?_
  refine Rs 2 fun Q' K hK => ?_
  refine M1 hE 6 fun K' J ρ q6 => ?_; go_simp
  refine Ln hE J fun _ Eb => ?_; clear J K' hE a q6
  refine M1 Eb 9 fun K' J ρ q9 => ?_; go_simp; (try go_bits)
  refine Ln Eb J fun _ Ea => ?_; clear J K' Eb q9
  refine Ld [1, 2, 10] Ea hK fun a hE => ?_; clear hK K Q' Ea
  refine Ks ?_
  refine cond_no hE (t := 10) rfl ?_
  refine Ks ?_
  refine Rs 6 fun Q' K hK => ?_
  refine M1 hE 2 fun K' J ρ q2 => ?_; go_simp
  refine Ln hE J fun _ Eb => ?_; clear J K' hE a q2
  refine M1 Eb 12 fun K' J ρ q12 => ?_; go_simp; (try go_bits); (try clear q12)
  go_at_call 40; refine (C2.out HO.out _ hM2).mono ?_; rintro e w3 ⟨⟨f, rfl, hu⟩, h3⟩
  (try clear r12)
  refine Ln Eb J fun _ Ea => ?_; clear J K' Eb
  refine M1 Ea 1 fun K' J ρ q1 => ?_; go_simp
  refine Ln Ea J fun _ Eb => ?_; clear J K' Ea q1
  refine M2 Eb 13 14 fun K' J ρ q13 q14 => ?_; go_simp; (try go_bits); (try clear q13 q14)
  go_at_call 41; refine (areTrue_any (w := w3) G d ps ((hG2.below h3).more h3.size) hps (ok_nine HO.out) hs.2.2.1 (fun k => Nat.le_trans (couldsP_nine (ok_nine HO.out) k) (by decide)) (hu.of_below (Below.refl _ _) (fun k hk _ => hk.elim)) (fun x hx => Nat.le_trans (ts_short b x hx) (Nat.le_trans (ok_nine HO.out) (by decide)))).mono ?_; rintro e w4 ⟨rfl, h4⟩
  (try clear r13 r14)
  refine Ln Eb J fun _ Ea => ?_; clear J K' Eb
  refine M1 Ea 15 fun K' J ρ q15 => ?_; go_simp
  refine Ln Ea J fun _ Eb => ?_; clear J K' Ea q15
  refine M0 fun K' J ρ => ?_; go_simp;
  refine Ln Eb J fun _ Ea => ?_; clear J K' Eb
  refine Ld [4, 5] Ea hK fun a hE => ?_; clear hK K Q' Ea
  refine Ks ?_
  refine ret_two hE rfl rfl rfl ⟨?_, hb2.trans ((h3.trans (h4.mono h3.size)).mono hb2.size)⟩
  unfold pIsTruthR
  rw [HO.out]; rfl
 ·have hno : b.ok = false ∧ r = 20 := by
   have := HR.out
   unfold bkE at this
   revert this
   cases b.ok
   ·intro h; exact ⟨rfl, by simpa using h.symm⟩
   ·intro h; simp at h; exact absurd h.symm hr0
  obtain ⟨hno, rfl⟩ := hno
  have HO := hid hno
  clear hno
  refine Ks ?_
  refine Rs 2 fun Q' K hK => ?_
  refine M1 hE 6 fun K' J ρ q6 => ?_; go_simp
  refine Ln hE J fun _ Eb => ?_; clear J K' hE a q6
  refine M1 Eb 9 fun K' J ρ q9 => ?_; go_simp; (try go_bits)
  refine Ln Eb J fun _ Ea => ?_; clear J K' Eb q9
  refine Ld [1, 2, 6, 10] Ea hK fun a hE => ?_; clear hK K Q' Ea
  refine Ks ?_
  refine cond_yes hE (t := 10) rfl ?_
  refine Ks ?_
  refine Rs 3 fun Q' K hK => ?_
  refine M1 hE 6 fun K' J ρ q6 => ?_; go_simp
  refine Ln hE J fun _ Eb => ?_; clear J K' hE a q6
  refine M0 fun K' J ρ => ?_; go_simp;
  refine Ln Eb J fun _ Ea => ?_; clear J K' Eb
  refine M1 Ea 11 fun K' J ρ q11 => ?_; go_simp
  refine Ln Ea J fun _ Eb => ?_; clear J K' Ea q11
  refine Ld [4, 5] Eb hK fun a hE => ?_; clear hK K Q' Eb
  refine Ks ?_
  refine ret_two hE rfl rfl rfl ⟨?_, hb2⟩
  unfold pIsTruthR
  rw [HO.out]; rfl
def pTruthsR (b : Bk) : Int × Int := if b.ok then (b.ts.length, 0) else (0, 20)
def pWrongL (b : Bk) : List Nat := if b.ok then wrongP b else []
theorem couldsP_lt {b : Bk} (h : b.lines.length ≤ 9) (k : Nat) : ∀ o ∈ (couldsP b).getD k [], o < 9 := fun o ho => by
 rw [List.getD_eq_getElem?_getD, couldsP, List.getElem?_map] at ho
 cases hq : (List.range b.lines.length)[k]? with
 | none => rw [hq] at ho; simp at ho
 | some i =>
  rw [hq] at ho
  simp only [Option.map_some, Option.getD_some, couldP, List.mem_filter, List.mem_range] at ho
  omega
set_option maxRecDepth 100000 in
set_option maxHeartbeats 2000000 in
theorem pTruths_any (A : Option Addr) (cap : Nat) (L : Option Addr) (lcap : Nat) (b : Bk) (w : World) (hM : BkAt w A L b) (hs : b.small cap lcap) : Calls Tryz.prog 12 #[.agg (bkV A cap L lcap b).toArray] w fun e w' => e = .returned (.tuple #[.int .i64 (pTruthsR b).1, .int .i64 (pTruthsR b).2]) ∧ Below w.heap.size w w' := by
 have C1 : Hid (∀ W, BkAt W A L b → Calls Tryz.prog 8 #[.agg (bkV A cap L lcap b).toArray] W fun e w' => e = .returned (.int .i64 (bkE b)) ∧ Below W.heap.size W w') := hid fun W hW => pCheck_any A cap L lcap b W hW hs
 have C2 : Hid (b.ok = true → ∀ W, BkAt W A L b → _) := hid fun ho W hW => compared_any A cap L lcap b W hW hs (ok_nine ho) (ok_minutes ho)
 simp only [bkV] at C1 C2 ⊢
 refine enterE Tryz.func12 rfl Tryz.ntmps12 (by simp) (fun a hE => ?_); simp only [envOf, Nat.zero_add, Nat.reduceAdd] at hE
 refine Ks ?_
 refine Rs 3 fun Q' K hK => ?_
 refine M1 hE 0 fun K' J ρ q0 => ?_; go_simp
 refine Ln hE J fun _ Eb => ?_; clear J K' hE a q0
 refine M0 fun K' J ρ => ?_; go_simp;
 refine Ln Eb J fun _ Ea => ?_; clear J K' Eb
 refine M0 fun K' J ρ => ?_; go_simp;
 refine Ln Ea J fun _ Eb => ?_; clear J K' Ea
 refine Ld [1] Eb hK fun a hE => ?_; clear hK K Q' Eb
 obtain ⟨B, hBe⟩ : ∃ B, B = w.heap.size := ⟨_, rfl⟩; rw [← hBe] at hE; refine world_cut (fun wt => Below w.heap.size w wt ∧ Cells wt B (bkV A cap L lcap b)) ⟨(Below.refl _ _).alloc (Nat.le_refl _) _, by rw [hBe]; exact cells_new _ _ _⟩ (fun w1 hCut => ?_); obtain ⟨hbw1, hCB⟩ := hCut; clear hBe
 have hM1 := hM.below hbw1
 simp only [bkV] at hCB
 obtain ⟨nB, cB0, cB1, cB2, cB3, cB4, cB5, cB6⟩ := hCB.c7
 obtain ⟨r, hr⟩ : ∃ r, bkE b = r := ⟨_, rfl⟩
 rw [hr] at C1
 have HR := hid hr
 clear hr
 refine Ks ?_
 refine Rs 3 fun Q' K hK => ?_
 refine M1 hE 1 fun K' J ρ q1 => ?_; go_simp
 refine Ln hE J fun _ Eb => ?_; clear J K' hE a q1
 refine M1 Eb 5 fun K' J ρ q5 => ?_; go_simp; (try go_bits); (try clear q5)
 go_at_call 8; refine (C1.out _ hM1).mono ?_; rintro e w2 ⟨rfl, h2⟩
 (try clear r5)
 refine Ln Eb J fun _ Ea => ?_; clear J K' Eb
 refine M1 Ea 6 fun K' J ρ q6 => ?_; go_simp
 refine Ln Ea J fun _ Eb => ?_; clear J K' Ea q6
 refine Ld [1, 4] Eb hK fun a hE => ?_; clear hK K Q' Eb
 have hb2 := hbw1.trans (h2.mono hbw1.size)
 have hM2 := hM.below hb2
 replace hCB := hCB.below h2
 clear nB cB0 cB1 cB2 cB3 cB4 cB5 cB6 C1
 obtain ⟨nB, cB0, cB1, cB2, cB3, cB4, cB5, cB6⟩ := hCB.c7
 by_cases hr0 : r = 0
 ·subst hr0
  have hok : b.ok = true := by
   have := HR.out
   unfold bkE at this
   revert this
   cases b.ok <;> simp
  have HO := hid hok
  clear hok
  refine Ks ?_
  refine Rs 2 fun Q' K hK => ?_
  refine M1 hE 4 fun K' J ρ q4 => ?_; go_simp
  refine Ln hE J fun _ Eb => ?_; clear J K' hE a q4
  refine M1 Eb 7 fun K' J ρ q7 => ?_; go_simp; (try go_bits)
  refine Ln Eb J fun _ Ea => ?_; clear J K' Eb q7
  refine Ld [1, 8] Ea hK fun a hE => ?_; clear hK K Q' Ea
  refine Ks ?_
  refine cond_no hE (t := 8) rfl ?_
  refine Ks ?_
  refine Rs 6 fun Q' K hK => ?_
  refine M1 hE 1 fun K' J ρ q1 => ?_; go_simp
  refine Ln hE J fun _ Eb => ?_; clear J K' hE a q1
  refine M1 Eb 10 fun K' J ρ q10 => ?_; go_simp; (try go_bits); (try clear q10)
  go_at_call 40; refine (C2.out HO.out _ hM2).mono ?_; rintro e w3 ⟨⟨f, rfl, hu⟩, h3⟩
  (try clear r10)
  refine Ln Eb J fun _ Ea => ?_; clear J K' Eb
  refine M1 Ea 11 fun K' J ρ q11 => ?_; go_simp; (try go_bits); (try clear q11)
  go_at_call 43; refine (counted_any (w := w3) (ok_nine HO.out) hs.2.2.1 (couldsP_nine (ok_nine HO.out)) (couldsP_lt (ok_nine HO.out)) (hu.of_below (Below.refl _ _) (fun k hk _ => hk.elim))).mono ?_; rintro e w4 ⟨⟨T, c, Mb, rfl, hT4, hTl4⟩, h4⟩
  (try clear r11)
  refine Ln Ea J fun _ Eb => ?_; clear J K' Ea
  refine M1 Eb 12 fun K' J ρ q12 => ?_; go_simp; (try go_bits); (try clear q12)
  go_at_call 44; refine (tTruths_any A cap L lcap b _ _ _ _ _ _ _ _ _ T _ c Mb w4).mono ?_; rintro e w5 ⟨rfl, h5⟩
  (try clear r12)
  refine Ln Eb J fun _ Ea => ?_; clear J K' Eb
  refine M1 Ea 13 fun K' J ρ q13 => ?_; go_simp
  refine Ln Ea J fun _ Eb => ?_; clear J K' Ea q13
  refine M0 fun K' J ρ => ?_; go_simp;
  refine Ln Eb J fun _ Ea => ?_; clear J K' Eb
  refine Ld [2, 3] Ea hK fun a hE => ?_; clear hK K Q' Ea
  refine Ks ?_
  refine ret_two hE rfl rfl rfl ⟨?_, hb2.trans ((h3.trans ((h4.trans (h5.mono h4.size)).mono h3.size)).mono hb2.size)⟩
  unfold pTruthsR
  rw [HO.out]; rfl
 ·have hno : b.ok = false ∧ r = 20 := by
   have := HR.out
   unfold bkE at this
   revert this
   cases b.ok
   ·intro h; exact ⟨rfl, by simpa using h.symm⟩
   ·intro h; simp at h; exact absurd h.symm hr0
  obtain ⟨hno, rfl⟩ := hno
  have HO := hid hno
  clear hno
  refine Ks ?_
  refine Rs 2 fun Q' K hK => ?_
  refine M1 hE 4 fun K' J ρ q4 => ?_; go_simp
  refine Ln hE J fun _ Eb => ?_; clear J K' hE a q4
  refine M1 Eb 7 fun K' J ρ q7 => ?_; go_simp; (try go_bits)
  refine Ln Eb J fun _ Ea => ?_; clear J K' Eb q7
  refine Ld [1, 4, 8] Ea hK fun a hE => ?_; clear hK K Q' Ea
  refine Ks ?_
  refine cond_yes hE (t := 8) rfl ?_
  refine Ks ?_
  refine Rs 3 fun Q' K hK => ?_
  refine M1 hE 4 fun K' J ρ q4 => ?_; go_simp
  refine Ln hE J fun _ Eb => ?_; clear J K' hE a q4
  refine M0 fun K' J ρ => ?_; go_simp;
  refine Ln Eb J fun _ Ea => ?_; clear J K' Eb
  refine M1 Ea 9 fun K' J ρ q9 => ?_; go_simp
  refine Ln Ea J fun _ Eb => ?_; clear J K' Ea q9
  refine Ld [2, 3] Eb hK fun a hE => ?_; clear hK K Q' Eb
  refine Ks ?_
  refine ret_two hE rfl rfl rfl ⟨?_, hb2⟩
  unfold pTruthsR
  rw [HO.out]; rfl
set_option maxRecDepth 100000 in
set_option maxHeartbeats 2000000 in
theorem pWrong_any (A : Option Addr) (cap : Nat) (L : Option Addr) (lcap : Nat) (b : Bk) (w : World) (hM : BkAt w A L b) (hs : b.small cap lcap) : Calls Tryz.prog 22 #[.agg (bkV A cap L lcap b).toArray] w fun e w' => (∃ T c, e = .returned (.tuple #[.slice T (pWrongL b).length c, .int .i64 (bkE b)]) ∧ Arr w' w'.heap.size T (nats (pWrongL b))) ∧ Below w.heap.size w w' := by
 have C1 : Hid (∀ W, BkAt W A L b → Calls Tryz.prog 8 #[.agg (bkV A cap L lcap b).toArray] W fun e w' => e = .returned (.int .i64 (bkE b)) ∧ Below W.heap.size W w') := hid fun W hW => pCheck_any A cap L lcap b W hW hs
 have C2 : Hid (b.ok = true → ∀ W, BkAt W A L b → _) := hid fun ho W hW => compared_any A cap L lcap b W hW hs (ok_nine ho) (ok_minutes ho)
 simp only [bkV] at C1 C2 ⊢
 refine enterE Tryz.func22 rfl Tryz.ntmps22 (by simp) (fun a hE => ?_); simp only [envOf, Nat.zero_add, Nat.reduceAdd] at hE
 refine Ks ?_
 refine Rs 3 fun Q' K hK => ?_
 refine M1 hE 0 fun K' J ρ q0 => ?_; go_simp
 refine Ln hE J fun _ Eb => ?_; clear J K' hE a q0
 refine M0 fun K' J ρ => ?_; go_simp;
 refine Ln Eb J fun _ Ea => ?_; clear J K' Eb
 refine M0 fun K' J ρ => ?_; go_simp;
 refine Ln Ea J fun _ Eb => ?_; clear J K' Ea
 refine Ld [1] Eb hK fun a hE => ?_; clear hK K Q' Eb
 obtain ⟨B, hBe⟩ : ∃ B, B = w.heap.size := ⟨_, rfl⟩; rw [← hBe] at hE; refine world_cut (fun wt => Below w.heap.size w wt ∧ Cells wt B (bkV A cap L lcap b)) ⟨(Below.refl _ _).alloc (Nat.le_refl _) _, by rw [hBe]; exact cells_new _ _ _⟩ (fun w1 hCut => ?_); obtain ⟨hbw1, hCB⟩ := hCut; clear hBe
 have hM1 := hM.below hbw1
 simp only [bkV] at hCB
 obtain ⟨nB, cB0, cB1, cB2, cB3, cB4, cB5, cB6⟩ := hCB.c7
 obtain ⟨r, hr⟩ : ∃ r, bkE b = r := ⟨_, rfl⟩
 rw [hr] at C1
 have HR := hid hr
 clear hr
 refine Ks ?_
 refine Rs 3 fun Q' K hK => ?_
 refine M1 hE 1 fun K' J ρ q1 => ?_; go_simp
 refine Ln hE J fun _ Eb => ?_; clear J K' hE a q1
 refine M1 Eb 5 fun K' J ρ q5 => ?_; go_simp; (try go_bits); (try clear q5)
 go_at_call 8; refine (C1.out _ hM1).mono ?_; rintro e w2 ⟨rfl, h2⟩
 (try clear r5)
 refine Ln Eb J fun _ Ea => ?_; clear J K' Eb
 refine M1 Ea 6 fun K' J ρ q6 => ?_; go_simp
 refine Ln Ea J fun _ Eb => ?_; clear J K' Ea q6
 refine Ld [1, 4] Eb hK fun a hE => ?_; clear hK K Q' Eb
 have hb2 := hbw1.trans (h2.mono hbw1.size)
 have hM2 := hM.below hb2
 replace hCB := hCB.below h2
 clear nB cB0 cB1 cB2 cB3 cB4 cB5 cB6 C1
 obtain ⟨nB, cB0, cB1, cB2, cB3, cB4, cB5, cB6⟩ := hCB.c7
 by_cases hr0 : r = 0
 ·subst hr0
  have hok : b.ok = true := by
   have := HR.out
   unfold bkE at this
   revert this
   cases b.ok <;> simp
  have HO := hid hok
  clear hok
  refine Ks ?_
  refine Rs 2 fun Q' K hK => ?_
  refine M1 hE 4 fun K' J ρ q4 => ?_; go_simp
  refine Ln hE J fun _ Eb => ?_; clear J K' hE a q4
  refine M1 Eb 7 fun K' J ρ q7 => ?_; go_simp; (try go_bits)
  refine Ln Eb J fun _ Ea => ?_; clear J K' Eb q7
  refine Ld [1, 8] Ea hK fun a hE => ?_; clear hK K Q' Ea
  refine Ks ?_
  refine cond_no hE (t := 8) rfl ?_
  refine Ks ?_
  refine Rs 5 fun Q' K hK => ?_
  refine M1 hE 1 fun K' J ρ q1 => ?_; go_simp
  refine Ln hE J fun _ Eb => ?_; clear J K' hE a q1
  refine M1 Eb 10 fun K' J ρ q10 => ?_; go_simp; (try go_bits); (try clear q10)
  go_at_call 40; refine (C2.out HO.out _ hM2).mono ?_; rintro e w3 ⟨⟨f, rfl, hu⟩, h3⟩
  (try clear r10)
  refine Ln Eb J fun _ Ea => ?_; clear J K' Eb
  refine M1 Ea 11 fun K' J ρ q11 => ?_; go_simp; (try go_bits); (try clear q11)
  go_at_call 58; refine (wrong_any w3 (hM2.below h3) hs (ok_nine HO.out) (ok_minutes HO.out)).mono ?_; rintro e w4 ⟨⟨T, c, rfl, hT4⟩, h4⟩
  (try clear r11)
  refine Ln Ea J fun _ Eb => ?_; clear J K' Ea
  refine M1 Eb 12 fun K' J ρ q12 => ?_; go_simp
  refine Ln Eb J fun _ Ea => ?_; clear J K' Eb q12
  refine M0 fun K' J ρ => ?_; go_simp;
  refine Ln Ea J fun _ Eb => ?_; clear J K' Ea
  refine Ld [2, 3] Eb hK fun a hE => ?_; clear hK K Q' Eb
  refine Ks ?_
  have hq : pWrongL b = wrongP b := by unfold pWrongL; rw [HO.out]; rfl
  refine ret_two hE rfl rfl rfl ⟨⟨T, c, ?_, ?_⟩, hb2.trans ((h3.trans (h4.mono h3.size)).mono hb2.size)⟩
  ·rw [hq, HR.out]
  ·rw [hq]; exact hT4
 ·have hno : b.ok = false ∧ r = 20 := by
   have := HR.out
   unfold bkE at this
   revert this
   cases b.ok
   ·intro h; exact ⟨rfl, by simpa using h.symm⟩
   ·intro h; simp at h; exact absurd h.symm hr0
  obtain ⟨hno, rfl⟩ := hno
  have HO := hid hno
  clear hno
  refine Ks ?_
  refine Rs 2 fun Q' K hK => ?_
  refine M1 hE 4 fun K' J ρ q4 => ?_; go_simp
  refine Ln hE J fun _ Eb => ?_; clear J K' hE a q4
  refine M1 Eb 7 fun K' J ρ q7 => ?_; go_simp; (try go_bits)
  refine Ln Eb J fun _ Ea => ?_; clear J K' Eb q7
  refine Ld [1, 4, 8] Ea hK fun a hE => ?_; clear hK K Q' Ea
  refine Ks ?_
  refine cond_yes hE (t := 8) rfl ?_
  refine Ks ?_
  refine Rs 3 fun Q' K hK => ?_
  refine M1 hE 4 fun K' J ρ q4 => ?_; go_simp
  refine Ln hE J fun _ Eb => ?_; clear J K' hE a q4
  refine M0 fun K' J ρ => ?_; go_simp;
  refine Ln Eb J fun _ Ea => ?_; clear J K' Eb
  refine M1 Ea 9 fun K' J ρ q9 => ?_; go_simp
  refine Ln Ea J fun _ Eb => ?_; clear J K' Ea q9
  refine Ld [2, 3] Eb hK fun a hE => ?_; clear hK K Q' Eb
  refine Ks ?_
  have hq : pWrongL b = [] := by unfold pWrongL; rw [HO.out]; rfl
  refine ret_two hE rfl rfl rfl ⟨⟨none, 0, ?_, ?_⟩, hb2⟩
  ·rw [hq, HR.out]; rfl
  ·rw [hq]; intro hx; exact absurd rfl hx
end Go.Proofs.YtbimkcjdodgojaaGreat
