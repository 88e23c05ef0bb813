/- Name: the reference's Ask. -/
import Derived.Test.YtbimkcjdodgojaaGreatKBNdr

namespace Go.Proofs.YtbimkcjdodgojaaGreat
set_option linter.unusedSimpArgs false
set_option linter.unusedVariables false
open Go Go.RowKit
attribute [local go_sem high] cell_set_wr
attribute [local go_sem low] cell_wr frozen_wr
attribute [local go_sem] wr_set wr_drew wr_drewN wr_alloc wr_new Rho.c Rho.n Rho.g
/-- the most truths that an answer leaves, of the first answers -/
def worstN (b : Bk) (i j : Nat) : Int := (List.range j).foldl (fun (m : Int) (k : Nat) => max m (cntP b.lines.length b.ts i ((k : Int) - 1))) 0
theorem worstN_succ (b : Bk) (i j : Nat) : worstN b i (j + 1) = max (worstN b i j) (cntP b.lines.length b.ts i ((j : Int) - 1)) := by
 unfold worstN
 rw [List.range_succ, List.foldl_append]
 rfl
theorem worstN_done {b : Bk} (h9 : b.lines.length ≤ 9) {i : Nat} (hi : i < b.lines.length) : worstN b i (b.lines.length + 1) = worstP b i := by
 refine WorstOf.uniq (cnt := cntP b.lines.length b.ts) (x := i) ?_ (worst_is h9 i)
 obtain ⟨h1, h2, h3⟩ := foldl_most (fun k => cntP b.lines.length b.ts i ((k : Int) - 1)) (List.range (b.lines.length + 1)) 0
 refine ⟨h1, ?_, fun o _ => ?_⟩
 ·rcases h3 with h3 | ⟨k, hk, h3⟩
  ·exact .inl h3
  ·rw [List.mem_range] at hk
   exact .inr ⟨(k : Int) - 1, wf_int _ (by omega), h3⟩
 ·by_cases e2 : -1 ≤ o ∧ o < b.lines.length
  ·have := h2 (o + 1).toNat (List.mem_range.2 (by omega))
   rw [show ((((o + 1).toNat : Nat) : Int) - 1) = o by omega] at this
   exact this
  ·have h0 : cntP b.lines.length b.ts i o = 0 := by
    rw [cnt_eq hi]
    have : b.ts.filter (fun t => matchP t i == o) = [] := by
     rw [List.filter_eq_nil_iff]
     intro t ht h
     rw [beq_iff_eq] at h
     have a1 := match_below ht i
     have a2 := matchP_low t i
     omega
    rw [this]; rfl
   rw [h0]
   exact h1
theorem worst_le {b : Bk} (h9 : b.lines.length ≤ 9) (i : Nat) : 0 ≤ worstP b i ∧ worstP b i ≤ b.ts.length := by
 obtain ⟨h1, h2, _⟩ := worst_is h9 i
 refine ⟨h1, ?_⟩
 rcases h2 with h2 | ⟨o, _, h2⟩
 ·omega
 ·rw [h2]; exact (cntP_le b.lines.length b.ts i o).2
theorem worstN_le {b : Bk} (i j : Nat) : 0 ≤ worstN b i j ∧ worstN b i j ≤ b.ts.length := by
 obtain ⟨h1, _, h3⟩ := foldl_most (fun k => cntP b.lines.length b.ts i ((k : Int) - 1)) (List.range j) 0
 refine ⟨h1, ?_⟩
 rcases h3 with h3 | ⟨o, _, h3⟩
 ·unfold worstN; omega
 ·unfold worstN; rw [h3]; exact (cntP_le b.lines.length b.ts i _).2
theorem seekR_le {f : Nat → Int} {n0 M : Int} (h0 : 0 ≤ n0 ∧ n0 ≤ M) (hf : ∀ k, 0 ≤ f k ∧ f k ≤ M) : ∀ k, (seekR f n0 k).1 ≤ k ∧ 0 ≤ (seekR f n0 k).2 ∧ (seekR f n0 k).2 ≤ M
 | 0 => ⟨Nat.le_refl _, h0⟩
 | k + 1 => by
  unfold seekR
  split
  ·exact ⟨Nat.le_succ k, hf k⟩
  ·obtain ⟨h1, h2⟩ := seekR_le h0 hf k
   exact ⟨by omega, h2⟩
section
variable (A : Option Addr) (cap : Nat) (L : Option Addr) (lcap : Nat) (b : Bk)
set_option maxRecDepth 100000 in
set_option maxHeartbeats 4000000 in
theorem rAsk_full (w : World) (hM : BkAt w A L b) (hs : b.small cap lcap) (hz : ∀ i (h : i < b.ear.alike.length), b.ear.alike[i].size ≤ 9223372036854775807) : Calls Tryz.prog 26 #[.agg (bkV A cap L lcap b).toArray] w fun e w' => e = .returned (.tuple #[.int .i64 (pAskR b).1, .int .i64 (pAskR b).2]) ∧ Below w.heap.size w w' := by
 have C1 := hid fun W hW => rasked_full A cap L lcap b true W hW hs hz
 have C2 := hid fun ho W hW => rAll_full A cap L lcap b hs hz ho W hW
 clear hz
 obtain ⟨r, hr⟩ : ∃ r, setE b true = r := ⟨_, rfl⟩
 rw [hr] at C1
 have HR := hid hr
 clear hr
 by_cases hr0 : r = 0
 ·subst hr0
  obtain ⟨hbo, _, hts⟩ := setE_ok HR.out
  have h9 := ok_nine hbo
  have C3 := hid (C2.out hbo)
  have hfew := truthsR_few h9
  have hlen := truthsR_len b
  have HSh := hid (fun t (ht : t ∈ truthsR b) => truthsR_short h9 ht)
  have HP : Hid (b.ts.length = 1 → pAskR b = (0, 4)) := hid fun h => by unfold pAskR; rw [if_pos HR.out, if_pos h]
  have HP2 : Hid (b.ts.length ≠ 1 → pAskR b = (((((seekR (worstP b) ((b.ts.length : Int) + 1) b.lines.length).1 : Nat) : Int), 0) : Int × Int)) := hid fun h => by
   unfold pAskR
   rw [if_pos HR.out, if_neg h]
   have hn : 0 < b.lines.length := by
    rcases Nat.eq_zero_or_pos b.lines.length with h0 | h0
    ·exfalso
     have h1 := fromP_len b.lines.length b.lost (couldsP b) (couldsP_nine h9) b.lines.length 0 []
     rw [h0] at h1
     have h2 : b.ts.length ≤ 1 := by unfold Bk.ts; rw [h0]; simpa using h1
     omega
    ·exact h0
   rw [seekR_eq (by have := (worst_le h9 0).2; omega) b.lines.length hn]
  have HD : Hid (∀ i, i < b.lines.length → worstN b i (b.lines.length + 1) = worstP b i) := hid fun i hi => worstN_done h9 hi
  have HSL : Hid (∀ k, (seekR (worstP b) ((b.ts.length : Int) + 1) k).1 ≤ k ∧ 0 ≤ (seekR (worstP b) ((b.ts.length : Int) + 1) k).2 ∧ (seekR (worstP b) ((b.ts.length : Int) + 1) k).2 ≤ (b.ts.length : Int) + 1) := hid (seekR_le ⟨by omega, Int.le_refl _⟩ fun k => ⟨(worst_le h9 k).1, by have := (worst_le h9 k).2; omega⟩)
  have HC : Hid (∀ i (k : Int), i < b.lines.length → (cntR (truthsR b) i k : Int) = cntP b.lines.length b.ts i k) := hid fun i k hi => cnt_perm b hi k
  have HWL : Hid (∀ i j, 0 ≤ worstN b i j ∧ worstN b i j ≤ b.ts.length) := hid fun i j => worstN_le i j
  rw [← hlen] at HP HP2 HSL HWL
  obtain ⟨l, hl⟩ : ∃ l, truthsR b = l := ⟨_, rfl⟩
  simp only [hl] at C3 HP HP2 HSL HC HWL hfew HSh
  have hlpos : l.length ≠ 0 := by rw [← hl, hlen]; exact hts
  clear hl hlen hts hbo C2
  simp only [bkV] at C1 C3 ⊢
  refine enterE Tryz.func26 rfl Tryz.ntmps26 (by simp) (fun a hE => ?_); simp only [envOf, Nat.zero_add, Nat.reduceAdd] at hE
  refine Ks ?_
  refine Rs 3 fun Q' K hK => ?_
  refine M1 hE 0 fun K' J ρ q0 => ?_; go_simp
  refine Ln hE J fun _ Eb => ?_; clear J K' hE a q0
  refine M0 fun K' J ρ => ?_; go_simp;
  refine Ln Eb J fun _ Ea => ?_; clear J K' Eb
  refine M0 fun K' J ρ => ?_; go_simp;
  refine Ln Ea J fun _ Eb => ?_; clear J K' Ea
  refine Ld [1] Eb hK fun a hE => ?_; clear hK K Q' Eb
  obtain ⟨B, hBe⟩ : ∃ B, B = w.heap.size := ⟨_, rfl⟩; rw [← hBe] at hE; refine world_cut (fun wt => Below w.heap.size w wt ∧ Cells wt B (bkV A cap L lcap b)) ⟨(Below.refl _ _).alloc (Nat.le_refl _) _, by rw [hBe]; exact cells_new _ _ _⟩ (fun w1 hCut => ?_); obtain ⟨hbw1, hCB⟩ := hCut; clear hBe
  simp only [bkV] at hCB
  replace hM := hM.below hbw1
  obtain ⟨nB, cB0, cB1, cB2, cB3, cB4, cB5, cB6⟩ := hCB.c7
  refine Ks ?_
  refine Rs 3 fun Q' K hK => ?_
  refine M1 hE 1 fun K' J ρ q1 => ?_; go_simp
  refine Ln hE J fun _ Eb => ?_; clear J K' hE a q1
  refine M1 Eb 13 fun K' J ρ q13 => ?_; go_simp; (try go_bits); (try clear q13)
  go_at_call 52; refine (C1.out _ hM).mono ?_; rintro e w2 ⟨rfl, h2⟩; have hbw2 := hbw1.trans (h2.mono hbw1.size); replace hCB := hCB.below h2; clear nB cB0 cB1 cB2 cB3 cB4 cB5 cB6; obtain ⟨nB, cB0, cB1, cB2, cB3, cB4, cB5, cB6⟩ := hCB.c7; replace hM := hM.below h2
  (try clear r13)
  refine Ln Eb J fun _ Ea => ?_; clear J K' Eb
  refine M1 Ea 14 fun K' J ρ q14 => ?_; go_simp
  refine Ln Ea J fun _ Eb => ?_; clear J K' Ea q14
  refine Ld [1, 4] Eb hK fun a hE => ?_; clear hK K Q' Eb
  refine Ks ?_
  refine Rs 2 fun Q' K hK => ?_
  refine M1 hE 4 fun K' J ρ q4 => ?_; go_simp
  refine Ln hE J fun _ Eb => ?_; clear J K' hE a q4
  refine M1 Eb 15 fun K' J ρ q15 => ?_; go_simp; (try go_bits)
  refine Ln Eb J fun _ Ea => ?_; clear J K' Eb q15
  replace Ea := Ea.turn 16 (v' := .bool false) rfl (by (first | rfl | simp))
  refine Ld [1, 4, 16] Ea hK fun a hE => ?_; clear hK K Q' Ea
  refine Ks ?_
  refine cond_no hE (t := 16) rfl ?_
  refine Ks ?_
  refine Rs 3 fun Q' K hK => ?_
  refine M1 hE 1 fun K' J ρ q1 => ?_; go_simp
  refine Ln hE J fun _ Eb => ?_; clear J K' hE a q1
  refine M1 Eb 18 fun K' J ρ q18 => ?_; go_simp; (try go_bits); (try clear q18)
  go_at_call 42; refine (C3.out _ hM).mono ?_; rintro e w3 ⟨⟨O, oc, rfl, hT⟩, h3⟩; have hbw3 := hbw2.trans (h3.mono hbw2.size); replace hCB := hCB.below h3; clear nB cB0 cB1 cB2 cB3 cB4 cB5 cB6; obtain ⟨nB, cB0, cB1, cB2, cB3, cB4, cB5, cB6⟩ := hCB.c7; replace hM := hM.below h3
  (try clear r18)
  refine Ln Eb J fun _ Ea => ?_; clear J K' Eb
  refine M1 Ea 19 fun K' J ρ q19 => ?_; go_simp
  refine Ln Ea J fun _ Eb => ?_; clear J K' Ea q19
  refine Ld [1, 5] Eb hK fun a hE => ?_; clear hK K Q' Eb
  refine Ks ?_
  refine Rs 3 fun Q' K hK => ?_
  refine M1 hE 5 fun K' J ρ q5 => ?_; go_simp
  refine Ln hE J fun _ Eb => ?_; clear J K' hE a q5
  refine M1 Eb 20 fun K' J ρ q20 => ?_; go_simp; (try go_bits)
  refine Ln Eb J fun _ Ea => ?_; clear J K' Eb q20
  refine M1 Ea 21 fun K' J ρ q21 => ?_; go_simp; (try go_bits)
  refine Ln Ea J fun _ Eb => ?_; clear J K' Ea q21
  refine Ld [1, 5, 22] Eb hK fun a hE => ?_; clear hK K Q' Eb
  refine Ks ?_
  have hCB3 := hCB
  clear nB cB0 cB1 cB2 cB3 cB4 cB5 cB6 hCB hM
  refine cond_part hE (t := 22) rfl (fun h => ?_) (fun h => ?_)
  ·have h1 : l.length = 1 := by have := of_decide_eq_true h; omega
   clear h
   refine Ks ?_
   refine Rs 2 fun Q' K hK => ?_
   refine M0 fun K' J ρ => ?_; go_simp;
   refine Ln hE J fun _ Eb => ?_; clear J K' hE a
   refine M0 fun K' J ρ => ?_; go_simp;
   refine Ln Eb J fun _ Ea => ?_; clear J K' Eb
   refine Ld [2, 3] Ea hK fun a hE => ?_; clear hK K Q' Ea
   refine Ks ?_
   exact ret_two hE rfl rfl rfl ⟨by rw [HP.out h1], hbw3⟩
  ·have h1 : l.length ≠ 1 := by have := of_decide_eq_false h; omega
   have HQ := hid (HP2.out h1)
   clear h h1 HP HP2
   refine Ks ?_
   refine Rs 5 fun Q' K hK => ?_
   refine M1 hE 5 fun K' J ρ q5 => ?_; go_simp
   refine Ln hE J fun _ Eb => ?_; clear J K' hE a q5
   refine M1 Eb 23 fun K' J ρ q23 => ?_; go_simp; (try go_bits)
   refine Ln Eb J fun _ Ea => ?_; clear J K' Eb q23
   refine M1 Ea 24 fun K' J ρ q24 => ?_; go_simp; (try go_bits); (try simp (disch := omega) only [IntWalk.i64_in])
   refine Ln Ea J fun _ Eb => ?_; clear J K' Ea q24
   refine M0 fun K' J ρ => ?_; go_simp;
   refine Ln Eb J fun _ Ea => ?_; clear J K' Eb
   refine M1 Ea 25 fun K' J ρ q25 => ?_; go_simp
   refine Ln Ea J fun _ Eb => ?_; clear J K' Ea q25
   refine Ld [1, 5, 6, 7] Eb hK fun a hE => ?_; clear hK K Q' Eb
   refine Ks ?_
   refine Rs 1 fun Q' K hK => ?_
   refine M0 fun K' J ρ => ?_; go_simp;
   refine Ln hE J fun _ Eb => ?_; clear J K' hE a
   refine Ld [1, 5, 6, 7, 8] Eb hK fun a hE => ?_; clear hK K Q' Eb
   refine Ks ?_
   refine loop_st (fun (i : Nat) a w' => i ≤ b.lines.length ∧ Fits 65 [(1, .pointer (some ⟨B, 0, none⟩)), (5, .slice O l.length oc), (6, .int .i64 ((seekR (worstP b) ((l.length : Int) + 1) i).1 : Nat)), (7, .int .i64 (seekR (worstP b) ((l.length : Int) + 1) i).2), (8, .int .i64 i)] a ∧ Below w3.heap.size w3 w') (fun i => b.lines.length - i) 0 ⟨Nat.zero_le _, by simpa [seekR] using hE, Below.refl _ _⟩ (fun i a wr hI => ?_)
   clear hE
   obtain ⟨hi, hE, hW⟩ := hI
   have hCB := hCB3.below hW
   obtain ⟨nB, cB0, cB1, cB2, cB3, cB4, cB5, cB6⟩ := hCB.c7
   by_cases hlt : i < b.lines.length
   ·have HS : Hid (∀ z, worstP b i = z → seekR (worstP b) ((l.length : Int) + 1) (i + 1) = if z < (seekR (worstP b) ((l.length : Int) + 1) i).2 then (i, z) else seekR (worstP b) ((l.length : Int) + 1) i) := hid fun z hz => by subst hz; rfl
    have HDi := hid (HD.out i hlt)
    have hsl := HSL.out i
    obtain ⟨bs, hbs⟩ : ∃ x, (seekR (worstP b) ((l.length : Int) + 1) i) = x := ⟨_, rfl⟩
    rw [hbs] at hE HS hsl
    clear hbs
    obtain ⟨b1, b2⟩ := bs
    simp only at hsl
    obtain ⟨q1, q2, q3⟩ := hsl
    refine Ks ?_
    refine Rs 5 fun Q' K hK => ?_
    refine M1 hE 8 fun K' J ρ q8 => ?_; go_simp
    refine Ln hE J fun _ Eb => ?_; clear J K' hE a q8
    refine M1 Eb 1 fun K' J ρ q1 => ?_; go_simp
    refine Ln Eb J fun _ Ea => ?_; clear J K' Eb q1
    refine M1 Ea 27 fun K' J ρ q27 => ?_; go_simp
    refine Ln Ea J fun _ Eb => ?_; clear J K' Ea q27
    refine M1 Eb 28 fun K' J ρ q28 => ?_; go_simp; (try go_bits)
    refine Ln Eb J fun _ Ea => ?_; clear J K' Eb q28
    refine M2 Ea 26 29 fun K' J ρ q26 q29 => ?_; go_simp; (try go_bits)
    refine Ln Ea J fun _ Eb => ?_; clear J K' Ea q26 q29
    replace Eb := Eb.turn 30 (v' := .bool true) rfl (by (first | (simp; done) | (simp; omega)))
    refine Ld [1, 5, 6, 7, 8, 30] Eb hK fun a hE => ?_; clear hK K Q' Eb
    refine Ks ?_
    refine cond_yes hE (t := 30) rfl ?_
    refine Ks ?_
    refine Rs 1 fun Q' K hK => ?_
    refine M0 fun K' J ρ => ?_; go_simp;
    refine Ln hE J fun _ Eb => ?_; clear J K' hE a
    refine Ld [1, 5, 6, 7, 8, 9] Eb hK fun a hE => ?_; clear hK K Q' Eb
    refine Ks ?_
    refine Rs 1 fun Q' K hK => ?_
    refine M0 fun K' J ρ => ?_; go_simp;
    refine Ln hE J fun _ Eb => ?_; clear J K' hE a
    refine Ld [1, 5, 6, 7, 8, 9, 10] Eb hK fun a hE => ?_; clear hK K Q' Eb
    refine Ks ?_
    have hWi := hW
    clear nB cB0 cB1 cB2 cB3 cB4 cB5 cB6 hCB
    refine loop_st (fun (j : Nat) a w' => j ≤ b.lines.length + 1 ∧ Fits 65 [(1, .pointer (some ⟨B, 0, none⟩)), (5, .slice O l.length oc), (6, .int .i64 b1), (7, .int .i64 b2), (8, .int .i64 i), (9, .int .i64 (worstN b i j)), (10, .int .i64 ((j : Int) - 1))] a ∧ Below w3.heap.size w3 w') (fun j => b.lines.length + 1 - j) 0 ⟨Nat.zero_le _, by simpa [worstN] using hE, hWi⟩ (fun j a wj hI => ?_)
    clear hE hW hWi
    obtain ⟨hj, hE, hW⟩ := hI
    have hCB := hCB3.below hW
    obtain ⟨nB, cB0, cB1, cB2, cB3, cB4, cB5, cB6⟩ := hCB.c7
    by_cases hlj : j < b.lines.length + 1
    ·have HWs := hid (worstN_succ b i j)
     have HCj := hid (HC.out i ((j : Int) - 1) hlt)
     have hwn := HWL.out i j
     obtain ⟨wn, hwne⟩ : ∃ x, worstN b i j = x := ⟨_, rfl⟩
     rw [hwne] at hE HWs hwn
     clear hwne
     obtain ⟨hwn1, hwn2⟩ := hwn
     refine Ks ?_
     refine Rs 5 fun Q' K hK => ?_
     refine M1 hE 10 fun K' J ρ q10 => ?_; go_simp
     refine Ln hE J fun _ Eb => ?_; clear J K' hE a q10
     refine M1 Eb 1 fun K' J ρ q1 => ?_; go_simp
     refine Ln Eb J fun _ Ea => ?_; clear J K' Eb q1
     refine M1 Ea 34 fun K' J ρ q34 => ?_; go_simp
     refine Ln Ea J fun _ Eb => ?_; clear J K' Ea q34
     refine M1 Eb 35 fun K' J ρ q35 => ?_; go_simp; (try go_bits)
     refine Ln Eb J fun _ Ea => ?_; clear J K' Eb q35
     refine M2 Ea 33 36 fun K' J ρ q33 q36 => ?_; go_simp; (try go_bits)
     refine Ln Ea J fun _ Eb => ?_; clear J K' Ea q33 q36
     replace Eb := Eb.turn 37 (v' := .bool true) rfl (by (first | (simp; done) | (simp; omega)))
     refine Ld [1, 5, 6, 7, 8, 9, 10, 37] Eb hK fun a hE => ?_; clear hK K Q' Eb
     refine Ks ?_
     refine cond_yes hE (t := 37) rfl ?_
     refine Ks ?_
     refine Rs 1 fun Q' K hK => ?_
     refine M0 fun K' J ρ => ?_; go_simp;
     refine Ln hE J fun _ Eb => ?_; clear J K' hE a
     refine Ld [1, 5, 6, 7, 8, 9, 10, 11] Eb hK fun a hE => ?_; clear hK K Q' Eb
     refine Ks ?_
     refine Rs 1 fun Q' K hK => ?_
     refine M0 fun K' J ρ => ?_; go_simp;
     refine Ln hE J fun _ Eb => ?_; clear J K' hE a
     refine Ld [1, 5, 6, 7, 8, 9, 10, 11, 12] Eb hK fun a hE => ?_; clear hK K Q' Eb
     refine Ks ?_
     have hWj := hW
     clear nB cB0 cB1 cB2 cB3 cB4 cB5 cB6 hCB
     refine loop_st (fun (m : Nat) a w' => m ≤ l.length ∧ Fits 65 [(1, .pointer (some ⟨B, 0, none⟩)), (5, .slice O l.length oc), (6, .int .i64 b1), (7, .int .i64 b2), (8, .int .i64 i), (9, .int .i64 wn), (10, .int .i64 ((j : Int) - 1)), (11, .int .i64 (cntR (l.take m) i ((j : Int) - 1) : Nat)), (12, .int .i64 m)] a ∧ Below w3.heap.size w3 w') (fun m => l.length - m) 0 ⟨Nat.zero_le _, by simpa [cntR] using hE, hWj⟩ (fun m a wm hI => ?_)
     clear hE hW hWj
     obtain ⟨hm, hE, hW⟩ := hI
     have hTm : TruAt wm wm.heap.size O l := hT.below hW
     by_cases hlm : m < l.length
     ·have hlmI : (m : Int) < l.length := by omega
      obtain ⟨b0, o0, T, c, rfl, hb0, c0, hT0⟩ := hTm.get hlm
      have hs9 := HSh.out l[m] (List.getElem_mem hlm)
      have HPr := hid (rpair_any T c l[m] i wm hT0 (by omega))
      have HK := hid (cntR_take l i ((j : Int) - 1) m hlm)
      have hcl := cntR_le (l.take m) i ((j : Int) - 1)
      rw [List.length_take] at hcl
      obtain ⟨t, ht⟩ : ∃ t, l[m] = t := ⟨_, rfl⟩
      rw [ht] at c0 hs9 HPr HK
      clear ht hT0
      obtain ⟨g, hg⟩ : ∃ g, cntR (l.take m) i ((j : Int) - 1) = g := ⟨_, rfl⟩
      rw [hg] at hE hcl HK
      clear hg
      obtain ⟨z, hz⟩ : ∃ z, matchP t i = z := ⟨_, rfl⟩
      rw [hz] at HPr HK
      clear hz
      refine Ks ?_
      refine Rs 4 fun Q' K hK => ?_
      refine M1 hE 12 fun K' J ρ q12 => ?_; go_simp
      refine Ln hE J fun _ Eb => ?_; clear J K' hE a q12
      refine M1 Eb 5 fun K' J ρ q5 => ?_; go_simp
      refine Ln Eb J fun _ Ea => ?_; clear J K' Eb q5
      refine M1 Ea 41 fun K' J ρ q41 => ?_; go_simp; (try go_bits)
      refine Ln Ea J fun _ Eb => ?_; clear J K' Ea q41
      refine M2 Eb 40 42 fun K' J ρ q40 q42 => ?_; go_simp; (try go_bits)
      refine Ln Eb J fun _ Ea => ?_; clear J K' Eb q40 q42
      replace Ea := Ea.turn 43 (v' := .bool true) rfl (by (first | (simp; done) | (simp; omega)))
      refine Ld [1, 5, 6, 7, 8, 9, 10, 11, 12, 43] Ea hK fun a hE => ?_; clear hK K Q' Ea
      refine Ks ?_
      refine cond_yes hE (t := 43) rfl ?_
      refine Ks ?_
      refine Rs 8 fun Q' K hK => ?_
      refine M1 hE 5 fun K' J ρ q5 => ?_; go_simp
      refine Ln hE J fun _ Eb => ?_; clear J K' hE a q5
      refine M1 Eb 12 fun K' J ρ q12 => ?_; go_simp
      refine Ln Eb J fun _ Ea => ?_; clear J K' Eb q12
      refine M2 Ea 46 47 fun K' J ρ q46 q47 => ?_; go_simp; (try go_bits)
      refine Ln Ea J fun _ Eb => ?_; clear J K' Ea q46 q47
      refine M1 Eb 48 fun K' J ρ q48 => ?_; go_simp
      refine Ln Eb J fun _ Ea => ?_; clear J K' Eb q48
      refine M1 Ea 8 fun K' J ρ q8 => ?_; go_simp
      refine Ln Ea J fun _ Eb => ?_; clear J K' Ea q8
      refine M2 Eb 49 50 fun K' J ρ q49 q50 => ?_; go_simp; (try go_bits); (try clear q49 q50)
      go_at_call 64; refine (HPr.out).mono ?_; rintro e w5 ⟨rfl, h5⟩; have hbw5 := hW.trans (h5.mono hW.size)
      (try clear r49 r50)
      refine Ln Eb J fun _ Ea => ?_; clear J K' Eb
      refine M1 Ea 10 fun K' J ρ q10 => ?_; go_simp
      refine Ln Ea J fun _ Eb => ?_; clear J K' Ea q10
      refine M2 Eb 51 52 fun K' J ρ q51 q52 => ?_; go_simp; (try go_bits)
      refine Ln Eb J fun _ Ea => ?_; clear J K' Eb q51 q52
      refine Ld [1, 5, 6, 7, 8, 9, 10, 11, 12, 53] Ea hK fun a hE => ?_; clear hK K Q' Ea
      refine Ks ?_
      have hW5 := hW.trans (h5.mono hW.size)
      refine cond_part hE (t := 53) rfl (fun h => ?_) (fun h => ?_)
      ·have he : z = (j : Int) - 1 := of_decide_eq_true h
       have HE := hid he
       clear h he
       refine Ks ?_
       refine Rs 3 fun Q' K hK => ?_
       refine M1 hE 11 fun K' J ρ q11 => ?_; go_simp
       refine Ln hE J fun _ Eb => ?_; clear J K' hE a q11
       refine M1 Eb 54 fun K' J ρ q54 => ?_; go_simp; (try go_bits); (try simp (disch := omega) only [IntWalk.i64_in])
       refine Ln Eb J fun _ Ea => ?_; clear J K' Eb q54
       refine M1 Ea 55 fun K' J ρ q55 => ?_; go_simp
       refine Ln Ea J fun _ Eb => ?_; clear J K' Ea q55
       refine Ld [1, 5, 6, 7, 8, 9, 10, 11, 12] Eb hK fun a hE => ?_; clear hK K Q' Eb
       refine Ks ?_
       refine Rs 3 fun Q' K hK => ?_
       refine M1 hE 12 fun K' J ρ q12 => ?_; go_simp
       refine Ln hE J fun _ Eb => ?_; clear J K' hE a q12
       refine M1 Eb 44 fun K' J ρ q44 => ?_; go_simp; (try go_bits); (try simp (disch := omega) only [IntWalk.i64_in])
       refine Ln Eb J fun _ Ea => ?_; clear J K' Eb q44
       refine M1 Ea 45 fun K' J ρ q45 => ?_; go_simp
       refine Ln Ea J fun _ Eb => ?_; clear J K' Ea q45
       refine Ld [1, 5, 6, 7, 8, 9, 10, 11, 12] Eb hK fun a hE => ?_; clear hK K Q' Eb
       refine Ks ?_
       exact ⟨m + 1, ⟨hlm, by rw [HK.out, if_pos HE.out]; simpa using hE, hW5⟩, by omega⟩
      ·have he : ¬ z = (j : Int) - 1 := of_decide_eq_false h
       have HE := hid he
       clear h he
       refine Ks ?_
       refine Rs 3 fun Q' K hK => ?_
       refine M1 hE 12 fun K' J ρ q12 => ?_; go_simp
       refine Ln hE J fun _ Eb => ?_; clear J K' hE a q12
       refine M1 Eb 44 fun K' J ρ q44 => ?_; go_simp; (try go_bits); (try simp (disch := omega) only [IntWalk.i64_in])
       refine Ln Eb J fun _ Ea => ?_; clear J K' Eb q44
       refine M1 Ea 45 fun K' J ρ q45 => ?_; go_simp
       refine Ln Ea J fun _ Eb => ?_; clear J K' Ea q45
       refine Ld [1, 5, 6, 7, 8, 9, 10, 11, 12] Eb hK fun a hE => ?_; clear hK K Q' Eb
       refine Ks ?_
       exact ⟨m + 1, ⟨hlm, by rw [HK.out, if_neg HE.out]; simpa using hE, hW5⟩, by omega⟩
     ·have hme : m = l.length := by omega
      subst hme
      rw [List.take_length, HCj.out] at hE
      have HM2 : Hid (worstN b i (j + 1) = max wn (cntP b.lines.length b.ts i ((j : Int) - 1))) := HWs
      obtain ⟨cn, hcn⟩ : ∃ x, cntP b.lines.length b.ts i ((j : Int) - 1) = x := ⟨_, rfl⟩
      rw [hcn] at hE HM2
      clear hcn HWs HCj
      refine Ks ?_
      refine Rs 4 fun Q' K hK => ?_
      refine M1 hE 12 fun K' J ρ q12 => ?_; go_simp
      refine Ln hE J fun _ Eb => ?_; clear J K' hE a q12
      refine M1 Eb 5 fun K' J ρ q5 => ?_; go_simp
      refine Ln Eb J fun _ Ea => ?_; clear J K' Eb q5
      refine M1 Ea 41 fun K' J ρ q41 => ?_; go_simp; (try go_bits)
      refine Ln Ea J fun _ Eb => ?_; clear J K' Ea q41
      refine M2 Eb 40 42 fun K' J ρ q40 q42 => ?_; go_simp; (try go_bits)
      refine Ln Eb J fun _ Ea => ?_; clear J K' Eb q40 q42
      replace Ea := Ea.turn 43 (v' := .bool false) rfl (by simp)
      refine Ld [1, 5, 6, 7, 8, 9, 10, 11, 12, 43] Ea hK fun a hE => ?_; clear hK K Q' Ea
      refine Ks ?_
      refine cond_no hE (t := 43) rfl ?_
      refine Ks ?_
      refine Rs 4 fun Q' K hK => ?_
      refine M1 hE 9 fun K' J ρ q9 => ?_; go_simp
      refine Ln hE J fun _ Eb => ?_; clear J K' hE a q9
      refine M1 Eb 11 fun K' J ρ q11 => ?_; go_simp
      refine Ln Eb J fun _ Ea => ?_; clear J K' Eb q11
      refine M2 Ea 56 57 fun K' J ρ q56 q57 => ?_; go_simp; (try go_bits)
      refine Ln Ea J fun _ Eb => ?_; clear J K' Ea q56 q57
      refine M1 Eb 58 fun K' J ρ q58 => ?_; go_simp
      refine Ln Eb J fun _ Ea => ?_; clear J K' Eb q58
      refine Ld [1, 5, 6, 7, 8, 9, 10] Ea hK fun a hE => ?_; clear hK K Q' Ea
      refine Ks ?_
      refine Rs 3 fun Q' K hK => ?_
      refine M1 hE 10 fun K' J ρ q10 => ?_; go_simp
      refine Ln hE J fun _ Eb => ?_; clear J K' hE a q10
      refine M1 Eb 38 fun K' J ρ q38 => ?_; go_simp; (try go_bits); (try simp (disch := omega) only [IntWalk.i64_in])
      refine Ln Eb J fun _ Ea => ?_; clear J K' Eb q38
      refine M1 Ea 39 fun K' J ρ q39 => ?_; go_simp
      refine Ln Ea J fun _ Eb => ?_; clear J K' Ea q39
      refine Ld [1, 5, 6, 7, 8, 9, 10] Eb hK fun a hE => ?_; clear hK K Q' Eb
      refine Ks ?_
      exact ⟨j + 1, ⟨by omega, by rw [HM2.out]; simpa using hE, hW⟩, by omega⟩
    ·have hje : j = b.lines.length + 1 := by omega
     subst hje
     rw [HDi.out] at hE
     have hwl := HWL.out i (b.lines.length + 1)
     rw [HDi.out] at hwl
     obtain ⟨z, hz⟩ : ∃ x, worstP b i = x := ⟨_, rfl⟩
     rw [hz] at hE hwl
     have HS2 := hid (HS.out z hz)
     clear hz HDi
     obtain ⟨hz1, hz2⟩ := hwl
     refine Ks ?_
     refine Rs 5 fun Q' K hK => ?_
     refine M1 hE 10 fun K' J ρ q10 => ?_; go_simp
     refine Ln hE J fun _ Eb => ?_; clear J K' hE a q10
     refine M1 Eb 1 fun K' J ρ q1 => ?_; go_simp
     refine Ln Eb J fun _ Ea => ?_; clear J K' Eb q1
     refine M1 Ea 34 fun K' J ρ q34 => ?_; go_simp
     refine Ln Ea J fun _ Eb => ?_; clear J K' Ea q34
     refine M1 Eb 35 fun K' J ρ q35 => ?_; go_simp; (try go_bits)
     refine Ln Eb J fun _ Ea => ?_; clear J K' Eb q35
     refine M2 Ea 33 36 fun K' J ρ q33 q36 => ?_; go_simp; (try go_bits)
     refine Ln Ea J fun _ Eb => ?_; clear J K' Ea q33 q36
     replace Eb := Eb.turn 37 (v' := .bool false) rfl (by (first | (simp; done) | (simp; omega)))
     refine Ld [1, 5, 6, 7, 8, 9, 10, 37] Eb hK fun a hE => ?_; clear hK K Q' Eb
     refine Ks ?_
     refine cond_no hE (t := 37) rfl ?_
     refine Ks ?_
     refine Rs 3 fun Q' K hK => ?_
     refine M1 hE 9 fun K' J ρ q9 => ?_; go_simp
     refine Ln hE J fun _ Eb => ?_; clear J K' hE a q9
     refine M1 Eb 7 fun K' J ρ q7 => ?_; go_simp
     refine Ln Eb J fun _ Ea => ?_; clear J K' Eb q7
     refine M2 Ea 59 60 fun K' J ρ q59 q60 => ?_; go_simp; (try go_bits)
     refine Ln Ea J fun _ Eb => ?_; clear J K' Ea q59 q60
     refine Ld [1, 5, 6, 7, 8, 9, 61] Eb hK fun a hE => ?_; clear hK K Q' Eb
     refine Ks ?_
     refine cond_part hE (t := 61) rfl (fun h => ?_) (fun h => ?_)
     ·have he : z < b2 := of_decide_eq_true h
      have HE := hid he
      clear h he
      refine Ks ?_
      refine Rs 4 fun Q' K hK => ?_
      refine M1 hE 8 fun K' J ρ q8 => ?_; go_simp
      refine Ln hE J fun _ Eb => ?_; clear J K' hE a q8
      refine M1 Eb 9 fun K' J ρ q9 => ?_; go_simp
      refine Ln Eb J fun _ Ea => ?_; clear J K' Eb q9
      refine M1 Ea 62 fun K' J ρ q62 => ?_; go_simp
      refine Ln Ea J fun _ Eb => ?_; clear J K' Ea q62
      refine M1 Eb 63 fun K' J ρ q63 => ?_; go_simp
      refine Ln Eb J fun _ Ea => ?_; clear J K' Eb q63
      refine Ld [1, 5, 6, 7, 8] Ea hK fun a hE => ?_; clear hK K Q' Ea
      refine Ks ?_
      refine Rs 3 fun Q' K hK => ?_
      refine M1 hE 8 fun K' J ρ q8 => ?_; go_simp
      refine Ln hE J fun _ Eb => ?_; clear J K' hE a q8
      refine M1 Eb 31 fun K' J ρ q31 => ?_; go_simp; (try go_bits); (try simp (disch := omega) only [IntWalk.i64_in])
      refine Ln Eb J fun _ Ea => ?_; clear J K' Eb q31
      refine M1 Ea 32 fun K' J ρ q32 => ?_; go_simp
      refine Ln Ea J fun _ Eb => ?_; clear J K' Ea q32
      refine Ld [1, 5, 6, 7, 8] Eb hK fun a hE => ?_; clear hK K Q' Eb
      refine Ks ?_
      exact ⟨i + 1, ⟨hlt, by rw [HS2.out, if_pos HE.out]; simpa using hE, hW⟩, by omega⟩
     ·have he : ¬ z < b2 := of_decide_eq_false h
      have HE := hid he
      clear h he
      refine Ks ?_
      refine Rs 3 fun Q' K hK => ?_
      refine M1 hE 8 fun K' J ρ q8 => ?_; go_simp
      refine Ln hE J fun _ Eb => ?_; clear J K' hE a q8
      refine M1 Eb 31 fun K' J ρ q31 => ?_; go_simp; (try go_bits); (try simp (disch := omega) only [IntWalk.i64_in])
      refine Ln Eb J fun _ Ea => ?_; clear J K' Eb q31
      refine M1 Ea 32 fun K' J ρ q32 => ?_; go_simp
      refine Ln Ea J fun _ Eb => ?_; clear J K' Ea q32
      refine Ld [1, 5, 6, 7, 8] Eb hK fun a hE => ?_; clear hK K Q' Eb
      refine Ks ?_
      exact ⟨i + 1, ⟨hlt, by rw [HS2.out, if_neg HE.out]; simpa using hE, hW⟩, by omega⟩
   ·have hie : i = b.lines.length := by omega
    subst hie
    obtain ⟨bs, hbs⟩ : ∃ x, (seekR (worstP b) ((l.length : Int) + 1) b.lines.length) = x := ⟨_, rfl⟩
    rw [hbs] at hE HQ
    clear hbs
    refine Ks ?_
    refine Rs 5 fun Q' K hK => ?_
    refine M1 hE 8 fun K' J ρ q8 => ?_; go_simp
    refine Ln hE J fun _ Eb => ?_; clear J K' hE a q8
    refine M1 Eb 1 fun K' J ρ q1 => ?_; go_simp
    refine Ln Eb J fun _ Ea => ?_; clear J K' Eb q1
    refine M1 Ea 27 fun K' J ρ q27 => ?_; go_simp
    refine Ln Ea J fun _ Eb => ?_; clear J K' Ea q27
    refine M1 Eb 28 fun K' J ρ q28 => ?_; go_simp; (try go_bits)
    refine Ln Eb J fun _ Ea => ?_; clear J K' Eb q28
    refine M2 Ea 26 29 fun K' J ρ q26 q29 => ?_; go_simp; (try go_bits)
    refine Ln Ea J fun _ Eb => ?_; clear J K' Ea q26 q29
    replace Eb := Eb.turn 30 (v' := .bool false) rfl (by simp)
    refine Ld [1, 5, 6, 7, 8, 30] Eb hK fun a hE => ?_; clear hK K Q' Eb
    refine Ks ?_
    refine cond_no hE (t := 30) rfl ?_
    refine Ks ?_
    refine Rs 3 fun Q' K hK => ?_
    refine M1 hE 6 fun K' J ρ q6 => ?_; go_simp
    refine Ln hE J fun _ Eb => ?_; clear J K' hE a q6
    refine M1 Eb 64 fun K' J ρ q64 => ?_; go_simp
    refine Ln Eb J fun _ Ea => ?_; clear J K' Eb q64
    refine M0 fun K' J ρ => ?_; go_simp;
    refine Ln Ea J fun _ Eb => ?_; clear J K' Ea
    refine Ld [2, 3] Eb hK fun a hE => ?_; clear hK K Q' Eb
    refine Ks ?_
    exact ret_two hE rfl rfl rfl ⟨by rw [HQ.out], hbw3.trans (hW.mono hbw3.size)⟩
 ·have hq : pAskR b = (0, r) := by unfold pAskR; rw [HR.out, if_neg hr0]
  rw [hq]
  have HR0 := hid hr0
  clear hq hr0
  simp only [bkV] at C1 ⊢
  refine enterE Tryz.func26 rfl Tryz.ntmps26 (by simp) (fun a hE => ?_); simp only [envOf, Nat.zero_add, Nat.reduceAdd] at hE
  refine Ks ?_
  refine Rs 3 fun Q' K hK => ?_
  refine M1 hE 0 fun K' J ρ q0 => ?_; go_simp
  refine Ln hE J fun _ Eb => ?_; clear J K' hE a q0
  refine M0 fun K' J ρ => ?_; go_simp;
  refine Ln Eb J fun _ Ea => ?_; clear J K' Eb
  refine M0 fun K' J ρ => ?_; go_simp;
  refine Ln Ea J fun _ Eb => ?_; clear J K' Ea
  refine Ld [1] Eb hK fun a hE => ?_; clear hK K Q' Eb
  obtain ⟨B, hBe⟩ : ∃ B, B = w.heap.size := ⟨_, rfl⟩; rw [← hBe] at hE; refine world_cut (fun wt => Below w.heap.size w wt ∧ Cells wt B (bkV A cap L lcap b)) ⟨(Below.refl _ _).alloc (Nat.le_refl _) _, by rw [hBe]; exact cells_new _ _ _⟩ (fun w1 hCut => ?_); obtain ⟨hbw1, hCB⟩ := hCut; clear hBe
  simp only [bkV] at hCB
  replace hM := hM.below hbw1
  obtain ⟨nB, cB0, cB1, cB2, cB3, cB4, cB5, cB6⟩ := hCB.c7
  refine Ks ?_
  refine Rs 3 fun Q' K hK => ?_
  refine M1 hE 1 fun K' J ρ q1 => ?_; go_simp
  refine Ln hE J fun _ Eb => ?_; clear J K' hE a q1
  refine M1 Eb 13 fun K' J ρ q13 => ?_; go_simp; (try go_bits); (try clear q13)
  go_at_call 52; refine (C1.out _ hM).mono ?_; rintro e w2 ⟨rfl, h2⟩; have hbw2 := hbw1.trans (h2.mono hbw1.size); replace hCB := hCB.below h2; clear nB cB0 cB1 cB2 cB3 cB4 cB5 cB6; obtain ⟨nB, cB0, cB1, cB2, cB3, cB4, cB5, cB6⟩ := hCB.c7; replace hM := hM.below h2
  (try clear r13)
  refine Ln Eb J fun _ Ea => ?_; clear J K' Eb
  refine M1 Ea 14 fun K' J ρ q14 => ?_; go_simp
  refine Ln Ea J fun _ Eb => ?_; clear J K' Ea q14
  refine Ld [1, 4] Eb hK fun a hE => ?_; clear hK K Q' Eb
  refine Ks ?_
  refine Rs 2 fun Q' K hK => ?_
  refine M1 hE 4 fun K' J ρ q4 => ?_; go_simp
  refine Ln hE J fun _ Eb => ?_; clear J K' hE a q4
  refine M1 Eb 15 fun K' J ρ q15 => ?_; go_simp; (try go_bits)
  refine Ln Eb J fun _ Ea => ?_; clear J K' Eb q15
  replace Ea := Ea.turn 16 (v' := .bool true) rfl (by (simp [HR0.out]))
  refine Ld [1, 4, 16] Ea hK fun a hE => ?_; clear hK K Q' Ea
  refine Ks ?_
  refine cond_yes hE (t := 16) rfl ?_
  refine Ks ?_
  refine Rs 3 fun Q' K hK => ?_
  refine M1 hE 4 fun K' J ρ q4 => ?_; go_simp
  refine Ln hE J fun _ Eb => ?_; clear J K' hE a q4
  refine M0 fun K' J ρ => ?_; go_simp;
  refine Ln Eb J fun _ Ea => ?_; clear J K' Eb
  refine M1 Ea 17 fun K' J ρ q17 => ?_; go_simp
  refine Ln Ea J fun _ Eb => ?_; clear J K' Ea q17
  refine Ld [2, 3] Eb hK fun a hE => ?_; clear hK K Q' Eb
  refine Ks ?_
  exact ret_two hE rfl rfl rfl ⟨rfl, hbw2⟩
end
end Go.Proofs.YtbimkcjdodgojaaGreat
