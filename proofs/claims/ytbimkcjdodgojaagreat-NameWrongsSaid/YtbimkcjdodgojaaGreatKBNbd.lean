/- Name: Joined, People, Ask, Kind. -/
import Derived.Test.YtbimkcjdodgojaaGreatKBNbc

namespace Go.Proofs.YtbimkcjdodgojaaGreat
set_option linter.unusedSimpArgs false
set_option linter.unusedVariables false
open Go Go.RowKit
attribute [local go_sem high] cell_set_wr
attribute [local go_sem low] cell_wr frozen_wr
attribute [local go_sem] wr_set wr_drew wr_drewN wr_alloc wr_new Rho.c Rho.n Rho.g
def pJoinedL (b : Bk) : Prs := if setE b true = 0 then joinK (fun i o => kindP (cntP b.lines.length b.ts i o) b.ts.length == 2) (couldsP b) 9 else []
def pPeopleR (b : Bk) : Int × Int := if setE b true = 0 then (minL (headP b) (peopleP b.lines.length b.ts).tail, maxL (headP b) (peopleP b.lines.length b.ts).tail) else (0, 0)
/-- the most truths that are left of a line's matches -/
def worstP (b : Bk) (i : Nat) : Int := (List.range 11).foldl (fun (m : Int) (k : Nat) => max m (cntP b.lines.length b.ts i ((k : Int) - 1))) 0
def pAskR (b : Bk) : Int × Int := if setE b true = 0 then (if b.ts.length = 1 then (0, 4) else (((askP (worstP b) b.lines.length : Nat) : Int), 0)) else (0, setE b true)
def pKindR (b : Bk) (x y : Int) : Int × Int := if setE b (lineOfB b x 0 0 && lineOfB b y 1 1) = 0 then (kindP (cntP b.lines.length b.ts x y) b.ts.length, 0) else (0, setE b (lineOfB b x 0 0 && lineOfB b y 1 1))
theorem setE_ok {b : Bk} {v : Bool} (h : setE b v = 0) : b.ok = true ∧ v = true ∧ b.ts.length ≠ 0 := by
 unfold setE at h
 by_cases h0 : refE b v = 0
 ·rw [if_pos h0] at h
  obtain ⟨h1, h2⟩ := refE_zero h0
  refine ⟨h1, h2, fun e => ?_⟩
  rw [if_pos e] at h
  exact absurd h (by decide)
 ·rw [if_neg h0] at h; exact absurd h h0
theorem matchP_low (t : Prs) (l : Nat) : -1 ≤ matchP t l := by
 induction t with
 | nil => simp [matchP]
 | cons p t ih => unfold matchP; split <;> first | omega | (split <;> omega)
theorem ts_pairs {b : Bk} (h : b.lines.length ≤ 9) : ∀ t ∈ b.ts, ∀ p ∈ t, p.1 < 9 ∧ p.2 < 9 := fun t ht => fromP_mem (couldsP_lt h) b.lines.length 0 [] (by omega) (fun _ h => by cases h) t ht
theorem foldl_most (g : Nat → Int) : ∀ (l : List Nat) (m : Int), m ≤ l.foldl (fun m k => max m (g k)) m ∧ (∀ k ∈ l, g k ≤ l.foldl (fun m k => max m (g k)) m) ∧ (l.foldl (fun m k => max m (g k)) m = m ∨ ∃ k ∈ l, l.foldl (fun m k => max m (g k)) m = g k)
 | [], m => ⟨Int.le_refl _, fun _ h => absurd h (by simp), .inl rfl⟩
 | x :: l, m => by
  obtain ⟨h1, h2, h3⟩ := foldl_most g l (max m (g x))
  rw [List.foldl_cons]
  refine ⟨by omega, fun k hk => ?_, ?_⟩
  ·rcases List.mem_cons.1 hk with rfl | hk
   ·omega
   ·exact h2 k hk
  ·rcases h3 with h3 | ⟨k, hk, h3⟩
   ·rcases (by omega : max m (g x) = m ∨ max m (g x) = g x) with e | e
    ·exact .inl (by rw [h3, e])
    ·exact .inr ⟨x, List.mem_cons_self .., by rw [h3, e]⟩
   ·exact .inr ⟨k, List.mem_cons_of_mem _ hk, h3⟩
theorem worst_is {b : Bk} (h : b.lines.length ≤ 9) (i : Nat) : WorstOf (cntP b.lines.length b.ts) i (worstP b i) := by
 obtain ⟨h1, h2, h3⟩ := foldl_most (fun k => cntP b.lines.length b.ts i ((k : Int) - 1)) (List.range 11) 0
 refine ⟨h1, ?_, fun o ho => ?_⟩
 ·rcases h3 with h3 | ⟨k, hk, h3⟩
  ·exact .inl h3
  ·have := List.mem_range.1 hk
   exact .inr ⟨(k : Int) - 1, wf_int _ (by omega), h3⟩
 ·by_cases hr : -1 ≤ o ∧ o ≤ 9
  ·have := h2 (o + 1).toNat (List.mem_range.2 (by omega))
   rwa [show (((o + 1).toNat : Nat) : Int) - 1 = o by omega] at this
  ·have : cntP b.lines.length b.ts i o = 0 := by
    unfold cntP
    split
    ·rw [List.filter_eq_nil_iff.2]
     ·rfl
     ·intro t ht he
      have e : matchP t (i : Int).toNat = o := by simpa using he
      have q1 := matchP_low t (i : Int).toNat
      have q2 := matchP_lt (ts_pairs h t ht) (i : Int).toNat
      omega
    ·rfl
   rw [this]; exact h1
section
variable (A : Option Addr) (cap : Nat) (L : Option Addr) (lcap : Nat) (b : Bk)
set_option maxRecDepth 100000 in
set_option maxHeartbeats 2000000 in
theorem pJoined_any (w : World) (hM : BkAt w A L b) (hs : b.small cap lcap) : Calls Tryz.prog 17 #[.agg (bkV A cap L lcap b).toArray] w fun e w' => (∃ T c, e = .returned (.tuple #[.slice T (pJoinedL b).length c, .int .i64 (setE b true)]) ∧ Arr w' w'.heap.size T (pairsV (pJoinedL b))) ∧ Below w.heap.size w w' := by
 have C1 : Hid (∀ W, BkAt W A L b → _) := hid fun W hW => settled_any (A := A) (cap := cap) (L := L) (lcap := lcap) (b := b) true W hW hs
 obtain ⟨r, hr⟩ : ∃ r, setE b true = r := ⟨_, rfl⟩
 rw [hr] at C1
 have HR := hid hr
 clear hr
 simp only [bkV] at C1 ⊢
 refine enterE Tryz.func17 rfl Tryz.ntmps17 (by simp) (fun a hE => ?_); simp only [envOf, Nat.zero_add, Nat.reduceAdd] at hE
 refine Ks ?_
 refine Rs 3 fun Q' K hK => ?_
 refine M1 hE 0 fun K' J ρ q0 => ?_; go_simp
 refine Ln hE J fun _ Eb => ?_; clear J K' hE a q0
 refine M0 fun K' J ρ => ?_; go_simp;
 refine Ln Eb J fun _ Ea => ?_; clear J K' Eb
 refine M0 fun K' J ρ => ?_; go_simp;
 refine Ln Ea J fun _ Eb => ?_; clear J K' Ea
 refine Ld [1] Eb hK fun a hE => ?_; clear hK K Q' Eb
 obtain ⟨B, hBe⟩ : ∃ B, B = w.heap.size := ⟨_, rfl⟩; rw [← hBe] at hE; refine world_cut (fun wt => Below w.heap.size w wt ∧ Cells wt B (bkV A cap L lcap b)) ⟨(Below.refl _ _).alloc (Nat.le_refl _) _, by rw [hBe]; exact cells_new _ _ _⟩ (fun w1 hCut => ?_); obtain ⟨hbw1, hCB⟩ := hCut; clear hBe
 have hb1 := hbw1
 have hM1 := hM.below hb1
 simp only [bkV] at hCB
 obtain ⟨nB, cB0, cB1, cB2, cB3, cB4, cB5, cB6⟩ := hCB.c7
 refine Ks ?_
 refine Rs 8 fun Q' K hK => ?_
 refine M1 hE 1 fun K' J ρ q1 => ?_; go_simp
 refine Ln hE J fun _ Eb => ?_; clear J K' hE a q1
 refine M1 Eb 7 fun K' J ρ q7 => ?_; go_simp; (try go_bits); (try clear q7)
 go_at_call 50; refine (C1.out _ hM1).mono ?_; rintro e w2 ⟨⟨vs, rfl, hl2, ho2, hok2⟩, h2⟩
 have hl2' : vs.toArray.size = 18 := by simpa using hl2
 (try clear r7)
 refine Ln Eb J fun _ Ea => ?_; clear J K' Eb
 refine M1 Ea 8 fun K' J ρ q8 => ?_; go_simp
 refine Ln Ea J fun _ Eb => ?_; clear J K' Ea q8
 refine M1 Eb 6 fun K' J ρ q6 => ?_; go_simp
 refine Ln Eb J fun _ Ea => ?_; clear J K' Eb q6
 refine M1 Ea 6 fun K' J ρ q6 => ?_; go_simp
 refine Ln Ea J fun _ Eb => ?_; clear J K' Ea q6
 refine M0 fun K' J ρ => ?_; go_simp;
 refine Ln Eb J fun _ Ea => ?_; clear J K' Eb
 refine Lp fun K' J => ?_
 have r4 := Ea.at 4 rfl; have r9 := Ea.at 9 rfl
 refine wp_store_mid 75 (.tmp 4) (.tmp 9) rfl w2.heap.size 0 vs.toArray (eval_of r4) (eval_of r9) (there_row (row_new w2 _ _) (by rw [hl2']; exact Nat.le_of_eq rfl)) (by rw [hl2']; kernel_rfl) ho2 ?_
 (try clear r4 r9)
 refine late_skip Ea J (fun _ Eb => ?_); clear J K'; clear Ea
 refine M1 Eb 10 fun K' J ρ q10 => ?_; go_simp
 refine Ln Eb J fun _ Ea => ?_; clear J K' Eb q10
 refine Ld [4, 5] Ea hK fun a hE => ?_; clear hK K Q' Ea
 obtain ⟨C, hC⟩ : ∃ C, C = w2.heap.size := ⟨_, rfl⟩
 rw [← hC] at hE
 refine world_cut (fun wt => Below w2.heap.size w2 wt ∧ Cells wt C vs) (by rw [hC]; exact boxed_new w2 _ _ vs (by rw [hl2]; rfl)) (fun w3 hC5 => ?_)
 obtain ⟨h3, hCC⟩ := hC5
 clear hC
 have h13 := h2.trans (h3.mono h2.size)
 have hb3 := hb1.trans (h13.mono hb1.size)
 clear nB cB0 cB1 cB2 cB3 cB4 cB5 cB6 hCB
 by_cases hr0 : r = 0
 ·subst hr0
  have hok3 := (hok2 rfl).below h3
  obtain ⟨hbo, _, hts⟩ := setE_ok HR.out
  have h9 := ok_nine hbo
  have HJ := hid (hok3.joined h9)
  have hq : pJoinedL b = joinK (fun i o => kindP (cntP b.lines.length b.ts i o) b.ts.length == 2) (couldsP b) 9 := by unfold pJoinedL; rw [HR.out]; rfl
  rw [← hq] at HJ
  clear hq hbo hts
  refine Ks ?_
  refine Rs 2 fun Q' K hK => ?_
  refine M1 hE 5 fun K' J ρ q5 => ?_; go_simp
  refine Ln hE J fun _ Eb => ?_; clear J K' hE a q5
  refine M1 Eb 11 fun K' J ρ q11 => ?_; go_simp; (try go_bits)
  refine Ln Eb J fun _ Ea => ?_; clear J K' Eb q11
  refine Ld [4, 12] Ea hK fun a hE => ?_; clear hK K Q' Ea
  refine Ks ?_
  refine cond_no hE (t := 12) rfl ?_
  refine Ks ?_
  refine Rs 4 fun Q' K hK => ?_
  refine Lp fun K' J => ?_
  have r4 := hE.at 4 rfl
  refine wp_load_mid 75 (.tmp 4) rfl C 0 (eval_of r4) vs _ (fun j u hu => by rw [Nat.zero_add]; exact hCC.2 j u hu) Tryz.underlying75 rfl (by rw [hl2]; kernel_rfl) ?_
  (try clear r4)
  refine Ln hE J fun _ Eb => ?_; clear J K' hE a
  refine M1 Eb 14 fun K' J ρ q14 => ?_; go_simp; (try go_bits); (try clear q14)
  go_at_call 54; refine (HJ.out).mono ?_; rintro e w4 ⟨⟨T, c, rfl, hT4⟩, h4⟩
  (try clear r14)
  refine Ln Eb J fun _ Ea => ?_; clear J K' Eb
  refine M1 Ea 15 fun K' J ρ q15 => ?_; go_simp
  refine Ln Ea J fun _ Eb => ?_; clear J K' Ea q15
  refine M0 fun K' J ρ => ?_; go_simp;
  refine Ln Eb J fun _ Ea => ?_; clear J K' Eb
  refine Ld [2, 3] Ea hK fun a hE => ?_; clear hK K Q' Ea
  refine Ks ?_
  exact ret_two hE rfl rfl rfl ⟨⟨T, c, by rw [HR.out], hT4⟩, hb3.trans (h4.mono hb3.size)⟩
 ·have hq : pJoinedL b = [] := by unfold pJoinedL; rw [HR.out, if_neg hr0]
  rw [hq, HR.out]
  clear hq
  refine Ks ?_
  refine Rs 2 fun Q' K hK => ?_
  refine M1 hE 5 fun K' J ρ q5 => ?_; go_simp
  refine Ln hE J fun _ Eb => ?_; clear J K' hE a q5
  refine M1 Eb 11 fun K' J ρ q11 => ?_; go_simp; (try go_bits)
  refine Ln Eb J fun _ Ea => ?_; clear J K' Eb q11
  refine Ld [5, 12] Ea hK fun a hE => ?_; clear hK K Q' Ea
  replace hE := hE.turn 12 (v' := .bool true) rfl (by simp [hr0])
  refine Ks ?_
  refine cond_yes hE (t := 12) rfl ?_
  refine Ks ?_
  refine Rs 3 fun Q' K hK => ?_
  refine M1 hE 5 fun K' J ρ q5 => ?_; go_simp
  refine Ln hE J fun _ Eb => ?_; clear J K' hE a q5
  refine M0 fun K' J ρ => ?_; go_simp;
  refine Ln Eb J fun _ Ea => ?_; clear J K' Eb
  refine M1 Ea 13 fun K' J ρ q13 => ?_; go_simp
  refine Ln Ea J fun _ Eb => ?_; clear J K' Ea q13
  refine Ld [2, 3] Eb hK fun a hE => ?_; clear hK K Q' Eb
  refine Ks ?_
  exact ret_two hE rfl rfl rfl ⟨⟨none, 0, rfl, fun hx => absurd rfl hx⟩, hb3⟩
set_option maxRecDepth 100000 in
set_option maxHeartbeats 2000000 in
theorem pPeople_any (w : World) (hM : BkAt w A L b) (hs : b.small cap lcap) : Calls Tryz.prog 20 #[.agg (bkV A cap L lcap b).toArray] w fun e w' => e = .returned (.tuple #[.agg #[.int .i64 (pPeopleR b).1, .int .i64 (pPeopleR b).2], .int .i64 (setE b true)]) ∧ Below w.heap.size w w' := by
 have C1 : Hid (∀ W, BkAt W A L b → _) := hid fun W hW => settled_any (A := A) (cap := cap) (L := L) (lcap := lcap) (b := b) true W hW hs
 obtain ⟨r, hr⟩ : ∃ r, setE b true = r := ⟨_, rfl⟩
 rw [hr] at C1
 have HR := hid hr
 clear hr
 simp only [bkV] at C1 ⊢
 refine enterE Tryz.func20 rfl Tryz.ntmps20 (by simp) (fun a hE => ?_); simp only [envOf, Nat.zero_add, Nat.reduceAdd] at hE
 refine Ks ?_
 refine Rs 3 fun Q' K hK => ?_
 refine M1 hE 0 fun K' J ρ q0 => ?_; go_simp
 refine Ln hE J fun _ Eb => ?_; clear J K' hE a q0
 refine M0 fun K' J ρ => ?_; go_simp;
 refine Ln Eb J fun _ Ea => ?_; clear J K' Eb
 refine M0 fun K' J ρ => ?_; go_simp;
 refine Ln Ea J fun _ Eb => ?_; clear J K' Ea
 refine Ld [1, 2] Eb hK fun a hE => ?_; clear hK K Q' Eb
 obtain ⟨B, hB⟩ : ∃ B, B = w.heap.size := ⟨_, rfl⟩
 obtain ⟨R, hR⟩ : ∃ B, B = w.heap.size + 1 := ⟨_, rfl⟩
 rw [← hR, ← hB] at hE
 refine world_cut (fun wt => Below w.heap.size w wt ∧ Cells wt B (bkV A cap L lcap b) ∧ R < wt.heap.size ∧ ∃ zs : List Value, zs.length = 2 ∧ Row wt R zs) ?_ (fun w1 hC => ?_)
 ·rw [hB, hR]
  obtain ⟨q1, q2, q3, q4⟩ := box_row w _ _ _ _
  exact ⟨q1, q2, q3, _, rfl, q4⟩
 obtain ⟨hb1, hCB, hlR, zs, hz, hRR⟩ := hC
 have hnR : w.heap.size ≤ R := by omega
 clear hB hR
 have hM1 := hM.below hb1
 simp only [bkV] at hCB
 obtain ⟨nB, cB0, cB1, cB2, cB3, cB4, cB5, cB6⟩ := hCB.c7
 refine Ks ?_
 refine Rs 8 fun Q' K hK => ?_
 refine M1 hE 1 fun K' J ρ q1 => ?_; go_simp
 refine Ln hE J fun _ Eb => ?_; clear J K' hE a q1
 refine M1 Eb 7 fun K' J ρ q7 => ?_; go_simp; (try go_bits); (try clear q7)
 go_at_call 50; refine (C1.out _ hM1).mono ?_; rintro e w2 ⟨⟨vs, rfl, hl2, ho2, hok2⟩, h2⟩
 have hl2' : vs.toArray.size = 18 := by simpa using hl2
 (try clear r7)
 refine Ln Eb J fun _ Ea => ?_; clear J K' Eb
 refine M1 Ea 8 fun K' J ρ q8 => ?_; go_simp
 refine Ln Ea J fun _ Eb => ?_; clear J K' Ea q8
 refine M1 Eb 6 fun K' J ρ q6 => ?_; go_simp
 refine Ln Eb J fun _ Ea => ?_; clear J K' Eb q6
 refine M1 Ea 6 fun K' J ρ q6 => ?_; go_simp
 refine Ln Ea J fun _ Eb => ?_; clear J K' Ea q6
 refine M0 fun K' J ρ => ?_; go_simp;
 refine Ln Eb J fun _ Ea => ?_; clear J K' Eb
 refine Lp fun K' J => ?_
 have r4 := Ea.at 4 rfl; have r9 := Ea.at 9 rfl
 refine wp_store_mid 75 (.tmp 4) (.tmp 9) rfl w2.heap.size 0 vs.toArray (eval_of r4) (eval_of r9) (there_row (row_new w2 _ _) (by rw [hl2']; exact Nat.le_of_eq rfl)) (by rw [hl2']; kernel_rfl) ho2 ?_
 (try clear r4 r9)
 refine late_skip Ea J (fun _ Eb => ?_); clear J K'; clear Ea
 refine M1 Eb 10 fun K' J ρ q10 => ?_; go_simp
 refine Ln Eb J fun _ Ea => ?_; clear J K' Eb q10
 refine Ld [2, 4, 5] Ea hK fun a hE => ?_; clear hK K Q' Ea
 obtain ⟨C, hC⟩ : ∃ C, C = w2.heap.size := ⟨_, rfl⟩
 rw [← hC] at hE
 refine world_cut (fun wt => Below w2.heap.size w2 wt ∧ Cells wt C vs) (by rw [hC]; exact boxed_new w2 _ _ vs (by rw [hl2]; rfl)) (fun w3 hC5 => ?_)
 obtain ⟨h3, hCC⟩ := hC5
 clear hC
 have h13 := h2.trans (h3.mono h2.size)
 have hb3 := hb1.trans (h13.mono hb1.size)
 have hRR3 := hRR.below h13 hlR
 have hlR3 := Nat.lt_of_lt_of_le hlR h13.size
 clear nB cB0 cB1 cB2 cB3 cB4 cB5 cB6 hCB hRR
 by_cases hr0 : r = 0
 ·subst hr0
  have hok3 := (hok2 rfl).below h3
  obtain ⟨hbo, _, hts⟩ := setE_ok HR.out
  have h9 := ok_nine hbo
  have HL : Hid (∀ W, OkT A cap L lcap b w1.heap.size W vs → _) := hid fun W hW => hW.least hts
  have HG : Hid (∀ W, OkT A cap L lcap b w1.heap.size W vs → _) := hid fun W hW => hW.greatest hts
  have hq : pPeopleR b = (minL (headP b) (peopleP b.lines.length b.ts).tail, maxL (headP b) (peopleP b.lines.length b.ts).tail) := by unfold pPeopleR; rw [HR.out]; rfl
  rw [hq, HR.out]
  obtain ⟨lo, hlo⟩ : ∃ lo, minL (headP b) (peopleP b.lines.length b.ts).tail = lo := ⟨_, rfl⟩
  obtain ⟨hi, hhi⟩ : ∃ hi, maxL (headP b) (peopleP b.lines.length b.ts).tail = hi := ⟨_, rfl⟩
  rw [hlo] at HL ⊢
  rw [hhi] at HG ⊢
  clear hq hbo hts hlo hhi
  refine Ks ?_
  refine Rs 2 fun Q' K hK => ?_
  refine M1 hE 5 fun K' J ρ q5 => ?_; go_simp
  refine Ln hE J fun _ Eb => ?_; clear J K' hE a q5
  refine M1 Eb 11 fun K' J ρ q11 => ?_; go_simp; (try go_bits)
  refine Ln Eb J fun _ Ea => ?_; clear J K' Eb q11
  refine Ld [2, 4, 12] Ea hK fun a hE => ?_; clear hK K Q' Ea
  refine Ks ?_
  refine cond_no hE (t := 12) rfl ?_
  refine Ks ?_
  refine Rd [7, 8] (fun wt => Below w3.heap.size w3 wt) (fun w1 w2 => Below w1.heap.size w1 w2) [(0, some 15), (1, some 16), (2, some 17), (3, some 18), (4, some 19), (5, some 20), (6, some 21)] [15, 16, 17, 18, 19, 20, 21] #[true, true, true, true, true, true, true, false, false] [2, 3] hE ((Below.refl _ _).drew) fun Q' K hK => ?_
  refine SeqOps.val ?_ (Sp fun ax wx hS hT' hd K' J => ?_) ?_; rotate_left 1
  ·have r4 := hS.at 4 (by decide) (hE.at 4 rfl); obtain ⟨_, _, _, _, _, _⟩ := bT hT'
   refine wp_load_mid 75 (.tmp 4) rfl C 0 (eval_of r4) vs _ (fun j u hu => by rw [Nat.zero_add]; exact (hCC.below hT').2 j u hu) Tryz.underlying75 rfl (by rw [hl2]; kernel_rfl) ?_
   refine J.out _ _ _ rfl ?_ hT' (Below.refl _ _); rfl
  refine SeqOps.val ?_ (Sp fun ax wx hS hT' hd K' J => ?_) ?_; rotate_left 1
  ·obtain ⟨_, _, _, _, _, _⟩ := bT hT'
   refine o0 fun ρ => ?_; go_simp;
   exact Jo J hT'
  refine SeqOps.val ?_ (Sp fun ax wx hS hT' hd K' J => ?_) ?_; rotate_left 1
  ·have r15 := Tv hd 1 0 15; have r16 := Tv hd 0 1 16; obtain ⟨_, _, _, _, _, _⟩ := bT hT'
   refine o2 r15 r16 fun ρ q15 q16 => ?_; go_simp; (try go_bits);
   go_at_call 55; refine (HL.out _ (hok3.below hT')).mono ?_; rintro e g1 ⟨rfl, k1⟩
   refine J.out _ _ _ rfl ?_ (hT'.trans (k1.mono hT'.size)) k1; rfl
  refine SeqOps.val ?_ (Sp fun ax wx hS hT' hd K' J => ?_) ?_; rotate_left 1
  ·have r4 := hS.at 4 (by decide) (hE.at 4 rfl); obtain ⟨_, _, _, _, _, _⟩ := bT hT'
   refine wp_load_mid 75 (.tmp 4) rfl C 0 (eval_of r4) vs _ (fun j u hu => by rw [Nat.zero_add]; exact (hCC.below hT').2 j u hu) Tryz.underlying75 rfl (by rw [hl2]; kernel_rfl) ?_
   refine J.out _ _ _ rfl ?_ hT' (Below.refl _ _); rfl
  refine SeqOps.val ?_ (Sp fun ax wx hS hT' hd K' J => ?_) ?_; rotate_left 1
  ·obtain ⟨_, _, _, _, _, _⟩ := bT hT'
   refine o0 fun ρ => ?_; go_simp;
   exact Jo J hT'
  refine SeqOps.val ?_ (Sp fun ax wx hS hT' hd K' J => ?_) ?_; rotate_left 1
  ·have r18 := Tv hd 1 3 18; have r19 := Tv hd 0 4 19; obtain ⟨_, _, _, _, _, _⟩ := bT hT'
   refine o2 r18 r19 fun ρ q18 q19 => ?_; go_simp; (try go_bits);
   go_at_call 55; refine (HG.out _ (hok3.below hT')).mono ?_; rintro e g1 ⟨rfl, k1⟩
   refine J.out _ _ _ rfl ?_ (hT'.trans (k1.mono hT'.size)) k1; rfl
  refine SeqOps.val ?_ (Sp fun ax wx hS hT' hd K' J => ?_) ?_; rotate_left 1
  ·have r17 := Tv hd 3 2 17; have r20 := Tv hd 0 5 20; obtain ⟨_, _, _, _, _, _⟩ := bT hT'
   refine o2 r17 r20 fun ρ q17 q20 => ?_; go_simp;
   exact Jo J hT'
  refine SeqOps.nil ?_
  intro w4 hBl; (repeat refine Ek ?_)
  refine fun ax hEx => ?_
  simp only [lk, pick, Nat.reduceEqDiff, ↓reduceIte] at hEx
  have hRR4 := hRR3.below hBl hlR3
  have hlR4 := Nat.lt_of_lt_of_le hlR3 hBl.size
  refine Lp fun K' J => ?_
  have r2 := hEx.at 2 rfl; have r21 := hEx.at 21 rfl
  refine wp_store_mid 27 (.tmp 2) (.tmp 21) rfl R 0 #[.int .i64 lo, .int .i64 hi] (eval_of r2) (eval_of r21) (there_row hRR4 (by rw [hz]; exact Nat.le_refl _)) (by kernel_rfl) (by kernel_rfl) ?_
  (try clear r2 r21)
  refine late_skip hEx J (fun _ Eb => ?_); clear J K'; clear hEx
  refine M0 fun K' J ρ => ?_; go_simp;
  refine Ln Eb J fun _ Ea => ?_; clear J K' Eb
  refine Ld [2, 3] Ea hK fun a hE => ?_; clear hK K Q' Ea
  have hb4 := hb3.trans (hBl.mono hb3.size)
  refine world_cut (fun wt => Cells wt R [.int .i64 lo, .int .i64 hi] ∧ Below w.heap.size w wt) ?_ (fun w7 hC => ?_)
  ·obtain ⟨q1, q2, _⟩ := cells_stored hRR4 (vs := [.int .i64 lo, .int .i64 hi]) (by rw [hz]; rfl) hlR4 hnR hb4
   exact ⟨q1, q2⟩
  obtain ⟨hC7, hb7⟩ := hC
  refine Ks ?_
  exact ret_cell_two hE rfl rfl rfl hC7.2 Tryz.underlying27 rfl (by kernel_rfl) ⟨rfl, hb7⟩
 ·have hq : pPeopleR b = (0, 0) := by unfold pPeopleR; rw [HR.out, if_neg hr0]
  rw [hq, HR.out]
  clear hq
  refine Ks ?_
  refine Rs 2 fun Q' K hK => ?_
  refine M1 hE 5 fun K' J ρ q5 => ?_; go_simp
  refine Ln hE J fun _ Eb => ?_; clear J K' hE a q5
  refine M1 Eb 11 fun K' J ρ q11 => ?_; go_simp; (try go_bits)
  refine Ln Eb J fun _ Ea => ?_; clear J K' Eb q11
  refine Ld [2, 5, 12] Ea hK fun a hE => ?_; clear hK K Q' Ea
  replace hE := hE.turn 12 (v' := .bool true) rfl (by simp [hr0])
  refine Ks ?_
  refine cond_yes hE (t := 12) rfl ?_
  refine Ks ?_
  refine Rs 4 fun Q' K hK => ?_
  refine M0 fun K' J ρ => ?_; go_simp;
  refine Ln hE J fun _ Eb => ?_; clear J K' hE a
  refine M1 Eb 5 fun K' J ρ q5 => ?_; go_simp
  refine Ln Eb J fun _ Ea => ?_; clear J K' Eb q5
  refine Lp fun K' J => ?_
  have r2 := Ea.at 2 rfl; have r13 := Ea.at 13 rfl
  refine wp_store_mid 27 (.tmp 2) (.tmp 13) rfl R 0 #[.int .i64 0, .int .i64 0] (eval_of r2) (eval_of r13) (there_row hRR3 (by rw [hz]; exact Nat.le_refl _)) (by kernel_rfl) (by kernel_rfl) ?_
  (try clear r2 r13)
  refine late_skip Ea J (fun _ Eb => ?_); clear J K'; clear Ea
  refine M1 Eb 14 fun K' J ρ q14 => ?_; go_simp
  refine Ln Eb J fun _ Ea => ?_; clear J K' Eb q14
  refine Ld [2, 3] Ea hK fun a hE => ?_; clear hK K Q' Ea
  refine world_cut (fun wt => Cells wt R [.int .i64 0, .int .i64 0] ∧ Below w.heap.size w wt) ?_ (fun w7 hC => ?_)
  ·obtain ⟨q1, q2, _⟩ := cells_stored hRR3 (vs := [.int .i64 0, .int .i64 0]) (by rw [hz]; rfl) hlR3 hnR hb3
   exact ⟨q1, q2⟩
  obtain ⟨hC7, hb7⟩ := hC
  refine Ks ?_
  exact ret_cell_two hE rfl rfl rfl hC7.2 Tryz.underlying27 rfl (by kernel_rfl) ⟨rfl, hb7⟩
set_option maxRecDepth 100000 in
set_option maxHeartbeats 2000000 in
theorem pAsk_any (w : World) (hM : BkAt w A L b) (hs : b.small cap lcap) : Calls Tryz.prog 25 #[.agg (bkV A cap L lcap b).toArray] w fun e w' => e = .returned (.tuple #[.int .i64 (pAskR b).1, .int .i64 (pAskR b).2]) ∧ Below w.heap.size w w' := by
 have C1 : Hid (∀ W, BkAt W A L b → _) := hid fun W hW => settled_any (A := A) (cap := cap) (L := L) (lcap := lcap) (b := b) true W hW hs
 obtain ⟨r, hr⟩ : ∃ r, setE b true = r := ⟨_, rfl⟩
 rw [hr] at C1
 have HR := hid hr
 clear hr
 simp only [bkV] at C1 ⊢
 refine enterE Tryz.func25 rfl Tryz.ntmps25 (by simp) (fun a hE => ?_); simp only [envOf, Nat.zero_add, Nat.reduceAdd] at hE
 refine Ks ?_
 refine Rs 3 fun Q' K hK => ?_
 refine M1 hE 0 fun K' J ρ q0 => ?_; go_simp
 refine Ln hE J fun _ Eb => ?_; clear J K' hE a q0
 refine M0 fun K' J ρ => ?_; go_simp;
 refine Ln Eb J fun _ Ea => ?_; clear J K' Eb
 refine M0 fun K' J ρ => ?_; go_simp;
 refine Ln Ea J fun _ Eb => ?_; clear J K' Ea
 refine Ld [1] Eb hK fun a hE => ?_; clear hK K Q' Eb
 obtain ⟨B, hBe⟩ : ∃ B, B = w.heap.size := ⟨_, rfl⟩; rw [← hBe] at hE; refine world_cut (fun wt => Below w.heap.size w wt ∧ Cells wt B (bkV A cap L lcap b)) ⟨(Below.refl _ _).alloc (Nat.le_refl _) _, by rw [hBe]; exact cells_new _ _ _⟩ (fun w1 hCut => ?_); obtain ⟨hbw1, hCB⟩ := hCut; clear hBe
 have hb1 := hbw1
 have hM1 := hM.below hb1
 simp only [bkV] at hCB
 obtain ⟨nB, cB0, cB1, cB2, cB3, cB4, cB5, cB6⟩ := hCB.c7
 refine Ks ?_
 refine Rs 8 fun Q' K hK => ?_
 refine M1 hE 1 fun K' J ρ q1 => ?_; go_simp
 refine Ln hE J fun _ Eb => ?_; clear J K' hE a q1
 refine M1 Eb 7 fun K' J ρ q7 => ?_; go_simp; (try go_bits); (try clear q7)
 go_at_call 50; refine (C1.out _ hM1).mono ?_; rintro e w2 ⟨⟨vs, rfl, hl2, ho2, hok2⟩, h2⟩
 have hl2' : vs.toArray.size = 18 := by simpa using hl2
 (try clear r7)
 refine Ln Eb J fun _ Ea => ?_; clear J K' Eb
 refine M1 Ea 8 fun K' J ρ q8 => ?_; go_simp
 refine Ln Ea J fun _ Eb => ?_; clear J K' Ea q8
 refine M1 Eb 6 fun K' J ρ q6 => ?_; go_simp
 refine Ln Eb J fun _ Ea => ?_; clear J K' Eb q6
 refine M1 Ea 6 fun K' J ρ q6 => ?_; go_simp
 refine Ln Ea J fun _ Eb => ?_; clear J K' Ea q6
 refine M0 fun K' J ρ => ?_; go_simp;
 refine Ln Eb J fun _ Ea => ?_; clear J K' Eb
 refine Lp fun K' J => ?_
 have r4 := Ea.at 4 rfl; have r9 := Ea.at 9 rfl
 refine wp_store_mid 75 (.tmp 4) (.tmp 9) rfl w2.heap.size 0 vs.toArray (eval_of r4) (eval_of r9) (there_row (row_new w2 _ _) (by rw [hl2']; exact Nat.le_of_eq rfl)) (by rw [hl2']; kernel_rfl) ho2 ?_
 (try clear r4 r9)
 refine late_skip Ea J (fun _ Eb => ?_); clear J K'; clear Ea
 refine M1 Eb 10 fun K' J ρ q10 => ?_; go_simp
 refine Ln Eb J fun _ Ea => ?_; clear J K' Eb q10
 refine Ld [4, 5] Ea hK fun a hE => ?_; clear hK K Q' Ea
 obtain ⟨C, hC⟩ : ∃ C, C = w2.heap.size := ⟨_, rfl⟩
 rw [← hC] at hE
 refine world_cut (fun wt => Below w2.heap.size w2 wt ∧ Cells wt C vs) (by rw [hC]; exact boxed_new w2 _ _ vs (by rw [hl2]; rfl)) (fun w3 hC5 => ?_)
 obtain ⟨h3, hCC⟩ := hC5
 clear hC
 have h13 := h2.trans (h3.mono h2.size)
 have hb3 := hb1.trans (h13.mono hb1.size)
 clear nB cB0 cB1 cB2 cB3 cB4 cB5 cB6 hCB
 by_cases hr0 : r = 0
 ·subst hr0
  have hok3 := (hok2 rfl).below h3
  obtain ⟨hbo, _, hts⟩ := setE_ok HR.out
  have h9 := ok_nine hbo
  have HT := hid hok3.truths
  have HA : Hid (∀ W, OkT A cap L lcap b w1.heap.size W vs → _) := hid fun W hW => hW.ask h9 (worstP b) (fun i _ => worst_is h9 i)
  have hq : pAskR b = if b.ts.length = 1 then (0, 4) else (((askP (worstP b) b.lines.length : Nat) : Int), 0) := by unfold pAskR; rw [HR.out]; rfl
  rw [hq]
  obtain ⟨m, hm⟩ : ∃ m : Nat, b.ts.length = m := ⟨_, rfl⟩
  rw [hm] at HT ⊢
  clear hq hbo hts hm
  refine Ks ?_
  refine Rs 2 fun Q' K hK => ?_
  refine M1 hE 5 fun K' J ρ q5 => ?_; go_simp
  refine Ln hE J fun _ Eb => ?_; clear J K' hE a q5
  refine M1 Eb 11 fun K' J ρ q11 => ?_; go_simp; (try go_bits)
  refine Ln Eb J fun _ Ea => ?_; clear J K' Eb q11
  refine Ld [4, 12] Ea hK fun a hE => ?_; clear hK K Q' Ea
  refine Ks ?_
  refine cond_no hE (t := 12) rfl ?_
  refine Ks ?_
  refine Rs 3 fun Q' K hK => ?_
  refine Lp fun K' J => ?_
  have r4 := hE.at 4 rfl
  refine wp_load_mid 75 (.tmp 4) rfl C 0 (eval_of r4) vs _ (fun j u hu => by rw [Nat.zero_add]; exact hCC.2 j u hu) Tryz.underlying75 rfl (by rw [hl2]; kernel_rfl) ?_
  (try clear r4)
  refine Ln hE J fun _ Eb => ?_; clear J K' hE a
  refine M1 Eb 14 fun K' J ρ q14 => ?_; go_simp; (try go_bits); (try clear q14)
  go_at_call 44; refine (HT.out _).mono ?_; rintro e w4 ⟨rfl, h4⟩
  (try clear r14)
  refine Ln Eb J fun _ Ea => ?_; clear J K' Eb
  refine M1 Ea 15 fun K' J ρ q15 => ?_; go_simp; (try go_bits)
  refine Ln Ea J fun _ Eb => ?_; clear J K' Ea q15
  refine Ld [4, 16] Eb hK fun a hE => ?_; clear hK K Q' Eb
  have hb4 := hb3.trans (h4.mono hb3.size)
  have hCC4 := hCC.below h4
  have hok4 := hok3.below h4
  clear hCC hok3
  refine Ks ?_
  refine cond_part hE (t := 16) rfl (fun h => ?_) (fun h => ?_)
  ·have hm1 : m = 1 := by have h' : (m : Int) = 1 := (by simpa using h); omega
   clear h
   refine Ks ?_
   refine Rs 2 fun Q' K hK => ?_
   refine M0 fun K' J ρ => ?_; go_simp;
   refine Ln hE J fun _ Eb => ?_; clear J K' hE a
   refine M0 fun K' J ρ => ?_; go_simp;
   refine Ln Eb J fun _ Ea => ?_; clear J K' Eb
   refine Ld [2, 3] Ea hK fun a hE => ?_; clear hK K Q' Ea
   refine Ks ?_
   refine ret_two hE rfl rfl rfl ⟨?_, hb4⟩
   rw [if_pos hm1]
  ·have hm1 : ¬ m = 1 := by have h' : ¬ (m : Int) = 1 := (by simpa using h); omega
   clear h
   refine Ks ?_
   refine Rs 4 fun Q' K hK => ?_
   refine Lp fun K' J => ?_
   have r4 := hE.at 4 rfl
   refine wp_load_mid 75 (.tmp 4) rfl C 0 (eval_of r4) vs _ (fun j u hu => by rw [Nat.zero_add]; exact hCC4.2 j u hu) Tryz.underlying75 rfl (by rw [hl2]; kernel_rfl) ?_
   (try clear r4)
   refine Ln hE J fun _ Eb => ?_; clear J K' hE a
   refine M1 Eb 17 fun K' J ρ q17 => ?_; go_simp; (try go_bits); (try clear q17)
   go_at_call 63; refine (HA.out _ hok4).mono ?_; rintro e w5 ⟨rfl, h5⟩
   (try clear r17)
   refine Ln Eb J fun _ Ea => ?_; clear J K' Eb
   refine M1 Ea 18 fun K' J ρ q18 => ?_; go_simp
   refine Ln Ea J fun _ Eb => ?_; clear J K' Ea q18
   refine M0 fun K' J ρ => ?_; go_simp;
   refine Ln Eb J fun _ Ea => ?_; clear J K' Eb
   refine Ld [2, 3] Ea hK fun a hE => ?_; clear hK K Q' Ea
   refine Ks ?_
   refine ret_two hE rfl rfl rfl ⟨?_, hb4.trans (h5.mono hb4.size)⟩
   rw [if_neg hm1]
 ·have hq : pAskR b = (0, r) := by unfold pAskR; rw [HR.out, if_neg hr0]
  rw [hq]
  clear hq
  refine Ks ?_
  refine Rs 2 fun Q' K hK => ?_
  refine M1 hE 5 fun K' J ρ q5 => ?_; go_simp
  refine Ln hE J fun _ Eb => ?_; clear J K' hE a q5
  refine M1 Eb 11 fun K' J ρ q11 => ?_; go_simp; (try go_bits)
  refine Ln Eb J fun _ Ea => ?_; clear J K' Eb q11
  refine Ld [5, 12] Ea hK fun a hE => ?_; clear hK K Q' Ea
  replace hE := hE.turn 12 (v' := .bool true) rfl (by simp [hr0])
  refine Ks ?_
  refine cond_yes hE (t := 12) rfl ?_
  refine Ks ?_
  refine Rs 3 fun Q' K hK => ?_
  refine M1 hE 5 fun K' J ρ q5 => ?_; go_simp
  refine Ln hE J fun _ Eb => ?_; clear J K' hE a q5
  refine M0 fun K' J ρ => ?_; go_simp;
  refine Ln Eb J fun _ Ea => ?_; clear J K' Eb
  refine M1 Ea 13 fun K' J ρ q13 => ?_; go_simp
  refine Ln Ea J fun _ Eb => ?_; clear J K' Ea q13
  refine Ld [2, 3] Eb hK fun a hE => ?_; clear hK K Q' Eb
  refine Ks ?_
  exact ret_two hE rfl rfl rfl ⟨rfl, hb3⟩
end
end Go.Proofs.YtbimkcjdodgojaaGreat
