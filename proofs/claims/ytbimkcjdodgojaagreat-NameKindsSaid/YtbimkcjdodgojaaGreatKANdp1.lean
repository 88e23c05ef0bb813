/- Name: the reference's People. -/
import Derived.Test.YtbimkcjdodgojaaGreatKANdo
import Derived.Test.YtbimkcjdodgojaaGreatKANdb

namespace Go.Proofs.YtbimkcjdodgojaaGreat
set_option linter.unusedSimpArgs false
set_option linter.unusedVariables false
open Go Go.RowKit
attribute [local go_sem high] cell_set_wr
attribute [local go_sem low] cell_wr frozen_wr
attribute [local go_sem] wr_set wr_drew wr_drewN wr_alloc wr_new Rho.c Rho.n Rho.g
section
variable (A : Option Addr) (cap : Nat) (L : Option Addr) (lcap : Nat) (b : Bk)
theorem row_at {w : World} {C : Nat} {vs : List Value} (h : Row w C vs) {j : Nat} {u : Value} (hj : vs[j]? = some u) : w.cell? ⟨C, j, none⟩ = some u := (h j u hj).1
set_option maxRecDepth 100000 in
set_option maxHeartbeats 4000000 in
theorem rPeople_full (w : World) (hM : BkAt w A L b) (hs : b.small cap lcap) (hz : ∀ i (h : i < b.ear.alike.length), b.ear.alike[i].size ≤ 9223372036854775807) : Calls Tryz.prog 21 #[.agg (bkV A cap L lcap b).toArray] w fun e w' => e = .returned (.tuple #[.agg #[.int .i64 (pPeopleR b).1, .int .i64 (pPeopleR b).2], .int .i64 (setE b true)]) ∧ Below w.heap.size w w' := by
 have C1 := hid fun W hW => rasked_full A cap L lcap b true W hW hs hz
 have C2 := hid fun ho W hW => rAll_full A cap L lcap b hs hz ho W hW
 clear hz
 obtain ⟨r, hr⟩ : ∃ r, setE b true = r := ⟨_, rfl⟩
 rw [hr] at C1
 have HR := hid hr
 clear hr
 by_cases hr0 : r = 0
 ·subst hr0
  obtain ⟨hbo, _, hts⟩ := setE_ok HR.out
  have h9 := ok_nine hbo
  have C3 := hid (C2.out hbo)
  have hfew := truthsR_few h9
  have HSh := hid (fun t (ht : t ∈ truthsR b) => truthsR_short h9 ht)
  have HQ : Hid (pPeopleR b = (minL b.lines.length (peopleP b.lines.length (truthsR b)), maxL 0 (peopleP b.lines.length (truthsR b)))) := hid (by
   have hne : peopleP b.lines.length (truthsR b) ≠ [] := by
    intro e
    have h1 := congrArg List.length e
    unfold peopleP at h1
    rw [List.length_map, truthsR_len] at h1
    exact hts h1
   have hlo : ∀ y ∈ peopleP b.lines.length (truthsR b), y ≤ b.lines.length ∧ 0 ≤ y := fun y hy => by
    unfold peopleP at hy
    obtain ⟨t, ht, rfl⟩ := List.mem_map.1 hy
    have h1 := (mem_truthsR b t).1 ht
    have h2 := ((mem_ts (sides_bk b) b.lost _).1 h1).1.len
    rcases h2 with h2 | h2
    ·omega
    ·rw [h2]; simp
   unfold pPeopleR headP
   rw [if_pos HR.out, min_from (people_mem b) hne (fun y hy => (hlo y hy).1), max_from (people_mem b) hne (fun y hy => (hlo y hy).2)])
  obtain ⟨l, hl⟩ : ∃ l, truthsR b = l := ⟨_, rfl⟩
  rw [hl] at C3 HQ hfew HSh
  clear hl hts C2
  have HPl : Hid ((peopleP b.lines.length l).length = l.length ∧ ∀ k (h : k < l.length) (h' : k < (peopleP b.lines.length l).length), (peopleP b.lines.length l)[k] = (b.lines.length : Int) - l[k].length) := hid (by
   unfold peopleP
   exact ⟨by simp, fun k h h' => by simp⟩)
  obtain ⟨P, hP⟩ : ∃ P, peopleP b.lines.length l = P := ⟨_, rfl⟩
  rw [hP] at HQ HPl
  clear hP hbo
  simp only [bkV] at C1 C3 ⊢
  refine enterE Tryz.func21 rfl Tryz.ntmps21 (by simp) (fun a hE => ?_); simp only [envOf, Nat.zero_add, Nat.reduceAdd] at hE
  refine Ks ?_
  refine Rs 3 fun Q' K hK => ?_
  refine M1 hE 0 fun K' J ρ q0 => ?_; go_simp
  refine Ln hE J fun _ Eb => ?_; clear J K' hE a q0
  refine M0 fun K' J ρ => ?_; go_simp;
  refine Ln Eb J fun _ Ea => ?_; clear J K' Eb
  refine M0 fun K' J ρ => ?_; go_simp;
  refine Ln Ea J fun _ Eb => ?_; clear J K' Ea
  refine Ld [1, 2] Eb hK fun a hE => ?_; clear hK K Q' Eb
  obtain ⟨B, hB⟩ : ∃ B, B = w.heap.size := ⟨_, rfl⟩
  obtain ⟨R, hR⟩ : ∃ B, B = w.heap.size + 1 := ⟨_, rfl⟩
  rw [← hR, ← hB] at hE
  refine world_cut (fun wt => Below w.heap.size w wt ∧ Cells wt B (bkV A cap L lcap b) ∧ RowD wt R 2) ?_ (fun w1 hC => ?_)
  ·rw [hB, hR]; obtain ⟨q1, q2, q3, q4⟩ := box_row w _ _ _ _; exact ⟨q1, q2, q3, _, rfl, q4⟩
  obtain ⟨hbw1, hCB, hRD⟩ := hC
  have hnR : w.heap.size ≤ R := by omega
  clear hB hR
  simp only [bkV] at hCB
  replace hM := hM.below hbw1
  obtain ⟨nB, cB0, cB1, cB2, cB3, cB4, cB5, cB6⟩ := hCB.c7
  refine Ks ?_
  refine Rs 3 fun Q' K hK => ?_
  refine M1 hE 1 fun K' J ρ q1 => ?_; go_simp
  refine Ln hE J fun _ Eb => ?_; clear J K' hE a q1
  refine M1 Eb 9 fun K' J ρ q9 => ?_; go_simp; (try go_bits); (try clear q9)
  go_at_call 52; refine (C1.out _ hM).mono ?_; rintro e w2 ⟨rfl, h2⟩; have hbw2 := hbw1.trans (h2.mono hbw1.size); replace hCB := hCB.below h2; clear nB cB0 cB1 cB2 cB3 cB4 cB5 cB6; obtain ⟨nB, cB0, cB1, cB2, cB3, cB4, cB5, cB6⟩ := hCB.c7; replace hM := hM.below h2; replace hRD := hRD.below h2
  (try clear r9)
  refine Ln Eb J fun _ Ea => ?_; clear J K' Eb
  refine M1 Ea 10 fun K' J ρ q10 => ?_; go_simp
  refine Ln Ea J fun _ Eb => ?_; clear J K' Ea q10
  refine Ld [1, 2, 4] Eb hK fun a hE => ?_; clear hK K Q' Eb
  refine Ks ?_
  refine Rs 2 fun Q' K hK => ?_
  refine M1 hE 4 fun K' J ρ q4 => ?_; go_simp
  refine Ln hE J fun _ Eb => ?_; clear J K' hE a q4
  refine M1 Eb 11 fun K' J ρ q11 => ?_; go_simp; (try go_bits)
  refine Ln Eb J fun _ Ea => ?_; clear J K' Eb q11
  replace Ea := Ea.turn 12 (v' := .bool false) rfl (by (first | rfl | simp))
  refine Ld [1, 2, 4, 12] Ea hK fun a hE => ?_; clear hK K Q' Ea
  refine Ks ?_
  refine cond_no hE (t := 12) rfl ?_
  refine Ks ?_
  refine Rs 3 fun Q' K hK => ?_
  refine M1 hE 1 fun K' J ρ q1 => ?_; go_simp
  refine Ln hE J fun _ Eb => ?_; clear J K' hE a q1
  refine M1 Eb 15 fun K' J ρ q15 => ?_; go_simp; (try go_bits); (try clear q15)
  go_at_call 42; refine (C3.out _ hM).mono ?_; rintro e w3 ⟨⟨O, oc, rfl, hT⟩, h3⟩; have hbw3 := hbw2.trans (h3.mono hbw2.size); replace hCB := hCB.below h3; clear nB cB0 cB1 cB2 cB3 cB4 cB5 cB6; obtain ⟨nB, cB0, cB1, cB2, cB3, cB4, cB5, cB6⟩ := hCB.c7; replace hM := hM.below h3; replace hRD := hRD.below h3
  (try clear r15)
  refine Ln Eb J fun _ Ea => ?_; clear J K' Eb
  refine M1 Ea 16 fun K' J ρ q16 => ?_; go_simp
  refine Ln Ea J fun _ Eb => ?_; clear J K' Ea q16
  refine Ld [1, 2, 5] Eb hK fun a hE => ?_; clear hK K Q' Eb
  refine Ks ?_
  refine Rs 6 fun Q' K hK => ?_
  refine M1 hE 1 fun K' J ρ q1 => ?_; go_simp
  refine Ln hE J fun _ Eb => ?_; clear J K' hE a q1
  refine M1 Eb 17 fun K' J ρ q17 => ?_; go_simp
  refine Ln Eb J fun _ Ea => ?_; clear J K' Eb q17
  refine M1 Ea 18 fun K' J ρ q18 => ?_; go_simp; (try go_bits)
  refine Ln Ea J fun _ Eb => ?_; clear J K' Ea q18
  refine M1 Eb 19 fun K' J ρ q19 => ?_; go_simp; (try go_bits); (try clear q19)
  go_at_call 49; refine (to_any _ _ _).mono ?_; rintro e w4 ⟨rfl, h4⟩; have hbw4 := hbw3.trans (h4.mono hbw3.size); replace hCB := hCB.below h4; clear nB cB0 cB1 cB2 cB3 cB4 cB5 cB6; obtain ⟨nB, cB0, cB1, cB2, cB3, cB4, cB5, cB6⟩ := hCB.c7; replace hM := hM.below h4; replace hRD := hRD.below h4; replace hT := hT.below h4
  (try clear r19)
  refine Ln Eb J fun _ Ea => ?_; clear J K' Eb
  refine M0 fun K' J ρ => ?_; go_simp;
  refine Ln Ea J fun _ Eb => ?_; clear J K' Ea
  refine Lp fun K' J => ?_
  have r6 := Eb.at 6 rfl; have r20 := Eb.at 20 rfl
  refine wp_store_mid 27 (.tmp 6) (.tmp 20) rfl w4.heap.size 0 #[.int .i64 b.lines.length, .int .i64 0] (eval_of r6) (eval_of r20) (there_row (row_new w4 _ _) (Nat.le_of_eq rfl)) (by kernel_rfl) (by kernel_rfl) ?_
  (try clear r6 r20)
  refine late_skip Eb J (fun _ Ea => ?_); clear J K'; clear Eb
  refine Ld [1, 2, 5, 6] Ea hK fun a hE => ?_; clear hK K Q' Ea
  obtain ⟨C, hC⟩ : ∃ B, B = w4.heap.size := ⟨_, rfl⟩
  rw [← hC] at hE
  refine world_cut (fun wt => Below w4.heap.size w4 wt ∧ C < wt.heap.size ∧ Row wt C [.int .i64 b.lines.length, .int .i64 0]) (by rw [hC]; have q := boxed_new w4 #[.int .i64 0, .int .i64 0] 27 [.int .i64 b.lines.length, .int .i64 0] rfl; exact ⟨q.1, q.2.1, row_all (row_new w4 _ _) rfl⟩) (fun w5 hCut => ?_)
  obtain ⟨h5, hlC, hRC⟩ := hCut
  have hnC : w4.heap.size ≤ C := Nat.le_of_eq hC.symm
  clear hC
  have hT4 := hT
  have hRD4 := hRD
  have hCB4 := hCB
  have hbw5 := hbw4.trans (h5.mono hbw4.size)
  replace hCB := hCB.below h5
  clear nB cB0 cB1 cB2 cB3 cB4 cB5 cB6
  obtain ⟨nB, cB0, cB1, cB2, cB3, cB4, cB5, cB6⟩ := hCB.c7
  replace hM := hM.below h5
  replace hRD := hRD.below h5
  replace hT := hT.below h5
  refine Ks ?_
  refine Rs 1 fun Q' K hK => ?_
  refine M0 fun K' J ρ => ?_; go_simp;
  refine Ln hE J fun _ Eb => ?_; clear J K' hE a
  refine Ld [1, 2, 5, 6, 7] Eb hK fun a hE => ?_; clear hK K Q' Eb
  refine Ks ?_
  clear nB cB0 cB1 cB2 cB3 cB4 cB5 cB6 hCB
  refine loop_st (fun (k : Nat) a w' => k ≤ l.length ∧ Fits 46 [(1, .pointer (some ⟨B, 0, none⟩)), (2, .pointer (some ⟨R, 0, none⟩)), (5, .slice O l.length oc), (6, .pointer (some ⟨C, 0, none⟩)), (7, .int .i64 k)] a ∧ Below w4.heap.size w4 w' ∧ C < w'.heap.size ∧ Row w' C [.int .i64 (minL b.lines.length (P.take k)), .int .i64 (maxL 0 (P.take k))]) (fun k => l.length - k) 0 ⟨Nat.zero_le _, by simpa using hE, h5, hlC, by simpa [minL, maxL] using hRC⟩ (fun k a wr hI => ?_)
  clear hE hRC hlC
  obtain ⟨hk, hE, hW, hlC, hRC⟩ := hI
  have hbr := hbw4.trans (hW.mono hbw4.size)
  have hTr : TruAt wr wr.heap.size O l := hT4.below hW
  have hCB := hCB4.below hW
  have hRDr := hRD4.below hW
  obtain ⟨nB, cB0, cB1, cB2, cB3, cB4, cB5, cB6⟩ := hCB.c7
  by_cases hlt : k < l.length
  ·have hltI : (k : Int) < l.length := by omega
   obtain ⟨b0, o0, T, c, rfl, hb0, c0, _⟩ := hTr.get hlt
   have hs9 := HSh.out l[k] (List.getElem_mem hlt)
   have hPk : k < P.length := by rw [HPl.out.1]; exact hlt
   have HMin := hid (minL_snoc b.lines.length P k hPk)
   have HMax := hid (maxL_snoc 0 P k hPk)
   have HPk := hid (HPl.out.2 k hlt hPk)
   obtain ⟨m, hm⟩ : ∃ m, l[k].length = m := ⟨_, rfl⟩
   rw [hm] at c0 hs9 HPk
   clear hm
   obtain ⟨lo, hlo⟩ : ∃ x, minL b.lines.length (P.take k) = x := ⟨_, rfl⟩
   obtain ⟨hi, hhi⟩ : ∃ x, maxL 0 (P.take k) = x := ⟨_, rfl⟩
   rw [hlo] at hRC HMin
   rw [hhi] at hRC HMax
   clear hlo hhi
   refine Ks ?_
   refine Rs 4 fun Q' K hK => ?_
   refine M1 hE 7 fun K' J ρ q7 => ?_; go_simp
   refine Ln hE J fun _ Eb => ?_; clear J K' hE a q7
   refine M1 Eb 5 fun K' J ρ q5 => ?_; go_simp
   refine Ln Eb J fun _ Ea => ?_; clear J K' Eb q5
   refine M1 Ea 22 fun K' J ρ q22 => ?_; go_simp; (try go_bits)
   refine Ln Ea J fun _ Eb => ?_; clear J K' Ea q22
   refine M2 Eb 21 23 fun K' J ρ q21 q23 => ?_; go_simp; (try go_bits)
   refine Ln Eb J fun _ Ea => ?_; clear J K' Eb q21 q23
   replace Ea := Ea.turn 24 (v' := .bool true) rfl (by (first | (simp; done) | (simp; omega)))
   refine Ld [1, 2, 5, 6, 7, 24] Ea hK fun a hE => ?_; clear hK K Q' Ea
   refine Ks ?_
   refine cond_yes hE (t := 24) rfl ?_
   refine Ks ?_
   refine Rd [9] (fun wt => Below wr.heap.size wr wt) (fun w1 w2 => Below w1.heap.size w1 w2) [(0, some 27), (1, some 28), (2, some 29), (3, some 30), (4, some 31), (5, some 32), (6, some 33), (7, some 34), (8, some 35)] [27, 28, 29, 30, 31, 32, 33, 34, 35] #[true, true, true, true, true, true, true, true, true, false] [1, 2, 5, 6, 7, 8] hE ((Below.refl _ _).drew) fun Q' K hK => ?_
   refine SeqOps.val ?_ (Sp fun ax wx hS hT' hd K' J => ?_) ?_; rotate_left 1
   ·have r1 := hS.at 1 (by decide) (hE.at 1 rfl); obtain ⟨_, _, _, _, _, _⟩ := bT hT'
    refine o1 r1 fun ρ q1 => ?_; go_simp;
    exact Jo J hT'
   refine SeqOps.val ?_ (Sp fun ax wx hS hT' hd K' J => ?_) ?_; rotate_left 1
   ·have r27 := Tv hd 0 0 27; obtain ⟨_, _, _, _, _, _⟩ := bT hT'
    refine o1 r27 fun ρ q27 => ?_; go_simp;
    exact Jo J hT'
   refine SeqOps.val ?_ (Sp fun ax wx hS hT' hd K' J => ?_) ?_; rotate_left 1
   ·have r28 := Tv hd 0 1 28; obtain ⟨_, _, _, _, _, _⟩ := bT hT'
    refine o1 r28 fun ρ q28 => ?_; go_simp; (try go_bits);
    exact Jo J hT'
   refine SeqOps.val ?_ (Sp fun ax wx hS hT' hd K' J => ?_) ?_; rotate_left 1
   ·have r5 := hS.at 5 (by decide) (hE.at 5 rfl); obtain ⟨_, _, _, _, _, _⟩ := bT hT'
    refine o1 r5 fun ρ q5 => ?_; go_simp;
    exact Jo J hT'
   refine SeqOps.val ?_ (Sp fun ax wx hS hT' hd K' J => ?_) ?_; rotate_left 1
   ·have r7 := hS.at 7 (by decide) (hE.at 7 rfl); obtain ⟨_, _, _, _, _, _⟩ := bT hT'
    refine o1 r7 fun ρ q7 => ?_; go_simp;
    exact Jo J hT'
   refine SeqOps.val ?_ (Sp fun ax wx hS hT' hd K' J => ?_) ?_; rotate_left 1
   ·have r30 := Tv hd 1 3 30; have r31 := Tv hd 0 4 31; obtain ⟨_, _, _, _, _, _⟩ := bT hT'
    refine o2 r30 r31 fun ρ q30 q31 => ?_; go_simp; (try go_bits);
    exact Jo J hT'
   refine SeqOps.val ?_ (Sp fun ax wx hS hT' hd K' J => ?_) ?_; rotate_left 1
   ·have r32 := Tv hd 0 5 32; obtain ⟨_, _, _, _, _, _⟩ := bT hT'
    refine o1 r32 fun ρ q32 => ?_; go_simp;
    exact Jo J hT'
   refine SeqOps.val ?_ (Sp fun ax wx hS hT' hd K' J => ?_) ?_; rotate_left 1
   ·have r33 := Tv hd 0 6 33; obtain ⟨_, _, _, _, _, _⟩ := bT hT'
    refine o1 r33 fun ρ q33 => ?_; go_simp; (try go_bits);
    exact Jo J hT'
   refine SeqOps.val ?_ (Sp fun ax wx hS hT' hd K' J => ?_) ?_; rotate_left 1
   ·have r29 := Tv hd 5 2 29; have r34 := Tv hd 0 7 34; obtain ⟨_, _, _, _, _, _⟩ := bT hT'
    refine o2 r29 r34 fun ρ q29 q34 => ?_; go_simp; (try go_bits); (try simp (disch := omega) only [IntWalk.i64_in]);
    exact Jo J hT'
   refine SeqOps.nil ?_
   intro w6 hBm; (repeat refine Ek ?_)
   refine fun amx hEmx => ?_
   simp only [lk, pick, Nat.reduceEqDiff, ↓reduceIte] at hEmx
   refine M1 hEmx 35 fun K' J ρ q35 => ?_; go_simp; (try clear q35)
   refine Ln hEmx J fun am_1 hEm_1 => ?_; clear J K' hEmx
   refine Ld [1, 2, 5, 6, 7, 8] hEm_1 hK fun a hE => ?_; clear hK K Q' hEm_1
   have hbw6 := hbr.trans (hBm.mono hbr.size)
   replace hCB := hCB.below hBm
   clear nB cB0 cB1 cB2 cB3 cB4 cB5 cB6
   obtain ⟨nB, cB0, cB1, cB2, cB3, cB4, cB5, cB6⟩ := hCB.c7
   replace hRDr := hRDr.below hBm
   have hRC6 := hRC.below hBm hlC
   have hlC6 := Nat.lt_of_lt_of_le hlC hBm.size
   have hW6 := hW.trans (hBm.mono hW.size)
   have e0 : w6.cell? ⟨C, 0, none⟩ = some (.int .i64 lo) := row_at hRC6 rfl
   have e1 : w6.cell? ⟨C, 1, none⟩ = some (.int .i64 hi) := row_at hRC6 rfl
   refine Ks ?_
   refine Rs 10 fun Q' K hK => ?_
   refine M1 hE 6 fun K' J ρ q6 => ?_; go_simp
   refine Ln hE J fun _ Eb => ?_; clear J K' hE a q6
   refine M1 Eb 36 fun K' J ρ q36 => ?_; go_simp
   refine Ln Eb J fun _ Ea => ?_; clear J K' Eb q36
   refine M1 Ea 8 fun K' J ρ q8 => ?_; go_simp
   refine Ln Ea J fun _ Eb => ?_; clear J K' Ea q8
   refine M2 Eb 37 38 fun K' J ρ q37 q38 => ?_; go_simp; (try go_bits)
   refine Ln Eb J fun _ Ea => ?_; clear J K' Eb q37 q38
   refine M1 Ea 6 fun K' J ρ q6 => ?_; go_simp
   refine Ln Ea J fun _ Eb => ?_; clear J K' Ea q6
   refine M1 Eb 40 fun K' J ρ q40 => ?_; go_simp
   refine Ln Eb J fun _ Ea => ?_; clear J K' Eb q40
   refine M1 Ea 8 fun K' J ρ q8 => ?_; go_simp
   refine Ln Ea J fun _ Eb => ?_; clear J K' Ea q8
   refine M2 Eb 41 42 fun K' J ρ q41 q42 => ?_; go_simp; (try go_bits)
   refine Ln Eb J fun _ Ea => ?_; clear J K' Eb q41 q42
   refine M2 Ea 39 43 fun K' J ρ q39 q43 => ?_; go_simp; (try go_bits); (try clear q39 q43)
   go_at_call 49; refine (to_any _ _ _).mono ?_; rintro e w7 ⟨rfl, h7⟩
   have hRC7 := hRC6.below h7 hlC6
   have hlC7 := Nat.lt_of_lt_of_le hlC6 h7.size
   have hW7 := hW6.trans (h7.mono hW6.size)
   (try clear r39 r43)
   refine Ln Ea J fun _ Eb => ?_; clear J K' Ea
   refine Lp fun K' J => ?_
   have r6 := Eb.at 6 rfl; have r44 := Eb.at 44 rfl
   refine wp_store_mid 27 (.tmp 6) (.tmp 44) rfl C 0 #[.int .i64 (min lo ((b.lines.length : Int) - m)), .int .i64 (max hi ((b.lines.length : Int) - m))] (eval_of r6) (eval_of r44) (there_row hRC7 (Nat.le_refl _)) (by kernel_rfl) (by kernel_rfl) ?_
   (try clear r6 r44)
   refine late_skip Eb J (fun _ Ea => ?_); clear J K'; clear Eb
   refine Ld [1, 2, 5, 6, 7] Ea hK fun a hE => ?_; clear hK K Q' Ea
   refine world_cut (fun wt => Below w4.heap.size w4 wt ∧ C < wt.heap.size ∧ Row wt C [.int .i64 (min lo ((b.lines.length : Int) - m)), .int .i64 (max hi ((b.lines.length : Int) - m))]) ⟨Lib.below_setCells C hnC _ _ hW7, by rw [size_setCellsN]; exact hlC7, row_all hRC7 rfl⟩ (fun w8 hCut => ?_)
   obtain ⟨hW8, hlC8, hRC8⟩ := hCut
   refine Ks ?_
   refine Rs 3 fun Q' K hK => ?_
   refine M1 hE 7 fun K' J ρ q7 => ?_; go_simp
   refine Ln hE J fun _ Eb => ?_; clear J K' hE a q7
   refine M1 Eb 25 fun K' J ρ q25 => ?_; go_simp; (try go_bits); (try simp (disch := omega) only [IntWalk.i64_in])
   refine Ln Eb J fun _ Ea => ?_; clear J K' Eb q25
   refine M1 Ea 26 fun K' J ρ q26 => ?_; go_simp
   refine Ln Ea J fun _ Eb => ?_; clear J K' Ea q26
   refine Ld [1, 2, 5, 6, 7] Eb hK fun a hE => ?_; clear hK K Q' Eb
   refine Ks ?_
   exact ⟨k + 1, ⟨hlt, by simpa using hE, hW8, hlC8, by rw [HMin.out, HMax.out, HPk.out]; exact hRC8⟩, by omega⟩
  ·have hke : k = l.length := by omega
   subst hke
   rw [← HPl.out.1, List.take_length] at hRC
   have HQ1 : Hid ((pPeopleR b).1 = minL b.lines.length P) := hid (by rw [HQ.out])
   have HQ2 : Hid ((pPeopleR b).2 = maxL 0 P) := hid (by rw [HQ.out])
   obtain ⟨lo, hlo⟩ : ∃ x, minL b.lines.length P = x := ⟨_, rfl⟩
   obtain ⟨hi, hhi⟩ : ∃ x, maxL 0 P = x := ⟨_, rfl⟩
   rw [hlo] at hRC HQ1
   rw [hhi] at hRC HQ2
   clear hlo hhi
   have e0 : wr.cell? ⟨C, 0, none⟩ = some (.int .i64 lo) := row_at hRC rfl
   have e1 : wr.cell? ⟨C, 1, none⟩ = some (.int .i64 hi) := row_at hRC rfl
   obtain ⟨hlR, zs, hzs, hRR⟩ := hRDr
   refine Ks ?_
   refine Rs 4 fun Q' K hK => ?_
   refine M1 hE 7 fun K' J ρ q7 => ?_; go_simp
   refine Ln hE J fun _ Eb => ?_; clear J K' hE a q7
   refine M1 Eb 5 fun K' J ρ q5 => ?_; go_simp
   refine Ln Eb J fun _ Ea => ?_; clear J K' Eb q5
   refine M1 Ea 22 fun K' J ρ q22 => ?_; go_simp; (try go_bits)
   refine Ln Ea J fun _ Eb => ?_; clear J K' Ea q22
   refine M2 Eb 21 23 fun K' J ρ q21 q23 => ?_; go_simp; (try go_bits)
   refine Ln Eb J fun _ Ea => ?_; clear J K' Eb q21 q23
   replace Ea := Ea.turn 24 (v' := .bool false) rfl (by simp)
   refine Ld [1, 2, 5, 6, 7, 24] Ea hK fun a hE => ?_; clear hK K Q' Ea
   refine Ks ?_
   refine cond_no hE (t := 24) rfl ?_
   refine Ks ?_
   refine Rs 3 fun Q' K hK => ?_
   refine M1 hE 6 fun K' J ρ q6 => ?_; go_simp
   refine Ln hE J fun _ Eb => ?_; clear J K' hE a q6
   refine Lp fun K' J => ?_
   have r2 := Eb.at 2 rfl; have r45 := Eb.at 45 rfl
   refine wp_store_mid 27 (.tmp 2) (.tmp 45) rfl R 0 #[.int .i64 lo, .int .i64 hi] (eval_of r2) (eval_of r45) (there_row hRR (by rw [hzs]; exact Nat.le_refl _)) (by kernel_rfl) (by kernel_rfl) ?_
   (try clear r2 r45)
   refine late_skip Eb J (fun _ Ea => ?_); clear J K'; clear Eb
   refine M0 fun K' J ρ => ?_; go_simp;
   refine Ln Ea J fun _ Eb => ?_; clear J K' Ea
   refine Ld [2, 3] Eb hK fun a hE => ?_; clear hK K Q' Eb
   refine world_cut (fun wt => Cells wt R [.int .i64 lo, .int .i64 hi] ∧ Below w.heap.size w wt) ⟨(cells_stored hRR (vs := [.int .i64 lo, .int .i64 hi]) (by rw [hzs]; rfl) hlR hnR hbr).1, (cells_stored hRR (vs := [.int .i64 lo, .int .i64 hi]) (by rw [hzs]; rfl) hlR hnR hbr).2.1⟩ (fun w9 hCut => ?_)
   obtain ⟨hC9, hb9⟩ := hCut
   refine Ks ?_
   exact ret_cell_two hE rfl rfl rfl hC9.2 Tryz.underlying27 rfl (by kernel_rfl) ⟨by rw [HQ1.out, HQ2.out, HR.out], hb9⟩
 ·have hq : pPeopleR b = (0, 0) := by unfold pPeopleR; rw [HR.out, if_neg hr0]
  rw [hq, HR.out]
  have HR0 := hid hr0
  clear hq hr0
  simp only [bkV] at C1 ⊢
  refine enterE Tryz.func21 rfl Tryz.ntmps21 (by simp) (fun a hE => ?_); simp only [envOf, Nat.zero_add, Nat.reduceAdd] at hE
  refine Ks ?_
  refine Rs 3 fun Q' K hK => ?_
  refine M1 hE 0 fun K' J ρ q0 => ?_; go_simp
  refine Ln hE J fun _ Eb => ?_; clear J K' hE a q0
  refine M0 fun K' J ρ => ?_; go_simp;
  refine Ln Eb J fun _ Ea => ?_; clear J K' Eb
  refine M0 fun K' J ρ => ?_; go_simp;
  refine Ln Ea J fun _ Eb => ?_; clear J K' Ea
  refine Ld [1, 2] Eb hK fun a hE => ?_; clear hK K Q' Eb
  obtain ⟨B, hB⟩ : ∃ B, B = w.heap.size := ⟨_, rfl⟩
  obtain ⟨R, hR⟩ : ∃ B, B = w.heap.size + 1 := ⟨_, rfl⟩
  rw [← hR, ← hB] at hE
  refine world_cut (fun wt => Below w.heap.size w wt ∧ Cells wt B (bkV A cap L lcap b) ∧ RowD wt R 2) ?_ (fun w1 hC => ?_)
  ·rw [hB, hR]; obtain ⟨q1, q2, q3, q4⟩ := box_row w _ _ _ _; exact ⟨q1, q2, q3, _, rfl, q4⟩
  obtain ⟨hbw1, hCB, hRD⟩ := hC
  have hnR : w.heap.size ≤ R := by omega
  clear hB hR
  simp only [bkV] at hCB
  replace hM := hM.below hbw1
  obtain ⟨nB, cB0, cB1, cB2, cB3, cB4, cB5, cB6⟩ := hCB.c7
  refine Ks ?_
  refine Rs 3 fun Q' K hK => ?_
  refine M1 hE 1 fun K' J ρ q1 => ?_; go_simp
  refine Ln hE J fun _ Eb => ?_; clear J K' hE a q1
  refine M1 Eb 9 fun K' J ρ q9 => ?_; go_simp; (try go_bits); (try clear q9)
  go_at_call 52; refine (C1.out _ hM).mono ?_; rintro e w2 ⟨rfl, h2⟩; have hbw2 := hbw1.trans (h2.mono hbw1.size); replace hCB := hCB.below h2; clear nB cB0 cB1 cB2 cB3 cB4 cB5 cB6; obtain ⟨nB, cB0, cB1, cB2, cB3, cB4, cB5, cB6⟩ := hCB.c7; replace hM := hM.below h2; replace hRD := hRD.below h2
  (try clear r9)
  refine Ln Eb J fun _ Ea => ?_; clear J K' Eb
  refine M1 Ea 10 fun K' J ρ q10 => ?_; go_simp
  refine Ln Ea J fun _ Eb => ?_; clear J K' Ea q10
  refine Ld [1, 2, 4] Eb hK fun a hE => ?_; clear hK K Q' Eb
  refine Ks ?_
  refine Rs 2 fun Q' K hK => ?_
  refine M1 hE 4 fun K' J ρ q4 => ?_; go_simp
  refine Ln hE J fun _ Eb => ?_; clear J K' hE a q4
  refine M1 Eb 11 fun K' J ρ q11 => ?_; go_simp; (try go_bits)
  refine Ln Eb J fun _ Ea => ?_; clear J K' Eb q11
  replace Ea := Ea.turn 12 (v' := .bool true) rfl (by (simp [HR0.out]))
  refine Ld [1, 2, 4, 12] Ea hK fun a hE => ?_; clear hK K Q' Ea
  obtain ⟨hlR, zs, hzs, hRR⟩ := hRD
  refine Ks ?_
  refine cond_yes hE (t := 12) rfl ?_
  refine Ks ?_
  refine Rs 4 fun Q' K hK => ?_
  refine M0 fun K' J ρ => ?_; go_simp;
  refine Ln hE J fun _ Eb => ?_; clear J K' hE a
  refine M1 Eb 4 fun K' J ρ q4 => ?_; go_simp
  refine Ln Eb J fun _ Ea => ?_; clear J K' Eb q4
  refine Lp fun K' J => ?_
  have r2 := Ea.at 2 rfl; have r13 := Ea.at 13 rfl
  refine wp_store_mid 27 (.tmp 2) (.tmp 13) rfl R 0 #[.int .i64 0, .int .i64 0] (eval_of r2) (eval_of r13) (there_row hRR (by rw [hzs]; exact Nat.le_refl _)) (by kernel_rfl) (by kernel_rfl) ?_
  (try clear r2 r13)
  refine late_skip Ea J (fun _ Eb => ?_); clear J K'; clear Ea
  refine M1 Eb 14 fun K' J ρ q14 => ?_; go_simp
  refine Ln Eb J fun _ Ea => ?_; clear J K' Eb q14
  refine Ld [2, 3] Ea hK fun a hE => ?_; clear hK K Q' Ea
  refine world_cut (fun wt => Cells wt R [.int .i64 0, .int .i64 0] ∧ Below w.heap.size w wt) ⟨(cells_stored hRR (vs := [.int .i64 0, .int .i64 0]) (by rw [hzs]; rfl) hlR hnR hbw2).1, (cells_stored hRR (vs := [.int .i64 0, .int .i64 0]) (by rw [hzs]; rfl) hlR hnR hbw2).2.1⟩ (fun w9 hCut => ?_)
  obtain ⟨hC9, hb9⟩ := hCut
  refine Ks ?_
  exact ret_cell_two hE rfl rfl rfl hC9.2 Tryz.underlying27 rfl (by kernel_rfl) ⟨rfl, hb9⟩
end
end Go.Proofs.YtbimkcjdodgojaaGreat
