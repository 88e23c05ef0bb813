/- Name: the reference's Joined. -/
import Derived.Test.YtbimkcjdodgojaaGreatKANdn

namespace Go.Proofs.YtbimkcjdodgojaaGreat
set_option linter.unusedSimpArgs false
set_option linter.unusedVariables false
open Go Go.RowKit
attribute [local go_sem high] cell_set_wr
attribute [local go_sem low] cell_wr frozen_wr
attribute [local go_sem] wr_set wr_drew wr_drewN wr_alloc wr_new Rho.c Rho.n Rho.g
section
variable (A : Option Addr) (cap : Nat) (L : Option Addr) (lcap : Nat) (b : Bk)
def twoR (b : Bk) (p : Nat × Nat) : Bool := kindP (cntP b.lines.length b.ts p.1 p.2) b.ts.length == 2
set_option maxRecDepth 100000 in
set_option maxHeartbeats 4000000 in
theorem rJoined_full (w : World) (hM : BkAt w A L b) (hs : b.small cap lcap) (hz : ∀ i (h : i < b.ear.alike.length), b.ear.alike[i].size ≤ 9223372036854775807) : Calls Tryz.prog 18 #[.agg (bkV A cap L lcap b).toArray] w fun e w' => (∃ T c, e = .returned (.tuple #[.slice T (pJoinedL b).length c, .int .i64 (setE b true)]) ∧ Arr w' w'.heap.size T (pairsV (pJoinedL b))) ∧ Below w.heap.size w w' := by
 have C1 := hid fun W hW => rasked_full A cap L lcap b true W hW hs hz
 have C2 := hid fun ho W hW => rAll_full A cap L lcap b hs hz ho W hW
 clear hz
 obtain ⟨r, hr⟩ : ∃ r, setE b true = r := ⟨_, rfl⟩
 rw [hr] at C1
 have HR := hid hr
 clear hr
 by_cases hr0 : r = 0
 ·subst hr0
  obtain ⟨hbo, _, hts⟩ := setE_ok HR.out
  have h9 := ok_nine hbo
  have C3 := hid (C2.out hbo)
  have hfew := truthsR_few h9
  have hlen := truthsR_len b
  have hpos : 0 < (truthsR b).length := by omega
  have hmem : (truthsR b)[0] ∈ b.ts := (mem_truthsR b _).1 (List.getElem_mem hpos)
  have hsh0 := truthsR_short h9 (List.getElem_mem hpos)
  have HJ : Hid ((truthsR b)[0].filter (twoR b) = pJoinedL b) := hid (by
   have h := joined_eq h9 hmem
   unfold pJoinedL
   rw [if_pos HR.out, ← h]
   rfl)
  have HK : Hid (∀ p ∈ (truthsR b)[0], ∀ (O : Option Addr) (oc : Nat) (W : World), TruAt W W.heap.size O (truthsR b) → Calls Tryz.prog 53 #[.slice O (truthsR b).length oc, .int .i64 (p.1 : Nat), .int .i64 (p.2 : Nat)] W fun e w' => e = .returned (.int .i64 (kindP (cntP b.lines.length b.ts p.1 p.2) b.ts.length)) ∧ Below W.heap.size W w') := hid fun p hp O oc W hW => by
   have h := rkind_any O oc (truthsR b) p.1 p.2 W hW hfew (fun t ht => truthsR_short h9 ht)
   have hin : p.1 < b.lines.length := (sides_bk b p.1 p.2 (((mem_ts (sides_bk b) b.lost _).1 hmem).1.firsts p hp).2.2.1).1
   have e : kindR (cntR (truthsR b) p.1 p.2) (truthsR b).length = kindP (cntP b.lines.length b.ts p.1 p.2) b.ts.length := by
    rw [hlen, kindR_eq (by omega), ← cnt_perm b hin]
    rfl
   rw [e] at h
   exact h
  obtain ⟨t, ht0⟩ : ∃ t, (truthsR b)[0] = t := ⟨_, rfl⟩
  rw [ht0] at HJ HK hsh0
  obtain ⟨l, hl⟩ : ∃ l, truthsR b = l := ⟨_, rfl⟩
  have ht : ∀ h : 0 < l.length, l[0]'h = t := by
   subst hl
   exact fun _ => ht0
  clear ht0
  rw [hl] at C3 hpos hfew
  simp only [hl] at HK
  clear hl hlen hts hbo hmem C2 h9 hfew
  have HT0 := hid ht
  clear ht
  simp only [bkV] at C1 C3 ⊢
  refine enterE Tryz.func18 rfl Tryz.ntmps18 (by simp) (fun a hE => ?_); simp only [envOf, Nat.zero_add, Nat.reduceAdd] at hE
  refine Ks ?_
  refine Rs 3 fun Q' K hK => ?_
  refine M1 hE 0 fun K' J ρ q0 => ?_; go_simp
  refine Ln hE J fun _ Eb => ?_; clear J K' hE a q0
  refine M0 fun K' J ρ => ?_; go_simp;
  refine Ln Eb J fun _ Ea => ?_; clear J K' Eb
  refine M0 fun K' J ρ => ?_; go_simp;
  refine Ln Ea J fun _ Eb => ?_; clear J K' Ea
  refine Ld [1] Eb hK fun a hE => ?_; clear hK K Q' Eb
  obtain ⟨B, hBe⟩ : ∃ B, B = w.heap.size := ⟨_, rfl⟩; rw [← hBe] at hE; refine world_cut (fun wt => Below w.heap.size w wt ∧ Cells wt B (bkV A cap L lcap b)) ⟨(Below.refl _ _).alloc (Nat.le_refl _) _, by rw [hBe]; exact cells_new _ _ _⟩ (fun w1 hCut => ?_); obtain ⟨hbw1, hCB⟩ := hCut; clear hBe
  simp only [bkV] at hCB
  replace hM := hM.below hbw1
  obtain ⟨nB, cB0, cB1, cB2, cB3, cB4, cB5, cB6⟩ := hCB.c7
  refine Ks ?_
  refine Rs 3 fun Q' K hK => ?_
  refine M1 hE 1 fun K' J ρ q1 => ?_; go_simp
  refine Ln hE J fun _ Eb => ?_; clear J K' hE a q1
  refine M1 Eb 8 fun K' J ρ q8 => ?_; go_simp; (try go_bits); (try clear q8)
  go_at_call 52; refine (C1.out _ hM).mono ?_; rintro e w2 ⟨rfl, h2⟩; have hbw2 := hbw1.trans (h2.mono hbw1.size); replace hCB := hCB.below h2; clear nB cB0 cB1 cB2 cB3 cB4 cB5 cB6; obtain ⟨nB, cB0, cB1, cB2, cB3, cB4, cB5, cB6⟩ := hCB.c7; replace hM := hM.below h2
  (try clear r8)
  refine Ln Eb J fun _ Ea => ?_; clear J K' Eb
  refine M1 Ea 9 fun K' J ρ q9 => ?_; go_simp
  refine Ln Ea J fun _ Eb => ?_; clear J K' Ea q9
  refine Ld [1, 4] Eb hK fun a hE => ?_; clear hK K Q' Eb
  refine Ks ?_
  refine Rs 2 fun Q' K hK => ?_
  refine M1 hE 4 fun K' J ρ q4 => ?_; go_simp
  refine Ln hE J fun _ Eb => ?_; clear J K' hE a q4
  refine M1 Eb 10 fun K' J ρ q10 => ?_; go_simp; (try go_bits)
  refine Ln Eb J fun _ Ea => ?_; clear J K' Eb q10
  replace Ea := Ea.turn 11 (v' := .bool false) rfl (by (first | rfl | simp))
  refine Ld [1, 4, 11] Ea hK fun a hE => ?_; clear hK K Q' Ea
  refine Ks ?_
  refine cond_no hE (t := 11) rfl ?_
  refine Ks ?_
  refine Rs 3 fun Q' K hK => ?_
  refine M1 hE 1 fun K' J ρ q1 => ?_; go_simp
  refine Ln hE J fun _ Eb => ?_; clear J K' hE a q1
  refine M1 Eb 13 fun K' J ρ q13 => ?_; go_simp; (try go_bits); (try clear q13)
  go_at_call 42; refine (C3.out _ hM).mono ?_; rintro e w3 ⟨⟨O, oc, rfl, hT⟩, h3⟩; have hbw3 := hbw2.trans (h3.mono hbw2.size); replace hCB := hCB.below h3; clear nB cB0 cB1 cB2 cB3 cB4 cB5 cB6; obtain ⟨nB, cB0, cB1, cB2, cB3, cB4, cB5, cB6⟩ := hCB.c7; replace hM := hM.below h3
  (try clear r13)
  refine Ln Eb J fun _ Ea => ?_; clear J K' Eb
  refine M1 Ea 14 fun K' J ρ q14 => ?_; go_simp
  refine Ln Ea J fun _ Eb => ?_; clear J K' Ea q14
  refine Ld [5] Eb hK fun a hE => ?_; clear hK K Q' Eb
  refine Ks ?_
  refine Rs 1 fun Q' K hK => ?_
  refine M0 fun K' J ρ => ?_; go_simp;
  refine Ln hE J fun _ Eb => ?_; clear J K' hE a
  refine Ld [5, 6] Eb hK fun a hE => ?_; clear hK K Q' Eb
  refine Ks ?_
  refine Rs 1 fun Q' K hK => ?_
  refine M0 fun K' J ρ => ?_; go_simp;
  refine Ln hE J fun _ Eb => ?_; clear J K' hE a
  refine Ld [5, 6, 7] Eb hK fun a hE => ?_; clear hK K Q' Eb
  refine Ks ?_
  have hT0 : ∃ b0 o0 T c, O = some ⟨b0, o0, none⟩ ∧ b0 < w3.heap.size ∧ w3.cell? ⟨b0, o0, none⟩ = some (.slice T t.length c) ∧ Arr w3 w3.heap.size T (pairsV t) := by
   obtain ⟨b0, o0, T, c, e, h1, h2, h3⟩ := hT.get hpos
   rw [HT0.out hpos] at h2 h3
   exact ⟨b0, o0, T, c, e, h1, by simpa using h2, h3⟩
  obtain ⟨b0, o0, T, c, rfl, hb0, c0, hT0⟩ := hT0
  have K0 : LoadD w3 b0 o0 (.slice T t.length c) := ⟨hb0, c0⟩
  have KT : ArrD w3 T (pairsV t) := hT0
  clear hT0 c0 hb0 hM hCB nB cB0 cB1 cB2 cB3 cB4 cB5 cB6
  refine loop_st (fun (k : Nat) a w' => k ≤ t.length ∧ ∃ vo, Fits 50 [(5, .slice (some ⟨b0, o0, none⟩) l.length oc), (6, vo), (7, .int .i64 k)] a ∧ Below w3.heap.size w3 w' ∧ w'.ownsRow w3.heap.size 82 2 vo ((t.take k).filter (twoR b)).length (pairsV ((t.take k).filter (twoR b)))) (fun k => t.length - k) 0 ⟨Nat.zero_le _, .slice none 0 0, by simpa using hE, Below.refl _ _, own_nil _ _ _ _⟩ (fun k a wr hI => ?_)
  clear hE
  obtain ⟨hk, vo, hE, hW, hO⟩ := hI
  have hbr := hbw3.trans (hW.mono hbw3.size)
  have K0r := K0.below hW
  have KTr := KT.below hW
  have hTr : TruAt wr wr.heap.size (some ⟨b0, o0, none⟩) l := hT.below hW
  obtain ⟨hb0, c0⟩ := K0r
  have hfl : ((t.take k).filter (twoR b)).length ≤ 9 := Nat.le_trans (List.length_filter_le _ _) (by rw [List.length_take]; omega)
  by_cases hlt : k < t.length
  ·have hltI : (k : Int) < t.length := by omega
   obtain ⟨bt, ot, rfl, hbt, d0, d1⟩ := Arr.pr KTr hlt
   have HP := hid (HK.out t[k] (List.getElem_mem hlt))
   have HS : Hid ((t.take (k + 1)).filter (twoR b) = (t.take k).filter (twoR b) ++ if twoR b t[k] then [t[k]] else []) := hid (by
    rw [List.take_succ_eq_append_getElem hlt, List.filter_append, List.filter_cons]
    rfl)
   have HW : Hid (∀ z, kindP (cntP b.lines.length b.ts t[k].1 t[k].2) b.ts.length = z → twoR b t[k] = decide (z = 2)) := hid fun z hz => by
    unfold twoR
    rw [hz]
    rfl
   obtain ⟨z, hz⟩ : ∃ z, kindP (cntP b.lines.length b.ts t[k].1 t[k].2) b.ts.length = z := ⟨_, rfl⟩
   have HW2 := hid (HW.out z hz)
   rw [hz] at HP
   clear hz HW
   obtain ⟨p, hp⟩ : ∃ p, t[k] = p := ⟨_, rfl⟩
   rw [hp] at HP HS HW2 d0 d1
   clear hp
   have d1' : wr.cell? ⟨bt, ot + (k * 2 + 1), none⟩ = some (.int .i64 p.2) := by rw [← Nat.add_assoc]; exact d1
   obtain ⟨p1, p2⟩ := p
   have L0 : LoadD wr b0 o0 (.slice (some ⟨bt, ot, none⟩) t.length c) := ⟨hb0, c0⟩
   have L1 : LoadD wr bt (ot + k * 2) (.int .i64 p1) := ⟨hbt, d0⟩
   have L2 : LoadD wr bt (ot + k * 2 + 1) (.int .i64 p2) := ⟨hbt, d1⟩
   refine Ks ?_
   refine Rs 6 fun Q' K hK => ?_
   refine M1 hE 7 fun K' J ρ q7 => ?_; go_simp
   refine Ln hE J fun _ Eb => ?_; clear J K' hE a q7
   refine M1 Eb 5 fun K' J ρ q5 => ?_; go_simp
   refine Ln Eb J fun _ Ea => ?_; clear J K' Eb q5
   refine M1 Ea 16 fun K' J ρ q16 => ?_; go_simp; (try go_bits)
   refine Ln Ea J fun _ Eb => ?_; clear J K' Ea q16
   refine M1 Eb 17 fun K' J ρ q17 => ?_; go_simp
   refine Ln Eb J fun _ Ea => ?_; clear J K' Eb q17
   refine M1 Ea 18 fun K' J ρ q18 => ?_; go_simp; (try go_bits)
   refine Ln Ea J fun _ Eb => ?_; clear J K' Ea q18
   refine M2 Eb 15 19 fun K' J ρ q15 q19 => ?_; go_simp; (try go_bits)
   refine Ln Eb J fun _ Ea => ?_; clear J K' Eb q15 q19
   replace Ea := Ea.turn 20 (v' := .bool true) rfl (by (first | (simp; done) | (simp; omega)))
   refine Ld [5, 6, 7, 20] Ea hK fun a hE => ?_; clear hK K Q' Ea
   refine Ks ?_
   refine cond_yes hE (t := 20) rfl ?_
   refine Ks ?_
   refine Rd [] (fun wt => Below wr.heap.size wr wt) (fun w1 w2 => Below w1.heap.size w1 w2) [(0, some 23), (1, some 24), (2, some 25), (3, some 26), (4, some 27), (5, some 28), (6, some 29), (7, some 30), (8, some 31), (9, some 32), (10, some 33), (11, some 34), (12, some 35), (13, some 36), (14, some 37), (15, some 38), (16, some 39)] [23, 24, 25, 26, 27, 28, 29, 30, 31, 32, 33, 34, 35, 36, 37, 38, 39] #[true, true, true, true, true, true, true, true, true, true, true, true, true, true, true, true, true] [5, 6, 7] hE ((Below.refl _ _).drew) fun Q' K hK => ?_
   refine SeqOps.val ?_ (Sp fun ax wx hS hT' hd K' J => ?_) ?_; rotate_left 1
   ·have r5 := hS.at 5 (by decide) (hE.at 5 rfl); obtain ⟨_, _, _, _, _, _⟩ := bT hT'
    refine o1 r5 fun ρ q5 => ?_; go_simp;
    exact Jo J hT'
   refine SeqOps.val ?_ (Sp fun ax wx hS hT' hd K' J => ?_) ?_; rotate_left 1
   ·have r5 := hS.at 5 (by decide) (hE.at 5 rfl); obtain ⟨_, _, _, _, _, _⟩ := bT hT'
    refine o1 r5 fun ρ q5 => ?_; go_simp;
    exact Jo J hT'
   refine SeqOps.val ?_ (Sp fun ax wx hS hT' hd K' J => ?_) ?_; rotate_left 1
   ·have r24 := Tv hd 0 1 24; obtain ⟨_, _, _, _, _, _⟩ := bT hT'
    refine o1 r24 fun ρ q24 => ?_; go_simp; (try go_bits);
    exact Jo J hT'
   refine SeqOps.val ?_ (Sp fun ax wx hS hT' hd K' J => ?_) ?_; rotate_left 1
   ·have r25 := Tv hd 0 2 25; obtain ⟨_, _, _, _, _, _⟩ := bT hT'
    refine o1 r25 fun ρ q25 => ?_; go_simp;
    exact Jo J hT'
   refine SeqOps.val ?_ (Sp fun ax wx hS hT' hd K' J => ?_) ?_; rotate_left 1
   ·have r7 := hS.at 7 (by decide) (hE.at 7 rfl); obtain ⟨_, _, _, _, _, _⟩ := bT hT'
    refine o1 r7 fun ρ q7 => ?_; go_simp;
    exact Jo J hT'
   refine SeqOps.val ?_ (Sp fun ax wx hS hT' hd K' J => ?_) ?_; rotate_left 1
   ·have r26 := Tv hd 1 3 26; have r27 := Tv hd 0 4 27; obtain ⟨_, _, _, _, _, _⟩ := bT hT'
    refine o2 r26 r27 fun ρ q26 q27 => ?_; go_simp; (try go_bits);
    exact Jo J hT'
   refine SeqOps.val ?_ (Sp fun ax wx hS hT' hd K' J => ?_) ?_; rotate_left 1
   ·have r28 := Tv hd 0 5 28; obtain ⟨_, _, _, _, _, _⟩ := bT hT'
    refine o1 r28 fun ρ q28 => ?_; go_simp;
    exact Jo J hT'
   refine SeqOps.val ?_ (Sp fun ax wx hS hT' hd K' J => ?_) ?_; rotate_left 1
   ·have r29 := Tv hd 0 6 29; obtain ⟨_, _, _, _, _, _⟩ := bT hT'
    refine o1 r29 fun ρ q29 => ?_; go_simp;
    exact Jo J hT'
   refine SeqOps.val ?_ (Sp fun ax wx hS hT' hd K' J => ?_) ?_; rotate_left 1
   ·have r5 := hS.at 5 (by decide) (hE.at 5 rfl); obtain ⟨_, _, _, _, _, _⟩ := bT hT'
    refine o1 r5 fun ρ q5 => ?_; go_simp;
    exact Jo J hT'
   refine SeqOps.val ?_ (Sp fun ax wx hS hT' hd K' J => ?_) ?_; rotate_left 1
   ·have r31 := Tv hd 0 8 31; obtain ⟨_, _, _, _, _, _⟩ := bT hT'
    refine o1 r31 fun ρ q31 => ?_; go_simp; (try go_bits);
    exact Jo J hT'
   refine SeqOps.val ?_ (Sp fun ax wx hS hT' hd K' J => ?_) ?_; rotate_left 1
   ·have r32 := Tv hd 0 9 32; obtain ⟨_, _, _, _, _, _⟩ := bT hT'
    refine o1 r32 fun ρ q32 => ?_; go_simp;
    exact Jo J hT'
   refine SeqOps.val ?_ (Sp fun ax wx hS hT' hd K' J => ?_) ?_; rotate_left 1
   ·have r7 := hS.at 7 (by decide) (hE.at 7 rfl); obtain ⟨_, _, _, _, _, _⟩ := bT hT'
    refine o1 r7 fun ρ q7 => ?_; go_simp;
    exact Jo J hT'
   refine SeqOps.val ?_ (Sp fun ax wx hS hT' hd K' J => ?_) ?_; rotate_left 1
   ·have r33 := Tv hd 1 10 33; have r34 := Tv hd 0 11 34; obtain ⟨_, _, _, _, _, _⟩ := bT hT'
    refine o2 r33 r34 fun ρ q33 q34 => ?_; go_simp; (try go_bits);
    exact Jo J hT'
   refine SeqOps.val ?_ (Sp fun ax wx hS hT' hd K' J => ?_) ?_; rotate_left 1
   ·have r35 := Tv hd 0 12 35; obtain ⟨_, _, _, _, _, _⟩ := bT hT'
    refine o1 r35 fun ρ q35 => ?_; go_simp;
    exact Jo J hT'
   refine SeqOps.val ?_ (Sp fun ax wx hS hT' hd K' J => ?_) ?_; rotate_left 1
   ·have r36 := Tv hd 0 13 36; obtain ⟨_, _, _, _, _, _⟩ := bT hT'
    refine o1 r36 fun ρ q36 => ?_; go_simp;
    exact Jo J hT'
   refine SeqOps.val ?_ (Sp fun ax wx hS hT' hd K' J => ?_) ?_; rotate_left 1
   ·have r23 := Tv hd 14 0 23; have r30 := Tv hd 7 7 30; have r37 := Tv hd 0 14 37; obtain ⟨_, _, _, _, _, _⟩ := bT hT'
    refine o3 r23 r30 r37 fun ρ q23 q30 q37 => ?_; go_simp; (try go_bits);
    go_at_call 53; refine (HP.out _ oc _ (hTr.below hT')).mono ?_; rintro e g1 ⟨rfl, k1⟩
    refine J.out _ _ _ rfl ?_ (hT'.trans (k1.mono hT'.size)) k1; rfl
   refine SeqOps.val ?_ (Sp fun ax wx hS hT' hd K' J => ?_) ?_; rotate_left 1
   ·have r38 := Tv hd 0 15 38; obtain ⟨_, _, _, _, _, _⟩ := bT hT'
    refine o1 r38 fun ρ q38 => ?_; go_simp; (try go_bits);
    exact Jo J hT'
   refine SeqOps.nil ?_
   intro w5 hBm; (repeat refine Ek ?_)
   refine fun amx hEmx => ?_
   simp only [lk, pick, Nat.reduceEqDiff, ↓reduceIte] at hEmx
   refine Ld [5, 6, 7, 39] hEmx hK fun a hE => ?_; clear hK K Q' hEmx
   have hbw5 := hbr.trans (hBm.mono hbr.size)
   replace L0 := L0.below hBm
   replace L1 := L1.below hBm
   replace L2 := L2.below hBm
   refine Ks ?_
   have hO5 := own_below hO hBm
   have hW5 := hW.trans (hBm.mono hW.size)
   refine cond_part hE (t := 39) rfl (fun h => ?_) (fun h => ?_)
   ·have HY : Hid (twoR b (p1, p2) = true) := hid (by rw [HW2.out]; exact h)
    clear h
    obtain ⟨n0, e0⟩ := L0
    obtain ⟨n1, e1⟩ := L1
    obtain ⟨_, e2⟩ := L2
    refine Ks ?_
    refine Rs 10 fun Q' K hK => ?_
    refine M1 hE 6 fun K' J ρ q6 => ?_; go_simp
    refine Ln hE J fun _ Eb => ?_; clear J K' hE a q6
    refine M1 Eb 5 fun K' J ρ q5 => ?_; go_simp
    refine Ln Eb J fun _ Ea => ?_; clear J K' Eb q5
    refine M1 Ea 41 fun K' J ρ q41 => ?_; go_simp; (try go_bits)
    refine Ln Ea J fun _ Eb => ?_; clear J K' Ea q41
    refine M1 Eb 42 fun K' J ρ q42 => ?_; go_simp
    refine Ln Eb J fun _ Ea => ?_; clear J K' Eb q42
    refine M1 Ea 7 fun K' J ρ q7 => ?_; go_simp
    refine Ln Ea J fun _ Eb => ?_; clear J K' Ea q7
    refine M2 Eb 43 44 fun K' J ρ q43 q44 => ?_; go_simp; (try go_bits)
    refine Ln Eb J fun _ Ea => ?_; clear J K' Eb q43 q44
    refine M1 Ea 45 fun K' J ρ q45 => ?_; go_simp
    refine Ln Ea J fun _ Eb => ?_; clear J K' Ea q45
    refine M1 Eb 46 fun K' J ρ q46 => ?_; go_simp
    refine Ln Eb J fun _ Ea => ?_; clear J K' Eb q46
    refine Lp fun K' J => ?_
    have r40 := Ea.at 40 rfl; have r47 := Ea.at 47 rfl
    refine wp_appN (.tmp 40) (.tmp 47) 31 rfl w3.heap.size 82 (.agg #[.int .i64 0, .int .i64 0]) 2 16 Tryz.underlying31 (by kernel_rfl) rfl (by decide) vo _ (pairsV ((t.take k).filter (twoR b))) (eval_of r40) (hO5.alloc _) (w5.heap.size + 1) (some ⟨w5.heap.size, 0, none⟩) 1 1 (pcells (p1, p2)) (eval_of r47) (arr_new w5 _ _) rfl (by intro u hu; simp [pcells] at hu; rcases hu with rfl | rfl <;> rfl) (by simp only [maxLen]; omega) (by omega) (by have := hW5.size; simp; omega) (fun A3 c3 w6 q1 q2 q3 q4 q5 => ?_)
    (try clear r40 r47)
    refine Ln Ea J fun _ Eb => ?_; clear J K' Ea
    refine M1 Eb 48 fun K' J ρ q48 => ?_; go_simp
    refine Ln Eb J fun _ Ea => ?_; clear J K' Eb q48
    refine Ld [5, 6, 7] Ea hK fun a hE => ?_; clear hK K Q' Ea
    have hb6 := hW5.trans (app_below hO5 hW5.size q4)
    refine Ks ?_
    refine Rs 3 fun Q' K hK => ?_
    refine M1 hE 7 fun K' J ρ q7 => ?_; go_simp
    refine Ln hE J fun _ Eb => ?_; clear J K' hE a q7
    refine M1 Eb 21 fun K' J ρ q21 => ?_; go_simp; (try go_bits); (try simp (disch := omega) only [IntWalk.i64_in])
    refine Ln Eb J fun _ Ea => ?_; clear J K' Eb q21
    refine M1 Ea 22 fun K' J ρ q22 => ?_; go_simp
    refine Ln Ea J fun _ Eb => ?_; clear J K' Ea q22
    refine Ld [5, 6, 7] Eb hK fun a hE => ?_; clear hK K Q' Eb
    refine Ks ?_
    refine ⟨k + 1, ⟨hlt, _, by simpa using hE, hb6, ?_⟩, by omega⟩
    rw [HS.out, if_pos HY.out, List.length_append, show pairsV (((t.take k).filter (twoR b)) ++ [(p1, p2)]) = pairsV ((t.take k).filter (twoR b)) ++ pcells (p1, p2) by simp [pairsV]]
    exact q3
   ·have HY : Hid (twoR b (p1, p2) = false) := hid (by rw [HW2.out]; exact h)
    clear h
    refine Ks ?_
    refine Rs 3 fun Q' K hK => ?_
    refine M1 hE 7 fun K' J ρ q7 => ?_; go_simp
    refine Ln hE J fun _ Eb => ?_; clear J K' hE a q7
    refine M1 Eb 21 fun K' J ρ q21 => ?_; go_simp; (try go_bits); (try simp (disch := omega) only [IntWalk.i64_in])
    refine Ln Eb J fun _ Ea => ?_; clear J K' Eb q21
    refine M1 Ea 22 fun K' J ρ q22 => ?_; go_simp
    refine Ln Ea J fun _ Eb => ?_; clear J K' Ea q22
    refine Ld [5, 6, 7] Eb hK fun a hE => ?_; clear hK K Q' Eb
    refine Ks ?_
    refine ⟨k + 1, ⟨hlt, vo, by simpa using hE, hW5, ?_⟩, by omega⟩
    rw [HS.out, HY.out]
    simpa using hO5
  ·have hke : k = t.length := by omega
   subst hke
   refine Ks ?_
   refine Rs 6 fun Q' K hK => ?_
   refine M1 hE 7 fun K' J ρ q7 => ?_; go_simp
   refine Ln hE J fun _ Eb => ?_; clear J K' hE a q7
   refine M1 Eb 5 fun K' J ρ q5 => ?_; go_simp
   refine Ln Eb J fun _ Ea => ?_; clear J K' Eb q5
   refine M1 Ea 16 fun K' J ρ q16 => ?_; go_simp; (try go_bits)
   refine Ln Ea J fun _ Eb => ?_; clear J K' Ea q16
   refine M1 Eb 17 fun K' J ρ q17 => ?_; go_simp
   refine Ln Eb J fun _ Ea => ?_; clear J K' Eb q17
   refine M1 Ea 18 fun K' J ρ q18 => ?_; go_simp; (try go_bits)
   refine Ln Ea J fun _ Eb => ?_; clear J K' Ea q18
   refine M2 Eb 15 19 fun K' J ρ q15 q19 => ?_; go_simp; (try go_bits)
   refine Ln Eb J fun _ Ea => ?_; clear J K' Eb q15 q19
   replace Ea := Ea.turn 20 (v' := .bool false) rfl (by simp)
   refine Ld [5, 6, 7, 20] Ea hK fun a hE => ?_; clear hK K Q' Ea
   refine Ks ?_
   refine cond_no hE (t := 20) rfl ?_
   refine Ks ?_
   refine Rs 3 fun Q' K hK => ?_
   refine M1 hE 6 fun K' J ρ q6 => ?_; go_simp
   refine Ln hE J fun _ Eb => ?_; clear J K' hE a q6
   refine M1 Eb 49 fun K' J ρ q49 => ?_; go_simp
   refine Ln Eb J fun _ Ea => ?_; clear J K' Eb q49
   refine M0 fun K' J ρ => ?_; go_simp;
   refine Ln Ea J fun _ Eb => ?_; clear J K' Ea
   refine Ld [2, 3] Eb hK fun a hE => ?_; clear hK K Q' Eb
   refine Ks ?_
   refine ret_two hE rfl rfl rfl ⟨?_, hbr⟩
   rw [List.take_length, HJ.out] at hO
   obtain ⟨T2, c2, rfl, _, _, ha⟩ := own_form hO
   exact ⟨T2, c2, by rw [HR.out], ha⟩
 ·have hq : pJoinedL b = [] := by unfold pJoinedL; rw [HR.out, if_neg hr0]
  rw [hq, HR.out]
  have HR0 := hid hr0
  clear hq hr0
  simp only [bkV] at C1 ⊢
  refine enterE Tryz.func18 rfl Tryz.ntmps18 (by simp) (fun a hE => ?_); simp only [envOf, Nat.zero_add, Nat.reduceAdd] at hE
  refine Ks ?_
  refine Rs 3 fun Q' K hK => ?_
  refine M1 hE 0 fun K' J ρ q0 => ?_; go_simp
  refine Ln hE J fun _ Eb => ?_; clear J K' hE a q0
  refine M0 fun K' J ρ => ?_; go_simp;
  refine Ln Eb J fun _ Ea => ?_; clear J K' Eb
  refine M0 fun K' J ρ => ?_; go_simp;
  refine Ln Ea J fun _ Eb => ?_; clear J K' Ea
  refine Ld [1] Eb hK fun a hE => ?_; clear hK K Q' Eb
  obtain ⟨B, hBe⟩ : ∃ B, B = w.heap.size := ⟨_, rfl⟩; rw [← hBe] at hE; refine world_cut (fun wt => Below w.heap.size w wt ∧ Cells wt B (bkV A cap L lcap b)) ⟨(Below.refl _ _).alloc (Nat.le_refl _) _, by rw [hBe]; exact cells_new _ _ _⟩ (fun w1 hCut => ?_); obtain ⟨hbw1, hCB⟩ := hCut; clear hBe
  simp only [bkV] at hCB
  replace hM := hM.below hbw1
  obtain ⟨nB, cB0, cB1, cB2, cB3, cB4, cB5, cB6⟩ := hCB.c7
  refine Ks ?_
  refine Rs 3 fun Q' K hK => ?_
  refine M1 hE 1 fun K' J ρ q1 => ?_; go_simp
  refine Ln hE J fun _ Eb => ?_; clear J K' hE a q1
  refine M1 Eb 8 fun K' J ρ q8 => ?_; go_simp; (try go_bits); (try clear q8)
  go_at_call 52; refine (C1.out _ hM).mono ?_; rintro e w2 ⟨rfl, h2⟩; have hbw2 := hbw1.trans (h2.mono hbw1.size); replace hCB := hCB.below h2; clear nB cB0 cB1 cB2 cB3 cB4 cB5 cB6; obtain ⟨nB, cB0, cB1, cB2, cB3, cB4, cB5, cB6⟩ := hCB.c7; replace hM := hM.below h2
  (try clear r8)
  refine Ln Eb J fun _ Ea => ?_; clear J K' Eb
  refine M1 Ea 9 fun K' J ρ q9 => ?_; go_simp
  refine Ln Ea J fun _ Eb => ?_; clear J K' Ea q9
  refine Ld [1, 4] Eb hK fun a hE => ?_; clear hK K Q' Eb
  refine Ks ?_
  refine Rs 2 fun Q' K hK => ?_
  refine M1 hE 4 fun K' J ρ q4 => ?_; go_simp
  refine Ln hE J fun _ Eb => ?_; clear J K' hE a q4
  refine M1 Eb 10 fun K' J ρ q10 => ?_; go_simp; (try go_bits)
  refine Ln Eb J fun _ Ea => ?_; clear J K' Eb q10
  replace Ea := Ea.turn 11 (v' := .bool true) rfl (by (simp [HR0.out]))
  refine Ld [1, 4, 11] Ea hK fun a hE => ?_; clear hK K Q' Ea
  refine Ks ?_
  refine cond_yes hE (t := 11) rfl ?_
  refine Ks ?_
  refine Rs 3 fun Q' K hK => ?_
  refine M1 hE 4 fun K' J ρ q4 => ?_; go_simp
  refine Ln hE J fun _ Eb => ?_; clear J K' hE a q4
  refine M0 fun K' J ρ => ?_; go_simp;
  refine Ln Eb J fun _ Ea => ?_; clear J K' Eb
  refine M1 Ea 12 fun K' J ρ q12 => ?_; go_simp
  refine Ln Ea J fun _ Eb => ?_; clear J K' Ea q12
  refine Ld [2, 3] Eb hK fun a hE => ?_; clear hK K Q' Eb
  refine Ks ?_
  exact ret_two hE rfl rfl rfl ⟨⟨none, 0, rfl, fun hx => absurd rfl hx⟩, hbw2⟩
end
end Go.Proofs.YtbimkcjdodgojaaGreat
