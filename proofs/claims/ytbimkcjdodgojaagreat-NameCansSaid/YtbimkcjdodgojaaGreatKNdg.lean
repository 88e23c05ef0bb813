/- Name: in how many truths two lines are a pair, as the reference tells it. -/
import Derived.Test.YtbimkcjdodgojaaGreatKNde
import Derived.Test.YtbimkcjdodgojaaGreatKNdc
import Derived.Test.YtbimkcjdodgojaaGreatKNj
import Derived.Test.YtbimkcjdodgojaaGreatKNaa

namespace Go.Proofs.YtbimkcjdodgojaaGreat
set_option linter.unusedSimpArgs false
set_option linter.unusedVariables false
open Go Go.RowKit
attribute [local go_sem high] cell_set_wr
attribute [local go_sem low] cell_wr frozen_wr
attribute [local go_sem] wr_set wr_drew wr_drewN wr_alloc wr_new Rho.c Rho.n Rho.g
/-- a list of lists of pairs lies in memory -/
def TruAt (w : World) (B : Nat) (O : Option Addr) (l : List Prs) : Prop := ∃ vs : List Value, vs.length = l.length ∧ Arr w B O vs ∧ ∀ i (h : i < l.length), ∃ T c, vs[i]? = some (.slice T l[i].length c) ∧ Arr w B T (pairsV l[i])
theorem TruAt.get {w : World} {B : Nat} {O : Option Addr} {l : List Prs} (h : TruAt w B O l) {k : Nat} (hk : k < l.length) :
    ∃ b o T c, O = some ⟨b, o, none⟩ ∧ b < B ∧ w.cell? ⟨b, o + k, none⟩ = some (.slice T l[k].length c) ∧ Arr w B T (pairsV l[k]) := by
 obtain ⟨vs, hl, hA, hv⟩ := h
 obtain ⟨T, c, h1, h2⟩ := hv k hk
 obtain ⟨b, o, hO, hlt, hc⟩ := hA (fun e => by rw [e] at hl; simp at hl; omega)
 exact ⟨b, o, T, c, hO, hlt, hc k _ h1, h2⟩
theorem TruAt.below {w w' : World} {O : Option Addr} {l : List Prs} (h : TruAt w w.heap.size O l) (hb : Below w.heap.size w w') : TruAt w' w'.heap.size O l := by
 obtain ⟨vs, hl, hA, hv⟩ := h
 refine ⟨vs, hl, (hA.below hb).more hb.size, fun i hi => ?_⟩
 obtain ⟨T, c, h1, h2⟩ := hv i hi
 exact ⟨T, c, h1, (h2.below hb).more hb.size⟩
theorem truthsR_few {b : Bk} (h9 : b.lines.length ≤ 9) : (truthsR b).length ≤ 1000000000 := by
 rw [truthsR_len]
 have h := fromP_len b.lines.length b.lost (couldsP b) (couldsP_nine h9) b.lines.length 0 []
 have h2 : 10 ^ b.lines.length ≤ 10 ^ 9 := Nat.pow_le_pow_right (by decide) h9
 unfold Bk.ts
 omega
theorem truthsR_short {b : Bk} (h9 : b.lines.length ≤ 9) {t : Prs} (ht : t ∈ truthsR b) : t.length ≤ 9 := by
 have h := fromP_tlen b.lines.length b.lost (couldsP b) b.lines.length 0 [] t ((mem_truthsR b t).1 ht)
 simp at h
 omega
section
variable (A : Option Addr) (cap : Nat) (L : Option Addr) (lcap : Nat) (b : Bk)
set_option maxRecDepth 100000 in
set_option maxHeartbeats 2000000 in
theorem rIsTruth_any (G : Option Addr) (d : Nat) (ps : IPrs) (w : World) (hM : BkAt w A L b) (hs : b.small cap lcap) (hG : Arr w w.heap.size G (pairsI ps)) (hps : ps.length ≤ 9223372036854775807) (hz : ∀ i (h : i < b.ear.alike.length), b.ear.alike[i].size ≤ 9223372036854775807)
    (HC : Hid (b.ok = true → ∀ (W : World), BkAt W A L b → Calls Tryz.prog 42 #[.agg (bkV A cap L lcap b).toArray] W fun e w' => (∃ O c, e = .returned (.slice O (truthsR b).length c) ∧ TruAt w' w'.heap.size O (truthsR b)) ∧ Below W.heap.size W w')) :
    Calls Tryz.prog 11 #[.agg (bkV A cap L lcap b).toArray, .slice G ps.length d] w fun e w' => e = .returned (.tuple #[.bool (pIsTruthR b ps).1, .int .i64 (pIsTruthR b ps).2]) ∧ Below w.heap.size w w' := by
 have C1 : Hid (∀ W, BkAt W A L b → Calls Tryz.prog 9 #[.agg (bkV A cap L lcap b).toArray] W fun e w' => e = .returned (.int .i64 (bkE b)) ∧ Below W.heap.size W w') := hid fun W hW => rCheck_any A cap L lcap b W hW hs hz
 cases ho : b.ok
 ·have e0 : bkE b = 20 := by unfold bkE; rw [ho]; rfl
  have e1 : pIsTruthR b ps = (false, 20) := by unfold pIsTruthR; rw [ho]; rfl
  rw [e0] at C1
  rw [e1]
  clear e0 e1 ho HC
  simp only [bkV] at C1 ⊢
  refine enterE Tryz.func11 rfl Tryz.ntmps11 (by simp) (fun a hE => ?_); simp only [envOf, Nat.zero_add, Nat.reduceAdd] at hE
  refine Ks ?_
  refine Rs 3 fun Q' K hK => ?_
  refine M1 hE 0 fun K' J ρ q0 => ?_; go_simp; (try clear q0)
  refine Ln hE J fun _ Eb => ?_; clear J K' hE a
  refine M0 fun K' J ρ => ?_; go_simp;
  refine Ln Eb J fun _ Ea => ?_; clear J K' Eb
  refine M0 fun K' J ρ => ?_; go_simp;
  refine Ln Ea J fun _ Eb => ?_; clear J K' Ea
  refine late_done [2] Eb hK (fun a hE => ?_); clear hK K Q' Eb; simp only [lk, pick, Nat.reduceEqDiff, ↓reduceIte] at hE
  obtain ⟨B, hBe⟩ : ∃ B, B = w.heap.size := ⟨_, rfl⟩; rw [← hBe] at hE; refine world_cut (fun wt => Below w.heap.size w wt ∧ Cells wt B (bkV A cap L lcap b)) ⟨(Below.refl _ _).alloc (Nat.le_refl _) _, by rw [hBe]; exact cells_new _ _ _⟩ (fun w1 hCut => ?_); obtain ⟨hbw1, hCB⟩ := hCut; clear hBe
  have hM1 := hM.below hbw1
  simp only [bkV] at hCB
  have nB := hCB.1; have cB0 := hCB.2 0 _ rfl; have cB1 := hCB.2 1 _ rfl; have cB2 := hCB.2 2 _ rfl; have cB3 := hCB.2 3 _ rfl; have cB4 := hCB.2 4 _ rfl; have cB5 := hCB.2 5 _ rfl; have cB6 := hCB.2 6 _ rfl
  refine Ks ?_
  refine Rs 3 fun Q' K hK => ?_
  refine M1 hE 2 fun K' J ρ q2 => ?_; go_simp; (try clear q2)
  refine Ln hE J fun _ Eb => ?_; clear J K' hE a
  refine M1 Eb 9 fun K' J ρ q9 => ?_; go_simp; (try go_bits); (try clear q9)
  go_at_call 9; refine (C1.out _ hM1).mono ?_; rintro e w2 ⟨rfl, h2⟩
  (try clear r9)
  refine Ln Eb J fun _ Ea => ?_; clear J K' Eb
  refine M1 Ea 10 fun K' J ρ q10 => ?_; go_simp; (try clear q10)
  refine Ln Ea J fun _ Eb => ?_; clear J K' Ea
  refine late_done [6] Eb hK (fun a hE => ?_); clear hK K Q' Eb; simp only [lk, pick, Nat.reduceEqDiff, ↓reduceIte] at hE
  refine Ks ?_
  refine Rs 2 fun Q' K hK => ?_
  refine M1 hE 6 fun K' J ρ q6 => ?_; go_simp; (try clear q6)
  refine Ln hE J fun _ Eb => ?_; clear J K' hE a
  refine M1 Eb 11 fun K' J ρ q11 => ?_; go_simp; (try go_bits); (try clear q11)
  refine Ln Eb J fun _ Ea => ?_; clear J K' Eb
  replace Ea := Ea.turn 12 (v' := .bool true) rfl (by (first | rfl | simp))
  refine late_done [6, 12] Ea hK (fun a hE => ?_); clear hK K Q' Ea; simp only [lk, pick, Nat.reduceEqDiff, ↓reduceIte] at hE
  refine Ks ?_
  refine cond_yes hE (t := 12) rfl ?_
  refine Ks ?_
  refine Rs 3 fun Q' K hK => ?_
  refine M1 hE 6 fun K' J ρ q6 => ?_; go_simp; (try clear q6)
  refine Ln hE J fun _ Eb => ?_; clear J K' hE a
  refine M0 fun K' J ρ => ?_; go_simp;
  refine Ln Eb J fun _ Ea => ?_; clear J K' Eb
  refine M1 Ea 13 fun K' J ρ q13 => ?_; go_simp; (try clear q13)
  refine Ln Ea J fun _ Eb => ?_; clear J K' Ea
  refine late_done [4, 5] Eb hK (fun a hE => ?_); clear hK K Q' Eb; simp only [lk, pick, Nat.reduceEqDiff, ↓reduceIte] at hE
  refine Ks ?_
  exact ret_two hE rfl rfl rfl ⟨rfl, hbw1.trans (h2.mono hbw1.size)⟩
 ·have h9 := ok_nine ho
  have e0 : bkE b = 0 := by unfold bkE; rw [ho]; rfl
  have HP : Hid (∀ q, (truthsR b).any (fun t => sameP t ps) = q → pIsTruthR b ps = (q, 0)) := hid fun q hq => by
   unfold pIsTruthR
   rw [ho, ← hq, any_truths]
   rfl
  rw [e0] at C1
  have C3 := hid (HC.out ho)
  have hfew := truthsR_few h9
  have HSh := hid (fun t (ht : t ∈ truthsR b) => truthsR_short h9 ht)
  obtain ⟨l, hl⟩ : ∃ l, truthsR b = l := ⟨_, rfl⟩
  rw [hl] at HP C3 hfew HSh
  clear e0 ho HC hl h9
  simp only [bkV] at C1 C3 ⊢
  refine enterE Tryz.func11 rfl Tryz.ntmps11 (by simp) (fun a hE => ?_); simp only [envOf, Nat.zero_add, Nat.reduceAdd] at hE
  refine Ks ?_
  refine Rs 3 fun Q' K hK => ?_
  refine M1 hE 0 fun K' J ρ q0 => ?_; go_simp; (try clear q0)
  refine Ln hE J fun _ Eb => ?_; clear J K' hE a
  refine M0 fun K' J ρ => ?_; go_simp;
  refine Ln Eb J fun _ Ea => ?_; clear J K' Eb
  refine M0 fun K' J ρ => ?_; go_simp;
  refine Ln Ea J fun _ Eb => ?_; clear J K' Ea
  refine late_done [1, 2] Eb hK (fun a hE => ?_); clear hK K Q' Eb; simp only [lk, pick, Nat.reduceEqDiff, ↓reduceIte] at hE
  obtain ⟨B, hBe⟩ : ∃ B, B = w.heap.size := ⟨_, rfl⟩; rw [← hBe] at hE; refine world_cut (fun wt => Below w.heap.size w wt ∧ Cells wt B (bkV A cap L lcap b)) ⟨(Below.refl _ _).alloc (Nat.le_refl _) _, by rw [hBe]; exact cells_new _ _ _⟩ (fun w1 hCut => ?_); obtain ⟨hbw1, hCB⟩ := hCut; clear hBe
  have hM1 := hM.below hbw1
  simp only [bkV] at hCB
  have nB := hCB.1; have cB0 := hCB.2 0 _ rfl; have cB1 := hCB.2 1 _ rfl; have cB2 := hCB.2 2 _ rfl; have cB3 := hCB.2 3 _ rfl; have cB4 := hCB.2 4 _ rfl; have cB5 := hCB.2 5 _ rfl; have cB6 := hCB.2 6 _ rfl
  refine Ks ?_
  refine Rs 3 fun Q' K hK => ?_
  refine M1 hE 2 fun K' J ρ q2 => ?_; go_simp; (try clear q2)
  refine Ln hE J fun _ Eb => ?_; clear J K' hE a
  refine M1 Eb 9 fun K' J ρ q9 => ?_; go_simp; (try go_bits); (try clear q9)
  go_at_call 9; refine (C1.out _ hM1).mono ?_; rintro e w2 ⟨rfl, h2⟩
  (try clear r9)
  refine Ln Eb J fun _ Ea => ?_; clear J K' Eb
  refine M1 Ea 10 fun K' J ρ q10 => ?_; go_simp; (try clear q10)
  refine Ln Ea J fun _ Eb => ?_; clear J K' Ea
  refine late_done [1, 2, 6] Eb hK (fun a hE => ?_); clear hK K Q' Eb; simp only [lk, pick, Nat.reduceEqDiff, ↓reduceIte] at hE
  have hb2 := hbw1.trans (h2.mono hbw1.size)
  have hM2 := hM.below hb2
  replace hCB := hCB.below h2
  clear nB cB0 cB1 cB2 cB3 cB4 cB5 cB6 hM1
  have nB := hCB.1; have cB0 := hCB.2 0 _ rfl; have cB1 := hCB.2 1 _ rfl; have cB2 := hCB.2 2 _ rfl; have cB3 := hCB.2 3 _ rfl; have cB4 := hCB.2 4 _ rfl; have cB5 := hCB.2 5 _ rfl; have cB6 := hCB.2 6 _ rfl
  refine Ks ?_
  refine Rs 2 fun Q' K hK => ?_
  refine M1 hE 6 fun K' J ρ q6 => ?_; go_simp; (try clear q6)
  refine Ln hE J fun _ Eb => ?_; clear J K' hE a
  refine M1 Eb 11 fun K' J ρ q11 => ?_; go_simp; (try go_bits); (try clear q11)
  refine Ln Eb J fun _ Ea => ?_; clear J K' Eb
  replace Ea := Ea.turn 12 (v' := .bool false) rfl (by (first | rfl | simp))
  refine late_done [1, 2, 12] Ea hK (fun a hE => ?_); clear hK K Q' Ea; simp only [lk, pick, Nat.reduceEqDiff, ↓reduceIte] at hE
  refine Ks ?_
  refine cond_no hE (t := 12) rfl ?_
  refine Ks ?_
  refine Rs 3 fun Q' K hK => ?_
  refine M1 hE 2 fun K' J ρ q2 => ?_; go_simp; (try clear q2)
  refine Ln hE J fun _ Eb => ?_; clear J K' hE a
  refine M1 Eb 14 fun K' J ρ q14 => ?_; go_simp; (try go_bits); (try clear q14)
  go_at_call 42; refine (C3.out _ hM2).mono ?_; rintro e w3 ⟨⟨O, oc, rfl, hT⟩, h3⟩
  (try clear r14)
  refine Ln Eb J fun _ Ea => ?_; clear J K' Eb
  refine M1 Ea 15 fun K' J ρ q15 => ?_; go_simp; (try clear q15)
  refine Ln Ea J fun _ Eb => ?_; clear J K' Ea
  refine late_done [1, 7] Eb hK (fun a hE => ?_); clear hK K Q' Eb; simp only [lk, pick, Nat.reduceEqDiff, ↓reduceIte] at hE
  have hb3 := hb2.trans (h3.mono hb2.size)
  clear nB cB0 cB1 cB2 cB3 cB4 cB5 cB6 hM2 hCB
  refine Ks ?_
  refine Rs 1 fun Q' K hK => ?_
  refine M0 fun K' J ρ => ?_; go_simp;
  refine Ln hE J fun _ Eb => ?_; clear J K' hE a
  refine late_done [1, 7, 8] Eb hK (fun a hE => ?_); clear hK K Q' Eb; simp only [lk, pick, Nat.reduceEqDiff, ↓reduceIte] at hE
  refine Ks ?_
  refine loop_st (fun (k : Nat) a w' => k ≤ l.length ∧ Fits 28 [(1, .slice G ps.length d), (7, .slice O l.length oc), (8, .int .i64 k)] a ∧ Below w3.heap.size w3 w' ∧ ∀ i (h : i < l.length), i < k → sameP l[i] ps = false) (fun k => l.length - k) 0 ⟨Nat.zero_le _, by simpa using hE, Below.refl _ _, fun i _ h => absurd h (Nat.not_lt_zero _)⟩ (fun k a w' hI => ?_)
  clear hE
  obtain ⟨hk, hE, hW, hN⟩ := hI
  have HN := hid hN
  clear hN
  obtain ⟨wr, hwr⟩ : ∃ x, x = w' := ⟨_, rfl⟩
  subst hwr
  have hbr := hb3.trans (hW.mono hb3.size)
  refine Ks ?_
  refine Rs 4 fun Q' K hK => ?_
  refine M1 hE 8 fun K' J ρ q8 => ?_; go_simp; (try clear q8)
  refine Ln hE J fun _ Eb => ?_; clear J K' hE a
  refine M1 Eb 7 fun K' J ρ q7 => ?_; go_simp; (try clear q7)
  refine Ln Eb J fun _ Ea => ?_; clear J K' Eb
  refine M1 Ea 17 fun K' J ρ q17 => ?_; go_simp; (try go_bits); (try clear q17)
  refine Ln Ea J fun _ Eb => ?_; clear J K' Ea
  refine M2 Eb 16 18 fun K' J ρ q16 q18 => ?_; go_simp; (try go_bits); (try clear q16 q18)
  refine Ln Eb J fun _ Ea => ?_; clear J K' Eb
  refine late_done [1, 7, 8, 19] Ea hK (fun a hE => ?_); clear hK K Q' Ea; simp only [lk, pick, Nat.reduceEqDiff, ↓reduceIte] at hE
  refine Ks ?_
  refine cond_part hE (t := 19) rfl (fun h => ?_) (fun h => ?_)
  ·have hlt : k < l.length := by have := of_decide_eq_true h; omega
   clear h
   have hltI : (k : Int) < l.length := by omega
   obtain ⟨b0, o0, T, c, rfl, hb0, c0, hT0⟩ := (hT.below hW).get hlt
   have hsh := HSh.out l[k] (List.getElem_mem hlt)
   have HA : Hid (∀ q, sameP l[k] ps = q → (q = true → l.any (fun t => sameP t ps) = true) ∧ (q = false → ∀ i (h : i < l.length), i < k + 1 → sameP l[i] ps = false)) := hid fun q hq => ⟨fun h => List.any_eq_true.2 ⟨l[k], List.getElem_mem hlt, by rw [hq, h]⟩, fun h i hi h1 => by
    by_cases e : i = k
    ·subst e; rw [hq, h]
    ·exact HN.out i hi (by omega)⟩
   have HS := hid (rsame_any T c l[k] G d ps wr hT0 ((hG.below hbr).more hbr.size) (by omega) hps)
   obtain ⟨t, ht⟩ : ∃ t, l[k] = t := ⟨_, rfl⟩
   rw [ht] at c0 hT0 hsh HA HS
   clear ht
   obtain ⟨q, hq⟩ : ∃ q, sameP t ps = q := ⟨_, rfl⟩
   rw [hq] at HS
   have HA2 := hid (HA.out q hq)
   clear hq HA
   refine Ks ?_
   refine Rs 6 fun Q' K hK => ?_
   refine M1 hE 7 fun K' J ρ q7 => ?_; go_simp; (try clear q7)
   refine Ln hE J fun _ Eb => ?_; clear J K' hE a
   refine M1 Eb 8 fun K' J ρ q8 => ?_; go_simp; (try clear q8)
   refine Ln Eb J fun _ Ea => ?_; clear J K' Eb
   refine M2 Ea 22 23 fun K' J ρ q22 q23 => ?_; go_simp; (try go_bits); (try clear q22 q23)
   refine Ln Ea J fun _ Eb => ?_; clear J K' Ea
   refine M1 Eb 24 fun K' J ρ q24 => ?_; go_simp; (try clear q24)
   refine Ln Eb J fun _ Ea => ?_; clear J K' Eb
   refine M1 Ea 1 fun K' J ρ q1 => ?_; go_simp; (try clear q1)
   refine Ln Ea J fun _ Eb => ?_; clear J K' Ea
   refine M2 Eb 25 26 fun K' J ρ q25 q26 => ?_; go_simp; (try go_bits); (try clear q25 q26)
   go_at_call 19; refine (HS.out).mono ?_; rintro e w4 ⟨rfl, h4⟩
   (try clear r25 r26)
   refine Ln Eb J fun _ Ea => ?_; clear J K' Eb
   refine late_done [1, 7, 8, 27] Ea hK (fun a hE => ?_); clear hK K Q' Ea; simp only [lk, pick, Nat.reduceEqDiff, ↓reduceIte] at hE
   refine Ks ?_
   cases hqv : q
   ·rw [hqv] at hE
    have HF := hid (HA2.out.2 hqv)
    refine cond_no hE (t := 27) rfl ?_
    refine Ks ?_
    refine Rs 3 fun Q' K hK => ?_
    refine M1 hE 8 fun K' J ρ q8 => ?_; go_simp; (try clear q8)
    refine Ln hE J fun _ Eb => ?_; clear J K' hE a
    refine M1 Eb 20 fun K' J ρ q20 => ?_; go_simp; (try go_bits); (try simp (disch := omega) only [IntWalk.i64_in]); (try clear q20)
    refine Ln Eb J fun _ Ea => ?_; clear J K' Eb
    refine M1 Ea 21 fun K' J ρ q21 => ?_; go_simp; (try clear q21)
    refine Ln Ea J fun _ Eb => ?_; clear J K' Ea
    refine late_done [1, 7, 8] Eb hK (fun a hE => ?_); clear hK K Q' Eb; simp only [lk, pick, Nat.reduceEqDiff, ↓reduceIte] at hE
    refine Ks ?_
    exact ⟨k + 1, ⟨hlt, by simpa using hE, hW.trans (h4.mono hW.size), fun i h1 h2 => HF.out i h1 h2⟩, by omega⟩
   ·rw [hqv] at hE
    have HF := hid (HA2.out.1 hqv)
    refine cond_yes hE (t := 27) rfl ?_
    refine Ks ?_
    refine Rs 2 fun Q' K hK => ?_
    refine M0 fun K' J ρ => ?_; go_simp;
    refine Ln hE J fun _ Eb => ?_; clear J K' hE a
    refine M0 fun K' J ρ => ?_; go_simp;
    refine Ln Eb J fun _ Ea => ?_; clear J K' Eb
    refine late_done [4, 5] Ea hK (fun a hE => ?_); clear hK K Q' Ea; simp only [lk, pick, Nat.reduceEqDiff, ↓reduceIte] at hE
    refine Ks ?_
    exact ret_two hE rfl rfl rfl ⟨by rw [HP.out _ HF.out], hbr.trans (h4.mono hbr.size)⟩
  ·have hkk : k = l.length := by have := of_decide_eq_false h; omega
   clear h
   have HF : Hid (l.any (fun t => sameP t ps) = false) := hid (by
    rw [List.any_eq_false]
    intro t ht
    obtain ⟨i, hi, rfl⟩ := List.getElem_of_mem ht
    rw [HN.out i hi (by omega)]
    decide)
   refine Ks ?_
   refine Rs 2 fun Q' K hK => ?_
   refine M0 fun K' J ρ => ?_; go_simp;
   refine Ln hE J fun _ Eb => ?_; clear J K' hE a
   refine M0 fun K' J ρ => ?_; go_simp;
   refine Ln Eb J fun _ Ea => ?_; clear J K' Eb
   refine late_done [4, 5] Ea hK (fun a hE => ?_); clear hK K Q' Ea; simp only [lk, pick, Nat.reduceEqDiff, ↓reduceIte] at hE
   refine Ks ?_
   exact ret_two hE rfl rfl rfl ⟨by rw [HP.out _ HF.out], hbr⟩
end
end Go.Proofs.YtbimkcjdodgojaaGreat
namespace Go.Proofs.YtbimkcjdodgojaaGreat
set_option linter.unusedSimpArgs false
set_option linter.unusedVariables false
open Go Go.RowKit
attribute [local go_sem high] cell_set_wr
attribute [local go_sem low] cell_wr frozen_wr
attribute [local go_sem] wr_set wr_drew wr_drewN wr_alloc wr_new Rho.c Rho.n Rho.g
set_option maxRecDepth 100000 in
set_option maxHeartbeats 1000000 in
theorem rpair_any (A : Option Addr) (c : Nat) (t : Prs) (l : Nat) (w : World) (hA : Arr w w.heap.size A (pairsV t)) (ht : t.length ≤ 9223372036854775807) : Calls Tryz.prog 64 #[.slice A t.length c, .int .i64 l] w fun e w' => e = .returned (.int .i64 (matchP t l)) ∧ Below w.heap.size w w' := by
 refine enterE Tryz.func64 rfl Tryz.ntmps64 (by simp) (fun a hE => ?_); simp only [envOf, Nat.zero_add, Nat.reduceAdd] at hE
 refine Ks ?_
 refine Rs 1 fun Q' K hK => ?_
 refine M0 fun K' J ρ => ?_; go_simp;
 refine Ln hE J fun _ Eb => ?_; clear J K' hE a
 refine late_done [0, 1, 4] Eb hK (fun a hE => ?_); clear hK K Q' Eb; simp only [lk, pick, Nat.reduceEqDiff, ↓reduceIte] at hE
 refine Ks ?_
 refine Rs 1 fun Q' K hK => ?_
 refine M0 fun K' J ρ => ?_; go_simp;
 refine Ln hE J fun _ Eb => ?_; clear J K' hE a
 refine late_done [0, 1, 5] Eb hK (fun a hE => ?_); clear hK K Q' Eb; simp only [lk, pick, Nat.reduceEqDiff, ↓reduceIte] at hE
 refine Ks ?_
 refine loop_st (fun (k : Nat) a w' => k ≤ t.length ∧ Fits 36 [(0, .slice A t.length c), (1, .int .i64 l), (5, .int .i64 k)] a ∧ w = w' ∧ matchP (t.drop k) l = matchP t l) (fun k => t.length - k) 0 ?_ (fun k a w' hI => ?_)
 ·exact ⟨Nat.zero_le _, by simpa using hE, rfl, rfl⟩
 clear hE
 obtain ⟨hk, hE, rfl, hM⟩ := hI
 have HM := hid hM
 clear hM
 refine Ks ?_
 refine Rs 4 fun Q' K hK => ?_
 refine M1 hE 5 fun K' J ρ q5 => ?_; go_simp; (try clear q5)
 refine Ln hE J fun _ Eb => ?_; clear J K' hE a
 refine M1 Eb 0 fun K' J ρ q0 => ?_; go_simp; (try clear q0)
 refine Ln Eb J fun _ Ea => ?_; clear J K' Eb
 refine M1 Ea 7 fun K' J ρ q7 => ?_; go_simp; (try go_bits); (try clear q7)
 refine Ln Ea J fun _ Eb => ?_; clear J K' Ea
 refine M2 Eb 6 8 fun K' J ρ q6 q8 => ?_; go_simp; (try go_bits); (try clear q6 q8)
 refine Ln Eb J fun _ Ea => ?_; clear J K' Eb
 refine late_done [0, 1, 5, 9] Ea hK (fun a hE => ?_); clear hK K Q' Ea; simp only [lk, pick, Nat.reduceEqDiff, ↓reduceIte] at hE
 refine Ks ?_
 refine cond_part hE (t := 9) rfl (fun h => ?_) (fun h => ?_)
 ·have hlt : k < t.length := by have := of_decide_eq_true h; omega
  clear h
  have hltI : (k : Int) < t.length := by omega
  have hd := matchP_drop t k hlt l
  have HD := hid hd
  clear hd
  obtain ⟨b, o, rfl, hb, c0, c1⟩ := hA.pr hlt
  obtain ⟨p, hp⟩ : ∃ p, t[k] = p := ⟨_, rfl⟩
  rw [hp] at c0 c1
  have HP := hid hp
  clear hp
  refine Ks ?_
  refine Rs 7 fun Q' K hK => ?_
  refine M1 hE 0 fun K' J ρ q0 => ?_; go_simp; (try clear q0)
  refine Ln hE J fun _ Eb => ?_; clear J K' hE a
  refine M1 Eb 5 fun K' J ρ q5 => ?_; go_simp; (try clear q5)
  refine Ln Eb J fun _ Ea => ?_; clear J K' Eb
  refine M2 Ea 12 13 fun K' J ρ q12 q13 => ?_; go_simp; (try go_bits); (try clear q12 q13)
  refine Ln Ea J fun _ Eb => ?_; clear J K' Ea
  refine M1 Eb 14 fun K' J ρ q14 => ?_; go_simp; (try clear q14)
  refine Ln Eb J fun _ Ea => ?_; clear J K' Eb
  refine M1 Ea 15 fun K' J ρ q15 => ?_; go_simp; (try clear q15)
  refine Ln Ea J fun _ Eb => ?_; clear J K' Ea
  refine M1 Eb 1 fun K' J ρ q1 => ?_; go_simp; (try clear q1)
  refine Ln Eb J fun _ Ea => ?_; clear J K' Eb
  refine M2 Ea 16 17 fun K' J ρ q16 q17 => ?_; go_simp; (try go_bits); (try clear q16 q17)
  refine Ln Ea J fun _ Eb => ?_; clear J K' Ea
  refine late_done [0, 1, 5, 18] Eb hK (fun a hE => ?_); clear hK K Q' Eb; simp only [lk, pick, Nat.reduceEqDiff, ↓reduceIte] at hE
  refine Ks ?_
  refine cond_part hE (t := 18) rfl (fun h => ?_) (fun h => ?_)
  ·have hh : l = p.1 := by (have h' : ((p.1 : Int) = l) := (by simpa using h)); omega
   refine Ks ?_
   refine Rs 6 fun Q' K hK => ?_
   refine M1 hE 0 fun K' J ρ q0 => ?_; go_simp; (try clear q0)
   refine Ln hE J fun _ Eb => ?_; clear J K' hE a
   refine M1 Eb 5 fun K' J ρ q5 => ?_; go_simp; (try clear q5)
   refine Ln Eb J fun _ Ea => ?_; clear J K' Eb
   refine M2 Ea 19 20 fun K' J ρ q19 q20 => ?_; go_simp; (try go_bits); (try clear q19 q20)
   refine Ln Ea J fun _ Eb => ?_; clear J K' Ea
   refine M1 Eb 21 fun K' J ρ q21 => ?_; go_simp; (try clear q21)
   refine Ln Eb J fun _ Ea => ?_; clear J K' Eb
   refine M1 Ea 22 fun K' J ρ q22 => ?_; go_simp; (try clear q22)
   refine Ln Ea J fun _ Eb => ?_; clear J K' Ea
   refine M1 Eb 23 fun K' J ρ q23 => ?_; go_simp; (try clear q23)
   refine Ln Eb J fun _ Ea => ?_; clear J K' Eb
   refine late_done [4] Ea hK (fun a hE => ?_); clear hK K Q' Ea; simp only [lk, pick, Nat.reduceEqDiff, ↓reduceIte] at hE
   refine Ks ?_
   exact ret_one hE rfl rfl ⟨by rw [← HM.out, HD.out, HP.out, if_pos hh], Below.refl _ _⟩
  ·have hh : ¬ l = p.1 := by (have h' : ¬ ((p.1 : Int) = l) := (by simpa using h)); omega
   have HH := hid hh
   clear h hh
   refine Ks ?_
   refine Rs 7 fun Q' K hK => ?_
   refine M1 hE 0 fun K' J ρ q0 => ?_; go_simp; (try clear q0)
   refine Ln hE J fun _ Eb => ?_; clear J K' hE a
   refine M1 Eb 5 fun K' J ρ q5 => ?_; go_simp; (try clear q5)
   refine Ln Eb J fun _ Ea => ?_; clear J K' Eb
   refine M2 Ea 24 25 fun K' J ρ q24 q25 => ?_; go_simp; (try go_bits); (try clear q24 q25)
   refine Ln Ea J fun _ Eb => ?_; clear J K' Ea
   refine M1 Eb 26 fun K' J ρ q26 => ?_; go_simp; (try clear q26)
   refine Ln Eb J fun _ Ea => ?_; clear J K' Eb
   refine M1 Ea 27 fun K' J ρ q27 => ?_; go_simp; (try clear q27)
   refine Ln Ea J fun _ Eb => ?_; clear J K' Ea
   refine M1 Eb 1 fun K' J ρ q1 => ?_; go_simp; (try clear q1)
   refine Ln Eb J fun _ Ea => ?_; clear J K' Eb
   refine M2 Ea 28 29 fun K' J ρ q28 q29 => ?_; go_simp; (try go_bits); (try clear q28 q29)
   refine Ln Ea J fun _ Eb => ?_; clear J K' Ea
   refine late_done [0, 1, 5, 30] Eb hK (fun a hE => ?_); clear hK K Q' Eb; simp only [lk, pick, Nat.reduceEqDiff, ↓reduceIte] at hE
   refine Ks ?_
   refine cond_part hE (t := 30) rfl (fun h => ?_) (fun h => ?_)
   ·have hh : l = p.2 := by (have h' : ((p.2 : Int) = l) := (by simpa using h)); omega
    refine Ks ?_
    refine Rs 6 fun Q' K hK => ?_
    refine M1 hE 0 fun K' J ρ q0 => ?_; go_simp; (try clear q0)
    refine Ln hE J fun _ Eb => ?_; clear J K' hE a
    refine M1 Eb 5 fun K' J ρ q5 => ?_; go_simp; (try clear q5)
    refine Ln Eb J fun _ Ea => ?_; clear J K' Eb
    refine M2 Ea 31 32 fun K' J ρ q31 q32 => ?_; go_simp; (try go_bits); (try clear q31 q32)
    refine Ln Ea J fun _ Eb => ?_; clear J K' Ea
    refine M1 Eb 33 fun K' J ρ q33 => ?_; go_simp; (try clear q33)
    refine Ln Eb J fun _ Ea => ?_; clear J K' Eb
    refine M1 Ea 34 fun K' J ρ q34 => ?_; go_simp; (try clear q34)
    refine Ln Ea J fun _ Eb => ?_; clear J K' Ea
    refine M1 Eb 35 fun K' J ρ q35 => ?_; go_simp; (try clear q35)
    refine Ln Eb J fun _ Ea => ?_; clear J K' Eb
    refine late_done [4] Ea hK (fun a hE => ?_); clear hK K Q' Ea; simp only [lk, pick, Nat.reduceEqDiff, ↓reduceIte] at hE
    refine Ks ?_
    exact ret_one hE rfl rfl ⟨by rw [← HM.out, HD.out, HP.out, if_neg HH.out, if_pos hh], Below.refl _ _⟩
   ·have hh : ¬ l = p.2 := by (have h' : ¬ ((p.2 : Int) = l) := (by simpa using h)); omega
    refine Ks ?_
    refine Rs 3 fun Q' K hK => ?_
    refine M1 hE 5 fun K' J ρ q5 => ?_; go_simp; (try clear q5)
    refine Ln hE J fun _ Eb => ?_; clear J K' hE a
    refine M1 Eb 10 fun K' J ρ q10 => ?_; go_simp; (try go_bits); (try simp (disch := omega) only [IntWalk.i64_in]); (try clear q10)
    refine Ln Eb J fun _ Ea => ?_; clear J K' Eb
    refine M1 Ea 11 fun K' J ρ q11 => ?_; go_simp; (try clear q11)
    refine Ln Ea J fun _ Eb => ?_; clear J K' Ea
    refine late_done [0, 1, 5] Eb hK (fun a hE => ?_); clear hK K Q' Eb; simp only [lk, pick, Nat.reduceEqDiff, ↓reduceIte] at hE
    refine Ks ?_
    refine ⟨k + 1, ⟨hlt, by simpa using hE, rfl, ?_⟩, by omega⟩
    rw [← HM.out, HD.out, HP.out, if_neg HH.out, if_neg hh]
 ·have hkk : k = t.length := by have := of_decide_eq_false h; omega
  clear h
  refine Ks ?_
  refine Rs 1 fun Q' K hK => ?_
  refine M0 fun K' J ρ => ?_; go_simp;
  refine Ln hE J fun _ Eb => ?_; clear J K' hE a
  refine late_done [4] Eb hK (fun a hE => ?_); clear hK K Q' Eb; simp only [lk, pick, Nat.reduceEqDiff, ↓reduceIte] at hE
  refine Ks ?_
  exact ret_one hE rfl rfl ⟨by rw [← HM.out, hkk, List.drop_length]; rfl, Below.refl _ _⟩
end Go.Proofs.YtbimkcjdodgojaaGreat
namespace Go.Proofs.YtbimkcjdodgojaaGreat
set_option linter.unusedSimpArgs false
set_option linter.unusedVariables false
open Go Go.RowKit
attribute [local go_sem high] cell_set_wr
attribute [local go_sem low] cell_wr frozen_wr
attribute [local go_sem] wr_set wr_drew wr_drewN wr_alloc wr_new Rho.c Rho.n Rho.g
section
variable (A : Option Addr) (cap : Nat) (L : Option Addr) (lcap : Nat) (b : Bk)
set_option maxRecDepth 100000 in
theorem rAll_any (w : World) (hM : BkAt w A L b)
    (HF : Hid (∀ (W : World), BkAt W A L b → Calls Tryz.prog 76 #[.agg (bkV A cap L lcap b).toArray, .int .i64 0, .slice none 0 0] W fun e w' => (∃ O c, e = .returned (.slice O (truthsR b).length c) ∧ TruAt w' w'.heap.size O (truthsR b)) ∧ Below W.heap.size W w')) :
    Calls Tryz.prog 42 #[.agg (bkV A cap L lcap b).toArray] w fun e w' => (∃ O c, e = .returned (.slice O (truthsR b).length c) ∧ TruAt w' w'.heap.size O (truthsR b)) ∧ Below w.heap.size w w' := by
 obtain ⟨l, hl⟩ : ∃ l, truthsR b = l := ⟨_, rfl⟩
 rw [hl] at HF ⊢
 clear hl
 simp only [bkV] at HF ⊢
 refine enterE Tryz.func42 rfl Tryz.ntmps42 (by simp) (fun a hE => ?_); simp only [envOf, Nat.zero_add, Nat.reduceAdd] at hE
 refine Ks ?_
 refine Rs 2 fun Q' K hK => ?_
 refine M1 hE 0 fun K' J ρ q0 => ?_; go_simp; (try clear q0)
 refine Ln hE J fun _ Eb => ?_; clear J K' hE a
 refine M0 fun K' J ρ => ?_; go_simp;
 refine Ln Eb J fun _ Ea => ?_; clear J K' Eb
 refine late_done [1] Ea hK (fun a hE => ?_); clear hK K Q' Ea; simp only [lk, pick, Nat.reduceEqDiff, ↓reduceIte] at hE
 obtain ⟨B, hBe⟩ : ∃ B, B = w.heap.size := ⟨_, rfl⟩; rw [← hBe] at hE; refine world_cut (fun wt => Below w.heap.size w wt ∧ Cells wt B (bkV A cap L lcap b)) ⟨(Below.refl _ _).alloc (Nat.le_refl _) _, by rw [hBe]; exact cells_new _ _ _⟩ (fun w1 hCut => ?_); obtain ⟨hbw1, hCB⟩ := hCut; clear hBe
 have hM1 := hM.below hbw1
 simp only [bkV] at hCB
 have nB := hCB.1; have cB0 := hCB.2 0 _ rfl; have cB1 := hCB.2 1 _ rfl; have cB2 := hCB.2 2 _ rfl; have cB3 := hCB.2 3 _ rfl; have cB4 := hCB.2 4 _ rfl; have cB5 := hCB.2 5 _ rfl; have cB6 := hCB.2 6 _ rfl
 refine Ks ?_
 refine Rs 3 fun Q' K hK => ?_
 refine M1 hE 1 fun K' J ρ q1 => ?_; go_simp; (try clear q1)
 refine Ln hE J fun _ Eb => ?_; clear J K' hE a
 refine M1 Eb 3 fun K' J ρ q3 => ?_; go_simp; (try go_bits); (try clear q3)
 go_at_call 76; refine (HF.out _ hM1).mono ?_; rintro e w2 ⟨⟨O, oc, rfl, hT⟩, h2⟩
 (try clear r3)
 refine Ln Eb J fun _ Ea => ?_; clear J K' Eb
 refine M1 Ea 4 fun K' J ρ q4 => ?_; go_simp; (try clear q4)
 refine Ln Ea J fun _ Eb => ?_; clear J K' Ea
 refine late_done [2] Eb hK (fun a hE => ?_); clear hK K Q' Eb; simp only [lk, pick, Nat.reduceEqDiff, ↓reduceIte] at hE
 refine Ks ?_
 exact ret_one hE rfl rfl ⟨⟨O, oc, rfl, hT⟩, hbw1.trans (h2.mono hbw1.size)⟩
end
end Go.Proofs.YtbimkcjdodgojaaGreat
