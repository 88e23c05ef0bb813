/- Name: the reference's from, walked. -/
import Derived.Test.YtbimkcjdodgojaaGreatKBNdj

namespace Go.Proofs.YtbimkcjdodgojaaGreat
set_option linter.unusedSimpArgs false
set_option linter.unusedVariables false
open Go Go.RowKit
attribute [local go_sem high] cell_set_wr
attribute [local go_sem low] cell_wr frozen_wr
attribute [local go_sem] wr_set wr_drew wr_drewN wr_alloc wr_new Rho.c Rho.n Rho.g
section
variable (A : Option Addr) (cap : Nat) (L : Option Addr) (lcap : Nat) (b : Bk)
set_option maxRecDepth 100000 in
set_option maxHeartbeats 4000000 in
theorem rfrom_any (h9 : b.lines.length ≤ 9) (hlost : 0 ≤ b.lost ∧ b.lost ≤ 9)
    (HC : Hid (∀ (i k : Nat) (W : World), i < b.lines.length → k < b.lines.length → BkAt W A L b → Calls Tryz.prog 31 #[.agg (bkV A cap L lcap b).toArray, .int .i64 i, .int .i64 k] W fun e w' => e = .returned (.bool (canL b (b.lines.getD i zeroLn) (b.lines.getD k zeroLn))) ∧ Below W.heap.size W w')) :
    ∀ (r k : Nat) (x : Int) (t : Prs) (S : Option Addr) (c : Nat) (w : World), k + r = b.lines.length → x = k → t.length ≤ k → BkAt w A L b → w.ownsRow 0 82 2 (.slice S t.length c) t.length (pairsV t) →
    Calls Tryz.prog 76 #[.agg (bkV A cap L lcap b).toArray, .int .i64 x, .slice S t.length c] w fun e w' => (∃ v, e = .returned v ∧ RetF w.heap.size (fromR b.lines.length b.lost (couldsP b) r k t) v w') ∧ Below w.heap.size w w' := by
 intro r
 induction r with
 | zero =>
  intro k x t S c w hk hx ht hM hS
  subst hx
  obtain ⟨n, hn⟩ : ∃ n, n = b.lines.length := ⟨_, rfl⟩
  have hkn : k = n := by omega
  subst hkn
  have HN := hid hn
  have hlt : t.length ≤ 9 := by omega
  have HR : Hid (fromR k b.lost (couldsP b) 0 k t = if (k : Int) - 2 * t.length ≤ b.lost then [t] else []) := hid (by unfold fromR; rfl)
  have hk9 : k ≤ 9 := by omega
  clear hk ht HC
  simp only [bkV]
  rw [← hn]
  clear hn
  refine enterE Tryz.func76 rfl Tryz.ntmps76 (by simp) (fun a hE => ?_); simp only [envOf, Nat.zero_add, Nat.reduceAdd] at hE
  refine Ks ?_
  refine Rs 2 fun Q' K hK => ?_
  refine M1 hE 0 fun K' J ρ q0 => ?_; go_simp
  refine Ln hE J fun _ Eb => ?_; clear J K' hE a q0
  refine M0 fun K' J ρ => ?_; go_simp;
  refine Ln Eb J fun _ Ea => ?_; clear J K' Eb
  refine Ld [1, 2, 3] Ea hK fun a hE => ?_; clear hK K Q' Ea
  obtain ⟨B, hBe⟩ : ∃ B, B = w.heap.size := ⟨_, rfl⟩; rw [← hBe] at hE; refine world_cut (fun wt => Below w.heap.size w wt ∧ Cells wt B [.slice A b.ear.alike.length cap, .string b.ear.mute, .int .i64 b.ear.slips, .slice L k lcap, .int .i64 b.lo, .int .i64 b.hi, .int .i64 b.lost]) ⟨(Below.refl _ _).alloc (Nat.le_refl _) _, by rw [hBe]; exact cells_new _ _ _⟩ (fun w1 hCut => ?_); obtain ⟨hbw1, hCB⟩ := hCut; clear hBe
  have hS1 := own_below hS hbw1
  obtain ⟨nB, cB0, cB1, cB2, cB3, cB4, cB5, cB6⟩ := hCB.c7
  refine Ks ?_
  refine Rs 5 fun Q' K hK => ?_
  refine M1 hE 1 fun K' J ρ q1 => ?_; go_simp
  refine Ln hE J fun _ Eb => ?_; clear J K' hE a q1
  refine M1 Eb 3 fun K' J ρ q3 => ?_; go_simp
  refine Ln Eb J fun _ Ea => ?_; clear J K' Eb q3
  refine M1 Ea 10 fun K' J ρ q10 => ?_; go_simp
  refine Ln Ea J fun _ Eb => ?_; clear J K' Ea q10
  refine M1 Eb 11 fun K' J ρ q11 => ?_; go_simp; (try go_bits)
  refine Ln Eb J fun _ Ea => ?_; clear J K' Eb q11
  refine M2 Ea 9 12 fun K' J ρ q9 q12 => ?_; go_simp; (try go_bits)
  refine Ln Ea J fun _ Eb => ?_; clear J K' Ea q9 q12
  replace Eb := Eb.turn 13 (v' := .bool true) rfl (by simp)
  refine Ld [1, 2, 3, 13] Eb hK fun a hE => ?_; clear hK K Q' Eb
  refine Ks ?_
  refine cond_yes hE (t := 13) rfl ?_
  refine Ks ?_
  refine Rs 10 fun Q' K hK => ?_
  refine M1 hE 3 fun K' J ρ q3 => ?_; go_simp
  refine Ln hE J fun _ Eb => ?_; clear J K' hE a q3
  refine M1 Eb 14 fun K' J ρ q14 => ?_; go_simp
  refine Ln Eb J fun _ Ea => ?_; clear J K' Eb q14
  refine M1 Ea 15 fun K' J ρ q15 => ?_; go_simp; (try go_bits)
  refine Ln Ea J fun _ Eb => ?_; clear J K' Ea q15
  refine M1 Eb 2 fun K' J ρ q2 => ?_; go_simp
  refine Ln Eb J fun _ Ea => ?_; clear J K' Eb q2
  refine M1 Ea 17 fun K' J ρ q17 => ?_; go_simp; (try go_bits)
  refine Ln Ea J fun _ Eb => ?_; clear J K' Ea q17
  refine M1 Eb 18 fun K' J ρ q18 => ?_; go_simp; (try go_bits); (try simp (disch := omega) only [IntWalk.i64_in])
  refine Ln Eb J fun _ Ea => ?_; clear J K' Eb q18
  refine M2 Ea 16 19 fun K' J ρ q16 q19 => ?_; go_simp; (try go_bits); (try simp (disch := omega) only [IntWalk.i64_in])
  refine Ln Ea J fun _ Eb => ?_; clear J K' Ea q16 q19
  refine M1 Eb 3 fun K' J ρ q3 => ?_; go_simp
  refine Ln Eb J fun _ Ea => ?_; clear J K' Eb q3
  refine M1 Ea 21 fun K' J ρ q21 => ?_; go_simp
  refine Ln Ea J fun _ Eb => ?_; clear J K' Ea q21
  refine M2 Eb 20 22 fun K' J ρ q20 q22 => ?_; go_simp; (try go_bits)
  refine Ln Eb J fun _ Ea => ?_; clear J K' Eb q20 q22
  refine Ld [2, 23] Ea hK fun a hE => ?_; clear hK K Q' Ea
  refine Ks ?_
  refine cond_part hE (t := 23) rfl (fun h => ?_) (fun h => ?_)
  ·have hq : ¬ (k : Int) - 2 * t.length ≤ b.lost := by have := of_decide_eq_true h; omega
   clear h
   refine Ks ?_
   refine Rs 1 fun Q' K hK => ?_
   refine M0 fun K' J ρ => ?_; go_simp;
   refine Ln hE J fun _ Eb => ?_; clear J K' hE a
   refine Ld [6] Eb hK fun a hE => ?_; clear hK K Q' Eb
   refine Ks ?_
   refine ret_one hE rfl rfl ⟨⟨_, rfl, ?_⟩, hbw1⟩
   rw [HR.out, if_neg hq]
   exact ⟨[], own_nil _ _ _ _, Rows2.nil _ _ _ _ _⟩
  ·have hq : (k : Int) - 2 * t.length ≤ b.lost := by have := of_decide_eq_false h; omega
   clear h
   refine Ks ?_
   refine Rs 3 fun Q' K hK => ?_
   refine M1 hE 2 fun K' J ρ q2 => ?_; go_simp
   refine Ln hE J fun _ Eb => ?_; clear J K' hE a q2
   refine M1 Eb 24 fun K' J ρ q24 => ?_; go_simp
   refine Ln Eb J fun _ Ea => ?_; clear J K' Eb q24
   refine M1 Ea 25 fun K' J ρ q25 => ?_; go_simp
   refine Ln Ea J fun _ Eb => ?_; clear J K' Ea q25
   refine Ld [6] Eb hK fun a hE => ?_; clear hK K Q' Eb
   refine world_cut (fun wt => RetF w.heap.size [t] (.slice (some ⟨w1.heap.size, 0, none⟩) 1 1) wt ∧ Below w.heap.size w wt) ⟨⟨[.slice S t.length c], ⟨rfl, .inr ⟨w1.heap.size, 1, #[.slice S t.length c], rfl, hbw1.size, heap_alloc_new w1 _, Nat.le_refl _, by simp [maxLen], rfl, rfl⟩⟩, ⟨rfl, fun i v l hv hl => ?_⟩⟩, hbw1.alloc hbw1.size _⟩ (fun w2 hC => ?_)
   ·cases i with
    | zero => simp at hv hl; subst hv; subst hl; exact hS1.alloc _
    | succ i => simp at hv
   obtain ⟨hR2, hb2⟩ := hC
   refine Ks ?_
   refine ret_one hE rfl rfl ⟨⟨_, rfl, ?_⟩, hb2⟩
   rw [HR.out, if_pos hq]
   exact hR2
 | succ r ih =>
  intro k x t S c w hk hx ht hM hS
  have IH := hid ih
  clear ih
  subst hx
  have hlt : t.length ≤ 9 := by omega
  have hkl : k < b.lines.length := by omega
  have HP10 : Hid (10 ^ (r + 1) ≤ 1000000000) := hid (by
   have := Nat.pow_le_pow_right (n := 10) (by decide) (show r + 1 ≤ 9 by omega)
   simpa using this)
  obtain ⟨bl, ol, hL, hbl, y0, _, _⟩ := hM.2.nl hkl
  subst hL
  have ek : b.lines.getD k zeroLn = b.lines[k] := by rw [List.getD_eq_getElem?_getD]; simp [hkl]
  obtain ⟨bk, hbk⟩ : ∃ bk, b.lines[k].book = bk := ⟨_, rfl⟩
  rw [hbk] at y0
  have HB : Hid ((b.lines.getD k zeroLn).book = bk) := hid (by rw [ek]; exact hbk)
  clear hbk ek
  rw [outR_done hkl]
  have hkI : (k : Int) < b.lines.length := by omega
  have HM := hid hM
  clear hM
  simp only [bkV] at HC IH ⊢
  refine enterE Tryz.func76 rfl Tryz.ntmps76 (by simp) (fun a hE => ?_); simp only [envOf, Nat.zero_add, Nat.reduceAdd] at hE
  refine Ks ?_
  refine Rs 2 fun Q' K hK => ?_
  refine M1 hE 0 fun K' J ρ q0 => ?_; go_simp
  refine Ln hE J fun _ Eb => ?_; clear J K' hE a q0
  refine M0 fun K' J ρ => ?_; go_simp;
  refine Ln Eb J fun _ Ea => ?_; clear J K' Eb
  refine Ld [1, 2, 3] Ea hK fun a hE => ?_; clear hK K Q' Ea
  obtain ⟨B, hBe⟩ : ∃ B, B = w.heap.size := ⟨_, rfl⟩; rw [← hBe] at hE; refine world_cut (fun wt => Below w.heap.size w wt ∧ Cells wt B (bkV A cap (some ⟨bl, ol, none⟩) lcap b)) ⟨(Below.refl _ _).alloc (Nat.le_refl _) _, by rw [hBe]; exact cells_new _ _ _⟩ (fun w1 hCut => ?_); obtain ⟨hbw1, hCB⟩ := hCut; clear hBe
  simp only [bkV] at hCB
  have hS1 := own_below hS hbw1
  have HM1 := hid (HM.out.below hbw1)
  have hbl1 : bl < w1.heap.size := Nat.lt_of_lt_of_le hbl hbw1.size
  have k0 : w1.cell? ⟨bl, ol + k * 3, none⟩ = some (.int .i64 bk) := (hbw1.cell (p := ⟨bl, ol + k * 3, none⟩) hbl).trans y0
  clear y0 HM hS
  obtain ⟨nB, cB0, cB1, cB2, cB3, cB4, cB5, cB6⟩ := hCB.c7
  refine Ks ?_
  refine Rs 5 fun Q' K hK => ?_
  refine M1 hE 1 fun K' J ρ q1 => ?_; go_simp
  refine Ln hE J fun _ Eb => ?_; clear J K' hE a q1
  refine M1 Eb 3 fun K' J ρ q3 => ?_; go_simp
  refine Ln Eb J fun _ Ea => ?_; clear J K' Eb q3
  refine M1 Ea 10 fun K' J ρ q10 => ?_; go_simp
  refine Ln Ea J fun _ Eb => ?_; clear J K' Ea q10
  refine M1 Eb 11 fun K' J ρ q11 => ?_; go_simp; (try go_bits)
  refine Ln Eb J fun _ Ea => ?_; clear J K' Eb q11
  refine M2 Ea 9 12 fun K' J ρ q9 q12 => ?_; go_simp; (try go_bits)
  refine Ln Ea J fun _ Eb => ?_; clear J K' Ea q9 q12
  replace Eb := Eb.turn 13 (v' := .bool false) rfl (by (first | (simp; done) | (simp; omega)))
  refine Ld [1, 2, 3, 13] Eb hK fun a hE => ?_; clear hK K Q' Eb
  refine Ks ?_
  refine cond_no hE (t := 13) rfl ?_
  refine Ks ?_
  refine Rs 6 fun Q' K hK => ?_
  refine M1 hE 3 fun K' J ρ q3 => ?_; go_simp
  refine Ln hE J fun _ Eb => ?_; clear J K' hE a q3
  refine M1 Eb 1 fun K' J ρ q1 => ?_; go_simp
  refine Ln Eb J fun _ Ea => ?_; clear J K' Eb q1
  refine M1 Ea 27 fun K' J ρ q27 => ?_; go_simp; (try go_bits); (try simp (disch := omega) only [IntWalk.i64_in])
  refine Ln Ea J fun _ Eb => ?_; clear J K' Ea q27
  refine M1 Eb 2 fun K' J ρ q2 => ?_; go_simp
  refine Ln Eb J fun _ Ea => ?_; clear J K' Eb q2
  refine M3 Ea 26 28 29 fun K' J ρ q26 q28 q29 => ?_; go_simp; (try go_bits); (try clear q26 q28 q29)
  go_at_call 76; refine (IH.out (k + 1) _ t S c w1 (by omega) (by omega) (by omega) HM1.out hS1).mono ?_; rintro e w2 ⟨⟨v0, rfl, hv0⟩, h2⟩
  (try clear r26 r28 r29)
  refine Ln Ea J fun _ Eb => ?_; clear J K' Ea
  refine M1 Eb 30 fun K' J ρ q30 => ?_; go_simp
  refine Ln Eb J fun _ Ea => ?_; clear J K' Eb q30
  refine Ld [1, 2, 3, 7] Ea hK fun a hE => ?_; clear hK K Q' Ea
  refine Ks ?_
  refine Rs 1 fun Q' K hK => ?_
  refine M0 fun K' J ρ => ?_; go_simp;
  refine Ln hE J fun _ Eb => ?_; clear J K' hE a
  refine Ld [1, 2, 3, 7, 8] Eb hK fun a hE => ?_; clear hK K Q' Eb
  refine Ks ?_
  refine loop_st (fun (m : Nat) a w' => m ≤ b.lines.length ∧ ∃ vo, Fits 72 [(1, .int .i64 k), (2, .slice S t.length c), (3, .pointer (some ⟨B, 0, none⟩)), (7, vo), (8, .int .i64 m)] a ∧ Below w1.heap.size w1 w' ∧ RetF w1.heap.size (outR b r k t m) vo w') (fun m => b.lines.length - m) 0 ⟨Nat.zero_le _, v0, by simpa using hE, h2, by simpa [outR] using hv0⟩ (fun m a w' hI => ?_)
  clear hE hv0
  obtain ⟨hm, vo, hE, hW, hV⟩ := hI
  obtain ⟨wr, hwr⟩ : ∃ x, x = w' := ⟨_, rfl⟩
  subst hwr
  have hbr := hbw1.trans (hW.mono hbw1.size)
  have HMr := hid (HM1.out.below hW)
  have hSr := own_below hS1 hW
  replace hCB := hCB.below hW
  have k1 : wr.cell? ⟨bl, ol + k * 3, none⟩ = some (.int .i64 bk) := (hW.cell (p := ⟨bl, ol + k * 3, none⟩) hbl1).trans k0
  have hblr : bl < wr.heap.size := Nat.lt_of_lt_of_le hbl1 hW.size
  clear nB cB0 cB1 cB2 cB3 cB4 cB5 cB6
  obtain ⟨nB, cB0, cB1, cB2, cB3, cB4, cB5, cB6⟩ := hCB.c7
  refine Ks ?_
  by_cases hlm : m < b.lines.length
  ·have hmI : (m : Int) < b.lines.length := by omega
   by_cases hb0 : bk = 0
   ·have HB0 := hid hb0
    clear hb0
    refine Rs 14 fun Q' K hK => ?_
    refine M1 hE 8 fun K' J ρ q8 => ?_; go_simp
    refine Ln hE J fun _ Eb => ?_; clear J K' hE a q8
    refine M1 Eb 3 fun K' J ρ q3 => ?_; go_simp
    refine Ln Eb J fun _ Ea => ?_; clear J K' Eb q3
    refine M1 Ea 32 fun K' J ρ q32 => ?_; go_simp
    refine Ln Ea J fun _ Eb => ?_; clear J K' Ea q32
    refine M1 Eb 33 fun K' J ρ q33 => ?_; go_simp; (try go_bits)
    refine Ln Eb J fun _ Ea => ?_; clear J K' Eb q33
    refine M2 Ea 31 34 fun K' J ρ q31 q34 => ?_; go_simp; (try go_bits)
    refine Ln Ea J fun _ Eb => ?_; clear J K' Ea q31 q34
    replace Eb := Eb.turn 35 (v' := .bool true) rfl (by (first | (simp; done) | (simp; omega)))
    refine M1 Eb 35 fun K' J ρ q35 => ?_; go_simp
    refine Ln Eb J fun _ Ea => ?_; clear J K' Eb q35
    refine N1 Ea 36 3 fun K' J ρ q3 => ?_; go_simp
    refine Ln Ea J fun _ Eb => ?_; clear J K' Ea q3
    refine N1 Eb 36 37 fun K' J ρ q37 => ?_; go_simp
    refine Ln Eb J fun _ Ea => ?_; clear J K' Eb q37
    refine N1 Ea 36 1 fun K' J ρ q1 => ?_; go_simp
    refine Ln Ea J fun _ Eb => ?_; clear J K' Ea q1
    refine N2 Eb 36 38 39 fun K' J ρ q38 q39 => ?_; go_simp; (try go_bits)
    refine Ln Eb J fun _ Ea => ?_; clear J K' Eb q38 q39
    refine N1 Ea 36 40 fun K' J ρ q40 => ?_; go_simp
    refine Ln Ea J fun _ Eb => ?_; clear J K' Ea q40
    refine N1 Eb 36 41 fun K' J ρ q41 => ?_; go_simp
    refine Ln Eb J fun _ Ea => ?_; clear J K' Eb q41
    refine N1 Ea 36 42 fun K' J ρ q42 => ?_; go_simp; (try go_bits)
    refine Ln Ea J fun _ Eb => ?_; clear J K' Ea q42
    refine M2 Eb 36 43 fun K' J ρ q36 q43 => ?_; go_simp; (try go_bits)
    refine Ln Eb J fun _ Ea => ?_; clear J K' Eb q36 q43
    replace Ea := Ea.turn 44 (v' := .bool true) rfl (by (simp [HB0.out]))
    refine Ld [1, 2, 3, 7, 8, 44] Ea hK fun a hE => ?_; clear hK K Q' Ea
    refine Ks ?_
    refine cond_yes hE (t := 44) rfl ?_
    refine Ks ?_
    obtain ⟨q, hq⟩ : ∃ q, canL b (b.lines.getD k zeroLn) (b.lines.getD m zeroLn) = q := ⟨_, rfl⟩
    have HQ := hid hq
    clear hq
    obtain ⟨_, _, e, _, _, hAt⟩ := own_form hSr
    cases e
    have CP := hid fun W hW => rpair_any S c t m W hW (by omega)
    have HT : Hid (∀ q', q = q' → tryR b k t m = (q' && decide (matchP t m < 0))) := hid fun q' h => by
     unfold tryR
     rw [HB.out, HB0.out, HQ.out, h]
     rfl
    obtain ⟨mt, hmt⟩ : ∃ mt, matchP t m = mt := ⟨_, rfl⟩
    rw [hmt] at CP HT
    clear hmt
    cases hqv : q
    ·have HF := hid (HT.out false hqv)
     have HQV := hid hqv
     clear hqv
     refine Rs 10 fun Q' K hK => ?_
     refine M1 hE 3 fun K' J ρ q3 => ?_; go_simp
     refine Ln hE J fun _ Eb => ?_; clear J K' hE a q3
     refine M1 Eb 1 fun K' J ρ q1 => ?_; go_simp
     refine Ln Eb J fun _ Ea => ?_; clear J K' Eb q1
     refine M1 Ea 8 fun K' J ρ q8 => ?_; go_simp
     refine Ln Ea J fun _ Eb => ?_; clear J K' Ea q8
     refine M3 Eb 47 48 49 fun K' J ρ q47 q48 q49 => ?_; go_simp; (try go_bits); (try clear q47 q48 q49)
     go_at_call 31; refine (HC.out k m _ hkl hlm HMr.out).mono ?_; rw [HQ.out, HQV.out]; rintro e w3 ⟨rfl, h3⟩
     (try clear r47 r48 r49)
     refine Ln Eb J fun _ Ea => ?_; clear J K' Eb
     refine M1 Ea 50 fun K' J ρ q50 => ?_; go_simp
     refine Ln Ea J fun _ Eb => ?_; clear J K' Ea q50
     refine Lno Eb 51 ?_
     refine Lu Eb fun _ Ea => ?_
     refine Lno Ea 51 ?_
     refine Lu Ea fun _ Eb => ?_
     refine Lno Eb 51 ?_
     refine Lu Eb fun _ Ea => ?_
     refine Lno Ea 51 ?_
     refine Lu Ea fun _ Eb => ?_
     refine M2 Eb 51 55 fun K' J ρ q51 q55 => ?_; go_simp; (try go_bits)
     refine Ln Eb J fun _ Ea => ?_; clear J K' Eb q51 q55
     refine Ld [1, 2, 3, 7, 8, 56] Ea hK fun a hE => ?_; clear hK K Q' Ea
     refine Ks ?_
     refine cond_no hE (t := 56) rfl ?_
     refine Ks ?_
     refine Rs 3 fun Q' K hK => ?_
     refine M1 hE 8 fun K' J ρ q8 => ?_; go_simp
     refine Ln hE J fun _ Eb => ?_; clear J K' hE a q8
     refine M1 Eb 45 fun K' J ρ q45 => ?_; go_simp; (try go_bits); (try simp (disch := omega) only [IntWalk.i64_in])
     refine Ln Eb J fun _ Ea => ?_; clear J K' Eb q45
     refine M1 Ea 46 fun K' J ρ q46 => ?_; go_simp
     refine Ln Ea J fun _ Eb => ?_; clear J K' Ea q46
     refine Ld [1, 2, 3, 7, 8] Eb hK fun a hE => ?_; clear hK K Q' Eb
     refine Ks ?_
     exact ⟨m + 1, ⟨hlm, vo, by simpa using hE, hW.trans (h3.mono hW.size), by rw [outR_no (by rw [HF.out]; rfl)]; exact hV.below h3⟩, by omega⟩
    ·have HF := hid (HT.out true hqv)
     have HQV := hid hqv
     clear hqv
     refine Rs 10 fun Q' K hK => ?_
     refine M1 hE 3 fun K' J ρ q3 => ?_; go_simp
     refine Ln hE J fun _ Eb => ?_; clear J K' hE a q3
     refine M1 Eb 1 fun K' J ρ q1 => ?_; go_simp
     refine Ln Eb J fun _ Ea => ?_; clear J K' Eb q1
     refine M1 Ea 8 fun K' J ρ q8 => ?_; go_simp
     refine Ln Ea J fun _ Eb => ?_; clear J K' Ea q8
     refine M3 Eb 47 48 49 fun K' J ρ q47 q48 q49 => ?_; go_simp; (try go_bits); (try clear q47 q48 q49)
     go_at_call 31; refine (HC.out k m _ hkl hlm HMr.out).mono ?_; rw [HQ.out, HQV.out]; rintro e w3 ⟨rfl, h3⟩
     (try clear r47 r48 r49)
     refine Ln Eb J fun _ Ea => ?_; clear J K' Eb
     refine M1 Ea 50 fun K' J ρ q50 => ?_; go_simp
     refine Ln Ea J fun _ Eb => ?_; clear J K' Ea q50
     refine N1 Eb 51 2 fun K' J ρ q2 => ?_; go_simp
     refine Ln Eb J fun _ Ea => ?_; clear J K' Eb q2
     refine N1 Ea 51 8 fun K' J ρ q8 => ?_; go_simp
     refine Ln Ea J fun _ Eb => ?_; clear J K' Ea q8
     refine N2 Eb 51 52 53 fun K' J ρ q52 q53 => ?_; go_simp; (try go_bits); (try clear q52 q53)
     go_at_call 64; refine (CP.out _ ((hAt.below h3).more h3.size)).mono ?_; rintro e w4 ⟨rfl, h4⟩
     (try clear r52 r53)
     refine Ln Eb J fun _ Ea => ?_; clear J K' Eb
     refine N1 Ea 51 54 fun K' J ρ q54 => ?_; go_simp; (try go_bits)
     refine Ln Ea J fun _ Eb => ?_; clear J K' Ea q54
     refine M2 Eb 51 55 fun K' J ρ q51 q55 => ?_; go_simp; (try go_bits)
     refine Ln Eb J fun _ Ea => ?_; clear J K' Eb q51 q55
     refine Ld [1, 2, 3, 7, 8, 56] Ea hK fun a hE => ?_; clear hK K Q' Ea
     have h34 := h3.trans (h4.mono h3.size)
     replace hV := hV.below h34
     replace hW := hW.trans (h34.mono hW.size)
     have HM4 := hid (HMr.out.below h34)
     have hS4 := own_below hSr h34
     replace hCB := hCB.below h34
     refine Ks ?_
     refine cond_part hE (t := 56) rfl (fun h => ?_) (fun h => ?_)
     ·have HY : Hid (tryR b k t m = true) := hid (by rw [HF.out]; exact h)
      clear h
      have hsz := outR_len h9 r k t (m := m) (by omega)
      have hnew := fromR_len b.lines.length b.lost (couldsP b) (couldsP_nine h9) r (k + 1) (t ++ [(k, m)])
      have hpow : 10 ^ r ≤ 10 ^ (r + 1) := Nat.pow_le_pow_right (by decide) (Nat.le_succ r)
      have hp9 := HP10.out
      have hlen1 : (t ++ [(k, m)]).length = t.length + 1 := by simp
      have HL1 := hid hlen1
      obtain ⟨u, hu⟩ : ∃ u, t ++ [(k, m)] = u := ⟨_, rfl⟩
      have HU := hid hu
      rw [hu] at hnew
      have CI := hid fun (W : World) (x : Int) (T : Option Addr) (d : Nat) (hx : x = ((k + 1 : Nat) : Int)) (hW : BkAt W A (some ⟨bl, ol, none⟩) b) (hT : W.ownsRow 0 82 2 (.slice T u.length d) u.length (pairsV u)) => IH.out (k + 1) x u T d W (by omega) hx (by rw [← hu, hlen1]; omega) hW hT
      obtain ⟨l2, hl2⟩ : ∃ l2, fromR b.lines.length b.lost (couldsP b) r (k + 1) u = l2 := ⟨_, rfl⟩
      have HL2 := hid hl2
      rw [hl2] at CI hnew
      clear hu hl2 hlen1 HP10
      refine Ks ?_
      refine region_drawn_app [13, 14] (fun wt => Below w4.heap.size w4 wt) (fun _ => True) (fun w1 w2 => Below w1.heap.size w1 w2) (fun wa wb => Room0 w4.heap.size t.length wa wb) [(0, some 57), (1, some 58), (2, some 59), (3, some 60), (4, some 61), (5, some 62), (6, some 63), (7, some 64), (8, some 65), (9, some 66), (10, some 67), (12, some 69)] [0, 1, 2, 3, 4, 5, 6, 7, 8, 9, 10, 11, 12] [57, 58, 59, 60, 61, 62, 63, 64, 65, 66, 67, 69, 68] 11 68 12 69 (MoreF w4.heap.size u) #[true, true, true, true, true, true, true, true, true, true, true, true, true, false, false] [1, 2, 3, 7, 8] hE (fun _ _ _ hR h => h.below hR) (fun _ _ _ _ => trivial) (by kernel_rfl) (by kernel_rfl) (by kernel_rfl) (by kernel_rfl) (by kernel_rfl) (by kernel_rfl) (by kernel_rfl) (by kernel_rfl) (by kernel_rfl) (by kernel_rfl) (by kernel_rfl) (by kernel_rfl) (by kernel_rfl) (by kernel_rfl) (by kernel_rfl) (by decide) (by kernel_rfl) (by kernel_rfl) ((Below.refl _ _).drew) (trivial) (fun Q' K hK => ?_)
      refine SeqA.val ?_ (Sp fun ax wx hS hT' hd K' J => ?_) ?_; rotate_left 1
      ·have r7 := hS.at 7 (by kernel_rfl) (hE.at 7 rfl); obtain ⟨_, _, _, _, _, _⟩ := bT hT'
       refine Go.Proofs.YtbimkcjdodgojaaGreat.o1 r7 fun ρ q7 => ?_; go_simp;
       exact Jo J hT'
      refine SeqA.val ?_ (Sp fun ax wx hS hT' hd K' J => ?_) ?_; rotate_left 1
      ·have r3 := hS.at 3 (by kernel_rfl) (hE.at 3 rfl); obtain ⟨_, _, _, _, _, _⟩ := bT hT'
       refine wp_load_mid 29 (.tmp 3) rfl B 0 (eval_of r3) (bkV A cap (some ⟨bl, ol, none⟩) lcap b) _ (fun j u hu => by rw [Nat.zero_add]; exact (hCB.below hT').2 j u hu) Tryz.underlying29 rfl (by kernel_rfl) ?_
       refine J.out _ _ _ rfl ?_ hT' (Below.refl _ _); rfl
      refine SeqA.val ?_ (Sp fun ax wx hS hT' hd K' J => ?_) ?_; rotate_left 1
      ·have r1 := hS.at 1 (by kernel_rfl) (hE.at 1 rfl); obtain ⟨_, _, _, _, _, _⟩ := bT hT'
       refine Go.Proofs.YtbimkcjdodgojaaGreat.o1 r1 fun ρ q1 => ?_; go_simp;
       exact Jo J hT'
      refine SeqA.val ?_ (Sp fun ax wx hS hT' hd K' J => ?_) ?_; rotate_left 1
      ·have r59 := Tv hd 0 2 59; obtain ⟨_, _, _, _, _, _⟩ := bT hT'
       refine Go.Proofs.YtbimkcjdodgojaaGreat.o1 r59 fun ρ q59 => ?_; go_simp; (try go_bits); (try simp (disch := omega) only [IntWalk.i64_in]);
       exact Jo J hT'
      refine SeqA.say (EmpF w4.heap.size) (fun _ _ _ hR h => h.below hR) (Sp fun ax wx hS hT' hd K' J => ?_) ?_
      ·obtain ⟨_, _, _, _, _, _⟩ := bT hT'
       refine o0 fun ρ => ?_; go_simp;
       exact J.out _ _ _ rfl ⟨wx.heap.size, rfl, hT'.size, heap_alloc_new wx _⟩ (hT'.alloc hT'.size _) ((Below.refl _ _).alloc (Nat.le_refl _) _)
      refine SeqA.val ?_ (Sp fun ax wx hS hT' hd K' J => ?_) ?_; rotate_left 1
      ·have r2 := hS.at 2 (by kernel_rfl) (hE.at 2 rfl); obtain ⟨_, _, _, _, _, _⟩ := bT hT'
       refine Go.Proofs.YtbimkcjdodgojaaGreat.o1 r2 fun ρ q2 => ?_; go_simp;
       exact Jo J hT'
      refine SeqA.say (CopF w4.heap.size t) (fun _ _ _ hR h => h.below hR) (Sp fun ax wx hS hT' hd K' J => ?_) ?_
      ·obtain ⟨v61, r61, h61⟩ := Tg hd 1 4 61; have r62 := Tv hd 0 5 62; obtain ⟨_, _, _, _, _, _⟩ := bT hT'
       obtain ⟨v6, w6, q1, q2, q3⟩ := run_copy (P := Tryz.prog) (w := wx) (N := w4.heap.size) 31 Tryz.underlying31 (by kernel_rfl) hT'.size h61 (own_below hS4 hT') hlt
       refine wp_app_run (.tmp 61) (.tmp 62) 31 rfl (eval_of r61) (eval_of r62) q1 ?_
       exact J.out _ _ _ rfl q2 (hT'.trans (q3.mono hT'.size)) q3
      refine SeqA.val ?_ (Sp fun ax wx hS hT' hd K' J => ?_) ?_; rotate_left 1
      ·have r1 := hS.at 1 (by kernel_rfl) (hE.at 1 rfl); obtain ⟨_, _, _, _, _, _⟩ := bT hT'
       refine Go.Proofs.YtbimkcjdodgojaaGreat.o1 r1 fun ρ q1 => ?_; go_simp;
       exact Jo J hT'
      refine SeqA.val ?_ (Sp fun ax wx hS hT' hd K' J => ?_) ?_; rotate_left 1
      ·have r8 := hS.at 8 (by kernel_rfl) (hE.at 8 rfl); obtain ⟨_, _, _, _, _, _⟩ := bT hT'
       refine Go.Proofs.YtbimkcjdodgojaaGreat.o1 r8 fun ρ q8 => ?_; go_simp;
       exact Jo J hT'
      refine SeqA.val ?_ (Sp fun ax wx hS hT' hd K' J => ?_) ?_; rotate_left 1
      ·have r64 := Tv hd 1 7 64; have r65 := Tv hd 0 8 65; obtain ⟨_, _, _, _, _, _⟩ := bT hT'
       refine Go.Proofs.YtbimkcjdodgojaaGreat.o2 r64 r65 fun ρ q64 q65 => ?_; go_simp;
       exact Jo J hT'
      refine SeqA.say (OneF w4.heap.size (k, m)) (fun _ _ _ hR h => h.below hR) (Sp fun ax wx hS hT' hd K' J => ?_) ?_
      ·have r66 := Tv hd 0 9 66; obtain ⟨_, _, _, _, _, _⟩ := bT hT'
       refine Go.Proofs.YtbimkcjdodgojaaGreat.o1 r66 fun ρ q66 => ?_; go_simp;
       exact J.out _ _ _ rfl ⟨wx.heap.size, rfl, hT'.size, heap_alloc_new wx _⟩ (hT'.alloc hT'.size _) ((Below.refl _ _).alloc (Nat.le_refl _) _)
      refine SeqA.say (RetF w4.heap.size l2) (fun _ _ _ hR h => h.below hR) (Sp fun ax wx hS hT' hd K' J => ?_) ?_
      ·have r58 := Tv hd 9 1 58; have r60 := Tv hd 7 3 60; obtain ⟨v68, r68, h68⟩ := Tg hd 11 11 68; obtain ⟨T, d, rfl, hT7⟩ := h68; obtain ⟨_, _, _, _, _, _⟩ := bT hT'
       refine Go.Proofs.YtbimkcjdodgojaaGreat.o3 r58 r60 r68 fun ρ q58 q60 q68 => ?_; go_simp; (try go_bits);
       go_at_call 76; refine (CI.out _ _ T d (by omega) (HM4.out.below hT') (own_mono hT7 (Nat.zero_le _))).mono ?_; rintro e g1 ⟨⟨v8, rfl, hv8⟩, k1⟩
       exact J.out _ _ _ rfl (hv8.more hT'.size) (hT'.trans (k1.mono hT'.size)) k1
      refine SeqA.nil ?_
      refine ⟨List.forall_mem_cons.2 ⟨.inr (.inl ⟨_, rfl, by kernel_rfl⟩), List.forall_mem_cons.2 ⟨.inr (.inr (fun _ _ _ hR h => h.room hR)), List.forall_mem_cons.2 ⟨.inr (.inr (fun _ _ _ _ h => h)), List.forall_mem_cons.2 ⟨.inr (.inr (fun _ _ _ _ h => h)), List.forall_mem_cons.2 ⟨.inr (.inr (fun _ _ _ _ h => h)), List.forall_mem_cons.2 ⟨.inr (.inr (fun _ _ _ hR h => h.room hR)), List.forall_mem_cons.2 ⟨.inr (.inr (fun _ _ _ _ h => h)), List.forall_mem_cons.2 ⟨.inr (.inr (fun _ _ _ hR h => h.room hR)), List.forall_mem_cons.2 ⟨.inr (.inr (fun _ _ _ _ h => h)), List.forall_mem_cons.2 ⟨.inr (.inr (fun _ _ _ _ h => h)), List.forall_mem_cons.2 ⟨.inr (.inr (fun _ _ _ _ h => h)), List.forall_mem_cons.2 ⟨.inr (.inr (fun _ _ _ _ h => h)), List.forall_mem_cons.2 ⟨.inl rfl, fun _ h => absurd h List.not_mem_nil⟩⟩⟩⟩⟩⟩⟩⟩⟩⟩⟩⟩⟩, StepApp.plain (by (first | (simp only [List.getElem?_toArray, List.getElem?_cons_succ, List.getElem?_cons_zero]; rfl) | rfl)) rfl (fun ax wx hS hT' hP' hd K' J => ?_), ?_⟩
      ·obtain ⟨v63, r63, h63⟩ := Tg hd 5 6 63; obtain ⟨v67, r67, h67⟩ := Tg hd 1 10 67; obtain ⟨_, _, _, _, _, _⟩ := bT hT'
       obtain ⟨v7, w7, q1, q2, q3⟩ := run_more (P := Tryz.prog) (w := wx) (N := w4.heap.size) 31 Tryz.underlying31 (by kernel_rfl) hT'.size h63 h67 hlt
       rw [HU.out] at q2
       refine wp_app_run (.tmp 63) (.tmp 67) 31 rfl (eval_of r63) (eval_of r67) q1 ?_
       exact J.out _ _ _ rfl (MoreF.of q2) (q3.below hT' hT'.size) q3
      intro w5 hBl; (refine fun v h => ?_; obtain ⟨T, d, rfl, hT7⟩ := h); (repeat refine Ek ?_); (refine fun v61 h61 => ?_); (repeat refine Ek ?_); (refine fun v63 h63 => ?_); (repeat refine Ek ?_); (refine fun v67 h67 => ?_); (refine fun v69 h69 => ?_);
      refine fun ax hEx => ?_
      simp only [lk, pick, Nat.reduceEqDiff, ↓reduceIte] at hEx
      refine Lp fun K' J => ?_
      have r57 := hEx.at 57 rfl; have r69 := hEx.at 69 rfl
      obtain ⟨vs, o1, o2⟩ := hV.below hBl
      obtain ⟨us, o3, o4⟩ := h69
      obtain ⟨O2, c2, rfl, _, _, ha2⟩ := own_form o3
      refine wp_appN (.tmp 57) (.tmp 69) 71 rfl w1.heap.size 31 (.slice none 0 0) 1 24 Tryz.underlying71 (by kernel_rfl) rfl (by decide) vo _ vs (eval_of r57) o1 w5.heap.size O2 _ c2 us (eval_of r69) ha2 (by rw [o4.1]; omega) o4.one (by simp only [maxLen]; omega) (by omega) (Nat.le_trans hW.size hBl.size) (fun A3 c3 w6 q1 q2 q3 q4 q5 => ?_)
      (try clear r57 r69)
      refine Ln hEx J fun _ Eb => ?_; clear J K' hEx
      refine M1 Eb 70 fun K' J ρ q70 => ?_; go_simp
      refine Ln Eb J fun _ Ea => ?_; clear J K' Eb q70
      refine Ld [1, 2, 3, 7, 8] Ea hK fun a hE => ?_; clear hK K Q' Ea
      have hW6 : Below w1.heap.size w1 w6 := (hW.trans (hBl.mono hW.size)).grown q4 (Nat.le_trans hW.size hBl.size) (ownBlock_le o1)
      have o2' := o2.map fun v n xs h => h.kept q4 (own_ne h o1 (by decide))
      have o4' := o4.map fun v n xs h => h.kept q4 (own_ne h o1 (by decide))
      clear hCB
      refine Ks ?_
      refine Rs 3 fun Q' K hK => ?_
      refine M1 hE 8 fun K' J ρ q8 => ?_; go_simp
      refine Ln hE J fun _ Eb => ?_; clear J K' hE a q8
      refine M1 Eb 45 fun K' J ρ q45 => ?_; go_simp; (try go_bits); (try simp (disch := omega) only [IntWalk.i64_in])
      refine Ln Eb J fun _ Ea => ?_; clear J K' Eb q45
      refine M1 Ea 46 fun K' J ρ q46 => ?_; go_simp
      refine Ln Ea J fun _ Eb => ?_; clear J K' Ea q46
      refine Ld [1, 2, 3, 7, 8] Eb hK fun a hE => ?_; clear hK K Q' Eb
      refine Ks ?_
      exact ⟨m + 1, ⟨hlm, _, by simpa using hE, hW6, by rw [outR_yes HY.out, HU.out, HL2.out]; exact ⟨vs ++ us, by rw [List.length_append]; exact q3, o2'.append o4'⟩⟩, by omega⟩
     ·have HY : Hid (tryR b k t m = false) := hid (by rw [HF.out]; exact h)
      clear h
      refine Ks ?_
      refine Rs 3 fun Q' K hK => ?_
      refine M1 hE 8 fun K' J ρ q8 => ?_; go_simp
      refine Ln hE J fun _ Eb => ?_; clear J K' hE a q8
      refine M1 Eb 45 fun K' J ρ q45 => ?_; go_simp; (try go_bits); (try simp (disch := omega) only [IntWalk.i64_in])
      refine Ln Eb J fun _ Ea => ?_; clear J K' Eb q45
      refine M1 Ea 46 fun K' J ρ q46 => ?_; go_simp
      refine Ln Ea J fun _ Eb => ?_; clear J K' Ea q46
      refine Ld [1, 2, 3, 7, 8] Eb hK fun a hE => ?_; clear hK K Q' Eb
      refine Ks ?_
      exact ⟨m + 1, ⟨hlm, vo, by simpa using hE, hW, by rw [outR_no HY.out]; exact hV⟩, by omega⟩
   ·have HB0 := hid hb0
    clear hb0
    refine Rs 14 fun Q' K hK => ?_
    refine M1 hE 8 fun K' J ρ q8 => ?_; go_simp
    refine Ln hE J fun _ Eb => ?_; clear J K' hE a q8
    refine M1 Eb 3 fun K' J ρ q3 => ?_; go_simp
    refine Ln Eb J fun _ Ea => ?_; clear J K' Eb q3
    refine M1 Ea 32 fun K' J ρ q32 => ?_; go_simp
    refine Ln Ea J fun _ Eb => ?_; clear J K' Ea q32
    refine M1 Eb 33 fun K' J ρ q33 => ?_; go_simp; (try go_bits)
    refine Ln Eb J fun _ Ea => ?_; clear J K' Eb q33
    refine M2 Ea 31 34 fun K' J ρ q31 q34 => ?_; go_simp; (try go_bits)
    refine Ln Ea J fun _ Eb => ?_; clear J K' Ea q31 q34
    replace Eb := Eb.turn 35 (v' := .bool true) rfl (by (first | (simp; done) | (simp; omega)))
    refine M1 Eb 35 fun K' J ρ q35 => ?_; go_simp
    refine Ln Eb J fun _ Ea => ?_; clear J K' Eb q35
    refine N1 Ea 36 3 fun K' J ρ q3 => ?_; go_simp
    refine Ln Ea J fun _ Eb => ?_; clear J K' Ea q3
    refine N1 Eb 36 37 fun K' J ρ q37 => ?_; go_simp
    refine Ln Eb J fun _ Ea => ?_; clear J K' Eb q37
    refine N1 Ea 36 1 fun K' J ρ q1 => ?_; go_simp
    refine Ln Ea J fun _ Eb => ?_; clear J K' Ea q1
    refine N2 Eb 36 38 39 fun K' J ρ q38 q39 => ?_; go_simp; (try go_bits)
    refine Ln Eb J fun _ Ea => ?_; clear J K' Eb q38 q39
    refine N1 Ea 36 40 fun K' J ρ q40 => ?_; go_simp
    refine Ln Ea J fun _ Eb => ?_; clear J K' Ea q40
    refine N1 Eb 36 41 fun K' J ρ q41 => ?_; go_simp
    refine Ln Eb J fun _ Ea => ?_; clear J K' Eb q41
    refine N1 Ea 36 42 fun K' J ρ q42 => ?_; go_simp; (try go_bits)
    refine Ln Ea J fun _ Eb => ?_; clear J K' Ea q42
    refine M2 Eb 36 43 fun K' J ρ q36 q43 => ?_; go_simp; (try go_bits)
    refine Ln Eb J fun _ Ea => ?_; clear J K' Eb q36 q43
    replace Ea := Ea.turn 44 (v' := .bool false) rfl (by (simp [HB0.out]))
    refine Ld [7, 44] Ea hK fun a hE => ?_; clear hK K Q' Ea
    refine Ks ?_
    refine cond_no hE (t := 44) rfl ?_
    refine Ks ?_
    refine Rs 2 fun Q' K hK => ?_
    refine M1 hE 7 fun K' J ρ q7 => ?_; go_simp
    refine Ln hE J fun _ Eb => ?_; clear J K' hE a q7
    refine M1 Eb 71 fun K' J ρ q71 => ?_; go_simp
    refine Ln Eb J fun _ Ea => ?_; clear J K' Eb q71
    refine Ld [6] Ea hK fun a hE => ?_; clear hK K Q' Ea
    refine Ks ?_
    refine ret_one hE rfl rfl ⟨⟨_, rfl, ?_⟩, hbr⟩
    obtain ⟨vs, o1, o2⟩ := hV
    have HO : ((b.lines.getD k zeroLn).book == 0) = false := by rw [HB.out]; simpa using HB0.out
    rw [outR_out HO b.lines.length, ← outR_out HO m]
    exact ⟨vs, own_mono o1 hbw1.size, o2⟩
  ·have hme : m = b.lines.length := by omega
   subst hme
   refine Rs 14 fun Q' K hK => ?_
   refine M1 hE 8 fun K' J ρ q8 => ?_; go_simp
   refine Ln hE J fun _ Eb => ?_; clear J K' hE a q8
   refine M1 Eb 3 fun K' J ρ q3 => ?_; go_simp
   refine Ln Eb J fun _ Ea => ?_; clear J K' Eb q3
   refine M1 Ea 32 fun K' J ρ q32 => ?_; go_simp
   refine Ln Ea J fun _ Eb => ?_; clear J K' Ea q32
   refine M1 Eb 33 fun K' J ρ q33 => ?_; go_simp; (try go_bits)
   refine Ln Eb J fun _ Ea => ?_; clear J K' Eb q33
   refine M2 Ea 31 34 fun K' J ρ q31 q34 => ?_; go_simp; (try go_bits)
   refine Ln Ea J fun _ Eb => ?_; clear J K' Ea q31 q34
   replace Eb := Eb.turn 35 (v' := .bool false) rfl (by simp)
   refine M1 Eb 35 fun K' J ρ q35 => ?_; go_simp
   refine Ln Eb J fun _ Ea => ?_; clear J K' Eb q35
   refine Lno Ea 36 ?_
   refine Lu Ea fun _ Eb => ?_
   refine Lno Eb 36 ?_
   refine Lu Eb fun _ Ea => ?_
   refine Lno Ea 36 ?_
   refine Lu Ea fun _ Eb => ?_
   refine Lno Eb 36 ?_
   refine Lu Eb fun _ Ea => ?_
   refine Lno Ea 36 ?_
   refine Lu Ea fun _ Eb => ?_
   refine Lno Eb 36 ?_
   refine Lu Eb fun _ Ea => ?_
   refine Lno Ea 36 ?_
   refine Lu Ea fun _ Eb => ?_
   refine M2 Eb 36 43 fun K' J ρ q36 q43 => ?_; go_simp; (try go_bits)
   refine Ln Eb J fun _ Ea => ?_; clear J K' Eb q36 q43
   refine Ld [7, 44] Ea hK fun a hE => ?_; clear hK K Q' Ea
   refine Ks ?_
   refine cond_no hE (t := 44) rfl ?_
   refine Ks ?_
   refine Rs 2 fun Q' K hK => ?_
   refine M1 hE 7 fun K' J ρ q7 => ?_; go_simp
   refine Ln hE J fun _ Eb => ?_; clear J K' hE a q7
   refine M1 Eb 71 fun K' J ρ q71 => ?_; go_simp
   refine Ln Eb J fun _ Ea => ?_; clear J K' Eb q71
   refine Ld [6] Ea hK fun a hE => ?_; clear hK K Q' Ea
   refine Ks ?_
   refine ret_one hE rfl rfl ⟨⟨_, rfl, ?_⟩, hbr⟩
   obtain ⟨vs, o1, o2⟩ := hV
   exact ⟨vs, own_mono o1 hbw1.size, o2⟩
end
end Go.Proofs.YtbimkcjdodgojaaGreat
