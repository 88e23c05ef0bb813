/- Name: the reference's Kind, over its All. -/
import Derived.Test.YtbimkcjdodgojaaGreatKANce

namespace Go.Proofs.YtbimkcjdodgojaaGreat
set_option linter.unusedSimpArgs false
set_option linter.unusedVariables false
open Go Go.RowKit
attribute [local go_sem high] cell_set_wr
attribute [local go_sem low] cell_wr frozen_wr
attribute [local go_sem] wr_set wr_drew wr_drewN wr_alloc wr_new Rho.c Rho.n Rho.g
def cntR (l : List Prs) (x : Nat) (y : Int) : Nat := (l.filter fun t => matchP t x == y).length
theorem cntR_take (l : List Prs) (x : Nat) (y : Int) (k : Nat) (h : k < l.length) : cntR (l.take (k + 1)) x y = cntR (l.take k) x y + if matchP l[k] x = y then 1 else 0 := by
 unfold cntR
 rw [List.take_succ_eq_append_getElem h, List.filter_append, List.length_append, List.filter_cons]
 by_cases e : matchP l[k] x = y
 ·rw [if_pos e, if_pos (by simpa using e)]; rfl
 ·rw [if_neg e, if_neg (by simpa using e)]; rfl
theorem cntR_le (l : List Prs) (x : Nat) (y : Int) : cntR l x y ≤ l.length := List.length_filter_le _ _
set_option maxRecDepth 100000 in
set_option maxHeartbeats 1000000 in
theorem rkind_any (O : Option Addr) (oc : Nat) (l : List Prs) (x : Nat) (y : Int) (w : World) (hT : TruAt w w.heap.size O l) (hl : l.length ≤ 1000000000) (hsh : ∀ t ∈ l, t.length ≤ 9) : Calls Tryz.prog 53 #[.slice O l.length oc, .int .i64 x, .int .i64 y] w fun e w' => e = .returned (.int .i64 (kindR (cntR l x y) l.length)) ∧ Below w.heap.size w w' := by
 have HSh := hid hsh
 clear hsh
 refine enterE Tryz.func53 rfl Tryz.ntmps53 (by simp) (fun a hE => ?_); simp only [envOf, Nat.zero_add, Nat.reduceAdd] at hE
 refine Ks ?_
 refine Rs 1 fun Q' K hK => ?_
 refine M0 fun K' J ρ => ?_; go_simp;
 refine Ln hE J fun _ Eb => ?_; clear J K' hE a
 refine Ld [0, 1, 2] Eb hK fun a hE => ?_; clear hK K Q' Eb
 refine Ks ?_
 refine Rs 1 fun Q' K hK => ?_
 refine M0 fun K' J ρ => ?_; go_simp;
 refine Ln hE J fun _ Eb => ?_; clear J K' hE a
 refine Ld [0, 1, 2, 7] Eb hK fun a hE => ?_; clear hK K Q' Eb
 refine Ks ?_
 refine Rs 1 fun Q' K hK => ?_
 refine M0 fun K' J ρ => ?_; go_simp;
 refine Ln hE J fun _ Eb => ?_; clear J K' hE a
 refine Ld [0, 1, 2, 7, 8] Eb hK fun a hE => ?_; clear hK K Q' Eb
 refine Ks ?_
 refine loop_st (fun (k : Nat) a w' => k ≤ l.length ∧ Fits 32 [(0, .slice O l.length oc), (1, .int .i64 x), (2, .int .i64 y), (7, .int .i64 (cntR (l.take k) x y : Nat)), (8, .int .i64 k)] a ∧ Below w.heap.size w w') (fun k => l.length - k) 0 ⟨Nat.zero_le _, by simpa [cntR] using hE, Below.refl _ _⟩ (fun k a w' hI => ?_)
 clear hE
 obtain ⟨hk, hE, hW⟩ := hI
 obtain ⟨wr, hwr⟩ : ∃ x, x = w' := ⟨_, rfl⟩
 subst hwr
 refine Ks ?_
 refine Rs 4 fun Q' K hK => ?_
 refine M1 hE 8 fun K' J ρ q8 => ?_; go_simp
 refine Ln hE J fun _ Eb => ?_; clear J K' hE a q8
 refine M1 Eb 0 fun K' J ρ q0 => ?_; go_simp
 refine Ln Eb J fun _ Ea => ?_; clear J K' Eb q0
 refine M1 Ea 10 fun K' J ρ q10 => ?_; go_simp; (try go_bits)
 refine Ln Ea J fun _ Eb => ?_; clear J K' Ea q10
 refine M2 Eb 9 11 fun K' J ρ q9 q11 => ?_; go_simp; (try go_bits)
 refine Ln Eb J fun _ Ea => ?_; clear J K' Eb q9 q11
 refine Ld [0, 1, 2, 7, 8, 12] Ea hK fun a hE => ?_; clear hK K Q' Ea
 refine Ks ?_
 refine cond_part hE (t := 12) rfl (fun h => ?_) (fun h => ?_)
 ·have hlt : k < l.length := by have := of_decide_eq_true h; omega
  clear h
  have hltI : (k : Int) < l.length := by omega
  obtain ⟨b0, o0, T, c, rfl, hb0, c0, hT0⟩ := (hT.below hW).get hlt
  have hs9 := HSh.out l[k] (List.getElem_mem hlt)
  have HS := hid (rpair_any T c l[k] x wr hT0 (by omega))
  have HK := hid (cntR_take l x y k hlt)
  have hcl := cntR_le (l.take k) x y
  rw [List.length_take] at hcl
  obtain ⟨t, ht⟩ : ∃ t, l[k] = t := ⟨_, rfl⟩
  rw [ht] at c0 hT0 hs9 HS HK
  clear ht
  obtain ⟨g, hg⟩ : ∃ g, cntR (l.take k) x y = g := ⟨_, rfl⟩
  rw [hg] at hE hcl HK
  clear hg
  obtain ⟨z, hz⟩ : ∃ z, matchP t x = z := ⟨_, rfl⟩
  rw [hz] at HS HK
  clear hz
  refine Ks ?_
  refine Rs 8 fun Q' K hK => ?_
  refine M1 hE 0 fun K' J ρ q0 => ?_; go_simp
  refine Ln hE J fun _ Eb => ?_; clear J K' hE a q0
  refine M1 Eb 8 fun K' J ρ q8 => ?_; go_simp
  refine Ln Eb J fun _ Ea => ?_; clear J K' Eb q8
  refine M2 Ea 15 16 fun K' J ρ q15 q16 => ?_; go_simp; (try go_bits)
  refine Ln Ea J fun _ Eb => ?_; clear J K' Ea q15 q16
  refine M1 Eb 17 fun K' J ρ q17 => ?_; go_simp
  refine Ln Eb J fun _ Ea => ?_; clear J K' Eb q17
  refine M1 Ea 1 fun K' J ρ q1 => ?_; go_simp
  refine Ln Ea J fun _ Eb => ?_; clear J K' Ea q1
  refine M2 Eb 18 19 fun K' J ρ q18 q19 => ?_; go_simp; (try go_bits); (try clear q18 q19)
  go_at_call 64; refine (HS.out).mono ?_; rintro e w4 ⟨rfl, h4⟩
  (try clear r18 r19)
  refine Ln Eb J fun _ Ea => ?_; clear J K' Eb
  refine M1 Ea 2 fun K' J ρ q2 => ?_; go_simp
  refine Ln Ea J fun _ Eb => ?_; clear J K' Ea q2
  refine M2 Eb 20 21 fun K' J ρ q20 q21 => ?_; go_simp; (try go_bits)
  refine Ln Eb J fun _ Ea => ?_; clear J K' Eb q20 q21
  refine Ld [0, 1, 2, 7, 8, 22] Ea hK fun a hE => ?_; clear hK K Q' Ea
  refine Ks ?_
  refine cond_part hE (t := 22) rfl (fun h => ?_) (fun h => ?_)
  ·have he : z = y := of_decide_eq_true h
   clear h
   refine Ks ?_
   refine Rs 3 fun Q' K hK => ?_
   refine M1 hE 7 fun K' J ρ q7 => ?_; go_simp
   refine Ln hE J fun _ Eb => ?_; clear J K' hE a q7
   refine M1 Eb 23 fun K' J ρ q23 => ?_; go_simp; (try go_bits); (try simp (disch := omega) only [IntWalk.i64_in])
   refine Ln Eb J fun _ Ea => ?_; clear J K' Eb q23
   refine M1 Ea 24 fun K' J ρ q24 => ?_; go_simp
   refine Ln Ea J fun _ Eb => ?_; clear J K' Ea q24
   refine Ld [0, 1, 2, 7, 8] Eb hK fun a hE => ?_; clear hK K Q' Eb
   refine Ks ?_
   refine Rs 3 fun Q' K hK => ?_
   refine M1 hE 8 fun K' J ρ q8 => ?_; go_simp
   refine Ln hE J fun _ Eb => ?_; clear J K' hE a q8
   refine M1 Eb 13 fun K' J ρ q13 => ?_; go_simp; (try go_bits); (try simp (disch := omega) only [IntWalk.i64_in])
   refine Ln Eb J fun _ Ea => ?_; clear J K' Eb q13
   refine M1 Ea 14 fun K' J ρ q14 => ?_; go_simp
   refine Ln Ea J fun _ Eb => ?_; clear J K' Ea q14
   refine Ld [0, 1, 2, 7, 8] Eb hK fun a hE => ?_; clear hK K Q' Eb
   refine Ks ?_
   exact ⟨k + 1, ⟨hlt, by rw [HK.out, if_pos he]; simpa using hE, hW.trans (h4.mono hW.size)⟩, by omega⟩
  ·have he : ¬ z = y := of_decide_eq_false h
   clear h
   refine Ks ?_
   refine Rs 3 fun Q' K hK => ?_
   refine M1 hE 8 fun K' J ρ q8 => ?_; go_simp
   refine Ln hE J fun _ Eb => ?_; clear J K' hE a q8
   refine M1 Eb 13 fun K' J ρ q13 => ?_; go_simp; (try go_bits); (try simp (disch := omega) only [IntWalk.i64_in])
   refine Ln Eb J fun _ Ea => ?_; clear J K' Eb q13
   refine M1 Ea 14 fun K' J ρ q14 => ?_; go_simp
   refine Ln Ea J fun _ Eb => ?_; clear J K' Ea q14
   refine Ld [0, 1, 2, 7, 8] Eb hK fun a hE => ?_; clear hK K Q' Eb
   refine Ks ?_
   exact ⟨k + 1, ⟨hlt, by rw [HK.out, if_neg he]; simpa using hE, hW.trans (h4.mono hW.size)⟩, by omega⟩
 ·have hkk : k = l.length := by have := of_decide_eq_false h; omega
  subst hkk
  clear h
  rw [List.take_length] at hE
  have HR : Hid (∀ z : Int, kindR (cntR l x y) l.length = z ↔ kindR (cntR l x y) l.length = z) := hid fun _ => Iff.rfl
  obtain ⟨g, hg⟩ : ∃ g, cntR l x y = g := ⟨_, rfl⟩
  rw [hg] at hE ⊢
  clear hg HR
  refine Ks ?_
  refine Rs 1 fun Q' K hK => ?_
  refine M1 hE 7 fun K' J ρ q7 => ?_; go_simp
  refine Ln hE J fun _ Eb => ?_; clear J K' hE a q7
  refine Ld [0, 25] Eb hK fun a hE => ?_; clear hK K Q' Eb
  refine Ks ?_
  refine Rs 2 fun Q' K hK => ?_
  refine M1 hE 25 fun K' J ρ q25 => ?_; go_simp; (try go_bits)
  refine Ln hE J fun _ Eb => ?_; clear J K' hE a q25
  refine M1 Eb 27 fun K' J ρ q27 => ?_; go_simp
  refine Ln Eb J fun _ Ea => ?_; clear J K' Eb q27
  refine Ld [0, 25, 26] Ea hK fun a hE => ?_; clear hK K Q' Ea
  refine Ks ?_
  refine cond_part hE (t := 26) rfl (fun h => ?_) (fun h => ?_)
  ·have h0 : (g : Int) = 0 := of_decide_eq_true h
   clear h
   refine Ks ?_
   refine Rs 1 fun Q' K hK => ?_
   refine M0 fun K' J ρ => ?_; go_simp;
   refine Ln hE J fun _ Eb => ?_; clear J K' hE a
   refine Ld [6] Eb hK fun a hE => ?_; clear hK K Q' Eb
   refine Ks ?_
   exact ret_one hE rfl rfl ⟨by unfold kindR; rw [if_pos h0], hW⟩
  ·have h0 : ¬ (g : Int) = 0 := of_decide_eq_false h
   have H0 := hid h0
   clear h h0
   refine Ks ?_
   refine Rs 4 fun Q' K hK => ?_
   refine M1 hE 0 fun K' J ρ q0 => ?_; go_simp
   refine Ln hE J fun _ Eb => ?_; clear J K' hE a q0
   refine M1 Eb 29 fun K' J ρ q29 => ?_; go_simp; (try go_bits)
   refine Ln Eb J fun _ Ea => ?_; clear J K' Eb q29
   refine M2 Ea 25 30 fun K' J ρ q25 q30 => ?_; go_simp; (try go_bits)
   refine Ln Ea J fun _ Eb => ?_; clear J K' Ea q25 q30
   refine M1 Eb 31 fun K' J ρ q31 => ?_; go_simp
   refine Ln Eb J fun _ Ea => ?_; clear J K' Eb q31
   refine Ld [28] Ea hK fun a hE => ?_; clear hK K Q' Ea
   refine Ks ?_
   refine cond_part hE (t := 28) rfl (fun h => ?_) (fun h => ?_)
   ·have h1 : (g : Int) = l.length := of_decide_eq_true h
    clear h
    refine Ks ?_
    refine Rs 1 fun Q' K hK => ?_
    refine M0 fun K' J ρ => ?_; go_simp;
    refine Ln hE J fun _ Eb => ?_; clear J K' hE a
    refine Ld [6] Eb hK fun a hE => ?_; clear hK K Q' Eb
    refine Ks ?_
    exact ret_one hE rfl rfl ⟨by unfold kindR; rw [if_neg H0.out, if_pos h1], hW⟩
   ·have h1 : ¬ (g : Int) = l.length := of_decide_eq_false h
    clear h
    refine Ks ?_
    refine Rs 1 fun Q' K hK => ?_
    refine M0 fun K' J ρ => ?_; go_simp;
    refine Ln hE J fun _ Eb => ?_; clear J K' hE a
    refine Ld [6] Eb hK fun a hE => ?_; clear hK K Q' Eb
    refine Ks ?_
    exact ret_one hE rfl rfl ⟨by unfold kindR; rw [if_neg H0.out, if_neg h1], hW⟩
section
variable (A : Option Addr) (cap : Nat) (L : Option Addr) (lcap : Nat) (b : Bk)
set_option maxRecDepth 100000 in
theorem rAll_any (w : World) (hM : BkAt w A L b)
    (HF : Hid (∀ (W : World), BkAt W A L b → Calls Tryz.prog 76 #[.agg (bkV A cap L lcap b).toArray, .int .i64 0, .slice none 0 0] W fun e w' => (∃ O c, e = .returned (.slice O (truthsR b).length c) ∧ TruAt w' w'.heap.size O (truthsR b)) ∧ Below W.heap.size W w')) :
    Calls Tryz.prog 42 #[.agg (bkV A cap L lcap b).toArray] w fun e w' => (∃ O c, e = .returned (.slice O (truthsR b).length c) ∧ TruAt w' w'.heap.size O (truthsR b)) ∧ Below w.heap.size w w' := by
 obtain ⟨l, hl⟩ : ∃ l, truthsR b = l := ⟨_, rfl⟩
 rw [hl] at HF ⊢
 clear hl
 simp only [bkV] at HF ⊢
 refine enterE Tryz.func42 rfl Tryz.ntmps42 (by simp) (fun a hE => ?_); simp only [envOf, Nat.zero_add, Nat.reduceAdd] at hE
 refine Ks ?_
 refine Rs 2 fun Q' K hK => ?_
 refine M1 hE 0 fun K' J ρ q0 => ?_; go_simp
 refine Ln hE J fun _ Eb => ?_; clear J K' hE a q0
 refine M0 fun K' J ρ => ?_; go_simp;
 refine Ln Eb J fun _ Ea => ?_; clear J K' Eb
 refine Ld [1] Ea hK fun a hE => ?_; clear hK K Q' Ea
 obtain ⟨B, hBe⟩ : ∃ B, B = w.heap.size := ⟨_, rfl⟩; rw [← hBe] at hE; refine world_cut (fun wt => Below w.heap.size w wt ∧ Cells wt B (bkV A cap L lcap b)) ⟨(Below.refl _ _).alloc (Nat.le_refl _) _, by rw [hBe]; exact cells_new _ _ _⟩ (fun w1 hCut => ?_); obtain ⟨hbw1, hCB⟩ := hCut; clear hBe
 have hM1 := hM.below hbw1
 simp only [bkV] at hCB
 obtain ⟨nB, cB0, cB1, cB2, cB3, cB4, cB5, cB6⟩ := hCB.c7
 refine Ks ?_
 refine Rs 3 fun Q' K hK => ?_
 refine M1 hE 1 fun K' J ρ q1 => ?_; go_simp
 refine Ln hE J fun _ Eb => ?_; clear J K' hE a q1
 refine M1 Eb 3 fun K' J ρ q3 => ?_; go_simp; (try go_bits); (try clear q3)
 go_at_call 76; refine (HF.out _ hM1).mono ?_; rintro e w2 ⟨⟨O, oc, rfl, hT⟩, h2⟩
 (try clear r3)
 refine Ln Eb J fun _ Ea => ?_; clear J K' Eb
 refine M1 Ea 4 fun K' J ρ q4 => ?_; go_simp
 refine Ln Ea J fun _ Eb => ?_; clear J K' Ea q4
 refine Ld [2] Eb hK fun a hE => ?_; clear hK K Q' Eb
 refine Ks ?_
 exact ret_one hE rfl rfl ⟨⟨O, oc, rfl, hT⟩, hbw1.trans (h2.mono hbw1.size)⟩
end
end Go.Proofs.YtbimkcjdodgojaaGreat
namespace Go.Proofs.YtbimkcjdodgojaaGreat
set_option linter.unusedSimpArgs false
set_option linter.unusedVariables false
open Go Go.RowKit
attribute [local go_sem high] cell_set_wr
attribute [local go_sem low] cell_wr frozen_wr
attribute [local go_sem] wr_set wr_drew wr_drewN wr_alloc wr_new Rho.c Rho.n Rho.g
section
variable (A : Option Addr) (cap : Nat) (L : Option Addr) (lcap : Nat) (b : Bk)
set_option maxRecDepth 100000 in
set_option maxHeartbeats 2000000 in
theorem rkind_rest (x y : Int) (v : Bool) (B : Nat) (w w2 : World) (hb2 : Below w.heap.size w w2) (hM : BkAt w A L b) (hCB : Cells w2 B (bkV A cap L lcap b)) (hv : v = true → inLines b x = true)
    (C1 : Hid (∀ W, BkAt W A L b → Calls Tryz.prog 52 #[.agg (bkV A cap L lcap b).toArray, .bool v] W fun e w' => e = .returned (.int .i64 (setE b v)) ∧ Below W.heap.size W w'))
    (C2 : Hid (b.ok = true → ∀ (W : World), BkAt W A L b → Calls Tryz.prog 42 #[.agg (bkV A cap L lcap b).toArray] W fun e w' => (∃ O c, e = .returned (.slice O (truthsR b).length c) ∧ TruAt w' w'.heap.size O (truthsR b)) ∧ Below W.heap.size W w'))
    (R1 R2 : Int) (hR : (setE b v = 0 → R1 = kindP (cntP b.lines.length b.ts x y) b.ts.length ∧ R2 = 0) ∧ (setE b v ≠ 0 → R1 = 0 ∧ R2 = setE b v)) (a : Act) (hE : Fits 52 [(1, .int .i64 x), (2, .int .i64 y), (3, .pointer (some ⟨B, 0, none⟩)), (8, .bool v)] a) :
    (cr 2 (bodyOf Tryz.f16)).wp Tryz.prog (bodyPost Tryz.prog Tryz.f16 fun e w' => e = .returned (.tuple #[.int .i64 R1, .int .i64 R2]) ∧ Below w.heap.size w w') a w2 := by
 have hM2 := hM.below hb2
 have HR := hid hR
 clear hR
 have HS0 : Hid (setE b v = 0 → b.ok = true ∧ v = true ∧ b.ts.length ≠ 0) := hid setE_ok
 have HV := hid hv
 clear hv
 obtain ⟨ev, hev⟩ : ∃ ev, setE b v = ev := ⟨_, rfl⟩
 rw [hev] at C1 HR HS0
 clear hev
 simp only [bkV] at C1 hCB
 obtain ⟨nB, cB0, cB1, cB2, cB3, cB4, cB5, cB6⟩ := hCB.c7
 refine wp_seq ?_; refine Ks ?_
 refine Ks ?_
 refine Rs 4 fun Q' K hK => ?_
 refine M1 hE 3 fun K' J ρ q3 => ?_; go_simp
 refine Ln hE J fun _ Eb => ?_; clear J K' hE a q3
 refine M1 Eb 8 fun K' J ρ q8 => ?_; go_simp
 refine Ln Eb J fun _ Ea => ?_; clear J K' Eb q8
 refine M2 Ea 41 42 fun K' J ρ q41 q42 => ?_; go_simp; (try go_bits); (try clear q41 q42)
 go_at_call 52; refine (C1.out _ hM2).mono ?_; rintro e w3 ⟨rfl, h3⟩
 (try clear r41 r42)
 refine Ln Ea J fun _ Eb => ?_; clear J K' Ea
 refine M1 Eb 43 fun K' J ρ q43 => ?_; go_simp
 refine Ln Eb J fun _ Ea => ?_; clear J K' Eb q43
 refine Ld [1, 2, 3, 9] Ea hK fun a hE => ?_; clear hK K Q' Ea
 have hb3 := hb2.trans (h3.mono hb2.size)
 have hM3 := hM.below hb3
 replace hCB := hCB.below h3
 clear nB cB0 cB1 cB2 cB3 cB4 cB5 cB6
 obtain ⟨nB, cB0, cB1, cB2, cB3, cB4, cB5, cB6⟩ := hCB.c7
 refine Ks ?_
 by_cases he : ev = 0
 ·obtain ⟨s1, s2, s3⟩ := HS0.out he
  obtain ⟨r1, r2⟩ := HR.out.1 he
  have H1 := hid r1
  have H2 := hid r2
  subst he
  clear r1 r2
  have C3 := hid (C2.out s1)
  have hx := HV.out s2
  unfold inLines at hx
  simp only [Bool.and_eq_true, decide_eq_true_eq] at hx
  obtain ⟨i, rfl⟩ : ∃ i : Nat, x = i := ⟨x.toNat, by omega⟩
  have hi : i < b.lines.length := by omega
  have h9 := ok_nine s1
  have HK : Hid (kindR (cntR (truthsR b) i y) (truthsR b).length = R1) := hid (by
   rw [truthsR_len, kindR_eq (by omega), H1.out, ← cnt_perm b hi y]
   rfl)
  have hfew := truthsR_few h9
  have HSh := hid (fun t (ht : t ∈ truthsR b) => truthsR_short h9 ht)
  obtain ⟨l, hl⟩ : ∃ l, truthsR b = l := ⟨_, rfl⟩
  rw [hl] at C3 HK hfew HSh
  clear hl h9 hx s1 s2 s3
  simp only [bkV] at C3
  refine Rs 2 fun Q' K hK => ?_
  refine M1 hE 9 fun K' J ρ q9 => ?_; go_simp
  refine Ln hE J fun _ Eb => ?_; clear J K' hE a q9
  refine M1 Eb 44 fun K' J ρ q44 => ?_; go_simp; (try go_bits)
  refine Ln Eb J fun _ Ea => ?_; clear J K' Eb q44
  replace Ea := Ea.turn 45 (v' := .bool false) rfl (by (first | rfl | simp))
  refine Ld [1, 2, 3, 45] Ea hK fun a hE => ?_; clear hK K Q' Ea
  refine Ks ?_
  refine cond_no hE (t := 45) rfl ?_
  refine Ks ?_
  refine Rs 7 fun Q' K hK => ?_
  refine M1 hE 3 fun K' J ρ q3 => ?_; go_simp
  refine Ln hE J fun _ Eb => ?_; clear J K' hE a q3
  refine M1 Eb 47 fun K' J ρ q47 => ?_; go_simp; (try go_bits); (try clear q47)
  go_at_call 42; refine (C3.out _ hM3).mono ?_; rintro e w4 ⟨⟨O, oc, rfl, hT⟩, h4⟩
  (try clear r47)
  refine Ln Eb J fun _ Ea => ?_; clear J K' Eb
  refine M1 Ea 1 fun K' J ρ q1 => ?_; go_simp
  refine Ln Ea J fun _ Eb => ?_; clear J K' Ea q1
  refine M1 Eb 2 fun K' J ρ q2 => ?_; go_simp
  refine Ln Eb J fun _ Ea => ?_; clear J K' Eb q2
  refine M3 Ea 48 49 50 fun K' J ρ q48 q49 q50 => ?_; go_simp; (try go_bits); (try clear q48 q49 q50)
  go_at_call 53; refine (rkind_any O oc l i y _ hT hfew (fun t ht => HSh.out t ht)).mono ?_; rw [HK.out]; rintro e w5 ⟨rfl, h5⟩
  (try clear r48 r49 r50)
  refine Ln Ea J fun _ Eb => ?_; clear J K' Ea
  refine M1 Eb 51 fun K' J ρ q51 => ?_; go_simp
  refine Ln Eb J fun _ Ea => ?_; clear J K' Eb q51
  refine M0 fun K' J ρ => ?_; go_simp;
  refine Ln Ea J fun _ Eb => ?_; clear J K' Ea
  refine Ld [6, 7] Eb hK fun a hE => ?_; clear hK K Q' Eb
  refine Ks ?_
  exact ret_two hE rfl rfl rfl ⟨by rw [H2.out], hb3.trans ((h4.trans (h5.mono h4.size)).mono hb3.size)⟩
 ·obtain ⟨r1, r2⟩ := HR.out.2 he
  have H1 := hid r1
  have H2 := hid r2
  clear r1 r2
  refine Rs 2 fun Q' K hK => ?_
  refine M1 hE 9 fun K' J ρ q9 => ?_; go_simp
  refine Ln hE J fun _ Eb => ?_; clear J K' hE a q9
  refine M1 Eb 44 fun K' J ρ q44 => ?_; go_simp; (try go_bits)
  refine Ln Eb J fun _ Ea => ?_; clear J K' Eb q44
  replace Ea := Ea.turn 45 (v' := .bool true) rfl (by (first | rfl | (simp [he])))
  refine Ld [9, 45] Ea hK fun a hE => ?_; clear hK K Q' Ea
  refine Ks ?_
  refine cond_yes hE (t := 45) rfl ?_
  refine Ks ?_
  refine Rs 3 fun Q' K hK => ?_
  refine M1 hE 9 fun K' J ρ q9 => ?_; go_simp
  refine Ln hE J fun _ Eb => ?_; clear J K' hE a q9
  refine M0 fun K' J ρ => ?_; go_simp;
  refine Ln Eb J fun _ Ea => ?_; clear J K' Eb
  refine M1 Ea 46 fun K' J ρ q46 => ?_; go_simp
  refine Ln Ea J fun _ Eb => ?_; clear J K' Ea q46
  refine Ld [6, 7] Eb hK fun a hE => ?_; clear hK K Q' Eb
  refine Ks ?_
  exact ret_two hE rfl rfl rfl ⟨by rw [H1.out, H2.out], hb3⟩
theorem book_in {b : Bk} {x t : Int} {i : Nat} (hi : i < b.lines.length) (hx : x = i) (ho : b.ok = true) (ht : t = 0 ∨ t = 1) : lineOfB b x t t = (b.lines[i].book == t) := by
 unfold lineOfB
 have e : b.at x = b.lines[i] := by
  unfold Bk.at
  rw [hx, List.getD_eq_getElem?_getD]; simp [hi]
 have h1 : inLines b x = true := by unfold inLines; simp; omega
 rw [e, h1, Bool.true_and]
 by_cases h : b.lines[i].book = t
 ·simp [h]
 ·rw [show (b.lines[i].book == t) = false by simpa using h]
  rw [Bool.and_eq_false_iff, decide_eq_false_iff_not, decide_eq_false_iff_not]
  omega
theorem line_out {b : Bk} {x t : Int} (h : inLines b x = false) : lineOfB b x t t = false := by
 unfold lineOfB
 rw [h]
 rfl
end
end Go.Proofs.YtbimkcjdodgojaaGreat
