/- Name: the reference's Near. -/
import Derived.Test.YtbimkcjdodgojaaGreatKBNt

namespace Go.Proofs.YtbimkcjdodgojaaGreat
set_option linter.unusedSimpArgs false
set_option linter.unusedVariables false
open Go.RowKit
attribute [local go_sem high] cell_set_wr
attribute [local go_sem low] cell_wr frozen_wr
attribute [local go_sem] wr_set wr_drew wr_drewN wr_alloc wr_new Rho.c Rho.n Rho.g
def pairTo (l : List ByteArray) (i k : Nat) : Bool := (List.range k).all fun j => lettersR (l.getD i default ++ l.getD j default) 4 8
def pairsTo (l : List ByteArray) (n : Nat) : Bool := (List.range n).all fun i => pairTo l i i
def rHeadB (e : Ear) : Bool := (!decide ((4 : Int) < e.alike.length) && lettersR e.mute 0 3) && (decide (0 ≤ e.slips) && decide (e.slips ≤ 3))
def rEarB (e : Ear) : Bool := rHeadB e && (e.alike.all (fun g => lettersR g 2 4) && pairsTo e.alike e.alike.length)
theorem getT_at {l : List ByteArray} {k : Nat} (h : k < l.length) : l.getD k default = l[k] := by
 rw [List.getD_eq_getElem?_getD, List.getElem?_eq_getElem h]; rfl
theorem lettersR_size {s : ByteArray} {lo hi : Int} (h : lettersR s lo hi = true) : (s.size : Int) ≤ hi := by
 unfold lettersR at h
 simp only [Bool.and_eq_true, decide_eq_true_eq] at h
 exact h.1.2
set_option maxRecDepth 100000 in
set_option maxHeartbeats 2000000 in
theorem rCheckEar_any (A : Option Addr) (cap : Nat) (l : List ByteArray) (m : ByteArray) (sl : Int) (w : World) (hA : Arr w w.heap.size A (txts l)) (hl : l.length ≤ 9223372036854775807) (hm : m.size ≤ 9223372036854775807) (hz : ∀ i (h : i < l.length), l[i].size ≤ 9223372036854775807) : Calls Tryz.prog 36 #[.agg #[.slice A l.length cap, .string m, .int .i64 sl]] w fun e w' => e = .returned (.int .i64 (if rEarB ⟨l, m, sl⟩ then 0 else 20)) ∧ Below w.heap.size w w' := by
 have HZ := hid hz
 clear hz
 refine enterE Tryz.func36 rfl Tryz.ntmps36 (by simp) (fun a hE => ?_); simp only [envOf, Nat.zero_add, Nat.reduceAdd] at hE
 refine Ks ?_
 refine Rs 2 fun Q' K hK => ?_
 refine M1 hE 0 fun K' J ρ q0 => ?_; go_simp
 refine Ln hE J fun _ Eb => ?_; clear J K' hE a q0
 refine M0 fun K' J ρ => ?_; go_simp;
 refine Ln Eb J fun _ Ea => ?_; clear J K' Eb
 refine Ld [1] Ea hK fun a hE => ?_; clear hK K Q' Ea
 obtain ⟨B, hBe⟩ : ∃ B, B = w.heap.size := ⟨_, rfl⟩; rw [← hBe] at hE; refine world_cut (fun wt => Below w.heap.size w wt ∧ Cells wt B [.slice A l.length cap, .string m, .int .i64 sl]) ⟨(Below.refl _ _).alloc (Nat.le_refl _) _, by rw [hBe]; exact cells_new _ _ _⟩ (fun w1 hCut => ?_); obtain ⟨hbw1, hCB⟩ := hCut; clear hBe
 obtain ⟨nB, cB0, cB1⟩ := hCB.c2
 obtain ⟨z, hz⟩ : ∃ z, decide ((4 : Int) < l.length) = z := ⟨_, rfl⟩
 have HZ4 := hid hz
 refine Ks ?_
 refine Rs 16 fun Q' K hK => ?_
 refine M1 hE 1 fun K' J ρ q1 => ?_; go_simp
 refine Ln hE J fun _ Eb => ?_; clear J K' hE a q1
 refine M1 Eb 6 fun K' J ρ q6 => ?_; go_simp
 refine Ln Eb J fun _ Ea => ?_; clear J K' Eb q6
 refine M1 Ea 7 fun K' J ρ q7 => ?_; go_simp; (try go_bits)
 refine Ln Ea J fun _ Eb => ?_; clear J K' Ea q7
 refine M1 Eb 8 fun K' J ρ q8 => ?_; go_simp; (try go_bits)
 refine Ln Eb J fun _ Ea => ?_; clear J K' Eb q8
 refine M1 Ea 9 fun K' J ρ q9 => ?_; go_simp
 refine Ln Ea J fun _ Eb => ?_; clear J K' Ea q9
 refine Lm Eb 11 10 ?_ (fun hx K' J => ?_) (fun _ Ea => ?_); rotate_left 1
 ·have hx0 := hx; (try simp only [beq_iff_eq, Bool.and_eq_true, Bool.beq_true, Bool.beq_false, Bool.not_eq_true', beq_eq_false_iff_ne] at hx); have r1 := Eb.at 1 rfl; clear hx0
  refine o1 r1 fun ρ q1 => ?_; go_simp;
  refine put_eq J ?_; rfl
 clear Eb
 refine Lm Ea 12 10 ?_ (fun hx K' J => ?_) (fun _ Eb => ?_); rotate_left 1
 ·have hx0 := hx; (try simp only [beq_iff_eq, Bool.and_eq_true, Bool.beq_true, Bool.beq_false, Bool.not_eq_true', beq_eq_false_iff_ne] at hx); have r11 := Ea.at 11 rfl; (try simp only [hx0, may_true] at r11); clear hx0
  refine o1 r11 fun ρ q11 => ?_; go_simp;
  refine put_eq J ?_; rfl
 clear Ea
 refine Late.mayw Eb (d' := 13) (by decide) (by (first | (simp only [List.getElem?_toArray, List.getElem?_cons_succ, List.getElem?_cons_zero]; rfl) | rfl)) rfl rfl (d := 10) (by kernel_rfl) rfl ?_ (fun hx K' J => ?_) (fun a_8 w2 hbw2 Ea => ?_); rotate_left 1
 ·have hx0 := hx; (try simp only [beq_iff_eq, Bool.and_eq_true, Bool.beq_true, Bool.beq_false, Bool.not_eq_true', beq_eq_false_iff_ne] at hx); have r12 := Eb.at 12 rfl; (try simp only [hx0, may_true] at r12); clear hx0
  refine o1 r12 fun ρ q12 => ?_; go_simp; (try go_bits);
  go_at_call 71; refine (rletters_any m 0 3 _ hm).mono ?_; rintro e w2 ⟨rfl, h2⟩; refine put_eqw J h2 ?_; rfl
 clear Eb
 refine Lm Ea 14 10 ?_ (fun hx K' J => ?_) (fun _ Eb => ?_); rotate_left 1
 ·have hx0 := hx; (try simp only [beq_iff_eq, Bool.and_eq_true, Bool.beq_true, Bool.beq_false, Bool.not_eq_true', beq_eq_false_iff_ne] at hx); have r13 := Ea.at 13 rfl; (try simp only [hx0, may_true] at r13); clear hx0
  refine o1 r13 fun ρ q13 => ?_; go_simp; (try go_bits); (try simp (disch := omega) only [IntWalk.i64_in]);
  refine put_eq J ?_; rfl
 clear Ea
 refine M2 Eb 10 14 fun K' J ρ q10 q14 => ?_; go_simp; (try go_bits)
 refine Ln Eb J fun _ Ea => ?_; clear J K' Eb q10 q14
 replace Ea := Ea.turn 15 (v' := .bool (z || !lettersR m 0 3)) rfl (by (cases z <;> simp))
 refine M1 Ea 15 fun K' J ρ q15 => ?_; go_simp
 refine Ln Ea J fun _ Eb => ?_; clear J K' Ea q15
 have hC2 := hCB.below hbw2; have nC := hC2.1; have e2 := hC2.2 2 _ rfl; clear hC2
 refine Lm Eb 17 16 ?_ (fun hx K' J => ?_) (fun _ Ea => ?_); rotate_left 1
 ·have hx0 := hx; (try simp only [beq_iff_eq, Bool.and_eq_true, Bool.beq_true, Bool.beq_false, Bool.not_eq_true', beq_eq_false_iff_ne] at hx); have r1 := Eb.at 1 rfl; clear hx0
  refine o1 r1 fun ρ q1 => ?_; go_simp;
  refine put_eq J ?_; rfl
 clear Eb
 refine Lm Ea 18 16 ?_ (fun hx K' J => ?_) (fun _ Eb => ?_); rotate_left 1
 ·have hx0 := hx; (try simp only [beq_iff_eq, Bool.and_eq_true, Bool.beq_true, Bool.beq_false, Bool.not_eq_true', beq_eq_false_iff_ne] at hx); have r17 := Ea.at 17 rfl; (try simp only [hx0, may_true] at r17); clear hx0
  refine o1 r17 fun ρ q17 => ?_; go_simp;
  refine put_eq J ?_; rfl
 clear Ea
 refine Lm Eb 19 16 ?_ (fun hx K' J => ?_) (fun _ Ea => ?_); rotate_left 1
 ·have hx0 := hx; (try simp only [beq_iff_eq, Bool.and_eq_true, Bool.beq_true, Bool.beq_false, Bool.not_eq_true', beq_eq_false_iff_ne] at hx); have r18 := Eb.at 18 rfl; (try simp only [hx0, may_true] at r18); clear hx0
  refine o1 r18 fun ρ q18 => ?_; go_simp; (try go_bits);
  go_at_call 38; refine (between_any _ _ _ _).mono ?_; rintro e w4 ⟨rfl, rfl⟩; refine put_eq J ?_; rfl
 clear Eb
 refine Lm Ea 20 16 ?_ (fun hx K' J => ?_) (fun _ Eb => ?_); rotate_left 1
 ·have hx0 := hx; (try simp only [beq_iff_eq, Bool.and_eq_true, Bool.beq_true, Bool.beq_false, Bool.not_eq_true', beq_eq_false_iff_ne] at hx); have r19 := Ea.at 19 rfl; (try simp only [hx0, may_true] at r19); clear hx0
  refine o1 r19 fun ρ q19 => ?_; go_simp; (try go_bits); (try simp (disch := omega) only [IntWalk.i64_in]);
  refine put_eq J ?_; rfl
 clear Ea
 refine M2 Eb 16 20 fun K' J ρ q16 q20 => ?_; go_simp; (try go_bits)
 refine Ln Eb J fun _ Ea => ?_; clear J K' Eb q16 q20
 replace Ea := Ea.turn 21 (v' := .bool ((z || !lettersR m 0 3) || !(decide (0 ≤ sl) && decide (sl ≤ 3)))) rfl (by (cases z <;> cases lettersR m 0 3 <;> simp))
 refine Ld [1, 21] Ea hK fun a hE => ?_; clear hK K Q' Ea
 clear hz nC e2 nB cB0 cB1
 replace hE := hE.turn 21 (v' := .bool (!rHeadB ⟨l, m, sl⟩)) rfl (by
  unfold rHeadB
  rw [HZ4.out]
  cases z <;> cases lettersR m 0 3 <;> simp)
 have hb2 := hbw1.trans (hbw2.mono hbw1.size)
 replace hCB := hCB.below hbw2
 clear hbw1 hbw2
 refine Ks ?_
 refine cond_part hE (t := 21) rfl (fun h => ?_) (fun h => ?_)
 ·have hh : rHeadB ⟨l, m, sl⟩ = false := by simpa using h
  refine Ks ?_
  refine Rs 1 fun Q' K hK => ?_
  refine M0 fun K' J ρ => ?_; go_simp;
  refine Ln hE J fun _ Eb => ?_; clear J K' hE a
  refine Ld [2] Eb hK fun a hE => ?_; clear hK K Q' Eb
  refine Ks ?_
  refine ret_one hE rfl rfl ⟨?_, hb2⟩
  unfold rEarB
  rw [hh]; rfl
 ·have hh : rHeadB ⟨l, m, sl⟩ = true := by simpa using h
  have HH := hid hh
  clear hh h
  have HA := hid ((hA.below hb2).more hb2.size)
  refine Ks ?_
  refine Rs 1 fun Q' K hK => ?_
  refine M0 fun K' J ρ => ?_; go_simp;
  refine Ln hE J fun _ Eb => ?_; clear J K' hE a
  refine Ld [1, 3] Eb hK fun a hE => ?_; clear hK K Q' Eb
  refine Ks ?_
  refine loop_st (fun (k : Nat) a w' => k ≤ l.length ∧ Fits 61 [(1, .pointer (some ⟨B, 0, none⟩)), (3, .int .i64 k)] a ∧ Below w2.heap.size w2 w' ∧ ∀ i (h : i < l.length), i < k → lettersR l[i] 2 4 = true) (fun k => l.length - k) 0 ?_ (fun k a w' hI => ?_)
  ·exact ⟨Nat.zero_le _, by simpa using hE, Below.refl _ _, fun i _ hi => absurd hi (Nat.not_lt_zero i)⟩
  clear hE
  obtain ⟨hk, hE, hBr, hN⟩ := hI
  obtain ⟨wr, hwr⟩ : ∃ x, x = w' := ⟨_, rfl⟩
  subst hwr
  have HN := hid hN
  clear hN
  have hbr := hb2.trans (hBr.mono hb2.size)
  have hCr := hCB.below hBr
  have nr := hCr.1
  have d0 := hCr.2 0 _ rfl
  clear hCr
  refine Ks ?_
  refine Rs 5 fun Q' K hK => ?_
  refine M1 hE 3 fun K' J ρ q3 => ?_; go_simp
  refine Ln hE J fun _ Eb => ?_; clear J K' hE a q3
  refine M1 Eb 1 fun K' J ρ q1 => ?_; go_simp
  refine Ln Eb J fun _ Ea => ?_; clear J K' Eb q1
  refine M1 Ea 23 fun K' J ρ q23 => ?_; go_simp
  refine Ln Ea J fun _ Eb => ?_; clear J K' Ea q23
  refine M1 Eb 24 fun K' J ρ q24 => ?_; go_simp; (try go_bits)
  refine Ln Eb J fun _ Ea => ?_; clear J K' Eb q24
  refine M2 Ea 22 25 fun K' J ρ q22 q25 => ?_; go_simp; (try go_bits)
  refine Ln Ea J fun _ Eb => ?_; clear J K' Ea q22 q25
  refine Ld [1, 3, 26] Eb hK fun a hE => ?_; clear hK K Q' Eb
  refine Ks ?_
  refine cond_part hE (t := 26) rfl (fun h => ?_) (fun h => ?_)
  ·have hlt : k < l.length := of_decide_eq_true h
   clear h
   have hltI : (k : Int) < l.length := by omega
   obtain ⟨bg, o, rfl, hb, hc⟩ := ((HA.out.below hBr).more hBr.size).txt hlt
   have hg1 := HZ.out k hlt
   obtain ⟨g, hg⟩ : ∃ g, l[k] = g := ⟨_, rfl⟩
   rw [hg] at hc hg1
   have HGk := hid hg
   clear hg
   refine Ks ?_
   refine Rs 7 fun Q' K hK => ?_
   refine M1 hE 1 fun K' J ρ q1 => ?_; go_simp
   refine Ln hE J fun _ Eb => ?_; clear J K' hE a q1
   refine M1 Eb 29 fun K' J ρ q29 => ?_; go_simp
   refine Ln Eb J fun _ Ea => ?_; clear J K' Eb q29
   refine M1 Ea 3 fun K' J ρ q3 => ?_; go_simp
   refine Ln Ea J fun _ Eb => ?_; clear J K' Ea q3
   refine M2 Eb 30 31 fun K' J ρ q30 q31 => ?_; go_simp; (try go_bits)
   refine Ln Eb J fun _ Ea => ?_; clear J K' Eb q30 q31
   refine M1 Ea 32 fun K' J ρ q32 => ?_; go_simp
   refine Ln Ea J fun _ Eb => ?_; clear J K' Ea q32
   refine M1 Eb 33 fun K' J ρ q33 => ?_; go_simp; (try go_bits); (try clear q33)
   go_at_call 71; refine (rletters_any g 2 4 _ hg1).mono ?_; rintro e w3 ⟨rfl, h3⟩
   (try clear r33)
   refine Ln Eb J fun _ Ea => ?_; clear J K' Eb
   refine M1 Ea 34 fun K' J ρ q34 => ?_; go_simp; (try go_bits); (try simp (disch := omega) only [IntWalk.i64_in])
   refine Ln Ea J fun _ Eb => ?_; clear J K' Ea q34
   refine Ld [1, 3, 35] Eb hK fun a hE => ?_; clear hK K Q' Eb
   have hB3 := hBr.trans (h3.mono hBr.size)
   refine Ks ?_
   refine cond_part hE (t := 35) rfl (fun h => ?_) (fun h => ?_)
   ·refine Ks ?_
    refine Rs 1 fun Q' K hK => ?_
    refine M0 fun K' J ρ => ?_; go_simp;
    refine Ln hE J fun _ Eb => ?_; clear J K' hE a
    refine Ld [2] Eb hK fun a hE => ?_; clear hK K Q' Eb
    refine Ks ?_
    refine ret_one hE rfl rfl ⟨?_, hb2.trans (hB3.mono hb2.size)⟩
    have hx : l.all (fun g => lettersR g 2 4) = false := List.all_eq_false.2 ⟨l[k], List.getElem_mem hlt, by rw [HGk.out]; simpa using h⟩
    unfold rEarB
    rw [HH.out, hx]; rfl
   ·refine Ks ?_
    refine Rs 3 fun Q' K hK => ?_
    refine M1 hE 3 fun K' J ρ q3 => ?_; go_simp
    refine Ln hE J fun _ Eb => ?_; clear J K' hE a q3
    refine M1 Eb 27 fun K' J ρ q27 => ?_; go_simp; (try go_bits); (try simp (disch := omega) only [IntWalk.i64_in])
    refine Ln Eb J fun _ Ea => ?_; clear J K' Eb q27
    refine M1 Ea 28 fun K' J ρ q28 => ?_; go_simp
    refine Ln Ea J fun _ Eb => ?_; clear J K' Ea q28
    refine Ld [1, 3] Eb hK fun a hE => ?_; clear hK K Q' Eb
    refine Ks ?_
    refine ⟨k + 1, ⟨hlt, by simpa using hE, hB3, fun i hi hik => ?_⟩, by omega⟩
    rcases Nat.lt_or_ge i k with h1 | h1
    ·exact HN.out i hi h1
    ·obtain rfl : i = k := by omega
     rw [HGk.out]; simpa using h
  ·have hkk : k = l.length := by have := of_decide_eq_false h; omega
   clear h
   have hx : l.all (fun g => lettersR g 2 4) = true := by
    rw [List.all_eq_true]
    intro g hg
    obtain ⟨i, hi, rfl⟩ := List.getElem_of_mem hg
    exact HN.out i hi (by omega)
   have hsz : ∀ i (h : i < l.length), l[i].size ≤ 4 := fun i hi => by
    have := lettersR_size (HN.out i hi (by omega)); omega
   have HX := hid hx
   have HS := hid hsz
   clear hx hsz hkk hk HN nr d0
   refine Ks ?_
   refine Rs 1 fun Q' K hK => ?_
   refine M0 fun K' J ρ => ?_; go_simp;
   refine Ln hE J fun _ Eb => ?_; clear J K' hE a
   refine Ld [1, 4] Eb hK fun a hE => ?_; clear hK K Q' Eb
   refine Ks ?_
   refine loop_st (fun (k : Nat) a w' => k ≤ l.length ∧ Fits 61 [(1, .pointer (some ⟨B, 0, none⟩)), (4, .int .i64 k)] a ∧ Below w2.heap.size w2 w' ∧ pairsTo l k = true) (fun k => l.length - k) 0 ?_ (fun k a w' hI => ?_)
   ·exact ⟨Nat.zero_le _, by simpa using hE, hBr, rfl⟩
   clear hE hBr hbr
   obtain ⟨hk, hE, hBr, hN⟩ := hI
   obtain ⟨wp, hwp⟩ : ∃ x, x = w' := ⟨_, rfl⟩
   subst hwp
   have HN := hid hN
   clear hN
   have hCr := hCB.below hBr
   have nr := hCr.1
   have d0 := hCr.2 0 _ rfl
   clear hCr
   refine Ks ?_
   refine Rs 5 fun Q' K hK => ?_
   refine M1 hE 4 fun K' J ρ q4 => ?_; go_simp
   refine Ln hE J fun _ Eb => ?_; clear J K' hE a q4
   refine M1 Eb 1 fun K' J ρ q1 => ?_; go_simp
   refine Ln Eb J fun _ Ea => ?_; clear J K' Eb q1
   refine M1 Ea 37 fun K' J ρ q37 => ?_; go_simp
   refine Ln Ea J fun _ Eb => ?_; clear J K' Ea q37
   refine M1 Eb 38 fun K' J ρ q38 => ?_; go_simp; (try go_bits)
   refine Ln Eb J fun _ Ea => ?_; clear J K' Eb q38
   refine M2 Ea 36 39 fun K' J ρ q36 q39 => ?_; go_simp; (try go_bits)
   refine Ln Ea J fun _ Eb => ?_; clear J K' Ea q36 q39
   refine Ld [1, 4, 40] Eb hK fun a hE => ?_; clear hK K Q' Eb
   refine Ks ?_
   refine cond_part hE (t := 40) rfl (fun h => ?_) (fun h => ?_)
   ·have hlt : k < l.length := of_decide_eq_true h
    clear h nr d0
    refine Ks ?_
    refine Rs 1 fun Q' K hK => ?_
    refine M0 fun K' J ρ => ?_; go_simp;
    refine Ln hE J fun _ Eb => ?_; clear J K' hE a
    refine Ld [1, 4, 5] Eb hK fun a hE => ?_; clear hK K Q' Eb
    refine Ks ?_
    refine loop_st (fun (j : Nat) a w' => j ≤ k ∧ Fits 61 [(1, .pointer (some ⟨B, 0, none⟩)), (4, .int .i64 k), (5, .int .i64 j)] a ∧ Below w2.heap.size w2 w' ∧ pairTo l k j = true) (fun j => k - j) 0 ?_ (fun j a w' hI => ?_)
    ·exact ⟨Nat.zero_le _, by simpa using hE, hBr, rfl⟩
    clear hE hBr
    obtain ⟨hj, hE, hBr, hP⟩ := hI
    obtain ⟨wq, hwq⟩ : ∃ x, x = w' := ⟨_, rfl⟩
    subst hwq
    have HP := hid hP
    clear hP
    refine Ks ?_
    refine Rs 3 fun Q' K hK => ?_
    refine M1 hE 5 fun K' J ρ q5 => ?_; go_simp
    refine Ln hE J fun _ Eb => ?_; clear J K' hE a q5
    refine M1 Eb 4 fun K' J ρ q4 => ?_; go_simp
    refine Ln Eb J fun _ Ea => ?_; clear J K' Eb q4
    refine M2 Ea 43 44 fun K' J ρ q43 q44 => ?_; go_simp; (try go_bits)
    refine Ln Ea J fun _ Eb => ?_; clear J K' Ea q43 q44
    refine Ld [1, 4, 5, 45] Eb hK fun a hE => ?_; clear hK K Q' Eb
    refine Ks ?_
    refine cond_part hE (t := 45) rfl (fun h => ?_) (fun h => ?_)
    ·have hjk : j < k := of_decide_eq_true h
     clear h
     have hltI : (k : Int) < l.length := by omega
     have hjI : (j : Int) < l.length := by omega
     have hjl : j < l.length := by omega
     have hCr := hCB.below hBr
     have nr := hCr.1
     have d0 := hCr.2 0 _ rfl
     clear hCr
     have hAq := (HA.out.below hBr).more hBr.size
     obtain ⟨bg, o, rfl, hb, hc⟩ := hAq.txt hlt
     obtain ⟨bg', o', e', -, hc'⟩ := hAq.txt hjl
     simp only [Option.some.injEq, Addr.mk.injEq, and_true] at e'
     obtain ⟨rfl, rfl⟩ := e'
     have z1 := HS.out k hlt
     have z2 := HS.out j hjl
     have t1 := getT_at hlt
     have t2 := getT_at hjl
     obtain ⟨g, hg⟩ : ∃ g, l[k] = g := ⟨_, rfl⟩
     obtain ⟨g', hg'⟩ : ∃ g, l[j] = g := ⟨_, rfl⟩
     rw [hg] at hc z1 t1
     rw [hg'] at hc' z2 t2
     clear hg hg' hAq
     have hsum : ¬ 9223372036854775807 < g.size + g'.size := by omega
     have hcs : (g ++ g').size ≤ 9223372036854775807 := by
      have : (g ++ g').size = g.size + g'.size := by simp
      omega
     have hps : pairTo l k (j + 1) = (pairTo l k j && lettersR (g ++ g') 4 8) := by
      unfold pairTo
      rw [List.range_succ, List.all_append, List.all_cons, List.all_nil, Bool.and_true, t1, t2]
     have HPS := hid hps
     clear hps t1 t2
     refine Ks ?_
     refine Rd [] (fun wt => Below wq.heap.size wq wt) (fun w1 w2 => Below w1.heap.size w1 w2) [(0, some 48), (1, some 49), (2, some 50), (3, some 51), (4, some 52), (5, some 53), (6, some 54), (7, some 55), (8, some 56), (9, some 57), (10, some 58), (11, some 59), (12, some 60)] [48, 49, 50, 51, 52, 53, 54, 55, 56, 57, 58, 59, 60] #[true, true, true, true, true, true, true, true, true, true, true, true, true] [1, 4, 5] hE ((Below.refl _ _).drew) fun Q' K hK => ?_
     refine SeqOps.val ?_ (Sp fun ax wx hS hT' hd K' J => ?_) ?_; rotate_left 1
     ·have r1 := hS.at 1 (by decide) (hE.at 1 rfl); obtain ⟨_, _, _, _, _, _⟩ := bT hT'
      refine o1 r1 fun ρ q1 => ?_; go_simp;
      exact Jo J hT'
     refine SeqOps.val ?_ (Sp fun ax wx hS hT' hd K' J => ?_) ?_; rotate_left 1
     ·have r48 := Tv hd 0 0 48; obtain ⟨_, _, _, _, _, _⟩ := bT hT'
      refine o1 r48 fun ρ q48 => ?_; go_simp;
      exact Jo J hT'
     refine SeqOps.val ?_ (Sp fun ax wx hS hT' hd K' J => ?_) ?_; rotate_left 1
     ·have r4 := hS.at 4 (by decide) (hE.at 4 rfl); obtain ⟨_, _, _, _, _, _⟩ := bT hT'
      refine o1 r4 fun ρ q4 => ?_; go_simp;
      exact Jo J hT'
     refine SeqOps.val ?_ (Sp fun ax wx hS hT' hd K' J => ?_) ?_; rotate_left 1
     ·have r49 := Tv hd 1 1 49; have r50 := Tv hd 0 2 50; obtain ⟨_, _, _, _, _, _⟩ := bT hT'
      refine o2 r49 r50 fun ρ q49 q50 => ?_; go_simp; (try go_bits);
      exact Jo J hT'
     refine SeqOps.val ?_ (Sp fun ax wx hS hT' hd K' J => ?_) ?_; rotate_left 1
     ·have r51 := Tv hd 0 3 51; obtain ⟨_, _, _, _, _, _⟩ := bT hT'
      refine o1 r51 fun ρ q51 => ?_; go_simp;
      exact Jo J hT'
     refine SeqOps.val ?_ (Sp fun ax wx hS hT' hd K' J => ?_) ?_; rotate_left 1
     ·have r1 := hS.at 1 (by decide) (hE.at 1 rfl); obtain ⟨_, _, _, _, _, _⟩ := bT hT'
      refine o1 r1 fun ρ q1 => ?_; go_simp;
      exact Jo J hT'
     refine SeqOps.val ?_ (Sp fun ax wx hS hT' hd K' J => ?_) ?_; rotate_left 1
     ·have r53 := Tv hd 0 5 53; obtain ⟨_, _, _, _, _, _⟩ := bT hT'
      refine o1 r53 fun ρ q53 => ?_; go_simp;
      exact Jo J hT'
     refine SeqOps.val ?_ (Sp fun ax wx hS hT' hd K' J => ?_) ?_; rotate_left 1
     ·have r5 := hS.at 5 (by decide) (hE.at 5 rfl); obtain ⟨_, _, _, _, _, _⟩ := bT hT'
      refine o1 r5 fun ρ q5 => ?_; go_simp;
      exact Jo J hT'
     refine SeqOps.val ?_ (Sp fun ax wx hS hT' hd K' J => ?_) ?_; rotate_left 1
     ·have r54 := Tv hd 1 6 54; have r55 := Tv hd 0 7 55; obtain ⟨_, _, _, _, _, _⟩ := bT hT'
      refine o2 r54 r55 fun ρ q54 q55 => ?_; go_simp; (try go_bits);
      exact Jo J hT'
     refine SeqOps.val ?_ (Sp fun ax wx hS hT' hd K' J => ?_) ?_; rotate_left 1
     ·have r56 := Tv hd 0 8 56; obtain ⟨_, _, _, _, _, _⟩ := bT hT'
      refine o1 r56 fun ρ q56 => ?_; go_simp;
      exact Jo J hT'
     refine SeqOps.val ?_ (Sp fun ax wx hS hT' hd K' J => ?_) ?_; rotate_left 1
     ·have r52 := Tv hd 5 4 52; have r57 := Tv hd 0 9 57; obtain ⟨_, _, _, _, _, _⟩ := bT hT'
      refine o2 r52 r57 fun ρ q52 q57 => ?_; go_simp; (try go_bits); (try simp (disch := omega) only [IntWalk.i64_in]);
      exact Jo J hT'
     refine SeqOps.val ?_ (Sp fun ax wx hS hT' hd K' J => ?_) ?_; rotate_left 1
     ·have r58 := Tv hd 0 10 58; obtain ⟨_, _, _, _, _, _⟩ := bT hT'
      refine o1 r58 fun ρ q58 => ?_; go_simp; (try go_bits);
      go_at_call 71; refine (rletters_any (g ++ g') 4 8 _ hcs).mono ?_; rintro e g1 ⟨rfl, k1⟩
      refine J.out _ _ _ rfl ?_ (hT'.trans (k1.mono hT'.size)) k1; rfl
     refine SeqOps.val ?_ (Sp fun ax wx hS hT' hd K' J => ?_) ?_; rotate_left 1
     ·have r59 := Tv hd 0 11 59; obtain ⟨_, _, _, _, _, _⟩ := bT hT'
      refine o1 r59 fun ρ q59 => ?_; go_simp; (try go_bits); (try simp (disch := omega) only [IntWalk.i64_in]);
      exact Jo J hT'
     refine SeqOps.nil ?_
     intro wn hBl; (repeat refine Ek ?_)
     refine fun ax hEx => ?_
     simp only [lk, pick, Nat.reduceEqDiff, ↓reduceIte] at hEx
     refine Ld [1, 4, 5, 60] hEx hK fun a hE => ?_; clear hK K Q' hEx
     have hB3 := hBr.trans (hBl.mono hBr.size)
     refine Ks ?_
     refine cond_part hE (t := 60) rfl (fun h => ?_) (fun h => ?_)
     ·refine Ks ?_
      refine Rs 1 fun Q' K hK => ?_
      refine M0 fun K' J ρ => ?_; go_simp;
      refine Ln hE J fun _ Eb => ?_; clear J K' hE a
      refine Ld [2] Eb hK fun a hE => ?_; clear hK K Q' Eb
      refine Ks ?_
      refine ret_one hE rfl rfl ⟨?_, hb2.trans (hB3.mono hb2.size)⟩
      have hx : pairsTo l l.length = false := by
       unfold pairsTo
       refine List.all_eq_false.2 ⟨k, List.mem_range.2 hlt, ?_⟩
       have h0 : lettersR (g ++ g') 4 8 = false := by simpa using h
       have hp1 : pairTo l k (j + 1) = false := by rw [HPS.out, h0, Bool.and_false]
       unfold pairTo at hp1 ⊢
       rw [List.all_eq_false] at hp1
       obtain ⟨x, hx1, hx2⟩ := hp1
       intro hall
       exact hx2 (List.all_eq_true.1 hall x (List.mem_range.2 (by have := List.mem_range.1 hx1; omega)))
      unfold rEarB
      rw [HH.out, HX.out, hx]; rfl
     ·refine Ks ?_
      refine Rs 3 fun Q' K hK => ?_
      refine M1 hE 5 fun K' J ρ q5 => ?_; go_simp
      refine Ln hE J fun _ Eb => ?_; clear J K' hE a q5
      refine M1 Eb 46 fun K' J ρ q46 => ?_; go_simp; (try go_bits); (try simp (disch := omega) only [IntWalk.i64_in])
      refine Ln Eb J fun _ Ea => ?_; clear J K' Eb q46
      refine M1 Ea 47 fun K' J ρ q47 => ?_; go_simp
      refine Ln Ea J fun _ Eb => ?_; clear J K' Ea q47
      refine Ld [1, 4, 5] Eb hK fun a hE => ?_; clear hK K Q' Eb
      refine Ks ?_
      refine ⟨j + 1, ⟨hjk, by simpa using hE, hB3, ?_⟩, by omega⟩
      have h0 : lettersR (g ++ g') 4 8 = true := by simpa using h
      rw [HPS.out, HP.out, h0]; rfl
    ·have hjk : j = k := by have := of_decide_eq_false h; omega
     subst hjk
     clear h
     refine Ks ?_
     refine Rs 3 fun Q' K hK => ?_
     refine M1 hE 4 fun K' J ρ q4 => ?_; go_simp
     refine Ln hE J fun _ Eb => ?_; clear J K' hE a q4
     refine M1 Eb 41 fun K' J ρ q41 => ?_; go_simp; (try go_bits); (try simp (disch := omega) only [IntWalk.i64_in])
     refine Ln Eb J fun _ Ea => ?_; clear J K' Eb q41
     refine M1 Ea 42 fun K' J ρ q42 => ?_; go_simp
     refine Ln Ea J fun _ Eb => ?_; clear J K' Ea q42
     refine Ld [1, 4] Eb hK fun a hE => ?_; clear hK K Q' Eb
     refine Ks ?_
     refine ⟨j + 1, ⟨hlt, by simpa using hE, hBr, ?_⟩, by omega⟩
     have h1 := HN.out
     have h2 := HP.out
     unfold pairsTo at h1 ⊢
     rw [List.range_succ, List.all_append, h1, List.all_cons, List.all_nil, h2]; rfl
   ·have hkk : k = l.length := by have := of_decide_eq_false h; omega
    subst hkk
    clear h
    refine Ks ?_
    refine Rs 1 fun Q' K hK => ?_
    refine M0 fun K' J ρ => ?_; go_simp;
    refine Ln hE J fun _ Eb => ?_; clear J K' hE a
    refine Ld [2] Eb hK fun a hE => ?_; clear hK K Q' Eb
    refine Ks ?_
    refine ret_one hE rfl rfl ⟨?_, hb2.trans (hBr.mono hb2.size)⟩
    unfold rEarB
    rw [HH.out, HX.out, HN.out]; rfl
theorem lettersB_iff (l : List UInt8) : lettersB l = true ↔ (∀ c ∈ l, letterB c = true) ∧ l.Nodup := by
 unfold lettersB
 rw [List.all_eq_true]
 constructor
 ·intro h
  refine ⟨fun c hc => ?_, ?_⟩
  ·obtain ⟨i, hi, rfl⟩ := List.getElem_of_mem hc
   have := h i (List.mem_range.2 hi)
   rw [newB_inner _ _ (by omega)] at this
   unfold innerTo at this
   rw [Bool.and_eq_true, getD_at hi] at this
   exact this.1
  ·unfold List.Nodup
   rw [List.pairwise_iff_getElem]
   intro i j hi hj hij heq
   have := h j (List.mem_range.2 hj)
   rw [newB_inner _ _ (by omega)] at this
   unfold innerTo at this
   rw [Bool.and_eq_true, List.all_eq_true] at this
   have := this.2 i (List.mem_range.2 hij)
   rw [bne_iff_ne, getD_at hi, getD_at hj] at this
   exact this heq
 ·rintro ⟨h1, h2⟩ i hi
  have hi := List.mem_range.1 hi
  unfold List.Nodup at h2
  rw [List.pairwise_iff_getElem] at h2
  rw [newB_inner _ _ (by omega)]
  unfold innerTo
  rw [Bool.and_eq_true, List.all_eq_true, getD_at hi]
  refine ⟨h1 _ (List.getElem_mem hi), fun j hj => ?_⟩
  have hj := List.mem_range.1 hj
  rw [bne_iff_ne, getD_at (by omega)]
  exact h2 j i (by omega) hi hj
theorem flat_letters (l : List ByteArray) : lettersB (flatT l) = true ↔ (∀ i (h : i < l.length), lettersB l[i].data.toList = true) ∧ ∀ i (h : i < l.length), ∀ k (hk : k < i), ∀ x ∈ l[i].data.toList, ∀ y ∈ (l[k]'(by omega)).data.toList, x ≠ y := by
 rw [lettersB_iff]
 unfold flatT List.Nodup
 rw [List.pairwise_flatMap]
 constructor
 ·rintro ⟨h1, h2, h3⟩
  refine ⟨fun i hi => ?_, fun i hi k hk x hx y hy => ?_⟩
  ·rw [lettersB_iff]
   exact ⟨fun c hc => h1 c (List.mem_flatMap.2 ⟨l[i], List.getElem_mem hi, hc⟩), h2 _ (List.getElem_mem hi)⟩
  ·rw [List.pairwise_iff_getElem] at h3
   exact fun e => h3 k i (by omega) hi hk y hy x hx e.symm
 ·rintro ⟨h1, h2⟩
  refine ⟨fun c hc => ?_, fun g hg => ?_, ?_⟩
  ·obtain ⟨g, hg, hc⟩ := List.mem_flatMap.1 hc
   obtain ⟨i, hi, rfl⟩ := List.getElem_of_mem hg
   exact ((lettersB_iff _).1 (h1 i hi)).1 c hc
  ·obtain ⟨i, hi, rfl⟩ := List.getElem_of_mem hg
   exact ((lettersB_iff _).1 (h1 i hi)).2
  ·rw [List.pairwise_iff_getElem]
   intro k i hk hi hki x hx y hy e
   exact h2 i hi k hki y hy x hx e.symm
theorem pair_letters (g h : ByteArray) (hg : groupB g = true) (hh : groupB h = true) (lg : lettersB g.data.toList = true) (lh : lettersB h.data.toList = true) : lettersR (g ++ h) 4 8 = true ↔ ∀ x ∈ g.data.toList, ∀ y ∈ h.data.toList, x ≠ y := by
 unfold groupB at hg hh
 simp only [Bool.and_eq_true, decide_eq_true_eq] at hg hh
 unfold lettersR
 have hs : (g ++ h).size = g.size + h.size := by simp
 have hd : (g ++ h).data.toList = g.data.toList ++ h.data.toList := by rw [ByteArray.data_append, Array.toList_append]
 rw [hs, hd, Bool.and_eq_true, Bool.and_eq_true, decide_eq_true_eq, decide_eq_true_eq, lettersB_iff]
 obtain ⟨a1, a2⟩ := (lettersB_iff _).1 lg
 obtain ⟨b1, b2⟩ := (lettersB_iff _).1 lh
 unfold List.Nodup at a2 b2 ⊢
 rw [List.pairwise_append]
 constructor
 ·rintro ⟨_, _, _, _, h4⟩
  exact h4
 ·intro h4
  refine ⟨⟨by omega, by omega⟩, fun c hc => ?_, a2, b2, h4⟩
  rcases List.mem_append.1 hc with hc | hc
  ·exact a1 c hc
  ·exact b1 c hc
theorem ear_eq (e : Ear) : rEarB e = e.ok := by
 obtain ⟨l, m, sl⟩ := e
 have h1 : lettersR m 0 3 = (decide ((m.size : Int) ≤ 3) && lettersB m.data.toList) := by
  unfold lettersR
  rw [decide_eq_true (by omega : (0 : Int) ≤ m.size), Bool.true_and]
 have h2 : (l.all (fun g => lettersR g 2 4) && pairsTo l l.length) = (l.all groupB && lettersB (flatT l)) := by
  rw [Bool.eq_iff_iff, Bool.and_eq_true, Bool.and_eq_true, flat_letters]
  have hR : ∀ g : ByteArray, lettersR g 2 4 = (groupB g && lettersB g.data.toList) := fun g => rfl
  constructor
  ·rintro ⟨ha, hp⟩
   rw [List.all_eq_true] at ha
   have hg : ∀ i (h : i < l.length), groupB l[i] = true ∧ lettersB l[i].data.toList = true := fun i hi => by
    have := ha l[i] (List.getElem_mem hi)
    rw [hR, Bool.and_eq_true] at this
    exact this
   refine ⟨List.all_eq_true.2 fun g hg' => ?_, fun i hi => (hg i hi).2, fun i hi k hk => ?_⟩
   ·obtain ⟨i, hi, rfl⟩ := List.getElem_of_mem hg'
    exact (hg i hi).1
   ·unfold pairsTo at hp
    have := List.all_eq_true.1 hp i (List.mem_range.2 hi)
    unfold pairTo at this
    have := List.all_eq_true.1 this k (List.mem_range.2 hk)
    rw [getT_at hi, getT_at (by omega : k < l.length)] at this
    exact (pair_letters _ _ (hg i hi).1 (hg k (by omega)).1 (hg i hi).2 (hg k (by omega)).2).1 this
  ·rintro ⟨hg, hl, hp⟩
   rw [List.all_eq_true] at hg
   refine ⟨List.all_eq_true.2 fun g hg' => ?_, ?_⟩
   ·obtain ⟨i, hi, rfl⟩ := List.getElem_of_mem hg'
    rw [hR, hg _ (List.getElem_mem hi), hl i hi]; rfl
   ·unfold pairsTo
    refine List.all_eq_true.2 fun i hi => ?_
    have hi := List.mem_range.1 hi
    unfold pairTo
    refine List.all_eq_true.2 fun k hk => ?_
    have hk := List.mem_range.1 hk
    rw [getT_at hi, getT_at (by omega : k < l.length)]
    exact (pair_letters _ _ (hg _ (List.getElem_mem hi)) (hg _ (List.getElem_mem (by omega))) (hl i hi) (hl k (by omega))).2 (hp i hi k hk)
 unfold rEarB rHeadB Ear.ok groupsB
 simp only [h1, h2]
 cases decide ((4 : Int) < l.length) <;> cases decide ((m.size : Int) ≤ 3) <;> cases lettersB m.data.toList <;> cases (decide (0 ≤ sl) && decide (sl ≤ 3)) <;> cases (l.all groupB && lettersB (flatT l)) <;> rfl
end Go.Proofs.YtbimkcjdodgojaaGreat
