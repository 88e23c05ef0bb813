/- Name: the law's checks of an ear and of books. -/
import Derived.Test.YtbimkcjdodgojaaNd
import Derived.Test.YtbimkcjdodgojaaNj
import Derived.Test.YtbimkcjdodgojaaNpb
import Derived.Test.YtbimkcjdodgojaaBn
namespace Go.Proofs.Ytbimkcjdodgojaa
set_option linter.unusedSimpArgs false
set_option linter.unusedVariables false
open Go.RowKit
attribute [local go_sem high] cell_set_wr
attribute [local go_sem low] cell_wr frozen_wr
attribute [local go_sem] wr_set wr_drew wr_drewN wr_alloc wr_new Rho.c Rho.n Rho.g

theorem ear_parts {e : Ear} (h : e.ok = true) : e.alike.length ≤ 4 ∧ e.mute.size ≤ 3 ∧ 0 ≤ e.slips ∧ e.slips ≤ 3 ∧ ∀ i (h : i < e.alike.length), (2 : Int) ≤ e.alike[i].size ∧ (e.alike[i].size : Int) ≤ 4 := by
 unfold Ear.ok groupsB at h
 simp only [Bool.and_eq_true, decide_eq_true_eq, Bool.not_eq_true', decide_eq_false_iff_not, List.all_eq_true] at h
 obtain ⟨⟨h1, _⟩, ⟨h2, h3, _⟩, h4, h5⟩ := h
 refine ⟨by omega, by omega, h4, h5, fun i hi => ?_⟩
 have := h3 e.alike[i] (List.getElem_mem hi)
 unfold groupB at this
 simpa using this
set_option maxRecDepth 100000 in
set_option maxHeartbeats 2000000 in
theorem lheard_any (A : Option Addr) (cap : Nat) (l : List ByteArray) (m : ByteArray) (sl : Int) (w : World) (hA : Arr w w.heap.size A (txts l)) (hcap : l.length ≤ cap) (hl : l.length ≤ 9223372036854775807) (hm : m.size ≤ 9223372036854775807) : Calls Try.prog 26 #[.agg #[.slice A l.length cap, .string m, .int .i64 sl]] w fun e w' => e = .returned (.bool (Ear.ok ⟨l, m, sl⟩)) ∧ Below w.heap.size w w' := by
 have C := hid fun W hW => pCheckEar_any A cap l m sl W hW hcap hl hm
 cases ho : Ear.ok ⟨l, m, sl⟩
 ·have e0 : earE ⟨l, m, sl⟩ = 20 := by unfold earE; rw [ho]; rfl
  rw [e0] at C
  clear e0 ho
  refine enterE Try.func26 rfl Try.ntmps26 (by simp) (fun a hE => ?_); simp only [envOf, Nat.zero_add, Nat.reduceAdd] at hE
  refine Ks ?_
  refine Rs 2 fun Q' K hK => ?_
  refine M1 hE 0 fun K' J ρ q0 => ?_; go_simp; (try clear q0)
  refine Ln hE J fun _ Eb => ?_; clear J K' hE a
  refine M0 fun K' J ρ => ?_; go_simp;
  refine Ln Eb J fun _ Ea => ?_; clear J K' Eb
  refine late_done [1, 2] Ea hK (fun a hE => ?_); clear hK K Q' Ea; simp only [lk, pick, Nat.reduceEqDiff, ↓reduceIte] at hE
  obtain ⟨B, hBe⟩ : ∃ B, B = w.heap.size := ⟨_, rfl⟩; rw [← hBe] at hE; refine world_cut (fun wt => Below w.heap.size w wt ∧ Cells wt B [.slice A l.length cap, .string m, .int .i64 sl]) ⟨(Below.refl _ _).alloc (Nat.le_refl _) _, by rw [hBe]; exact cells_new _ _ _⟩ (fun w1 hCut => ?_); obtain ⟨hbw1, hCB⟩ := hCut; clear hBe
  have hA1 := (hA.below hbw1).more hbw1.size
  have nB := hCB.1; have cB0 := hCB.2 0 _ rfl; have cB1 := hCB.2 1 _ rfl; have cB2 := hCB.2 2 _ rfl
  refine Ks ?_
  refine Rs 21 fun Q' K hK => ?_
  refine M1 hE 1 fun K' J ρ q1 => ?_; go_simp; (try clear q1)
  refine Ln hE J fun _ Eb => ?_; clear J K' hE a
  refine M1 Eb 5 fun K' J ρ q5 => ?_; go_simp; (try go_bits); (try clear q5)
  go_at_call 13; refine (C.out _ hA1).mono ?_; rintro e w2 ⟨rfl, h2⟩
  (try clear r5)
  refine Ln Eb J fun _ Ea => ?_; clear J K' Eb
  refine M1 Ea 6 fun K' J ρ q6 => ?_; go_simp; (try go_bits); (try clear q6)
  refine Ln Ea J fun _ Eb => ?_; clear J K' Ea
  refine M1 Eb 7 fun K' J ρ q7 => ?_; go_simp; (try clear q7)
  refine Ln Eb J fun _ Ea => ?_; clear J K' Eb
  refine Lno Ea 8 ?_
  refine Lu Ea fun _ Eb => ?_
  refine Lno Eb 8 ?_
  refine Lu Eb fun _ Ea => ?_
  refine Lno Ea 8 ?_
  refine Lu Ea fun _ Eb => ?_
  refine Lno Eb 8 ?_
  refine Lu Eb fun _ Ea => ?_
  refine M2 Ea 8 12 fun K' J ρ q8 q12 => ?_; go_simp; (try go_bits); (try clear q8 q12)
  refine Ln Ea J fun _ Eb => ?_; clear J K' Ea
  refine M1 Eb 13 fun K' J ρ q13 => ?_; go_simp; (try clear q13)
  refine Ln Eb J fun _ Ea => ?_; clear J K' Eb
  refine Lno Ea 14 ?_
  refine Lu Ea fun _ Eb => ?_
  refine Lno Eb 14 ?_
  refine Lu Eb fun _ Ea => ?_
  refine Lno Ea 14 ?_
  refine Lu Ea fun _ Eb => ?_
  refine Lno Eb 14 ?_
  refine Lu Eb fun _ Ea => ?_
  refine M2 Ea 14 18 fun K' J ρ q14 q18 => ?_; go_simp; (try go_bits); (try clear q14 q18)
  refine Ln Ea J fun _ Eb => ?_; clear J K' Ea
  refine M1 Eb 19 fun K' J ρ q19 => ?_; go_simp; (try clear q19)
  refine Ln Eb J fun _ Ea => ?_; clear J K' Eb
  refine Lno Ea 20 ?_
  refine Lu Ea fun _ Eb => ?_
  refine Lno Eb 20 ?_
  refine Lu Eb fun _ Ea => ?_
  refine Lno Ea 20 ?_
  refine Lu Ea fun _ Eb => ?_
  refine M2 Eb 20 23 fun K' J ρ q20 q23 => ?_; go_simp; (try go_bits); (try clear q20 q23)
  refine Ln Eb J fun _ Ea => ?_; clear J K' Eb
  refine M1 Ea 24 fun K' J ρ q24 => ?_; go_simp; (try clear q24)
  refine Ln Ea J fun _ Eb => ?_; clear J K' Ea
  refine late_done [1, 3] Eb hK (fun a hE => ?_); clear hK K Q' Eb; simp only [lk, pick, Nat.reduceEqDiff, ↓reduceIte] at hE
  have hb2 := hbw1.trans (h2.mono hbw1.size)
  refine Ks ?_
  refine Rs 1 fun Q' K hK => ?_
  refine M0 fun K' J ρ => ?_; go_simp;
  refine Ln hE J fun _ Eb => ?_; clear J K' hE a
  refine late_done [1, 3, 4] Eb hK (fun a hE => ?_); clear hK K Q' Eb; simp only [lk, pick, Nat.reduceEqDiff, ↓reduceIte] at hE
  refine Ks ?_
  refine loop_st (fun (_ : Nat) a w' => Fits 43 [(1, .pointer (some ⟨B, 0, none⟩)), (3, .bool false), (4, .int .i64 0)] a ∧ Below w2.heap.size w2 w') (fun k => k) 0 ⟨by simpa using hE, Below.refl _ _⟩ (fun k a w' hI => ?_)
  clear hE
  obtain ⟨hE, hW⟩ := hI
  obtain ⟨wr, hwr⟩ : ∃ x, x = w' := ⟨_, rfl⟩
  subst hwr
  refine Ks ?_
  refine Rs 8 fun Q' K hK => ?_
  refine M1 hE 3 fun K' J ρ q3 => ?_; go_simp; (try clear q3)
  refine Ln hE J fun _ Eb => ?_; clear J K' hE a
  refine M1 Eb 25 fun K' J ρ q25 => ?_; go_simp; (try clear q25)
  refine Ln Eb J fun _ Ea => ?_; clear J K' Eb
  refine Lno Ea 26 ?_
  refine Lu Ea fun _ Eb => ?_
  refine Lno Eb 26 ?_
  refine Lu Eb fun _ Ea => ?_
  refine Lno Ea 26 ?_
  refine Lu Ea fun _ Eb => ?_
  refine Lno Eb 26 ?_
  refine Lu Eb fun _ Ea => ?_
  refine Lno Ea 26 ?_
  refine Lu Ea fun _ Eb => ?_
  refine M2 Eb 26 31 fun K' J ρ q26 q31 => ?_; go_simp; (try go_bits); (try clear q26 q31)
  refine Ln Eb J fun _ Ea => ?_; clear J K' Eb
  refine late_done [3, 32] Ea hK (fun a hE => ?_); clear hK K Q' Ea; simp only [lk, pick, Nat.reduceEqDiff, ↓reduceIte] at hE
  refine Ks ?_
  refine cond_no hE (t := 32) rfl ?_
  refine Ks ?_
  refine Rs 2 fun Q' K hK => ?_
  refine M1 hE 3 fun K' J ρ q3 => ?_; go_simp; (try clear q3)
  refine Ln hE J fun _ Eb => ?_; clear J K' hE a
  refine M1 Eb 42 fun K' J ρ q42 => ?_; go_simp; (try clear q42)
  refine Ln Eb J fun _ Ea => ?_; clear J K' Eb
  refine late_done [2] Ea hK (fun a hE => ?_); clear hK K Q' Ea; simp only [lk, pick, Nat.reduceEqDiff, ↓reduceIte] at hE
  refine Ks ?_
  exact ret_one hE rfl rfl ⟨rfl, hb2.trans (hW.mono hb2.size)⟩
 ·have e0 : earE ⟨l, m, sl⟩ = 0 := by unfold earE; rw [ho]; rfl
  rw [e0] at C
  obtain ⟨p1, p2, p3, p4, p5⟩ := ear_parts ho
  simp only at p1 p2 p3 p4 p5
  have hl4 : (l.length : Int) ≤ 4 := by omega
  have hm3 : (m.size : Int) ≤ 3 := by omega
  have HS : Hid ((decide ((0 : Int) ≤ sl) && decide (sl ≤ 3)) = true) := hid (by simp [p3, p4])
  have HG : Hid (∀ i (h : i < l.length), (decide ((2 : Int) ≤ l[i].size) && decide ((l[i].size : Int) ≤ 4)) = true) := hid fun i h => by have := p5 i h; simp [this.1, this.2]
  clear e0 ho p1 p2 p3 p4 p5
  refine enterE Try.func26 rfl Try.ntmps26 (by simp) (fun a hE => ?_); simp only [envOf, Nat.zero_add, Nat.reduceAdd] at hE
  refine Ks ?_
  refine Rs 2 fun Q' K hK => ?_
  refine M1 hE 0 fun K' J ρ q0 => ?_; go_simp; (try clear q0)
  refine Ln hE J fun _ Eb => ?_; clear J K' hE a
  refine M0 fun K' J ρ => ?_; go_simp;
  refine Ln Eb J fun _ Ea => ?_; clear J K' Eb
  refine late_done [1, 2] Ea hK (fun a hE => ?_); clear hK K Q' Ea; simp only [lk, pick, Nat.reduceEqDiff, ↓reduceIte] at hE
  obtain ⟨B, hBe⟩ : ∃ B, B = w.heap.size := ⟨_, rfl⟩; rw [← hBe] at hE; refine world_cut (fun wt => Below w.heap.size w wt ∧ Cells wt B [.slice A l.length cap, .string m, .int .i64 sl]) ⟨(Below.refl _ _).alloc (Nat.le_refl _) _, by rw [hBe]; exact cells_new _ _ _⟩ (fun w1 hCut => ?_); obtain ⟨hbw1, hCB⟩ := hCut; clear hBe
  have hA1 := (hA.below hbw1).more hbw1.size
  have nB := hCB.1; have cB0 := hCB.2 0 _ rfl; have cB1 := hCB.2 1 _ rfl; have cB2 := hCB.2 2 _ rfl
  refine Ks ?_
  refine Rs 21 fun Q' K hK => ?_
  refine M1 hE 1 fun K' J ρ q1 => ?_; go_simp; (try clear q1)
  refine Ln hE J fun _ Eb => ?_; clear J K' hE a
  refine M1 Eb 5 fun K' J ρ q5 => ?_; go_simp; (try go_bits); (try clear q5)
  go_at_call 13; refine (C.out _ hA1).mono ?_; rintro e w2 ⟨rfl, h2⟩; have hCB2 := hCB.below h2; have n2 := hCB2.1; have c20 := hCB2.2 0 _ rfl; have c21 := hCB2.2 1 _ rfl; have c22 := hCB2.2 2 _ rfl
  (try clear r5)
  refine Ln Eb J fun _ Ea => ?_; clear J K' Eb
  refine M1 Ea 6 fun K' J ρ q6 => ?_; go_simp; (try go_bits); (try clear q6)
  refine Ln Ea J fun _ Eb => ?_; clear J K' Ea
  refine M1 Eb 7 fun K' J ρ q7 => ?_; go_simp; (try clear q7)
  refine Ln Eb J fun _ Ea => ?_; clear J K' Eb
  refine N1 Ea 8 1 fun K' J ρ q1 => ?_; go_simp; (try clear q1)
  refine Ln Ea J fun _ Eb => ?_; clear J K' Ea
  refine N1 Eb 8 9 fun K' J ρ q9 => ?_; go_simp; (try clear q9)
  refine Ln Eb J fun _ Ea => ?_; clear J K' Eb
  refine N1 Ea 8 10 fun K' J ρ q10 => ?_; go_simp; (try go_bits); (try clear q10)
  refine Ln Ea J fun _ Eb => ?_; clear J K' Ea
  refine N1 Eb 8 11 fun K' J ρ q11 => ?_; go_simp; (try go_bits); (try clear q11)
  refine Ln Eb J fun _ Ea => ?_; clear J K' Eb
  refine M2 Ea 8 12 fun K' J ρ q8 q12 => ?_; go_simp; (try go_bits); (try clear q8 q12)
  refine Ln Ea J fun _ Eb => ?_; clear J K' Ea
  refine M1 Eb 13 fun K' J ρ q13 => ?_; go_simp; (try clear q13)
  refine Ln Eb J fun _ Ea => ?_; clear J K' Eb
  refine N1 Ea 14 1 fun K' J ρ q1 => ?_; go_simp; (try clear q1)
  refine Ln Ea J fun _ Eb => ?_; clear J K' Ea
  refine N1 Eb 14 15 fun K' J ρ q15 => ?_; go_simp; (try clear q15)
  refine Ln Eb J fun _ Ea => ?_; clear J K' Eb
  refine N1 Ea 14 16 fun K' J ρ q16 => ?_; go_simp; (try go_bits); (try clear q16)
  refine Ln Ea J fun _ Eb => ?_; clear J K' Ea
  refine N1 Eb 14 17 fun K' J ρ q17 => ?_; go_simp; (try go_bits); (try clear q17)
  refine Ln Eb J fun _ Ea => ?_; clear J K' Eb
  refine M2 Ea 14 18 fun K' J ρ q14 q18 => ?_; go_simp; (try go_bits); (try clear q14 q18)
  refine Ln Ea J fun _ Eb => ?_; clear J K' Ea
  refine M1 Eb 19 fun K' J ρ q19 => ?_; go_simp; (try clear q19)
  refine Ln Eb J fun _ Ea => ?_; clear J K' Eb
  refine N1 Ea 20 1 fun K' J ρ q1 => ?_; go_simp; (try clear q1)
  refine Ln Ea J fun _ Eb => ?_; clear J K' Ea
  refine N1 Eb 20 21 fun K' J ρ q21 => ?_; go_simp; (try clear q21)
  refine Ln Eb J fun _ Ea => ?_; clear J K' Eb
  refine N1 Ea 20 22 fun K' J ρ q22 => ?_; go_simp; (try go_bits); (try clear q22)
  go_at_call 25; refine (between_any _ _ _ _).mono ?_; rw [HS.out]; rintro e w3 ⟨rfl, rfl⟩
  (try clear r22)
  refine Ln Ea J fun _ Eb => ?_; clear J K' Ea
  refine M2 Eb 20 23 fun K' J ρ q20 q23 => ?_; go_simp; (try go_bits); (try clear q20 q23)
  refine Ln Eb J fun _ Ea => ?_; clear J K' Eb
  refine M1 Ea 24 fun K' J ρ q24 => ?_; go_simp; (try clear q24)
  refine Ln Ea J fun _ Eb => ?_; clear J K' Ea
  refine late_done [1, 3] Eb hK (fun a hE => ?_); clear hK K Q' Eb; simp only [lk, pick, Nat.reduceEqDiff, ↓reduceIte] at hE
  have hb2 := hbw1.trans (h2.mono hbw1.size)
  have hA2 := (hA.below hb2).more hb2.size
  clear nB cB0 cB1 cB2 n2 c20 c21 c22 hCB hl4 hm3
  refine Ks ?_
  refine Rs 1 fun Q' K hK => ?_
  refine M0 fun K' J ρ => ?_; go_simp;
  refine Ln hE J fun _ Eb => ?_; clear J K' hE a
  refine late_done [1, 3, 4] Eb hK (fun a hE => ?_); clear hK K Q' Eb; simp only [lk, pick, Nat.reduceEqDiff, ↓reduceIte] at hE
  refine Ks ?_
  refine loop_st (fun (k : Nat) a w' => k ≤ l.length ∧ Fits 43 [(1, .pointer (some ⟨B, 0, none⟩)), (3, .bool true), (4, .int .i64 k)] a ∧ Below w2.heap.size w2 w') (fun k => l.length - k) 0 ⟨Nat.zero_le _, by simpa using hE, Below.refl _ _⟩ (fun k a w' hI => ?_)
  clear hE
  obtain ⟨hk, hE, hW⟩ := hI
  obtain ⟨wr, hwr⟩ : ∃ x, x = w' := ⟨_, rfl⟩
  subst hwr
  have hCr := hCB2.below hW
  have nr := hCr.1
  have cr0 := hCr.2 0 _ rfl
  refine Ks ?_
  refine Rs 8 fun Q' K hK => ?_
  refine M1 hE 3 fun K' J ρ q3 => ?_; go_simp; (try clear q3)
  refine Ln hE J fun _ Eb => ?_; clear J K' hE a
  refine M1 Eb 25 fun K' J ρ q25 => ?_; go_simp; (try clear q25)
  refine Ln Eb J fun _ Ea => ?_; clear J K' Eb
  refine N1 Ea 26 4 fun K' J ρ q4 => ?_; go_simp; (try clear q4)
  refine Ln Ea J fun _ Eb => ?_; clear J K' Ea
  refine N1 Eb 26 1 fun K' J ρ q1 => ?_; go_simp; (try clear q1)
  refine Ln Eb J fun _ Ea => ?_; clear J K' Eb
  refine N1 Ea 26 28 fun K' J ρ q28 => ?_; go_simp; (try clear q28)
  refine Ln Ea J fun _ Eb => ?_; clear J K' Ea
  refine N1 Eb 26 29 fun K' J ρ q29 => ?_; go_simp; (try go_bits); (try clear q29)
  refine Ln Eb J fun _ Ea => ?_; clear J K' Eb
  refine N2 Ea 26 27 30 fun K' J ρ q27 q30 => ?_; go_simp; (try go_bits); (try clear q27 q30)
  refine Ln Ea J fun _ Eb => ?_; clear J K' Ea
  refine M2 Eb 26 31 fun K' J ρ q26 q31 => ?_; go_simp; (try go_bits); (try clear q26 q31)
  refine Ln Eb J fun _ Ea => ?_; clear J K' Eb
  refine late_done [1, 3, 4, 32] Ea hK (fun a hE => ?_); clear hK K Q' Ea; simp only [lk, pick, Nat.reduceEqDiff, ↓reduceIte] at hE
  refine Ks ?_
  refine cond_part hE (t := 32) rfl (fun h => ?_) (fun h => ?_)
  ·have hlt : k < l.length := by have := of_decide_eq_true h; omega
   clear h
   have hltI : (k : Int) < l.length := by omega
   obtain ⟨b0, o0, rfl, hb0, c0⟩ := ((hA2.below hW).more hW.size).txt hlt
   have HGk := hid (HG.out k hlt)
   refine Ks ?_
   refine Rs 8 fun Q' K hK => ?_
   refine M1 hE 1 fun K' J ρ q1 => ?_; go_simp; (try clear q1)
   refine Ln hE J fun _ Eb => ?_; clear J K' hE a
   refine M1 Eb 35 fun K' J ρ q35 => ?_; go_simp; (try clear q35)
   refine Ln Eb J fun _ Ea => ?_; clear J K' Eb
   refine M1 Ea 4 fun K' J ρ q4 => ?_; go_simp; (try clear q4)
   refine Ln Ea J fun _ Eb => ?_; clear J K' Ea
   refine M2 Eb 36 37 fun K' J ρ q36 q37 => ?_; go_simp; (try go_bits); (try clear q36 q37)
   refine Ln Eb J fun _ Ea => ?_; clear J K' Eb
   refine M1 Ea 38 fun K' J ρ q38 => ?_; go_simp; (try clear q38)
   refine Ln Ea J fun _ Eb => ?_; clear J K' Ea
   refine M1 Eb 39 fun K' J ρ q39 => ?_; go_simp; (try go_bits); (try clear q39)
   refine Ln Eb J fun _ Ea => ?_; clear J K' Eb
   refine M1 Ea 40 fun K' J ρ q40 => ?_; go_simp; (try go_bits); (try clear q40)
   go_at_call 25; refine (between_any _ _ _ _).mono ?_; rw [HGk.out]; rintro e w3 ⟨rfl, rfl⟩
   (try clear r40)
   refine Ln Ea J fun _ Eb => ?_; clear J K' Ea
   refine M1 Eb 41 fun K' J ρ q41 => ?_; go_simp; (try clear q41)
   refine Ln Eb J fun _ Ea => ?_; clear J K' Eb
   refine late_done [1, 3, 4] Ea hK (fun a hE => ?_); clear hK K Q' Ea; simp only [lk, pick, Nat.reduceEqDiff, ↓reduceIte] at hE
   refine Ks ?_
   refine Rs 3 fun Q' K hK => ?_
   refine M1 hE 4 fun K' J ρ q4 => ?_; go_simp; (try clear q4)
   refine Ln hE J fun _ Eb => ?_; clear J K' hE a
   refine M1 Eb 33 fun K' J ρ q33 => ?_; go_simp; (try go_bits); (try simp (disch := omega) only [IntWalk.i64_in]); (try clear q33)
   refine Ln Eb J fun _ Ea => ?_; clear J K' Eb
   refine M1 Ea 34 fun K' J ρ q34 => ?_; go_simp; (try clear q34)
   refine Ln Ea J fun _ Eb => ?_; clear J K' Ea
   refine late_done [1, 3, 4] Eb hK (fun a hE => ?_); clear hK K Q' Eb; simp only [lk, pick, Nat.reduceEqDiff, ↓reduceIte] at hE
   refine Ks ?_
   exact ⟨k + 1, ⟨hlt, by simpa using hE, hW⟩, by omega⟩
  ·refine Ks ?_
   refine Rs 2 fun Q' K hK => ?_
   refine M1 hE 3 fun K' J ρ q3 => ?_; go_simp; (try clear q3)
   refine Ln hE J fun _ Eb => ?_; clear J K' hE a
   refine M1 Eb 42 fun K' J ρ q42 => ?_; go_simp; (try clear q42)
   refine Ln Eb J fun _ Ea => ?_; clear J K' Eb
   refine late_done [2] Ea hK (fun a hE => ?_); clear hK K Q' Ea; simp only [lk, pick, Nat.reduceEqDiff, ↓reduceIte] at hE
   refine Ks ?_
   exact ret_one hE rfl rfl ⟨rfl, hb2.trans (hW.mono hb2.size)⟩
end Go.Proofs.Ytbimkcjdodgojaa
