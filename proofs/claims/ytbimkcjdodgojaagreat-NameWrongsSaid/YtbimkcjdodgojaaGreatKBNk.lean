/- Name: questions. -/
import Derived.Test.YtbimkcjdodgojaaGreatKBNj

namespace Go.Proofs.YtbimkcjdodgojaaGreat
set_option linter.unusedSimpArgs false
set_option linter.unusedVariables false
open Go.RowKit
attribute [local go_sem high] cell_set_wr
attribute [local go_sem low] cell_wr frozen_wr
attribute [local go_sem] wr_set wr_drew wr_drewN wr_alloc wr_new Rho.c Rho.n Rho.g
def zeroLn : NLn := ⟨0, 0, ⟨#[]⟩⟩
def Bk.at (b : Bk) (n : Int) : NLn := b.lines.getD n.toNat zeroLn
def inLines (b : Bk) (n : Int) : Bool := decide (0 ≤ n) && decide (n ≤ (b.lines.length : Int) - 1)
def lineOfB (b : Bk) (n f t : Int) : Bool := inLines b n && (decide (f ≤ (b.at n).book) && decide ((b.at n).book ≤ t))
def refE (b : Bk) (v : Bool) : Int := if b.ok then (if v then 0 else 21) else 20
set_option maxRecDepth 100000 in
theorem refuse_any (A : Option Addr) (cap : Nat) (L : Option Addr) (lcap : Nat) (b : Bk) (v : Bool) (w : World) (hM : BkAt w A L b) (hs : b.small cap lcap) : Calls Tryz.prog 27 #[.agg (bkV A cap L lcap b).toArray, .bool v] w fun e w' => e = .returned (.int .i64 (refE b v)) ∧ Below w.heap.size w w' := by
 obtain ⟨q, hq⟩ : ∃ q, b.ok = q := ⟨_, rfl⟩
 have HQ := hid hq
 clear hq
 have HC : Hid (∀ W, BkAt W A L b → Calls Tryz.prog 8 #[.agg (bkV A cap L lcap b).toArray] W fun e w' => e = .returned (.int .i64 (if q then 0 else 20)) ∧ Below W.heap.size W w') := hid fun W hW => by
  have := pCheck_any A cap L lcap b W hW hs
  unfold bkE at this
  rw [HQ.out] at this
  exact this
 simp only [bkV] at HC ⊢
 refine enterE Tryz.func27 rfl Tryz.ntmps27 (by simp) (fun a hE => ?_); simp only [envOf, Nat.zero_add, Nat.reduceAdd] at hE
 refine Ks ?_
 refine Rs 2 fun Q' K hK => ?_
 refine M1 hE 0 fun K' J ρ q0 => ?_; go_simp
 refine Ln hE J fun _ Eb => ?_; clear J K' hE a q0
 refine M0 fun K' J ρ => ?_; go_simp;
 refine Ln Eb J fun _ Ea => ?_; clear J K' Eb
 refine Ld [1, 2] Ea hK fun a hE => ?_; clear hK K Q' Ea
 obtain ⟨B, hBe⟩ : ∃ B, B = w.heap.size := ⟨_, rfl⟩; rw [← hBe] at hE; refine world_cut (fun wt => Below w.heap.size w wt ∧ Cells wt B (bkV A cap L lcap b)) ⟨(Below.refl _ _).alloc (Nat.le_refl _) _, by rw [hBe]; exact cells_new _ _ _⟩ (fun w1 hCut => ?_); obtain ⟨hbw1, hCB⟩ := hCut; clear hBe
 have hM1 := hM.below hbw1
 simp only [bkV] at hCB
 obtain ⟨nB, cB0, cB1, cB2, cB3, cB4, cB5, cB6⟩ := hCB.c7
 refine Ks ?_
 refine Rs 3 fun Q' K hK => ?_
 refine M1 hE 2 fun K' J ρ q2 => ?_; go_simp
 refine Ln hE J fun _ Eb => ?_; clear J K' hE a q2
 refine M1 Eb 6 fun K' J ρ q6 => ?_; go_simp; (try go_bits); (try clear q6)
 go_at_call 8; refine (HC.out _ hM1).mono ?_; rintro e w2 ⟨rfl, h2⟩
 (try clear r6)
 refine Ln Eb J fun _ Ea => ?_; clear J K' Eb
 refine M1 Ea 7 fun K' J ρ q7 => ?_; go_simp
 refine Ln Ea J fun _ Eb => ?_; clear J K' Ea q7
 refine Ld [1, 5] Eb hK fun a hE => ?_; clear hK K Q' Eb
 have hb2 := hbw1.trans (h2.mono hbw1.size)
 refine Ks ?_
 refine Rs 2 fun Q' K hK => ?_
 refine M1 hE 5 fun K' J ρ q5 => ?_; go_simp
 refine Ln hE J fun _ Eb => ?_; clear J K' hE a q5
 refine M1 Eb 8 fun K' J ρ q8 => ?_; go_simp; (try go_bits)
 refine Ln Eb J fun _ Ea => ?_; clear J K' Eb q8
 refine Ld [1, 5, 9] Ea hK fun a hE => ?_; clear hK K Q' Ea
 replace hE := hE.turn 9 (v' := .bool (!q)) rfl (by cases q <;> rfl)
 refine Ks ?_
 refine cond_part hE (t := 9) rfl (fun h => ?_) (fun h => ?_)
 ·have hq0 : q = false := by simpa using h
  refine Ks ?_
  refine Rs 2 fun Q' K hK => ?_
  refine M1 hE 5 fun K' J ρ q5 => ?_; go_simp
  refine Ln hE J fun _ Eb => ?_; clear J K' hE a q5
  refine M1 Eb 10 fun K' J ρ q10 => ?_; go_simp
  refine Ln Eb J fun _ Ea => ?_; clear J K' Eb q10
  refine Ld [4] Ea hK fun a hE => ?_; clear hK K Q' Ea
  refine Ks ?_
  refine ret_one hE rfl rfl ⟨?_, hb2⟩
  unfold refE
  rw [HQ.out, hq0]; rfl
 ·have hq1 : q = true := by simpa using h
  refine Ks ?_
  refine Rs 2 fun Q' K hK => ?_
  refine M1 hE 1 fun K' J ρ q1 => ?_; go_simp
  refine Ln hE J fun _ Eb => ?_; clear J K' hE a q1
  refine M1 Eb 11 fun K' J ρ q11 => ?_; go_simp; (try go_bits); (try simp (disch := omega) only [IntWalk.i64_in])
  refine Ln Eb J fun _ Ea => ?_; clear J K' Eb q11
  refine Ld [12] Ea hK fun a hE => ?_; clear hK K Q' Ea
  refine Ks ?_
  refine cond_part hE (t := 12) rfl (fun h => ?_) (fun h => ?_)
  ·have hv : v = false := by simpa using h
   refine Ks ?_
   refine Rs 1 fun Q' K hK => ?_
   refine M0 fun K' J ρ => ?_; go_simp;
   refine Ln hE J fun _ Eb => ?_; clear J K' hE a
   refine Ld [4] Eb hK fun a hE => ?_; clear hK K Q' Eb
   refine Ks ?_
   refine ret_one hE rfl rfl ⟨?_, hb2⟩
   unfold refE
   rw [HQ.out, hq1, hv]; rfl
  ·have hv : v = true := by simpa using h
   refine Ks ?_
   refine Rs 1 fun Q' K hK => ?_
   refine M0 fun K' J ρ => ?_; go_simp;
   refine Ln hE J fun _ Eb => ?_; clear J K' hE a
   refine Ld [4] Eb hK fun a hE => ?_; clear hK K Q' Eb
   refine Ks ?_
   refine ret_one hE rfl rfl ⟨?_, hb2⟩
   unfold refE
   rw [HQ.out, hq1, hv]; rfl
set_option maxRecDepth 100000 in
set_option maxHeartbeats 1000000 in
theorem isLineOf_any (A : Option Addr) (cap : Nat) (L : Option Addr) (lcap : Nat) (b : Bk) (n f t : Int) (w : World) (hM : BkAt w A L b) (hs : b.small cap lcap) : Calls Tryz.prog 28 #[.agg (bkV A cap L lcap b).toArray, .int .i64 n, .int .i64 f, .int .i64 t] w fun e w' => e = .returned (.bool (lineOfB b n f t)) ∧ Below w.heap.size w w' := by
 obtain ⟨q, hq⟩ : ∃ q, inLines b n = q := ⟨_, rfl⟩
 have HQ := hid hq
 have hll := hs.2.2.2.1
 have hL := hM.2
 have hline : q = true → ∃ b' o k, L = some ⟨b', o, none⟩ ∧ b' < w.heap.size ∧ n = (k : Nat) ∧ k < b.lines.length ∧ w.cell? ⟨b', o + k * 3, none⟩ = some (.int .i64 (b.at n).book) := fun h => by
  rw [h] at hq
  unfold inLines at hq
  simp only [Bool.and_eq_true, decide_eq_true_eq] at hq
  obtain ⟨k, rfl⟩ : ∃ k : Nat, n = k := ⟨n.toNat, by omega⟩
  have hk : k < b.lines.length := by omega
  obtain ⟨b', o, hA, hb, c0, _, _⟩ := hL.nl hk
  refine ⟨b', o, k, hA, hb, rfl, hk, ?_⟩
  have : b.at (k : Int) = b.lines[k] := by
   unfold Bk.at
   rw [List.getD_eq_getElem?_getD]; simp [hk]
  rw [this]; exact c0
 have HL := hid hline
 clear hq hline
 simp only [bkV]
 refine enterE Tryz.func28 rfl Tryz.ntmps28 (by simp) (fun a hE => ?_); simp only [envOf, Nat.zero_add, Nat.reduceAdd] at hE
 refine Ks ?_
 refine Rs 2 fun Q' K hK => ?_
 refine M1 hE 0 fun K' J ρ q0 => ?_; go_simp
 refine Ln hE J fun _ Eb => ?_; clear J K' hE a q0
 refine M0 fun K' J ρ => ?_; go_simp;
 refine Ln Eb J fun _ Ea => ?_; clear J K' Eb
 refine Ld [1, 2, 3, 4] Ea hK fun a hE => ?_; clear hK K Q' Ea
 obtain ⟨B, hBe⟩ : ∃ B, B = w.heap.size := ⟨_, rfl⟩; rw [← hBe] at hE; refine world_cut (fun wt => Below w.heap.size w wt ∧ Cells wt B (bkV A cap L lcap b)) ⟨(Below.refl _ _).alloc (Nat.le_refl _) _, by rw [hBe]; exact cells_new _ _ _⟩ (fun w1 hCut => ?_); obtain ⟨hbw1, hCB⟩ := hCut; clear hBe
 simp only [bkV] at hCB
 have nB := hCB.1; have cB3 := hCB.2 3 _ rfl
 refine Ks ?_
 cases hqv : q
 ·have HV := hid hqv
  clear hqv
  refine Rs 18 fun Q' K hK => ?_
  refine M1 hE 1 fun K' J ρ q1 => ?_; go_simp
  refine Ln hE J fun _ Eb => ?_; clear J K' hE a q1
  refine M1 Eb 4 fun K' J ρ q4 => ?_; go_simp
  refine Ln Eb J fun _ Ea => ?_; clear J K' Eb q4
  refine M1 Ea 10 fun K' J ρ q10 => ?_; go_simp
  refine Ln Ea J fun _ Eb => ?_; clear J K' Ea q10
  refine M1 Eb 11 fun K' J ρ q11 => ?_; go_simp; (try go_bits)
  refine Ln Eb J fun _ Ea => ?_; clear J K' Eb q11
  refine M1 Ea 12 fun K' J ρ q12 => ?_; go_simp; (try go_bits); (try simp (disch := omega) only [IntWalk.i64_in])
  refine Ln Ea J fun _ Eb => ?_; clear J K' Ea q12
  refine M2 Eb 9 13 fun K' J ρ q9 q13 => ?_; go_simp; (try go_bits); (try clear q9 q13)
  go_at_call 34; refine (within_any _ _ _ _).mono ?_; rintro e w3 ⟨rfl, rfl⟩; rw [show (decide ((0 : Int) ≤ n) && decide (n ≤ (b.lines.length : Int) - 1)) = false from HQ.out.trans HV.out]
  (try clear r9 r13)
  refine Ln Eb J fun _ Ea => ?_; clear J K' Eb
  refine M1 Ea 14 fun K' J ρ q14 => ?_; go_simp
  refine Ln Ea J fun _ Eb => ?_; clear J K' Ea q14
  refine Lno Eb 15 ?_
  refine Lu Eb fun _ Ea => ?_
  refine Lno Ea 15 ?_
  refine Lu Ea fun _ Eb => ?_
  refine Lno Eb 15 ?_
  refine Lu Eb fun _ Ea => ?_
  refine Lno Ea 15 ?_
  refine Lu Ea fun _ Eb => ?_
  refine Lno Eb 15 ?_
  refine Lu Eb fun _ Ea => ?_
  refine Lno Ea 15 ?_
  refine Lu Ea fun _ Eb => ?_
  refine Lno Eb 15 ?_
  refine Lu Eb fun _ Ea => ?_
  refine Lno Ea 15 ?_
  refine Lu Ea fun _ Eb => ?_
  refine Lno Eb 15 ?_
  refine Lu Eb fun _ Ea => ?_
  refine M2 Ea 15 24 fun K' J ρ q15 q24 => ?_; go_simp; (try go_bits)
  refine Ln Ea J fun _ Eb => ?_; clear J K' Ea q15 q24
  refine M1 Eb 25 fun K' J ρ q25 => ?_; go_simp
  refine Ln Eb J fun _ Ea => ?_; clear J K' Eb q25
  refine Ld [8] Ea hK fun a hE => ?_; clear hK K Q' Ea
  refine Ks ?_
  refine ret_one hE rfl rfl ⟨ret_bool ?_, hbw1⟩
  unfold lineOfB
  rw [HQ.out, HV.out]; rfl
 ·obtain ⟨b', o, k, rfl, hb, rfl, hk, c0⟩ := HL.out hqv
  have HV := hid hqv
  clear hqv
  have hkI : (k : Int) < b.lines.length := by omega
  have e0 := (hbw1.cell (p := ⟨b', o + k * 3, none⟩) hb).trans c0
  clear c0
  refine Rs 18 fun Q' K hK => ?_
  refine M1 hE 1 fun K' J ρ q1 => ?_; go_simp
  refine Ln hE J fun _ Eb => ?_; clear J K' hE a q1
  refine M1 Eb 4 fun K' J ρ q4 => ?_; go_simp
  refine Ln Eb J fun _ Ea => ?_; clear J K' Eb q4
  refine M1 Ea 10 fun K' J ρ q10 => ?_; go_simp
  refine Ln Ea J fun _ Eb => ?_; clear J K' Ea q10
  refine M1 Eb 11 fun K' J ρ q11 => ?_; go_simp; (try go_bits)
  refine Ln Eb J fun _ Ea => ?_; clear J K' Eb q11
  refine M1 Ea 12 fun K' J ρ q12 => ?_; go_simp; (try go_bits); (try simp (disch := omega) only [IntWalk.i64_in])
  refine Ln Ea J fun _ Eb => ?_; clear J K' Ea q12
  refine M2 Eb 9 13 fun K' J ρ q9 q13 => ?_; go_simp; (try go_bits); (try clear q9 q13)
  go_at_call 34; refine (within_any _ _ _ _).mono ?_; rintro e w3 ⟨rfl, rfl⟩; rw [show (decide ((0 : Int) ≤ (k : Int)) && decide ((k : Int) ≤ (b.lines.length : Int) - 1)) = true from HQ.out.trans HV.out]
  (try clear r9 r13)
  refine Ln Eb J fun _ Ea => ?_; clear J K' Eb
  refine M1 Ea 14 fun K' J ρ q14 => ?_; go_simp
  refine Ln Ea J fun _ Eb => ?_; clear J K' Ea q14
  refine N1 Eb 15 4 fun K' J ρ q4 => ?_; go_simp
  refine Ln Eb J fun _ Ea => ?_; clear J K' Eb q4
  refine N1 Ea 15 16 fun K' J ρ q16 => ?_; go_simp
  refine Ln Ea J fun _ Eb => ?_; clear J K' Ea q16
  refine N1 Eb 15 1 fun K' J ρ q1 => ?_; go_simp
  refine Ln Eb J fun _ Ea => ?_; clear J K' Eb q1
  refine N2 Ea 15 17 18 fun K' J ρ q17 q18 => ?_; go_simp; (try go_bits)
  refine Ln Ea J fun _ Eb => ?_; clear J K' Ea q17 q18
  refine N1 Eb 15 19 fun K' J ρ q19 => ?_; go_simp
  refine Ln Eb J fun _ Ea => ?_; clear J K' Eb q19
  refine N1 Ea 15 20 fun K' J ρ q20 => ?_; go_simp
  refine Ln Ea J fun _ Eb => ?_; clear J K' Ea q20
  refine N1 Eb 15 2 fun K' J ρ q2 => ?_; go_simp
  refine Ln Eb J fun _ Ea => ?_; clear J K' Eb q2
  refine N1 Ea 15 3 fun K' J ρ q3 => ?_; go_simp
  refine Ln Ea J fun _ Eb => ?_; clear J K' Ea q3
  refine N3 Eb 15 21 22 23 fun K' J ρ q21 q22 q23 => ?_; go_simp; (try go_bits); (try clear q21 q22 q23)
  go_at_call 34; refine (within_any _ _ _ _).mono ?_; rintro e w3 ⟨rfl, rfl⟩
  (try clear r21 r22 r23)
  refine Ln Eb J fun _ Ea => ?_; clear J K' Eb
  refine M2 Ea 15 24 fun K' J ρ q15 q24 => ?_; go_simp; (try go_bits)
  refine Ln Ea J fun _ Eb => ?_; clear J K' Ea q15 q24
  refine M1 Eb 25 fun K' J ρ q25 => ?_; go_simp
  refine Ln Eb J fun _ Ea => ?_; clear J K' Eb q25
  refine Ld [8] Ea hK fun a hE => ?_; clear hK K Q' Ea
  refine Ks ?_
  refine ret_one hE rfl rfl ⟨ret_bool ?_, hbw1⟩
  unfold lineOfB
  rw [HQ.out, HV.out]; rfl
end Go.Proofs.YtbimkcjdodgojaaGreat
