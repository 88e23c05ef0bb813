/- Name: the reference's small checks: Between, letter, digit, Names. -/
import Derived.Test.YtbimkcjdodgojaaGreatKBJ
import Derived.WalkSpells
namespace Go.Proofs.YtbimkcjdodgojaaGreat
set_option linter.unusedSimpArgs false
set_option linter.unusedVariables false
open Go.RowKit
attribute [local go_sem high] cell_set_wr
attribute [local go_sem low] cell_wr frozen_wr
attribute [local go_sem] wr_set wr_drew wr_drewN wr_alloc wr_new Rho.c Rho.n Rho.g
theorem between_any (n lo hi : Int) (w : World) :
    Calls Tryz.prog 38 #[.int .i64 n, .int .i64 lo, .int .i64 hi] w fun e w' => e = .returned (.bool (decide (lo ≤ n) && decide (n ≤ hi))) ∧ w = w' := by
 by_cases h : lo ≤ n
 all_goals
  go_enter Tryz.func38, Tryz.ntmps38
  go_wp2
  go_ret
  exact ⟨ret_bool (by first | (simp [h]; done) | (simp; omega)), rfl⟩
theorem rletter_any (c : UInt8) (w : World) : Calls Tryz.prog 72 #[.int .u8 c.toNat] w fun e w' => e = .returned (.bool (letterB c)) ∧ w = w' := by
 by_cases h : 97 ≤ (c.toNat : Int)
 all_goals
  go_enter Tryz.func72, Tryz.ntmps72
  go_wp2
  go_ret
  exact ⟨ret_bool (by unfold letterB; first | (simp [h]; done) | (simp; omega)), rfl⟩
theorem rdigit_any (c : UInt8) (w : World) : Calls Tryz.prog 73 #[.int .u8 c.toNat] w fun e w' => e = .returned (.bool (digitB c)) ∧ w = w' := by
 by_cases h : 48 ≤ (c.toNat : Int)
 all_goals
  go_enter Tryz.func73, Tryz.ntmps73
  go_wp2
  go_ret
  exact ⟨ret_bool (by unfold digitB; first | (simp [h]; done) | (simp; omega)), rfl⟩
def okTo (l : List UInt8) (k : Nat) : Bool := (decide (1 ≤ l.length) && decide (l.length ≤ 12)) && (List.range k).all (nameAt l)
theorem okTo_succ (l : List UInt8) (k : Nat) : okTo l (k + 1) = (okTo l k && nameAt l k) := by
 unfold okTo
 rw [List.range_succ, List.all_append, List.all_cons, List.all_nil, Bool.and_true]
 simp only [Bool.and_assoc]
theorem okTo_false (l : List UInt8) {k : Nat} (h : okTo l k = false) (hk : k ≤ l.length ∨ l.length = 0) : nameB l = false := by
 unfold okTo at h
 unfold nameB
 cases hq : (decide (1 ≤ l.length) && decide (l.length ≤ 12)) with
 | false => rfl
 | true =>
  rw [hq, Bool.true_and] at h
  rw [Bool.true_and]
  rcases hk with hk | hk
  ·rw [List.all_eq_false] at h ⊢
   obtain ⟨i, hi, h⟩ := h
   exact ⟨i, List.mem_range.2 (by have := List.mem_range.1 hi; omega), h⟩
  ·rw [hk] at hq; simp at hq
set_option maxRecDepth 100000 in
set_option maxHeartbeats 1000000 in
theorem rNames_any (s : ByteArray) (w : World) (hs : s.size ≤ 9223372036854775807) : Calls Tryz.prog 39 #[.string s] w fun e w' => e = .returned (.bool (nameB s.data.toList)) ∧ w = w' := by
 have hlen : s.data.toList.length = s.size := by simp
 obtain ⟨q, hq⟩ : ∃ q, (decide ((1 : Int) ≤ s.size) && decide ((s.size : Int) ≤ 12)) = q := ⟨_, rfl⟩
 have hqn : (decide (1 ≤ s.data.toList.length) && decide (s.data.toList.length ≤ 12)) = q := by
  rw [← hq, hlen]
  congr 1
  ·exact decide_eq_decide.2 (by omega)
  ·exact decide_eq_decide.2 (by omega)
 have hpos : q = true → 0 < s.size := fun h => by
  rw [h] at hq
  simp only [Bool.and_eq_true, decide_eq_true_eq] at hq
  omega
 have HQ := hid hq
 have HN := hid hqn
 have HL := hid hlen
 have HP := hid hpos
 clear hq hqn hlen hpos
 refine enterE Tryz.func39 rfl Tryz.ntmps39 (by simp) (fun a hE => ?_); simp only [envOf, Nat.zero_add, Nat.reduceAdd] at hE
 refine Ks ?_
 refine Rs 1 fun Q' K hK => ?_
 refine M0 fun K' J ρ => ?_; go_simp;
 refine Ln hE J fun _ Eb => ?_; clear J K' hE a
 refine Ld [0] Eb hK fun a hE => ?_; clear hK K Q' Eb
 refine Ks ?_
 obtain ⟨f0, hf0⟩ : ∃ f, okTo s.data.toList 1 = f := ⟨_, rfl⟩
 have hf1 : f0 = (q && letterB (s.data.toList.getD 0 0)) := by
  rw [← hf0, okTo_succ]
  unfold okTo nameAt
  rw [HN.out]
  simp
 have HF := hid hf0
 have HF1 := hid hf1
 clear hf0 hf1
 cases hqv : q
 ·have HV := hid hqv
  clear hqv
  refine Rs 9 fun Q' K hK => ?_
  refine M1 hE 0 fun K' J ρ q0 => ?_; go_simp
  refine Ln hE J fun _ Eb => ?_; clear J K' hE a q0
  refine M1 Eb 5 fun K' J ρ q5 => ?_; go_simp; (try go_bits)
  refine Ln Eb J fun _ Ea => ?_; clear J K' Eb q5
  refine M1 Ea 6 fun K' J ρ q6 => ?_; go_simp; (try go_bits); (try clear q6)
  go_at_call 38; refine (between_any _ _ _ _).mono ?_; rw [HQ.out, HV.out]; rintro e w1 ⟨rfl, rfl⟩
  (try clear r6)
  refine Ln Ea J fun _ Eb => ?_; clear J K' Ea
  refine M1 Eb 7 fun K' J ρ q7 => ?_; go_simp
  refine Ln Eb J fun _ Ea => ?_; clear J K' Eb q7
  refine Lno Ea 8 ?_
  refine Lu Ea fun _ Eb => ?_
  refine Lno Eb 8 ?_
  refine Lu Eb fun _ Ea => ?_
  refine Lno Ea 8 ?_
  refine Lu Ea fun _ Eb => ?_
  refine M2 Eb 8 11 fun K' J ρ q8 q11 => ?_; go_simp; (try go_bits)
  refine Ln Eb J fun _ Ea => ?_; clear J K' Eb q8 q11
  refine M1 Ea 12 fun K' J ρ q12 => ?_; go_simp
  refine Ln Ea J fun _ Eb => ?_; clear J K' Ea q12
  refine Ld [0, 3] Eb hK fun a hE => ?_; clear hK K Q' Eb
  refine Ks ?_
  refine Rs 1 fun Q' K hK => ?_
  refine M0 fun K' J ρ => ?_; go_simp;
  refine Ln hE J fun _ Eb => ?_; clear J K' hE a
  refine Ld [0, 3, 4] Eb hK fun a hE => ?_; clear hK K Q' Eb
  refine Ks ?_
  have hnm : nameB s.data.toList = false := by unfold nameB; rw [HN.out, HV.out]; rfl
  have HM := hid hnm
  clear hnm
  refine loop_st (fun (_ : Unit) a w' => Fits 33 [(0, .string s), (3, .bool false), (4, .int .i64 1)] a ∧ w = w') (fun _ => 0) () ?_ (fun k a w' hI => ?_)
  ·exact ⟨by simpa using hE, rfl⟩
  clear hE
  obtain ⟨hE, rfl⟩ := hI
  refine Ks ?_
  refine Rs 7 fun Q' K hK => ?_
  refine M1 hE 3 fun K' J ρ q3 => ?_; go_simp
  refine Ln hE J fun _ Eb => ?_; clear J K' hE a q3
  refine M1 Eb 13 fun K' J ρ q13 => ?_; go_simp
  refine Ln Eb J fun _ Ea => ?_; clear J K' Eb q13
  refine Lno Ea 14 ?_
  refine Lu Ea fun _ Eb => ?_
  refine Lno Eb 14 ?_
  refine Lu Eb fun _ Ea => ?_
  refine Lno Ea 14 ?_
  refine Lu Ea fun _ Eb => ?_
  refine Lno Eb 14 ?_
  refine Lu Eb fun _ Ea => ?_
  refine M2 Ea 14 18 fun K' J ρ q14 q18 => ?_; go_simp; (try go_bits)
  refine Ln Ea J fun _ Eb => ?_; clear J K' Ea q14 q18
  refine Ld [0, 3, 4, 19] Eb hK fun a hE => ?_; clear hK K Q' Eb
  refine Ks ?_
  refine cond_no hE (t := 19) rfl ?_
  refine Ks ?_
  refine Rs 2 fun Q' K hK => ?_
  refine M1 hE 3 fun K' J ρ q3 => ?_; go_simp
  refine Ln hE J fun _ Eb => ?_; clear J K' hE a q3
  refine M1 Eb 32 fun K' J ρ q32 => ?_; go_simp
  refine Ln Eb J fun _ Ea => ?_; clear J K' Eb q32
  refine Ld [2] Ea hK fun a hE => ?_; clear hK K Q' Ea
  refine Ks ?_
  exact ret_one hE rfl rfl ⟨ret_bool HM.out.symm, rfl⟩
 ·have hp := HP.out hqv
  have HV := hid hqv
  clear hqv
  have hp0 : (0 : Int) < s.size := by omega
  have hb0 := byte_at s 0 hp
  have HB := hid hb0
  clear hb0
  refine Rs 9 fun Q' K hK => ?_
  refine M1 hE 0 fun K' J ρ q0 => ?_; go_simp
  refine Ln hE J fun _ Eb => ?_; clear J K' hE a q0
  refine M1 Eb 5 fun K' J ρ q5 => ?_; go_simp; (try go_bits)
  refine Ln Eb J fun _ Ea => ?_; clear J K' Eb q5
  refine M1 Ea 6 fun K' J ρ q6 => ?_; go_simp; (try go_bits); (try clear q6)
  go_at_call 38; refine (between_any _ _ _ _).mono ?_; rw [HQ.out, HV.out]; rintro e w1 ⟨rfl, rfl⟩
  (try clear r6)
  refine Ln Ea J fun _ Eb => ?_; clear J K' Ea
  refine M1 Eb 7 fun K' J ρ q7 => ?_; go_simp
  refine Ln Eb J fun _ Ea => ?_; clear J K' Eb q7
  refine N1 Ea 8 0 fun K' J ρ q0 => ?_; go_simp
  refine Ln Ea J fun _ Eb => ?_; clear J K' Ea q0
  refine N1 Eb 8 9 fun K' J ρ q9 => ?_; go_simp; (try go_bits)
  refine Ln Eb J fun _ Ea => ?_; clear J K' Eb q9
  refine N1 Ea 8 10 fun K' J ρ q10 => ?_; go_simp; (try go_bits); (try clear q10)
  go_at_call 72; refine (rletter_any s[0] _).mono ?_; rintro e w1 ⟨rfl, rfl⟩
  (try clear r10)
  refine Ln Ea J fun _ Eb => ?_; clear J K' Ea
  refine M2 Eb 8 11 fun K' J ρ q8 q11 => ?_; go_simp; (try go_bits)
  refine Ln Eb J fun _ Ea => ?_; clear J K' Eb q8 q11
  refine M1 Ea 12 fun K' J ρ q12 => ?_; go_simp
  refine Ln Ea J fun _ Eb => ?_; clear J K' Ea q12
  refine Ld [0, 3] Eb hK fun a hE => ?_; clear hK K Q' Eb
  replace hE := hE.turn 3 (v' := .bool (okTo s.data.toList 1)) rfl (by rw [HF.out, HF1.out, HV.out, HB.out]; simp)
  refine Ks ?_
  refine Rs 1 fun Q' K hK => ?_
  refine M0 fun K' J ρ => ?_; go_simp;
  refine Ln hE J fun _ Eb => ?_; clear J K' hE a
  refine Ld [0, 3, 4] Eb hK fun a hE => ?_; clear hK K Q' Eb
  refine Ks ?_
  refine loop_st (fun (k : Nat) a w' => k ≤ s.size ∧ Fits 33 [(0, .string s), (3, .bool (okTo s.data.toList k)), (4, .int .i64 k)] a ∧ w = w' ∧ 1 ≤ k) (fun k => s.size - k) 1 ?_ (fun k a w' hI => ?_)
  ·exact ⟨hp, by simpa using hE, rfl, Nat.le_refl _⟩
  clear hE
  obtain ⟨hk, hE, rfl, hk1⟩ := hI
  obtain ⟨f, hf⟩ : ∃ f, okTo s.data.toList k = f := ⟨_, rfl⟩
  rw [hf] at hE
  have HFk := hid hf
  clear hf
  refine Ks ?_
  refine Rs 7 fun Q' K hK => ?_
  refine M1 hE 3 fun K' J ρ q3 => ?_; go_simp
  refine Ln hE J fun _ Eb => ?_; clear J K' hE a q3
  refine M1 Eb 13 fun K' J ρ q13 => ?_; go_simp
  refine Ln Eb J fun _ Ea => ?_; clear J K' Eb q13
  refine Lm Ea 15 14 ?_ (fun hx K' J => ?_) (fun _ Eb => ?_); rotate_left 1
  ·have hx0 := hx; (try simp only [beq_iff_eq, Bool.and_eq_true, Bool.beq_true, Bool.beq_false, Bool.not_eq_true', beq_eq_false_iff_ne] at hx); have r4 := Ea.at 4 rfl; clear hx0
   refine o1 r4 fun ρ q4 => ?_; go_simp;
   refine put_eq J ?_; rfl
  clear Ea
  refine Lm Eb 16 14 ?_ (fun hx K' J => ?_) (fun _ Ea => ?_); rotate_left 1
  ·have hx0 := hx; (try simp only [beq_iff_eq, Bool.and_eq_true, Bool.beq_true, Bool.beq_false, Bool.not_eq_true', beq_eq_false_iff_ne] at hx); have r0 := Eb.at 0 rfl; clear hx0
   refine o1 r0 fun ρ q0 => ?_; go_simp;
   refine put_eq J ?_; rfl
  clear Eb
  refine Lm Ea 17 14 ?_ (fun hx K' J => ?_) (fun _ Eb => ?_); rotate_left 1
  ·have hx0 := hx; (try simp only [beq_iff_eq, Bool.and_eq_true, Bool.beq_true, Bool.beq_false, Bool.not_eq_true', beq_eq_false_iff_ne] at hx); have r16 := Ea.at 16 rfl; (try simp only [hx0, may_true] at r16); clear hx0
   refine o1 r16 fun ρ q16 => ?_; go_simp; (try go_bits);
   refine put_eq J ?_; rfl
  clear Ea
  refine Lm Eb 18 14 ?_ (fun hx K' J => ?_) (fun _ Ea => ?_); rotate_left 1
  ·have hx0 := hx; (try simp only [beq_iff_eq, Bool.and_eq_true, Bool.beq_true, Bool.beq_false, Bool.not_eq_true', beq_eq_false_iff_ne] at hx); have r15 := Eb.at 15 rfl; have r17 := Eb.at 17 rfl; (try simp only [hx0, may_true] at r15); (try simp only [hx0, may_true] at r17); clear hx0
   refine o2 r15 r17 fun ρ q15 q17 => ?_; go_simp; (try go_bits);
   refine put_eq J ?_; rfl
  clear Eb
  refine M2 Ea 14 18 fun K' J ρ q14 q18 => ?_; go_simp; (try go_bits)
  refine Ln Ea J fun _ Eb => ?_; clear J K' Ea q14 q18
  refine Ld [0, 3, 4, 19] Eb hK fun a hE => ?_; clear hK K Q' Eb
  refine Ks ?_
  refine cond_part hE (t := 19) rfl (fun h => ?_) (fun h => ?_)
  ·have hb : f = true ∧ k < s.size := by simpa using h
   obtain ⟨hft, hlt⟩ := hb
   clear h
   have hltI : (k : Int) < s.size := by omega
   have hbk := byte_at s k hlt
   have HBk := hid hbk
   clear hbk
   have hk0 : ¬ k = 0 := by omega
   refine Ks ?_
   refine Rs 11 fun Q' K hK => ?_
   refine M1 hE 0 fun K' J ρ q0 => ?_; go_simp
   refine Ln hE J fun _ Eb => ?_; clear J K' hE a q0
   refine M1 Eb 4 fun K' J ρ q4 => ?_; go_simp
   refine Ln Eb J fun _ Ea => ?_; clear J K' Eb q4
   refine M2 Ea 22 23 fun K' J ρ q22 q23 => ?_; go_simp; (try go_bits)
   refine Ln Ea J fun _ Eb => ?_; clear J K' Ea q22 q23
   refine M1 Eb 24 fun K' J ρ q24 => ?_; go_simp; (try go_bits); (try clear q24)
   go_at_call 72; refine (rletter_any s[k] _).mono ?_; rintro e w1 ⟨rfl, rfl⟩
   (try clear r24)
   refine Ln Eb J fun _ Ea => ?_; clear J K' Eb
   refine M1 Ea 25 fun K' J ρ q25 => ?_; go_simp
   refine Ln Ea J fun _ Eb => ?_; clear J K' Ea q25
   refine Lm Eb 27 26 ?_ (fun hx K' J => ?_) (fun _ Ea => ?_); rotate_left 1
   ·have hx0 := hx; (try simp only [beq_iff_eq, Bool.and_eq_true, Bool.beq_true, Bool.beq_false, Bool.not_eq_true', beq_eq_false_iff_ne] at hx); have r0 := Eb.at 0 rfl; clear hx0
    refine o1 r0 fun ρ q0 => ?_; go_simp;
    refine put_eq J ?_; rfl
   clear Eb
   refine Lm Ea 28 26 ?_ (fun hx K' J => ?_) (fun _ Eb => ?_); rotate_left 1
   ·have hx0 := hx; (try simp only [beq_iff_eq, Bool.and_eq_true, Bool.beq_true, Bool.beq_false, Bool.not_eq_true', beq_eq_false_iff_ne] at hx); have r4 := Ea.at 4 rfl; clear hx0
    refine o1 r4 fun ρ q4 => ?_; go_simp;
    refine put_eq J ?_; rfl
   clear Ea
   refine Lm Eb 29 26 ?_ (fun hx K' J => ?_) (fun _ Ea => ?_); rotate_left 1
   ·have hx0 := hx; (try simp only [beq_iff_eq, Bool.and_eq_true, Bool.beq_true, Bool.beq_false, Bool.not_eq_true', beq_eq_false_iff_ne] at hx); have r27 := Eb.at 27 rfl; have r28 := Eb.at 28 rfl; (try simp only [hx0, may_true] at r27); (try simp only [hx0, may_true] at r28); clear hx0
    refine o2 r27 r28 fun ρ q27 q28 => ?_; go_simp; (try go_bits);
    refine put_eq J ?_; rfl
   clear Eb
   refine Lm Ea 30 26 ?_ (fun hx K' J => ?_) (fun _ Eb => ?_); rotate_left 1
   ·have hx0 := hx; (try simp only [beq_iff_eq, Bool.and_eq_true, Bool.beq_true, Bool.beq_false, Bool.not_eq_true', beq_eq_false_iff_ne] at hx); have r29 := Ea.at 29 rfl; (try simp only [hx0, may_true] at r29); clear hx0
    refine o1 r29 fun ρ q29 => ?_; go_simp; (try go_bits);
    go_at_call 73; refine (rdigit_any s[k] _).mono ?_; rintro e w1 ⟨rfl, rfl⟩; refine put_eq J ?_; rfl
   clear Ea
   refine M2 Eb 26 30 fun K' J ρ q26 q30 => ?_; go_simp; (try go_bits)
   refine Ln Eb J fun _ Ea => ?_; clear J K' Eb q26 q30
   refine M1 Ea 31 fun K' J ρ q31 => ?_; go_simp
   refine Ln Ea J fun _ Eb => ?_; clear J K' Ea q31
   replace Eb := Eb.turn 3 (v' := .bool (okTo s.data.toList (k + 1))) rfl (by (rw [okTo_succ, HFk.out, hft, Bool.true_and]; unfold nameAt; rw [HBk.out]; cases letterB s[k] <;> simp [hk0]))
   refine Ld [0, 3, 4] Eb hK fun a hE => ?_; clear hK K Q' Eb
   refine Ks ?_
   refine Rs 3 fun Q' K hK => ?_
   refine M1 hE 4 fun K' J ρ q4 => ?_; go_simp
   refine Ln hE J fun _ Eb => ?_; clear J K' hE a q4
   refine M1 Eb 20 fun K' J ρ q20 => ?_; go_simp; (try go_bits); (try simp (disch := omega) only [IntWalk.i64_in])
   refine Ln Eb J fun _ Ea => ?_; clear J K' Eb q20
   refine M1 Ea 21 fun K' J ρ q21 => ?_; go_simp
   refine Ln Ea J fun _ Eb => ?_; clear J K' Ea q21
   refine Ld [0, 3, 4] Eb hK fun a hE => ?_; clear hK K Q' Eb
   refine Ks ?_
   exact ⟨k + 1, ⟨hlt, by simpa using hE, rfl, by omega⟩, by omega⟩
  ·have hnm : nameB s.data.toList = f := by
    cases hfv : f with
    | false => exact okTo_false _ (HFk.out.trans hfv) (.inl (by rw [HL.out]; exact hk))
    | true =>
     rw [hfv] at h
     have h' : ¬ k < s.size := by simpa using h
     have hk2 : k = s.data.toList.length := by rw [HL.out]; omega
     have := HFk.out
     rw [hfv, hk2] at this
     exact this
   have HM := hid hnm
   clear hnm h
   refine Ks ?_
   refine Rs 2 fun Q' K hK => ?_
   refine M1 hE 3 fun K' J ρ q3 => ?_; go_simp
   refine Ln hE J fun _ Eb => ?_; clear J K' hE a q3
   refine M1 Eb 32 fun K' J ρ q32 => ?_; go_simp
   refine Ln Eb J fun _ Ea => ?_; clear J K' Eb q32
   refine Ld [2] Ea hK fun a hE => ?_; clear hK K Q' Ea
   refine Ks ?_
   exact ret_one hE rfl rfl ⟨ret_bool HM.out.symm, rfl⟩
end Go.Proofs.YtbimkcjdodgojaaGreat
