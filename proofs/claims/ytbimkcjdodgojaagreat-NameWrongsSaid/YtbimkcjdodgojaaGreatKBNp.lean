/- Name: the reference's letters. -/
import Derived.Test.YtbimkcjdodgojaaGreatKBJ
import Derived.Test.YtbimkcjdodgojaaGreatKBNpb
import Derived.WalkSpells
namespace Go.Proofs.YtbimkcjdodgojaaGreat
set_option linter.unusedSimpArgs false
set_option linter.unusedVariables false
open Go.RowKit
attribute [local go_sem high] cell_set_wr
attribute [local go_sem low] cell_wr frozen_wr
attribute [local go_sem] wr_set wr_drew wr_drewN wr_alloc wr_new Rho.c Rho.n Rho.g
theorem stands_contains : ∀ (l : List UInt8) (c : UInt8), decide (0 ≤ Lib.indexByte l c) = l.contains c
 | [], c => by simp [Lib.indexByte]
 | b :: l, c => by
  have ih := stands_contains l c
  have hge := Lib.indexByte_ge l c
  unfold Lib.indexByte
  rw [List.contains_cons, ← ih]
  by_cases h : b = c
  ·subst h; simp
  ·have h1 : (b == c) = false := by simpa using h
   have h2 : (c == b) = false := by simpa using fun e => h e.symm
   rw [h1, h2, Bool.false_or]
   by_cases hi : Lib.indexByte l c = -1
   ·rw [hi]; rfl
   ·have h3 : (Lib.indexByte l c == -1) = false := by simpa using hi
    simp only [h3, Bool.false_eq_true, if_false]
    congr 1
    simp only [eq_iff_iff]
    omega
def hasC (l : List UInt8) (c : UInt8) : Bool := l.contains c
theorem hasC_take (s : ByteArray) (c : UInt8) (k : Nat) (h : k < s.size) : hasC (s.data.toList.take (k + 1)) c = (hasC (s.data.toList.take k) c || (s[k] == c)) := by
 have hl : k < s.data.toList.length := by simpa using h
 have e : s.data.toList[k] = s[k] := by rw [← byte_at s k h, List.getD_eq_getElem?_getD, List.getElem?_eq_getElem hl]; rfl
 unfold hasC
 rw [List.take_succ_eq_append_getElem hl, e, List.contains_append]
 congr 1
 rw [List.contains_cons, List.contains_nil, Bool.or_false, Bool.eq_iff_iff, beq_iff_eq, beq_iff_eq]
 exact eq_comm
theorem standsB_eq (g : ByteArray) (c : UInt8) : standsB g c = hasC g.data.toList c := stands_contains _ _
set_option maxRecDepth 100000 in
theorem rstands_any (s : ByteArray) (c : UInt8) (w : World) (hs : s.size ≤ 9223372036854775807) : Calls Tryz.prog 102 #[.string s, .int .u8 c.toNat] w fun e w' => e = .returned (.bool (standsB s c)) ∧ w = w' := by
 refine enterE Tryz.func102 rfl Tryz.ntmps102 (by simp) (fun a hE => ?_); simp only [envOf, Nat.zero_add, Nat.reduceAdd] at hE
 refine Ks ?_
 refine Rs 1 fun Q' K hK => ?_
 refine M0 fun K' J ρ => ?_; go_simp;
 refine Ln hE J fun _ Eb => ?_; clear J K' hE a
 refine Ld [0, 1] Eb hK fun a hE => ?_; clear hK K Q' Eb
 refine Ks ?_
 refine Rs 1 fun Q' K hK => ?_
 refine M0 fun K' J ρ => ?_; go_simp;
 refine Ln hE J fun _ Eb => ?_; clear J K' hE a
 refine Ld [0, 1, 5] Eb hK fun a hE => ?_; clear hK K Q' Eb
 refine Ks ?_
 refine Rs 1 fun Q' K hK => ?_
 refine M0 fun K' J ρ => ?_; go_simp;
 refine Ln hE J fun _ Eb => ?_; clear J K' hE a
 refine Ld [0, 1, 5, 6] Eb hK fun a hE => ?_; clear hK K Q' Eb
 refine Ks ?_
 refine loop_st (fun (k : Nat) a w' => k ≤ s.size ∧ Fits 22 [(0, .string s), (1, .int .u8 c.toNat), (5, .bool (hasC (s.data.toList.take k) c)), (6, .int .i64 k)] a ∧ w = w') (fun k => s.size - k) 0 ?_ (fun k a w' hI => ?_)
 ·exact ⟨Nat.zero_le _, by simpa [hasC] using hE, rfl⟩
 clear hE
 obtain ⟨hk, hE, rfl⟩ := hI
 refine Ks ?_
 refine Rs 4 fun Q' K hK => ?_
 refine M1 hE 6 fun K' J ρ q6 => ?_; go_simp
 refine Ln hE J fun _ Eb => ?_; clear J K' hE a q6
 refine M1 Eb 0 fun K' J ρ q0 => ?_; go_simp
 refine Ln Eb J fun _ Ea => ?_; clear J K' Eb q0
 refine M1 Ea 8 fun K' J ρ q8 => ?_; go_simp; (try go_bits)
 refine Ln Ea J fun _ Eb => ?_; clear J K' Ea q8
 refine M2 Eb 7 9 fun K' J ρ q7 q9 => ?_; go_simp; (try go_bits)
 refine Ln Eb J fun _ Ea => ?_; clear J K' Eb q7 q9
 refine Ld [0, 1, 5, 6, 10] Ea hK fun a hE => ?_; clear hK K Q' Ea
 refine Ks ?_
 refine cond_part hE (t := 10) rfl (fun h => ?_) (fun h => ?_)
 ·have hlt : k < s.size := of_decide_eq_true h
  clear h
  have hltI : (k : Int) < s.size := by omega
  obtain ⟨f, hf⟩ : ∃ f, hasC (s.data.toList.take k) c = f := ⟨_, rfl⟩
  rw [hf] at hE
  have HF := hid hf
  clear hf
  have hb := byte_at s k hlt
  have HB := hid hb
  clear hb
  refine Ks ?_
  refine Rs 9 fun Q' K hK => ?_
  refine M1 hE 5 fun K' J ρ q5 => ?_; go_simp
  refine Ln hE J fun _ Eb => ?_; clear J K' hE a q5
  refine M1 Eb 13 fun K' J ρ q13 => ?_; go_simp
  refine Ln Eb J fun _ Ea => ?_; clear J K' Eb q13
  refine Lm Ea 15 14 ?_ (fun hx K' J => ?_) (fun _ Eb => ?_); rotate_left 1
  ·have hx0 := hx; (try simp only [beq_iff_eq, Bool.and_eq_true, Bool.beq_true, Bool.beq_false, Bool.not_eq_true', beq_eq_false_iff_ne] at hx); have r0 := Ea.at 0 rfl; clear hx0
   refine o1 r0 fun ρ q0 => ?_; go_simp;
   refine put_eq J ?_; rfl
  clear Ea
  refine Lm Eb 16 14 ?_ (fun hx K' J => ?_) (fun _ Ea => ?_); rotate_left 1
  ·have hx0 := hx; (try simp only [beq_iff_eq, Bool.and_eq_true, Bool.beq_true, Bool.beq_false, Bool.not_eq_true', beq_eq_false_iff_ne] at hx); have r6 := Eb.at 6 rfl; clear hx0
   refine o1 r6 fun ρ q6 => ?_; go_simp;
   refine put_eq J ?_; rfl
  clear Eb
  refine Lm Ea 17 14 ?_ (fun hx K' J => ?_) (fun _ Eb => ?_); rotate_left 1
  ·have hx0 := hx; (try simp only [beq_iff_eq, Bool.and_eq_true, Bool.beq_true, Bool.beq_false, Bool.not_eq_true', beq_eq_false_iff_ne] at hx); have r15 := Ea.at 15 rfl; have r16 := Ea.at 16 rfl; (try simp only [hx0, may_true] at r15); (try simp only [hx0, may_true] at r16); clear hx0
   refine o2 r15 r16 fun ρ q15 q16 => ?_; go_simp; (try go_bits);
   refine put_eq J ?_; rfl
  clear Ea
  refine Lm Eb 18 14 ?_ (fun hx K' J => ?_) (fun _ Ea => ?_); rotate_left 1
  ·have hx0 := hx; (try simp only [beq_iff_eq, Bool.and_eq_true, Bool.beq_true, Bool.beq_false, Bool.not_eq_true', beq_eq_false_iff_ne] at hx); have r1 := Eb.at 1 rfl; clear hx0
   refine o1 r1 fun ρ q1 => ?_; go_simp;
   refine put_eq J ?_; rfl
  clear Eb
  refine Lm Ea 19 14 ?_ (fun hx K' J => ?_) (fun _ Eb => ?_); rotate_left 1
  ·have hx0 := hx; (try simp only [beq_iff_eq, Bool.and_eq_true, Bool.beq_true, Bool.beq_false, Bool.not_eq_true', beq_eq_false_iff_ne] at hx); have r17 := Ea.at 17 rfl; have r18 := Ea.at 18 rfl; (try simp only [hx0, may_true] at r17); (try simp only [hx0, may_true] at r18); clear hx0
   refine o2 r17 r18 fun ρ q17 q18 => ?_; go_simp; (try go_bits);
   refine put_eq J ?_; rfl
  clear Ea
  refine M2 Eb 14 19 fun K' J ρ q14 q19 => ?_; go_simp; (try go_bits)
  refine Ln Eb J fun _ Ea => ?_; clear J K' Eb q14 q19
  replace Ea := Ea.turn 20 (v' := .bool (f || (s[k] == c))) rfl (by (have e : (((s[k]).toNat : Int) == (c.toNat : Int)) = (s[k] == c) := (by rw [Bool.eq_iff_iff]; simp [← UInt8.toNat_inj]; constructor <;> intro h <;> omega); cases f <;> simp [e]))
  refine M1 Ea 20 fun K' J ρ q20 => ?_; go_simp
  refine Ln Ea J fun _ Eb => ?_; clear J K' Ea q20
  refine Ld [0, 1, 5, 6] Eb hK fun a hE => ?_; clear hK K Q' Eb
  refine Ks ?_
  refine Rs 3 fun Q' K hK => ?_
  refine M1 hE 6 fun K' J ρ q6 => ?_; go_simp
  refine Ln hE J fun _ Eb => ?_; clear J K' hE a q6
  refine M1 Eb 11 fun K' J ρ q11 => ?_; go_simp; (try go_bits); (try simp (disch := omega) only [IntWalk.i64_in])
  refine Ln Eb J fun _ Ea => ?_; clear J K' Eb q11
  refine M1 Ea 12 fun K' J ρ q12 => ?_; go_simp
  refine Ln Ea J fun _ Eb => ?_; clear J K' Ea q12
  refine Ld [0, 1, 5, 6] Eb hK fun a hE => ?_; clear hK K Q' Eb
  refine Ks ?_
  refine ⟨k + 1, ⟨hlt, ?_, rfl⟩, by omega⟩
  rw [hasC_take s c k hlt, HF.out]
  simpa using hE
 ·have hkk : k = s.data.toList.length := by have := of_decide_eq_false h; simp; omega
  clear h
  rw [hkk, List.take_length] at hE
  refine Ks ?_
  refine Rs 2 fun Q' K hK => ?_
  refine M1 hE 5 fun K' J ρ q5 => ?_; go_simp
  refine Ln hE J fun _ Eb => ?_; clear J K' hE a q5
  refine M1 Eb 21 fun K' J ρ q21 => ?_; go_simp
  refine Ln Eb J fun _ Ea => ?_; clear J K' Eb q21
  refine Ld [4] Ea hK fun a hE => ?_; clear hK K Q' Ea
  refine Ks ?_
  exact ret_one hE rfl rfl ⟨ret_bool (standsB_eq s c).symm, rfl⟩
theorem str_snoc (f : List UInt8) (s : ByteArray) (k : Nat) (h : k < s.size) : (ByteArray.mk f.toArray) ++ s.extract k (k + 1) = ⟨(f ++ [s[k]]).toArray⟩ := by
 apply ByteArray.ext
 apply Array.ext'
 have hl : k < s.data.toList.length := by simpa using h
 have e1 : s.data.toList[k] = s[k] := by rw [← byte_at s k h, List.getD_eq_getElem?_getD, List.getElem?_eq_getElem hl]; rfl
 have e2 : (s.extract k (k + 1)).data.toList = [s[k]] := by
  rw [ByteArray.data_extract]
  simp only [Array.toList_extract, List.extract_eq_drop_take']
  rw [List.take_succ_eq_append_getElem hl, List.drop_append_of_le_length (by simp; omega), e1]
  simp
 show ((ByteArray.mk f.toArray) ++ s.extract k (k + 1)).data.toList = _
 rw [ByteArray.data_append, Array.toList_append, e2]
set_option maxRecDepth 100000 in
set_option maxHeartbeats 1000000 in
theorem rsounds_any (A : Option Addr) (n cap : Nat) (m : ByteArray) (sl : Int) (s : ByteArray) (w : World) (hm : m.size ≤ 9223372036854775807) (hs : s.size ≤ 9223372036854775807) : Calls Tryz.prog 88 #[.agg #[.slice A n cap, .string m, .int .i64 sl], .string s] w fun e w' => e = .returned (.string ⟨(keptL m s.data.toList).toArray⟩) ∧ Below w.heap.size w w' := by
 refine enterE Tryz.func88 rfl Tryz.ntmps88 (by simp) (fun a hE => ?_); simp only [envOf, Nat.zero_add, Nat.reduceAdd] at hE
 refine Ks ?_
 refine Rs 2 fun Q' K hK => ?_
 refine M1 hE 0 fun K' J ρ q0 => ?_; go_simp
 refine Ln hE J fun _ Eb => ?_; clear J K' hE a q0
 refine M0 fun K' J ρ => ?_; go_simp;
 refine Ln Eb J fun _ Ea => ?_; clear J K' Eb
 refine Ld [1, 2] Ea hK fun a hE => ?_; clear hK K Q' Ea
 obtain ⟨B, hBe⟩ : ∃ B, B = w.heap.size := ⟨_, rfl⟩; rw [← hBe] at hE; refine world_cut (fun wt => Below w.heap.size w wt ∧ Cells wt B [.slice A n cap, .string m, .int .i64 sl]) ⟨(Below.refl _ _).alloc (Nat.le_refl _) _, by rw [hBe]; exact cells_new _ _ _⟩ (fun w1 hCut => ?_); obtain ⟨hbw1, hCB⟩ := hCut; clear hBe
 refine Ks ?_
 refine Rs 1 fun Q' K hK => ?_
 refine M0 fun K' J ρ => ?_; go_simp;
 refine Ln hE J fun _ Eb => ?_; clear J K' hE a
 refine Ld [1, 2, 5] Eb hK fun a hE => ?_; clear hK K Q' Eb
 refine Ks ?_
 refine Rs 1 fun Q' K hK => ?_
 refine M0 fun K' J ρ => ?_; go_simp;
 refine Ln hE J fun _ Eb => ?_; clear J K' hE a
 refine Ld [1, 2, 5, 6] Eb hK fun a hE => ?_; clear hK K Q' Eb
 refine Ks ?_
 refine loop_st (fun (k : Nat) a w' => k ≤ s.size ∧ Fits 28 [(1, .string s), (2, .pointer (some ⟨B, 0, none⟩)), (5, .string ⟨(keptL m (s.data.toList.take k)).toArray⟩), (6, .int .i64 k)] a ∧ Below w1.heap.size w1 w') (fun k => s.size - k) 0 ?_ (fun k a w' hI => ?_)
 ·exact ⟨Nat.zero_le _, by simpa [keptL] using hE, Below.refl _ _⟩
 clear hE
 obtain ⟨hk, hE, hBr⟩ := hI
 obtain ⟨wr, hwr⟩ : ∃ x, x = w' := ⟨_, rfl⟩
 subst hwr
 refine Ks ?_
 refine Rs 4 fun Q' K hK => ?_
 refine M1 hE 6 fun K' J ρ q6 => ?_; go_simp
 refine Ln hE J fun _ Eb => ?_; clear J K' hE a q6
 refine M1 Eb 1 fun K' J ρ q1 => ?_; go_simp
 refine Ln Eb J fun _ Ea => ?_; clear J K' Eb q1
 refine M1 Ea 8 fun K' J ρ q8 => ?_; go_simp; (try go_bits)
 refine Ln Ea J fun _ Eb => ?_; clear J K' Ea q8
 refine M2 Eb 7 9 fun K' J ρ q7 q9 => ?_; go_simp; (try go_bits)
 refine Ln Eb J fun _ Ea => ?_; clear J K' Eb q7 q9
 refine Ld [1, 2, 5, 6, 10] Ea hK fun a hE => ?_; clear hK K Q' Ea
 refine Ks ?_
 refine cond_part hE (t := 10) rfl (fun h => ?_) (fun h => ?_)
 ·have hlt : k < s.size := of_decide_eq_true h
  clear h
  have hltI : (k : Int) < s.size := by omega
  have hl : k < s.data.toList.length := by simpa using hlt
  have e1 : s.data.toList[k] = s[k] := by rw [← byte_at s k hlt, List.getD_eq_getElem?_getD, List.getElem?_eq_getElem hl]; rfl
  have hsn := kept_snoc m s.data.toList k hl
  rw [e1] at hsn
  obtain ⟨f, hf⟩ : ∃ f, keptL m (s.data.toList.take k) = f := ⟨_, rfl⟩
  rw [hf] at hE hsn
  have HS := hid hsn
  have HFF := hid hf
  clear hsn hf e1
  have hCr := hCB.below hBr
  have nr := hCr.1
  have d1 := hCr.2 1 _ rfl
  clear hCr
  refine Ks ?_
  refine Rd [] (fun wt => Below wr.heap.size wr wt) (fun w1 w2 => Below w1.heap.size w1 w2) [(0, some 13), (1, some 14), (2, some 15), (3, some 16), (4, some 17), (5, some 18), (6, some 19)] [13, 14, 15, 16, 17, 18, 19] #[true, true, true, true, true, true, true] [1, 2, 5, 6] hE ((Below.refl _ _).drew) fun Q' K hK => ?_
  refine SeqOps.val ?_ (Sp fun ax wx hS hT' hd K' J => ?_) ?_; rotate_left 1
  ·have r2 := hS.at 2 (by decide) (hE.at 2 rfl); obtain ⟨_, _, _, _, _, _⟩ := bT hT'
   refine o1 r2 fun ρ q2 => ?_; go_simp;
   exact Jo J hT'
  refine SeqOps.val ?_ (Sp fun ax wx hS hT' hd K' J => ?_) ?_; rotate_left 1
  ·have r13 := Tv hd 0 0 13; obtain ⟨_, _, _, _, _, _⟩ := bT hT'
   refine o1 r13 fun ρ q13 => ?_; go_simp;
   exact Jo J hT'
  refine SeqOps.val ?_ (Sp fun ax wx hS hT' hd K' J => ?_) ?_; rotate_left 1
  ·have r1 := hS.at 1 (by decide) (hE.at 1 rfl); obtain ⟨_, _, _, _, _, _⟩ := bT hT'
   refine o1 r1 fun ρ q1 => ?_; go_simp;
   exact Jo J hT'
  refine SeqOps.val ?_ (Sp fun ax wx hS hT' hd K' J => ?_) ?_; rotate_left 1
  ·have r6 := hS.at 6 (by decide) (hE.at 6 rfl); obtain ⟨_, _, _, _, _, _⟩ := bT hT'
   refine o1 r6 fun ρ q6 => ?_; go_simp;
   exact Jo J hT'
  refine SeqOps.val ?_ (Sp fun ax wx hS hT' hd K' J => ?_) ?_; rotate_left 1
  ·have r15 := Tv hd 1 2 15; have r16 := Tv hd 0 3 16; obtain ⟨_, _, _, _, _, _⟩ := bT hT'
   refine o2 r15 r16 fun ρ q15 q16 => ?_; go_simp; (try go_bits);
   exact Jo J hT'
  refine SeqOps.val ?_ (Sp fun ax wx hS hT' hd K' J => ?_) ?_; rotate_left 1
  ·have r14 := Tv hd 3 1 14; have r17 := Tv hd 0 4 17; obtain ⟨_, _, _, _, _, _⟩ := bT hT'
   refine o2 r14 r17 fun ρ q14 q17 => ?_; go_simp; (try go_bits);
   go_at_call 102; refine (rstands_any m s[k] _ hm).mono ?_; rintro e g1 ⟨rfl, rfl⟩
   refine J.out _ _ _ rfl ?_ hT' (Below.refl _ _); rfl
  refine SeqOps.val ?_ (Sp fun ax wx hS hT' hd K' J => ?_) ?_; rotate_left 1
  ·have r18 := Tv hd 0 5 18; obtain ⟨_, _, _, _, _, _⟩ := bT hT'
   refine o1 r18 fun ρ q18 => ?_; go_simp; (try go_bits); (try simp (disch := omega) only [IntWalk.i64_in]);
   exact Jo J hT'
  refine SeqOps.nil ?_
  intro w5 hBl; (repeat refine Ek ?_)
  refine fun ax hEx => ?_
  simp only [lk, pick, Nat.reduceEqDiff, ↓reduceIte] at hEx
  refine Ld [1, 2, 5, 6, 19] hEx hK fun a hE => ?_; clear hK K Q' hEx
  have hB5 := hBr.trans (hBl.mono hBr.size)
  refine Ks ?_
  refine cond_part hE (t := 19) rfl (fun h => ?_) (fun h => ?_)
  ·have hst : ¬ standsB m s[k] = true := by simpa using h
   clear h
   have i1 : (0 : Int) ≤ (k : Int) + 1 := by omega
   have i2 : (k : Int) + 1 ≤ s.size := by omega
   have i3 : (k : Int) ≤ (k : Int) + 1 := by omega
   have i4 : ¬ 9223372036854775807 < f.length + (min (k + 1) s.size - k) := by rw [← HFF.out]; have := kept_le m s.data.toList k; omega
   refine Ks ?_
   refine Rs 8 fun Q' K hK => ?_
   refine M1 hE 5 fun K' J ρ q5 => ?_; go_simp
   refine Ln hE J fun _ Eb => ?_; clear J K' hE a q5
   refine M1 Eb 1 fun K' J ρ q1 => ?_; go_simp
   refine Ln Eb J fun _ Ea => ?_; clear J K' Eb q1
   refine M1 Ea 6 fun K' J ρ q6 => ?_; go_simp
   refine Ln Ea J fun _ Eb => ?_; clear J K' Ea q6
   refine M1 Eb 6 fun K' J ρ q6 => ?_; go_simp
   refine Ln Eb J fun _ Ea => ?_; clear J K' Eb q6
   refine M1 Ea 23 fun K' J ρ q23 => ?_; go_simp; (try go_bits); (try simp (disch := omega) only [IntWalk.i64_in])
   refine Ln Ea J fun _ Eb => ?_; clear J K' Ea q23
   refine M3 Eb 21 22 24 fun K' J ρ q21 q22 q24 => ?_; go_simp; (try go_bits)
   refine Ln Eb J fun _ Ea => ?_; clear J K' Eb q21 q22 q24
   refine M2 Ea 20 25 fun K' J ρ q20 q25 => ?_; go_simp; (try go_bits); (try simp (disch := omega) only [IntWalk.i64_in])
   refine Ln Ea J fun _ Eb => ?_; clear J K' Ea q20 q25
   refine M1 Eb 26 fun K' J ρ q26 => ?_; go_simp
   refine Ln Eb J fun _ Ea => ?_; clear J K' Eb q26
   refine Ld [1, 2, 5, 6] Ea hK fun a hE => ?_; clear hK K Q' Ea
   refine Ks ?_
   refine Rs 3 fun Q' K hK => ?_
   refine M1 hE 6 fun K' J ρ q6 => ?_; go_simp
   refine Ln hE J fun _ Eb => ?_; clear J K' hE a q6
   refine M1 Eb 11 fun K' J ρ q11 => ?_; go_simp; (try go_bits); (try simp (disch := omega) only [IntWalk.i64_in])
   refine Ln Eb J fun _ Ea => ?_; clear J K' Eb q11
   refine M1 Ea 12 fun K' J ρ q12 => ?_; go_simp
   refine Ln Ea J fun _ Eb => ?_; clear J K' Ea q12
   refine Ld [1, 2, 5, 6] Eb hK fun a hE => ?_; clear hK K Q' Eb
   refine Ks ?_
   refine ⟨k + 1, ⟨hlt, ?_, hB5⟩, by omega⟩
   rw [HS.out, if_neg hst, ← str_snoc f s k hlt]
   simpa using hE
  ·have hst : standsB m s[k] = true := by simpa using h
   clear h
   refine Ks ?_
   refine Rs 3 fun Q' K hK => ?_
   refine M1 hE 6 fun K' J ρ q6 => ?_; go_simp
   refine Ln hE J fun _ Eb => ?_; clear J K' hE a q6
   refine M1 Eb 11 fun K' J ρ q11 => ?_; go_simp; (try go_bits); (try simp (disch := omega) only [IntWalk.i64_in])
   refine Ln Eb J fun _ Ea => ?_; clear J K' Eb q11
   refine M1 Ea 12 fun K' J ρ q12 => ?_; go_simp
   refine Ln Ea J fun _ Eb => ?_; clear J K' Ea q12
   refine Ld [1, 2, 5, 6] Eb hK fun a hE => ?_; clear hK K Q' Eb
   refine Ks ?_
   refine ⟨k + 1, ⟨hlt, ?_, hB5⟩, by omega⟩
   rw [HS.out, if_pos hst, List.append_nil]
   simpa using hE
 ·have hkk : k = s.data.toList.length := by have := of_decide_eq_false h; simp; omega
  clear h
  rw [hkk, List.take_length] at hE
  refine Ks ?_
  refine Rs 2 fun Q' K hK => ?_
  refine M1 hE 5 fun K' J ρ q5 => ?_; go_simp
  refine Ln hE J fun _ Eb => ?_; clear J K' hE a q5
  refine M1 Eb 27 fun K' J ρ q27 => ?_; go_simp
  refine Ln Eb J fun _ Ea => ?_; clear J K' Eb q27
  refine Ld [4] Ea hK fun a hE => ?_; clear hK K Q' Ea
  refine Ks ?_
  exact ret_one hE rfl rfl ⟨rfl, hbw1.trans (hBr.mono hbw1.size)⟩
end Go.Proofs.YtbimkcjdodgojaaGreat
