/- Name: the reference's letters. -/
import Derived.Test.YtbimkcjdodgojaaGreatKBNp

namespace Go.Proofs.YtbimkcjdodgojaaGreat
set_option linter.unusedSimpArgs false
set_option linter.unusedVariables false
open Go.RowKit
attribute [local go_sem high] cell_set_wr
attribute [local go_sem low] cell_wr frozen_wr
attribute [local go_sem] wr_set wr_drew wr_drewN wr_alloc wr_new Rho.c Rho.n Rho.g
def anyTo (l : List ByteArray) (ca cb : UInt8) (k : Nat) : Bool := (ca == cb) || (l.take k).any fun g => standsB g ca && standsB g cb
theorem anyTo_succ (l : List ByteArray) (ca cb : UInt8) (k : Nat) (h : k < l.length) : anyTo l ca cb (k + 1) = (anyTo l ca cb k || (standsB l[k] ca && standsB l[k] cb)) := by
 unfold anyTo
 rw [List.take_succ_eq_append_getElem h, List.any_append, List.any_cons, List.any_nil, Bool.or_false, Bool.or_assoc]
theorem anyTo_all (l : List ByteArray) (ca cb : UInt8) : anyTo l ca cb l.length = alikeB l ca cb := by
 unfold anyTo alikeB; rw [List.take_length]
set_option maxRecDepth 100000 in
set_option maxHeartbeats 1000000 in
theorem ralike_any (A : Option Addr) (cap : Nat) (l : List ByteArray) (m : ByteArray) (sl : Int) (ca cb : UInt8) (w : World) (hA : Arr w w.heap.size A (txts l)) (hl : l.length ≤ 9223372036854775807) (hz : ∀ i (h : i < l.length), l[i].size ≤ 9223372036854775807) : Calls Tryz.prog 89 #[.agg #[.slice A l.length cap, .string m, .int .i64 sl], .int .u8 ca.toNat, .int .u8 cb.toNat] w fun e w' => e = .returned (.bool (alikeB l ca cb)) ∧ Below w.heap.size w w' := by
 have HZ := hid hz
 clear hz
 refine enterE Tryz.func89 rfl Tryz.ntmps89 (by simp) (fun a hE => ?_); simp only [envOf, Nat.zero_add, Nat.reduceAdd] at hE
 refine Ks ?_
 refine Rs 2 fun Q' K hK => ?_
 refine M1 hE 0 fun K' J ρ q0 => ?_; go_simp
 refine Ln hE J fun _ Eb => ?_; clear J K' hE a q0
 refine M0 fun K' J ρ => ?_; go_simp;
 refine Ln Eb J fun _ Ea => ?_; clear J K' Eb
 refine Ld [1, 2, 3] Ea hK fun a hE => ?_; clear hK K Q' Ea
 obtain ⟨B, hBe⟩ : ∃ B, B = w.heap.size := ⟨_, rfl⟩; rw [← hBe] at hE; refine world_cut (fun wt => Below w.heap.size w wt ∧ Cells wt B [.slice A l.length cap, .string m, .int .i64 sl]) ⟨(Below.refl _ _).alloc (Nat.le_refl _) _, by rw [hBe]; exact cells_new _ _ _⟩ (fun w1 hCut => ?_); obtain ⟨hbw1, hCB⟩ := hCut; clear hBe
 refine Ks ?_
 refine Rs 4 fun Q' K hK => ?_
 refine M1 hE 1 fun K' J ρ q1 => ?_; go_simp
 refine Ln hE J fun _ Eb => ?_; clear J K' hE a q1
 refine M1 Eb 2 fun K' J ρ q2 => ?_; go_simp
 refine Ln Eb J fun _ Ea => ?_; clear J K' Eb q2
 refine M2 Ea 9 10 fun K' J ρ q9 q10 => ?_; go_simp; (try go_bits)
 refine Ln Ea J fun _ Eb => ?_; clear J K' Ea q9 q10
 refine M1 Eb 11 fun K' J ρ q11 => ?_; go_simp
 refine Ln Eb J fun _ Ea => ?_; clear J K' Eb q11
 refine Ld [1, 2, 3, 7] Ea hK fun a hE => ?_; clear hK K Q' Ea
 replace hE := hE.turn 7 (v' := .bool (anyTo l ca cb 0)) rfl (by
  unfold anyTo; congr 1; rw [List.take_zero, List.any_nil, Bool.or_false, Bool.eq_iff_iff]; simp [← UInt8.toNat_inj]; constructor <;> intro h <;> omega)
 refine Ks ?_
 refine Rs 1 fun Q' K hK => ?_
 refine M0 fun K' J ρ => ?_; go_simp;
 refine Ln hE J fun _ Eb => ?_; clear J K' hE a
 refine Ld [1, 2, 3, 7, 8] Eb hK fun a hE => ?_; clear hK K Q' Eb
 obtain ⟨nB, cB0⟩ := hCB.c1
 have hA1 := (hA.below hbw1).more hbw1.size
 refine Ks ?_
 refine loop_st (fun (k : Nat) a w' => k ≤ l.length ∧ Fits 39 [(1, .int .u8 ca.toNat), (2, .int .u8 cb.toNat), (3, .pointer (some ⟨B, 0, none⟩)), (7, .bool (anyTo l ca cb k)), (8, .int .i64 k)] a ∧ w1 = w') (fun k => l.length - k) 0 ?_ (fun k a w' hI => ?_)
 ·exact ⟨Nat.zero_le _, by simpa using hE, rfl⟩
 clear hE
 obtain ⟨hk, hE, rfl⟩ := hI
 refine Ks ?_
 refine Rs 5 fun Q' K hK => ?_
 refine M1 hE 8 fun K' J ρ q8 => ?_; go_simp
 refine Ln hE J fun _ Eb => ?_; clear J K' hE a q8
 refine M1 Eb 3 fun K' J ρ q3 => ?_; go_simp
 refine Ln Eb J fun _ Ea => ?_; clear J K' Eb q3
 refine M1 Ea 13 fun K' J ρ q13 => ?_; go_simp
 refine Ln Ea J fun _ Eb => ?_; clear J K' Ea q13
 refine M1 Eb 14 fun K' J ρ q14 => ?_; go_simp; (try go_bits)
 refine Ln Eb J fun _ Ea => ?_; clear J K' Eb q14
 refine M2 Ea 12 15 fun K' J ρ q12 q15 => ?_; go_simp; (try go_bits)
 refine Ln Ea J fun _ Eb => ?_; clear J K' Ea q12 q15
 refine Ld [1, 2, 3, 7, 8, 16] Eb hK fun a hE => ?_; clear hK K Q' Eb
 refine Ks ?_
 refine cond_part hE (t := 16) rfl (fun h => ?_) (fun h => ?_)
 ·have hlt : k < l.length := of_decide_eq_true h
  clear h
  have hltI : (k : Int) < l.length := by omega
  obtain ⟨bg, o, rfl, hb, hc⟩ := hA1.txt hlt
  have hg1 := HZ.out k hlt
  have hs := anyTo_succ l ca cb k hlt
  obtain ⟨g, hg⟩ : ∃ g, l[k] = g := ⟨_, rfl⟩
  rw [hg] at hc hg1 hs
  obtain ⟨f, hf⟩ : ∃ f, anyTo l ca cb k = f := ⟨_, rfl⟩
  rw [hf] at hE hs
  have HS := hid hs
  clear hg hf hs
  obtain ⟨p, hp⟩ : ∃ p, standsB g ca = p := ⟨_, rfl⟩
  have HP := hid hp
  clear hp
  refine Ks ?_
  refine Rs 20 fun Q' K hK => ?_
  refine M1 hE 7 fun K' J ρ q7 => ?_; go_simp
  refine Ln hE J fun _ Eb => ?_; clear J K' hE a q7
  refine M1 Eb 19 fun K' J ρ q19 => ?_; go_simp
  refine Ln Eb J fun _ Ea => ?_; clear J K' Eb q19
  refine Lm Ea 21 20 ?_ (fun hx K' J => ?_) (fun _ Eb => ?_); rotate_left 1
  ·have hx0 := hx; (try simp only [beq_iff_eq, Bool.and_eq_true, Bool.beq_true, Bool.beq_false, Bool.not_eq_true', beq_eq_false_iff_ne] at hx); have r3 := Ea.at 3 rfl; clear hx0
   refine o1 r3 fun ρ q3 => ?_; go_simp;
   refine put_eq J ?_; rfl
  clear Ea
  refine Lm Eb 22 20 ?_ (fun hx K' J => ?_) (fun _ Ea => ?_); rotate_left 1
  ·have hx0 := hx; (try simp only [beq_iff_eq, Bool.and_eq_true, Bool.beq_true, Bool.beq_false, Bool.not_eq_true', beq_eq_false_iff_ne] at hx); have r21 := Eb.at 21 rfl; (try simp only [hx0, may_true] at r21); clear hx0
   refine o1 r21 fun ρ q21 => ?_; go_simp;
   refine put_eq J ?_; rfl
  clear Eb
  refine Lm Ea 23 20 ?_ (fun hx K' J => ?_) (fun _ Eb => ?_); rotate_left 1
  ·have hx0 := hx; (try simp only [beq_iff_eq, Bool.and_eq_true, Bool.beq_true, Bool.beq_false, Bool.not_eq_true', beq_eq_false_iff_ne] at hx); have r8 := Ea.at 8 rfl; clear hx0
   refine o1 r8 fun ρ q8 => ?_; go_simp;
   refine put_eq J ?_; rfl
  clear Ea
  refine Lm Eb 24 20 ?_ (fun hx K' J => ?_) (fun _ Ea => ?_); rotate_left 1
  ·have hx0 := hx; (try simp only [beq_iff_eq, Bool.and_eq_true, Bool.beq_true, Bool.beq_false, Bool.not_eq_true', beq_eq_false_iff_ne] at hx); have r22 := Eb.at 22 rfl; have r23 := Eb.at 23 rfl; (try simp only [hx0, may_true] at r22); (try simp only [hx0, may_true] at r23); clear hx0
   refine o2 r22 r23 fun ρ q22 q23 => ?_; go_simp; (try go_bits);
   refine put_eq J ?_; rfl
  clear Eb
  refine Lm Ea 25 20 ?_ (fun hx K' J => ?_) (fun _ Eb => ?_); rotate_left 1
  ·have hx0 := hx; (try simp only [beq_iff_eq, Bool.and_eq_true, Bool.beq_true, Bool.beq_false, Bool.not_eq_true', beq_eq_false_iff_ne] at hx); have r24 := Ea.at 24 rfl; (try simp only [hx0, may_true] at r24); clear hx0
   refine o1 r24 fun ρ q24 => ?_; go_simp;
   refine put_eq J ?_; rfl
  clear Ea
  refine Lm Eb 26 20 ?_ (fun hx K' J => ?_) (fun _ Ea => ?_); rotate_left 1
  ·have hx0 := hx; (try simp only [beq_iff_eq, Bool.and_eq_true, Bool.beq_true, Bool.beq_false, Bool.not_eq_true', beq_eq_false_iff_ne] at hx); have r1 := Eb.at 1 rfl; clear hx0
   refine o1 r1 fun ρ q1 => ?_; go_simp;
   refine put_eq J ?_; rfl
  clear Eb
  refine Lm Ea 27 20 ?_ (fun hx K' J => ?_) (fun _ Eb => ?_); rotate_left 1
  ·have hx0 := hx; (try simp only [beq_iff_eq, Bool.and_eq_true, Bool.beq_true, Bool.beq_false, Bool.not_eq_true', beq_eq_false_iff_ne] at hx); have r25 := Ea.at 25 rfl; have r26 := Ea.at 26 rfl; (try simp only [hx0, may_true] at r25); (try simp only [hx0, may_true] at r26); clear hx0
   refine o2 r25 r26 fun ρ q25 q26 => ?_; go_simp; (try go_bits);
   go_at_call 102; refine (rstands_any g ca _ hg1).mono ?_; rw [HP.out]; rintro e w2 ⟨rfl, rfl⟩; refine put_eq J ?_; rfl
  clear Ea
  refine Lm Eb 28 20 ?_ (fun hx K' J => ?_) (fun _ Ea => ?_); rotate_left 1
  ·have hx0 := hx; (try simp only [beq_iff_eq, Bool.and_eq_true, Bool.beq_true, Bool.beq_false, Bool.not_eq_true', beq_eq_false_iff_ne] at hx); have r27 := Eb.at 27 rfl; (try simp only [hx0, may_true] at r27); clear hx0
   refine o1 r27 fun ρ q27 => ?_; go_simp;
   refine put_eq J ?_; rfl
  clear Eb
  refine Late.mayy Ea (d' := 29) (by decide) (by (first | (simp only [List.getElem?_toArray, List.getElem?_cons_succ, List.getElem?_cons_zero]; rfl) | rfl)) rfl rfl (d := 28) (by kernel_rfl) rfl ?_ (fun hx K' J => ?_) (fun _ Eb => ?_); rotate_left 1
  ·have hx0 := hx; have hxa := and_l hx; have hxb := and_r hx; (try simp only [beq_iff_eq, Bool.and_eq_true, Bool.beq_true, Bool.beq_false, Bool.not_eq_true', beq_eq_false_iff_ne] at hx); have r3 := Ea.at 3 rfl; clear hx0 hxa hxb
   refine o1 r3 fun ρ q3 => ?_; go_simp;
   refine put_eq J ?_; rfl
  clear Ea
  refine Late.mayy Eb (d' := 30) (by decide) (by (first | (simp only [List.getElem?_toArray, List.getElem?_cons_succ, List.getElem?_cons_zero]; rfl) | rfl)) rfl rfl (d := 28) (by kernel_rfl) rfl ?_ (fun hx K' J => ?_) (fun _ Ea => ?_); rotate_left 1
  ·have hx0 := hx; have hxa := and_l hx; have hxb := and_r hx; (try simp only [beq_iff_eq, Bool.and_eq_true, Bool.beq_true, Bool.beq_false, Bool.not_eq_true', beq_eq_false_iff_ne] at hx); have r29 := Eb.at 29 rfl; (try simp only [hx0, hxa, hxb, may_true] at r29); clear hx0 hxa hxb
   refine o1 r29 fun ρ q29 => ?_; go_simp;
   refine put_eq J ?_; rfl
  clear Eb
  refine Late.mayy Ea (d' := 31) (by decide) (by (first | (simp only [List.getElem?_toArray, List.getElem?_cons_succ, List.getElem?_cons_zero]; rfl) | rfl)) rfl rfl (d := 28) (by kernel_rfl) rfl ?_ (fun hx K' J => ?_) (fun _ Eb => ?_); rotate_left 1
  ·have hx0 := hx; have hxa := and_l hx; have hxb := and_r hx; (try simp only [beq_iff_eq, Bool.and_eq_true, Bool.beq_true, Bool.beq_false, Bool.not_eq_true', beq_eq_false_iff_ne] at hx); have r8 := Ea.at 8 rfl; clear hx0 hxa hxb
   refine o1 r8 fun ρ q8 => ?_; go_simp;
   refine put_eq J ?_; rfl
  clear Ea
  refine Late.mayy Eb (d' := 32) (by decide) (by (first | (simp only [List.getElem?_toArray, List.getElem?_cons_succ, List.getElem?_cons_zero]; rfl) | rfl)) rfl rfl (d := 28) (by kernel_rfl) rfl ?_ (fun hx K' J => ?_) (fun _ Ea => ?_); rotate_left 1
  ·have hx0 := hx; have hxa := and_l hx; have hxb := and_r hx; (try simp only [beq_iff_eq, Bool.and_eq_true, Bool.beq_true, Bool.beq_false, Bool.not_eq_true', beq_eq_false_iff_ne] at hx); have r30 := Eb.at 30 rfl; have r31 := Eb.at 31 rfl; (try simp only [hx0, hxa, hxb, may_true] at r30); (try simp only [hx0, hxa, hxb, may_true] at r31); clear hx0 hxa hxb
   refine o2 r30 r31 fun ρ q30 q31 => ?_; go_simp; (try go_bits);
   refine put_eq J ?_; rfl
  clear Eb
  refine Late.mayy Ea (d' := 33) (by decide) (by (first | (simp only [List.getElem?_toArray, List.getElem?_cons_succ, List.getElem?_cons_zero]; rfl) | rfl)) rfl rfl (d := 28) (by kernel_rfl) rfl ?_ (fun hx K' J => ?_) (fun _ Eb => ?_); rotate_left 1
  ·have hx0 := hx; have hxa := and_l hx; have hxb := and_r hx; (try simp only [beq_iff_eq, Bool.and_eq_true, Bool.beq_true, Bool.beq_false, Bool.not_eq_true', beq_eq_false_iff_ne] at hx); have r32 := Ea.at 32 rfl; (try simp only [hx0, hxa, hxb, may_true] at r32); clear hx0 hxa hxb
   refine o1 r32 fun ρ q32 => ?_; go_simp;
   refine put_eq J ?_; rfl
  clear Ea
  refine Late.mayy Eb (d' := 34) (by decide) (by (first | (simp only [List.getElem?_toArray, List.getElem?_cons_succ, List.getElem?_cons_zero]; rfl) | rfl)) rfl rfl (d := 28) (by kernel_rfl) rfl ?_ (fun hx K' J => ?_) (fun _ Ea => ?_); rotate_left 1
  ·have hx0 := hx; have hxa := and_l hx; have hxb := and_r hx; (try simp only [beq_iff_eq, Bool.and_eq_true, Bool.beq_true, Bool.beq_false, Bool.not_eq_true', beq_eq_false_iff_ne] at hx); have r2 := Eb.at 2 rfl; clear hx0 hxa hxb
   refine o1 r2 fun ρ q2 => ?_; go_simp;
   refine put_eq J ?_; rfl
  clear Eb
  refine Late.mayy Ea (d' := 35) (by decide) (by (first | (simp only [List.getElem?_toArray, List.getElem?_cons_succ, List.getElem?_cons_zero]; rfl) | rfl)) rfl rfl (d := 28) (by kernel_rfl) rfl ?_ (fun hx K' J => ?_) (fun _ Eb => ?_); rotate_left 1
  ·have hx0 := hx; have hxa := and_l hx; have hxb := and_r hx; (try simp only [beq_iff_eq, Bool.and_eq_true, Bool.beq_true, Bool.beq_false, Bool.not_eq_true', beq_eq_false_iff_ne] at hx); have r33 := Ea.at 33 rfl; have r34 := Ea.at 34 rfl; (try simp only [hx0, hxa, hxb, may_true] at r33); (try simp only [hx0, hxa, hxb, may_true] at r34); clear hx0 hxa hxb
   refine o2 r33 r34 fun ρ q33 q34 => ?_; go_simp; (try go_bits);
   go_at_call 102; refine (rstands_any g cb _ hg1).mono ?_; rintro e w2 ⟨rfl, rfl⟩; refine put_eq J ?_; rfl
  clear Ea
  refine Lm Eb 36 20 ?_ (fun hx K' J => ?_) (fun _ Ea => ?_); rotate_left 1
  ·have hx0 := hx; (try simp only [beq_iff_eq, Bool.and_eq_true, Bool.beq_true, Bool.beq_false, Bool.not_eq_true', beq_eq_false_iff_ne] at hx); have r28 := Eb.at 28 rfl; have r35 := Eb.at 35 rfl; (try simp only [hx0, may_true] at r28); (try simp only [hx0, may_true] at r35); clear hx0
   refine o2 r28 r35 fun ρ q28 q35 => ?_; go_simp; (try go_bits);
   refine put_eq J ?_; rfl
  clear Eb
  refine M2 Ea 20 36 fun K' J ρ q20 q36 => ?_; go_simp; (try go_bits)
  refine Ln Ea J fun _ Eb => ?_; clear J K' Ea q20 q36
  replace Eb := Eb.turn 37 (v' := .bool (f || (p && standsB g cb))) rfl (by (cases f <;> cases p <;> simp))
  refine M1 Eb 37 fun K' J ρ q37 => ?_; go_simp
  refine Ln Eb J fun _ Ea => ?_; clear J K' Eb q37
  refine Ld [1, 2, 3, 7, 8] Ea hK fun a hE => ?_; clear hK K Q' Ea
  refine Ks ?_
  refine Rs 3 fun Q' K hK => ?_
  refine M1 hE 8 fun K' J ρ q8 => ?_; go_simp
  refine Ln hE J fun _ Eb => ?_; clear J K' hE a q8
  refine M1 Eb 17 fun K' J ρ q17 => ?_; go_simp; (try go_bits); (try simp (disch := omega) only [IntWalk.i64_in])
  refine Ln Eb J fun _ Ea => ?_; clear J K' Eb q17
  refine M1 Ea 18 fun K' J ρ q18 => ?_; go_simp
  refine Ln Ea J fun _ Eb => ?_; clear J K' Ea q18
  refine Ld [1, 2, 3, 7, 8] Eb hK fun a hE => ?_; clear hK K Q' Eb
  refine Ks ?_
  refine ⟨k + 1, ⟨hlt, ?_, rfl⟩, by omega⟩
  rw [HS.out, HP.out]
  simpa using hE
 ·have hkk : k = l.length := by have := of_decide_eq_false h; omega
  clear h
  rw [hkk, anyTo_all] at hE
  refine Ks ?_
  refine Rs 2 fun Q' K hK => ?_
  refine M1 hE 7 fun K' J ρ q7 => ?_; go_simp
  refine Ln hE J fun _ Eb => ?_; clear J K' hE a q7
  refine M1 Eb 38 fun K' J ρ q38 => ?_; go_simp
  refine Ln Eb J fun _ Ea => ?_; clear J K' Eb q38
  refine Ld [6] Ea hK fun a hE => ?_; clear hK K Q' Ea
  refine Ks ?_
  exact ret_one hE rfl rfl ⟨rfl, hbw1⟩
def rapR (al : List ByteArray) (sl : Int) (x y : List UInt8) : Int := if (apR al sl x y).2 then (apR al sl x y).1 else -1
set_option maxRecDepth 100000 in
set_option maxHeartbeats 2000000 in
theorem rapart_any (A : Option Addr) (cap : Nat) (l : List ByteArray) (m : ByteArray) (sl : Int) (s t : ByteArray) (w : World) (hA : Arr w w.heap.size A (txts l)) (hl : l.length ≤ 9223372036854775807) (hz : ∀ i (h : i < l.length), l[i].size ≤ 9223372036854775807) (hm : m.size ≤ 9223372036854775807) (hs : s.size ≤ 9223372036854775807) (ht : t.size ≤ 9223372036854775807) : Calls Tryz.prog 66 #[.agg #[.slice A l.length cap, .string m, .int .i64 sl], .string s, .string t] w fun e w' => e = .returned (.int .i64 (rapR l sl (keptL m s.data.toList) (keptL m t.data.toList))) ∧ Below w.heap.size w w' := by
 have ext : ∀ x : List UInt8, ∃ X : ByteArray, ByteArray.mk x.toArray = X ∧ X.data.toList = x := fun x => ⟨_, rfl, by simp⟩
 obtain ⟨X, hX, hXl⟩ := ext (keptL m s.data.toList)
 obtain ⟨Y, hY, hYl⟩ := ext (keptL m t.data.toList)
 have hxs : X.data.toList.length = X.size := by simp
 have hys : Y.data.toList.length = Y.size := by simp
 have hxl : X.size ≤ 9223372036854775807 := by
  rw [← hxs, hXl]; have := List.length_filter_le (fun c => !standsB m c) s.data.toList; have h2 : s.data.toList.length = s.size := by simp
  unfold keptL; omega
 have hyl : Y.size ≤ 9223372036854775807 := by
  rw [← hys, hYl]; have := List.length_filter_le (fun c => !standsB m c) t.data.toList; have h2 : t.data.toList.length = t.size := by simp
  unfold keptL; omega
 rw [← hXl, ← hYl]
 have HX := hid hX
 have HY := hid hY
 have HZ := hid hz
 have HXS := hid hxs
 have HYS := hid hys
 clear hX hY hXl hYl hz ext hxs hys
 refine enterE Tryz.func66 rfl Tryz.ntmps66 (by simp) (fun a hE => ?_); simp only [envOf, Nat.zero_add, Nat.reduceAdd] at hE
 refine Ks ?_
 refine Rs 2 fun Q' K hK => ?_
 refine M1 hE 0 fun K' J ρ q0 => ?_; go_simp
 refine Ln hE J fun _ Eb => ?_; clear J K' hE a q0
 refine M0 fun K' J ρ => ?_; go_simp;
 refine Ln Eb J fun _ Ea => ?_; clear J K' Eb
 refine Ld [1, 2, 3] Ea hK fun a hE => ?_; clear hK K Q' Ea
 obtain ⟨B, hBe⟩ : ∃ B, B = w.heap.size := ⟨_, rfl⟩; rw [← hBe] at hE; refine world_cut (fun wt => Below w.heap.size w wt ∧ Cells wt B [.slice A l.length cap, .string m, .int .i64 sl]) ⟨(Below.refl _ _).alloc (Nat.le_refl _) _, by rw [hBe]; exact cells_new _ _ _⟩ (fun w1 hCut => ?_); obtain ⟨hbw1, hCB⟩ := hCut; clear hBe
 refine Ks ?_
 obtain ⟨nB, cB0, cB1, cB2⟩ := hCB.c3
 refine Rd [] (fun wt => Below w1.heap.size w1 wt) (fun w1 w2 => Below w1.heap.size w1 w2) [(0, some 11), (1, some 12), (2, some 13), (3, some 14), (4, some 15), (5, some 16), (6, some 7), (7, some 8)] [11, 12, 13, 14, 15, 16, 7, 8] #[true, true, true, true, true, true, true, true] [3] hE ((Below.refl _ _).drew) fun Q' K hK => ?_
 refine SeqOps.val ?_ (Sp fun ax wx hS hT' hd K' J => ?_) ?_; rotate_left 1
 ·have r3 := hS.at 3 (by decide) (hE.at 3 rfl); obtain ⟨_, _, _, _, _, _⟩ := bT hT'
  refine o1 r3 fun ρ q3 => ?_; go_simp;
  exact Jo J hT'
 refine SeqOps.val ?_ (Sp fun ax wx hS hT' hd K' J => ?_) ?_; rotate_left 1
 ·have r1 := hS.at 1 (by decide) (hE.at 1 rfl); obtain ⟨_, _, _, _, _, _⟩ := bT hT'
  refine o1 r1 fun ρ q1 => ?_; go_simp;
  exact Jo J hT'
 refine SeqOps.val ?_ (Sp fun ax wx hS hT' hd K' J => ?_) ?_; rotate_left 1
 ·have r11 := Tv hd 1 0 11; have r12 := Tv hd 0 1 12; obtain ⟨_, _, _, _, _, _⟩ := bT hT'
  refine o2 r11 r12 fun ρ q11 q12 => ?_; go_simp; (try go_bits);
  go_at_call 88; refine (rsounds_any A _ cap m sl s _ hm hs).mono ?_; rw [HX.out]; rintro e u1 ⟨rfl, g1⟩
  refine J.out _ _ _ rfl ?_ (hT'.trans (g1.mono hT'.size)) g1; rfl
 refine SeqOps.val ?_ (Sp fun ax wx hS hT' hd K' J => ?_) ?_; rotate_left 1
 ·have r3 := hS.at 3 (by decide) (hE.at 3 rfl); obtain ⟨_, _, _, _, _, _⟩ := bT hT'
  refine o1 r3 fun ρ q3 => ?_; go_simp;
  exact Jo J hT'
 refine SeqOps.val ?_ (Sp fun ax wx hS hT' hd K' J => ?_) ?_; rotate_left 1
 ·have r2 := hS.at 2 (by decide) (hE.at 2 rfl); obtain ⟨_, _, _, _, _, _⟩ := bT hT'
  refine o1 r2 fun ρ q2 => ?_; go_simp;
  exact Jo J hT'
 refine SeqOps.val ?_ (Sp fun ax wx hS hT' hd K' J => ?_) ?_; rotate_left 1
 ·have r14 := Tv hd 1 3 14; have r15 := Tv hd 0 4 15; obtain ⟨_, _, _, _, _, _⟩ := bT hT'
  refine o2 r14 r15 fun ρ q14 q15 => ?_; go_simp; (try go_bits);
  go_at_call 88; refine (rsounds_any A _ cap m sl t _ hm ht).mono ?_; rw [HY.out]; rintro e u1 ⟨rfl, g1⟩
  refine J.out _ _ _ rfl ?_ (hT'.trans (g1.mono hT'.size)) g1; rfl
 refine SeqOps.val ?_ (Sp fun ax wx hS hT' hd K' J => ?_) ?_; rotate_left 1
 ·have r13 := Tv hd 3 2 13; obtain ⟨_, _, _, _, _, _⟩ := bT hT'
  refine o1 r13 fun ρ q13 => ?_; go_simp;
  exact Jo J hT'
 refine SeqOps.val ?_ (Sp fun ax wx hS hT' hd K' J => ?_) ?_; rotate_left 1
 ·have r16 := Tv hd 1 5 16; obtain ⟨_, _, _, _, _, _⟩ := bT hT'
  refine o1 r16 fun ρ q16 => ?_; go_simp;
  exact Jo J hT'
 refine SeqOps.nil ?_
 intro w2 hBl; (repeat refine Ek ?_)
 refine fun ax hEx => ?_
 simp only [lk, pick, Nat.reduceEqDiff, ↓reduceIte] at hEx
 refine Ld [3, 7, 8] hEx hK fun a hE => ?_; clear hK K Q' hEx
 clear nB cB0 cB1 cB2 HX HY
 have hb2 := hbw1.trans (hBl.mono hbw1.size)
 replace hCB := hCB.below hBl
 have hA2 := (hA.below hb2).more hb2.size
 clear hBl hbw1 hA
 refine Ks ?_
 refine Rs 5 fun Q' K hK => ?_
 refine M1 hE 7 fun K' J ρ q7 => ?_; go_simp
 refine Ln hE J fun _ Eb => ?_; clear J K' hE a q7
 refine M1 Eb 17 fun K' J ρ q17 => ?_; go_simp; (try go_bits)
 refine Ln Eb J fun _ Ea => ?_; clear J K' Eb q17
 refine M1 Ea 8 fun K' J ρ q8 => ?_; go_simp
 refine Ln Ea J fun _ Eb => ?_; clear J K' Ea q8
 refine M1 Eb 19 fun K' J ρ q19 => ?_; go_simp; (try go_bits)
 refine Ln Eb J fun _ Ea => ?_; clear J K' Eb q19
 refine M2 Ea 18 20 fun K' J ρ q18 q20 => ?_; go_simp; (try go_bits)
 refine Ln Ea J fun _ Eb => ?_; clear J K' Ea q18 q20
 refine Ld [3, 7, 8, 21] Eb hK fun a hE => ?_; clear hK K Q' Eb
 refine Ks ?_
 refine cond_part hE (t := 21) rfl (fun h => ?_) (fun h => ?_)
 ·refine Ks ?_
  refine Rs 1 fun Q' K hK => ?_
  refine M0 fun K' J ρ => ?_; go_simp;
  refine Ln hE J fun _ Eb => ?_; clear J K' hE a
  refine Ld [6] Eb hK fun a hE => ?_; clear hK K Q' Eb
  refine Ks ?_
  have h' : ¬ (X.size : Int) = Y.size := by simpa using h
  have e : apR l sl X.data.toList Y.data.toList = (0, false) := by unfold apR; rw [if_neg (fun q => h' (by have := q.1; rw [HXS.out, HYS.out] at this; omega))]
  refine ret_one hE rfl rfl ⟨?_, hb2⟩
  unfold rapR
  rw [e]; rfl
 ·have h' : (X.size : Int) = Y.size := by simpa using h
  have hlen : X.size = Y.size := by omega
  clear h h'
  have HL := hid hlen
  have hlt0 : ∀ k, k < X.size → k < Y.size := fun k hk => by omega
  clear hlen
  refine Ks ?_
  refine Rs 1 fun Q' K hK => ?_
  refine M0 fun K' J ρ => ?_; go_simp;
  refine Ln hE J fun _ Eb => ?_; clear J K' hE a
  refine Ld [3, 7, 8, 9] Eb hK fun a hE => ?_; clear hK K Q' Eb
  refine Ks ?_
  refine Rs 1 fun Q' K hK => ?_
  refine M0 fun K' J ρ => ?_; go_simp;
  refine Ln hE J fun _ Eb => ?_; clear J K' hE a
  refine Ld [3, 7, 8, 9, 10] Eb hK fun a hE => ?_; clear hK K Q' Eb
  refine Ks ?_
  refine loop_st (fun (k : Nat) a w' => k ≤ X.size ∧ Fits 51 [(3, .pointer (some ⟨B, 0, none⟩)), (7, .string X), (8, .string Y), (9, .int .i64 (diffN X.data.toList Y.data.toList k)), (10, .int .i64 k)] a ∧ Below w2.heap.size w2 w' ∧ ∀ i, i < k → alikeB l (X.data.toList.getD i 0) (Y.data.toList.getD i 0) = true) (fun k => X.size - k) 0 ?_ (fun k a w' hI => ?_)
  ·exact ⟨Nat.zero_le _, by simpa [diffN] using hE, Below.refl _ _, fun i hi => absurd hi (Nat.not_lt_zero i)⟩
  clear hE
  obtain ⟨hk, hE, hBr, hN⟩ := hI
  obtain ⟨wr, hwr⟩ : ∃ x, x = w' := ⟨_, rfl⟩
  subst hwr
  have HN := hid hN
  clear hN
  refine Ks ?_
  refine Rs 4 fun Q' K hK => ?_
  refine M1 hE 10 fun K' J ρ q10 => ?_; go_simp
  refine Ln hE J fun _ Eb => ?_; clear J K' hE a q10
  refine M1 Eb 7 fun K' J ρ q7 => ?_; go_simp
  refine Ln Eb J fun _ Ea => ?_; clear J K' Eb q7
  refine M1 Ea 23 fun K' J ρ q23 => ?_; go_simp; (try go_bits)
  refine Ln Ea J fun _ Eb => ?_; clear J K' Ea q23
  refine M2 Eb 22 24 fun K' J ρ q22 q24 => ?_; go_simp; (try go_bits)
  refine Ln Eb J fun _ Ea => ?_; clear J K' Eb q22 q24
  refine Ld [3, 7, 8, 9, 10, 25] Ea hK fun a hE => ?_; clear hK K Q' Ea
  refine Ks ?_
  refine cond_part hE (t := 25) rfl (fun h => ?_) (fun h => ?_)
  ·have hlt : k < X.size := of_decide_eq_true h
   clear h
   have hlty := hlt0 k hlt
   have hltI : (k : Int) < X.size := by omega
   have hltY : (k : Int) < Y.size := by omega
   have hbx := byte_at X k hlt
   have hby := byte_at Y k hlty
   have HA := hid hbx
   have HB := hid hby
   clear hbx hby
   have hCr := hCB.below hBr
   have nr := hCr.1
   have d0 := hCr.2 0 _ rfl
   have d1 := hCr.2 1 _ rfl
   have d2 := hCr.2 2 _ rfl
   clear hCr
   have hAr := (hA2.below hBr).more hBr.size
   refine Ks ?_
   refine Rd [] (fun wt => Below wr.heap.size wr wt) (fun w1 w2 => Below w1.heap.size w1 w2) [(0, some 28), (1, some 29), (2, some 30), (3, some 31), (4, some 32), (5, some 33), (6, some 34), (7, some 35), (8, some 36)] [28, 29, 30, 31, 32, 33, 34, 35, 36] #[true, true, true, true, true, true, true, true, true] [3, 7, 8, 9, 10] hE ((Below.refl _ _).drew) fun Q' K hK => ?_
   refine SeqOps.val ?_ (Sp fun ax wx hS hT' hd K' J => ?_) ?_; rotate_left 1
   ·have r3 := hS.at 3 (by decide) (hE.at 3 rfl); obtain ⟨_, _, _, _, _, _⟩ := bT hT'
    refine o1 r3 fun ρ q3 => ?_; go_simp;
    exact Jo J hT'
   refine SeqOps.val ?_ (Sp fun ax wx hS hT' hd K' J => ?_) ?_; rotate_left 1
   ·have r7 := hS.at 7 (by decide) (hE.at 7 rfl); obtain ⟨_, _, _, _, _, _⟩ := bT hT'
    refine o1 r7 fun ρ q7 => ?_; go_simp;
    exact Jo J hT'
   refine SeqOps.val ?_ (Sp fun ax wx hS hT' hd K' J => ?_) ?_; rotate_left 1
   ·have r10 := hS.at 10 (by decide) (hE.at 10 rfl); obtain ⟨_, _, _, _, _, _⟩ := bT hT'
    refine o1 r10 fun ρ q10 => ?_; go_simp;
    exact Jo J hT'
   refine SeqOps.val ?_ (Sp fun ax wx hS hT' hd K' J => ?_) ?_; rotate_left 1
   ·have r29 := Tv hd 1 1 29; have r30 := Tv hd 0 2 30; obtain ⟨_, _, _, _, _, _⟩ := bT hT'
    refine o2 r29 r30 fun ρ q29 q30 => ?_; go_simp; (try go_bits);
    exact Jo J hT'
   refine SeqOps.val ?_ (Sp fun ax wx hS hT' hd K' J => ?_) ?_; rotate_left 1
   ·have r8 := hS.at 8 (by decide) (hE.at 8 rfl); obtain ⟨_, _, _, _, _, _⟩ := bT hT'
    refine o1 r8 fun ρ q8 => ?_; go_simp;
    exact Jo J hT'
   refine SeqOps.val ?_ (Sp fun ax wx hS hT' hd K' J => ?_) ?_; rotate_left 1
   ·have r10 := hS.at 10 (by decide) (hE.at 10 rfl); obtain ⟨_, _, _, _, _, _⟩ := bT hT'
    refine o1 r10 fun ρ q10 => ?_; go_simp;
    exact Jo J hT'
   refine SeqOps.val ?_ (Sp fun ax wx hS hT' hd K' J => ?_) ?_; rotate_left 1
   ·have r32 := Tv hd 1 4 32; have r33 := Tv hd 0 5 33; obtain ⟨_, _, _, _, _, _⟩ := bT hT'
    refine o2 r32 r33 fun ρ q32 q33 => ?_; go_simp; (try go_bits);
    exact Jo J hT'
   refine SeqOps.val ?_ (Sp fun ax wx hS hT' hd K' J => ?_) ?_; rotate_left 1
   ·have r28 := Tv hd 6 0 28; have r31 := Tv hd 3 3 31; have r34 := Tv hd 0 6 34; obtain ⟨_, _, _, _, _, _⟩ := bT hT'
    refine o3 r28 r31 r34 fun ρ q28 q31 q34 => ?_; go_simp; (try go_bits);
    go_at_call 89; refine (ralike_any A cap l m sl X[k] Y[k] _ ((hAr.below hT').more hT'.size) hl HZ.out).mono ?_; rintro e u1 ⟨rfl, g1⟩
    refine J.out _ _ _ rfl ?_ (hT'.trans (g1.mono hT'.size)) g1; rfl
   refine SeqOps.val ?_ (Sp fun ax wx hS hT' hd K' J => ?_) ?_; rotate_left 1
   ·have r35 := Tv hd 0 7 35; obtain ⟨_, _, _, _, _, _⟩ := bT hT'
    refine o1 r35 fun ρ q35 => ?_; go_simp; (try go_bits); (try simp (disch := omega) only [IntWalk.i64_in]);
    exact Jo J hT'
   refine SeqOps.nil ?_
   intro w3 hBl; (repeat refine Ek ?_)
   refine fun ax hEx => ?_
   simp only [lk, pick, Nat.reduceEqDiff, ↓reduceIte] at hEx
   refine Ld [3, 7, 8, 9, 10, 36] hEx hK fun a hE => ?_; clear hK K Q' hEx
   have hB3 := hBr.trans (hBl.mono hBr.size)
   clear d0 d1 d2 nr hAr hBl
   refine Ks ?_
   refine cond_part hE (t := 36) rfl (fun h => ?_) (fun h => ?_)
   ·refine Ks ?_
    refine Rs 1 fun Q' K hK => ?_
    refine M0 fun K' J ρ => ?_; go_simp;
    refine Ln hE J fun _ Eb => ?_; clear J K' hE a
    refine Ld [6] Eb hK fun a hE => ?_; clear hK K Q' Eb
    refine Ks ?_
    have e : apR l sl X.data.toList Y.data.toList = (0, false) := by
     unfold apR
     rw [if_neg]
     rintro ⟨_, q, _⟩
     have := List.all_eq_true.1 q k (List.mem_range.2 (by rw [HXS.out]; exact hlt))
     rw [HA.out, HB.out] at this
     rw [this] at h; cases h
    refine ret_one hE rfl rfl ⟨?_, hb2.trans (hB3.mono hb2.size)⟩
    unfold rapR
    rw [e]; rfl
   ·have hal : alikeB l X[k] Y[k] = true := by simpa using h
    clear h
    refine Ks ?_
    refine Rd [] (fun wt => Below w3.heap.size w3 wt) (fun w1 w2 => Below w1.heap.size w1 w2) [(0, some 37), (1, some 38), (2, some 39), (3, some 40), (4, some 41), (5, some 42), (6, some 43)] [37, 38, 39, 40, 41, 42, 43] #[true, true, true, true, true, true, true] [3, 7, 8, 9, 10] hE ((Below.refl _ _).drew) fun Q' K hK => ?_
    refine SeqOps.val ?_ (Sp fun ax wx hS hT' hd K' J => ?_) ?_; rotate_left 1
    ·have r7 := hS.at 7 (by decide) (hE.at 7 rfl); obtain ⟨_, _, _, _, _, _⟩ := bT hT'
     refine o1 r7 fun ρ q7 => ?_; go_simp;
     exact Jo J hT'
    refine SeqOps.val ?_ (Sp fun ax wx hS hT' hd K' J => ?_) ?_; rotate_left 1
    ·have r10 := hS.at 10 (by decide) (hE.at 10 rfl); obtain ⟨_, _, _, _, _, _⟩ := bT hT'
     refine o1 r10 fun ρ q10 => ?_; go_simp;
     exact Jo J hT'
    refine SeqOps.val ?_ (Sp fun ax wx hS hT' hd K' J => ?_) ?_; rotate_left 1
    ·have r37 := Tv hd 1 0 37; have r38 := Tv hd 0 1 38; obtain ⟨_, _, _, _, _, _⟩ := bT hT'
     refine o2 r37 r38 fun ρ q37 q38 => ?_; go_simp; (try go_bits);
     exact Jo J hT'
    refine SeqOps.val ?_ (Sp fun ax wx hS hT' hd K' J => ?_) ?_; rotate_left 1
    ·have r8 := hS.at 8 (by decide) (hE.at 8 rfl); obtain ⟨_, _, _, _, _, _⟩ := bT hT'
     refine o1 r8 fun ρ q8 => ?_; go_simp;
     exact Jo J hT'
    refine SeqOps.val ?_ (Sp fun ax wx hS hT' hd K' J => ?_) ?_; rotate_left 1
    ·have r10 := hS.at 10 (by decide) (hE.at 10 rfl); obtain ⟨_, _, _, _, _, _⟩ := bT hT'
     refine o1 r10 fun ρ q10 => ?_; go_simp;
     exact Jo J hT'
    refine SeqOps.val ?_ (Sp fun ax wx hS hT' hd K' J => ?_) ?_; rotate_left 1
    ·have r40 := Tv hd 1 3 40; have r41 := Tv hd 0 4 41; obtain ⟨_, _, _, _, _, _⟩ := bT hT'
     refine o2 r40 r41 fun ρ q40 q41 => ?_; go_simp; (try go_bits);
     exact Jo J hT'
    refine SeqOps.val ?_ (Sp fun ax wx hS hT' hd K' J => ?_) ?_; rotate_left 1
    ·have r39 := Tv hd 3 2 39; have r42 := Tv hd 0 5 42; obtain ⟨_, _, _, _, _, _⟩ := bT hT'
     refine o2 r39 r42 fun ρ q39 q42 => ?_; go_simp; (try go_bits);
     exact Jo J hT'
    refine SeqOps.nil ?_
    intro w4 hBl; (repeat refine Ek ?_)
    refine fun ax hEx => ?_
    simp only [lk, pick, Nat.reduceEqDiff, ↓reduceIte] at hEx
    refine Ld [3, 7, 8, 9, 10, 43] hEx hK fun a hE => ?_; clear hK K Q' hEx
    have hB4 := hB3.trans (hBl.mono hB3.size)
    replace hE := hE.turn 43 (v' := .bool (!(X[k] == Y[k]))) rfl (by
     congr 1; rw [Bool.eq_iff_iff]; simp [← UInt8.toNat_inj]; constructor <;> intro h <;> omega)
    have hall : ∀ i, i < k + 1 → alikeB l (X.data.toList.getD i 0) (Y.data.toList.getD i 0) = true := fun i hi => by
     rcases Nat.lt_or_ge i k with h1 | h1
     ·exact HN.out i h1
     ·obtain rfl : i = k := by omega
      rw [HA.out, HB.out]; exact hal
    have hdn : diffN X.data.toList Y.data.toList (k + 1) = diffN X.data.toList Y.data.toList k + (if X[k] == Y[k] then 0 else 1) := by
     show diffN X.data.toList Y.data.toList k + _ = _
     rw [HA.out, HB.out]
    have hdl := diffN_le X.data.toList Y.data.toList k
    have HH := hid hall
    have HD := hid hdn
    clear hall hdn hB3 hal
    refine Ks ?_
    refine cond_part hE (t := 43) rfl (fun h => ?_) (fun h => ?_)
    ·have he : (X[k] == Y[k]) = false := by simpa using h
     clear h
     refine Ks ?_
     refine Rs 3 fun Q' K hK => ?_
     refine M1 hE 9 fun K' J ρ q9 => ?_; go_simp
     refine Ln hE J fun _ Eb => ?_; clear J K' hE a q9
     refine M1 Eb 44 fun K' J ρ q44 => ?_; go_simp; (try go_bits); (try simp (disch := omega) only [IntWalk.i64_in])
     refine Ln Eb J fun _ Ea => ?_; clear J K' Eb q44
     refine M1 Ea 45 fun K' J ρ q45 => ?_; go_simp
     refine Ln Ea J fun _ Eb => ?_; clear J K' Ea q45
     refine Ld [3, 7, 8, 9, 10] Eb hK fun a hE => ?_; clear hK K Q' Eb
     refine Ks ?_
     refine Rs 3 fun Q' K hK => ?_
     refine M1 hE 10 fun K' J ρ q10 => ?_; go_simp
     refine Ln hE J fun _ Eb => ?_; clear J K' hE a q10
     refine M1 Eb 26 fun K' J ρ q26 => ?_; go_simp; (try go_bits); (try simp (disch := omega) only [IntWalk.i64_in])
     refine Ln Eb J fun _ Ea => ?_; clear J K' Eb q26
     refine M1 Ea 27 fun K' J ρ q27 => ?_; go_simp
     refine Ln Ea J fun _ Eb => ?_; clear J K' Ea q27
     refine Ld [3, 7, 8, 9, 10] Eb hK fun a hE => ?_; clear hK K Q' Eb
     refine Ks ?_
     refine ⟨k + 1, ⟨hlt, ?_, hB4, HH.out⟩, by omega⟩
     rw [HD.out, he]; simpa using hE
    ·have he : (X[k] == Y[k]) = true := by simpa using h
     clear h
     refine Ks ?_
     refine Rs 3 fun Q' K hK => ?_
     refine M1 hE 10 fun K' J ρ q10 => ?_; go_simp
     refine Ln hE J fun _ Eb => ?_; clear J K' hE a q10
     refine M1 Eb 26 fun K' J ρ q26 => ?_; go_simp; (try go_bits); (try simp (disch := omega) only [IntWalk.i64_in])
     refine Ln Eb J fun _ Ea => ?_; clear J K' Eb q26
     refine M1 Ea 27 fun K' J ρ q27 => ?_; go_simp
     refine Ln Ea J fun _ Eb => ?_; clear J K' Ea q27
     refine Ld [3, 7, 8, 9, 10] Eb hK fun a hE => ?_; clear hK K Q' Eb
     refine Ks ?_
     refine ⟨k + 1, ⟨hlt, ?_, hB4, HH.out⟩, by omega⟩
     rw [HD.out, he]; simpa using hE
  ·have hkx : k = X.data.toList.length := by have := of_decide_eq_false h; rw [HXS.out]; omega
   clear h
   have hall : allB l X.data.toList Y.data.toList = true := List.all_eq_true.2 fun i hi => HN.out i (by have := List.mem_range.1 hi; omega)
   have HA := hid hall
   clear hall
   have hbr := hb2.trans (hBr.mono hb2.size)
   have hCr := hCB.below hBr
   have nr := hCr.1
   have d2 := hCr.2 2 _ rfl
   clear hCr
   obtain ⟨dn, hdn⟩ : ∃ dn, diffN X.data.toList Y.data.toList X.data.toList.length = dn := ⟨_, rfl⟩
   rw [hkx, hdn] at hE
   have HD := hid hdn
   clear hdn hkx
   refine Ks ?_
   refine Rs 4 fun Q' K hK => ?_
   refine M1 hE 9 fun K' J ρ q9 => ?_; go_simp
   refine Ln hE J fun _ Eb => ?_; clear J K' hE a q9
   refine M1 Eb 3 fun K' J ρ q3 => ?_; go_simp
   refine Ln Eb J fun _ Ea => ?_; clear J K' Eb q3
   refine M1 Ea 47 fun K' J ρ q47 => ?_; go_simp
   refine Ln Ea J fun _ Eb => ?_; clear J K' Ea q47
   refine M2 Eb 46 48 fun K' J ρ q46 q48 => ?_; go_simp; (try go_bits)
   refine Ln Eb J fun _ Ea => ?_; clear J K' Eb q46 q48
   refine Ld [9, 49] Ea hK fun a hE => ?_; clear hK K Q' Ea
   refine Ks ?_
   refine cond_part hE (t := 49) rfl (fun h => ?_) (fun h => ?_)
   ·have hgt : ¬ (dn : Int) ≤ sl := by have := of_decide_eq_true h; omega
    refine Ks ?_
    refine Rs 1 fun Q' K hK => ?_
    refine M0 fun K' J ρ => ?_; go_simp;
    refine Ln hE J fun _ Eb => ?_; clear J K' hE a
    refine Ld [6] Eb hK fun a hE => ?_; clear hK K Q' Eb
    refine Ks ?_
    have e : apR l sl X.data.toList Y.data.toList = (0, false) := by unfold apR; rw [HD.out, if_neg (fun q => hgt q.2.2)]
    refine ret_one hE rfl rfl ⟨?_, hbr⟩
    unfold rapR
    rw [e]; rfl
   ·have hle : (dn : Int) ≤ sl := by have := of_decide_eq_false h; omega
    refine Ks ?_
    refine Rs 2 fun Q' K hK => ?_
    refine M1 hE 9 fun K' J ρ q9 => ?_; go_simp
    refine Ln hE J fun _ Eb => ?_; clear J K' hE a q9
    refine M1 Eb 50 fun K' J ρ q50 => ?_; go_simp
    refine Ln Eb J fun _ Ea => ?_; clear J K' Eb q50
    refine Ld [6] Ea hK fun a hE => ?_; clear hK K Q' Ea
    refine Ks ?_
    have e : apR l sl X.data.toList Y.data.toList = ((dn : Int), true) := by unfold apR; rw [HD.out, if_pos ⟨by rw [HXS.out, HYS.out]; exact HL.out, HA.out, hle⟩]
    refine ret_one hE rfl rfl ⟨?_, hbr⟩
    unfold rapR
    rw [e]; rfl
def innerTo (l : List UInt8) (i k : Nat) : Bool := letterB (l.getD i 0) && (List.range k).all fun j => l.getD j 0 != l.getD i 0
def outerTo (l : List UInt8) (q : Bool) (k : Nat) : Bool := q && (List.range k).all (newB l)
theorem innerTo_succ (l : List UInt8) (i k : Nat) : innerTo l i (k + 1) = (innerTo l i k && (l.getD k 0 != l.getD i 0)) := by
 unfold innerTo
 rw [List.range_succ, List.all_append, List.all_cons, List.all_nil, Bool.and_true, Bool.and_assoc]
theorem outerTo_succ (l : List UInt8) (q : Bool) (k : Nat) : outerTo l q (k + 1) = (outerTo l q k && newB l k) := by
 unfold outerTo
 rw [List.range_succ, List.all_append, List.all_cons, List.all_nil, Bool.and_true, Bool.and_assoc]
theorem newB_inner (l : List UInt8) (i : Nat) (h : i ≤ l.length) : newB l i = innerTo l i i := by
 unfold newB innerTo
 congr 1
 have e := stands_contains (l.take i) (l.getD i 0)
 have e2 : decide (Lib.indexByte (l.take i) (l.getD i 0) < 0) = !decide (0 ≤ Lib.indexByte (l.take i) (l.getD i 0)) := by
  by_cases h0 : 0 ≤ Lib.indexByte (l.take i) (l.getD i 0)
  ·rw [decide_eq_true h0, decide_eq_false (by omega)]; rfl
  ·rw [decide_eq_false h0, decide_eq_true (by omega)]; rfl
 rw [e2, e, Bool.eq_iff_iff, Bool.not_eq_true', List.all_eq_true]
 constructor
 ·intro hc j hj
  have hji := List.mem_range.1 hj
  rw [bne_iff_ne]
  intro heq
  have : (l.take i).contains (l.getD i 0) = true := by
   rw [List.contains_iff_mem, List.mem_iff_getElem]
   refine ⟨j, by simp; omega, ?_⟩
   rw [List.getElem_take, ← getD_at (by omega), heq]
  rw [hc] at this; cases this
 ·intro hall
  cases hc : (l.take i).contains (l.getD i 0) with
  | false => rfl
  | true =>
   rw [List.contains_iff_mem, List.mem_iff_getElem] at hc
   obtain ⟨j, hj, he⟩ := hc
   have hj' : j < i := by simp at hj; omega
   have := hall j (List.mem_range.2 hj')
   rw [bne_iff_ne] at this
   rw [List.getElem_take, ← getD_at (by simp at hj; omega)] at he
   exact absurd he this
theorem outerTo_false (l : List UInt8) (q : Bool) {k n : Nat} (h : outerTo l q k = false) (hk : k ≤ n) : outerTo l q n = false := by
 unfold outerTo at h ⊢
 cases q with
 | false => rfl
 | true =>
  rw [Bool.true_and] at h ⊢
  rw [List.all_eq_false] at h ⊢
  obtain ⟨i, hi, h⟩ := h
  exact ⟨i, List.mem_range.2 (by have := List.mem_range.1 hi; omega), h⟩
theorem innerTo_false (l : List UInt8) (i : Nat) {k n : Nat} (h : innerTo l i k = false) (hk : k ≤ n) : innerTo l i n = false := by
 unfold innerTo at h ⊢
 cases hq : letterB (l.getD i 0) with
 | false => rfl
 | true =>
  rw [hq, Bool.true_and] at h
  rw [Bool.true_and]
  rw [List.all_eq_false] at h ⊢
  obtain ⟨j, hj, h⟩ := h
  exact ⟨j, List.mem_range.2 (by have := List.mem_range.1 hj; omega), h⟩
def lettersR (s : ByteArray) (lo hi : Int) : Bool := (decide (lo ≤ (s.size : Int)) && decide ((s.size : Int) ≤ hi)) && lettersB s.data.toList
set_option maxRecDepth 100000 in
set_option maxHeartbeats 2000000 in
theorem rletters_any (s : ByteArray) (lo hi : Int) (w : World) (hs : s.size ≤ 9223372036854775807) : Calls Tryz.prog 71 #[.string s, .int .i64 lo, .int .i64 hi] w fun e w' => e = .returned (.bool (lettersR s lo hi)) ∧ Below w.heap.size w w' := by
 have hlen : s.data.toList.length = s.size := by simp
 have HL := hid hlen
 clear hlen
 obtain ⟨q, hq⟩ : ∃ q, (decide (lo ≤ (s.size : Int)) && decide ((s.size : Int) ≤ hi)) = q := ⟨_, rfl⟩
 have HQ := hid hq
 clear hq
 refine enterE Tryz.func71 rfl Tryz.ntmps71 (by simp) (fun a hE => ?_); simp only [envOf, Nat.zero_add, Nat.reduceAdd] at hE
 refine Ks ?_
 refine Rs 1 fun Q' K hK => ?_
 refine M0 fun K' J ρ => ?_; go_simp;
 refine Ln hE J fun _ Eb => ?_; clear J K' hE a
 refine Ld [0, 1, 2] Eb hK fun a hE => ?_; clear hK K Q' Eb
 refine Ks ?_
 refine Rs 6 fun Q' K hK => ?_
 refine M1 hE 0 fun K' J ρ q0 => ?_; go_simp
 refine Ln hE J fun _ Eb => ?_; clear J K' hE a q0
 refine M1 Eb 10 fun K' J ρ q10 => ?_; go_simp; (try go_bits)
 refine Ln Eb J fun _ Ea => ?_; clear J K' Eb q10
 refine M1 Ea 1 fun K' J ρ q1 => ?_; go_simp
 refine Ln Ea J fun _ Eb => ?_; clear J K' Ea q1
 refine M1 Eb 2 fun K' J ρ q2 => ?_; go_simp
 refine Ln Eb J fun _ Ea => ?_; clear J K' Eb q2
 refine M3 Ea 11 12 13 fun K' J ρ q11 q12 q13 => ?_; go_simp; (try go_bits); (try clear q11 q12 q13)
 go_at_call 38; refine (between_any _ _ _ _).mono ?_; rw [HQ.out]; rintro e w1 ⟨rfl, rfl⟩
 (try clear r11 r12 r13)
 refine Ln Ea J fun _ Eb => ?_; clear J K' Ea
 refine M1 Eb 14 fun K' J ρ q14 => ?_; go_simp
 refine Ln Eb J fun _ Ea => ?_; clear J K' Eb q14
 refine Ld [0, 7] Ea hK fun a hE => ?_; clear hK K Q' Ea
 refine Ks ?_
 refine Rs 1 fun Q' K hK => ?_
 refine M0 fun K' J ρ => ?_; go_simp;
 refine Ln hE J fun _ Eb => ?_; clear J K' hE a
 refine Ld [0, 7, 8] Eb hK fun a hE => ?_; clear hK K Q' Eb
 refine Ks ?_
 refine loop_st (fun (k : Nat) a w' => k ≤ s.size ∧ Fits 50 [(0, .string s), (7, .bool (outerTo s.data.toList q k)), (8, .int .i64 k)] a ∧ Below w.heap.size w w') (fun k => s.size - k) 0 ?_ (fun k a w' hI => ?_)
 ·exact ⟨Nat.zero_le _, by simpa [outerTo] using hE, Below.refl _ _⟩
 clear hE
 obtain ⟨hk, hE, hB⟩ := hI
 obtain ⟨wr, hwr⟩ : ∃ x, x = w' := ⟨_, rfl⟩
 subst hwr
 obtain ⟨f, hf⟩ : ∃ f, outerTo s.data.toList q k = f := ⟨_, rfl⟩
 rw [hf] at hE
 have HF := hid hf
 clear hf
 refine Ks ?_
 refine Rs 7 fun Q' K hK => ?_
 refine M1 hE 7 fun K' J ρ q7 => ?_; go_simp
 refine Ln hE J fun _ Eb => ?_; clear J K' hE a q7
 refine M1 Eb 15 fun K' J ρ q15 => ?_; go_simp
 refine Ln Eb J fun _ Ea => ?_; clear J K' Eb q15
 refine Lm Ea 17 16 ?_ (fun hx K' J => ?_) (fun _ Eb => ?_); rotate_left 1
 ·have hx0 := hx; (try simp only [beq_iff_eq, Bool.and_eq_true, Bool.beq_true, Bool.beq_false, Bool.not_eq_true', beq_eq_false_iff_ne] at hx); have r8 := Ea.at 8 rfl; clear hx0
  refine o1 r8 fun ρ q8 => ?_; go_simp;
  refine put_eq J ?_; rfl
 clear Ea
 refine Lm Eb 18 16 ?_ (fun hx K' J => ?_) (fun _ Ea => ?_); rotate_left 1
 ·have hx0 := hx; (try simp only [beq_iff_eq, Bool.and_eq_true, Bool.beq_true, Bool.beq_false, Bool.not_eq_true', beq_eq_false_iff_ne] at hx); have r0 := Eb.at 0 rfl; clear hx0
  refine o1 r0 fun ρ q0 => ?_; go_simp;
  refine put_eq J ?_; rfl
 clear Eb
 refine Lm Ea 19 16 ?_ (fun hx K' J => ?_) (fun _ Eb => ?_); rotate_left 1
 ·have hx0 := hx; (try simp only [beq_iff_eq, Bool.and_eq_true, Bool.beq_true, Bool.beq_false, Bool.not_eq_true', beq_eq_false_iff_ne] at hx); have r18 := Ea.at 18 rfl; (try simp only [hx0, may_true] at r18); clear hx0
  refine o1 r18 fun ρ q18 => ?_; go_simp; (try go_bits);
  refine put_eq J ?_; rfl
 clear Ea
 refine Lm Eb 20 16 ?_ (fun hx K' J => ?_) (fun _ Ea => ?_); rotate_left 1
 ·have hx0 := hx; (try simp only [beq_iff_eq, Bool.and_eq_true, Bool.beq_true, Bool.beq_false, Bool.not_eq_true', beq_eq_false_iff_ne] at hx); have r17 := Eb.at 17 rfl; have r19 := Eb.at 19 rfl; (try simp only [hx0, may_true] at r17); (try simp only [hx0, may_true] at r19); clear hx0
  refine o2 r17 r19 fun ρ q17 q19 => ?_; go_simp; (try go_bits);
  refine put_eq J ?_; rfl
 clear Eb
 refine M2 Ea 16 20 fun K' J ρ q16 q20 => ?_; go_simp; (try go_bits)
 refine Ln Ea J fun _ Eb => ?_; clear J K' Ea q16 q20
 refine Ld [0, 7, 8, 21] Eb hK fun a hE => ?_; clear hK K Q' Eb
 refine Ks ?_
 refine cond_part hE (t := 21) rfl (fun h => ?_) (fun h => ?_)
 ·have hb : f = true ∧ k < s.size := by simpa using h
  obtain ⟨hft, hlt⟩ := hb
  clear h
  have hltI : (k : Int) < s.size := by omega
  have hbk := byte_at s k hlt
  have HBk := hid hbk
  clear hbk
  refine Ks ?_
  refine Rs 11 fun Q' K hK => ?_
  refine M1 hE 0 fun K' J ρ q0 => ?_; go_simp
  refine Ln hE J fun _ Eb => ?_; clear J K' hE a q0
  refine M1 Eb 8 fun K' J ρ q8 => ?_; go_simp
  refine Ln Eb J fun _ Ea => ?_; clear J K' Eb q8
  refine M2 Ea 24 25 fun K' J ρ q24 q25 => ?_; go_simp; (try go_bits)
  refine Ln Ea J fun _ Eb => ?_; clear J K' Ea q24 q25
  refine M1 Eb 26 fun K' J ρ q26 => ?_; go_simp; (try go_bits)
  refine Ln Eb J fun _ Ea => ?_; clear J K' Eb q26
  refine M1 Ea 27 fun K' J ρ q27 => ?_; go_simp
  refine Ln Ea J fun _ Eb => ?_; clear J K' Ea q27
  refine Lm Eb 29 28 ?_ (fun hx K' J => ?_) (fun _ Ea => ?_); rotate_left 1
  ·have hx0 := hx; (try simp only [beq_iff_eq, Bool.and_eq_true, Bool.beq_true, Bool.beq_false, Bool.not_eq_true', beq_eq_false_iff_ne] at hx); have r0 := Eb.at 0 rfl; clear hx0
   refine o1 r0 fun ρ q0 => ?_; go_simp;
   refine put_eq J ?_; rfl
  clear Eb
  refine Lm Ea 30 28 ?_ (fun hx K' J => ?_) (fun _ Eb => ?_); rotate_left 1
  ·have hx0 := hx; (try simp only [beq_iff_eq, Bool.and_eq_true, Bool.beq_true, Bool.beq_false, Bool.not_eq_true', beq_eq_false_iff_ne] at hx); have r8 := Ea.at 8 rfl; clear hx0
   refine o1 r8 fun ρ q8 => ?_; go_simp;
   refine put_eq J ?_; rfl
  clear Ea
  refine Lm Eb 31 28 ?_ (fun hx K' J => ?_) (fun _ Ea => ?_); rotate_left 1
  ·have hx0 := hx; (try simp only [beq_iff_eq, Bool.and_eq_true, Bool.beq_true, Bool.beq_false, Bool.not_eq_true', beq_eq_false_iff_ne] at hx); have r29 := Eb.at 29 rfl; have r30 := Eb.at 30 rfl; (try simp only [hx0, may_true] at r29); (try simp only [hx0, may_true] at r30); clear hx0
   refine o2 r29 r30 fun ρ q29 q30 => ?_; go_simp; (try go_bits);
   refine put_eq J ?_; rfl
  clear Eb
  refine Lm Ea 32 28 ?_ (fun hx K' J => ?_) (fun _ Eb => ?_); rotate_left 1
  ·have hx0 := hx; (try simp only [beq_iff_eq, Bool.and_eq_true, Bool.beq_true, Bool.beq_false, Bool.not_eq_true', beq_eq_false_iff_ne] at hx); have r31 := Ea.at 31 rfl; (try simp only [hx0, may_true] at r31); clear hx0
   refine o1 r31 fun ρ q31 => ?_; go_simp; (try go_bits);
   refine put_eq J ?_; rfl
  clear Ea
  refine M2 Eb 28 32 fun K' J ρ q28 q32 => ?_; go_simp; (try go_bits)
  refine Ln Eb J fun _ Ea => ?_; clear J K' Eb q28 q32
  refine M1 Ea 33 fun K' J ρ q33 => ?_; go_simp
  refine Ln Ea J fun _ Eb => ?_; clear J K' Ea q33
  refine Ld [0, 7, 8] Eb hK fun a hE => ?_; clear hK K Q' Eb
  replace hE := hE.turn 7 (v' := .bool (innerTo s.data.toList k 0)) rfl (by
   unfold innerTo letterB; rw [HBk.out, List.range_zero, List.all_nil, Bool.and_true]
   by_cases h9 : 97 ≤ ((s[k]).toNat : Int)
   ·rw [if_pos h9, decide_eq_true h9]; rfl
   ·rw [if_neg h9, decide_eq_false h9]; rfl)
  refine Ks ?_
  refine Rs 1 fun Q' K hK => ?_
  refine M0 fun K' J ρ => ?_; go_simp;
  refine Ln hE J fun _ Eb => ?_; clear J K' hE a
  refine Ld [0, 7, 8, 9] Eb hK fun a hE => ?_; clear hK K Q' Eb
  refine Ks ?_
  refine loop_st (fun (j : Nat) a w' => j ≤ k ∧ Fits 50 [(0, .string s), (7, .bool (innerTo s.data.toList k j)), (8, .int .i64 k), (9, .int .i64 j)] a ∧ Below w.heap.size w w') (fun j => k - j) 0 ?_ (fun j a w' hI => ?_)
  ·exact ⟨Nat.zero_le _, by simpa using hE, hB⟩
  clear hE hB
  obtain ⟨hj, hE, hB⟩ := hI
  obtain ⟨wi, hwi⟩ : ∃ x, x = w' := ⟨_, rfl⟩
  subst hwi
  obtain ⟨g, hg⟩ : ∃ g, innerTo s.data.toList k j = g := ⟨_, rfl⟩
  rw [hg] at hE
  have HG := hid hg
  clear hg
  refine Ks ?_
  refine Rs 6 fun Q' K hK => ?_
  refine M1 hE 7 fun K' J ρ q7 => ?_; go_simp
  refine Ln hE J fun _ Eb => ?_; clear J K' hE a q7
  refine M1 Eb 34 fun K' J ρ q34 => ?_; go_simp
  refine Ln Eb J fun _ Ea => ?_; clear J K' Eb q34
  refine Lm Ea 36 35 ?_ (fun hx K' J => ?_) (fun _ Eb => ?_); rotate_left 1
  ·have hx0 := hx; (try simp only [beq_iff_eq, Bool.and_eq_true, Bool.beq_true, Bool.beq_false, Bool.not_eq_true', beq_eq_false_iff_ne] at hx); have r9 := Ea.at 9 rfl; clear hx0
   refine o1 r9 fun ρ q9 => ?_; go_simp;
   refine put_eq J ?_; rfl
  clear Ea
  refine Lm Eb 37 35 ?_ (fun hx K' J => ?_) (fun _ Ea => ?_); rotate_left 1
  ·have hx0 := hx; (try simp only [beq_iff_eq, Bool.and_eq_true, Bool.beq_true, Bool.beq_false, Bool.not_eq_true', beq_eq_false_iff_ne] at hx); have r8 := Eb.at 8 rfl; clear hx0
   refine o1 r8 fun ρ q8 => ?_; go_simp;
   refine put_eq J ?_; rfl
  clear Eb
  refine Lm Ea 38 35 ?_ (fun hx K' J => ?_) (fun _ Eb => ?_); rotate_left 1
  ·have hx0 := hx; (try simp only [beq_iff_eq, Bool.and_eq_true, Bool.beq_true, Bool.beq_false, Bool.not_eq_true', beq_eq_false_iff_ne] at hx); have r36 := Ea.at 36 rfl; have r37 := Ea.at 37 rfl; (try simp only [hx0, may_true] at r36); (try simp only [hx0, may_true] at r37); clear hx0
   refine o2 r36 r37 fun ρ q36 q37 => ?_; go_simp; (try go_bits);
   refine put_eq J ?_; rfl
  clear Ea
  refine M2 Eb 35 38 fun K' J ρ q35 q38 => ?_; go_simp; (try go_bits)
  refine Ln Eb J fun _ Ea => ?_; clear J K' Eb q35 q38
  refine Ld [0, 7, 8, 9, 39] Ea hK fun a hE => ?_; clear hK K Q' Ea
  refine Ks ?_
  refine cond_part hE (t := 39) rfl (fun h => ?_) (fun h => ?_)
  ·have hb : g = true ∧ j < k := by simpa using h
   obtain ⟨hgt, hjk⟩ := hb
   clear h
   have hjs : j < s.size := by omega
   have hjI : (j : Int) < s.size := by omega
   have hbj := byte_at s j hjs
   have HBj := hid hbj
   clear hbj
   refine Ks ?_
   refine Rd [] (fun wt => Below wi.heap.size wi wt) (fun w1 w2 => Below w1.heap.size w1 w2) [(0, some 42), (1, some 43), (2, some 44), (3, some 45), (4, some 46), (5, some 47), (6, some 48), (7, some 7)] [42, 43, 44, 45, 46, 47, 48, 7] #[true, true, true, true, true, true, true, true] [0, 8, 9] hE ((Below.refl _ _).drew) fun Q' K hK => ?_
   refine SeqOps.val ?_ (Sp fun ax wx hS hT' hd K' J => ?_) ?_; rotate_left 1
   ·have r0 := hS.at 0 (by decide) (hE.at 0 rfl); obtain ⟨_, _, _, _, _, _⟩ := bT hT'
    refine o1 r0 fun ρ q0 => ?_; go_simp;
    exact Jo J hT'
   refine SeqOps.val ?_ (Sp fun ax wx hS hT' hd K' J => ?_) ?_; rotate_left 1
   ·have r9 := hS.at 9 (by decide) (hE.at 9 rfl); obtain ⟨_, _, _, _, _, _⟩ := bT hT'
    refine o1 r9 fun ρ q9 => ?_; go_simp;
    exact Jo J hT'
   refine SeqOps.val ?_ (Sp fun ax wx hS hT' hd K' J => ?_) ?_; rotate_left 1
   ·have r42 := Tv hd 1 0 42; have r43 := Tv hd 0 1 43; obtain ⟨_, _, _, _, _, _⟩ := bT hT'
    refine o2 r42 r43 fun ρ q42 q43 => ?_; go_simp; (try go_bits);
    exact Jo J hT'
   refine SeqOps.val ?_ (Sp fun ax wx hS hT' hd K' J => ?_) ?_; rotate_left 1
   ·have r0 := hS.at 0 (by decide) (hE.at 0 rfl); obtain ⟨_, _, _, _, _, _⟩ := bT hT'
    refine o1 r0 fun ρ q0 => ?_; go_simp;
    exact Jo J hT'
   refine SeqOps.val ?_ (Sp fun ax wx hS hT' hd K' J => ?_) ?_; rotate_left 1
   ·have r8 := hS.at 8 (by decide) (hE.at 8 rfl); obtain ⟨_, _, _, _, _, _⟩ := bT hT'
    refine o1 r8 fun ρ q8 => ?_; go_simp;
    exact Jo J hT'
   refine SeqOps.val ?_ (Sp fun ax wx hS hT' hd K' J => ?_) ?_; rotate_left 1
   ·have r45 := Tv hd 1 3 45; have r46 := Tv hd 0 4 46; obtain ⟨_, _, _, _, _, _⟩ := bT hT'
    refine o2 r45 r46 fun ρ q45 q46 => ?_; go_simp; (try go_bits);
    exact Jo J hT'
   refine SeqOps.val ?_ (Sp fun ax wx hS hT' hd K' J => ?_) ?_; rotate_left 1
   ·have r44 := Tv hd 3 2 44; have r47 := Tv hd 0 5 47; obtain ⟨_, _, _, _, _, _⟩ := bT hT'
    refine o2 r44 r47 fun ρ q44 q47 => ?_; go_simp; (try go_bits);
    exact Jo J hT'
   refine SeqOps.val ?_ (Sp fun ax wx hS hT' hd K' J => ?_) ?_; rotate_left 1
   ·have r48 := Tv hd 0 6 48; obtain ⟨_, _, _, _, _, _⟩ := bT hT'
    refine o1 r48 fun ρ q48 => ?_; go_simp;
    exact Jo J hT'
   refine SeqOps.nil ?_
   intro wj hBl; (repeat refine Ek ?_)
   refine fun ax hEx => ?_
   simp only [lk, pick, Nat.reduceEqDiff, ↓reduceIte] at hEx
   refine Ld [0, 7, 8, 9] hEx hK fun a hE => ?_; clear hK K Q' hEx
   replace hE := hE.turn 7 (v' := .bool (innerTo s.data.toList k (j + 1))) rfl (by
    rw [innerTo_succ, HG.out, hgt, Bool.true_and, HBj.out, HBk.out]
    congr 1; rw [Bool.eq_iff_iff]; simp [← UInt8.toNat_inj]; omega)
   have hBj := hB.trans (hBl.mono hB.size)
   refine Ks ?_
   refine Rs 3 fun Q' K hK => ?_
   refine M1 hE 9 fun K' J ρ q9 => ?_; go_simp
   refine Ln hE J fun _ Eb => ?_; clear J K' hE a q9
   refine M1 Eb 40 fun K' J ρ q40 => ?_; go_simp; (try go_bits); (try simp (disch := omega) only [IntWalk.i64_in])
   refine Ln Eb J fun _ Ea => ?_; clear J K' Eb q40
   refine M1 Ea 41 fun K' J ρ q41 => ?_; go_simp
   refine Ln Ea J fun _ Eb => ?_; clear J K' Ea q41
   refine Ld [0, 7, 8, 9] Eb hK fun a hE => ?_; clear hK K Q' Eb
   refine Ks ?_
   exact ⟨j + 1, ⟨hjk, by simpa using hE, hBj⟩, by omega⟩
  ·have hnew : newB s.data.toList k = g := by
    rw [newB_inner _ _ (by rw [HL.out]; omega)]
    cases hgv : g with
    | false => exact innerTo_false _ _ (HG.out.trans hgv) hj
    | true =>
     rw [hgv] at h
     have h' : ¬ j < k := by simpa using h
     obtain rfl : j = k := by omega
     exact HG.out.trans hgv
   have hout : outerTo s.data.toList q (k + 1) = g := by rw [outerTo_succ, HF.out, hft, Bool.true_and, hnew]
   have HO := hid hout
   clear hnew hout h
   refine Ks ?_
   refine Rs 3 fun Q' K hK => ?_
   refine M1 hE 8 fun K' J ρ q8 => ?_; go_simp
   refine Ln hE J fun _ Eb => ?_; clear J K' hE a q8
   refine M1 Eb 22 fun K' J ρ q22 => ?_; go_simp; (try go_bits); (try simp (disch := omega) only [IntWalk.i64_in])
   refine Ln Eb J fun _ Ea => ?_; clear J K' Eb q22
   refine M1 Ea 23 fun K' J ρ q23 => ?_; go_simp
   refine Ln Ea J fun _ Eb => ?_; clear J K' Ea q23
   refine Ld [0, 7, 8] Eb hK fun a hE => ?_; clear hK K Q' Eb
   refine Ks ?_
   refine ⟨k + 1, ⟨hlt, ?_, hB⟩, by omega⟩
   rw [HO.out]
   simpa using hE
 ·have hnm : outerTo s.data.toList q s.data.toList.length = f := by
   cases hfv : f with
   | false => exact outerTo_false _ _ (HF.out.trans hfv) (by rw [HL.out]; exact hk)
   | true =>
    rw [hfv] at h
    have h' : ¬ k < s.size := by simpa using h
    have hk2 : k = s.data.toList.length := by rw [HL.out]; omega
    have := HF.out
    rw [hfv, hk2] at this
    exact this
  have HM := hid hnm
  clear hnm h
  refine Ks ?_
  refine Rs 2 fun Q' K hK => ?_
  refine M1 hE 7 fun K' J ρ q7 => ?_; go_simp
  refine Ln hE J fun _ Eb => ?_; clear J K' hE a q7
  refine M1 Eb 49 fun K' J ρ q49 => ?_; go_simp
  refine Ln Eb J fun _ Ea => ?_; clear J K' Eb q49
  refine Ld [6] Ea hK fun a hE => ?_; clear hK K Q' Ea
  refine Ks ?_
  refine ret_one hE rfl rfl ⟨ret_bool ?_, hB⟩
  unfold lettersR lettersB
  rw [HQ.out, ← HM.out]; rfl
end Go.Proofs.YtbimkcjdodgojaaGreat
