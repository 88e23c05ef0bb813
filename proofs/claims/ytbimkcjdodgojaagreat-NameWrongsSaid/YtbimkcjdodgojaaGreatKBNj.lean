/- Name: books. -/
import Derived.Test.YtbimkcjdodgojaaGreatKBNh

namespace Go.Proofs.YtbimkcjdodgojaaGreat
set_option linter.unusedSimpArgs false
set_option linter.unusedVariables false
open Go.RowKit
attribute [local go_sem high] cell_set_wr
attribute [local go_sem low] cell_wr frozen_wr
attribute [local go_sem] wr_set wr_drew wr_drewN wr_alloc wr_new Rho.c Rho.n Rho.g
/-- how many letters two names are heard apart, and the error -/
def pNearR (e : Ear) (s t : ByteArray) : Int × Int :=
 if e.ok then (if nameB s.data.toList && nameB t.data.toList then (if (apR e.alike e.slips (keptL e.mute s.data.toList) (keptL e.mute t.data.toList)).2 then ((apR e.alike e.slips (keptL e.mute s.data.toList) (keptL e.mute t.data.toList)).1, 0) else (0, 4)) else (0, 21)) else (0, 20)
set_option maxRecDepth 100000 in
set_option maxHeartbeats 2000000 in
theorem pNear_any (A : Option Addr) (cap : Nat) (l : List ByteArray) (m : ByteArray) (sl : Int) (s t : ByteArray) (w : World) (hA : Arr w w.heap.size A (txts l)) (hcap : l.length ≤ cap) (hl : l.length ≤ 9223372036854775807) (hm : m.size ≤ 9223372036854775807) (hs : s.size ≤ 9223372036854775807) (ht : t.size ≤ 9223372036854775807) : Calls Tryz.prog 45 #[.agg #[.slice A l.length cap, .string m, .int .i64 sl], .string s, .string t] w fun e w' => e = .returned (.tuple #[.int .i64 (pNearR ⟨l, m, sl⟩ s t).1, .int .i64 (pNearR ⟨l, m, sl⟩ s t).2]) ∧ Below w.heap.size w w' := by
 refine enterE Tryz.func45 rfl Tryz.ntmps45 (by simp) (fun a hE => ?_); simp only [envOf, Nat.zero_add, Nat.reduceAdd] at hE
 refine Ks ?_
 refine Rs 3 fun Q' K hK => ?_
 refine M1 hE 0 fun K' J ρ q0 => ?_; go_simp
 refine Ln hE J fun _ Eb => ?_; clear J K' hE a q0
 refine M0 fun K' J ρ => ?_; go_simp;
 refine Ln Eb J fun _ Ea => ?_; clear J K' Eb
 refine M0 fun K' J ρ => ?_; go_simp;
 refine Ln Ea J fun _ Eb => ?_; clear J K' Ea
 refine Ld [1, 2, 3] Eb hK fun a hE => ?_; clear hK K Q' Eb
 obtain ⟨B, hBe⟩ : ∃ B, B = w.heap.size := ⟨_, rfl⟩; rw [← hBe] at hE; refine world_cut (fun wt => Below w.heap.size w wt ∧ Cells wt B [.slice A l.length cap, .string m, .int .i64 sl]) ⟨(Below.refl _ _).alloc (Nat.le_refl _) _, by rw [hBe]; exact cells_new _ _ _⟩ (fun w1 hCut => ?_); obtain ⟨hbw1, hCB⟩ := hCut; clear hBe
 refine Ks ?_
 obtain ⟨nB, cB0, cB1, cB2⟩ := hCB.c3
 have hA1 := (hA.below hbw1).more hbw1.size
 obtain ⟨q, hq⟩ : ∃ q, Ear.ok ⟨l, m, sl⟩ = q := ⟨_, rfl⟩
 have HQ := hid hq
 clear hq
 refine Rs 3 fun Q' K hK => ?_
 refine M1 hE 3 fun K' J ρ q3 => ?_; go_simp
 refine Ln hE J fun _ Eb => ?_; clear J K' hE a q3
 refine M1 Eb 11 fun K' J ρ q11 => ?_; go_simp; (try go_bits); (try clear q11)
 go_at_call 32; refine (pCheckEar_any A cap l m sl _ hA1 hcap hl hm).mono ?_; rintro e w2 ⟨rfl, h2⟩
 (try clear r11)
 refine Ln Eb J fun _ Ea => ?_; clear J K' Eb
 refine M1 Ea 12 fun K' J ρ q12 => ?_; go_simp
 refine Ln Ea J fun _ Eb => ?_; clear J K' Ea q12
 refine Ld [1, 2, 3, 8] Eb hK fun a hE => ?_; clear hK K Q' Eb
 have hb2 := hbw1.trans (h2.mono hbw1.size)
 refine Ks ?_
 refine Rs 2 fun Q' K hK => ?_
 refine M1 hE 8 fun K' J ρ q8 => ?_; go_simp
 refine Ln hE J fun _ Eb => ?_; clear J K' hE a q8
 refine M1 Eb 13 fun K' J ρ q13 => ?_; go_simp; (try go_bits)
 refine Ln Eb J fun _ Ea => ?_; clear J K' Eb q13
 refine Ld [1, 2, 3, 8, 14] Ea hK fun a hE => ?_; clear hK K Q' Ea
 have hE20 : earE ⟨l, m, sl⟩ = if q then 0 else 20 := by unfold earE; rw [HQ.out]
 replace hE := hE.turn 14 (v' := .bool (!q)) rfl (by rw [hE20]; cases q <;> rfl)
 refine Ks ?_
 refine cond_part hE (t := 14) rfl (fun h => ?_) (fun h => ?_)
 ·have hq0 : q = false := by simpa using h
  refine Ks ?_
  refine Rs 3 fun Q' K hK => ?_
  refine M1 hE 8 fun K' J ρ q8 => ?_; go_simp
  refine Ln hE J fun _ Eb => ?_; clear J K' hE a q8
  refine M0 fun K' J ρ => ?_; go_simp;
  refine Ln Eb J fun _ Ea => ?_; clear J K' Eb
  refine M1 Ea 15 fun K' J ρ q15 => ?_; go_simp
  refine Ln Ea J fun _ Eb => ?_; clear J K' Ea q15
  refine Ld [6, 7] Eb hK fun a hE => ?_; clear hK K Q' Eb
  refine Ks ?_
  refine ret_two hE rfl rfl rfl ⟨?_, hb2⟩
  unfold pNearR
  rw [HQ.out, hq0]; rfl
 ·have hq1 : q = true := by simpa using h
  clear h
  obtain ⟨n1, hn1⟩ : ∃ n, nameB s.data.toList = n := ⟨_, rfl⟩
  obtain ⟨n2, hn2⟩ : ∃ n, nameB t.data.toList = n := ⟨_, rfl⟩
  have HN1 := hid hn1
  have HN2 := hid hn2
  clear hn1 hn2 hE20
  refine Ks ?_
  refine Rs 8 fun Q' K hK => ?_
  refine M1 hE 1 fun K' J ρ q1 => ?_; go_simp
  refine Ln hE J fun _ Eb => ?_; clear J K' hE a q1
  refine M1 Eb 16 fun K' J ρ q16 => ?_; go_simp; (try go_bits); (try clear q16)
  go_at_call 70; refine (isName_any s _ hs).mono ?_; rw [HN1.out]; rintro e w3 ⟨rfl, rfl⟩
  (try clear r16)
  refine Ln Eb J fun _ Ea => ?_; clear J K' Eb
  refine M1 Ea 17 fun K' J ρ q17 => ?_; go_simp; (try go_bits); (try simp (disch := omega) only [IntWalk.i64_in])
  refine Ln Ea J fun _ Eb => ?_; clear J K' Ea q17
  refine M1 Eb 18 fun K' J ρ q18 => ?_; go_simp
  refine Ln Eb J fun _ Ea => ?_; clear J K' Eb q18
  refine Lm Ea 20 19 ?_ (fun hx K' J => ?_) (fun _ Eb => ?_); rotate_left 1
  ·have hx0 := hx; (try simp only [beq_iff_eq, Bool.and_eq_true, Bool.beq_true, Bool.beq_false, Bool.not_eq_true', beq_eq_false_iff_ne] at hx); have r2 := Ea.at 2 rfl; clear hx0
   refine o1 r2 fun ρ q2 => ?_; go_simp;
   refine put_eq J ?_; rfl
  clear Ea
  refine Lm Eb 21 19 ?_ (fun hx K' J => ?_) (fun _ Ea => ?_); rotate_left 1
  ·have hx0 := hx; (try simp only [beq_iff_eq, Bool.and_eq_true, Bool.beq_true, Bool.beq_false, Bool.not_eq_true', beq_eq_false_iff_ne] at hx); have r20 := Eb.at 20 rfl; (try simp only [hx0, may_true] at r20); clear hx0
   refine o1 r20 fun ρ q20 => ?_; go_simp; (try go_bits);
   go_at_call 70; refine (isName_any t _ ht).mono ?_; rw [HN2.out]; rintro e w3 ⟨rfl, rfl⟩; refine put_eq J ?_; rfl
  clear Eb
  refine Lm Ea 22 19 ?_ (fun hx K' J => ?_) (fun _ Eb => ?_); rotate_left 1
  ·have hx0 := hx; (try simp only [beq_iff_eq, Bool.and_eq_true, Bool.beq_true, Bool.beq_false, Bool.not_eq_true', beq_eq_false_iff_ne] at hx); have r21 := Ea.at 21 rfl; (try simp only [hx0, may_true] at r21); clear hx0
   refine o1 r21 fun ρ q21 => ?_; go_simp; (try go_bits); (try simp (disch := omega) only [IntWalk.i64_in]);
   refine put_eq J ?_; rfl
  clear Ea
  refine M2 Eb 19 22 fun K' J ρ q19 q22 => ?_; go_simp; (try go_bits)
  refine Ln Eb J fun _ Ea => ?_; clear J K' Eb q19 q22
  replace Ea := Ea.turn 23 (v' := .bool (!(n1 && n2))) rfl (by (cases n1 <;> simp))
  refine Ld [1, 2, 3, 23] Ea hK fun a hE => ?_; clear hK K Q' Ea
  refine Ks ?_
  refine cond_part hE (t := 23) rfl (fun h => ?_) (fun h => ?_)
  ·refine Ks ?_
   refine Rs 2 fun Q' K hK => ?_
   refine M0 fun K' J ρ => ?_; go_simp;
   refine Ln hE J fun _ Eb => ?_; clear J K' hE a
   refine M0 fun K' J ρ => ?_; go_simp;
   refine Ln Eb J fun _ Ea => ?_; clear J K' Eb
   refine Ld [6, 7] Ea hK fun a hE => ?_; clear hK K Q' Ea
   refine Ks ?_
   refine ret_two hE rfl rfl rfl ⟨?_, hb2⟩
   have hn : (n1 && n2) = false := by revert h; cases n1 <;> cases n2 <;> decide
   unfold pNearR
   rw [HQ.out, hq1, HN1.out, HN2.out, hn]; rfl
  ·have hn : (n1 && n2) = true := by revert h; cases n1 <;> cases n2 <;> decide
   clear h
   have hC2 := hCB.below h2
   have n2' := hC2.1
   have d0 := hC2.2 0 _ rfl
   have d1 := hC2.2 1 _ rfl
   have d2 := hC2.2 2 _ rfl
   clear hC2 nB cB0 cB1 cB2
   have hA2 := (hA1.below h2).more h2.size
   obtain ⟨r, hr⟩ : ∃ r, apR l sl (keptL m s.data.toList) (keptL m t.data.toList) = r := ⟨_, rfl⟩
   have HR := hid hr
   clear hr
   have hap := apart_any A cap l m sl s t w2 hA2 hl hs ht
   rw [HR.out] at hap
   have HAP := hid hap
   clear hap
   refine Ks ?_
   refine Rs 10 fun Q' K hK => ?_
   refine M1 hE 3 fun K' J ρ q3 => ?_; go_simp
   refine Ln hE J fun _ Eb => ?_; clear J K' hE a q3
   refine M1 Eb 25 fun K' J ρ q25 => ?_; go_simp
   refine Ln Eb J fun _ Ea => ?_; clear J K' Eb q25
   refine M1 Ea 1 fun K' J ρ q1 => ?_; go_simp
   refine Ln Ea J fun _ Eb => ?_; clear J K' Ea q1
   refine M1 Eb 2 fun K' J ρ q2 => ?_; go_simp
   refine Ln Eb J fun _ Ea => ?_; clear J K' Eb q2
   refine M3 Ea 26 27 28 fun K' J ρ q26 q27 q28 => ?_; go_simp; (try go_bits); (try clear q26 q27 q28)
   go_at_call 78; refine (HAP.out).mono ?_; rintro e w3 ⟨rfl, h3⟩
   (try clear r26 r27 r28)
   refine Ln Ea J fun _ Eb => ?_; clear J K' Ea
   refine M1 Eb 29 fun K' J ρ q29 => ?_; go_simp
   refine Ln Eb J fun _ Ea => ?_; clear J K' Eb q29
   refine M1 Ea 24 fun K' J ρ q24 => ?_; go_simp
   refine Ln Ea J fun _ Eb => ?_; clear J K' Ea q24
   refine M1 Eb 24 fun K' J ρ q24 => ?_; go_simp
   refine Ln Eb J fun _ Ea => ?_; clear J K' Eb q24
   refine M1 Ea 30 fun K' J ρ q30 => ?_; go_simp
   refine Ln Ea J fun _ Eb => ?_; clear J K' Ea q30
   refine M1 Eb 31 fun K' J ρ q31 => ?_; go_simp
   refine Ln Eb J fun _ Ea => ?_; clear J K' Eb q31
   refine Ld [9, 10] Ea hK fun a hE => ?_; clear hK K Q' Ea
   have hb3 := hb2.trans (h3.mono hb2.size)
   have hR : pNearR ⟨l, m, sl⟩ s t = if r.2 then (r.1, 0) else (0, 4) := by
    unfold pNearR
    rw [HQ.out, hq1, HN1.out, HN2.out, hn]
    simp only [HR.out, if_true]
   refine Ks ?_
   refine Rs 2 fun Q' K hK => ?_
   refine M1 hE 10 fun K' J ρ q10 => ?_; go_simp
   refine Ln hE J fun _ Eb => ?_; clear J K' hE a q10
   refine M1 Eb 32 fun K' J ρ q32 => ?_; go_simp; (try go_bits); (try simp (disch := omega) only [IntWalk.i64_in])
   refine Ln Eb J fun _ Ea => ?_; clear J K' Eb q32
   refine Ld [9, 33] Ea hK fun a hE => ?_; clear hK K Q' Ea
   refine Ks ?_
   refine cond_part hE (t := 33) rfl (fun h => ?_) (fun h => ?_)
   ·have h2 : r.2 = false := by simpa using h
    refine Ks ?_
    refine Rs 2 fun Q' K hK => ?_
    refine M0 fun K' J ρ => ?_; go_simp;
    refine Ln hE J fun _ Eb => ?_; clear J K' hE a
    refine M0 fun K' J ρ => ?_; go_simp;
    refine Ln Eb J fun _ Ea => ?_; clear J K' Eb
    refine Ld [6, 7] Ea hK fun a hE => ?_; clear hK K Q' Ea
    refine Ks ?_
    refine ret_two hE rfl rfl rfl ⟨?_, hb3⟩
    rw [hR, h2]; rfl
   ·have h2 : r.2 = true := by simpa using h
    refine Ks ?_
    refine Rs 3 fun Q' K hK => ?_
    refine M1 hE 9 fun K' J ρ q9 => ?_; go_simp
    refine Ln hE J fun _ Eb => ?_; clear J K' hE a q9
    refine M1 Eb 34 fun K' J ρ q34 => ?_; go_simp
    refine Ln Eb J fun _ Ea => ?_; clear J K' Eb q34
    refine M0 fun K' J ρ => ?_; go_simp;
    refine Ln Ea J fun _ Eb => ?_; clear J K' Ea
    refine Ld [6, 7] Eb hK fun a hE => ?_; clear hK K Q' Eb
    refine Ks ?_
    refine ret_two hE rfl rfl rfl ⟨?_, hb3⟩
    rw [hR, h2]; rfl
structure NLn where
 book : Int
 minute : Int
 heard : ByteArray
structure Bk where
 ear : Ear
 lines : List NLn
 lo : Int
 hi : Int
 lost : Int
def NLn.cells (x : NLn) : List Value := [.int .i64 x.book, .int .i64 x.minute, .string x.heard]
def NLn.val (x : NLn) : Value := .agg #[.int .i64 x.book, .int .i64 x.minute, .string x.heard]
def nlines (l : List NLn) : List Value := l.flatMap NLn.cells
def lineB (x : NLn) : Bool := ((decide (0 ≤ x.book) && decide (x.book ≤ 1)) && (decide (0 ≤ x.minute) && decide (x.minute ≤ 1439))) && nameB x.heard.data.toList
def wayB (lo hi : Int) : Bool := (decide (0 ≤ lo) && decide (lo ≤ hi)) && decide (hi ≤ 1439)
theorem Arr.nl {w : World} {B : Nat} {A : Option Addr} {l : List NLn} (h : Arr w B A (nlines l)) {k : Nat} (hk : k < l.length) :
    ∃ b o, A = some ⟨b, o, none⟩ ∧ b < B ∧ w.cell? ⟨b, o + k * 3, none⟩ = some (.int .i64 l[k].book) ∧ w.cell? ⟨b, o + k * 3 + 1, none⟩ = some (.int .i64 l[k].minute) ∧
     w.cell? ⟨b, o + k * 3 + 2, none⟩ = some (.string l[k].heard) := by
 obtain ⟨b, o, hA, hlt, hc⟩ := Arr.elem (f := NLn.cells) (m := 3) (fun _ => rfl) (by omega) h hk
 exact ⟨b, o, hA, hlt, hc 0 _ (by omega) rfl, hc 1 _ (by omega) rfl, hc 2 _ (by omega) rfl⟩
set_option maxRecDepth 100000 in
theorem isLine_any (x : NLn) (w : World) (hs : x.heard.size ≤ 9223372036854775807) : Calls Tryz.prog 35 #[x.val] w fun e w' => e = .returned (.bool (lineB x)) ∧ Below w.heap.size w w' := by
 obtain ⟨b, m, s⟩ := x
 unfold NLn.val
 refine enterE Tryz.func35 rfl Tryz.ntmps35 (by simp) (fun a hE => ?_); simp only [envOf, Nat.zero_add, Nat.reduceAdd] at hE
 refine Ks ?_
 refine Rs 2 fun Q' K hK => ?_
 refine M1 hE 0 fun K' J ρ q0 => ?_; go_simp
 refine Ln hE J fun _ Eb => ?_; clear J K' hE a q0
 refine M0 fun K' J ρ => ?_; go_simp;
 refine Ln Eb J fun _ Ea => ?_; clear J K' Eb
 refine Ld [1] Ea hK fun a hE => ?_; clear hK K Q' Ea
 obtain ⟨B, hBe⟩ : ∃ B, B = w.heap.size := ⟨_, rfl⟩; rw [← hBe] at hE; refine world_cut (fun wt => Below w.heap.size w wt ∧ Cells wt B [.int .i64 b, .int .i64 m, .string s]) ⟨(Below.refl _ _).alloc (Nat.le_refl _) _, by rw [hBe]; exact cells_new _ _ _⟩ (fun w1 hCut => ?_); obtain ⟨hbw1, hCB⟩ := hCut; clear hBe
 refine Ks ?_
 obtain ⟨nB, cB0, cB1, cB2⟩ := hCB.c3
 obtain ⟨q1, hq1⟩ : ∃ q, (decide (0 ≤ b) && decide (b ≤ 1)) = q := ⟨_, rfl⟩
 obtain ⟨q2, hq2⟩ : ∃ q, (decide (0 ≤ m) && decide (m ≤ 1439)) = q := ⟨_, rfl⟩
 have H1 := hid hq1
 have H2 := hid hq2
 clear hq1 hq2
 refine Rs 14 fun Q' K hK => ?_
 refine M1 hE 1 fun K' J ρ q1 => ?_; go_simp
 refine Ln hE J fun _ Eb => ?_; clear J K' hE a q1
 refine M1 Eb 3 fun K' J ρ q3 => ?_; go_simp
 refine Ln Eb J fun _ Ea => ?_; clear J K' Eb q3
 refine M1 Ea 4 fun K' J ρ q4 => ?_; go_simp; (try go_bits); (try clear q4)
 go_at_call 34; refine (within_any _ _ _ _).mono ?_; rw [H1.out]; rintro e w3 ⟨rfl, rfl⟩
 (try clear r4)
 refine Ln Ea J fun _ Eb => ?_; clear J K' Ea
 refine M1 Eb 5 fun K' J ρ q5 => ?_; go_simp
 refine Ln Eb J fun _ Ea => ?_; clear J K' Eb q5
 refine Lm Ea 7 6 ?_ (fun hx K' J => ?_) (fun _ Eb => ?_); rotate_left 1
 ·have hx0 := hx; (try simp only [beq_iff_eq, Bool.and_eq_true, Bool.beq_true, Bool.beq_false, Bool.not_eq_true', beq_eq_false_iff_ne] at hx); have r1 := Ea.at 1 rfl; clear hx0
  refine o1 r1 fun ρ q1 => ?_; go_simp;
  refine put_eq J ?_; rfl
 clear Ea
 refine Lm Eb 8 6 ?_ (fun hx K' J => ?_) (fun _ Ea => ?_); rotate_left 1
 ·have hx0 := hx; (try simp only [beq_iff_eq, Bool.and_eq_true, Bool.beq_true, Bool.beq_false, Bool.not_eq_true', beq_eq_false_iff_ne] at hx); have r7 := Eb.at 7 rfl; (try simp only [hx0, may_true] at r7); clear hx0
  refine o1 r7 fun ρ q7 => ?_; go_simp;
  refine put_eq J ?_; rfl
 clear Eb
 refine Lm Ea 9 6 ?_ (fun hx K' J => ?_) (fun _ Eb => ?_); rotate_left 1
 ·have hx0 := hx; (try simp only [beq_iff_eq, Bool.and_eq_true, Bool.beq_true, Bool.beq_false, Bool.not_eq_true', beq_eq_false_iff_ne] at hx); have r8 := Ea.at 8 rfl; (try simp only [hx0, may_true] at r8); clear hx0
  refine o1 r8 fun ρ q8 => ?_; go_simp; (try go_bits);
  go_at_call 34; refine (within_any _ _ _ _).mono ?_; rw [H2.out]; rintro e w3 ⟨rfl, rfl⟩; refine put_eq J ?_; rfl
 clear Ea
 refine M2 Eb 6 9 fun K' J ρ q6 q9 => ?_; go_simp; (try go_bits)
 refine Ln Eb J fun _ Ea => ?_; clear J K' Eb q6 q9
 replace Ea := Ea.turn 10 (v' := .bool (q1 && q2)) rfl (by (cases q1 <;> simp))
 refine M1 Ea 10 fun K' J ρ q10 => ?_; go_simp
 refine Ln Ea J fun _ Eb => ?_; clear J K' Ea q10
 refine Lm Eb 12 11 ?_ (fun hx K' J => ?_) (fun _ Ea => ?_); rotate_left 1
 ·have hx0 := hx; (try simp only [beq_iff_eq, Bool.and_eq_true, Bool.beq_true, Bool.beq_false, Bool.not_eq_true', beq_eq_false_iff_ne] at hx); have r1 := Eb.at 1 rfl; clear hx0
  refine o1 r1 fun ρ q1 => ?_; go_simp;
  refine put_eq J ?_; rfl
 clear Eb
 refine Lm Ea 13 11 ?_ (fun hx K' J => ?_) (fun _ Eb => ?_); rotate_left 1
 ·have hx0 := hx; (try simp only [beq_iff_eq, Bool.and_eq_true, Bool.beq_true, Bool.beq_false, Bool.not_eq_true', beq_eq_false_iff_ne] at hx); have r12 := Ea.at 12 rfl; (try simp only [hx0, may_true] at r12); clear hx0
  refine o1 r12 fun ρ q12 => ?_; go_simp;
  refine put_eq J ?_; rfl
 clear Ea
 refine Lm Eb 14 11 ?_ (fun hx K' J => ?_) (fun _ Ea => ?_); rotate_left 1
 ·have hx0 := hx; (try simp only [beq_iff_eq, Bool.and_eq_true, Bool.beq_true, Bool.beq_false, Bool.not_eq_true', beq_eq_false_iff_ne] at hx); have r13 := Eb.at 13 rfl; (try simp only [hx0, may_true] at r13); clear hx0
  refine o1 r13 fun ρ q13 => ?_; go_simp; (try go_bits);
  go_at_call 70; refine (isName_any s _ hs).mono ?_; rintro e w3 ⟨rfl, rfl⟩; refine put_eq J ?_; rfl
 clear Eb
 refine M2 Ea 11 14 fun K' J ρ q11 q14 => ?_; go_simp; (try go_bits)
 refine Ln Ea J fun _ Eb => ?_; clear J K' Ea q11 q14
 refine M1 Eb 15 fun K' J ρ q15 => ?_; go_simp
 refine Ln Eb J fun _ Ea => ?_; clear J K' Eb q15
 replace Ea := Ea.turn 2 (v' := .bool ((q1 && q2) && nameB s.data.toList)) rfl (by (cases q1 <;> cases q2 <;> simp))
 refine Ld [2] Ea hK fun a hE => ?_; clear hK K Q' Ea
 refine Ks ?_
 refine ret_one hE rfl rfl ⟨ret_bool ?_, hbw1⟩
 unfold lineB
 rw [H1.out, H2.out]
set_option maxRecDepth 100000 in
theorem isWay_any (lo hi : Int) (w : World) : Calls Tryz.prog 33 #[.agg #[.int .i64 lo, .int .i64 hi]] w fun e w' => e = .returned (.bool (wayB lo hi)) ∧ Below w.heap.size w w' := by
 refine enterE Tryz.func33 rfl Tryz.ntmps33 (by simp) (fun a hE => ?_); simp only [envOf, Nat.zero_add, Nat.reduceAdd] at hE
 refine Ks ?_
 refine Rs 2 fun Q' K hK => ?_
 refine M1 hE 0 fun K' J ρ q0 => ?_; go_simp
 refine Ln hE J fun _ Eb => ?_; clear J K' hE a q0
 refine M0 fun K' J ρ => ?_; go_simp;
 refine Ln Eb J fun _ Ea => ?_; clear J K' Eb
 refine Ld [1] Ea hK fun a hE => ?_; clear hK K Q' Ea
 obtain ⟨B, hBe⟩ : ∃ B, B = w.heap.size := ⟨_, rfl⟩; rw [← hBe] at hE; refine world_cut (fun wt => Below w.heap.size w wt ∧ Cells wt B [.int .i64 lo, .int .i64 hi]) ⟨(Below.refl _ _).alloc (Nat.le_refl _) _, by rw [hBe]; exact cells_new _ _ _⟩ (fun w1 hCut => ?_); obtain ⟨hbw1, hCB⟩ := hCut; clear hBe
 refine Ks ?_
 obtain ⟨nB, cB0, cB1⟩ := hCB.c2
 refine Rs 16 fun Q' K hK => ?_
 refine M1 hE 1 fun K' J ρ q1 => ?_; go_simp
 refine Ln hE J fun _ Eb => ?_; clear J K' hE a q1
 refine M1 Eb 3 fun K' J ρ q3 => ?_; go_simp
 refine Ln Eb J fun _ Ea => ?_; clear J K' Eb q3
 refine M1 Ea 4 fun K' J ρ q4 => ?_; go_simp; (try go_bits)
 refine Ln Ea J fun _ Eb => ?_; clear J K' Ea q4
 refine M1 Eb 5 fun K' J ρ q5 => ?_; go_simp
 refine Ln Eb J fun _ Ea => ?_; clear J K' Eb q5
 refine Lm Ea 7 6 ?_ (fun hx K' J => ?_) (fun _ Eb => ?_); rotate_left 1
 ·have hx0 := hx; (try simp only [beq_iff_eq, Bool.and_eq_true, Bool.beq_true, Bool.beq_false, Bool.not_eq_true', beq_eq_false_iff_ne] at hx); have r1 := Ea.at 1 rfl; clear hx0
  refine o1 r1 fun ρ q1 => ?_; go_simp;
  refine put_eq J ?_; rfl
 clear Ea
 refine Lm Eb 8 6 ?_ (fun hx K' J => ?_) (fun _ Ea => ?_); rotate_left 1
 ·have hx0 := hx; (try simp only [beq_iff_eq, Bool.and_eq_true, Bool.beq_true, Bool.beq_false, Bool.not_eq_true', beq_eq_false_iff_ne] at hx); have r7 := Eb.at 7 rfl; (try simp only [hx0, may_true] at r7); clear hx0
  refine o1 r7 fun ρ q7 => ?_; go_simp;
  refine put_eq J ?_; rfl
 clear Eb
 refine Lm Ea 9 6 ?_ (fun hx K' J => ?_) (fun _ Eb => ?_); rotate_left 1
 ·have hx0 := hx; (try simp only [beq_iff_eq, Bool.and_eq_true, Bool.beq_true, Bool.beq_false, Bool.not_eq_true', beq_eq_false_iff_ne] at hx); have r1 := Ea.at 1 rfl; clear hx0
  refine o1 r1 fun ρ q1 => ?_; go_simp;
  refine put_eq J ?_; rfl
 clear Ea
 refine Lm Eb 10 6 ?_ (fun hx K' J => ?_) (fun _ Ea => ?_); rotate_left 1
 ·have hx0 := hx; (try simp only [beq_iff_eq, Bool.and_eq_true, Bool.beq_true, Bool.beq_false, Bool.not_eq_true', beq_eq_false_iff_ne] at hx); have r9 := Eb.at 9 rfl; (try simp only [hx0, may_true] at r9); clear hx0
  refine o1 r9 fun ρ q9 => ?_; go_simp;
  refine put_eq J ?_; rfl
 clear Eb
 refine Lm Ea 11 6 ?_ (fun hx K' J => ?_) (fun _ Eb => ?_); rotate_left 1
 ·have hx0 := hx; (try simp only [beq_iff_eq, Bool.and_eq_true, Bool.beq_true, Bool.beq_false, Bool.not_eq_true', beq_eq_false_iff_ne] at hx); have r8 := Ea.at 8 rfl; have r10 := Ea.at 10 rfl; (try simp only [hx0, may_true] at r8); (try simp only [hx0, may_true] at r10); clear hx0
  refine o2 r8 r10 fun ρ q8 q10 => ?_; go_simp; (try go_bits);
  refine put_eq J ?_; rfl
 clear Ea
 refine M2 Eb 6 11 fun K' J ρ q6 q11 => ?_; go_simp; (try go_bits)
 refine Ln Eb J fun _ Ea => ?_; clear J K' Eb q6 q11
 replace Ea := Ea.turn 12 (v' := .bool (decide (0 ≤ lo) && decide (lo ≤ hi))) rfl (by (by_cases h : 0 ≤ lo <;> simp [h]))
 refine M1 Ea 12 fun K' J ρ q12 => ?_; go_simp
 refine Ln Ea J fun _ Eb => ?_; clear J K' Ea q12
 refine Lm Eb 14 13 ?_ (fun hx K' J => ?_) (fun _ Ea => ?_); rotate_left 1
 ·have hx0 := hx; (try simp only [beq_iff_eq, Bool.and_eq_true, Bool.beq_true, Bool.beq_false, Bool.not_eq_true', beq_eq_false_iff_ne] at hx); have r1 := Eb.at 1 rfl; clear hx0
  refine o1 r1 fun ρ q1 => ?_; go_simp;
  refine put_eq J ?_; rfl
 clear Eb
 refine Lm Ea 15 13 ?_ (fun hx K' J => ?_) (fun _ Eb => ?_); rotate_left 1
 ·have hx0 := hx; (try simp only [beq_iff_eq, Bool.and_eq_true, Bool.beq_true, Bool.beq_false, Bool.not_eq_true', beq_eq_false_iff_ne] at hx); have r14 := Ea.at 14 rfl; (try simp only [hx0, may_true] at r14); clear hx0
  refine o1 r14 fun ρ q14 => ?_; go_simp;
  refine put_eq J ?_; rfl
 clear Ea
 refine Lm Eb 16 13 ?_ (fun hx K' J => ?_) (fun _ Ea => ?_); rotate_left 1
 ·have hx0 := hx; (try simp only [beq_iff_eq, Bool.and_eq_true, Bool.beq_true, Bool.beq_false, Bool.not_eq_true', beq_eq_false_iff_ne] at hx); have r15 := Eb.at 15 rfl; (try simp only [hx0, may_true] at r15); clear hx0
  refine o1 r15 fun ρ q15 => ?_; go_simp; (try go_bits);
  refine put_eq J ?_; rfl
 clear Eb
 refine M2 Ea 13 16 fun K' J ρ q13 q16 => ?_; go_simp; (try go_bits)
 refine Ln Ea J fun _ Eb => ?_; clear J K' Ea q13 q16
 refine M1 Eb 17 fun K' J ρ q17 => ?_; go_simp
 refine Ln Eb J fun _ Ea => ?_; clear J K' Eb q17
 replace Ea := Ea.turn 2 (v' := .bool (wayB lo hi)) rfl (by (unfold wayB; by_cases h : 0 ≤ lo <;> by_cases h' : lo ≤ hi <;> simp [h, h']))
 refine Ld [2] Ea hK fun a hE => ?_; clear hK K Q' Ea
 refine Ks ?_
 exact ret_one hE rfl rfl ⟨rfl, hbw1⟩
def bkV (A : Option Addr) (cap : Nat) (L : Option Addr) (lcap : Nat) (b : Bk) : List Value := [.slice A b.ear.alike.length cap, .string b.ear.mute, .int .i64 b.ear.slips, .slice L b.lines.length lcap, .int .i64 b.lo, .int .i64 b.hi, .int .i64 b.lost]
def Bk.small (b : Bk) (cap lcap : Nat) : Prop := b.ear.alike.length ≤ cap ∧ b.ear.alike.length ≤ 9223372036854775807 ∧ b.lines.length ≤ lcap ∧ b.lines.length ≤ 9223372036854775807 ∧ b.ear.mute.size ≤ 9223372036854775807 ∧ ∀ i (h : i < b.lines.length), b.lines[i].heard.size ≤ 9223372036854775807
def BkAt (w : World) (A L : Option Addr) (b : Bk) : Prop := Arr w w.heap.size A (txts b.ear.alike) ∧ Arr w w.heap.size L (nlines b.lines)
theorem BkAt.below {w w' : World} {A L : Option Addr} {b : Bk} (h : BkAt w A L b) (hb : Below w.heap.size w w') : BkAt w' A L b := ⟨(h.1.below hb).more hb.size, (h.2.below hb).more hb.size⟩
def headB (b : Bk) : Bool := (!decide ((9 : Int) < b.lines.length) && wayB b.lo b.hi) && (decide (0 ≤ b.lost) && decide (b.lost ≤ 9))
def Bk.ok (b : Bk) : Bool := b.ear.ok && (headB b && b.lines.all lineB)
def bkE (b : Bk) : Int := if b.ok then 0 else 20
set_option maxRecDepth 100000 in
set_option maxHeartbeats 2000000 in
theorem pCheck_any (A : Option Addr) (cap : Nat) (L : Option Addr) (lcap : Nat) (b : Bk) (w : World) (hM : BkAt w A L b) (hs : b.small cap lcap) : Calls Tryz.prog 8 #[.agg (bkV A cap L lcap b).toArray] w fun e w' => e = .returned (.int .i64 (bkE b)) ∧ Below w.heap.size w w' := by
 obtain ⟨ear, ls, lo, hi, lost⟩ := b
 obtain ⟨l, m, sl⟩ := ear
 obtain ⟨hA, hL⟩ := hM
 obtain ⟨s1, s2, s3, s4, s5, s6⟩ := hs
 simp only at hA hL s1 s2 s3 s4 s5
 have HS := hid s6
 clear s6
 simp only [bkV]
 refine enterE Tryz.func8 rfl Tryz.ntmps8 (by simp) (fun a hE => ?_); simp only [envOf, Nat.zero_add, Nat.reduceAdd] at hE
 refine Ks ?_
 refine Rs 2 fun Q' K hK => ?_
 refine M1 hE 0 fun K' J ρ q0 => ?_; go_simp
 refine Ln hE J fun _ Eb => ?_; clear J K' hE a q0
 refine M0 fun K' J ρ => ?_; go_simp;
 refine Ln Eb J fun _ Ea => ?_; clear J K' Eb
 refine Ld [1] Ea hK fun a hE => ?_; clear hK K Q' Ea
 obtain ⟨B, hBe⟩ : ∃ B, B = w.heap.size := ⟨_, rfl⟩; rw [← hBe] at hE; refine world_cut (fun wt => Below w.heap.size w wt ∧ Cells wt B [.slice A l.length cap, .string m, .int .i64 sl, .slice L ls.length lcap, .int .i64 lo, .int .i64 hi, .int .i64 lost]) ⟨(Below.refl _ _).alloc (Nat.le_refl _) _, by rw [hBe]; exact cells_new _ _ _⟩ (fun w1 hCut => ?_); obtain ⟨hbw1, hCB⟩ := hCut; clear hBe
 refine Ks ?_
 obtain ⟨nB, cB0, cB1, cB2⟩ := hCB.c3
 have hA1 := (hA.below hbw1).more hbw1.size
 obtain ⟨q, hq⟩ : ∃ q, Ear.ok ⟨l, m, sl⟩ = q := ⟨_, rfl⟩
 have HQ := hid hq
 clear hq
 refine Rs 4 fun Q' K hK => ?_
 refine M1 hE 1 fun K' J ρ q1 => ?_; go_simp
 refine Ln hE J fun _ Eb => ?_; clear J K' hE a q1
 refine M1 Eb 6 fun K' J ρ q6 => ?_; go_simp
 refine Ln Eb J fun _ Ea => ?_; clear J K' Eb q6
 refine M1 Ea 7 fun K' J ρ q7 => ?_; go_simp; (try go_bits); (try clear q7)
 go_at_call 32; refine (pCheckEar_any A cap l m sl _ hA1 s1 s2 s5).mono ?_; rintro e w2 ⟨rfl, h2⟩
 (try clear r7)
 refine Ln Ea J fun _ Eb => ?_; clear J K' Ea
 refine M1 Eb 8 fun K' J ρ q8 => ?_; go_simp
 refine Ln Eb J fun _ Ea => ?_; clear J K' Eb q8
 refine Ld [1, 3] Ea hK fun a hE => ?_; clear hK K Q' Ea
 have hb2 := hbw1.trans (h2.mono hbw1.size)
 refine Ks ?_
 refine Rs 2 fun Q' K hK => ?_
 refine M1 hE 3 fun K' J ρ q3 => ?_; go_simp
 refine Ln hE J fun _ Eb => ?_; clear J K' hE a q3
 refine M1 Eb 9 fun K' J ρ q9 => ?_; go_simp; (try go_bits)
 refine Ln Eb J fun _ Ea => ?_; clear J K' Eb q9
 refine Ld [1, 3, 10] Ea hK fun a hE => ?_; clear hK K Q' Ea
 have hE20 : earE ⟨l, m, sl⟩ = if q then 0 else 20 := by unfold earE; rw [HQ.out]
 replace hE := hE.turn 10 (v' := .bool (!q)) rfl (by rw [hE20]; cases q <;> rfl)
 replace hE := hE.turn 3 (v' := .int .i64 (if q then 0 else 20)) rfl (by rw [hE20])
 clear hE20
 refine Ks ?_
 refine cond_part hE (t := 10) rfl (fun h => ?_) (fun h => ?_)
 ·have hq0 : q = false := by simpa using h
  refine Ks ?_
  refine Rs 2 fun Q' K hK => ?_
  refine M1 hE 3 fun K' J ρ q3 => ?_; go_simp
  refine Ln hE J fun _ Eb => ?_; clear J K' hE a q3
  refine M1 Eb 11 fun K' J ρ q11 => ?_; go_simp
  refine Ln Eb J fun _ Ea => ?_; clear J K' Eb q11
  refine Ld [2] Ea hK fun a hE => ?_; clear hK K Q' Ea
  refine Ks ?_
  refine ret_one hE rfl rfl ⟨?_, hb2⟩
  unfold bkE Bk.ok
  rw [HQ.out, hq0]; rfl
 ·have hq1 : q = true := by simpa using h
  clear h nB cB0 cB1 cB2
  have HE : Hid (∀ z, (headB ⟨⟨l, m, sl⟩, ls, lo, hi, lost⟩ && ls.all lineB) = z → bkE ⟨⟨l, m, sl⟩, ls, lo, hi, lost⟩ = if z then 0 else 20) := hid fun z hz => by
   unfold bkE Bk.ok
   rw [HQ.out, hq1, hz, Bool.true_and]
  clear hq1
  replace hCB := hCB.below h2
  have nB := hCB.1; have cB3 := hCB.2 3 _ rfl; have cB4 := hCB.2 4 _ rfl; have cB5 := hCB.2 5 _ rfl; have cB6 := hCB.2 6 _ rfl
  obtain ⟨z9, hz9⟩ : ∃ z, decide ((9 : Int) < ls.length) = z := ⟨_, rfl⟩
  have HZ := hid hz9
  refine Ks ?_
  refine Rs 16 fun Q' K hK => ?_
  refine M1 hE 1 fun K' J ρ q1 => ?_; go_simp
  refine Ln hE J fun _ Eb => ?_; clear J K' hE a q1
  refine M1 Eb 12 fun K' J ρ q12 => ?_; go_simp
  refine Ln Eb J fun _ Ea => ?_; clear J K' Eb q12
  refine M1 Ea 13 fun K' J ρ q13 => ?_; go_simp; (try go_bits)
  refine Ln Ea J fun _ Eb => ?_; clear J K' Ea q13
  refine M1 Eb 14 fun K' J ρ q14 => ?_; go_simp; (try go_bits)
  refine Ln Eb J fun _ Ea => ?_; clear J K' Eb q14
  refine M1 Ea 15 fun K' J ρ q15 => ?_; go_simp
  refine Ln Ea J fun _ Eb => ?_; clear J K' Ea q15
  refine Lm Eb 17 16 ?_ (fun hx K' J => ?_) (fun _ Ea => ?_); rotate_left 1
  ·have hx0 := hx; (try simp only [beq_iff_eq, Bool.and_eq_true, Bool.beq_true, Bool.beq_false, Bool.not_eq_true', beq_eq_false_iff_ne] at hx); have r1 := Eb.at 1 rfl; clear hx0
   refine o1 r1 fun ρ q1 => ?_; go_simp;
   refine put_eq J ?_; rfl
  clear Eb
  refine Lm Ea 18 16 ?_ (fun hx K' J => ?_) (fun _ Eb => ?_); rotate_left 1
  ·have hx0 := hx; (try simp only [beq_iff_eq, Bool.and_eq_true, Bool.beq_true, Bool.beq_false, Bool.not_eq_true', beq_eq_false_iff_ne] at hx); have r17 := Ea.at 17 rfl; (try simp only [hx0, may_true] at r17); clear hx0
   refine o1 r17 fun ρ q17 => ?_; go_simp;
   refine put_eq J ?_; rfl
  clear Ea
  refine Late.mayw Eb (d' := 19) (by decide) (by (first | (simp only [List.getElem?_toArray, List.getElem?_cons_succ, List.getElem?_cons_zero]; rfl) | rfl)) rfl rfl (d := 16) (by kernel_rfl) rfl ?_ (fun hx K' J => ?_) (fun a_8 w3 hbw3 Ea => ?_); rotate_left 1
  ·have hx0 := hx; (try simp only [beq_iff_eq, Bool.and_eq_true, Bool.beq_true, Bool.beq_false, Bool.not_eq_true', beq_eq_false_iff_ne] at hx); have r18 := Eb.at 18 rfl; (try simp only [hx0, may_true] at r18); clear hx0
   refine o1 r18 fun ρ q18 => ?_; go_simp; (try go_bits);
   go_at_call 33; refine (isWay_any lo hi _).mono ?_; rintro e w3 ⟨rfl, h3⟩; refine put_eqw J h3 ?_; rfl
  clear Eb
  refine Lm Ea 20 16 ?_ (fun hx K' J => ?_) (fun _ Eb => ?_); rotate_left 1
  ·have hx0 := hx; (try simp only [beq_iff_eq, Bool.and_eq_true, Bool.beq_true, Bool.beq_false, Bool.not_eq_true', beq_eq_false_iff_ne] at hx); have r19 := Ea.at 19 rfl; (try simp only [hx0, may_true] at r19); clear hx0
   refine o1 r19 fun ρ q19 => ?_; go_simp; (try go_bits); (try simp (disch := omega) only [IntWalk.i64_in]);
   refine put_eq J ?_; rfl
  clear Ea
  refine M2 Eb 16 20 fun K' J ρ q16 q20 => ?_; go_simp; (try go_bits)
  refine Ln Eb J fun _ Ea => ?_; clear J K' Eb q16 q20
  replace Ea := Ea.turn 21 (v' := .bool (z9 || !wayB lo hi)) rfl (by (cases z9 <;> simp))
  refine M1 Ea 21 fun K' J ρ q21 => ?_; go_simp
  refine Ln Ea J fun _ Eb => ?_; clear J K' Ea q21
  have hC3 := hCB.below hbw3; have nC := hC3.1; have e6 := hC3.2 6 _ rfl; clear hC3
  refine Lm Eb 23 22 ?_ (fun hx K' J => ?_) (fun _ Ea => ?_); rotate_left 1
  ·have hx0 := hx; (try simp only [beq_iff_eq, Bool.and_eq_true, Bool.beq_true, Bool.beq_false, Bool.not_eq_true', beq_eq_false_iff_ne] at hx); have r1 := Eb.at 1 rfl; clear hx0
   refine o1 r1 fun ρ q1 => ?_; go_simp;
   refine put_eq J ?_; rfl
  clear Eb
  refine Lm Ea 24 22 ?_ (fun hx K' J => ?_) (fun _ Eb => ?_); rotate_left 1
  ·have hx0 := hx; (try simp only [beq_iff_eq, Bool.and_eq_true, Bool.beq_true, Bool.beq_false, Bool.not_eq_true', beq_eq_false_iff_ne] at hx); have r23 := Ea.at 23 rfl; (try simp only [hx0, may_true] at r23); clear hx0
   refine o1 r23 fun ρ q23 => ?_; go_simp;
   refine put_eq J ?_; rfl
  clear Ea
  refine Lm Eb 25 22 ?_ (fun hx K' J => ?_) (fun _ Ea => ?_); rotate_left 1
  ·have hx0 := hx; (try simp only [beq_iff_eq, Bool.and_eq_true, Bool.beq_true, Bool.beq_false, Bool.not_eq_true', beq_eq_false_iff_ne] at hx); have r24 := Eb.at 24 rfl; (try simp only [hx0, may_true] at r24); clear hx0
   refine o1 r24 fun ρ q24 => ?_; go_simp; (try go_bits);
   go_at_call 34; refine (within_any _ _ _ _).mono ?_; rintro e w4 ⟨rfl, rfl⟩; refine put_eq J ?_; rfl
  clear Eb
  refine Lm Ea 26 22 ?_ (fun hx K' J => ?_) (fun _ Eb => ?_); rotate_left 1
  ·have hx0 := hx; (try simp only [beq_iff_eq, Bool.and_eq_true, Bool.beq_true, Bool.beq_false, Bool.not_eq_true', beq_eq_false_iff_ne] at hx); have r25 := Ea.at 25 rfl; (try simp only [hx0, may_true] at r25); clear hx0
   refine o1 r25 fun ρ q25 => ?_; go_simp; (try go_bits); (try simp (disch := omega) only [IntWalk.i64_in]);
   refine put_eq J ?_; rfl
  clear Ea
  refine M2 Eb 22 26 fun K' J ρ q22 q26 => ?_; go_simp; (try go_bits)
  refine Ln Eb J fun _ Ea => ?_; clear J K' Eb q22 q26
  replace Ea := Ea.turn 27 (v' := .bool ((z9 || !wayB lo hi) || !(decide (0 ≤ lost) && decide (lost ≤ 9)))) rfl (by (cases z9 <;> cases wayB lo hi <;> simp))
  refine Ld [1, 27] Ea hK fun a hE => ?_; clear hK K Q' Ea
  clear hz9 nC e6 nB cB3 cB4 cB5 cB6
  replace hE := hE.turn 27 (v' := .bool (!headB ⟨⟨l, m, sl⟩, ls, lo, hi, lost⟩)) rfl (by
   unfold headB
   rw [HZ.out]
   cases z9 <;> cases wayB lo hi <;> simp)
  have hb3 := hb2.trans (hbw3.mono hb2.size)
  replace hCB := hCB.below hbw3
  refine Ks ?_
  refine cond_part hE (t := 27) rfl (fun h => ?_) (fun h => ?_)
  ·have hh : headB ⟨⟨l, m, sl⟩, ls, lo, hi, lost⟩ = false := by simpa using h
   refine Ks ?_
   refine Rs 1 fun Q' K hK => ?_
   refine M0 fun K' J ρ => ?_; go_simp;
   refine Ln hE J fun _ Eb => ?_; clear J K' hE a
   refine Ld [2] Eb hK fun a hE => ?_; clear hK K Q' Eb
   refine Ks ?_
   refine ret_one hE rfl rfl ⟨?_, hb3⟩
   rw [HE.out false (by rw [hh]; rfl)]; rfl
  ·have hh : headB ⟨⟨l, m, sl⟩, ls, lo, hi, lost⟩ = true := by simpa using h
   clear h
   have HH := hid hh
   clear hh
   have nB := hCB.1; have cB3 := hCB.2 3 _ rfl
   refine Ks ?_
   refine Rs 4 fun Q' K hK => ?_
   refine M1 hE 1 fun K' J ρ q1 => ?_; go_simp
   refine Ln hE J fun _ Eb => ?_; clear J K' hE a q1
   refine M1 Eb 28 fun K' J ρ q28 => ?_; go_simp
   refine Ln Eb J fun _ Ea => ?_; clear J K' Eb q28
   refine M1 Ea 29 fun K' J ρ q29 => ?_; go_simp; (try go_bits)
   refine Ln Ea J fun _ Eb => ?_; clear J K' Ea q29
   refine M0 fun K' J ρ => ?_; go_simp;
   refine Ln Eb J fun _ Ea => ?_; clear J K' Eb
   refine Ld [29, 30, 31] Ea hK fun a hE => ?_; clear hK K Q' Ea
   refine Ks ?_
   refine loop_st (fun (k : Nat) a w' => k ≤ ls.length ∧ Fits 39 [(29, .slice L ls.length lcap), (30, .int .i64 ls.length), (31, .int .i64 k)] a ∧ Below w.heap.size w w' ∧ ∀ i (h : i < ls.length), i < k → lineB ls[i] = true) (fun k => ls.length - k) 0 ?_ (fun k a w' hI => ?_)
   ·exact ⟨Nat.zero_le _, by simpa using hE, hb3, fun i _ hi => absurd hi (Nat.not_lt_zero i)⟩
   clear hE nB cB3
   obtain ⟨hk, hE, hBr, hN⟩ := hI
   obtain ⟨wr, hwr⟩ : ∃ x, x = w' := ⟨_, rfl⟩
   subst hwr
   have HN := hid hN
   clear hN
   refine Ks ?_
   refine Rs 1 fun Q' K hK => ?_
   refine M2 hE 31 30 fun K' J ρ q31 q30 => ?_; go_simp; (try go_bits)
   refine Ln hE J fun _ Eb => ?_; clear J K' hE a q31 q30
   refine Ld [29, 30, 31, 32] Eb hK fun a hE => ?_; clear hK K Q' Eb
   refine Ks ?_
   refine cond_part hE (t := 32) rfl (fun h => ?_) (fun h => ?_)
   ·have hlt : k < ls.length := of_decide_eq_true h
    clear h
    have hltI : (k : Int) < ls.length := by omega
    obtain ⟨bl, o, rfl, hbl, c0, c1, c2⟩ := ((hL.below hBr).more hBr.size).nl hlt
    obtain ⟨x, hx⟩ : ∃ x, ls[k] = x := ⟨_, rfl⟩
    have HX := hid hx
    rw [hx] at c0 c1 c2
    clear hx
    have hsz : x.heard.size ≤ 9223372036854775807 := by have := HS.out k hlt; rw [← HX.out]; exact this
    refine Ks ?_
    refine Rs 4 fun Q' K hK => ?_
    refine M2 hE 29 31 fun K' J ρ q29 q31 => ?_; go_simp; (try go_bits)
    refine Ln hE J fun _ Eb => ?_; clear J K' hE a q29 q31
    refine M1 Eb 33 fun K' J ρ q33 => ?_; go_simp
    refine Ln Eb J fun _ Ea => ?_; clear J K' Eb q33
    refine M0 fun K' J ρ => ?_; go_simp;
    refine Ln Ea J fun _ Eb => ?_; clear J K' Ea
    refine M2 Eb 5 34 fun K' J ρ q5 q34 => ?_; go_simp; (try clear q5 q34)
    refine late_skip Eb J (fun _ Ea => ?_); clear J K'; clear Eb
    refine Ld [5, 29, 30, 31] Ea hK fun a hE => ?_; clear hK K Q' Ea
    obtain ⟨C, hCe⟩ : ∃ B, B = wr.heap.size := ⟨_, rfl⟩; rw [← hCe] at hE; refine world_cut (fun wt => Below wr.heap.size wr wt ∧ Cells wt C [.int .i64 x.book, .int .i64 x.minute, .string x.heard]) ⟨(Below.refl _ _).alloc (Nat.le_refl _) _, by rw [hCe]; exact cells_new _ _ _⟩ (fun w5 hCut => ?_); obtain ⟨hbw5, hCC⟩ := hCut; clear hCe
    obtain ⟨nC, cC0, cC1, cC2⟩ := hCC.c3
    refine Ks ?_
    refine Rs 3 fun Q' K hK => ?_
    refine M1 hE 5 fun K' J ρ q5 => ?_; go_simp
    refine Ln hE J fun _ Eb => ?_; clear J K' hE a q5
    refine M1 Eb 35 fun K' J ρ q35 => ?_; go_simp; (try go_bits); (try clear q35)
    go_at_call 35; refine (isLine_any x _ hsz).mono ?_; rintro e w6 ⟨rfl, h6⟩
    (try clear r35)
    refine Ln Eb J fun _ Ea => ?_; clear J K' Eb
    refine M1 Ea 36 fun K' J ρ q36 => ?_; go_simp; (try go_bits); (try simp (disch := omega) only [IntWalk.i64_in])
    refine Ln Ea J fun _ Eb => ?_; clear J K' Ea q36
    refine Ld [29, 30, 31, 37] Eb hK fun a hE => ?_; clear hK K Q' Eb
    have hB6 := hBr.trans ((hbw5.trans (h6.mono hbw5.size)).mono hBr.size)
    refine Ks ?_
    refine cond_part hE (t := 37) rfl (fun h => ?_) (fun h => ?_)
    ·refine Ks ?_
     refine Rs 1 fun Q' K hK => ?_
     refine M0 fun K' J ρ => ?_; go_simp;
     refine Ln hE J fun _ Eb => ?_; clear J K' hE a
     refine Ld [2] Eb hK fun a hE => ?_; clear hK K Q' Eb
     refine Ks ?_
     refine ret_one hE rfl rfl ⟨?_, hB6⟩
     have hx : ls.all lineB = false := List.all_eq_false.2 ⟨ls[k], List.getElem_mem hlt, by rw [HX.out]; simpa using h⟩
     rw [HE.out false (by rw [hx]; simp)]; rfl
    ·refine Ks ?_
     refine Rs 2 fun Q' K hK => ?_
     refine M1 hE 31 fun K' J ρ q31 => ?_; go_simp; (try go_bits); (try simp (disch := omega) only [IntWalk.i64_in])
     refine Ln hE J fun _ Eb => ?_; clear J K' hE a q31
     refine M1 Eb 38 fun K' J ρ q38 => ?_; go_simp
     refine Ln Eb J fun _ Ea => ?_; clear J K' Eb q38
     refine Ld [29, 30, 31] Ea hK fun a hE => ?_; clear hK K Q' Ea
     refine Ks ?_
     refine ⟨k + 1, ⟨hlt, by simpa using hE, hB6, fun i hi hik => ?_⟩, by omega⟩
     rcases Nat.lt_or_ge i k with h1 | h1
     ·exact HN.out i hi h1
     ·obtain rfl : i = k := by omega
      rw [HX.out]; simpa using h
   ·have hkk : k = ls.length := by have := of_decide_eq_false h; omega
    clear h
    refine Ks ?_
    refine Rs 1 fun Q' K hK => ?_
    refine M0 fun K' J ρ => ?_; go_simp;
    refine Ln hE J fun _ Eb => ?_; clear J K' hE a
    refine Ld [2] Eb hK fun a hE => ?_; clear hK K Q' Eb
    refine Ks ?_
    refine ret_one hE rfl rfl ⟨?_, hBr⟩
    have hx : ls.all lineB = true := by
     rw [List.all_eq_true]
     intro x hx
     obtain ⟨i, hi, rfl⟩ := List.getElem_of_mem hx
     exact HN.out i hi (by omega)
    rw [HE.out true (by rw [hx, HH.out]; rfl)]; rfl
end Go.Proofs.YtbimkcjdodgojaaGreat
