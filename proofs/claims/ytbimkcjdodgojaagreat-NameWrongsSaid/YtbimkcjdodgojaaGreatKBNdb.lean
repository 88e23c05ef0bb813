/- Name: the reference's check of books. -/
import Derived.Test.YtbimkcjdodgojaaGreatKBNw
import Derived.Test.YtbimkcjdodgojaaGreatKBNbk
import Derived.Test.YtbimkcjdodgojaaGreatKBNpb
import Derived.Test.YtbimkcjdodgojaaGreatKBJ

namespace Go.Proofs.YtbimkcjdodgojaaGreat
set_option linter.unusedSimpArgs false
set_option linter.unusedVariables false
open Go.RowKit
attribute [local go_sem high] cell_set_wr
attribute [local go_sem low] cell_wr frozen_wr
attribute [local go_sem] wr_set wr_drew wr_drewN wr_alloc wr_new Rho.c Rho.n Rho.g
theorem all_take {l : List NLn} {k : Nat} (h : k < l.length) : (l.take (k + 1)).all lineB = ((l.take k).all lineB && lineB l[k]) := by
 rw [List.take_succ_eq_append_getElem h, List.all_append]
 simp
theorem bkE_no {b : Bk} {k : Nat} (h : ((b.ear.ok && headB b) && (b.lines.take k).all lineB) = false) : bkE b = 20 := by
 have : b.ok = false := by
  unfold Bk.ok
  cases he : b.ear.ok
  ·rfl
  ·cases hh : headB b
   ·rfl
   ·rw [he, hh] at h
    simp only [Bool.true_and] at h ⊢
    rw [← Bool.not_eq_true] at h ⊢
    exact fun ha => h (List.all_eq_true.2 fun x hx => List.all_eq_true.1 ha x (List.mem_of_mem_take hx))
 unfold bkE
 rw [this]
 rfl
theorem bkE_yes {b : Bk} (h : ((b.ear.ok && headB b) && (b.lines.take b.lines.length).all lineB) = true) : bkE b = 0 := by
 rw [List.take_length] at h
 unfold bkE Bk.ok
 rw [Bool.and_assoc] at h
 rw [h]
 rfl
section
variable (A : Option Addr) (cap : Nat) (L : Option Addr) (lcap : Nat) (b : Bk)
set_option maxRecDepth 100000 in
set_option maxHeartbeats 2000000 in
theorem rCheck_any (w : World) (hM : BkAt w A L b) (hs : b.small cap lcap) (hz : ∀ i (h : i < b.ear.alike.length), b.ear.alike[i].size ≤ 9223372036854775807) : Calls Tryz.prog 9 #[.agg (bkV A cap L lcap b).toArray] w fun e w' => e = .returned (.int .i64 (bkE b)) ∧ Below w.heap.size w w' := by
 obtain ⟨q, hq⟩ : ∃ q, b.ear.ok = q := ⟨_, rfl⟩
 have HEa : Hid (∀ W, BkAt W A L b → Calls Tryz.prog 36 #[.agg #[.slice A b.ear.alike.length cap, .string b.ear.mute, .int .i64 b.ear.slips]] W fun e w' => e = .returned (.int .i64 (if q then 0 else 20)) ∧ Below W.heap.size W w') := hid fun W hW => by
  have h := rCheckEar_any A cap b.ear.alike b.ear.mute b.ear.slips W hW.1 hs.2.1 hs.2.2.2.2.1 hz
  rw [ear_eq, show Ear.ok ⟨b.ear.alike, b.ear.mute, b.ear.slips⟩ = q from hq] at h
  exact h
 have HNO : Hid (∀ k, ((q && headB b) && (b.lines.take k).all lineB) = false → bkE b = 20) := hid fun k h => by rw [← hq] at h; exact bkE_no h
 have HYES : Hid (((q && headB b) && (b.lines.take b.lines.length).all lineB) = true → bkE b = 0) := hid fun h => by rw [← hq] at h; exact bkE_yes h
 have HLn : Hid (∀ i (h : i < b.lines.length), b.lines[i].heard.size ≤ 9223372036854775807) := hid fun i h => hs.2.2.2.2.2 i h
 have hl63 := hs.2.2.2.1
 obtain ⟨z9, hz9⟩ : ∃ z, decide ((b.lines.length : Int) ≤ 9) = z := ⟨_, rfl⟩
 have HZ := hid hz9
 obtain ⟨s1, hs1⟩ : ∃ z, (decide ((0 : Int) ≤ b.lo) && (decide (b.lo ≤ b.hi) && decide (b.hi ≤ 1439))) = z := ⟨_, rfl⟩
 have HS1 := hid hs1
 obtain ⟨s2, hs2⟩ : ∃ z, (decide ((0 : Int) ≤ b.lost) && decide (b.lost ≤ 9)) = z := ⟨_, rfl⟩
 have HS2 := hid hs2
 have HH : Hid (headB b = ((z9 && s1) && s2)) := hid (by
  rw [← hz9, ← hs1, ← hs2]
  unfold headB wayB
  rw [show decide ((b.lines.length : Int) ≤ 9) = !decide ((9 : Int) < b.lines.length) by by_cases h : (9 : Int) < b.lines.length <;> simp [h] <;> omega, Bool.and_assoc (decide (0 ≤ b.lo))])
 clear hq hs1 hs2 hz hs
 simp only [bkV]
 refine enterE Tryz.func9 rfl Tryz.ntmps9 (by simp) (fun a hE => ?_); simp only [envOf, Nat.zero_add, Nat.reduceAdd] at hE
 refine Ks ?_
 refine Rs 2 fun Q' K hK => ?_
 refine M1 hE 0 fun K' J ρ q0 => ?_; go_simp
 refine Ln hE J fun _ Eb => ?_; clear J K' hE a q0
 refine M0 fun K' J ρ => ?_; go_simp;
 refine Ln Eb J fun _ Ea => ?_; clear J K' Eb
 refine Ld [1] Ea hK fun a hE => ?_; clear hK K Q' Ea
 obtain ⟨B, hBe⟩ : ∃ B, B = w.heap.size := ⟨_, rfl⟩; rw [← hBe] at hE; refine world_cut (fun wt => Below w.heap.size w wt ∧ Cells wt B (bkV A cap L lcap b)) ⟨(Below.refl _ _).alloc (Nat.le_refl _) _, by rw [hBe]; exact cells_new _ _ _⟩ (fun w1 hCut => ?_); obtain ⟨hbw1, hCB⟩ := hCut; clear hBe
 have hM1 := hM.below hbw1
 simp only [bkV] at hCB
 obtain ⟨nB, cB0, cB1, cB2⟩ := hCB.c3
 refine Ks ?_
 refine Rs 21 fun Q' K hK => ?_
 refine M1 hE 1 fun K' J ρ q1 => ?_; go_simp
 refine Ln hE J fun _ Eb => ?_; clear J K' hE a q1
 refine M1 Eb 6 fun K' J ρ q6 => ?_; go_simp
 refine Ln Eb J fun _ Ea => ?_; clear J K' Eb q6
 refine M1 Ea 7 fun K' J ρ q7 => ?_; go_simp; (try go_bits); (try clear q7)
 go_at_call 36; refine (HEa.out _ hM1).mono ?_; rintro e w2 ⟨rfl, h2⟩; have hCB2 := hCB.below h2; have n2 := hCB2.1; have c23 := hCB2.2 3 _ rfl; have c24 := hCB2.2 4 _ rfl; have c25 := hCB2.2 5 _ rfl
 (try clear r7)
 refine Ln Ea J fun _ Eb => ?_; clear J K' Ea
 refine M1 Eb 8 fun K' J ρ q8 => ?_; go_simp; (try go_bits)
 refine Ln Eb J fun _ Ea => ?_; clear J K' Eb q8
 replace Ea := Ea.turn 9 (v' := .bool q) rfl (by (cases q <;> simp))
 refine M1 Ea 9 fun K' J ρ q9 => ?_; go_simp
 refine Ln Ea J fun _ Eb => ?_; clear J K' Ea q9
 refine Lm Eb 11 10 ?_ (fun hx K' J => ?_) (fun _ Ea => ?_); rotate_left 1
 ·have hx0 := hx; (try simp only [beq_iff_eq, Bool.and_eq_true, Bool.beq_true, Bool.beq_false, Bool.not_eq_true', beq_eq_false_iff_ne] at hx); have r1 := Eb.at 1 rfl; clear hx0
  refine o1 r1 fun ρ q1 => ?_; go_simp;
  refine put_eq J ?_; rfl
 clear Eb
 refine Lm Ea 12 10 ?_ (fun hx K' J => ?_) (fun _ Eb => ?_); rotate_left 1
 ·have hx0 := hx; (try simp only [beq_iff_eq, Bool.and_eq_true, Bool.beq_true, Bool.beq_false, Bool.not_eq_true', beq_eq_false_iff_ne] at hx); have r11 := Ea.at 11 rfl; (try simp only [hx0, may_true] at r11); clear hx0
  refine o1 r11 fun ρ q11 => ?_; go_simp;
  refine put_eq J ?_; rfl
 clear Ea
 refine Lm Eb 13 10 ?_ (fun hx K' J => ?_) (fun _ Ea => ?_); rotate_left 1
 ·have hx0 := hx; (try simp only [beq_iff_eq, Bool.and_eq_true, Bool.beq_true, Bool.beq_false, Bool.not_eq_true', beq_eq_false_iff_ne] at hx); have r12 := Eb.at 12 rfl; (try simp only [hx0, may_true] at r12); clear hx0
  refine o1 r12 fun ρ q12 => ?_; go_simp; (try go_bits);
  refine put_eq J ?_; rfl
 clear Eb
 refine Lm Ea 14 10 ?_ (fun hx K' J => ?_) (fun _ Eb => ?_); rotate_left 1
 ·have hx0 := hx; (try simp only [beq_iff_eq, Bool.and_eq_true, Bool.beq_true, Bool.beq_false, Bool.not_eq_true', beq_eq_false_iff_ne] at hx); have r13 := Ea.at 13 rfl; (try simp only [hx0, may_true] at r13); clear hx0
  refine o1 r13 fun ρ q13 => ?_; go_simp; (try go_bits);
  refine put_eq J ?_; rfl
 clear Ea
 refine M2 Eb 10 14 fun K' J ρ q10 q14 => ?_; go_simp; (try go_bits)
 refine Ln Eb J fun _ Ea => ?_; clear J K' Eb q10 q14
 replace Ea := Ea.turn 15 (v' := .bool (q && z9)) rfl (by (cases q <;> simp))
 refine M1 Ea 15 fun K' J ρ q15 => ?_; go_simp
 refine Ln Ea J fun _ Eb => ?_; clear J K' Ea q15
 refine Lm Eb 17 16 ?_ (fun hx K' J => ?_) (fun _ Ea => ?_); rotate_left 1
 ·have hx0 := hx; (try simp only [beq_iff_eq, Bool.and_eq_true, Bool.beq_true, Bool.beq_false, Bool.not_eq_true', beq_eq_false_iff_ne] at hx); have r1 := Eb.at 1 rfl; clear hx0
  refine o1 r1 fun ρ q1 => ?_; go_simp;
  refine put_eq J ?_; rfl
 clear Eb
 refine Lm Ea 18 16 ?_ (fun hx K' J => ?_) (fun _ Eb => ?_); rotate_left 1
 ·have hx0 := hx; (try simp only [beq_iff_eq, Bool.and_eq_true, Bool.beq_true, Bool.beq_false, Bool.not_eq_true', beq_eq_false_iff_ne] at hx); have r17 := Ea.at 17 rfl; (try simp only [hx0, may_true] at r17); clear hx0
  refine o1 r17 fun ρ q17 => ?_; go_simp;
  refine put_eq J ?_; rfl
 clear Ea
 refine Late.mayw Eb (d' := 19) (by decide) (by (first | (simp only [List.getElem?_toArray, List.getElem?_cons_succ, List.getElem?_cons_zero]; rfl) | rfl)) rfl rfl (d := 16) (by kernel_rfl) rfl ?_ (fun hx K' J => ?_) (fun a_14 w3 hbw3 Ea => ?_); rotate_left 1
 ·have hx0 := hx; (try simp only [beq_iff_eq, Bool.and_eq_true, Bool.beq_true, Bool.beq_false, Bool.not_eq_true', beq_eq_false_iff_ne] at hx); have r18 := Eb.at 18 rfl; (try simp only [hx0, may_true] at r18); clear hx0
  refine o1 r18 fun ρ q18 => ?_; go_simp; (try go_bits);
  go_at_call 37; refine (spans_any _ _ _ _ _).mono ?_; rw [HS1.out]; rintro e w3 ⟨rfl, h3⟩; refine put_eqw J h3 ?_; rfl
 clear Eb
 refine M2 Ea 16 19 fun K' J ρ q16 q19 => ?_; go_simp; (try go_bits)
 refine Ln Ea J fun _ Eb => ?_; clear J K' Ea q16 q19
 replace Eb := Eb.turn 20 (v' := .bool ((q && z9) && s1)) rfl (by (cases q <;> cases z9 <;> simp))
 refine M1 Eb 20 fun K' J ρ q20 => ?_; go_simp
 refine Ln Eb J fun _ Ea => ?_; clear J K' Eb q20
 have hC3 := hCB2.below hbw3; have nC := hC3.1; have e6 := hC3.2 6 _ rfl; clear hC3
 refine Lm Ea 22 21 ?_ (fun hx K' J => ?_) (fun _ Eb => ?_); rotate_left 1
 ·have hx0 := hx; (try simp only [beq_iff_eq, Bool.and_eq_true, Bool.beq_true, Bool.beq_false, Bool.not_eq_true', beq_eq_false_iff_ne] at hx); have r1 := Ea.at 1 rfl; clear hx0
  refine o1 r1 fun ρ q1 => ?_; go_simp;
  refine put_eq J ?_; rfl
 clear Ea
 refine Lm Eb 23 21 ?_ (fun hx K' J => ?_) (fun _ Ea => ?_); rotate_left 1
 ·have hx0 := hx; (try simp only [beq_iff_eq, Bool.and_eq_true, Bool.beq_true, Bool.beq_false, Bool.not_eq_true', beq_eq_false_iff_ne] at hx); have r22 := Eb.at 22 rfl; (try simp only [hx0, may_true] at r22); clear hx0
  refine o1 r22 fun ρ q22 => ?_; go_simp;
  refine put_eq J ?_; rfl
 clear Eb
 refine Lm Ea 24 21 ?_ (fun hx K' J => ?_) (fun _ Eb => ?_); rotate_left 1
 ·have hx0 := hx; (try simp only [beq_iff_eq, Bool.and_eq_true, Bool.beq_true, Bool.beq_false, Bool.not_eq_true', beq_eq_false_iff_ne] at hx); have r23 := Ea.at 23 rfl; (try simp only [hx0, may_true] at r23); clear hx0
  refine o1 r23 fun ρ q23 => ?_; go_simp; (try go_bits);
  go_at_call 38; refine (between_any _ _ _ _).mono ?_; rw [HS2.out]; rintro e w4 ⟨rfl, rfl⟩; refine put_eq J ?_; rfl
 clear Ea
 refine M2 Eb 21 24 fun K' J ρ q21 q24 => ?_; go_simp; (try go_bits)
 refine Ln Eb J fun _ Ea => ?_; clear J K' Eb q21 q24
 replace Ea := Ea.turn 25 (v' := .bool (((q && z9) && s1) && s2)) rfl (by (cases q <;> cases z9 <;> cases s1 <;> simp))
 refine M1 Ea 25 fun K' J ρ q25 => ?_; go_simp
 refine Ln Ea J fun _ Eb => ?_; clear J K' Ea q25
 refine Ld [1, 3] Eb hK fun a hE => ?_; clear hK K Q' Eb
 replace hE := hE.turn 3 (v' := .bool (q && headB b)) rfl (by rw [HH.out]; cases q <;> cases z9 <;> cases s1 <;> rfl)
 have hb2 := hbw1.trans (h2.mono hbw1.size)
 have hb3 := hb2.trans (hbw3.mono hb2.size)
 have hM3 := hM.below hb3
 have hCB3 := hCB2.below hbw3
 clear hz9 nC e6 nB cB0 cB1 cB2 n2 c23 c24 c25 hCB hCB2 hM1
 obtain ⟨g, hg⟩ : ∃ g, (q && headB b) = g := ⟨_, rfl⟩
 rw [hg] at hE HNO HYES
 clear hg
 refine Ks ?_
 refine Rs 1 fun Q' K hK => ?_
 refine M0 fun K' J ρ => ?_; go_simp;
 refine Ln hE J fun _ Eb => ?_; clear J K' hE a
 refine Ld [1, 3, 4] Eb hK fun a hE => ?_; clear hK K Q' Eb
 refine Ks ?_
 refine loop_st (fun (k : Nat) a w' => ∃ t : Bool, k ≤ b.lines.length ∧ Fits 56 [(1, .pointer (some ⟨B, 0, none⟩)), (3, .bool t), (4, .int .i64 k)] a ∧ Below w3.heap.size w3 w' ∧ t = (g && (b.lines.take k).all lineB)) (fun k => b.lines.length - k) 0 ?_ (fun k a w' hI => ?_)
 ·exact ⟨g, Nat.zero_le _, by simpa using hE, Below.refl _ _, by simp⟩
 clear hE
 obtain ⟨t, hk, hE, hW, ht⟩ := hI
 have HT := hid ht
 clear ht
 obtain ⟨wr, hwr⟩ : ∃ x, x = w' := ⟨_, rfl⟩
 subst hwr
 have hCr := hCB3.below hW
 have nr := hCr.1
 have cr3 := hCr.2 3 _ rfl
 refine Ks ?_
 cases htv : t
 ·rw [htv] at hE HT
  clear htv
  refine Rs 8 fun Q' K hK => ?_
  refine M1 hE 3 fun K' J ρ q3 => ?_; go_simp
  refine Ln hE J fun _ Eb => ?_; clear J K' hE a q3
  refine M1 Eb 26 fun K' J ρ q26 => ?_; go_simp
  refine Ln Eb J fun _ Ea => ?_; clear J K' Eb q26
  refine Lno Ea 27 ?_
  refine Lu Ea fun _ Eb => ?_
  refine Lno Eb 27 ?_
  refine Lu Eb fun _ Ea => ?_
  refine Lno Ea 27 ?_
  refine Lu Ea fun _ Eb => ?_
  refine Lno Eb 27 ?_
  refine Lu Eb fun _ Ea => ?_
  refine Lno Ea 27 ?_
  refine Lu Ea fun _ Eb => ?_
  refine M2 Eb 27 32 fun K' J ρ q27 q32 => ?_; go_simp; (try go_bits)
  refine Ln Eb J fun _ Ea => ?_; clear J K' Eb q27 q32
  refine Ld [3, 33] Ea hK fun a hE => ?_; clear hK K Q' Ea
  refine Ks ?_
  refine cond_no hE (t := 33) rfl ?_
  refine Ks ?_
  refine Rs 2 fun Q' K hK => ?_
  refine M1 hE 3 fun K' J ρ q3 => ?_; go_simp
  refine Ln hE J fun _ Eb => ?_; clear J K' hE a q3
  refine M1 Eb 54 fun K' J ρ q54 => ?_; go_simp; (try go_bits); (try simp (disch := omega) only [IntWalk.i64_in])
  refine Ln Eb J fun _ Ea => ?_; clear J K' Eb q54
  refine Ld [55] Ea hK fun a hE => ?_; clear hK K Q' Ea
  refine Ks ?_
  refine cond_yes hE (t := 55) rfl ?_
  refine Ks ?_
  refine Rs 1 fun Q' K hK => ?_
  refine M0 fun K' J ρ => ?_; go_simp;
  refine Ln hE J fun _ Eb => ?_; clear J K' hE a
  refine Ld [2] Eb hK fun a hE => ?_; clear hK K Q' Eb
  refine Ks ?_
  exact ret_one hE rfl rfl ⟨by rw [HNO.out k HT.out.symm], hb3.trans (hW.mono hb3.size)⟩
 ·rw [htv] at hE HT
  clear htv
  refine Rs 8 fun Q' K hK => ?_
  refine M1 hE 3 fun K' J ρ q3 => ?_; go_simp
  refine Ln hE J fun _ Eb => ?_; clear J K' hE a q3
  refine M1 Eb 26 fun K' J ρ q26 => ?_; go_simp
  refine Ln Eb J fun _ Ea => ?_; clear J K' Eb q26
  refine N1 Ea 27 4 fun K' J ρ q4 => ?_; go_simp
  refine Ln Ea J fun _ Eb => ?_; clear J K' Ea q4
  refine N1 Eb 27 1 fun K' J ρ q1 => ?_; go_simp
  refine Ln Eb J fun _ Ea => ?_; clear J K' Eb q1
  refine N1 Ea 27 29 fun K' J ρ q29 => ?_; go_simp
  refine Ln Ea J fun _ Eb => ?_; clear J K' Ea q29
  refine N1 Eb 27 30 fun K' J ρ q30 => ?_; go_simp; (try go_bits)
  refine Ln Eb J fun _ Ea => ?_; clear J K' Eb q30
  refine N2 Ea 27 28 31 fun K' J ρ q28 q31 => ?_; go_simp; (try go_bits)
  refine Ln Ea J fun _ Eb => ?_; clear J K' Ea q28 q31
  refine M2 Eb 27 32 fun K' J ρ q27 q32 => ?_; go_simp; (try go_bits)
  refine Ln Eb J fun _ Ea => ?_; clear J K' Eb q27 q32
  refine Ld [1, 3, 4, 33] Ea hK fun a hE => ?_; clear hK K Q' Ea
  refine Ks ?_
  refine cond_part hE (t := 33) rfl (fun h => ?_) (fun h => ?_)
  ·have hlt : k < b.lines.length := by have := of_decide_eq_true h; omega
   clear h
   have hltI : (k : Int) < b.lines.length := by omega
   obtain ⟨b0, o0, rfl, hb0, c0, c1, c2⟩ := (hM3.below hW).2.nl hlt
   have HA := hid (all_take hlt)
   have Q4 := hid (HLn.out k hlt)
   obtain ⟨ln, hln⟩ : ∃ ln, b.lines[k] = ln := ⟨_, rfl⟩
   rw [hln] at c0 c1 c2 Q4 HA
   clear hln
   obtain ⟨p1, hp1⟩ : ∃ p, (decide ((0 : Int) ≤ ln.book) && decide (ln.book ≤ 1)) = p := ⟨_, rfl⟩
   have HP1 := hid hp1
   obtain ⟨p2, hp2⟩ : ∃ p, (decide ((0 : Int) ≤ ln.minute) && decide (ln.minute ≤ 1439)) = p := ⟨_, rfl⟩
   have HP2 := hid hp2
   have HLB : Hid (lineB ln = ((p1 && p2) && nameB ln.heard.data.toList)) := hid (by unfold lineB; rw [hp1, hp2])
   clear hp1 hp2
   refine Ks ?_
   refine Rs 7 fun Q' K hK => ?_
   refine M1 hE 1 fun K' J ρ q1 => ?_; go_simp
   refine Ln hE J fun _ Eb => ?_; clear J K' hE a q1
   refine M1 Eb 36 fun K' J ρ q36 => ?_; go_simp
   refine Ln Eb J fun _ Ea => ?_; clear J K' Eb q36
   refine M1 Ea 4 fun K' J ρ q4 => ?_; go_simp
   refine Ln Ea J fun _ Eb => ?_; clear J K' Ea q4
   refine M2 Eb 37 38 fun K' J ρ q37 q38 => ?_; go_simp; (try go_bits)
   refine Ln Eb J fun _ Ea => ?_; clear J K' Eb q37 q38
   refine M1 Ea 39 fun K' J ρ q39 => ?_; go_simp
   refine Ln Ea J fun _ Eb => ?_; clear J K' Ea q39
   refine M0 fun K' J ρ => ?_; go_simp;
   refine Ln Eb J fun _ Ea => ?_; clear J K' Eb
   refine M2 Ea 5 40 fun K' J ρ q5 q40 => ?_; go_simp; (try clear q5 q40)
   refine late_skip Ea J (fun _ Eb => ?_); clear J K'; clear Ea
   refine Ld [1, 3, 4, 5] Eb hK fun a hE => ?_; clear hK K Q' Eb
   obtain ⟨S, hSe⟩ : ∃ B, B = wr.heap.size := ⟨_, rfl⟩; rw [← hSe] at hE; refine world_cut (fun wt => Below wr.heap.size wr wt ∧ Cells wt S [.int .i64 ln.book, .int .i64 ln.minute, .string ln.heard]) ⟨(Below.refl _ _).alloc (Nat.le_refl _) _, by rw [hSe]; exact cells_new _ _ _⟩ (fun wx hCut => ?_); obtain ⟨hbwx, hCS⟩ := hCut; clear hSe
   clear c0 c1 c2 nr cr3
   obtain ⟨nS, cS0, cS1, cS2⟩ := hCS.c3
   refine Ks ?_
   refine Rs 14 fun Q' K hK => ?_
   refine M1 hE 5 fun K' J ρ q5 => ?_; go_simp
   refine Ln hE J fun _ Eb => ?_; clear J K' hE a q5
   refine M1 Eb 41 fun K' J ρ q41 => ?_; go_simp
   refine Ln Eb J fun _ Ea => ?_; clear J K' Eb q41
   refine M1 Ea 42 fun K' J ρ q42 => ?_; go_simp; (try go_bits); (try clear q42)
   go_at_call 38; refine (between_any _ _ _ _).mono ?_; rw [HP1.out]; rintro e w5 ⟨rfl, rfl⟩
   (try clear r42)
   refine Ln Ea J fun _ Eb => ?_; clear J K' Ea
   refine M1 Eb 43 fun K' J ρ q43 => ?_; go_simp
   refine Ln Eb J fun _ Ea => ?_; clear J K' Eb q43
   refine Lm Ea 45 44 ?_ (fun hx K' J => ?_) (fun _ Eb => ?_); rotate_left 1
   ·have hx0 := hx; (try simp only [beq_iff_eq, Bool.and_eq_true, Bool.beq_true, Bool.beq_false, Bool.not_eq_true', beq_eq_false_iff_ne] at hx); have r5 := Ea.at 5 rfl; clear hx0
    refine o1 r5 fun ρ q5 => ?_; go_simp;
    refine put_eq J ?_; rfl
   clear Ea
   refine Lm Eb 46 44 ?_ (fun hx K' J => ?_) (fun _ Ea => ?_); rotate_left 1
   ·have hx0 := hx; (try simp only [beq_iff_eq, Bool.and_eq_true, Bool.beq_true, Bool.beq_false, Bool.not_eq_true', beq_eq_false_iff_ne] at hx); have r45 := Eb.at 45 rfl; (try simp only [hx0, may_true] at r45); clear hx0
    refine o1 r45 fun ρ q45 => ?_; go_simp;
    refine put_eq J ?_; rfl
   clear Eb
   refine Lm Ea 47 44 ?_ (fun hx K' J => ?_) (fun _ Eb => ?_); rotate_left 1
   ·have hx0 := hx; (try simp only [beq_iff_eq, Bool.and_eq_true, Bool.beq_true, Bool.beq_false, Bool.not_eq_true', beq_eq_false_iff_ne] at hx); have r46 := Ea.at 46 rfl; (try simp only [hx0, may_true] at r46); clear hx0
    refine o1 r46 fun ρ q46 => ?_; go_simp; (try go_bits);
    go_at_call 38; refine (between_any _ _ _ _).mono ?_; rw [HP2.out]; rintro e w5 ⟨rfl, rfl⟩; refine put_eq J ?_; rfl
   clear Ea
   refine M2 Eb 44 47 fun K' J ρ q44 q47 => ?_; go_simp; (try go_bits)
   refine Ln Eb J fun _ Ea => ?_; clear J K' Eb q44 q47
   replace Ea := Ea.turn 48 (v' := .bool (p1 && p2)) rfl (by (cases p1 <;> simp))
   refine M1 Ea 48 fun K' J ρ q48 => ?_; go_simp
   refine Ln Ea J fun _ Eb => ?_; clear J K' Ea q48
   refine Lm Eb 50 49 ?_ (fun hx K' J => ?_) (fun _ Ea => ?_); rotate_left 1
   ·have hx0 := hx; (try simp only [beq_iff_eq, Bool.and_eq_true, Bool.beq_true, Bool.beq_false, Bool.not_eq_true', beq_eq_false_iff_ne] at hx); have r5 := Eb.at 5 rfl; clear hx0
    refine o1 r5 fun ρ q5 => ?_; go_simp;
    refine put_eq J ?_; rfl
   clear Eb
   refine Lm Ea 51 49 ?_ (fun hx K' J => ?_) (fun _ Eb => ?_); rotate_left 1
   ·have hx0 := hx; (try simp only [beq_iff_eq, Bool.and_eq_true, Bool.beq_true, Bool.beq_false, Bool.not_eq_true', beq_eq_false_iff_ne] at hx); have r50 := Ea.at 50 rfl; (try simp only [hx0, may_true] at r50); clear hx0
    refine o1 r50 fun ρ q50 => ?_; go_simp;
    refine put_eq J ?_; rfl
   clear Ea
   refine Lm Eb 52 49 ?_ (fun hx K' J => ?_) (fun _ Ea => ?_); rotate_left 1
   ·have hx0 := hx; (try simp only [beq_iff_eq, Bool.and_eq_true, Bool.beq_true, Bool.beq_false, Bool.not_eq_true', beq_eq_false_iff_ne] at hx); have r51 := Eb.at 51 rfl; (try simp only [hx0, may_true] at r51); clear hx0
    refine o1 r51 fun ρ q51 => ?_; go_simp; (try go_bits);
    go_at_call 39; refine (rNames_any _ _ Q4.out).mono ?_; rintro e w5 ⟨rfl, rfl⟩; refine put_eq J ?_; rfl
   clear Eb
   refine M2 Ea 49 52 fun K' J ρ q49 q52 => ?_; go_simp; (try go_bits)
   refine Ln Ea J fun _ Eb => ?_; clear J K' Ea q49 q52
   replace Eb := Eb.turn 53 (v' := .bool ((p1 && p2) && nameB ln.heard.data.toList)) rfl (by (cases p1 <;> cases p2 <;> simp))
   refine M1 Eb 53 fun K' J ρ q53 => ?_; go_simp
   refine Ln Eb J fun _ Ea => ?_; clear J K' Eb q53
   refine Ld [1, 3, 4] Ea hK fun a hE => ?_; clear hK K Q' Ea
   replace hE := hE.turn 3 (v' := .bool (lineB ln)) rfl (by rw [HLB.out])
   refine Ks ?_
   refine Rs 3 fun Q' K hK => ?_
   refine M1 hE 4 fun K' J ρ q4 => ?_; go_simp
   refine Ln hE J fun _ Eb => ?_; clear J K' hE a q4
   refine M1 Eb 34 fun K' J ρ q34 => ?_; go_simp; (try go_bits); (try simp (disch := omega) only [IntWalk.i64_in])
   refine Ln Eb J fun _ Ea => ?_; clear J K' Eb q34
   refine M1 Ea 35 fun K' J ρ q35 => ?_; go_simp
   refine Ln Ea J fun _ Eb => ?_; clear J K' Ea q35
   refine Ld [1, 3, 4] Eb hK fun a hE => ?_; clear hK K Q' Eb
   refine Ks ?_
   exact ⟨k + 1, ⟨lineB ln, hlt, by simpa using hE, hW.trans (hbwx.mono hW.size), by rw [HA.out, ← Bool.and_assoc, ← HT.out, Bool.true_and]⟩, by omega⟩
  ·have hkk : k = b.lines.length := by have := of_decide_eq_false h; omega
   subst hkk
   clear h
   refine Ks ?_
   refine Rs 2 fun Q' K hK => ?_
   refine M1 hE 3 fun K' J ρ q3 => ?_; go_simp
   refine Ln hE J fun _ Eb => ?_; clear J K' hE a q3
   refine M1 Eb 54 fun K' J ρ q54 => ?_; go_simp; (try go_bits); (try simp (disch := omega) only [IntWalk.i64_in])
   refine Ln Eb J fun _ Ea => ?_; clear J K' Eb q54
   refine Ld [55] Ea hK fun a hE => ?_; clear hK K Q' Ea
   refine Ks ?_
   refine cond_no hE (t := 55) rfl ?_
   refine Ks ?_
   refine Rs 1 fun Q' K hK => ?_
   refine M0 fun K' J ρ => ?_; go_simp;
   refine Ln hE J fun _ Eb => ?_; clear J K' hE a
   refine Ld [2] Eb hK fun a hE => ?_; clear hK K Q' Eb
   refine Ks ?_
   exact ret_one hE rfl rfl ⟨by rw [HYES.out HT.out.symm], hb3.trans (hW.mono hb3.size)⟩
end
end Go.Proofs.YtbimkcjdodgojaaGreat
