/- Name: whether two lines can be of one person. -/
import Derived.Test.YtbimkcjdodgojaaGreatKBNl
import Derived.Laws.EntriesVeiled
import Derived.Handy
namespace Go.Proofs.YtbimkcjdodgojaaGreat
set_option linter.unusedSimpArgs false
set_option linter.unusedVariables false
open Go.RowKit
attribute [local go_sem high] cell_set_wr
attribute [local go_sem low] cell_wr frozen_wr
attribute [local go_sem] wr_set wr_drew wr_drewN wr_alloc wr_new Rho.c Rho.n Rho.g
set_option maxRecDepth 100000 in
theorem reasons_any (w : World) : Calls Tryz.prog 65 #[] w fun e w' => e = .returned (.agg #[.func (.func 85) #[] #[], .func (.func 86) #[] #[], .func (.func 87) #[] #[]]) ∧ Below w.heap.size w w' := by
 go_enter Tryz.func65, Tryz.ntmps65
 go_wp2
 go_returns
 exact ⟨rfl, by (repeat' (first | (with_reducible exact Below.refl _ _) | (with_reducible assumption) | (with_reducible refine Below.drew ?_) | (with_reducible refine below_drewN ?_ _) | (with_reducible refine Below.setCell ?_ ?_ _) | (with_reducible refine Below.alloc ?_ ?_ _) | go_size | (exact Below.size (by assumption)) | (refine Below.trans ?_ (Below.mono (by assumption) ?_))))⟩
section
variable (A : Option Addr) (cap : Nat) (L : Option Addr) (lcap : Nat) (b : Bk) (u0 u1 u2 u3 u4 u5 u6 u7 u8 : Value)
set_option maxRecDepth 100000 in
set_option maxHeartbeats 2000000 in
theorem can_any (x y : Nat) (w : World) (hM : BkAt w A L b) (hs : b.small cap lcap) (hx : x < b.lines.length) (hy : y < b.lines.length) (hm : ∀ i (h : i < b.lines.length), 0 ≤ b.lines[i].minute ∧ b.lines[i].minute ≤ 1439) : Calls Tryz.prog 29 #[.agg (bksV A cap L lcap b u0 u1 u2 u3 u4 u5 u6 u7 u8).toArray, .int .i64 x, .int .i64 y] w fun e w' => e = .returned (.bool (canL b b.lines[x] b.lines[y])) ∧ Below w.heap.size w w' := by
 have hmx := hm x hx
 have hmy := hm y hy
 have hsx := hs.2.2.2.2.2 x hx
 have hsy := hs.2.2.2.2.2 y hy
 obtain ⟨bx, ox, hLe, hbx, x0, x1, x2⟩ := hM.2.nl hx
 obtain ⟨by_, oy, hLe', hby, y0, y1, y2⟩ := hM.2.nl hy
 rw [hLe] at hLe'
 simp only [Option.some.injEq, Addr.mk.injEq, and_true] at hLe'
 obtain ⟨rfl, rfl⟩ := hLe'
 subst hLe
 obtain ⟨X, hX⟩ : ∃ X, b.lines[x] = X := ⟨_, rfl⟩
 obtain ⟨Y, hY⟩ : ∃ Y, b.lines[y] = Y := ⟨_, rfl⟩
 rw [hX] at hmx hsx x0 x1 x2 ⊢
 rw [hY] at hmy hsy y0 y1 y2 ⊢
 clear hm hX hY hby
 have hxI : (x : Int) < b.lines.length := by omega
 have hyI : (y : Int) < b.lines.length := by omega
 simp only [bksV]
 refine enterE Tryz.func29 rfl Tryz.ntmps29 (by simp) (fun a hE => ?_); simp only [envOf, Nat.zero_add, Nat.reduceAdd] at hE
 refine Ks ?_
 refine Rs 2 fun Q' K hK => ?_
 refine M1 hE 0 fun K' J ρ q0 => ?_; go_simp
 refine Ln hE J fun _ Eb => ?_; clear J K' hE a q0
 refine M0 fun K' J ρ => ?_; go_simp;
 refine Ln Eb J fun _ Ea => ?_; clear J K' Eb
 refine Ld [1, 2, 3] Ea hK fun a hE => ?_; clear hK K Q' Ea
 obtain ⟨B, hBe⟩ : ∃ B, B = w.heap.size := ⟨_, rfl⟩; rw [← hBe] at hE; refine world_cut (fun wt => Below w.heap.size w wt ∧ Cells wt B (bksV A cap (some ⟨bx, ox, none⟩) lcap b u0 u1 u2 u3 u4 u5 u6 u7 u8)) ⟨(Below.refl _ _).alloc (Nat.le_refl _) _, by rw [hBe]; exact cells_new _ _ _⟩ (fun w1 hCut => ?_); obtain ⟨hbw1, hCB⟩ := hCut; clear hBe
 refine Ks ?_
 refine Rs 2 fun Q' K hK => ?_
 refine M0 fun K' J ρ => ?_; go_simp; (try go_bits);
 go_at_call 65; refine (reasons_any _).mono ?_; rintro e w2 ⟨rfl, h2⟩
 refine Ln hE J fun _ Eb => ?_; clear J K' hE a
 refine M0 fun K' J ρ => ?_; go_simp;
 refine Ln Eb J fun _ Ea => ?_; clear J K' Eb
 refine Ld [1, 2, 3, 9, 10] Ea hK fun a hE => ?_; clear hK K Q' Ea
 have hb2 := hbw1.trans (h2.mono hbw1.size)
 replace hCB := hCB.below h2
 clear hbw1 h2
 simp only [bksV] at hCB
 refine Ks ?_
 refine loop_st (fun (k : Nat) a w' => k ≤ 3 ∧ Fits 30 [(1, .int .i64 x), (2, .int .i64 y), (3, .pointer (some ⟨B, 0, none⟩)), (9, .agg #[.func (.func 85) #[] #[], .func (.func 86) #[] #[], .func (.func 87) #[] #[]]), (10, .int .i64 k)] a ∧ Below w2.heap.size w2 w' ∧ (1 ≤ k → (X.book == Y.book) = false) ∧ (2 ≤ k → offB b X Y = false) ∧ (3 ≤ k → heardB b X Y = true)) (fun k => 3 - k) 0 ?_ (fun k a w' hI => ?_)
 ·exact ⟨Nat.zero_le _, by simpa using hE, Below.refl _ _, fun h => absurd h (by omega), fun h => absurd h (by omega), fun h => absurd h (by omega)⟩
 clear hE
 obtain ⟨hk, hE, hBr, hp1, hp2, hp3⟩ := hI
 obtain ⟨wr, hwr⟩ : ∃ x, x = w' := ⟨_, rfl⟩
 subst hwr
 have H1 := hid hp1
 have H2 := hid hp2
 have H3 := hid hp3
 clear hp1 hp2 hp3
 have hbr := hb2.trans (hBr.mono hb2.size)
 have hMr := hM.below hbr
 refine Ks ?_
 refine Rs 1 fun Q' K hK => ?_
 refine M1 hE 10 fun K' J ρ q10 => ?_; go_simp; (try go_bits)
 refine Ln hE J fun _ Eb => ?_; clear J K' hE a q10
 refine Ld [1, 2, 3, 9, 10, 11] Eb hK fun a hE => ?_; clear hK K Q' Eb
 refine Ks ?_
 refine cond_part hE (t := 11) rfl (fun h => ?_) (fun h => ?_)
 ·have hlt : k < 3 := by have := of_decide_eq_true h; omega
  clear h
  have hk3 : k = 0 ∨ k = 1 ∨ k = 2 := by omega
  clear hlt hk
  rcases hk3 with rfl | rfl | rfl
  ·have iF : ∀ w, (Instr.index 101 (.agg #[.func (.func 85) #[] #[], .func (.func 86) #[] #[], .func (.func 87) #[] #[]]) (.int .i64 0)).run Tryz.prog w = .ok (.agg #[.func (.func 85) #[] #[]]) w := fun _ => by kernel_rfl
   refine Ks ?_
   refine Rs 3 fun Q' K hK => ?_
   refine M2 hE 9 10 fun K' J ρ q9 q10 => ?_; go_simp; (try go_bits)
   refine Ln hE J fun _ Eb => ?_; clear J K' hE a q9 q10
   refine M0 fun K' J ρ => ?_; go_simp;
   refine Ln Eb J fun _ Ea => ?_; clear J K' Eb
   refine M2 Ea 8 12 fun K' J ρ q8 q12 => ?_; go_simp; (try clear q8 q12)
   refine late_skip Ea J (fun _ Eb => ?_); clear J K'; clear Ea
   refine Ld [1, 2, 3, 8, 9, 10] Eb hK fun a hE => ?_; clear hK K Q' Eb
   clear iF
   obtain ⟨F, hFe⟩ : ∃ B, B = wr.heap.size := ⟨_, rfl⟩
   rw [← hFe] at hE
   refine world_cut (fun wt => Below wr.heap.size wr wt ∧ Cells wt F [.func (.func 85) #[] #[]]) (by rw [hFe]; exact ⟨(Below.refl _ _).alloc (Nat.le_refl _) _, cells_new _ _ _⟩) (fun w5 hCut => ?_)
   obtain ⟨hb5, hCF⟩ := hCut
   clear hFe
   have hB5 := hBr.trans (hb5.mono hBr.size)
   have hbr5 := hb2.trans (hB5.mono hb2.size)
   have hM5 := hM.below hbr5
   have hCC := hCB.below hB5
   have nC := hCC.1; have cC0 := hCC.2 0 _ rfl; have cC1 := hCC.2 1 _ rfl; have cC2 := hCC.2 2 _ rfl; have cC3 := hCC.2 3 _ rfl; have cC4 := hCC.2 4 _ rfl; have cC5 := hCC.2 5 _ rfl; have cC6 := hCC.2 6 _ rfl; have cC7 := hCC.2 7 _ rfl; have cC8 := hCC.2 8 _ rfl; have cC9 := hCC.2 9 _ rfl; have cC10 := hCC.2 10 _ rfl; have cC11 := hCC.2 11 _ rfl; have cC12 := hCC.2 12 _ rfl; have cC13 := hCC.2 13 _ rfl; have cC14 := hCC.2 14 _ rfl; have cC15 := hCC.2 15 _ rfl
   obtain ⟨nF, cF0⟩ := hCF.c1
   have nbx : bx < w5.heap.size := Nat.lt_of_lt_of_le hbx hbr5.size
   have x0' := (hbr5.cell (p := ⟨bx, ox + x * 3, none⟩) hbx).trans x0
   have x1' := (hbr5.cell (p := ⟨bx, ox + x * 3 + 1, none⟩) hbx).trans x1
   have x2' := (hbr5.cell (p := ⟨bx, ox + x * 3 + 2, none⟩) hbx).trans x2
   have y0' := (hbr5.cell (p := ⟨bx, ox + y * 3, none⟩) hbx).trans y0
   have y1' := (hbr5.cell (p := ⟨bx, ox + y * 3 + 1, none⟩) hbx).trans y1
   have y2' := (hbr5.cell (p := ⟨bx, ox + y * 3 + 2, none⟩) hbx).trans y2
   clear x0 x1 x2 y0 y1 y2 hbx
   refine Ks ?_
   refine Rd [] (fun wt => Below w5.heap.size w5 wt) (fun w1 w2 => Below w1.heap.size w1 w2) [(0, some 13), (1, some 14), (2, some 15), (3, some 16), (4, some 17), (5, some 18), (6, some 19), (7, some 20), (8, some 21), (9, some 22), (10, some 23), (11, some 24), (12, some 25), (13, some 26), (14, some 27), (15, some 28)] [13, 14, 15, 16, 17, 18, 19, 20, 21, 22, 23, 24, 25, 26, 27, 28] #[true, true, true, true, true, true, true, true, true, true, true, true, true, true, true, true] [1, 2, 3, 9, 10] hE ((Below.refl _ _).drew) fun Q' K hK => ?_
   refine SeqOps.val ?_ (Sp fun ax wx hS hT' hd K' J => ?_) ?_; rotate_left 1
   ·have r8 := hS.at 8 (by decide) (hE.at 8 rfl); obtain ⟨_, _, _, _, _, _⟩ := bT hT'
    refine o1 r8 fun ρ q8 => ?_; go_simp;
    exact Jo J hT'
   refine SeqOps.val ?_ (Sp fun ax wx hS hT' hd K' J => ?_) ?_; rotate_left 1
   ·have r13 := Tv hd 0 0 13; obtain ⟨_, _, _, _, _, _⟩ := bT hT'
    refine o1 r13 fun ρ q13 => ?_; go_simp;
    exact Jo J hT'
   refine SeqOps.val ?_ (Sp fun ax wx hS hT' hd K' J => ?_) ?_; rotate_left 1
   ·have r3 := hS.at 3 (by decide) (hE.at 3 rfl); obtain ⟨_, _, _, _, _, _⟩ := bT hT'
    refine o1 r3 fun ρ q3 => ?_; go_simp;
    exact Jo J hT'
   refine SeqOps.val ?_ (Sp fun ax wx hS hT' hd K' J => ?_) ?_; rotate_left 1
   ·have r3 := hS.at 3 (by decide) (hE.at 3 rfl); obtain ⟨_, _, _, _, _, _⟩ := bT hT'
    refine o1 r3 fun ρ q3 => ?_; go_simp;
    exact Jo J hT'
   refine SeqOps.val ?_ (Sp fun ax wx hS hT' hd K' J => ?_) ?_; rotate_left 1
   ·have r16 := Tv hd 0 3 16; obtain ⟨_, _, _, _, _, _⟩ := bT hT'
    refine o1 r16 fun ρ q16 => ?_; go_simp;
    exact Jo J hT'
   refine SeqOps.val ?_ (Sp fun ax wx hS hT' hd K' J => ?_) ?_; rotate_left 1
   ·have r17 := Tv hd 0 4 17; obtain ⟨_, _, _, _, _, _⟩ := bT hT'
    refine o1 r17 fun ρ q17 => ?_; go_simp;
    exact Jo J hT'
   refine SeqOps.val ?_ (Sp fun ax wx hS hT' hd K' J => ?_) ?_; rotate_left 1
   ·have r1 := hS.at 1 (by decide) (hE.at 1 rfl); obtain ⟨_, _, _, _, _, _⟩ := bT hT'
    refine o1 r1 fun ρ q1 => ?_; go_simp;
    exact Jo J hT'
   refine SeqOps.val ?_ (Sp fun ax wx hS hT' hd K' J => ?_) ?_; rotate_left 1
   ·have r18 := Tv hd 1 5 18; have r19 := Tv hd 0 6 19; obtain ⟨_, _, _, _, _, _⟩ := bT hT'
    refine o2 r18 r19 fun ρ q18 q19 => ?_; go_simp; (try go_bits);
    exact Jo J hT'
   refine SeqOps.val ?_ (Sp fun ax wx hS hT' hd K' J => ?_) ?_; rotate_left 1
   ·have r20 := Tv hd 0 7 20; obtain ⟨_, _, _, _, _, _⟩ := bT hT'
    refine o1 r20 fun ρ q20 => ?_; go_simp;
    exact Jo J hT'
   refine SeqOps.val ?_ (Sp fun ax wx hS hT' hd K' J => ?_) ?_; rotate_left 1
   ·have r3 := hS.at 3 (by decide) (hE.at 3 rfl); obtain ⟨_, _, _, _, _, _⟩ := bT hT'
    refine o1 r3 fun ρ q3 => ?_; go_simp;
    exact Jo J hT'
   refine SeqOps.val ?_ (Sp fun ax wx hS hT' hd K' J => ?_) ?_; rotate_left 1
   ·have r22 := Tv hd 0 9 22; obtain ⟨_, _, _, _, _, _⟩ := bT hT'
    refine o1 r22 fun ρ q22 => ?_; go_simp;
    exact Jo J hT'
   refine SeqOps.val ?_ (Sp fun ax wx hS hT' hd K' J => ?_) ?_; rotate_left 1
   ·have r23 := Tv hd 0 10 23; obtain ⟨_, _, _, _, _, _⟩ := bT hT'
    refine o1 r23 fun ρ q23 => ?_; go_simp;
    exact Jo J hT'
   refine SeqOps.val ?_ (Sp fun ax wx hS hT' hd K' J => ?_) ?_; rotate_left 1
   ·have r2 := hS.at 2 (by decide) (hE.at 2 rfl); obtain ⟨_, _, _, _, _, _⟩ := bT hT'
    refine o1 r2 fun ρ q2 => ?_; go_simp;
    exact Jo J hT'
   refine SeqOps.val ?_ (Sp fun ax wx hS hT' hd K' J => ?_) ?_; rotate_left 1
   ·have r24 := Tv hd 1 11 24; have r25 := Tv hd 0 12 25; obtain ⟨_, _, _, _, _, _⟩ := bT hT'
    refine o2 r24 r25 fun ρ q24 q25 => ?_; go_simp; (try go_bits);
    exact Jo J hT'
   refine SeqOps.val ?_ (Sp fun ax wx hS hT' hd K' J => ?_) ?_; rotate_left 1
   ·have r26 := Tv hd 0 13 26; obtain ⟨_, _, _, _, _, _⟩ := bT hT'
    refine o1 r26 fun ρ q26 => ?_; go_simp;
    exact Jo J hT'
   refine SeqOps.val ?_ (Sp fun ax wx hS hT' hd K' J => ?_) ?_; rotate_left 1
   ·have r14 := Tv hd 13 1 14; have r15 := Tv hd 12 2 15; have r21 := Tv hd 6 8 21; have r27 := Tv hd 0 14 27; obtain ⟨_, _, _, _, _, _⟩ := bT hT'
    refine op_run (fun ρ hρ qc qf qg => ?_); have q14 := rho hρ r14; have q15 := rho hρ r15; have q21 := rho hρ r21; have q27 := rho hρ r27; clear hρ; go_simp; (try go_bits);
    go_at_call 85; refine (inOneBook_any A cap (some ⟨bx, ox, none⟩) lcap b u0 u1 u2 u3 u4 u5 u6 u7 u8 X Y _).mono ?_; rintro e g1 ⟨rfl, k1⟩
    refine J.out _ _ _ rfl ?_ (hT'.trans (k1.mono hT'.size)) k1; rfl
   refine SeqOps.nil ?_
   intro w6 hBl; (repeat refine Ek ?_)
   refine fun ax hEx => ?_
   simp only [lk, pick, Nat.reduceEqDiff, ↓reduceIte] at hEx
   refine Ld [1, 2, 3, 9, 10, 28] hEx hK fun a hE => ?_; clear hK K Q' hEx
   have hB6 := hB5.trans (hBl.mono hB5.size)
   refine Ks ?_
   refine cond_part hE (t := 28) rfl (fun h => ?_) (fun h => ?_)
   ·refine Ks ?_
    refine Rs 1 fun Q' K hK => ?_
    refine M0 fun K' J ρ => ?_; go_simp;
    refine Ln hE J fun _ Eb => ?_; clear J K' hE a
    refine Ld [6] Eb hK fun a hE => ?_; clear hK K Q' Eb
    refine Ks ?_
    refine ret_one hE rfl rfl ⟨ret_bool ?_, hb2.trans (hB6.mono hb2.size)⟩
    unfold canL
    rw [h]; rfl
   ·refine Ks ?_
    refine Rs 2 fun Q' K hK => ?_
    refine M1 hE 10 fun K' J ρ q10 => ?_; go_simp; (try go_bits); (try simp (disch := omega) only [IntWalk.i64_in])
    refine Ln hE J fun _ Eb => ?_; clear J K' hE a q10
    refine M1 Eb 29 fun K' J ρ q29 => ?_; go_simp
    refine Ln Eb J fun _ Ea => ?_; clear J K' Eb q29
    refine Ld [1, 2, 3, 9, 10] Ea hK fun a hE => ?_; clear hK K Q' Ea
    refine Ks ?_
    exact ⟨1, ⟨by omega, by simpa using hE, hB6, fun _ => h, fun q => absurd q (by omega), fun q => absurd q (by omega)⟩, by omega⟩
  ·have iF : ∀ w, (Instr.index 101 (.agg #[.func (.func 85) #[] #[], .func (.func 86) #[] #[], .func (.func 87) #[] #[]]) (.int .i64 1)).run Tryz.prog w = .ok (.agg #[.func (.func 86) #[] #[]]) w := fun _ => by kernel_rfl
   refine Ks ?_
   refine Rs 3 fun Q' K hK => ?_
   refine M2 hE 9 10 fun K' J ρ q9 q10 => ?_; go_simp; (try go_bits)
   refine Ln hE J fun _ Eb => ?_; clear J K' hE a q9 q10
   refine M0 fun K' J ρ => ?_; go_simp;
   refine Ln Eb J fun _ Ea => ?_; clear J K' Eb
   refine M2 Ea 8 12 fun K' J ρ q8 q12 => ?_; go_simp; (try clear q8 q12)
   refine late_skip Ea J (fun _ Eb => ?_); clear J K'; clear Ea
   refine Ld [1, 2, 3, 8, 9, 10] Eb hK fun a hE => ?_; clear hK K Q' Eb
   clear iF
   obtain ⟨F, hFe⟩ : ∃ B, B = wr.heap.size := ⟨_, rfl⟩
   rw [← hFe] at hE
   refine world_cut (fun wt => Below wr.heap.size wr wt ∧ Cells wt F [.func (.func 86) #[] #[]]) (by rw [hFe]; exact ⟨(Below.refl _ _).alloc (Nat.le_refl _) _, cells_new _ _ _⟩) (fun w5 hCut => ?_)
   obtain ⟨hb5, hCF⟩ := hCut
   clear hFe
   have hB5 := hBr.trans (hb5.mono hBr.size)
   have hbr5 := hb2.trans (hB5.mono hb2.size)
   have hM5 := hM.below hbr5
   have hCC := hCB.below hB5
   have nC := hCC.1; have cC0 := hCC.2 0 _ rfl; have cC1 := hCC.2 1 _ rfl; have cC2 := hCC.2 2 _ rfl; have cC3 := hCC.2 3 _ rfl; have cC4 := hCC.2 4 _ rfl; have cC5 := hCC.2 5 _ rfl; have cC6 := hCC.2 6 _ rfl; have cC7 := hCC.2 7 _ rfl; have cC8 := hCC.2 8 _ rfl; have cC9 := hCC.2 9 _ rfl; have cC10 := hCC.2 10 _ rfl; have cC11 := hCC.2 11 _ rfl; have cC12 := hCC.2 12 _ rfl; have cC13 := hCC.2 13 _ rfl; have cC14 := hCC.2 14 _ rfl; have cC15 := hCC.2 15 _ rfl
   obtain ⟨nF, cF0⟩ := hCF.c1
   have nbx : bx < w5.heap.size := Nat.lt_of_lt_of_le hbx hbr5.size
   have x0' := (hbr5.cell (p := ⟨bx, ox + x * 3, none⟩) hbx).trans x0
   have x1' := (hbr5.cell (p := ⟨bx, ox + x * 3 + 1, none⟩) hbx).trans x1
   have x2' := (hbr5.cell (p := ⟨bx, ox + x * 3 + 2, none⟩) hbx).trans x2
   have y0' := (hbr5.cell (p := ⟨bx, ox + y * 3, none⟩) hbx).trans y0
   have y1' := (hbr5.cell (p := ⟨bx, ox + y * 3 + 1, none⟩) hbx).trans y1
   have y2' := (hbr5.cell (p := ⟨bx, ox + y * 3 + 2, none⟩) hbx).trans y2
   clear x0 x1 x2 y0 y1 y2 hbx
   refine Ks ?_
   refine Rd [] (fun wt => Below w5.heap.size w5 wt) (fun w1 w2 => Below w1.heap.size w1 w2) [(0, some 13), (1, some 14), (2, some 15), (3, some 16), (4, some 17), (5, some 18), (6, some 19), (7, some 20), (8, some 21), (9, some 22), (10, some 23), (11, some 24), (12, some 25), (13, some 26), (14, some 27), (15, some 28)] [13, 14, 15, 16, 17, 18, 19, 20, 21, 22, 23, 24, 25, 26, 27, 28] #[true, true, true, true, true, true, true, true, true, true, true, true, true, true, true, true] [1, 2, 3, 9, 10] hE ((Below.refl _ _).drew) fun Q' K hK => ?_
   refine SeqOps.val ?_ (Sp fun ax wx hS hT' hd K' J => ?_) ?_; rotate_left 1
   ·have r8 := hS.at 8 (by decide) (hE.at 8 rfl); obtain ⟨_, _, _, _, _, _⟩ := bT hT'
    refine o1 r8 fun ρ q8 => ?_; go_simp;
    exact Jo J hT'
   refine SeqOps.val ?_ (Sp fun ax wx hS hT' hd K' J => ?_) ?_; rotate_left 1
   ·have r13 := Tv hd 0 0 13; obtain ⟨_, _, _, _, _, _⟩ := bT hT'
    refine o1 r13 fun ρ q13 => ?_; go_simp;
    exact Jo J hT'
   refine SeqOps.val ?_ (Sp fun ax wx hS hT' hd K' J => ?_) ?_; rotate_left 1
   ·have r3 := hS.at 3 (by decide) (hE.at 3 rfl); obtain ⟨_, _, _, _, _, _⟩ := bT hT'
    refine o1 r3 fun ρ q3 => ?_; go_simp;
    exact Jo J hT'
   refine SeqOps.val ?_ (Sp fun ax wx hS hT' hd K' J => ?_) ?_; rotate_left 1
   ·have r3 := hS.at 3 (by decide) (hE.at 3 rfl); obtain ⟨_, _, _, _, _, _⟩ := bT hT'
    refine o1 r3 fun ρ q3 => ?_; go_simp;
    exact Jo J hT'
   refine SeqOps.val ?_ (Sp fun ax wx hS hT' hd K' J => ?_) ?_; rotate_left 1
   ·have r16 := Tv hd 0 3 16; obtain ⟨_, _, _, _, _, _⟩ := bT hT'
    refine o1 r16 fun ρ q16 => ?_; go_simp;
    exact Jo J hT'
   refine SeqOps.val ?_ (Sp fun ax wx hS hT' hd K' J => ?_) ?_; rotate_left 1
   ·have r17 := Tv hd 0 4 17; obtain ⟨_, _, _, _, _, _⟩ := bT hT'
    refine o1 r17 fun ρ q17 => ?_; go_simp;
    exact Jo J hT'
   refine SeqOps.val ?_ (Sp fun ax wx hS hT' hd K' J => ?_) ?_; rotate_left 1
   ·have r1 := hS.at 1 (by decide) (hE.at 1 rfl); obtain ⟨_, _, _, _, _, _⟩ := bT hT'
    refine o1 r1 fun ρ q1 => ?_; go_simp;
    exact Jo J hT'
   refine SeqOps.val ?_ (Sp fun ax wx hS hT' hd K' J => ?_) ?_; rotate_left 1
   ·have r18 := Tv hd 1 5 18; have r19 := Tv hd 0 6 19; obtain ⟨_, _, _, _, _, _⟩ := bT hT'
    refine o2 r18 r19 fun ρ q18 q19 => ?_; go_simp; (try go_bits);
    exact Jo J hT'
   refine SeqOps.val ?_ (Sp fun ax wx hS hT' hd K' J => ?_) ?_; rotate_left 1
   ·have r20 := Tv hd 0 7 20; obtain ⟨_, _, _, _, _, _⟩ := bT hT'
    refine o1 r20 fun ρ q20 => ?_; go_simp;
    exact Jo J hT'
   refine SeqOps.val ?_ (Sp fun ax wx hS hT' hd K' J => ?_) ?_; rotate_left 1
   ·have r3 := hS.at 3 (by decide) (hE.at 3 rfl); obtain ⟨_, _, _, _, _, _⟩ := bT hT'
    refine o1 r3 fun ρ q3 => ?_; go_simp;
    exact Jo J hT'
   refine SeqOps.val ?_ (Sp fun ax wx hS hT' hd K' J => ?_) ?_; rotate_left 1
   ·have r22 := Tv hd 0 9 22; obtain ⟨_, _, _, _, _, _⟩ := bT hT'
    refine o1 r22 fun ρ q22 => ?_; go_simp;
    exact Jo J hT'
   refine SeqOps.val ?_ (Sp fun ax wx hS hT' hd K' J => ?_) ?_; rotate_left 1
   ·have r23 := Tv hd 0 10 23; obtain ⟨_, _, _, _, _, _⟩ := bT hT'
    refine o1 r23 fun ρ q23 => ?_; go_simp;
    exact Jo J hT'
   refine SeqOps.val ?_ (Sp fun ax wx hS hT' hd K' J => ?_) ?_; rotate_left 1
   ·have r2 := hS.at 2 (by decide) (hE.at 2 rfl); obtain ⟨_, _, _, _, _, _⟩ := bT hT'
    refine o1 r2 fun ρ q2 => ?_; go_simp;
    exact Jo J hT'
   refine SeqOps.val ?_ (Sp fun ax wx hS hT' hd K' J => ?_) ?_; rotate_left 1
   ·have r24 := Tv hd 1 11 24; have r25 := Tv hd 0 12 25; obtain ⟨_, _, _, _, _, _⟩ := bT hT'
    refine o2 r24 r25 fun ρ q24 q25 => ?_; go_simp; (try go_bits);
    exact Jo J hT'
   refine SeqOps.val ?_ (Sp fun ax wx hS hT' hd K' J => ?_) ?_; rotate_left 1
   ·have r26 := Tv hd 0 13 26; obtain ⟨_, _, _, _, _, _⟩ := bT hT'
    refine o1 r26 fun ρ q26 => ?_; go_simp;
    exact Jo J hT'
   refine SeqOps.val ?_ (Sp fun ax wx hS hT' hd K' J => ?_) ?_; rotate_left 1
   ·have r14 := Tv hd 13 1 14; have r15 := Tv hd 12 2 15; have r21 := Tv hd 6 8 21; have r27 := Tv hd 0 14 27; obtain ⟨_, _, _, _, _, _⟩ := bT hT'
    refine op_run (fun ρ hρ qc qf qg => ?_); have q14 := rho hρ r14; have q15 := rho hρ r15; have q21 := rho hρ r21; have q27 := rho hρ r27; clear hρ; go_simp; (try go_bits);
    go_at_call 86; refine (offTheWay_any A cap (some ⟨bx, ox, none⟩) lcap b u0 u1 u2 u3 u4 u5 u6 u7 u8 X Y _ hmx hmy).mono ?_; rintro e g1 ⟨rfl, k1⟩
    refine J.out _ _ _ rfl ?_ (hT'.trans (k1.mono hT'.size)) k1; rfl
   refine SeqOps.nil ?_
   intro w6 hBl; (repeat refine Ek ?_)
   refine fun ax hEx => ?_
   simp only [lk, pick, Nat.reduceEqDiff, ↓reduceIte] at hEx
   refine Ld [1, 2, 3, 9, 10, 28] hEx hK fun a hE => ?_; clear hK K Q' hEx
   have hB6 := hB5.trans (hBl.mono hB5.size)
   refine Ks ?_
   refine cond_part hE (t := 28) rfl (fun h => ?_) (fun h => ?_)
   ·refine Ks ?_
    refine Rs 1 fun Q' K hK => ?_
    refine M0 fun K' J ρ => ?_; go_simp;
    refine Ln hE J fun _ Eb => ?_; clear J K' hE a
    refine Ld [6] Eb hK fun a hE => ?_; clear hK K Q' Eb
    refine Ks ?_
    refine ret_one hE rfl rfl ⟨ret_bool ?_, hb2.trans (hB6.mono hb2.size)⟩
    unfold canL
    rw [h]; simp
   ·refine Ks ?_
    refine Rs 2 fun Q' K hK => ?_
    refine M1 hE 10 fun K' J ρ q10 => ?_; go_simp; (try go_bits); (try simp (disch := omega) only [IntWalk.i64_in])
    refine Ln hE J fun _ Eb => ?_; clear J K' hE a q10
    refine M1 Eb 29 fun K' J ρ q29 => ?_; go_simp
    refine Ln Eb J fun _ Ea => ?_; clear J K' Eb q29
    refine Ld [1, 2, 3, 9, 10] Ea hK fun a hE => ?_; clear hK K Q' Ea
    refine Ks ?_
    exact ⟨2, ⟨by omega, by simpa using hE, hB6, fun _ => H1.out (by omega), fun _ => h, fun q => absurd q (by omega)⟩, by omega⟩
  ·have iF : ∀ w, (Instr.index 101 (.agg #[.func (.func 85) #[] #[], .func (.func 86) #[] #[], .func (.func 87) #[] #[]]) (.int .i64 2)).run Tryz.prog w = .ok (.agg #[.func (.func 87) #[] #[]]) w := fun _ => by kernel_rfl
   refine Ks ?_
   refine Rs 3 fun Q' K hK => ?_
   refine M2 hE 9 10 fun K' J ρ q9 q10 => ?_; go_simp; (try go_bits)
   refine Ln hE J fun _ Eb => ?_; clear J K' hE a q9 q10
   refine M0 fun K' J ρ => ?_; go_simp;
   refine Ln Eb J fun _ Ea => ?_; clear J K' Eb
   refine M2 Ea 8 12 fun K' J ρ q8 q12 => ?_; go_simp; (try clear q8 q12)
   refine late_skip Ea J (fun _ Eb => ?_); clear J K'; clear Ea
   refine Ld [1, 2, 3, 8, 9, 10] Eb hK fun a hE => ?_; clear hK K Q' Eb
   clear iF
   obtain ⟨F, hFe⟩ : ∃ B, B = wr.heap.size := ⟨_, rfl⟩
   rw [← hFe] at hE
   refine world_cut (fun wt => Below wr.heap.size wr wt ∧ Cells wt F [.func (.func 87) #[] #[]]) (by rw [hFe]; exact ⟨(Below.refl _ _).alloc (Nat.le_refl _) _, cells_new _ _ _⟩) (fun w5 hCut => ?_)
   obtain ⟨hb5, hCF⟩ := hCut
   clear hFe
   have hB5 := hBr.trans (hb5.mono hBr.size)
   have hbr5 := hb2.trans (hB5.mono hb2.size)
   have hM5 := hM.below hbr5
   have hCC := hCB.below hB5
   have nC := hCC.1; have cC0 := hCC.2 0 _ rfl; have cC1 := hCC.2 1 _ rfl; have cC2 := hCC.2 2 _ rfl; have cC3 := hCC.2 3 _ rfl; have cC4 := hCC.2 4 _ rfl; have cC5 := hCC.2 5 _ rfl; have cC6 := hCC.2 6 _ rfl; have cC7 := hCC.2 7 _ rfl; have cC8 := hCC.2 8 _ rfl; have cC9 := hCC.2 9 _ rfl; have cC10 := hCC.2 10 _ rfl; have cC11 := hCC.2 11 _ rfl; have cC12 := hCC.2 12 _ rfl; have cC13 := hCC.2 13 _ rfl; have cC14 := hCC.2 14 _ rfl; have cC15 := hCC.2 15 _ rfl
   obtain ⟨nF, cF0⟩ := hCF.c1
   have nbx : bx < w5.heap.size := Nat.lt_of_lt_of_le hbx hbr5.size
   have x0' := (hbr5.cell (p := ⟨bx, ox + x * 3, none⟩) hbx).trans x0
   have x1' := (hbr5.cell (p := ⟨bx, ox + x * 3 + 1, none⟩) hbx).trans x1
   have x2' := (hbr5.cell (p := ⟨bx, ox + x * 3 + 2, none⟩) hbx).trans x2
   have y0' := (hbr5.cell (p := ⟨bx, ox + y * 3, none⟩) hbx).trans y0
   have y1' := (hbr5.cell (p := ⟨bx, ox + y * 3 + 1, none⟩) hbx).trans y1
   have y2' := (hbr5.cell (p := ⟨bx, ox + y * 3 + 2, none⟩) hbx).trans y2
   clear x0 x1 x2 y0 y1 y2 hbx
   refine Ks ?_
   refine Rd [] (fun wt => Below w5.heap.size w5 wt) (fun w1 w2 => Below w1.heap.size w1 w2) [(0, some 13), (1, some 14), (2, some 15), (3, some 16), (4, some 17), (5, some 18), (6, some 19), (7, some 20), (8, some 21), (9, some 22), (10, some 23), (11, some 24), (12, some 25), (13, some 26), (14, some 27), (15, some 28)] [13, 14, 15, 16, 17, 18, 19, 20, 21, 22, 23, 24, 25, 26, 27, 28] #[true, true, true, true, true, true, true, true, true, true, true, true, true, true, true, true] [1, 2, 3, 9, 10] hE ((Below.refl _ _).drew) fun Q' K hK => ?_
   refine SeqOps.val ?_ (Sp fun ax wx hS hT' hd K' J => ?_) ?_; rotate_left 1
   ·have r8 := hS.at 8 (by decide) (hE.at 8 rfl); obtain ⟨_, _, _, _, _, _⟩ := bT hT'
    refine o1 r8 fun ρ q8 => ?_; go_simp;
    exact Jo J hT'
   refine SeqOps.val ?_ (Sp fun ax wx hS hT' hd K' J => ?_) ?_; rotate_left 1
   ·have r13 := Tv hd 0 0 13; obtain ⟨_, _, _, _, _, _⟩ := bT hT'
    refine o1 r13 fun ρ q13 => ?_; go_simp;
    exact Jo J hT'
   refine SeqOps.val ?_ (Sp fun ax wx hS hT' hd K' J => ?_) ?_; rotate_left 1
   ·have r3 := hS.at 3 (by decide) (hE.at 3 rfl); obtain ⟨_, _, _, _, _, _⟩ := bT hT'
    refine o1 r3 fun ρ q3 => ?_; go_simp;
    exact Jo J hT'
   refine SeqOps.val ?_ (Sp fun ax wx hS hT' hd K' J => ?_) ?_; rotate_left 1
   ·have r3 := hS.at 3 (by decide) (hE.at 3 rfl); obtain ⟨_, _, _, _, _, _⟩ := bT hT'
    refine o1 r3 fun ρ q3 => ?_; go_simp;
    exact Jo J hT'
   refine SeqOps.val ?_ (Sp fun ax wx hS hT' hd K' J => ?_) ?_; rotate_left 1
   ·have r16 := Tv hd 0 3 16; obtain ⟨_, _, _, _, _, _⟩ := bT hT'
    refine o1 r16 fun ρ q16 => ?_; go_simp;
    exact Jo J hT'
   refine SeqOps.val ?_ (Sp fun ax wx hS hT' hd K' J => ?_) ?_; rotate_left 1
   ·have r17 := Tv hd 0 4 17; obtain ⟨_, _, _, _, _, _⟩ := bT hT'
    refine o1 r17 fun ρ q17 => ?_; go_simp;
    exact Jo J hT'
   refine SeqOps.val ?_ (Sp fun ax wx hS hT' hd K' J => ?_) ?_; rotate_left 1
   ·have r1 := hS.at 1 (by decide) (hE.at 1 rfl); obtain ⟨_, _, _, _, _, _⟩ := bT hT'
    refine o1 r1 fun ρ q1 => ?_; go_simp;
    exact Jo J hT'
   refine SeqOps.val ?_ (Sp fun ax wx hS hT' hd K' J => ?_) ?_; rotate_left 1
   ·have r18 := Tv hd 1 5 18; have r19 := Tv hd 0 6 19; obtain ⟨_, _, _, _, _, _⟩ := bT hT'
    refine o2 r18 r19 fun ρ q18 q19 => ?_; go_simp; (try go_bits);
    exact Jo J hT'
   refine SeqOps.val ?_ (Sp fun ax wx hS hT' hd K' J => ?_) ?_; rotate_left 1
   ·have r20 := Tv hd 0 7 20; obtain ⟨_, _, _, _, _, _⟩ := bT hT'
    refine o1 r20 fun ρ q20 => ?_; go_simp;
    exact Jo J hT'
   refine SeqOps.val ?_ (Sp fun ax wx hS hT' hd K' J => ?_) ?_; rotate_left 1
   ·have r3 := hS.at 3 (by decide) (hE.at 3 rfl); obtain ⟨_, _, _, _, _, _⟩ := bT hT'
    refine o1 r3 fun ρ q3 => ?_; go_simp;
    exact Jo J hT'
   refine SeqOps.val ?_ (Sp fun ax wx hS hT' hd K' J => ?_) ?_; rotate_left 1
   ·have r22 := Tv hd 0 9 22; obtain ⟨_, _, _, _, _, _⟩ := bT hT'
    refine o1 r22 fun ρ q22 => ?_; go_simp;
    exact Jo J hT'
   refine SeqOps.val ?_ (Sp fun ax wx hS hT' hd K' J => ?_) ?_; rotate_left 1
   ·have r23 := Tv hd 0 10 23; obtain ⟨_, _, _, _, _, _⟩ := bT hT'
    refine o1 r23 fun ρ q23 => ?_; go_simp;
    exact Jo J hT'
   refine SeqOps.val ?_ (Sp fun ax wx hS hT' hd K' J => ?_) ?_; rotate_left 1
   ·have r2 := hS.at 2 (by decide) (hE.at 2 rfl); obtain ⟨_, _, _, _, _, _⟩ := bT hT'
    refine o1 r2 fun ρ q2 => ?_; go_simp;
    exact Jo J hT'
   refine SeqOps.val ?_ (Sp fun ax wx hS hT' hd K' J => ?_) ?_; rotate_left 1
   ·have r24 := Tv hd 1 11 24; have r25 := Tv hd 0 12 25; obtain ⟨_, _, _, _, _, _⟩ := bT hT'
    refine o2 r24 r25 fun ρ q24 q25 => ?_; go_simp; (try go_bits);
    exact Jo J hT'
   refine SeqOps.val ?_ (Sp fun ax wx hS hT' hd K' J => ?_) ?_; rotate_left 1
   ·have r26 := Tv hd 0 13 26; obtain ⟨_, _, _, _, _, _⟩ := bT hT'
    refine o1 r26 fun ρ q26 => ?_; go_simp;
    exact Jo J hT'
   refine SeqOps.val ?_ (Sp fun ax wx hS hT' hd K' J => ?_) ?_; rotate_left 1
   ·have r14 := Tv hd 13 1 14; have r15 := Tv hd 12 2 15; have r21 := Tv hd 6 8 21; have r27 := Tv hd 0 14 27; obtain ⟨_, _, _, _, _, _⟩ := bT hT'
    refine op_run (fun ρ hρ qc qf qg => ?_); have q14 := rho hρ r14; have q15 := rho hρ r15; have q21 := rho hρ r21; have q27 := rho hρ r27; clear hρ; go_simp; (try go_bits);
    go_at_call 87; refine (heardApart_any A cap (some ⟨bx, ox, none⟩) lcap b u0 u1 u2 u3 u4 u5 u6 u7 u8 X Y _ (hM5.below hT') hs hsx hsy).mono ?_; rintro e g1 ⟨rfl, k1⟩
    refine J.out _ _ _ rfl ?_ (hT'.trans (k1.mono hT'.size)) k1; rfl
   refine SeqOps.nil ?_
   intro w6 hBl; (repeat refine Ek ?_)
   refine fun ax hEx => ?_
   simp only [lk, pick, Nat.reduceEqDiff, ↓reduceIte] at hEx
   refine Ld [1, 2, 3, 9, 10, 28] hEx hK fun a hE => ?_; clear hK K Q' hEx
   have hB6 := hB5.trans (hBl.mono hB5.size)
   refine Ks ?_
   refine cond_part hE (t := 28) rfl (fun h => ?_) (fun h => ?_)
   ·refine Ks ?_
    refine Rs 1 fun Q' K hK => ?_
    refine M0 fun K' J ρ => ?_; go_simp;
    refine Ln hE J fun _ Eb => ?_; clear J K' hE a
    refine Ld [6] Eb hK fun a hE => ?_; clear hK K Q' Eb
    refine Ks ?_
    refine ret_one hE rfl rfl ⟨ret_bool ?_, hb2.trans (hB6.mono hb2.size)⟩
    unfold canL
    have h' : heardB b X Y = false := by simpa using h
    rw [h']; simp
   ·refine Ks ?_
    refine Rs 2 fun Q' K hK => ?_
    refine M1 hE 10 fun K' J ρ q10 => ?_; go_simp; (try go_bits); (try simp (disch := omega) only [IntWalk.i64_in])
    refine Ln hE J fun _ Eb => ?_; clear J K' hE a q10
    refine M1 Eb 29 fun K' J ρ q29 => ?_; go_simp
    refine Ln Eb J fun _ Ea => ?_; clear J K' Eb q29
    refine Ld [1, 2, 3, 9, 10] Ea hK fun a hE => ?_; clear hK K Q' Ea
    refine Ks ?_
    exact ⟨3, ⟨by omega, by simpa using hE, hB6, fun _ => H1.out (by omega), fun _ => H2.out (by omega), fun _ => by simpa using h⟩, by omega⟩
 ·have hkk : k = 3 := by have := of_decide_eq_false h; omega
  subst hkk
  refine Ks ?_
  refine Rs 1 fun Q' K hK => ?_
  refine M0 fun K' J ρ => ?_; go_simp;
  refine Ln hE J fun _ Eb => ?_; clear J K' hE a
  refine Ld [6] Eb hK fun a hE => ?_; clear hK K Q' Eb
  refine Ks ?_
  refine ret_one hE rfl rfl ⟨ret_bool ?_, hbr⟩
  unfold canL
  rw [H1.out (by omega), H2.out (by omega), H3.out (by omega)]; rfl
end
end Go.Proofs.YtbimkcjdodgojaaGreat
