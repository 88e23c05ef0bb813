/- Name: the law's drawn: pairs that numbers choose. -/
import Derived.Test.YtbimkcjdodgojaaNcc
import Derived.Test.YtbimkcjdodgojaaYa
import Derived.Test.YtbimkcjdodgojaaNo
import Derived.Test.YtbimkcjdodgojaaBn
import Derived.Test.YtbimkcjdodgojaaNy
namespace Go.Proofs.Ytbimkcjdodgojaa
set_option linter.unusedSimpArgs false
set_option linter.unusedVariables false
open Go Go.RowKit
attribute [local go_sem high] cell_set_wr
attribute [local go_sem low] cell_wr frozen_wr
attribute [local go_sem] wr_set wr_drew wr_drewN wr_alloc wr_new Rho.c Rho.n Rho.g

theorem OkP.len {cs : List (List Nat)} : ∀ {k m : Nat} {u s : Prs}, OkP cs k m u s → k + s.length ≤ m ∨ s = []
 | _, _, _, [], _ => .inr rfl
 | k, m, u, p :: s, ⟨h1, h2, _, _, h5⟩ => .inl (by
  rcases h5.len with h | h
  ·simp only [List.length_cons]; omega
  ·subst h; simp only [List.length_singleton]; omega)
theorem or64 (s n : Nat) (hs : s < 512) (hn : n < 512) : bits .or .i64 (s : Int) (n : Int) = ((s ||| n : Nat) : Int) := by
 have h1 : s ||| n < 2 ^ 9 := Nat.or_lt_two_pow (by simpa using hs) (by simpa using hn)
 have e : ∀ m : Nat, (BitVec.ofInt 64 (m : Int)) = BitVec.ofNat 64 m := fun m => by
  apply BitVec.eq_of_toNat_eq
  simp [BitVec.toNat_ofInt, BitVec.toNat_ofNat]
  try omega
 have h2 : bits .or .i64 (s : Int) (n : Int) = IntKind.i64.wrap (((BitVec.ofInt 64 (s : Int)) ||| (BitVec.ofInt 64 (n : Int))).toNat : Int) := rfl
 rw [h2, e, e, BitVec.toNat_or, BitVec.toNat_ofNat, BitVec.toNat_ofNat, Nat.mod_eq_of_lt (a := s) (Nat.lt_trans hs (by decide)), Nat.mod_eq_of_lt (a := n) (Nat.lt_trans hn (by decide))]
 generalize s ||| n = q at h1
 have : IntKind.i64.wrap (q : Int) = q := IntWalk.i64_in _ ⟨by omega, by have : q < 512 := h1; omega⟩
 exact this
theorem hasB_bit (s o : Nat) : hasB s o = s.testBit o := by
 unfold hasB
 rw [Nat.testBit_eq_decide_div_mod_eq]
 rfl
theorem has_or (s k o : Nat) : hasB (s ||| 2 ^ k) o = (hasB s o || k == o) := by
 rw [hasB_bit, hasB_bit, Nat.testBit_or, Nat.testBit_two_pow]
 rfl
theorem used_snoc (t : Prs) (i k o : Nat) : usedP (t ++ [(i, k)]) o = (usedP t o || k == o) := by
 unfold usedP
 rw [List.any_append]
 simp
theorem pow_lt (k : Nat) (h : k < 9) : 2 ^ k < 512 := by
 have : k = 0 ∨ k = 1 ∨ k = 2 ∨ k = 3 ∨ k = 4 ∨ k = 5 ∨ k = 6 ∨ k = 7 ∨ k = 8 := by omega
 rcases this with e | e | e | e | e | e | e | e | e <;> subst e <;> decide
theorem wrap_pow (k : Nat) (h : k < 9) : wrap64 (2 ^ k) = ((2 ^ k : Nat) : Int) := by
 have : k = 0 ∨ k = 1 ∨ k = 2 ∨ k = 3 ∨ k = 4 ∨ k = 5 ∨ k = 6 ∨ k = 7 ∨ k = 8 := by omega
 rcases this with e | e | e | e | e | e | e | e | e <;> subst e <;> simp [wrap64]
theorem can_in {b : Bk} (ho : b.ok = true) {i k : Nat} (hi : i < b.lines.length) (hk : k < b.lines.length) : pCanR b i k = (canL b (b.lines.getD i zeroLn) (b.lines.getD k zeroLn), 0) := by
 have hb : ∀ j, j < b.lines.length → lineOfB b (j : Int) 0 1 = true := fun j hj => by
  have hl : lineB b.lines[j] = true := by
   unfold Bk.ok at ho
   rw [Bool.and_eq_true, Bool.and_eq_true] at ho
   exact List.all_eq_true.1 ho.2.2 _ (List.getElem_mem hj)
  have e : b.at (j : Int) = b.lines[j] := by unfold Bk.at; rw [Int.toNat_natCast, List.getD_eq_getElem?_getD]; simp [hj]
  unfold lineOfB inLines
  rw [e]
  unfold lineB at hl
  simp only [Bool.and_eq_true, decide_eq_true_eq] at hl ⊢
  exact ⟨⟨by omega, by omega⟩, hl.1.1.1, hl.1.1.2⟩
 unfold pCanR
 rw [ho, hb i hi, hb k hk]
 rfl
/-- a new element, apart from a row -/
def NewE (X : Option Nat) (cs : List Value) (v : Value) (w : World) : Prop := ∃ G, v = .slice (some ⟨G, 0, none⟩) 1 1 ∧ some G ≠ X ∧ G < w.heap.size ∧ Arr w w.heap.size (some ⟨G, 0, none⟩) cs
theorem NewE.below {X : Option Nat} {cs : List Value} {v : Value} {w w' : World} (h : NewE X cs v w) (hb : Below w.heap.size w w') : NewE X cs v w' := by
 obtain ⟨G, h1, h2, h3, h4⟩ := h
 exact ⟨G, h1, h2, Nat.lt_of_lt_of_le h3 hb.size, (h4.below hb).more hb.size⟩
theorem NewE.grown {X : Option Nat} {cs : List Value} {v : Value} {w w' : World} (h : NewE X cs v w) (hb : w.grownBy w' X) : NewE X cs v w' := by
 obtain ⟨G, h1, h2, h3, h4⟩ := h
 refine ⟨G, h1, h2, Nat.lt_of_lt_of_le h3 hb.size, fun hx => ?_⟩
 obtain ⟨b, o, e, q1, q2⟩ := h4 hx
 refine ⟨b, o, e, Nat.lt_of_lt_of_le q1 hb.size, fun j u hu => ?_⟩
 cases e
 rw [World.cell?_of_block (hb.block G h3 h2)]
 exact q2 j u hu
/-- a row with one more element -/
def RowE (N n : Nat) (xs : List Value) (v : Value) (w : World) : Prop := ∃ A c, v = .slice A n c ∧ w.ownsRow N 51 2 (.slice A n c) n xs
theorem RowE.below {N n : Nat} {xs : List Value} {v : Value} {w w' : World} (h : RowE N n xs v w) (hb : Below w.heap.size w w') : RowE N n xs v w' := by
 obtain ⟨A, c, h1, h2⟩ := h
 exact ⟨A, c, h1, own_below h2 hb⟩
section
variable (A : Option Addr) (cap : Nat) (L : Option Addr) (lcap : Nat) (b : Bk)
set_option maxRecDepth 100000 in
set_option maxHeartbeats 4000000 in
theorem drawn_any (ho : b.ok = true) (T : Option Addr) (tc : Nat) (ns : List Int) (w : World) (hM : BkAt w A L b) (hs : b.small cap lcap) (hT : Arr w w.heap.size T (ints ns)) (hn : ns.length ≤ 9223372036854775807) :
    Calls Try.prog 29 #[.agg (bkV A cap L lcap b).toArray, .slice T ns.length tc] w fun e w' => (∃ (O : Option Addr) (oc : Nat) (t : Prs), e = .returned (.slice O t.length oc) ∧ OkP (couldsP b) 0 b.lines.length [] t ∧ Arr w' w'.heap.size O (pairsV t)) ∧ Below w.heap.size w w' := by
 have h9 := ok_nine ho
 have HW : Hid (∀ i : Nat, ∃ k : Nat, windI (nthI ns i) ((b.lines.length : Int) + 1) = k ∧ k ≤ b.lines.length) := hid fun i => by
  have := windI_range (nthI ns i) ((b.lines.length : Int) + 1) (by omega)
  exact ⟨(windI (nthI ns i) ((b.lines.length : Int) + 1)).toNat, by omega, by omega⟩
 have HC : Hid (∀ (i k : Nat) (W : World), i < b.lines.length → k < b.lines.length → BkAt W A L b → Calls Try.prog 23 #[.agg (bkV A cap L lcap b).toArray, .int .i64 i, .int .i64 k] W fun e w' => e = .returned (.tuple #[.bool (canL b (b.lines.getD i zeroLn) (b.lines.getD k zeroLn)), .int .i64 0]) ∧ Below W.heap.size W w') := hid fun i k W hi hk hW => by
  have h := pCan_any A cap L lcap b i k W hW hs
  rw [can_in ho hi hk] at h
  exact h
 clear ho
 simp only [bkV] at HC ⊢
 refine enterE Try.func29 rfl Try.ntmps29 (by simp) (fun a hE => ?_); simp only [envOf, Nat.zero_add, Nat.reduceAdd] at hE
 refine Ks ?_
 refine Rs 2 fun Q' K hK => ?_
 refine M1 hE 0 fun K' J ρ q0 => ?_; go_simp; (try clear q0)
 refine Ln hE J fun _ Eb => ?_; clear J K' hE a
 refine M0 fun K' J ρ => ?_; go_simp;
 refine Ln Eb J fun _ Ea => ?_; clear J K' Eb
 refine late_done [1, 2] Ea hK (fun a hE => ?_); clear hK K Q' Ea; simp only [lk, pick, Nat.reduceEqDiff, ↓reduceIte] at hE
 obtain ⟨B, hBe⟩ : ∃ B, B = w.heap.size := ⟨_, rfl⟩; rw [← hBe] at hE; refine world_cut (fun wt => Below w.heap.size w wt ∧ Cells wt B (bkV A cap L lcap b)) ⟨(Below.refl _ _).alloc (Nat.le_refl _) _, by rw [hBe]; exact cells_new _ _ _⟩ (fun w1 hCut => ?_); obtain ⟨hbw1, hCB⟩ := hCut; clear hBe
 simp only [bkV] at hCB
 refine Ks ?_
 refine Rs 1 fun Q' K hK => ?_
 refine M0 fun K' J ρ => ?_; go_simp;
 refine Ln hE J fun _ Eb => ?_; clear J K' hE a
 refine late_done [1, 2, 5] Eb hK (fun a hE => ?_); clear hK K Q' Eb; simp only [lk, pick, Nat.reduceEqDiff, ↓reduceIte] at hE
 refine Ks ?_
 refine Rs 1 fun Q' K hK => ?_
 refine M0 fun K' J ρ => ?_; go_simp;
 refine Ln hE J fun _ Eb => ?_; clear J K' hE a
 refine late_done [1, 2, 5, 6] Eb hK (fun a hE => ?_); clear hK K Q' Eb; simp only [lk, pick, Nat.reduceEqDiff, ↓reduceIte] at hE
 refine Ks ?_
 refine Rs 1 fun Q' K hK => ?_
 refine M0 fun K' J ρ => ?_; go_simp;
 refine Ln hE J fun _ Eb => ?_; clear J K' hE a
 refine late_done [1, 2, 5, 6, 7] Eb hK (fun a hE => ?_); clear hK K Q' Eb; simp only [lk, pick, Nat.reduceEqDiff, ↓reduceIte] at hE
 refine Ks ?_
 refine loop_st (fun (i : Nat) a w' => ∃ (O : Option Addr) (oc s : Nat) (t : Prs), i ≤ b.lines.length ∧ Fits 68 [(1, .slice T ns.length tc), (2, .pointer (some ⟨B, 0, none⟩)), (5, .slice O t.length oc), (6, .int .i64 s), (7, .int .i64 i)] a ∧ Below w1.heap.size w1 w' ∧ w'.ownsRow w1.heap.size 51 2 (.slice O t.length oc) t.length (pairsV t) ∧ OkP (couldsP b) 0 i [] t ∧ s < 512 ∧ ∀ o, hasB s o = usedP t o) (fun i => b.lines.length - i) 0 ?_ (fun i a w' hI => ?_)
 ·exact ⟨none, 0, 0, [], Nat.zero_le _, by simpa using hE, Below.refl _ _, own_nil _ _ _ _, trivial, by omega, fun o => by simp [hasB, usedP]⟩
 clear hE
 obtain ⟨O, oc, s, t, hi, hE, hW, hO, hOk, hs512, hU⟩ := hI
 obtain ⟨wr, hwr⟩ : ∃ x, x = w' := ⟨_, rfl⟩
 subst hwr
 have hCr := hCB.below hW
 have nB := hCr.1
 have cB3 := hCr.2 3 _ rfl
 refine Ks ?_
 refine Rs 5 fun Q' K hK => ?_
 refine M1 hE 7 fun K' J ρ q7 => ?_; go_simp; (try clear q7)
 refine Ln hE J fun _ Eb => ?_; clear J K' hE a
 refine M1 Eb 2 fun K' J ρ q2 => ?_; go_simp; (try clear q2)
 refine Ln Eb J fun _ Ea => ?_; clear J K' Eb
 refine M1 Ea 12 fun K' J ρ q12 => ?_; go_simp; (try clear q12)
 refine Ln Ea J fun _ Eb => ?_; clear J K' Ea
 refine M1 Eb 13 fun K' J ρ q13 => ?_; go_simp; (try go_bits); (try clear q13)
 refine Ln Eb J fun _ Ea => ?_; clear J K' Eb
 refine M2 Ea 11 14 fun K' J ρ q11 q14 => ?_; go_simp; (try go_bits); (try clear q11 q14)
 refine Ln Ea J fun _ Eb => ?_; clear J K' Ea
 refine late_done [1, 2, 5, 6, 7, 15] Eb hK (fun a hE => ?_); clear hK K Q' Eb; simp only [lk, pick, Nat.reduceEqDiff, ↓reduceIte] at hE
 refine Ks ?_
 refine cond_part hE (t := 15) rfl (fun h => ?_) (fun h => ?_)
 ·have hlt : i < b.lines.length := by have := of_decide_eq_true h; omega
  clear h
  have hltI : (i : Int) < b.lines.length := by omega
  have hW0 := hbw1.trans (hW.mono hbw1.size)
  have hTr := (hT.below hW0).more hW0.size
  obtain ⟨kz, hK1, hK2⟩ := HW.out i
  have HK := hid hK1
  clear hK1
  refine Ks ?_
  refine Rd [8] (fun wt => Below wr.heap.size wr wt) (fun w1 w2 => Below w1.heap.size w1 w2) [(0, some 18), (1, some 19), (2, some 20), (3, some 21), (4, some 22), (5, some 23), (6, some 24), (7, some 25)] [18, 19, 20, 21, 22, 23, 24, 25] #[true, true, true, true, true, true, true, true, false] [1, 2, 5, 6, 7, 8] hE ((Below.refl _ _).drew) fun Q' K hK => ?_
  refine SeqOps.val ?_ (Sp fun ax wx hS hT' hd K' J => ?_) ?_; rotate_left 1
  ·have r1 := hS.at 1 (by decide) (hE.at 1 rfl); obtain ⟨hcT, hfT, hlT, hmT, hwT, hzT⟩ := bT hT'
   refine o1 r1 fun ρ q1 => ?_; go_simp;
   exact Jo J hT'
  refine SeqOps.val ?_ (Sp fun ax wx hS hT' hd K' J => ?_) ?_; rotate_left 1
  ·have r7 := hS.at 7 (by decide) (hE.at 7 rfl); obtain ⟨hcT, hfT, hlT, hmT, hwT, hzT⟩ := bT hT'
   refine o1 r7 fun ρ q7 => ?_; go_simp;
   exact Jo J hT'
  refine SeqOps.val ?_ (Sp fun ax wx hS hT' hd K' J => ?_) ?_; rotate_left 1
  ·have r18 := Tv hd 1 0 18; have r19 := Tv hd 0 1 19; obtain ⟨hcT, hfT, hlT, hmT, hwT, hzT⟩ := bT hT'
   refine o2 r18 r19 fun ρ q18 q19 => ?_; go_simp; (try go_bits);
   go_at_call 58; refine (nth_any T tc ns i _ ((hTr.below hT').more hT'.size) hn).mono ?_; rintro e g1 ⟨rfl, k1⟩
   refine J.out _ _ _ rfl ?_ (hT'.trans (k1.mono hT'.size)) k1; rfl
  refine SeqOps.val ?_ (Sp fun ax wx hS hT' hd K' J => ?_) ?_; rotate_left 1
  ·have r2 := hS.at 2 (by decide) (hE.at 2 rfl); obtain ⟨hcT, hfT, hlT, hmT, hwT, hzT⟩ := bT hT'
   refine o1 r2 fun ρ q2 => ?_; go_simp;
   exact Jo J hT'
  refine SeqOps.val ?_ (Sp fun ax wx hS hT' hd K' J => ?_) ?_; rotate_left 1
  ·have r21 := Tv hd 0 3 21; obtain ⟨hcT, hfT, hlT, hmT, hwT, hzT⟩ := bT hT'
   refine o1 r21 fun ρ q21 => ?_; go_simp;
   exact Jo J hT'
  refine SeqOps.val ?_ (Sp fun ax wx hS hT' hd K' J => ?_) ?_; rotate_left 1
  ·have r22 := Tv hd 0 4 22; obtain ⟨hcT, hfT, hlT, hmT, hwT, hzT⟩ := bT hT'
   refine o1 r22 fun ρ q22 => ?_; go_simp; (try go_bits);
   exact Jo J hT'
  refine SeqOps.val ?_ (Sp fun ax wx hS hT' hd K' J => ?_) ?_; rotate_left 1
  ·have r23 := Tv hd 0 5 23; obtain ⟨hcT, hfT, hlT, hmT, hwT, hzT⟩ := bT hT'
   refine o1 r23 fun ρ q23 => ?_; go_simp; (try go_bits); (try simp (disch := omega) only [IntWalk.i64_in]);
   exact Jo J hT'
  refine SeqOps.val ?_ (Sp fun ax wx hS hT' hd K' J => ?_) ?_; rotate_left 1
  ·have r20 := Tv hd 4 2 20; have r24 := Tv hd 0 6 24; obtain ⟨hcT, hfT, hlT, hmT, hwT, hzT⟩ := bT hT'
   refine o2 r20 r24 fun ρ q20 q24 => ?_; go_simp; (try go_bits);
   go_at_call 37; refine (wind_any _ _ (by omega) _).mono ?_; rw [HK.out]; rintro e g1 ⟨rfl, rfl⟩
   refine J.out _ _ _ rfl ?_ hT' (Below.refl _ _); rfl
  refine SeqOps.nil ?_
  intro w2 hBl; (repeat refine Ek ?_)
  refine fun ax hEx => ?_
  simp only [lk, pick, Nat.reduceEqDiff, ↓reduceIte] at hEx
  refine M1 hEx 25 fun K' J ρ q25 => ?_; go_simp; (try clear q25)
  refine Ln hEx J fun _ Eb => ?_; clear J K' hEx
  refine late_done [1, 2, 5, 6, 7, 8] Eb hK (fun a hE => ?_); clear hK K Q' Eb; simp only [lk, pick, Nat.reduceEqDiff, ↓reduceIte] at hE
  have hW2 := hW.trans (hBl.mono hW.size)
  have hO2 := own_below hO hBl
  have hCr2 := hCB.below hW2
  have hM2 := hM.below (hbw1.trans (hW2.mono hbw1.size))
  clear nB cB3 hCr hTr hO hBl
  have nB := hCr2.1
  have cB3 := hCr2.2 3 _ rfl
  refine Ks ?_
  by_cases g1 : kz = b.lines.length
  ·have g1I : (kz : Int) = b.lines.length := by omega
   refine Rs 19 fun Q' K hK => ?_
   refine M1 hE 8 fun K' J ρ q8 => ?_; go_simp; (try clear q8)
   refine Ln hE J fun _ Eb => ?_; clear J K' hE a
   refine M1 Eb 2 fun K' J ρ q2 => ?_; go_simp; (try clear q2)
   refine Ln Eb J fun _ Ea => ?_; clear J K' Eb
   refine M1 Ea 27 fun K' J ρ q27 => ?_; go_simp; (try clear q27)
   refine Ln Ea J fun _ Eb => ?_; clear J K' Ea
   refine M1 Eb 28 fun K' J ρ q28 => ?_; go_simp; (try go_bits); (try clear q28)
   refine Ln Eb J fun _ Ea => ?_; clear J K' Eb
   refine M2 Ea 26 29 fun K' J ρ q26 q29 => ?_; go_simp; (try go_bits); (try clear q26 q29)
   refine Ln Ea J fun _ Eb => ?_; clear J K' Ea
   replace Eb := Eb.turn 30 (v' := .bool true) rfl (by (simp [g1I]))
   refine M1 Eb 30 fun K' J ρ q30 => ?_; go_simp; (try clear q30)
   refine Ln Eb J fun _ Ea => ?_; clear J K' Eb
   refine Lno Ea 31 ?_
   refine Lu Ea fun _ Eb => ?_
   refine Lno Eb 31 ?_
   refine Lu Eb fun _ Ea => ?_
   refine Lno Ea 31 ?_
   refine Lu Ea fun _ Eb => ?_
   refine Lno Eb 31 ?_
   refine Lu Eb fun _ Ea => ?_
   refine Lno Ea 31 ?_
   refine Lu Ea fun _ Eb => ?_
   refine Lno Eb 31 ?_
   refine Lu Eb fun _ Ea => ?_
   refine Lno Ea 31 ?_
   refine Lu Ea fun _ Eb => ?_
   refine M2 Eb 31 38 fun K' J ρ q31 q38 => ?_; go_simp; (try go_bits); (try clear q31 q38)
   refine Ln Eb J fun _ Ea => ?_; clear J K' Eb
   refine M1 Ea 39 fun K' J ρ q39 => ?_; go_simp; (try clear q39)
   refine Ln Ea J fun _ Eb => ?_; clear J K' Ea
   refine Lno Eb 40 ?_
   refine Lu Eb fun _ Ea => ?_
   refine Lno Ea 40 ?_
   refine Lu Ea fun _ Eb => ?_
   refine Lno Eb 40 ?_
   refine Lu Eb fun _ Ea => ?_
   refine M2 Ea 40 43 fun K' J ρ q40 q43 => ?_; go_simp; (try go_bits); (try clear q40 q43)
   refine Ln Ea J fun _ Eb => ?_; clear J K' Ea
   refine late_done [1, 2, 5, 6, 7, 44] Eb hK (fun a hE => ?_); clear hK K Q' Eb; simp only [lk, pick, Nat.reduceEqDiff, ↓reduceIte] at hE
   refine Ks ?_
   refine cond_yes hE (t := 44) rfl ?_
   refine Ks ?_
   refine Rs 3 fun Q' K hK => ?_
   refine M1 hE 7 fun K' J ρ q7 => ?_; go_simp; (try clear q7)
   refine Ln hE J fun _ Eb => ?_; clear J K' hE a
   refine M1 Eb 16 fun K' J ρ q16 => ?_; go_simp; (try go_bits); (try simp (disch := omega) only [IntWalk.i64_in]); (try clear q16)
   refine Ln Eb J fun _ Ea => ?_; clear J K' Eb
   refine M1 Ea 17 fun K' J ρ q17 => ?_; go_simp; (try clear q17)
   refine Ln Ea J fun _ Eb => ?_; clear J K' Ea
   refine late_done [1, 2, 5, 6, 7] Eb hK (fun a hE => ?_); clear hK K Q' Eb; simp only [lk, pick, Nat.reduceEqDiff, ↓reduceIte] at hE
   refine Ks ?_
   exact ⟨i + 1, ⟨O, oc, s, t, hlt, by simpa using hE, hW2, hO2, hOk.high (by omega), hs512, hU⟩, by omega⟩
  ·have g1I : ¬ (kz : Int) = b.lines.length := by omega
   have hKlt : kz < b.lines.length := by omega
   obtain ⟨bx, ox, rfl, hbx, x0, x1, x2⟩ := hM2.2.nl hlt
   have hzb : zB b i = (b.lines[i].book == 0) := by unfold zB; rw [List.getD_eq_getElem?_getD]; simp [hlt]
   have HZ := hid hzb
   obtain ⟨X, hX⟩ : ∃ X, b.lines[i].book = X := ⟨_, rfl⟩
   rw [hX] at x0 HZ
   clear hzb hX x1 x2
   by_cases g2 : X = 0
   ·have HG2 := hid g2
    obtain ⟨q, hq⟩ : ∃ q, hasB s kz = q := ⟨_, rfl⟩
    have HQ := hid hq
    clear hq
    refine Rs 19 fun Q' K hK => ?_
    refine M1 hE 8 fun K' J ρ q8 => ?_; go_simp; (try clear q8)
    refine Ln hE J fun _ Eb => ?_; clear J K' hE a
    refine M1 Eb 2 fun K' J ρ q2 => ?_; go_simp; (try clear q2)
    refine Ln Eb J fun _ Ea => ?_; clear J K' Eb
    refine M1 Ea 27 fun K' J ρ q27 => ?_; go_simp; (try clear q27)
    refine Ln Ea J fun _ Eb => ?_; clear J K' Ea
    refine M1 Eb 28 fun K' J ρ q28 => ?_; go_simp; (try go_bits); (try clear q28)
    refine Ln Eb J fun _ Ea => ?_; clear J K' Eb
    refine M2 Ea 26 29 fun K' J ρ q26 q29 => ?_; go_simp; (try go_bits); (try clear q26 q29)
    refine Ln Ea J fun _ Eb => ?_; clear J K' Ea
    replace Eb := Eb.turn 30 (v' := .bool false) rfl (by (simp [g1I]))
    refine M1 Eb 30 fun K' J ρ q30 => ?_; go_simp; (try clear q30)
    refine Ln Eb J fun _ Ea => ?_; clear J K' Eb
    refine N1 Ea 31 2 fun K' J ρ q2 => ?_; go_simp; (try clear q2)
    refine Ln Ea J fun _ Eb => ?_; clear J K' Ea
    refine N1 Eb 31 32 fun K' J ρ q32 => ?_; go_simp; (try clear q32)
    refine Ln Eb J fun _ Ea => ?_; clear J K' Eb
    refine N1 Ea 31 7 fun K' J ρ q7 => ?_; go_simp; (try clear q7)
    refine Ln Ea J fun _ Eb => ?_; clear J K' Ea
    refine N2 Eb 31 33 34 fun K' J ρ q33 q34 => ?_; go_simp; (try go_bits); (try clear q33 q34)
    refine Ln Eb J fun _ Ea => ?_; clear J K' Eb
    refine N1 Ea 31 35 fun K' J ρ q35 => ?_; go_simp; (try clear q35)
    refine Ln Ea J fun _ Eb => ?_; clear J K' Ea
    refine N1 Eb 31 36 fun K' J ρ q36 => ?_; go_simp; (try clear q36)
    refine Ln Eb J fun _ Ea => ?_; clear J K' Eb
    refine N1 Ea 31 37 fun K' J ρ q37 => ?_; go_simp; (try go_bits); (try clear q37)
    refine Ln Ea J fun _ Eb => ?_; clear J K' Ea
    replace Eb := Eb.turn 38 (v' := .bool false) rfl (by (simp [g2]))
    refine M2 Eb 31 38 fun K' J ρ q31 q38 => ?_; go_simp; (try go_bits); (try clear q31 q38)
    refine Ln Eb J fun _ Ea => ?_; clear J K' Eb
    refine M1 Ea 39 fun K' J ρ q39 => ?_; go_simp; (try clear q39)
    refine Ln Ea J fun _ Eb => ?_; clear J K' Ea
    refine N1 Eb 40 6 fun K' J ρ q6 => ?_; go_simp; (try clear q6)
    refine Ln Eb J fun _ Ea => ?_; clear J K' Eb
    refine N1 Ea 40 8 fun K' J ρ q8 => ?_; go_simp; (try clear q8)
    refine Ln Ea J fun _ Eb => ?_; clear J K' Ea
    refine N2 Eb 40 41 42 fun K' J ρ q41 q42 => ?_; go_simp; (try go_bits); (try clear q41 q42)
    go_at_call 74; refine (has_any s kz _ (by omega) (by omega)).mono ?_; rw [HQ.out]; rintro e w3 ⟨rfl, rfl⟩
    (try clear r41 r42)
    refine Ln Eb J fun _ Ea => ?_; clear J K' Eb
    refine M2 Ea 40 43 fun K' J ρ q40 q43 => ?_; go_simp; (try go_bits); (try clear q40 q43)
    refine Ln Ea J fun _ Eb => ?_; clear J K' Ea
    refine late_done [1, 2, 5, 6, 7, 8, 44] Eb hK (fun a hE => ?_); clear hK K Q' Eb; simp only [lk, pick, Nat.reduceEqDiff, ↓reduceIte] at hE
    refine Ks ?_
    cases hqv : q
    ·rw [hqv] at hE
     have HQV := hid hqv
     clear hqv
     refine cond_no hE (t := 44) rfl ?_
     have cB0 := hCr2.2 0 _ rfl
     have cB1 := hCr2.2 1 _ rfl
     have cB2 := hCr2.2 2 _ rfl
     have cB4 := hCr2.2 4 _ rfl
     have cB5 := hCr2.2 5 _ rfl
     have cB6 := hCr2.2 6 _ rfl
     obtain ⟨q2, hq2⟩ : ∃ q, canL b (b.lines.getD i zeroLn) (b.lines.getD kz zeroLn) = q := ⟨_, rfl⟩
     have HC2 := hid (HC.out i kz w2 hlt hKlt hM2)
     rw [hq2] at HC2
     have HQ2 := hid hq2
     clear hq2 x0
     refine Ks ?_
     refine Rs 9 fun Q' K hK => ?_
     refine M1 hE 2 fun K' J ρ q2 => ?_; go_simp; (try clear q2)
     refine Ln hE J fun _ Eb => ?_; clear J K' hE a
     refine M1 Eb 7 fun K' J ρ q7 => ?_; go_simp; (try clear q7)
     refine Ln Eb J fun _ Ea => ?_; clear J K' Eb
     refine M1 Ea 8 fun K' J ρ q8 => ?_; go_simp; (try clear q8)
     refine Ln Ea J fun _ Eb => ?_; clear J K' Ea
     refine M3 Eb 46 47 48 fun K' J ρ q46 q47 q48 => ?_; go_simp; (try go_bits); (try clear q46 q47 q48)
     go_at_call 23; refine (HC2.out).mono ?_; rintro e w3 ⟨rfl, h3⟩
     (try clear r46 r47 r48)
     refine Ln Eb J fun _ Ea => ?_; clear J K' Eb
     refine M1 Ea 49 fun K' J ρ q49 => ?_; go_simp; (try clear q49)
     refine Ln Ea J fun _ Eb => ?_; clear J K' Ea
     refine M1 Eb 45 fun K' J ρ q45 => ?_; go_simp; (try clear q45)
     refine Ln Eb J fun _ Ea => ?_; clear J K' Eb
     refine M1 Ea 45 fun K' J ρ q45 => ?_; go_simp; (try clear q45)
     refine Ln Ea J fun _ Eb => ?_; clear J K' Ea
     refine M1 Eb 50 fun K' J ρ q50 => ?_; go_simp; (try clear q50)
     refine Ln Eb J fun _ Ea => ?_; clear J K' Eb
     refine M1 Ea 51 fun K' J ρ q51 => ?_; go_simp; (try clear q51)
     refine Ln Ea J fun _ Eb => ?_; clear J K' Ea
     refine late_done [1, 2, 5, 6, 7, 8, 9, 10] Eb hK (fun a hE => ?_); clear hK K Q' Eb; simp only [lk, pick, Nat.reduceEqDiff, ↓reduceIte] at hE
     clear nB cB0 cB1 cB2 cB3 cB4 cB5 cB6
     have hW3 := hW2.trans (h3.mono hW2.size)
     have hO3 := own_below hO2 h3
     refine Ks ?_
     refine Rs 5 fun Q' K hK => ?_
     refine M1 hE 10 fun K' J ρ q10 => ?_; go_simp; (try clear q10)
     refine Ln hE J fun _ Eb => ?_; clear J K' hE a
     refine M1 Eb 52 fun K' J ρ q52 => ?_; go_simp; (try go_bits); (try clear q52)
     refine Ln Eb J fun _ Ea => ?_; clear J K' Eb
     replace Ea := Ea.turn 53 (v' := .bool true) rfl (by (first | rfl | simp))
     refine M1 Ea 53 fun K' J ρ q53 => ?_; go_simp; (try clear q53)
     refine Ln Ea J fun _ Eb => ?_; clear J K' Ea
     refine N1 Eb 54 9 fun K' J ρ q9 => ?_; go_simp; (try clear q9)
     refine Ln Eb J fun _ Ea => ?_; clear J K' Eb
     refine M2 Ea 54 55 fun K' J ρ q54 q55 => ?_; go_simp; (try go_bits); (try clear q54 q55)
     refine Ln Ea J fun _ Eb => ?_; clear J K' Ea
     refine late_done [1, 2, 5, 6, 7, 8, 56] Eb hK (fun a hE => ?_); clear hK K Q' Eb; simp only [lk, pick, Nat.reduceEqDiff, ↓reduceIte] at hE
     refine Ks ?_
     cases hq2v : q2
     ·rw [hq2v] at hE
      refine cond_no hE (t := 56) rfl ?_
      refine Ks ?_
      refine Rs 3 fun Q' K hK => ?_
      refine M1 hE 7 fun K' J ρ q7 => ?_; go_simp; (try clear q7)
      refine Ln hE J fun _ Eb => ?_; clear J K' hE a
      refine M1 Eb 16 fun K' J ρ q16 => ?_; go_simp; (try go_bits); (try simp (disch := omega) only [IntWalk.i64_in]); (try clear q16)
      refine Ln Eb J fun _ Ea => ?_; clear J K' Eb
      refine M1 Ea 17 fun K' J ρ q17 => ?_; go_simp; (try clear q17)
      refine Ln Ea J fun _ Eb => ?_; clear J K' Ea
      refine late_done [1, 2, 5, 6, 7] Eb hK (fun a hE => ?_); clear hK K Q' Eb; simp only [lk, pick, Nat.reduceEqDiff, ↓reduceIte] at hE
      refine Ks ?_
      exact ⟨i + 1, ⟨O, oc, s, t, hlt, by simpa using hE, hW3, hO3, hOk.high (by omega), hs512, hU⟩, by omega⟩
     ·rw [hq2v] at hE
      have hKm : kz ∈ (couldsP b).getD i [] := (mem_coulds b i kz).2 ⟨hlt, hKlt, by rw [HZ.out, HG2.out]; rfl, HQ2.out.trans hq2v⟩
      have hKu : usedP t kz = false := by rw [← hU, HQ.out, HQV.out]
      have hOk2 := OkP.snoc (cs := couldsP b) (m := i + 1) (i := i) (by omega) hKm (Nat.zero_le _) hOk (by simpa using hKu)
      have HOK := hid hOk2
      have hp9 := pow_lt kz (by omega)
      have htl := hOk.len
      have htl9 : t.length ≤ 9 := by
       rcases htl with h | h
       ·omega
       ·rw [h]; exact Nat.zero_le _
      have hN0 : w1.heap.size ≤ w3.heap.size := hW3.size
      clear hq2v hKm hKu hOk2 htl
      refine cond_yes hE (t := 56) rfl ?_
      refine Ks ?_
      refine region_drawn_app [11] (fun wt => Below w1.heap.size w3 wt) (fun wt => wt.ownsRow w1.heap.size 51 2 (.slice O t.length oc) t.length (pairsV t)) (fun w1 w2 => Below w1.heap.size w1 w2) (fun wa wb => wa.grownBy wb (Value.slice O t.length oc).ownBlock) [(0, some 57), (1, some 58), (2, some 59), (3, some 60), (4, some 61), (6, some 63), (7, some 64), (8, some 65), (9, some 66), (10, some 5)] [0, 1, 2, 3, 4, 5, 6, 7, 8, 9, 10] [57, 58, 59, 60, 61, 63, 64, 65, 66, 5, 62] 5 62 10 5 (RowE w1.heap.size (t.length + 1) (pairsV t ++ pcells (i, kz))) #[true, true, true, true, true, true, true, true, true, true, true, false] [1, 2, 6, 7] hE (fun _ _ _ hR h => h.below hR) (fun _ _ hR h => own_below h hR) (by kernel_rfl) (by kernel_rfl) (by kernel_rfl) (by kernel_rfl) (by kernel_rfl) (by kernel_rfl) (by kernel_rfl) (by kernel_rfl) (by kernel_rfl) (by kernel_rfl) (by kernel_rfl) (by kernel_rfl) (by kernel_rfl) (by kernel_rfl) (by kernel_rfl) (by decide) (by kernel_rfl) (by kernel_rfl) ((Below.refl _ _).drew) (hO3) (fun Q' K hK => ?_)
      refine SeqA.val ?_ (Sp fun ax wx hS hT' hd K' J => ?_) ?_; rotate_left 1
      ·have r5 := hS.at 5 (by kernel_rfl) (hE.at 5 rfl); have hzT := hT'.size
       refine o1 r5 fun ρ q5 => ?_; go_simp;
       exact Jo J hT'
      refine SeqA.val ?_ (Sp fun ax wx hS hT' hd K' J => ?_) ?_; rotate_left 1
      ·have r7 := hS.at 7 (by kernel_rfl) (hE.at 7 rfl); have hzT := hT'.size
       refine o1 r7 fun ρ q7 => ?_; go_simp;
       exact Jo J hT'
      refine SeqA.val ?_ (Sp fun ax wx hS hT' hd K' J => ?_) ?_; rotate_left 1
      ·have r8 := hS.at 8 (by kernel_rfl) (hE.at 8 rfl); have hzT := hT'.size
       refine o1 r8 fun ρ q8 => ?_; go_simp;
       exact Jo J hT'
      refine SeqA.val ?_ (Sp fun ax wx hS hT' hd K' J => ?_) ?_; rotate_left 1
      ·have r58 := Tv hd 1 1 58; have r59 := Tv hd 0 2 59; have hzT := hT'.size
       refine o2 r58 r59 fun ρ q58 q59 => ?_; go_simp; (try go_bits);
       go_at_call 46; refine (lpair_any _ _ _).mono ?_; rintro e g1 ⟨rfl, k1⟩
       refine J.out _ _ _ rfl ?_ (hT'.trans (k1.mono (Nat.le_trans hN0 hzT))) k1; rfl
      refine SeqA.say (NewE (Value.slice O t.length oc).ownBlock (pcells (i, kz))) (fun _ _ _ hR h => h.below hR) (Sp fun ax wx hS hT' hd K' J => ?_) ?_
      ·have r60 := Tv hd 0 3 60; have hzT := hT'.size
       refine o1 r60 fun ρ q60 => ?_; go_simp;
       exact J.out _ _ _ rfl ⟨_, rfl, (fun e => by have := own_lt hO3 _ e.symm; omega), by simp, (arr_new wx _ _).more (by simp)⟩ (hT'.trans (((Below.refl _ _).alloc (Nat.le_refl _) _).mono (Nat.le_trans hN0 hzT))) ((Below.refl _ _).alloc (Nat.le_refl _) _)
      refine SeqA.val ?_ (Sp fun ax wx hS hT' hd K' J => ?_) ?_; rotate_left 1
      ·have r6 := hS.at 6 (by kernel_rfl) (hE.at 6 rfl); have hzT := hT'.size
       refine o1 r6 fun ρ q6 => ?_; go_simp;
       exact Jo J hT'
      refine SeqA.val ?_ (Sp fun ax wx hS hT' hd K' J => ?_) ?_; rotate_left 1
      ·have r8 := hS.at 8 (by kernel_rfl) (hE.at 8 rfl); have hzT := hT'.size
       refine o1 r8 fun ρ q8 => ?_; go_simp;
       exact Jo J hT'
      refine SeqA.val ?_ (Sp fun ax wx hS hT' hd K' J => ?_) ?_; rotate_left 1
      ·have r64 := Tv hd 0 7 64; have hzT := hT'.size
       refine o1 r64 fun ρ q64 => ?_; go_simp; (try go_bits); (try simp (disch := omega) only [IntWalk.i64_in]);
       exact Jo J hT'
      refine SeqA.val ?_ (Sp fun ax wx hS hT' hd K' J => ?_) ?_; rotate_left 1
      ·have r63 := Tv hd 2 6 63; have r65 := Tv hd 0 8 65; have hzT := hT'.size
       refine o2 r63 r65 fun ρ q63 q65 => ?_; go_simp; (try go_bits);
       exact Jo J hT'
      refine SeqA.say (RowE w1.heap.size (t.length + 1) (pairsV t ++ pcells (i, kz))) (fun _ _ _ hR h => h.below hR) (Sp fun ax wx hS hT' hd K' J => ?_) ?_
      ·obtain ⟨v62, r62, h62⟩ := Tg hd 9 5 62; obtain ⟨A2, c2, rfl, hO4⟩ := h62; have hzT := hT'.size
       refine o1 r62 fun ρ q62 => ?_; go_simp;
       exact J.out _ _ _ rfl ⟨A2, c2, rfl, hO4⟩ hT' (Below.refl _ _)
      refine SeqA.nil ?_
      refine ⟨List.forall_mem_cons.2 ⟨.inr (.inl ⟨_, rfl, by kernel_rfl⟩), List.forall_mem_cons.2 ⟨.inr (.inr (fun _ _ _ _ h => h)), List.forall_mem_cons.2 ⟨.inr (.inr (fun _ _ _ _ h => h)), List.forall_mem_cons.2 ⟨.inr (.inr (fun _ _ _ _ h => h)), List.forall_mem_cons.2 ⟨.inr (.inr (fun _ _ _ _ h => h)), List.forall_mem_cons.2 ⟨.inr (.inr (fun _ _ _ hR h => h.grown hR)), List.forall_mem_cons.2 ⟨.inr (.inr (fun _ _ _ _ h => h)), List.forall_mem_cons.2 ⟨.inr (.inr (fun _ _ _ _ h => h)), List.forall_mem_cons.2 ⟨.inr (.inr (fun _ _ _ _ h => h)), List.forall_mem_cons.2 ⟨.inr (.inr (fun _ _ _ _ h => h)), List.forall_mem_cons.2 ⟨.inl rfl, fun _ h => absurd h List.not_mem_nil⟩⟩⟩⟩⟩⟩⟩⟩⟩⟩⟩, StepApp.plain (by (first | (simp only [List.getElem?_toArray, List.getElem?_cons_succ, List.getElem?_cons_zero]; rfl) | rfl)) rfl (fun ax wx hS hT' hP' hd K' J => ?_), ?_⟩
      ·have r57 := Tv hd 9 0 57; obtain ⟨v61, r61, h61⟩ := Tg hd 5 4 61; have hzT := hT'.size
       obtain ⟨G, rfl, _, _, hG⟩ := h61
       refine wp_appN (.tmp 57) (.tmp 61) 38 rfl w1.heap.size 51 (.agg #[.int .i64 0, .int .i64 0]) 2 16 Try.underlying38 (by kernel_rfl) rfl (by decide) (.slice O t.length oc) t.length (pairsV t) (eval_of r57) hP' wx.heap.size (some ⟨G, 0, none⟩) 1 1 (pcells (i, kz)) (eval_of r61) hG rfl (by intro u hu; simp [pcells] at hu; rcases hu with rfl | rfl <;> rfl) (by simp only [maxLen]; omega) (by omega) (by omega) (fun A2 c2 w5 q1 q2 q3 q4 q5 => ?_)
       exact J.out _ _ _ rfl ⟨A2, c2, rfl, q3⟩ (hT'.trans ((Below.refl w1.heap.size wx).grown q4 (by omega) (fun k e => ownBlock_le hP' k e))) q4
      intro w4 hBl; (refine fun v h => ?_; obtain ⟨A2, c2, rfl, hO4⟩ := h); (repeat refine Ek ?_); (refine fun v h => ?_; obtain h61 := h); (repeat refine Ek ?_); (refine fun v h => ?_; obtain ⟨A3, c3, rfl, hO5⟩ := h);
      refine fun ax hEx => ?_
      simp only [lk, pick, Nat.reduceEqDiff, ↓reduceIte] at hEx
      refine M1 hEx 66 fun K' J ρ q66 => ?_; go_simp; (try clear q66)
      refine Ln hEx J fun _ Eb => ?_; clear J K' hEx
      refine late_done [1, 2, 5, 6, 7] Eb hK (fun a hE => ?_); clear hK K Q' Eb; simp only [lk, pick, Nat.reduceEqDiff, ↓reduceIte] at hE
      replace hE := hE.turn 6 (v' := .int .i64 ((s ||| 2 ^ kz : Nat) : Int)) rfl (by rw [← or64 s (2 ^ kz) hs512 hp9, ← wrap_pow kz (by omega)])
      refine Ks ?_
      refine Rs 3 fun Q' K hK => ?_
      refine M1 hE 7 fun K' J ρ q7 => ?_; go_simp; (try clear q7)
      refine Ln hE J fun _ Eb => ?_; clear J K' hE a
      refine M1 Eb 16 fun K' J ρ q16 => ?_; go_simp; (try go_bits); (try simp (disch := omega) only [IntWalk.i64_in]); (try clear q16)
      refine Ln Eb J fun _ Ea => ?_; clear J K' Eb
      refine M1 Ea 17 fun K' J ρ q17 => ?_; go_simp; (try clear q17)
      refine Ln Ea J fun _ Eb => ?_; clear J K' Ea
      refine late_done [1, 2, 5, 6, 7] Eb hK (fun a hE => ?_); clear hK K Q' Eb; simp only [lk, pick, Nat.reduceEqDiff, ↓reduceIte] at hE
      refine Ks ?_
      have hl1 : t.length + 1 = (t ++ [(i, kz)]).length := by simp
      refine ⟨i + 1, ⟨A3, c3, s ||| 2 ^ kz, t ++ [(i, kz)], hlt, ?_, hW3.trans hBl, ?_, HOK.out, ?_, ?_⟩, by omega⟩
      ·rw [← hl1]; simpa using hE
      ·rw [← hl1, show pairsV (t ++ [(i, kz)]) = pairsV t ++ pcells (i, kz) by simp [pairsV]]
       exact hO5
      ·have := Nat.or_lt_two_pow (n := 9) (x := s) (y := 2 ^ kz) (by simpa using hs512) (by simpa using hp9)
       simpa using this
      ·intro o
       rw [has_or, used_snoc, hU]
    ·rw [hqv] at hE
     refine cond_yes hE (t := 44) rfl ?_
     refine Ks ?_
     refine Rs 3 fun Q' K hK => ?_
     refine M1 hE 7 fun K' J ρ q7 => ?_; go_simp; (try clear q7)
     refine Ln hE J fun _ Eb => ?_; clear J K' hE a
     refine M1 Eb 16 fun K' J ρ q16 => ?_; go_simp; (try go_bits); (try simp (disch := omega) only [IntWalk.i64_in]); (try clear q16)
     refine Ln Eb J fun _ Ea => ?_; clear J K' Eb
     refine M1 Ea 17 fun K' J ρ q17 => ?_; go_simp; (try clear q17)
     refine Ln Ea J fun _ Eb => ?_; clear J K' Ea
     refine late_done [1, 2, 5, 6, 7] Eb hK (fun a hE => ?_); clear hK K Q' Eb; simp only [lk, pick, Nat.reduceEqDiff, ↓reduceIte] at hE
     refine Ks ?_
     exact ⟨i + 1, ⟨O, oc, s, t, hlt, by simpa using hE, hW2, hO2, hOk.high (by omega), hs512, hU⟩, by omega⟩
   ·skip
    refine Rs 19 fun Q' K hK => ?_
    refine M1 hE 8 fun K' J ρ q8 => ?_; go_simp; (try clear q8)
    refine Ln hE J fun _ Eb => ?_; clear J K' hE a
    refine M1 Eb 2 fun K' J ρ q2 => ?_; go_simp; (try clear q2)
    refine Ln Eb J fun _ Ea => ?_; clear J K' Eb
    refine M1 Ea 27 fun K' J ρ q27 => ?_; go_simp; (try clear q27)
    refine Ln Ea J fun _ Eb => ?_; clear J K' Ea
    refine M1 Eb 28 fun K' J ρ q28 => ?_; go_simp; (try go_bits); (try clear q28)
    refine Ln Eb J fun _ Ea => ?_; clear J K' Eb
    refine M2 Ea 26 29 fun K' J ρ q26 q29 => ?_; go_simp; (try go_bits); (try clear q26 q29)
    refine Ln Ea J fun _ Eb => ?_; clear J K' Ea
    replace Eb := Eb.turn 30 (v' := .bool false) rfl (by (simp [g1I]))
    refine M1 Eb 30 fun K' J ρ q30 => ?_; go_simp; (try clear q30)
    refine Ln Eb J fun _ Ea => ?_; clear J K' Eb
    refine N1 Ea 31 2 fun K' J ρ q2 => ?_; go_simp; (try clear q2)
    refine Ln Ea J fun _ Eb => ?_; clear J K' Ea
    refine N1 Eb 31 32 fun K' J ρ q32 => ?_; go_simp; (try clear q32)
    refine Ln Eb J fun _ Ea => ?_; clear J K' Eb
    refine N1 Ea 31 7 fun K' J ρ q7 => ?_; go_simp; (try clear q7)
    refine Ln Ea J fun _ Eb => ?_; clear J K' Ea
    refine N2 Eb 31 33 34 fun K' J ρ q33 q34 => ?_; go_simp; (try go_bits); (try clear q33 q34)
    refine Ln Eb J fun _ Ea => ?_; clear J K' Eb
    refine N1 Ea 31 35 fun K' J ρ q35 => ?_; go_simp; (try clear q35)
    refine Ln Ea J fun _ Eb => ?_; clear J K' Ea
    refine N1 Eb 31 36 fun K' J ρ q36 => ?_; go_simp; (try clear q36)
    refine Ln Eb J fun _ Ea => ?_; clear J K' Eb
    refine N1 Ea 31 37 fun K' J ρ q37 => ?_; go_simp; (try go_bits); (try clear q37)
    refine Ln Ea J fun _ Eb => ?_; clear J K' Ea
    replace Eb := Eb.turn 38 (v' := .bool true) rfl (by (simp [g2]))
    refine M2 Eb 31 38 fun K' J ρ q31 q38 => ?_; go_simp; (try go_bits); (try clear q31 q38)
    refine Ln Eb J fun _ Ea => ?_; clear J K' Eb
    refine M1 Ea 39 fun K' J ρ q39 => ?_; go_simp; (try clear q39)
    refine Ln Ea J fun _ Eb => ?_; clear J K' Ea
    refine Lno Eb 40 ?_
    refine Lu Eb fun _ Ea => ?_
    refine Lno Ea 40 ?_
    refine Lu Ea fun _ Eb => ?_
    refine Lno Eb 40 ?_
    refine Lu Eb fun _ Ea => ?_
    refine M2 Ea 40 43 fun K' J ρ q40 q43 => ?_; go_simp; (try go_bits); (try clear q40 q43)
    refine Ln Ea J fun _ Eb => ?_; clear J K' Ea
    refine late_done [1, 2, 5, 6, 7, 44] Eb hK (fun a hE => ?_); clear hK K Q' Eb; simp only [lk, pick, Nat.reduceEqDiff, ↓reduceIte] at hE
    refine Ks ?_
    refine cond_yes hE (t := 44) rfl ?_
    refine Ks ?_
    refine Rs 3 fun Q' K hK => ?_
    refine M1 hE 7 fun K' J ρ q7 => ?_; go_simp; (try clear q7)
    refine Ln hE J fun _ Eb => ?_; clear J K' hE a
    refine M1 Eb 16 fun K' J ρ q16 => ?_; go_simp; (try go_bits); (try simp (disch := omega) only [IntWalk.i64_in]); (try clear q16)
    refine Ln Eb J fun _ Ea => ?_; clear J K' Eb
    refine M1 Ea 17 fun K' J ρ q17 => ?_; go_simp; (try clear q17)
    refine Ln Ea J fun _ Eb => ?_; clear J K' Ea
    refine late_done [1, 2, 5, 6, 7] Eb hK (fun a hE => ?_); clear hK K Q' Eb; simp only [lk, pick, Nat.reduceEqDiff, ↓reduceIte] at hE
    refine Ks ?_
    exact ⟨i + 1, ⟨O, oc, s, t, hlt, by simpa using hE, hW2, hO2, hOk.high (by omega), hs512, hU⟩, by omega⟩
 ·have hii : i = b.lines.length := by have := of_decide_eq_false h; omega
  subst hii
  clear h nB cB3 hCr
  refine Ks ?_
  refine Rs 2 fun Q' K hK => ?_
  refine M1 hE 5 fun K' J ρ q5 => ?_; go_simp; (try clear q5)
  refine Ln hE J fun _ Eb => ?_; clear J K' hE a
  refine M1 Eb 67 fun K' J ρ q67 => ?_; go_simp; (try clear q67)
  refine Ln Eb J fun _ Ea => ?_; clear J K' Eb
  refine late_done [4] Ea hK (fun a hE => ?_); clear hK K Q' Ea; simp only [lk, pick, Nat.reduceEqDiff, ↓reduceIte] at hE
  refine Ks ?_
  obtain ⟨A3, c3, hv, _, _, ha3⟩ := own_form hO
  rw [Value.slice.injEq] at hv
  obtain ⟨rfl, _, rfl⟩ := hv
  exact ret_one hE rfl rfl ⟨⟨_, _, t, rfl, hOk, ha3⟩, hbw1.trans (hW.mono hbw1.size)⟩
end
end Go.Proofs.Ytbimkcjdodgojaa
