/- Slope: what truly happened, as numbers choose it. -/
import Derived.Test.YtkhmcofmjjmjhaaDoorKTScy
import Derived.Test.YtkhmcofmjjmjhaaDoorKTScu
import Derived.Test.YtkhmcofmjjmjhaaDoorKTYa

namespace Go.Proofs.YtkhmcofmjjmjhaaDoor
set_option linter.unusedSimpArgs false
set_option linter.unusedVariables false
open Go Go.RowKit
attribute [local go_sem high] cell_set_wr
attribute [local go_sem low] cell_wr frozen_wr
attribute [local go_sem] wr_set wr_drew wr_drewN wr_alloc wr_new Rho.c Rho.n Rho.g
theorem lvs_snoc (t : List (Nat × Bool)) (p : Nat × Bool) : lvs (t ++ [p]) = lvs t ++ [.int .i64 p.1] := by simp [lvs]
theorem fvs_snoc (t : List (Nat × Bool)) (p : Nat × Bool) : fvs (t ++ [p]) = fvs t ++ [.bool p.2] := by simp [fvs]
def NewE (X Y : Option Nat) (cs : List Value) (v : Value) (w : World) : Prop := ∃ G, v = .slice (some ⟨G, 0, none⟩) 1 1 ∧ some G ≠ X ∧ some G ≠ Y ∧ G < w.heap.size ∧ Arr w w.heap.size (some ⟨G, 0, none⟩) cs
theorem NewE.grownX {X Y : Option Nat} {cs : List Value} {v : Value} {w w' : World} (h : NewE X Y cs v w) (hb : w.grownBy w' X) : NewE X Y cs v w' := by
 obtain ⟨G, h1, h2, hy, h3, h4⟩ := h
 refine ⟨G, h1, h2, hy, Nat.lt_of_lt_of_le h3 hb.size, fun hx => ?_⟩
 obtain ⟨b, o, e, q1, q2⟩ := h4 hx
 refine ⟨b, o, e, Nat.lt_of_lt_of_le q1 hb.size, fun j u hu => ?_⟩
 cases e
 rw [World.cell?_of_block (hb.block G h3 h2)]
 exact q2 j u hu
theorem NewE.grownY {X Y : Option Nat} {cs : List Value} {v : Value} {w w' : World} (h : NewE X Y cs v w) (hb : w.grownBy w' Y) : NewE X Y cs v w' := by
 obtain ⟨G, h1, h2, hy, h3, h4⟩ := h
 obtain ⟨G', q1, q2, q3, q4, q5⟩ := NewE.grownX (X := Y) (Y := X) ⟨G, h1, hy, h2, h3, h4⟩ hb
 exact ⟨G', q1, q3, q2, q4, q5⟩
def RowX (E : TypeId) (N n : Nat) (xs : List Value) (X : Option Nat) (v : Value) (w : World) : Prop := ∃ A c, v = .slice A n c ∧ w.ownsRow N E 1 (.slice A n c) n xs ∧ ((Value.slice A n c).ownBlock = none ∨ (Value.slice A n c).ownBlock ≠ X)
theorem RowX.grown {E : TypeId} {N n : Nat} {xs : List Value} {X : Option Nat} {v : Value} {w w' : World} (h : RowX E N n xs X v w) (hb : w.grownBy w' X) : RowX E N n xs X v w' := by
 obtain ⟨A, c, h1, h2, h3⟩ := h
 exact ⟨A, c, h1, h2.kept hb h3, h3⟩
/-- all blocks but one are left, and of this one the row that is to be -/
def GrF (N : Nat) (E : TypeId) (Y : Option Nat) (n : Nat) (xs : List Value) (wa wb : World) : Prop := wa.grownBy wb Y ∧ ∀ A c, wa.ownsRow N E 1 (.slice A n c) n xs → wb.ownsRow N E 1 (.slice A n c) n xs
theorem GrF.below {N : Nat} {E : TypeId} {Y : Option Nat} {n : Nat} {xs : List Value} {wa wb : World} (h : Below wa.heap.size wa wb) : GrF N E Y n xs wa wb := ⟨⟨h.os, h.tape, h.output, h.size, fun k hk _ => h.block k hk⟩, fun A c hw => own_below hw h⟩
theorem GrF.refl {N : Nat} {E : TypeId} {Y : Option Nat} {n : Nat} {xs : List Value} {wa : World} : GrF N E Y n xs wa wa := GrF.below (Below.refl _ _)
theorem RowX.keep {E : TypeId} {N n : Nat} {xs : List Value} {X Y : Option Nat} {v : Value} {w w' : World} (h : RowX E N n xs X v w) (hb : GrF N E Y n xs w w') : RowX E N n xs X v w' := by
 obtain ⟨A, c, h1, h2, h3⟩ := h
 exact ⟨A, c, h1, hb.2 A c h2, h3⟩
/-- rows of two types are two rows -/
theorem own_apart2 {w : World} {N1 N2 : Nat} {E1 E2 : TypeId} {s1 s2 n1 n2 : Nat} {v1 v2 : Value} {x1 x2 : List Value} (h1 : w.ownsRow N1 E1 s1 v1 n1 x1) (h2 : w.ownsRow N2 E2 s2 v2 n2 x2) (hne : E1 ≠ E2) : v1.ownBlock = none ∨ v1.ownBlock ≠ v2.ownBlock := by
 rcases h1.2 with ⟨e1, _⟩ | ⟨g1, c1, cur1, e1, _, k1, _⟩
 ·subst e1; exact .inl rfl
 ·rcases h2.2 with ⟨e2, _⟩ | ⟨g2, c2, cur2, e2, _, k2, _⟩
  ·subst e1; subst e2; exact .inr (fun e => by cases e)
  ·subst e1; subst e2
   refine .inr fun e => hne ?_
   have : g1 = g2 := Option.some.inj e
   subst this
   rw [k1] at k2
   cases k2
   rfl
/-- both lists, and the struct that holds them -/
structure HaS (Q : Nat) (w w0 : World) (t : List (Nat × Bool)) (O1 : Option Addr) (c1 : Nat) (O2 : Option Addr) (c2 : Nat) (V : World) : Prop where
 below : Below w.heap.size w V
 size : w0.heap.size ≤ V.heap.size
 row : Row V Q [.slice O1 t.length c1, .slice O2 t.length c2]
 own1 : V.ownsRow w0.heap.size 3 1 (.slice O1 t.length c1) t.length (lvs t)
 own2 : V.ownsRow w0.heap.size 4 1 (.slice O2 t.length c2) t.length (fvs t)
theorem HaS.on {Q : Nat} {w w0 : World} {t : List (Nat × Bool)} {O1 : Option Addr} {c1 : Nat} {O2 : Option Addr} {c2 : Nat} {V V' : World} (h : HaS Q w w0 t O1 c1 O2 c2 V) (hQ0 : Q < w0.heap.size) (hb : Below V.heap.size V V') : HaS Q w w0 t O1 c1 O2 c2 V' :=
 ⟨h.below.trans (hb.mono h.below.size), Nat.le_trans h.size hb.size, h.row.below hb (Nat.lt_of_lt_of_le hQ0 h.size), own_below h.own1 hb, own_below h.own2 hb⟩
section
variable (H : Option Addr) (hcap : Nat) (S : Option Addr) (scap : Nat) (b : Sb)
set_option maxRecDepth 100000 in
set_option maxHeartbeats 4000000 in
theorem happened_any (hb : OkB b) (A : Option Addr) (ac : Nat) (l : List Int) (hl : l.length ≤ 9223372036854775807) (w : World) (hM : SbAt w H S b) (hA : ArrD w A (ints l)) :
    Calls Tryd.prog 35 #[.agg (sbV H hcap S scap b).toArray, .slice A l.length ac] w fun e w' => (∃ t O1 c1 O2 c2, TrB (bare b) t ∧ e = .returned (.agg #[.slice O1 t.length c1, .slice O2 t.length c2]) ∧ ArrD w' O1 (lvs t) ∧ ArrD w' O2 (fvs t)) ∧ Below w.heap.size w w' := by
 have h12 := hb.hours
 have hst := hb.start
 have hse := hb.settle
 have hho := hb.hold
 have HN := hid fun (i : Int) (W : World) hW => nth_any A ac l i W hW hl
 obtain ⟨hw1, hw2⟩ := windI_range (nthI l 0) (b.hi - b.lo + 1) (by omega)
 obtain ⟨l0, hl0⟩ : ∃ n : Nat, b.lo + windI (nthI l 0) (b.hi - b.lo + 1) = n := ⟨(b.lo + windI (nthI l 0) (b.hi - b.lo + 1)).toNat, by omega⟩
 have hl0b : b.lo ≤ (l0 : Int) ∧ (l0 : Int) ≤ b.hi := by omega
 have HS0 : Hid (∀ W, Calls Tryd.prog 77 #[.agg #[.int .i64 b.lo, .int .i64 b.hi], .int .i64 (nthI l 0)] W fun e w' => e = .returned (.int .i64 l0) ∧ Below W.heap.size W w') := hid fun W => by
  have h := some_any b.lo b.hi (nthI l 0) W (by omega) (by omega) (by omega)
  rw [hl0] at h
  exact h
 have HH := hid fun (k : Nat) (hk : k < b.hours.length) => hb.hour b.hours[k] (List.getElem_mem hk)
 have HLE := hid fun (k : Nat) (t : List (Nat × Bool)) (h : TruK b k l0 t) => leftT_le (c := 1440) (l := l0) (by omega) (truK_le hb h (by omega))
 have HSL := hid (⟨hb.snow, hb.wind, hb.sun⟩ : (0 ≤ b.sl.snow ∧ b.sl.snow ≤ 5) ∧ (0 ≤ b.sl.wind ∧ b.sl.wind ≤ 5) ∧ (0 ≤ b.sl.sun ∧ b.sl.sun ≤ 5))
 clear hw1 hw2 hl0
 refine enterE Tryd.func35 rfl Tryd.ntmps35 (by simp) (fun a hE => ?_); simp only [envOf, Nat.zero_add, Nat.reduceAdd] at hE
 refine Ks ?_
 refine Rs 2 fun Q' K hK => ?_
 refine M1 hE 0 fun K' J ρ q0 => ?_; go_simp
 refine Ln hE J fun _ Eb => ?_; clear J K' hE a q0
 refine M0 fun K' J ρ => ?_; go_simp;
 refine Ln Eb J fun _ Ea => ?_; clear J K' Eb
 refine Ld [1, 2, 4] Ea hK fun a hE => ?_; clear hK K Q' Ea
 obtain ⟨B, hB⟩ : ∃ B, B = w.heap.size := ⟨_, rfl⟩
 obtain ⟨R, hR⟩ : ∃ B, B = w.heap.size + 1 := ⟨_, rfl⟩
 rw [← hR, ← hB] at hE
 refine world_cut (fun wt => Below w.heap.size w wt ∧ Cells wt B (sbV H hcap S scap b) ∧ RowD wt R 2) ?_ (fun w1 hC => ?_)
 ·rw [hB, hR]; obtain ⟨q1, q2, q3, q4⟩ := box_row w (sbV H hcap S scap b).toArray 29 #[.slice none 0 0, .slice none 0 0] 52; exact ⟨q1, q2, q3, _, rfl, q4⟩
 obtain ⟨hbw1, hCB, hRD⟩ := hC
 have hnR : w.heap.size ≤ R := by omega
 have hM1 := hM.below hbw1
 have hA1 := hA.below hbw1
 clear hB hR
 refine Ks ?_
 refine Rs 1 fun Q' K hK => ?_
 refine M0 fun K' J ρ => ?_; go_simp;
 refine Ln hE J fun _ Eb => ?_; clear J K' hE a
 refine Ld [1, 2, 4, 5] Eb hK fun a hE => ?_; clear hK K Q' Eb
 obtain ⟨Q, hQ⟩ : ∃ B, B = w1.heap.size := ⟨_, rfl⟩
 rw [← hQ] at hE
 have hnQ : w1.heap.size ≤ Q := Nat.le_of_eq hQ.symm
 refine world_cut (fun wt => Below w1.heap.size w1 wt ∧ Q < wt.heap.size ∧ Row wt Q [.slice none 0 0, .slice none 0 0]) ⟨(Below.refl _ _).alloc (Nat.le_refl _) _, by rw [hQ]; simp, by rw [hQ]; exact row_new _ _ _⟩ (fun w2 hCut => ?_)
 obtain ⟨h2, hlQ2, hRQ2⟩ := hCut
 clear hQ
 have hb2 := hbw1.trans (h2.mono hbw1.size)
 have hCB2 := hCB.below h2
 have nB := hCB2.1
 have c5 := hCB2.2 5 _ rfl
 have c6 := hCB2.2 6 _ rfl
 refine Ks ?_
 refine Rd [5] (fun wt => Below w2.heap.size w2 wt) (fun w1 w2 => Below w1.heap.size w1 w2) [(0, some 11), (1, some 12), (2, some 13), (3, some 14), (4, some 15)] [11, 12, 13, 14, 15] #[true, true, true, true, true, false] [1, 2, 4, 5, 6] hE ((Below.refl _ _).drew) fun Q' K hK => ?_
 refine SeqOps.val ?_ (Sp fun ax wx hS hT' hd K' J => ?_) ?_; rotate_left 1
 ·have r2 := hS.at 2 (by decide) (hE.at 2 rfl); obtain ⟨hcT, hfT, hlT, hmT, hwT, hzT⟩ := bT hT'
  refine o1 r2 fun ρ q2 => ?_; go_simp;
  exact Jo J hT'
 refine SeqOps.val ?_ (Sp fun ax wx hS hT' hd K' J => ?_) ?_; rotate_left 1
 ·have r11 := Tv hd 0 0 11; obtain ⟨hcT, hfT, hlT, hmT, hwT, hzT⟩ := bT hT'
  refine o1 r11 fun ρ q11 => ?_; go_simp;
  exact Jo J hT'
 refine SeqOps.val ?_ (Sp fun ax wx hS hT' hd K' J => ?_) ?_; rotate_left 1
 ·have r1 := hS.at 1 (by decide) (hE.at 1 rfl); obtain ⟨hcT, hfT, hlT, hmT, hwT, hzT⟩ := bT hT'
  refine o1 r1 fun ρ q1 => ?_; go_simp;
  exact Jo J hT'
 refine SeqOps.val ?_ (Sp fun ax wx hS hT' hd K' J => ?_) ?_; rotate_left 1
 ·have r13 := Tv hd 0 2 13; obtain ⟨hcT, hfT, hlT, hmT, hwT, hzT⟩ := bT hT'
  refine o1 r13 fun ρ q13 => ?_; go_simp; (try go_bits);
  go_at_call 78; refine (HN.out 0 _ ((hA1.below h2).below hT')).mono ?_; rintro e g1 ⟨rfl, k1⟩
  refine J.out _ _ _ rfl ?_ (hT'.trans (k1.mono hT'.size)) k1; rfl
 refine SeqOps.val ?_ (Sp fun ax wx hS hT' hd K' J => ?_) ?_; rotate_left 1
 ·have r12 := Tv hd 2 1 12; have r14 := Tv hd 0 3 14; obtain ⟨hcT, hfT, hlT, hmT, hwT, hzT⟩ := bT hT'
  refine o2 r12 r14 fun ρ q12 q14 => ?_; go_simp; (try go_bits);
  go_at_call 77; refine (HS0.out _).mono ?_; rintro e g1 ⟨rfl, k1⟩
  refine J.out _ _ _ rfl ?_ (hT'.trans (k1.mono hT'.size)) k1; rfl
 refine SeqOps.nil ?_
 intro w3 hBm; (repeat refine Ek ?_)
 refine fun amx hEmx => ?_
 simp only [lk, pick, Nat.reduceEqDiff, ↓reduceIte] at hEmx
 refine M1 hEmx 15 fun K' J ρ q15 => ?_; go_simp; (try clear q15)
 refine Ln hEmx J fun am_1 hEm_1 => ?_; clear J K' hEmx
 refine Ld [1, 2, 4, 5, 6] hEm_1 hK fun a hE => ?_; clear hK K Q' hEm_1
 have hbw3 := hb2.trans (hBm.mono hb2.size)
 refine Ks ?_
 refine Rs 1 fun Q' K hK => ?_
 refine M0 fun K' J ρ => ?_; go_simp;
 refine Ln hE J fun _ Eb => ?_; clear J K' hE a
 refine Ld [1, 2, 4, 5, 6, 7] Eb hK fun a hE => ?_; clear hK K Q' Eb
 refine Ks ?_
 have h13 := h2.trans (hBm.mono h2.size)
 have hlQ := Nat.lt_of_lt_of_le hlQ2 hBm.size
 have hRQ := hRQ2.below hBm hlQ2
 clear c5 c6 nB hCB2 hRQ2
 refine loop_st (fun (k : Nat) a w' => ∃ (t : List (Nat × Bool)) (O1 : Option Addr) (c1 : Nat) (O2 : Option Addr) (c2 : Nat), k ≤ b.hours.length ∧ TruK b k l0 t ∧ Fits 102 [(1, .slice A l.length ac), (2, .pointer (some ⟨B, 0, none⟩)), (4, .pointer (some ⟨R, 0, none⟩)), (5, .pointer (some ⟨Q, 0, none⟩)), (6, .int .i64 (leftT l0 t)), (7, .int .i64 k)] a ∧ HaS Q w1 w3 t O1 c1 O2 c2 w') (fun k => b.hours.length - k) 0 ⟨[], none, 0, none, 0, Nat.zero_le _, trivial, by simpa [leftT] using hE, ⟨h13, Nat.le_refl _, hRQ, own_nil _ _ _ _, own_nil _ _ _ _⟩⟩ (fun k a wr hI => ?_)
 clear hE hRQ hlQ2
 obtain ⟨t, O1, c1, O2, c2, hk, hT, hE, hS⟩ := hI
 have hbr := hbw1.trans (hS.below.mono hbw1.size)
 have hCBr := hCB.below hS.below
 have hMr := hM1.below hS.below
 have hAr := hA1.below hS.below
 have nB := hCBr.1
 have d7 := hCBr.2 7 _ rfl
 have htk : t.length = k := truK_len hT hk
 by_cases hlt : k < b.hours.length
 ·have hkl := hlt
  have hltI : (k : Int) < b.hours.length := by omega
  obtain ⟨bx, ox, hHe, hbx, x0, x1, x2, x3, x4, x5⟩ := hMr.1.hr hlt
  have hhr := HH.out k hlt
  have hle := HLE.out k t hT
  obtain ⟨left, hleft⟩ : ∃ n, leftT l0 t = n := ⟨_, rfl⟩
  rw [hleft] at hle hE
  obtain ⟨X, hXe⟩ : ∃ X, b.hours[k] = X := ⟨_, rfl⟩
  have X' := hXe.symm
  rw [hXe] at x0 x1 x2 x3 x4 x5 hhr
  rw [hHe] at d7
  obtain ⟨⟨p1, p2⟩, ⟨p3, p4⟩, p5, p6⟩ := hhr
  obtain ⟨v1, v2⟩ := windI_range (nthI l (3 * (k : Int) + 1)) (X.n2 - X.n1 + 1) (by omega)
  obtain ⟨v3, v4⟩ := windI_range (nthI l (3 * (k : Int) + 2)) (X.w2 - X.w1 + 1) (by omega)
  obtain ⟨v5, v6⟩ := windI_range (nthI l (3 * (k : Int) + 3)) (X.s2 - X.s1 + 1) (by omega)
  obtain ⟨a1, ha1⟩ : ∃ a, X.n1 + windI (nthI l (3 * (k : Int) + 1)) (X.n2 - X.n1 + 1) = a := ⟨_, rfl⟩
  obtain ⟨a2, ha2⟩ : ∃ a, X.w1 + windI (nthI l (3 * (k : Int) + 2)) (X.w2 - X.w1 + 1) = a := ⟨_, rfl⟩
  obtain ⟨a3, ha3⟩ : ∃ a, X.s1 + windI (nthI l (3 * (k : Int) + 3)) (X.s2 - X.s1 + 1) = a := ⟨_, rfl⟩
  have hBr : Brings b.sl X (b.sl.snow * a1 + b.sl.wind * a2 + b.sl.sun * a3) := ⟨a1, a2, a3, by omega, by omega, by omega, rfl⟩
  have S1 : Hid (∀ W, Calls Tryd.prog 77 #[.agg #[.int .i64 X.n1, .int .i64 X.n2], .int .i64 (nthI l (3 * (k : Int) + 1))] W fun e w' => e = .returned (.int .i64 a1) ∧ Below W.heap.size W w') := hid fun W => by
   have h := some_any X.n1 X.n2 (nthI l (3 * (k : Int) + 1)) W (by omega) (by omega) (by omega)
   rw [ha1] at h
   exact h
  have S2 : Hid (∀ W, Calls Tryd.prog 77 #[.agg #[.int .i64 X.w1, .int .i64 X.w2], .int .i64 (nthI l (3 * (k : Int) + 2))] W fun e w' => e = .returned (.int .i64 a2) ∧ Below W.heap.size W w') := hid fun W => by
   have h := some_any X.w1 X.w2 (nthI l (3 * (k : Int) + 2)) W (by omega) (by omega) (by omega)
   rw [ha2] at h
   exact h
  have S3 : Hid (∀ W, Calls Tryd.prog 77 #[.agg #[.int .i64 X.s1, .int .i64 X.s2], .int .i64 (nthI l (3 * (k : Int) + 3))] W fun e w' => e = .returned (.int .i64 a3) ∧ Below W.heap.size W w') := hid fun W => by
   have h := some_any X.s1 X.s2 (nthI l (3 * (k : Int) + 3)) W (by omega) (by omega) (by omega)
   rw [ha3] at h
   exact h
  have m1 := mul_to HSL.out.1 (b := a1) (d := 9) (by omega)
  have m2 := mul_to HSL.out.2.1 (b := a2) (d := 5) (by omega)
  have m3 := mul_to HSL.out.2.2 (b := a3) (d := 5) (by omega)
  obtain ⟨m, hmI⟩ : ∃ m : Nat, (m : Int) = max ((left : Int) - b.sl.settle) 0 + (b.sl.snow * a1 + b.sl.wind * a2 + b.sl.sun * a3) := ⟨(max ((left : Int) - b.sl.settle) 0 + (b.sl.snow * a1 + b.sl.wind * a2 + b.sl.sun * a3)).toNat, by omega⟩
  obtain ⟨f, hf⟩ : ∃ f : Bool, (decide (b.sl.hold < (m : Int)) && decide (windI (nthI l k) 3 = 0)) = f := ⟨_, rfl⟩
  have hFf : f = true → b.sl.hold < (m : Int) := fun e => by
   rw [← hf, Bool.and_eq_true] at e
   exact of_decide_eq_true e.1
  have hm3 : (m : Int) ≤ 1600 := by omega
  have HF := hid hf
  clear ha1 ha2 ha3 v1 v2 v3 v4 v5 v6 hf hXe
  obtain ⟨n1, n2, w1', w2', s1, s2⟩ := X
  simp only at x0 x1 x2 x3 x4 x5 S1 S2 S3
  rw [← hleft] at hmI
  have HMI := hid hmI
  refine Ks ?_
  refine Rs 5 fun Q' K hK => ?_
  refine M1 hE 7 fun K' J ρ q7 => ?_; go_simp
  refine Ln hE J fun _ Eb => ?_; clear J K' hE a q7
  refine M1 Eb 2 fun K' J ρ q2 => ?_; go_simp
  refine Ln Eb J fun _ Ea => ?_; clear J K' Eb q2
  refine M1 Ea 17 fun K' J ρ q17 => ?_; go_simp
  refine Ln Ea J fun _ Eb => ?_; clear J K' Ea q17
  refine M1 Eb 18 fun K' J ρ q18 => ?_; go_simp; (try go_bits)
  refine Ln Eb J fun _ Ea => ?_; clear J K' Eb q18
  refine M2 Ea 16 19 fun K' J ρ q16 q19 => ?_; go_simp; (try go_bits)
  refine Ln Ea J fun _ Eb => ?_; clear J K' Ea q16 q19
  replace Eb := Eb.turn 20 (v' := .bool true) rfl (by (first | (simp; done) | (simp; omega)))
  refine Ld [1, 2, 4, 5, 6, 7, 20] Eb hK fun a hE => ?_; clear hK K Q' Eb
  refine Ks ?_
  refine cond_yes hE (t := 20) rfl ?_
  refine Ks ?_
  refine Rs 7 fun Q' K hK => ?_
  refine M1 hE 2 fun K' J ρ q2 => ?_; go_simp
  refine Ln hE J fun _ Eb => ?_; clear J K' hE a q2
  refine M1 Eb 23 fun K' J ρ q23 => ?_; go_simp
  refine Ln Eb J fun _ Ea => ?_; clear J K' Eb q23
  refine M1 Ea 7 fun K' J ρ q7 => ?_; go_simp
  refine Ln Ea J fun _ Eb => ?_; clear J K' Ea q7
  refine M2 Eb 24 25 fun K' J ρ q24 q25 => ?_; go_simp; (try go_bits)
  refine Ln Eb J fun _ Ea => ?_; clear J K' Eb q24 q25
  refine M1 Ea 26 fun K' J ρ q26 => ?_; go_simp
  refine Ln Ea J fun _ Eb => ?_; clear J K' Ea q26
  refine M0 fun K' J ρ => ?_; go_simp;
  refine Ln Eb J fun _ Ea => ?_; clear J K' Eb
  refine Lp fun K' J => ?_
  have r8 := Ea.at 8 rfl; have r27 := Ea.at 27 rfl
  refine wp_store_mid 62 (.tmp 8) (.tmp 27) rfl wr.heap.size 0 #[.int .i64 n1, .int .i64 n2, .int .i64 w1', .int .i64 w2', .int .i64 s1, .int .i64 s2] (eval_of r8) (eval_of r27) (there_row (row_new wr _ _) (Nat.le_of_eq rfl)) (by kernel_rfl) (by kernel_rfl) ?_
  (try clear r8 r27)
  refine late_skip Ea J (fun _ Eb => ?_); clear J K'; clear Ea
  refine Ld [1, 2, 4, 5, 6, 7, 8] Eb hK fun a hE => ?_; clear hK K Q' Eb
  obtain ⟨C, hC⟩ : ∃ B, B = wr.heap.size := ⟨_, rfl⟩
  rw [← hC] at hE
  refine world_cut (fun wt => Below wr.heap.size wr wt ∧ Cells wt C [.int .i64 n1, .int .i64 n2, .int .i64 w1', .int .i64 w2', .int .i64 s1, .int .i64 s2]) (by rw [hC]; exact boxed_new wr #[.int .i64 0, .int .i64 0, .int .i64 0, .int .i64 0, .int .i64 0, .int .i64 0] 62 [.int .i64 n1, .int .i64 n2, .int .i64 w1', .int .i64 w2', .int .i64 s1, .int .i64 s2] rfl) (fun wq hCut => ?_)
  obtain ⟨kq, hCC⟩ := hCut
  replace hS := hS.on hlQ kq
  replace hCBr := hCBr.below kq
  replace hAr := hAr.below kq
  clear hC x0 x1 x2 x3 x4 x5 hbx nB d7 hMr
  have nB := hCBr.1
  have d0 := hCBr.2 0 _ rfl
  have d1 := hCBr.2 1 _ rfl
  have d2 := hCBr.2 2 _ rfl
  have d3 := hCBr.2 3 _ rfl
  have d4 := hCBr.2 4 _ rfl
  obtain ⟨nC, cC0, cC1, cC2, cC3, cC4, cC5⟩ := hCC.c6
  refine Ks ?_
  refine Rs 6 fun Q' K hK => ?_
  refine M1 hE 6 fun K' J ρ q6 => ?_; go_simp
  refine Ln hE J fun _ Eb => ?_; clear J K' hE a q6
  refine M1 Eb 2 fun K' J ρ q2 => ?_; go_simp
  refine Ln Eb J fun _ Ea => ?_; clear J K' Eb q2
  refine M1 Ea 29 fun K' J ρ q29 => ?_; go_simp
  refine Ln Ea J fun _ Eb => ?_; clear J K' Ea q29
  refine M1 Eb 30 fun K' J ρ q30 => ?_; go_simp
  refine Ln Eb J fun _ Ea => ?_; clear J K' Eb q30
  refine M2 Ea 28 31 fun K' J ρ q28 q31 => ?_; go_simp; (try go_bits); (try simp (disch := omega) only [IntWalk.i64_in])
  refine Ln Ea J fun _ Eb => ?_; clear J K' Ea q28 q31
  refine M1 Eb 32 fun K' J ρ q32 => ?_; go_simp
  refine Ln Eb J fun _ Ea => ?_; clear J K' Eb q32
  refine Ld [1, 2, 4, 5, 7, 8, 9] Ea hK fun a hE => ?_; clear hK K Q' Ea
  obtain ⟨z, hz⟩ : ∃ z, max ((left : Int) - b.sl.settle) 0 = z := ⟨_, rfl⟩
  have hz0 : 0 ≤ z ∧ z ≤ 1440 := by omega
  rw [hleft, hz] at hmI
  have hmI2 := hmI
  by_cases hng : (left : Int) - b.sl.settle < 0
  ·skip
   refine Ks ?_
   refine Rs 2 fun Q' K hK => ?_
   refine M1 hE 9 fun K' J ρ q9 => ?_; go_simp
   refine Ln hE J fun _ Eb => ?_; clear J K' hE a q9
   refine M1 Eb 33 fun K' J ρ q33 => ?_; go_simp; (try go_bits)
   refine Ln Eb J fun _ Ea => ?_; clear J K' Eb q33
   replace Ea := Ea.turn 34 (v' := .bool true) rfl (by (first | (simp; done) | (simp; omega)))
   refine Ld [1, 2, 4, 5, 7, 8, 9, 34] Ea hK fun a hE => ?_; clear hK K Q' Ea
   refine Ks ?_
   refine cond_yes hE (t := 34) rfl ?_
   refine Ks ?_
   refine Rs 1 fun Q' K hK => ?_
   refine M0 fun K' J ρ => ?_; go_simp;
   refine Ln hE J fun _ Eb => ?_; clear J K' hE a
   refine Ld [1, 2, 4, 5, 7, 8, 9] Eb hK fun a hE => ?_; clear hK K Q' Eb
   have ez : (0 : Int) = z := by omega
   rw [ez] at hE
   refine Ks ?_
   refine Rd [40] (fun wt => Below wq.heap.size wq wt) (fun w1 w2 => Below w1.heap.size w1 w2) [(0, some 35), (1, some 36), (2, some 37), (3, some 38), (4, some 39), (5, some 40), (6, some 41), (7, some 42), (8, some 43), (9, some 44), (10, some 45), (11, some 46), (12, some 47), (13, some 48), (14, some 49), (15, some 50), (16, some 51), (17, some 52), (18, some 53), (19, some 54), (20, some 55), (21, some 56), (22, some 57), (23, some 58), (24, some 59), (25, some 60), (26, some 61), (27, some 62), (28, some 63), (29, some 64), (30, some 65), (31, some 66), (32, some 67), (33, some 68), (34, some 69), (35, some 70), (36, some 71), (37, some 72), (38, some 73), (39, some 74)] [35, 36, 37, 38, 39, 40, 41, 42, 43, 44, 45, 46, 47, 48, 49, 50, 51, 52, 53, 54, 55, 56, 57, 58, 59, 60, 61, 62, 63, 64, 65, 66, 67, 68, 69, 70, 71, 72, 73, 74] #[true, true, true, true, true, true, true, true, true, true, true, true, true, true, true, true, true, true, true, true, true, true, true, true, true, true, true, true, true, true, true, true, true, true, true, true, true, true, true, true, false] [1, 2, 4, 5, 7, 9] hE ((Below.refl _ _).drew) fun Q' K hK => ?_
   refine SeqOps.val ?_ (Sp fun ax wx hS hT' hd K' J => ?_) ?_; rotate_left 1
   ·have r9 := hS.at 9 (by decide) (hE.at 9 rfl); obtain ⟨hcT, hfT, hlT, hmT, hwT, hzT⟩ := bT hT'
    refine o1 r9 fun ρ q9 => ?_; go_simp;
    exact Jo J hT'
   refine SeqOps.val ?_ (Sp fun ax wx hS hT' hd K' J => ?_) ?_; rotate_left 1
   ·have r2 := hS.at 2 (by decide) (hE.at 2 rfl); obtain ⟨hcT, hfT, hlT, hmT, hwT, hzT⟩ := bT hT'
    refine o1 r2 fun ρ q2 => ?_; go_simp;
    exact Jo J hT'
   refine SeqOps.val ?_ (Sp fun ax wx hS hT' hd K' J => ?_) ?_; rotate_left 1
   ·have r36 := Tv hd 0 1 36; obtain ⟨hcT, hfT, hlT, hmT, hwT, hzT⟩ := bT hT'
    refine o1 r36 fun ρ q36 => ?_; go_simp;
    exact Jo J hT'
   refine SeqOps.val ?_ (Sp fun ax wx hS hT' hd K' J => ?_) ?_; rotate_left 1
   ·have r37 := Tv hd 0 2 37; obtain ⟨hcT, hfT, hlT, hmT, hwT, hzT⟩ := bT hT'
    refine o1 r37 fun ρ q37 => ?_; go_simp;
    exact Jo J hT'
   refine SeqOps.val ?_ (Sp fun ax wx hS hT' hd K' J => ?_) ?_; rotate_left 1
   ·have r8 := hS.at 8 (by decide) (hE.at 8 rfl); obtain ⟨hcT, hfT, hlT, hmT, hwT, hzT⟩ := bT hT'
    refine o1 r8 fun ρ q8 => ?_; go_simp;
    exact Jo J hT'
   refine SeqOps.val ?_ (Sp fun ax wx hS hT' hd K' J => ?_) ?_; rotate_left 1
   ·have r39 := Tv hd 0 4 39; obtain ⟨hcT, hfT, hlT, hmT, hwT, hzT⟩ := bT hT'
    refine o1 r39 fun ρ q39 => ?_; go_simp;
    exact Jo J hT'
   refine SeqOps.val ?_ (Sp fun ax wx hS hT' hd K' J => ?_) ?_; rotate_left 1
   ·have r1 := hS.at 1 (by decide) (hE.at 1 rfl); obtain ⟨hcT, hfT, hlT, hmT, hwT, hzT⟩ := bT hT'
    refine o1 r1 fun ρ q1 => ?_; go_simp;
    exact Jo J hT'
   refine SeqOps.val ?_ (Sp fun ax wx hS hT' hd K' J => ?_) ?_; rotate_left 1
   ·have r7 := hS.at 7 (by decide) (hE.at 7 rfl); obtain ⟨hcT, hfT, hlT, hmT, hwT, hzT⟩ := bT hT'
    refine o1 r7 fun ρ q7 => ?_; go_simp;
    exact Jo J hT'
   refine SeqOps.val ?_ (Sp fun ax wx hS hT' hd K' J => ?_) ?_; rotate_left 1
   ·have r42 := Tv hd 0 7 42; obtain ⟨hcT, hfT, hlT, hmT, hwT, hzT⟩ := bT hT'
    refine o1 r42 fun ρ q42 => ?_; go_simp; (try go_bits); (try simp (disch := omega) only [IntWalk.i64_in]);
    exact Jo J hT'
   refine SeqOps.val ?_ (Sp fun ax wx hS hT' hd K' J => ?_) ?_; rotate_left 1
   ·have r43 := Tv hd 0 8 43; obtain ⟨hcT, hfT, hlT, hmT, hwT, hzT⟩ := bT hT'
    refine o1 r43 fun ρ q43 => ?_; go_simp; (try go_bits); (try simp (disch := omega) only [IntWalk.i64_in]);
    exact Jo J hT'
   refine SeqOps.val ?_ (Sp fun ax wx hS hT' hd K' J => ?_) ?_; rotate_left 1
   ·have r41 := Tv hd 3 6 41; have r44 := Tv hd 0 9 44; obtain ⟨hcT, hfT, hlT, hmT, hwT, hzT⟩ := bT hT'
    refine o2 r41 r44 fun ρ q41 q44 => ?_; go_simp; (try go_bits);
    go_at_call 78; refine (HN.out (3 * (k : Int) + 1) _ (hAr.below hT')).mono ?_; rintro e g1 ⟨rfl, k1⟩
    refine J.out _ _ _ rfl ?_ (hT'.trans (k1.mono hT'.size)) k1; rfl
   refine SeqOps.val ?_ (Sp fun ax wx hS hT' hd K' J => ?_) ?_; rotate_left 1
   ·have r40 := Tv hd 5 5 40; have r45 := Tv hd 0 10 45; obtain ⟨hcT, hfT, hlT, hmT, hwT, hzT⟩ := bT hT'
    refine o2 r40 r45 fun ρ q40 q45 => ?_; go_simp; (try go_bits);
    go_at_call 77; refine (S1.out _).mono ?_; rintro e g1 ⟨rfl, k1⟩
    refine J.out _ _ _ rfl ?_ (hT'.trans (k1.mono hT'.size)) k1; rfl
   refine SeqOps.val ?_ (Sp fun ax wx hS hT' hd K' J => ?_) ?_; rotate_left 1
   ·have r38 := Tv hd 8 3 38; have r46 := Tv hd 0 11 46; obtain ⟨hcT, hfT, hlT, hmT, hwT, hzT⟩ := bT hT'
    refine o2 r38 r46 fun ρ q38 q46 => ?_; go_simp; (try go_bits); (try simp (disch := omega) only [IntWalk.i64_in]);
    exact Jo J hT'
   refine SeqOps.val ?_ (Sp fun ax wx hS hT' hd K' J => ?_) ?_; rotate_left 1
   ·have r2 := hS.at 2 (by decide) (hE.at 2 rfl); obtain ⟨hcT, hfT, hlT, hmT, hwT, hzT⟩ := bT hT'
    refine o1 r2 fun ρ q2 => ?_; go_simp;
    exact Jo J hT'
   refine SeqOps.val ?_ (Sp fun ax wx hS hT' hd K' J => ?_) ?_; rotate_left 1
   ·have r48 := Tv hd 0 13 48; obtain ⟨hcT, hfT, hlT, hmT, hwT, hzT⟩ := bT hT'
    refine o1 r48 fun ρ q48 => ?_; go_simp;
    exact Jo J hT'
   refine SeqOps.val ?_ (Sp fun ax wx hS hT' hd K' J => ?_) ?_; rotate_left 1
   ·have r49 := Tv hd 0 14 49; obtain ⟨hcT, hfT, hlT, hmT, hwT, hzT⟩ := bT hT'
    refine o1 r49 fun ρ q49 => ?_; go_simp;
    exact Jo J hT'
   refine SeqOps.val ?_ (Sp fun ax wx hS hT' hd K' J => ?_) ?_; rotate_left 1
   ·have r8 := hS.at 8 (by decide) (hE.at 8 rfl); obtain ⟨hcT, hfT, hlT, hmT, hwT, hzT⟩ := bT hT'
    refine o1 r8 fun ρ q8 => ?_; go_simp;
    exact Jo J hT'
   refine SeqOps.val ?_ (Sp fun ax wx hS hT' hd K' J => ?_) ?_; rotate_left 1
   ·have r51 := Tv hd 0 16 51; obtain ⟨hcT, hfT, hlT, hmT, hwT, hzT⟩ := bT hT'
    refine o1 r51 fun ρ q51 => ?_; go_simp;
    exact Jo J hT'
   refine SeqOps.val ?_ (Sp fun ax wx hS hT' hd K' J => ?_) ?_; rotate_left 1
   ·have r1 := hS.at 1 (by decide) (hE.at 1 rfl); obtain ⟨hcT, hfT, hlT, hmT, hwT, hzT⟩ := bT hT'
    refine o1 r1 fun ρ q1 => ?_; go_simp;
    exact Jo J hT'
   refine SeqOps.val ?_ (Sp fun ax wx hS hT' hd K' J => ?_) ?_; rotate_left 1
   ·have r7 := hS.at 7 (by decide) (hE.at 7 rfl); obtain ⟨hcT, hfT, hlT, hmT, hwT, hzT⟩ := bT hT'
    refine o1 r7 fun ρ q7 => ?_; go_simp;
    exact Jo J hT'
   refine SeqOps.val ?_ (Sp fun ax wx hS hT' hd K' J => ?_) ?_; rotate_left 1
   ·have r54 := Tv hd 0 19 54; obtain ⟨hcT, hfT, hlT, hmT, hwT, hzT⟩ := bT hT'
    refine o1 r54 fun ρ q54 => ?_; go_simp; (try go_bits); (try simp (disch := omega) only [IntWalk.i64_in]);
    exact Jo J hT'
   refine SeqOps.val ?_ (Sp fun ax wx hS hT' hd K' J => ?_) ?_; rotate_left 1
   ·have r55 := Tv hd 0 20 55; obtain ⟨hcT, hfT, hlT, hmT, hwT, hzT⟩ := bT hT'
    refine o1 r55 fun ρ q55 => ?_; go_simp; (try go_bits); (try simp (disch := omega) only [IntWalk.i64_in]);
    exact Jo J hT'
   refine SeqOps.val ?_ (Sp fun ax wx hS hT' hd K' J => ?_) ?_; rotate_left 1
   ·have r53 := Tv hd 3 18 53; have r56 := Tv hd 0 21 56; obtain ⟨hcT, hfT, hlT, hmT, hwT, hzT⟩ := bT hT'
    refine o2 r53 r56 fun ρ q53 q56 => ?_; go_simp; (try go_bits);
    go_at_call 78; refine (HN.out (3 * (k : Int) + 2) _ (hAr.below hT')).mono ?_; rintro e g1 ⟨rfl, k1⟩
    refine J.out _ _ _ rfl ?_ (hT'.trans (k1.mono hT'.size)) k1; rfl
   refine SeqOps.val ?_ (Sp fun ax wx hS hT' hd K' J => ?_) ?_; rotate_left 1
   ·have r52 := Tv hd 5 17 52; have r57 := Tv hd 0 22 57; obtain ⟨hcT, hfT, hlT, hmT, hwT, hzT⟩ := bT hT'
    refine o2 r52 r57 fun ρ q52 q57 => ?_; go_simp; (try go_bits);
    go_at_call 77; refine (S2.out _).mono ?_; rintro e g1 ⟨rfl, k1⟩
    refine J.out _ _ _ rfl ?_ (hT'.trans (k1.mono hT'.size)) k1; rfl
   refine SeqOps.val ?_ (Sp fun ax wx hS hT' hd K' J => ?_) ?_; rotate_left 1
   ·have r50 := Tv hd 8 15 50; have r58 := Tv hd 0 23 58; obtain ⟨hcT, hfT, hlT, hmT, hwT, hzT⟩ := bT hT'
    refine o2 r50 r58 fun ρ q50 q58 => ?_; go_simp; (try go_bits); (try simp (disch := omega) only [IntWalk.i64_in]);
    exact Jo J hT'
   refine SeqOps.val ?_ (Sp fun ax wx hS hT' hd K' J => ?_) ?_; rotate_left 1
   ·have r47 := Tv hd 12 12 47; have r59 := Tv hd 0 24 59; obtain ⟨hcT, hfT, hlT, hmT, hwT, hzT⟩ := bT hT'
    refine o2 r47 r59 fun ρ q47 q59 => ?_; go_simp; (try go_bits); (try simp (disch := omega) only [IntWalk.i64_in]);
    exact Jo J hT'
   refine SeqOps.val ?_ (Sp fun ax wx hS hT' hd K' J => ?_) ?_; rotate_left 1
   ·have r2 := hS.at 2 (by decide) (hE.at 2 rfl); obtain ⟨hcT, hfT, hlT, hmT, hwT, hzT⟩ := bT hT'
    refine o1 r2 fun ρ q2 => ?_; go_simp;
    exact Jo J hT'
   refine SeqOps.val ?_ (Sp fun ax wx hS hT' hd K' J => ?_) ?_; rotate_left 1
   ·have r61 := Tv hd 0 26 61; obtain ⟨hcT, hfT, hlT, hmT, hwT, hzT⟩ := bT hT'
    refine o1 r61 fun ρ q61 => ?_; go_simp;
    exact Jo J hT'
   refine SeqOps.val ?_ (Sp fun ax wx hS hT' hd K' J => ?_) ?_; rotate_left 1
   ·have r62 := Tv hd 0 27 62; obtain ⟨hcT, hfT, hlT, hmT, hwT, hzT⟩ := bT hT'
    refine o1 r62 fun ρ q62 => ?_; go_simp;
    exact Jo J hT'
   refine SeqOps.val ?_ (Sp fun ax wx hS hT' hd K' J => ?_) ?_; rotate_left 1
   ·have r8 := hS.at 8 (by decide) (hE.at 8 rfl); obtain ⟨hcT, hfT, hlT, hmT, hwT, hzT⟩ := bT hT'
    refine o1 r8 fun ρ q8 => ?_; go_simp;
    exact Jo J hT'
   refine SeqOps.val ?_ (Sp fun ax wx hS hT' hd K' J => ?_) ?_; rotate_left 1
   ·have r64 := Tv hd 0 29 64; obtain ⟨hcT, hfT, hlT, hmT, hwT, hzT⟩ := bT hT'
    refine o1 r64 fun ρ q64 => ?_; go_simp;
    exact Jo J hT'
   refine SeqOps.val ?_ (Sp fun ax wx hS hT' hd K' J => ?_) ?_; rotate_left 1
   ·have r1 := hS.at 1 (by decide) (hE.at 1 rfl); obtain ⟨hcT, hfT, hlT, hmT, hwT, hzT⟩ := bT hT'
    refine o1 r1 fun ρ q1 => ?_; go_simp;
    exact Jo J hT'
   refine SeqOps.val ?_ (Sp fun ax wx hS hT' hd K' J => ?_) ?_; rotate_left 1
   ·have r7 := hS.at 7 (by decide) (hE.at 7 rfl); obtain ⟨hcT, hfT, hlT, hmT, hwT, hzT⟩ := bT hT'
    refine o1 r7 fun ρ q7 => ?_; go_simp;
    exact Jo J hT'
   refine SeqOps.val ?_ (Sp fun ax wx hS hT' hd K' J => ?_) ?_; rotate_left 1
   ·have r67 := Tv hd 0 32 67; obtain ⟨hcT, hfT, hlT, hmT, hwT, hzT⟩ := bT hT'
    refine o1 r67 fun ρ q67 => ?_; go_simp; (try go_bits); (try simp (disch := omega) only [IntWalk.i64_in]);
    exact Jo J hT'
   refine SeqOps.val ?_ (Sp fun ax wx hS hT' hd K' J => ?_) ?_; rotate_left 1
   ·have r68 := Tv hd 0 33 68; obtain ⟨hcT, hfT, hlT, hmT, hwT, hzT⟩ := bT hT'
    refine o1 r68 fun ρ q68 => ?_; go_simp; (try go_bits); (try simp (disch := omega) only [IntWalk.i64_in]);
    exact Jo J hT'
   refine SeqOps.val ?_ (Sp fun ax wx hS hT' hd K' J => ?_) ?_; rotate_left 1
   ·have r66 := Tv hd 3 31 66; have r69 := Tv hd 0 34 69; obtain ⟨hcT, hfT, hlT, hmT, hwT, hzT⟩ := bT hT'
    refine o2 r66 r69 fun ρ q66 q69 => ?_; go_simp; (try go_bits);
    go_at_call 78; refine (HN.out (3 * (k : Int) + 3) _ (hAr.below hT')).mono ?_; rintro e g1 ⟨rfl, k1⟩
    refine J.out _ _ _ rfl ?_ (hT'.trans (k1.mono hT'.size)) k1; rfl
   refine SeqOps.val ?_ (Sp fun ax wx hS hT' hd K' J => ?_) ?_; rotate_left 1
   ·have r65 := Tv hd 5 30 65; have r70 := Tv hd 0 35 70; obtain ⟨hcT, hfT, hlT, hmT, hwT, hzT⟩ := bT hT'
    refine o2 r65 r70 fun ρ q65 q70 => ?_; go_simp; (try go_bits);
    go_at_call 77; refine (S3.out _).mono ?_; rintro e g1 ⟨rfl, k1⟩
    refine J.out _ _ _ rfl ?_ (hT'.trans (k1.mono hT'.size)) k1; rfl
   refine SeqOps.val ?_ (Sp fun ax wx hS hT' hd K' J => ?_) ?_; rotate_left 1
   ·have r63 := Tv hd 8 28 63; have r71 := Tv hd 0 36 71; obtain ⟨hcT, hfT, hlT, hmT, hwT, hzT⟩ := bT hT'
    refine o2 r63 r71 fun ρ q63 q71 => ?_; go_simp; (try go_bits); (try simp (disch := omega) only [IntWalk.i64_in]);
    exact Jo J hT'
   refine SeqOps.val ?_ (Sp fun ax wx hS hT' hd K' J => ?_) ?_; rotate_left 1
   ·have r60 := Tv hd 12 25 60; have r72 := Tv hd 0 37 72; obtain ⟨hcT, hfT, hlT, hmT, hwT, hzT⟩ := bT hT'
    refine o2 r60 r72 fun ρ q60 q72 => ?_; go_simp; (try go_bits); (try simp (disch := omega) only [IntWalk.i64_in]);
    exact Jo J hT'
   refine SeqOps.val ?_ (Sp fun ax wx hS hT' hd K' J => ?_) ?_; rotate_left 1
   ·have r35 := Tv hd 38 0 35; have r73 := Tv hd 0 38 73; obtain ⟨hcT, hfT, hlT, hmT, hwT, hzT⟩ := bT hT'
    refine o2 r35 r73 fun ρ q35 q73 => ?_; go_simp; (try go_bits); (try simp (disch := omega) only [IntWalk.i64_in]);
    exact Jo J hT'
   refine SeqOps.nil ?_
   intro wu hBm; (repeat refine Ek ?_)
   refine fun amx hEmx => ?_
   simp only [lk, pick, Nat.reduceEqDiff, ↓reduceIte] at hEmx
   refine M1 hEmx 74 fun K' J ρ q74 => ?_; go_simp; (try clear q74)
   refine Ln hEmx J fun am_1 hEm_1 => ?_; clear J K' hEmx
   refine Ld [1, 2, 4, 5, 7, 9] hEm_1 hK fun a hE => ?_; clear hK K Q' hEm_1
   replace hCC := hCC.below hBm
   clear nC cC0 cC1 cC2 cC3 cC4 cC5
   obtain ⟨nC, cC0, cC1, cC2, cC3, cC4, cC5⟩ := hCC.c6
   have em : z + (b.sl.snow * a1 + b.sl.wind * a2 + b.sl.sun * a3) = (m : Int) := by omega
   rw [em] at hE
   clear em hmI hmI2 hz ez hleft hng
   have hSu := hS.on hlQ hBm
   have hAu := hAr.below hBm
   have d4u := (hCBr.below hBm).2 4 _ rfl
   have nBu := (hCBr.below hBm).1
   clear d0 d1 d2 d3 d4 nB nC cC0 cC1 cC2 cC3 cC4 cC5
   by_cases hgt : b.sl.hold < (m : Int)
   ·skip
    refine Ks ?_
    refine Rs 13 fun Q' K hK => ?_
    refine M1 hE 9 fun K' J ρ q9 => ?_; go_simp
    refine Ln hE J fun _ Eb => ?_; clear J K' hE a q9
    refine M1 Eb 2 fun K' J ρ q2 => ?_; go_simp
    refine Ln Eb J fun _ Ea => ?_; clear J K' Eb q2
    refine M1 Ea 76 fun K' J ρ q76 => ?_; go_simp
    refine Ln Ea J fun _ Eb => ?_; clear J K' Ea q76
    refine M1 Eb 77 fun K' J ρ q77 => ?_; go_simp
    refine Ln Eb J fun _ Ea => ?_; clear J K' Eb q77
    refine M2 Ea 75 78 fun K' J ρ q75 q78 => ?_; go_simp; (try go_bits)
    refine Ln Ea J fun _ Eb => ?_; clear J K' Ea q75 q78
    replace Eb := Eb.turn 79 (v' := .bool true) rfl (by (first | (simp; done) | (simp; omega)))
    refine M1 Eb 79 fun K' J ρ q79 => ?_; go_simp
    refine Ln Eb J fun _ Ea => ?_; clear J K' Eb q79
    refine Go.Proofs.YtkhmcofmjjmjhaaDoor.N1 Ea 80 1 fun K' J ρ q1 => ?_; go_simp
    refine Ln Ea J fun _ Eb => ?_; clear J K' Ea q1
    refine Go.Proofs.YtkhmcofmjjmjhaaDoor.N1 Eb 80 7 fun K' J ρ q7 => ?_; go_simp
    refine Ln Eb J fun _ Ea => ?_; clear J K' Eb q7
    refine Go.Proofs.YtkhmcofmjjmjhaaDoor.N2 Ea 80 81 82 fun K' J ρ q81 q82 => ?_; go_simp; (try go_bits); (try clear q81 q82)
    go_at_call 78; refine (HN.out k _ hAu).mono ?_; rintro e wv ⟨rfl, k1⟩
    (try clear r81 r82)
    refine Ln Ea J fun _ Eb => ?_; clear J K' Ea
    refine Go.Proofs.YtkhmcofmjjmjhaaDoor.N1 Eb 80 83 fun K' J ρ q83 => ?_; go_simp; (try go_bits); (try clear q83)
    go_at_call 40; refine (wind_any _ 3 (by decide) _).mono ?_; rintro e wv' ⟨rfl, rfl⟩
    (try clear r83)
    refine Ln Eb J fun _ Ea => ?_; clear J K' Eb
    refine Go.Proofs.YtkhmcofmjjmjhaaDoor.N1 Ea 80 84 fun K' J ρ q84 => ?_; go_simp; (try go_bits)
    refine Ln Ea J fun _ Eb => ?_; clear J K' Ea q84
    refine M2 Eb 80 85 fun K' J ρ q80 q85 => ?_; go_simp; (try go_bits)
    refine Ln Eb J fun _ Ea => ?_; clear J K' Eb q80 q85
    replace Ea := Ea.turn 86 (v' := .bool f) rfl (by (rw [← HF.out, decide_eq_true hgt, Bool.true_and]; congr 1 <;> first | rfl | (rw [Bool.eq_iff_iff]; simp)))
    refine M1 Ea 86 fun K' J ρ q86 => ?_; go_simp
    refine Ln Ea J fun _ Eb => ?_; clear J K' Ea q86
    refine Ld [1, 2, 4, 5, 7, 9, 10] Eb hK fun a hE => ?_; clear hK K Q' Eb
    have hSv := hSu.on hlQ k1
    have hown1 := hSv.own1
    have hown2 := hSv.own2
    have hRQv := hSv.row
    have hVb := hSv.below
    have hVs := hSv.size
    rw [htk] at hown1 hown2 hRQv
    have c50 := (hRQv 0 _ rfl).1
    have c51 := (hRQv 1 _ rfl).1
    refine Ks ?_
    refine region_drawn_app [11, 12, 13] (fun wt => (Below w3.heap.size wv wt ∧ wt.ownsRow w3.heap.size 4 1 (.slice O2 k c2) k (fvs t)) ∧ wt.ownsRow w3.heap.size 3 1 (.slice O1 k c1) k (lvs t)) (fun _ => True) (GrF w3.heap.size 4 (Value.slice O2 k c2).ownBlock (k + 1) (fvs t ++ [.bool f])) (fun wa wb => wa.grownBy wb (Value.slice O1 k c1).ownBlock) [(0, some 87), (1, some 88), (2, some 89), (3, some 90), (5, some 92), (6, some 93), (7, some 94), (8, some 95), (9, some 96), (10, some 97)] [0, 1, 2, 3, 4, 5, 6, 7, 8, 9, 10] [87, 88, 89, 90, 92, 93, 94, 95, 96, 97, 91] 4 91 10 97 (RowX 3 w3.heap.size (k + 1) (lvs t ++ [.int .i64 m]) (Value.slice O2 k c2).ownBlock) #[true, true, true, true, true, true, true, true, true, true, true, false, false, false] [1, 2, 4, 5, 7, 9, 10] hE (fun _ _ _ hR h => h.grown hR.1) (fun _ _ _ h => h) (by kernel_rfl) (by kernel_rfl) (by kernel_rfl) (by kernel_rfl) (by kernel_rfl) (by kernel_rfl) (by kernel_rfl) (by kernel_rfl) (by kernel_rfl) (by kernel_rfl) (by kernel_rfl) (by kernel_rfl) (by kernel_rfl) (by kernel_rfl) (by kernel_rfl) (by decide) (by kernel_rfl) (by kernel_rfl) (⟨⟨(Below.refl _ _).drew, hown2⟩, hown1⟩) (trivial) (fun Q' K hK => ?_)
    refine SeqA.val ?_ (Sp fun ax wx hS hT' hd K' J => ?_) ?_; rotate_left 1
    ·have r5 := hS.at 5 (by kernel_rfl) (hE.at 5 rfl); have hTb := hT'.1.1; have hTf := hT'.1.2; have hTl := hT'.2; obtain ⟨hcT, hfT, hlT, hmT, hwT⟩ := bcell hTb; have hzT := hTb.size
     refine o1 r5 fun ρ q5 => ?_; go_simp;
     refine J.out _ _ _ rfl ?_ hT' (GrF.refl); rfl
    refine SeqA.val ?_ (Sp fun ax wx hS hT' hd K' J => ?_) ?_; rotate_left 1
    ·have r87 := Tv hd 0 0 87; have hTb := hT'.1.1; have hTf := hT'.1.2; have hTl := hT'.2; obtain ⟨hcT, hfT, hlT, hmT, hwT⟩ := bcell hTb; have hzT := hTb.size
     refine o1 r87 fun ρ q87 => ?_; go_simp;
     refine J.out _ _ _ rfl ?_ hT' (GrF.refl); rfl
    refine SeqA.val ?_ (Sp fun ax wx hS hT' hd K' J => ?_) ?_; rotate_left 1
    ·have r9 := hS.at 9 (by kernel_rfl) (hE.at 9 rfl); have hTb := hT'.1.1; have hTf := hT'.1.2; have hTl := hT'.2; obtain ⟨hcT, hfT, hlT, hmT, hwT⟩ := bcell hTb; have hzT := hTb.size
     refine o1 r9 fun ρ q9 => ?_; go_simp;
     refine J.out _ _ _ rfl ?_ hT' (GrF.refl); rfl
    refine SeqA.say (NewE (Value.slice O1 k c1).ownBlock (Value.slice O2 k c2).ownBlock [.int .i64 m]) (fun _ _ _ hR h => h.grownY hR.1) (Sp fun ax wx hS hT' hd K' J => ?_) ?_
    ·have r89 := Tv hd 0 2 89; have hTb := hT'.1.1; have hTf := hT'.1.2; have hTl := hT'.2; obtain ⟨hcT, hfT, hlT, hmT, hwT⟩ := bcell hTb; have hzT := hTb.size
     refine o1 r89 fun ρ q89 => ?_; go_simp;
     exact J.out _ _ _ rfl ⟨_, rfl, (fun e => by have := own_lt hTl _ e.symm; omega), (fun e => by have := own_lt hTf _ e.symm; omega), by simp, (arr_new wx _ _).more (by simp)⟩ ⟨⟨hTb.trans (((Below.refl _ _).alloc (Nat.le_refl _) _).mono (by omega)), own_below hTf ((Below.refl _ _).alloc (Nat.le_refl _) _)⟩, own_below hTl ((Below.refl _ _).alloc (Nat.le_refl _) _)⟩ (GrF.below ((Below.refl _ _).alloc (Nat.le_refl _) _))
    refine SeqA.val ?_ (Sp fun ax wx hS hT' hd K' J => ?_) ?_; rotate_left 1
    ·have r5 := hS.at 5 (by kernel_rfl) (hE.at 5 rfl); have hTb := hT'.1.1; have hTf := hT'.1.2; have hTl := hT'.2; obtain ⟨hcT, hfT, hlT, hmT, hwT⟩ := bcell hTb; have hzT := hTb.size
     refine o1 r5 fun ρ q5 => ?_; go_simp;
     refine J.out _ _ _ rfl ?_ hT' (GrF.refl); rfl
    refine SeqA.val ?_ (Sp fun ax wx hS hT' hd K' J => ?_) ?_; rotate_left 1
    ·have r92 := Tv hd 0 5 92; have hTb := hT'.1.1; have hTf := hT'.1.2; have hTl := hT'.2; obtain ⟨hcT, hfT, hlT, hmT, hwT⟩ := bcell hTb; have hzT := hTb.size
     refine o1 r92 fun ρ q92 => ?_; go_simp;
     refine J.out _ _ _ rfl ?_ hT' (GrF.refl); rfl
    refine SeqA.val ?_ (Sp fun ax wx hS hT' hd K' J => ?_) ?_; rotate_left 1
    ·have r10 := hS.at 10 (by kernel_rfl) (hE.at 10 rfl); have hTb := hT'.1.1; have hTf := hT'.1.2; have hTl := hT'.2; obtain ⟨hcT, hfT, hlT, hmT, hwT⟩ := bcell hTb; have hzT := hTb.size
     refine o1 r10 fun ρ q10 => ?_; go_simp;
     refine J.out _ _ _ rfl ?_ hT' (GrF.refl); rfl
    refine SeqA.say (NewE (Value.slice O1 k c1).ownBlock (Value.slice O2 k c2).ownBlock [.bool f]) (fun _ _ _ hR h => h.grownY hR.1) (Sp fun ax wx hS hT' hd K' J => ?_) ?_
    ·have r94 := Tv hd 0 7 94; have hTb := hT'.1.1; have hTf := hT'.1.2; have hTl := hT'.2; obtain ⟨hcT, hfT, hlT, hmT, hwT⟩ := bcell hTb; have hzT := hTb.size
     refine o1 r94 fun ρ q94 => ?_; go_simp;
     exact J.out _ _ _ rfl ⟨_, rfl, (fun e => by have := own_lt hTl _ e.symm; omega), (fun e => by have := own_lt hTf _ e.symm; omega), by simp, (arr_new wx _ _).more (by simp)⟩ ⟨⟨hTb.trans (((Below.refl _ _).alloc (Nat.le_refl _) _).mono (by omega)), own_below hTf ((Below.refl _ _).alloc (Nat.le_refl _) _)⟩, own_below hTl ((Below.refl _ _).alloc (Nat.le_refl _) _)⟩ (GrF.below ((Below.refl _ _).alloc (Nat.le_refl _) _))
    refine SeqA.say (RowX 4 w3.heap.size (k + 1) (fvs t ++ [.bool f]) (Value.slice O1 k c1).ownBlock) (fun _ _ _ hR h => h.keep hR) (Sp fun ax wx hS hT' hd K' J => ?_) ?_
    ·have r93 := Tv hd 2 6 93; obtain ⟨v95, r95, h95⟩ := Tg hd 0 8 95; obtain ⟨G8, rfl, _, _, _, hG8⟩ := h95; have hTb := hT'.1.1; have hTf := hT'.1.2; have hTl := hT'.2; obtain ⟨hcT, hfT, hlT, hmT, hwT⟩ := bcell hTb; have hzT := hTb.size
     refine wp_appK (.tmp 93) (.tmp 95) 50 rfl w3.heap.size 4 (.bool false) 1 1 Tryd.underlying50 (by kernel_rfl) rfl (by decide) (.slice O2 k c2) k (fvs t) (eval_of r93) hTf wx.heap.size (some ⟨G8, 0, none⟩) 1 1 [.bool f] (eval_of r95) hG8 rfl (by intro u hu; rw [List.mem_singleton.1 hu]; rfl) (by simp only [maxLen]; omega) (by omega) (by omega) (fun A3 d3 w6 q1 q2 q3 q4 q5 q6 => ?_)
     have hl6 := hTl.kept q4 (own_apart2 hTl hTf (by decide))
     exact J.out _ _ _ rfl ⟨A3, d3, rfl, q3, own_apart2 q3 hl6 (by decide)⟩ ⟨⟨hTb.trans ((Below.refl w3.heap.size wx).grown q4 (by omega) (fun k e => ownBlock_le hTf k e)), q6 _ _ _ _ hTf (List.prefix_append _ _)⟩, hl6⟩ ⟨q4, fun A c h => q6 _ _ _ _ h (List.prefix_refl _)⟩
    refine SeqA.val ?_ (Sp fun ax wx hS hT' hd K' J => ?_) ?_; rotate_left 1
    ·have r5 := hS.at 5 (by kernel_rfl) (hE.at 5 rfl); have hTb := hT'.1.1; have hTf := hT'.1.2; have hTl := hT'.2; obtain ⟨hcT, hfT, hlT, hmT, hwT⟩ := bcell hTb; have hzT := hTb.size
     refine o1 r5 fun ρ q5 => ?_; go_simp;
     refine J.out _ _ _ rfl ?_ hT' (GrF.refl); rfl
    refine SeqA.nil ?_
    refine ⟨List.forall_mem_cons.2 ⟨.inr (.inr (fun _ _ _ _ h => h)), List.forall_mem_cons.2 ⟨.inr (.inr (fun _ _ _ hR h => h.grown hR)), List.forall_mem_cons.2 ⟨.inr (.inr (fun _ _ _ hR h => h.grownX hR)), List.forall_mem_cons.2 ⟨.inr (.inr (fun _ _ _ _ h => h)), List.forall_mem_cons.2 ⟨.inr (.inr (fun _ _ _ _ h => h)), List.forall_mem_cons.2 ⟨.inr (.inr (fun _ _ _ _ h => h)), List.forall_mem_cons.2 ⟨.inr (.inr (fun _ _ _ hR h => h.grownX hR)), List.forall_mem_cons.2 ⟨.inr (.inr (fun _ _ _ _ h => h)), List.forall_mem_cons.2 ⟨.inr (.inr (fun _ _ _ _ h => h)), List.forall_mem_cons.2 ⟨.inr (.inr (fun _ _ _ _ h => h)), List.forall_mem_cons.2 ⟨.inl rfl, fun _ h => absurd h List.not_mem_nil⟩⟩⟩⟩⟩⟩⟩⟩⟩⟩⟩, StepApp.plain (by (first | (simp only [List.getElem?_toArray, List.getElem?_cons_succ, List.getElem?_cons_zero]; rfl) | rfl)) rfl (fun ax wx hS hT' hP' hd K' J => ?_), ?_⟩
    ·have r88 := Tv hd 8 1 88; obtain ⟨v90, r90, h90⟩ := Tg hd 6 3 90; obtain ⟨G3, rfl, _, _, _, hG3⟩ := h90; have hTb := hT'.1.1; have hTf := hT'.1.2; have hTl := hT'.2; obtain ⟨hcT, hfT, hlT, hmT, hwT⟩ := bcell hTb; have hzT := hTb.size
     refine wp_appK (.tmp 88) (.tmp 90) 40 rfl w3.heap.size 3 (.int .i64 0) 1 8 Tryd.underlying40 (by kernel_rfl) rfl (by decide) (.slice O1 k c1) k (lvs t) (eval_of r88) hTl wx.heap.size (some ⟨G3, 0, none⟩) 1 1 [.int .i64 m] (eval_of r90) hG3 rfl (by intro u hu; rw [List.mem_singleton.1 hu]; rfl) (by simp only [maxLen]; omega) (by omega) (by omega) (fun A2 d2 w5 q1 q2 q3 q4 q5 q6 => ?_)
     have hf5 := hTf.kept q4 (own_apart2 hTf hTl (by decide))
     exact J.out _ _ _ rfl ⟨A2, d2, rfl, q3, own_apart2 q3 hf5 (by decide)⟩ ⟨⟨hTb.trans ((Below.refl w3.heap.size wx).grown q4 (by omega) (fun k e => ownBlock_le hTl k e)), hf5⟩, q6 _ _ _ _ hTl (List.prefix_append _ _)⟩ q4
    intro wz hBn; (refine fun v h => ?_; obtain ⟨A2, d2, rfl, hO4, _⟩ := h); (repeat refine Ek ?_); (refine fun v h => ?_; obtain ⟨G3, rfl, _, _, _, hG3⟩ := h); (repeat refine Ek ?_); (refine fun v h => ?_; obtain ⟨G8, rfl, _, _, _, hG8⟩ := h); (refine fun v h => ?_; obtain ⟨A3, d3, rfl, hO9, _⟩ := h); (repeat refine Ek ?_)
    refine fun anx hEnx => ?_
    simp only [lk, pick, Nat.reduceEqDiff, ↓reduceIte] at hEnx
    have hBb := hBn.1.1
    have hRQ6 := row_of_block hRQv (hBb.block Q hlQ)
    have y0 := (hRQ6 0 _ rfl).2
    have y1 := (hRQ6 1 _ rfl).2
    refine M2 hEnx 97 91 fun K' J ρ q97 q91 => ?_; go_simp; (try clear q97 q91)
    refine late_skip hEnx J (fun an_1 hEn_1 => ?_); clear J K'; clear hEnx
    refine M1 hEn_1 5 fun K' J ρ q5 => ?_; go_simp; (try clear q5)
    refine Ln hEn_1 J fun an_2 hEn_2 => ?_; clear J K' hEn_1
    refine M2 hEn_2 98 96 fun K' J ρ q98 q96 => ?_; go_simp; (try clear q98 q96)
    refine late_skip hEn_2 J (fun an_3 hEn_3 => ?_); clear J K'; clear hEn_2
    refine Ld [1, 2, 4, 5, 7, 9, 10] hEn_3 hK fun a hE => ?_; clear hK K Q' hEn_3
    have r1' := (hRQ6.set (o := 0) (v := .slice A2 (k + 1) d2) (by simp)).set (o := 1) (v := .slice A3 (k + 1) d3) (by simp)
    have hl1 : k + 1 = (t ++ [(m, f)]).length := by simp [htk]
    have o1' := own_of_block hO4 (w' := (wz.setCell ⟨Q, 0, none⟩ (.slice A2 (k + 1) d2)).setCell ⟨Q, 1, none⟩ (.slice A3 (k + 1) d3)) (by simp) (fun g hg => by rw [Below.heap_setCell _ _ _ _ (by have := ownBlock_le hO4 g hg; simp only; omega), Below.heap_setCell _ _ _ _ (by have := ownBlock_le hO4 g hg; simp only; omega)])
    have o2' := own_of_block hO9 (w' := (wz.setCell ⟨Q, 0, none⟩ (.slice A2 (k + 1) d2)).setCell ⟨Q, 1, none⟩ (.slice A3 (k + 1) d3)) (by simp) (fun g hg => by rw [Below.heap_setCell _ _ _ _ (by have := ownBlock_le hO9 g hg; simp only; omega), Below.heap_setCell _ _ _ _ (by have := ownBlock_le hO9 g hg; simp only; omega)])
    have hHS : HaS Q w1 w3 (t ++ [(m, f)]) A2 d2 A3 d3 ((wz.setCell ⟨Q, 0, none⟩ (.slice A2 (k + 1) d2)).setCell ⟨Q, 1, none⟩ (.slice A3 (k + 1) d3)) := by rw [hl1] at o1' o2' r1' ⊢; exact ⟨(((hVb.trans (hBb.mono (by omega))).setCell hnQ _).setCell hnQ _), by simp only [World.size_setCell]; exact Nat.le_trans hVs hBb.size, r1', by rw [lvs_snoc]; exact o1', by rw [fvs_snoc]; exact o2'⟩
    refine world_cut (fun wt => HaS Q w1 w3 (t ++ [(m, f)]) A2 d2 A3 d3 wt) hHS (fun w9 hS9 => ?_)
    clear y0 y1 r1' o1' o2' hHS hRQ6 hBb hO4 hO9
    refine Ks ?_
    refine Rs 2 fun Q' K hK => ?_
    refine M1 hE 9 fun K' J ρ q9 => ?_; go_simp
    refine Ln hE J fun _ Eb => ?_; clear J K' hE a q9
    refine M1 Eb 99 fun K' J ρ q99 => ?_; go_simp
    refine Ln Eb J fun _ Ea => ?_; clear J K' Eb q99
    refine Ld [1, 2, 4, 5, 6, 7, 10] Ea hK fun a hE => ?_; clear hK K Q' Ea
    have hfin : leftT l0 (t ++ [(m, f)]) = if f then 0 else m := leftT_snoc _ _ _
    have hTK := truK_succ (f := f) hT hkl (X' ▸ hBr) hFf HMI.out
    cases hfv : f
    ·rw [hfv] at hE hfin hS9 hTK
     refine Ks ?_
     refine Rs 1 fun Q' K hK => ?_
     refine M1 hE 10 fun K' J ρ q10 => ?_; go_simp
     refine Ln hE J fun _ Eb => ?_; clear J K' hE a q10
     replace Eb := Eb.turn 100 (v' := .bool false) rfl (by (first | rfl | simp))
     refine Ld [1, 2, 4, 5, 6, 7, 100] Eb hK fun a hE => ?_; clear hK K Q' Eb
     refine Ks ?_
     refine cond_no hE (t := 100) rfl ?_
     refine Ks ?_
     refine Rs 3 fun Q' K hK => ?_
     refine M1 hE 7 fun K' J ρ q7 => ?_; go_simp
     refine Ln hE J fun _ Eb => ?_; clear J K' hE a q7
     refine M1 Eb 21 fun K' J ρ q21 => ?_; go_simp; (try go_bits); (try simp (disch := omega) only [IntWalk.i64_in])
     refine Ln Eb J fun _ Ea => ?_; clear J K' Eb q21
     refine M1 Ea 22 fun K' J ρ q22 => ?_; go_simp
     refine Ln Ea J fun _ Eb => ?_; clear J K' Ea q22
     refine Ld [1, 2, 4, 5, 6, 7] Eb hK fun a hE => ?_; clear hK K Q' Eb
     refine Ks ?_
     refine ⟨k + 1, ⟨t ++ [(m, false)], A2, d2, A3, d3, hlt, hTK, ?_, hS9⟩, by omega⟩
     rw [hfin]
     simpa using hE
    ·rw [hfv] at hE hfin hS9 hTK
     refine Ks ?_
     refine Rs 1 fun Q' K hK => ?_
     refine M1 hE 10 fun K' J ρ q10 => ?_; go_simp
     refine Ln hE J fun _ Eb => ?_; clear J K' hE a q10
     replace Eb := Eb.turn 100 (v' := .bool true) rfl (by (first | rfl | simp))
     refine Ld [1, 2, 4, 5, 6, 7, 100] Eb hK fun a hE => ?_; clear hK K Q' Eb
     refine Ks ?_
     refine cond_yes hE (t := 100) rfl ?_
     refine Ks ?_
     refine Rs 1 fun Q' K hK => ?_
     refine M0 fun K' J ρ => ?_; go_simp;
     refine Ln hE J fun _ Eb => ?_; clear J K' hE a
     refine Ld [1, 2, 4, 5, 6, 7] Eb hK fun a hE => ?_; clear hK K Q' Eb
     refine Ks ?_
     refine Rs 3 fun Q' K hK => ?_
     refine M1 hE 7 fun K' J ρ q7 => ?_; go_simp
     refine Ln hE J fun _ Eb => ?_; clear J K' hE a q7
     refine M1 Eb 21 fun K' J ρ q21 => ?_; go_simp; (try go_bits); (try simp (disch := omega) only [IntWalk.i64_in])
     refine Ln Eb J fun _ Ea => ?_; clear J K' Eb q21
     refine M1 Ea 22 fun K' J ρ q22 => ?_; go_simp
     refine Ln Ea J fun _ Eb => ?_; clear J K' Ea q22
     refine Ld [1, 2, 4, 5, 6, 7] Eb hK fun a hE => ?_; clear hK K Q' Eb
     refine Ks ?_
     refine ⟨k + 1, ⟨t ++ [(m, true)], A2, d2, A3, d3, hlt, hTK, ?_, hS9⟩, by omega⟩
     rw [hfin]
     simpa using hE
   ·skip
    refine Ks ?_
    refine Rs 13 fun Q' K hK => ?_
    refine M1 hE 9 fun K' J ρ q9 => ?_; go_simp
    refine Ln hE J fun _ Eb => ?_; clear J K' hE a q9
    refine M1 Eb 2 fun K' J ρ q2 => ?_; go_simp
    refine Ln Eb J fun _ Ea => ?_; clear J K' Eb q2
    refine M1 Ea 76 fun K' J ρ q76 => ?_; go_simp
    refine Ln Ea J fun _ Eb => ?_; clear J K' Ea q76
    refine M1 Eb 77 fun K' J ρ q77 => ?_; go_simp
    refine Ln Eb J fun _ Ea => ?_; clear J K' Eb q77
    refine M2 Ea 75 78 fun K' J ρ q75 q78 => ?_; go_simp; (try go_bits)
    refine Ln Ea J fun _ Eb => ?_; clear J K' Ea q75 q78
    replace Eb := Eb.turn 79 (v' := .bool false) rfl (by (first | (simp; done) | (simp; omega)))
    refine M1 Eb 79 fun K' J ρ q79 => ?_; go_simp
    refine Ln Eb J fun _ Ea => ?_; clear J K' Eb q79
    refine Lno Ea 80 ?_
    refine Lu Ea fun _ Eb => ?_
    refine Lno Eb 80 ?_
    refine Lu Eb fun _ Ea => ?_
    refine Lno Ea 80 ?_
    refine Lu Ea fun _ Eb => ?_
    refine Lno Eb 80 ?_
    refine Lu Eb fun _ Ea => ?_
    refine Lno Ea 80 ?_
    refine Lu Ea fun _ Eb => ?_
    refine M2 Eb 80 85 fun K' J ρ q80 q85 => ?_; go_simp; (try go_bits)
    refine Ln Eb J fun _ Ea => ?_; clear J K' Eb q80 q85
    replace Ea := Ea.turn 86 (v' := .bool f) rfl (by (rw [← HF.out]; simp [hgt]))
    refine M1 Ea 86 fun K' J ρ q86 => ?_; go_simp
    refine Ln Ea J fun _ Eb => ?_; clear J K' Ea q86
    refine Ld [1, 2, 4, 5, 7, 9, 10] Eb hK fun a hE => ?_; clear hK K Q' Eb
    have hown1 := hSu.own1
    have hown2 := hSu.own2
    have hRQv := hSu.row
    have hVb := hSu.below
    have hVs := hSu.size
    rw [htk] at hown1 hown2 hRQv
    have c50 := (hRQv 0 _ rfl).1
    have c51 := (hRQv 1 _ rfl).1
    refine Ks ?_
    refine region_drawn_app [11, 12, 13] (fun wt => (Below w3.heap.size wu wt ∧ wt.ownsRow w3.heap.size 4 1 (.slice O2 k c2) k (fvs t)) ∧ wt.ownsRow w3.heap.size 3 1 (.slice O1 k c1) k (lvs t)) (fun _ => True) (GrF w3.heap.size 4 (Value.slice O2 k c2).ownBlock (k + 1) (fvs t ++ [.bool f])) (fun wa wb => wa.grownBy wb (Value.slice O1 k c1).ownBlock) [(0, some 87), (1, some 88), (2, some 89), (3, some 90), (5, some 92), (6, some 93), (7, some 94), (8, some 95), (9, some 96), (10, some 97)] [0, 1, 2, 3, 4, 5, 6, 7, 8, 9, 10] [87, 88, 89, 90, 92, 93, 94, 95, 96, 97, 91] 4 91 10 97 (RowX 3 w3.heap.size (k + 1) (lvs t ++ [.int .i64 m]) (Value.slice O2 k c2).ownBlock) #[true, true, true, true, true, true, true, true, true, true, true, false, false, false] [1, 2, 4, 5, 7, 9, 10] hE (fun _ _ _ hR h => h.grown hR.1) (fun _ _ _ h => h) (by kernel_rfl) (by kernel_rfl) (by kernel_rfl) (by kernel_rfl) (by kernel_rfl) (by kernel_rfl) (by kernel_rfl) (by kernel_rfl) (by kernel_rfl) (by kernel_rfl) (by kernel_rfl) (by kernel_rfl) (by kernel_rfl) (by kernel_rfl) (by kernel_rfl) (by decide) (by kernel_rfl) (by kernel_rfl) (⟨⟨(Below.refl _ _).drew, hown2⟩, hown1⟩) (trivial) (fun Q' K hK => ?_)
    refine SeqA.val ?_ (Sp fun ax wx hS hT' hd K' J => ?_) ?_; rotate_left 1
    ·have r5 := hS.at 5 (by kernel_rfl) (hE.at 5 rfl); have hTb := hT'.1.1; have hTf := hT'.1.2; have hTl := hT'.2; obtain ⟨hcT, hfT, hlT, hmT, hwT⟩ := bcell hTb; have hzT := hTb.size
     refine o1 r5 fun ρ q5 => ?_; go_simp;
     refine J.out _ _ _ rfl ?_ hT' (GrF.refl); rfl
    refine SeqA.val ?_ (Sp fun ax wx hS hT' hd K' J => ?_) ?_; rotate_left 1
    ·have r87 := Tv hd 0 0 87; have hTb := hT'.1.1; have hTf := hT'.1.2; have hTl := hT'.2; obtain ⟨hcT, hfT, hlT, hmT, hwT⟩ := bcell hTb; have hzT := hTb.size
     refine o1 r87 fun ρ q87 => ?_; go_simp;
     refine J.out _ _ _ rfl ?_ hT' (GrF.refl); rfl
    refine SeqA.val ?_ (Sp fun ax wx hS hT' hd K' J => ?_) ?_; rotate_left 1
    ·have r9 := hS.at 9 (by kernel_rfl) (hE.at 9 rfl); have hTb := hT'.1.1; have hTf := hT'.1.2; have hTl := hT'.2; obtain ⟨hcT, hfT, hlT, hmT, hwT⟩ := bcell hTb; have hzT := hTb.size
     refine o1 r9 fun ρ q9 => ?_; go_simp;
     refine J.out _ _ _ rfl ?_ hT' (GrF.refl); rfl
    refine SeqA.say (NewE (Value.slice O1 k c1).ownBlock (Value.slice O2 k c2).ownBlock [.int .i64 m]) (fun _ _ _ hR h => h.grownY hR.1) (Sp fun ax wx hS hT' hd K' J => ?_) ?_
    ·have r89 := Tv hd 0 2 89; have hTb := hT'.1.1; have hTf := hT'.1.2; have hTl := hT'.2; obtain ⟨hcT, hfT, hlT, hmT, hwT⟩ := bcell hTb; have hzT := hTb.size
     refine o1 r89 fun ρ q89 => ?_; go_simp;
     exact J.out _ _ _ rfl ⟨_, rfl, (fun e => by have := own_lt hTl _ e.symm; omega), (fun e => by have := own_lt hTf _ e.symm; omega), by simp, (arr_new wx _ _).more (by simp)⟩ ⟨⟨hTb.trans (((Below.refl _ _).alloc (Nat.le_refl _) _).mono (by omega)), own_below hTf ((Below.refl _ _).alloc (Nat.le_refl _) _)⟩, own_below hTl ((Below.refl _ _).alloc (Nat.le_refl _) _)⟩ (GrF.below ((Below.refl _ _).alloc (Nat.le_refl _) _))
    refine SeqA.val ?_ (Sp fun ax wx hS hT' hd K' J => ?_) ?_; rotate_left 1
    ·have r5 := hS.at 5 (by kernel_rfl) (hE.at 5 rfl); have hTb := hT'.1.1; have hTf := hT'.1.2; have hTl := hT'.2; obtain ⟨hcT, hfT, hlT, hmT, hwT⟩ := bcell hTb; have hzT := hTb.size
     refine o1 r5 fun ρ q5 => ?_; go_simp;
     refine J.out _ _ _ rfl ?_ hT' (GrF.refl); rfl
    refine SeqA.val ?_ (Sp fun ax wx hS hT' hd K' J => ?_) ?_; rotate_left 1
    ·have r92 := Tv hd 0 5 92; have hTb := hT'.1.1; have hTf := hT'.1.2; have hTl := hT'.2; obtain ⟨hcT, hfT, hlT, hmT, hwT⟩ := bcell hTb; have hzT := hTb.size
     refine o1 r92 fun ρ q92 => ?_; go_simp;
     refine J.out _ _ _ rfl ?_ hT' (GrF.refl); rfl
    refine SeqA.val ?_ (Sp fun ax wx hS hT' hd K' J => ?_) ?_; rotate_left 1
    ·have r10 := hS.at 10 (by kernel_rfl) (hE.at 10 rfl); have hTb := hT'.1.1; have hTf := hT'.1.2; have hTl := hT'.2; obtain ⟨hcT, hfT, hlT, hmT, hwT⟩ := bcell hTb; have hzT := hTb.size
     refine o1 r10 fun ρ q10 => ?_; go_simp;
     refine J.out _ _ _ rfl ?_ hT' (GrF.refl); rfl
    refine SeqA.say (NewE (Value.slice O1 k c1).ownBlock (Value.slice O2 k c2).ownBlock [.bool f]) (fun _ _ _ hR h => h.grownY hR.1) (Sp fun ax wx hS hT' hd K' J => ?_) ?_
    ·have r94 := Tv hd 0 7 94; have hTb := hT'.1.1; have hTf := hT'.1.2; have hTl := hT'.2; obtain ⟨hcT, hfT, hlT, hmT, hwT⟩ := bcell hTb; have hzT := hTb.size
     refine o1 r94 fun ρ q94 => ?_; go_simp;
     exact J.out _ _ _ rfl ⟨_, rfl, (fun e => by have := own_lt hTl _ e.symm; omega), (fun e => by have := own_lt hTf _ e.symm; omega), by simp, (arr_new wx _ _).more (by simp)⟩ ⟨⟨hTb.trans (((Below.refl _ _).alloc (Nat.le_refl _) _).mono (by omega)), own_below hTf ((Below.refl _ _).alloc (Nat.le_refl _) _)⟩, own_below hTl ((Below.refl _ _).alloc (Nat.le_refl _) _)⟩ (GrF.below ((Below.refl _ _).alloc (Nat.le_refl _) _))
    refine SeqA.say (RowX 4 w3.heap.size (k + 1) (fvs t ++ [.bool f]) (Value.slice O1 k c1).ownBlock) (fun _ _ _ hR h => h.keep hR) (Sp fun ax wx hS hT' hd K' J => ?_) ?_
    ·have r93 := Tv hd 2 6 93; obtain ⟨v95, r95, h95⟩ := Tg hd 0 8 95; obtain ⟨G8, rfl, _, _, _, hG8⟩ := h95; have hTb := hT'.1.1; have hTf := hT'.1.2; have hTl := hT'.2; obtain ⟨hcT, hfT, hlT, hmT, hwT⟩ := bcell hTb; have hzT := hTb.size
     refine wp_appK (.tmp 93) (.tmp 95) 50 rfl w3.heap.size 4 (.bool false) 1 1 Tryd.underlying50 (by kernel_rfl) rfl (by decide) (.slice O2 k c2) k (fvs t) (eval_of r93) hTf wx.heap.size (some ⟨G8, 0, none⟩) 1 1 [.bool f] (eval_of r95) hG8 rfl (by intro u hu; rw [List.mem_singleton.1 hu]; rfl) (by simp only [maxLen]; omega) (by omega) (by omega) (fun A3 d3 w6 q1 q2 q3 q4 q5 q6 => ?_)
     have hl6 := hTl.kept q4 (own_apart2 hTl hTf (by decide))
     exact J.out _ _ _ rfl ⟨A3, d3, rfl, q3, own_apart2 q3 hl6 (by decide)⟩ ⟨⟨hTb.trans ((Below.refl w3.heap.size wx).grown q4 (by omega) (fun k e => ownBlock_le hTf k e)), q6 _ _ _ _ hTf (List.prefix_append _ _)⟩, hl6⟩ ⟨q4, fun A c h => q6 _ _ _ _ h (List.prefix_refl _)⟩
    refine SeqA.val ?_ (Sp fun ax wx hS hT' hd K' J => ?_) ?_; rotate_left 1
    ·have r5 := hS.at 5 (by kernel_rfl) (hE.at 5 rfl); have hTb := hT'.1.1; have hTf := hT'.1.2; have hTl := hT'.2; obtain ⟨hcT, hfT, hlT, hmT, hwT⟩ := bcell hTb; have hzT := hTb.size
     refine o1 r5 fun ρ q5 => ?_; go_simp;
     refine J.out _ _ _ rfl ?_ hT' (GrF.refl); rfl
    refine SeqA.nil ?_
    refine ⟨List.forall_mem_cons.2 ⟨.inr (.inr (fun _ _ _ _ h => h)), List.forall_mem_cons.2 ⟨.inr (.inr (fun _ _ _ hR h => h.grown hR)), List.forall_mem_cons.2 ⟨.inr (.inr (fun _ _ _ hR h => h.grownX hR)), List.forall_mem_cons.2 ⟨.inr (.inr (fun _ _ _ _ h => h)), List.forall_mem_cons.2 ⟨.inr (.inr (fun _ _ _ _ h => h)), List.forall_mem_cons.2 ⟨.inr (.inr (fun _ _ _ _ h => h)), List.forall_mem_cons.2 ⟨.inr (.inr (fun _ _ _ hR h => h.grownX hR)), List.forall_mem_cons.2 ⟨.inr (.inr (fun _ _ _ _ h => h)), List.forall_mem_cons.2 ⟨.inr (.inr (fun _ _ _ _ h => h)), List.forall_mem_cons.2 ⟨.inr (.inr (fun _ _ _ _ h => h)), List.forall_mem_cons.2 ⟨.inl rfl, fun _ h => absurd h List.not_mem_nil⟩⟩⟩⟩⟩⟩⟩⟩⟩⟩⟩, StepApp.plain (by (first | (simp only [List.getElem?_toArray, List.getElem?_cons_succ, List.getElem?_cons_zero]; rfl) | rfl)) rfl (fun ax wx hS hT' hP' hd K' J => ?_), ?_⟩
    ·have r88 := Tv hd 8 1 88; obtain ⟨v90, r90, h90⟩ := Tg hd 6 3 90; obtain ⟨G3, rfl, _, _, _, hG3⟩ := h90; have hTb := hT'.1.1; have hTf := hT'.1.2; have hTl := hT'.2; obtain ⟨hcT, hfT, hlT, hmT, hwT⟩ := bcell hTb; have hzT := hTb.size
     refine wp_appK (.tmp 88) (.tmp 90) 40 rfl w3.heap.size 3 (.int .i64 0) 1 8 Tryd.underlying40 (by kernel_rfl) rfl (by decide) (.slice O1 k c1) k (lvs t) (eval_of r88) hTl wx.heap.size (some ⟨G3, 0, none⟩) 1 1 [.int .i64 m] (eval_of r90) hG3 rfl (by intro u hu; rw [List.mem_singleton.1 hu]; rfl) (by simp only [maxLen]; omega) (by omega) (by omega) (fun A2 d2 w5 q1 q2 q3 q4 q5 q6 => ?_)
     have hf5 := hTf.kept q4 (own_apart2 hTf hTl (by decide))
     exact J.out _ _ _ rfl ⟨A2, d2, rfl, q3, own_apart2 q3 hf5 (by decide)⟩ ⟨⟨hTb.trans ((Below.refl w3.heap.size wx).grown q4 (by omega) (fun k e => ownBlock_le hTl k e)), hf5⟩, q6 _ _ _ _ hTl (List.prefix_append _ _)⟩ q4
    intro wz hBn; (refine fun v h => ?_; obtain ⟨A2, d2, rfl, hO4, _⟩ := h); (repeat refine Ek ?_); (refine fun v h => ?_; obtain ⟨G3, rfl, _, _, _, hG3⟩ := h); (repeat refine Ek ?_); (refine fun v h => ?_; obtain ⟨G8, rfl, _, _, _, hG8⟩ := h); (refine fun v h => ?_; obtain ⟨A3, d3, rfl, hO9, _⟩ := h); (repeat refine Ek ?_)
    refine fun anx hEnx => ?_
    simp only [lk, pick, Nat.reduceEqDiff, ↓reduceIte] at hEnx
    have hBb := hBn.1.1
    have hRQ6 := row_of_block hRQv (hBb.block Q hlQ)
    have y0 := (hRQ6 0 _ rfl).2
    have y1 := (hRQ6 1 _ rfl).2
    refine M2 hEnx 97 91 fun K' J ρ q97 q91 => ?_; go_simp; (try clear q97 q91)
    refine late_skip hEnx J (fun an_1 hEn_1 => ?_); clear J K'; clear hEnx
    refine M1 hEn_1 5 fun K' J ρ q5 => ?_; go_simp; (try clear q5)
    refine Ln hEn_1 J fun an_2 hEn_2 => ?_; clear J K' hEn_1
    refine M2 hEn_2 98 96 fun K' J ρ q98 q96 => ?_; go_simp; (try clear q98 q96)
    refine late_skip hEn_2 J (fun an_3 hEn_3 => ?_); clear J K'; clear hEn_2
    refine Ld [1, 2, 4, 5, 7, 9, 10] hEn_3 hK fun a hE => ?_; clear hK K Q' hEn_3
    have r1' := (hRQ6.set (o := 0) (v := .slice A2 (k + 1) d2) (by simp)).set (o := 1) (v := .slice A3 (k + 1) d3) (by simp)
    have hl1 : k + 1 = (t ++ [(m, f)]).length := by simp [htk]
    have o1' := own_of_block hO4 (w' := (wz.setCell ⟨Q, 0, none⟩ (.slice A2 (k + 1) d2)).setCell ⟨Q, 1, none⟩ (.slice A3 (k + 1) d3)) (by simp) (fun g hg => by rw [Below.heap_setCell _ _ _ _ (by have := ownBlock_le hO4 g hg; simp only; omega), Below.heap_setCell _ _ _ _ (by have := ownBlock_le hO4 g hg; simp only; omega)])
    have o2' := own_of_block hO9 (w' := (wz.setCell ⟨Q, 0, none⟩ (.slice A2 (k + 1) d2)).setCell ⟨Q, 1, none⟩ (.slice A3 (k + 1) d3)) (by simp) (fun g hg => by rw [Below.heap_setCell _ _ _ _ (by have := ownBlock_le hO9 g hg; simp only; omega), Below.heap_setCell _ _ _ _ (by have := ownBlock_le hO9 g hg; simp only; omega)])
    have hHS : HaS Q w1 w3 (t ++ [(m, f)]) A2 d2 A3 d3 ((wz.setCell ⟨Q, 0, none⟩ (.slice A2 (k + 1) d2)).setCell ⟨Q, 1, none⟩ (.slice A3 (k + 1) d3)) := by rw [hl1] at o1' o2' r1' ⊢; exact ⟨(((hVb.trans (hBb.mono (by omega))).setCell hnQ _).setCell hnQ _), by simp only [World.size_setCell]; exact Nat.le_trans hVs hBb.size, r1', by rw [lvs_snoc]; exact o1', by rw [fvs_snoc]; exact o2'⟩
    refine world_cut (fun wt => HaS Q w1 w3 (t ++ [(m, f)]) A2 d2 A3 d3 wt) hHS (fun w9 hS9 => ?_)
    clear y0 y1 r1' o1' o2' hHS hRQ6 hBb hO4 hO9
    refine Ks ?_
    refine Rs 2 fun Q' K hK => ?_
    refine M1 hE 9 fun K' J ρ q9 => ?_; go_simp
    refine Ln hE J fun _ Eb => ?_; clear J K' hE a q9
    refine M1 Eb 99 fun K' J ρ q99 => ?_; go_simp
    refine Ln Eb J fun _ Ea => ?_; clear J K' Eb q99
    refine Ld [1, 2, 4, 5, 6, 7, 10] Ea hK fun a hE => ?_; clear hK K Q' Ea
    have hfin : leftT l0 (t ++ [(m, f)]) = if f then 0 else m := leftT_snoc _ _ _
    have hTK := truK_succ (f := f) hT hkl (X' ▸ hBr) hFf HMI.out
    cases hfv : f
    ·rw [hfv] at hE hfin hS9 hTK
     refine Ks ?_
     refine Rs 1 fun Q' K hK => ?_
     refine M1 hE 10 fun K' J ρ q10 => ?_; go_simp
     refine Ln hE J fun _ Eb => ?_; clear J K' hE a q10
     replace Eb := Eb.turn 100 (v' := .bool false) rfl (by (first | rfl | simp))
     refine Ld [1, 2, 4, 5, 6, 7, 100] Eb hK fun a hE => ?_; clear hK K Q' Eb
     refine Ks ?_
     refine cond_no hE (t := 100) rfl ?_
     refine Ks ?_
     refine Rs 3 fun Q' K hK => ?_
     refine M1 hE 7 fun K' J ρ q7 => ?_; go_simp
     refine Ln hE J fun _ Eb => ?_; clear J K' hE a q7
     refine M1 Eb 21 fun K' J ρ q21 => ?_; go_simp; (try go_bits); (try simp (disch := omega) only [IntWalk.i64_in])
     refine Ln Eb J fun _ Ea => ?_; clear J K' Eb q21
     refine M1 Ea 22 fun K' J ρ q22 => ?_; go_simp
     refine Ln Ea J fun _ Eb => ?_; clear J K' Ea q22
     refine Ld [1, 2, 4, 5, 6, 7] Eb hK fun a hE => ?_; clear hK K Q' Eb
     refine Ks ?_
     refine ⟨k + 1, ⟨t ++ [(m, false)], A2, d2, A3, d3, hlt, hTK, ?_, hS9⟩, by omega⟩
     rw [hfin]
     simpa using hE
    ·rw [hfv] at hE hfin hS9 hTK
     refine Ks ?_
     refine Rs 1 fun Q' K hK => ?_
     refine M1 hE 10 fun K' J ρ q10 => ?_; go_simp
     refine Ln hE J fun _ Eb => ?_; clear J K' hE a q10
     replace Eb := Eb.turn 100 (v' := .bool true) rfl (by (first | rfl | simp))
     refine Ld [1, 2, 4, 5, 6, 7, 100] Eb hK fun a hE => ?_; clear hK K Q' Eb
     refine Ks ?_
     refine cond_yes hE (t := 100) rfl ?_
     refine Ks ?_
     refine Rs 1 fun Q' K hK => ?_
     refine M0 fun K' J ρ => ?_; go_simp;
     refine Ln hE J fun _ Eb => ?_; clear J K' hE a
     refine Ld [1, 2, 4, 5, 6, 7] Eb hK fun a hE => ?_; clear hK K Q' Eb
     refine Ks ?_
     refine Rs 3 fun Q' K hK => ?_
     refine M1 hE 7 fun K' J ρ q7 => ?_; go_simp
     refine Ln hE J fun _ Eb => ?_; clear J K' hE a q7
     refine M1 Eb 21 fun K' J ρ q21 => ?_; go_simp; (try go_bits); (try simp (disch := omega) only [IntWalk.i64_in])
     refine Ln Eb J fun _ Ea => ?_; clear J K' Eb q21
     refine M1 Ea 22 fun K' J ρ q22 => ?_; go_simp
     refine Ln Ea J fun _ Eb => ?_; clear J K' Ea q22
     refine Ld [1, 2, 4, 5, 6, 7] Eb hK fun a hE => ?_; clear hK K Q' Eb
     refine Ks ?_
     refine ⟨k + 1, ⟨t ++ [(m, true)], A2, d2, A3, d3, hlt, hTK, ?_, hS9⟩, by omega⟩
     rw [hfin]
     simpa using hE
  ·skip
   refine Ks ?_
   refine Rs 2 fun Q' K hK => ?_
   refine M1 hE 9 fun K' J ρ q9 => ?_; go_simp
   refine Ln hE J fun _ Eb => ?_; clear J K' hE a q9
   refine M1 Eb 33 fun K' J ρ q33 => ?_; go_simp; (try go_bits)
   refine Ln Eb J fun _ Ea => ?_; clear J K' Eb q33
   replace Ea := Ea.turn 34 (v' := .bool false) rfl (by (first | (simp; done) | (simp; omega)))
   refine Ld [1, 2, 4, 5, 7, 8, 9, 34] Ea hK fun a hE => ?_; clear hK K Q' Ea
   have ez : (left : Int) - b.sl.settle = z := by omega
   rw [ez] at hE
   refine Ks ?_
   refine cond_no hE (t := 34) rfl ?_
   refine Ks ?_
   refine Rd [40] (fun wt => Below wq.heap.size wq wt) (fun w1 w2 => Below w1.heap.size w1 w2) [(0, some 35), (1, some 36), (2, some 37), (3, some 38), (4, some 39), (5, some 40), (6, some 41), (7, some 42), (8, some 43), (9, some 44), (10, some 45), (11, some 46), (12, some 47), (13, some 48), (14, some 49), (15, some 50), (16, some 51), (17, some 52), (18, some 53), (19, some 54), (20, some 55), (21, some 56), (22, some 57), (23, some 58), (24, some 59), (25, some 60), (26, some 61), (27, some 62), (28, some 63), (29, some 64), (30, some 65), (31, some 66), (32, some 67), (33, some 68), (34, some 69), (35, some 70), (36, some 71), (37, some 72), (38, some 73), (39, some 74)] [35, 36, 37, 38, 39, 40, 41, 42, 43, 44, 45, 46, 47, 48, 49, 50, 51, 52, 53, 54, 55, 56, 57, 58, 59, 60, 61, 62, 63, 64, 65, 66, 67, 68, 69, 70, 71, 72, 73, 74] #[true, true, true, true, true, true, true, true, true, true, true, true, true, true, true, true, true, true, true, true, true, true, true, true, true, true, true, true, true, true, true, true, true, true, true, true, true, true, true, true, false] [1, 2, 4, 5, 7, 9] hE ((Below.refl _ _).drew) fun Q' K hK => ?_
   refine SeqOps.val ?_ (Sp fun ax wx hS hT' hd K' J => ?_) ?_; rotate_left 1
   ·have r9 := hS.at 9 (by decide) (hE.at 9 rfl); obtain ⟨hcT, hfT, hlT, hmT, hwT, hzT⟩ := bT hT'
    refine o1 r9 fun ρ q9 => ?_; go_simp;
    exact Jo J hT'
   refine SeqOps.val ?_ (Sp fun ax wx hS hT' hd K' J => ?_) ?_; rotate_left 1
   ·have r2 := hS.at 2 (by decide) (hE.at 2 rfl); obtain ⟨hcT, hfT, hlT, hmT, hwT, hzT⟩ := bT hT'
    refine o1 r2 fun ρ q2 => ?_; go_simp;
    exact Jo J hT'
   refine SeqOps.val ?_ (Sp fun ax wx hS hT' hd K' J => ?_) ?_; rotate_left 1
   ·have r36 := Tv hd 0 1 36; obtain ⟨hcT, hfT, hlT, hmT, hwT, hzT⟩ := bT hT'
    refine o1 r36 fun ρ q36 => ?_; go_simp;
    exact Jo J hT'
   refine SeqOps.val ?_ (Sp fun ax wx hS hT' hd K' J => ?_) ?_; rotate_left 1
   ·have r37 := Tv hd 0 2 37; obtain ⟨hcT, hfT, hlT, hmT, hwT, hzT⟩ := bT hT'
    refine o1 r37 fun ρ q37 => ?_; go_simp;
    exact Jo J hT'
   refine SeqOps.val ?_ (Sp fun ax wx hS hT' hd K' J => ?_) ?_; rotate_left 1
   ·have r8 := hS.at 8 (by decide) (hE.at 8 rfl); obtain ⟨hcT, hfT, hlT, hmT, hwT, hzT⟩ := bT hT'
    refine o1 r8 fun ρ q8 => ?_; go_simp;
    exact Jo J hT'
   refine SeqOps.val ?_ (Sp fun ax wx hS hT' hd K' J => ?_) ?_; rotate_left 1
   ·have r39 := Tv hd 0 4 39; obtain ⟨hcT, hfT, hlT, hmT, hwT, hzT⟩ := bT hT'
    refine o1 r39 fun ρ q39 => ?_; go_simp;
    exact Jo J hT'
   refine SeqOps.val ?_ (Sp fun ax wx hS hT' hd K' J => ?_) ?_; rotate_left 1
   ·have r1 := hS.at 1 (by decide) (hE.at 1 rfl); obtain ⟨hcT, hfT, hlT, hmT, hwT, hzT⟩ := bT hT'
    refine o1 r1 fun ρ q1 => ?_; go_simp;
    exact Jo J hT'
   refine SeqOps.val ?_ (Sp fun ax wx hS hT' hd K' J => ?_) ?_; rotate_left 1
   ·have r7 := hS.at 7 (by decide) (hE.at 7 rfl); obtain ⟨hcT, hfT, hlT, hmT, hwT, hzT⟩ := bT hT'
    refine o1 r7 fun ρ q7 => ?_; go_simp;
    exact Jo J hT'
   refine SeqOps.val ?_ (Sp fun ax wx hS hT' hd K' J => ?_) ?_; rotate_left 1
   ·have r42 := Tv hd 0 7 42; obtain ⟨hcT, hfT, hlT, hmT, hwT, hzT⟩ := bT hT'
    refine o1 r42 fun ρ q42 => ?_; go_simp; (try go_bits); (try simp (disch := omega) only [IntWalk.i64_in]);
    exact Jo J hT'
   refine SeqOps.val ?_ (Sp fun ax wx hS hT' hd K' J => ?_) ?_; rotate_left 1
   ·have r43 := Tv hd 0 8 43; obtain ⟨hcT, hfT, hlT, hmT, hwT, hzT⟩ := bT hT'
    refine o1 r43 fun ρ q43 => ?_; go_simp; (try go_bits); (try simp (disch := omega) only [IntWalk.i64_in]);
    exact Jo J hT'
   refine SeqOps.val ?_ (Sp fun ax wx hS hT' hd K' J => ?_) ?_; rotate_left 1
   ·have r41 := Tv hd 3 6 41; have r44 := Tv hd 0 9 44; obtain ⟨hcT, hfT, hlT, hmT, hwT, hzT⟩ := bT hT'
    refine o2 r41 r44 fun ρ q41 q44 => ?_; go_simp; (try go_bits);
    go_at_call 78; refine (HN.out (3 * (k : Int) + 1) _ (hAr.below hT')).mono ?_; rintro e g1 ⟨rfl, k1⟩
    refine J.out _ _ _ rfl ?_ (hT'.trans (k1.mono hT'.size)) k1; rfl
   refine SeqOps.val ?_ (Sp fun ax wx hS hT' hd K' J => ?_) ?_; rotate_left 1
   ·have r40 := Tv hd 5 5 40; have r45 := Tv hd 0 10 45; obtain ⟨hcT, hfT, hlT, hmT, hwT, hzT⟩ := bT hT'
    refine o2 r40 r45 fun ρ q40 q45 => ?_; go_simp; (try go_bits);
    go_at_call 77; refine (S1.out _).mono ?_; rintro e g1 ⟨rfl, k1⟩
    refine J.out _ _ _ rfl ?_ (hT'.trans (k1.mono hT'.size)) k1; rfl
   refine SeqOps.val ?_ (Sp fun ax wx hS hT' hd K' J => ?_) ?_; rotate_left 1
   ·have r38 := Tv hd 8 3 38; have r46 := Tv hd 0 11 46; obtain ⟨hcT, hfT, hlT, hmT, hwT, hzT⟩ := bT hT'
    refine o2 r38 r46 fun ρ q38 q46 => ?_; go_simp; (try go_bits); (try simp (disch := omega) only [IntWalk.i64_in]);
    exact Jo J hT'
   refine SeqOps.val ?_ (Sp fun ax wx hS hT' hd K' J => ?_) ?_; rotate_left 1
   ·have r2 := hS.at 2 (by decide) (hE.at 2 rfl); obtain ⟨hcT, hfT, hlT, hmT, hwT, hzT⟩ := bT hT'
    refine o1 r2 fun ρ q2 => ?_; go_simp;
    exact Jo J hT'
   refine SeqOps.val ?_ (Sp fun ax wx hS hT' hd K' J => ?_) ?_; rotate_left 1
   ·have r48 := Tv hd 0 13 48; obtain ⟨hcT, hfT, hlT, hmT, hwT, hzT⟩ := bT hT'
    refine o1 r48 fun ρ q48 => ?_; go_simp;
    exact Jo J hT'
   refine SeqOps.val ?_ (Sp fun ax wx hS hT' hd K' J => ?_) ?_; rotate_left 1
   ·have r49 := Tv hd 0 14 49; obtain ⟨hcT, hfT, hlT, hmT, hwT, hzT⟩ := bT hT'
    refine o1 r49 fun ρ q49 => ?_; go_simp;
    exact Jo J hT'
   refine SeqOps.val ?_ (Sp fun ax wx hS hT' hd K' J => ?_) ?_; rotate_left 1
   ·have r8 := hS.at 8 (by decide) (hE.at 8 rfl); obtain ⟨hcT, hfT, hlT, hmT, hwT, hzT⟩ := bT hT'
    refine o1 r8 fun ρ q8 => ?_; go_simp;
    exact Jo J hT'
   refine SeqOps.val ?_ (Sp fun ax wx hS hT' hd K' J => ?_) ?_; rotate_left 1
   ·have r51 := Tv hd 0 16 51; obtain ⟨hcT, hfT, hlT, hmT, hwT, hzT⟩ := bT hT'
    refine o1 r51 fun ρ q51 => ?_; go_simp;
    exact Jo J hT'
   refine SeqOps.val ?_ (Sp fun ax wx hS hT' hd K' J => ?_) ?_; rotate_left 1
   ·have r1 := hS.at 1 (by decide) (hE.at 1 rfl); obtain ⟨hcT, hfT, hlT, hmT, hwT, hzT⟩ := bT hT'
    refine o1 r1 fun ρ q1 => ?_; go_simp;
    exact Jo J hT'
   refine SeqOps.val ?_ (Sp fun ax wx hS hT' hd K' J => ?_) ?_; rotate_left 1
   ·have r7 := hS.at 7 (by decide) (hE.at 7 rfl); obtain ⟨hcT, hfT, hlT, hmT, hwT, hzT⟩ := bT hT'
    refine o1 r7 fun ρ q7 => ?_; go_simp;
    exact Jo J hT'
   refine SeqOps.val ?_ (Sp fun ax wx hS hT' hd K' J => ?_) ?_; rotate_left 1
   ·have r54 := Tv hd 0 19 54; obtain ⟨hcT, hfT, hlT, hmT, hwT, hzT⟩ := bT hT'
    refine o1 r54 fun ρ q54 => ?_; go_simp; (try go_bits); (try simp (disch := omega) only [IntWalk.i64_in]);
    exact Jo J hT'
   refine SeqOps.val ?_ (Sp fun ax wx hS hT' hd K' J => ?_) ?_; rotate_left 1
   ·have r55 := Tv hd 0 20 55; obtain ⟨hcT, hfT, hlT, hmT, hwT, hzT⟩ := bT hT'
    refine o1 r55 fun ρ q55 => ?_; go_simp; (try go_bits); (try simp (disch := omega) only [IntWalk.i64_in]);
    exact Jo J hT'
   refine SeqOps.val ?_ (Sp fun ax wx hS hT' hd K' J => ?_) ?_; rotate_left 1
   ·have r53 := Tv hd 3 18 53; have r56 := Tv hd 0 21 56; obtain ⟨hcT, hfT, hlT, hmT, hwT, hzT⟩ := bT hT'
    refine o2 r53 r56 fun ρ q53 q56 => ?_; go_simp; (try go_bits);
    go_at_call 78; refine (HN.out (3 * (k : Int) + 2) _ (hAr.below hT')).mono ?_; rintro e g1 ⟨rfl, k1⟩
    refine J.out _ _ _ rfl ?_ (hT'.trans (k1.mono hT'.size)) k1; rfl
   refine SeqOps.val ?_ (Sp fun ax wx hS hT' hd K' J => ?_) ?_; rotate_left 1
   ·have r52 := Tv hd 5 17 52; have r57 := Tv hd 0 22 57; obtain ⟨hcT, hfT, hlT, hmT, hwT, hzT⟩ := bT hT'
    refine o2 r52 r57 fun ρ q52 q57 => ?_; go_simp; (try go_bits);
    go_at_call 77; refine (S2.out _).mono ?_; rintro e g1 ⟨rfl, k1⟩
    refine J.out _ _ _ rfl ?_ (hT'.trans (k1.mono hT'.size)) k1; rfl
   refine SeqOps.val ?_ (Sp fun ax wx hS hT' hd K' J => ?_) ?_; rotate_left 1
   ·have r50 := Tv hd 8 15 50; have r58 := Tv hd 0 23 58; obtain ⟨hcT, hfT, hlT, hmT, hwT, hzT⟩ := bT hT'
    refine o2 r50 r58 fun ρ q50 q58 => ?_; go_simp; (try go_bits); (try simp (disch := omega) only [IntWalk.i64_in]);
    exact Jo J hT'
   refine SeqOps.val ?_ (Sp fun ax wx hS hT' hd K' J => ?_) ?_; rotate_left 1
   ·have r47 := Tv hd 12 12 47; have r59 := Tv hd 0 24 59; obtain ⟨hcT, hfT, hlT, hmT, hwT, hzT⟩ := bT hT'
    refine o2 r47 r59 fun ρ q47 q59 => ?_; go_simp; (try go_bits); (try simp (disch := omega) only [IntWalk.i64_in]);
    exact Jo J hT'
   refine SeqOps.val ?_ (Sp fun ax wx hS hT' hd K' J => ?_) ?_; rotate_left 1
   ·have r2 := hS.at 2 (by decide) (hE.at 2 rfl); obtain ⟨hcT, hfT, hlT, hmT, hwT, hzT⟩ := bT hT'
    refine o1 r2 fun ρ q2 => ?_; go_simp;
    exact Jo J hT'
   refine SeqOps.val ?_ (Sp fun ax wx hS hT' hd K' J => ?_) ?_; rotate_left 1
   ·have r61 := Tv hd 0 26 61; obtain ⟨hcT, hfT, hlT, hmT, hwT, hzT⟩ := bT hT'
    refine o1 r61 fun ρ q61 => ?_; go_simp;
    exact Jo J hT'
   refine SeqOps.val ?_ (Sp fun ax wx hS hT' hd K' J => ?_) ?_; rotate_left 1
   ·have r62 := Tv hd 0 27 62; obtain ⟨hcT, hfT, hlT, hmT, hwT, hzT⟩ := bT hT'
    refine o1 r62 fun ρ q62 => ?_; go_simp;
    exact Jo J hT'
   refine SeqOps.val ?_ (Sp fun ax wx hS hT' hd K' J => ?_) ?_; rotate_left 1
   ·have r8 := hS.at 8 (by decide) (hE.at 8 rfl); obtain ⟨hcT, hfT, hlT, hmT, hwT, hzT⟩ := bT hT'
    refine o1 r8 fun ρ q8 => ?_; go_simp;
    exact Jo J hT'
   refine SeqOps.val ?_ (Sp fun ax wx hS hT' hd K' J => ?_) ?_; rotate_left 1
   ·have r64 := Tv hd 0 29 64; obtain ⟨hcT, hfT, hlT, hmT, hwT, hzT⟩ := bT hT'
    refine o1 r64 fun ρ q64 => ?_; go_simp;
    exact Jo J hT'
   refine SeqOps.val ?_ (Sp fun ax wx hS hT' hd K' J => ?_) ?_; rotate_left 1
   ·have r1 := hS.at 1 (by decide) (hE.at 1 rfl); obtain ⟨hcT, hfT, hlT, hmT, hwT, hzT⟩ := bT hT'
    refine o1 r1 fun ρ q1 => ?_; go_simp;
    exact Jo J hT'
   refine SeqOps.val ?_ (Sp fun ax wx hS hT' hd K' J => ?_) ?_; rotate_left 1
   ·have r7 := hS.at 7 (by decide) (hE.at 7 rfl); obtain ⟨hcT, hfT, hlT, hmT, hwT, hzT⟩ := bT hT'
    refine o1 r7 fun ρ q7 => ?_; go_simp;
    exact Jo J hT'
   refine SeqOps.val ?_ (Sp fun ax wx hS hT' hd K' J => ?_) ?_; rotate_left 1
   ·have r67 := Tv hd 0 32 67; obtain ⟨hcT, hfT, hlT, hmT, hwT, hzT⟩ := bT hT'
    refine o1 r67 fun ρ q67 => ?_; go_simp; (try go_bits); (try simp (disch := omega) only [IntWalk.i64_in]);
    exact Jo J hT'
   refine SeqOps.val ?_ (Sp fun ax wx hS hT' hd K' J => ?_) ?_; rotate_left 1
   ·have r68 := Tv hd 0 33 68; obtain ⟨hcT, hfT, hlT, hmT, hwT, hzT⟩ := bT hT'
    refine o1 r68 fun ρ q68 => ?_; go_simp; (try go_bits); (try simp (disch := omega) only [IntWalk.i64_in]);
    exact Jo J hT'
   refine SeqOps.val ?_ (Sp fun ax wx hS hT' hd K' J => ?_) ?_; rotate_left 1
   ·have r66 := Tv hd 3 31 66; have r69 := Tv hd 0 34 69; obtain ⟨hcT, hfT, hlT, hmT, hwT, hzT⟩ := bT hT'
    refine o2 r66 r69 fun ρ q66 q69 => ?_; go_simp; (try go_bits);
    go_at_call 78; refine (HN.out (3 * (k : Int) + 3) _ (hAr.below hT')).mono ?_; rintro e g1 ⟨rfl, k1⟩
    refine J.out _ _ _ rfl ?_ (hT'.trans (k1.mono hT'.size)) k1; rfl
   refine SeqOps.val ?_ (Sp fun ax wx hS hT' hd K' J => ?_) ?_; rotate_left 1
   ·have r65 := Tv hd 5 30 65; have r70 := Tv hd 0 35 70; obtain ⟨hcT, hfT, hlT, hmT, hwT, hzT⟩ := bT hT'
    refine o2 r65 r70 fun ρ q65 q70 => ?_; go_simp; (try go_bits);
    go_at_call 77; refine (S3.out _).mono ?_; rintro e g1 ⟨rfl, k1⟩
    refine J.out _ _ _ rfl ?_ (hT'.trans (k1.mono hT'.size)) k1; rfl
   refine SeqOps.val ?_ (Sp fun ax wx hS hT' hd K' J => ?_) ?_; rotate_left 1
   ·have r63 := Tv hd 8 28 63; have r71 := Tv hd 0 36 71; obtain ⟨hcT, hfT, hlT, hmT, hwT, hzT⟩ := bT hT'
    refine o2 r63 r71 fun ρ q63 q71 => ?_; go_simp; (try go_bits); (try simp (disch := omega) only [IntWalk.i64_in]);
    exact Jo J hT'
   refine SeqOps.val ?_ (Sp fun ax wx hS hT' hd K' J => ?_) ?_; rotate_left 1
   ·have r60 := Tv hd 12 25 60; have r72 := Tv hd 0 37 72; obtain ⟨hcT, hfT, hlT, hmT, hwT, hzT⟩ := bT hT'
    refine o2 r60 r72 fun ρ q60 q72 => ?_; go_simp; (try go_bits); (try simp (disch := omega) only [IntWalk.i64_in]);
    exact Jo J hT'
   refine SeqOps.val ?_ (Sp fun ax wx hS hT' hd K' J => ?_) ?_; rotate_left 1
   ·have r35 := Tv hd 38 0 35; have r73 := Tv hd 0 38 73; obtain ⟨hcT, hfT, hlT, hmT, hwT, hzT⟩ := bT hT'
    refine o2 r35 r73 fun ρ q35 q73 => ?_; go_simp; (try go_bits); (try simp (disch := omega) only [IntWalk.i64_in]);
    exact Jo J hT'
   refine SeqOps.nil ?_
   intro wu hBm; (repeat refine Ek ?_)
   refine fun amx hEmx => ?_
   simp only [lk, pick, Nat.reduceEqDiff, ↓reduceIte] at hEmx
   refine M1 hEmx 74 fun K' J ρ q74 => ?_; go_simp; (try clear q74)
   refine Ln hEmx J fun am_1 hEm_1 => ?_; clear J K' hEmx
   refine Ld [1, 2, 4, 5, 7, 9] hEm_1 hK fun a hE => ?_; clear hK K Q' hEm_1
   replace hCC := hCC.below hBm
   clear nC cC0 cC1 cC2 cC3 cC4 cC5
   obtain ⟨nC, cC0, cC1, cC2, cC3, cC4, cC5⟩ := hCC.c6
   have em : z + (b.sl.snow * a1 + b.sl.wind * a2 + b.sl.sun * a3) = (m : Int) := by omega
   rw [em] at hE
   clear em hmI hmI2 hz ez hleft hng
   have hSu := hS.on hlQ hBm
   have hAu := hAr.below hBm
   have d4u := (hCBr.below hBm).2 4 _ rfl
   have nBu := (hCBr.below hBm).1
   clear d0 d1 d2 d3 d4 nB nC cC0 cC1 cC2 cC3 cC4 cC5
   by_cases hgt : b.sl.hold < (m : Int)
   ·skip
    refine Ks ?_
    refine Rs 13 fun Q' K hK => ?_
    refine M1 hE 9 fun K' J ρ q9 => ?_; go_simp
    refine Ln hE J fun _ Eb => ?_; clear J K' hE a q9
    refine M1 Eb 2 fun K' J ρ q2 => ?_; go_simp
    refine Ln Eb J fun _ Ea => ?_; clear J K' Eb q2
    refine M1 Ea 76 fun K' J ρ q76 => ?_; go_simp
    refine Ln Ea J fun _ Eb => ?_; clear J K' Ea q76
    refine M1 Eb 77 fun K' J ρ q77 => ?_; go_simp
    refine Ln Eb J fun _ Ea => ?_; clear J K' Eb q77
    refine M2 Ea 75 78 fun K' J ρ q75 q78 => ?_; go_simp; (try go_bits)
    refine Ln Ea J fun _ Eb => ?_; clear J K' Ea q75 q78
    replace Eb := Eb.turn 79 (v' := .bool true) rfl (by (first | (simp; done) | (simp; omega)))
    refine M1 Eb 79 fun K' J ρ q79 => ?_; go_simp
    refine Ln Eb J fun _ Ea => ?_; clear J K' Eb q79
    refine Go.Proofs.YtkhmcofmjjmjhaaDoor.N1 Ea 80 1 fun K' J ρ q1 => ?_; go_simp
    refine Ln Ea J fun _ Eb => ?_; clear J K' Ea q1
    refine Go.Proofs.YtkhmcofmjjmjhaaDoor.N1 Eb 80 7 fun K' J ρ q7 => ?_; go_simp
    refine Ln Eb J fun _ Ea => ?_; clear J K' Eb q7
    refine Go.Proofs.YtkhmcofmjjmjhaaDoor.N2 Ea 80 81 82 fun K' J ρ q81 q82 => ?_; go_simp; (try go_bits); (try clear q81 q82)
    go_at_call 78; refine (HN.out k _ hAu).mono ?_; rintro e wv ⟨rfl, k1⟩
    (try clear r81 r82)
    refine Ln Ea J fun _ Eb => ?_; clear J K' Ea
    refine Go.Proofs.YtkhmcofmjjmjhaaDoor.N1 Eb 80 83 fun K' J ρ q83 => ?_; go_simp; (try go_bits); (try clear q83)
    go_at_call 40; refine (wind_any _ 3 (by decide) _).mono ?_; rintro e wv' ⟨rfl, rfl⟩
    (try clear r83)
    refine Ln Eb J fun _ Ea => ?_; clear J K' Eb
    refine Go.Proofs.YtkhmcofmjjmjhaaDoor.N1 Ea 80 84 fun K' J ρ q84 => ?_; go_simp; (try go_bits)
    refine Ln Ea J fun _ Eb => ?_; clear J K' Ea q84
    refine M2 Eb 80 85 fun K' J ρ q80 q85 => ?_; go_simp; (try go_bits)
    refine Ln Eb J fun _ Ea => ?_; clear J K' Eb q80 q85
    replace Ea := Ea.turn 86 (v' := .bool f) rfl (by (rw [← HF.out, decide_eq_true hgt, Bool.true_and]; congr 1 <;> first | rfl | (rw [Bool.eq_iff_iff]; simp)))
    refine M1 Ea 86 fun K' J ρ q86 => ?_; go_simp
    refine Ln Ea J fun _ Eb => ?_; clear J K' Ea q86
    refine Ld [1, 2, 4, 5, 7, 9, 10] Eb hK fun a hE => ?_; clear hK K Q' Eb
    have hSv := hSu.on hlQ k1
    have hown1 := hSv.own1
    have hown2 := hSv.own2
    have hRQv := hSv.row
    have hVb := hSv.below
    have hVs := hSv.size
    rw [htk] at hown1 hown2 hRQv
    have c50 := (hRQv 0 _ rfl).1
    have c51 := (hRQv 1 _ rfl).1
    refine Ks ?_
    refine region_drawn_app [11, 12, 13] (fun wt => (Below w3.heap.size wv wt ∧ wt.ownsRow w3.heap.size 4 1 (.slice O2 k c2) k (fvs t)) ∧ wt.ownsRow w3.heap.size 3 1 (.slice O1 k c1) k (lvs t)) (fun _ => True) (GrF w3.heap.size 4 (Value.slice O2 k c2).ownBlock (k + 1) (fvs t ++ [.bool f])) (fun wa wb => wa.grownBy wb (Value.slice O1 k c1).ownBlock) [(0, some 87), (1, some 88), (2, some 89), (3, some 90), (5, some 92), (6, some 93), (7, some 94), (8, some 95), (9, some 96), (10, some 97)] [0, 1, 2, 3, 4, 5, 6, 7, 8, 9, 10] [87, 88, 89, 90, 92, 93, 94, 95, 96, 97, 91] 4 91 10 97 (RowX 3 w3.heap.size (k + 1) (lvs t ++ [.int .i64 m]) (Value.slice O2 k c2).ownBlock) #[true, true, true, true, true, true, true, true, true, true, true, false, false, false] [1, 2, 4, 5, 7, 9, 10] hE (fun _ _ _ hR h => h.grown hR.1) (fun _ _ _ h => h) (by kernel_rfl) (by kernel_rfl) (by kernel_rfl) (by kernel_rfl) (by kernel_rfl) (by kernel_rfl) (by kernel_rfl) (by kernel_rfl) (by kernel_rfl) (by kernel_rfl) (by kernel_rfl) (by kernel_rfl) (by kernel_rfl) (by kernel_rfl) (by kernel_rfl) (by decide) (by kernel_rfl) (by kernel_rfl) (⟨⟨(Below.refl _ _).drew, hown2⟩, hown1⟩) (trivial) (fun Q' K hK => ?_)
    refine SeqA.val ?_ (Sp fun ax wx hS hT' hd K' J => ?_) ?_; rotate_left 1
    ·have r5 := hS.at 5 (by kernel_rfl) (hE.at 5 rfl); have hTb := hT'.1.1; have hTf := hT'.1.2; have hTl := hT'.2; obtain ⟨hcT, hfT, hlT, hmT, hwT⟩ := bcell hTb; have hzT := hTb.size
     refine o1 r5 fun ρ q5 => ?_; go_simp;
     refine J.out _ _ _ rfl ?_ hT' (GrF.refl); rfl
    refine SeqA.val ?_ (Sp fun ax wx hS hT' hd K' J => ?_) ?_; rotate_left 1
    ·have r87 := Tv hd 0 0 87; have hTb := hT'.1.1; have hTf := hT'.1.2; have hTl := hT'.2; obtain ⟨hcT, hfT, hlT, hmT, hwT⟩ := bcell hTb; have hzT := hTb.size
     refine o1 r87 fun ρ q87 => ?_; go_simp;
     refine J.out _ _ _ rfl ?_ hT' (GrF.refl); rfl
    refine SeqA.val ?_ (Sp fun ax wx hS hT' hd K' J => ?_) ?_; rotate_left 1
    ·have r9 := hS.at 9 (by kernel_rfl) (hE.at 9 rfl); have hTb := hT'.1.1; have hTf := hT'.1.2; have hTl := hT'.2; obtain ⟨hcT, hfT, hlT, hmT, hwT⟩ := bcell hTb; have hzT := hTb.size
     refine o1 r9 fun ρ q9 => ?_; go_simp;
     refine J.out _ _ _ rfl ?_ hT' (GrF.refl); rfl
    refine SeqA.say (NewE (Value.slice O1 k c1).ownBlock (Value.slice O2 k c2).ownBlock [.int .i64 m]) (fun _ _ _ hR h => h.grownY hR.1) (Sp fun ax wx hS hT' hd K' J => ?_) ?_
    ·have r89 := Tv hd 0 2 89; have hTb := hT'.1.1; have hTf := hT'.1.2; have hTl := hT'.2; obtain ⟨hcT, hfT, hlT, hmT, hwT⟩ := bcell hTb; have hzT := hTb.size
     refine o1 r89 fun ρ q89 => ?_; go_simp;
     exact J.out _ _ _ rfl ⟨_, rfl, (fun e => by have := own_lt hTl _ e.symm; omega), (fun e => by have := own_lt hTf _ e.symm; omega), by simp, (arr_new wx _ _).more (by simp)⟩ ⟨⟨hTb.trans (((Below.refl _ _).alloc (Nat.le_refl _) _).mono (by omega)), own_below hTf ((Below.refl _ _).alloc (Nat.le_refl _) _)⟩, own_below hTl ((Below.refl _ _).alloc (Nat.le_refl _) _)⟩ (GrF.below ((Below.refl _ _).alloc (Nat.le_refl _) _))
    refine SeqA.val ?_ (Sp fun ax wx hS hT' hd K' J => ?_) ?_; rotate_left 1
    ·have r5 := hS.at 5 (by kernel_rfl) (hE.at 5 rfl); have hTb := hT'.1.1; have hTf := hT'.1.2; have hTl := hT'.2; obtain ⟨hcT, hfT, hlT, hmT, hwT⟩ := bcell hTb; have hzT := hTb.size
     refine o1 r5 fun ρ q5 => ?_; go_simp;
     refine J.out _ _ _ rfl ?_ hT' (GrF.refl); rfl
    refine SeqA.val ?_ (Sp fun ax wx hS hT' hd K' J => ?_) ?_; rotate_left 1
    ·have r92 := Tv hd 0 5 92; have hTb := hT'.1.1; have hTf := hT'.1.2; have hTl := hT'.2; obtain ⟨hcT, hfT, hlT, hmT, hwT⟩ := bcell hTb; have hzT := hTb.size
     refine o1 r92 fun ρ q92 => ?_; go_simp;
     refine J.out _ _ _ rfl ?_ hT' (GrF.refl); rfl
    refine SeqA.val ?_ (Sp fun ax wx hS hT' hd K' J => ?_) ?_; rotate_left 1
    ·have r10 := hS.at 10 (by kernel_rfl) (hE.at 10 rfl); have hTb := hT'.1.1; have hTf := hT'.1.2; have hTl := hT'.2; obtain ⟨hcT, hfT, hlT, hmT, hwT⟩ := bcell hTb; have hzT := hTb.size
     refine o1 r10 fun ρ q10 => ?_; go_simp;
     refine J.out _ _ _ rfl ?_ hT' (GrF.refl); rfl
    refine SeqA.say (NewE (Value.slice O1 k c1).ownBlock (Value.slice O2 k c2).ownBlock [.bool f]) (fun _ _ _ hR h => h.grownY hR.1) (Sp fun ax wx hS hT' hd K' J => ?_) ?_
    ·have r94 := Tv hd 0 7 94; have hTb := hT'.1.1; have hTf := hT'.1.2; have hTl := hT'.2; obtain ⟨hcT, hfT, hlT, hmT, hwT⟩ := bcell hTb; have hzT := hTb.size
     refine o1 r94 fun ρ q94 => ?_; go_simp;
     exact J.out _ _ _ rfl ⟨_, rfl, (fun e => by have := own_lt hTl _ e.symm; omega), (fun e => by have := own_lt hTf _ e.symm; omega), by simp, (arr_new wx _ _).more (by simp)⟩ ⟨⟨hTb.trans (((Below.refl _ _).alloc (Nat.le_refl _) _).mono (by omega)), own_below hTf ((Below.refl _ _).alloc (Nat.le_refl _) _)⟩, own_below hTl ((Below.refl _ _).alloc (Nat.le_refl _) _)⟩ (GrF.below ((Below.refl _ _).alloc (Nat.le_refl _) _))
    refine SeqA.say (RowX 4 w3.heap.size (k + 1) (fvs t ++ [.bool f]) (Value.slice O1 k c1).ownBlock) (fun _ _ _ hR h => h.keep hR) (Sp fun ax wx hS hT' hd K' J => ?_) ?_
    ·have r93 := Tv hd 2 6 93; obtain ⟨v95, r95, h95⟩ := Tg hd 0 8 95; obtain ⟨G8, rfl, _, _, _, hG8⟩ := h95; have hTb := hT'.1.1; have hTf := hT'.1.2; have hTl := hT'.2; obtain ⟨hcT, hfT, hlT, hmT, hwT⟩ := bcell hTb; have hzT := hTb.size
     refine wp_appK (.tmp 93) (.tmp 95) 50 rfl w3.heap.size 4 (.bool false) 1 1 Tryd.underlying50 (by kernel_rfl) rfl (by decide) (.slice O2 k c2) k (fvs t) (eval_of r93) hTf wx.heap.size (some ⟨G8, 0, none⟩) 1 1 [.bool f] (eval_of r95) hG8 rfl (by intro u hu; rw [List.mem_singleton.1 hu]; rfl) (by simp only [maxLen]; omega) (by omega) (by omega) (fun A3 d3 w6 q1 q2 q3 q4 q5 q6 => ?_)
     have hl6 := hTl.kept q4 (own_apart2 hTl hTf (by decide))
     exact J.out _ _ _ rfl ⟨A3, d3, rfl, q3, own_apart2 q3 hl6 (by decide)⟩ ⟨⟨hTb.trans ((Below.refl w3.heap.size wx).grown q4 (by omega) (fun k e => ownBlock_le hTf k e)), q6 _ _ _ _ hTf (List.prefix_append _ _)⟩, hl6⟩ ⟨q4, fun A c h => q6 _ _ _ _ h (List.prefix_refl _)⟩
    refine SeqA.val ?_ (Sp fun ax wx hS hT' hd K' J => ?_) ?_; rotate_left 1
    ·have r5 := hS.at 5 (by kernel_rfl) (hE.at 5 rfl); have hTb := hT'.1.1; have hTf := hT'.1.2; have hTl := hT'.2; obtain ⟨hcT, hfT, hlT, hmT, hwT⟩ := bcell hTb; have hzT := hTb.size
     refine o1 r5 fun ρ q5 => ?_; go_simp;
     refine J.out _ _ _ rfl ?_ hT' (GrF.refl); rfl
    refine SeqA.nil ?_
    refine ⟨List.forall_mem_cons.2 ⟨.inr (.inr (fun _ _ _ _ h => h)), List.forall_mem_cons.2 ⟨.inr (.inr (fun _ _ _ hR h => h.grown hR)), List.forall_mem_cons.2 ⟨.inr (.inr (fun _ _ _ hR h => h.grownX hR)), List.forall_mem_cons.2 ⟨.inr (.inr (fun _ _ _ _ h => h)), List.forall_mem_cons.2 ⟨.inr (.inr (fun _ _ _ _ h => h)), List.forall_mem_cons.2 ⟨.inr (.inr (fun _ _ _ _ h => h)), List.forall_mem_cons.2 ⟨.inr (.inr (fun _ _ _ hR h => h.grownX hR)), List.forall_mem_cons.2 ⟨.inr (.inr (fun _ _ _ _ h => h)), List.forall_mem_cons.2 ⟨.inr (.inr (fun _ _ _ _ h => h)), List.forall_mem_cons.2 ⟨.inr (.inr (fun _ _ _ _ h => h)), List.forall_mem_cons.2 ⟨.inl rfl, fun _ h => absurd h List.not_mem_nil⟩⟩⟩⟩⟩⟩⟩⟩⟩⟩⟩, StepApp.plain (by (first | (simp only [List.getElem?_toArray, List.getElem?_cons_succ, List.getElem?_cons_zero]; rfl) | rfl)) rfl (fun ax wx hS hT' hP' hd K' J => ?_), ?_⟩
    ·have r88 := Tv hd 8 1 88; obtain ⟨v90, r90, h90⟩ := Tg hd 6 3 90; obtain ⟨G3, rfl, _, _, _, hG3⟩ := h90; have hTb := hT'.1.1; have hTf := hT'.1.2; have hTl := hT'.2; obtain ⟨hcT, hfT, hlT, hmT, hwT⟩ := bcell hTb; have hzT := hTb.size
     refine wp_appK (.tmp 88) (.tmp 90) 40 rfl w3.heap.size 3 (.int .i64 0) 1 8 Tryd.underlying40 (by kernel_rfl) rfl (by decide) (.slice O1 k c1) k (lvs t) (eval_of r88) hTl wx.heap.size (some ⟨G3, 0, none⟩) 1 1 [.int .i64 m] (eval_of r90) hG3 rfl (by intro u hu; rw [List.mem_singleton.1 hu]; rfl) (by simp only [maxLen]; omega) (by omega) (by omega) (fun A2 d2 w5 q1 q2 q3 q4 q5 q6 => ?_)
     have hf5 := hTf.kept q4 (own_apart2 hTf hTl (by decide))
     exact J.out _ _ _ rfl ⟨A2, d2, rfl, q3, own_apart2 q3 hf5 (by decide)⟩ ⟨⟨hTb.trans ((Below.refl w3.heap.size wx).grown q4 (by omega) (fun k e => ownBlock_le hTl k e)), hf5⟩, q6 _ _ _ _ hTl (List.prefix_append _ _)⟩ q4
    intro wz hBn; (refine fun v h => ?_; obtain ⟨A2, d2, rfl, hO4, _⟩ := h); (repeat refine Ek ?_); (refine fun v h => ?_; obtain ⟨G3, rfl, _, _, _, hG3⟩ := h); (repeat refine Ek ?_); (refine fun v h => ?_; obtain ⟨G8, rfl, _, _, _, hG8⟩ := h); (refine fun v h => ?_; obtain ⟨A3, d3, rfl, hO9, _⟩ := h); (repeat refine Ek ?_)
    refine fun anx hEnx => ?_
    simp only [lk, pick, Nat.reduceEqDiff, ↓reduceIte] at hEnx
    have hBb := hBn.1.1
    have hRQ6 := row_of_block hRQv (hBb.block Q hlQ)
    have y0 := (hRQ6 0 _ rfl).2
    have y1 := (hRQ6 1 _ rfl).2
    refine M2 hEnx 97 91 fun K' J ρ q97 q91 => ?_; go_simp; (try clear q97 q91)
    refine late_skip hEnx J (fun an_1 hEn_1 => ?_); clear J K'; clear hEnx
    refine M1 hEn_1 5 fun K' J ρ q5 => ?_; go_simp; (try clear q5)
    refine Ln hEn_1 J fun an_2 hEn_2 => ?_; clear J K' hEn_1
    refine M2 hEn_2 98 96 fun K' J ρ q98 q96 => ?_; go_simp; (try clear q98 q96)
    refine late_skip hEn_2 J (fun an_3 hEn_3 => ?_); clear J K'; clear hEn_2
    refine Ld [1, 2, 4, 5, 7, 9, 10] hEn_3 hK fun a hE => ?_; clear hK K Q' hEn_3
    have r1' := (hRQ6.set (o := 0) (v := .slice A2 (k + 1) d2) (by simp)).set (o := 1) (v := .slice A3 (k + 1) d3) (by simp)
    have hl1 : k + 1 = (t ++ [(m, f)]).length := by simp [htk]
    have o1' := own_of_block hO4 (w' := (wz.setCell ⟨Q, 0, none⟩ (.slice A2 (k + 1) d2)).setCell ⟨Q, 1, none⟩ (.slice A3 (k + 1) d3)) (by simp) (fun g hg => by rw [Below.heap_setCell _ _ _ _ (by have := ownBlock_le hO4 g hg; simp only; omega), Below.heap_setCell _ _ _ _ (by have := ownBlock_le hO4 g hg; simp only; omega)])
    have o2' := own_of_block hO9 (w' := (wz.setCell ⟨Q, 0, none⟩ (.slice A2 (k + 1) d2)).setCell ⟨Q, 1, none⟩ (.slice A3 (k + 1) d3)) (by simp) (fun g hg => by rw [Below.heap_setCell _ _ _ _ (by have := ownBlock_le hO9 g hg; simp only; omega), Below.heap_setCell _ _ _ _ (by have := ownBlock_le hO9 g hg; simp only; omega)])
    have hHS : HaS Q w1 w3 (t ++ [(m, f)]) A2 d2 A3 d3 ((wz.setCell ⟨Q, 0, none⟩ (.slice A2 (k + 1) d2)).setCell ⟨Q, 1, none⟩ (.slice A3 (k + 1) d3)) := by rw [hl1] at o1' o2' r1' ⊢; exact ⟨(((hVb.trans (hBb.mono (by omega))).setCell hnQ _).setCell hnQ _), by simp only [World.size_setCell]; exact Nat.le_trans hVs hBb.size, r1', by rw [lvs_snoc]; exact o1', by rw [fvs_snoc]; exact o2'⟩
    refine world_cut (fun wt => HaS Q w1 w3 (t ++ [(m, f)]) A2 d2 A3 d3 wt) hHS (fun w9 hS9 => ?_)
    clear y0 y1 r1' o1' o2' hHS hRQ6 hBb hO4 hO9
    refine Ks ?_
    refine Rs 2 fun Q' K hK => ?_
    refine M1 hE 9 fun K' J ρ q9 => ?_; go_simp
    refine Ln hE J fun _ Eb => ?_; clear J K' hE a q9
    refine M1 Eb 99 fun K' J ρ q99 => ?_; go_simp
    refine Ln Eb J fun _ Ea => ?_; clear J K' Eb q99
    refine Ld [1, 2, 4, 5, 6, 7, 10] Ea hK fun a hE => ?_; clear hK K Q' Ea
    have hfin : leftT l0 (t ++ [(m, f)]) = if f then 0 else m := leftT_snoc _ _ _
    have hTK := truK_succ (f := f) hT hkl (X' ▸ hBr) hFf HMI.out
    cases hfv : f
    ·rw [hfv] at hE hfin hS9 hTK
     refine Ks ?_
     refine Rs 1 fun Q' K hK => ?_
     refine M1 hE 10 fun K' J ρ q10 => ?_; go_simp
     refine Ln hE J fun _ Eb => ?_; clear J K' hE a q10
     replace Eb := Eb.turn 100 (v' := .bool false) rfl (by (first | rfl | simp))
     refine Ld [1, 2, 4, 5, 6, 7, 100] Eb hK fun a hE => ?_; clear hK K Q' Eb
     refine Ks ?_
     refine cond_no hE (t := 100) rfl ?_
     refine Ks ?_
     refine Rs 3 fun Q' K hK => ?_
     refine M1 hE 7 fun K' J ρ q7 => ?_; go_simp
     refine Ln hE J fun _ Eb => ?_; clear J K' hE a q7
     refine M1 Eb 21 fun K' J ρ q21 => ?_; go_simp; (try go_bits); (try simp (disch := omega) only [IntWalk.i64_in])
     refine Ln Eb J fun _ Ea => ?_; clear J K' Eb q21
     refine M1 Ea 22 fun K' J ρ q22 => ?_; go_simp
     refine Ln Ea J fun _ Eb => ?_; clear J K' Ea q22
     refine Ld [1, 2, 4, 5, 6, 7] Eb hK fun a hE => ?_; clear hK K Q' Eb
     refine Ks ?_
     refine ⟨k + 1, ⟨t ++ [(m, false)], A2, d2, A3, d3, hlt, hTK, ?_, hS9⟩, by omega⟩
     rw [hfin]
     simpa using hE
    ·rw [hfv] at hE hfin hS9 hTK
     refine Ks ?_
     refine Rs 1 fun Q' K hK => ?_
     refine M1 hE 10 fun K' J ρ q10 => ?_; go_simp
     refine Ln hE J fun _ Eb => ?_; clear J K' hE a q10
     replace Eb := Eb.turn 100 (v' := .bool true) rfl (by (first | rfl | simp))
     refine Ld [1, 2, 4, 5, 6, 7, 100] Eb hK fun a hE => ?_; clear hK K Q' Eb
     refine Ks ?_
     refine cond_yes hE (t := 100) rfl ?_
     refine Ks ?_
     refine Rs 1 fun Q' K hK => ?_
     refine M0 fun K' J ρ => ?_; go_simp;
     refine Ln hE J fun _ Eb => ?_; clear J K' hE a
     refine Ld [1, 2, 4, 5, 6, 7] Eb hK fun a hE => ?_; clear hK K Q' Eb
     refine Ks ?_
     refine Rs 3 fun Q' K hK => ?_
     refine M1 hE 7 fun K' J ρ q7 => ?_; go_simp
     refine Ln hE J fun _ Eb => ?_; clear J K' hE a q7
     refine M1 Eb 21 fun K' J ρ q21 => ?_; go_simp; (try go_bits); (try simp (disch := omega) only [IntWalk.i64_in])
     refine Ln Eb J fun _ Ea => ?_; clear J K' Eb q21
     refine M1 Ea 22 fun K' J ρ q22 => ?_; go_simp
     refine Ln Ea J fun _ Eb => ?_; clear J K' Ea q22
     refine Ld [1, 2, 4, 5, 6, 7] Eb hK fun a hE => ?_; clear hK K Q' Eb
     refine Ks ?_
     refine ⟨k + 1, ⟨t ++ [(m, true)], A2, d2, A3, d3, hlt, hTK, ?_, hS9⟩, by omega⟩
     rw [hfin]
     simpa using hE
   ·skip
    refine Ks ?_
    refine Rs 13 fun Q' K hK => ?_
    refine M1 hE 9 fun K' J ρ q9 => ?_; go_simp
    refine Ln hE J fun _ Eb => ?_; clear J K' hE a q9
    refine M1 Eb 2 fun K' J ρ q2 => ?_; go_simp
    refine Ln Eb J fun _ Ea => ?_; clear J K' Eb q2
    refine M1 Ea 76 fun K' J ρ q76 => ?_; go_simp
    refine Ln Ea J fun _ Eb => ?_; clear J K' Ea q76
    refine M1 Eb 77 fun K' J ρ q77 => ?_; go_simp
    refine Ln Eb J fun _ Ea => ?_; clear J K' Eb q77
    refine M2 Ea 75 78 fun K' J ρ q75 q78 => ?_; go_simp; (try go_bits)
    refine Ln Ea J fun _ Eb => ?_; clear J K' Ea q75 q78
    replace Eb := Eb.turn 79 (v' := .bool false) rfl (by (first | (simp; done) | (simp; omega)))
    refine M1 Eb 79 fun K' J ρ q79 => ?_; go_simp
    refine Ln Eb J fun _ Ea => ?_; clear J K' Eb q79
    refine Lno Ea 80 ?_
    refine Lu Ea fun _ Eb => ?_
    refine Lno Eb 80 ?_
    refine Lu Eb fun _ Ea => ?_
    refine Lno Ea 80 ?_
    refine Lu Ea fun _ Eb => ?_
    refine Lno Eb 80 ?_
    refine Lu Eb fun _ Ea => ?_
    refine Lno Ea 80 ?_
    refine Lu Ea fun _ Eb => ?_
    refine M2 Eb 80 85 fun K' J ρ q80 q85 => ?_; go_simp; (try go_bits)
    refine Ln Eb J fun _ Ea => ?_; clear J K' Eb q80 q85
    replace Ea := Ea.turn 86 (v' := .bool f) rfl (by (rw [← HF.out]; simp [hgt]))
    refine M1 Ea 86 fun K' J ρ q86 => ?_; go_simp
    refine Ln Ea J fun _ Eb => ?_; clear J K' Ea q86
    refine Ld [1, 2, 4, 5, 7, 9, 10] Eb hK fun a hE => ?_; clear hK K Q' Eb
    have hown1 := hSu.own1
    have hown2 := hSu.own2
    have hRQv := hSu.row
    have hVb := hSu.below
    have hVs := hSu.size
    rw [htk] at hown1 hown2 hRQv
    have c50 := (hRQv 0 _ rfl).1
    have c51 := (hRQv 1 _ rfl).1
    refine Ks ?_
    refine region_drawn_app [11, 12, 13] (fun wt => (Below w3.heap.size wu wt ∧ wt.ownsRow w3.heap.size 4 1 (.slice O2 k c2) k (fvs t)) ∧ wt.ownsRow w3.heap.size 3 1 (.slice O1 k c1) k (lvs t)) (fun _ => True) (GrF w3.heap.size 4 (Value.slice O2 k c2).ownBlock (k + 1) (fvs t ++ [.bool f])) (fun wa wb => wa.grownBy wb (Value.slice O1 k c1).ownBlock) [(0, some 87), (1, some 88), (2, some 89), (3, some 90), (5, some 92), (6, some 93), (7, some 94), (8, some 95), (9, some 96), (10, some 97)] [0, 1, 2, 3, 4, 5, 6, 7, 8, 9, 10] [87, 88, 89, 90, 92, 93, 94, 95, 96, 97, 91] 4 91 10 97 (RowX 3 w3.heap.size (k + 1) (lvs t ++ [.int .i64 m]) (Value.slice O2 k c2).ownBlock) #[true, true, true, true, true, true, true, true, true, true, true, false, false, false] [1, 2, 4, 5, 7, 9, 10] hE (fun _ _ _ hR h => h.grown hR.1) (fun _ _ _ h => h) (by kernel_rfl) (by kernel_rfl) (by kernel_rfl) (by kernel_rfl) (by kernel_rfl) (by kernel_rfl) (by kernel_rfl) (by kernel_rfl) (by kernel_rfl) (by kernel_rfl) (by kernel_rfl) (by kernel_rfl) (by kernel_rfl) (by kernel_rfl) (by kernel_rfl) (by decide) (by kernel_rfl) (by kernel_rfl) (⟨⟨(Below.refl _ _).drew, hown2⟩, hown1⟩) (trivial) (fun Q' K hK => ?_)
    refine SeqA.val ?_ (Sp fun ax wx hS hT' hd K' J => ?_) ?_; rotate_left 1
    ·have r5 := hS.at 5 (by kernel_rfl) (hE.at 5 rfl); have hTb := hT'.1.1; have hTf := hT'.1.2; have hTl := hT'.2; obtain ⟨hcT, hfT, hlT, hmT, hwT⟩ := bcell hTb; have hzT := hTb.size
     refine o1 r5 fun ρ q5 => ?_; go_simp;
     refine J.out _ _ _ rfl ?_ hT' (GrF.refl); rfl
    refine SeqA.val ?_ (Sp fun ax wx hS hT' hd K' J => ?_) ?_; rotate_left 1
    ·have r87 := Tv hd 0 0 87; have hTb := hT'.1.1; have hTf := hT'.1.2; have hTl := hT'.2; obtain ⟨hcT, hfT, hlT, hmT, hwT⟩ := bcell hTb; have hzT := hTb.size
     refine o1 r87 fun ρ q87 => ?_; go_simp;
     refine J.out _ _ _ rfl ?_ hT' (GrF.refl); rfl
    refine SeqA.val ?_ (Sp fun ax wx hS hT' hd K' J => ?_) ?_; rotate_left 1
    ·have r9 := hS.at 9 (by kernel_rfl) (hE.at 9 rfl); have hTb := hT'.1.1; have hTf := hT'.1.2; have hTl := hT'.2; obtain ⟨hcT, hfT, hlT, hmT, hwT⟩ := bcell hTb; have hzT := hTb.size
     refine o1 r9 fun ρ q9 => ?_; go_simp;
     refine J.out _ _ _ rfl ?_ hT' (GrF.refl); rfl
    refine SeqA.say (NewE (Value.slice O1 k c1).ownBlock (Value.slice O2 k c2).ownBlock [.int .i64 m]) (fun _ _ _ hR h => h.grownY hR.1) (Sp fun ax wx hS hT' hd K' J => ?_) ?_
    ·have r89 := Tv hd 0 2 89; have hTb := hT'.1.1; have hTf := hT'.1.2; have hTl := hT'.2; obtain ⟨hcT, hfT, hlT, hmT, hwT⟩ := bcell hTb; have hzT := hTb.size
     refine o1 r89 fun ρ q89 => ?_; go_simp;
     exact J.out _ _ _ rfl ⟨_, rfl, (fun e => by have := own_lt hTl _ e.symm; omega), (fun e => by have := own_lt hTf _ e.symm; omega), by simp, (arr_new wx _ _).more (by simp)⟩ ⟨⟨hTb.trans (((Below.refl _ _).alloc (Nat.le_refl _) _).mono (by omega)), own_below hTf ((Below.refl _ _).alloc (Nat.le_refl _) _)⟩, own_below hTl ((Below.refl _ _).alloc (Nat.le_refl _) _)⟩ (GrF.below ((Below.refl _ _).alloc (Nat.le_refl _) _))
    refine SeqA.val ?_ (Sp fun ax wx hS hT' hd K' J => ?_) ?_; rotate_left 1
    ·have r5 := hS.at 5 (by kernel_rfl) (hE.at 5 rfl); have hTb := hT'.1.1; have hTf := hT'.1.2; have hTl := hT'.2; obtain ⟨hcT, hfT, hlT, hmT, hwT⟩ := bcell hTb; have hzT := hTb.size
     refine o1 r5 fun ρ q5 => ?_; go_simp;
     refine J.out _ _ _ rfl ?_ hT' (GrF.refl); rfl
    refine SeqA.val ?_ (Sp fun ax wx hS hT' hd K' J => ?_) ?_; rotate_left 1
    ·have r92 := Tv hd 0 5 92; have hTb := hT'.1.1; have hTf := hT'.1.2; have hTl := hT'.2; obtain ⟨hcT, hfT, hlT, hmT, hwT⟩ := bcell hTb; have hzT := hTb.size
     refine o1 r92 fun ρ q92 => ?_; go_simp;
     refine J.out _ _ _ rfl ?_ hT' (GrF.refl); rfl
    refine SeqA.val ?_ (Sp fun ax wx hS hT' hd K' J => ?_) ?_; rotate_left 1
    ·have r10 := hS.at 10 (by kernel_rfl) (hE.at 10 rfl); have hTb := hT'.1.1; have hTf := hT'.1.2; have hTl := hT'.2; obtain ⟨hcT, hfT, hlT, hmT, hwT⟩ := bcell hTb; have hzT := hTb.size
     refine o1 r10 fun ρ q10 => ?_; go_simp;
     refine J.out _ _ _ rfl ?_ hT' (GrF.refl); rfl
    refine SeqA.say (NewE (Value.slice O1 k c1).ownBlock (Value.slice O2 k c2).ownBlock [.bool f]) (fun _ _ _ hR h => h.grownY hR.1) (Sp fun ax wx hS hT' hd K' J => ?_) ?_
    ·have r94 := Tv hd 0 7 94; have hTb := hT'.1.1; have hTf := hT'.1.2; have hTl := hT'.2; obtain ⟨hcT, hfT, hlT, hmT, hwT⟩ := bcell hTb; have hzT := hTb.size
     refine o1 r94 fun ρ q94 => ?_; go_simp;
     exact J.out _ _ _ rfl ⟨_, rfl, (fun e => by have := own_lt hTl _ e.symm; omega), (fun e => by have := own_lt hTf _ e.symm; omega), by simp, (arr_new wx _ _).more (by simp)⟩ ⟨⟨hTb.trans (((Below.refl _ _).alloc (Nat.le_refl _) _).mono (by omega)), own_below hTf ((Below.refl _ _).alloc (Nat.le_refl _) _)⟩, own_below hTl ((Below.refl _ _).alloc (Nat.le_refl _) _)⟩ (GrF.below ((Below.refl _ _).alloc (Nat.le_refl _) _))
    refine SeqA.say (RowX 4 w3.heap.size (k + 1) (fvs t ++ [.bool f]) (Value.slice O1 k c1).ownBlock) (fun _ _ _ hR h => h.keep hR) (Sp fun ax wx hS hT' hd K' J => ?_) ?_
    ·have r93 := Tv hd 2 6 93; obtain ⟨v95, r95, h95⟩ := Tg hd 0 8 95; obtain ⟨G8, rfl, _, _, _, hG8⟩ := h95; have hTb := hT'.1.1; have hTf := hT'.1.2; have hTl := hT'.2; obtain ⟨hcT, hfT, hlT, hmT, hwT⟩ := bcell hTb; have hzT := hTb.size
     refine wp_appK (.tmp 93) (.tmp 95) 50 rfl w3.heap.size 4 (.bool false) 1 1 Tryd.underlying50 (by kernel_rfl) rfl (by decide) (.slice O2 k c2) k (fvs t) (eval_of r93) hTf wx.heap.size (some ⟨G8, 0, none⟩) 1 1 [.bool f] (eval_of r95) hG8 rfl (by intro u hu; rw [List.mem_singleton.1 hu]; rfl) (by simp only [maxLen]; omega) (by omega) (by omega) (fun A3 d3 w6 q1 q2 q3 q4 q5 q6 => ?_)
     have hl6 := hTl.kept q4 (own_apart2 hTl hTf (by decide))
     exact J.out _ _ _ rfl ⟨A3, d3, rfl, q3, own_apart2 q3 hl6 (by decide)⟩ ⟨⟨hTb.trans ((Below.refl w3.heap.size wx).grown q4 (by omega) (fun k e => ownBlock_le hTf k e)), q6 _ _ _ _ hTf (List.prefix_append _ _)⟩, hl6⟩ ⟨q4, fun A c h => q6 _ _ _ _ h (List.prefix_refl _)⟩
    refine SeqA.val ?_ (Sp fun ax wx hS hT' hd K' J => ?_) ?_; rotate_left 1
    ·have r5 := hS.at 5 (by kernel_rfl) (hE.at 5 rfl); have hTb := hT'.1.1; have hTf := hT'.1.2; have hTl := hT'.2; obtain ⟨hcT, hfT, hlT, hmT, hwT⟩ := bcell hTb; have hzT := hTb.size
     refine o1 r5 fun ρ q5 => ?_; go_simp;
     refine J.out _ _ _ rfl ?_ hT' (GrF.refl); rfl
    refine SeqA.nil ?_
    refine ⟨List.forall_mem_cons.2 ⟨.inr (.inr (fun _ _ _ _ h => h)), List.forall_mem_cons.2 ⟨.inr (.inr (fun _ _ _ hR h => h.grown hR)), List.forall_mem_cons.2 ⟨.inr (.inr (fun _ _ _ hR h => h.grownX hR)), List.forall_mem_cons.2 ⟨.inr (.inr (fun _ _ _ _ h => h)), List.forall_mem_cons.2 ⟨.inr (.inr (fun _ _ _ _ h => h)), List.forall_mem_cons.2 ⟨.inr (.inr (fun _ _ _ _ h => h)), List.forall_mem_cons.2 ⟨.inr (.inr (fun _ _ _ hR h => h.grownX hR)), List.forall_mem_cons.2 ⟨.inr (.inr (fun _ _ _ _ h => h)), List.forall_mem_cons.2 ⟨.inr (.inr (fun _ _ _ _ h => h)), List.forall_mem_cons.2 ⟨.inr (.inr (fun _ _ _ _ h => h)), List.forall_mem_cons.2 ⟨.inl rfl, fun _ h => absurd h List.not_mem_nil⟩⟩⟩⟩⟩⟩⟩⟩⟩⟩⟩, StepApp.plain (by (first | (simp only [List.getElem?_toArray, List.getElem?_cons_succ, List.getElem?_cons_zero]; rfl) | rfl)) rfl (fun ax wx hS hT' hP' hd K' J => ?_), ?_⟩
    ·have r88 := Tv hd 8 1 88; obtain ⟨v90, r90, h90⟩ := Tg hd 6 3 90; obtain ⟨G3, rfl, _, _, _, hG3⟩ := h90; have hTb := hT'.1.1; have hTf := hT'.1.2; have hTl := hT'.2; obtain ⟨hcT, hfT, hlT, hmT, hwT⟩ := bcell hTb; have hzT := hTb.size
     refine wp_appK (.tmp 88) (.tmp 90) 40 rfl w3.heap.size 3 (.int .i64 0) 1 8 Tryd.underlying40 (by kernel_rfl) rfl (by decide) (.slice O1 k c1) k (lvs t) (eval_of r88) hTl wx.heap.size (some ⟨G3, 0, none⟩) 1 1 [.int .i64 m] (eval_of r90) hG3 rfl (by intro u hu; rw [List.mem_singleton.1 hu]; rfl) (by simp only [maxLen]; omega) (by omega) (by omega) (fun A2 d2 w5 q1 q2 q3 q4 q5 q6 => ?_)
     have hf5 := hTf.kept q4 (own_apart2 hTf hTl (by decide))
     exact J.out _ _ _ rfl ⟨A2, d2, rfl, q3, own_apart2 q3 hf5 (by decide)⟩ ⟨⟨hTb.trans ((Below.refl w3.heap.size wx).grown q4 (by omega) (fun k e => ownBlock_le hTl k e)), hf5⟩, q6 _ _ _ _ hTl (List.prefix_append _ _)⟩ q4
    intro wz hBn; (refine fun v h => ?_; obtain ⟨A2, d2, rfl, hO4, _⟩ := h); (repeat refine Ek ?_); (refine fun v h => ?_; obtain ⟨G3, rfl, _, _, _, hG3⟩ := h); (repeat refine Ek ?_); (refine fun v h => ?_; obtain ⟨G8, rfl, _, _, _, hG8⟩ := h); (refine fun v h => ?_; obtain ⟨A3, d3, rfl, hO9, _⟩ := h); (repeat refine Ek ?_)
    refine fun anx hEnx => ?_
    simp only [lk, pick, Nat.reduceEqDiff, ↓reduceIte] at hEnx
    have hBb := hBn.1.1
    have hRQ6 := row_of_block hRQv (hBb.block Q hlQ)
    have y0 := (hRQ6 0 _ rfl).2
    have y1 := (hRQ6 1 _ rfl).2
    refine M2 hEnx 97 91 fun K' J ρ q97 q91 => ?_; go_simp; (try clear q97 q91)
    refine late_skip hEnx J (fun an_1 hEn_1 => ?_); clear J K'; clear hEnx
    refine M1 hEn_1 5 fun K' J ρ q5 => ?_; go_simp; (try clear q5)
    refine Ln hEn_1 J fun an_2 hEn_2 => ?_; clear J K' hEn_1
    refine M2 hEn_2 98 96 fun K' J ρ q98 q96 => ?_; go_simp; (try clear q98 q96)
    refine late_skip hEn_2 J (fun an_3 hEn_3 => ?_); clear J K'; clear hEn_2
    refine Ld [1, 2, 4, 5, 7, 9, 10] hEn_3 hK fun a hE => ?_; clear hK K Q' hEn_3
    have r1' := (hRQ6.set (o := 0) (v := .slice A2 (k + 1) d2) (by simp)).set (o := 1) (v := .slice A3 (k + 1) d3) (by simp)
    have hl1 : k + 1 = (t ++ [(m, f)]).length := by simp [htk]
    have o1' := own_of_block hO4 (w' := (wz.setCell ⟨Q, 0, none⟩ (.slice A2 (k + 1) d2)).setCell ⟨Q, 1, none⟩ (.slice A3 (k + 1) d3)) (by simp) (fun g hg => by rw [Below.heap_setCell _ _ _ _ (by have := ownBlock_le hO4 g hg; simp only; omega), Below.heap_setCell _ _ _ _ (by have := ownBlock_le hO4 g hg; simp only; omega)])
    have o2' := own_of_block hO9 (w' := (wz.setCell ⟨Q, 0, none⟩ (.slice A2 (k + 1) d2)).setCell ⟨Q, 1, none⟩ (.slice A3 (k + 1) d3)) (by simp) (fun g hg => by rw [Below.heap_setCell _ _ _ _ (by have := ownBlock_le hO9 g hg; simp only; omega), Below.heap_setCell _ _ _ _ (by have := ownBlock_le hO9 g hg; simp only; omega)])
    have hHS : HaS Q w1 w3 (t ++ [(m, f)]) A2 d2 A3 d3 ((wz.setCell ⟨Q, 0, none⟩ (.slice A2 (k + 1) d2)).setCell ⟨Q, 1, none⟩ (.slice A3 (k + 1) d3)) := by rw [hl1] at o1' o2' r1' ⊢; exact ⟨(((hVb.trans (hBb.mono (by omega))).setCell hnQ _).setCell hnQ _), by simp only [World.size_setCell]; exact Nat.le_trans hVs hBb.size, r1', by rw [lvs_snoc]; exact o1', by rw [fvs_snoc]; exact o2'⟩
    refine world_cut (fun wt => HaS Q w1 w3 (t ++ [(m, f)]) A2 d2 A3 d3 wt) hHS (fun w9 hS9 => ?_)
    clear y0 y1 r1' o1' o2' hHS hRQ6 hBb hO4 hO9
    refine Ks ?_
    refine Rs 2 fun Q' K hK => ?_
    refine M1 hE 9 fun K' J ρ q9 => ?_; go_simp
    refine Ln hE J fun _ Eb => ?_; clear J K' hE a q9
    refine M1 Eb 99 fun K' J ρ q99 => ?_; go_simp
    refine Ln Eb J fun _ Ea => ?_; clear J K' Eb q99
    refine Ld [1, 2, 4, 5, 6, 7, 10] Ea hK fun a hE => ?_; clear hK K Q' Ea
    have hfin : leftT l0 (t ++ [(m, f)]) = if f then 0 else m := leftT_snoc _ _ _
    have hTK := truK_succ (f := f) hT hkl (X' ▸ hBr) hFf HMI.out
    cases hfv : f
    ·rw [hfv] at hE hfin hS9 hTK
     refine Ks ?_
     refine Rs 1 fun Q' K hK => ?_
     refine M1 hE 10 fun K' J ρ q10 => ?_; go_simp
     refine Ln hE J fun _ Eb => ?_; clear J K' hE a q10
     replace Eb := Eb.turn 100 (v' := .bool false) rfl (by (first | rfl | simp))
     refine Ld [1, 2, 4, 5, 6, 7, 100] Eb hK fun a hE => ?_; clear hK K Q' Eb
     refine Ks ?_
     refine cond_no hE (t := 100) rfl ?_
     refine Ks ?_
     refine Rs 3 fun Q' K hK => ?_
     refine M1 hE 7 fun K' J ρ q7 => ?_; go_simp
     refine Ln hE J fun _ Eb => ?_; clear J K' hE a q7
     refine M1 Eb 21 fun K' J ρ q21 => ?_; go_simp; (try go_bits); (try simp (disch := omega) only [IntWalk.i64_in])
     refine Ln Eb J fun _ Ea => ?_; clear J K' Eb q21
     refine M1 Ea 22 fun K' J ρ q22 => ?_; go_simp
     refine Ln Ea J fun _ Eb => ?_; clear J K' Ea q22
     refine Ld [1, 2, 4, 5, 6, 7] Eb hK fun a hE => ?_; clear hK K Q' Eb
     refine Ks ?_
     refine ⟨k + 1, ⟨t ++ [(m, false)], A2, d2, A3, d3, hlt, hTK, ?_, hS9⟩, by omega⟩
     rw [hfin]
     simpa using hE
    ·rw [hfv] at hE hfin hS9 hTK
     refine Ks ?_
     refine Rs 1 fun Q' K hK => ?_
     refine M1 hE 10 fun K' J ρ q10 => ?_; go_simp
     refine Ln hE J fun _ Eb => ?_; clear J K' hE a q10
     replace Eb := Eb.turn 100 (v' := .bool true) rfl (by (first | rfl | simp))
     refine Ld [1, 2, 4, 5, 6, 7, 100] Eb hK fun a hE => ?_; clear hK K Q' Eb
     refine Ks ?_
     refine cond_yes hE (t := 100) rfl ?_
     refine Ks ?_
     refine Rs 1 fun Q' K hK => ?_
     refine M0 fun K' J ρ => ?_; go_simp;
     refine Ln hE J fun _ Eb => ?_; clear J K' hE a
     refine Ld [1, 2, 4, 5, 6, 7] Eb hK fun a hE => ?_; clear hK K Q' Eb
     refine Ks ?_
     refine Rs 3 fun Q' K hK => ?_
     refine M1 hE 7 fun K' J ρ q7 => ?_; go_simp
     refine Ln hE J fun _ Eb => ?_; clear J K' hE a q7
     refine M1 Eb 21 fun K' J ρ q21 => ?_; go_simp; (try go_bits); (try simp (disch := omega) only [IntWalk.i64_in])
     refine Ln Eb J fun _ Ea => ?_; clear J K' Eb q21
     refine M1 Ea 22 fun K' J ρ q22 => ?_; go_simp
     refine Ln Ea J fun _ Eb => ?_; clear J K' Ea q22
     refine Ld [1, 2, 4, 5, 6, 7] Eb hK fun a hE => ?_; clear hK K Q' Eb
     refine Ks ?_
     refine ⟨k + 1, ⟨t ++ [(m, true)], A2, d2, A3, d3, hlt, hTK, ?_, hS9⟩, by omega⟩
     rw [hfin]
     simpa using hE
 ·have hke : k = b.hours.length := by omega
  subst hke
  clear htk
  obtain ⟨hlR, zs, hzs, hRR⟩ := hRD.below hS.below
  have c0 := (hS.row 0 _ rfl).1
  have c1' := (hS.row 1 _ rfl).1
  have nQ := Nat.lt_of_lt_of_le hlQ hS.size
  refine Ks ?_
  refine Rs 5 fun Q' K hK => ?_
  refine M1 hE 7 fun K' J ρ q7 => ?_; go_simp
  refine Ln hE J fun _ Eb => ?_; clear J K' hE a q7
  refine M1 Eb 2 fun K' J ρ q2 => ?_; go_simp
  refine Ln Eb J fun _ Ea => ?_; clear J K' Eb q2
  refine M1 Ea 17 fun K' J ρ q17 => ?_; go_simp
  refine Ln Ea J fun _ Eb => ?_; clear J K' Ea q17
  refine M1 Eb 18 fun K' J ρ q18 => ?_; go_simp; (try go_bits)
  refine Ln Eb J fun _ Ea => ?_; clear J K' Eb q18
  refine M2 Ea 16 19 fun K' J ρ q16 q19 => ?_; go_simp; (try go_bits)
  refine Ln Ea J fun _ Eb => ?_; clear J K' Ea q16 q19
  replace Eb := Eb.turn 20 (v' := .bool false) rfl (by (first | (simp; done) | (simp; omega)))
  refine Ld [1, 2, 4, 5, 6, 7, 20] Eb hK fun a hE => ?_; clear hK K Q' Eb
  refine Ks ?_
  refine cond_no hE (t := 20) rfl ?_
  refine Ks ?_
  refine Rs 2 fun Q' K hK => ?_
  refine M1 hE 5 fun K' J ρ q5 => ?_; go_simp
  refine Ln hE J fun _ Eb => ?_; clear J K' hE a q5
  refine Lp fun K' J => ?_
  have r4 := Eb.at 4 rfl; have r101 := Eb.at 101 rfl
  refine wp_store_mid 52 (.tmp 4) (.tmp 101) rfl R 0 #[.slice O1 t.length c1, .slice O2 t.length c2] (eval_of r4) (eval_of r101) (there_row hRR (by rw [hzs]; exact Nat.le_refl _)) (by kernel_rfl) (by kernel_rfl) ?_
  (try clear r4 r101)
  refine late_skip Eb J (fun _ Ea => ?_); clear J K'; clear Eb
  refine Ld [4] Ea hK fun a hE => ?_; clear hK K Q' Ea
  obtain ⟨q1, q2, q3, q4⟩ := cells_stored hRR (vs := [.slice O1 t.length c1, .slice O2 t.length c2]) (by rw [hzs]; rfl) hlR hnR hbr
  have k1 := own_of_block hS.own1 (by rw [q4]; exact Nat.le_refl _) (fun g hg => q3 g (by have := ownBlock_le hS.own1 g hg; have := hRD.1; have := h13.size; omega))
  have k2 := own_of_block hS.own2 (by rw [q4]; exact Nat.le_refl _) (fun g hg => q3 g (by have := ownBlock_le hS.own2 g hg; have := hRD.1; have := h13.size; omega))
  refine world_cut (fun wt => Cells wt R [.slice O1 t.length c1, .slice O2 t.length c2] ∧ Below w.heap.size w wt ∧ ArrD wt O1 (lvs t) ∧ ArrD wt O2 (fvs t)) ⟨q1, q2, own_arr k1, own_arr k2⟩ (fun w9 hCut => ?_)
  clear q1 q2 q3 q4 k1 k2
  obtain ⟨hC9, hb9, hH9, hG9⟩ := hCut
  refine Ks ?_
  exact ret_cell hE rfl rfl hC9.2 Tryd.underlying52 rfl (by kernel_rfl) ⟨⟨t, O1, c1, O2, c2, truK_all hT hl0b, rfl, hH9, hG9⟩, hb9⟩
end
end Go.Proofs.YtkhmcofmjjmjhaaDoor
