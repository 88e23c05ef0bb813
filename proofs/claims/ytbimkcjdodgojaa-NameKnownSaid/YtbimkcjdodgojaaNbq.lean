/- Name: the closed law, the books that are no books: how they are made. -/
import Derived.Test.YtbimkcjdodgojaaNbp
import Derived.Test.YtbimkcjdodgojaaNbc
namespace Go.Proofs.Ytbimkcjdodgojaa
set_option linter.unusedSimpArgs false
set_option linter.unusedVariables false
open Go Go.RowKit
attribute [local go_sem high] cell_set_wr
attribute [local go_sem low] cell_wr frozen_wr
attribute [local go_sem] wr_set wr_drew wr_drewN wr_alloc wr_new

set_option maxRecDepth 100000
theorem books_lit (lost : Int) (w : World) : Calls Try.prog 43 #[.int .i64 lost] w fun e w' => (∃ H G, e = .returned (.agg #[.slice (some ⟨H, 0, none⟩) 2 2, .string ⟨#[104]⟩, .int .i64 1, .slice (some ⟨G, 0, none⟩) 5 5, .int .i64 90, .int .i64 150, .int .i64 lost]) ∧ w.heap.size ≤ H ∧ H < G ∧ G < w'.heap.size ∧ Arr w' w'.heap.size (some ⟨H, 0, none⟩) (txts chEar.alike) ∧ Row w' G (nlines (chBk lost).lines)) ∧ Below w.heap.size w w' := books_row lost w
def updB {α : Type} (f : Nat → α) (k : Nat) (x : α) : Nat → α := fun i => if i = k then x else f i
def cellsB (hd ln : Nat → Nat) (lc : Nat → Nat) (bs : Nat → Bk) : List Value := (List.range 9).flatMap fun i => bkV (some ⟨hd i, 0, none⟩) 2 (some ⟨ln i, 0, none⟩) (lc i) (bs i)
/-- nine books in memory, from a block on -/
structure BadS (N P : Nat) (hd ln : Nat → Nat) (bs : Nat → Bk) (W : World) : Prop where
 lt : P < W.heap.size
 le : N ≤ P
 row : Row W P (cellsB hd ln (fun _ => 5) bs)
 h : ∀ i, i < 9 → N ≤ hd i ∧ hd i < W.heap.size ∧ hd i ≠ P ∧ Arr W W.heap.size (some ⟨hd i, 0, none⟩) (txts chEar.alike)
 l : ∀ i, i < 9 → N ≤ ln i ∧ ln i < W.heap.size ∧ ln i ≠ P ∧ Row W (ln i) (nlines (bs i).lines)
 ne : ∀ i, i < 9 → ∀ j, j < 9 → ln i ≠ hd j ∧ (i ≠ j → ln i ≠ ln j)
theorem cellsB_upd {hd ln lc : Nat → Nat} {bs : Nat → Bk} {k : Nat} {b' : Bk} (h : ∀ A c L l, bkV A c L l b' = bkV A c L l (bs k)) : cellsB hd ln lc (updB bs k b') = cellsB hd ln lc bs := by
 unfold cellsB
 congr 1
 funext i
 unfold updB
 by_cases e : i = k
 ·subst e; rw [if_pos rfl, h]
 ·rw [if_neg e]
theorem BadS.setLine {N P : Nat} {hd ln : Nat → Nat} {bs : Nat → Bk} {W : World} (hS : BadS N P hd ln bs W) (k o : Nat) (v : Value) (b' : Bk) (hk : k < 9) (ho : o < (nlines (bs k).lines).length) (h1 : ∀ A c L l, bkV A c L l b' = bkV A c L l (bs k)) (h2 : nlines b'.lines = (nlines (bs k).lines).set o v) : BadS N P hd ln (updB bs k b') (W.setCell ⟨ln k, o, none⟩ v) := by
 have hlk := hS.l k hk
 refine ⟨by simpa using hS.lt, hS.le, by rw [cellsB_upd h1]; exact hS.row.other hlk.2.2.1, fun i hi => ?_, fun i hi => ?_, hS.ne⟩
 ·obtain ⟨q1, q2, q3, q4⟩ := hS.h i hi
  refine ⟨q1, by simpa using q2, q3, ?_⟩
  have := arr_set (o := o) (v := v) q4 (Ne.symm (hS.ne k hk i hi).1)
  simpa using this
 ·obtain ⟨q1, q2, q3, q4⟩ := hS.l i hi
  refine ⟨q1, by simpa using q2, q3, ?_⟩
  unfold updB
  by_cases e : i = k
  ·subst e
   rw [if_pos rfl, h2]
   exact q4.set ho
  ·rw [if_neg e]
   exact q4.other ((hS.ne k hk i hi).2 (Ne.symm e))
theorem BadS.setP {N P : Nat} {hd ln : Nat → Nat} {bs bs' : Nat → Bk} {W W' : World} (hS : BadS N P hd ln bs W) (hR : Row W' P (cellsB hd ln (fun _ => 5) bs')) (hl : ∀ i, i < 9 → (bs' i).lines = (bs i).lines) (hk : ∀ j, j ≠ P → W'.heap[j]? = W.heap[j]?) (hs : W'.heap.size = W.heap.size) : BadS N P hd ln bs' W' := by
 refine ⟨by rw [hs]; exact hS.lt, hS.le, hR, fun i hi => ?_, fun i hi => ?_, hS.ne⟩
 ·obtain ⟨q1, q2, q3, q4⟩ := hS.h i hi
  refine ⟨q1, by rw [hs]; exact q2, q3, fun hx => ?_⟩
  obtain ⟨b, o, e, r1, r2⟩ := q4 hx
  have eb : hd i = b := by cases e; rfl
  exact ⟨b, o, e, by rw [hs]; exact r1, fun j u hu => (World.cell?_of_block (w := W) (a := ⟨b, o + j, none⟩) (hk b (by rw [← eb]; exact q3))).trans (r2 j u hu)⟩
 ·obtain ⟨q1, q2, q3, q4⟩ := hS.l i hi
  exact ⟨q1, by rw [hs]; exact q2, q3, by rw [hl i hi]; exact row_of_block q4 (hk _ q3)⟩
theorem BadS.below {N P : Nat} {hd ln : Nat → Nat} {bs : Nat → Bk} {W W' : World} (hS : BadS N P hd ln bs W) (hb : Below W.heap.size W W') : BadS N P hd ln bs W' := by
 refine ⟨Nat.lt_of_lt_of_le hS.lt hb.size, hS.le, hS.row.below hb hS.lt, fun i hi => ?_, fun i hi => ?_, hS.ne⟩
 ·obtain ⟨q1, q2, q3, q4⟩ := hS.h i hi
  exact ⟨q1, Nat.lt_of_lt_of_le q2 hb.size, q3, (q4.below hb).more hb.size⟩
 ·obtain ⟨q1, q2, q3, q4⟩ := hS.l i hi
  exact ⟨q1, Nat.lt_of_lt_of_le q2 hb.size, q3, q4.below hb q2⟩
theorem bads_new {N : Nat} {v9 : World} {hd ln : Nat → Nat} {bs : Nat → Bk} {cs : Array Value} {t : TypeId} (hcs : cs.toList = cellsB hd ln (fun _ => 5) bs) (hN : N ≤ v9.heap.size) (hh : ∀ i, i < 9 → N ≤ hd i ∧ hd i < v9.heap.size ∧ Arr v9 v9.heap.size (some ⟨hd i, 0, none⟩) (txts chEar.alike))
    (hl : ∀ i, i < 9 → N ≤ ln i ∧ ln i < v9.heap.size ∧ Row v9 (ln i) (nlines (bs i).lines)) (hne : ∀ i, i < 9 → ∀ j, j < 9 → ln i ≠ hd j ∧ (i ≠ j → ln i ≠ ln j)) : Below v9.heap.size v9 (v9.alloc (.cells cs t)) ∧ BadS N v9.heap.size hd ln bs (v9.alloc (.cells cs t)) := by
 have hz : Below v9.heap.size v9 (v9.alloc (.cells cs t)) := (Below.refl _ _).alloc (Nat.le_refl _) _
 refine ⟨hz, ⟨by simp, hN, by rw [← hcs]; exact row_new v9 _ _, fun i hi => ?_, fun i hi => ?_, hne⟩⟩
 ·obtain ⟨q1, q2, q3⟩ := hh i hi
  exact ⟨q1, by simp; omega, by omega, (q3.below hz).more hz.size⟩
 ·obtain ⟨q1, q2, q3⟩ := hl i hi
  exact ⟨q1, by simp; omega, by omega, q3.below hz q2⟩
/-- the nine books as they are first, and with what is turned in them -/
def bs0 : Nat → Bk := fun i => if i = 0 then chBk 10 else if i = 1 then chBk (-1) else chBk 1
def linesWith (ls : List NLn) (b : Bk) : Bk := { b with lines := ls }
def lnP : NLn := ⟨0, 500, ⟨#[112, 101, 116, 101, 114]⟩⟩
def lnH : NLn := ⟨0, 520, ⟨#[104, 97, 110, 115]⟩⟩
def lnB : NLn := ⟨1, 620, ⟨#[98, 101, 116, 101, 114]⟩⟩
def lnA : NLn := ⟨1, 640, ⟨#[97, 110, 115]⟩⟩
def lnD : NLn := ⟨1, 630, ⟨#[112, 101, 100, 101, 114]⟩⟩
def bb2 : Bk := linesWith [⟨2, 500, ⟨#[112, 101, 116, 101, 114]⟩⟩, lnH, lnB, lnA, lnD] (chBk 1)
def bb3 : Bk := linesWith [lnP, ⟨0, 1440, ⟨#[104, 97, 110, 115]⟩⟩, lnB, lnA, lnD] (chBk 1)
def bb4 : Bk := linesWith [lnP, lnH, ⟨1, 620, ⟨#[]⟩⟩, lnA, lnD] (chBk 1)
def bb5 : Bk := linesWith [lnP, lnH, ⟨1, 620, ⟨#[66, 101, 116, 101, 114]⟩⟩, lnA, lnD] (chBk 1)
def bb6 : Bk := { chBk 1 with hi := 1440 }
def bb7 : Bk := { chBk 1 with hi := 89 }
def bb8 : Bk := linesWith [lnP, lnH, lnB, lnA, lnD, lnP, lnH, lnB, lnA, lnD] (chBk 1)
def fn9 {α : Type} (x0 x1 x2 x3 x4 x5 x6 x7 x8 : α) (i : Nat) : α := match i with
 | 0 => x0 | 1 => x1 | 2 => x2 | 3 => x3 | 4 => x4 | 5 => x5 | 6 => x6 | 7 => x7 | _ => x8
theorem nine {p : Nat → Prop} (h0 : p 0) (h1 : p 1) (h2 : p 2) (h3 : p 3) (h4 : p 4) (h5 : p 5) (h6 : p 6) (h7 : p 7) (h8 : p 8) : ∀ i, i < 9 → p i := fun i hi => by
 have h : i = 0 ∨ i = 1 ∨ i = 2 ∨ i = 3 ∨ i = 4 ∨ i = 5 ∨ i = 6 ∨ i = 7 ∨ i = 8 := by omega
 rcases h with rfl | rfl | rfl | rfl | rfl | rfl | rfl | rfl | rfl <;> assumption
/-- what is left to walk behind the statements that make the books -/
def Rest (k : Nat) (hd ln : Nat → Nat) (N P : Nat) (bs : Nat → Bk) : Prop := ∀ (w V : World), Below w.heap.size w V → w.heap.size ≤ N → BadS N P hd ln bs V → ∀ (a : Act), Fits 562 [(6, .slice (some ⟨P, 0, none⟩) 9 9)] a → (cr k (bodyOf Try.f10)).wp Try.prog (bodyPost Try.prog Try.f10 fun e w' => e = .returned (.bool true) ∧ Below w.heap.size w w') a V
set_option maxHeartbeats 4000000 in
theorem known_r10 (hR : ∀ hd ln N P, Rest 4 hd ln N P bs0) (w V : World) (hb : Below w.heap.size w V) (e : Env) (a : Act) (hE : Fits 562 e a) : (cr 3 (bodyOf Try.f10)).wp Try.prog (bodyPost Try.prog Try.f10 fun e w' => e = .returned (.bool true) ∧ Below w.heap.size w w') a V := by
 have HR := hid hR
 clear hR
 refine wp_seq ?_; (repeat with_reducible first|refine ctl ?_|refine miss ?_)
 refine Rs 11 fun Q' K hK => ?_
 refine Lp fun K' J => ?_
 refine op0 fun ρ qc qf qg => ?_; go_simp; (try go_bits); (try clear qc qf qg)
 go_at_call 43; refine (books_lit (10) _).mono ?_; rintro e v1 ⟨⟨H0, G0, rfl, a0, b0, c0, A0, R0⟩, k0⟩
 refine Ln hE J fun a_1 E1 => ?_; clear J K' hE a
 refine Lp fun K' J => ?_
 refine op0 fun ρ qc qf qg => ?_; go_simp; (try go_bits); (try clear qc qf qg)
 go_at_call 43; refine (books_lit (-1) _).mono ?_; rintro e v2 ⟨⟨H1, G1, rfl, a1, b1, c1, A1, R1⟩, k1⟩
 refine Ln E1 J fun a_2 E2 => ?_; clear J K' E1
 refine Lp fun K' J => ?_
 refine op0 fun ρ qc qf qg => ?_; go_simp; (try go_bits); (try clear qc qf qg)
 go_at_call 43; refine (books_lit (1) _).mono ?_; rintro e v3 ⟨⟨H2, G2, rfl, a2, b2, c2, A2, R2⟩, k2⟩
 refine Ln E2 J fun a_3 E3 => ?_; clear J K' E2
 refine Lp fun K' J => ?_
 refine op0 fun ρ qc qf qg => ?_; go_simp; (try go_bits); (try clear qc qf qg)
 go_at_call 43; refine (books_lit (1) _).mono ?_; rintro e v4 ⟨⟨H3, G3, rfl, a3, b3, c3, A3, R3⟩, k3⟩
 refine Ln E3 J fun a_4 E4 => ?_; clear J K' E3
 refine Lp fun K' J => ?_
 refine op0 fun ρ qc qf qg => ?_; go_simp; (try go_bits); (try clear qc qf qg)
 go_at_call 43; refine (books_lit (1) _).mono ?_; rintro e v5 ⟨⟨H4, G4, rfl, a4, b4, c4, A4, R4⟩, k4⟩
 refine Ln E4 J fun a_5 E5 => ?_; clear J K' E4
 refine Lp fun K' J => ?_
 refine op0 fun ρ qc qf qg => ?_; go_simp; (try go_bits); (try clear qc qf qg)
 go_at_call 43; refine (books_lit (1) _).mono ?_; rintro e v6 ⟨⟨H5, G5, rfl, a5, b5, c5, A5, R5⟩, k5⟩
 refine Ln E5 J fun a_6 E6 => ?_; clear J K' E5
 refine Lp fun K' J => ?_
 refine op0 fun ρ qc qf qg => ?_; go_simp; (try go_bits); (try clear qc qf qg)
 go_at_call 43; refine (books_lit (1) _).mono ?_; rintro e v7 ⟨⟨H6, G6, rfl, a6, b6, c6, A6, R6⟩, k6⟩
 refine Ln E6 J fun a_7 E7 => ?_; clear J K' E6
 refine Lp fun K' J => ?_
 refine op0 fun ρ qc qf qg => ?_; go_simp; (try go_bits); (try clear qc qf qg)
 go_at_call 43; refine (books_lit (1) _).mono ?_; rintro e v8 ⟨⟨H7, G7, rfl, a7, b7, c7, A7, R7⟩, k7⟩
 refine Ln E7 J fun a_8 E8 => ?_; clear J K' E7
 refine Lp fun K' J => ?_
 refine op0 fun ρ qc qf qg => ?_; go_simp; (try go_bits); (try clear qc qf qg)
 go_at_call 43; refine (books_lit (1) _).mono ?_; rintro e v9 ⟨⟨H8, G8, rfl, a8, b8, c8, A8, R8⟩, k8⟩
 refine Ln E8 J fun a_9 E9 => ?_; clear J K' E8
 refine Lp fun K' J => ?_
 have r111 := E9.at 111 rfl; have r112 := E9.at 112 rfl; have r113 := E9.at 113 rfl; have r114 := E9.at 114 rfl; have r115 := E9.at 115 rfl; have r116 := E9.at 116 rfl; have r117 := E9.at 117 rfl; have r118 := E9.at 118 rfl; have r119 := E9.at 119 rfl
 refine op_run (fun ρ hρ qc qf qg => ?_); have q111 := rho hρ r111; have q112 := rho hρ r112; have q113 := rho hρ r113; have q114 := rho hρ r114; have q115 := rho hρ r115; have q116 := rho hρ r116; have q117 := rho hρ r117; have q118 := rho hρ r118; have q119 := rho hρ r119; clear hρ; go_simp; (try clear qc qf qg r111 q111 r112 q112 r113 q113 r114 q114 r115 q115 r116 q116 r117 q117 r118 q118 r119 q119)
 (try clear r111 r112 r113 r114 r115 r116 r117 r118 r119)
 refine Ln E9 J fun a_10 E10 => ?_; clear J K' E9
 refine Lp fun K' J => op1 (E10.at 120 rfl) fun ρ qc qf qg q120 => ?_; go_simp; (try clear qc qf qg q120)
 refine Ln E10 J fun a_11 E11 => ?_; clear J K' E10
 refine late_done [6] E11 hK (fun a hE => ?_); clear hK K Q' E11; simp only [lk, pick, Nat.reduceEqDiff, ↓reduceIte] at hE
 have s0 := k0.size
 have s1 := k1.size
 have s2 := k2.size
 have s3 := k3.size
 have s4 := k4.size
 have s5 := k5.size
 have s6 := k6.size
 have s7 := k7.size
 have s8 := k8.size
 have z9 : Below v9.heap.size v9 v9 := Below.refl _ _
 have z8 : Below v8.heap.size v8 v9 := k8.trans (z9.mono k8.size)
 have z7 : Below v7.heap.size v7 v9 := k7.trans (z8.mono k7.size)
 have z6 : Below v6.heap.size v6 v9 := k6.trans (z7.mono k6.size)
 have z5 : Below v5.heap.size v5 v9 := k5.trans (z6.mono k5.size)
 have z4 : Below v4.heap.size v4 v9 := k4.trans (z5.mono k4.size)
 have z3 : Below v3.heap.size v3 v9 := k3.trans (z4.mono k3.size)
 have z2 : Below v2.heap.size v2 v9 := k2.trans (z3.mono k2.size)
 have z1 : Below v1.heap.size v1 v9 := k1.trans (z2.mono k1.size)
 have hV9 := k0.trans (z1.mono k0.size)
 have hh : ∀ i, i < 9 → V.heap.size ≤ fn9 H0 H1 H2 H3 H4 H5 H6 H7 H8 i ∧ fn9 H0 H1 H2 H3 H4 H5 H6 H7 H8 i < v9.heap.size ∧ Arr v9 v9.heap.size (some ⟨fn9 H0 H1 H2 H3 H4 H5 H6 H7 H8 i, 0, none⟩) (txts chEar.alike) := nine ⟨by show V.heap.size ≤ H0; omega, by show H0 < _; omega, (A0.below z1).more z1.size⟩ ⟨by show V.heap.size ≤ H1; omega, by show H1 < _; omega, (A1.below z2).more z2.size⟩ ⟨by show V.heap.size ≤ H2; omega, by show H2 < _; omega, (A2.below z3).more z3.size⟩ ⟨by show V.heap.size ≤ H3; omega, by show H3 < _; omega, (A3.below z4).more z4.size⟩ ⟨by show V.heap.size ≤ H4; omega, by show H4 < _; omega, (A4.below z5).more z5.size⟩ ⟨by show V.heap.size ≤ H5; omega, by show H5 < _; omega, (A5.below z6).more z6.size⟩ ⟨by show V.heap.size ≤ H6; omega, by show H6 < _; omega, (A6.below z7).more z7.size⟩ ⟨by show V.heap.size ≤ H7; omega, by show H7 < _; omega, (A7.below z8).more z8.size⟩ ⟨by show V.heap.size ≤ H8; omega, by show H8 < _; omega, (A8.below z9).more z9.size⟩
 have hl : ∀ i, i < 9 → V.heap.size ≤ fn9 G0 G1 G2 G3 G4 G5 G6 G7 G8 i ∧ fn9 G0 G1 G2 G3 G4 G5 G6 G7 G8 i < v9.heap.size ∧ Row v9 (fn9 G0 G1 G2 G3 G4 G5 G6 G7 G8 i) (nlines (bs0 i).lines) := nine ⟨by show V.heap.size ≤ G0; omega, by show G0 < _; omega, R0.below z1 c0⟩ ⟨by show V.heap.size ≤ G1; omega, by show G1 < _; omega, R1.below z2 c1⟩ ⟨by show V.heap.size ≤ G2; omega, by show G2 < _; omega, R2.below z3 c2⟩ ⟨by show V.heap.size ≤ G3; omega, by show G3 < _; omega, R3.below z4 c3⟩ ⟨by show V.heap.size ≤ G4; omega, by show G4 < _; omega, R4.below z5 c4⟩ ⟨by show V.heap.size ≤ G5; omega, by show G5 < _; omega, R5.below z6 c5⟩ ⟨by show V.heap.size ≤ G6; omega, by show G6 < _; omega, R6.below z7 c6⟩ ⟨by show V.heap.size ≤ G7; omega, by show G7 < _; omega, R7.below z8 c7⟩ ⟨by show V.heap.size ≤ G8; omega, by show G8 < _; omega, R8.below z9 c8⟩
 have hne : ∀ i, i < 9 → ∀ j, j < 9 → fn9 G0 G1 G2 G3 G4 G5 G6 G7 G8 i ≠ fn9 H0 H1 H2 H3 H4 H5 H6 H7 H8 j ∧ (i ≠ j → fn9 G0 G1 G2 G3 G4 G5 G6 G7 G8 i ≠ fn9 G0 G1 G2 G3 G4 G5 G6 G7 G8 j) := nine (nine ⟨by show G0 ≠ H0; omega, fun h => absurd rfl h⟩ ⟨by show G0 ≠ H1; omega, fun _ => by show G0 ≠ G1; omega⟩ ⟨by show G0 ≠ H2; omega, fun _ => by show G0 ≠ G2; omega⟩ ⟨by show G0 ≠ H3; omega, fun _ => by show G0 ≠ G3; omega⟩ ⟨by show G0 ≠ H4; omega, fun _ => by show G0 ≠ G4; omega⟩ ⟨by show G0 ≠ H5; omega, fun _ => by show G0 ≠ G5; omega⟩ ⟨by show G0 ≠ H6; omega, fun _ => by show G0 ≠ G6; omega⟩ ⟨by show G0 ≠ H7; omega, fun _ => by show G0 ≠ G7; omega⟩ ⟨by show G0 ≠ H8; omega, fun _ => by show G0 ≠ G8; omega⟩) (nine ⟨by show G1 ≠ H0; omega, fun _ => by show G1 ≠ G0; omega⟩ ⟨by show G1 ≠ H1; omega, fun h => absurd rfl h⟩ ⟨by show G1 ≠ H2; omega, fun _ => by show G1 ≠ G2; omega⟩ ⟨by show G1 ≠ H3; omega, fun _ => by show G1 ≠ G3; omega⟩ ⟨by show G1 ≠ H4; omega, fun _ => by show G1 ≠ G4; omega⟩ ⟨by show G1 ≠ H5; omega, fun _ => by show G1 ≠ G5; omega⟩ ⟨by show G1 ≠ H6; omega, fun _ => by show G1 ≠ G6; omega⟩ ⟨by show G1 ≠ H7; omega, fun _ => by show G1 ≠ G7; omega⟩ ⟨by show G1 ≠ H8; omega, fun _ => by show G1 ≠ G8; omega⟩) (nine ⟨by show G2 ≠ H0; omega, fun _ => by show G2 ≠ G0; omega⟩ ⟨by show G2 ≠ H1; omega, fun _ => by show G2 ≠ G1; omega⟩ ⟨by show G2 ≠ H2; omega, fun h => absurd rfl h⟩ ⟨by show G2 ≠ H3; omega, fun _ => by show G2 ≠ G3; omega⟩ ⟨by show G2 ≠ H4; omega, fun _ => by show G2 ≠ G4; omega⟩ ⟨by show G2 ≠ H5; omega, fun _ => by show G2 ≠ G5; omega⟩ ⟨by show G2 ≠ H6; omega, fun _ => by show G2 ≠ G6; omega⟩ ⟨by show G2 ≠ H7; omega, fun _ => by show G2 ≠ G7; omega⟩ ⟨by show G2 ≠ H8; omega, fun _ => by show G2 ≠ G8; omega⟩) (nine ⟨by show G3 ≠ H0; omega, fun _ => by show G3 ≠ G0; omega⟩ ⟨by show G3 ≠ H1; omega, fun _ => by show G3 ≠ G1; omega⟩ ⟨by show G3 ≠ H2; omega, fun _ => by show G3 ≠ G2; omega⟩ ⟨by show G3 ≠ H3; omega, fun h => absurd rfl h⟩ ⟨by show G3 ≠ H4; omega, fun _ => by show G3 ≠ G4; omega⟩ ⟨by show G3 ≠ H5; omega, fun _ => by show G3 ≠ G5; omega⟩ ⟨by show G3 ≠ H6; omega, fun _ => by show G3 ≠ G6; omega⟩ ⟨by show G3 ≠ H7; omega, fun _ => by show G3 ≠ G7; omega⟩ ⟨by show G3 ≠ H8; omega, fun _ => by show G3 ≠ G8; omega⟩) (nine ⟨by show G4 ≠ H0; omega, fun _ => by show G4 ≠ G0; omega⟩ ⟨by show G4 ≠ H1; omega, fun _ => by show G4 ≠ G1; omega⟩ ⟨by show G4 ≠ H2; omega, fun _ => by show G4 ≠ G2; omega⟩ ⟨by show G4 ≠ H3; omega, fun _ => by show G4 ≠ G3; omega⟩ ⟨by show G4 ≠ H4; omega, fun h => absurd rfl h⟩ ⟨by show G4 ≠ H5; omega, fun _ => by show G4 ≠ G5; omega⟩ ⟨by show G4 ≠ H6; omega, fun _ => by show G4 ≠ G6; omega⟩ ⟨by show G4 ≠ H7; omega, fun _ => by show G4 ≠ G7; omega⟩ ⟨by show G4 ≠ H8; omega, fun _ => by show G4 ≠ G8; omega⟩) (nine ⟨by show G5 ≠ H0; omega, fun _ => by show G5 ≠ G0; omega⟩ ⟨by show G5 ≠ H1; omega, fun _ => by show G5 ≠ G1; omega⟩ ⟨by show G5 ≠ H2; omega, fun _ => by show G5 ≠ G2; omega⟩ ⟨by show G5 ≠ H3; omega, fun _ => by show G5 ≠ G3; omega⟩ ⟨by show G5 ≠ H4; omega, fun _ => by show G5 ≠ G4; omega⟩ ⟨by show G5 ≠ H5; omega, fun h => absurd rfl h⟩ ⟨by show G5 ≠ H6; omega, fun _ => by show G5 ≠ G6; omega⟩ ⟨by show G5 ≠ H7; omega, fun _ => by show G5 ≠ G7; omega⟩ ⟨by show G5 ≠ H8; omega, fun _ => by show G5 ≠ G8; omega⟩) (nine ⟨by show G6 ≠ H0; omega, fun _ => by show G6 ≠ G0; omega⟩ ⟨by show G6 ≠ H1; omega, fun _ => by show G6 ≠ G1; omega⟩ ⟨by show G6 ≠ H2; omega, fun _ => by show G6 ≠ G2; omega⟩ ⟨by show G6 ≠ H3; omega, fun _ => by show G6 ≠ G3; omega⟩ ⟨by show G6 ≠ H4; omega, fun _ => by show G6 ≠ G4; omega⟩ ⟨by show G6 ≠ H5; omega, fun _ => by show G6 ≠ G5; omega⟩ ⟨by show G6 ≠ H6; omega, fun h => absurd rfl h⟩ ⟨by show G6 ≠ H7; omega, fun _ => by show G6 ≠ G7; omega⟩ ⟨by show G6 ≠ H8; omega, fun _ => by show G6 ≠ G8; omega⟩) (nine ⟨by show G7 ≠ H0; omega, fun _ => by show G7 ≠ G0; omega⟩ ⟨by show G7 ≠ H1; omega, fun _ => by show G7 ≠ G1; omega⟩ ⟨by show G7 ≠ H2; omega, fun _ => by show G7 ≠ G2; omega⟩ ⟨by show G7 ≠ H3; omega, fun _ => by show G7 ≠ G3; omega⟩ ⟨by show G7 ≠ H4; omega, fun _ => by show G7 ≠ G4; omega⟩ ⟨by show G7 ≠ H5; omega, fun _ => by show G7 ≠ G5; omega⟩ ⟨by show G7 ≠ H6; omega, fun _ => by show G7 ≠ G6; omega⟩ ⟨by show G7 ≠ H7; omega, fun h => absurd rfl h⟩ ⟨by show G7 ≠ H8; omega, fun _ => by show G7 ≠ G8; omega⟩) (nine ⟨by show G8 ≠ H0; omega, fun _ => by show G8 ≠ G0; omega⟩ ⟨by show G8 ≠ H1; omega, fun _ => by show G8 ≠ G1; omega⟩ ⟨by show G8 ≠ H2; omega, fun _ => by show G8 ≠ G2; omega⟩ ⟨by show G8 ≠ H3; omega, fun _ => by show G8 ≠ G3; omega⟩ ⟨by show G8 ≠ H4; omega, fun _ => by show G8 ≠ G4; omega⟩ ⟨by show G8 ≠ H5; omega, fun _ => by show G8 ≠ G5; omega⟩ ⟨by show G8 ≠ H6; omega, fun _ => by show G8 ≠ G6; omega⟩ ⟨by show G8 ≠ H7; omega, fun _ => by show G8 ≠ G7; omega⟩ ⟨by show G8 ≠ H8; omega, fun h => absurd rfl h⟩)
 obtain ⟨P, hP⟩ : ∃ P, P = v9.heap.size := ⟨_, rfl⟩
 rw [← hP] at hE
 refine world_cut (fun wt => Below V.heap.size V wt ∧ BadS V.heap.size P (fn9 H0 H1 H2 H3 H4 H5 H6 H7 H8) (fn9 G0 G1 G2 G3 G4 G5 G6 G7 G8) bs0 wt) ?_ (fun w1 hC => ?_)
 ·rw [hP]
  have hq := bads_new (t := 35) (cs := (cellsB (fn9 H0 H1 H2 H3 H4 H5 H6 H7 H8) (fn9 G0 G1 G2 G3 G4 G5 G6 G7 G8) (fun _ => 5) bs0).toArray) rfl hV9.size hh hl hne
  exact ⟨hV9.trans (hq.1.mono hV9.size), hq.2⟩
 obtain ⟨h1, hS⟩ := hC
 (repeat with_reducible first|refine ctlE ?_|refine miss ?_)
 exact HR.out _ _ _ _ w w1 (hb.trans (h1.mono hb.size)) hb.size hS _ hE
set_option maxHeartbeats 4000000 in
theorem known_r11 {hd ln : Nat → Nat} {N P : Nat} (hR : Rest 5 hd ln N P (updB bs0 2 bb2)) : Rest 4 hd ln N P bs0 := by
 intro w V hb hwN hS a hE
 have HR := hid hR
 clear hR
 have hl := hS.l 2 (by omega)
 have cP := (hS.row 17 _ rfl).1
 have nP := hS.lt
 have y := (hl.2.2.2 0 _ rfl).2
 have hNl := hl.1
 obtain ⟨G, hG⟩ : ∃ G, ln 2 = G := ⟨_, rfl⟩
 have HS := hid hS
 have HG := hid hG
 rw [hG] at cP y hl
 have nG := hl.2.1
 clear hS hl hG
 refine wp_seq ?_; (repeat with_reducible first|refine ctl ?_|refine miss ?_)
 refine Rs 7 fun Q' K hK => ?_
 refine Lp fun K' J => op1 (hE.at 6 rfl) fun ρ qc qf qg q6 => ?_; go_simp; (try clear qc qf qg q6)
 refine Ln hE J fun a_1 E1 => ?_; clear J K' hE a
 refine Lp fun K' J => op1 (E1.at 121 rfl) fun ρ qc qf qg q121 => ?_; go_simp; (try go_bits); (try clear qc qf qg q121)
 refine Ln E1 J fun a_2 E2 => ?_; clear J K' E1
 refine Lp fun K' J => op1 (E2.at 122 rfl) fun ρ qc qf qg q122 => ?_; go_simp; (try clear qc qf qg q122)
 refine Ln E2 J fun a_3 E3 => ?_; clear J K' E2
 refine Lp fun K' J => op1 (E3.at 123 rfl) fun ρ qc qf qg q123 => ?_; go_simp; (try clear qc qf qg q123)
 refine Ln E3 J fun a_4 E4 => ?_; clear J K' E3
 refine Lp fun K' J => op1 (E4.at 124 rfl) fun ρ qc qf qg q124 => ?_; go_simp; (try go_bits); (try clear qc qf qg q124)
 refine Ln E4 J fun a_5 E5 => ?_; clear J K' E4
 refine Lp fun K' J => op1 (E5.at 125 rfl) fun ρ qc qf qg q125 => ?_; go_simp; (try clear qc qf qg q125)
 refine Ln E5 J fun a_6 E6 => ?_; clear J K' E5
 refine Lp fun K' J => op1 (E6.at 126 rfl) fun ρ qc qf qg q126 => ?_; go_simp; (try clear qc qf qg q126)
 refine late_skip E6 J (fun a_7 E7 => ?_); clear J K'; clear E6
 refine late_done [6] E7 hK (fun a hE => ?_); clear hK K Q' E7; simp only [lk, pick, Nat.reduceEqDiff, ↓reduceIte] at hE
 refine world_cut (fun wt => Below w.heap.size w wt ∧ BadS N P hd ln (updB bs0 2 bb2) wt) ⟨hb.setCell (by simp only; rw [← HG.out]; omega) _, ?_⟩ (fun w1 hC => ?_)
 ·have q := HS.out.setLine 2 0 (.int .i64 2) bb2 (by omega) (by decide) (fun _ _ _ _ => rfl) rfl
  rw [HG.out] at q
  exact q
 obtain ⟨h1, hS⟩ := hC
 (repeat with_reducible first|refine ctlE ?_|refine miss ?_)
 exact HR.out w w1 h1 hwN hS _ hE
def bs1 : Nat → Bk := updB bs0 2 bb2
set_option maxHeartbeats 4000000 in
theorem known_r12 {hd ln : Nat → Nat} {N P : Nat} (hR : Rest 6 hd ln N P (updB bs1 3 bb3)) : Rest 5 hd ln N P bs1 := by
 intro w V hb hwN hS a hE
 have HR := hid hR
 clear hR
 have hl := hS.l 3 (by omega)
 have cP := (hS.row 24 _ rfl).1
 have nP := hS.lt
 have y := (hl.2.2.2 4 _ rfl).2
 have hNl := hl.1
 obtain ⟨G, hG⟩ : ∃ G, ln 3 = G := ⟨_, rfl⟩
 have HS := hid hS
 have HG := hid hG
 rw [hG] at cP y hl
 have nG := hl.2.1
 clear hS hl hG
 refine wp_seq ?_; (repeat with_reducible first|refine ctl ?_|refine miss ?_)
 refine Rs 7 fun Q' K hK => ?_
 refine Lp fun K' J => op1 (hE.at 6 rfl) fun ρ qc qf qg q6 => ?_; go_simp; (try clear qc qf qg q6)
 refine Ln hE J fun a_1 E1 => ?_; clear J K' hE a
 refine Lp fun K' J => op1 (E1.at 127 rfl) fun ρ qc qf qg q127 => ?_; go_simp; (try go_bits); (try clear qc qf qg q127)
 refine Ln E1 J fun a_2 E2 => ?_; clear J K' E1
 refine Lp fun K' J => op1 (E2.at 128 rfl) fun ρ qc qf qg q128 => ?_; go_simp; (try clear qc qf qg q128)
 refine Ln E2 J fun a_3 E3 => ?_; clear J K' E2
 refine Lp fun K' J => op1 (E3.at 129 rfl) fun ρ qc qf qg q129 => ?_; go_simp; (try clear qc qf qg q129)
 refine Ln E3 J fun a_4 E4 => ?_; clear J K' E3
 refine Lp fun K' J => op1 (E4.at 130 rfl) fun ρ qc qf qg q130 => ?_; go_simp; (try go_bits); (try clear qc qf qg q130)
 refine Ln E4 J fun a_5 E5 => ?_; clear J K' E4
 refine Lp fun K' J => op1 (E5.at 131 rfl) fun ρ qc qf qg q131 => ?_; go_simp; (try clear qc qf qg q131)
 refine Ln E5 J fun a_6 E6 => ?_; clear J K' E5
 refine Lp fun K' J => op1 (E6.at 132 rfl) fun ρ qc qf qg q132 => ?_; go_simp; (try clear qc qf qg q132)
 refine late_skip E6 J (fun a_7 E7 => ?_); clear J K'; clear E6
 refine late_done [6] E7 hK (fun a hE => ?_); clear hK K Q' E7; simp only [lk, pick, Nat.reduceEqDiff, ↓reduceIte] at hE
 refine world_cut (fun wt => Below w.heap.size w wt ∧ BadS N P hd ln (updB bs1 3 bb3) wt) ⟨hb.setCell (by simp only; rw [← HG.out]; omega) _, ?_⟩ (fun w1 hC => ?_)
 ·have q := HS.out.setLine 3 4 (.int .i64 1440) bb3 (by omega) (by decide) (fun _ _ _ _ => rfl) rfl
  rw [HG.out] at q
  exact q
 obtain ⟨h1, hS⟩ := hC
 (repeat with_reducible first|refine ctlE ?_|refine miss ?_)
 exact HR.out w w1 h1 hwN hS _ hE
def bs2 : Nat → Bk := updB bs1 3 bb3
set_option maxHeartbeats 4000000 in
theorem known_r13 {hd ln : Nat → Nat} {N P : Nat} (hR : Rest 7 hd ln N P (updB bs2 4 bb4)) : Rest 6 hd ln N P bs2 := by
 intro w V hb hwN hS a hE
 have HR := hid hR
 clear hR
 have hl := hS.l 4 (by omega)
 have cP := (hS.row 31 _ rfl).1
 have nP := hS.lt
 have y := (hl.2.2.2 8 _ rfl).2
 have hNl := hl.1
 obtain ⟨G, hG⟩ : ∃ G, ln 4 = G := ⟨_, rfl⟩
 have HS := hid hS
 have HG := hid hG
 rw [hG] at cP y hl
 have nG := hl.2.1
 clear hS hl hG
 refine wp_seq ?_; (repeat with_reducible first|refine ctl ?_|refine miss ?_)
 refine Rs 7 fun Q' K hK => ?_
 refine Lp fun K' J => op1 (hE.at 6 rfl) fun ρ qc qf qg q6 => ?_; go_simp; (try clear qc qf qg q6)
 refine Ln hE J fun a_1 E1 => ?_; clear J K' hE a
 refine Lp fun K' J => op1 (E1.at 133 rfl) fun ρ qc qf qg q133 => ?_; go_simp; (try go_bits); (try clear qc qf qg q133)
 refine Ln E1 J fun a_2 E2 => ?_; clear J K' E1
 refine Lp fun K' J => op1 (E2.at 134 rfl) fun ρ qc qf qg q134 => ?_; go_simp; (try clear qc qf qg q134)
 refine Ln E2 J fun a_3 E3 => ?_; clear J K' E2
 refine Lp fun K' J => op1 (E3.at 135 rfl) fun ρ qc qf qg q135 => ?_; go_simp; (try clear qc qf qg q135)
 refine Ln E3 J fun a_4 E4 => ?_; clear J K' E3
 refine Lp fun K' J => op1 (E4.at 136 rfl) fun ρ qc qf qg q136 => ?_; go_simp; (try go_bits); (try clear qc qf qg q136)
 refine Ln E4 J fun a_5 E5 => ?_; clear J K' E4
 refine Lp fun K' J => op1 (E5.at 137 rfl) fun ρ qc qf qg q137 => ?_; go_simp; (try clear qc qf qg q137)
 refine Ln E5 J fun a_6 E6 => ?_; clear J K' E5
 refine Lp fun K' J => op1 (E6.at 138 rfl) fun ρ qc qf qg q138 => ?_; go_simp; (try clear qc qf qg q138)
 refine late_skip E6 J (fun a_7 E7 => ?_); clear J K'; clear E6
 refine late_done [6] E7 hK (fun a hE => ?_); clear hK K Q' E7; simp only [lk, pick, Nat.reduceEqDiff, ↓reduceIte] at hE
 refine world_cut (fun wt => Below w.heap.size w wt ∧ BadS N P hd ln (updB bs2 4 bb4) wt) ⟨hb.setCell (by simp only; rw [← HG.out]; omega) _, ?_⟩ (fun w1 hC => ?_)
 ·have q := HS.out.setLine 4 8 (.string ⟨#[]⟩) bb4 (by omega) (by decide) (fun _ _ _ _ => rfl) rfl
  rw [HG.out] at q
  exact q
 obtain ⟨h1, hS⟩ := hC
 (repeat with_reducible first|refine ctlE ?_|refine miss ?_)
 exact HR.out w w1 h1 hwN hS _ hE
def bs3 : Nat → Bk := updB bs2 4 bb4
set_option maxHeartbeats 4000000 in
theorem known_r14 {hd ln : Nat → Nat} {N P : Nat} (hR : Rest 8 hd ln N P (updB bs3 5 bb5)) : Rest 7 hd ln N P bs3 := by
 intro w V hb hwN hS a hE
 have HR := hid hR
 clear hR
 have hl := hS.l 5 (by omega)
 have cP := (hS.row 38 _ rfl).1
 have nP := hS.lt
 have y := (hl.2.2.2 8 _ rfl).2
 have hNl := hl.1
 obtain ⟨G, hG⟩ : ∃ G, ln 5 = G := ⟨_, rfl⟩
 have HS := hid hS
 have HG := hid hG
 rw [hG] at cP y hl
 have nG := hl.2.1
 clear hS hl hG
 refine wp_seq ?_; (repeat with_reducible first|refine ctl ?_|refine miss ?_)
 refine Rs 7 fun Q' K hK => ?_
 refine Lp fun K' J => op1 (hE.at 6 rfl) fun ρ qc qf qg q6 => ?_; go_simp; (try clear qc qf qg q6)
 refine Ln hE J fun a_1 E1 => ?_; clear J K' hE a
 refine Lp fun K' J => op1 (E1.at 139 rfl) fun ρ qc qf qg q139 => ?_; go_simp; (try go_bits); (try clear qc qf qg q139)
 refine Ln E1 J fun a_2 E2 => ?_; clear J K' E1
 refine Lp fun K' J => op1 (E2.at 140 rfl) fun ρ qc qf qg q140 => ?_; go_simp; (try clear qc qf qg q140)
 refine Ln E2 J fun a_3 E3 => ?_; clear J K' E2
 refine Lp fun K' J => op1 (E3.at 141 rfl) fun ρ qc qf qg q141 => ?_; go_simp; (try clear qc qf qg q141)
 refine Ln E3 J fun a_4 E4 => ?_; clear J K' E3
 refine Lp fun K' J => op1 (E4.at 142 rfl) fun ρ qc qf qg q142 => ?_; go_simp; (try go_bits); (try clear qc qf qg q142)
 refine Ln E4 J fun a_5 E5 => ?_; clear J K' E4
 refine Lp fun K' J => op1 (E5.at 143 rfl) fun ρ qc qf qg q143 => ?_; go_simp; (try clear qc qf qg q143)
 refine Ln E5 J fun a_6 E6 => ?_; clear J K' E5
 refine Lp fun K' J => op1 (E6.at 144 rfl) fun ρ qc qf qg q144 => ?_; go_simp; (try clear qc qf qg q144)
 refine late_skip E6 J (fun a_7 E7 => ?_); clear J K'; clear E6
 refine late_done [6] E7 hK (fun a hE => ?_); clear hK K Q' E7; simp only [lk, pick, Nat.reduceEqDiff, ↓reduceIte] at hE
 refine world_cut (fun wt => Below w.heap.size w wt ∧ BadS N P hd ln (updB bs3 5 bb5) wt) ⟨hb.setCell (by simp only; rw [← HG.out]; omega) _, ?_⟩ (fun w1 hC => ?_)
 ·have q := HS.out.setLine 5 8 (.string ⟨#[66, 101, 116, 101, 114]⟩) bb5 (by omega) (by decide) (fun _ _ _ _ => rfl) rfl
  rw [HG.out] at q
  exact q
 obtain ⟨h1, hS⟩ := hC
 (repeat with_reducible first|refine ctlE ?_|refine miss ?_)
 exact HR.out w w1 h1 hwN hS _ hE
def bs4 : Nat → Bk := updB bs3 5 bb5
end Go.Proofs.Ytbimkcjdodgojaa
