/- Name: books whose lines have been compared. -/
import Derived.Test.YtbimkcjdodgojaaGreatKBNah

namespace Go.Proofs.YtbimkcjdodgojaaGreat
set_option linter.unusedSimpArgs false
set_option linter.unusedVariables false
open Go Go.RowKit
attribute [local go_sem high] cell_set_wr
attribute [local go_sem low] cell_wr frozen_wr
attribute [local go_sem] wr_set wr_drew wr_drewN wr_alloc wr_new Rho.c Rho.n Rho.g
/-- a slice, by its number -/
def sl9 (f : Nat → Option Addr × Nat × Nat) (k : Nat) : Value := .slice (f k).1 (f k).2.1 (f k).2.2
/-- nine slices -/
def slcs (ad : Nat → Option Addr) (cp : Nat → Nat) (ls : Nat → List Nat) : List Value := [.slice (ad 0) (ls 0).length (cp 0), .slice (ad 1) (ls 1).length (cp 1), .slice (ad 2) (ls 2).length (cp 2), .slice (ad 3) (ls 3).length (cp 3), .slice (ad 4) (ls 4).length (cp 4), .slice (ad 5) (ls 5).length (cp 5), .slice (ad 6) (ls 6).length (cp 6), .slice (ad 7) (ls 7).length (cp 7), .slice (ad 8) (ls 8).length (cp 8)]
theorem slcs_eq (ad : Nat → Option Addr) (cp : Nat → Nat) (ls : Nat → List Nat) : slcs ad cp ls = (List.range 9).map fun i => .slice (ad i) (ls i).length (cp i) := rfl
def upd {α : Type} (f : Nat → α) (k : Nat) (v : α) : Nat → α := fun i => if i = k then v else f i
theorem slcs_set (ad : Nat → Option Addr) (cp : Nat → Nat) (ls : Nat → List Nat) (k : Nat) (hk : k < 9) (A : Option Addr) (c : Nat) (l : List Nat) : (slcs ad cp ls).set k (.slice A l.length c) = slcs (upd ad k A) (upd cp k c) (upd ls k l) := by
 simp only [slcs_eq]
 refine List.ext_getElem (by simp) fun i h1 h2 => ?_
 rw [List.getElem_set]
 by_cases e : k = i
 ·subst e; simp [upd]
 ·rw [if_neg e]
  have e' : ¬ i = k := fun h => e h.symm
  simp [upd, e']
theorem slcs_at (ad : Nat → Option Addr) (cp : Nat → Nat) (ls : Nat → List Nat) (k : Nat) (hk : k < 9) : (slcs ad cp ls)[k]? = some (.slice (ad k) (ls k).length (cp k)) := by simp [slcs_eq, hk]
/-- nine rows of the call's own, apart from one another and from block C -/
structure Own9 (N C : Nat) (w : World) (ad : Nat → Option Addr) (cp : Nat → Nat) (ls : Nat → List Nat) : Prop where
 own : ∀ k, k < 9 → w.ownsRow N 3 1 (.slice (ad k) (ls k).length (cp k)) (ls k).length (nats (ls k))
 apart : ∀ k k', k < 9 → k' < 9 → k ≠ k' → ∀ g, (ad k).map (·.block) = some g → (ad k').map (·.block) ≠ some g
 other : ∀ k, k < 9 → (ad k).map (·.block) ≠ some C
theorem ownB (a : Option Addr) (n c : Nat) : (Value.slice a n c).ownBlock = a.map (·.block) := by cases a <;> rfl
theorem Own9.below {N C : Nat} {w w' : World} {ad : Nat → Option Addr} {cp : Nat → Nat} {ls : Nat → List Nat} (h : Own9 N C w ad cp ls) (hb : Below w.heap.size w w') : Own9 N C w' ad cp ls := ⟨fun k hk => own_below (h.own k hk) hb, h.apart, h.other⟩
theorem Own9.upd {N C : Nat} {w w' : World} {ad : Nat → Option Addr} {cp : Nat → Nat} {ls : Nat → List Nat} (h : Own9 N C w ad cp ls) (hC : C < w.heap.size) {k : Nat} (hk : k < 9) {A : Option Addr} {c : Nat} {l : List Nat} (hg : w.grownBy w' ((ad k).map (·.block)))
    (hn : ∀ g, A.map (·.block) = some g → (ad k).map (·.block) = some g ∨ w.heap.size ≤ g) (ho : w'.ownsRow N 3 1 (.slice A l.length c) l.length (nats l)) : Own9 N C w' (Go.Proofs.YtbimkcjdodgojaaGreat.upd ad k A) (Go.Proofs.YtbimkcjdodgojaaGreat.upd cp k c) (Go.Proofs.YtbimkcjdodgojaaGreat.upd ls k l) := by
 have old : ∀ i g, i < 9 → (ad i).map (·.block) = some g → g < w.heap.size := fun i g hi hg' => by
  obtain ⟨_, h' | ⟨g', c', cur, hv, _, hh, _⟩⟩ := h.own i hi
  ·rw [Value.slice.injEq] at h'
   rw [h'.1.1] at hg'; cases hg'
  ·rw [Value.slice.injEq] at hv
   rw [hv.1] at hg'
   cases hg'
   exact (Array.getElem?_eq_some_iff.1 hh).1
 refine ⟨fun i hi => ?_, fun i j hi hj hij g h1 h2 => ?_, fun i hi h1 => ?_⟩
 ·unfold Go.Proofs.YtbimkcjdodgojaaGreat.upd
  by_cases e : i = k
  ·simp only [if_pos e]; exact ho
  ·simp only [if_neg e]
   refine (h.own i hi).kept hg ?_
   rw [ownB]
   cases hb : (ad i).map (·.block) with
   | none => exact .inl rfl
   | some g => exact .inr fun e' => h.apart i k hi hk e g hb e'.symm
 ·unfold Go.Proofs.YtbimkcjdodgojaaGreat.upd at h1 h2
  by_cases e1 : i = k
  ·rw [if_pos e1] at h1
   by_cases e2 : j = k
   ·exact hij (e1.trans e2.symm)
   ·rw [if_neg e2] at h2
    rcases hn g h1 with h3 | h3
    ·exact h.apart k j hk hj (fun e => e2 e.symm) g h3 h2
    ·have := old j g hj h2; omega
  ·rw [if_neg e1] at h1
   by_cases e2 : j = k
   ·rw [if_pos e2] at h2
    rcases hn g h2 with h3 | h3
    ·exact h.apart i k hi hk e1 g h1 h3
    ·have := old i g hi h1; omega
   ·rw [if_neg e2] at h2
    exact h.apart i j hi hj hij g h1 h2
 ·unfold Go.Proofs.YtbimkcjdodgojaaGreat.upd at h1
  by_cases e1 : i = k
  ·rw [if_pos e1] at h1
   rcases hn C h1 with h3 | h3
   ·exact h.other k hk h3
   ·omega
  ·rw [if_neg e1] at h1
   exact h.other i hi h1
theorem Own9.low {N C : Nat} {w : World} {ad : Nat → Option Addr} {cp : Nat → Nat} {ls : Nat → List Nat} (h : Own9 N C w ad cp ls) {k : Nat} (hk : k < 9) {g : Nat} (hg : (ad k).map (·.block) = some g) : N ≤ g ∧ g < w.heap.size := by
 obtain ⟨_, h' | ⟨g', c', cur, hv, hN, hh, _⟩⟩ := h.own k hk
 ·rw [Value.slice.injEq] at h'
  rw [h'.1.1] at hg; cases hg
 ·rw [Value.slice.injEq] at hv
  rw [hv.1] at hg
  cases hg
  exact ⟨hN, (Array.getElem?_eq_some_iff.1 hh).1⟩
theorem Own9.set {N C : Nat} {w : World} {ad : Nat → Option Addr} {cp : Nat → Nat} {ls : Nat → List Nat} (h : Own9 N C w ad cp ls) (b o : Nat) (v : Value) (hb : b < N) : Own9 N C (w.setCell ⟨b, o, none⟩ v) ad cp ls := ⟨fun i hi => by
 refine (h.own i hi).kept (row := some b) ⟨rfl, rfl, rfl, by simp, fun k hk hne => Below.heap_setCell _ _ _ _ (fun e => hne (by rw [e]))⟩ ?_
 rw [ownB]
 cases hg : (ad i).map (·.block) with
 | none => exact .inl rfl
 | some g => exact .inr fun e' => by have := (h.low hi hg).1; cases e'; omega, h.apart, h.other⟩
theorem Own9.off {N C C' : Nat} {w : World} {ad : Nat → Option Addr} {cp : Nat → Nat} {ls : Nat → List Nat} (h : Own9 N C w ad cp ls) (hc : C' < N ∨ w.heap.size ≤ C') : Own9 N C' w ad cp ls := ⟨h.own, h.apart, fun k hk e => by have := h.low hk e; omega⟩
theorem Own9.nil (N C : Nat) (w : World) : Own9 N C w (fun _ => none) (fun _ => 0) (fun _ => []) := ⟨fun k hk => own_nil w N _ 1, fun _ _ _ _ _ g h => (by cases h), fun _ _ h => (by cases h)⟩
/-- the lists behind i lines, and j of the next one's -/
def canIJ (b : Bk) (i o : Nat) : Bool := (b.lines.getD i zeroLn).book == 0 && canL b (b.lines.getD i zeroLn) (b.lines.getD o zeroLn)
def lsAt (b : Bk) (i j : Nat) : Nat → List Nat := fun k => if k < i then couldP b k else if k = i then (List.range j).filter (canIJ b i) else []
theorem lsAt_zero (b : Bk) : lsAt b 0 0 = fun _ => [] := by
 funext k
 unfold lsAt
 rw [if_neg (Nat.not_lt_zero k)]
 split <;> rfl
theorem lsAt_next (b : Bk) (i : Nat) : lsAt b i b.lines.length = lsAt b (i + 1) 0 := by
 funext k
 unfold lsAt
 by_cases h1 : k < i
 ·rw [if_pos h1, if_pos (by omega)]
 ·rw [if_neg h1]
  by_cases h2 : k = i
  ·rw [if_pos h2, if_pos (by omega), h2]; rfl
  ·rw [if_neg h2, if_neg (by omega)]
   split <;> rfl
theorem lsAt_no (b : Bk) (i j : Nat) (h : canIJ b i j = false) : lsAt b i (j + 1) = lsAt b i j := by
 funext k
 unfold lsAt
 rw [List.range_succ, List.filter_append]
 simp [h]
theorem lsAt_yes (b : Bk) (i j : Nat) (h : canIJ b i j = true) : lsAt b i (j + 1) = upd (lsAt b i j) i (lsAt b i j i ++ [j]) := by
 funext k
 unfold upd lsAt
 by_cases h2 : k = i
 ·subst h2
  rw [if_neg (Nat.lt_irrefl _), if_pos rfl, if_pos rfl, if_neg (Nat.lt_irrefl _), if_pos rfl, List.range_succ, List.filter_append]
  simp [h]
 ·rw [if_neg h2]
  split <;> rfl
theorem lsAt_len (b : Bk) (i j k : Nat) (hj : j ≤ b.lines.length) : (lsAt b i j k).length ≤ b.lines.length := by
 unfold lsAt
 split
 ·unfold couldP; exact Nat.le_trans (List.length_filter_le _ _) (by simp)
 ·split
  ·exact Nat.le_trans (List.length_filter_le _ _) (by simpa using hj)
  ·simp
/-- the state of the books while they are compared -/
def CmpS (A : Option Addr) (cap : Nat) (L : Option Addr) (lcap : Nat) (b : Bk) (C R : Nat) (w : World) (F i j : Nat) (w' : World) : Prop :=
 ∃ ad cp, (C < w'.heap.size ∧ Row w' C (bkV A cap L lcap b ++ slcs ad cp (lsAt b i j))) ∧ Own9 (C + 1) F w' ad cp (lsAt b i j) ∧ (R < w'.heap.size ∧ ∃ zs : List Value, zs.length = 16 ∧ Row w' R zs) ∧ Below w.heap.size w w'
theorem CmpS.next {A : Option Addr} {cap : Nat} {L : Option Addr} {lcap : Nat} {b : Bk} {C R F : Nat} {w : World} {i : Nat} {w' : World} (h : CmpS A cap L lcap b C R w F i b.lines.length w') : CmpS A cap L lcap b C R w C (i + 1) 0 w' := by
 obtain ⟨ad, cp, h1, h2, h3⟩ := h
 rw [lsAt_next] at h1 h2
 exact ⟨ad, cp, h1, h2.off (.inl (by omega)), h3⟩
theorem CmpS.below {A : Option Addr} {cap : Nat} {L : Option Addr} {lcap : Nat} {b : Bk} {C R F : Nat} {w : World} {i j : Nat} {w' w'' : World} (h : CmpS A cap L lcap b C R w F i j w') (hb : Below w'.heap.size w' w'') : CmpS A cap L lcap b C R w F i j w'' := by
 obtain ⟨ad, cp, ⟨h1, h2⟩, h3, ⟨h4, zs, h5, h6⟩, h7⟩ := h
 exact ⟨ad, cp, ⟨Nat.lt_of_lt_of_le h1 hb.size, h2.below hb h1⟩, h3.below hb, ⟨Nat.lt_of_lt_of_le h4 hb.size, zs, h5, h6.below hb h4⟩, h7.trans (hb.mono h7.size)⟩
theorem CmpS.off {A : Option Addr} {cap : Nat} {L : Option Addr} {lcap : Nat} {b : Bk} {C R F F' : Nat} {w : World} {i j : Nat} {w' : World} (h : CmpS A cap L lcap b C R w F i j w') (hF : w'.heap.size ≤ F') : CmpS A cap L lcap b C R w F' i j w' := by
 obtain ⟨ad, cp, h1, h2, h3⟩ := h
 exact ⟨ad, cp, h1, h2.off (.inr hF), h3⟩
theorem could_of_own {N C : Nat} {w : World} {ad : Nat → Option Addr} {cp : Nat → Nat} {b : Bk} {n0 : Nat} (h9 : b.lines.length ≤ 9) (hN : n0 ≤ N) (h : Own9 N C w ad cp (lsAt b b.lines.length 0)) : CouldAt b (.slice (ad 0) (lsAt b b.lines.length 0 0).length (cp 0)) (.slice (ad 1) (lsAt b b.lines.length 0 1).length (cp 1)) (.slice (ad 2) (lsAt b b.lines.length 0 2).length (cp 2)) (.slice (ad 3) (lsAt b b.lines.length 0 3).length (cp 3)) (.slice (ad 4) (lsAt b b.lines.length 0 4).length (cp 4)) (.slice (ad 5) (lsAt b b.lines.length 0 5).length (cp 5)) (.slice (ad 6) (lsAt b b.lines.length 0 6).length (cp 6)) (.slice (ad 7) (lsAt b b.lines.length 0 7).length (cp 7)) (.slice (ad 8) (lsAt b b.lines.length 0 8).length (cp 8)) (fun k => k < n0) w (couldsP b) := fun k hk => by
 obtain ⟨ls, e1, e2⟩ : ∃ ls, (couldsP b).getD k [] = ls ∧ lsAt b b.lines.length 0 k = ls := by
  by_cases hkn : k < b.lines.length
  ·exact ⟨couldP b k, by simp [couldsP, List.getD_eq_getElem?_getD, hkn], by unfold lsAt; rw [if_pos hkn]⟩
  ·refine ⟨[], by simp [couldsP, List.getD_eq_getElem?_getD, hkn], ?_⟩
   unfold lsAt
   rw [if_neg hkn]
   split <;> rfl
 have ho := h.own k (by omega)
 rw [e2] at ho
 obtain ⟨A', c, hv, _, _, ha⟩ := own_form ho
 rw [Value.slice.injEq] at hv
 obtain ⟨rfl, _, rfl⟩ := hv
 rw [e1]
 refine ⟨ad k, cp k, ?_, fun hx => ?_⟩
 ·have := slcs_at ad cp (lsAt b b.lines.length 0) k (by omega)
  rw [e2] at this
  exact this
 ·obtain ⟨b0, o0, e, q1, q2⟩ := ha hx
  have hlo := (h.low (show k < 9 by omega) (g := b0) (by rw [e]; rfl)).1
  exact ⟨b0, o0, e, q1, fun h => by omega, by omega, q2⟩
section
variable (A : Option Addr) (cap : Nat) (L : Option Addr) (lcap : Nat) (b : Bk)
set_option maxRecDepth 100000 in
set_option maxHeartbeats 4000000 in
theorem compared_end (w : World) (h9 : b.lines.length ≤ 9) (C R : Nat) (hRlC : R < C) (hnR : w.heap.size ≤ R) (wr : World) (a : Act) (hE : Fits 45 [(2, .pointer (some ⟨R, 0, none⟩)), (3, .pointer (some ⟨C, 0, none⟩))] a) (hS : CmpS A cap L lcap b C R w C b.lines.length 0 wr) :
    (cr 3 (bodyOf Tryz.f40)).wp Tryz.prog (bodyPost Tryz.prog Tryz.f40 fun e w' => (∃ f, e = .returned (.agg (bksV A cap L lcap b (sl9 f 0) (sl9 f 1) (sl9 f 2) (sl9 f 3) (sl9 f 4) (sl9 f 5) (sl9 f 6) (sl9 f 7) (sl9 f 8)).toArray) ∧ CouldAt b (sl9 f 0) (sl9 f 1) (sl9 f 2) (sl9 f 3) (sl9 f 4) (sl9 f 5) (sl9 f 6) (sl9 f 7) (sl9 f 8) (fun k => k < w.heap.size) w' (couldsP b)) ∧ Below w.heap.size w w') a wr := by
 obtain ⟨ad, cp, ⟨hC1, hRC⟩, hO, ⟨hR1, zs, hz, hRR⟩, hN⟩ := hS
 have hCC := row_cells hRC hC1
 simp only [bkV, slcs, List.cons_append, List.nil_append] at hCC
 have nC := hCC.1; have cC0 := hCC.2 0 _ rfl; have cC1 := hCC.2 1 _ rfl; have cC2 := hCC.2 2 _ rfl; have cC3 := hCC.2 3 _ rfl; have cC4 := hCC.2 4 _ rfl; have cC5 := hCC.2 5 _ rfl; have cC6 := hCC.2 6 _ rfl; have cC7 := hCC.2 7 _ rfl; have cC8 := hCC.2 8 _ rfl; have cC9 := hCC.2 9 _ rfl; have cC10 := hCC.2 10 _ rfl; have cC11 := hCC.2 11 _ rfl; have cC12 := hCC.2 12 _ rfl; have cC13 := hCC.2 13 _ rfl; have cC14 := hCC.2 14 _ rfl; have cC15 := hCC.2 15 _ rfl
 obtain ⟨z0, z1, z2, z3, z4, z5, z6, z7, z8, z9, z10, z11, z12, z13, z14, z15, rfl⟩ : ∃ z0 z1 z2 z3 z4 z5 z6 z7 z8 z9 z10 z11 z12 z13 z14 z15, zs = [z0, z1, z2, z3, z4, z5, z6, z7, z8, z9, z10, z11, z12, z13, z14, z15] := by
  match zs, hz with
  | [z0, z1, z2, z3, z4, z5, z6, z7, z8, z9, z10, z11, z12, z13, z14, z15], _ => exact ⟨_, _, _, _, _, _, _, _, _, _, _, _, _, _, _, _, rfl⟩
 have HA := hid hO
 have HR := hid (hRR)
 have y0 := (hRR 0 _ rfl).2
 have y1 := (hRR 1 _ rfl).2
 have y2 := (hRR 2 _ rfl).2
 have y3 := (hRR 3 _ rfl).2
 have y4 := (hRR 4 _ rfl).2
 have y5 := (hRR 5 _ rfl).2
 have y6 := (hRR 6 _ rfl).2
 have y7 := (hRR 7 _ rfl).2
 have y8 := (hRR 8 _ rfl).2
 have y9 := (hRR 9 _ rfl).2
 have y10 := (hRR 10 _ rfl).2
 have y11 := (hRR 11 _ rfl).2
 have y12 := (hRR 12 _ rfl).2
 have y13 := (hRR 13 _ rfl).2
 have y14 := (hRR 14 _ rfl).2
 have y15 := (hRR 15 _ rfl).2
 refine wp_seq ?_; refine Ks ?_
 refine Rs 2 fun Q' K hK => ?_
 refine M1 hE 3 fun K' J ρ q3 => ?_; go_simp
 refine Ln hE J fun _ Eb => ?_; clear J K' hE a q3
 refine M2 Eb 2 44 fun K' J ρ q2 q44 => ?_; go_simp; (try clear q2 q44)
 refine late_skip Eb J (fun _ Ea => ?_); clear J K'; clear Eb
 refine Ld [2] Ea hK fun a hE => ?_; clear hK K Q' Ea
 refine world_cut (fun wt => Below w.heap.size w wt ∧ Cells wt R [.slice A b.ear.alike.length cap, .string b.ear.mute, .int .i64 b.ear.slips, .slice L b.lines.length lcap, .int .i64 b.lo, .int .i64 b.hi, .int .i64 b.lost, .slice (ad 0) (lsAt b b.lines.length 0 0).length (cp 0), .slice (ad 1) (lsAt b b.lines.length 0 1).length (cp 1), .slice (ad 2) (lsAt b b.lines.length 0 2).length (cp 2), .slice (ad 3) (lsAt b b.lines.length 0 3).length (cp 3), .slice (ad 4) (lsAt b b.lines.length 0 4).length (cp 4), .slice (ad 5) (lsAt b b.lines.length 0 5).length (cp 5), .slice (ad 6) (lsAt b b.lines.length 0 6).length (cp 6), .slice (ad 7) (lsAt b b.lines.length 0 7).length (cp 7), .slice (ad 8) (lsAt b b.lines.length 0 8).length (cp 8)] ∧ CouldAt b (.slice (ad 0) (lsAt b b.lines.length 0 0).length (cp 0)) (.slice (ad 1) (lsAt b b.lines.length 0 1).length (cp 1)) (.slice (ad 2) (lsAt b b.lines.length 0 2).length (cp 2)) (.slice (ad 3) (lsAt b b.lines.length 0 3).length (cp 3)) (.slice (ad 4) (lsAt b b.lines.length 0 4).length (cp 4)) (.slice (ad 5) (lsAt b b.lines.length 0 5).length (cp 5)) (.slice (ad 6) (lsAt b b.lines.length 0 6).length (cp 6)) (.slice (ad 7) (lsAt b b.lines.length 0 7).length (cp 7)) (.slice (ad 8) (lsAt b b.lines.length 0 8).length (cp 8)) (fun k => k < w.heap.size) wt (couldsP b)) ⟨((((((((((((((((hN.setCell hnR _).setCell hnR _).setCell hnR _).setCell hnR _).setCell hnR _).setCell hnR _).setCell hnR _).setCell hnR _).setCell hnR _).setCell hnR _).setCell hnR _).setCell hnR _).setCell hnR _).setCell hnR _).setCell hnR _).setCell hnR _), row_cells ((((((((((((((((hRR.set (o := 0) (by simp)).set (o := 1) (by simp)).set (o := 2) (by simp)).set (o := 3) (by simp)).set (o := 4) (by simp)).set (o := 5) (by simp)).set (o := 6) (by simp)).set (o := 7) (by simp)).set (o := 8) (by simp)).set (o := 9) (by simp)).set (o := 10) (by simp)).set (o := 11) (by simp)).set (o := 12) (by simp)).set (o := 13) (by simp)).set (o := 14) (by simp)).set (o := 15) (by simp)) (by simp; omega), ?_⟩ (fun w3 hC => ?_)
 ·exact could_of_own h9 (by omega) ((((((((((((((((HA.out.set R 0 _ (by omega)).set R 1 _ (by omega)).set R 2 _ (by omega)).set R 3 _ (by omega)).set R 4 _ (by omega)).set R 5 _ (by omega)).set R 6 _ (by omega)).set R 7 _ (by omega)).set R 8 _ (by omega)).set R 9 _ (by omega)).set R 10 _ (by omega)).set R 11 _ (by omega)).set R 12 _ (by omega)).set R 13 _ (by omega)).set R 14 _ (by omega)).set R 15 _ (by omega))
 obtain ⟨hB3, hCR, hCU⟩ := hC
 clear y0 y1 y2 y3 y4 y5 y6 y7 y8 y9 y10 y11 y12 y13 y14 y15 nC cC0 cC1 cC2 cC3 cC4 cC5 cC6 cC7 cC8 cC9 cC10 cC11 cC12 cC13 cC14 cC15
 have nR := hCR.1; have cR0 := hCR.2 0 _ rfl; have cR1 := hCR.2 1 _ rfl; have cR2 := hCR.2 2 _ rfl; have cR3 := hCR.2 3 _ rfl; have cR4 := hCR.2 4 _ rfl; have cR5 := hCR.2 5 _ rfl; have cR6 := hCR.2 6 _ rfl; have cR7 := hCR.2 7 _ rfl; have cR8 := hCR.2 8 _ rfl; have cR9 := hCR.2 9 _ rfl; have cR10 := hCR.2 10 _ rfl; have cR11 := hCR.2 11 _ rfl; have cR12 := hCR.2 12 _ rfl; have cR13 := hCR.2 13 _ rfl; have cR14 := hCR.2 14 _ rfl; have cR15 := hCR.2 15 _ rfl
 refine Ks ?_
 have g := hE.at 2 rfl
 exact bodyPost_ret (v := .agg #[.slice A b.ear.alike.length cap, .string b.ear.mute, .int .i64 b.ear.slips, .slice L b.lines.length lcap, .int .i64 b.lo, .int .i64 b.hi, .int .i64 b.lost, .slice (ad 0) (lsAt b b.lines.length 0 0).length (cp 0), .slice (ad 1) (lsAt b b.lines.length 0 1).length (cp 1), .slice (ad 2) (lsAt b b.lines.length 0 2).length (cp 2), .slice (ad 3) (lsAt b b.lines.length 0 3).length (cp 3), .slice (ad 4) (lsAt b b.lines.length 0 4).length (cp 4), .slice (ad 5) (lsAt b b.lines.length 0 5).length (cp 5), .slice (ad 6) (lsAt b b.lines.length 0 6).length (cp 6), .slice (ad 7) (lsAt b b.lines.length 0 7).length (cp 7), .slice (ad 8) (lsAt b b.lines.length 0 8).length (cp 8)]) (by simp [results, Tryz.results40, go_sem, g, cR0, cR1, cR2, cR3, cR4, cR5, cR6, cR7, cR8, cR9, cR10, cR11, cR12, cR13, cR14, cR15]) hE.1 ⟨⟨fun k => (ad k, (lsAt b b.lines.length 0 k).length, cp k), rfl, hCU⟩, hB3⟩
set_option maxRecDepth 100000 in
set_option maxHeartbeats 8000000 in
theorem compared_any (w : World) (hM : BkAt w A L b) (hs : b.small cap lcap) (h9 : b.lines.length ≤ 9) (hm : ∀ i (h : i < b.lines.length), 0 ≤ b.lines[i].minute ∧ b.lines[i].minute ≤ 1439) : Calls Tryz.prog 40 #[.agg (bkV A cap L lcap b).toArray] w fun e w' =>
    (∃ f, e = .returned (.agg (bksV A cap L lcap b (sl9 f 0) (sl9 f 1) (sl9 f 2) (sl9 f 3) (sl9 f 4) (sl9 f 5) (sl9 f 6) (sl9 f 7) (sl9 f 8)).toArray) ∧ CouldAt b (sl9 f 0) (sl9 f 1) (sl9 f 2) (sl9 f 3) (sl9 f 4) (sl9 f 5) (sl9 f 6) (sl9 f 7) (sl9 f 8) (fun k => k < w.heap.size) w' (couldsP b)) ∧ Below w.heap.size w w' := by
 have hll := hs.2.2.1
 simp only [bkV]
 refine enterE Tryz.func40 rfl Tryz.ntmps40 (by simp) (fun a hE => ?_); simp only [envOf, Nat.zero_add, Nat.reduceAdd] at hE
 refine Ks ?_
 refine Rs 2 fun Q' K hK => ?_
 refine M1 hE 0 fun K' J ρ q0 => ?_; go_simp
 refine Ln hE J fun _ Eb => ?_; clear J K' hE a q0
 refine M0 fun K' J ρ => ?_; go_simp;
 refine Ln Eb J fun _ Ea => ?_; clear J K' Eb
 refine Ld [1, 2] Ea hK fun a hE => ?_; clear hK K Q' Ea
 obtain ⟨B, hB⟩ : ∃ B, B = w.heap.size := ⟨_, rfl⟩
 obtain ⟨R, hR⟩ : ∃ B, B = w.heap.size + 1 := ⟨_, rfl⟩
 rw [← hR, ← hB] at hE
 refine world_cut (fun wt => Below w.heap.size w wt ∧ Cells wt B (bkV A cap L lcap b) ∧ R < wt.heap.size ∧ ∃ zs : List Value, zs.length = 16 ∧ Row wt R zs) ?_ (fun w1 hC => ?_)
 ·rw [hB, hR]
  obtain ⟨q1, q2, q3, q4⟩ := box_row w _ _ _ _
  exact ⟨q1, q2, q3, _, rfl, q4⟩
 obtain ⟨hb1, hCB, hlR, hRR⟩ := hC
 have hnR : w.heap.size ≤ R := by omega
 have hBR : B < R := by omega
 clear hB hR
 simp only [bkV] at hCB
 obtain ⟨nB, cB0, cB1, cB2, cB3, cB4, cB5, cB6⟩ := hCB.c7
 refine Ks ?_
 refine Rs 4 fun Q' K hK => ?_
 refine M1 hE 1 fun K' J ρ q1 => ?_; go_simp
 refine Ln hE J fun _ Eb => ?_; clear J K' hE a q1
 refine M1 Eb 7 fun K' J ρ q7 => ?_; go_simp
 refine Ln Eb J fun _ Ea => ?_; clear J K' Eb q7
 refine M0 fun K' J ρ => ?_; go_simp;
 refine Ln Ea J fun _ Eb => ?_; clear J K' Ea
 refine M2 Eb 3 8 fun K' J ρ q3 q8 => ?_; go_simp; (try clear q3 q8)
 refine late_skip Eb J (fun _ Ea => ?_); clear J K'; clear Eb
 refine Ld [1, 2, 3] Ea hK fun a hE => ?_; clear hK K Q' Ea
 obtain ⟨C, hCe⟩ : ∃ B, B = w1.heap.size := ⟨_, rfl⟩; have hnC : w1.heap.size ≤ C := Nat.le_of_eq hCe.symm; rw [← hCe] at hE; refine world_cut (fun wt => Below w1.heap.size w1 wt ∧ C < wt.heap.size ∧ Row wt C (bkV A cap L lcap b ++ slcs (fun _ => none) (fun _ => 0) (fun _ => []))) ⟨(Below.refl _ _).alloc (Nat.le_refl _) _, by rw [hCe]; simp, by rw [hCe]; exact row_new _ _ _⟩ (fun w2 hCut => ?_); obtain ⟨hbw2, hlC, hRC⟩ := hCut; clear hCe
 have hs1 := hb1.size
 have hnC' : w.heap.size ≤ C := by omega
 have hRlC : R < C := by omega
 have hBC : B < C := by omega
 have hCS : CmpS A cap L lcap b C R w C 0 0 w2 := by
  refine ⟨fun _ => none, fun _ => 0, ?_, ?_, ?_, hb1.trans (hbw2.mono hs1)⟩
  ·rw [lsAt_zero]; exact ⟨hlC, hRC⟩
  ·rw [lsAt_zero]; exact Own9.nil _ _ _
  ·obtain ⟨zs, h1, h2⟩ := hRR
   exact ⟨Nat.lt_of_lt_of_le hlR hbw2.size, zs, h1, h2.below hbw2 hlR⟩
 have hB2 := hb1.trans (hbw2.mono hs1)
 replace hCB := hCB.below hbw2
 have hs2 := hbw2.size
 clear nB cB0 cB1 cB2 cB3 cB4 cB5 cB6 hRR hRC hbw2 hnC
 obtain ⟨nB, cB0, cB1, cB2, cB3, cB4, cB5, cB6⟩ := hCB.c7
 refine Ks ?_
 refine Rs 4 fun Q' K hK => ?_
 refine M1 hE 1 fun K' J ρ q1 => ?_; go_simp
 refine Ln hE J fun _ Eb => ?_; clear J K' hE a q1
 refine M1 Eb 9 fun K' J ρ q9 => ?_; go_simp
 refine Ln Eb J fun _ Ea => ?_; clear J K' Eb q9
 refine M1 Ea 10 fun K' J ρ q10 => ?_; go_simp; (try go_bits)
 refine Ln Ea J fun _ Eb => ?_; clear J K' Ea q10
 refine M0 fun K' J ρ => ?_; go_simp;
 refine Ln Eb J fun _ Ea => ?_; clear J K' Eb
 refine Ld [1, 2, 3, 10, 11, 12] Ea hK fun a hE => ?_; clear hK K Q' Ea
 refine Ks ?_
 refine loop_st (fun (i : Nat) a w' => i ≤ b.lines.length ∧ Fits 45 [(1, .pointer (some ⟨B, 0, none⟩)), (2, .pointer (some ⟨R, 0, none⟩)), (3, .pointer (some ⟨C, 0, none⟩)), (10, .slice L b.lines.length lcap), (11, .int .i64 b.lines.length), (12, .int .i64 i)] a ∧ CmpS A cap L lcap b C R w C i 0 w' ∧ (B < w'.heap.size ∧ w'.cell? ⟨B, 3, none⟩ = some (.slice L b.lines.length lcap))) (fun i => b.lines.length - i) 0 ?_ (fun i a w' hI => ?_)
 ·exact ⟨Nat.zero_le _, by simpa using hE, hCS, nB, cB3⟩
 clear hE hCS nB cB0 cB1 cB2 cB3 cB4 cB5 cB6 hCB hb1 hlR hs1 hs2 hB2 hlC
 obtain ⟨hi, hE, hS, hBl3⟩ := hI
 obtain ⟨wr, hwr⟩ : ∃ x, x = w' := ⟨_, rfl⟩
 subst hwr
 refine Ks ?_
 refine Rs 1 fun Q' K hK => ?_
 refine M2 hE 12 11 fun K' J ρ q12 q11 => ?_; go_simp; (try go_bits)
 refine Ln hE J fun _ Eb => ?_; clear J K' hE a q12 q11
 refine Ld [1, 2, 3, 10, 11, 12, 13] Eb hK fun a hE => ?_; clear hK K Q' Eb
 refine Ks ?_
 refine cond_part hE (t := 13) rfl (fun h => ?_) (fun h => ?_)
 ·have hlt : i < b.lines.length := by have := of_decide_eq_true h; omega
  clear h
  have hltI : (i : Int) < b.lines.length := by omega
  have hi9 : (i : Int) < 9 := by omega
  have hWb : Below w.heap.size w wr := by obtain ⟨_, _, _, _, _, h⟩ := hS; exact h
  obtain ⟨bx, ox, hLe, hbx, x0, x1, x2⟩ := (hM.2.below hWb).nl hlt
  obtain ⟨X, hX⟩ : ∃ X, b.lines[i] = X := ⟨_, rfl⟩
  rw [hX] at x0 x1 x2
  have HX := hid hX
  clear hX
  subst hLe
  have hbxr : bx < wr.heap.size := Nat.lt_of_lt_of_le hbx hWb.size
  refine Ks ?_
  refine Rs 6 fun Q' K hK => ?_
  refine M1 hE 12 fun K' J ρ q12 => ?_; go_simp
  refine Ln hE J fun _ Eb => ?_; clear J K' hE a q12
  refine M2 Eb 10 12 fun K' J ρ q10 q12 => ?_; go_simp; (try go_bits)
  refine Ln Eb J fun _ Ea => ?_; clear J K' Eb q10 q12
  refine M1 Ea 15 fun K' J ρ q15 => ?_; go_simp
  refine Ln Ea J fun _ Eb => ?_; clear J K' Ea q15
  refine M0 fun K' J ρ => ?_; go_simp;
  refine Ln Eb J fun _ Ea => ?_; clear J K' Eb
  refine M1 Ea 14 fun K' J ρ q14 => ?_; go_simp
  refine Ln Ea J fun _ Eb => ?_; clear J K' Ea q14
  refine M2 Eb 5 16 fun K' J ρ q5 q16 => ?_; go_simp; (try clear q5 q16)
  refine late_skip Eb J (fun _ Ea => ?_); clear J K'; clear Eb
  refine Ld [1, 2, 3, 4, 5, 10, 11, 12] Ea hK fun a hE => ?_; clear hK K Q' Ea
  obtain ⟨F, hFe⟩ : ∃ B, B = wr.heap.size := ⟨_, rfl⟩; have hnF : wr.heap.size ≤ F := Nat.le_of_eq hFe.symm; rw [← hFe] at hE; refine world_cut (fun wt => Below wr.heap.size wr wt ∧ F < wt.heap.size ∧ Row wt F [.int .i64 X.book, .int .i64 X.minute, .string X.heard]) ⟨(Below.refl _ _).alloc (Nat.le_refl _) _, by rw [hFe]; simp, by rw [hFe]; exact row_new _ _ _⟩ (fun wf hCut => ?_); obtain ⟨hbwf, hlF, hRF⟩ := hCut; clear hFe
  have hCF := row_cells hRF hlF
  have hSf := (hS.off (F' := F) hnF).below hbwf
  have hBf : B < wf.heap.size ∧ wf.cell? ⟨B, 3, none⟩ = some (.slice (some ⟨bx, ox, none⟩) b.lines.length lcap) := ⟨Nat.lt_of_lt_of_le hBl3.1 hbwf.size, (hbwf.cell (p := ⟨B, 3, none⟩) hBl3.1).trans hBl3.2⟩
  have cB3 := hBf.2
  clear x0 x1 x2 hbxr hS hbx
  refine Ks ?_
  refine Rs 4 fun Q' K hK => ?_
  refine M1 hE 1 fun K' J ρ q1 => ?_; go_simp
  refine Ln hE J fun _ Eb => ?_; clear J K' hE a q1
  refine M1 Eb 17 fun K' J ρ q17 => ?_; go_simp
  refine Ln Eb J fun _ Ea => ?_; clear J K' Eb q17
  refine M1 Ea 18 fun K' J ρ q18 => ?_; go_simp; (try go_bits)
  refine Ln Ea J fun _ Eb => ?_; clear J K' Ea q18
  refine M0 fun K' J ρ => ?_; go_simp;
  refine Ln Eb J fun _ Ea => ?_; clear J K' Eb
  refine Ld [1, 2, 3, 4, 5, 10, 11, 12, 19, 20] Ea hK fun a hE => ?_; clear hK K Q' Ea
  refine Ks ?_
  have hWf := hWb.trans (hbwf.mono hWb.size)
  clear cB3 hbwf hBl3
  refine loop_st (fun (j : Nat) a w' => j ≤ b.lines.length ∧ Fits 45 [(1, .pointer (some ⟨B, 0, none⟩)), (2, .pointer (some ⟨R, 0, none⟩)), (3, .pointer (some ⟨C, 0, none⟩)), (4, .int .i64 i), (5, .pointer (some ⟨F, 0, none⟩)), (10, .slice (some ⟨bx, ox, none⟩) b.lines.length lcap), (11, .int .i64 b.lines.length), (12, .int .i64 i), (19, .int .i64 b.lines.length), (20, .int .i64 j)] a ∧ CmpS A cap (some ⟨bx, ox, none⟩) lcap b C R w F i j w' ∧ (B < w'.heap.size ∧ w'.cell? ⟨B, 3, none⟩ = some (.slice (some ⟨bx, ox, none⟩) b.lines.length lcap)) ∧ (F < w'.heap.size ∧ w'.cell? ⟨F, 0, none⟩ = some (.int .i64 X.book)) ∧ F ≠ C) (fun j => b.lines.length - j) 0 ?_ (fun j a w' hI => ?_)
  ·refine ⟨Nat.zero_le _, by simpa using hE, hSf, hBf, ⟨hCF.1, hCF.2 0 _ rfl⟩, ?_⟩
   rintro rfl
   obtain ⟨_, _, ⟨h1, h2⟩, _⟩ := hSf
   have e1 := (h2 0 _ rfl).1
   have e2 := hCF.2 0 _ rfl
   rw [e1] at e2; cases e2
  clear hE hSf hBf hCF
  obtain ⟨hj, hE, hS, hB3, ⟨hF1, cF0⟩, hFC⟩ := hI
  obtain ⟨wi, hwi⟩ : ∃ x, x = w' := ⟨_, rfl⟩
  subst hwi
  refine Ks ?_
  refine Rs 1 fun Q' K hK => ?_
  refine M2 hE 20 19 fun K' J ρ q20 q19 => ?_; go_simp; (try go_bits)
  refine Ln hE J fun _ Eb => ?_; clear J K' hE a q20 q19
  refine Ld [1, 2, 3, 4, 5, 10, 11, 12, 19, 20, 21] Eb hK fun a hE => ?_; clear hK K Q' Eb
  refine Ks ?_
  refine cond_part hE (t := 21) rfl (fun h => ?_) (fun h => ?_)
  ·have hjt : j < b.lines.length := by have := of_decide_eq_true h; omega
   clear h
   have hjtI : (j : Int) < b.lines.length := by omega
   have hWi : Below w.heap.size w wi := by obtain ⟨_, _, _, _, _, h⟩ := hS; exact h
   have hcij : canIJ b i j = ((X.book == 0) && canL b b.lines[i] b.lines[j]) := by
    unfold canIJ
    simp [List.getD_eq_getElem?_getD, hlt, hjt, HX.out]
   have HC := hid hcij
   clear hcij
   refine Ks ?_
   refine Rs 2 fun Q' K hK => ?_
   refine M1 hE 20 fun K' J ρ q20 => ?_; go_simp
   refine Ln hE J fun _ Eb => ?_; clear J K' hE a q20
   refine M1 Eb 22 fun K' J ρ q22 => ?_; go_simp
   refine Ln Eb J fun _ Ea => ?_; clear J K' Eb q22
   refine Ld [1, 2, 3, 4, 5, 6, 10, 11, 12, 19, 20] Ea hK fun a hE => ?_; clear hK K Q' Ea
   refine Ks ?_
   cases hq : (X.book == 0)
   ·have HQ := hid hq
    clear hq
    refine Rs 9 fun Q' K hK => ?_
    refine M1 hE 5 fun K' J ρ q5 => ?_; go_simp
    refine Ln hE J fun _ Eb => ?_; clear J K' hE a q5
    refine M1 Eb 23 fun K' J ρ q23 => ?_; go_simp
    refine Ln Eb J fun _ Ea => ?_; clear J K' Eb q23
    refine M1 Ea 24 fun K' J ρ q24 => ?_; go_simp; (try go_bits); (try clear q24)
    rw [HQ.out]
    (try clear r24)
    refine Ln Ea J fun _ Eb => ?_; clear J K' Ea
    refine M1 Eb 25 fun K' J ρ q25 => ?_; go_simp
    refine Ln Eb J fun _ Ea => ?_; clear J K' Eb q25
    refine Lno Ea 26 ?_
    refine Lu Ea fun _ Eb => ?_
    refine Lno Eb 26 ?_
    refine Lu Eb fun _ Ea => ?_
    refine Lno Ea 26 ?_
    refine Lu Ea fun _ Eb => ?_
    refine Lno Eb 26 ?_
    refine Lu Eb fun _ Ea => ?_
    refine M2 Ea 26 30 fun K' J ρ q26 q30 => ?_; go_simp; (try go_bits)
    refine Ln Ea J fun _ Eb => ?_; clear J K' Ea q26 q30
    refine Ld [1, 2, 3, 4, 5, 6, 10, 11, 12, 19, 20, 31] Eb hK fun a hE => ?_; clear hK K Q' Eb
    refine Ks ?_
    refine cond_no hE (t := 31) rfl ?_
    refine Ks ?_
    refine Rs 2 fun Q' K hK => ?_
    refine M1 hE 20 fun K' J ρ q20 => ?_; go_simp; (try go_bits); (try simp (disch := omega) only [IntWalk.i64_in])
    refine Ln hE J fun _ Eb => ?_; clear J K' hE a q20
    refine M1 Eb 42 fun K' J ρ q42 => ?_; go_simp
    refine Ln Eb J fun _ Ea => ?_; clear J K' Eb q42
    refine Ld [1, 2, 3, 4, 5, 10, 11, 12, 19, 20] Ea hK fun a hE => ?_; clear hK K Q' Ea
    refine Ks ?_
    refine ⟨j + 1, ⟨hjt, by simpa using hE, ?_, hB3, ⟨hF1, cF0⟩, hFC⟩, by omega⟩
    have hno : canIJ b i j = false := by rw [HC.out, HQ.out]; rfl
    unfold CmpS at hS ⊢
    rw [lsAt_no b i j hno]; exact hS
   ·have HQ := hid hq
    clear hq
    obtain ⟨ad, cp, ⟨hC1, hRC⟩, hO, ⟨hR1, zs, hz, hRR⟩, hN⟩ := hS
    obtain ⟨y, hy⟩ : ∃ y, canL b b.lines[i] b.lines[j] = y := ⟨_, rfl⟩
    have HCAN := hid (can_any A cap (some ⟨bx, ox, none⟩) lcap b (.slice (ad 0) (lsAt b i j 0).length (cp 0)) (.slice (ad 1) (lsAt b i j 1).length (cp 1)) (.slice (ad 2) (lsAt b i j 2).length (cp 2)) (.slice (ad 3) (lsAt b i j 3).length (cp 3)) (.slice (ad 4) (lsAt b i j 4).length (cp 4)) (.slice (ad 5) (lsAt b i j 5).length (cp 5)) (.slice (ad 6) (lsAt b i j 6).length (cp 6)) (.slice (ad 7) (lsAt b i j 7).length (cp 7)) (.slice (ad 8) (lsAt b i j 8).length (cp 8)) i j wi (hM.below hWi) hs hlt hjt hm)
    rw [hy] at HCAN
    simp only [bksV] at HCAN
    have hCC := row_cells hRC hC1
    simp only [bkV, slcs, List.cons_append, List.nil_append] at hCC
    have nC := hCC.1; have cC0 := hCC.2 0 _ rfl; have cC1 := hCC.2 1 _ rfl; have cC2 := hCC.2 2 _ rfl; have cC3 := hCC.2 3 _ rfl; have cC4 := hCC.2 4 _ rfl; have cC5 := hCC.2 5 _ rfl; have cC6 := hCC.2 6 _ rfl; have cC7 := hCC.2 7 _ rfl; have cC8 := hCC.2 8 _ rfl; have cC9 := hCC.2 9 _ rfl; have cC10 := hCC.2 10 _ rfl; have cC11 := hCC.2 11 _ rfl; have cC12 := hCC.2 12 _ rfl; have cC13 := hCC.2 13 _ rfl; have cC14 := hCC.2 14 _ rfl; have cC15 := hCC.2 15 _ rfl
    refine Rs 9 fun Q' K hK => ?_
    refine M1 hE 5 fun K' J ρ q5 => ?_; go_simp
    refine Ln hE J fun _ Eb => ?_; clear J K' hE a q5
    refine M1 Eb 23 fun K' J ρ q23 => ?_; go_simp
    refine Ln Eb J fun _ Ea => ?_; clear J K' Eb q23
    refine M1 Ea 24 fun K' J ρ q24 => ?_; go_simp; (try go_bits); (try clear q24)
    rw [HQ.out]
    (try clear r24)
    refine Ln Ea J fun _ Eb => ?_; clear J K' Ea
    refine M1 Eb 25 fun K' J ρ q25 => ?_; go_simp
    refine Ln Eb J fun _ Ea => ?_; clear J K' Eb q25
    refine N1 Ea 26 3 fun K' J ρ q3 => ?_; go_simp
    refine Ln Ea J fun _ Eb => ?_; clear J K' Ea q3
    refine N1 Eb 26 4 fun K' J ρ q4 => ?_; go_simp
    refine Ln Eb J fun _ Ea => ?_; clear J K' Eb q4
    refine N1 Ea 26 6 fun K' J ρ q6 => ?_; go_simp
    refine Ln Ea J fun _ Eb => ?_; clear J K' Ea q6
    refine N3 Eb 26 27 28 29 fun K' J ρ q27 q28 q29 => ?_; go_simp; (try go_bits); (try clear q27 q28 q29)
    go_at_call 29; refine (HCAN.out).mono ?_; rintro e w4 ⟨rfl, h4⟩
    (try clear r27 r28 r29)
    refine Ln Eb J fun _ Ea => ?_; clear J K' Eb
    refine M2 Ea 26 30 fun K' J ρ q26 q30 => ?_; go_simp; (try go_bits)
    refine Ln Ea J fun _ Eb => ?_; clear J K' Ea q26 q30
    refine Ld [1, 2, 3, 4, 5, 6, 10, 11, 12, 19, 20, 31] Eb hK fun a hE => ?_; clear hK K Q' Eb
    clear nC cC0 cC1 cC2 cC3 cC4 cC5 cC6 cC7 cC8 cC9 cC10 cC11 cC12 cC13 cC14 cC15 hCC HCAN
    have hS4 : CmpS A cap (some ⟨bx, ox, none⟩) lcap b C R w F i j w4 := (show CmpS A cap (some ⟨bx, ox, none⟩) lcap b C R w F i j wi from ⟨ad, cp, ⟨hC1, hRC⟩, hO, ⟨hR1, zs, hz, hRR⟩, hN⟩).below h4
    have hB4 : B < w4.heap.size ∧ w4.cell? ⟨B, 3, none⟩ = some (.slice (some ⟨bx, ox, none⟩) b.lines.length lcap) := ⟨Nat.lt_of_lt_of_le hB3.1 h4.size, (h4.cell (p := ⟨B, 3, none⟩) hB3.1).trans hB3.2⟩
    have hF4 : F < w4.heap.size ∧ w4.cell? ⟨F, 0, none⟩ = some (.int .i64 X.book) := ⟨Nat.lt_of_lt_of_le hF1 h4.size, (h4.cell (p := ⟨F, 0, none⟩) hF1).trans cF0⟩
    clear hC1 hRC hO hR1 hz hRR hN
    clear zs cp ad
    have HY := hid hy
    clear hy cF0 hF1 hB3
    refine Ks ?_
    refine cond_part hE (t := 31) rfl (fun h => ?_) (fun h => ?_)
    ·have hyes : canIJ b i j = true := by rw [HC.out, HQ.out, HY.out, h]; rfl
     obtain ⟨ad, cp, ⟨hC1, hRC⟩, hO, ⟨hR1, zs, hz, hRR⟩, hN⟩ := hS4
     have hi9' : i < 9 := by omega
     obtain ⟨ls, hls⟩ : ∃ ls, lsAt b i j = ls := ⟨_, rfl⟩
     have hlen := lsAt_len b i j i (by omega)
     have hyz := lsAt_yes b i j hyes
     rw [hls] at hRC hO hlen hyz
     have HYZ := hid hyz
     clear hyz hls
     have g7 : (bkV A cap (some ⟨bx, ox, none⟩) lcap b ++ slcs ad cp ls)[7 + i]? = some (.slice (ad i) (ls i).length (cp i)) := by
      rw [List.getElem?_append_right (by simp [bkV])]
      simpa [bkV] using slcs_at ad cp ls i hi9'
     have c7 := (hRC _ _ g7).1
     refine Ks ?_
     refine Rs 11 fun Q' K hK => ?_
     refine M1 hE 4 fun K' J ρ q4 => ?_; go_simp
     refine Ln hE J fun _ Eb => ?_; clear J K' hE a q4
     refine M1 Eb 4 fun K' J ρ q4 => ?_; go_simp
     refine Ln Eb J fun _ Ea => ?_; clear J K' Eb q4
     refine M1 Ea 3 fun K' J ρ q3 => ?_; go_simp
     refine Ln Ea J fun _ Eb => ?_; clear J K' Ea q3
     refine M2 Eb 34 33 fun K' J ρ q34 q33 => ?_; go_simp; (try go_bits)
     refine Ln Eb J fun _ Ea => ?_; clear J K' Eb q34 q33
     refine M1 Ea 35 fun K' J ρ q35 => ?_; go_simp
     refine Ln Ea J fun _ Eb => ?_; clear J K' Ea q35
     refine M1 Eb 6 fun K' J ρ q6 => ?_; go_simp
     refine Ln Eb J fun _ Ea => ?_; clear J K' Eb q6
     refine M1 Ea 37 fun K' J ρ q37 => ?_; go_simp
     refine Ln Ea J fun _ Eb => ?_; clear J K' Ea q37
     refine Lp fun K' J => ?_
     have r36 := Eb.at 36 rfl; have r38 := Eb.at 38 rfl
     refine wp_appN (.tmp 36) (.tmp 38) 48 rfl (C + 1) 3 (.int .i64 0) 1 8 Tryz.underlying48 (by kernel_rfl) rfl (by decide) _ _ _ (eval_of r36) ((hO.own i hi9').alloc _) (w4.heap.size + 1) (some ⟨w4.heap.size, 0, none⟩) 1 1 [.int .i64 j] (eval_of r38) (arr_new w4 _ _) rfl (by intro u hu; simp at hu; subst hu; rfl) (by simp only [maxLen]; omega) (by omega) (by simp; omega) (fun A' cap' w5 q1 q2 q3 q4 q5 => ?_)
     have hba : Below w4.heap.size w4 (w4.alloc (.cells #[.int .i64 j] 3)) := (Below.refl _ _).alloc (Nat.le_refl _) _
     rw [ownB] at q4
     have hlow : Below (C + 1) w4 w5 := ((Below.refl (C + 1) w4).alloc (by omega) _).grown q4 (by simp; omega) (fun k e => (hO.low hi9' e).1)
     have hRC5 : Row w5 C (bkV A cap (some ⟨bx, ox, none⟩) lcap b ++ slcs ad cp ls) := row_of_block hRC (hlow.block C (by omega))
     have y7 := (hRC5 _ _ g7).2
     have hs5 := q4.size
     (try clear r36 r38)
     refine Ln Eb J fun _ Ea => ?_; clear J K' Eb
     refine M1 Ea 3 fun K' J ρ q3 => ?_; go_simp
     refine Ln Ea J fun _ Eb => ?_; clear J K' Ea q3
     refine M2 Eb 40 32 fun K' J ρ q40 q32 => ?_; go_simp; (try go_bits)
     refine Ln Eb J fun _ Ea => ?_; clear J K' Eb q40 q32
     refine M2 Ea 41 39 fun K' J ρ q41 q39 => ?_; go_simp; (try clear q41 q39)
     refine late_skip Ea J (fun _ Eb => ?_); clear J K'; clear Ea
     refine Ld [1, 2, 3, 4, 5, 10, 11, 12, 19, 20] Eb hK fun a hE => ?_; clear hK K Q' Eb
     refine world_cut (fun wt => CmpS A cap (some ⟨bx, ox, none⟩) lcap b C R w F i (j + 1) wt ∧ (B < wt.heap.size ∧ wt.cell? ⟨B, 3, none⟩ = some (.slice (some ⟨bx, ox, none⟩) b.lines.length lcap)) ∧ (F < wt.heap.size ∧ wt.cell? ⟨F, 0, none⟩ = some (.int .i64 X.book))) ?_ (fun w6 hC => ?_)
     ·have hl1 : (ls i).length + 1 = (ls i ++ [j]).length := by simp
      have hn1 : nats (ls i) ++ [.int .i64 j] = nats (ls i ++ [j]) := by simp [nats, natV]
      rw [hn1, hl1] at q3
      have hO5 := (hO.below hba).upd (by simp; omega) hi9' q4 (fun g hg => by (have := q5 g (by rw [ownB]; exact hg)); rwa [ownB] at this) q3
      rw [← HYZ.out] at hO5
      have hs5' : w4.heap.size ≤ w5.heap.size := hlow.size
      refine ⟨⟨upd ad i A', upd cp i cap', ⟨by simp; omega, ?_⟩, hO5.set C _ _ (by omega), ⟨by simp; omega, zs, hz, ((row_of_block hRR (hlow.block R (by omega))).other (by omega))⟩, (hN.trans (hlow.mono (by omega))).setCell (by simp only; omega) _⟩, ⟨by simp; omega, ?_⟩, ⟨by simp; omega, ?_⟩⟩
      ·have h5 := hRC5.set (o := 7 + i) (v := .slice A' (ls i ++ [j]).length cap') (by simp [bkV, slcs]; omega)
       rw [List.set_append_right _ _ (by simp [bkV]), show 7 + i - (bkV A cap (some ⟨bx, ox, none⟩) lcap b).length = i by simp [bkV], slcs_set ad cp ls i hi9', ← HYZ.out, ← hl1] at h5
       exact h5
      ·rw [World.cell?_setCell_other _ _ _ _ (by intro e; have := congrArg Addr.block e; simp only at this; omega)]
       exact (hlow.cell (p := ⟨B, 3, none⟩) (by simp only; omega)).trans hB4.2
      ·rw [World.cell?_setCell_other _ _ _ _ (by intro e; have := congrArg Addr.block e; simp only at this; exact hFC this.symm)]
       exact (World.cell?_of_block (w := w4.alloc (.cells #[.int .i64 j] 3)) (a := ⟨F, 0, none⟩) (q4.block F (by simp; omega) (fun e => hO.other i hi9' e.symm))).trans ((hba.cell (p := ⟨F, 0, none⟩) hF4.1).trans hF4.2)
     obtain ⟨hS6, hB6, hF6⟩ := hC
     refine Ks ?_
     refine Rs 2 fun Q' K hK => ?_
     refine M1 hE 20 fun K' J ρ q20 => ?_; go_simp; (try go_bits); (try simp (disch := omega) only [IntWalk.i64_in])
     refine Ln hE J fun _ Eb => ?_; clear J K' hE a q20
     refine M1 Eb 42 fun K' J ρ q42 => ?_; go_simp
     refine Ln Eb J fun _ Ea => ?_; clear J K' Eb q42
     refine Ld [1, 2, 3, 4, 5, 10, 11, 12, 19, 20] Ea hK fun a hE => ?_; clear hK K Q' Ea
     refine Ks ?_
     exact ⟨j + 1, ⟨hjt, by simpa using hE, hS6, hB6, hF6, hFC⟩, by omega⟩
    ·have hno : canIJ b i j = false := by rw [HC.out, HQ.out, HY.out, h]; rfl
     refine Ks ?_
     refine Rs 2 fun Q' K hK => ?_
     refine M1 hE 20 fun K' J ρ q20 => ?_; go_simp; (try go_bits); (try simp (disch := omega) only [IntWalk.i64_in])
     refine Ln hE J fun _ Eb => ?_; clear J K' hE a q20
     refine M1 Eb 42 fun K' J ρ q42 => ?_; go_simp
     refine Ln Eb J fun _ Ea => ?_; clear J K' Eb q42
     refine Ld [1, 2, 3, 4, 5, 10, 11, 12, 19, 20] Ea hK fun a hE => ?_; clear hK K Q' Ea
     refine Ks ?_
     refine ⟨j + 1, ⟨hjt, by simpa using hE, ?_, hB4, hF4, hFC⟩, by omega⟩
     unfold CmpS at hS4 ⊢
     rw [lsAt_no b i j hno]; exact hS4
  ·have hjj : j = b.lines.length := by have := of_decide_eq_false h; omega
   subst hjj
   clear h
   refine Ks ?_
   refine Rs 2 fun Q' K hK => ?_
   refine M1 hE 12 fun K' J ρ q12 => ?_; go_simp; (try go_bits); (try simp (disch := omega) only [IntWalk.i64_in])
   refine Ln hE J fun _ Eb => ?_; clear J K' hE a q12
   refine M1 Eb 43 fun K' J ρ q43 => ?_; go_simp
   refine Ln Eb J fun _ Ea => ?_; clear J K' Eb q43
   refine Ld [1, 2, 3, 10, 11, 12] Ea hK fun a hE => ?_; clear hK K Q' Ea
   refine Ks ?_
   exact ⟨i + 1, ⟨hlt, by simpa using hE, hS.next, hB3⟩, by omega⟩
 ·have hii : i = b.lines.length := by have := of_decide_eq_false h; omega
  subst hii
  clear h
  refine KsE ?_
  exact compared_end A cap L lcap b w h9 C R hRlC hnR wr a (hE.keep [2, 3]) hS
end
end Go.Proofs.YtbimkcjdodgojaaGreat
