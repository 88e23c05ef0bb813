/- Name: books without some lines. -/
import Derived.Test.YtbimkcjdodgojaaGreatKBNai
import Derived.Test.YtbimkcjdodgojaaGreatKBNs

namespace Go.Proofs.YtbimkcjdodgojaaGreat
set_option linter.unusedSimpArgs false
set_option linter.unusedVariables false
open Go Go.RowKit
attribute [local go_sem high] cell_set_wr
attribute [local go_sem low] cell_wr frozen_wr
attribute [local go_sem] wr_set wr_drew wr_drewN wr_alloc wr_new Rho.c Rho.n Rho.g
theorem containsN_any (T : Option Addr) (c : Nat) (li : List Nat) (x : Nat) (w : World) (hA : Arr w w.heap.size T (nats li)) (hl : li.length ≤ 9223372036854775807) : Calls Tryz.prog 101 #[.slice T li.length c, .int .i64 x] w fun e w' => e = .returned (.bool (li.contains x)) ∧ Below w.heap.size w w' := by
 by_cases h : li = []
 ·subst h
  exact (sh_slices_Contains_int_empty T c x w).mono fun e w' h => ⟨h.1, h.2 ▸ Below.refl _ _⟩
 ·obtain ⟨b, o, rfl, hb, hc⟩ := hA (fun e => h (List.eq_nil_of_length_eq_zero (by rw [← nats_length, e]; rfl)))
  have hgd : ∀ j, j < li.length → (li.map fun n : Nat => (n : Int)).getD j 0 = (li.getD j 0 : Nat) := fun j hj => by simp [List.getD_eq_getElem?_getD, hj]
  refine (sh_slices_Contains_int b o li.length c (li.map fun n : Nat => (n : Int)) x w (by simp) hl (fun j hj => ?_)).mono fun e w' h => ⟨?_, h.2 ▸ Below.refl _ _⟩
  ·have hj' : j < li.length := by simpa using hj
   rw [hgd j hj']
   exact hc j _ (by simp [nats, natV, hj', List.getD_eq_getElem?_getD])
  ·rw [h.1]
   congr 2
   rw [List.take_of_length_le (by simp)]
   rw [Bool.eq_iff_iff, List.contains_iff_mem, List.contains_iff_mem, List.mem_map]
   exact ⟨fun ⟨a, h1, h2⟩ => by have : a = x := by omega
                                exact this ▸ h1, fun h => ⟨x, h, rfl⟩⟩
/-- the first lines, without some -/
def dropK (ls : List NLn) (out : List Nat) (k : Nat) : List NLn := ((List.range k).filter fun i => !out.contains i).map fun i => ls.getD i zeroLn
theorem dropK_succ (ls : List NLn) (out : List Nat) (k : Nat) : dropK ls out (k + 1) = dropK ls out k ++ (if out.contains k = true then [] else [ls.getD k zeroLn]) := by
 unfold dropK
 rw [List.range_succ, List.filter_append, List.map_append]
 have e : List.filter (fun i => !out.contains i) [k] = if out.contains k = true then [] else [k] := by
  rw [List.filter_cons]
  cases out.contains k <;> rfl
 rw [e]
 split <;> rfl
theorem dropK_len (ls : List NLn) (out : List Nat) (k : Nat) : (dropK ls out k).length ≤ k := by
 unfold dropK
 rw [List.length_map]
 exact Nat.le_trans (List.length_filter_le _ _) (by simp)
theorem dropK_mem {ls : List NLn} {out : List Nat} {k : Nat} (hk : k ≤ ls.length) {x : NLn} (h : x ∈ dropK ls out k) : x ∈ ls := by
 unfold dropK at h
 rw [List.mem_map] at h
 obtain ⟨i, hi, rfl⟩ := h
 rw [List.mem_filter, List.mem_range] at hi
 have : i < ls.length := by omega
 simp [List.getD_eq_getElem?_getD, this]
def Bk.without (b : Bk) (out : List Nat) : Bk := { b with lines := dropK b.lines out b.lines.length }
theorem nlines_snoc (l : List NLn) (x : NLn) : nlines (l ++ [x]) = nlines l ++ x.cells := by simp [nlines]
theorem CouldAt.set {b : Bk} {u0 u1 u2 u3 u4 u5 u6 u7 u8 : Value} {N : Nat} {w : World} {cs : List (List Nat)} (h : CouldAt b u0 u1 u2 u3 u4 u5 u6 u7 u8 (fun k => k < N) w cs) (R o : Nat) (v : Value) (hR : R < N) : CouldAt b u0 u1 u2 u3 u4 u5 u6 u7 u8 (fun k => k < N) (w.setCell ⟨R, o, none⟩ v) cs := fun k hk => by
 obtain ⟨Ak, c, h1, h2⟩ := h k hk
 refine ⟨Ak, c, h1, fun hx => ?_⟩
 obtain ⟨b0, o0, e, q1, q2, q3, q4⟩ := h2 hx
 refine ⟨b0, o0, e, by simpa using q1, q2, by simpa using q3, fun j u hj => ?_⟩
 rw [World.cell?_setCell_other _ _ _ _ (by intro e'; have := congrArg Addr.block e'; simp only at this; omega)]
 exact q4 j u hj
theorem small_without {b : Bk} {cap lcap cap' : Nat} (out : List Nat) (h : b.small cap lcap) (h9 : b.lines.length ≤ 9) (hc : (b.without out).lines.length ≤ cap') : (b.without out).small cap cap' := by
 obtain ⟨h1, h2, h3, h4, h5, h6⟩ := h
 refine ⟨h1, h2, hc, by have := dropK_len b.lines out b.lines.length; simp only [Bk.without]; omega, h5, fun i hi => ?_⟩
 obtain ⟨j, hj, e⟩ := List.getElem_of_mem (dropK_mem (Nat.le_refl _) (List.getElem_mem hi))
 rw [← e]; exact h6 j hj
theorem minutes_without {b : Bk} (out : List Nat) (hm : ∀ i (h : i < b.lines.length), 0 ≤ b.lines[i].minute ∧ b.lines[i].minute ≤ 1439) : ∀ i (h : i < (b.without out).lines.length), 0 ≤ (b.without out).lines[i].minute ∧ (b.without out).lines[i].minute ≤ 1439 := fun i hi => by
 obtain ⟨j, hj, e⟩ := List.getElem_of_mem (dropK_mem (Nat.le_refl _) (List.getElem_mem hi))
 rw [← e]; exact hm j hj
/-- the state while lines are left out -/
def OutS (A : Option Addr) (cap : Nat) (b : Bk) (out : List Nat) (Q R : Nat) (w : World) (k : Nat) (w' : World) : Prop :=
 ∃ A' cap', (Q < w'.heap.size ∧ Row w' Q [.slice A b.ear.alike.length cap, .string b.ear.mute, .int .i64 b.ear.slips, .slice A' (dropK b.lines out k).length cap', .int .i64 b.lo, .int .i64 b.hi, .int .i64 b.lost]) ∧
  w'.ownsRow (Q + 1) 65 3 (.slice A' (dropK b.lines out k).length cap') (dropK b.lines out k).length (nlines (dropK b.lines out k)) ∧ (R < w'.heap.size ∧ ∃ zs : List Value, zs.length = 16 ∧ Row w' R zs) ∧ Below w.heap.size w w'
theorem OutS.below {A : Option Addr} {cap : Nat} {b : Bk} {out : List Nat} {Q R : Nat} {w : World} {k : Nat} {w' w'' : World} (h : OutS A cap b out Q R w k w') (hb : Below w'.heap.size w' w'') : OutS A cap b out Q R w k w'' := by
 obtain ⟨A', cap', ⟨h1, h2⟩, h3, ⟨h4, zs, h5, h6⟩, h7⟩ := h
 exact ⟨A', cap', ⟨Nat.lt_of_lt_of_le h1 hb.size, h2.below hb h1⟩, own_below h3 hb, ⟨Nat.lt_of_lt_of_le h4 hb.size, zs, h5, h6.below hb h4⟩, h7.trans (hb.mono h7.size)⟩
section
variable (A : Option Addr) (cap : Nat) (L : Option Addr) (lcap : Nat) (b : Bk) (u0 u1 u2 u3 u4 u5 u6 u7 u8 : Value)
set_option maxRecDepth 100000 in
set_option maxHeartbeats 4000000 in
theorem without_end (out : List Nat) (w : World) (hM : BkAt w A L b) (hs : b.small cap lcap) (h9 : b.lines.length ≤ 9) (hm : ∀ i (h : i < b.lines.length), 0 ≤ b.lines[i].minute ∧ b.lines[i].minute ≤ 1439) (Q R : Nat) (hRQ : R < Q) (hnR : w.heap.size ≤ R) (wr : World) (a : Act) (hE : Fits 33 [(4, .pointer (some ⟨R, 0, none⟩)), (5, .pointer (some ⟨Q, 0, none⟩))] a) (hS : OutS A cap b out Q R w b.lines.length wr) :
    (cr 4 (bodyOf Tryz.f81)).wp Tryz.prog (bodyPost Tryz.prog Tryz.f81 fun e w' => (∃ A' cap' f, e = .returned (.agg (bksV A cap A' cap' (b.without out) (sl9 f 0) (sl9 f 1) (sl9 f 2) (sl9 f 3) (sl9 f 4) (sl9 f 5) (sl9 f 6) (sl9 f 7) (sl9 f 8)).toArray) ∧ (b.without out).lines.length ≤ cap' ∧ CouldAt (b.without out) (sl9 f 0) (sl9 f 1) (sl9 f 2) (sl9 f 3) (sl9 f 4) (sl9 f 5) (sl9 f 6) (sl9 f 7) (sl9 f 8) (fun _ => False) w' (couldsP (b.without out))) ∧ Below w.heap.size w w') a wr := by
 obtain ⟨A', cap', ⟨hQ1, hRQ'⟩, hO, ⟨hR1, zs, hz, hRR⟩, hN⟩ := hS
 have hlen : (dropK b.lines out b.lines.length).length = (b.without out).lines.length := rfl
 obtain ⟨A2, c2, hv, hc1, hc2, ha⟩ := own_form hO
 rw [Value.slice.injEq] at hv
 obtain ⟨rfl, _, rfl⟩ := hv
 have hCmp := hid (compared_any A cap A' cap' (b.without out) wr ⟨(hM.1.below hN).more hN.size, ha⟩ (small_without out hs h9 hc1) (Nat.le_trans (dropK_len _ _ _) h9) (minutes_without out hm))
 have HC1 := hid hc1
 rw [hlen] at hRQ'
 have hCQ := row_cells hRQ' hQ1
 clear hO ha hc1 hc2 hlen hRQ'
 simp only [bkV, sl9, bksV, show (b.without out).ear = b.ear from rfl, show (b.without out).lo = b.lo from rfl, show (b.without out).hi = b.hi from rfl, show (b.without out).lost = b.lost from rfl] at hCmp
 obtain ⟨nQ, cQ0, cQ1, cQ2, cQ3, cQ4, cQ5, cQ6⟩ := hCQ.c7
 obtain ⟨z0, z1, z2, z3, z4, z5, z6, z7, z8, z9, z10, z11, z12, z13, z14, z15, rfl⟩ : ∃ z0 z1 z2 z3 z4 z5 z6 z7 z8 z9 z10 z11 z12 z13 z14 z15, zs = [z0, z1, z2, z3, z4, z5, z6, z7, z8, z9, z10, z11, z12, z13, z14, z15] := by
  match zs, hz with
  | [z0, z1, z2, z3, z4, z5, z6, z7, z8, z9, z10, z11, z12, z13, z14, z15], _ => exact ⟨_, _, _, _, _, _, _, _, _, _, _, _, _, _, _, _, rfl⟩
 refine wp_seq ?_; refine Ks ?_
 refine Rs 3 fun Q' K hK => ?_
 refine M1 hE 5 fun K' J ρ q5 => ?_; go_simp
 refine Ln hE J fun _ Eb => ?_; clear J K' hE a q5
 refine M1 Eb 31 fun K' J ρ q31 => ?_; go_simp; (try go_bits); (try clear q31)
 go_at_call 40; refine (hCmp.out).mono ?_; rintro e w2 ⟨⟨f, rfl, hCU⟩, h2⟩
 have hRR2 := hRR.below h2 hR1
 simp only [sl9, bksV]
 have y0 := (hRR2 0 _ rfl).2
 have y1 := (hRR2 1 _ rfl).2
 have y2 := (hRR2 2 _ rfl).2
 have y3 := (hRR2 3 _ rfl).2
 have y4 := (hRR2 4 _ rfl).2
 have y5 := (hRR2 5 _ rfl).2
 have y6 := (hRR2 6 _ rfl).2
 have y7 := (hRR2 7 _ rfl).2
 have y8 := (hRR2 8 _ rfl).2
 have y9 := (hRR2 9 _ rfl).2
 have y10 := (hRR2 10 _ rfl).2
 have y11 := (hRR2 11 _ rfl).2
 have y12 := (hRR2 12 _ rfl).2
 have y13 := (hRR2 13 _ rfl).2
 have y14 := (hRR2 14 _ rfl).2
 have y15 := (hRR2 15 _ rfl).2
 (try clear r31)
 refine Ln Eb J fun _ Ea => ?_; clear J K' Eb
 refine M2 Ea 4 32 fun K' J ρ q4 q32 => ?_; go_simp; (try clear q4 q32)
 refine late_skip Ea J (fun _ Eb => ?_); clear J K'; clear Ea
 refine Ld [4] Eb hK fun a hE => ?_; clear hK K Q' Eb
 refine world_cut (fun wt => Below w.heap.size w wt ∧ Cells wt R [.slice A b.ear.alike.length cap, .string b.ear.mute, .int .i64 b.ear.slips, .slice A' (b.without out).lines.length cap', .int .i64 b.lo, .int .i64 b.hi, .int .i64 b.lost, .slice (f 0).1 (f 0).2.1 (f 0).2.2, .slice (f 1).1 (f 1).2.1 (f 1).2.2, .slice (f 2).1 (f 2).2.1 (f 2).2.2, .slice (f 3).1 (f 3).2.1 (f 3).2.2, .slice (f 4).1 (f 4).2.1 (f 4).2.2, .slice (f 5).1 (f 5).2.1 (f 5).2.2, .slice (f 6).1 (f 6).2.1 (f 6).2.2, .slice (f 7).1 (f 7).2.1 (f 7).2.2, .slice (f 8).1 (f 8).2.1 (f 8).2.2] ∧ CouldAt (b.without out) (sl9 f 0) (sl9 f 1) (sl9 f 2) (sl9 f 3) (sl9 f 4) (sl9 f 5) (sl9 f 6) (sl9 f 7) (sl9 f 8) (fun k => k < wr.heap.size) wt (couldsP (b.without out))) ⟨(((((((((((((((((hN.trans (h2.mono hN.size)).setCell hnR _).setCell hnR _).setCell hnR _).setCell hnR _).setCell hnR _).setCell hnR _).setCell hnR _).setCell hnR _).setCell hnR _).setCell hnR _).setCell hnR _).setCell hnR _).setCell hnR _).setCell hnR _).setCell hnR _).setCell hnR _), row_cells ((((((((((((((((hRR2.set (o := 0) (by simp)).set (o := 1) (by simp)).set (o := 2) (by simp)).set (o := 3) (by simp)).set (o := 4) (by simp)).set (o := 5) (by simp)).set (o := 6) (by simp)).set (o := 7) (by simp)).set (o := 8) (by simp)).set (o := 9) (by simp)).set (o := 10) (by simp)).set (o := 11) (by simp)).set (o := 12) (by simp)).set (o := 13) (by simp)).set (o := 14) (by simp)).set (o := 15) (by simp)) (by have := h2.size; simp; omega), ((((((((((((((((hCU.set R 0 _ hR1).set R 1 _ hR1).set R 2 _ hR1).set R 3 _ hR1).set R 4 _ hR1).set R 5 _ hR1).set R 6 _ hR1).set R 7 _ hR1).set R 8 _ hR1).set R 9 _ hR1).set R 10 _ hR1).set R 11 _ hR1).set R 12 _ hR1).set R 13 _ hR1).set R 14 _ hR1).set R 15 _ hR1)⟩ (fun w3 hC => ?_)
 obtain ⟨hB3, hCR, hCU3⟩ := hC
 clear y0 y1 y2 y3 y4 y5 y6 y7 y8 y9 y10 y11 y12 y13 y14 y15 nQ cQ0 cQ1 cQ2 cQ3 cQ4 cQ5 cQ6 hRR2 hRR hCU
 have nR := hCR.1; have cR0 := hCR.2 0 _ rfl; have cR1 := hCR.2 1 _ rfl; have cR2 := hCR.2 2 _ rfl; have cR3 := hCR.2 3 _ rfl; have cR4 := hCR.2 4 _ rfl; have cR5 := hCR.2 5 _ rfl; have cR6 := hCR.2 6 _ rfl; have cR7 := hCR.2 7 _ rfl; have cR8 := hCR.2 8 _ rfl; have cR9 := hCR.2 9 _ rfl; have cR10 := hCR.2 10 _ rfl; have cR11 := hCR.2 11 _ rfl; have cR12 := hCR.2 12 _ rfl; have cR13 := hCR.2 13 _ rfl; have cR14 := hCR.2 14 _ rfl; have cR15 := hCR.2 15 _ rfl
 refine Ks ?_
 have g := hE.at 4 rfl
 exact bodyPost_ret (v := .agg #[.slice A b.ear.alike.length cap, .string b.ear.mute, .int .i64 b.ear.slips, .slice A' (b.without out).lines.length cap', .int .i64 b.lo, .int .i64 b.hi, .int .i64 b.lost, .slice (f 0).1 (f 0).2.1 (f 0).2.2, .slice (f 1).1 (f 1).2.1 (f 1).2.2, .slice (f 2).1 (f 2).2.1 (f 2).2.2, .slice (f 3).1 (f 3).2.1 (f 3).2.2, .slice (f 4).1 (f 4).2.1 (f 4).2.2, .slice (f 5).1 (f 5).2.1 (f 5).2.2, .slice (f 6).1 (f 6).2.1 (f 6).2.2, .slice (f 7).1 (f 7).2.1 (f 7).2.2, .slice (f 8).1 (f 8).2.1 (f 8).2.2]) (by simp [results, Tryz.results81, go_sem, g, cR0, cR1, cR2, cR3, cR4, cR5, cR6, cR7, cR8, cR9, cR10, cR11, cR12, cR13, cR14, cR15]) hE.1 ⟨⟨A', cap', f, rfl, HC1.out, hCU3.of_below (Below.refl _ _) (fun _ h => h.elim)⟩, hB3⟩
set_option maxRecDepth 100000 in
set_option maxHeartbeats 4000000 in
theorem without_any (T : Option Addr) (c : Nat) (out : List Nat) (w : World) (hM : BkAt w A L b) (hs : b.small cap lcap) (h9 : b.lines.length ≤ 9) (hm : ∀ i (h : i < b.lines.length), 0 ≤ b.lines[i].minute ∧ b.lines[i].minute ≤ 1439) (hT : Arr w w.heap.size T (nats out)) (ho : out.length ≤ 9223372036854775807) :
    Calls Tryz.prog 81 #[.agg (bksV A cap L lcap b u0 u1 u2 u3 u4 u5 u6 u7 u8).toArray, .slice T out.length c] w fun e w' => (∃ A' cap' f, e = .returned (.agg (bksV A cap A' cap' (b.without out) (sl9 f 0) (sl9 f 1) (sl9 f 2) (sl9 f 3) (sl9 f 4) (sl9 f 5) (sl9 f 6) (sl9 f 7) (sl9 f 8)).toArray) ∧ (b.without out).lines.length ≤ cap' ∧ CouldAt (b.without out) (sl9 f 0) (sl9 f 1) (sl9 f 2) (sl9 f 3) (sl9 f 4) (sl9 f 5) (sl9 f 6) (sl9 f 7) (sl9 f 8) (fun _ => False) w' (couldsP (b.without out))) ∧ Below w.heap.size w w' := by
 have hll := hs.2.2.1
 simp only [bksV]
 refine enterE Tryz.func81 rfl Tryz.ntmps81 (by simp) (fun a hE => ?_); simp only [envOf, Nat.zero_add, Nat.reduceAdd] at hE
 refine Ks ?_
 refine Rs 2 fun Q' K hK => ?_
 refine M1 hE 0 fun K' J ρ q0 => ?_; go_simp
 refine Ln hE J fun _ Eb => ?_; clear J K' hE a q0
 refine M0 fun K' J ρ => ?_; go_simp;
 refine Ln Eb J fun _ Ea => ?_; clear J K' Eb
 refine Ld [1, 2, 4] Ea hK fun a hE => ?_; clear hK K Q' Ea
 obtain ⟨B, hB⟩ : ∃ B, B = w.heap.size := ⟨_, rfl⟩
 obtain ⟨R, hR⟩ : ∃ B, B = w.heap.size + 1 := ⟨_, rfl⟩
 rw [← hR, ← hB] at hE
 refine world_cut (fun wt => Below w.heap.size w wt ∧ Cells wt B (bksV A cap L lcap b u0 u1 u2 u3 u4 u5 u6 u7 u8) ∧ R < wt.heap.size ∧ ∃ zs : List Value, zs.length = 16 ∧ Row wt R zs) ?_ (fun w1 hC => ?_)
 ·rw [hB, hR]
  obtain ⟨q1, q2, q3, q4⟩ := box_row w _ _ _ _
  exact ⟨q1, q2, q3, _, rfl, q4⟩
 obtain ⟨hb1, hCB, hlR, hRR⟩ := hC
 have hnR : w.heap.size ≤ R := by omega
 have hBR : B < R := by omega
 clear hB hR
 simp only [bksV] at hCB
 have nB := hCB.1; have cB0 := hCB.2 0 _ rfl; have cB1 := hCB.2 1 _ rfl; have cB2 := hCB.2 2 _ rfl; have cB3 := hCB.2 3 _ rfl; have cB4 := hCB.2 4 _ rfl; have cB5 := hCB.2 5 _ rfl; have cB6 := hCB.2 6 _ rfl; have cB7 := hCB.2 7 _ rfl; have cB8 := hCB.2 8 _ rfl; have cB9 := hCB.2 9 _ rfl; have cB10 := hCB.2 10 _ rfl; have cB11 := hCB.2 11 _ rfl; have cB12 := hCB.2 12 _ rfl; have cB13 := hCB.2 13 _ rfl; have cB14 := hCB.2 14 _ rfl; have cB15 := hCB.2 15 _ rfl
 refine Ks ?_
 refine Rs 4 fun Q' K hK => ?_
 refine M1 hE 2 fun K' J ρ q2 => ?_; go_simp
 refine Ln hE J fun _ Eb => ?_; clear J K' hE a q2
 refine M1 Eb 8 fun K' J ρ q8 => ?_; go_simp
 refine Ln Eb J fun _ Ea => ?_; clear J K' Eb q8
 refine M0 fun K' J ρ => ?_; go_simp;
 refine Ln Ea J fun _ Eb => ?_; clear J K' Ea
 refine M2 Eb 5 9 fun K' J ρ q5 q9 => ?_; go_simp; (try clear q5 q9)
 refine late_skip Eb J (fun _ Ea => ?_); clear J K'; clear Eb
 refine Ld [1, 2, 4, 5] Ea hK fun a hE => ?_; clear hK K Q' Ea
 obtain ⟨Q, hQe⟩ : ∃ B, B = w1.heap.size := ⟨_, rfl⟩; have hnQ : w1.heap.size ≤ Q := Nat.le_of_eq hQe.symm; rw [← hQe] at hE; refine world_cut (fun wt => Below w1.heap.size w1 wt ∧ Q < wt.heap.size ∧ Row wt Q (bkV A cap L lcap b)) ⟨(Below.refl _ _).alloc (Nat.le_refl _) _, by rw [hQe]; simp, by rw [hQe]; exact row_new _ _ _⟩ (fun w2 hCut => ?_); obtain ⟨hbw2, hlQ, hRQ⟩ := hCut; clear hQe
 have hRQ' : R < Q := by omega
 have y3 := (hRQ 3 _ rfl).2
 have hs1 := hb1.size
 clear nB cB0 cB1 cB2 cB3 cB4 cB5 cB6 cB7 cB8 cB9 cB10 cB11 cB12 cB13 cB14 cB15
 refine Ks ?_
 refine Rs 2 fun Q' K hK => ?_
 refine M1 hE 5 fun K' J ρ q5 => ?_; go_simp
 refine Ln hE J fun _ Eb => ?_; clear J K' hE a q5
 refine M1 Eb 10 fun K' J ρ q10 => ?_; go_simp; (try clear q10)
 refine late_skip Eb J (fun _ Ea => ?_); clear J K'; clear Eb
 refine Ld [1, 2, 4, 5] Ea hK fun a hE => ?_; clear hK K Q' Ea
 have hs2 := hbw2.size
 refine world_cut (fun wt => OutS A cap b out Q R w 0 wt ∧ Cells wt B (bksV A cap L lcap b u0 u1 u2 u3 u4 u5 u6 u7 u8)) ⟨⟨none, 0, ⟨by simpa using hlQ, hRQ.set (by simp [bkV])⟩, own_nil _ _ _ _, ⟨by simp; omega, ?_⟩, (hb1.trans (hbw2.mono hs1)).setCell (by simp only; omega) _⟩, ?_⟩ (fun w3 hC => ?_)
 ·obtain ⟨zs, q1, q2⟩ := hRR
  exact ⟨zs, q1, (q2.below hbw2 hlR).other (by omega)⟩
 ·have := (hCB.below hbw2).2
  exact ⟨by have := hCB.1; simp; omega, fun j u hu => by rw [World.cell?_setCell_other _ _ _ _ (by intro e; have := congrArg Addr.block e; simp only at this; omega)]; exact this j u hu⟩
 obtain ⟨hS, hCB3⟩ := hC
 clear y3 hRQ hRR hCB hlR hlQ hbw2 hb1 hs1 hs2 hnQ
 have c3 := hCB3.2 3 _ rfl
 refine Ks ?_
 refine Rs 5 fun Q' K hK => ?_
 refine M1 hE 2 fun K' J ρ q2 => ?_; go_simp
 refine Ln hE J fun _ Eb => ?_; clear J K' hE a q2
 refine M1 Eb 11 fun K' J ρ q11 => ?_; go_simp
 refine Ln Eb J fun _ Ea => ?_; clear J K' Eb q11
 refine M1 Ea 12 fun K' J ρ q12 => ?_; go_simp
 refine Ln Ea J fun _ Eb => ?_; clear J K' Ea q12
 refine M1 Eb 13 fun K' J ρ q13 => ?_; go_simp; (try go_bits)
 refine Ln Eb J fun _ Ea => ?_; clear J K' Eb q13
 refine M0 fun K' J ρ => ?_; go_simp;
 refine Ln Ea J fun _ Eb => ?_; clear J K' Ea
 refine Ld [1, 4, 5, 13, 14, 15] Eb hK fun a hE => ?_; clear hK K Q' Eb
 clear c3 hCB3
 refine Ks ?_
 refine loop_st (fun (i : Nat) a w' => i ≤ b.lines.length ∧ Fits 33 [(1, .slice T out.length c), (4, .pointer (some ⟨R, 0, none⟩)), (5, .pointer (some ⟨Q, 0, none⟩)), (13, .slice L b.lines.length lcap), (14, .int .i64 b.lines.length), (15, .int .i64 i)] a ∧ OutS A cap b out Q R w i w') (fun i => b.lines.length - i) 0 ?_ (fun i a w' hI => ?_)
 ·exact ⟨Nat.zero_le _, by simpa using hE, hS⟩
 clear hE hS
 obtain ⟨hi, hE, hS⟩ := hI
 obtain ⟨wr, hwr⟩ : ∃ x, x = w' := ⟨_, rfl⟩
 subst hwr
 refine Ks ?_
 refine Rs 1 fun Q' K hK => ?_
 refine M2 hE 15 14 fun K' J ρ q15 q14 => ?_; go_simp; (try go_bits)
 refine Ln hE J fun _ Eb => ?_; clear J K' hE a q15 q14
 refine Ld [1, 4, 5, 13, 14, 15, 16] Eb hK fun a hE => ?_; clear hK K Q' Eb
 refine Ks ?_
 refine cond_part hE (t := 16) rfl (fun h => ?_) (fun h => ?_)
 ·have hlt : i < b.lines.length := by have := of_decide_eq_true h; omega
  clear h
  have hltI : (i : Int) < b.lines.length := by omega
  have hWb : Below w.heap.size w wr := by obtain ⟨_, _, _, _, _, h⟩ := hS; exact h
  obtain ⟨bx, ox, hLe, hbx, x0, x1, x2⟩ := (hM.2.below hWb).nl hlt
  have hdk := dropK_succ b.lines out i
  rw [show b.lines.getD i zeroLn = b.lines[i] by simp [List.getD_eq_getElem?_getD, hlt]] at hdk
  obtain ⟨X, hX⟩ : ∃ X, b.lines[i] = X := ⟨_, rfl⟩
  rw [hX] at x0 x1 x2 hdk
  have HDK := hid hdk
  clear hX hdk
  subst hLe
  have hbxr : bx < wr.heap.size := Nat.lt_of_lt_of_le hbx hWb.size
  refine Ks ?_
  refine Rs 6 fun Q' K hK => ?_
  refine M1 hE 15 fun K' J ρ q15 => ?_; go_simp
  refine Ln hE J fun _ Eb => ?_; clear J K' hE a q15
  refine M2 Eb 13 15 fun K' J ρ q13 q15 => ?_; go_simp; (try go_bits)
  refine Ln Eb J fun _ Ea => ?_; clear J K' Eb q13 q15
  refine M1 Ea 18 fun K' J ρ q18 => ?_; go_simp
  refine Ln Ea J fun _ Eb => ?_; clear J K' Ea q18
  refine M0 fun K' J ρ => ?_; go_simp;
  refine Ln Eb J fun _ Ea => ?_; clear J K' Eb
  refine M1 Ea 17 fun K' J ρ q17 => ?_; go_simp
  refine Ln Ea J fun _ Eb => ?_; clear J K' Ea q17
  refine M2 Eb 7 19 fun K' J ρ q7 q19 => ?_; go_simp; (try clear q7 q19)
  refine late_skip Eb J (fun _ Ea => ?_); clear J K'; clear Eb
  refine Ld [1, 4, 5, 6, 7, 13, 14, 15] Ea hK fun a hE => ?_; clear hK K Q' Ea
  obtain ⟨F, hFe⟩ : ∃ B, B = wr.heap.size := ⟨_, rfl⟩; have hnF : wr.heap.size ≤ F := Nat.le_of_eq hFe.symm; rw [← hFe] at hE; refine world_cut (fun wt => Below wr.heap.size wr wt ∧ F < wt.heap.size ∧ Row wt F [.int .i64 X.book, .int .i64 X.minute, .string X.heard]) ⟨(Below.refl _ _).alloc (Nat.le_refl _) _, by rw [hFe]; simp, by rw [hFe]; exact row_new _ _ _⟩ (fun wf hCut => ?_); obtain ⟨hbwf, hlF, hRF⟩ := hCut; clear hFe
  have hSf := hS.below hbwf
  have hCF := row_cells hRF hlF
  have hQr : Q < wr.heap.size := by obtain ⟨_, _, ⟨h, _⟩, _⟩ := hS; exact h
  have hWf := hWb.trans (hbwf.mono hWb.size)
  have hTf := (hT.below hWf).more hWf.size
  clear x0 x1 x2 hbxr hS hbx hbwf
  obtain ⟨q, hq⟩ : ∃ q, out.contains i = q := ⟨_, rfl⟩
  have HCO := hid (containsN_any T c out i)
  rw [hq] at HCO HDK
  refine Ks ?_
  refine Rs 4 fun Q' K hK => ?_
  refine M1 hE 1 fun K' J ρ q1 => ?_; go_simp
  refine Ln hE J fun _ Eb => ?_; clear J K' hE a q1
  refine M1 Eb 6 fun K' J ρ q6 => ?_; go_simp
  refine Ln Eb J fun _ Ea => ?_; clear J K' Eb q6
  refine M2 Ea 20 21 fun K' J ρ q20 q21 => ?_; go_simp; (try go_bits); (try clear q20 q21)
  go_at_call 101; refine (HCO.out _ (hTf) ho).mono ?_; rintro e w4 ⟨rfl, h4⟩
  (try clear r20 r21)
  refine Ln Ea J fun _ Eb => ?_; clear J K' Ea
  refine M1 Eb 22 fun K' J ρ q22 => ?_; go_simp; (try go_bits); (try simp (disch := omega) only [IntWalk.i64_in])
  refine Ln Eb J fun _ Ea => ?_; clear J K' Eb q22
  refine Ld [1, 4, 5, 7, 13, 14, 15, 23] Ea hK fun a hE => ?_; clear hK K Q' Ea
  have hS4 := hSf.below h4
  have hC4 := hCF.below h4
  clear hSf hCF hTf
  refine Ks ?_
  refine cond_part hE (t := 23) rfl (fun h => ?_) (fun h => ?_)
  ·have hq' : q = false := by simpa using h
   clear h
   obtain ⟨A', cap', ⟨hQ1, hRQ⟩, hO, ⟨hR1, zs, hz, hRR⟩, hN⟩ := hS4
   have hdl := dropK_len b.lines out i
   obtain ⟨ds, hds⟩ : ∃ ds, dropK b.lines out i = ds := ⟨_, rfl⟩
   rw [hds] at hRQ hO hdl HDK
   have c3 := (hRQ 3 _ rfl).1
   have hCF := hC4
   obtain ⟨nF, cF0, cF1, cF2⟩ := hCF.c3
   refine Ks ?_
   refine Rs 7 fun Q' K hK => ?_
   refine M1 hE 5 fun K' J ρ q5 => ?_; go_simp
   refine Ln hE J fun _ Eb => ?_; clear J K' hE a q5
   refine M1 Eb 24 fun K' J ρ q24 => ?_; go_simp
   refine Ln Eb J fun _ Ea => ?_; clear J K' Eb q24
   refine M1 Ea 7 fun K' J ρ q7 => ?_; go_simp
   refine Ln Ea J fun _ Eb => ?_; clear J K' Ea q7
   refine M1 Eb 26 fun K' J ρ q26 => ?_; go_simp
   refine Ln Eb J fun _ Ea => ?_; clear J K' Eb q26
   refine Lp fun K' J => ?_
   have r25 := Ea.at 25 rfl; have r27 := Ea.at 27 rfl
   refine wp_appN (.tmp 25) (.tmp 27) 25 rfl (Q + 1) 65 (.agg #[.int .i64 0, .int .i64 0, .string ⟨#[]⟩]) 3 32 Tryz.underlying25 (by kernel_rfl) rfl (by decide) _ _ _ (eval_of r25) (hO.alloc _) (w4.heap.size + 1) (some ⟨w4.heap.size, 0, none⟩) 1 1 X.cells (eval_of r27) (arr_new w4 _ _) rfl (by intro u hu; simp [NLn.cells] at hu; rcases hu with rfl | rfl | rfl <;> rfl) (by simp only [maxLen]; omega) (by omega) (by simp; omega) (fun A2 c2 w5 q1 q2 q3 q4 q5 => ?_)
   have hlow : Below (Q + 1) w4 w5 := ((Below.refl (Q + 1) w4).alloc (by omega) _).grown q4 (by simp; omega) (fun k e => ownBlock_le hO k e)
   have hRQ5 := row_of_block hRQ (hlow.block Q (by omega))
   have y3 := (hRQ5 3 _ rfl).2
   (try clear r25 r27)
   refine Ln Ea J fun _ Eb => ?_; clear J K' Ea
   refine M1 Eb 5 fun K' J ρ q5 => ?_; go_simp
   refine Ln Eb J fun _ Ea => ?_; clear J K' Eb q5
   refine M2 Ea 29 28 fun K' J ρ q29 q28 => ?_; go_simp; (try clear q29 q28)
   refine late_skip Ea J (fun _ Eb => ?_); clear J K'; clear Ea
   refine Ld [1, 4, 5, 13, 14, 15] Eb hK fun a hE => ?_; clear hK K Q' Eb
   refine world_cut (fun wt => OutS A cap b out Q R w (i + 1) wt) ?_ (fun w6 hC => ?_)
   ·have hl1 : ds.length + 1 = (ds ++ [X]).length := by simp
    rw [← nlines_snoc, hl1] at q3
    have hs5' : w4.heap.size ≤ w5.heap.size := hlow.size
    unfold OutS
    rw [HDK.out, hq', if_neg (by simp)]
    refine ⟨A2, c2, ⟨by simp; omega, ?_⟩, ?_, ⟨by simp; omega, zs, hz, (row_of_block hRR (hlow.block R (by omega))).other (by omega)⟩, (hN.trans (hlow.mono (by omega))).setCell (by simp only; omega) _⟩
    ·rw [← hl1]
     exact hRQ5.set (o := 3) (by simp)
    ·refine q3.kept (row := some Q) ⟨rfl, rfl, rfl, by simp, fun k hk hne => Below.heap_setCell _ _ _ _ (fun e => hne (by rw [e]))⟩ ?_
     cases hg : (Value.slice A2 (ds ++ [X]).length c2).ownBlock with
     | none => exact .inl rfl
     | some g => exact .inr fun e' => by have := ownBlock_le q3 g hg; cases e'; omega
   refine Ks ?_
   refine Rs 2 fun Q' K hK => ?_
   refine M1 hE 15 fun K' J ρ q15 => ?_; go_simp; (try go_bits); (try simp (disch := omega) only [IntWalk.i64_in])
   refine Ln hE J fun _ Eb => ?_; clear J K' hE a q15
   refine M1 Eb 30 fun K' J ρ q30 => ?_; go_simp
   refine Ln Eb J fun _ Ea => ?_; clear J K' Eb q30
   refine Ld [1, 4, 5, 13, 14, 15] Ea hK fun a hE => ?_; clear hK K Q' Ea
   refine Ks ?_
   exact ⟨i + 1, ⟨hlt, by simpa using hE, hC⟩, by omega⟩
  ·have hq' : q = true := by simpa using h
   refine Ks ?_
   refine Rs 2 fun Q' K hK => ?_
   refine M1 hE 15 fun K' J ρ q15 => ?_; go_simp; (try go_bits); (try simp (disch := omega) only [IntWalk.i64_in])
   refine Ln hE J fun _ Eb => ?_; clear J K' hE a q15
   refine M1 Eb 30 fun K' J ρ q30 => ?_; go_simp
   refine Ln Eb J fun _ Ea => ?_; clear J K' Eb q30
   refine Ld [1, 4, 5, 13, 14, 15] Ea hK fun a hE => ?_; clear hK K Q' Ea
   refine Ks ?_
   refine ⟨i + 1, ⟨hlt, by simpa using hE, ?_⟩, by omega⟩
   unfold OutS at hS4 ⊢
   rw [HDK.out, hq', if_pos rfl, List.append_nil]
   exact hS4
 ·have hii : i = b.lines.length := by have := of_decide_eq_false h; omega
  subst hii
  clear h
  refine KsE ?_
  exact without_end A cap L lcap b out w hM hs h9 hm Q R hRQ' hnR wr a (hE.keep [4, 5]) hS
end
end Go.Proofs.YtbimkcjdodgojaaGreat
