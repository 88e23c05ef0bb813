/- Name: the law's passed, walked: the books of what truly was. -/
import Derived.Test.YtbimkcjdodgojaaNco
import Derived.Test.YtbimkcjdodgojaaNcm
import Derived.Test.YtbimkcjdodgojaaNcr
import Derived.Test.YtbimkcjdodgojaaNbi
import Derived.Test.YtbimkcjdodgojaaNbc
import Derived.Test.YtbimkcjdodgojaaNy
namespace Go.Proofs.Ytbimkcjdodgojaa
set_option linter.unusedSimpArgs false
set_option linter.unusedVariables false
open Go Go.RowKit
attribute [local go_sem high] cell_set_wr
attribute [local go_sem low] cell_wr frozen_wr
attribute [local go_sem] wr_set wr_drew wr_drewN wr_alloc wr_new Rho.c Rho.n Rho.g

theorem arr_drop {w : World} {N : Nat} {T : Option Addr} {ns : List Int} {tc k : Nat} (h : Arr w N T (ints ns)) (htc : ns.length ≤ tc) : Arr w N (if tc = k then T else Option.map (fun x => x.add k) T) (ints (ns.drop k)) := fun hx => by
 have hd : ns.drop k ≠ [] := fun e => hx (by rw [e]; rfl)
 have hk : k < ns.length := by
  rcases Nat.lt_or_ge k ns.length with h | h
  ·exact h
  ·exact absurd (List.drop_eq_nil_of_le h) hd
 obtain ⟨b, o, rfl, h1, h2⟩ := h (fun e => by have := ints_length ns; rw [e] at this; simp at this; omega)
 rw [if_neg (by omega)]
 have ha : Addr.add ⟨b, o, none⟩ k = ⟨b, o + k, none⟩ := by unfold Addr.add; split <;> simp_all
 refine ⟨b, o + k, by simp [ha], h1, fun j u hu => ?_⟩
 rw [Nat.add_assoc]
 refine h2 (k + j) u ?_
 unfold ints at hu ⊢
 rw [List.getElem?_map] at hu ⊢
 rw [List.getElem?_drop] at hu
 exact hu
section
variable (A : Option Addr) (cap : Nat) (L : Option Addr) (lcap : Nat) (b : Bk)
/-- the statement goes on as it should -/
def OnlyN (I : Act → World → Prop) (e : Exit) (a : Act) (w : World) : Prop := e = .normal ∧ I a w
/-- the state while lines and pairs are added -/
structure PasS (B Rr Q : Nat) (w : World) (G : Option Addr) (gc : Nat) (xs : List NLn) (O : Option Addr) (oc : Nat) (t : Prs) (w' : World) : Prop where
 low : Below w.heap.size w w'
 bk : Cells w' B (bkV A cap L lcap b)
 res : Rr < w'.heap.size ∧ ∃ zs : List Value, zs.length = 7 ∧ Row w' Rr zs
 loc : Q < w'.heap.size ∧ Row w' Q [.slice A b.ear.alike.length cap, .string b.ear.mute, .int .i64 b.ear.slips, .slice G xs.length gc, .int .i64 b.lo, .int .i64 b.hi, .int .i64 b.lost]
 ls : w'.ownsRow (Q + 1) 81 3 (.slice G xs.length gc) xs.length (nlines xs)
 ps : w'.ownsRow (Q + 1) 51 2 (.slice O t.length oc) t.length (pairsV t)
 apart : ∀ g, (Value.slice G xs.length gc).ownBlock = some g → (Value.slice O t.length oc).ownBlock ≠ some g
variable {A cap L lcap b}
variable {B Rr Q : Nat} {w : World} {G : Option Addr} {gc : Nat} {xs : List NLn} {O : Option Addr} {oc : Nat} {t : Prs} {w' w'' : World}
theorem PasS.below (h : PasS A cap L lcap b B Rr Q w G gc xs O oc t w') (hb : Below w'.heap.size w' w'') : PasS A cap L lcap b B Rr Q w G gc xs O oc t w'' := by
 obtain ⟨z1, zs, z2, z3⟩ := h.res
 exact ⟨h.low.trans (hb.mono h.low.size), h.bk.below hb, ⟨Nat.lt_of_lt_of_le z1 hb.size, zs, z2, z3.below hb z1⟩, ⟨Nat.lt_of_lt_of_le h.loc.1 hb.size, h.loc.2.below hb h.loc.1⟩, own_below h.ls hb, own_below h.ps hb, h.apart⟩
/-- the row of lines has grown -/
theorem PasS.grown (h : PasS A cap L lcap b B Rr Q w G gc xs O oc t w') (hBQ : B < Q + 1) (hRQ : Rr < Q) (hwR : w.heap.size ≤ Q) {G2 : Option Addr} {n2 g2 : Nat}
    (q4 : w'.grownBy w'' (Value.slice G xs.length gc).ownBlock) (q5 : ∀ k, (Value.slice G2 n2 g2).ownBlock = some k → (Value.slice G xs.length gc).ownBlock = some k ∨ w'.heap.size ≤ k) :
    Below w.heap.size w w'' ∧ Cells w'' B (bkV A cap L lcap b) ∧ (Rr < w''.heap.size ∧ ∃ zs : List Value, zs.length = 7 ∧ Row w'' Rr zs) ∧ (Q < w''.heap.size ∧ Row w'' Q [.slice A b.ear.alike.length cap, .string b.ear.mute, .int .i64 b.ear.slips, .slice G xs.length gc, .int .i64 b.lo, .int .i64 b.hi, .int .i64 b.lost]) ∧
    w''.ownsRow (Q + 1) 51 2 (.slice O t.length oc) t.length (pairsV t) ∧ ∀ g, (Value.slice G2 n2 g2).ownBlock = some g → (Value.slice O t.length oc).ownBlock ≠ some g := by
 have hlow : Below (Q + 1) w' w'' := (Below.refl (Q + 1) w').grown q4 (by have := h.loc.1; omega) (fun k e => ownBlock_le h.ls k e)
 obtain ⟨z1, zs, z2, z3⟩ := h.res
 refine ⟨h.low.trans (hlow.mono (by omega)), ⟨Nat.lt_of_lt_of_le h.bk.1 hlow.size, fun j u hu => (World.cell?_of_block (w := w') (a := ⟨B, j, none⟩) (hlow.block B hBQ)).trans (h.bk.2 j u hu)⟩, ⟨Nat.lt_of_lt_of_le z1 hlow.size, zs, z2, row_of_block z3 (hlow.block Rr (by omega))⟩, ⟨Nat.lt_of_lt_of_le h.loc.1 hlow.size, row_of_block h.loc.2 (hlow.block Q (by omega))⟩, ?_, fun g hg he => ?_⟩
 ·refine h.ps.kept q4 ?_
  cases hv : (Value.slice O t.length oc).ownBlock with
  | none => exact .inl rfl
  | some g => exact .inr fun e => h.apart g e.symm hv
 ·rcases q5 g hg with e | e
  ·exact h.apart g e he
  ·have := own_lt2 h.ps g he; omega
/-- and it is told in the books -/
theorem PasS.line (h : PasS A cap L lcap b B Rr Q w G gc xs O oc t w') (hBQ : B < Q) (hRQ : Rr < Q) (hwR : w.heap.size ≤ Q) {G2 : Option Addr} {g2 : Nat} (u : NLn)
    (q3 : w''.ownsRow (Q + 1) 81 3 (.slice G2 (xs.length + 1) g2) (xs.length + 1) (nlines xs ++ u.cells))
    (q4 : w'.grownBy w'' (Value.slice G xs.length gc).ownBlock) (q5 : ∀ k, (Value.slice G2 (xs.length + 1) g2).ownBlock = some k → (Value.slice G xs.length gc).ownBlock = some k ∨ w'.heap.size ≤ k) :
    PasS A cap L lcap b B Rr Q w G2 g2 (xs ++ [u]) O oc t (w''.setCell ⟨Q, 3, none⟩ (.slice G2 (xs.length + 1) g2)) := by
 obtain ⟨k1, k2, ⟨k3, zs, k4, k5⟩, ⟨k6, k7⟩, k8, k9⟩ := h.grown (by omega) hRQ hwR q4 q5
 have hl1 : (xs ++ [u]).length = xs.length + 1 := by simp
 refine ⟨k1.setCell hwR _, ⟨by have := k2.1; simp; omega, fun j v hv => ?_⟩, ⟨by simp; omega, zs, k4, k5.other (by omega)⟩, ⟨by simp; omega, ?_⟩, ?_, ?_, ?_⟩
 ·rw [World.cell?_setCell_other _ _ _ _ (by intro e; have := congrArg Addr.block e; simp only at this; omega)]
  exact k2.2 j v hv
 ·rw [hl1]; exact k7.set (o := 3) (by simp)
 ·rw [hl1, nlines_snoc]
  exact own_other q3 _ (fun e => by have := ownBlock_le q3 _ e; omega)
 ·exact own_other k8 _ (fun e => by have := ownBlock_le k8 _ e; omega)
 ·rw [hl1]; exact k9
/-- the row of pairs has grown -/
theorem PasS.pair (h : PasS A cap L lcap b B Rr Q w G gc xs O oc t w') (hBQ : B < Q) (hRQ : Rr < Q) (hwR : w.heap.size ≤ Q) {O2 : Option Addr} {o2 : Nat} (p : Nat × Nat)
    (q3 : w''.ownsRow (Q + 1) 51 2 (.slice O2 (t.length + 1) o2) (t.length + 1) (pairsV t ++ pcells p))
    (q4 : w'.grownBy w'' (Value.slice O t.length oc).ownBlock) (q5 : ∀ k, (Value.slice O2 (t.length + 1) o2).ownBlock = some k → (Value.slice O t.length oc).ownBlock = some k ∨ w'.heap.size ≤ k) :
    PasS A cap L lcap b B Rr Q w G gc xs O2 o2 (t ++ [p]) w'' := by
 have hlow : Below (Q + 1) w' w'' := (Below.refl (Q + 1) w').grown q4 (by have := h.loc.1; omega) (fun k e => ownBlock_le h.ps k e)
 obtain ⟨z1, zs, z2, z3⟩ := h.res
 have hl1 : (t ++ [p]).length = t.length + 1 := by simp
 refine ⟨h.low.trans (hlow.mono (by omega)), ⟨Nat.lt_of_lt_of_le h.bk.1 hlow.size, fun j u hu => (World.cell?_of_block (w := w') (a := ⟨B, j, none⟩) (hlow.block B (by omega))).trans (h.bk.2 j u hu)⟩, ⟨Nat.lt_of_lt_of_le z1 hlow.size, zs, z2, row_of_block z3 (hlow.block Rr (by omega))⟩, ⟨Nat.lt_of_lt_of_le h.loc.1 hlow.size, row_of_block h.loc.2 (hlow.block Q (by omega))⟩, ?_, ?_, fun g hg he => ?_⟩
 ·refine h.ls.kept q4 ?_
  cases hv : (Value.slice G xs.length gc).ownBlock with
  | none => exact .inl rfl
  | some g => exact .inr fun e => h.apart g hv e.symm
 ·rw [hl1, show pairsV (t ++ [p]) = pairsV t ++ pcells p by simp [pairsV]]
  exact q3
 ·rw [hl1] at he
  rcases q5 g he with e | e
  ·exact h.apart g hg e
  ·have := own_lt2 h.ls g hg; omega
/-- the last line's book is told again -/
theorem PasS.book {u : NLn} (h : PasS A cap L lcap b B Rr Q w G gc (xs ++ [u]) O oc t w') (hBQ : B < Q) (hRQ : Rr < Q) (hwR : w.heap.size ≤ Q) {g : Nat} (hg : (Value.slice G (xs ++ [u]).length gc).ownBlock = some g) (k : Int) :
    PasS A cap L lcap b B Rr Q w G gc (xs ++ [{ u with book := k }]) O oc t (w'.setCell ⟨g, xs.length * 3, none⟩ (.int .i64 k)) := by
 have hgQ := ownBlock_le h.ls g hg
 obtain ⟨z1, zs, z2, z3⟩ := h.res
 have hl1 : (xs ++ [u]).length = (xs ++ [{ u with book := k }]).length := by simp
 refine ⟨h.low.setCell (by show w.heap.size ≤ g; omega) _, ⟨by have := h.bk.1; simp; omega, fun j v hv => ?_⟩, ⟨by simp; omega, zs, z2, z3.other (by omega)⟩, ⟨by have := h.loc.1; simp; omega, ?_⟩, ?_, ?_, ?_⟩
 ·rw [World.cell?_setCell_other _ _ _ _ (by intro e; have := congrArg Addr.block e; simp only at this; omega)]
  exact h.bk.2 j v hv
 ·rw [← hl1]; exact h.loc.2.other (by omega)
 ·have := own_set h.ls hg (o := xs.length * 3) (.int .i64 k)
  rw [lines_set] at this
  rw [← hl1]; exact this
 ·exact own_other h.ps _ (fun e => h.apart g hg e)
 ·rw [← hl1]; exact h.apart
end
section
variable (A : Option Addr) (cap : Nat) (L : Option Addr) (lcap : Nat) (b : Bk)
set_option maxRecDepth 100000 in
set_option maxHeartbeats 8000000 in
theorem passed_any (ho : b.ok = true) (T : Option Addr) (tc : Nat) (ns : List Int) (w : World) (hM : BkAt w A L b) (hs : b.small cap lcap) (hT : Arr w w.heap.size T (ints ns)) (hn : ns.length ≤ 9223372036854775807) (htc : ns.length ≤ tc) :
    Calls Try.prog 17 #[.agg (bkV A cap L lcap b).toArray, .slice T ns.length tc] w fun e w' => (∃ (A' : Option Addr) (cap' : Nat) (xs : List NLn) (t : Prs) (O : Option Addr) (oc : Nat), e = .returned (.tuple #[.agg (bkV A cap A' cap' { b with lines := xs, lost := (xs.length : Int) - 2 * t.length }).toArray, .slice O t.length oc]) ∧ xs.length ≤ cap' ∧ BkAt w' A A' { b with lines := xs, lost := (xs.length : Int) - 2 * t.length } ∧ Arr w' w'.heap.size O (pairsV t) ∧ xs.length ≤ 9 ∧ (∀ x ∈ xs, lineB x = true) ∧ StepP b xs 0 t) ∧ Below w.heap.size w w' := by
 obtain ⟨he, h9, ⟨p1, p2, p3⟩, _, hlines⟩ := bk_parts ho
 obtain ⟨e1, e2, e3, e4, e5⟩ := ear_lens he
 have HLN := hid hlines
 have HD : Hid (∀ i : Nat, ∃ d : Int, b.lo + windI (nthI ns (2 * (i : Int))) (b.hi - b.lo + 1) = d ∧ b.lo ≤ d ∧ d ≤ b.hi) := hid fun i => by
  have := windI_range (nthI ns (2 * (i : Int))) (b.hi - b.lo + 1) (by omega)
  exact ⟨_, rfl, by omega, by omega⟩
 clear hlines ho he
 simp only [bkV]
 refine enterE Try.func17 rfl Try.ntmps17 (by simp) (fun a hE => ?_); simp only [envOf, Nat.zero_add, Nat.reduceAdd] at hE
 refine Ks ?_
 refine Rs 3 fun Q' K hK => ?_
 refine M1 hE 0 fun K' J ρ q0 => ?_; go_simp; (try clear q0)
 refine Ln hE J fun _ Eb => ?_; clear J K' hE a
 refine M0 fun K' J ρ => ?_; go_simp;
 refine Ln Eb J fun _ Ea => ?_; clear J K' Eb
 refine M0 fun K' J ρ => ?_; go_simp;
 refine Ln Ea J fun _ Eb => ?_; clear J K' Ea
 refine late_done [1, 2, 4, 5] Eb hK (fun a hE => ?_); clear hK K Q' Eb; simp only [lk, pick, Nat.reduceEqDiff, ↓reduceIte] at hE
 obtain ⟨B, hB⟩ : ∃ B, B = w.heap.size := ⟨_, rfl⟩
 obtain ⟨R, hR⟩ : ∃ B, B = w.heap.size + 1 := ⟨_, rfl⟩
 rw [← hR, ← hB] at hE
 refine world_cut (fun wt => Below w.heap.size w wt ∧ Cells wt B (bkV A cap L lcap b) ∧ R < wt.heap.size ∧ ∃ zs : List Value, zs.length = 7 ∧ Row wt R zs) ?_ (fun w1 hC => ?_)
 ·rw [hB, hR]
  obtain ⟨q1, q2, q3, q4⟩ := box_row w _ _ _ _
  exact ⟨q1, q2, q3, _, rfl, q4⟩
 obtain ⟨hb1, hCB, hlR, hRR⟩ := hC
 have hnB : w.heap.size ≤ B := by omega
 have hBR : B < R := by omega
 clear hB hR
 have hCB0 := hCB
 simp only [bkV] at hCB
 have nB := hCB.1; have cB0 := hCB.2 0 _ rfl; have cB1 := hCB.2 1 _ rfl; have cB2 := hCB.2 2 _ rfl; have cB3 := hCB.2 3 _ rfl; have cB4 := hCB.2 4 _ rfl; have cB5 := hCB.2 5 _ rfl; have cB6 := hCB.2 6 _ rfl
 refine Ks ?_
 refine Rs 3 fun Q' K hK => ?_
 refine M1 hE 2 fun K' J ρ q2 => ?_; go_simp; (try clear q2)
 refine Ln hE J fun _ Eb => ?_; clear J K' hE a
 refine M0 fun K' J ρ => ?_; go_simp;
 refine Ln Eb J fun _ Ea => ?_; clear J K' Eb
 refine M2 Ea 6 12 fun K' J ρ q6 q12 => ?_; go_simp; (try clear q6 q12)
 refine late_skip Ea J (fun _ Eb => ?_); clear J K'; clear Ea
 refine late_done [1, 2, 4, 6] Eb hK (fun a hE => ?_); clear hK K Q' Eb; simp only [lk, pick, Nat.reduceEqDiff, ↓reduceIte] at hE
 obtain ⟨Q, hQe⟩ : ∃ B, B = w1.heap.size := ⟨_, rfl⟩; have hnQ : w1.heap.size ≤ Q := Nat.le_of_eq hQe.symm; rw [← hQe] at hE; refine world_cut (fun wt => Below w1.heap.size w1 wt ∧ Q < wt.heap.size ∧ Row wt Q (bkV A cap L lcap b)) ⟨(Below.refl _ _).alloc (Nat.le_refl _) _, by rw [hQe]; simp, by rw [hQe]; exact row_new _ _ _⟩ (fun w2 hCut => ?_); obtain ⟨hbw2, hlQ, hRQ⟩ := hCut; clear hQe
 have hRQ' : R < Q := by omega
 have hBQ : B < Q := by omega
 have hwQ : w.heap.size ≤ Q := by omega
 have y3 := (hRQ 3 _ rfl).2
 clear nB cB0 cB1 cB2 cB3 cB4 cB5 cB6 hCB
 refine Ks ?_
 refine Rs 2 fun Q' K hK => ?_
 refine M1 hE 6 fun K' J ρ q6 => ?_; go_simp; (try clear q6)
 refine Ln hE J fun _ Eb => ?_; clear J K' hE a
 refine M1 Eb 13 fun K' J ρ q13 => ?_; go_simp; (try clear q13)
 refine late_skip Eb J (fun _ Ea => ?_); clear J K'; clear Eb
 refine late_done [1, 2, 4, 6] Ea hK (fun a hE => ?_); clear hK K Q' Ea; simp only [lk, pick, Nat.reduceEqDiff, ↓reduceIte] at hE
 refine world_cut (fun wt => PasS A cap L lcap b B R Q w none 0 [] none 0 [] wt) ⟨(hb1.trans (hbw2.mono hb1.size)).setCell hwQ _, ?_, ⟨by have := hbw2.size; simp; omega, ?_⟩, ⟨by simp; omega, hRQ.set (o := 3) (by simp [bkV])⟩, own_nil _ _ _ _, own_nil _ _ _ _, fun g hg => by cases hg⟩ (fun w3 hS => ?_)
 ·have := hCB0.below hbw2
  exact ⟨by have := this.1; simp; omega, fun j u hu => by rw [World.cell?_setCell_other _ _ _ _ (by intro e; have := congrArg Addr.block e; simp only at this; omega)]; exact this.2 j u hu⟩
 ·obtain ⟨zs, q1, q2⟩ := hRR
  exact ⟨zs, q1, (q2.below hbw2 hlR).other (by omega)⟩
 clear y3 hRQ hRR hCB0 hlR hlQ hbw2 hb1 hnQ
 refine Ks ?_
 refine Rs 1 fun Q' K hK => ?_
 refine M0 fun K' J ρ => ?_; go_simp;
 refine Ln hE J fun _ Eb => ?_; clear J K' hE a
 refine late_done [1, 2, 4, 6, 7] Eb hK (fun a hE => ?_); clear hK K Q' Eb; simp only [lk, pick, Nat.reduceEqDiff, ↓reduceIte] at hE
 refine Ks ?_
 refine Rs 1 fun Q' K hK => ?_
 refine M0 fun K' J ρ => ?_; go_simp;
 refine Ln hE J fun _ Eb => ?_; clear J K' hE a
 refine late_done [1, 2, 4, 6, 7, 8] Eb hK (fun a hE => ?_); clear hK K Q' Eb; simp only [lk, pick, Nat.reduceEqDiff, ↓reduceIte] at hE
 refine Ks ?_
 refine loop_st (fun (i : Nat) a w' => ∃ (G : Option Addr) (gc : Nat) (xs : List NLn) (O : Option Addr) (oc : Nat) (t : Prs), i ≤ b.lines.length ∧ Fits 121 [(1, .slice T ns.length tc), (2, .pointer (some ⟨B, 0, none⟩)), (4, .pointer (some ⟨R, 0, none⟩)), (6, .pointer (some ⟨Q, 0, none⟩)), (7, .slice O t.length oc), (8, .int .i64 i)] a ∧ PasS A cap L lcap b B R Q w G gc xs O oc t w' ∧ xs.length ≤ 9 ∧ (∀ x ∈ xs, lineB x = true) ∧ StepP b xs 0 t) (fun i => b.lines.length - i) 0 ?_ (fun i a w' hI => ?_)
 ·exact ⟨none, 0, [], none, 0, [], Nat.zero_le _, by simpa using hE, hS, by simp, fun x hx => (by cases hx), trivial⟩
 clear hE hS
 obtain ⟨G, gc, xs, O, oc, t, hi, hE, hS, hx9, hxl, hst⟩ := hI
 have HXL := hid hxl
 have HST := hid hst
 have ht9 : t.length ≤ 9 := by
  rcases hst.len with h | h
  ·omega
  ·rw [h]; exact Nat.zero_le _
 clear hxl hst
 obtain ⟨wr, hwr⟩ : ∃ x, x = w' := ⟨_, rfl⟩
 subst hwr
 have hCr := hS.bk
 simp only [bkV] at hCr
 have nB := hCr.1
 have cB3 := hCr.2 3 _ rfl
 have nQ := hS.loc.1
 have cQ3 := (hS.loc.2 3 _ rfl).1
 refine Ks ?_
 refine Rs 12 fun Q' K hK => ?_
 refine M1 hE 8 fun K' J ρ q8 => ?_; go_simp; (try clear q8)
 refine Ln hE J fun _ Eb => ?_; clear J K' hE a
 refine M1 Eb 2 fun K' J ρ q2 => ?_; go_simp; (try clear q2)
 refine Ln Eb J fun _ Ea => ?_; clear J K' Eb
 refine M1 Ea 15 fun K' J ρ q15 => ?_; go_simp; (try clear q15)
 refine Ln Ea J fun _ Eb => ?_; clear J K' Ea
 refine M1 Eb 16 fun K' J ρ q16 => ?_; go_simp; (try go_bits); (try clear q16)
 refine Ln Eb J fun _ Ea => ?_; clear J K' Eb
 refine M2 Ea 14 17 fun K' J ρ q14 q17 => ?_; go_simp; (try go_bits); (try clear q14 q17)
 refine Ln Ea J fun _ Eb => ?_; clear J K' Ea
 refine M1 Eb 18 fun K' J ρ q18 => ?_; go_simp; (try clear q18)
 refine Ln Eb J fun _ Ea => ?_; clear J K' Eb
 refine Late.may Ea (d' := 20) (by decide) (by (first | (simp only [List.getElem?_toArray, List.getElem?_cons_succ, List.getElem?_cons_zero]; rfl) | rfl)) rfl rfl (d := 19) (by kernel_rfl) rfl ?_ (fun hx K' J => ?_) (fun _ Eb => ?_); rotate_left 1
 ·have hx0 := hx; (try simp only [beq_iff_eq, Bool.and_eq_true, Bool.beq_true, Bool.beq_false, Bool.not_eq_true', beq_eq_false_iff_ne] at hx); have r6 := Ea.at 6 rfl; clear hx0
  refine o1 r6 fun ρ q6 => ?_; go_simp;
  refine put_eq J ?_; rfl
 clear Ea
 refine Late.may Eb (d' := 21) (by decide) (by (first | (simp only [List.getElem?_toArray, List.getElem?_cons_succ, List.getElem?_cons_zero]; rfl) | rfl)) rfl rfl (d := 19) (by kernel_rfl) rfl ?_ (fun hx K' J => ?_) (fun _ Ea => ?_); rotate_left 1
 ·have hx0 := hx; (try simp only [beq_iff_eq, Bool.and_eq_true, Bool.beq_true, Bool.beq_false, Bool.not_eq_true', beq_eq_false_iff_ne] at hx); have r20 := Eb.at 20 rfl; (try simp only [hx0, may_true] at r20); clear hx0
  refine o1 r20 fun ρ q20 => ?_; go_simp;
  refine put_eq J ?_; rfl
 clear Eb
 refine Late.may Ea (d' := 22) (by decide) (by (first | (simp only [List.getElem?_toArray, List.getElem?_cons_succ, List.getElem?_cons_zero]; rfl) | rfl)) rfl rfl (d := 19) (by kernel_rfl) rfl ?_ (fun hx K' J => ?_) (fun _ Eb => ?_); rotate_left 1
 ·have hx0 := hx; (try simp only [beq_iff_eq, Bool.and_eq_true, Bool.beq_true, Bool.beq_false, Bool.not_eq_true', beq_eq_false_iff_ne] at hx); have r21 := Ea.at 21 rfl; (try simp only [hx0, may_true] at r21); clear hx0
  refine o1 r21 fun ρ q21 => ?_; go_simp; (try go_bits);
  refine put_eq J ?_; rfl
 clear Ea
 refine Late.may Eb (d' := 23) (by decide) (by (first | (simp only [List.getElem?_toArray, List.getElem?_cons_succ, List.getElem?_cons_zero]; rfl) | rfl)) rfl rfl (d := 19) (by kernel_rfl) rfl ?_ (fun hx K' J => ?_) (fun _ Ea => ?_); rotate_left 1
 ·have hx0 := hx; (try simp only [beq_iff_eq, Bool.and_eq_true, Bool.beq_true, Bool.beq_false, Bool.not_eq_true', beq_eq_false_iff_ne] at hx); have r22 := Eb.at 22 rfl; (try simp only [hx0, may_true] at r22); clear hx0
  refine o1 r22 fun ρ q22 => ?_; go_simp; (try go_bits); (try simp (disch := omega) only [IntWalk.i64_in]);
  refine put_eq J ?_; rfl
 clear Eb
 refine Late.may Ea (d' := 24) (by decide) (by (first | (simp only [List.getElem?_toArray, List.getElem?_cons_succ, List.getElem?_cons_zero]; rfl) | rfl)) rfl rfl (d := 19) (by kernel_rfl) rfl ?_ (fun hx K' J => ?_) (fun _ Eb => ?_); rotate_left 1
 ·have hx0 := hx; (try simp only [beq_iff_eq, Bool.and_eq_true, Bool.beq_true, Bool.beq_false, Bool.not_eq_true', beq_eq_false_iff_ne] at hx); have r23 := Ea.at 23 rfl; (try simp only [hx0, may_true] at r23); clear hx0
  refine o1 r23 fun ρ q23 => ?_; go_simp; (try go_bits);
  refine put_eq J ?_; rfl
 clear Ea
 refine M2 Eb 19 24 fun K' J ρ q19 q24 => ?_; go_simp; (try go_bits); (try clear q19 q24)
 refine Ln Eb J fun _ Ea => ?_; clear J K' Eb
 replace Ea := Ea.turn 25 (v' := .bool (decide ((i : Int) < b.lines.length) && decide ((xs.length : Int) + 2 ≤ 9))) rfl (by (by_cases e : i < b.lines.length <;> simp [e, may]))
 refine late_done [1, 2, 4, 6, 7, 8, 25] Ea hK (fun a hE => ?_); clear hK K Q' Ea; simp only [lk, pick, Nat.reduceEqDiff, ↓reduceIte] at hE
 refine Ks ?_
 refine cond_part hE (t := 25) rfl (fun h => ?_) (fun h => ?_)
 ·rw [Bool.and_eq_true, decide_eq_true_eq, decide_eq_true_eq] at h
  obtain ⟨hltI, hx7I⟩ := h
  have hlt : i < b.lines.length := by omega
  have hx7 : xs.length + 2 ≤ 9 := by omega
  have hM1 := hM.below hS.low
  obtain ⟨bx, ox, rfl, hbx, x0, x1, x2⟩ := hM1.2.nl hlt
  have hXl := HLN.out i hlt
  obtain ⟨X, hX⟩ : ∃ X, b.lines[i] = X := ⟨_, rfl⟩
  rw [hX] at x0 x1 x2 hXl
  have hXp : (0 ≤ X.book ∧ X.book ≤ 1) ∧ (0 ≤ X.minute ∧ X.minute ≤ 1439) ∧ nameB X.heard.data.toList = true := by
   unfold lineB at hXl
   simp only [Bool.and_eq_true, decide_eq_true_eq] at hXl
   exact ⟨hXl.1.1, hXl.1.2, hXl.2⟩
  obtain ⟨⟨b0, b1⟩, ⟨m0, m1⟩, hnm⟩ := hXp
  have HXN := hid hnm
  have hX12 := name_short hnm
  obtain ⟨d, hd1, hd2, hd3⟩ := HD.out i
  have HDE := hid hd1
  clear hX hd1 hnm hXl
  refine Ks ?_
  refine Rs 7 fun Q' K hK => ?_
  refine M1 hE 2 fun K' J ρ q2 => ?_; go_simp; (try clear q2)
  refine Ln hE J fun _ Eb => ?_; clear J K' hE a
  refine M1 Eb 28 fun K' J ρ q28 => ?_; go_simp; (try clear q28)
  refine Ln Eb J fun _ Ea => ?_; clear J K' Eb
  refine M1 Ea 8 fun K' J ρ q8 => ?_; go_simp; (try clear q8)
  refine Ln Ea J fun _ Eb => ?_; clear J K' Ea
  refine M2 Eb 29 30 fun K' J ρ q29 q30 => ?_; go_simp; (try go_bits); (try clear q29 q30)
  refine Ln Eb J fun _ Ea => ?_; clear J K' Eb
  refine M1 Ea 31 fun K' J ρ q31 => ?_; go_simp; (try clear q31)
  refine Ln Ea J fun _ Eb => ?_; clear J K' Ea
  refine M0 fun K' J ρ => ?_; go_simp;
  refine Ln Eb J fun _ Ea => ?_; clear J K' Eb
  refine M2 Ea 9 32 fun K' J ρ q9 q32 => ?_; go_simp; (try clear q9 q32)
  refine late_skip Ea J (fun _ Eb => ?_); clear J K'; clear Ea
  refine late_done [1, 2, 4, 6, 7, 8, 9] Eb hK (fun a hE => ?_); clear hK K Q' Eb; simp only [lk, pick, Nat.reduceEqDiff, ↓reduceIte] at hE
  obtain ⟨Y, hYe⟩ : ∃ B, B = wr.heap.size := ⟨_, rfl⟩; have hnY : wr.heap.size ≤ Y := Nat.le_of_eq hYe.symm; rw [← hYe] at hE; refine world_cut (fun wt => Below wr.heap.size wr wt ∧ Y < wt.heap.size ∧ Row wt Y [.int .i64 X.book, .int .i64 X.minute, .string X.heard]) ⟨(Below.refl _ _).alloc (Nat.le_refl _) _, by rw [hYe]; simp, by rw [hYe]; exact row_new _ _ _⟩ (fun w4 hCut => ?_); obtain ⟨hbw4, hlY, hRY⟩ := hCut; clear hYe
  have hCY := row_cells hRY hlY
  have hS4 := hS.below hbw4
  have hYQ : Q < Y := by have := hS.loc.1; omega
  have hYg : (Value.slice G xs.length gc).ownBlock ≠ some Y := fun e => by have := own_lt2 hS.ls Y e; omega
  clear hRY hlY hnY
  clear nB cB3 nQ cQ3 hCr x0 x1 x2 hS hbw4
  have nQ := hS4.loc.1
  have cQ3 := (hS4.loc.2 3 _ rfl).1
  refine Ks ?_
  refine Rs 4 fun Q' K hK => ?_
  refine M1 hE 6 fun K' J ρ q6 => ?_; go_simp; (try clear q6)
  refine Ln hE J fun _ Eb => ?_; clear J K' hE a
  refine M1 Eb 33 fun K' J ρ q33 => ?_; go_simp; (try clear q33)
  refine Ln Eb J fun _ Ea => ?_; clear J K' Eb
  refine M1 Ea 34 fun K' J ρ q34 => ?_; go_simp; (try go_bits); (try clear q34)
  refine Ln Ea J fun _ Eb => ?_; clear J K' Ea
  refine M1 Eb 35 fun K' J ρ q35 => ?_; go_simp; (try clear q35)
  refine Ln Eb J fun _ Ea => ?_; clear J K' Eb
  refine late_done [1, 2, 4, 6, 7, 8, 9, 10] Ea hK (fun a hE => ?_); clear hK K Q' Ea; simp only [lk, pick, Nat.reduceEqDiff, ↓reduceIte] at hE
  refine Ks ?_
  have nY := hCY.1; have cY1 := hCY.2 1 _ rfl; have cY2 := hCY.2 2 _ rfl
  refine Rd [8, 9, 10] (fun wt => Below w4.heap.size w4 wt) (fun w1 w2 => Below w1.heap.size w1 w2) [(0, some 36), (1, some 37), (2, some 38), (3, some 39), (4, some 40), (5, some 41), (6, some 42), (7, some 43)] [36, 37, 38, 39, 40, 41, 42, 43] #[true, true, true, true, true, true, true, true, false, false, false] [1, 2, 4, 6, 7, 8, 9, 10] hE ((Below.refl _ _).drew) fun Q' K hK => ?_
  refine SeqOps.val ?_ (Sp fun ax wx hS hT' hd K' J => ?_) ?_; rotate_left 1
  ·have r6 := hS.at 6 (by decide) (hE.at 6 rfl); obtain ⟨hcT, hfT, hlT, hmT, hwT, hzT⟩ := bT hT'
   refine o1 r6 fun ρ q6 => ?_; go_simp;
   exact Jo J hT'
  refine SeqOps.val ?_ (Sp fun ax wx hS hT' hd K' J => ?_) ?_; rotate_left 1
  ·have r36 := Tv hd 0 0 36; obtain ⟨hcT, hfT, hlT, hmT, hwT, hzT⟩ := bT hT'
   refine o1 r36 fun ρ q36 => ?_; go_simp;
   exact Jo J hT'
  refine SeqOps.val ?_ (Sp fun ax wx hS hT' hd K' J => ?_) ?_; rotate_left 1
  ·have r9 := hS.at 9 (by decide) (hE.at 9 rfl); obtain ⟨hcT, hfT, hlT, hmT, hwT, hzT⟩ := bT hT'
   refine o1 r9 fun ρ q9 => ?_; go_simp;
   exact Jo J hT'
  refine SeqOps.val ?_ (Sp fun ax wx hS hT' hd K' J => ?_) ?_; rotate_left 1
  ·have r38 := Tv hd 0 2 38; obtain ⟨hcT, hfT, hlT, hmT, hwT, hzT⟩ := bT hT'
   refine o1 r38 fun ρ q38 => ?_; go_simp;
   exact Jo J hT'
  refine SeqOps.val ?_ (Sp fun ax wx hS hT' hd K' J => ?_) ?_; rotate_left 1
  ·have r9 := hS.at 9 (by decide) (hE.at 9 rfl); obtain ⟨hcT, hfT, hlT, hmT, hwT, hzT⟩ := bT hT'
   refine o1 r9 fun ρ q9 => ?_; go_simp;
   exact Jo J hT'
  refine SeqOps.val ?_ (Sp fun ax wx hS hT' hd K' J => ?_) ?_; rotate_left 1
  ·have r40 := Tv hd 0 4 40; obtain ⟨hcT, hfT, hlT, hmT, hwT, hzT⟩ := bT hT'
   refine o1 r40 fun ρ q40 => ?_; go_simp;
   exact Jo J hT'
  refine SeqOps.val ?_ (Sp fun ax wx hS hT' hd K' J => ?_) ?_; rotate_left 1
  ·have r39 := Tv hd 2 3 39; have r41 := Tv hd 0 5 41; obtain ⟨hcT, hfT, hlT, hmT, hwT, hzT⟩ := bT hT'
   refine Go.Proofs.Ytbimkcjdodgojaa.o2 r39 r41 fun ρ q39 q41 => ?_; go_simp; (try go_bits);
   go_at_call 56; refine (line_any _ _ _ _).mono ?_; rintro e g1 ⟨rfl, k1⟩
   refine J.out _ _ _ rfl ?_ (hT'.trans (k1.mono hT'.size)) k1; rfl
  refine SeqOps.say (fun v wt => ∃ H, v = .slice (some ⟨H, 0, none⟩) 1 1 ∧ Arr wt wt.heap.size (some ⟨H, 0, none⟩) (NLn.cells ⟨0, X.minute, X.heard⟩)) (fun _ _ _ hR ⟨H, e, h⟩ => ⟨H, e, (h.below hR).more hR.size⟩) (Sp fun ax wx hS hT' hd K' J => ?_) ?_
  ·have r42 := Tv hd 0 6 42; obtain ⟨hcT, hfT, hlT, hmT, hwT, hzT⟩ := bT hT'
   refine o1 r42 fun ρ q42 => ?_; go_simp;
   exact J.out _ _ _ rfl ⟨_, rfl, (arr_new wx _ _).more (by simp)⟩ (hT'.trans (((Below.refl _ _).alloc (Nat.le_refl _) _).mono hT'.size)) ((Below.refl _ _).alloc (Nat.le_refl _) _)
  refine SeqOps.nil ?_
  intro w5 hBl; (repeat refine Ek ?_); (refine fun v h => ?_; obtain ⟨H, rfl, hH⟩ := h);
  refine fun ax hEx => ?_
  simp only [lk, pick, Nat.reduceEqDiff, ↓reduceIte] at hEx
  refine Lp fun K' J => ?_
  have r37 := hEx.at 37 rfl; have r43 := hEx.at 43 rfl
  have hS5 := hS4.below hBl
  refine wp_appN (.tmp 37) (.tmp 43) 31 rfl (Q + 1) 81 (.agg #[.int .i64 0, .int .i64 0, .string ⟨#[]⟩]) 3 32 Try.underlying31 (by kernel_rfl) rfl (by decide) (.slice G xs.length gc) xs.length (nlines xs) (eval_of r37) hS5.ls w5.heap.size (some ⟨H, 0, none⟩) 1 1 (NLn.cells ⟨0, X.minute, X.heard⟩) (eval_of r43) hH rfl (by intro u hu; simp [NLn.cells] at hu; rcases hu with rfl | rfl | rfl <;> rfl) (by simp only [maxLen]; omega) (by omega) (by have := hS5.loc.1; omega) (fun G2 g2 w6 q1 q2 q3 q4 q5 => ?_)
  have y3 := ((hS5.grown (by omega) hRQ' hwQ q4 q5).2.2.2.1.2 3 _ rfl).2
  (try clear r37 r43)
  refine Ln hEx J fun _ Eb => ?_; clear J K' hEx
  refine M1 Eb 6 fun K' J ρ q6 => ?_; go_simp; (try clear q6)
  refine Ln Eb J fun _ Ea => ?_; clear J K' Eb
  refine M2 Ea 45 44 fun K' J ρ q45 q44 => ?_; go_simp; (try clear q45 q44)
  refine late_skip Ea J (fun _ Eb => ?_); clear J K'; clear Ea
  refine late_done [1, 2, 4, 6, 7, 8, 9, 10] Eb hK (fun a hE => ?_); clear hK K Q' Eb; simp only [lk, pick, Nat.reduceEqDiff, ↓reduceIte] at hE
  refine world_cut (fun wt => PasS A cap (some ⟨bx, ox, none⟩) lcap b B R Q w G2 g2 (xs ++ [⟨0, X.minute, X.heard⟩]) O oc t wt ∧ Cells wt Y [.int .i64 X.book, .int .i64 X.minute, .string X.heard]) ⟨hS5.line hBQ hRQ' hwQ _ q3 q4 q5, ?_⟩ (fun w7 hC => ?_)
  ·have hY5 := hCY.below hBl
   refine ⟨by have := hY5.1; have := q4.size; simp; omega, fun j u hu => ?_⟩
   rw [World.cell?_setCell_other _ _ _ _ (by intro e; have := congrArg Addr.block e; simp only at this; omega), World.cell?_of_block (q4.block Y hY5.1 (fun e => hYg e.symm))]
   exact hY5.2 j u hu
  obtain ⟨hS7, hCY7⟩ := hC
  clear nQ cQ3 nY cY1 cY2 y3 hCY hS4 hS5 hBl hH q1 q2 q3 q4 q5
  have hl1 : (xs ++ [(⟨0, X.minute, X.heard⟩ : NLn)]).length = xs.length + 1 := by simp
  have hMS7 := hM.below hS7.low
  have hTS7 := (hT.below hS7.low).more hS7.low.size
  have hCr := hS7.bk
  simp only [bkV] at hCr
  have nB := hCr.1
  have cB4 := hCr.2 4 _ rfl
  have cB5 := hCr.2 5 _ rfl
  have nY := hCY7.1
  have cY1 := hCY7.2 1 _ rfl
  refine Ks ?_
  refine Rd [10] (fun wt => Below w7.heap.size w7 wt) (fun w1 w2 => Below w1.heap.size w1 w2) [(0, some 46), (1, some 47), (2, some 48), (3, some 49), (4, some 50), (5, some 51), (6, some 52), (7, some 53), (8, some 54), (9, some 55)] [46, 47, 48, 49, 50, 51, 52, 53, 54, 55] #[true, true, true, true, true, true, true, true, true, true, false] [1, 2, 4, 6, 7, 8, 9, 10, 11] hE ((Below.refl _ _).drew) fun Q' K hK => ?_
  refine SeqOps.val ?_ (Sp fun ax wx hS hT' hd K' J => ?_) ?_; rotate_left 1
  ·have r9 := hS.at 9 (by decide) (hE.at 9 rfl); obtain ⟨hcT, hfT, hlT, hmT, hwT, hzT⟩ := bT hT'
   refine o1 r9 fun ρ q9 => ?_; go_simp;
   exact Jo J hT'
  refine SeqOps.val ?_ (Sp fun ax wx hS hT' hd K' J => ?_) ?_; rotate_left 1
  ·have r46 := Tv hd 0 0 46; obtain ⟨hcT, hfT, hlT, hmT, hwT, hzT⟩ := bT hT'
   refine o1 r46 fun ρ q46 => ?_; go_simp;
   exact Jo J hT'
  refine SeqOps.val ?_ (Sp fun ax wx hS hT' hd K' J => ?_) ?_; rotate_left 1
  ·have r2 := hS.at 2 (by decide) (hE.at 2 rfl); obtain ⟨hcT, hfT, hlT, hmT, hwT, hzT⟩ := bT hT'
   refine o1 r2 fun ρ q2 => ?_; go_simp;
   exact Jo J hT'
  refine SeqOps.val ?_ (Sp fun ax wx hS hT' hd K' J => ?_) ?_; rotate_left 1
  ·have r48 := Tv hd 0 2 48; obtain ⟨hcT, hfT, hlT, hmT, hwT, hzT⟩ := bT hT'
   refine o1 r48 fun ρ q48 => ?_; go_simp;
   exact Jo J hT'
  refine SeqOps.val ?_ (Sp fun ax wx hS hT' hd K' J => ?_) ?_; rotate_left 1
  ·have r1 := hS.at 1 (by decide) (hE.at 1 rfl); obtain ⟨hcT, hfT, hlT, hmT, hwT, hzT⟩ := bT hT'
   refine o1 r1 fun ρ q1 => ?_; go_simp;
   exact Jo J hT'
  refine SeqOps.val ?_ (Sp fun ax wx hS hT' hd K' J => ?_) ?_; rotate_left 1
  ·have r8 := hS.at 8 (by decide) (hE.at 8 rfl); obtain ⟨hcT, hfT, hlT, hmT, hwT, hzT⟩ := bT hT'
   refine o1 r8 fun ρ q8 => ?_; go_simp;
   exact Jo J hT'
  refine SeqOps.val ?_ (Sp fun ax wx hS hT' hd K' J => ?_) ?_; rotate_left 1
  ·have r51 := Tv hd 0 5 51; obtain ⟨hcT, hfT, hlT, hmT, hwT, hzT⟩ := bT hT'
   refine o1 r51 fun ρ q51 => ?_; go_simp; (try go_bits); (try simp (disch := omega) only [IntWalk.i64_in]);
   exact Jo J hT'
  refine SeqOps.val ?_ (Sp fun ax wx hS hT' hd K' J => ?_) ?_; rotate_left 1
  ·have r50 := Tv hd 2 4 50; have r52 := Tv hd 0 6 52; obtain ⟨hcT, hfT, hlT, hmT, hwT, hzT⟩ := bT hT'
   refine Go.Proofs.Ytbimkcjdodgojaa.o2 r50 r52 fun ρ q50 q52 => ?_; go_simp; (try go_bits);
   go_at_call 58; refine (nth_any T tc ns (2 * (i : Int)) _ ((hTS7.below hT').more hT'.size) hn).mono ?_; rintro e g1 ⟨rfl, k1⟩
   refine J.out _ _ _ rfl ?_ (hT'.trans (k1.mono hT'.size)) k1; rfl
  refine SeqOps.val ?_ (Sp fun ax wx hS hT' hd K' J => ?_) ?_; rotate_left 1
  ·have r49 := Tv hd 4 3 49; have r53 := Tv hd 0 7 53; obtain ⟨hcT, hfT, hlT, hmT, hwT, hzT⟩ := bT hT'
   refine Go.Proofs.Ytbimkcjdodgojaa.o2 r49 r53 fun ρ q49 q53 => ?_; go_simp; (try go_bits);
   go_at_call 57; refine (some_any b.lo b.hi _ _ (by omega) (by omega) p2).mono ?_; rw [HDE.out]; rintro e g1 ⟨rfl, k1⟩
   refine J.out _ _ _ rfl ?_ (hT'.trans (k1.mono hT'.size)) k1; rfl
  refine SeqOps.val ?_ (Sp fun ax wx hS hT' hd K' J => ?_) ?_; rotate_left 1
  ·have r47 := Tv hd 7 1 47; have r54 := Tv hd 0 8 54; obtain ⟨hcT, hfT, hlT, hmT, hwT, hzT⟩ := bT hT'
   refine Go.Proofs.Ytbimkcjdodgojaa.o2 r47 r54 fun ρ q47 q54 => ?_; go_simp; (try go_bits); (try simp (disch := omega) only [IntWalk.i64_in]);
   exact Jo J hT'
  refine SeqOps.nil ?_
  intro w8 hBl; (repeat refine Ek ?_)
  refine fun ax hEx => ?_
  simp only [lk, pick, Nat.reduceEqDiff, ↓reduceIte] at hEx
  refine M1 hEx 55 fun K' J ρ q55 => ?_; go_simp; (try clear q55)
  refine Ln hEx J fun _ Eb => ?_; clear J K' hEx
  refine late_done [1, 2, 4, 6, 7, 8, 9, 10, 11] Eb hK (fun a hE => ?_); clear hK K Q' Eb; simp only [lk, pick, Nat.reduceEqDiff, ↓reduceIte] at hE
  replace hS7 := hS7.below hBl
  replace hCY7 := hCY7.below hBl
  replace hTS7 := (hTS7.below hBl).more hBl.size
  clear nB cB4 cB5 nY cY1 hCr hBl hMS7
  refine then_n ?_
  refine wp_seq ?_
  refine wp_mono (Q := OnlyN fun a' v => ∃ z : Int, (z = X.minute + d ∨ z = X.minute - d) ∧ z ≤ 1439 ∧ Fits 121 [(1, .slice T ns.length tc), (2, .pointer (some ⟨B, 0, none⟩)), (4, .pointer (some ⟨R, 0, none⟩)), (6, .pointer (some ⟨Q, 0, none⟩)), (7, .slice O t.length oc), (8, .int .i64 i), (9, .pointer (some ⟨Y, 0, none⟩)), (10, .int .i64 xs.length), (11, .int .i64 z)] a' ∧ Below w8.heap.size w8 v) ?_ (fun e a v hI => ?_)
  ·refine Ks ?_
   refine Rs 2 fun Q' K hK => ?_
   refine M1 hE 11 fun K' J ρ q11 => ?_; go_simp; (try clear q11)
   refine Ln hE J fun _ Eb => ?_; clear J K' hE a
   refine M1 Eb 56 fun K' J ρ q56 => ?_; go_simp; (try go_bits); (try clear q56)
   refine Ln Eb J fun _ Ea => ?_; clear J K' Eb
   refine late_done [1, 2, 4, 6, 7, 8, 9, 10, 11, 57] Ea hK (fun a hE => ?_); clear hK K Q' Ea; simp only [lk, pick, Nat.reduceEqDiff, ↓reduceIte] at hE
   refine Ks ?_
   refine cond_part hE (t := 57) rfl (fun h => ?_) (fun h => ?_)
   ·have hgt : 1439 < X.minute + d := by have := of_decide_eq_true h; omega
    clear h
    have hCr := hS7.bk
    simp only [bkV] at hCr
    have nB := hCr.1
    have cB4 := hCr.2 4 _ rfl
    have cB5 := hCr.2 5 _ rfl
    have nY := hCY7.1
    have cY1 := hCY7.2 1 _ rfl
    refine Ks ?_
    refine Rd [10] (fun wt => Below w8.heap.size w8 wt) (fun w1 w2 => Below w1.heap.size w1 w2) [(0, some 58), (1, some 59), (2, some 60), (3, some 61), (4, some 62), (5, some 63), (6, some 64), (7, some 65), (8, some 66), (9, some 67)] [58, 59, 60, 61, 62, 63, 64, 65, 66, 67] #[true, true, true, true, true, true, true, true, true, true, false] [1, 2, 4, 6, 7, 8, 9, 10, 11] hE ((Below.refl _ _).drew) fun Q' K hK => ?_
    refine SeqOps.val ?_ (Sp fun ax wx hS hT' hd K' J => ?_) ?_; rotate_left 1
    ·have r9 := hS.at 9 (by decide) (hE.at 9 rfl); obtain ⟨hcT, hfT, hlT, hmT, hwT, hzT⟩ := bT hT'
     refine o1 r9 fun ρ q9 => ?_; go_simp;
     exact Jo J hT'
    refine SeqOps.val ?_ (Sp fun ax wx hS hT' hd K' J => ?_) ?_; rotate_left 1
    ·have r58 := Tv hd 0 0 58; obtain ⟨hcT, hfT, hlT, hmT, hwT, hzT⟩ := bT hT'
     refine o1 r58 fun ρ q58 => ?_; go_simp;
     exact Jo J hT'
    refine SeqOps.val ?_ (Sp fun ax wx hS hT' hd K' J => ?_) ?_; rotate_left 1
    ·have r2 := hS.at 2 (by decide) (hE.at 2 rfl); obtain ⟨hcT, hfT, hlT, hmT, hwT, hzT⟩ := bT hT'
     refine o1 r2 fun ρ q2 => ?_; go_simp;
     exact Jo J hT'
    refine SeqOps.val ?_ (Sp fun ax wx hS hT' hd K' J => ?_) ?_; rotate_left 1
    ·have r60 := Tv hd 0 2 60; obtain ⟨hcT, hfT, hlT, hmT, hwT, hzT⟩ := bT hT'
     refine o1 r60 fun ρ q60 => ?_; go_simp;
     exact Jo J hT'
    refine SeqOps.val ?_ (Sp fun ax wx hS hT' hd K' J => ?_) ?_; rotate_left 1
    ·have r1 := hS.at 1 (by decide) (hE.at 1 rfl); obtain ⟨hcT, hfT, hlT, hmT, hwT, hzT⟩ := bT hT'
     refine o1 r1 fun ρ q1 => ?_; go_simp;
     exact Jo J hT'
    refine SeqOps.val ?_ (Sp fun ax wx hS hT' hd K' J => ?_) ?_; rotate_left 1
    ·have r8 := hS.at 8 (by decide) (hE.at 8 rfl); obtain ⟨hcT, hfT, hlT, hmT, hwT, hzT⟩ := bT hT'
     refine o1 r8 fun ρ q8 => ?_; go_simp;
     exact Jo J hT'
    refine SeqOps.val ?_ (Sp fun ax wx hS hT' hd K' J => ?_) ?_; rotate_left 1
    ·have r63 := Tv hd 0 5 63; obtain ⟨hcT, hfT, hlT, hmT, hwT, hzT⟩ := bT hT'
     refine o1 r63 fun ρ q63 => ?_; go_simp; (try go_bits); (try simp (disch := omega) only [IntWalk.i64_in]);
     exact Jo J hT'
    refine SeqOps.val ?_ (Sp fun ax wx hS hT' hd K' J => ?_) ?_; rotate_left 1
    ·have r62 := Tv hd 2 4 62; have r64 := Tv hd 0 6 64; obtain ⟨hcT, hfT, hlT, hmT, hwT, hzT⟩ := bT hT'
     refine Go.Proofs.Ytbimkcjdodgojaa.o2 r62 r64 fun ρ q62 q64 => ?_; go_simp; (try go_bits);
     go_at_call 58; refine (nth_any T tc ns (2 * (i : Int)) _ ((hTS7.below hT').more hT'.size) hn).mono ?_; rintro e g1 ⟨rfl, k1⟩
     refine J.out _ _ _ rfl ?_ (hT'.trans (k1.mono hT'.size)) k1; rfl
    refine SeqOps.val ?_ (Sp fun ax wx hS hT' hd K' J => ?_) ?_; rotate_left 1
    ·have r61 := Tv hd 4 3 61; have r65 := Tv hd 0 7 65; obtain ⟨hcT, hfT, hlT, hmT, hwT, hzT⟩ := bT hT'
     refine Go.Proofs.Ytbimkcjdodgojaa.o2 r61 r65 fun ρ q61 q65 => ?_; go_simp; (try go_bits);
     go_at_call 57; refine (some_any b.lo b.hi _ _ (by omega) (by omega) p2).mono ?_; rw [HDE.out]; rintro e g1 ⟨rfl, k1⟩
     refine J.out _ _ _ rfl ?_ (hT'.trans (k1.mono hT'.size)) k1; rfl
    refine SeqOps.val ?_ (Sp fun ax wx hS hT' hd K' J => ?_) ?_; rotate_left 1
    ·have r59 := Tv hd 7 1 59; have r66 := Tv hd 0 8 66; obtain ⟨hcT, hfT, hlT, hmT, hwT, hzT⟩ := bT hT'
     refine Go.Proofs.Ytbimkcjdodgojaa.o2 r59 r66 fun ρ q59 q66 => ?_; go_simp; (try go_bits); (try simp (disch := omega) only [IntWalk.i64_in]);
     exact Jo J hT'
    refine SeqOps.nil ?_
    intro w9 hBl; (repeat refine Ek ?_)
    refine fun ax hEx => ?_
    simp only [lk, pick, Nat.reduceEqDiff, ↓reduceIte] at hEx
    refine M1 hEx 67 fun K' J ρ q67 => ?_; go_simp; (try clear q67)
    refine Ln hEx J fun _ Eb => ?_; clear J K' hEx
    refine late_done [1, 2, 4, 6, 7, 8, 9, 10, 11] Eb hK (fun a hE => ?_); clear hK K Q' Eb; simp only [lk, pick, Nat.reduceEqDiff, ↓reduceIte] at hE
    refine Ks ?_
    exact ⟨rfl, _, .inr rfl, by omega, by simpa using hE, hBl⟩
   ·have hgt : ¬ 1439 < X.minute + d := by have := of_decide_eq_false h; omega
    refine Ks ?_
    exact ⟨rfl, _, .inl rfl, by omega, hE.keep [1, 2, 4, 6, 7, 8, 9, 10, 11], Below.refl _ _⟩
  obtain ⟨rfl, z, hz, hz9, hE, hb9⟩ := hI
  replace hS7 := hS7.below hb9
  replace hCY7 := hCY7.below hb9
  replace hTS7 := (hTS7.below hb9).more hb9.size
  clear hb9
  have hCanM : ∀ o : ByteArray, (apR b.ear.alike b.ear.slips (keptL b.ear.mute X.heard.data.toList) (keptL b.ear.mute o.data.toList)).2 = true → canL b ⟨0, X.minute, X.heard⟩ ⟨1, z, o⟩ = true := fun o ho => can_near ⟨hd2, hd3⟩ (by omega) hz ho
  have HCAN := hid hCanM
  clear hCanM hz
  obtain ⟨r, hr⟩ : ∃ r, windI (nthI ns (2 * (i : Int) + 1)) 4 = r := ⟨_, rfl⟩
  have HR := hid hr
  clear hr
  have nY := hCY7.1
  have cY0 := hCY7.2 0 _ rfl
  refine Ks ?_
  by_cases hz0 : z < 0
  ·skip
   refine Rs 11 fun Q' K hK => ?_
   refine M1 hE 11 fun K' J ρ q11 => ?_; go_simp; (try clear q11)
   refine Ln hE J fun _ Eb => ?_; clear J K' hE a
   refine M1 Eb 68 fun K' J ρ q68 => ?_; go_simp; (try go_bits); (try clear q68)
   refine Ln Eb J fun _ Ea => ?_; clear J K' Eb
   replace Ea := Ea.turn 69 (v' := .bool true) rfl (by (simp [hz0]))
   refine M1 Ea 69 fun K' J ρ q69 => ?_; go_simp; (try clear q69)
   refine Ln Ea J fun _ Eb => ?_; clear J K' Ea
   refine Lno Eb 70 ?_
   refine Lu Eb fun _ Ea => ?_
   refine Lno Ea 70 ?_
   refine Lu Ea fun _ Eb => ?_
   refine Lno Eb 70 ?_
   refine Lu Eb fun _ Ea => ?_
   refine Lno Ea 70 ?_
   refine Lu Ea fun _ Eb => ?_
   refine Lno Eb 70 ?_
   refine Lu Eb fun _ Ea => ?_
   refine Lno Ea 70 ?_
   refine Lu Ea fun _ Eb => ?_
   refine Lno Eb 70 ?_
   refine Lu Eb fun _ Ea => ?_
   refine M2 Ea 70 77 fun K' J ρ q70 q77 => ?_; go_simp; (try go_bits); (try clear q70 q77)
   refine Ln Ea J fun _ Eb => ?_; clear J K' Ea
   refine late_done [1, 2, 4, 6, 7, 8, 9, 10, 78] Eb hK (fun a hE => ?_); clear hK K Q' Eb; simp only [lk, pick, Nat.reduceEqDiff, ↓reduceIte] at hE
   refine Ks ?_
   refine cond_yes hE (t := 78) rfl ?_
   have nQ := hS7.loc.1
   have cQ3 := (hS7.loc.2 3 _ rfl).1
   obtain ⟨g14, c14, hg14, _, hg14l, _, _, _, _⟩ := own_new hS7.ls (by rw [hl1]; omega)
   rw [Value.slice.injEq] at hg14
   obtain ⟨rfl, _, rfl⟩ := hg14
   have hgo : (Value.slice (some ⟨g14, 0, none⟩) (xs ++ [(⟨0, X.minute, X.heard⟩ : NLn)]).length g2).ownBlock = some g14 := rfl
   have y14 := own_wr hS7.ls hgo (o := xs.length * 3) (by rw [hl1]; omega)
   have hfI : (xs.length : Int) < (xs.length : Int) + 1 := by omega
   refine Ks ?_
   refine Rs 8 fun Q' K hK => ?_
   refine M1 hE 6 fun K' J ρ q6 => ?_; go_simp; (try clear q6)
   refine Ln hE J fun _ Eb => ?_; clear J K' hE a
   refine M1 Eb 79 fun K' J ρ q79 => ?_; go_simp; (try clear q79)
   refine Ln Eb J fun _ Ea => ?_; clear J K' Eb
   refine M1 Ea 10 fun K' J ρ q10 => ?_; go_simp; (try clear q10)
   refine Ln Ea J fun _ Eb => ?_; clear J K' Ea
   refine M1 Eb 9 fun K' J ρ q9 => ?_; go_simp; (try clear q9)
   refine Ln Eb J fun _ Ea => ?_; clear J K' Eb
   refine M1 Ea 82 fun K' J ρ q82 => ?_; go_simp; (try clear q82)
   refine Ln Ea J fun _ Eb => ?_; clear J K' Ea
   refine M2 Eb 80 81 fun K' J ρ q80 q81 => ?_; go_simp; (try go_bits); (try clear q80 q81)
   refine Ln Eb J fun _ Ea => ?_; clear J K' Eb
   refine M1 Ea 84 fun K' J ρ q84 => ?_; go_simp; (try clear q84)
   refine Ln Ea J fun _ Eb => ?_; clear J K' Ea
   refine M2 Eb 85 83 fun K' J ρ q85 q83 => ?_; go_simp; (try clear q85 q83)
   refine late_skip Eb J (fun _ Ea => ?_); clear J K'; clear Eb
   refine late_done [1, 2, 4, 6, 7, 8] Ea hK (fun a hE => ?_); clear hK K Q' Ea; simp only [lk, pick, Nat.reduceEqDiff, ↓reduceIte] at hE
   refine world_cut (fun wt => PasS A cap (some ⟨bx, ox, none⟩) lcap b B R Q w (some ⟨g14, 0, none⟩) g2 (xs ++ [X]) O oc t wt) ?_ (fun w20 hS20 => ?_)
   ·have := hS7.book hBQ hRQ' hwQ hgo X.book
    simpa using this
   clear nQ cQ3 y14 hS7
   refine Ks ?_
   refine Rs 3 fun Q' K hK => ?_
   refine M1 hE 8 fun K' J ρ q8 => ?_; go_simp; (try clear q8)
   refine Ln hE J fun _ Eb => ?_; clear J K' hE a
   refine M1 Eb 26 fun K' J ρ q26 => ?_; go_simp; (try go_bits); (try simp (disch := omega) only [IntWalk.i64_in]); (try clear q26)
   refine Ln Eb J fun _ Ea => ?_; clear J K' Eb
   refine M1 Ea 27 fun K' J ρ q27 => ?_; go_simp; (try clear q27)
   refine Ln Ea J fun _ Eb => ?_; clear J K' Ea
   refine late_done [1, 2, 4, 6, 7, 8] Eb hK (fun a hE => ?_); clear hK K Q' Eb; simp only [lk, pick, Nat.reduceEqDiff, ↓reduceIte] at hE
   refine Ks ?_
   refine ⟨i + 1, ⟨_, g2, xs ++ [X], O, oc, t, hlt, by simpa using hE, hS20, by simp; omega, fun x hx => ?_, HST.out.more _⟩, by omega⟩
   rcases List.mem_append.1 hx with hx | hx
   ·exact HXL.out x hx
   ·rw [List.mem_singleton.1 hx]
    unfold lineB; simp [HXN.out]; omega
  ·by_cases hr0 : r = 0
   ·skip
    refine Rs 11 fun Q' K hK => ?_
    refine M1 hE 11 fun K' J ρ q11 => ?_; go_simp; (try clear q11)
    refine Ln hE J fun _ Eb => ?_; clear J K' hE a
    refine M1 Eb 68 fun K' J ρ q68 => ?_; go_simp; (try go_bits); (try clear q68)
    refine Ln Eb J fun _ Ea => ?_; clear J K' Eb
    replace Ea := Ea.turn 69 (v' := .bool false) rfl (by (simp [hz0]))
    refine M1 Ea 69 fun K' J ρ q69 => ?_; go_simp; (try clear q69)
    refine Ln Ea J fun _ Eb => ?_; clear J K' Ea
    refine N1 Eb 70 1 fun K' J ρ q1 => ?_; go_simp; (try clear q1)
    refine Ln Eb J fun _ Ea => ?_; clear J K' Eb
    refine N1 Ea 70 8 fun K' J ρ q8 => ?_; go_simp; (try clear q8)
    refine Ln Ea J fun _ Eb => ?_; clear J K' Ea
    refine N1 Eb 70 72 fun K' J ρ q72 => ?_; go_simp; (try go_bits); (try simp (disch := omega) only [IntWalk.i64_in]); (try clear q72)
    refine Ln Eb J fun _ Ea => ?_; clear J K' Eb
    refine N1 Ea 70 73 fun K' J ρ q73 => ?_; go_simp; (try go_bits); (try simp (disch := omega) only [IntWalk.i64_in]); (try clear q73)
    refine Ln Ea J fun _ Eb => ?_; clear J K' Ea
    refine N2 Eb 70 71 74 fun K' J ρ q71 q74 => ?_; go_simp; (try go_bits); (try clear q71 q74)
    go_at_call 58; refine (nth_any T tc ns (2 * (i : Int) + 1) _ hTS7 hn).mono ?_; rintro e v2 ⟨rfl, k2⟩
    (try clear r71 r74)
    refine Ln Eb J fun _ Ea => ?_; clear J K' Eb
    refine N1 Ea 70 75 fun K' J ρ q75 => ?_; go_simp; (try go_bits); (try clear q75)
    go_at_call 37; refine (wind_any _ 4 (by decide) _).mono ?_; rw [HR.out]; rintro e g1 ⟨rfl, rfl⟩
    (try clear r75)
    refine Ln Ea J fun _ Eb => ?_; clear J K' Ea
    refine N1 Eb 70 76 fun K' J ρ q76 => ?_; go_simp; (try go_bits); (try clear q76)
    refine Ln Eb J fun _ Ea => ?_; clear J K' Eb
    replace Ea := Ea.turn 77 (v' := .bool true) rfl (by (simp [hr0]))
    refine M2 Ea 70 77 fun K' J ρ q70 q77 => ?_; go_simp; (try go_bits); (try clear q70 q77)
    refine Ln Ea J fun _ Eb => ?_; clear J K' Ea
    refine late_done [1, 2, 4, 6, 7, 8, 9, 10, 78] Eb hK (fun a hE => ?_); clear hK K Q' Eb; simp only [lk, pick, Nat.reduceEqDiff, ↓reduceIte] at hE
    replace hS7 := hS7.below k2
    replace hCY7 := hCY7.below k2
    clear nY cY0
    have nY := hCY7.1
    have cY0 := hCY7.2 0 _ rfl
    refine Ks ?_
    refine cond_yes hE (t := 78) rfl ?_
    have nQ := hS7.loc.1
    have cQ3 := (hS7.loc.2 3 _ rfl).1
    obtain ⟨g14, c14, hg14, _, hg14l, _, _, _, _⟩ := own_new hS7.ls (by rw [hl1]; omega)
    rw [Value.slice.injEq] at hg14
    obtain ⟨rfl, _, rfl⟩ := hg14
    have hgo : (Value.slice (some ⟨g14, 0, none⟩) (xs ++ [(⟨0, X.minute, X.heard⟩ : NLn)]).length g2).ownBlock = some g14 := rfl
    have y14 := own_wr hS7.ls hgo (o := xs.length * 3) (by rw [hl1]; omega)
    have hfI : (xs.length : Int) < (xs.length : Int) + 1 := by omega
    refine Ks ?_
    refine Rs 8 fun Q' K hK => ?_
    refine M1 hE 6 fun K' J ρ q6 => ?_; go_simp; (try clear q6)
    refine Ln hE J fun _ Eb => ?_; clear J K' hE a
    refine M1 Eb 79 fun K' J ρ q79 => ?_; go_simp; (try clear q79)
    refine Ln Eb J fun _ Ea => ?_; clear J K' Eb
    refine M1 Ea 10 fun K' J ρ q10 => ?_; go_simp; (try clear q10)
    refine Ln Ea J fun _ Eb => ?_; clear J K' Ea
    refine M1 Eb 9 fun K' J ρ q9 => ?_; go_simp; (try clear q9)
    refine Ln Eb J fun _ Ea => ?_; clear J K' Eb
    refine M1 Ea 82 fun K' J ρ q82 => ?_; go_simp; (try clear q82)
    refine Ln Ea J fun _ Eb => ?_; clear J K' Ea
    refine M2 Eb 80 81 fun K' J ρ q80 q81 => ?_; go_simp; (try go_bits); (try clear q80 q81)
    refine Ln Eb J fun _ Ea => ?_; clear J K' Eb
    refine M1 Ea 84 fun K' J ρ q84 => ?_; go_simp; (try clear q84)
    refine Ln Ea J fun _ Eb => ?_; clear J K' Ea
    refine M2 Eb 85 83 fun K' J ρ q85 q83 => ?_; go_simp; (try clear q85 q83)
    refine late_skip Eb J (fun _ Ea => ?_); clear J K'; clear Eb
    refine late_done [1, 2, 4, 6, 7, 8] Ea hK (fun a hE => ?_); clear hK K Q' Ea; simp only [lk, pick, Nat.reduceEqDiff, ↓reduceIte] at hE
    refine world_cut (fun wt => PasS A cap (some ⟨bx, ox, none⟩) lcap b B R Q w (some ⟨g14, 0, none⟩) g2 (xs ++ [X]) O oc t wt) ?_ (fun w20 hS20 => ?_)
    ·have := hS7.book hBQ hRQ' hwQ hgo X.book
     simpa using this
    clear nQ cQ3 y14 hS7
    refine Ks ?_
    refine Rs 3 fun Q' K hK => ?_
    refine M1 hE 8 fun K' J ρ q8 => ?_; go_simp; (try clear q8)
    refine Ln hE J fun _ Eb => ?_; clear J K' hE a
    refine M1 Eb 26 fun K' J ρ q26 => ?_; go_simp; (try go_bits); (try simp (disch := omega) only [IntWalk.i64_in]); (try clear q26)
    refine Ln Eb J fun _ Ea => ?_; clear J K' Eb
    refine M1 Ea 27 fun K' J ρ q27 => ?_; go_simp; (try clear q27)
    refine Ln Ea J fun _ Eb => ?_; clear J K' Ea
    refine late_done [1, 2, 4, 6, 7, 8] Eb hK (fun a hE => ?_); clear hK K Q' Eb; simp only [lk, pick, Nat.reduceEqDiff, ↓reduceIte] at hE
    refine Ks ?_
    refine ⟨i + 1, ⟨_, g2, xs ++ [X], O, oc, t, hlt, by simpa using hE, hS20, by simp; omega, fun x hx => ?_, HST.out.more _⟩, by omega⟩
    rcases List.mem_append.1 hx with hx | hx
    ·exact HXL.out x hx
    ·rw [List.mem_singleton.1 hx]
     unfold lineB; simp [HXN.out]; omega
   ·skip
    refine Rs 11 fun Q' K hK => ?_
    refine M1 hE 11 fun K' J ρ q11 => ?_; go_simp; (try clear q11)
    refine Ln hE J fun _ Eb => ?_; clear J K' hE a
    refine M1 Eb 68 fun K' J ρ q68 => ?_; go_simp; (try go_bits); (try clear q68)
    refine Ln Eb J fun _ Ea => ?_; clear J K' Eb
    replace Ea := Ea.turn 69 (v' := .bool false) rfl (by (simp [hz0]))
    refine M1 Ea 69 fun K' J ρ q69 => ?_; go_simp; (try clear q69)
    refine Ln Ea J fun _ Eb => ?_; clear J K' Ea
    refine N1 Eb 70 1 fun K' J ρ q1 => ?_; go_simp; (try clear q1)
    refine Ln Eb J fun _ Ea => ?_; clear J K' Eb
    refine N1 Ea 70 8 fun K' J ρ q8 => ?_; go_simp; (try clear q8)
    refine Ln Ea J fun _ Eb => ?_; clear J K' Ea
    refine N1 Eb 70 72 fun K' J ρ q72 => ?_; go_simp; (try go_bits); (try simp (disch := omega) only [IntWalk.i64_in]); (try clear q72)
    refine Ln Eb J fun _ Ea => ?_; clear J K' Eb
    refine N1 Ea 70 73 fun K' J ρ q73 => ?_; go_simp; (try go_bits); (try simp (disch := omega) only [IntWalk.i64_in]); (try clear q73)
    refine Ln Ea J fun _ Eb => ?_; clear J K' Ea
    refine N2 Eb 70 71 74 fun K' J ρ q71 q74 => ?_; go_simp; (try go_bits); (try clear q71 q74)
    go_at_call 58; refine (nth_any T tc ns (2 * (i : Int) + 1) _ hTS7 hn).mono ?_; rintro e v2 ⟨rfl, k2⟩
    (try clear r71 r74)
    refine Ln Eb J fun _ Ea => ?_; clear J K' Eb
    refine N1 Ea 70 75 fun K' J ρ q75 => ?_; go_simp; (try go_bits); (try clear q75)
    go_at_call 37; refine (wind_any _ 4 (by decide) _).mono ?_; rw [HR.out]; rintro e g1 ⟨rfl, rfl⟩
    (try clear r75)
    refine Ln Ea J fun _ Eb => ?_; clear J K' Ea
    refine N1 Eb 70 76 fun K' J ρ q76 => ?_; go_simp; (try go_bits); (try clear q76)
    refine Ln Eb J fun _ Ea => ?_; clear J K' Eb
    replace Ea := Ea.turn 77 (v' := .bool false) rfl (by (simp [hr0]))
    refine M2 Ea 70 77 fun K' J ρ q70 q77 => ?_; go_simp; (try go_bits); (try clear q70 q77)
    refine Ln Ea J fun _ Eb => ?_; clear J K' Ea
    refine late_done [1, 2, 4, 6, 7, 8, 9, 10, 11, 78] Eb hK (fun a hE => ?_); clear hK K Q' Eb; simp only [lk, pick, Nat.reduceEqDiff, ↓reduceIte] at hE
    replace hS7 := hS7.below k2
    replace hCY7 := hCY7.below k2
    replace hTS7 := (hTS7.below k2).more k2.size
    clear nY cY0 k2
    have hMS := hM.below hS7.low
    have hCr := hS7.bk
    simp only [bkV] at hCr
    have nB := hCr.1
    have cB0 := hCr.2 0 _ rfl
    have cB1 := hCr.2 1 _ rfl
    have cB2 := hCr.2 2 _ rfl
    have nY := hCY7.1
    have cY2 := hCY7.2 2 _ rfl
    have nQ := hS7.loc.1
    have cQ3 := (hS7.loc.2 3 _ rfl).1
    refine Ks ?_
    refine cond_no hE (t := 78) rfl ?_
    refine Ks ?_
    refine Rd [16, 17, 18] (fun wt => Below v2.heap.size v2 wt) (fun w1 w2 => Below w1.heap.size w1 w2) [(0, some 86), (1, some 87), (2, some 88), (3, some 89), (4, some 90), (5, some 91), (6, some 92), (7, some 93), (8, some 94), (9, some 95), (10, some 96), (11, some 97), (12, some 98), (13, some 99), (14, some 100), (15, some 101)] [86, 87, 88, 89, 90, 91, 92, 93, 94, 95, 96, 97, 98, 99, 100, 101] #[true, true, true, true, true, true, true, true, true, true, true, true, true, true, true, true, false, false, false] [1, 2, 4, 6, 7, 8, 9, 10, 11] hE ((Below.refl _ _).drew) fun Q' K hK => ?_
    refine SeqOps.val ?_ (Sp fun ax wx hS hT' hd K' J => ?_) ?_; rotate_left 1
    ·have r6 := hS.at 6 (by decide) (hE.at 6 rfl); obtain ⟨hcT, hfT, hlT, hmT, hwT, hzT⟩ := bT hT'
     refine o1 r6 fun ρ q6 => ?_; go_simp;
     exact Jo J hT'
    refine SeqOps.val ?_ (Sp fun ax wx hS hT' hd K' J => ?_) ?_; rotate_left 1
    ·have r86 := Tv hd 0 0 86; obtain ⟨hcT, hfT, hlT, hmT, hwT, hzT⟩ := bT hT'
     refine o1 r86 fun ρ q86 => ?_; go_simp;
     exact Jo J hT'
    refine SeqOps.val ?_ (Sp fun ax wx hS hT' hd K' J => ?_) ?_; rotate_left 1
    ·have r11 := hS.at 11 (by decide) (hE.at 11 rfl); obtain ⟨hcT, hfT, hlT, hmT, hwT, hzT⟩ := bT hT'
     refine o1 r11 fun ρ q11 => ?_; go_simp;
     exact Jo J hT'
    refine SeqOps.val ?_ (Sp fun ax wx hS hT' hd K' J => ?_) ?_; rotate_left 1
    ·have r2 := hS.at 2 (by decide) (hE.at 2 rfl); obtain ⟨hcT, hfT, hlT, hmT, hwT, hzT⟩ := bT hT'
     refine o1 r2 fun ρ q2 => ?_; go_simp;
     exact Jo J hT'
    refine SeqOps.val ?_ (Sp fun ax wx hS hT' hd K' J => ?_) ?_; rotate_left 1
    ·have r89 := Tv hd 0 3 89; obtain ⟨hcT, hfT, hlT, hmT, hwT, hzT⟩ := bT hT'
     refine o1 r89 fun ρ q89 => ?_; go_simp;
     exact Jo J hT'
    refine SeqOps.val ?_ (Sp fun ax wx hS hT' hd K' J => ?_) ?_; rotate_left 1
    ·have r9 := hS.at 9 (by decide) (hE.at 9 rfl); obtain ⟨hcT, hfT, hlT, hmT, hwT, hzT⟩ := bT hT'
     refine o1 r9 fun ρ q9 => ?_; go_simp;
     exact Jo J hT'
    refine SeqOps.val ?_ (Sp fun ax wx hS hT' hd K' J => ?_) ?_; rotate_left 1
    ·have r91 := Tv hd 0 5 91; obtain ⟨hcT, hfT, hlT, hmT, hwT, hzT⟩ := bT hT'
     refine o1 r91 fun ρ q91 => ?_; go_simp;
     exact Jo J hT'
    refine SeqOps.val ?_ (Sp fun ax wx hS hT' hd K' J => ?_) ?_; rotate_left 1
    ·have r1 := hS.at 1 (by decide) (hE.at 1 rfl); obtain ⟨hcT, hfT, hlT, hmT, hwT, hzT⟩ := bT hT'
     refine o1 r1 fun ρ q1 => ?_; go_simp;
     exact Jo J hT'
    refine SeqOps.val ?_ (Sp fun ax wx hS hT' hd K' J => ?_) ?_; rotate_left 1
    ·have r8 := hS.at 8 (by decide) (hE.at 8 rfl); obtain ⟨hcT, hfT, hlT, hmT, hwT, hzT⟩ := bT hT'
     refine o1 r8 fun ρ q8 => ?_; go_simp;
     exact Jo J hT'
    refine SeqOps.val ?_ (Sp fun ax wx hS hT' hd K' J => ?_) ?_; rotate_left 1
    ·have r1 := hS.at 1 (by decide) (hE.at 1 rfl); obtain ⟨hcT, hfT, hlT, hmT, hwT, hzT⟩ := bT hT'
     refine o1 r1 fun ρ q1 => ?_; go_simp;
     exact Jo J hT'
    refine SeqOps.val ?_ (Sp fun ax wx hS hT' hd K' J => ?_) ?_; rotate_left 1
    ·have r95 := Tv hd 0 9 95; obtain ⟨hcT, hfT, hlT, hmT, hwT, hzT⟩ := bT hT'
     refine o1 r95 fun ρ q95 => ?_; go_simp; (try go_bits);
     exact Jo J hT'
    refine SeqOps.val ?_ (Sp fun ax wx hS hT' hd K' J => ?_) ?_; rotate_left 1
    ·have r94 := Tv hd 2 8 94; have r96 := Tv hd 0 10 96; obtain ⟨hcT, hfT, hlT, hmT, hwT, hzT⟩ := bT hT'
     refine Go.Proofs.Ytbimkcjdodgojaa.o2 r94 r96 fun ρ q94 q96 => ?_; go_simp; (try go_bits);
     exact Jo J hT'
    refine SeqOps.say (fun v wt => ∃ (T' : Option Addr) (tc' : Nat) (ns' : List Int), v = .slice T' ns'.length tc' ∧ Arr wt wt.heap.size T' (ints ns') ∧ ns'.length ≤ 9223372036854775807) (fun _ _ _ hR ⟨T', tc', ns', e, h, h2⟩ => ⟨T', tc', ns', e, (h.below hR).more hR.size, h2⟩) (Sp fun ax wx hS hT' hd K' J => ?_) ?_
    ·have r93 := Tv hd 4 7 93; have r97 := Tv hd 0 11 97; obtain ⟨hcT, hfT, hlT, hmT, hwT, hzT⟩ := bT hT'
     refine Go.Proofs.Ytbimkcjdodgojaa.o2 r93 r97 fun ρ q93 q97 => ?_; go_simp; (try go_bits);
     rw [if_pos ⟨by omega, by omega⟩]
     exact J.out _ _ _ rfl ⟨_, _, ns.drop (min (i : Int) ns.length).toNat, by rw [List.length_drop], arr_drop ((hTS7.below hT').more hT'.size) htc, by rw [List.length_drop]; omega⟩ hT' (Below.refl _ _)
    refine SeqOps.say (fun v _ => ∃ o : ByteArray, v = .string o ∧ o.size ≤ 12 ∧ nameB o.data.toList = true ∧ (apR b.ear.alike b.ear.slips (keptL b.ear.mute X.heard.data.toList) (keptL b.ear.mute o.data.toList)).2 = true) (fun _ _ _ _ h => h) (Sp fun ax wx hS hT' hd K' J => ?_) ?_
    ·have r90 := Tv hd 8 4 90; have r92 := Tv hd 6 6 92; obtain ⟨v98, r98, h98⟩ := Tg hd 0 12 98; obtain ⟨T', tc', ns', rfl, hT2, hn2⟩ := h98; obtain ⟨hcT, hfT, hlT, hmT, hwT, hzT⟩ := bT hT'
     refine o3 r90 r92 r98 fun ρ q90 q92 q98 => ?_; go_simp; (try go_bits);
     go_at_call 28; refine (misheard_any A cap b.ear.alike b.ear.mute b.ear.slips X.heard T' tc' ns' _ ((hMS.below hT').1) e1 e2 e3 ⟨e4, e5⟩ hT2 hn2 HXN.out hX12).mono ?_; rintro e g1 ⟨⟨o, rfl, k1, k2, k3⟩, k4⟩
     exact J.out _ _ _ rfl ⟨o, rfl, k1, k2, k3⟩ (hT'.trans (k4.mono hT'.size)) k4
    refine SeqOps.say (fun v _ => ∃ o : ByteArray, v = .agg #[.int .i64 1, .int .i64 z, .string o] ∧ o.size ≤ 12 ∧ nameB o.data.toList = true ∧ (apR b.ear.alike b.ear.slips (keptL b.ear.mute X.heard.data.toList) (keptL b.ear.mute o.data.toList)).2 = true) (fun _ _ _ _ h => h) (Sp fun ax wx hS hT' hd K' J => ?_) ?_
    ·have r88 := Tv hd 11 2 88; obtain ⟨v99, r99, h99⟩ := Tg hd 0 13 99; obtain ⟨o, rfl, k1, k2, k3⟩ := h99; obtain ⟨hcT, hfT, hlT, hmT, hwT, hzT⟩ := bT hT'
     refine Go.Proofs.Ytbimkcjdodgojaa.o2 r88 r99 fun ρ q88 q99 => ?_; go_simp; (try go_bits);
     go_at_call 56; refine (line_any _ _ _ _).mono ?_; rintro e g1 ⟨rfl, k4⟩
     exact J.out _ _ _ rfl ⟨o, rfl, k1, k2, k3⟩ (hT'.trans (k4.mono hT'.size)) k4
    refine SeqOps.say (fun v wt => ∃ (H : Nat) (o : ByteArray), v = .slice (some ⟨H, 0, none⟩) 1 1 ∧ Arr wt wt.heap.size (some ⟨H, 0, none⟩) (NLn.cells ⟨1, z, o⟩) ∧ o.size ≤ 12 ∧ nameB o.data.toList = true ∧ (apR b.ear.alike b.ear.slips (keptL b.ear.mute X.heard.data.toList) (keptL b.ear.mute o.data.toList)).2 = true) (fun _ _ _ hR ⟨H, o, e, h, h2⟩ => ⟨H, o, e, (h.below hR).more hR.size, h2⟩) (Sp fun ax wx hS hT' hd K' J => ?_) ?_
    ·obtain ⟨v100, r100, h100⟩ := Tg hd 0 14 100; obtain ⟨o, rfl, k1, k2, k3⟩ := h100; obtain ⟨hcT, hfT, hlT, hmT, hwT, hzT⟩ := bT hT'
     refine o1 r100 fun ρ q100 => ?_; go_simp;
     exact J.out _ _ _ rfl ⟨_, o, rfl, (arr_new wx _ _).more (by simp), k1, k2, k3⟩ (hT'.trans (((Below.refl _ _).alloc (Nat.le_refl _) _).mono hT'.size)) ((Below.refl _ _).alloc (Nat.le_refl _) _)
    refine SeqOps.nil ?_
    intro w10 hBl; (repeat refine Ek ?_); (refine fun v h => ?_; obtain ⟨T', tc', ns', rfl, hT2, hn2⟩ := h); (refine fun v h => ?_; obtain ⟨o, rfl, k1, k2, k3⟩ := h); (refine fun v h => ?_; obtain ⟨o, rfl, k1, k2, k3⟩ := h); (refine fun v h => ?_; obtain ⟨H, o, rfl, hH, k1, k2, k3⟩ := h);
    refine fun ax hEx => ?_
    simp only [lk, pick, Nat.reduceEqDiff, ↓reduceIte] at hEx
    refine Lp fun K' J => ?_
    have r87 := hEx.at 87 rfl; have r101 := hEx.at 101 rfl
    have hS10 := hS7.below hBl
    have hls10 := hS10.ls
    rw [hl1] at hls10
    refine wp_appN (.tmp 87) (.tmp 101) 31 rfl (Q + 1) 81 (.agg #[.int .i64 0, .int .i64 0, .string ⟨#[]⟩]) 3 32 Try.underlying31 (by kernel_rfl) rfl (by decide) (.slice G2 (xs.length + 1) g2) (xs.length + 1) (nlines (xs ++ [⟨0, X.minute, X.heard⟩])) (eval_of r87) hls10 w10.heap.size (some ⟨H, 0, none⟩) 1 1 (NLn.cells ⟨1, z, o⟩) (eval_of r101) hH rfl (by intro u hu; simp [NLn.cells] at hu; rcases hu with rfl | rfl | rfl <;> rfl) (by simp only [maxLen]; omega) (by omega) (by have := hS10.loc.1; omega) (fun G3 g3 w11 q1 q2 q3 q4 q5 => ?_)
    have q3' := q3
    have q4' := q4
    have q5' := q5
    rw [← hl1] at q3' q4' q5'
    have y3 := ((hS10.grown (by omega) hRQ' hwQ q4' q5').2.2.2.1.2 3 _ rfl).2
    (try clear r87 r101)
    refine Ln hEx J fun _ Eb => ?_; clear J K' hEx
    refine M1 Eb 6 fun K' J ρ q6 => ?_; go_simp; (try clear q6)
    refine Ln Eb J fun _ Ea => ?_; clear J K' Eb
    refine M2 Ea 103 102 fun K' J ρ q103 q102 => ?_; go_simp; (try clear q103 q102)
    refine late_skip Ea J (fun _ Eb => ?_); clear J K'; clear Ea
    refine late_done [1, 2, 4, 6, 7, 8, 9, 10, 11] Eb hK (fun a hE => ?_); clear hK K Q' Eb; simp only [lk, pick, Nat.reduceEqDiff, ↓reduceIte] at hE
    refine world_cut (fun wt => PasS A cap (some ⟨bx, ox, none⟩) lcap b B R Q w G3 g3 (xs ++ [⟨0, X.minute, X.heard⟩] ++ [⟨1, z, o⟩]) O oc t wt) (by have := hS10.line hBQ hRQ' hwQ _ q3' q4' q5'; rw [hl1] at this; exact this) (fun w12 hS12 => ?_)
    have hcan := HCAN.out o k3
    have hlo : lineB ⟨1, z, o⟩ = true := by unfold lineB; simp [k2]; omega
    have HCN := hid hcan
    have HLO := hid hlo
    clear nB cB0 cB1 cB2 nY cY2 nQ cQ3 hCr y3 hS7 hS10 hBl hH q1 q2 q3 q4 q5 q3' q4' q5' hls10 hMS hTS7 k2 k3 hcan hlo
    have hx3 : xs ++ [(⟨0, X.minute, X.heard⟩ : NLn)] ++ [⟨1, z, o⟩] = xs ++ [⟨0, X.minute, X.heard⟩, ⟨1, z, o⟩] := by simp
    refine Ks ?_
    refine Rs 8 fun Q' K hK => ?_
    refine M1 hE 7 fun K' J ρ q7 => ?_; go_simp; (try clear q7)
    refine Ln hE J fun _ Eb => ?_; clear J K' hE a
    refine M1 Eb 10 fun K' J ρ q10 => ?_; go_simp; (try clear q10)
    refine Ln Eb J fun _ Ea => ?_; clear J K' Eb
    refine M1 Ea 10 fun K' J ρ q10 => ?_; go_simp; (try clear q10)
    refine Ln Ea J fun _ Eb => ?_; clear J K' Ea
    refine M1 Eb 106 fun K' J ρ q106 => ?_; go_simp; (try go_bits); (try simp (disch := omega) only [IntWalk.i64_in]); (try clear q106)
    refine Ln Eb J fun _ Ea => ?_; clear J K' Eb
    refine M2 Ea 105 107 fun K' J ρ q105 q107 => ?_; go_simp; (try go_bits); (try clear q105 q107)
    go_at_call 46; refine (lpair_any _ _ _).mono ?_; rintro e w13 ⟨rfl, k4⟩; have hS13 := hS12.below k4
    (try clear r105 r107)
    refine Ln Ea J fun _ Eb => ?_; clear J K' Ea
    refine M1 Eb 108 fun K' J ρ q108 => ?_; go_simp; (try clear q108)
    refine Ln Eb J fun _ Ea => ?_; clear J K' Eb
    refine Lp fun K' J => ?_
    have r104 := Ea.at 104 rfl; have r109 := Ea.at 109 rfl
    have hal : Below w13.heap.size w13 (w13.alloc (.cells #[.int .i64 xs.length, .int .i64 ((xs.length : Int) + 1)] 51)) := (Below.refl _ _).alloc (Nat.le_refl _) _
    have hS14 := hS13.below hal
    refine wp_appN (.tmp 104) (.tmp 109) 38 rfl (Q + 1) 51 (.agg #[.int .i64 0, .int .i64 0]) 2 16 Try.underlying38 (by kernel_rfl) rfl (by decide) (.slice O t.length oc) t.length (pairsV t) (eval_of r104) hS14.ps (w13.heap.size + 1) (some ⟨w13.heap.size, 0, none⟩) 1 1 (pcells (xs.length, xs.length + 1)) (eval_of r109) (arr_new w13 _ _) rfl (by intro u hu; simp [pcells] at hu; rcases hu with rfl | rfl <;> rfl) (by simp only [maxLen]; omega) (by omega) (by have := hS14.loc.1; omega) (fun O2 o2 w15 q1 q2 q3 q4 q5 => ?_)
    have hS15 := hS14.pair hBQ hRQ' hwQ (xs.length, xs.length + 1) q3 q4 q5
    (try clear r104 r109)
    refine Ln Ea J fun _ Eb => ?_; clear J K' Ea
    refine M1 Eb 110 fun K' J ρ q110 => ?_; go_simp; (try clear q110)
    refine Ln Eb J fun _ Ea => ?_; clear J K' Eb
    refine late_done [1, 2, 4, 6, 7, 8] Ea hK (fun a hE => ?_); clear hK K Q' Ea; simp only [lk, pick, Nat.reduceEqDiff, ↓reduceIte] at hE
    refine Ks ?_
    refine Rs 3 fun Q' K hK => ?_
    refine M1 hE 8 fun K' J ρ q8 => ?_; go_simp; (try clear q8)
    refine Ln hE J fun _ Eb => ?_; clear J K' hE a
    refine M1 Eb 26 fun K' J ρ q26 => ?_; go_simp; (try go_bits); (try simp (disch := omega) only [IntWalk.i64_in]); (try clear q26)
    refine Ln Eb J fun _ Ea => ?_; clear J K' Eb
    refine M1 Ea 27 fun K' J ρ q27 => ?_; go_simp; (try clear q27)
    refine Ln Ea J fun _ Eb => ?_; clear J K' Ea
    refine late_done [1, 2, 4, 6, 7, 8] Eb hK (fun a hE => ?_); clear hK K Q' Eb; simp only [lk, pick, Nat.reduceEqDiff, ↓reduceIte] at hE
    refine Ks ?_
    have htl : (t ++ [(xs.length, xs.length + 1)]).length = t.length + 1 := by simp
    refine ⟨i + 1, ⟨G3, g3, xs ++ [⟨0, X.minute, X.heard⟩, ⟨1, z, o⟩], O2, o2, t ++ [(xs.length, xs.length + 1)], hlt, ?_, ?_, by simp; omega, fun x hx => ?_, StepP.snoc rfl HCN.out (Nat.zero_le _) HST.out⟩, by omega⟩
    ·rw [htl]; simpa using hE
    ·rw [← hx3]; exact hS15
    ·rcases List.mem_append.1 hx with hx | hx
     ·exact HXL.out x hx
     ·rcases List.mem_cons.1 hx with rfl | hx
      ·unfold lineB; simp [HXN.out]; omega
      ·rw [List.mem_singleton.1 hx]; exact HLO.out
 ·have hCq := hS
  clear h nB cB3 hCr
  have nQ' := nQ
  have y6 := (hS.loc.2 6 _ rfl).2
  refine KsE ?_
  refine Ks ?_
  refine Rs 9 fun Q' K hK => ?_
  refine M1 hE 6 fun K' J ρ q6 => ?_; go_simp; (try clear q6)
  refine Ln hE J fun _ Eb => ?_; clear J K' hE a
  refine M1 Eb 111 fun K' J ρ q111 => ?_; go_simp; (try clear q111)
  refine Ln Eb J fun _ Ea => ?_; clear J K' Eb
  refine M1 Ea 112 fun K' J ρ q112 => ?_; go_simp; (try go_bits); (try clear q112)
  refine Ln Ea J fun _ Eb => ?_; clear J K' Ea
  refine M1 Eb 7 fun K' J ρ q7 => ?_; go_simp; (try clear q7)
  refine Ln Eb J fun _ Ea => ?_; clear J K' Eb
  refine M1 Ea 114 fun K' J ρ q114 => ?_; go_simp; (try go_bits); (try clear q114)
  refine Ln Ea J fun _ Eb => ?_; clear J K' Ea
  refine M1 Eb 115 fun K' J ρ q115 => ?_; go_simp; (try go_bits); (try simp (disch := omega) only [IntWalk.i64_in]); (try clear q115)
  refine Ln Eb J fun _ Ea => ?_; clear J K' Eb
  refine M2 Ea 113 116 fun K' J ρ q113 q116 => ?_; go_simp; (try go_bits); (try simp (disch := omega) only [IntWalk.i64_in]); (try clear q113 q116)
  refine Ln Ea J fun _ Eb => ?_; clear J K' Ea
  refine M1 Eb 6 fun K' J ρ q6 => ?_; go_simp; (try clear q6)
  refine Ln Eb J fun _ Ea => ?_; clear J K' Eb
  refine M2 Ea 118 117 fun K' J ρ q118 q117 => ?_; go_simp; (try clear q118 q117)
  refine late_skip Ea J (fun _ Eb => ?_); clear J K'; clear Ea
  refine late_done [4, 6, 7] Eb hK (fun a hE => ?_); clear hK K Q' Eb; simp only [lk, pick, Nat.reduceEqDiff, ↓reduceIte] at hE
  refine world_cut (fun wt => Below w.heap.size w wt ∧ (Q < wt.heap.size ∧ Row wt Q (bkV A cap G gc { b with lines := xs, lost := (xs.length : Int) - 2 * t.length })) ∧ (R < wt.heap.size ∧ ∃ zs : List Value, zs.length = 7 ∧ Row wt R zs) ∧ wt.ownsRow (Q + 1) 81 3 (.slice G xs.length gc) xs.length (nlines xs) ∧ wt.ownsRow (Q + 1) 51 2 (.slice O t.length oc) t.length (pairsV t)) ?_ (fun w4 hC => ?_)
  ·obtain ⟨z1, zs, z2, z3⟩ := hS.res
   refine ⟨hS.low.setCell hwQ _, ⟨by simp; omega, hS.loc.2.set (o := 6) (by simp)⟩, ⟨by simp; omega, zs, z2, z3.other (by omega)⟩, own_other hS.ls _ (fun e => by have := ownBlock_le hS.ls _ e; omega), own_other hS.ps _ (fun e => by have := ownBlock_le hS.ps _ e; omega)⟩
  obtain ⟨hb4, ⟨hlQ4, hRQ4⟩, ⟨hlR4, zs, hz, hRR4⟩, hls, hps⟩ := hC
  clear hS hCq nQ cQ3 nQ' y6
  have hCQ := row_cells hRQ4 hlQ4
  obtain ⟨vs, hvs⟩ : ∃ vs, bkV A cap G gc { b with lines := xs, lost := (xs.length : Int) - 2 * t.length } = vs := ⟨_, rfl⟩
  have hlv : (bkV A cap G gc { b with lines := xs, lost := (xs.length : Int) - 2 * t.length }).length = 7 := rfl
  have hov : vs.toArray.all (·.oneCell') = true := by
   rw [← hvs]; simp only [bkV, List.all_toArray, List.all_cons, List.all_nil, Bool.and_true]; rfl
  have HVS := hid hvs
  rw [hvs] at hCQ hlv
  have hlv' : vs.toArray.size = 7 := by simpa using hlv
  clear hvs hRQ4
  refine Ks ?_
  refine Rs 4 fun Q' K hK => ?_
  refine Lp fun K' J => ?_
  have r6 := hE.at 6 rfl
  refine wp_load_mid 35 (.tmp 6) rfl Q 0 (eval_of r6) vs _ (fun j u hu => by rw [Nat.zero_add]; exact hCQ.2 j u hu) Try.underlying35 rfl (by rw [hlv]; kernel_rfl) ?_
  (try clear r6)
  refine Ln hE J fun _ Eb => ?_; clear J K' hE a
  refine M1 Eb 7 fun K' J ρ q7 => ?_; go_simp; (try clear q7)
  refine Ln Eb J fun _ Ea => ?_; clear J K' Eb
  refine Lp fun K' J => ?_
  have r4 := Ea.at 4 rfl; have r119 := Ea.at 119 rfl
  refine wp_store_mid 35 (.tmp 4) (.tmp 119) rfl R 0 vs.toArray (eval_of r4) (eval_of r119) (there_row hRR4 (by rw [hz, hlv']; exact Nat.le_refl _)) (by rw [hlv']; kernel_rfl) hov ?_
  (try clear r4 r119)
  refine late_skip Ea J (fun _ Eb => ?_); clear J K'; clear Ea
  refine M1 Eb 120 fun K' J ρ q120 => ?_; go_simp; (try clear q120)
  refine Ln Eb J fun _ Ea => ?_; clear J K' Eb
  refine late_done [4, 5] Ea hK (fun a hE => ?_); clear hK K Q' Ea; simp only [lk, pick, Nat.reduceEqDiff, ↓reduceIte] at hE
  refine world_cut (fun wt => Cells wt R vs ∧ Below w.heap.size w wt ∧ Arr wt wt.heap.size G (nlines xs) ∧ Arr wt wt.heap.size O (pairsV t)) ?_ (fun w7 hC => ?_)
  ·obtain ⟨q1, q2, q3, q4⟩ := cells_stored hRR4 (vs := vs) (by rw [hz, hlv]) hlR4 (by omega) hb4
   obtain ⟨A3, c3, hv, _, _, ha3⟩ := own_form (own_of_block hls (by rw [q4]; exact Nat.le_refl _) (fun g hg => q3 g (by have := ownBlock_le hls g hg; omega)))
   rw [Value.slice.injEq] at hv
   obtain ⟨rfl, _, rfl⟩ := hv
   obtain ⟨A4, c4, hv, _, _, ha4⟩ := own_form (own_of_block hps (by rw [q4]; exact Nat.le_refl _) (fun g hg => q3 g (by have := ownBlock_le hps g hg; omega)))
   rw [Value.slice.injEq] at hv
   obtain ⟨rfl, _, rfl⟩ := hv
   exact ⟨q1, q2, ha3, ha4⟩
  obtain ⟨hC7, hb7, ha7, ho7⟩ := hC
  obtain ⟨_, _, hv, hgc, _, _⟩ := own_form hls
  rw [Value.slice.injEq] at hv
  obtain ⟨_, _, rfl⟩ := hv
  refine Ks ?_
  refine ret_cell_two hE rfl rfl rfl hC7.2 Try.underlying35 rfl (by rw [hlv]; kernel_rfl) ⟨⟨G, _, xs, t, O, oc, by rw [← HVS.out]; rfl, hgc, ⟨(hM.1.below hb7).more hb7.size, ha7⟩, ho7, hx9, HXL.out, HST.out⟩, hb7⟩
end
end Go.Proofs.Ytbimkcjdodgojaa
