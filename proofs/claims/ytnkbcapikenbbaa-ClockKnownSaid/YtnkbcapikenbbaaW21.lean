/- ClockKnown: the walk. -/
import Derived.Test.YtnkbcapikenbbaaW20
namespace Go.Proofs.Ytnkbcapikenbbaa
set_option linter.unusedSimpArgs false
set_option linter.unusedVariables false
open Go.RowKit Go.Shelf
attribute [local go_sem high] cell_set_wr
attribute [local go_sem low] cell_wr frozen_wr
attribute [local go_sem] wr_set wr_drew wr_drewN wr_alloc wr_new

def badsL (Y M a b c d e : Nat) : List (Nat × List Value) := [(Y, (YC M a b c d e).toList), (M, ZC.toList), (a, ints [50, 54, 80, 81, 200, 200, 210, 212]), (b, ints [50, 52, 51, 53, 200, 200, 210, 212]), (c, ints [50, 52, 80, 81, 80, 82, 210, 212]), (d, ints [50, 52, 80, 81, 200, 200, 212, 211]), (e, ints [50, 52, 80, 81, 200, 200, 4318, 4320])]
theorem bads_at {N : Nat} {w : World} {Y M a b c d e : Nat} (h : Rws N w (badsL Y M a b c d e)) : ∀ i, i < 8 → ∃ (set : Int) (A : Option Addr) (nf cap : Nat) (fs : List Fr), w.cell? ⟨Y, i * 2, none⟩ = some (.int .i64 set) ∧ w.cell? ⟨Y, i * 2 + 1, none⟩ = some (.slice A nf cap) ∧ fs.length = nf ∧ Arr w w.heap.size A (frosts fs) ∧ Ck.ok ⟨set, fs⟩ = false := by
  have hY := (h.get 0 rfl).2.2
  have ar : ∀ (k : Nat) {G : Nat} {l : List Value}, (badsL Y M a b c d e)[k]? = some (G, l) → Arr w w.heap.size (some ⟨G, 0, none⟩) l := fun k {G l} hk => (h.get k hk).2.2.arr (h.get k hk).2.1
  intro i hi
  match i, hi with
  | 0, _ => exact ⟨-1, none, 0, 0, [], (hY 0 _ rfl).1, (hY 1 _ rfl).1, rfl, Arr.nil _ _ _, by decide +kernel⟩
  | 1, _ => exact ⟨4320, none, 0, 0, [], (hY 2 _ rfl).1, (hY 3 _ rfl).1, rfl, Arr.nil _ _ _, by decide +kernel⟩
  | 2, _ => exact ⟨0, _, 4, 4, [⟨⟨0, 0⟩, ⟨0, 0⟩⟩, ⟨⟨0, 0⟩, ⟨0, 0⟩⟩, ⟨⟨0, 0⟩, ⟨0, 0⟩⟩, ⟨⟨0, 0⟩, ⟨0, 0⟩⟩], (hY 4 _ rfl).1, (hY 5 _ rfl).1, rfl, ar 1 rfl, by decide +kernel⟩
  | 3, _ => exact ⟨100, _, 2, 2, [⟨⟨50, 54⟩, ⟨80, 81⟩⟩, ⟨⟨200, 200⟩, ⟨210, 212⟩⟩], (hY 6 _ rfl).1, (hY 7 _ rfl).1, rfl, ar 2 rfl, by decide +kernel⟩
  | 4, _ => exact ⟨100, _, 2, 2, [⟨⟨50, 52⟩, ⟨51, 53⟩⟩, ⟨⟨200, 200⟩, ⟨210, 212⟩⟩], (hY 8 _ rfl).1, (hY 9 _ rfl).1, rfl, ar 3 rfl, by decide +kernel⟩
  | 5, _ => exact ⟨100, _, 2, 2, [⟨⟨50, 52⟩, ⟨80, 81⟩⟩, ⟨⟨80, 82⟩, ⟨210, 212⟩⟩], (hY 10 _ rfl).1, (hY 11 _ rfl).1, rfl, ar 4 rfl, by decide +kernel⟩
  | 6, _ => exact ⟨100, _, 2, 2, [⟨⟨50, 52⟩, ⟨80, 81⟩⟩, ⟨⟨200, 200⟩, ⟨212, 211⟩⟩], (hY 12 _ rfl).1, (hY 13 _ rfl).1, rfl, ar 5 rfl, by decide +kernel⟩
  | 7, _ => exact ⟨100, _, 2, 2, [⟨⟨50, 52⟩, ⟨80, 81⟩⟩, ⟨⟨200, 200⟩, ⟨4318, 4320⟩⟩], (hY 14 _ rfl).1, (hY 15 _ rfl).1, rfl, ar 6 rfl, by decide +kernel⟩
theorem frL_cells : FC.toList = frosts frL := by rfl
def Z21 : Array Value := #[.int .i64 0, .int .i64 0, .int .i64 0, .int .i64 0, .int .i64 0, .int .i64 0, .int .i64 0, .int .i64 0, .int .i64 0, .int .i64 0, .int .i64 0, .int .i64 0, .int .i64 0, .int .i64 0, .int .i64 0, .int .i64 0, .int .i64 0, .int .i64 0, .int .i64 0, .int .i64 0, .int .i64 0]
theorem Z21_lines : Z21.toList = lines (List.replicate 7 ⟨0, ⟨0, 0⟩⟩) := by rfl
/-- what stays when a block of one type may be written -/
def RSp (t : TypeId) (w w' : World) : Prop := w.heap.size ≤ w'.heap.size ∧ (∀ b o, Wr w b o → Wr w' b o) ∧ (∀ (G : Nat) (cs : Array Value) (t' : TypeId), t' ≠ t → w.heap[G]? = some (.cells cs t') → w'.heap[G]? = some (.cells cs t')) ∧ ∀ (G : Nat), (∃ cs, w.heap[G]? = some (.cells cs t)) → ∃ cs, w'.heap[G]? = some (.cells cs t)
theorem RSp.refl {t : TypeId} {w : World} : RSp t w w := ⟨Nat.le_refl _, fun _ _ h => h, fun _ _ _ _ h => h, fun _ h => h⟩
theorem RSp.of {t : TypeId} {w w' : World} (h : Below w.heap.size w w') : RSp t w w' := ⟨h.size, fun _ _ hw => wr_below hw h hw.lt, fun G cs t' _ hG => (h.block G (Array.getElem?_eq_some_iff.1 hG).1).trans hG, fun G ⟨cs, hG⟩ => ⟨cs, (h.block G (Array.getElem?_eq_some_iff.1 hG).1).trans hG⟩⟩
theorem RSp.blk {t t' : TypeId} {w w' : World} {N G : Nat} {cs : Array Value} (h : RSp t w w') (hne : t' ≠ t) (hG : Blk N G cs t' w) : Blk N G cs t' w' := ⟨hG.1, Nat.lt_of_lt_of_le hG.2.1 h.1, h.2.2.1 G cs t' hne hG.2.2⟩
theorem RSp.trans {t : TypeId} {a b c : World} (h : RSp t a b) (k : RSp t b c) : RSp t a c := ⟨Nat.le_trans h.1 k.1, fun _ _ hw => k.2.1 _ _ (h.2.1 _ _ hw), fun G cs t' hne hG => k.2.2.1 G cs t' hne (h.2.2.1 G cs t' hne hG), fun G hG => k.2.2.2 G (h.2.2.2 G hG)⟩
theorem RSp.set {t : TypeId} {w : World} {B o : Nat} {v : Value} (hB : ∃ cs, w.heap[B]? = some (.cells cs t)) : RSp t w (w.setCell ⟨B, o, none⟩ v) := by
  obtain ⟨cs, hB⟩ := hB
  have other : ∀ G, G ≠ B → (w.setCell ⟨B, o, none⟩ v).heap[G]? = w.heap[G]? := fun G hne => by
    simp only [World.setCell, Array.getElem?_modify]
    rw [if_neg (Ne.symm hne)]
  have same : ∃ cs, (w.setCell ⟨B, o, none⟩ v).heap[B]? = some (.cells cs t) := by
    simp [World.setCell, Array.getElem?_modify, hB]
  refine ⟨by simp, fun b o' h => by rw [wr_set]; exact h, fun G cs' t' hne hG => ?_, fun G ⟨cs', hG⟩ => ?_⟩
  · have hGB : G ≠ B := fun e => by
      subst e
      rw [hB] at hG
      injection hG with hG
      injection hG with _ hG
      exact hne hG.symm
    rw [other G hGB]
    exact hG
  · by_cases e : G = B
    · subst e; exact same
    · exact ⟨cs', by rw [other G e]; exact hG⟩
theorem Blk.arr {N G : Nat} {cs : Array Value} {t : TypeId} {w : World} (h : Blk N G cs t w) {l : List Value} (e : cs.toList = l) : Arr w w.heap.size (some ⟨G, 0, none⟩) l := by rw [← e]; exact h.row.arr h.2.1

/-- a span in memory -/
def SpAt (w : World) (B : Nat) (x y : Int) : Prop := B < w.heap.size ∧ w.cell? ⟨B, 0, none⟩ = some (.int .i64 x) ∧ w.cell? ⟨B, 1, none⟩ = some (.int .i64 y)
theorem SpAt.below {w w' : World} {B : Nat} {x y : Int} (h : SpAt w B x y) (hb : Below w.heap.size w w') : SpAt w' B x y := ⟨Nat.lt_of_lt_of_le h.1 hb.size, (hb.cell (p := ⟨B, 0, none⟩) h.1).trans h.2.1, (hb.cell (p := ⟨B, 1, none⟩) h.1).trans h.2.2⟩
def LnC (r lo hi : Int) : Array Value := #[.int .i64 r, .int .i64 lo, .int .i64 hi]
theorem LnC_lines (r lo hi : Int) : (LnC r lo hi).toList = lines [⟨r, ⟨lo, hi⟩⟩] := by rfl
/-- the books that are none -/
def No1 (V : Nat) (w : World) : Prop := ∃ M a b c d, Blk 0 V #[sl M 7, sl a 1, sl b 1, sl c 1, sl d 1] 39 w ∧ Blk 0 M Z21 67 w ∧ Blk 0 a (LnC (-1) 0 0) 67 w ∧ Blk 0 b (LnC 8639 0 0) 67 w ∧ Blk 0 c (LnC 0 1 0) 67 w ∧ Blk 0 d (LnC 0 0 4320) 67 w
theorem No1.keep {V : Nat} {w w' : World} (h : No1 V w) (hb : Below w.heap.size w w') : No1 V w' := by
  obtain ⟨M, a, b, c, d, h0, h1, h2, h3, h4, h5⟩ := h
  exact ⟨M, a, b, c, d, h0.keep hb, h1.keep hb, h2.keep hb, h3.keep hb, h4.keep hb, h5.keep hb⟩
theorem no_at {V : Nat} {w : World} (h : No1 V w) : V < w.heap.size ∧ ∀ i, i < 5 → ∃ (A : Option Addr) (n c : Nat) (ls : List Ln), w.cell? ⟨V, i, none⟩ = some (.slice A n c) ∧ ls.length = n ∧ n ≤ 100 ∧ Arr w w.heap.size A (lines ls) ∧ bookB ls = false := by
  obtain ⟨M, a, b, c, d, h0, h1, h2, h3, h4, h5⟩ := h
  refine ⟨h0.2.1, fun i hi => ?_⟩
  match i, hi with
  | 0, _ => exact ⟨_, 7, 7, List.replicate 7 ⟨0, ⟨0, 0⟩⟩, (h0.row 0 _ rfl).1, rfl, by decide, h1.arr Z21_lines, by decide +kernel⟩
  | 1, _ => exact ⟨_, 1, 1, [⟨-1, ⟨0, 0⟩⟩], (h0.row 1 _ rfl).1, rfl, by decide, h2.arr (LnC_lines _ _ _), by decide +kernel⟩
  | 2, _ => exact ⟨_, 1, 1, [⟨8639, ⟨0, 0⟩⟩], (h0.row 2 _ rfl).1, rfl, by decide, h3.arr (LnC_lines _ _ _), by decide +kernel⟩
  | 3, _ => exact ⟨_, 1, 1, [⟨0, ⟨1, 0⟩⟩], (h0.row 3 _ rfl).1, rfl, by decide, h4.arr (LnC_lines _ _ _), by decide +kernel⟩
  | 4, _ => exact ⟨_, 1, 1, [⟨0, ⟨0, 4320⟩⟩], (h0.row 4 _ rfl).1, rfl, by decide, h5.arr (LnC_lines _ _ _), by decide +kernel⟩

set_option maxRecDepth 100000 in
set_option maxHeartbeats 4000000 in
theorem known_end (w wr : World) (a : Act) (e : Env) (hE : Fits 542 e a) (hB : Below w.heap.size w wr) : (cr 10 (bodyOf Try.f13)).wp Try.prog (bodyPost Try.prog Try.f13 (fun e w' => e = .returned (.bool true) ∧ Below w.heap.size w w')) a wr := by
  refine wp_seq ?_; (repeat (first | (with_reducible refine wp_seq ?_) | (with_reducible refine wp_block ?_) | (with_reducible refine then_n ?_) | (with_reducible refine inBlock_n ?_) | (with_reducible refine then_ret ?_) | (with_reducible refine inBlock_ret ?_) | (with_reducible refine then_exit ?_) | (with_reducible refine inBlock_hit ?_) | (with_reducible refine inBlock_miss (by decide) ?_) | (with_reducible refine wp_ret ?_) | (with_reducible refine wp_exit ?_) | (with_reducible refine wp_skip ?_)))
  refine region_straight (m := 8) rfl (fun Q' K hK => ?_)
  refine Late.plain (by (first | (simp only [List.getElem?_toArray, List.getElem?_cons_succ, List.getElem?_cons_zero]; rfl) | rfl)) rfl (fun K' hK' => ?_)
  refine op_run (fun ρ hρ qc qf qg => ?_); clear hρ; go_simp; (try go_bits); (try clear ρ); (try clear qc qf qg)
  go_at_call 53; refine (frosty_new _).mono ?_; rintro e w1 ⟨⟨G, rfl, hG⟩, h1⟩
  refine late_next hE (by decide) hK' (fun a_1 hE_1 => ?_); clear hK' K'; clear hE a
  refine Late.plain (by (first | (simp only [List.getElem?_toArray, List.getElem?_cons_succ, List.getElem?_cons_zero]; rfl) | rfl)) rfl (fun K' hK' => ?_)
  have r302 := hE_1.at 302 rfl
  refine op_run (fun ρ hρ qc qf qg => ?_); have q302 := rho hρ r302; clear hρ; go_simp; (try go_bits); (try clear ρ); (try clear qc qf qg r302 q302)
  go_at_call 14; refine (kShows v_shows1 rfl _ (hG.arr frL_cells)).mono ?_; rintro e w3 ⟨rfl, h3⟩
  refine late_next hE_1 (by decide) hK' (fun a_2 hE_2 => ?_); clear hK' K'; clear hE_1
  refine Late.plain (by (first | (simp only [List.getElem?_toArray, List.getElem?_cons_succ, List.getElem?_cons_zero]; rfl) | rfl)) rfl (fun K' hK' => ?_)
  have r303 := hE_2.at 303 rfl
  refine op_run (fun ρ hρ qc qf qg => ?_); have q303 := rho hρ r303; clear hρ; go_simp; (try go_bits); (try clear ρ); (try clear qc qf qg r303 q303)
  refine late_next hE_2 (by decide) hK' (fun a_3 hE_3 => ?_); clear hK' K'; clear hE_2
  refine Late.plain (by (first | (simp only [List.getElem?_toArray, List.getElem?_cons_succ, List.getElem?_cons_zero]; rfl) | rfl)) rfl (fun K' hK' => ?_)
  have r301 := hE_3.at 301 rfl
  refine op_run (fun ρ hρ qc qf qg => ?_); have q301 := rho hρ r301; clear hρ; go_simp; (try go_bits); (try clear ρ); (try clear qc qf qg r301 q301)
  refine late_next hE_3 (by decide) hK' (fun a_4 hE_4 => ?_); clear hK' K'; clear hE_3
  refine Late.plain (by (first | (simp only [List.getElem?_toArray, List.getElem?_cons_succ, List.getElem?_cons_zero]; rfl) | rfl)) rfl (fun K' hK' => ?_)
  have r301 := hE_4.at 301 rfl
  refine op_run (fun ρ hρ qc qf qg => ?_); have q301 := rho hρ r301; clear hρ; go_simp; (try go_bits); (try clear ρ); (try clear qc qf qg r301 q301)
  refine late_next hE_4 (by decide) hK' (fun a_5 hE_5 => ?_); clear hK' K'; clear hE_4
  refine Late.plain (by (first | (simp only [List.getElem?_toArray, List.getElem?_cons_succ, List.getElem?_cons_zero]; rfl) | rfl)) rfl (fun K' hK' => ?_)
  refine op_run (fun ρ hρ qc qf qg => ?_); clear hρ; go_simp; (try go_bits); (try clear ρ); (try clear qc qf qg)
  refine late_next hE_5 (by decide) hK' (fun a_6 hE_6 => ?_); clear hK' K'; clear hE_5
  refine Late.plain (by (first | (simp only [List.getElem?_toArray, List.getElem?_cons_succ, List.getElem?_cons_zero]; rfl) | rfl)) rfl (fun K' hK' => ?_)
  have r31 := hE_6.at 31 rfl; have r304 := hE_6.at 304 rfl
  refine op_run (fun ρ hρ qc qf qg => ?_); have q31 := rho hρ r31; have q304 := rho hρ r304; clear hρ; go_simp; (try go_bits); (try clear ρ); (try clear qc qf qg r31 q31 r304 q304)
  refine late_skip hE_6 hK' (fun a_7 hE_7 => ?_); clear hK' K'; clear hE_6
  refine Late.plain (by (first | (simp only [List.getElem?_toArray, List.getElem?_cons_succ, List.getElem?_cons_zero]; rfl) | rfl)) rfl (fun K' hK' => ?_)
  have r305 := hE_7.at 305 rfl
  refine op_run (fun ρ hρ qc qf qg => ?_); have q305 := rho hρ r305; clear hρ; go_simp; (try go_bits); (try clear ρ); (try clear qc qf qg r305 q305)
  refine late_next hE_7 (by decide) hK' (fun a_8 hE_8 => ?_); clear hK' K'; clear hE_7
  refine late_done [32] hE_8 hK (fun a hE => ?_); clear hK K Q' hE_8; simp only [lk, pick, Nat.reduceEqDiff, ↓reduceIte] at hE
  have hw3 : Below wr.heap.size wr w3 := h1.trans (h3.mono h1.size)
  have hz3 := hw3.size
  refine world_cut (fun wt => Below wr.heap.size wr wt) ?_ (fun v1 hBd => ?_)
  · (repeat' (first | (with_reducible exact Below.refl _ _) | (with_reducible assumption) | (with_reducible refine Below.drew ?_) | (with_reducible refine below_drewN ?_ _) | (with_reducible refine Below.setCell ?_ ?_ _) | (with_reducible refine Below.alloc ?_ ?_ _) | go_size | (exact Below.size (by assumption)) | (refine Below.trans ?_ (Below.mono (by assumption) ?_))))
  have hBd' := hB.trans (hBd.mono hB.size)
  clear hB hBd hw3 hz3 h1 h3 hG
  have hB := hBd'
  clear hBd'
  (repeat (first | (with_reducible refine wp_seq ?_) | (with_reducible refine wp_block ?_) | (with_reducible refine then_n ?_) | (with_reducible refine inBlock_n ?_) | (with_reducible refine then_ret ?_) | (with_reducible refine inBlock_ret ?_) | (with_reducible refine then_exit ?_) | (with_reducible refine inBlock_hit ?_) | (with_reducible refine inBlock_miss (by decide) ?_) | (with_reducible refine wp_ret ?_) | (with_reducible refine wp_exit ?_) | (with_reducible refine wp_skip ?_)))
  refine region_straight (m := 8) rfl (fun Q' K hK => ?_)
  refine Late.plain (by (first | (simp only [List.getElem?_toArray, List.getElem?_cons_succ, List.getElem?_cons_zero]; rfl) | rfl)) rfl (fun K' hK' => ?_)
  refine op_run (fun ρ hρ qc qf qg => ?_); clear hρ; go_simp; (try go_bits); (try clear ρ); (try clear qc qf qg)
  go_at_call 53; refine (frosty_new _).mono ?_; rintro e w1 ⟨⟨G, rfl, hG⟩, h1⟩
  refine late_next hE (by decide) hK' (fun a_1 hE_1 => ?_); clear hK' K'; clear hE a
  refine Late.plain (by (first | (simp only [List.getElem?_toArray, List.getElem?_cons_succ, List.getElem?_cons_zero]; rfl) | rfl)) rfl (fun K' hK' => ?_)
  have r307 := hE_1.at 307 rfl
  refine op_run (fun ρ hρ qc qf qg => ?_); have q307 := rho hρ r307; clear hρ; go_simp; (try go_bits); (try clear ρ); (try clear qc qf qg r307 q307)
  go_at_call 18; refine (kMeans v_means1 rfl _ (hG.arr frL_cells)).mono ?_; rintro e w3 ⟨rfl, h3⟩
  refine late_next hE_1 (by decide) hK' (fun a_2 hE_2 => ?_); clear hK' K'; clear hE_1
  refine Late.plain (by (first | (simp only [List.getElem?_toArray, List.getElem?_cons_succ, List.getElem?_cons_zero]; rfl) | rfl)) rfl (fun K' hK' => ?_)
  have r308 := hE_2.at 308 rfl
  refine op_run (fun ρ hρ qc qf qg => ?_); have q308 := rho hρ r308; clear hρ; go_simp; (try go_bits); (try clear ρ); (try clear qc qf qg r308 q308)
  refine late_next hE_2 (by decide) hK' (fun a_3 hE_3 => ?_); clear hK' K'; clear hE_2
  refine Late.plain (by (first | (simp only [List.getElem?_toArray, List.getElem?_cons_succ, List.getElem?_cons_zero]; rfl) | rfl)) rfl (fun K' hK' => ?_)
  have r306 := hE_3.at 306 rfl
  refine op_run (fun ρ hρ qc qf qg => ?_); have q306 := rho hρ r306; clear hρ; go_simp; (try go_bits); (try clear ρ); (try clear qc qf qg r306 q306)
  refine late_next hE_3 (by decide) hK' (fun a_4 hE_4 => ?_); clear hK' K'; clear hE_3
  refine Late.plain (by (first | (simp only [List.getElem?_toArray, List.getElem?_cons_succ, List.getElem?_cons_zero]; rfl) | rfl)) rfl (fun K' hK' => ?_)
  have r306 := hE_4.at 306 rfl
  refine op_run (fun ρ hρ qc qf qg => ?_); have q306 := rho hρ r306; clear hρ; go_simp; (try go_bits); (try clear ρ); (try clear qc qf qg r306 q306)
  refine late_next hE_4 (by decide) hK' (fun a_5 hE_5 => ?_); clear hK' K'; clear hE_4
  refine Late.plain (by (first | (simp only [List.getElem?_toArray, List.getElem?_cons_succ, List.getElem?_cons_zero]; rfl) | rfl)) rfl (fun K' hK' => ?_)
  refine op_run (fun ρ hρ qc qf qg => ?_); clear hρ; go_simp; (try go_bits); (try clear ρ); (try clear qc qf qg)
  refine late_next hE_5 (by decide) hK' (fun a_6 hE_6 => ?_); clear hK' K'; clear hE_5
  refine Late.plain (by (first | (simp only [List.getElem?_toArray, List.getElem?_cons_succ, List.getElem?_cons_zero]; rfl) | rfl)) rfl (fun K' hK' => ?_)
  have r33 := hE_6.at 33 rfl; have r309 := hE_6.at 309 rfl
  refine op_run (fun ρ hρ qc qf qg => ?_); have q33 := rho hρ r33; have q309 := rho hρ r309; clear hρ; go_simp; (try go_bits); (try clear ρ); (try clear qc qf qg r33 q33 r309 q309)
  refine late_skip hE_6 hK' (fun a_7 hE_7 => ?_); clear hK' K'; clear hE_6
  refine Late.plain (by (first | (simp only [List.getElem?_toArray, List.getElem?_cons_succ, List.getElem?_cons_zero]; rfl) | rfl)) rfl (fun K' hK' => ?_)
  have r310 := hE_7.at 310 rfl
  refine op_run (fun ρ hρ qc qf qg => ?_); have q310 := rho hρ r310; clear hρ; go_simp; (try go_bits); (try clear ρ); (try clear qc qf qg r310 q310)
  refine late_next hE_7 (by decide) hK' (fun a_8 hE_8 => ?_); clear hK' K'; clear hE_7
  refine late_done [32, 34] hE_8 hK (fun a hE => ?_); clear hK K Q' hE_8; simp only [lk, pick, Nat.reduceEqDiff, ↓reduceIte] at hE
  have hw3 : Below v1.heap.size v1 w3 := h1.trans (h3.mono h1.size)
  have hz3 := hw3.size
  refine world_cut (fun wt => Below v1.heap.size v1 wt) ?_ (fun v2 hBd => ?_)
  · (repeat' (first | (with_reducible exact Below.refl _ _) | (with_reducible assumption) | (with_reducible refine Below.drew ?_) | (with_reducible refine below_drewN ?_ _) | (with_reducible refine Below.setCell ?_ ?_ _) | (with_reducible refine Below.alloc ?_ ?_ _) | go_size | (exact Below.size (by assumption)) | (refine Below.trans ?_ (Below.mono (by assumption) ?_))))
  have hBd' := hB.trans (hBd.mono hB.size)
  clear hB hBd hw3 hz3 h1 h3 hG
  have hB := hBd'
  clear hBd'
  (repeat (first | (with_reducible refine wp_seq ?_) | (with_reducible refine wp_block ?_) | (with_reducible refine then_n ?_) | (with_reducible refine inBlock_n ?_) | (with_reducible refine then_ret ?_) | (with_reducible refine inBlock_ret ?_) | (with_reducible refine then_exit ?_) | (with_reducible refine inBlock_hit ?_) | (with_reducible refine inBlock_miss (by decide) ?_) | (with_reducible refine wp_ret ?_) | (with_reducible refine wp_exit ?_) | (with_reducible refine wp_skip ?_)))
  refine region_straight (m := 8) rfl (fun Q' K hK => ?_)
  refine Late.plain (by (first | (simp only [List.getElem?_toArray, List.getElem?_cons_succ, List.getElem?_cons_zero]; rfl) | rfl)) rfl (fun K' hK' => ?_)
  refine op_run (fun ρ hρ qc qf qg => ?_); clear hρ; go_simp; (try go_bits); (try clear ρ); (try clear qc qf qg)
  go_at_call 53; refine (frosty_new _).mono ?_; rintro e w1 ⟨⟨G, rfl, hG⟩, h1⟩
  refine late_next hE (by decide) hK' (fun a_1 hE_1 => ?_); clear hK' K'; clear hE a
  refine Late.plain (by (first | (simp only [List.getElem?_toArray, List.getElem?_cons_succ, List.getElem?_cons_zero]; rfl) | rfl)) rfl (fun K' hK' => ?_)
  have r312 := hE_1.at 312 rfl
  refine op_run (fun ρ hρ qc qf qg => ?_); have q312 := rho hρ r312; clear hρ; go_simp; (try go_bits); (try clear ρ); (try clear qc qf qg r312 q312)
  go_at_call 20; refine (kPassed v_passed1 rfl _ (hG.arr frL_cells)).mono ?_; rintro e w3 ⟨rfl, h3⟩
  refine late_next hE_1 (by decide) hK' (fun a_2 hE_2 => ?_); clear hK' K'; clear hE_1
  refine Late.plain (by (first | (simp only [List.getElem?_toArray, List.getElem?_cons_succ, List.getElem?_cons_zero]; rfl) | rfl)) rfl (fun K' hK' => ?_)
  have r313 := hE_2.at 313 rfl
  refine op_run (fun ρ hρ qc qf qg => ?_); have q313 := rho hρ r313; clear hρ; go_simp; (try go_bits); (try clear ρ); (try clear qc qf qg r313 q313)
  refine late_next hE_2 (by decide) hK' (fun a_3 hE_3 => ?_); clear hK' K'; clear hE_2
  refine Late.plain (by (first | (simp only [List.getElem?_toArray, List.getElem?_cons_succ, List.getElem?_cons_zero]; rfl) | rfl)) rfl (fun K' hK' => ?_)
  have r311 := hE_3.at 311 rfl
  refine op_run (fun ρ hρ qc qf qg => ?_); have q311 := rho hρ r311; clear hρ; go_simp; (try go_bits); (try clear ρ); (try clear qc qf qg r311 q311)
  refine late_next hE_3 (by decide) hK' (fun a_4 hE_4 => ?_); clear hK' K'; clear hE_3
  refine Late.plain (by (first | (simp only [List.getElem?_toArray, List.getElem?_cons_succ, List.getElem?_cons_zero]; rfl) | rfl)) rfl (fun K' hK' => ?_)
  have r311 := hE_4.at 311 rfl
  refine op_run (fun ρ hρ qc qf qg => ?_); have q311 := rho hρ r311; clear hρ; go_simp; (try go_bits); (try clear ρ); (try clear qc qf qg r311 q311)
  refine late_next hE_4 (by decide) hK' (fun a_5 hE_5 => ?_); clear hK' K'; clear hE_4
  refine Late.plain (by (first | (simp only [List.getElem?_toArray, List.getElem?_cons_succ, List.getElem?_cons_zero]; rfl) | rfl)) rfl (fun K' hK' => ?_)
  refine op_run (fun ρ hρ qc qf qg => ?_); clear hρ; go_simp; (try go_bits); (try clear ρ); (try clear qc qf qg)
  refine late_next hE_5 (by decide) hK' (fun a_6 hE_6 => ?_); clear hK' K'; clear hE_5
  refine Late.plain (by (first | (simp only [List.getElem?_toArray, List.getElem?_cons_succ, List.getElem?_cons_zero]; rfl) | rfl)) rfl (fun K' hK' => ?_)
  have r35 := hE_6.at 35 rfl; have r314 := hE_6.at 314 rfl
  refine op_run (fun ρ hρ qc qf qg => ?_); have q35 := rho hρ r35; have q314 := rho hρ r314; clear hρ; go_simp; (try go_bits); (try clear ρ); (try clear qc qf qg r35 q35 r314 q314)
  refine late_skip hE_6 hK' (fun a_7 hE_7 => ?_); clear hK' K'; clear hE_6
  refine Late.plain (by (first | (simp only [List.getElem?_toArray, List.getElem?_cons_succ, List.getElem?_cons_zero]; rfl) | rfl)) rfl (fun K' hK' => ?_)
  have r315 := hE_7.at 315 rfl
  refine op_run (fun ρ hρ qc qf qg => ?_); have q315 := rho hρ r315; clear hρ; go_simp; (try go_bits); (try clear ρ); (try clear qc qf qg r315 q315)
  refine late_next hE_7 (by decide) hK' (fun a_8 hE_8 => ?_); clear hK' K'; clear hE_7
  refine late_done [32, 34, 36] hE_8 hK (fun a hE => ?_); clear hK K Q' hE_8; simp only [lk, pick, Nat.reduceEqDiff, ↓reduceIte] at hE
  have hw3 : Below v2.heap.size v2 w3 := h1.trans (h3.mono h1.size)
  have hz3 := hw3.size
  refine world_cut (fun wt => Below v2.heap.size v2 wt) ?_ (fun v3 hBd => ?_)
  · (repeat' (first | (with_reducible exact Below.refl _ _) | (with_reducible assumption) | (with_reducible refine Below.drew ?_) | (with_reducible refine below_drewN ?_ _) | (with_reducible refine Below.setCell ?_ ?_ _) | (with_reducible refine Below.alloc ?_ ?_ _) | go_size | (exact Below.size (by assumption)) | (refine Below.trans ?_ (Below.mono (by assumption) ?_))))
  have hBd' := hB.trans (hBd.mono hB.size)
  clear hB hBd hw3 hz3 h1 h3 hG
  have hB := hBd'
  clear hBd'
  (repeat (first | (with_reducible refine wp_seq ?_) | (with_reducible refine wp_block ?_) | (with_reducible refine then_n ?_) | (with_reducible refine inBlock_n ?_) | (with_reducible refine then_ret ?_) | (with_reducible refine inBlock_ret ?_) | (with_reducible refine then_exit ?_) | (with_reducible refine inBlock_hit ?_) | (with_reducible refine inBlock_miss (by decide) ?_) | (with_reducible refine wp_ret ?_) | (with_reducible refine wp_exit ?_) | (with_reducible refine wp_skip ?_)))
  refine region_straight (m := 8) rfl (fun Q' K hK => ?_)
  refine Late.plain (by (first | (simp only [List.getElem?_toArray, List.getElem?_cons_succ, List.getElem?_cons_zero]; rfl) | rfl)) rfl (fun K' hK' => ?_)
  refine op_run (fun ρ hρ qc qf qg => ?_); clear hρ; go_simp; (try go_bits); (try clear ρ); (try clear qc qf qg)
  go_at_call 53; refine (frosty_new _).mono ?_; rintro e w1 ⟨⟨G, rfl, hG⟩, h1⟩
  refine late_next hE (by decide) hK' (fun a_1 hE_1 => ?_); clear hK' K'; clear hE a
  refine Late.plain (by (first | (simp only [List.getElem?_toArray, List.getElem?_cons_succ, List.getElem?_cons_zero]; rfl) | rfl)) rfl (fun K' hK' => ?_)
  refine op_run (fun ρ hρ qc qf qg => ?_); clear hρ; go_simp; (try go_bits); (try clear ρ); (try clear qc qf qg)
  go_at_call 53; refine (frosty_new _).mono ?_; rintro e w2 ⟨⟨G2, rfl, hG2⟩, h2⟩
  refine late_next hE_1 (by decide) hK' (fun a_2 hE_2 => ?_); clear hK' K'; clear hE_1
  refine Late.plain (by (first | (simp only [List.getElem?_toArray, List.getElem?_cons_succ, List.getElem?_cons_zero]; rfl) | rfl)) rfl (fun K' hK' => ?_)
  have r317 := hE_2.at 317 rfl; have r318 := hE_2.at 318 rfl
  refine op_run (fun ρ hρ qc qf qg => ?_); have q317 := rho hρ r317; have q318 := rho hρ r318; clear hρ; go_simp; (try go_bits); (try clear ρ); (try clear qc qf qg r317 q317 r318 q318)
  go_at_call 23; refine (kBefore v_before1 rfl rfl _ ((hG.keep h2).arr frL_cells) (hG2.arr frL_cells)).mono ?_; rintro e w3 ⟨rfl, h3⟩
  refine late_next hE_2 (by decide) hK' (fun a_3 hE_3 => ?_); clear hK' K'; clear hE_2
  refine Late.plain (by (first | (simp only [List.getElem?_toArray, List.getElem?_cons_succ, List.getElem?_cons_zero]; rfl) | rfl)) rfl (fun K' hK' => ?_)
  have r319 := hE_3.at 319 rfl
  refine op_run (fun ρ hρ qc qf qg => ?_); have q319 := rho hρ r319; clear hρ; go_simp; (try go_bits); (try clear ρ); (try clear qc qf qg r319 q319)
  refine late_next hE_3 (by decide) hK' (fun a_4 hE_4 => ?_); clear hK' K'; clear hE_3
  refine Late.plain (by (first | (simp only [List.getElem?_toArray, List.getElem?_cons_succ, List.getElem?_cons_zero]; rfl) | rfl)) rfl (fun K' hK' => ?_)
  have r316 := hE_4.at 316 rfl
  refine op_run (fun ρ hρ qc qf qg => ?_); have q316 := rho hρ r316; clear hρ; go_simp; (try go_bits); (try clear ρ); (try clear qc qf qg r316 q316)
  refine late_next hE_4 (by decide) hK' (fun a_5 hE_5 => ?_); clear hK' K'; clear hE_4
  refine Late.plain (by (first | (simp only [List.getElem?_toArray, List.getElem?_cons_succ, List.getElem?_cons_zero]; rfl) | rfl)) rfl (fun K' hK' => ?_)
  have r316 := hE_5.at 316 rfl
  refine op_run (fun ρ hρ qc qf qg => ?_); have q316 := rho hρ r316; clear hρ; go_simp; (try go_bits); (try clear ρ); (try clear qc qf qg r316 q316)
  refine late_next hE_5 (by decide) hK' (fun a_6 hE_6 => ?_); clear hK' K'; clear hE_5
  refine Late.plain (by (first | (simp only [List.getElem?_toArray, List.getElem?_cons_succ, List.getElem?_cons_zero]; rfl) | rfl)) rfl (fun K' hK' => ?_)
  have r320 := hE_6.at 320 rfl
  refine op_run (fun ρ hρ qc qf qg => ?_); have q320 := rho hρ r320; clear hρ; go_simp; (try go_bits); (try clear ρ); (try clear qc qf qg r320 q320)
  refine late_next hE_6 (by decide) hK' (fun a_7 hE_7 => ?_); clear hK' K'; clear hE_6
  refine Late.plain (by (first | (simp only [List.getElem?_toArray, List.getElem?_cons_succ, List.getElem?_cons_zero]; rfl) | rfl)) rfl (fun K' hK' => ?_)
  have r321 := hE_7.at 321 rfl
  refine op_run (fun ρ hρ qc qf qg => ?_); have q321 := rho hρ r321; clear hρ; go_simp; (try go_bits); (try clear ρ); (try clear qc qf qg r321 q321)
  refine late_next hE_7 (by decide) hK' (fun a_8 hE_8 => ?_); clear hK' K'; clear hE_7
  refine late_done [32, 34, 36, 38] hE_8 hK (fun a hE => ?_); clear hK K Q' hE_8; simp only [lk, pick, Nat.reduceEqDiff, ↓reduceIte] at hE
  have hw3 : Below v3.heap.size v3 w3 := h1.trans ((h2.trans (h3.mono h2.size)).mono h1.size)
  have hz3 := hw3.size
  refine world_cut (fun wt => Below v3.heap.size v3 wt) ?_ (fun v4 hBd => ?_)
  · (repeat' (first | (with_reducible exact Below.refl _ _) | (with_reducible assumption) | (with_reducible refine Below.drew ?_) | (with_reducible refine below_drewN ?_ _) | (with_reducible refine Below.setCell ?_ ?_ _) | (with_reducible refine Below.alloc ?_ ?_ _) | go_size | (exact Below.size (by assumption)) | (refine Below.trans ?_ (Below.mono (by assumption) ?_))))
  have hBd' := hB.trans (hBd.mono hB.size)
  clear hB hBd hw3 hz3 h1 h3 hG h2 hG2
  have hB := hBd'
  clear hBd'
  (repeat (first | (with_reducible refine wp_seq ?_) | (with_reducible refine wp_block ?_) | (with_reducible refine then_n ?_) | (with_reducible refine inBlock_n ?_) | (with_reducible refine then_ret ?_) | (with_reducible refine inBlock_ret ?_) | (with_reducible refine then_exit ?_) | (with_reducible refine inBlock_hit ?_) | (with_reducible refine inBlock_miss (by decide) ?_) | (with_reducible refine wp_ret ?_) | (with_reducible refine wp_exit ?_) | (with_reducible refine wp_skip ?_)))
  refine region_straight (m := 8) rfl (fun Q' K hK => ?_)
  refine Late.plain (by (first | (simp only [List.getElem?_toArray, List.getElem?_cons_succ, List.getElem?_cons_zero]; rfl) | rfl)) rfl (fun K' hK' => ?_)
  refine op_run (fun ρ hρ qc qf qg => ?_); clear hρ; go_simp; (try go_bits); (try clear ρ); (try clear qc qf qg)
  go_at_call 53; refine (frosty_new _).mono ?_; rintro e w1 ⟨⟨G, rfl, hG⟩, h1⟩
  refine late_next hE (by decide) hK' (fun a_1 hE_1 => ?_); clear hK' K'; clear hE a
  refine Late.plain (by (first | (simp only [List.getElem?_toArray, List.getElem?_cons_succ, List.getElem?_cons_zero]; rfl) | rfl)) rfl (fun K' hK' => ?_)
  have r323 := hE_1.at 323 rfl
  refine op_run (fun ρ hρ qc qf qg => ?_); have q323 := rho hρ r323; clear hρ; go_simp; (try go_bits); (try clear ρ); (try clear qc qf qg r323 q323)
  go_at_call 18; refine (kMeans v_means2 rfl _ (hG.arr frL_cells)).mono ?_; rintro e w3 ⟨rfl, h3⟩
  refine late_next hE_1 (by decide) hK' (fun a_2 hE_2 => ?_); clear hK' K'; clear hE_1
  refine Late.plain (by (first | (simp only [List.getElem?_toArray, List.getElem?_cons_succ, List.getElem?_cons_zero]; rfl) | rfl)) rfl (fun K' hK' => ?_)
  have r324 := hE_2.at 324 rfl
  refine op_run (fun ρ hρ qc qf qg => ?_); have q324 := rho hρ r324; clear hρ; go_simp; (try go_bits); (try clear ρ); (try clear qc qf qg r324 q324)
  refine late_next hE_2 (by decide) hK' (fun a_3 hE_3 => ?_); clear hK' K'; clear hE_2
  refine Late.plain (by (first | (simp only [List.getElem?_toArray, List.getElem?_cons_succ, List.getElem?_cons_zero]; rfl) | rfl)) rfl (fun K' hK' => ?_)
  have r322 := hE_3.at 322 rfl
  refine op_run (fun ρ hρ qc qf qg => ?_); have q322 := rho hρ r322; clear hρ; go_simp; (try go_bits); (try clear ρ); (try clear qc qf qg r322 q322)
  refine late_next hE_3 (by decide) hK' (fun a_4 hE_4 => ?_); clear hK' K'; clear hE_3
  refine Late.plain (by (first | (simp only [List.getElem?_toArray, List.getElem?_cons_succ, List.getElem?_cons_zero]; rfl) | rfl)) rfl (fun K' hK' => ?_)
  have r322 := hE_4.at 322 rfl
  refine op_run (fun ρ hρ qc qf qg => ?_); have q322 := rho hρ r322; clear hρ; go_simp; (try go_bits); (try clear ρ); (try clear qc qf qg r322 q322)
  refine late_next hE_4 (by decide) hK' (fun a_5 hE_5 => ?_); clear hK' K'; clear hE_4
  refine Late.plain (by (first | (simp only [List.getElem?_toArray, List.getElem?_cons_succ, List.getElem?_cons_zero]; rfl) | rfl)) rfl (fun K' hK' => ?_)
  refine op_run (fun ρ hρ qc qf qg => ?_); clear hρ; go_simp; (try go_bits); (try clear ρ); (try clear qc qf qg)
  refine late_next hE_5 (by decide) hK' (fun a_6 hE_6 => ?_); clear hK' K'; clear hE_5
  refine Late.plain (by (first | (simp only [List.getElem?_toArray, List.getElem?_cons_succ, List.getElem?_cons_zero]; rfl) | rfl)) rfl (fun K' hK' => ?_)
  have r39 := hE_6.at 39 rfl; have r325 := hE_6.at 325 rfl
  refine op_run (fun ρ hρ qc qf qg => ?_); have q39 := rho hρ r39; have q325 := rho hρ r325; clear hρ; go_simp; (try go_bits); (try clear ρ); (try clear qc qf qg r39 q39 r325 q325)
  refine late_skip hE_6 hK' (fun a_7 hE_7 => ?_); clear hK' K'; clear hE_6
  refine Late.plain (by (first | (simp only [List.getElem?_toArray, List.getElem?_cons_succ, List.getElem?_cons_zero]; rfl) | rfl)) rfl (fun K' hK' => ?_)
  have r326 := hE_7.at 326 rfl
  refine op_run (fun ρ hρ qc qf qg => ?_); have q326 := rho hρ r326; clear hρ; go_simp; (try go_bits); (try clear ρ); (try clear qc qf qg r326 q326)
  refine late_next hE_7 (by decide) hK' (fun a_8 hE_8 => ?_); clear hK' K'; clear hE_7
  refine late_done [32, 34, 36, 38, 40] hE_8 hK (fun a hE => ?_); clear hK K Q' hE_8; simp only [lk, pick, Nat.reduceEqDiff, ↓reduceIte] at hE
  have hw3 : Below v4.heap.size v4 w3 := h1.trans (h3.mono h1.size)
  have hz3 := hw3.size
  refine world_cut (fun wt => Below v4.heap.size v4 wt) ?_ (fun v5 hBd => ?_)
  · (repeat' (first | (with_reducible exact Below.refl _ _) | (with_reducible assumption) | (with_reducible refine Below.drew ?_) | (with_reducible refine below_drewN ?_ _) | (with_reducible refine Below.setCell ?_ ?_ _) | (with_reducible refine Below.alloc ?_ ?_ _) | go_size | (exact Below.size (by assumption)) | (refine Below.trans ?_ (Below.mono (by assumption) ?_))))
  have hBd' := hB.trans (hBd.mono hB.size)
  clear hB hBd hw3 hz3 h1 h3 hG
  have hB := hBd'
  clear hBd'
  (repeat (first | (with_reducible refine wp_seq ?_) | (with_reducible refine wp_block ?_) | (with_reducible refine then_n ?_) | (with_reducible refine inBlock_n ?_) | (with_reducible refine then_ret ?_) | (with_reducible refine inBlock_ret ?_) | (with_reducible refine then_exit ?_) | (with_reducible refine inBlock_hit ?_) | (with_reducible refine inBlock_miss (by decide) ?_) | (with_reducible refine wp_ret ?_) | (with_reducible refine wp_exit ?_) | (with_reducible refine wp_skip ?_)))
  refine region_straight (m := 8) rfl (fun Q' K hK => ?_)
  refine Late.plain (by (first | (simp only [List.getElem?_toArray, List.getElem?_cons_succ, List.getElem?_cons_zero]; rfl) | rfl)) rfl (fun K' hK' => ?_)
  refine op_run (fun ρ hρ qc qf qg => ?_); clear hρ; go_simp; (try go_bits); (try clear ρ); (try clear qc qf qg)
  go_at_call 53; refine (frosty_new _).mono ?_; rintro e w1 ⟨⟨G, rfl, hG⟩, h1⟩
  refine late_next hE (by decide) hK' (fun a_1 hE_1 => ?_); clear hK' K'; clear hE a
  refine Late.plain (by (first | (simp only [List.getElem?_toArray, List.getElem?_cons_succ, List.getElem?_cons_zero]; rfl) | rfl)) rfl (fun K' hK' => ?_)
  have r328 := hE_1.at 328 rfl
  refine op_run (fun ρ hρ qc qf qg => ?_); have q328 := rho hρ r328; clear hρ; go_simp; (try go_bits); (try clear ρ); (try clear qc qf qg r328 q328)
  go_at_call 20; refine (kPassed v_passed2 rfl _ (hG.arr frL_cells)).mono ?_; rintro e w3 ⟨rfl, h3⟩
  refine late_next hE_1 (by decide) hK' (fun a_2 hE_2 => ?_); clear hK' K'; clear hE_1
  refine Late.plain (by (first | (simp only [List.getElem?_toArray, List.getElem?_cons_succ, List.getElem?_cons_zero]; rfl) | rfl)) rfl (fun K' hK' => ?_)
  have r329 := hE_2.at 329 rfl
  refine op_run (fun ρ hρ qc qf qg => ?_); have q329 := rho hρ r329; clear hρ; go_simp; (try go_bits); (try clear ρ); (try clear qc qf qg r329 q329)
  refine late_next hE_2 (by decide) hK' (fun a_3 hE_3 => ?_); clear hK' K'; clear hE_2
  refine Late.plain (by (first | (simp only [List.getElem?_toArray, List.getElem?_cons_succ, List.getElem?_cons_zero]; rfl) | rfl)) rfl (fun K' hK' => ?_)
  have r327 := hE_3.at 327 rfl
  refine op_run (fun ρ hρ qc qf qg => ?_); have q327 := rho hρ r327; clear hρ; go_simp; (try go_bits); (try clear ρ); (try clear qc qf qg r327 q327)
  refine late_next hE_3 (by decide) hK' (fun a_4 hE_4 => ?_); clear hK' K'; clear hE_3
  refine Late.plain (by (first | (simp only [List.getElem?_toArray, List.getElem?_cons_succ, List.getElem?_cons_zero]; rfl) | rfl)) rfl (fun K' hK' => ?_)
  have r327 := hE_4.at 327 rfl
  refine op_run (fun ρ hρ qc qf qg => ?_); have q327 := rho hρ r327; clear hρ; go_simp; (try go_bits); (try clear ρ); (try clear qc qf qg r327 q327)
  refine late_next hE_4 (by decide) hK' (fun a_5 hE_5 => ?_); clear hK' K'; clear hE_4
  refine Late.plain (by (first | (simp only [List.getElem?_toArray, List.getElem?_cons_succ, List.getElem?_cons_zero]; rfl) | rfl)) rfl (fun K' hK' => ?_)
  refine op_run (fun ρ hρ qc qf qg => ?_); clear hρ; go_simp; (try go_bits); (try clear ρ); (try clear qc qf qg)
  refine late_next hE_5 (by decide) hK' (fun a_6 hE_6 => ?_); clear hK' K'; clear hE_5
  refine Late.plain (by (first | (simp only [List.getElem?_toArray, List.getElem?_cons_succ, List.getElem?_cons_zero]; rfl) | rfl)) rfl (fun K' hK' => ?_)
  have r41 := hE_6.at 41 rfl; have r330 := hE_6.at 330 rfl
  refine op_run (fun ρ hρ qc qf qg => ?_); have q41 := rho hρ r41; have q330 := rho hρ r330; clear hρ; go_simp; (try go_bits); (try clear ρ); (try clear qc qf qg r41 q41 r330 q330)
  refine late_skip hE_6 hK' (fun a_7 hE_7 => ?_); clear hK' K'; clear hE_6
  refine Late.plain (by (first | (simp only [List.getElem?_toArray, List.getElem?_cons_succ, List.getElem?_cons_zero]; rfl) | rfl)) rfl (fun K' hK' => ?_)
  have r331 := hE_7.at 331 rfl
  refine op_run (fun ρ hρ qc qf qg => ?_); have q331 := rho hρ r331; clear hρ; go_simp; (try go_bits); (try clear ρ); (try clear qc qf qg r331 q331)
  refine late_next hE_7 (by decide) hK' (fun a_8 hE_8 => ?_); clear hK' K'; clear hE_7
  refine late_done [32, 34, 36, 38, 40, 42] hE_8 hK (fun a hE => ?_); clear hK K Q' hE_8; simp only [lk, pick, Nat.reduceEqDiff, ↓reduceIte] at hE
  have hw3 : Below v5.heap.size v5 w3 := h1.trans (h3.mono h1.size)
  have hz3 := hw3.size
  refine world_cut (fun wt => Below v5.heap.size v5 wt) ?_ (fun v6 hBd => ?_)
  · (repeat' (first | (with_reducible exact Below.refl _ _) | (with_reducible assumption) | (with_reducible refine Below.drew ?_) | (with_reducible refine below_drewN ?_ _) | (with_reducible refine Below.setCell ?_ ?_ _) | (with_reducible refine Below.alloc ?_ ?_ _) | go_size | (exact Below.size (by assumption)) | (refine Below.trans ?_ (Below.mono (by assumption) ?_))))
  have hBd' := hB.trans (hBd.mono hB.size)
  clear hB hBd hw3 hz3 h1 h3 hG
  have hB := hBd'
  clear hBd'
  (repeat (first | (with_reducible refine wp_seq ?_) | (with_reducible refine wp_block ?_) | (with_reducible refine then_n ?_) | (with_reducible refine inBlock_n ?_) | (with_reducible refine then_ret ?_) | (with_reducible refine inBlock_ret ?_) | (with_reducible refine then_exit ?_) | (with_reducible refine inBlock_hit ?_) | (with_reducible refine inBlock_miss (by decide) ?_) | (with_reducible refine wp_ret ?_) | (with_reducible refine wp_exit ?_) | (with_reducible refine wp_skip ?_)))
  refine region_straight (m := 8) rfl (fun Q' K hK => ?_)
  refine Late.plain (by (first | (simp only [List.getElem?_toArray, List.getElem?_cons_succ, List.getElem?_cons_zero]; rfl) | rfl)) rfl (fun K' hK' => ?_)
  refine op_run (fun ρ hρ qc qf qg => ?_); clear hρ; go_simp; (try go_bits); (try clear ρ); (try clear qc qf qg)
  go_at_call 53; refine (frosty_new _).mono ?_; rintro e w1 ⟨⟨G, rfl, hG⟩, h1⟩
  refine late_next hE (by decide) hK' (fun a_1 hE_1 => ?_); clear hK' K'; clear hE a
  refine Late.plain (by (first | (simp only [List.getElem?_toArray, List.getElem?_cons_succ, List.getElem?_cons_zero]; rfl) | rfl)) rfl (fun K' hK' => ?_)
  refine op_run (fun ρ hρ qc qf qg => ?_); clear hρ; go_simp; (try go_bits); (try clear ρ); (try clear qc qf qg)
  refine late_next hE_1 (by decide) hK' (fun a_2 hE_2 => ?_); clear hK' K'; clear hE_1
  refine Late.plain (by (first | (simp only [List.getElem?_toArray, List.getElem?_cons_succ, List.getElem?_cons_zero]; rfl) | rfl)) rfl (fun K' hK' => ?_)
  have r333 := hE_2.at 333 rfl; have r334 := hE_2.at 334 rfl
  refine op_run (fun ρ hρ qc qf qg => ?_); have q333 := rho hρ r333; have q334 := rho hρ r334; clear hρ; go_simp; (try go_bits); (try clear ρ); (try clear qc qf qg r333 q333 r334 q334)
  go_at_call 23; refine (kBefore v_before2 rfl rfl _ (hG.arr frL_cells) (Arr.nil _ _ _)).mono ?_; rintro e w3 ⟨rfl, h3⟩
  refine late_next hE_2 (by decide) hK' (fun a_3 hE_3 => ?_); clear hK' K'; clear hE_2
  refine Late.plain (by (first | (simp only [List.getElem?_toArray, List.getElem?_cons_succ, List.getElem?_cons_zero]; rfl) | rfl)) rfl (fun K' hK' => ?_)
  have r335 := hE_3.at 335 rfl
  refine op_run (fun ρ hρ qc qf qg => ?_); have q335 := rho hρ r335; clear hρ; go_simp; (try go_bits); (try clear ρ); (try clear qc qf qg r335 q335)
  refine late_next hE_3 (by decide) hK' (fun a_4 hE_4 => ?_); clear hK' K'; clear hE_3
  refine Late.plain (by (first | (simp only [List.getElem?_toArray, List.getElem?_cons_succ, List.getElem?_cons_zero]; rfl) | rfl)) rfl (fun K' hK' => ?_)
  have r332 := hE_4.at 332 rfl
  refine op_run (fun ρ hρ qc qf qg => ?_); have q332 := rho hρ r332; clear hρ; go_simp; (try go_bits); (try clear ρ); (try clear qc qf qg r332 q332)
  refine late_next hE_4 (by decide) hK' (fun a_5 hE_5 => ?_); clear hK' K'; clear hE_4
  refine Late.plain (by (first | (simp only [List.getElem?_toArray, List.getElem?_cons_succ, List.getElem?_cons_zero]; rfl) | rfl)) rfl (fun K' hK' => ?_)
  have r332 := hE_5.at 332 rfl
  refine op_run (fun ρ hρ qc qf qg => ?_); have q332 := rho hρ r332; clear hρ; go_simp; (try go_bits); (try clear ρ); (try clear qc qf qg r332 q332)
  refine late_next hE_5 (by decide) hK' (fun a_6 hE_6 => ?_); clear hK' K'; clear hE_5
  refine Late.plain (by (first | (simp only [List.getElem?_toArray, List.getElem?_cons_succ, List.getElem?_cons_zero]; rfl) | rfl)) rfl (fun K' hK' => ?_)
  have r336 := hE_6.at 336 rfl
  refine op_run (fun ρ hρ qc qf qg => ?_); have q336 := rho hρ r336; clear hρ; go_simp; (try go_bits); (try clear ρ); (try clear qc qf qg r336 q336)
  refine late_next hE_6 (by decide) hK' (fun a_7 hE_7 => ?_); clear hK' K'; clear hE_6
  refine Late.plain (by (first | (simp only [List.getElem?_toArray, List.getElem?_cons_succ, List.getElem?_cons_zero]; rfl) | rfl)) rfl (fun K' hK' => ?_)
  have r337 := hE_7.at 337 rfl
  refine op_run (fun ρ hρ qc qf qg => ?_); have q337 := rho hρ r337; clear hρ; go_simp; (try go_bits); (try clear ρ); (try clear qc qf qg r337 q337)
  refine late_next hE_7 (by decide) hK' (fun a_8 hE_8 => ?_); clear hK' K'; clear hE_7
  refine late_done [32, 34, 36, 38, 40, 42, 44] hE_8 hK (fun a hE => ?_); clear hK K Q' hE_8; simp only [lk, pick, Nat.reduceEqDiff, ↓reduceIte] at hE
  have hw3 : Below v6.heap.size v6 w3 := h1.trans (h3.mono h1.size)
  have hz3 := hw3.size
  refine world_cut (fun wt => Below v6.heap.size v6 wt) ?_ (fun v7 hBd => ?_)
  · (repeat' (first | (with_reducible exact Below.refl _ _) | (with_reducible assumption) | (with_reducible refine Below.drew ?_) | (with_reducible refine below_drewN ?_ _) | (with_reducible refine Below.setCell ?_ ?_ _) | (with_reducible refine Below.alloc ?_ ?_ _) | go_size | (exact Below.size (by assumption)) | (refine Below.trans ?_ (Below.mono (by assumption) ?_))))
  have hBd' := hB.trans (hBd.mono hB.size)
  clear hB hBd hw3 hz3 h1 h3 hG
  have hB := hBd'
  clear hBd'
  (repeat (first | (with_reducible refine wp_seq ?_) | (with_reducible refine wp_block ?_) | (with_reducible refine then_n ?_) | (with_reducible refine inBlock_n ?_) | (with_reducible refine then_ret ?_) | (with_reducible refine inBlock_ret ?_) | (with_reducible refine then_exit ?_) | (with_reducible refine inBlock_hit ?_) | (with_reducible refine inBlock_miss (by decide) ?_) | (with_reducible refine wp_ret ?_) | (with_reducible refine wp_exit ?_) | (with_reducible refine wp_skip ?_)))
  refine region_straight (m := 8) rfl (fun Q' K hK => ?_)
  refine Late.plain (by (first | (simp only [List.getElem?_toArray, List.getElem?_cons_succ, List.getElem?_cons_zero]; rfl) | rfl)) rfl (fun K' hK' => ?_)
  refine op_run (fun ρ hρ qc qf qg => ?_); clear hρ; go_simp; (try go_bits); (try clear ρ); (try clear qc qf qg)
  go_at_call 53; refine (frosty_new _).mono ?_; rintro e w1 ⟨⟨G, rfl, hG⟩, h1⟩
  refine late_next hE (by decide) hK' (fun a_1 hE_1 => ?_); clear hK' K'; clear hE a
  refine Late.plain (by (first | (simp only [List.getElem?_toArray, List.getElem?_cons_succ, List.getElem?_cons_zero]; rfl) | rfl)) rfl (fun K' hK' => ?_)
  refine op_run (fun ρ hρ qc qf qg => ?_); clear hρ; go_simp; (try go_bits); (try clear ρ); (try clear qc qf qg)
  go_at_call 54; refine (written_any _ _).mono ?_; rintro e w2 ⟨⟨L, lcap, rfl, -, hL⟩, h2⟩
  refine late_next hE_1 (by decide) hK' (fun a_2 hE_2 => ?_); clear hK' K'; clear hE_1
  refine Late.plain (by (first | (simp only [List.getElem?_toArray, List.getElem?_cons_succ, List.getElem?_cons_zero]; rfl) | rfl)) rfl (fun K' hK' => ?_)
  have r339 := hE_2.at 339 rfl; have r340 := hE_2.at 340 rfl
  refine op_run (fun ρ hρ qc qf qg => ?_); have q339 := rho hρ r339; have q340 := rho hρ r340; clear hρ; go_simp; (try go_bits); (try clear ρ); (try clear qc qf qg r339 q339 r340 q340)
  go_at_call 27; refine (kTimes (n := 0) v_times1 rfl rfl rfl (by decide) _ ((hG.keep h2).arr frL_cells) hL).mono ?_; rintro e w3 ⟨O, oc, rfl, h3⟩
  refine late_next hE_2 (by decide) hK' (fun a_3 hE_3 => ?_); clear hK' K'; clear hE_2
  refine Late.plain (by (first | (simp only [List.getElem?_toArray, List.getElem?_cons_succ, List.getElem?_cons_zero]; rfl) | rfl)) rfl (fun K' hK' => ?_)
  have r341 := hE_3.at 341 rfl
  refine op_run (fun ρ hρ qc qf qg => ?_); have q341 := rho hρ r341; clear hρ; go_simp; (try go_bits); (try clear ρ); (try clear qc qf qg r341 q341)
  refine late_next hE_3 (by decide) hK' (fun a_4 hE_4 => ?_); clear hK' K'; clear hE_3
  refine Late.plain (by (first | (simp only [List.getElem?_toArray, List.getElem?_cons_succ, List.getElem?_cons_zero]; rfl) | rfl)) rfl (fun K' hK' => ?_)
  have r338 := hE_4.at 338 rfl
  refine op_run (fun ρ hρ qc qf qg => ?_); have q338 := rho hρ r338; clear hρ; go_simp; (try go_bits); (try clear ρ); (try clear qc qf qg r338 q338)
  refine late_next hE_4 (by decide) hK' (fun a_5 hE_5 => ?_); clear hK' K'; clear hE_4
  refine Late.plain (by (first | (simp only [List.getElem?_toArray, List.getElem?_cons_succ, List.getElem?_cons_zero]; rfl) | rfl)) rfl (fun K' hK' => ?_)
  have r338 := hE_5.at 338 rfl
  refine op_run (fun ρ hρ qc qf qg => ?_); have q338 := rho hρ r338; clear hρ; go_simp; (try go_bits); (try clear ρ); (try clear qc qf qg r338 q338)
  refine late_next hE_5 (by decide) hK' (fun a_6 hE_6 => ?_); clear hK' K'; clear hE_5
  refine Late.plain (by (first | (simp only [List.getElem?_toArray, List.getElem?_cons_succ, List.getElem?_cons_zero]; rfl) | rfl)) rfl (fun K' hK' => ?_)
  have r342 := hE_6.at 342 rfl
  refine op_run (fun ρ hρ qc qf qg => ?_); have q342 := rho hρ r342; clear hρ; go_simp; (try go_bits); (try clear ρ); (try clear qc qf qg r342 q342)
  refine late_next hE_6 (by decide) hK' (fun a_7 hE_7 => ?_); clear hK' K'; clear hE_6
  refine Late.plain (by (first | (simp only [List.getElem?_toArray, List.getElem?_cons_succ, List.getElem?_cons_zero]; rfl) | rfl)) rfl (fun K' hK' => ?_)
  have r343 := hE_7.at 343 rfl
  refine op_run (fun ρ hρ qc qf qg => ?_); have q343 := rho hρ r343; clear hρ; go_simp; (try go_bits); (try clear ρ); (try clear qc qf qg r343 q343)
  refine late_next hE_7 (by decide) hK' (fun a_8 hE_8 => ?_); clear hK' K'; clear hE_7
  refine late_done [32, 34, 36, 38, 40, 42, 44, 46] hE_8 hK (fun a hE => ?_); clear hK K Q' hE_8; simp only [lk, pick, Nat.reduceEqDiff, ↓reduceIte] at hE
  have hw3 : Below v7.heap.size v7 w3 := h1.trans ((h2.trans (h3.mono h2.size)).mono h1.size)
  have hz3 := hw3.size
  refine world_cut (fun wt => Below v7.heap.size v7 wt) ?_ (fun v8 hBd => ?_)
  · (repeat' (first | (with_reducible exact Below.refl _ _) | (with_reducible assumption) | (with_reducible refine Below.drew ?_) | (with_reducible refine below_drewN ?_ _) | (with_reducible refine Below.setCell ?_ ?_ _) | (with_reducible refine Below.alloc ?_ ?_ _) | go_size | (exact Below.size (by assumption)) | (refine Below.trans ?_ (Below.mono (by assumption) ?_))))
  have hBd' := hB.trans (hBd.mono hB.size)
  clear hB hBd hw3 hz3 h1 h3 hG h2 hL
  have hB := hBd'
  clear hBd'
  (repeat (first | (with_reducible refine wp_seq ?_) | (with_reducible refine wp_block ?_) | (with_reducible refine then_n ?_) | (with_reducible refine inBlock_n ?_) | (with_reducible refine then_ret ?_) | (with_reducible refine inBlock_ret ?_) | (with_reducible refine then_exit ?_) | (with_reducible refine inBlock_hit ?_) | (with_reducible refine inBlock_miss (by decide) ?_) | (with_reducible refine wp_ret ?_) | (with_reducible refine wp_exit ?_) | (with_reducible refine wp_skip ?_)))
  refine region_straight (m := 9) rfl (fun Q' K hK => ?_)
  refine Late.plain (by (first | (simp only [List.getElem?_toArray, List.getElem?_cons_succ, List.getElem?_cons_zero]; rfl) | rfl)) rfl (fun K' hK' => ?_)
  refine op_run (fun ρ hρ qc qf qg => ?_); clear hρ; go_simp; (try go_bits); (try clear ρ); (try clear qc qf qg)
  go_at_call 53; refine (frosty_new _).mono ?_; rintro e w1 ⟨⟨G, rfl, hG⟩, h1⟩
  refine late_next hE (by decide) hK' (fun a_1 hE_1 => ?_); clear hK' K'; clear hE a
  refine Late.plain (by (first | (simp only [List.getElem?_toArray, List.getElem?_cons_succ, List.getElem?_cons_zero]; rfl) | rfl)) rfl (fun K' hK' => ?_)
  refine op_run (fun ρ hρ qc qf qg => ?_); clear hρ; go_simp; (try go_bits); (try clear ρ); (try clear qc qf qg)
  go_at_call 54; refine (written_any _ _).mono ?_; rintro e w2 ⟨⟨L, lcap, rfl, -, hL⟩, h2⟩
  refine late_next hE_1 (by decide) hK' (fun a_2 hE_2 => ?_); clear hK' K'; clear hE_1
  refine Late.plain (by (first | (simp only [List.getElem?_toArray, List.getElem?_cons_succ, List.getElem?_cons_zero]; rfl) | rfl)) rfl (fun K' hK' => ?_)
  have r345 := hE_2.at 345 rfl; have r346 := hE_2.at 346 rfl
  refine op_run (fun ρ hρ qc qf qg => ?_); have q345 := rho hρ r345; have q346 := rho hρ r346; clear hρ; go_simp; (try go_bits); (try clear ρ); (try clear qc qf qg r345 q345 r346 q346)
  go_at_call 30; refine (kStopped v_stopped1 rfl rfl (by decide) _ ((hG.keep h2).arr frL_cells) hL).mono ?_; rintro e w3 ⟨rfl, h3⟩
  refine late_next hE_2 (by decide) hK' (fun a_3 hE_3 => ?_); clear hK' K'; clear hE_2
  refine Late.plain (by (first | (simp only [List.getElem?_toArray, List.getElem?_cons_succ, List.getElem?_cons_zero]; rfl) | rfl)) rfl (fun K' hK' => ?_)
  have r347 := hE_3.at 347 rfl
  refine op_run (fun ρ hρ qc qf qg => ?_); have q347 := rho hρ r347; clear hρ; go_simp; (try go_bits); (try clear ρ); (try clear qc qf qg r347 q347)
  refine late_next hE_3 (by decide) hK' (fun a_4 hE_4 => ?_); clear hK' K'; clear hE_3
  refine Late.plain (by (first | (simp only [List.getElem?_toArray, List.getElem?_cons_succ, List.getElem?_cons_zero]; rfl) | rfl)) rfl (fun K' hK' => ?_)
  have r344 := hE_4.at 344 rfl
  refine op_run (fun ρ hρ qc qf qg => ?_); have q344 := rho hρ r344; clear hρ; go_simp; (try go_bits); (try clear ρ); (try clear qc qf qg r344 q344)
  refine late_next hE_4 (by decide) hK' (fun a_5 hE_5 => ?_); clear hK' K'; clear hE_4
  refine Late.plain (by (first | (simp only [List.getElem?_toArray, List.getElem?_cons_succ, List.getElem?_cons_zero]; rfl) | rfl)) rfl (fun K' hK' => ?_)
  have r344 := hE_5.at 344 rfl
  refine op_run (fun ρ hρ qc qf qg => ?_); have q344 := rho hρ r344; clear hρ; go_simp; (try go_bits); (try clear ρ); (try clear qc qf qg r344 q344)
  refine late_next hE_5 (by decide) hK' (fun a_6 hE_6 => ?_); clear hK' K'; clear hE_5
  refine Late.plain (by (first | (simp only [List.getElem?_toArray, List.getElem?_cons_succ, List.getElem?_cons_zero]; rfl) | rfl)) rfl (fun K' hK' => ?_)
  refine op_run (fun ρ hρ qc qf qg => ?_); clear hρ; go_simp; (try go_bits); (try clear ρ); (try clear qc qf qg)
  refine late_next hE_6 (by decide) hK' (fun a_7 hE_7 => ?_); clear hK' K'; clear hE_6
  refine Late.plain (by (first | (simp only [List.getElem?_toArray, List.getElem?_cons_succ, List.getElem?_cons_zero]; rfl) | rfl)) rfl (fun K' hK' => ?_)
  have r47 := hE_7.at 47 rfl; have r348 := hE_7.at 348 rfl
  refine op_run (fun ρ hρ qc qf qg => ?_); have q47 := rho hρ r47; have q348 := rho hρ r348; clear hρ; go_simp; (try go_bits); (try clear ρ); (try clear qc qf qg r47 q47 r348 q348)
  refine late_skip hE_7 hK' (fun a_8 hE_8 => ?_); clear hK' K'; clear hE_7
  refine Late.plain (by (first | (simp only [List.getElem?_toArray, List.getElem?_cons_succ, List.getElem?_cons_zero]; rfl) | rfl)) rfl (fun K' hK' => ?_)
  have r349 := hE_8.at 349 rfl
  refine op_run (fun ρ hρ qc qf qg => ?_); have q349 := rho hρ r349; clear hρ; go_simp; (try go_bits); (try clear ρ); (try clear qc qf qg r349 q349)
  refine late_next hE_8 (by decide) hK' (fun a_9 hE_9 => ?_); clear hK' K'; clear hE_8
  refine late_done [32, 34, 36, 38, 40, 42, 44, 46, 48] hE_9 hK (fun a hE => ?_); clear hK K Q' hE_9; simp only [lk, pick, Nat.reduceEqDiff, ↓reduceIte] at hE
  have hw3 : Below v8.heap.size v8 w3 := h1.trans ((h2.trans (h3.mono h2.size)).mono h1.size)
  have hz3 := hw3.size
  refine world_cut (fun wt => Below v8.heap.size v8 wt) ?_ (fun v9 hBd => ?_)
  · (repeat' (first | (with_reducible exact Below.refl _ _) | (with_reducible assumption) | (with_reducible refine Below.drew ?_) | (with_reducible refine below_drewN ?_ _) | (with_reducible refine Below.setCell ?_ ?_ _) | (with_reducible refine Below.alloc ?_ ?_ _) | go_size | (exact Below.size (by assumption)) | (refine Below.trans ?_ (Below.mono (by assumption) ?_))))
  have hBd' := hB.trans (hBd.mono hB.size)
  clear hB hBd hw3 hz3 h1 h3 hG h2 hL
  have hB := hBd'
  clear hBd'
  (repeat (first | (with_reducible refine wp_seq ?_) | (with_reducible refine wp_block ?_) | (with_reducible refine then_n ?_) | (with_reducible refine inBlock_n ?_) | (with_reducible refine then_ret ?_) | (with_reducible refine inBlock_ret ?_) | (with_reducible refine then_exit ?_) | (with_reducible refine inBlock_hit ?_) | (with_reducible refine inBlock_miss (by decide) ?_) | (with_reducible refine wp_ret ?_) | (with_reducible refine wp_exit ?_) | (with_reducible refine wp_skip ?_)))
  refine region_straight (m := 34) rfl (fun Q' K hK => ?_)
  refine Late.plain (by (first | (simp only [List.getElem?_toArray, List.getElem?_cons_succ, List.getElem?_cons_zero]; rfl) | rfl)) rfl (fun K' hK' => ?_)
  have r32 := hE.at 32 rfl
  refine op_run (fun ρ hρ qc qf qg => ?_); have q32 := rho hρ r32; clear hρ; go_simp; (try go_bits); (try clear ρ); (try clear qc qf qg r32 q32)
  refine late_next hE (by decide) hK' (fun a_1 hE_1 => ?_); clear hK' K'; clear hE a
  refine Late.plain (by (first | (simp only [List.getElem?_toArray, List.getElem?_cons_succ, List.getElem?_cons_zero]; rfl) | rfl)) rfl (fun K' hK' => ?_)
  have r350 := hE_1.at 350 rfl
  refine op_run (fun ρ hρ qc qf qg => ?_); have q350 := rho hρ r350; clear hρ; go_simp; (try go_bits); (try clear ρ); (try clear qc qf qg r350 q350)
  refine late_next hE_1 (by decide) hK' (fun a_2 hE_2 => ?_); clear hK' K'; clear hE_1
  refine Late.plain (by (first | (simp only [List.getElem?_toArray, List.getElem?_cons_succ, List.getElem?_cons_zero]; rfl) | rfl)) rfl (fun K' hK' => ?_)
  have r351 := hE_2.at 351 rfl
  refine op_run (fun ρ hρ qc qf qg => ?_); have q351 := rho hρ r351; clear hρ; go_simp; (try go_bits); (try clear ρ); (try clear qc qf qg r351 q351)
  refine late_next hE_2 (by decide) hK' (fun a_3 hE_3 => ?_); clear hK' K'; clear hE_2
  refine Late.yes hE_3 (by (first | (simp only [List.getElem?_toArray, List.getElem?_cons_succ, List.getElem?_cons_zero]; rfl) | rfl)) rfl (d := 352) (by kernel_rfl) rfl (fun K' hK' => ?_)
  have r34 := hE_3.at 34 rfl
  refine op_run (fun ρ hρ qc qf qg => ?_); have q34 := rho hρ r34; clear hρ; go_simp; (try go_bits); (try clear ρ); (try clear qc qf qg r34 q34)
  refine late_next hE_3 (by decide) hK' (fun a_4 hE_4 => ?_); clear hK' K'; clear hE_3
  refine Late.yes hE_4 (by (first | (simp only [List.getElem?_toArray, List.getElem?_cons_succ, List.getElem?_cons_zero]; rfl) | rfl)) rfl (d := 352) (by kernel_rfl) rfl (fun K' hK' => ?_)
  have r353 := hE_4.at 353 rfl
  refine op_run (fun ρ hρ qc qf qg => ?_); have q353 := rho hρ r353; clear hρ; go_simp; (try go_bits); (try clear ρ); (try clear qc qf qg r353 q353)
  refine late_next hE_4 (by decide) hK' (fun a_5 hE_5 => ?_); clear hK' K'; clear hE_4
  refine Late.plain (by (first | (simp only [List.getElem?_toArray, List.getElem?_cons_succ, List.getElem?_cons_zero]; rfl) | rfl)) rfl (fun K' hK' => ?_)
  have r352 := hE_5.at 352 rfl; have r354 := hE_5.at 354 rfl
  refine op_run (fun ρ hρ qc qf qg => ?_); have q352 := rho hρ r352; have q354 := rho hρ r354; clear hρ; go_simp; (try go_bits); (try clear ρ); (try clear qc qf qg r352 q352 r354 q354)
  refine late_next hE_5 (by decide) hK' (fun a_6 hE_6 => ?_); clear hK' K'; clear hE_5
  refine Late.plain (by (first | (simp only [List.getElem?_toArray, List.getElem?_cons_succ, List.getElem?_cons_zero]; rfl) | rfl)) rfl (fun K' hK' => ?_)
  have r355 := hE_6.at 355 rfl
  refine op_run (fun ρ hρ qc qf qg => ?_); have q355 := rho hρ r355; clear hρ; go_simp; (try go_bits); (try clear ρ); (try clear qc qf qg r355 q355)
  refine late_next hE_6 (by decide) hK' (fun a_7 hE_7 => ?_); clear hK' K'; clear hE_6
  refine Late.yes hE_7 (by (first | (simp only [List.getElem?_toArray, List.getElem?_cons_succ, List.getElem?_cons_zero]; rfl) | rfl)) rfl (d := 356) (by kernel_rfl) rfl (fun K' hK' => ?_)
  have r36 := hE_7.at 36 rfl
  refine op_run (fun ρ hρ qc qf qg => ?_); have q36 := rho hρ r36; clear hρ; go_simp; (try go_bits); (try clear ρ); (try clear qc qf qg r36 q36)
  refine late_next hE_7 (by decide) hK' (fun a_8 hE_8 => ?_); clear hK' K'; clear hE_7
  refine Late.yes hE_8 (by (first | (simp only [List.getElem?_toArray, List.getElem?_cons_succ, List.getElem?_cons_zero]; rfl) | rfl)) rfl (d := 356) (by kernel_rfl) rfl (fun K' hK' => ?_)
  have r357 := hE_8.at 357 rfl
  refine op_run (fun ρ hρ qc qf qg => ?_); have q357 := rho hρ r357; clear hρ; go_simp; (try go_bits); (try clear ρ); (try clear qc qf qg r357 q357)
  refine late_next hE_8 (by decide) hK' (fun a_9 hE_9 => ?_); clear hK' K'; clear hE_8
  refine Late.plain (by (first | (simp only [List.getElem?_toArray, List.getElem?_cons_succ, List.getElem?_cons_zero]; rfl) | rfl)) rfl (fun K' hK' => ?_)
  have r356 := hE_9.at 356 rfl; have r358 := hE_9.at 358 rfl
  refine op_run (fun ρ hρ qc qf qg => ?_); have q356 := rho hρ r356; have q358 := rho hρ r358; clear hρ; go_simp; (try go_bits); (try clear ρ); (try clear qc qf qg r356 q356 r358 q358)
  refine late_next hE_9 (by decide) hK' (fun a_10 hE_10 => ?_); clear hK' K'; clear hE_9
  refine Late.plain (by (first | (simp only [List.getElem?_toArray, List.getElem?_cons_succ, List.getElem?_cons_zero]; rfl) | rfl)) rfl (fun K' hK' => ?_)
  have r359 := hE_10.at 359 rfl
  refine op_run (fun ρ hρ qc qf qg => ?_); have q359 := rho hρ r359; clear hρ; go_simp; (try go_bits); (try clear ρ); (try clear qc qf qg r359 q359)
  refine late_next hE_10 (by decide) hK' (fun a_11 hE_11 => ?_); clear hK' K'; clear hE_10
  refine Late.yes hE_11 (by (first | (simp only [List.getElem?_toArray, List.getElem?_cons_succ, List.getElem?_cons_zero]; rfl) | rfl)) rfl (d := 360) (by kernel_rfl) rfl (fun K' hK' => ?_)
  have r38 := hE_11.at 38 rfl
  refine op_run (fun ρ hρ qc qf qg => ?_); have q38 := rho hρ r38; clear hρ; go_simp; (try go_bits); (try clear ρ); (try clear qc qf qg r38 q38)
  refine late_next hE_11 (by decide) hK' (fun a_12 hE_12 => ?_); clear hK' K'; clear hE_11
  refine Late.yes hE_12 (by (first | (simp only [List.getElem?_toArray, List.getElem?_cons_succ, List.getElem?_cons_zero]; rfl) | rfl)) rfl (d := 360) (by kernel_rfl) rfl (fun K' hK' => ?_)
  have r361 := hE_12.at 361 rfl
  refine op_run (fun ρ hρ qc qf qg => ?_); have q361 := rho hρ r361; clear hρ; go_simp; (try go_bits); (try clear ρ); (try clear qc qf qg r361 q361)
  refine late_next hE_12 (by decide) hK' (fun a_13 hE_13 => ?_); clear hK' K'; clear hE_12
  refine Late.plain (by (first | (simp only [List.getElem?_toArray, List.getElem?_cons_succ, List.getElem?_cons_zero]; rfl) | rfl)) rfl (fun K' hK' => ?_)
  have r360 := hE_13.at 360 rfl; have r362 := hE_13.at 362 rfl
  refine op_run (fun ρ hρ qc qf qg => ?_); have q360 := rho hρ r360; have q362 := rho hρ r362; clear hρ; go_simp; (try go_bits); (try clear ρ); (try clear qc qf qg r360 q360 r362 q362)
  refine late_next hE_13 (by decide) hK' (fun a_14 hE_14 => ?_); clear hK' K'; clear hE_13
  refine Late.plain (by (first | (simp only [List.getElem?_toArray, List.getElem?_cons_succ, List.getElem?_cons_zero]; rfl) | rfl)) rfl (fun K' hK' => ?_)
  have r363 := hE_14.at 363 rfl
  refine op_run (fun ρ hρ qc qf qg => ?_); have q363 := rho hρ r363; clear hρ; go_simp; (try go_bits); (try clear ρ); (try clear qc qf qg r363 q363)
  refine late_next hE_14 (by decide) hK' (fun a_15 hE_15 => ?_); clear hK' K'; clear hE_14
  refine Late.yes hE_15 (by (first | (simp only [List.getElem?_toArray, List.getElem?_cons_succ, List.getElem?_cons_zero]; rfl) | rfl)) rfl (d := 364) (by kernel_rfl) rfl (fun K' hK' => ?_)
  have r40 := hE_15.at 40 rfl
  refine op_run (fun ρ hρ qc qf qg => ?_); have q40 := rho hρ r40; clear hρ; go_simp; (try go_bits); (try clear ρ); (try clear qc qf qg r40 q40)
  refine late_next hE_15 (by decide) hK' (fun a_16 hE_16 => ?_); clear hK' K'; clear hE_15
  refine Late.yes hE_16 (by (first | (simp only [List.getElem?_toArray, List.getElem?_cons_succ, List.getElem?_cons_zero]; rfl) | rfl)) rfl (d := 364) (by kernel_rfl) rfl (fun K' hK' => ?_)
  have r365 := hE_16.at 365 rfl
  refine op_run (fun ρ hρ qc qf qg => ?_); have q365 := rho hρ r365; clear hρ; go_simp; (try go_bits); (try clear ρ); (try clear qc qf qg r365 q365)
  refine late_next hE_16 (by decide) hK' (fun a_17 hE_17 => ?_); clear hK' K'; clear hE_16
  refine Late.plain (by (first | (simp only [List.getElem?_toArray, List.getElem?_cons_succ, List.getElem?_cons_zero]; rfl) | rfl)) rfl (fun K' hK' => ?_)
  have r364 := hE_17.at 364 rfl; have r366 := hE_17.at 366 rfl
  refine op_run (fun ρ hρ qc qf qg => ?_); have q364 := rho hρ r364; have q366 := rho hρ r366; clear hρ; go_simp; (try go_bits); (try clear ρ); (try clear qc qf qg r364 q364 r366 q366)
  refine late_next hE_17 (by decide) hK' (fun a_18 hE_18 => ?_); clear hK' K'; clear hE_17
  refine Late.plain (by (first | (simp only [List.getElem?_toArray, List.getElem?_cons_succ, List.getElem?_cons_zero]; rfl) | rfl)) rfl (fun K' hK' => ?_)
  have r367 := hE_18.at 367 rfl
  refine op_run (fun ρ hρ qc qf qg => ?_); have q367 := rho hρ r367; clear hρ; go_simp; (try go_bits); (try clear ρ); (try clear qc qf qg r367 q367)
  refine late_next hE_18 (by decide) hK' (fun a_19 hE_19 => ?_); clear hK' K'; clear hE_18
  refine Late.yes hE_19 (by (first | (simp only [List.getElem?_toArray, List.getElem?_cons_succ, List.getElem?_cons_zero]; rfl) | rfl)) rfl (d := 368) (by kernel_rfl) rfl (fun K' hK' => ?_)
  have r42 := hE_19.at 42 rfl
  refine op_run (fun ρ hρ qc qf qg => ?_); have q42 := rho hρ r42; clear hρ; go_simp; (try go_bits); (try clear ρ); (try clear qc qf qg r42 q42)
  refine late_next hE_19 (by decide) hK' (fun a_20 hE_20 => ?_); clear hK' K'; clear hE_19
  refine Late.yes hE_20 (by (first | (simp only [List.getElem?_toArray, List.getElem?_cons_succ, List.getElem?_cons_zero]; rfl) | rfl)) rfl (d := 368) (by kernel_rfl) rfl (fun K' hK' => ?_)
  have r369 := hE_20.at 369 rfl
  refine op_run (fun ρ hρ qc qf qg => ?_); have q369 := rho hρ r369; clear hρ; go_simp; (try go_bits); (try clear ρ); (try clear qc qf qg r369 q369)
  refine late_next hE_20 (by decide) hK' (fun a_21 hE_21 => ?_); clear hK' K'; clear hE_20
  refine Late.plain (by (first | (simp only [List.getElem?_toArray, List.getElem?_cons_succ, List.getElem?_cons_zero]; rfl) | rfl)) rfl (fun K' hK' => ?_)
  have r368 := hE_21.at 368 rfl; have r370 := hE_21.at 370 rfl
  refine op_run (fun ρ hρ qc qf qg => ?_); have q368 := rho hρ r368; have q370 := rho hρ r370; clear hρ; go_simp; (try go_bits); (try clear ρ); (try clear qc qf qg r368 q368 r370 q370)
  refine late_next hE_21 (by decide) hK' (fun a_22 hE_22 => ?_); clear hK' K'; clear hE_21
  refine Late.plain (by (first | (simp only [List.getElem?_toArray, List.getElem?_cons_succ, List.getElem?_cons_zero]; rfl) | rfl)) rfl (fun K' hK' => ?_)
  have r371 := hE_22.at 371 rfl
  refine op_run (fun ρ hρ qc qf qg => ?_); have q371 := rho hρ r371; clear hρ; go_simp; (try go_bits); (try clear ρ); (try clear qc qf qg r371 q371)
  refine late_next hE_22 (by decide) hK' (fun a_23 hE_23 => ?_); clear hK' K'; clear hE_22
  refine Late.yes hE_23 (by (first | (simp only [List.getElem?_toArray, List.getElem?_cons_succ, List.getElem?_cons_zero]; rfl) | rfl)) rfl (d := 372) (by kernel_rfl) rfl (fun K' hK' => ?_)
  have r44 := hE_23.at 44 rfl
  refine op_run (fun ρ hρ qc qf qg => ?_); have q44 := rho hρ r44; clear hρ; go_simp; (try go_bits); (try clear ρ); (try clear qc qf qg r44 q44)
  refine late_next hE_23 (by decide) hK' (fun a_24 hE_24 => ?_); clear hK' K'; clear hE_23
  refine Late.yes hE_24 (by (first | (simp only [List.getElem?_toArray, List.getElem?_cons_succ, List.getElem?_cons_zero]; rfl) | rfl)) rfl (d := 372) (by kernel_rfl) rfl (fun K' hK' => ?_)
  have r373 := hE_24.at 373 rfl
  refine op_run (fun ρ hρ qc qf qg => ?_); have q373 := rho hρ r373; clear hρ; go_simp; (try go_bits); (try clear ρ); (try clear qc qf qg r373 q373)
  refine late_next hE_24 (by decide) hK' (fun a_25 hE_25 => ?_); clear hK' K'; clear hE_24
  refine Late.plain (by (first | (simp only [List.getElem?_toArray, List.getElem?_cons_succ, List.getElem?_cons_zero]; rfl) | rfl)) rfl (fun K' hK' => ?_)
  have r372 := hE_25.at 372 rfl; have r374 := hE_25.at 374 rfl
  refine op_run (fun ρ hρ qc qf qg => ?_); have q372 := rho hρ r372; have q374 := rho hρ r374; clear hρ; go_simp; (try go_bits); (try clear ρ); (try clear qc qf qg r372 q372 r374 q374)
  refine late_next hE_25 (by decide) hK' (fun a_26 hE_26 => ?_); clear hK' K'; clear hE_25
  refine Late.plain (by (first | (simp only [List.getElem?_toArray, List.getElem?_cons_succ, List.getElem?_cons_zero]; rfl) | rfl)) rfl (fun K' hK' => ?_)
  have r375 := hE_26.at 375 rfl
  refine op_run (fun ρ hρ qc qf qg => ?_); have q375 := rho hρ r375; clear hρ; go_simp; (try go_bits); (try clear ρ); (try clear qc qf qg r375 q375)
  refine late_next hE_26 (by decide) hK' (fun a_27 hE_27 => ?_); clear hK' K'; clear hE_26
  refine Late.yes hE_27 (by (first | (simp only [List.getElem?_toArray, List.getElem?_cons_succ, List.getElem?_cons_zero]; rfl) | rfl)) rfl (d := 376) (by kernel_rfl) rfl (fun K' hK' => ?_)
  have r46 := hE_27.at 46 rfl
  refine op_run (fun ρ hρ qc qf qg => ?_); have q46 := rho hρ r46; clear hρ; go_simp; (try go_bits); (try clear ρ); (try clear qc qf qg r46 q46)
  refine late_next hE_27 (by decide) hK' (fun a_28 hE_28 => ?_); clear hK' K'; clear hE_27
  refine Late.yes hE_28 (by (first | (simp only [List.getElem?_toArray, List.getElem?_cons_succ, List.getElem?_cons_zero]; rfl) | rfl)) rfl (d := 376) (by kernel_rfl) rfl (fun K' hK' => ?_)
  have r377 := hE_28.at 377 rfl
  refine op_run (fun ρ hρ qc qf qg => ?_); have q377 := rho hρ r377; clear hρ; go_simp; (try go_bits); (try clear ρ); (try clear qc qf qg r377 q377)
  refine late_next hE_28 (by decide) hK' (fun a_29 hE_29 => ?_); clear hK' K'; clear hE_28
  refine Late.plain (by (first | (simp only [List.getElem?_toArray, List.getElem?_cons_succ, List.getElem?_cons_zero]; rfl) | rfl)) rfl (fun K' hK' => ?_)
  have r376 := hE_29.at 376 rfl; have r378 := hE_29.at 378 rfl
  refine op_run (fun ρ hρ qc qf qg => ?_); have q376 := rho hρ r376; have q378 := rho hρ r378; clear hρ; go_simp; (try go_bits); (try clear ρ); (try clear qc qf qg r376 q376 r378 q378)
  refine late_next hE_29 (by decide) hK' (fun a_30 hE_30 => ?_); clear hK' K'; clear hE_29
  refine Late.plain (by (first | (simp only [List.getElem?_toArray, List.getElem?_cons_succ, List.getElem?_cons_zero]; rfl) | rfl)) rfl (fun K' hK' => ?_)
  have r379 := hE_30.at 379 rfl
  refine op_run (fun ρ hρ qc qf qg => ?_); have q379 := rho hρ r379; clear hρ; go_simp; (try go_bits); (try clear ρ); (try clear qc qf qg r379 q379)
  refine late_next hE_30 (by decide) hK' (fun a_31 hE_31 => ?_); clear hK' K'; clear hE_30
  refine Late.yes hE_31 (by (first | (simp only [List.getElem?_toArray, List.getElem?_cons_succ, List.getElem?_cons_zero]; rfl) | rfl)) rfl (d := 380) (by kernel_rfl) rfl (fun K' hK' => ?_)
  have r48 := hE_31.at 48 rfl
  refine op_run (fun ρ hρ qc qf qg => ?_); have q48 := rho hρ r48; clear hρ; go_simp; (try go_bits); (try clear ρ); (try clear qc qf qg r48 q48)
  refine late_next hE_31 (by decide) hK' (fun a_32 hE_32 => ?_); clear hK' K'; clear hE_31
  refine Late.yes hE_32 (by (first | (simp only [List.getElem?_toArray, List.getElem?_cons_succ, List.getElem?_cons_zero]; rfl) | rfl)) rfl (d := 380) (by kernel_rfl) rfl (fun K' hK' => ?_)
  have r381 := hE_32.at 381 rfl
  refine op_run (fun ρ hρ qc qf qg => ?_); have q381 := rho hρ r381; clear hρ; go_simp; (try go_bits); (try clear ρ); (try clear qc qf qg r381 q381)
  refine late_next hE_32 (by decide) hK' (fun a_33 hE_33 => ?_); clear hK' K'; clear hE_32
  refine Late.plain (by (first | (simp only [List.getElem?_toArray, List.getElem?_cons_succ, List.getElem?_cons_zero]; rfl) | rfl)) rfl (fun K' hK' => ?_)
  have r380 := hE_33.at 380 rfl; have r382 := hE_33.at 382 rfl
  refine op_run (fun ρ hρ qc qf qg => ?_); have q380 := rho hρ r380; have q382 := rho hρ r382; clear hρ; go_simp; (try go_bits); (try clear ρ); (try clear qc qf qg r380 q380 r382 q382)
  refine late_next hE_33 (by decide) hK' (fun a_34 hE_34 => ?_); clear hK' K'; clear hE_33
  refine late_done [383] hE_34 hK (fun a hE => ?_); clear hK K Q' hE_34; simp only [lk, pick, Nat.reduceEqDiff, ↓reduceIte] at hE
  (repeat (first | (with_reducible refine wp_seq ?_) | (with_reducible refine wp_block ?_) | (with_reducible refine then_n ?_) | (with_reducible refine inBlock_n ?_) | (with_reducible refine then_ret ?_) | (with_reducible refine inBlock_ret ?_) | (with_reducible refine then_exit ?_) | (with_reducible refine inBlock_hit ?_) | (with_reducible refine inBlock_miss (by decide) ?_) | (with_reducible refine wp_ret ?_) | (with_reducible refine wp_exit ?_) | (with_reducible refine wp_skip ?_)))
  refine cond_no hE (t := 383) rfl ?_
  (repeat (first | (with_reducible refine wp_seq ?_) | (with_reducible refine wp_block ?_) | (with_reducible refine then_n ?_) | (with_reducible refine inBlock_n ?_) | (with_reducible refine then_ret ?_) | (with_reducible refine inBlock_ret ?_) | (with_reducible refine then_exit ?_) | (with_reducible refine inBlock_hit ?_) | (with_reducible refine inBlock_miss (by decide) ?_) | (with_reducible refine wp_ret ?_) | (with_reducible refine wp_exit ?_) | (with_reducible refine wp_skip ?_)))
  refine region_straight (m := 8) rfl (fun Q' K hK => ?_)
  refine Late.plain (by (first | (simp only [List.getElem?_toArray, List.getElem?_cons_succ, List.getElem?_cons_zero]; rfl) | rfl)) rfl (fun K' hK' => ?_)
  refine op_run (fun ρ hρ qc qf qg => ?_); clear hρ; go_simp; (try go_bits); (try clear ρ); (try clear qc qf qg)
  go_at_call 53; refine (frosty_new _).mono ?_; rintro e w1 ⟨⟨G, rfl, hG⟩, h1⟩
  refine late_next hE (by decide) hK' (fun a_1 hE_1 => ?_); clear hK' K'; clear hE a
  refine Late.plain (by (first | (simp only [List.getElem?_toArray, List.getElem?_cons_succ, List.getElem?_cons_zero]; rfl) | rfl)) rfl (fun K' hK' => ?_)
  have r385 := hE_1.at 385 rfl
  refine op_run (fun ρ hρ qc qf qg => ?_); have q385 := rho hρ r385; clear hρ; go_simp; (try go_bits); (try clear ρ); (try clear qc qf qg r385 q385)
  go_at_call 14; refine (kShows v_shows2 rfl _ (hG.arr frL_cells)).mono ?_; rintro e w3 ⟨rfl, h3⟩
  refine late_next hE_1 (by decide) hK' (fun a_2 hE_2 => ?_); clear hK' K'; clear hE_1
  refine Late.plain (by (first | (simp only [List.getElem?_toArray, List.getElem?_cons_succ, List.getElem?_cons_zero]; rfl) | rfl)) rfl (fun K' hK' => ?_)
  have r386 := hE_2.at 386 rfl
  refine op_run (fun ρ hρ qc qf qg => ?_); have q386 := rho hρ r386; clear hρ; go_simp; (try go_bits); (try clear ρ); (try clear qc qf qg r386 q386)
  refine late_next hE_2 (by decide) hK' (fun a_3 hE_3 => ?_); clear hK' K'; clear hE_2
  refine Late.plain (by (first | (simp only [List.getElem?_toArray, List.getElem?_cons_succ, List.getElem?_cons_zero]; rfl) | rfl)) rfl (fun K' hK' => ?_)
  have r384 := hE_3.at 384 rfl
  refine op_run (fun ρ hρ qc qf qg => ?_); have q384 := rho hρ r384; clear hρ; go_simp; (try go_bits); (try clear ρ); (try clear qc qf qg r384 q384)
  refine late_next hE_3 (by decide) hK' (fun a_4 hE_4 => ?_); clear hK' K'; clear hE_3
  refine Late.plain (by (first | (simp only [List.getElem?_toArray, List.getElem?_cons_succ, List.getElem?_cons_zero]; rfl) | rfl)) rfl (fun K' hK' => ?_)
  have r384 := hE_4.at 384 rfl
  refine op_run (fun ρ hρ qc qf qg => ?_); have q384 := rho hρ r384; clear hρ; go_simp; (try go_bits); (try clear ρ); (try clear qc qf qg r384 q384)
  refine late_next hE_4 (by decide) hK' (fun a_5 hE_5 => ?_); clear hK' K'; clear hE_4
  refine Late.plain (by (first | (simp only [List.getElem?_toArray, List.getElem?_cons_succ, List.getElem?_cons_zero]; rfl) | rfl)) rfl (fun K' hK' => ?_)
  refine op_run (fun ρ hρ qc qf qg => ?_); clear hρ; go_simp; (try go_bits); (try clear ρ); (try clear qc qf qg)
  refine late_next hE_5 (by decide) hK' (fun a_6 hE_6 => ?_); clear hK' K'; clear hE_5
  refine Late.plain (by (first | (simp only [List.getElem?_toArray, List.getElem?_cons_succ, List.getElem?_cons_zero]; rfl) | rfl)) rfl (fun K' hK' => ?_)
  have r49 := hE_6.at 49 rfl; have r387 := hE_6.at 387 rfl
  refine op_run (fun ρ hρ qc qf qg => ?_); have q49 := rho hρ r49; have q387 := rho hρ r387; clear hρ; go_simp; (try go_bits); (try clear ρ); (try clear qc qf qg r49 q49 r387 q387)
  refine late_skip hE_6 hK' (fun a_7 hE_7 => ?_); clear hK' K'; clear hE_6
  refine Late.plain (by (first | (simp only [List.getElem?_toArray, List.getElem?_cons_succ, List.getElem?_cons_zero]; rfl) | rfl)) rfl (fun K' hK' => ?_)
  have r388 := hE_7.at 388 rfl
  refine op_run (fun ρ hρ qc qf qg => ?_); have q388 := rho hρ r388; clear hρ; go_simp; (try go_bits); (try clear ρ); (try clear qc qf qg r388 q388)
  refine late_next hE_7 (by decide) hK' (fun a_8 hE_8 => ?_); clear hK' K'; clear hE_7
  refine late_done [49, 32] hE_8 hK (fun a hE => ?_); clear hK K Q' hE_8; simp only [lk, pick, Nat.reduceEqDiff, ↓reduceIte] at hE
  have hw3 : Below v9.heap.size v9 w3 := h1.trans (h3.mono h1.size)
  have hz3 := hw3.size
  obtain ⟨B49, q49⟩ : ∃ B, B = w3.heap.size := ⟨_, rfl⟩
  rw [← q49] at hE
  refine world_cut (fun wt => Below v9.heap.size v9 wt ∧ SpAt wt B49 100 100) ⟨?_, ?_⟩ (fun v10 hC => ?_)
  · (repeat' (first | (with_reducible exact Below.refl _ _) | (with_reducible assumption) | (with_reducible refine Below.drew ?_) | (with_reducible refine below_drewN ?_ _) | (with_reducible refine Below.setCell ?_ ?_ _) | (with_reducible refine Below.alloc ?_ ?_ _) | go_size | (exact Below.size (by assumption)) | (refine Below.trans ?_ (Below.mono (by assumption) ?_))))
  · rw [q49]; exact ⟨by simp, by simp [go_sem], by simp [go_sem]⟩
  obtain ⟨hBd, k49⟩ := hC
  clear q49
  have hBd' := hB.trans (hBd.mono hB.size)
  clear hB hBd hw3 hz3 h1 h3 hG
  have hB := hBd'
  clear hBd'
  (repeat (first | (with_reducible refine wp_seq ?_) | (with_reducible refine wp_block ?_) | (with_reducible refine then_n ?_) | (with_reducible refine inBlock_n ?_) | (with_reducible refine then_ret ?_) | (with_reducible refine inBlock_ret ?_) | (with_reducible refine then_exit ?_) | (with_reducible refine inBlock_hit ?_) | (with_reducible refine inBlock_miss (by decide) ?_) | (with_reducible refine wp_ret ?_) | (with_reducible refine wp_exit ?_) | (with_reducible refine wp_skip ?_)))
  refine region_straight (m := 8) rfl (fun Q' K hK => ?_)
  refine Late.plain (by (first | (simp only [List.getElem?_toArray, List.getElem?_cons_succ, List.getElem?_cons_zero]; rfl) | rfl)) rfl (fun K' hK' => ?_)
  refine op_run (fun ρ hρ qc qf qg => ?_); clear hρ; go_simp; (try go_bits); (try clear ρ); (try clear qc qf qg)
  go_at_call 53; refine (frosty_new _).mono ?_; rintro e w1 ⟨⟨G, rfl, hG⟩, h1⟩
  refine late_next hE (by decide) hK' (fun a_1 hE_1 => ?_); clear hK' K'; clear hE a
  refine Late.plain (by (first | (simp only [List.getElem?_toArray, List.getElem?_cons_succ, List.getElem?_cons_zero]; rfl) | rfl)) rfl (fun K' hK' => ?_)
  have r390 := hE_1.at 390 rfl
  refine op_run (fun ρ hρ qc qf qg => ?_); have q390 := rho hρ r390; clear hρ; go_simp; (try go_bits); (try clear ρ); (try clear qc qf qg r390 q390)
  go_at_call 14; refine (kShows v_shows3 rfl _ (hG.arr frL_cells)).mono ?_; rintro e w3 ⟨rfl, h3⟩
  refine late_next hE_1 (by decide) hK' (fun a_2 hE_2 => ?_); clear hK' K'; clear hE_1
  refine Late.plain (by (first | (simp only [List.getElem?_toArray, List.getElem?_cons_succ, List.getElem?_cons_zero]; rfl) | rfl)) rfl (fun K' hK' => ?_)
  have r391 := hE_2.at 391 rfl
  refine op_run (fun ρ hρ qc qf qg => ?_); have q391 := rho hρ r391; clear hρ; go_simp; (try go_bits); (try clear ρ); (try clear qc qf qg r391 q391)
  refine late_next hE_2 (by decide) hK' (fun a_3 hE_3 => ?_); clear hK' K'; clear hE_2
  refine Late.plain (by (first | (simp only [List.getElem?_toArray, List.getElem?_cons_succ, List.getElem?_cons_zero]; rfl) | rfl)) rfl (fun K' hK' => ?_)
  have r389 := hE_3.at 389 rfl
  refine op_run (fun ρ hρ qc qf qg => ?_); have q389 := rho hρ r389; clear hρ; go_simp; (try go_bits); (try clear ρ); (try clear qc qf qg r389 q389)
  refine late_next hE_3 (by decide) hK' (fun a_4 hE_4 => ?_); clear hK' K'; clear hE_3
  refine Late.plain (by (first | (simp only [List.getElem?_toArray, List.getElem?_cons_succ, List.getElem?_cons_zero]; rfl) | rfl)) rfl (fun K' hK' => ?_)
  have r389 := hE_4.at 389 rfl
  refine op_run (fun ρ hρ qc qf qg => ?_); have q389 := rho hρ r389; clear hρ; go_simp; (try go_bits); (try clear ρ); (try clear qc qf qg r389 q389)
  refine late_next hE_4 (by decide) hK' (fun a_5 hE_5 => ?_); clear hK' K'; clear hE_4
  refine Late.plain (by (first | (simp only [List.getElem?_toArray, List.getElem?_cons_succ, List.getElem?_cons_zero]; rfl) | rfl)) rfl (fun K' hK' => ?_)
  refine op_run (fun ρ hρ qc qf qg => ?_); clear hρ; go_simp; (try go_bits); (try clear ρ); (try clear qc qf qg)
  refine late_next hE_5 (by decide) hK' (fun a_6 hE_6 => ?_); clear hK' K'; clear hE_5
  refine Late.plain (by (first | (simp only [List.getElem?_toArray, List.getElem?_cons_succ, List.getElem?_cons_zero]; rfl) | rfl)) rfl (fun K' hK' => ?_)
  have r50 := hE_6.at 50 rfl; have r392 := hE_6.at 392 rfl
  refine op_run (fun ρ hρ qc qf qg => ?_); have q50 := rho hρ r50; have q392 := rho hρ r392; clear hρ; go_simp; (try go_bits); (try clear ρ); (try clear qc qf qg r50 q50 r392 q392)
  refine late_skip hE_6 hK' (fun a_7 hE_7 => ?_); clear hK' K'; clear hE_6
  refine Late.plain (by (first | (simp only [List.getElem?_toArray, List.getElem?_cons_succ, List.getElem?_cons_zero]; rfl) | rfl)) rfl (fun K' hK' => ?_)
  have r393 := hE_7.at 393 rfl
  refine op_run (fun ρ hρ qc qf qg => ?_); have q393 := rho hρ r393; clear hρ; go_simp; (try go_bits); (try clear ρ); (try clear qc qf qg r393 q393)
  refine late_next hE_7 (by decide) hK' (fun a_8 hE_8 => ?_); clear hK' K'; clear hE_7
  refine late_done [49, 32, 50, 34] hE_8 hK (fun a hE => ?_); clear hK K Q' hE_8; simp only [lk, pick, Nat.reduceEqDiff, ↓reduceIte] at hE
  have hw3 : Below v10.heap.size v10 w3 := h1.trans (h3.mono h1.size)
  have hz3 := hw3.size
  obtain ⟨B50, q50⟩ : ∃ B, B = w3.heap.size := ⟨_, rfl⟩
  rw [← q50] at hE
  refine world_cut (fun wt => Below v10.heap.size v10 wt ∧ SpAt wt B50 169 172) ⟨?_, ?_⟩ (fun v11 hC => ?_)
  · (repeat' (first | (with_reducible exact Below.refl _ _) | (with_reducible assumption) | (with_reducible refine Below.drew ?_) | (with_reducible refine below_drewN ?_ _) | (with_reducible refine Below.setCell ?_ ?_ _) | (with_reducible refine Below.alloc ?_ ?_ _) | go_size | (exact Below.size (by assumption)) | (refine Below.trans ?_ (Below.mono (by assumption) ?_))))
  · rw [q50]; exact ⟨by simp, by simp [go_sem], by simp [go_sem]⟩
  obtain ⟨hBd, k50⟩ := hC
  clear q50
  have k49' := k49.below hBd; clear k49; have k49 := k49'; clear k49'
  have hBd' := hB.trans (hBd.mono hB.size)
  clear hB hBd hw3 hz3 h1 h3 hG
  have hB := hBd'
  clear hBd'
  (repeat (first | (with_reducible refine wp_seq ?_) | (with_reducible refine wp_block ?_) | (with_reducible refine then_n ?_) | (with_reducible refine inBlock_n ?_) | (with_reducible refine then_ret ?_) | (with_reducible refine inBlock_ret ?_) | (with_reducible refine then_exit ?_) | (with_reducible refine inBlock_hit ?_) | (with_reducible refine inBlock_miss (by decide) ?_) | (with_reducible refine wp_ret ?_) | (with_reducible refine wp_exit ?_) | (with_reducible refine wp_skip ?_)))
  refine region_straight (m := 8) rfl (fun Q' K hK => ?_)
  refine Late.plain (by (first | (simp only [List.getElem?_toArray, List.getElem?_cons_succ, List.getElem?_cons_zero]; rfl) | rfl)) rfl (fun K' hK' => ?_)
  refine op_run (fun ρ hρ qc qf qg => ?_); clear hρ; go_simp; (try go_bits); (try clear ρ); (try clear qc qf qg)
  go_at_call 53; refine (frosty_new _).mono ?_; rintro e w1 ⟨⟨G, rfl, hG⟩, h1⟩
  refine late_next hE (by decide) hK' (fun a_1 hE_1 => ?_); clear hK' K'; clear hE a
  refine Late.plain (by (first | (simp only [List.getElem?_toArray, List.getElem?_cons_succ, List.getElem?_cons_zero]; rfl) | rfl)) rfl (fun K' hK' => ?_)
  have r395 := hE_1.at 395 rfl
  refine op_run (fun ρ hρ qc qf qg => ?_); have q395 := rho hρ r395; clear hρ; go_simp; (try go_bits); (try clear ρ); (try clear qc qf qg r395 q395)
  go_at_call 14; refine (kShows v_shows4 rfl _ (hG.arr frL_cells)).mono ?_; rintro e w3 ⟨rfl, h3⟩
  refine late_next hE_1 (by decide) hK' (fun a_2 hE_2 => ?_); clear hK' K'; clear hE_1
  refine Late.plain (by (first | (simp only [List.getElem?_toArray, List.getElem?_cons_succ, List.getElem?_cons_zero]; rfl) | rfl)) rfl (fun K' hK' => ?_)
  have r396 := hE_2.at 396 rfl
  refine op_run (fun ρ hρ qc qf qg => ?_); have q396 := rho hρ r396; clear hρ; go_simp; (try go_bits); (try clear ρ); (try clear qc qf qg r396 q396)
  refine late_next hE_2 (by decide) hK' (fun a_3 hE_3 => ?_); clear hK' K'; clear hE_2
  refine Late.plain (by (first | (simp only [List.getElem?_toArray, List.getElem?_cons_succ, List.getElem?_cons_zero]; rfl) | rfl)) rfl (fun K' hK' => ?_)
  have r394 := hE_3.at 394 rfl
  refine op_run (fun ρ hρ qc qf qg => ?_); have q394 := rho hρ r394; clear hρ; go_simp; (try go_bits); (try clear ρ); (try clear qc qf qg r394 q394)
  refine late_next hE_3 (by decide) hK' (fun a_4 hE_4 => ?_); clear hK' K'; clear hE_3
  refine Late.plain (by (first | (simp only [List.getElem?_toArray, List.getElem?_cons_succ, List.getElem?_cons_zero]; rfl) | rfl)) rfl (fun K' hK' => ?_)
  have r394 := hE_4.at 394 rfl
  refine op_run (fun ρ hρ qc qf qg => ?_); have q394 := rho hρ r394; clear hρ; go_simp; (try go_bits); (try clear ρ); (try clear qc qf qg r394 q394)
  refine late_next hE_4 (by decide) hK' (fun a_5 hE_5 => ?_); clear hK' K'; clear hE_4
  refine Late.plain (by (first | (simp only [List.getElem?_toArray, List.getElem?_cons_succ, List.getElem?_cons_zero]; rfl) | rfl)) rfl (fun K' hK' => ?_)
  refine op_run (fun ρ hρ qc qf qg => ?_); clear hρ; go_simp; (try go_bits); (try clear ρ); (try clear qc qf qg)
  refine late_next hE_5 (by decide) hK' (fun a_6 hE_6 => ?_); clear hK' K'; clear hE_5
  refine Late.plain (by (first | (simp only [List.getElem?_toArray, List.getElem?_cons_succ, List.getElem?_cons_zero]; rfl) | rfl)) rfl (fun K' hK' => ?_)
  have r51 := hE_6.at 51 rfl; have r397 := hE_6.at 397 rfl
  refine op_run (fun ρ hρ qc qf qg => ?_); have q51 := rho hρ r51; have q397 := rho hρ r397; clear hρ; go_simp; (try go_bits); (try clear ρ); (try clear qc qf qg r51 q51 r397 q397)
  refine late_skip hE_6 hK' (fun a_7 hE_7 => ?_); clear hK' K'; clear hE_6
  refine Late.plain (by (first | (simp only [List.getElem?_toArray, List.getElem?_cons_succ, List.getElem?_cons_zero]; rfl) | rfl)) rfl (fun K' hK' => ?_)
  have r398 := hE_7.at 398 rfl
  refine op_run (fun ρ hρ qc qf qg => ?_); have q398 := rho hρ r398; clear hρ; go_simp; (try go_bits); (try clear ρ); (try clear qc qf qg r398 q398)
  refine late_next hE_7 (by decide) hK' (fun a_8 hE_8 => ?_); clear hK' K'; clear hE_7
  refine late_done [49, 32, 50, 34, 51, 36] hE_8 hK (fun a hE => ?_); clear hK K Q' hE_8; simp only [lk, pick, Nat.reduceEqDiff, ↓reduceIte] at hE
  have hw3 : Below v11.heap.size v11 w3 := h1.trans (h3.mono h1.size)
  have hz3 := hw3.size
  obtain ⟨B51, q51⟩ : ∃ B, B = w3.heap.size := ⟨_, rfl⟩
  rw [← q51] at hE
  refine world_cut (fun wt => Below v11.heap.size v11 wt ∧ SpAt wt B51 357 362) ⟨?_, ?_⟩ (fun v12 hC => ?_)
  · (repeat' (first | (with_reducible exact Below.refl _ _) | (with_reducible assumption) | (with_reducible refine Below.drew ?_) | (with_reducible refine below_drewN ?_ _) | (with_reducible refine Below.setCell ?_ ?_ _) | (with_reducible refine Below.alloc ?_ ?_ _) | go_size | (exact Below.size (by assumption)) | (refine Below.trans ?_ (Below.mono (by assumption) ?_))))
  · rw [q51]; exact ⟨by simp, by simp [go_sem], by simp [go_sem]⟩
  obtain ⟨hBd, k51⟩ := hC
  clear q51
  have k49' := k49.below hBd; clear k49; have k49 := k49'; clear k49'
  have k50' := k50.below hBd; clear k50; have k50 := k50'; clear k50'
  have hBd' := hB.trans (hBd.mono hB.size)
  clear hB hBd hw3 hz3 h1 h3 hG
  have hB := hBd'
  clear hBd'
  (repeat (first | (with_reducible refine wp_seq ?_) | (with_reducible refine wp_block ?_) | (with_reducible refine then_n ?_) | (with_reducible refine inBlock_n ?_) | (with_reducible refine then_ret ?_) | (with_reducible refine inBlock_ret ?_) | (with_reducible refine then_exit ?_) | (with_reducible refine inBlock_hit ?_) | (with_reducible refine inBlock_miss (by decide) ?_) | (with_reducible refine wp_ret ?_) | (with_reducible refine wp_exit ?_) | (with_reducible refine wp_skip ?_)))
  refine region_straight (m := 8) rfl (fun Q' K hK => ?_)
  refine Late.plain (by (first | (simp only [List.getElem?_toArray, List.getElem?_cons_succ, List.getElem?_cons_zero]; rfl) | rfl)) rfl (fun K' hK' => ?_)
  refine op_run (fun ρ hρ qc qf qg => ?_); clear hρ; go_simp; (try go_bits); (try clear ρ); (try clear qc qf qg)
  go_at_call 53; refine (frosty_new _).mono ?_; rintro e w1 ⟨⟨G, rfl, hG⟩, h1⟩
  refine late_next hE (by decide) hK' (fun a_1 hE_1 => ?_); clear hK' K'; clear hE a
  refine Late.plain (by (first | (simp only [List.getElem?_toArray, List.getElem?_cons_succ, List.getElem?_cons_zero]; rfl) | rfl)) rfl (fun K' hK' => ?_)
  have r400 := hE_1.at 400 rfl
  refine op_run (fun ρ hρ qc qf qg => ?_); have q400 := rho hρ r400; clear hρ; go_simp; (try go_bits); (try clear ρ); (try clear qc qf qg r400 q400)
  go_at_call 18; refine (kMeans v_means3 rfl _ (hG.arr frL_cells)).mono ?_; rintro e w3 ⟨rfl, h3⟩
  refine late_next hE_1 (by decide) hK' (fun a_2 hE_2 => ?_); clear hK' K'; clear hE_1
  refine Late.plain (by (first | (simp only [List.getElem?_toArray, List.getElem?_cons_succ, List.getElem?_cons_zero]; rfl) | rfl)) rfl (fun K' hK' => ?_)
  have r401 := hE_2.at 401 rfl
  refine op_run (fun ρ hρ qc qf qg => ?_); have q401 := rho hρ r401; clear hρ; go_simp; (try go_bits); (try clear ρ); (try clear qc qf qg r401 q401)
  refine late_next hE_2 (by decide) hK' (fun a_3 hE_3 => ?_); clear hK' K'; clear hE_2
  refine Late.plain (by (first | (simp only [List.getElem?_toArray, List.getElem?_cons_succ, List.getElem?_cons_zero]; rfl) | rfl)) rfl (fun K' hK' => ?_)
  have r399 := hE_3.at 399 rfl
  refine op_run (fun ρ hρ qc qf qg => ?_); have q399 := rho hρ r399; clear hρ; go_simp; (try go_bits); (try clear ρ); (try clear qc qf qg r399 q399)
  refine late_next hE_3 (by decide) hK' (fun a_4 hE_4 => ?_); clear hK' K'; clear hE_3
  refine Late.plain (by (first | (simp only [List.getElem?_toArray, List.getElem?_cons_succ, List.getElem?_cons_zero]; rfl) | rfl)) rfl (fun K' hK' => ?_)
  have r399 := hE_4.at 399 rfl
  refine op_run (fun ρ hρ qc qf qg => ?_); have q399 := rho hρ r399; clear hρ; go_simp; (try go_bits); (try clear ρ); (try clear qc qf qg r399 q399)
  refine late_next hE_4 (by decide) hK' (fun a_5 hE_5 => ?_); clear hK' K'; clear hE_4
  refine Late.plain (by (first | (simp only [List.getElem?_toArray, List.getElem?_cons_succ, List.getElem?_cons_zero]; rfl) | rfl)) rfl (fun K' hK' => ?_)
  refine op_run (fun ρ hρ qc qf qg => ?_); clear hρ; go_simp; (try go_bits); (try clear ρ); (try clear qc qf qg)
  refine late_next hE_5 (by decide) hK' (fun a_6 hE_6 => ?_); clear hK' K'; clear hE_5
  refine Late.plain (by (first | (simp only [List.getElem?_toArray, List.getElem?_cons_succ, List.getElem?_cons_zero]; rfl) | rfl)) rfl (fun K' hK' => ?_)
  have r52 := hE_6.at 52 rfl; have r402 := hE_6.at 402 rfl
  refine op_run (fun ρ hρ qc qf qg => ?_); have q52 := rho hρ r52; have q402 := rho hρ r402; clear hρ; go_simp; (try go_bits); (try clear ρ); (try clear qc qf qg r52 q52 r402 q402)
  refine late_skip hE_6 hK' (fun a_7 hE_7 => ?_); clear hK' K'; clear hE_6
  refine Late.plain (by (first | (simp only [List.getElem?_toArray, List.getElem?_cons_succ, List.getElem?_cons_zero]; rfl) | rfl)) rfl (fun K' hK' => ?_)
  have r403 := hE_7.at 403 rfl
  refine op_run (fun ρ hρ qc qf qg => ?_); have q403 := rho hρ r403; clear hρ; go_simp; (try go_bits); (try clear ρ); (try clear qc qf qg r403 q403)
  refine late_next hE_7 (by decide) hK' (fun a_8 hE_8 => ?_); clear hK' K'; clear hE_7
  refine late_done [49, 32, 50, 34, 51, 36, 52, 38] hE_8 hK (fun a hE => ?_); clear hK K Q' hE_8; simp only [lk, pick, Nat.reduceEqDiff, ↓reduceIte] at hE
  have hw3 : Below v12.heap.size v12 w3 := h1.trans (h3.mono h1.size)
  have hz3 := hw3.size
  obtain ⟨B52, q52⟩ : ∃ B, B = w3.heap.size := ⟨_, rfl⟩
  rw [← q52] at hE
  refine world_cut (fun wt => Below v12.heap.size v12 wt ∧ SpAt wt B52 303 308) ⟨?_, ?_⟩ (fun v13 hC => ?_)
  · (repeat' (first | (with_reducible exact Below.refl _ _) | (with_reducible assumption) | (with_reducible refine Below.drew ?_) | (with_reducible refine below_drewN ?_ _) | (with_reducible refine Below.setCell ?_ ?_ _) | (with_reducible refine Below.alloc ?_ ?_ _) | go_size | (exact Below.size (by assumption)) | (refine Below.trans ?_ (Below.mono (by assumption) ?_))))
  · rw [q52]; exact ⟨by simp, by simp [go_sem], by simp [go_sem]⟩
  obtain ⟨hBd, k52⟩ := hC
  clear q52
  have k49' := k49.below hBd; clear k49; have k49 := k49'; clear k49'
  have k50' := k50.below hBd; clear k50; have k50 := k50'; clear k50'
  have k51' := k51.below hBd; clear k51; have k51 := k51'; clear k51'
  have hBd' := hB.trans (hBd.mono hB.size)
  clear hB hBd hw3 hz3 h1 h3 hG
  have hB := hBd'
  clear hBd'
  (repeat (first | (with_reducible refine wp_seq ?_) | (with_reducible refine wp_block ?_) | (with_reducible refine then_n ?_) | (with_reducible refine inBlock_n ?_) | (with_reducible refine then_ret ?_) | (with_reducible refine inBlock_ret ?_) | (with_reducible refine then_exit ?_) | (with_reducible refine inBlock_hit ?_) | (with_reducible refine inBlock_miss (by decide) ?_) | (with_reducible refine wp_ret ?_) | (with_reducible refine wp_exit ?_) | (with_reducible refine wp_skip ?_)))
  refine region_straight (m := 8) rfl (fun Q' K hK => ?_)
  refine Late.plain (by (first | (simp only [List.getElem?_toArray, List.getElem?_cons_succ, List.getElem?_cons_zero]; rfl) | rfl)) rfl (fun K' hK' => ?_)
  refine op_run (fun ρ hρ qc qf qg => ?_); clear hρ; go_simp; (try go_bits); (try clear ρ); (try clear qc qf qg)
  go_at_call 53; refine (frosty_new _).mono ?_; rintro e w1 ⟨⟨G, rfl, hG⟩, h1⟩
  refine late_next hE (by decide) hK' (fun a_1 hE_1 => ?_); clear hK' K'; clear hE a
  refine Late.plain (by (first | (simp only [List.getElem?_toArray, List.getElem?_cons_succ, List.getElem?_cons_zero]; rfl) | rfl)) rfl (fun K' hK' => ?_)
  have r405 := hE_1.at 405 rfl
  refine op_run (fun ρ hρ qc qf qg => ?_); have q405 := rho hρ r405; clear hρ; go_simp; (try go_bits); (try clear ρ); (try clear qc qf qg r405 q405)
  go_at_call 20; refine (kPassed v_passed3 rfl _ (hG.arr frL_cells)).mono ?_; rintro e w3 ⟨rfl, h3⟩
  refine late_next hE_1 (by decide) hK' (fun a_2 hE_2 => ?_); clear hK' K'; clear hE_1
  refine Late.plain (by (first | (simp only [List.getElem?_toArray, List.getElem?_cons_succ, List.getElem?_cons_zero]; rfl) | rfl)) rfl (fun K' hK' => ?_)
  have r406 := hE_2.at 406 rfl
  refine op_run (fun ρ hρ qc qf qg => ?_); have q406 := rho hρ r406; clear hρ; go_simp; (try go_bits); (try clear ρ); (try clear qc qf qg r406 q406)
  refine late_next hE_2 (by decide) hK' (fun a_3 hE_3 => ?_); clear hK' K'; clear hE_2
  refine Late.plain (by (first | (simp only [List.getElem?_toArray, List.getElem?_cons_succ, List.getElem?_cons_zero]; rfl) | rfl)) rfl (fun K' hK' => ?_)
  have r404 := hE_3.at 404 rfl
  refine op_run (fun ρ hρ qc qf qg => ?_); have q404 := rho hρ r404; clear hρ; go_simp; (try go_bits); (try clear ρ); (try clear qc qf qg r404 q404)
  refine late_next hE_3 (by decide) hK' (fun a_4 hE_4 => ?_); clear hK' K'; clear hE_3
  refine Late.plain (by (first | (simp only [List.getElem?_toArray, List.getElem?_cons_succ, List.getElem?_cons_zero]; rfl) | rfl)) rfl (fun K' hK' => ?_)
  have r404 := hE_4.at 404 rfl
  refine op_run (fun ρ hρ qc qf qg => ?_); have q404 := rho hρ r404; clear hρ; go_simp; (try go_bits); (try clear ρ); (try clear qc qf qg r404 q404)
  refine late_next hE_4 (by decide) hK' (fun a_5 hE_5 => ?_); clear hK' K'; clear hE_4
  refine Late.plain (by (first | (simp only [List.getElem?_toArray, List.getElem?_cons_succ, List.getElem?_cons_zero]; rfl) | rfl)) rfl (fun K' hK' => ?_)
  refine op_run (fun ρ hρ qc qf qg => ?_); clear hρ; go_simp; (try go_bits); (try clear ρ); (try clear qc qf qg)
  refine late_next hE_5 (by decide) hK' (fun a_6 hE_6 => ?_); clear hK' K'; clear hE_5
  refine Late.plain (by (first | (simp only [List.getElem?_toArray, List.getElem?_cons_succ, List.getElem?_cons_zero]; rfl) | rfl)) rfl (fun K' hK' => ?_)
  have r53 := hE_6.at 53 rfl; have r407 := hE_6.at 407 rfl
  refine op_run (fun ρ hρ qc qf qg => ?_); have q53 := rho hρ r53; have q407 := rho hρ r407; clear hρ; go_simp; (try go_bits); (try clear ρ); (try clear qc qf qg r53 q53 r407 q407)
  refine late_skip hE_6 hK' (fun a_7 hE_7 => ?_); clear hK' K'; clear hE_6
  refine Late.plain (by (first | (simp only [List.getElem?_toArray, List.getElem?_cons_succ, List.getElem?_cons_zero]; rfl) | rfl)) rfl (fun K' hK' => ?_)
  have r408 := hE_7.at 408 rfl
  refine op_run (fun ρ hρ qc qf qg => ?_); have q408 := rho hρ r408; clear hρ; go_simp; (try go_bits); (try clear ρ); (try clear qc qf qg r408 q408)
  refine late_next hE_7 (by decide) hK' (fun a_8 hE_8 => ?_); clear hK' K'; clear hE_7
  refine late_done [49, 32, 50, 34, 51, 36, 52, 38, 53, 40] hE_8 hK (fun a hE => ?_); clear hK K Q' hE_8; simp only [lk, pick, Nat.reduceEqDiff, ↓reduceIte] at hE
  have hw3 : Below v13.heap.size v13 w3 := h1.trans (h3.mono h1.size)
  have hz3 := hw3.size
  obtain ⟨B53, q53⟩ : ∃ B, B = w3.heap.size := ⟨_, rfl⟩
  rw [← q53] at hE
  refine world_cut (fun wt => Below v13.heap.size v13 wt ∧ SpAt wt B53 68 71) ⟨?_, ?_⟩ (fun v14 hC => ?_)
  · (repeat' (first | (with_reducible exact Below.refl _ _) | (with_reducible assumption) | (with_reducible refine Below.drew ?_) | (with_reducible refine below_drewN ?_ _) | (with_reducible refine Below.setCell ?_ ?_ _) | (with_reducible refine Below.alloc ?_ ?_ _) | go_size | (exact Below.size (by assumption)) | (refine Below.trans ?_ (Below.mono (by assumption) ?_))))
  · rw [q53]; exact ⟨by simp, by simp [go_sem], by simp [go_sem]⟩
  obtain ⟨hBd, k53⟩ := hC
  clear q53
  have k49' := k49.below hBd; clear k49; have k49 := k49'; clear k49'
  have k50' := k50.below hBd; clear k50; have k50 := k50'; clear k50'
  have k51' := k51.below hBd; clear k51; have k51 := k51'; clear k51'
  have k52' := k52.below hBd; clear k52; have k52 := k52'; clear k52'
  have hBd' := hB.trans (hBd.mono hB.size)
  clear hB hBd hw3 hz3 h1 h3 hG
  have hB := hBd'
  clear hBd'
  (repeat (first | (with_reducible refine wp_seq ?_) | (with_reducible refine wp_block ?_) | (with_reducible refine then_n ?_) | (with_reducible refine inBlock_n ?_) | (with_reducible refine then_ret ?_) | (with_reducible refine inBlock_ret ?_) | (with_reducible refine then_exit ?_) | (with_reducible refine inBlock_hit ?_) | (with_reducible refine inBlock_miss (by decide) ?_) | (with_reducible refine wp_ret ?_) | (with_reducible refine wp_exit ?_) | (with_reducible refine wp_skip ?_)))
  refine region_straight (m := 8) rfl (fun Q' K hK => ?_)
  refine Late.plain (by (first | (simp only [List.getElem?_toArray, List.getElem?_cons_succ, List.getElem?_cons_zero]; rfl) | rfl)) rfl (fun K' hK' => ?_)
  refine op_run (fun ρ hρ qc qf qg => ?_); clear hρ; go_simp; (try go_bits); (try clear ρ); (try clear qc qf qg)
  go_at_call 53; refine (frosty_new _).mono ?_; rintro e w1 ⟨⟨G, rfl, hG⟩, h1⟩
  refine late_next hE (by decide) hK' (fun a_1 hE_1 => ?_); clear hK' K'; clear hE a
  refine Late.plain (by (first | (simp only [List.getElem?_toArray, List.getElem?_cons_succ, List.getElem?_cons_zero]; rfl) | rfl)) rfl (fun K' hK' => ?_)
  refine op_run (fun ρ hρ qc qf qg => ?_); clear hρ; go_simp; (try go_bits); (try clear ρ); (try clear qc qf qg)
  refine late_next hE_1 (by decide) hK' (fun a_2 hE_2 => ?_); clear hK' K'; clear hE_1
  refine Late.plain (by (first | (simp only [List.getElem?_toArray, List.getElem?_cons_succ, List.getElem?_cons_zero]; rfl) | rfl)) rfl (fun K' hK' => ?_)
  have r410 := hE_2.at 410 rfl; have r411 := hE_2.at 411 rfl
  refine op_run (fun ρ hρ qc qf qg => ?_); have q410 := rho hρ r410; have q411 := rho hρ r411; clear hρ; go_simp; (try go_bits); (try clear ρ); (try clear qc qf qg r410 q410 r411 q411)
  go_at_call 23; refine (kBefore v_before3 rfl rfl _ (hG.arr frL_cells) (Arr.nil _ _ _)).mono ?_; rintro e w3 ⟨rfl, h3⟩
  refine late_next hE_2 (by decide) hK' (fun a_3 hE_3 => ?_); clear hK' K'; clear hE_2
  refine Late.plain (by (first | (simp only [List.getElem?_toArray, List.getElem?_cons_succ, List.getElem?_cons_zero]; rfl) | rfl)) rfl (fun K' hK' => ?_)
  have r412 := hE_3.at 412 rfl
  refine op_run (fun ρ hρ qc qf qg => ?_); have q412 := rho hρ r412; clear hρ; go_simp; (try go_bits); (try clear ρ); (try clear qc qf qg r412 q412)
  refine late_next hE_3 (by decide) hK' (fun a_4 hE_4 => ?_); clear hK' K'; clear hE_3
  refine Late.plain (by (first | (simp only [List.getElem?_toArray, List.getElem?_cons_succ, List.getElem?_cons_zero]; rfl) | rfl)) rfl (fun K' hK' => ?_)
  have r409 := hE_4.at 409 rfl
  refine op_run (fun ρ hρ qc qf qg => ?_); have q409 := rho hρ r409; clear hρ; go_simp; (try go_bits); (try clear ρ); (try clear qc qf qg r409 q409)
  refine late_next hE_4 (by decide) hK' (fun a_5 hE_5 => ?_); clear hK' K'; clear hE_4
  refine Late.plain (by (first | (simp only [List.getElem?_toArray, List.getElem?_cons_succ, List.getElem?_cons_zero]; rfl) | rfl)) rfl (fun K' hK' => ?_)
  have r409 := hE_5.at 409 rfl
  refine op_run (fun ρ hρ qc qf qg => ?_); have q409 := rho hρ r409; clear hρ; go_simp; (try go_bits); (try clear ρ); (try clear qc qf qg r409 q409)
  refine late_next hE_5 (by decide) hK' (fun a_6 hE_6 => ?_); clear hK' K'; clear hE_5
  refine Late.plain (by (first | (simp only [List.getElem?_toArray, List.getElem?_cons_succ, List.getElem?_cons_zero]; rfl) | rfl)) rfl (fun K' hK' => ?_)
  have r413 := hE_6.at 413 rfl
  refine op_run (fun ρ hρ qc qf qg => ?_); have q413 := rho hρ r413; clear hρ; go_simp; (try go_bits); (try clear ρ); (try clear qc qf qg r413 q413)
  refine late_next hE_6 (by decide) hK' (fun a_7 hE_7 => ?_); clear hK' K'; clear hE_6
  refine Late.plain (by (first | (simp only [List.getElem?_toArray, List.getElem?_cons_succ, List.getElem?_cons_zero]; rfl) | rfl)) rfl (fun K' hK' => ?_)
  have r414 := hE_7.at 414 rfl
  refine op_run (fun ρ hρ qc qf qg => ?_); have q414 := rho hρ r414; clear hρ; go_simp; (try go_bits); (try clear ρ); (try clear qc qf qg r414 q414)
  refine late_next hE_7 (by decide) hK' (fun a_8 hE_8 => ?_); clear hK' K'; clear hE_7
  refine late_done [49, 32, 50, 34, 51, 36, 52, 38, 53, 40, 54, 42] hE_8 hK (fun a hE => ?_); clear hK K Q' hE_8; simp only [lk, pick, Nat.reduceEqDiff, ↓reduceIte] at hE
  have hw3 : Below v14.heap.size v14 w3 := h1.trans (h3.mono h1.size)
  have hz3 := hw3.size
  refine world_cut (fun wt => Below v14.heap.size v14 wt) ?_ (fun v15 hBd => ?_)
  · (repeat' (first | (with_reducible exact Below.refl _ _) | (with_reducible assumption) | (with_reducible refine Below.drew ?_) | (with_reducible refine below_drewN ?_ _) | (with_reducible refine Below.setCell ?_ ?_ _) | (with_reducible refine Below.alloc ?_ ?_ _) | go_size | (exact Below.size (by assumption)) | (refine Below.trans ?_ (Below.mono (by assumption) ?_))))
  have k49' := k49.below hBd; clear k49; have k49 := k49'; clear k49'
  have k50' := k50.below hBd; clear k50; have k50 := k50'; clear k50'
  have k51' := k51.below hBd; clear k51; have k51 := k51'; clear k51'
  have k52' := k52.below hBd; clear k52; have k52 := k52'; clear k52'
  have k53' := k53.below hBd; clear k53; have k53 := k53'; clear k53'
  have hBd' := hB.trans (hBd.mono hB.size)
  clear hB hBd hw3 hz3 h1 h3 hG
  have hB := hBd'
  clear hBd'
  (repeat (first | (with_reducible refine wp_seq ?_) | (with_reducible refine wp_block ?_) | (with_reducible refine then_n ?_) | (with_reducible refine inBlock_n ?_) | (with_reducible refine then_ret ?_) | (with_reducible refine inBlock_ret ?_) | (with_reducible refine then_exit ?_) | (with_reducible refine inBlock_hit ?_) | (with_reducible refine inBlock_miss (by decide) ?_) | (with_reducible refine wp_ret ?_) | (with_reducible refine wp_exit ?_) | (with_reducible refine wp_skip ?_)))
  refine region_straight (m := 8) rfl (fun Q' K hK => ?_)
  refine Late.plain (by (first | (simp only [List.getElem?_toArray, List.getElem?_cons_succ, List.getElem?_cons_zero]; rfl) | rfl)) rfl (fun K' hK' => ?_)
  refine op_run (fun ρ hρ qc qf qg => ?_); clear hρ; go_simp; (try go_bits); (try clear ρ); (try clear qc qf qg)
  go_at_call 53; refine (frosty_new _).mono ?_; rintro e w1 ⟨⟨G, rfl, hG⟩, h1⟩
  refine late_next hE (by decide) hK' (fun a_1 hE_1 => ?_); clear hK' K'; clear hE a
  refine Late.plain (by (first | (simp only [List.getElem?_toArray, List.getElem?_cons_succ, List.getElem?_cons_zero]; rfl) | rfl)) rfl (fun K' hK' => ?_)
  refine op_run (fun ρ hρ qc qf qg => ?_); clear hρ; go_simp; (try go_bits); (try clear ρ); (try clear qc qf qg)
  refine late_next hE_1 (by decide) hK' (fun a_2 hE_2 => ?_); clear hK' K'; clear hE_1
  refine Late.plain (by (first | (simp only [List.getElem?_toArray, List.getElem?_cons_succ, List.getElem?_cons_zero]; rfl) | rfl)) rfl (fun K' hK' => ?_)
  have r416 := hE_2.at 416 rfl; have r417 := hE_2.at 417 rfl
  refine op_run (fun ρ hρ qc qf qg => ?_); have q416 := rho hρ r416; have q417 := rho hρ r417; clear hρ; go_simp; (try go_bits); (try clear ρ); (try clear qc qf qg r416 q416 r417 q417)
  go_at_call 23; refine (kBefore v_before4 rfl rfl _ (hG.arr frL_cells) (Arr.nil _ _ _)).mono ?_; rintro e w3 ⟨rfl, h3⟩
  refine late_next hE_2 (by decide) hK' (fun a_3 hE_3 => ?_); clear hK' K'; clear hE_2
  refine Late.plain (by (first | (simp only [List.getElem?_toArray, List.getElem?_cons_succ, List.getElem?_cons_zero]; rfl) | rfl)) rfl (fun K' hK' => ?_)
  have r418 := hE_3.at 418 rfl
  refine op_run (fun ρ hρ qc qf qg => ?_); have q418 := rho hρ r418; clear hρ; go_simp; (try go_bits); (try clear ρ); (try clear qc qf qg r418 q418)
  refine late_next hE_3 (by decide) hK' (fun a_4 hE_4 => ?_); clear hK' K'; clear hE_3
  refine Late.plain (by (first | (simp only [List.getElem?_toArray, List.getElem?_cons_succ, List.getElem?_cons_zero]; rfl) | rfl)) rfl (fun K' hK' => ?_)
  have r415 := hE_4.at 415 rfl
  refine op_run (fun ρ hρ qc qf qg => ?_); have q415 := rho hρ r415; clear hρ; go_simp; (try go_bits); (try clear ρ); (try clear qc qf qg r415 q415)
  refine late_next hE_4 (by decide) hK' (fun a_5 hE_5 => ?_); clear hK' K'; clear hE_4
  refine Late.plain (by (first | (simp only [List.getElem?_toArray, List.getElem?_cons_succ, List.getElem?_cons_zero]; rfl) | rfl)) rfl (fun K' hK' => ?_)
  have r415 := hE_5.at 415 rfl
  refine op_run (fun ρ hρ qc qf qg => ?_); have q415 := rho hρ r415; clear hρ; go_simp; (try go_bits); (try clear ρ); (try clear qc qf qg r415 q415)
  refine late_next hE_5 (by decide) hK' (fun a_6 hE_6 => ?_); clear hK' K'; clear hE_5
  refine Late.plain (by (first | (simp only [List.getElem?_toArray, List.getElem?_cons_succ, List.getElem?_cons_zero]; rfl) | rfl)) rfl (fun K' hK' => ?_)
  have r419 := hE_6.at 419 rfl
  refine op_run (fun ρ hρ qc qf qg => ?_); have q419 := rho hρ r419; clear hρ; go_simp; (try go_bits); (try clear ρ); (try clear qc qf qg r419 q419)
  refine late_next hE_6 (by decide) hK' (fun a_7 hE_7 => ?_); clear hK' K'; clear hE_6
  refine Late.plain (by (first | (simp only [List.getElem?_toArray, List.getElem?_cons_succ, List.getElem?_cons_zero]; rfl) | rfl)) rfl (fun K' hK' => ?_)
  have r420 := hE_7.at 420 rfl
  refine op_run (fun ρ hρ qc qf qg => ?_); have q420 := rho hρ r420; clear hρ; go_simp; (try go_bits); (try clear ρ); (try clear qc qf qg r420 q420)
  refine late_next hE_7 (by decide) hK' (fun a_8 hE_8 => ?_); clear hK' K'; clear hE_7
  refine late_done [49, 32, 50, 34, 51, 36, 52, 38, 53, 40, 54, 42, 55, 44] hE_8 hK (fun a hE => ?_); clear hK K Q' hE_8; simp only [lk, pick, Nat.reduceEqDiff, ↓reduceIte] at hE
  have hw3 : Below v15.heap.size v15 w3 := h1.trans (h3.mono h1.size)
  have hz3 := hw3.size
  refine world_cut (fun wt => Below v15.heap.size v15 wt) ?_ (fun v16 hBd => ?_)
  · (repeat' (first | (with_reducible exact Below.refl _ _) | (with_reducible assumption) | (with_reducible refine Below.drew ?_) | (with_reducible refine below_drewN ?_ _) | (with_reducible refine Below.setCell ?_ ?_ _) | (with_reducible refine Below.alloc ?_ ?_ _) | go_size | (exact Below.size (by assumption)) | (refine Below.trans ?_ (Below.mono (by assumption) ?_))))
  have k49' := k49.below hBd; clear k49; have k49 := k49'; clear k49'
  have k50' := k50.below hBd; clear k50; have k50 := k50'; clear k50'
  have k51' := k51.below hBd; clear k51; have k51 := k51'; clear k51'
  have k52' := k52.below hBd; clear k52; have k52 := k52'; clear k52'
  have k53' := k53.below hBd; clear k53; have k53 := k53'; clear k53'
  have hBd' := hB.trans (hBd.mono hB.size)
  clear hB hBd hw3 hz3 h1 h3 hG
  have hB := hBd'
  clear hBd'
  (repeat (first | (with_reducible refine wp_seq ?_) | (with_reducible refine wp_block ?_) | (with_reducible refine then_n ?_) | (with_reducible refine inBlock_n ?_) | (with_reducible refine then_ret ?_) | (with_reducible refine inBlock_ret ?_) | (with_reducible refine then_exit ?_) | (with_reducible refine inBlock_hit ?_) | (with_reducible refine inBlock_miss (by decide) ?_) | (with_reducible refine wp_ret ?_) | (with_reducible refine wp_exit ?_) | (with_reducible refine wp_skip ?_)))
  refine region_straight (m := 8) rfl (fun Q' K hK => ?_)
  refine Late.plain (by (first | (simp only [List.getElem?_toArray, List.getElem?_cons_succ, List.getElem?_cons_zero]; rfl) | rfl)) rfl (fun K' hK' => ?_)
  refine op_run (fun ρ hρ qc qf qg => ?_); clear hρ; go_simp; (try go_bits); (try clear ρ); (try clear qc qf qg)
  go_at_call 53; refine (frosty_new _).mono ?_; rintro e w1 ⟨⟨G, rfl, hG⟩, h1⟩
  refine late_next hE (by decide) hK' (fun a_1 hE_1 => ?_); clear hK' K'; clear hE a
  refine Late.plain (by (first | (simp only [List.getElem?_toArray, List.getElem?_cons_succ, List.getElem?_cons_zero]; rfl) | rfl)) rfl (fun K' hK' => ?_)
  refine op_run (fun ρ hρ qc qf qg => ?_); clear hρ; go_simp; (try go_bits); (try clear ρ); (try clear qc qf qg)
  go_at_call 54; refine (written_any _ _).mono ?_; rintro e w2 ⟨⟨L, lcap, rfl, -, hL⟩, h2⟩
  refine late_next hE_1 (by decide) hK' (fun a_2 hE_2 => ?_); clear hK' K'; clear hE_1
  refine Late.plain (by (first | (simp only [List.getElem?_toArray, List.getElem?_cons_succ, List.getElem?_cons_zero]; rfl) | rfl)) rfl (fun K' hK' => ?_)
  have r422 := hE_2.at 422 rfl; have r423 := hE_2.at 423 rfl
  refine op_run (fun ρ hρ qc qf qg => ?_); have q422 := rho hρ r422; have q423 := rho hρ r423; clear hρ; go_simp; (try go_bits); (try clear ρ); (try clear qc qf qg r422 q422 r423 q423)
  go_at_call 25; refine (kRight v_right1 rfl rfl (by decide) _ ((hG.keep h2).arr frL_cells) hL).mono ?_; rintro e w3 ⟨rfl, h3⟩
  refine late_next hE_2 (by decide) hK' (fun a_3 hE_3 => ?_); clear hK' K'; clear hE_2
  refine Late.plain (by (first | (simp only [List.getElem?_toArray, List.getElem?_cons_succ, List.getElem?_cons_zero]; rfl) | rfl)) rfl (fun K' hK' => ?_)
  have r424 := hE_3.at 424 rfl
  refine op_run (fun ρ hρ qc qf qg => ?_); have q424 := rho hρ r424; clear hρ; go_simp; (try go_bits); (try clear ρ); (try clear qc qf qg r424 q424)
  refine late_next hE_3 (by decide) hK' (fun a_4 hE_4 => ?_); clear hK' K'; clear hE_3
  refine Late.plain (by (first | (simp only [List.getElem?_toArray, List.getElem?_cons_succ, List.getElem?_cons_zero]; rfl) | rfl)) rfl (fun K' hK' => ?_)
  have r421 := hE_4.at 421 rfl
  refine op_run (fun ρ hρ qc qf qg => ?_); have q421 := rho hρ r421; clear hρ; go_simp; (try go_bits); (try clear ρ); (try clear qc qf qg r421 q421)
  refine late_next hE_4 (by decide) hK' (fun a_5 hE_5 => ?_); clear hK' K'; clear hE_4
  refine Late.plain (by (first | (simp only [List.getElem?_toArray, List.getElem?_cons_succ, List.getElem?_cons_zero]; rfl) | rfl)) rfl (fun K' hK' => ?_)
  have r421 := hE_5.at 421 rfl
  refine op_run (fun ρ hρ qc qf qg => ?_); have q421 := rho hρ r421; clear hρ; go_simp; (try go_bits); (try clear ρ); (try clear qc qf qg r421 q421)
  refine late_next hE_5 (by decide) hK' (fun a_6 hE_6 => ?_); clear hK' K'; clear hE_5
  refine Late.plain (by (first | (simp only [List.getElem?_toArray, List.getElem?_cons_succ, List.getElem?_cons_zero]; rfl) | rfl)) rfl (fun K' hK' => ?_)
  have r425 := hE_6.at 425 rfl
  refine op_run (fun ρ hρ qc qf qg => ?_); have q425 := rho hρ r425; clear hρ; go_simp; (try go_bits); (try clear ρ); (try clear qc qf qg r425 q425)
  refine late_next hE_6 (by decide) hK' (fun a_7 hE_7 => ?_); clear hK' K'; clear hE_6
  refine Late.plain (by (first | (simp only [List.getElem?_toArray, List.getElem?_cons_succ, List.getElem?_cons_zero]; rfl) | rfl)) rfl (fun K' hK' => ?_)
  have r426 := hE_7.at 426 rfl
  refine op_run (fun ρ hρ qc qf qg => ?_); have q426 := rho hρ r426; clear hρ; go_simp; (try go_bits); (try clear ρ); (try clear qc qf qg r426 q426)
  refine late_next hE_7 (by decide) hK' (fun a_8 hE_8 => ?_); clear hK' K'; clear hE_7
  refine late_done [49, 32, 50, 34, 51, 36, 52, 38, 53, 40, 54, 42, 55, 44, 56, 46] hE_8 hK (fun a hE => ?_); clear hK K Q' hE_8; simp only [lk, pick, Nat.reduceEqDiff, ↓reduceIte] at hE
  have hw3 : Below v16.heap.size v16 w3 := h1.trans ((h2.trans (h3.mono h2.size)).mono h1.size)
  have hz3 := hw3.size
  refine world_cut (fun wt => Below v16.heap.size v16 wt) ?_ (fun v17 hBd => ?_)
  · (repeat' (first | (with_reducible exact Below.refl _ _) | (with_reducible assumption) | (with_reducible refine Below.drew ?_) | (with_reducible refine below_drewN ?_ _) | (with_reducible refine Below.setCell ?_ ?_ _) | (with_reducible refine Below.alloc ?_ ?_ _) | go_size | (exact Below.size (by assumption)) | (refine Below.trans ?_ (Below.mono (by assumption) ?_))))
  have k49' := k49.below hBd; clear k49; have k49 := k49'; clear k49'
  have k50' := k50.below hBd; clear k50; have k50 := k50'; clear k50'
  have k51' := k51.below hBd; clear k51; have k51 := k51'; clear k51'
  have k52' := k52.below hBd; clear k52; have k52 := k52'; clear k52'
  have k53' := k53.below hBd; clear k53; have k53 := k53'; clear k53'
  have hBd' := hB.trans (hBd.mono hB.size)
  clear hB hBd hw3 hz3 h1 h3 hG h2 hL
  have hB := hBd'
  clear hBd'
  (repeat (first | (with_reducible refine wp_seq ?_) | (with_reducible refine wp_block ?_) | (with_reducible refine then_n ?_) | (with_reducible refine inBlock_n ?_) | (with_reducible refine then_ret ?_) | (with_reducible refine inBlock_ret ?_) | (with_reducible refine then_exit ?_) | (with_reducible refine inBlock_hit ?_) | (with_reducible refine inBlock_miss (by decide) ?_) | (with_reducible refine wp_ret ?_) | (with_reducible refine wp_exit ?_) | (with_reducible refine wp_skip ?_)))
  refine region_straight (m := 7) rfl (fun Q' K hK => ?_)
  refine Late.plain (by (first | (simp only [List.getElem?_toArray, List.getElem?_cons_succ, List.getElem?_cons_zero]; rfl) | rfl)) rfl (fun K' hK' => ?_)
  refine op_run (fun ρ hρ qc qf qg => ?_); clear hρ; go_simp; (try go_bits); (try clear ρ); (try clear qc qf qg)
  go_at_call 53; refine (frosty_new _).mono ?_; rintro e w1 ⟨⟨G, rfl, hG⟩, h1⟩
  refine late_next hE (by decide) hK' (fun a_1 hE_1 => ?_); clear hK' K'; clear hE a
  refine Late.plain (by (first | (simp only [List.getElem?_toArray, List.getElem?_cons_succ, List.getElem?_cons_zero]; rfl) | rfl)) rfl (fun K' hK' => ?_)
  have r428 := hE_1.at 428 rfl
  refine op_run (fun ρ hρ qc qf qg => ?_); have q428 := rho hρ r428; clear hρ; go_simp; (try go_bits); (try clear ρ); (try clear qc qf qg r428 q428)
  go_at_call 27; refine (kTimes (n := 0) v_times2 rfl rfl rfl (by decide) _ (hG.arr frL_cells) (Arr.nil _ _ _)).mono ?_; rintro e w3 ⟨O, oc, rfl, h3⟩
  refine late_next hE_1 (by decide) hK' (fun a_2 hE_2 => ?_); clear hK' K'; clear hE_1
  refine Late.plain (by (first | (simp only [List.getElem?_toArray, List.getElem?_cons_succ, List.getElem?_cons_zero]; rfl) | rfl)) rfl (fun K' hK' => ?_)
  have r429 := hE_2.at 429 rfl
  refine op_run (fun ρ hρ qc qf qg => ?_); have q429 := rho hρ r429; clear hρ; go_simp; (try go_bits); (try clear ρ); (try clear qc qf qg r429 q429)
  refine late_next hE_2 (by decide) hK' (fun a_3 hE_3 => ?_); clear hK' K'; clear hE_2
  refine Late.plain (by (first | (simp only [List.getElem?_toArray, List.getElem?_cons_succ, List.getElem?_cons_zero]; rfl) | rfl)) rfl (fun K' hK' => ?_)
  have r427 := hE_3.at 427 rfl
  refine op_run (fun ρ hρ qc qf qg => ?_); have q427 := rho hρ r427; clear hρ; go_simp; (try go_bits); (try clear ρ); (try clear qc qf qg r427 q427)
  refine late_next hE_3 (by decide) hK' (fun a_4 hE_4 => ?_); clear hK' K'; clear hE_3
  refine Late.plain (by (first | (simp only [List.getElem?_toArray, List.getElem?_cons_succ, List.getElem?_cons_zero]; rfl) | rfl)) rfl (fun K' hK' => ?_)
  have r427 := hE_4.at 427 rfl
  refine op_run (fun ρ hρ qc qf qg => ?_); have q427 := rho hρ r427; clear hρ; go_simp; (try go_bits); (try clear ρ); (try clear qc qf qg r427 q427)
  refine late_next hE_4 (by decide) hK' (fun a_5 hE_5 => ?_); clear hK' K'; clear hE_4
  refine Late.plain (by (first | (simp only [List.getElem?_toArray, List.getElem?_cons_succ, List.getElem?_cons_zero]; rfl) | rfl)) rfl (fun K' hK' => ?_)
  have r430 := hE_5.at 430 rfl
  refine op_run (fun ρ hρ qc qf qg => ?_); have q430 := rho hρ r430; clear hρ; go_simp; (try go_bits); (try clear ρ); (try clear qc qf qg r430 q430)
  refine late_next hE_5 (by decide) hK' (fun a_6 hE_6 => ?_); clear hK' K'; clear hE_5
  refine Late.plain (by (first | (simp only [List.getElem?_toArray, List.getElem?_cons_succ, List.getElem?_cons_zero]; rfl) | rfl)) rfl (fun K' hK' => ?_)
  have r431 := hE_6.at 431 rfl
  refine op_run (fun ρ hρ qc qf qg => ?_); have q431 := rho hρ r431; clear hρ; go_simp; (try go_bits); (try clear ρ); (try clear qc qf qg r431 q431)
  refine late_next hE_6 (by decide) hK' (fun a_7 hE_7 => ?_); clear hK' K'; clear hE_6
  refine late_done [49, 32, 50, 34, 51, 36, 52, 38, 53, 40, 54, 42, 55, 44, 56, 46, 57, 48] hE_7 hK (fun a hE => ?_); clear hK K Q' hE_7; simp only [lk, pick, Nat.reduceEqDiff, ↓reduceIte] at hE
  have hw3 : Below v17.heap.size v17 w3 := h1.trans (h3.mono h1.size)
  have hz3 := hw3.size
  refine world_cut (fun wt => Below v17.heap.size v17 wt) ?_ (fun v18 hBd => ?_)
  · (repeat' (first | (with_reducible exact Below.refl _ _) | (with_reducible assumption) | (with_reducible refine Below.drew ?_) | (with_reducible refine below_drewN ?_ _) | (with_reducible refine Below.setCell ?_ ?_ _) | (with_reducible refine Below.alloc ?_ ?_ _) | go_size | (exact Below.size (by assumption)) | (refine Below.trans ?_ (Below.mono (by assumption) ?_))))
  have k49' := k49.below hBd; clear k49; have k49 := k49'; clear k49'
  have k50' := k50.below hBd; clear k50; have k50 := k50'; clear k50'
  have k51' := k51.below hBd; clear k51; have k51 := k51'; clear k51'
  have k52' := k52.below hBd; clear k52; have k52 := k52'; clear k52'
  have k53' := k53.below hBd; clear k53; have k53 := k53'; clear k53'
  have hBd' := hB.trans (hBd.mono hB.size)
  clear hB hBd hw3 hz3 h1 h3 hG
  have hB := hBd'
  clear hBd'
  (repeat (first | (with_reducible refine wp_seq ?_) | (with_reducible refine wp_block ?_) | (with_reducible refine then_n ?_) | (with_reducible refine inBlock_n ?_) | (with_reducible refine then_ret ?_) | (with_reducible refine inBlock_ret ?_) | (with_reducible refine then_exit ?_) | (with_reducible refine inBlock_hit ?_) | (with_reducible refine inBlock_miss (by decide) ?_) | (with_reducible refine wp_ret ?_) | (with_reducible refine wp_exit ?_) | (with_reducible refine wp_skip ?_)))
  refine region_straight (m := 8) rfl (fun Q' K hK => ?_)
  refine Late.plain (by (first | (simp only [List.getElem?_toArray, List.getElem?_cons_succ, List.getElem?_cons_zero]; rfl) | rfl)) rfl (fun K' hK' => ?_)
  refine op_run (fun ρ hρ qc qf qg => ?_); clear hρ; go_simp; (try go_bits); (try clear ρ); (try clear qc qf qg)
  go_at_call 53; refine (frosty_new _).mono ?_; rintro e w1 ⟨⟨G, rfl, hG⟩, h1⟩
  refine late_next hE (by decide) hK' (fun a_1 hE_1 => ?_); clear hK' K'; clear hE a
  refine Late.plain (by (first | (simp only [List.getElem?_toArray, List.getElem?_cons_succ, List.getElem?_cons_zero]; rfl) | rfl)) rfl (fun K' hK' => ?_)
  refine op_run (fun ρ hρ qc qf qg => ?_); clear hρ; go_simp; (try go_bits); (try clear ρ); (try clear qc qf qg)
  go_at_call 54; refine (written_any _ _).mono ?_; rintro e w2 ⟨⟨L, lcap, rfl, -, hL⟩, h2⟩
  refine late_next hE_1 (by decide) hK' (fun a_2 hE_2 => ?_); clear hK' K'; clear hE_1
  refine Late.plain (by (first | (simp only [List.getElem?_toArray, List.getElem?_cons_succ, List.getElem?_cons_zero]; rfl) | rfl)) rfl (fun K' hK' => ?_)
  have r433 := hE_2.at 433 rfl; have r434 := hE_2.at 434 rfl
  refine op_run (fun ρ hρ qc qf qg => ?_); have q433 := rho hρ r433; have q434 := rho hρ r434; clear hρ; go_simp; (try go_bits); (try clear ρ); (try clear qc qf qg r433 q433 r434 q434)
  go_at_call 32; refine (kWrong (n := 0) v_wrong1 rfl rfl rfl (by decide) _ ((hG.keep h2).arr frL_cells) hL).mono ?_; rintro e w3 ⟨O, oc, rfl, h3⟩
  refine late_next hE_2 (by decide) hK' (fun a_3 hE_3 => ?_); clear hK' K'; clear hE_2
  refine Late.plain (by (first | (simp only [List.getElem?_toArray, List.getElem?_cons_succ, List.getElem?_cons_zero]; rfl) | rfl)) rfl (fun K' hK' => ?_)
  have r435 := hE_3.at 435 rfl
  refine op_run (fun ρ hρ qc qf qg => ?_); have q435 := rho hρ r435; clear hρ; go_simp; (try go_bits); (try clear ρ); (try clear qc qf qg r435 q435)
  refine late_next hE_3 (by decide) hK' (fun a_4 hE_4 => ?_); clear hK' K'; clear hE_3
  refine Late.plain (by (first | (simp only [List.getElem?_toArray, List.getElem?_cons_succ, List.getElem?_cons_zero]; rfl) | rfl)) rfl (fun K' hK' => ?_)
  have r432 := hE_4.at 432 rfl
  refine op_run (fun ρ hρ qc qf qg => ?_); have q432 := rho hρ r432; clear hρ; go_simp; (try go_bits); (try clear ρ); (try clear qc qf qg r432 q432)
  refine late_next hE_4 (by decide) hK' (fun a_5 hE_5 => ?_); clear hK' K'; clear hE_4
  refine Late.plain (by (first | (simp only [List.getElem?_toArray, List.getElem?_cons_succ, List.getElem?_cons_zero]; rfl) | rfl)) rfl (fun K' hK' => ?_)
  have r432 := hE_5.at 432 rfl
  refine op_run (fun ρ hρ qc qf qg => ?_); have q432 := rho hρ r432; clear hρ; go_simp; (try go_bits); (try clear ρ); (try clear qc qf qg r432 q432)
  refine late_next hE_5 (by decide) hK' (fun a_6 hE_6 => ?_); clear hK' K'; clear hE_5
  refine Late.plain (by (first | (simp only [List.getElem?_toArray, List.getElem?_cons_succ, List.getElem?_cons_zero]; rfl) | rfl)) rfl (fun K' hK' => ?_)
  have r436 := hE_6.at 436 rfl
  refine op_run (fun ρ hρ qc qf qg => ?_); have q436 := rho hρ r436; clear hρ; go_simp; (try go_bits); (try clear ρ); (try clear qc qf qg r436 q436)
  refine late_next hE_6 (by decide) hK' (fun a_7 hE_7 => ?_); clear hK' K'; clear hE_6
  refine Late.plain (by (first | (simp only [List.getElem?_toArray, List.getElem?_cons_succ, List.getElem?_cons_zero]; rfl) | rfl)) rfl (fun K' hK' => ?_)
  have r437 := hE_7.at 437 rfl
  refine op_run (fun ρ hρ qc qf qg => ?_); have q437 := rho hρ r437; clear hρ; go_simp; (try go_bits); (try clear ρ); (try clear qc qf qg r437 q437)
  refine late_next hE_7 (by decide) hK' (fun a_8 hE_8 => ?_); clear hK' K'; clear hE_7
  refine late_done [49, 32, 50, 34, 51, 36, 52, 38, 53, 40, 54, 42, 55, 44, 56, 46, 57, 48, 58, 59] hE_8 hK (fun a hE => ?_); clear hK K Q' hE_8; simp only [lk, pick, Nat.reduceEqDiff, ↓reduceIte] at hE
  have hw3 : Below v18.heap.size v18 w3 := h1.trans ((h2.trans (h3.mono h2.size)).mono h1.size)
  have hz3 := hw3.size
  refine world_cut (fun wt => Below v18.heap.size v18 wt) ?_ (fun v19 hBd => ?_)
  · (repeat' (first | (with_reducible exact Below.refl _ _) | (with_reducible assumption) | (with_reducible refine Below.drew ?_) | (with_reducible refine below_drewN ?_ _) | (with_reducible refine Below.setCell ?_ ?_ _) | (with_reducible refine Below.alloc ?_ ?_ _) | go_size | (exact Below.size (by assumption)) | (refine Below.trans ?_ (Below.mono (by assumption) ?_))))
  have k49' := k49.below hBd; clear k49; have k49 := k49'; clear k49'
  have k50' := k50.below hBd; clear k50; have k50 := k50'; clear k50'
  have k51' := k51.below hBd; clear k51; have k51 := k51'; clear k51'
  have k52' := k52.below hBd; clear k52; have k52 := k52'; clear k52'
  have k53' := k53.below hBd; clear k53; have k53 := k53'; clear k53'
  have hBd' := hB.trans (hBd.mono hB.size)
  clear hB hBd hw3 hz3 h1 h3 hG h2 hL
  have hB := hBd'
  clear hBd'
  (repeat (first | (with_reducible refine wp_seq ?_) | (with_reducible refine wp_block ?_) | (with_reducible refine then_n ?_) | (with_reducible refine inBlock_n ?_) | (with_reducible refine then_ret ?_) | (with_reducible refine inBlock_ret ?_) | (with_reducible refine then_exit ?_) | (with_reducible refine inBlock_hit ?_) | (with_reducible refine inBlock_miss (by decide) ?_) | (with_reducible refine wp_ret ?_) | (with_reducible refine wp_exit ?_) | (with_reducible refine wp_skip ?_)))
  refine region_straight (m := 8) rfl (fun Q' K hK => ?_)
  refine Late.plain (by (first | (simp only [List.getElem?_toArray, List.getElem?_cons_succ, List.getElem?_cons_zero]; rfl) | rfl)) rfl (fun K' hK' => ?_)
  refine op_run (fun ρ hρ qc qf qg => ?_); clear hρ; go_simp; (try go_bits); (try clear ρ); (try clear qc qf qg)
  go_at_call 53; refine (frosty_new _).mono ?_; rintro e w1 ⟨⟨G, rfl, hG⟩, h1⟩
  refine late_next hE (by decide) hK' (fun a_1 hE_1 => ?_); clear hK' K'; clear hE a
  refine Late.plain (by (first | (simp only [List.getElem?_toArray, List.getElem?_cons_succ, List.getElem?_cons_zero]; rfl) | rfl)) rfl (fun K' hK' => ?_)
  have r439 := hE_1.at 439 rfl
  refine op_run (fun ρ hρ qc qf qg => ?_); have q439 := rho hρ r439; clear hρ; go_simp; (try go_bits); (try clear ρ); (try clear qc qf qg r439 q439)
  go_at_call 30; refine (kStopped v_stopped2 rfl rfl (by decide) _ (hG.arr frL_cells) (Arr.nil _ _ _)).mono ?_; rintro e w3 ⟨rfl, h3⟩
  refine late_next hE_1 (by decide) hK' (fun a_2 hE_2 => ?_); clear hK' K'; clear hE_1
  refine Late.plain (by (first | (simp only [List.getElem?_toArray, List.getElem?_cons_succ, List.getElem?_cons_zero]; rfl) | rfl)) rfl (fun K' hK' => ?_)
  have r440 := hE_2.at 440 rfl
  refine op_run (fun ρ hρ qc qf qg => ?_); have q440 := rho hρ r440; clear hρ; go_simp; (try go_bits); (try clear ρ); (try clear qc qf qg r440 q440)
  refine late_next hE_2 (by decide) hK' (fun a_3 hE_3 => ?_); clear hK' K'; clear hE_2
  refine Late.plain (by (first | (simp only [List.getElem?_toArray, List.getElem?_cons_succ, List.getElem?_cons_zero]; rfl) | rfl)) rfl (fun K' hK' => ?_)
  have r438 := hE_3.at 438 rfl
  refine op_run (fun ρ hρ qc qf qg => ?_); have q438 := rho hρ r438; clear hρ; go_simp; (try go_bits); (try clear ρ); (try clear qc qf qg r438 q438)
  refine late_next hE_3 (by decide) hK' (fun a_4 hE_4 => ?_); clear hK' K'; clear hE_3
  refine Late.plain (by (first | (simp only [List.getElem?_toArray, List.getElem?_cons_succ, List.getElem?_cons_zero]; rfl) | rfl)) rfl (fun K' hK' => ?_)
  have r438 := hE_4.at 438 rfl
  refine op_run (fun ρ hρ qc qf qg => ?_); have q438 := rho hρ r438; clear hρ; go_simp; (try go_bits); (try clear ρ); (try clear qc qf qg r438 q438)
  refine late_next hE_4 (by decide) hK' (fun a_5 hE_5 => ?_); clear hK' K'; clear hE_4
  refine Late.plain (by (first | (simp only [List.getElem?_toArray, List.getElem?_cons_succ, List.getElem?_cons_zero]; rfl) | rfl)) rfl (fun K' hK' => ?_)
  refine op_run (fun ρ hρ qc qf qg => ?_); clear hρ; go_simp; (try go_bits); (try clear ρ); (try clear qc qf qg)
  refine late_next hE_5 (by decide) hK' (fun a_6 hE_6 => ?_); clear hK' K'; clear hE_5
  refine Late.plain (by (first | (simp only [List.getElem?_toArray, List.getElem?_cons_succ, List.getElem?_cons_zero]; rfl) | rfl)) rfl (fun K' hK' => ?_)
  have r60 := hE_6.at 60 rfl; have r441 := hE_6.at 441 rfl
  refine op_run (fun ρ hρ qc qf qg => ?_); have q60 := rho hρ r60; have q441 := rho hρ r441; clear hρ; go_simp; (try go_bits); (try clear ρ); (try clear qc qf qg r60 q60 r441 q441)
  refine late_skip hE_6 hK' (fun a_7 hE_7 => ?_); clear hK' K'; clear hE_6
  refine Late.plain (by (first | (simp only [List.getElem?_toArray, List.getElem?_cons_succ, List.getElem?_cons_zero]; rfl) | rfl)) rfl (fun K' hK' => ?_)
  have r442 := hE_7.at 442 rfl
  refine op_run (fun ρ hρ qc qf qg => ?_); have q442 := rho hρ r442; clear hρ; go_simp; (try go_bits); (try clear ρ); (try clear qc qf qg r442 q442)
  refine late_next hE_7 (by decide) hK' (fun a_8 hE_8 => ?_); clear hK' K'; clear hE_7
  refine late_done [49, 32, 50, 34, 51, 36, 52, 38, 53, 40, 54, 42, 55, 44, 56, 46, 57, 48, 58, 59, 60, 61] hE_8 hK (fun a hE => ?_); clear hK K Q' hE_8; simp only [lk, pick, Nat.reduceEqDiff, ↓reduceIte] at hE
  have hw3 : Below v19.heap.size v19 w3 := h1.trans (h3.mono h1.size)
  have hz3 := hw3.size
  obtain ⟨B60, q60⟩ : ∃ B, B = w3.heap.size := ⟨_, rfl⟩
  rw [← q60] at hE
  refine world_cut (fun wt => Below v19.heap.size v19 wt ∧ SpAt wt B60 38 43) ⟨?_, ?_⟩ (fun v20 hC => ?_)
  · (repeat' (first | (with_reducible exact Below.refl _ _) | (with_reducible assumption) | (with_reducible refine Below.drew ?_) | (with_reducible refine below_drewN ?_ _) | (with_reducible refine Below.setCell ?_ ?_ _) | (with_reducible refine Below.alloc ?_ ?_ _) | go_size | (exact Below.size (by assumption)) | (refine Below.trans ?_ (Below.mono (by assumption) ?_))))
  · rw [q60]; exact ⟨by simp, by simp [go_sem], by simp [go_sem]⟩
  obtain ⟨hBd, k60⟩ := hC
  clear q60
  have k49' := k49.below hBd; clear k49; have k49 := k49'; clear k49'
  have k50' := k50.below hBd; clear k50; have k50 := k50'; clear k50'
  have k51' := k51.below hBd; clear k51; have k51 := k51'; clear k51'
  have k52' := k52.below hBd; clear k52; have k52 := k52'; clear k52'
  have k53' := k53.below hBd; clear k53; have k53 := k53'; clear k53'
  have hBd' := hB.trans (hBd.mono hB.size)
  clear hB hBd hw3 hz3 h1 h3 hG
  have hB := hBd'
  clear hBd'
  (repeat (first | (with_reducible refine wp_seq ?_) | (with_reducible refine wp_block ?_) | (with_reducible refine then_n ?_) | (with_reducible refine inBlock_n ?_) | (with_reducible refine then_ret ?_) | (with_reducible refine inBlock_ret ?_) | (with_reducible refine then_exit ?_) | (with_reducible refine inBlock_hit ?_) | (with_reducible refine inBlock_miss (by decide) ?_) | (with_reducible refine wp_ret ?_) | (with_reducible refine wp_exit ?_) | (with_reducible refine wp_skip ?_)))
  obtain ⟨n49, a49, b49⟩ := k49
  obtain ⟨n50, a50, b50⟩ := k50
  obtain ⟨n51, a51, b51⟩ := k51
  obtain ⟨n52, a52, b52⟩ := k52
  obtain ⟨n53, a53, b53⟩ := k53
  obtain ⟨n60, a60, b60⟩ := k60
  refine region_drawn [] (fun wt => Below v20.heap.size v20 wt) (fun w1 w2 => Below w1.heap.size w1 w2) [(0, some 443), (1, some 444), (2, some 445), (3, some 446), (4, some 447), (5, some 448), (6, some 449), (7, some 450), (8, some 451), (9, some 452), (10, some 453), (11, some 454), (12, some 455), (13, some 456), (14, some 457), (15, some 458), (16, some 459), (17, some 460), (18, some 461), (19, some 462), (20, some 463), (21, some 464), (22, some 465), (23, some 466), (24, some 467), (25, some 468), (26, some 469), (27, some 470), (28, some 471), (29, some 472), (30, some 473), (31, some 474), (32, some 475), (33, some 476), (34, some 477), (35, some 478), (36, some 479), (37, some 480), (38, some 481), (39, some 482), (40, some 483), (41, some 484), (42, some 485), (43, some 486), (44, some 487), (45, some 488), (46, some 489), (47, some 490), (48, some 491), (49, some 492), (50, some 493), (51, some 494), (52, some 495), (53, some 496), (54, some 497), (55, some 498), (56, some 499), (57, some 500), (58, some 501), (59, some 502), (60, some 503), (61, some 504), (62, some 505), (63, some 506), (64, some 507), (65, some 508), (66, some 509), (67, some 510), (68, some 511), (69, some 512), (70, some 513), (71, some 514), (72, some 515), (73, some 516), (74, some 517), (75, some 518), (76, some 519), (77, some 520), (78, some 521), (79, some 522), (80, some 523), (81, some 524), (82, some 525), (83, some 526), (84, some 527), (85, some 528), (86, some 529), (87, some 530), (88, some 531), (89, some 532), (90, some 533), (91, some 534), (92, some 535), (93, some 536), (94, some 537), (95, some 538), (96, some 539), (97, some 540), (98, some 541), (99, some 0)] [443, 444, 445, 446, 447, 448, 449, 450, 451, 452, 453, 454, 455, 456, 457, 458, 459, 460, 461, 462, 463, 464, 465, 466, 467, 468, 469, 470, 471, 472, 473, 474, 475, 476, 477, 478, 479, 480, 481, 482, 483, 484, 485, 486, 487, 488, 489, 490, 491, 492, 493, 494, 495, 496, 497, 498, 499, 500, 501, 502, 503, 504, 505, 506, 507, 508, 509, 510, 511, 512, 513, 514, 515, 516, 517, 518, 519, 520, 521, 522, 523, 524, 525, 526, 527, 528, 529, 530, 531, 532, 533, 534, 535, 536, 537, 538, 539, 540, 541, 0] #[true, true, true, true, true, true, true, true, true, true, true, true, true, true, true, true, true, true, true, true, true, true, true, true, true, true, true, true, true, true, true, true, true, true, true, true, true, true, true, true, true, true, true, true, true, true, true, true, true, true, true, true, true, true, true, true, true, true, true, true, true, true, true, true, true, true, true, true, true, true, true, true, true, true, true, true, true, true, true, true, true, true, true, true, true, true, true, true, true, true, true, true, true, true, true, true, true, true, true, true] [] hE (by kernel_rfl) (by kernel_rfl) (by kernel_rfl) (by kernel_rfl) (by kernel_rfl) (by kernel_rfl) (by kernel_rfl) (by kernel_rfl) (by kernel_rfl) (by kernel_rfl) (by kernel_rfl) (by kernel_rfl) (by decide) ((Below.refl _ _).drew) (fun Q' K hK => ?_)
  refine SeqOps.val ?_ (StepOk.plain (by (first | (simp only [List.getElem?_toArray, List.getElem?_cons_succ, List.getElem?_cons_zero]; rfl) | rfl)) rfl (fun ax wx hS hT' hd K' hK' => ?_)) ?_; rotate_left 1
  · have r32 := hS.at 32 (by decide) (hE.at 32 rfl); obtain ⟨hcT, hfT, hlT, hmT, hwT⟩ := bcell hT'; have hzT := hT'.size
    refine op_run (fun ρ hρ qc qf qg => ?_); have q32 := rho hρ r32; clear hρ; go_simp; (try go_bits); (try clear ρ);
    refine hK'.out _ _ _ rfl ?_ hT' (Below.refl _ _); rfl
  refine SeqOps.val ?_ (StepOk.plain (by (first | (simp only [List.getElem?_toArray, List.getElem?_cons_succ, List.getElem?_cons_zero]; rfl) | rfl)) rfl (fun ax wx hS hT' hd K' hK' => ?_)) ?_; rotate_left 1
  · have r443 := told_val hd 0 (k := 0) (e := 443) rfl (by kernel_rfl) (by kernel_rfl); obtain ⟨hcT, hfT, hlT, hmT, hwT⟩ := bcell hT'; have hzT := hT'.size
    refine op_run (fun ρ hρ qc qf qg => ?_); have q443 := rho hρ r443; clear hρ; go_simp; (try go_bits); (try clear ρ);
    refine hK'.out _ _ _ rfl ?_ hT' (Below.refl _ _); rfl
  refine SeqOps.val ?_ (StepOk.plain (by (first | (simp only [List.getElem?_toArray, List.getElem?_cons_succ, List.getElem?_cons_zero]; rfl) | rfl)) rfl (fun ax wx hS hT' hd K' hK' => ?_)) ?_; rotate_left 1
  · have r444 := told_val hd 0 (k := 1) (e := 444) rfl (by kernel_rfl) (by kernel_rfl); obtain ⟨hcT, hfT, hlT, hmT, hwT⟩ := bcell hT'; have hzT := hT'.size
    refine op_run (fun ρ hρ qc qf qg => ?_); have q444 := rho hρ r444; clear hρ; go_simp; (try go_bits); (try clear ρ);
    refine hK'.out _ _ _ rfl ?_ hT' (Below.refl _ _); rfl
  refine SeqOps.val ?_ (StepOk.yes (by (first | (simp only [List.getElem?_toArray, List.getElem?_cons_succ, List.getElem?_cons_zero]; rfl) | rfl)) rfl 0 rfl (e := 445) (by kernel_rfl) (by kernel_rfl) (fun ax wx hS hT' hd K' hK' => ?_)) ?_; rotate_left 1
  · have r49 := hS.at 49 (by decide) (hE.at 49 rfl); obtain ⟨hcT, hfT, hlT, hmT, hwT⟩ := bcell hT'; have hzT := hT'.size
    refine op_run (fun ρ hρ qc qf qg => ?_); have q49 := rho hρ r49; clear hρ; go_simp; (try go_bits); (try clear ρ);
    refine hK'.out _ _ _ rfl ?_ hT' (Below.refl _ _); rfl
  refine SeqOps.val ?_ (StepOk.yes (by (first | (simp only [List.getElem?_toArray, List.getElem?_cons_succ, List.getElem?_cons_zero]; rfl) | rfl)) rfl 1 rfl (e := 445) (by kernel_rfl) (by kernel_rfl) (fun ax wx hS hT' hd K' hK' => ?_)) ?_; rotate_left 1
  · obtain ⟨hcT, hfT, hlT, hmT, hwT⟩ := bcell hT'; have hzT := hT'.size
    refine op_run (fun ρ hρ qc qf qg => ?_); clear hρ; go_simp; (try go_bits); (try clear ρ);
    go_at_call 47; refine (one_any _ _).mono ?_; rintro e u1 ⟨rfl, g1⟩
    refine hK'.out _ _ _ rfl ?_ (hT'.trans (g1.mono hT'.size)) g1; rfl
  refine SeqOps.val ?_ (StepOk.yes (by (first | (simp only [List.getElem?_toArray, List.getElem?_cons_succ, List.getElem?_cons_zero]; rfl) | rfl)) rfl 2 rfl (e := 445) (by kernel_rfl) (by kernel_rfl) (fun ax wx hS hT' hd K' hK' => ?_)) ?_; rotate_left 1
  · have r446 := told_val hd 1 (k := 3) (e := 446) rfl (by kernel_rfl) (by kernel_rfl); have r447 := told_val hd 0 (k := 4) (e := 447) rfl (by kernel_rfl) (by kernel_rfl); obtain ⟨hcT, hfT, hlT, hmT, hwT⟩ := bcell hT'; have hzT := hT'.size
    refine op_run (fun ρ hρ qc qf qg => ?_); have q446 := rho hρ r446; have q447 := rho hρ r447; clear hρ; go_simp; (try go_bits); (try clear ρ);
    refine hK'.out _ _ _ rfl ?_ hT' (Below.refl _ _); rfl
  refine SeqOps.val ?_ (StepOk.plain (by (first | (simp only [List.getElem?_toArray, List.getElem?_cons_succ, List.getElem?_cons_zero]; rfl) | rfl)) rfl (fun ax wx hS hT' hd K' hK' => ?_)) ?_; rotate_left 1
  · have r445 := told_val hd 3 (k := 2) (e := 445) rfl (by kernel_rfl) (by kernel_rfl); have r448 := told_val hd 0 (k := 5) (e := 448) rfl (by kernel_rfl) (by kernel_rfl); obtain ⟨hcT, hfT, hlT, hmT, hwT⟩ := bcell hT'; have hzT := hT'.size
    refine op_run (fun ρ hρ qc qf qg => ?_); have q445 := rho hρ r445; have q448 := rho hρ r448; clear hρ; go_simp; (try go_bits); (try clear ρ);
    refine hK'.out _ _ _ rfl ?_ hT' (Below.refl _ _); rfl
  refine SeqOps.val ?_ (StepOk.plain (by (first | (simp only [List.getElem?_toArray, List.getElem?_cons_succ, List.getElem?_cons_zero]; rfl) | rfl)) rfl (fun ax wx hS hT' hd K' hK' => ?_)) ?_; rotate_left 1
  · have r449 := told_val hd 0 (k := 6) (e := 449) rfl (by kernel_rfl) (by kernel_rfl); obtain ⟨hcT, hfT, hlT, hmT, hwT⟩ := bcell hT'; have hzT := hT'.size
    refine op_run (fun ρ hρ qc qf qg => ?_); have q449 := rho hρ r449; clear hρ; go_simp; (try go_bits); (try clear ρ);
    refine hK'.out _ _ _ rfl ?_ hT' (Below.refl _ _); rfl
  refine SeqOps.val ?_ (StepOk.yes (by (first | (simp only [List.getElem?_toArray, List.getElem?_cons_succ, List.getElem?_cons_zero]; rfl) | rfl)) rfl 0 rfl (e := 450) (by kernel_rfl) (by kernel_rfl) (fun ax wx hS hT' hd K' hK' => ?_)) ?_; rotate_left 1
  · have r34 := hS.at 34 (by decide) (hE.at 34 rfl); obtain ⟨hcT, hfT, hlT, hmT, hwT⟩ := bcell hT'; have hzT := hT'.size
    refine op_run (fun ρ hρ qc qf qg => ?_); have q34 := rho hρ r34; clear hρ; go_simp; (try go_bits); (try clear ρ);
    refine hK'.out _ _ _ rfl ?_ hT' (Below.refl _ _); rfl
  refine SeqOps.val ?_ (StepOk.yes (by (first | (simp only [List.getElem?_toArray, List.getElem?_cons_succ, List.getElem?_cons_zero]; rfl) | rfl)) rfl 1 rfl (e := 450) (by kernel_rfl) (by kernel_rfl) (fun ax wx hS hT' hd K' hK' => ?_)) ?_; rotate_left 1
  · have r451 := told_val hd 0 (k := 8) (e := 451) rfl (by kernel_rfl) (by kernel_rfl); obtain ⟨hcT, hfT, hlT, hmT, hwT⟩ := bcell hT'; have hzT := hT'.size
    refine op_run (fun ρ hρ qc qf qg => ?_); have q451 := rho hρ r451; clear hρ; go_simp; (try go_bits); (try clear ρ);
    refine hK'.out _ _ _ rfl ?_ hT' (Below.refl _ _); rfl
  refine SeqOps.val ?_ (StepOk.plain (by (first | (simp only [List.getElem?_toArray, List.getElem?_cons_succ, List.getElem?_cons_zero]; rfl) | rfl)) rfl (fun ax wx hS hT' hd K' hK' => ?_)) ?_; rotate_left 1
  · have r450 := told_val hd 2 (k := 7) (e := 450) rfl (by kernel_rfl) (by kernel_rfl); have r452 := told_val hd 0 (k := 9) (e := 452) rfl (by kernel_rfl) (by kernel_rfl); obtain ⟨hcT, hfT, hlT, hmT, hwT⟩ := bcell hT'; have hzT := hT'.size
    refine op_run (fun ρ hρ qc qf qg => ?_); have q450 := rho hρ r450; have q452 := rho hρ r452; clear hρ; go_simp; (try go_bits); (try clear ρ);
    refine hK'.out _ _ _ rfl ?_ hT' (Below.refl _ _); rfl
  refine SeqOps.val ?_ (StepOk.plain (by (first | (simp only [List.getElem?_toArray, List.getElem?_cons_succ, List.getElem?_cons_zero]; rfl) | rfl)) rfl (fun ax wx hS hT' hd K' hK' => ?_)) ?_; rotate_left 1
  · have r453 := told_val hd 0 (k := 10) (e := 453) rfl (by kernel_rfl) (by kernel_rfl); obtain ⟨hcT, hfT, hlT, hmT, hwT⟩ := bcell hT'; have hzT := hT'.size
    refine op_run (fun ρ hρ qc qf qg => ?_); have q453 := rho hρ r453; clear hρ; go_simp; (try go_bits); (try clear ρ);
    refine hK'.out _ _ _ rfl ?_ hT' (Below.refl _ _); rfl
  refine SeqOps.val ?_ (StepOk.yes (by (first | (simp only [List.getElem?_toArray, List.getElem?_cons_succ, List.getElem?_cons_zero]; rfl) | rfl)) rfl 0 rfl (e := 454) (by kernel_rfl) (by kernel_rfl) (fun ax wx hS hT' hd K' hK' => ?_)) ?_; rotate_left 1
  · have r50 := hS.at 50 (by decide) (hE.at 50 rfl); obtain ⟨hcT, hfT, hlT, hmT, hwT⟩ := bcell hT'; have hzT := hT'.size
    refine op_run (fun ρ hρ qc qf qg => ?_); have q50 := rho hρ r50; clear hρ; go_simp; (try go_bits); (try clear ρ);
    refine hK'.out _ _ _ rfl ?_ hT' (Below.refl _ _); rfl
  refine SeqOps.val ?_ (StepOk.yes (by (first | (simp only [List.getElem?_toArray, List.getElem?_cons_succ, List.getElem?_cons_zero]; rfl) | rfl)) rfl 1 rfl (e := 454) (by kernel_rfl) (by kernel_rfl) (fun ax wx hS hT' hd K' hK' => ?_)) ?_; rotate_left 1
  · obtain ⟨hcT, hfT, hlT, hmT, hwT⟩ := bcell hT'; have hzT := hT'.size
    refine op_run (fun ρ hρ qc qf qg => ?_); clear hρ; go_simp; (try go_bits); (try clear ρ);
    go_at_call 41; refine (to_any _ _ _).mono ?_; rintro e u1 ⟨rfl, g1⟩
    refine hK'.out _ _ _ rfl ?_ (hT'.trans (g1.mono hT'.size)) g1; rfl
  refine SeqOps.val ?_ (StepOk.yes (by (first | (simp only [List.getElem?_toArray, List.getElem?_cons_succ, List.getElem?_cons_zero]; rfl) | rfl)) rfl 2 rfl (e := 454) (by kernel_rfl) (by kernel_rfl) (fun ax wx hS hT' hd K' hK' => ?_)) ?_; rotate_left 1
  · have r455 := told_val hd 1 (k := 12) (e := 455) rfl (by kernel_rfl) (by kernel_rfl); have r456 := told_val hd 0 (k := 13) (e := 456) rfl (by kernel_rfl) (by kernel_rfl); obtain ⟨hcT, hfT, hlT, hmT, hwT⟩ := bcell hT'; have hzT := hT'.size
    refine op_run (fun ρ hρ qc qf qg => ?_); have q455 := rho hρ r455; have q456 := rho hρ r456; clear hρ; go_simp; (try go_bits); (try clear ρ);
    refine hK'.out _ _ _ rfl ?_ hT' (Below.refl _ _); rfl
  refine SeqOps.val ?_ (StepOk.plain (by (first | (simp only [List.getElem?_toArray, List.getElem?_cons_succ, List.getElem?_cons_zero]; rfl) | rfl)) rfl (fun ax wx hS hT' hd K' hK' => ?_)) ?_; rotate_left 1
  · have r454 := told_val hd 3 (k := 11) (e := 454) rfl (by kernel_rfl) (by kernel_rfl); have r457 := told_val hd 0 (k := 14) (e := 457) rfl (by kernel_rfl) (by kernel_rfl); obtain ⟨hcT, hfT, hlT, hmT, hwT⟩ := bcell hT'; have hzT := hT'.size
    refine op_run (fun ρ hρ qc qf qg => ?_); have q454 := rho hρ r454; have q457 := rho hρ r457; clear hρ; go_simp; (try go_bits); (try clear ρ);
    refine hK'.out _ _ _ rfl ?_ hT' (Below.refl _ _); rfl
  refine SeqOps.val ?_ (StepOk.plain (by (first | (simp only [List.getElem?_toArray, List.getElem?_cons_succ, List.getElem?_cons_zero]; rfl) | rfl)) rfl (fun ax wx hS hT' hd K' hK' => ?_)) ?_; rotate_left 1
  · have r458 := told_val hd 0 (k := 15) (e := 458) rfl (by kernel_rfl) (by kernel_rfl); obtain ⟨hcT, hfT, hlT, hmT, hwT⟩ := bcell hT'; have hzT := hT'.size
    refine op_run (fun ρ hρ qc qf qg => ?_); have q458 := rho hρ r458; clear hρ; go_simp; (try go_bits); (try clear ρ);
    refine hK'.out _ _ _ rfl ?_ hT' (Below.refl _ _); rfl
  refine SeqOps.val ?_ (StepOk.yes (by (first | (simp only [List.getElem?_toArray, List.getElem?_cons_succ, List.getElem?_cons_zero]; rfl) | rfl)) rfl 0 rfl (e := 459) (by kernel_rfl) (by kernel_rfl) (fun ax wx hS hT' hd K' hK' => ?_)) ?_; rotate_left 1
  · have r36 := hS.at 36 (by decide) (hE.at 36 rfl); obtain ⟨hcT, hfT, hlT, hmT, hwT⟩ := bcell hT'; have hzT := hT'.size
    refine op_run (fun ρ hρ qc qf qg => ?_); have q36 := rho hρ r36; clear hρ; go_simp; (try go_bits); (try clear ρ);
    refine hK'.out _ _ _ rfl ?_ hT' (Below.refl _ _); rfl
  refine SeqOps.val ?_ (StepOk.yes (by (first | (simp only [List.getElem?_toArray, List.getElem?_cons_succ, List.getElem?_cons_zero]; rfl) | rfl)) rfl 1 rfl (e := 459) (by kernel_rfl) (by kernel_rfl) (fun ax wx hS hT' hd K' hK' => ?_)) ?_; rotate_left 1
  · have r460 := told_val hd 0 (k := 17) (e := 460) rfl (by kernel_rfl) (by kernel_rfl); obtain ⟨hcT, hfT, hlT, hmT, hwT⟩ := bcell hT'; have hzT := hT'.size
    refine op_run (fun ρ hρ qc qf qg => ?_); have q460 := rho hρ r460; clear hρ; go_simp; (try go_bits); (try clear ρ);
    refine hK'.out _ _ _ rfl ?_ hT' (Below.refl _ _); rfl
  refine SeqOps.val ?_ (StepOk.plain (by (first | (simp only [List.getElem?_toArray, List.getElem?_cons_succ, List.getElem?_cons_zero]; rfl) | rfl)) rfl (fun ax wx hS hT' hd K' hK' => ?_)) ?_; rotate_left 1
  · have r459 := told_val hd 2 (k := 16) (e := 459) rfl (by kernel_rfl) (by kernel_rfl); have r461 := told_val hd 0 (k := 18) (e := 461) rfl (by kernel_rfl) (by kernel_rfl); obtain ⟨hcT, hfT, hlT, hmT, hwT⟩ := bcell hT'; have hzT := hT'.size
    refine op_run (fun ρ hρ qc qf qg => ?_); have q459 := rho hρ r459; have q461 := rho hρ r461; clear hρ; go_simp; (try go_bits); (try clear ρ);
    refine hK'.out _ _ _ rfl ?_ hT' (Below.refl _ _); rfl
  refine SeqOps.val ?_ (StepOk.plain (by (first | (simp only [List.getElem?_toArray, List.getElem?_cons_succ, List.getElem?_cons_zero]; rfl) | rfl)) rfl (fun ax wx hS hT' hd K' hK' => ?_)) ?_; rotate_left 1
  · have r462 := told_val hd 0 (k := 19) (e := 462) rfl (by kernel_rfl) (by kernel_rfl); obtain ⟨hcT, hfT, hlT, hmT, hwT⟩ := bcell hT'; have hzT := hT'.size
    refine op_run (fun ρ hρ qc qf qg => ?_); have q462 := rho hρ r462; clear hρ; go_simp; (try go_bits); (try clear ρ);
    refine hK'.out _ _ _ rfl ?_ hT' (Below.refl _ _); rfl
  refine SeqOps.val ?_ (StepOk.yes (by (first | (simp only [List.getElem?_toArray, List.getElem?_cons_succ, List.getElem?_cons_zero]; rfl) | rfl)) rfl 0 rfl (e := 463) (by kernel_rfl) (by kernel_rfl) (fun ax wx hS hT' hd K' hK' => ?_)) ?_; rotate_left 1
  · have r51 := hS.at 51 (by decide) (hE.at 51 rfl); obtain ⟨hcT, hfT, hlT, hmT, hwT⟩ := bcell hT'; have hzT := hT'.size
    refine op_run (fun ρ hρ qc qf qg => ?_); have q51 := rho hρ r51; clear hρ; go_simp; (try go_bits); (try clear ρ);
    refine hK'.out _ _ _ rfl ?_ hT' (Below.refl _ _); rfl
  refine SeqOps.val ?_ (StepOk.yes (by (first | (simp only [List.getElem?_toArray, List.getElem?_cons_succ, List.getElem?_cons_zero]; rfl) | rfl)) rfl 1 rfl (e := 463) (by kernel_rfl) (by kernel_rfl) (fun ax wx hS hT' hd K' hK' => ?_)) ?_; rotate_left 1
  · obtain ⟨hcT, hfT, hlT, hmT, hwT⟩ := bcell hT'; have hzT := hT'.size
    refine op_run (fun ρ hρ qc qf qg => ?_); clear hρ; go_simp; (try go_bits); (try clear ρ);
    go_at_call 41; refine (to_any _ _ _).mono ?_; rintro e u1 ⟨rfl, g1⟩
    refine hK'.out _ _ _ rfl ?_ (hT'.trans (g1.mono hT'.size)) g1; rfl
  refine SeqOps.val ?_ (StepOk.yes (by (first | (simp only [List.getElem?_toArray, List.getElem?_cons_succ, List.getElem?_cons_zero]; rfl) | rfl)) rfl 2 rfl (e := 463) (by kernel_rfl) (by kernel_rfl) (fun ax wx hS hT' hd K' hK' => ?_)) ?_; rotate_left 1
  · have r464 := told_val hd 1 (k := 21) (e := 464) rfl (by kernel_rfl) (by kernel_rfl); have r465 := told_val hd 0 (k := 22) (e := 465) rfl (by kernel_rfl) (by kernel_rfl); obtain ⟨hcT, hfT, hlT, hmT, hwT⟩ := bcell hT'; have hzT := hT'.size
    refine op_run (fun ρ hρ qc qf qg => ?_); have q464 := rho hρ r464; have q465 := rho hρ r465; clear hρ; go_simp; (try go_bits); (try clear ρ);
    refine hK'.out _ _ _ rfl ?_ hT' (Below.refl _ _); rfl
  refine SeqOps.val ?_ (StepOk.plain (by (first | (simp only [List.getElem?_toArray, List.getElem?_cons_succ, List.getElem?_cons_zero]; rfl) | rfl)) rfl (fun ax wx hS hT' hd K' hK' => ?_)) ?_; rotate_left 1
  · have r463 := told_val hd 3 (k := 20) (e := 463) rfl (by kernel_rfl) (by kernel_rfl); have r466 := told_val hd 0 (k := 23) (e := 466) rfl (by kernel_rfl) (by kernel_rfl); obtain ⟨hcT, hfT, hlT, hmT, hwT⟩ := bcell hT'; have hzT := hT'.size
    refine op_run (fun ρ hρ qc qf qg => ?_); have q463 := rho hρ r463; have q466 := rho hρ r466; clear hρ; go_simp; (try go_bits); (try clear ρ);
    refine hK'.out _ _ _ rfl ?_ hT' (Below.refl _ _); rfl
  refine SeqOps.val ?_ (StepOk.plain (by (first | (simp only [List.getElem?_toArray, List.getElem?_cons_succ, List.getElem?_cons_zero]; rfl) | rfl)) rfl (fun ax wx hS hT' hd K' hK' => ?_)) ?_; rotate_left 1
  · have r467 := told_val hd 0 (k := 24) (e := 467) rfl (by kernel_rfl) (by kernel_rfl); obtain ⟨hcT, hfT, hlT, hmT, hwT⟩ := bcell hT'; have hzT := hT'.size
    refine op_run (fun ρ hρ qc qf qg => ?_); have q467 := rho hρ r467; clear hρ; go_simp; (try go_bits); (try clear ρ);
    refine hK'.out _ _ _ rfl ?_ hT' (Below.refl _ _); rfl
  refine SeqOps.val ?_ (StepOk.yes (by (first | (simp only [List.getElem?_toArray, List.getElem?_cons_succ, List.getElem?_cons_zero]; rfl) | rfl)) rfl 0 rfl (e := 468) (by kernel_rfl) (by kernel_rfl) (fun ax wx hS hT' hd K' hK' => ?_)) ?_; rotate_left 1
  · have r38 := hS.at 38 (by decide) (hE.at 38 rfl); obtain ⟨hcT, hfT, hlT, hmT, hwT⟩ := bcell hT'; have hzT := hT'.size
    refine op_run (fun ρ hρ qc qf qg => ?_); have q38 := rho hρ r38; clear hρ; go_simp; (try go_bits); (try clear ρ);
    refine hK'.out _ _ _ rfl ?_ hT' (Below.refl _ _); rfl
  refine SeqOps.val ?_ (StepOk.yes (by (first | (simp only [List.getElem?_toArray, List.getElem?_cons_succ, List.getElem?_cons_zero]; rfl) | rfl)) rfl 1 rfl (e := 468) (by kernel_rfl) (by kernel_rfl) (fun ax wx hS hT' hd K' hK' => ?_)) ?_; rotate_left 1
  · have r469 := told_val hd 0 (k := 26) (e := 469) rfl (by kernel_rfl) (by kernel_rfl); obtain ⟨hcT, hfT, hlT, hmT, hwT⟩ := bcell hT'; have hzT := hT'.size
    refine op_run (fun ρ hρ qc qf qg => ?_); have q469 := rho hρ r469; clear hρ; go_simp; (try go_bits); (try clear ρ);
    refine hK'.out _ _ _ rfl ?_ hT' (Below.refl _ _); rfl
  refine SeqOps.val ?_ (StepOk.plain (by (first | (simp only [List.getElem?_toArray, List.getElem?_cons_succ, List.getElem?_cons_zero]; rfl) | rfl)) rfl (fun ax wx hS hT' hd K' hK' => ?_)) ?_; rotate_left 1
  · have r468 := told_val hd 2 (k := 25) (e := 468) rfl (by kernel_rfl) (by kernel_rfl); have r470 := told_val hd 0 (k := 27) (e := 470) rfl (by kernel_rfl) (by kernel_rfl); obtain ⟨hcT, hfT, hlT, hmT, hwT⟩ := bcell hT'; have hzT := hT'.size
    refine op_run (fun ρ hρ qc qf qg => ?_); have q468 := rho hρ r468; have q470 := rho hρ r470; clear hρ; go_simp; (try go_bits); (try clear ρ);
    refine hK'.out _ _ _ rfl ?_ hT' (Below.refl _ _); rfl
  refine SeqOps.val ?_ (StepOk.plain (by (first | (simp only [List.getElem?_toArray, List.getElem?_cons_succ, List.getElem?_cons_zero]; rfl) | rfl)) rfl (fun ax wx hS hT' hd K' hK' => ?_)) ?_; rotate_left 1
  · have r471 := told_val hd 0 (k := 28) (e := 471) rfl (by kernel_rfl) (by kernel_rfl); obtain ⟨hcT, hfT, hlT, hmT, hwT⟩ := bcell hT'; have hzT := hT'.size
    refine op_run (fun ρ hρ qc qf qg => ?_); have q471 := rho hρ r471; clear hρ; go_simp; (try go_bits); (try clear ρ);
    refine hK'.out _ _ _ rfl ?_ hT' (Below.refl _ _); rfl
  refine SeqOps.val ?_ (StepOk.yes (by (first | (simp only [List.getElem?_toArray, List.getElem?_cons_succ, List.getElem?_cons_zero]; rfl) | rfl)) rfl 0 rfl (e := 472) (by kernel_rfl) (by kernel_rfl) (fun ax wx hS hT' hd K' hK' => ?_)) ?_; rotate_left 1
  · have r52 := hS.at 52 (by decide) (hE.at 52 rfl); obtain ⟨hcT, hfT, hlT, hmT, hwT⟩ := bcell hT'; have hzT := hT'.size
    refine op_run (fun ρ hρ qc qf qg => ?_); have q52 := rho hρ r52; clear hρ; go_simp; (try go_bits); (try clear ρ);
    refine hK'.out _ _ _ rfl ?_ hT' (Below.refl _ _); rfl
  refine SeqOps.val ?_ (StepOk.yes (by (first | (simp only [List.getElem?_toArray, List.getElem?_cons_succ, List.getElem?_cons_zero]; rfl) | rfl)) rfl 1 rfl (e := 472) (by kernel_rfl) (by kernel_rfl) (fun ax wx hS hT' hd K' hK' => ?_)) ?_; rotate_left 1
  · obtain ⟨hcT, hfT, hlT, hmT, hwT⟩ := bcell hT'; have hzT := hT'.size
    refine op_run (fun ρ hρ qc qf qg => ?_); clear hρ; go_simp; (try go_bits); (try clear ρ);
    go_at_call 41; refine (to_any _ _ _).mono ?_; rintro e u1 ⟨rfl, g1⟩
    refine hK'.out _ _ _ rfl ?_ (hT'.trans (g1.mono hT'.size)) g1; rfl
  refine SeqOps.val ?_ (StepOk.yes (by (first | (simp only [List.getElem?_toArray, List.getElem?_cons_succ, List.getElem?_cons_zero]; rfl) | rfl)) rfl 2 rfl (e := 472) (by kernel_rfl) (by kernel_rfl) (fun ax wx hS hT' hd K' hK' => ?_)) ?_; rotate_left 1
  · have r473 := told_val hd 1 (k := 30) (e := 473) rfl (by kernel_rfl) (by kernel_rfl); have r474 := told_val hd 0 (k := 31) (e := 474) rfl (by kernel_rfl) (by kernel_rfl); obtain ⟨hcT, hfT, hlT, hmT, hwT⟩ := bcell hT'; have hzT := hT'.size
    refine op_run (fun ρ hρ qc qf qg => ?_); have q473 := rho hρ r473; have q474 := rho hρ r474; clear hρ; go_simp; (try go_bits); (try clear ρ);
    refine hK'.out _ _ _ rfl ?_ hT' (Below.refl _ _); rfl
  refine SeqOps.val ?_ (StepOk.plain (by (first | (simp only [List.getElem?_toArray, List.getElem?_cons_succ, List.getElem?_cons_zero]; rfl) | rfl)) rfl (fun ax wx hS hT' hd K' hK' => ?_)) ?_; rotate_left 1
  · have r472 := told_val hd 3 (k := 29) (e := 472) rfl (by kernel_rfl) (by kernel_rfl); have r475 := told_val hd 0 (k := 32) (e := 475) rfl (by kernel_rfl) (by kernel_rfl); obtain ⟨hcT, hfT, hlT, hmT, hwT⟩ := bcell hT'; have hzT := hT'.size
    refine op_run (fun ρ hρ qc qf qg => ?_); have q472 := rho hρ r472; have q475 := rho hρ r475; clear hρ; go_simp; (try go_bits); (try clear ρ);
    refine hK'.out _ _ _ rfl ?_ hT' (Below.refl _ _); rfl
  refine SeqOps.val ?_ (StepOk.plain (by (first | (simp only [List.getElem?_toArray, List.getElem?_cons_succ, List.getElem?_cons_zero]; rfl) | rfl)) rfl (fun ax wx hS hT' hd K' hK' => ?_)) ?_; rotate_left 1
  · have r476 := told_val hd 0 (k := 33) (e := 476) rfl (by kernel_rfl) (by kernel_rfl); obtain ⟨hcT, hfT, hlT, hmT, hwT⟩ := bcell hT'; have hzT := hT'.size
    refine op_run (fun ρ hρ qc qf qg => ?_); have q476 := rho hρ r476; clear hρ; go_simp; (try go_bits); (try clear ρ);
    refine hK'.out _ _ _ rfl ?_ hT' (Below.refl _ _); rfl
  refine SeqOps.val ?_ (StepOk.yes (by (first | (simp only [List.getElem?_toArray, List.getElem?_cons_succ, List.getElem?_cons_zero]; rfl) | rfl)) rfl 0 rfl (e := 477) (by kernel_rfl) (by kernel_rfl) (fun ax wx hS hT' hd K' hK' => ?_)) ?_; rotate_left 1
  · have r40 := hS.at 40 (by decide) (hE.at 40 rfl); obtain ⟨hcT, hfT, hlT, hmT, hwT⟩ := bcell hT'; have hzT := hT'.size
    refine op_run (fun ρ hρ qc qf qg => ?_); have q40 := rho hρ r40; clear hρ; go_simp; (try go_bits); (try clear ρ);
    refine hK'.out _ _ _ rfl ?_ hT' (Below.refl _ _); rfl
  refine SeqOps.val ?_ (StepOk.yes (by (first | (simp only [List.getElem?_toArray, List.getElem?_cons_succ, List.getElem?_cons_zero]; rfl) | rfl)) rfl 1 rfl (e := 477) (by kernel_rfl) (by kernel_rfl) (fun ax wx hS hT' hd K' hK' => ?_)) ?_; rotate_left 1
  · have r478 := told_val hd 0 (k := 35) (e := 478) rfl (by kernel_rfl) (by kernel_rfl); obtain ⟨hcT, hfT, hlT, hmT, hwT⟩ := bcell hT'; have hzT := hT'.size
    refine op_run (fun ρ hρ qc qf qg => ?_); have q478 := rho hρ r478; clear hρ; go_simp; (try go_bits); (try clear ρ);
    refine hK'.out _ _ _ rfl ?_ hT' (Below.refl _ _); rfl
  refine SeqOps.val ?_ (StepOk.plain (by (first | (simp only [List.getElem?_toArray, List.getElem?_cons_succ, List.getElem?_cons_zero]; rfl) | rfl)) rfl (fun ax wx hS hT' hd K' hK' => ?_)) ?_; rotate_left 1
  · have r477 := told_val hd 2 (k := 34) (e := 477) rfl (by kernel_rfl) (by kernel_rfl); have r479 := told_val hd 0 (k := 36) (e := 479) rfl (by kernel_rfl) (by kernel_rfl); obtain ⟨hcT, hfT, hlT, hmT, hwT⟩ := bcell hT'; have hzT := hT'.size
    refine op_run (fun ρ hρ qc qf qg => ?_); have q477 := rho hρ r477; have q479 := rho hρ r479; clear hρ; go_simp; (try go_bits); (try clear ρ);
    refine hK'.out _ _ _ rfl ?_ hT' (Below.refl _ _); rfl
  refine SeqOps.val ?_ (StepOk.plain (by (first | (simp only [List.getElem?_toArray, List.getElem?_cons_succ, List.getElem?_cons_zero]; rfl) | rfl)) rfl (fun ax wx hS hT' hd K' hK' => ?_)) ?_; rotate_left 1
  · have r480 := told_val hd 0 (k := 37) (e := 480) rfl (by kernel_rfl) (by kernel_rfl); obtain ⟨hcT, hfT, hlT, hmT, hwT⟩ := bcell hT'; have hzT := hT'.size
    refine op_run (fun ρ hρ qc qf qg => ?_); have q480 := rho hρ r480; clear hρ; go_simp; (try go_bits); (try clear ρ);
    refine hK'.out _ _ _ rfl ?_ hT' (Below.refl _ _); rfl
  refine SeqOps.val ?_ (StepOk.yes (by (first | (simp only [List.getElem?_toArray, List.getElem?_cons_succ, List.getElem?_cons_zero]; rfl) | rfl)) rfl 0 rfl (e := 481) (by kernel_rfl) (by kernel_rfl) (fun ax wx hS hT' hd K' hK' => ?_)) ?_; rotate_left 1
  · have r53 := hS.at 53 (by decide) (hE.at 53 rfl); obtain ⟨hcT, hfT, hlT, hmT, hwT⟩ := bcell hT'; have hzT := hT'.size
    refine op_run (fun ρ hρ qc qf qg => ?_); have q53 := rho hρ r53; clear hρ; go_simp; (try go_bits); (try clear ρ);
    refine hK'.out _ _ _ rfl ?_ hT' (Below.refl _ _); rfl
  refine SeqOps.val ?_ (StepOk.yes (by (first | (simp only [List.getElem?_toArray, List.getElem?_cons_succ, List.getElem?_cons_zero]; rfl) | rfl)) rfl 1 rfl (e := 481) (by kernel_rfl) (by kernel_rfl) (fun ax wx hS hT' hd K' hK' => ?_)) ?_; rotate_left 1
  · obtain ⟨hcT, hfT, hlT, hmT, hwT⟩ := bcell hT'; have hzT := hT'.size
    refine op_run (fun ρ hρ qc qf qg => ?_); clear hρ; go_simp; (try go_bits); (try clear ρ);
    go_at_call 41; refine (to_any _ _ _).mono ?_; rintro e u1 ⟨rfl, g1⟩
    refine hK'.out _ _ _ rfl ?_ (hT'.trans (g1.mono hT'.size)) g1; rfl
  refine SeqOps.val ?_ (StepOk.yes (by (first | (simp only [List.getElem?_toArray, List.getElem?_cons_succ, List.getElem?_cons_zero]; rfl) | rfl)) rfl 2 rfl (e := 481) (by kernel_rfl) (by kernel_rfl) (fun ax wx hS hT' hd K' hK' => ?_)) ?_; rotate_left 1
  · have r482 := told_val hd 1 (k := 39) (e := 482) rfl (by kernel_rfl) (by kernel_rfl); have r483 := told_val hd 0 (k := 40) (e := 483) rfl (by kernel_rfl) (by kernel_rfl); obtain ⟨hcT, hfT, hlT, hmT, hwT⟩ := bcell hT'; have hzT := hT'.size
    refine op_run (fun ρ hρ qc qf qg => ?_); have q482 := rho hρ r482; have q483 := rho hρ r483; clear hρ; go_simp; (try go_bits); (try clear ρ);
    refine hK'.out _ _ _ rfl ?_ hT' (Below.refl _ _); rfl
  refine SeqOps.val ?_ (StepOk.plain (by (first | (simp only [List.getElem?_toArray, List.getElem?_cons_succ, List.getElem?_cons_zero]; rfl) | rfl)) rfl (fun ax wx hS hT' hd K' hK' => ?_)) ?_; rotate_left 1
  · have r481 := told_val hd 3 (k := 38) (e := 481) rfl (by kernel_rfl) (by kernel_rfl); have r484 := told_val hd 0 (k := 41) (e := 484) rfl (by kernel_rfl) (by kernel_rfl); obtain ⟨hcT, hfT, hlT, hmT, hwT⟩ := bcell hT'; have hzT := hT'.size
    refine op_run (fun ρ hρ qc qf qg => ?_); have q481 := rho hρ r481; have q484 := rho hρ r484; clear hρ; go_simp; (try go_bits); (try clear ρ);
    refine hK'.out _ _ _ rfl ?_ hT' (Below.refl _ _); rfl
  refine SeqOps.val ?_ (StepOk.plain (by (first | (simp only [List.getElem?_toArray, List.getElem?_cons_succ, List.getElem?_cons_zero]; rfl) | rfl)) rfl (fun ax wx hS hT' hd K' hK' => ?_)) ?_; rotate_left 1
  · have r485 := told_val hd 0 (k := 42) (e := 485) rfl (by kernel_rfl) (by kernel_rfl); obtain ⟨hcT, hfT, hlT, hmT, hwT⟩ := bcell hT'; have hzT := hT'.size
    refine op_run (fun ρ hρ qc qf qg => ?_); have q485 := rho hρ r485; clear hρ; go_simp; (try go_bits); (try clear ρ);
    refine hK'.out _ _ _ rfl ?_ hT' (Below.refl _ _); rfl
  refine SeqOps.val ?_ (StepOk.yes (by (first | (simp only [List.getElem?_toArray, List.getElem?_cons_succ, List.getElem?_cons_zero]; rfl) | rfl)) rfl 0 rfl (e := 486) (by kernel_rfl) (by kernel_rfl) (fun ax wx hS hT' hd K' hK' => ?_)) ?_; rotate_left 1
  · have r42 := hS.at 42 (by decide) (hE.at 42 rfl); obtain ⟨hcT, hfT, hlT, hmT, hwT⟩ := bcell hT'; have hzT := hT'.size
    refine op_run (fun ρ hρ qc qf qg => ?_); have q42 := rho hρ r42; clear hρ; go_simp; (try go_bits); (try clear ρ);
    refine hK'.out _ _ _ rfl ?_ hT' (Below.refl _ _); rfl
  refine SeqOps.val ?_ (StepOk.yes (by (first | (simp only [List.getElem?_toArray, List.getElem?_cons_succ, List.getElem?_cons_zero]; rfl) | rfl)) rfl 1 rfl (e := 486) (by kernel_rfl) (by kernel_rfl) (fun ax wx hS hT' hd K' hK' => ?_)) ?_; rotate_left 1
  · have r487 := told_val hd 0 (k := 44) (e := 487) rfl (by kernel_rfl) (by kernel_rfl); obtain ⟨hcT, hfT, hlT, hmT, hwT⟩ := bcell hT'; have hzT := hT'.size
    refine op_run (fun ρ hρ qc qf qg => ?_); have q487 := rho hρ r487; clear hρ; go_simp; (try go_bits); (try clear ρ);
    refine hK'.out _ _ _ rfl ?_ hT' (Below.refl _ _); rfl
  refine SeqOps.val ?_ (StepOk.plain (by (first | (simp only [List.getElem?_toArray, List.getElem?_cons_succ, List.getElem?_cons_zero]; rfl) | rfl)) rfl (fun ax wx hS hT' hd K' hK' => ?_)) ?_; rotate_left 1
  · have r486 := told_val hd 2 (k := 43) (e := 486) rfl (by kernel_rfl) (by kernel_rfl); have r488 := told_val hd 0 (k := 45) (e := 488) rfl (by kernel_rfl) (by kernel_rfl); obtain ⟨hcT, hfT, hlT, hmT, hwT⟩ := bcell hT'; have hzT := hT'.size
    refine op_run (fun ρ hρ qc qf qg => ?_); have q486 := rho hρ r486; have q488 := rho hρ r488; clear hρ; go_simp; (try go_bits); (try clear ρ);
    refine hK'.out _ _ _ rfl ?_ hT' (Below.refl _ _); rfl
  refine SeqOps.val ?_ (StepOk.plain (by (first | (simp only [List.getElem?_toArray, List.getElem?_cons_succ, List.getElem?_cons_zero]; rfl) | rfl)) rfl (fun ax wx hS hT' hd K' hK' => ?_)) ?_; rotate_left 1
  · have r489 := told_val hd 0 (k := 46) (e := 489) rfl (by kernel_rfl) (by kernel_rfl); obtain ⟨hcT, hfT, hlT, hmT, hwT⟩ := bcell hT'; have hzT := hT'.size
    refine op_run (fun ρ hρ qc qf qg => ?_); have q489 := rho hρ r489; clear hρ; go_simp; (try go_bits); (try clear ρ);
    refine hK'.out _ _ _ rfl ?_ hT' (Below.refl _ _); rfl
  refine SeqOps.val ?_ (StepOk.yes (by (first | (simp only [List.getElem?_toArray, List.getElem?_cons_succ, List.getElem?_cons_zero]; rfl) | rfl)) rfl 0 rfl (e := 490) (by kernel_rfl) (by kernel_rfl) (fun ax wx hS hT' hd K' hK' => ?_)) ?_; rotate_left 1
  · have r54 := hS.at 54 (by decide) (hE.at 54 rfl); obtain ⟨hcT, hfT, hlT, hmT, hwT⟩ := bcell hT'; have hzT := hT'.size
    refine op_run (fun ρ hρ qc qf qg => ?_); have q54 := rho hρ r54; clear hρ; go_simp; (try go_bits); (try clear ρ);
    refine hK'.out _ _ _ rfl ?_ hT' (Below.refl _ _); rfl
  refine SeqOps.val ?_ (StepOk.yes (by (first | (simp only [List.getElem?_toArray, List.getElem?_cons_succ, List.getElem?_cons_zero]; rfl) | rfl)) rfl 1 rfl (e := 490) (by kernel_rfl) (by kernel_rfl) (fun ax wx hS hT' hd K' hK' => ?_)) ?_; rotate_left 1
  · have r491 := told_val hd 0 (k := 48) (e := 491) rfl (by kernel_rfl) (by kernel_rfl); obtain ⟨hcT, hfT, hlT, hmT, hwT⟩ := bcell hT'; have hzT := hT'.size
    refine op_run (fun ρ hρ qc qf qg => ?_); have q491 := rho hρ r491; clear hρ; go_simp; (try go_bits); (try clear ρ);
    refine hK'.out _ _ _ rfl ?_ hT' (Below.refl _ _); rfl
  refine SeqOps.val ?_ (StepOk.plain (by (first | (simp only [List.getElem?_toArray, List.getElem?_cons_succ, List.getElem?_cons_zero]; rfl) | rfl)) rfl (fun ax wx hS hT' hd K' hK' => ?_)) ?_; rotate_left 1
  · have r490 := told_val hd 2 (k := 47) (e := 490) rfl (by kernel_rfl) (by kernel_rfl); have r492 := told_val hd 0 (k := 49) (e := 492) rfl (by kernel_rfl) (by kernel_rfl); obtain ⟨hcT, hfT, hlT, hmT, hwT⟩ := bcell hT'; have hzT := hT'.size
    refine op_run (fun ρ hρ qc qf qg => ?_); have q490 := rho hρ r490; have q492 := rho hρ r492; clear hρ; go_simp; (try go_bits); (try clear ρ);
    refine hK'.out _ _ _ rfl ?_ hT' (Below.refl _ _); rfl
  refine SeqOps.val ?_ (StepOk.plain (by (first | (simp only [List.getElem?_toArray, List.getElem?_cons_succ, List.getElem?_cons_zero]; rfl) | rfl)) rfl (fun ax wx hS hT' hd K' hK' => ?_)) ?_; rotate_left 1
  · have r493 := told_val hd 0 (k := 50) (e := 493) rfl (by kernel_rfl) (by kernel_rfl); obtain ⟨hcT, hfT, hlT, hmT, hwT⟩ := bcell hT'; have hzT := hT'.size
    refine op_run (fun ρ hρ qc qf qg => ?_); have q493 := rho hρ r493; clear hρ; go_simp; (try go_bits); (try clear ρ);
    refine hK'.out _ _ _ rfl ?_ hT' (Below.refl _ _); rfl
  refine SeqOps.val ?_ (StepOk.yes (by (first | (simp only [List.getElem?_toArray, List.getElem?_cons_succ, List.getElem?_cons_zero]; rfl) | rfl)) rfl 0 rfl (e := 494) (by kernel_rfl) (by kernel_rfl) (fun ax wx hS hT' hd K' hK' => ?_)) ?_; rotate_left 1
  · have r44 := hS.at 44 (by decide) (hE.at 44 rfl); obtain ⟨hcT, hfT, hlT, hmT, hwT⟩ := bcell hT'; have hzT := hT'.size
    refine op_run (fun ρ hρ qc qf qg => ?_); have q44 := rho hρ r44; clear hρ; go_simp; (try go_bits); (try clear ρ);
    refine hK'.out _ _ _ rfl ?_ hT' (Below.refl _ _); rfl
  refine SeqOps.val ?_ (StepOk.yes (by (first | (simp only [List.getElem?_toArray, List.getElem?_cons_succ, List.getElem?_cons_zero]; rfl) | rfl)) rfl 1 rfl (e := 494) (by kernel_rfl) (by kernel_rfl) (fun ax wx hS hT' hd K' hK' => ?_)) ?_; rotate_left 1
  · have r495 := told_val hd 0 (k := 52) (e := 495) rfl (by kernel_rfl) (by kernel_rfl); obtain ⟨hcT, hfT, hlT, hmT, hwT⟩ := bcell hT'; have hzT := hT'.size
    refine op_run (fun ρ hρ qc qf qg => ?_); have q495 := rho hρ r495; clear hρ; go_simp; (try go_bits); (try clear ρ);
    refine hK'.out _ _ _ rfl ?_ hT' (Below.refl _ _); rfl
  refine SeqOps.val ?_ (StepOk.plain (by (first | (simp only [List.getElem?_toArray, List.getElem?_cons_succ, List.getElem?_cons_zero]; rfl) | rfl)) rfl (fun ax wx hS hT' hd K' hK' => ?_)) ?_; rotate_left 1
  · have r494 := told_val hd 2 (k := 51) (e := 494) rfl (by kernel_rfl) (by kernel_rfl); have r496 := told_val hd 0 (k := 53) (e := 496) rfl (by kernel_rfl) (by kernel_rfl); obtain ⟨hcT, hfT, hlT, hmT, hwT⟩ := bcell hT'; have hzT := hT'.size
    refine op_run (fun ρ hρ qc qf qg => ?_); have q494 := rho hρ r494; have q496 := rho hρ r496; clear hρ; go_simp; (try go_bits); (try clear ρ);
    refine hK'.out _ _ _ rfl ?_ hT' (Below.refl _ _); rfl
  refine SeqOps.val ?_ (StepOk.plain (by (first | (simp only [List.getElem?_toArray, List.getElem?_cons_succ, List.getElem?_cons_zero]; rfl) | rfl)) rfl (fun ax wx hS hT' hd K' hK' => ?_)) ?_; rotate_left 1
  · have r497 := told_val hd 0 (k := 54) (e := 497) rfl (by kernel_rfl) (by kernel_rfl); obtain ⟨hcT, hfT, hlT, hmT, hwT⟩ := bcell hT'; have hzT := hT'.size
    refine op_run (fun ρ hρ qc qf qg => ?_); have q497 := rho hρ r497; clear hρ; go_simp; (try go_bits); (try clear ρ);
    refine hK'.out _ _ _ rfl ?_ hT' (Below.refl _ _); rfl
  refine SeqOps.val ?_ (StepOk.yes (by (first | (simp only [List.getElem?_toArray, List.getElem?_cons_succ, List.getElem?_cons_zero]; rfl) | rfl)) rfl 0 rfl (e := 498) (by kernel_rfl) (by kernel_rfl) (fun ax wx hS hT' hd K' hK' => ?_)) ?_; rotate_left 1
  · have r55 := hS.at 55 (by decide) (hE.at 55 rfl); obtain ⟨hcT, hfT, hlT, hmT, hwT⟩ := bcell hT'; have hzT := hT'.size
    refine op_run (fun ρ hρ qc qf qg => ?_); have q55 := rho hρ r55; clear hρ; go_simp; (try go_bits); (try clear ρ);
    refine hK'.out _ _ _ rfl ?_ hT' (Below.refl _ _); rfl
  refine SeqOps.val ?_ (StepOk.yes (by (first | (simp only [List.getElem?_toArray, List.getElem?_cons_succ, List.getElem?_cons_zero]; rfl) | rfl)) rfl 1 rfl (e := 498) (by kernel_rfl) (by kernel_rfl) (fun ax wx hS hT' hd K' hK' => ?_)) ?_; rotate_left 1
  · have r499 := told_val hd 0 (k := 56) (e := 499) rfl (by kernel_rfl) (by kernel_rfl); obtain ⟨hcT, hfT, hlT, hmT, hwT⟩ := bcell hT'; have hzT := hT'.size
    refine op_run (fun ρ hρ qc qf qg => ?_); have q499 := rho hρ r499; clear hρ; go_simp; (try go_bits); (try clear ρ);
    refine hK'.out _ _ _ rfl ?_ hT' (Below.refl _ _); rfl
  refine SeqOps.val ?_ (StepOk.plain (by (first | (simp only [List.getElem?_toArray, List.getElem?_cons_succ, List.getElem?_cons_zero]; rfl) | rfl)) rfl (fun ax wx hS hT' hd K' hK' => ?_)) ?_; rotate_left 1
  · have r498 := told_val hd 2 (k := 55) (e := 498) rfl (by kernel_rfl) (by kernel_rfl); have r500 := told_val hd 0 (k := 57) (e := 500) rfl (by kernel_rfl) (by kernel_rfl); obtain ⟨hcT, hfT, hlT, hmT, hwT⟩ := bcell hT'; have hzT := hT'.size
    refine op_run (fun ρ hρ qc qf qg => ?_); have q498 := rho hρ r498; have q500 := rho hρ r500; clear hρ; go_simp; (try go_bits); (try clear ρ);
    refine hK'.out _ _ _ rfl ?_ hT' (Below.refl _ _); rfl
  refine SeqOps.val ?_ (StepOk.plain (by (first | (simp only [List.getElem?_toArray, List.getElem?_cons_succ, List.getElem?_cons_zero]; rfl) | rfl)) rfl (fun ax wx hS hT' hd K' hK' => ?_)) ?_; rotate_left 1
  · have r501 := told_val hd 0 (k := 58) (e := 501) rfl (by kernel_rfl) (by kernel_rfl); obtain ⟨hcT, hfT, hlT, hmT, hwT⟩ := bcell hT'; have hzT := hT'.size
    refine op_run (fun ρ hρ qc qf qg => ?_); have q501 := rho hρ r501; clear hρ; go_simp; (try go_bits); (try clear ρ);
    refine hK'.out _ _ _ rfl ?_ hT' (Below.refl _ _); rfl
  refine SeqOps.val ?_ (StepOk.yes (by (first | (simp only [List.getElem?_toArray, List.getElem?_cons_succ, List.getElem?_cons_zero]; rfl) | rfl)) rfl 0 rfl (e := 502) (by kernel_rfl) (by kernel_rfl) (fun ax wx hS hT' hd K' hK' => ?_)) ?_; rotate_left 1
  · have r46 := hS.at 46 (by decide) (hE.at 46 rfl); obtain ⟨hcT, hfT, hlT, hmT, hwT⟩ := bcell hT'; have hzT := hT'.size
    refine op_run (fun ρ hρ qc qf qg => ?_); have q46 := rho hρ r46; clear hρ; go_simp; (try go_bits); (try clear ρ);
    refine hK'.out _ _ _ rfl ?_ hT' (Below.refl _ _); rfl
  refine SeqOps.val ?_ (StepOk.yes (by (first | (simp only [List.getElem?_toArray, List.getElem?_cons_succ, List.getElem?_cons_zero]; rfl) | rfl)) rfl 1 rfl (e := 502) (by kernel_rfl) (by kernel_rfl) (fun ax wx hS hT' hd K' hK' => ?_)) ?_; rotate_left 1
  · have r503 := told_val hd 0 (k := 60) (e := 503) rfl (by kernel_rfl) (by kernel_rfl); obtain ⟨hcT, hfT, hlT, hmT, hwT⟩ := bcell hT'; have hzT := hT'.size
    refine op_run (fun ρ hρ qc qf qg => ?_); have q503 := rho hρ r503; clear hρ; go_simp; (try go_bits); (try clear ρ);
    refine hK'.out _ _ _ rfl ?_ hT' (Below.refl _ _); rfl
  refine SeqOps.val ?_ (StepOk.plain (by (first | (simp only [List.getElem?_toArray, List.getElem?_cons_succ, List.getElem?_cons_zero]; rfl) | rfl)) rfl (fun ax wx hS hT' hd K' hK' => ?_)) ?_; rotate_left 1
  · have r502 := told_val hd 2 (k := 59) (e := 502) rfl (by kernel_rfl) (by kernel_rfl); have r504 := told_val hd 0 (k := 61) (e := 504) rfl (by kernel_rfl) (by kernel_rfl); obtain ⟨hcT, hfT, hlT, hmT, hwT⟩ := bcell hT'; have hzT := hT'.size
    refine op_run (fun ρ hρ qc qf qg => ?_); have q502 := rho hρ r502; have q504 := rho hρ r504; clear hρ; go_simp; (try go_bits); (try clear ρ);
    refine hK'.out _ _ _ rfl ?_ hT' (Below.refl _ _); rfl
  refine SeqOps.val ?_ (StepOk.plain (by (first | (simp only [List.getElem?_toArray, List.getElem?_cons_succ, List.getElem?_cons_zero]; rfl) | rfl)) rfl (fun ax wx hS hT' hd K' hK' => ?_)) ?_; rotate_left 1
  · have r505 := told_val hd 0 (k := 62) (e := 505) rfl (by kernel_rfl) (by kernel_rfl); obtain ⟨hcT, hfT, hlT, hmT, hwT⟩ := bcell hT'; have hzT := hT'.size
    refine op_run (fun ρ hρ qc qf qg => ?_); have q505 := rho hρ r505; clear hρ; go_simp; (try go_bits); (try clear ρ);
    refine hK'.out _ _ _ rfl ?_ hT' (Below.refl _ _); rfl
  refine SeqOps.val ?_ (StepOk.yes (by (first | (simp only [List.getElem?_toArray, List.getElem?_cons_succ, List.getElem?_cons_zero]; rfl) | rfl)) rfl 0 rfl (e := 506) (by kernel_rfl) (by kernel_rfl) (fun ax wx hS hT' hd K' hK' => ?_)) ?_; rotate_left 1
  · have r56 := hS.at 56 (by decide) (hE.at 56 rfl); obtain ⟨hcT, hfT, hlT, hmT, hwT⟩ := bcell hT'; have hzT := hT'.size
    refine op_run (fun ρ hρ qc qf qg => ?_); have q56 := rho hρ r56; clear hρ; go_simp; (try go_bits); (try clear ρ);
    refine hK'.out _ _ _ rfl ?_ hT' (Below.refl _ _); rfl
  refine SeqOps.val ?_ (StepOk.yes (by (first | (simp only [List.getElem?_toArray, List.getElem?_cons_succ, List.getElem?_cons_zero]; rfl) | rfl)) rfl 1 rfl (e := 506) (by kernel_rfl) (by kernel_rfl) (fun ax wx hS hT' hd K' hK' => ?_)) ?_; rotate_left 1
  · have r507 := told_val hd 0 (k := 64) (e := 507) rfl (by kernel_rfl) (by kernel_rfl); obtain ⟨hcT, hfT, hlT, hmT, hwT⟩ := bcell hT'; have hzT := hT'.size
    refine op_run (fun ρ hρ qc qf qg => ?_); have q507 := rho hρ r507; clear hρ; go_simp; (try go_bits); (try simp (disch := omega) only [IntWalk.i64_in]); (try clear ρ);
    refine hK'.out _ _ _ rfl ?_ hT' (Below.refl _ _); rfl
  refine SeqOps.val ?_ (StepOk.plain (by (first | (simp only [List.getElem?_toArray, List.getElem?_cons_succ, List.getElem?_cons_zero]; rfl) | rfl)) rfl (fun ax wx hS hT' hd K' hK' => ?_)) ?_; rotate_left 1
  · have r506 := told_val hd 2 (k := 63) (e := 506) rfl (by kernel_rfl) (by kernel_rfl); have r508 := told_val hd 0 (k := 65) (e := 508) rfl (by kernel_rfl) (by kernel_rfl); obtain ⟨hcT, hfT, hlT, hmT, hwT⟩ := bcell hT'; have hzT := hT'.size
    refine op_run (fun ρ hρ qc qf qg => ?_); have q506 := rho hρ r506; have q508 := rho hρ r508; clear hρ; go_simp; (try go_bits); (try clear ρ);
    refine hK'.out _ _ _ rfl ?_ hT' (Below.refl _ _); rfl
  refine SeqOps.val ?_ (StepOk.plain (by (first | (simp only [List.getElem?_toArray, List.getElem?_cons_succ, List.getElem?_cons_zero]; rfl) | rfl)) rfl (fun ax wx hS hT' hd K' hK' => ?_)) ?_; rotate_left 1
  · have r509 := told_val hd 0 (k := 66) (e := 509) rfl (by kernel_rfl) (by kernel_rfl); obtain ⟨hcT, hfT, hlT, hmT, hwT⟩ := bcell hT'; have hzT := hT'.size
    refine op_run (fun ρ hρ qc qf qg => ?_); have q509 := rho hρ r509; clear hρ; go_simp; (try go_bits); (try clear ρ);
    refine hK'.out _ _ _ rfl ?_ hT' (Below.refl _ _); rfl
  refine SeqOps.val ?_ (StepOk.yes (by (first | (simp only [List.getElem?_toArray, List.getElem?_cons_succ, List.getElem?_cons_zero]; rfl) | rfl)) rfl 0 rfl (e := 510) (by kernel_rfl) (by kernel_rfl) (fun ax wx hS hT' hd K' hK' => ?_)) ?_; rotate_left 1
  · have r48 := hS.at 48 (by decide) (hE.at 48 rfl); obtain ⟨hcT, hfT, hlT, hmT, hwT⟩ := bcell hT'; have hzT := hT'.size
    refine op_run (fun ρ hρ qc qf qg => ?_); have q48 := rho hρ r48; clear hρ; go_simp; (try go_bits); (try clear ρ);
    refine hK'.out _ _ _ rfl ?_ hT' (Below.refl _ _); rfl
  refine SeqOps.val ?_ (StepOk.yes (by (first | (simp only [List.getElem?_toArray, List.getElem?_cons_succ, List.getElem?_cons_zero]; rfl) | rfl)) rfl 1 rfl (e := 510) (by kernel_rfl) (by kernel_rfl) (fun ax wx hS hT' hd K' hK' => ?_)) ?_; rotate_left 1
  · have r511 := told_val hd 0 (k := 68) (e := 511) rfl (by kernel_rfl) (by kernel_rfl); obtain ⟨hcT, hfT, hlT, hmT, hwT⟩ := bcell hT'; have hzT := hT'.size
    refine op_run (fun ρ hρ qc qf qg => ?_); have q511 := rho hρ r511; clear hρ; go_simp; (try go_bits); (try clear ρ);
    refine hK'.out _ _ _ rfl ?_ hT' (Below.refl _ _); rfl
  refine SeqOps.val ?_ (StepOk.plain (by (first | (simp only [List.getElem?_toArray, List.getElem?_cons_succ, List.getElem?_cons_zero]; rfl) | rfl)) rfl (fun ax wx hS hT' hd K' hK' => ?_)) ?_; rotate_left 1
  · have r510 := told_val hd 2 (k := 67) (e := 510) rfl (by kernel_rfl) (by kernel_rfl); have r512 := told_val hd 0 (k := 69) (e := 512) rfl (by kernel_rfl) (by kernel_rfl); obtain ⟨hcT, hfT, hlT, hmT, hwT⟩ := bcell hT'; have hzT := hT'.size
    refine op_run (fun ρ hρ qc qf qg => ?_); have q510 := rho hρ r510; have q512 := rho hρ r512; clear hρ; go_simp; (try go_bits); (try clear ρ);
    refine hK'.out _ _ _ rfl ?_ hT' (Below.refl _ _); rfl
  refine SeqOps.val ?_ (StepOk.plain (by (first | (simp only [List.getElem?_toArray, List.getElem?_cons_succ, List.getElem?_cons_zero]; rfl) | rfl)) rfl (fun ax wx hS hT' hd K' hK' => ?_)) ?_; rotate_left 1
  · have r513 := told_val hd 0 (k := 70) (e := 513) rfl (by kernel_rfl) (by kernel_rfl); obtain ⟨hcT, hfT, hlT, hmT, hwT⟩ := bcell hT'; have hzT := hT'.size
    refine op_run (fun ρ hρ qc qf qg => ?_); have q513 := rho hρ r513; clear hρ; go_simp; (try go_bits); (try clear ρ);
    refine hK'.out _ _ _ rfl ?_ hT' (Below.refl _ _); rfl
  refine SeqOps.val ?_ (StepOk.yes (by (first | (simp only [List.getElem?_toArray, List.getElem?_cons_succ, List.getElem?_cons_zero]; rfl) | rfl)) rfl 0 rfl (e := 514) (by kernel_rfl) (by kernel_rfl) (fun ax wx hS hT' hd K' hK' => ?_)) ?_; rotate_left 1
  · have r57 := hS.at 57 (by decide) (hE.at 57 rfl); obtain ⟨hcT, hfT, hlT, hmT, hwT⟩ := bcell hT'; have hzT := hT'.size
    refine op_run (fun ρ hρ qc qf qg => ?_); have q57 := rho hρ r57; clear hρ; go_simp; (try go_bits); (try clear ρ);
    refine hK'.out _ _ _ rfl ?_ hT' (Below.refl _ _); rfl
  refine SeqOps.val ?_ (StepOk.yes (by (first | (simp only [List.getElem?_toArray, List.getElem?_cons_succ, List.getElem?_cons_zero]; rfl) | rfl)) rfl 1 rfl (e := 514) (by kernel_rfl) (by kernel_rfl) (fun ax wx hS hT' hd K' hK' => ?_)) ?_; rotate_left 1
  · have r515 := told_val hd 0 (k := 72) (e := 515) rfl (by kernel_rfl) (by kernel_rfl); obtain ⟨hcT, hfT, hlT, hmT, hwT⟩ := bcell hT'; have hzT := hT'.size
    refine op_run (fun ρ hρ qc qf qg => ?_); have q515 := rho hρ r515; clear hρ; go_simp; (try go_bits); (try clear ρ);
    refine hK'.out _ _ _ rfl ?_ hT' (Below.refl _ _); rfl
  refine SeqOps.val ?_ (StepOk.yes (by (first | (simp only [List.getElem?_toArray, List.getElem?_cons_succ, List.getElem?_cons_zero]; rfl) | rfl)) rfl 2 rfl (e := 514) (by kernel_rfl) (by kernel_rfl) (fun ax wx hS hT' hd K' hK' => ?_)) ?_; rotate_left 1
  · have r516 := told_val hd 0 (k := 73) (e := 516) rfl (by kernel_rfl) (by kernel_rfl); obtain ⟨hcT, hfT, hlT, hmT, hwT⟩ := bcell hT'; have hzT := hT'.size
    refine op_run (fun ρ hρ qc qf qg => ?_); have q516 := rho hρ r516; clear hρ; go_simp; (try go_bits); (try clear ρ);
    refine hK'.out _ _ _ rfl ?_ hT' (Below.refl _ _); rfl
  refine SeqOps.val ?_ (StepOk.plain (by (first | (simp only [List.getElem?_toArray, List.getElem?_cons_succ, List.getElem?_cons_zero]; rfl) | rfl)) rfl (fun ax wx hS hT' hd K' hK' => ?_)) ?_; rotate_left 1
  · have r514 := told_val hd 3 (k := 71) (e := 514) rfl (by kernel_rfl) (by kernel_rfl); have r517 := told_val hd 0 (k := 74) (e := 517) rfl (by kernel_rfl) (by kernel_rfl); obtain ⟨hcT, hfT, hlT, hmT, hwT⟩ := bcell hT'; have hzT := hT'.size
    refine op_run (fun ρ hρ qc qf qg => ?_); have q514 := rho hρ r514; have q517 := rho hρ r517; clear hρ; go_simp; (try go_bits); (try clear ρ);
    refine hK'.out _ _ _ rfl ?_ hT' (Below.refl _ _); rfl
  refine SeqOps.val ?_ (StepOk.plain (by (first | (simp only [List.getElem?_toArray, List.getElem?_cons_succ, List.getElem?_cons_zero]; rfl) | rfl)) rfl (fun ax wx hS hT' hd K' hK' => ?_)) ?_; rotate_left 1
  · have r518 := told_val hd 0 (k := 75) (e := 518) rfl (by kernel_rfl) (by kernel_rfl); obtain ⟨hcT, hfT, hlT, hmT, hwT⟩ := bcell hT'; have hzT := hT'.size
    refine op_run (fun ρ hρ qc qf qg => ?_); have q518 := rho hρ r518; clear hρ; go_simp; (try go_bits); (try clear ρ);
    refine hK'.out _ _ _ rfl ?_ hT' (Below.refl _ _); rfl
  refine SeqOps.val ?_ (StepOk.yes (by (first | (simp only [List.getElem?_toArray, List.getElem?_cons_succ, List.getElem?_cons_zero]; rfl) | rfl)) rfl 0 rfl (e := 519) (by kernel_rfl) (by kernel_rfl) (fun ax wx hS hT' hd K' hK' => ?_)) ?_; rotate_left 1
  · have r59 := hS.at 59 (by decide) (hE.at 59 rfl); obtain ⟨hcT, hfT, hlT, hmT, hwT⟩ := bcell hT'; have hzT := hT'.size
    refine op_run (fun ρ hρ qc qf qg => ?_); have q59 := rho hρ r59; clear hρ; go_simp; (try go_bits); (try clear ρ);
    refine hK'.out _ _ _ rfl ?_ hT' (Below.refl _ _); rfl
  refine SeqOps.val ?_ (StepOk.yes (by (first | (simp only [List.getElem?_toArray, List.getElem?_cons_succ, List.getElem?_cons_zero]; rfl) | rfl)) rfl 1 rfl (e := 519) (by kernel_rfl) (by kernel_rfl) (fun ax wx hS hT' hd K' hK' => ?_)) ?_; rotate_left 1
  · have r520 := told_val hd 0 (k := 77) (e := 520) rfl (by kernel_rfl) (by kernel_rfl); obtain ⟨hcT, hfT, hlT, hmT, hwT⟩ := bcell hT'; have hzT := hT'.size
    refine op_run (fun ρ hρ qc qf qg => ?_); have q520 := rho hρ r520; clear hρ; go_simp; (try go_bits); (try clear ρ);
    refine hK'.out _ _ _ rfl ?_ hT' (Below.refl _ _); rfl
  refine SeqOps.val ?_ (StepOk.plain (by (first | (simp only [List.getElem?_toArray, List.getElem?_cons_succ, List.getElem?_cons_zero]; rfl) | rfl)) rfl (fun ax wx hS hT' hd K' hK' => ?_)) ?_; rotate_left 1
  · have r519 := told_val hd 2 (k := 76) (e := 519) rfl (by kernel_rfl) (by kernel_rfl); have r521 := told_val hd 0 (k := 78) (e := 521) rfl (by kernel_rfl) (by kernel_rfl); obtain ⟨hcT, hfT, hlT, hmT, hwT⟩ := bcell hT'; have hzT := hT'.size
    refine op_run (fun ρ hρ qc qf qg => ?_); have q519 := rho hρ r519; have q521 := rho hρ r521; clear hρ; go_simp; (try go_bits); (try clear ρ);
    refine hK'.out _ _ _ rfl ?_ hT' (Below.refl _ _); rfl
  refine SeqOps.val ?_ (StepOk.plain (by (first | (simp only [List.getElem?_toArray, List.getElem?_cons_succ, List.getElem?_cons_zero]; rfl) | rfl)) rfl (fun ax wx hS hT' hd K' hK' => ?_)) ?_; rotate_left 1
  · have r522 := told_val hd 0 (k := 79) (e := 522) rfl (by kernel_rfl) (by kernel_rfl); obtain ⟨hcT, hfT, hlT, hmT, hwT⟩ := bcell hT'; have hzT := hT'.size
    refine op_run (fun ρ hρ qc qf qg => ?_); have q522 := rho hρ r522; clear hρ; go_simp; (try go_bits); (try clear ρ);
    refine hK'.out _ _ _ rfl ?_ hT' (Below.refl _ _); rfl
  refine SeqOps.val ?_ (StepOk.yes (by (first | (simp only [List.getElem?_toArray, List.getElem?_cons_succ, List.getElem?_cons_zero]; rfl) | rfl)) rfl 0 rfl (e := 523) (by kernel_rfl) (by kernel_rfl) (fun ax wx hS hT' hd K' hK' => ?_)) ?_; rotate_left 1
  · have r58 := hS.at 58 (by decide) (hE.at 58 rfl); obtain ⟨hcT, hfT, hlT, hmT, hwT⟩ := bcell hT'; have hzT := hT'.size
    refine op_run (fun ρ hρ qc qf qg => ?_); have q58 := rho hρ r58; clear hρ; go_simp; (try go_bits); (try clear ρ);
    refine hK'.out _ _ _ rfl ?_ hT' (Below.refl _ _); rfl
  refine SeqOps.val ?_ (StepOk.yes (by (first | (simp only [List.getElem?_toArray, List.getElem?_cons_succ, List.getElem?_cons_zero]; rfl) | rfl)) rfl 1 rfl (e := 523) (by kernel_rfl) (by kernel_rfl) (fun ax wx hS hT' hd K' hK' => ?_)) ?_; rotate_left 1
  · have r524 := told_val hd 0 (k := 81) (e := 524) rfl (by kernel_rfl) (by kernel_rfl); obtain ⟨hcT, hfT, hlT, hmT, hwT⟩ := bcell hT'; have hzT := hT'.size
    refine op_run (fun ρ hρ qc qf qg => ?_); have q524 := rho hρ r524; clear hρ; go_simp; (try go_bits); (try clear ρ);
    refine hK'.out _ _ _ rfl ?_ hT' (Below.refl _ _); rfl
  refine SeqOps.val ?_ (StepOk.yes (by (first | (simp only [List.getElem?_toArray, List.getElem?_cons_succ, List.getElem?_cons_zero]; rfl) | rfl)) rfl 2 rfl (e := 523) (by kernel_rfl) (by kernel_rfl) (fun ax wx hS hT' hd K' hK' => ?_)) ?_; rotate_left 1
  · have r525 := told_val hd 0 (k := 82) (e := 525) rfl (by kernel_rfl) (by kernel_rfl); obtain ⟨hcT, hfT, hlT, hmT, hwT⟩ := bcell hT'; have hzT := hT'.size
    refine op_run (fun ρ hρ qc qf qg => ?_); have q525 := rho hρ r525; clear hρ; go_simp; (try go_bits); (try clear ρ);
    refine hK'.out _ _ _ rfl ?_ hT' (Below.refl _ _); rfl
  refine SeqOps.val ?_ (StepOk.plain (by (first | (simp only [List.getElem?_toArray, List.getElem?_cons_succ, List.getElem?_cons_zero]; rfl) | rfl)) rfl (fun ax wx hS hT' hd K' hK' => ?_)) ?_; rotate_left 1
  · have r523 := told_val hd 3 (k := 80) (e := 523) rfl (by kernel_rfl) (by kernel_rfl); have r526 := told_val hd 0 (k := 83) (e := 526) rfl (by kernel_rfl) (by kernel_rfl); obtain ⟨hcT, hfT, hlT, hmT, hwT⟩ := bcell hT'; have hzT := hT'.size
    refine op_run (fun ρ hρ qc qf qg => ?_); have q523 := rho hρ r523; have q526 := rho hρ r526; clear hρ; go_simp; (try go_bits); (try clear ρ);
    refine hK'.out _ _ _ rfl ?_ hT' (Below.refl _ _); rfl
  refine SeqOps.val ?_ (StepOk.plain (by (first | (simp only [List.getElem?_toArray, List.getElem?_cons_succ, List.getElem?_cons_zero]; rfl) | rfl)) rfl (fun ax wx hS hT' hd K' hK' => ?_)) ?_; rotate_left 1
  · have r527 := told_val hd 0 (k := 84) (e := 527) rfl (by kernel_rfl) (by kernel_rfl); obtain ⟨hcT, hfT, hlT, hmT, hwT⟩ := bcell hT'; have hzT := hT'.size
    refine op_run (fun ρ hρ qc qf qg => ?_); have q527 := rho hρ r527; clear hρ; go_simp; (try go_bits); (try clear ρ);
    refine hK'.out _ _ _ rfl ?_ hT' (Below.refl _ _); rfl
  refine SeqOps.val ?_ (StepOk.yes (by (first | (simp only [List.getElem?_toArray, List.getElem?_cons_succ, List.getElem?_cons_zero]; rfl) | rfl)) rfl 0 rfl (e := 528) (by kernel_rfl) (by kernel_rfl) (fun ax wx hS hT' hd K' hK' => ?_)) ?_; rotate_left 1
  · have r61 := hS.at 61 (by decide) (hE.at 61 rfl); obtain ⟨hcT, hfT, hlT, hmT, hwT⟩ := bcell hT'; have hzT := hT'.size
    refine op_run (fun ρ hρ qc qf qg => ?_); have q61 := rho hρ r61; clear hρ; go_simp; (try go_bits); (try clear ρ);
    refine hK'.out _ _ _ rfl ?_ hT' (Below.refl _ _); rfl
  refine SeqOps.val ?_ (StepOk.yes (by (first | (simp only [List.getElem?_toArray, List.getElem?_cons_succ, List.getElem?_cons_zero]; rfl) | rfl)) rfl 1 rfl (e := 528) (by kernel_rfl) (by kernel_rfl) (fun ax wx hS hT' hd K' hK' => ?_)) ?_; rotate_left 1
  · have r529 := told_val hd 0 (k := 86) (e := 529) rfl (by kernel_rfl) (by kernel_rfl); obtain ⟨hcT, hfT, hlT, hmT, hwT⟩ := bcell hT'; have hzT := hT'.size
    refine op_run (fun ρ hρ qc qf qg => ?_); have q529 := rho hρ r529; clear hρ; go_simp; (try go_bits); (try clear ρ);
    refine hK'.out _ _ _ rfl ?_ hT' (Below.refl _ _); rfl
  refine SeqOps.val ?_ (StepOk.plain (by (first | (simp only [List.getElem?_toArray, List.getElem?_cons_succ, List.getElem?_cons_zero]; rfl) | rfl)) rfl (fun ax wx hS hT' hd K' hK' => ?_)) ?_; rotate_left 1
  · have r528 := told_val hd 2 (k := 85) (e := 528) rfl (by kernel_rfl) (by kernel_rfl); have r530 := told_val hd 0 (k := 87) (e := 530) rfl (by kernel_rfl) (by kernel_rfl); obtain ⟨hcT, hfT, hlT, hmT, hwT⟩ := bcell hT'; have hzT := hT'.size
    refine op_run (fun ρ hρ qc qf qg => ?_); have q528 := rho hρ r528; have q530 := rho hρ r530; clear hρ; go_simp; (try go_bits); (try clear ρ);
    refine hK'.out _ _ _ rfl ?_ hT' (Below.refl _ _); rfl
  refine SeqOps.val ?_ (StepOk.plain (by (first | (simp only [List.getElem?_toArray, List.getElem?_cons_succ, List.getElem?_cons_zero]; rfl) | rfl)) rfl (fun ax wx hS hT' hd K' hK' => ?_)) ?_; rotate_left 1
  · have r531 := told_val hd 0 (k := 88) (e := 531) rfl (by kernel_rfl) (by kernel_rfl); obtain ⟨hcT, hfT, hlT, hmT, hwT⟩ := bcell hT'; have hzT := hT'.size
    refine op_run (fun ρ hρ qc qf qg => ?_); have q531 := rho hρ r531; clear hρ; go_simp; (try go_bits); (try clear ρ);
    refine hK'.out _ _ _ rfl ?_ hT' (Below.refl _ _); rfl
  refine SeqOps.val ?_ (StepOk.yes (by (first | (simp only [List.getElem?_toArray, List.getElem?_cons_succ, List.getElem?_cons_zero]; rfl) | rfl)) rfl 0 rfl (e := 532) (by kernel_rfl) (by kernel_rfl) (fun ax wx hS hT' hd K' hK' => ?_)) ?_; rotate_left 1
  · have r60 := hS.at 60 (by decide) (hE.at 60 rfl); obtain ⟨hcT, hfT, hlT, hmT, hwT⟩ := bcell hT'; have hzT := hT'.size
    refine op_run (fun ρ hρ qc qf qg => ?_); have q60 := rho hρ r60; clear hρ; go_simp; (try go_bits); (try clear ρ);
    refine hK'.out _ _ _ rfl ?_ hT' (Below.refl _ _); rfl
  refine SeqOps.val ?_ (StepOk.yes (by (first | (simp only [List.getElem?_toArray, List.getElem?_cons_succ, List.getElem?_cons_zero]; rfl) | rfl)) rfl 1 rfl (e := 532) (by kernel_rfl) (by kernel_rfl) (fun ax wx hS hT' hd K' hK' => ?_)) ?_; rotate_left 1
  · obtain ⟨hcT, hfT, hlT, hmT, hwT⟩ := bcell hT'; have hzT := hT'.size
    refine op_run (fun ρ hρ qc qf qg => ?_); clear hρ; go_simp; (try go_bits); (try clear ρ);
    go_at_call 41; refine (to_any _ _ _).mono ?_; rintro e u1 ⟨rfl, g1⟩
    refine hK'.out _ _ _ rfl ?_ (hT'.trans (g1.mono hT'.size)) g1; rfl
  refine SeqOps.val ?_ (StepOk.yes (by (first | (simp only [List.getElem?_toArray, List.getElem?_cons_succ, List.getElem?_cons_zero]; rfl) | rfl)) rfl 2 rfl (e := 532) (by kernel_rfl) (by kernel_rfl) (fun ax wx hS hT' hd K' hK' => ?_)) ?_; rotate_left 1
  · have r533 := told_val hd 1 (k := 90) (e := 533) rfl (by kernel_rfl) (by kernel_rfl); have r534 := told_val hd 0 (k := 91) (e := 534) rfl (by kernel_rfl) (by kernel_rfl); obtain ⟨hcT, hfT, hlT, hmT, hwT⟩ := bcell hT'; have hzT := hT'.size
    refine op_run (fun ρ hρ qc qf qg => ?_); have q533 := rho hρ r533; have q534 := rho hρ r534; clear hρ; go_simp; (try go_bits); (try clear ρ);
    refine hK'.out _ _ _ rfl ?_ hT' (Below.refl _ _); rfl
  refine SeqOps.val ?_ (StepOk.plain (by (first | (simp only [List.getElem?_toArray, List.getElem?_cons_succ, List.getElem?_cons_zero]; rfl) | rfl)) rfl (fun ax wx hS hT' hd K' hK' => ?_)) ?_; rotate_left 1
  · have r532 := told_val hd 3 (k := 89) (e := 532) rfl (by kernel_rfl) (by kernel_rfl); have r535 := told_val hd 0 (k := 92) (e := 535) rfl (by kernel_rfl) (by kernel_rfl); obtain ⟨hcT, hfT, hlT, hmT, hwT⟩ := bcell hT'; have hzT := hT'.size
    refine op_run (fun ρ hρ qc qf qg => ?_); have q532 := rho hρ r532; have q535 := rho hρ r535; clear hρ; go_simp; (try go_bits); (try clear ρ);
    refine hK'.out _ _ _ rfl ?_ hT' (Below.refl _ _); rfl
  refine SeqOps.val ?_ (StepOk.plain (by (first | (simp only [List.getElem?_toArray, List.getElem?_cons_succ, List.getElem?_cons_zero]; rfl) | rfl)) rfl (fun ax wx hS hT' hd K' hK' => ?_)) ?_; rotate_left 1
  · have r536 := told_val hd 0 (k := 93) (e := 536) rfl (by kernel_rfl) (by kernel_rfl); obtain ⟨hcT, hfT, hlT, hmT, hwT⟩ := bcell hT'; have hzT := hT'.size
    refine op_run (fun ρ hρ qc qf qg => ?_); have q536 := rho hρ r536; clear hρ; go_simp; (try go_bits); (try clear ρ);
    refine hK'.out _ _ _ rfl ?_ hT' (Below.refl _ _); rfl
  refine SeqOps.val ?_ (StepOk.plain (by (first | (simp only [List.getElem?_toArray, List.getElem?_cons_succ, List.getElem?_cons_zero]; rfl) | rfl)) rfl (fun ax wx hS hT' hd K' hK' => ?_)) ?_; rotate_left 1
  · have r537 := told_val hd 0 (k := 94) (e := 537) rfl (by kernel_rfl) (by kernel_rfl); obtain ⟨hcT, hfT, hlT, hmT, hwT⟩ := bcell hT'; have hzT := hT'.size
    refine op_run (fun ρ hρ qc qf qg => ?_); have q537 := rho hρ r537; clear hρ; go_simp; (try go_bits); (try clear ρ);
    refine hK'.out _ _ _ rfl ?_ hT' (Below.refl _ _); rfl
  refine SeqOps.val ?_ (StepOk.plain (by (first | (simp only [List.getElem?_toArray, List.getElem?_cons_succ, List.getElem?_cons_zero]; rfl) | rfl)) rfl (fun ax wx hS hT' hd K' hK' => ?_)) ?_; rotate_left 1
  · have r538 := told_val hd 0 (k := 95) (e := 538) rfl (by kernel_rfl) (by kernel_rfl); obtain ⟨hcT, hfT, hlT, hmT, hwT⟩ := bcell hT'; have hzT := hT'.size
    refine op_run (fun ρ hρ qc qf qg => ?_); have q538 := rho hρ r538; clear hρ; go_simp; (try go_bits); (try clear ρ);
    refine hK'.out _ _ _ rfl ?_ hT' (Below.refl _ _); rfl
  refine SeqOps.val ?_ (StepOk.yes (by (first | (simp only [List.getElem?_toArray, List.getElem?_cons_succ, List.getElem?_cons_zero]; rfl) | rfl)) rfl 0 rfl (e := 539) (by kernel_rfl) (by kernel_rfl) (fun ax wx hS hT' hd K' hK' => ?_)) ?_; rotate_left 1
  · obtain ⟨hcT, hfT, hlT, hmT, hwT⟩ := bcell hT'; have hzT := hT'.size
    refine op_run (fun ρ hρ qc qf qg => ?_); clear hρ; go_simp; (try go_bits); (try clear ρ);
    go_at_call 22; refine (ticks_any _).mono ?_; rintro e u1 ⟨rfl, g1⟩
    refine hK'.out _ _ _ rfl ?_ (hT'.trans (g1.mono hT'.size)) g1; rfl
  refine SeqOps.val ?_ (StepOk.plain (by (first | (simp only [List.getElem?_toArray, List.getElem?_cons_succ, List.getElem?_cons_zero]; rfl) | rfl)) rfl (fun ax wx hS hT' hd K' hK' => ?_)) ?_; rotate_left 1
  · have r539 := told_val hd 1 (k := 96) (e := 539) rfl (by kernel_rfl) (by kernel_rfl); have r540 := told_val hd 0 (k := 97) (e := 540) rfl (by kernel_rfl) (by kernel_rfl); obtain ⟨hcT, hfT, hlT, hmT, hwT⟩ := bcell hT'; have hzT := hT'.size
    refine op_run (fun ρ hρ qc qf qg => ?_); have q539 := rho hρ r539; have q540 := rho hρ r540; clear hρ; go_simp; (try go_bits); (try clear ρ);
    refine hK'.out _ _ _ rfl ?_ hT' (Below.refl _ _); rfl
  refine SeqOps.val ?_ (StepOk.plain (by (first | (simp only [List.getElem?_toArray, List.getElem?_cons_succ, List.getElem?_cons_zero]; rfl) | rfl)) rfl (fun ax wx hS hT' hd K' hK' => ?_)) ?_; rotate_left 1
  · have r541 := told_val hd 0 (k := 98) (e := 541) rfl (by kernel_rfl) (by kernel_rfl); obtain ⟨hcT, hfT, hlT, hmT, hwT⟩ := bcell hT'; have hzT := hT'.size
    refine op_run (fun ρ hρ qc qf qg => ?_); have q541 := rho hρ r541; clear hρ; go_simp; (try go_bits); (try clear ρ);
    refine hK'.out _ _ _ rfl ?_ hT' (Below.refl _ _); rfl
  refine SeqOps.nil ?_
  intro vz hBl; (refine fun v h => ?_; obtain rfl := h); (refine fun v h => ?_; obtain rfl := h); (refine fun v h => ?_; obtain rfl := h); (refine fun v h => ?_; obtain rfl := h); (refine fun v h => ?_; obtain rfl := h); (refine fun v h => ?_; obtain rfl := h); (refine fun v h => ?_; obtain rfl := h); (refine fun v h => ?_; obtain rfl := h); (refine fun v h => ?_; obtain rfl := h); (refine fun v h => ?_; obtain rfl := h); (refine fun v h => ?_; obtain rfl := h); (refine fun v h => ?_; obtain rfl := h); (refine fun v h => ?_; obtain rfl := h); (refine fun v h => ?_; obtain rfl := h); (refine fun v h => ?_; obtain rfl := h); (refine fun v h => ?_; obtain rfl := h); (refine fun v h => ?_; obtain rfl := h); (refine fun v h => ?_; obtain rfl := h); (refine fun v h => ?_; obtain rfl := h); (refine fun v h => ?_; obtain rfl := h); (refine fun v h => ?_; obtain rfl := h); (refine fun v h => ?_; obtain rfl := h); (refine fun v h => ?_; obtain rfl := h); (refine fun v h => ?_; obtain rfl := h); (refine fun v h => ?_; obtain rfl := h); (refine fun v h => ?_; obtain rfl := h); (refine fun v h => ?_; obtain rfl := h); (refine fun v h => ?_; obtain rfl := h); (refine fun v h => ?_; obtain rfl := h); (refine fun v h => ?_; obtain rfl := h); (refine fun v h => ?_; obtain rfl := h); (refine fun v h => ?_; obtain rfl := h); (refine fun v h => ?_; obtain rfl := h); (refine fun v h => ?_; obtain rfl := h); (refine fun v h => ?_; obtain rfl := h); (refine fun v h => ?_; obtain rfl := h); (refine fun v h => ?_; obtain rfl := h); (refine fun v h => ?_; obtain rfl := h); (refine fun v h => ?_; obtain rfl := h); (refine fun v h => ?_; obtain rfl := h); (refine fun v h => ?_; obtain rfl := h); (refine fun v h => ?_; obtain rfl := h); (refine fun v h => ?_; obtain rfl := h); (refine fun v h => ?_; obtain rfl := h); (refine fun v h => ?_; obtain rfl := h); (refine fun v h => ?_; obtain rfl := h); (refine fun v h => ?_; obtain rfl := h); (refine fun v h => ?_; obtain rfl := h); (refine fun v h => ?_; obtain rfl := h); (refine fun v h => ?_; obtain rfl := h); (refine fun v h => ?_; obtain rfl := h); (refine fun v h => ?_; obtain rfl := h); (refine fun v h => ?_; obtain rfl := h); (refine fun v h => ?_; obtain rfl := h); (refine fun v h => ?_; obtain rfl := h); (refine fun v h => ?_; obtain rfl := h); (refine fun v h => ?_; obtain rfl := h); (refine fun v h => ?_; obtain rfl := h); (refine fun v h => ?_; obtain rfl := h); (refine fun v h => ?_; obtain rfl := h); (refine fun v h => ?_; obtain rfl := h); (refine fun v h => ?_; obtain rfl := h); (refine fun v h => ?_; obtain rfl := h); (refine fun v h => ?_; obtain rfl := h); (refine fun v h => ?_; obtain rfl := h); (refine fun v h => ?_; obtain rfl := h); (refine fun v h => ?_; obtain rfl := h); (refine fun v h => ?_; obtain rfl := h); (refine fun v h => ?_; obtain rfl := h); (refine fun v h => ?_; obtain rfl := h); (refine fun v h => ?_; obtain rfl := h); (refine fun v h => ?_; obtain rfl := h); (refine fun v h => ?_; obtain rfl := h); (refine fun v h => ?_; obtain rfl := h); (refine fun v h => ?_; obtain rfl := h); (refine fun v h => ?_; obtain rfl := h); (refine fun v h => ?_; obtain rfl := h); (refine fun v h => ?_; obtain rfl := h); (refine fun v h => ?_; obtain rfl := h); (refine fun v h => ?_; obtain rfl := h); (refine fun v h => ?_; obtain rfl := h); (refine fun v h => ?_; obtain rfl := h); (refine fun v h => ?_; obtain rfl := h); (refine fun v h => ?_; obtain rfl := h); (refine fun v h => ?_; obtain rfl := h); (refine fun v h => ?_; obtain rfl := h); (refine fun v h => ?_; obtain rfl := h); (refine fun v h => ?_; obtain rfl := h); (refine fun v h => ?_; obtain rfl := h); (refine fun v h => ?_; obtain rfl := h); (refine fun v h => ?_; obtain rfl := h); (refine fun v h => ?_; obtain rfl := h); (refine fun v h => ?_; obtain rfl := h); (refine fun v h => ?_; obtain rfl := h); (refine fun v h => ?_; obtain rfl := h); (refine fun v h => ?_; obtain rfl := h); (refine fun v h => ?_; obtain rfl := h); (refine fun v h => ?_; obtain rfl := h); (refine fun v h => ?_; obtain rfl := h); (refine fun v h => ?_; obtain rfl := h);
  refine fun ax hEx => ?_
  simp only [lk, pick, Nat.reduceEqDiff, ↓reduceIte] at hEx
  refine late_done [0] hEx hK (fun a hE => ?_); clear hK K Q' hEx; simp only [lk, pick, Nat.reduceEqDiff, ↓reduceIte] at hE
  (repeat (first | (with_reducible refine wp_seq ?_) | (with_reducible refine wp_block ?_) | (with_reducible refine then_n ?_) | (with_reducible refine inBlock_n ?_) | (with_reducible refine then_ret ?_) | (with_reducible refine inBlock_ret ?_) | (with_reducible refine then_exit ?_) | (with_reducible refine inBlock_hit ?_) | (with_reducible refine inBlock_miss (by decide) ?_) | (with_reducible refine wp_ret ?_) | (with_reducible refine wp_exit ?_) | (with_reducible refine wp_skip ?_)))
  refine ret_one hE rfl rfl ⟨rfl, hB.trans (hBl.mono hB.size)⟩
end Go.Proofs.Ytnkbcapikenbbaa
