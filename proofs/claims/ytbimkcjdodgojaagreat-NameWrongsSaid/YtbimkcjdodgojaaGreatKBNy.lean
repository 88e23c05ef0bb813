/- Name: the law's own books. -/
import Derived.Test.YtbimkcjdodgojaaGreatKBNbk
import Derived.Test.YtbimkcjdodgojaaGreatKBNj

namespace Go.Proofs.YtbimkcjdodgojaaGreat
set_option linter.unusedSimpArgs false
set_option linter.unusedVariables false
open Go.RowKit
attribute [local go_sem high] cell_set_wr
attribute [local go_sem low] cell_wr frozen_wr
attribute [local go_sem] wr_set wr_drew wr_drewN wr_alloc wr_new Rho.c Rho.n Rho.g
set_option maxRecDepth 100000 in
theorem line_any (b m : Int) (s : ByteArray) (w : World) : Calls Tryz.prog 79 #[.int .i64 b, .int .i64 m, .string s] w fun e w' => e = .returned (.agg #[.int .i64 b, .int .i64 m, .string s]) ∧ Below w.heap.size w w' := by
 refine enterE Tryz.func79 rfl Tryz.ntmps79 (by simp) (fun a hE => ?_); simp only [envOf, Nat.zero_add, Nat.reduceAdd] at hE
 refine Ks ?_
 refine Rs 1 fun Q' K hK => ?_
 refine M0 fun K' J ρ => ?_; go_simp;
 refine Ln hE J fun _ Eb => ?_; clear J K' hE a
 refine Ld [0, 1, 2, 6] Eb hK fun a hE => ?_; clear hK K Q' Eb
 refine Ks ?_
 refine Rs 5 fun Q' K hK => ?_
 refine M1 hE 0 fun K' J ρ q0 => ?_; go_simp
 refine Ln hE J fun _ Eb => ?_; clear J K' hE a q0
 refine M1 Eb 1 fun K' J ρ q1 => ?_; go_simp
 refine Ln Eb J fun _ Ea => ?_; clear J K' Eb q1
 refine M1 Ea 2 fun K' J ρ q2 => ?_; go_simp
 refine Ln Ea J fun _ Eb => ?_; clear J K' Ea q2
 refine M3 Eb 7 8 9 fun K' J ρ q7 q8 q9 => ?_; go_simp
 refine Ln Eb J fun _ Ea => ?_; clear J K' Eb q7 q8 q9
 refine M2 Ea 6 10 fun K' J ρ q6 q10 => ?_; go_simp; (try clear q6 q10)
 refine late_skip Ea J (fun _ Eb => ?_); clear J K'; clear Ea
 refine Ld [6] Eb hK fun a hE => ?_; clear hK K Q' Eb
 obtain ⟨B, hBe⟩ : ∃ B, B = w.heap.size := ⟨_, rfl⟩; rw [← hBe] at hE; refine world_cut (fun wt => Below w.heap.size w wt ∧ Cells wt B [.int .i64 b, .int .i64 m, .string s]) ⟨(Below.refl _ _).alloc (Nat.le_refl _) _, by rw [hBe]; exact cells_new _ _ _⟩ (fun w1 hCut => ?_); obtain ⟨hbw1, hCB⟩ := hCut; clear hBe
 obtain ⟨nB, cB0, cB1, cB2⟩ := hCB.c3
 refine Ks ?_
 have g := hE.at 6 rfl
 exact bodyPost_ret (v := .agg #[.int .i64 b, .int .i64 m, .string s]) (by
  simp [results, Tryz.results79, go_sem, g, cB0, cB1, cB2]) hE.1 ⟨rfl, hbw1⟩
set_option maxRecDepth 100000 in
theorem lpair_any (x y : Int) (w : World) : Calls Tryz.prog 48 #[.int .i64 x, .int .i64 y] w fun e w' => e = .returned (.agg #[.int .i64 x, .int .i64 y]) ∧ Below w.heap.size w w' := by
 go_enter Tryz.func48, Tryz.ntmps48
 go_wp2
 go_returns
 exact ⟨rfl, by (repeat' (first | (with_reducible exact Below.refl _ _) | (with_reducible assumption) | (with_reducible refine Below.drew ?_) | (with_reducible refine below_drewN ?_ _) | (with_reducible refine Below.setCell ?_ ?_ _) | (with_reducible refine Below.alloc ?_ ?_ _) | go_size | (exact Below.size (by assumption)) | (refine Below.trans ?_ (Below.mono (by assumption) ?_))))⟩
def chEar : Ear := ⟨[⟨#[98, 112]⟩, ⟨#[100, 116]⟩], ⟨#[104]⟩, 1⟩
set_option maxRecDepth 100000 in
theorem ear_any (w : World) : Calls Tryz.prog 46 #[] w fun e w' => (∃ G, e = .returned (.agg #[.slice (some ⟨G, 0, none⟩) 2 2, .string ⟨#[104]⟩, .int .i64 1]) ∧ w.heap.size < G ∧ Arr w' w'.heap.size (some ⟨G, 0, none⟩) (txts chEar.alike)) ∧ Below w.heap.size w w' := by
 refine enterE Tryz.func46 rfl Tryz.ntmps46 (by simp) (fun a hE => ?_); simp only [envOf, Nat.zero_add, Nat.reduceAdd] at hE
 refine Ks ?_
 refine Rs 1 fun Q' K hK => ?_
 refine M0 fun K' J ρ => ?_; go_simp;
 refine Ln hE J fun _ Eb => ?_; clear J K' hE a
 refine Ld [0] Eb hK fun a hE => ?_; clear hK K Q' Eb
 refine Ks ?_
 refine Rs 3 fun Q' K hK => ?_
 refine M0 fun K' J ρ => ?_; go_simp;
 refine Ln hE J fun _ Eb => ?_; clear J K' hE a
 refine M1 Eb 1 fun K' J ρ q1 => ?_; go_simp
 refine Ln Eb J fun _ Ea => ?_; clear J K' Eb q1
 refine M2 Ea 0 2 fun K' J ρ q0 q2 => ?_; go_simp; (try clear q0 q2)
 refine late_skip Ea J (fun _ Eb => ?_); clear J K'; clear Ea
 refine Ld [0] Eb hK fun a hE => ?_; clear hK K Q' Eb
 refine world_cut (fun wt => Cells wt w.heap.size [.slice (some ⟨w.heap.size + 1, 0, none⟩) 2 2, .string ⟨#[104]⟩, .int .i64 1] ∧ Arr wt wt.heap.size (some ⟨w.heap.size + 1, 0, none⟩) (txts chEar.alike) ∧ Below w.heap.size w wt) ⟨?_, ?_, ?_⟩ (fun w1 hC => ?_)
 ·exact (cells_new w #[.slice (some ⟨w.heap.size + 1, 0, none⟩) 2 2, .string ⟨#[104]⟩, .int .i64 1] 24).below ((Below.refl _ _).alloc (Nat.le_refl _) _)
 ·have h := arr_new (w.alloc (.cells #[.slice (some ⟨w.heap.size + 1, 0, none⟩) 2 2, .string ⟨#[104]⟩, .int .i64 1] 24)) #[.string ⟨#[98, 112]⟩, .string ⟨#[100, 116]⟩] 9
  have e : (w.alloc (.cells #[.slice (some ⟨w.heap.size + 1, 0, none⟩) 2 2, .string ⟨#[104]⟩, .int .i64 1] 24)).heap.size = w.heap.size + 1 := by simp
  rw [e] at h
  have h2 := h.more (B' := w.heap.size + 1 + 1) (Nat.le_refl _)
  simpa [chEar, txts] using h2
 ·exact ((Below.refl _ _).alloc (Nat.le_refl _) _).alloc (by simp) _
 obtain ⟨hCB, hA, hBl⟩ := hC
 generalize hB : w.heap.size = B at hE hCB hA
 obtain ⟨nB, cB0, cB1, cB2⟩ := hCB.c3
 refine Ks ?_
 have g := hE.at 0 rfl
 exact bodyPost_ret (v := .agg #[.slice (some ⟨B + 1, 0, none⟩) 2 2, .string ⟨#[104]⟩, .int .i64 1]) (by
  simp [results, Tryz.results46, go_sem, g, cB0, cB1, cB2]) hE.1 ⟨⟨_, rfl, Nat.lt_succ_self _, hA⟩, by rw [← hB]; exact hBl⟩
/-- the chapter's books, with so many lines lost -/
def chBk (lost : Int) : Bk := ⟨chEar, [⟨0, 500, ⟨#[112, 101, 116, 101, 114]⟩⟩, ⟨0, 520, ⟨#[104, 97, 110, 115]⟩⟩, ⟨1, 620, ⟨#[98, 101, 116, 101, 114]⟩⟩, ⟨1, 640, ⟨#[97, 110, 115]⟩⟩, ⟨1, 630, ⟨#[112, 101, 100, 101, 114]⟩⟩], 90, 150, lost⟩
theorem seven {w : World} {B : Nat} {cs : Array Value} {t : TypeId} (h : w.heap[B]? = some (.cells cs t)) (hs : cs.size = 7) :
    w.cell? ⟨B, 0, none⟩ = some cs[0] ∧ w.cell? ⟨B, 1, none⟩ = some cs[1] ∧ w.cell? ⟨B, 2, none⟩ = some cs[2] ∧ w.cell? ⟨B, 3, none⟩ = some cs[3] ∧ w.cell? ⟨B, 4, none⟩ = some cs[4] ∧ w.cell? ⟨B, 5, none⟩ = some cs[5] ∧ w.cell? ⟨B, 6, none⟩ = some cs[6] := by
 refine ⟨?_, ?_, ?_, ?_, ?_, ?_, ?_⟩ <;> simp [World.cell?, h, hs]
theorem sevenF {w : World} {B : Nat} {cs : Array Value} {t : TypeId} (h : w.heap[B]? = some (.cells cs t)) :
    w.frozen? ⟨B, 0, none⟩ = false ∧ w.frozen? ⟨B, 1, none⟩ = false ∧ w.frozen? ⟨B, 2, none⟩ = false ∧ w.frozen? ⟨B, 3, none⟩ = false ∧ w.frozen? ⟨B, 4, none⟩ = false ∧ w.frozen? ⟨B, 5, none⟩ = false ∧ w.frozen? ⟨B, 6, none⟩ = false := by
 refine ⟨?_, ?_, ?_, ?_, ?_, ?_, ?_⟩ <;> simp [World.frozen?, h]
theorem arr_set {w : World} {N G B o : Nat} {v : Value} {xs : List Value} (h : Arr w N (some ⟨G, 0, none⟩) xs) (hne : G ≠ B) : Arr (w.setCell ⟨B, o, none⟩ v) N (some ⟨G, 0, none⟩) xs := fun hx => by
 obtain ⟨b, o', e, hb, hc⟩ := h hx
 cases e
 exact ⟨G, 0, rfl, hb, fun j u hu => by
  rw [World.cell?_setCell_other _ _ _ _ (by intro he; cases he; exact hne rfl)]
  exact hc j u hu⟩
theorem cell_oth {w : World} {B o o' : Nat} {u v : Value} (h : w.cell? ⟨B, o', none⟩ = some u) (hne : o ≠ o') : (w.setCell ⟨B, o, none⟩ v).cell? ⟨B, o', none⟩ = some u := by
 rw [World.cell?_setCell_other _ _ _ _ (by intro he; cases he; exact hne rfl)]; exact h
theorem size_set (w : World) (p : Addr) (v : Value) : (w.setCell p v).heap.size = w.heap.size := by simp [World.setCell]
set_option maxRecDepth 100000 in
set_option maxHeartbeats 2000000 in
theorem books_any (lost : Int) (w : World) : Calls Tryz.prog 47 #[.int .i64 lost] w fun e w' => (∃ A L, e = .returned (.agg (bkV A 2 L 5 (chBk lost)).toArray) ∧ BkAt w' A L (chBk lost)) ∧ Below w.heap.size w w' := by
 refine enterE Tryz.func47 rfl Tryz.ntmps47 (by simp) (fun a hE => ?_); simp only [envOf, Nat.zero_add, Nat.reduceAdd] at hE
 refine Ks ?_
 refine Rs 1 fun Q' K hK => ?_
 refine M0 fun K' J ρ => ?_; go_simp;
 refine Ln hE J fun _ Eb => ?_; clear J K' hE a
 refine Ld [0, 2] Eb hK fun a hE => ?_; clear hK K Q' Eb
 refine world_cut (fun wt => Below w.heap.size w wt ∧ w.heap.size < wt.heap.size ∧ ∃ cs : Array Value, cs.size = 7 ∧ wt.heap[w.heap.size]? = some (.cells cs 29)) ⟨(Below.refl _ _).alloc (Nat.le_refl _) _, by simp, _, ?_, by show (w.heap.push _)[w.heap.size]? = _; simp; rfl⟩ (fun w0 hC => ?_)
 ·rfl
 obtain ⟨hb0, hlt, cs, hcs, hG0⟩ := hC
 generalize hB : w.heap.size = B at hE hlt hG0
 refine Ks ?_
 refine Rs 11 fun Q' K hK => ?_
 refine M0 fun K' J ρ => ?_; go_simp; (try go_bits);
 go_at_call 46; refine (ear_any _).mono ?_; rintro e w1 ⟨⟨G, rfl, hlG, hG⟩, h1⟩
 refine Ln hE J fun _ Eb => ?_; clear J K' hE a
 refine M0 fun K' J ρ => ?_; go_simp; (try go_bits);
 go_at_call 79; refine (line_any _ _ _ _).mono ?_; rintro e w2 ⟨rfl, h2⟩
 refine Ln Eb J fun _ Ea => ?_; clear J K' Eb
 refine M0 fun K' J ρ => ?_; go_simp; (try go_bits);
 go_at_call 79; refine (line_any _ _ _ _).mono ?_; rintro e w3 ⟨rfl, h3⟩
 refine Ln Ea J fun _ Eb => ?_; clear J K' Ea
 refine M0 fun K' J ρ => ?_; go_simp; (try go_bits);
 go_at_call 79; refine (line_any _ _ _ _).mono ?_; rintro e w4 ⟨rfl, h4⟩
 refine Ln Eb J fun _ Ea => ?_; clear J K' Eb
 refine M0 fun K' J ρ => ?_; go_simp; (try go_bits);
 go_at_call 79; refine (line_any _ _ _ _).mono ?_; rintro e w5 ⟨rfl, h5⟩
 refine Ln Ea J fun _ Eb => ?_; clear J K' Ea
 refine M0 fun K' J ρ => ?_; go_simp; (try go_bits);
 go_at_call 79; refine (line_any _ _ _ _).mono ?_; rintro e w6 ⟨rfl, h6⟩
 refine Ln Eb J fun _ Ea => ?_; clear J K' Eb
 refine Lp fun K' J => ?_
 have r4 := Ea.at 4 rfl; have r5 := Ea.at 5 rfl; have r6 := Ea.at 6 rfl; have r7 := Ea.at 7 rfl; have r8 := Ea.at 8 rfl
 refine op_run (fun ρ hρ qc qf qg => ?_); have q4 := rho hρ r4; have q5 := rho hρ r5; have q6 := rho hρ r6; have q7 := rho hρ r7; have q8 := rho hρ r8; clear hρ; go_simp; (try clear r4 q4 r5 q5 r6 q6 r7 q7 r8 q8)
 (try clear r4 r5 r6 r7 r8)
 refine Ln Ea J fun _ Eb => ?_; clear J K' Ea
 refine M0 fun K' J ρ => ?_; go_simp; (try go_bits);
 go_at_call 49; refine (to_any _ _ _).mono ?_; rintro e w7 ⟨rfl, h7⟩; have hb7 : Below w0.heap.size w0 w7 := Below.chain ((Below.chain (Below.chain (Below.chain (Below.chain (Below.chain h1 h2) h3) h4) h5) h6).alloc (by have := h1.size; have := h2.size; have := h3.size; have := h4.size; have := h5.size; have := h6.size; omega) _) h7; have hG7 : w7.heap[B]? = some (.cells cs 29) := (hb7.block B hlt).trans hG0; obtain ⟨c0, c1, c2, c3, c4, c5, c6⟩ := seven hG7 hcs; obtain ⟨f0, f1, f2, f3, f4, f5, f6⟩ := sevenF hG7; clear hG7 hG0
 refine Ln Eb J fun _ Ea => ?_; clear J K' Eb
 refine M1 Ea 0 fun K' J ρ q0 => ?_; go_simp
 refine Ln Ea J fun _ Eb => ?_; clear J K' Ea q0
 refine Lp fun K' J => ?_
 have r3 := Eb.at 3 rfl; have r9 := Eb.at 9 rfl; have r10 := Eb.at 10 rfl; have r11 := Eb.at 11 rfl
 refine op_run (fun ρ hρ qc qf qg => ?_); have q3 := rho hρ r3; have q9 := rho hρ r9; have q10 := rho hρ r10; have q11 := rho hρ r11; clear hρ; go_simp; (try clear r3 q3 r9 q9 r10 q10 r11 q11)
 (try clear r3 r9 r10 r11)
 refine Ln Eb J fun _ Ea => ?_; clear J K' Eb
 refine M2 Ea 2 12 fun K' J ρ q2 q12 => ?_; go_simp; (try clear q2 q12)
 refine late_skip Ea J (fun _ Eb => ?_); clear J K'; clear Ea
 refine Ld [0, 2] Eb hK fun a hE => ?_; clear hK K Q' Eb
 have s6 : B < w6.heap.size := by have := h1.size; have := h2.size; have := h3.size; have := h4.size; have := h5.size; have := h6.size; omega
 have hL := ((arr_new w6 _ _).below (h7.mono (by simp))).more (B' := w7.heap.size) (by have := h7.size; simpa using this)
 have hb17 : Below w1.heap.size w1 w7 := Below.chain ((Below.chain (Below.chain (Below.chain (Below.chain h2 h3) h4) h5) h6).alloc (by have := h2.size; have := h3.size; have := h4.size; have := h5.size; have := h6.size; omega) _) h7
 have hA := (hG.below hb17).more hb17.size
 refine world_cut (fun wt => Cells wt B (bkV (some ⟨G, 0, none⟩) 2 (some ⟨w6.heap.size, 0, none⟩) 5 (chBk lost)) ∧ BkAt wt (some ⟨G, 0, none⟩) (some ⟨w6.heap.size, 0, none⟩) (chBk lost) ∧ Below B w wt) ⟨?_, ?_, ?_⟩ (fun w8 hC => ?_)
 ·refine ⟨by simp only [size_set]; have := hb7.size; omega, fun j u hu => ?_⟩
  match j, hu with
  | 0, hu => have e := Option.some.inj hu; rw [← e]; refine cell_oth (cell_oth (cell_oth (cell_oth (cell_oth (cell_oth (cell_set_wr ?_) (by decide)) (by decide)) (by decide)) (by decide)) (by decide)) (by decide); (try simp only [wr_set]); exact ⟨by rw [c0]; rfl, f0⟩
  | 1, hu => have e := Option.some.inj hu; rw [← e]; refine cell_oth (cell_oth (cell_oth (cell_oth (cell_oth (cell_set_wr ?_) (by decide)) (by decide)) (by decide)) (by decide)) (by decide); (try simp only [wr_set]); exact ⟨by rw [c1]; rfl, f1⟩
  | 2, hu => have e := Option.some.inj hu; rw [← e]; refine cell_oth (cell_oth (cell_oth (cell_oth (cell_set_wr ?_) (by decide)) (by decide)) (by decide)) (by decide); (try simp only [wr_set]); exact ⟨by rw [c2]; rfl, f2⟩
  | 3, hu => have e := Option.some.inj hu; rw [← e]; refine cell_oth (cell_oth (cell_oth (cell_set_wr ?_) (by decide)) (by decide)) (by decide); (try simp only [wr_set]); exact ⟨by rw [c3]; rfl, f3⟩
  | 4, hu => have e := Option.some.inj hu; rw [← e]; refine cell_oth (cell_oth (cell_set_wr ?_) (by decide)) (by decide); (try simp only [wr_set]); exact ⟨by rw [c4]; rfl, f4⟩
  | 5, hu => have e := Option.some.inj hu; rw [← e]; refine cell_oth (cell_set_wr ?_) (by decide); (try simp only [wr_set]); exact ⟨by rw [c5]; rfl, f5⟩
  | 6, hu => have e := Option.some.inj hu; rw [← e]; refine cell_set_wr ?_; (try simp only [wr_set]); exact ⟨by rw [c6]; rfl, f6⟩
  | n + 7, hu => simp [bkV] at hu
 ·refine ⟨?_, ?_⟩
  ·simp only [size_set]
   exact arr_set (arr_set (arr_set (arr_set (arr_set (arr_set (arr_set hA (by omega)) (by omega)) (by omega)) (by omega)) (by omega)) (by omega)) (by omega)
  ·simp only [size_set]
   exact arr_set (arr_set (arr_set (arr_set (arr_set (arr_set (arr_set hL (by omega)) (by omega)) (by omega)) (by omega)) (by omega)) (by omega)) (by omega)
 ·have hB7 : Below B w w7 := by rw [← hB]; exact Below.chain hb0 hb7
  exact ((((((hB7.setCell (Nat.le_refl _) _).setCell (Nat.le_refl _) _).setCell (Nat.le_refl _) _).setCell (Nat.le_refl _) _).setCell (Nat.le_refl _) _).setCell (Nat.le_refl _) _).setCell (Nat.le_refl _) _
 obtain ⟨hCB, hM, hBl⟩ := hC
 simp only [bkV] at hCB
 obtain ⟨nB, cB0, cB1, cB2, cB3, cB4, cB5, cB6⟩ := hCB.c7
 refine Ks ?_
 have g := hE.at 2 rfl
 exact bodyPost_ret (v := .agg (bkV (some ⟨G, 0, none⟩) 2 (some ⟨w6.heap.size, 0, none⟩) 5 (chBk lost)).toArray) (by
  simp [results, Tryz.results47, go_sem, g, cB0, cB1, cB2, cB3, cB4, cB5, cB6, bkV]) hE.1 ⟨⟨_, _, rfl, hM⟩, hBl⟩
end Go.Proofs.YtbimkcjdodgojaaGreat
