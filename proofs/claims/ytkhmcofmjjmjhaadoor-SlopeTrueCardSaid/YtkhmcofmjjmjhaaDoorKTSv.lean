/- Slope: a book is prepared: the walk. -/
import Derived.Test.YtkhmcofmjjmjhaaDoorKTSu

namespace Go.Proofs.YtkhmcofmjjmjhaaDoor
set_option linter.unusedSimpArgs false
set_option linter.unusedVariables false
open Go Go.RowKit
attribute [local go_sem high] cell_set_wr
attribute [local go_sem low] cell_wr frozen_wr
attribute [local go_sem] wr_set wr_drew wr_drewN wr_alloc wr_new Rho.c Rho.n Rho.g
attribute [local go_sem] run_store_func
theorem srcs_ok {b : Sb} (hb : OkB b) {h : Hr} (hh : h ∈ b.hours) {ss : List Si} {bs : List Int} : SrcOk (srcs ⟨h, b.sl, ss, bs⟩) := by
 obtain ⟨h1, h2, h3⟩ := hb.hour h hh
 intro p hp
 simp only [srcs, List.mem_cons, List.not_mem_nil, or_false] at hp
 rcases hp with rfl | rfl | rfl
 ·exact ⟨hb.snow, h1.1⟩
 ·exact ⟨hb.wind, h2.1.1, h2.1.2.1, by have := h2.1.2.2; simp only; omega⟩
 ·exact ⟨hb.sun, h3.1.1, h3.1.2.1, by have := h3.1.2.2; simp only; omega⟩
theorem srcs_narrow {b : Sb} (hb : OkB b) {h : Hr} (hh : h ∈ b.hours) {ss : List Si} {bs : List Int} : ∀ p ∈ srcs ⟨h, b.sl, ss, bs⟩, p.2.2 - p.2.1 ≤ 3 := by
 obtain ⟨h1, h2, h3⟩ := hb.hour h hh
 intro p hp
 simp only [srcs, List.mem_cons, List.not_mem_nil, or_false] at hp
 rcases hp with rfl | rfl | rfl
 ·exact h1.2
 ·exact h2.2
 ·exact h3.2
theorem own_not {w : World} {base : Nat} {e : TypeId} {size : Nat} {v : Value} {n : Nat} {xs : List Value} (h : w.ownsRow base e size v n xs) {d : Nat} {x : Option (List Deferred)} (hd : w.heap[d]? = some (.deferred x)) : v.ownBlock ≠ some d := fun hg => by
 obtain ⟨_, h | ⟨g', c, cur, hv, _, hh, _⟩⟩ := h
 ·rw [h.1] at hg; cases hg
 ·rw [hv] at hg
  cases hg
  rw [hd] at hh
  cases hh
theorem row_not {w : World} {C : Nat} {l : List Value} (h : Row w C l) (hl : 0 < l.length) {d : Nat} {x : Option (List Deferred)} (hd : w.heap[d]? = some (.deferred x)) : d ≠ C := fun e => by
 subst e
 have := (h 0 l[0] (List.getElem?_eq_getElem hl)).1
 simp [World.cell?, hd] at this
section
variable (H : Option Addr) (hcap : Nat) (S : Option Addr) (scap : Nat) (b : Sb)
set_option maxRecDepth 100000 in
set_option maxHeartbeats 600000 in
theorem prepared_any (hb : OkB b) (w : World) (hM : SbAt w H S b) : Calls Tryd.prog 55 #[.agg (sbV H hcap S scap b).toArray] w fun e w' => (∃ P c, e = .returned (.agg (bkV H hcap S scap b P (hpsOf b).length c).toArray) ∧ HpsN w.heap.size w' P (hpsOf b)) ∧ Below w.heap.size w w' := by
 have hH12 := hb.hours.2
 have hS6 := hb.sights
 have HLEN := hid (hpsOf_length b)
 have HAT := hid fun k h h' => hpsOf_at b k h h'
 have HSRC := hid fun k (hk : k < b.hours.length) ss bs => srcs_ok hb (List.getElem_mem hk) (ss := ss) (bs := bs)
 have HNAR := hid fun k (hk : k < b.hours.length) ss bs => srcs_narrow hb (List.getElem_mem hk) (ss := ss) (bs := bs)
 clear hb
 refine enterM Tryd.func55 rfl Tryd.ntmps55 (by simp) (fun a hE => ?_); simp only [envOf, Nat.zero_add, Nat.reduceAdd] at hE
 refine Ks ?_
 refine Rs 2 fun Q' K hK => ?_
 refine M1 hE 0 fun K' J ρ q0 => ?_; go_simp
 refine Ln hE J fun _ Eb => ?_; clear J K' hE a q0
 refine Go.Proofs.YtkhmcofmjjmjhaaDoor.M0 fun K' J ρ => ?_; go_simp;
 refine Ln Eb J fun _ Ea => ?_; clear J K' Eb
 refine Ld [1, 2, 44] Ea hK fun a hE => ?_; clear hK K Q' Ea
 obtain ⟨B, hB⟩ : ∃ B, B = w.heap.size := ⟨_, rfl⟩
 obtain ⟨R, hR⟩ : ∃ B, B = w.heap.size + 1 := ⟨_, rfl⟩
 rw [← hR, ← hB] at hE
 refine world_cut (fun wt => Below w.heap.size w wt ∧ Cells wt B (sbV H hcap S scap b) ∧ RowD wt R 10) ?_ (fun w1 hC => ?_)
 ·rw [hB, hR]; obtain ⟨q1, q2, q3, q4⟩ := box_row w (sbV H hcap S scap b).toArray 29 _ 85; exact ⟨q1, q2, q3, _, rfl, q4⟩
 obtain ⟨hbw1, hCB, hRD⟩ := hC
 have hnR : w.heap.size ≤ R := by omega
 have hM1 := hM.below hbw1
 clear hB hR
 refine Ks ?_
 refine Rs 4 fun Q' K hK => ?_
 refine Lp fun K' J => ?_
 have r1 := hE.at 1 rfl
 refine wp_load_mid 29 (.tmp 1) rfl B 0 (eval_of r1) [.int .i64 b.sl.snow, .int .i64 b.sl.wind, .int .i64 b.sl.sun, .int .i64 b.sl.settle, .int .i64 b.sl.hold, .int .i64 b.lo, .int .i64 b.hi, .slice H b.hours.length hcap, .slice S b.sights.length scap] _ (fun j u hu => by rw [Nat.zero_add]; exact hCB.2 j u hu) Tryd.underlying29 rfl (by kernel_rfl) ?_
 (try clear r1)
 refine Ln hE J fun _ Eb => ?_; clear J K' hE a
 refine M1 Eb 10 fun K' J ρ q10 => ?_; go_simp
 refine Ln Eb J fun _ Ea => ?_; clear J K' Eb q10
 refine Go.Proofs.YtkhmcofmjjmjhaaDoor.M0 fun K' J ρ => ?_; go_simp;
 refine Ln Ea J fun _ Eb => ?_; clear J K' Ea
 refine Lp fun K' J => ?_
 have r3 := Eb.at 3 rfl; have r11 := Eb.at 11 rfl
 refine wp_store_mid 85 (.tmp 3) (.tmp 11) rfl w1.heap.size 0 (bkV H hcap S scap b none 0 0).toArray (eval_of r3) (eval_of r11) (there_row (row_new w1 _ _) (Nat.le_of_eq rfl)) (by kernel_rfl) (by kernel_rfl) ?_
 (try clear r3 r11)
 refine late_skip Eb J (fun _ Ea => ?_); clear J K'; clear Eb
 refine Ld [1, 2, 3, 44] Ea hK fun a hE => ?_; clear hK K Q' Ea
 obtain ⟨C, hC⟩ : ∃ B, B = w1.heap.size := ⟨_, rfl⟩
 rw [← hC] at hE
 refine world_cut (fun wt => PrS H hcap S scap b C w1 0 none 0 [] wt) ?_ (fun w2 hP => ?_)
 ·rw [hC]; have q := boxed_new w1 #[.int .i64 0, .int .i64 0, .int .i64 0, .int .i64 0, .int .i64 0, .int .i64 0, .int .i64 0, .slice none 0 0, .slice none 0 0, .slice none 0 0] 85 (bkV H hcap S scap b none 0 0) rfl; exact ⟨q.1, by simp, rfl, q.2.1, row_all (row_new w1 #[.int .i64 0, .int .i64 0, .int .i64 0, .int .i64 0, .int .i64 0, .int .i64 0, .int .i64 0, .slice none 0 0, .slice none 0 0, .slice none 0 0] 85) rfl, own_nil _ _ _ _, fun p hp => absurd hp (by simp)⟩
 have hnC : w1.heap.size ≤ C := Nat.le_of_eq hC.symm
 clear hC
 have c7 := (hCB.below hP.below).2 7 _ rfl
 have hbw2 := hbw1.trans (hP.below.mono hbw1.size)
 refine Ks ?_
 refine Rs 4 fun Q' K hK => ?_
 refine M1 hE 1 fun K' J ρ q1 => ?_; go_simp
 refine Ln hE J fun _ Eb => ?_; clear J K' hE a q1
 refine M1 Eb 12 fun K' J ρ q12 => ?_; go_simp
 refine Ln Eb J fun _ Ea => ?_; clear J K' Eb q12
 refine M1 Ea 13 fun K' J ρ q13 => ?_; go_simp; (try go_bits)
 refine Ln Ea J fun _ Eb => ?_; clear J K' Ea q13
 refine Go.Proofs.YtkhmcofmjjmjhaaDoor.M0 fun K' J ρ => ?_; go_simp;
 refine Ln Eb J fun _ Ea => ?_; clear J K' Eb
 refine Ld [1, 2, 3, 13, 14, 15, 44] Ea hK fun a hE => ?_; clear hK K Q' Ea
 refine Ks ?_
 clear c7
 refine loop_st (fun (k : Nat) a w' => ∃ (ds : List Nat) (A : Option Addr) (c : Nat) (ps : List Pm), k ≤ b.hours.length ∧ FitsD (rmarks ds) 64 [(1, .pointer (some ⟨B, 0, none⟩)), (2, .pointer (some ⟨R, 0, none⟩)), (3, .pointer (some ⟨C, 0, none⟩)), (13, .slice H b.hours.length hcap), (14, .int .i64 b.hours.length), (15, .int .i64 k)] a ∧ PrS H hcap S scap b C w1 k A c ps w' ∧ ds.Nodup ∧ ∀ d ∈ ds, w1.heap.size ≤ d ∧ w'.heap[d]? = some (.deferred (some []))) (fun k => b.hours.length - k) 0 ⟨[], none, 0, [], Nat.zero_le _, by simpa [rmarks] using hE, hP, List.nodup_nil, fun _ h => absurd h (by simp)⟩ (fun k a wr hI => ?_)
 clear hE hP
 obtain ⟨ds, A, c, ps, hk, hE, hP, hnd, hds⟩ := hI
 have hbr := hbw1.trans (hP.below.mono hbw1.size)
 by_cases hlt : k < b.hours.length
 ·have hltI : (k : Int) < b.hours.length := by omega
  have hCBr := hCB.below hP.below
  have hMr := hM1.below hP.below
  have HBR := hid (HAT.out k hlt (by rw [HLEN.out]; exact hlt))
  have HSR := hid (HSRC.out k hlt)
  have HNA := hid (HNAR.out k hlt)
  have HH9 : Hid ((b.hours.length : Int) ≤ 9223372036854775807) := hid (by omega)
  obtain ⟨bx, ox, hHe, hbx, hrx⟩ := ArrD.range (f := Hr.cells) (m := 6) (fun _ => rfl) (by omega) hMr.1 hlt
  obtain ⟨hr, hhr⟩ : ∃ hr, b.hours[k] = hr := ⟨_, rfl⟩
  rw [hhr] at HBR HSR HNA hrx
  clear hhr
  have hH9 := HH9.out
  have hEs := hE
  rw [hHe] at hE
  clear hEs
  refine Ks ?_
  refine Rs 1 fun Q' K hK => ?_
  refine M2 hE 15 14 fun K' J ρ q15 q14 => ?_; go_simp; (try go_bits)
  refine Ln hE J fun _ Eb => ?_; clear J K' hE a q15 q14
  replace Eb := Eb.turn 16 (v' := .bool true) rfl (by (first | (simp; done) | (simp; omega)))
  refine Ld [1, 2, 3, 13, 14, 15, 16, 44] Eb hK fun a hE => ?_; clear hK K Q' Eb
  refine Ks ?_
  refine cond_yes hE (t := 16) rfl ?_
  refine Ks ?_
  refine Rs 6 fun Q' K hK => ?_
  refine M1 hE 15 fun K' J ρ q15 => ?_; go_simp
  refine Ln hE J fun _ Eb => ?_; clear J K' hE a q15
  refine M2 Eb 13 15 fun K' J ρ q13 q15 => ?_; go_simp; (try go_bits)
  refine Ln Eb J fun _ Ea => ?_; clear J K' Eb q13 q15
  refine Lp fun K' J => ?_
  have r18 := Ea.at 18 rfl
  refine wp_load_mid 62 (.tmp 18) rfl bx (ox + k * 6) (eval_of r18) hr.cells _ hrx Tryd.underlying62 rfl (by kernel_rfl) ?_
  (try clear r18)
  refine Ln Ea J fun _ Eb => ?_; clear J K' Ea
  refine Go.Proofs.YtkhmcofmjjmjhaaDoor.M0 fun K' J ρ => ?_; go_simp;
  refine Ln Eb J fun _ Ea => ?_; clear J K' Eb
  refine M1 Ea 17 fun K' J ρ q17 => ?_; go_simp
  refine Ln Ea J fun _ Eb => ?_; clear J K' Ea q17
  refine Lp fun K' J => ?_
  have r5 := Eb.at 5 rfl; have r19 := Eb.at 19 rfl
  refine wp_store_mid 62 (.tmp 5) (.tmp 19) rfl wr.heap.size 0 hr.cells.toArray (eval_of r5) (eval_of r19) (there_row (row_new wr _ _) (Nat.le_of_eq rfl)) (by kernel_rfl) (by kernel_rfl) ?_
  (try clear r5 r19)
  refine late_skip Eb J (fun _ Ea => ?_); clear J K'; clear Eb
  refine Ld [1, 2, 3, 4, 5, 13, 14, 15, 44] Ea hK fun a hE => ?_; clear hK K Q' Ea
  obtain ⟨Q, hQ⟩ : ∃ B, B = wr.heap.size := ⟨_, rfl⟩
  rw [← hQ] at hE
  refine world_cut (fun wt => Below wr.heap.size wr wt ∧ Cells wt Q hr.cells) (by rw [hQ]; exact boxed_new wr #[.int .i64 0, .int .i64 0, .int .i64 0, .int .i64 0, .int .i64 0, .int .i64 0] 62 hr.cells rfl) (fun w4 hCut => ?_)
  obtain ⟨h4, hCQ⟩ := hCut
  have hCB4 := hCBr.below h4
  clear hQ
  have d0 := hCB4.2 0 _ rfl
  have d1 := hCB4.2 1 _ rfl
  have d2 := hCB4.2 2 _ rfl
  have d3 := hCB4.2 3 _ rfl
  have d4 := hCB4.2 4 _ rfl
  have hbw4 := hbr.trans (h4.mono hbr.size)
  refine Ks ?_
  refine Rs 6 fun Q' K hK => ?_
  refine Lp fun K' J => ?_
  have r5 := hE.at 5 rfl
  refine wp_load_mid 62 (.tmp 5) rfl Q 0 (eval_of r5) [.int .i64 hr.n1, .int .i64 hr.n2, .int .i64 hr.w1, .int .i64 hr.w2, .int .i64 hr.s1, .int .i64 hr.s2] _ (fun j u hu => by rw [Nat.zero_add]; exact hCQ.2 j u hu) Tryd.underlying62 rfl (by kernel_rfl) ?_
  (try clear r5)
  refine Ln hE J fun _ Eb => ?_; clear J K' hE a
  refine M1 Eb 1 fun K' J ρ q1 => ?_; go_simp
  refine Ln Eb J fun _ Ea => ?_; clear J K' Eb q1
  refine M1 Ea 21 fun K' J ρ q21 => ?_; go_simp
  refine Ln Ea J fun _ Eb => ?_; clear J K' Ea q21
  refine M2 Eb 20 22 fun K' J ρ q20 q22 => ?_; go_simp
  refine Ln Eb J fun _ Ea => ?_; clear J K' Eb q20 q22
  refine Go.Proofs.YtkhmcofmjjmjhaaDoor.M0 fun K' J ρ => ?_; go_simp;
  refine Ln Ea J fun _ Eb => ?_; clear J K' Ea
  refine Lp fun K' J => ?_
  have r6 := Eb.at 6 rfl; have r23 := Eb.at 23 rfl
  refine wp_store_mid 113 (.tmp 6) (.tmp 23) rfl w4.heap.size 0 (hpV none 0 none 0 ⟨hr, b.sl, [], []⟩).toArray (eval_of r6) (eval_of r23) (there_row (row_new w4 _ _) (Nat.le_of_eq rfl)) (by kernel_rfl) (by kernel_rfl) ?_
  (try clear r6 r23)
  refine late_skip Eb J (fun _ Ea => ?_); clear J K'; clear Eb
  refine Ld [1, 2, 3, 4, 6, 13, 14, 15, 44] Ea hK fun a hE => ?_; clear hK K Q' Ea
  obtain ⟨Hb, hHb⟩ : ∃ B, B = w4.heap.size := ⟨_, rfl⟩
  rw [← hHb] at hE
  have hnH : wr.heap.size ≤ Hb := by rw [hHb]; exact h4.size
  refine world_cut (fun wt => Below wr.heap.size wr wt ∧ HrS Hb Hb ⟨hr, b.sl, seenAt (b.sights.take 0) k, []⟩ wt none 0 none 0) ?_ (fun w5 hCut => ?_)
  ·rw [hHb]; have q := boxed_new w4 #[.int .i64 0, .int .i64 0, .int .i64 0, .int .i64 0, .int .i64 0, .int .i64 0, .int .i64 0, .int .i64 0, .int .i64 0, .int .i64 0, .int .i64 0, .slice none 0 0, .slice none 0 0] 113 (hpV none 0 none 0 ⟨hr, b.sl, [], []⟩) rfl; exact ⟨h4.trans (q.1.mono h4.size), Nat.le_refl _, q.2.1, row_all (row_new w4 #[.int .i64 0, .int .i64 0, .int .i64 0, .int .i64 0, .int .i64 0, .int .i64 0, .int .i64 0, .int .i64 0, .int .i64 0, .int .i64 0, .int .i64 0, .slice none 0 0, .slice none 0 0] 113) rfl, own_nil _ _ _ _, own_nil _ _ _ _⟩
  obtain ⟨h5, hX⟩ := hCut
  have hbw5' := hbr.trans (h5.mono hbr.size)
  have d8 := (hCBr.below h5).2 8 _ rfl
  clear hHb d0 d1 d2 d3 d4 hCQ hCB4 h4
  refine Ks ?_
  refine Rs 4 fun Q' K hK => ?_
  refine M1 hE 1 fun K' J ρ q1 => ?_; go_simp
  refine Ln hE J fun _ Eb => ?_; clear J K' hE a q1
  refine M1 Eb 24 fun K' J ρ q24 => ?_; go_simp
  refine Ln Eb J fun _ Ea => ?_; clear J K' Eb q24
  refine M1 Ea 25 fun K' J ρ q25 => ?_; go_simp; (try go_bits)
  refine Ln Ea J fun _ Eb => ?_; clear J K' Ea q25
  refine Go.Proofs.YtkhmcofmjjmjhaaDoor.M0 fun K' J ρ => ?_; go_simp;
  refine Ln Eb J fun _ Ea => ?_; clear J K' Eb
  refine Ld [1, 2, 3, 4, 6, 13, 14, 15, 25, 26, 27, 44] Ea hK fun a hE => ?_; clear hK K Q' Ea
  refine Ks ?_
  clear d8
  refine loop_st (fun (j : Nat) a w' => ∃ (S' : Option Addr) (sc : Nat), j ≤ b.sights.length ∧ FitsD (rmarks ds) 64 [(1, .pointer (some ⟨B, 0, none⟩)), (2, .pointer (some ⟨R, 0, none⟩)), (3, .pointer (some ⟨C, 0, none⟩)), (4, .int .i64 k), (6, .pointer (some ⟨Hb, 0, none⟩)), (13, .slice (some ⟨bx, ox, none⟩) b.hours.length hcap), (14, .int .i64 b.hours.length), (15, .int .i64 k), (25, .slice S b.sights.length scap), (26, .int .i64 b.sights.length), (27, .int .i64 j)] a ∧ Below wr.heap.size wr w' ∧ HrS Hb Hb ⟨hr, b.sl, seenAt (b.sights.take j) k, []⟩ w' S' sc none 0) (fun j => b.sights.length - j) 0 ⟨none, 0, Nat.zero_le _, by simpa using hE, h5, hX⟩ (fun j a ws hI => ?_)
  clear hE h5 hX
  obtain ⟨S', sc, hj, hE, hW, hX⟩ := hI
  have hbs := hbr.trans (hW.mono hbr.size)
  by_cases hjl : j < b.sights.length
  ·have hjlI : (j : Int) < b.sights.length := by omega
   have hAs := (hMr.below hW).2
   have HT := hid (seenAt_take b.sights k hjl)
   have hSL : (seenAt (b.sights.take j) k).length ≤ 6 := Nat.le_trans (List.length_filter_le _ _) (by simp; omega)
   obtain ⟨by', oy, hSe, hby, hry⟩ := ArrD.range (f := Si.cells) (m := 4) (fun _ => rfl) (by omega) hAs hjl
   obtain ⟨X, hXe⟩ : ∃ X, b.sights[j] = X := ⟨_, rfl⟩
   rw [hXe] at hry HT
   obtain ⟨ss, hss⟩ : ∃ ss, seenAt (b.sights.take j) k = ss := ⟨_, rfl⟩
   rw [hss] at HT hX hSL
   clear hXe hss
   have HS9 : Hid ((b.sights.length : Int) ≤ 9223372036854775807) := hid (by omega)
   have hS9 := HS9.out
   have hEs := hE
   rw [hSe] at hE
   clear hEs
   refine Ks ?_
   refine Rs 1 fun Q' K hK => ?_
   refine M2 hE 27 26 fun K' J ρ q27 q26 => ?_; go_simp; (try go_bits)
   refine Ln hE J fun _ Eb => ?_; clear J K' hE a q27 q26
   replace Eb := Eb.turn 28 (v' := .bool true) rfl (by (first | (simp; done) | (simp; omega)))
   refine Ld [1, 2, 3, 4, 6, 13, 14, 15, 25, 26, 27, 28, 44] Eb hK fun a hE => ?_; clear hK K Q' Eb
   refine Ks ?_
   refine cond_yes hE (t := 28) rfl ?_
   refine Ks ?_
   refine Rs 4 fun Q' K hK => ?_
   refine M2 hE 25 27 fun K' J ρ q25 q27 => ?_; go_simp; (try go_bits)
   refine Ln hE J fun _ Eb => ?_; clear J K' hE a q25 q27
   refine Lp fun K' J => ?_
   have r29 := Eb.at 29 rfl
   refine wp_load_mid 68 (.tmp 29) rfl by' (oy + j * 4) (eval_of r29) X.cells _ hry Tryd.underlying68 rfl (by kernel_rfl) ?_
   (try clear r29)
   refine Ln Eb J fun _ Ea => ?_; clear J K' Eb
   refine Go.Proofs.YtkhmcofmjjmjhaaDoor.M0 fun K' J ρ => ?_; go_simp;
   refine Ln Ea J fun _ Eb => ?_; clear J K' Ea
   refine Lp fun K' J => ?_
   have r8 := Eb.at 8 rfl; have r30 := Eb.at 30 rfl
   refine wp_store_mid 68 (.tmp 8) (.tmp 30) rfl ws.heap.size 0 X.cells.toArray (eval_of r8) (eval_of r30) (there_row (row_new ws _ _) (Nat.le_of_eq rfl)) (by kernel_rfl) (by kernel_rfl) ?_
   (try clear r8 r30)
   refine late_skip Eb J (fun _ Ea => ?_); clear J K'; clear Eb
   refine Ld [1, 2, 3, 4, 6, 8, 13, 14, 15, 25, 26, 27, 44] Ea hK fun a hE => ?_; clear hK K Q' Ea
   obtain ⟨F, hF⟩ : ∃ B, B = ws.heap.size := ⟨_, rfl⟩
   rw [← hF] at hE
   refine world_cut (fun wt => Below ws.heap.size ws wt ∧ Cells wt F X.cells) (by rw [hF]; exact boxed_new ws #[.int .i64 0, .bool false, .int .i64 0, .int .i64 0] 68 X.cells rfl) (fun w6 hCut => ?_)
   obtain ⟨h6, hCF⟩ := hCut
   have hX6 := hX.on h6
   have e0 := hCF.2 0 _ rfl
   have e11 := (hX6.row 11 _ rfl).1
   clear hF hry
   have hbw6 := hbs.trans (h6.mono hbs.size)
   refine Ks ?_
   refine Rs 4 fun Q' K hK => ?_
   refine M1 hE 8 fun K' J ρ q8 => ?_; go_simp
   refine Ln hE J fun _ Eb => ?_; clear J K' hE a q8
   refine M1 Eb 31 fun K' J ρ q31 => ?_; go_simp
   refine Ln Eb J fun _ Ea => ?_; clear J K' Eb q31
   refine M1 Ea 4 fun K' J ρ q4 => ?_; go_simp
   refine Ln Ea J fun _ Eb => ?_; clear J K' Ea q4
   refine M2 Eb 32 33 fun K' J ρ q32 q33 => ?_; go_simp; (try go_bits)
   refine Ln Eb J fun _ Ea => ?_; clear J K' Eb q32 q33
   refine Ld [1, 2, 3, 4, 6, 8, 13, 14, 15, 25, 26, 27, 34, 44] Ea hK fun a hE => ?_; clear hK K Q' Ea
   refine Ks ?_
   have hW6 := hW.trans (h6.mono hW.size)
   refine cond_part hE (t := 34) rfl (fun h => ?_) (fun h => ?_)
   ·have hq : X.hour = (k : Int) := by simpa using h
    clear h
    refine Ks ?_
    refine Rs 7 fun Q' K hK => ?_
    refine M1 hE 6 fun K' J ρ q6 => ?_; go_simp
    refine Ln hE J fun _ Eb => ?_; clear J K' hE a q6
    refine M1 Eb 35 fun K' J ρ q35 => ?_; go_simp
    refine Ln Eb J fun _ Ea => ?_; clear J K' Eb q35
    refine Lp fun K' J => ?_
    have r8 := Ea.at 8 rfl
    refine wp_load_mid 68 (.tmp 8) rfl F 0 (eval_of r8) X.cells _ (fun j u hu => by rw [Nat.zero_add]; exact hCF.2 j u hu) Tryd.underlying68 rfl (by kernel_rfl) ?_
    (try clear r8)
    refine Ln Ea J fun _ Eb => ?_; clear J K' Ea
    refine Lp fun K' J => ?_
    have r37 := Eb.at 37 rfl
    refine wp_buildOne 27 68 (.tmp 37) rfl X.cells 4 (eval_of r37) Tryd.underlying27 (by kernel_rfl) (by kernel_rfl) rfl (by decide) (by decide) ?_
    (try clear r37)
    refine Ln Eb J fun _ Ea => ?_; clear J K' Eb
    refine Lp fun K' J => ?_
    have r36 := Ea.at 36 rfl; have r38 := Ea.at 38 rfl
    refine wp_appN (.tmp 36) (.tmp 38) 27 rfl (Hb + 1) 68 (.agg #[.int .i64 0, .bool false, .int .i64 0, .int .i64 0]) 4 32 Tryd.underlying27 (by kernel_rfl) rfl (by decide) _ _ _ (eval_of r36) (hX6.si.alloc _) (w6.heap.size + 1) (some ⟨w6.heap.size, 0, none⟩) 1 1 X.cells (eval_of r38) (arr_new w6 _ _) rfl (by intro u hu; simp [Si.cells] at hu; rcases hu with rfl | rfl | rfl | rfl <;> rfl) (by simp only [maxLen]; omega) (by simp only; omega) (by have := hX6.lt; simp; omega) (fun A2 c2 w7 q1 q2 q3 q4 q5 => ?_)
    have hsn := hX6.seen X q3 q4
    have y11 := hsn.2.2
    (try clear r36 r38)
    refine Ln Ea J fun _ Eb => ?_; clear J K' Ea
    refine M1 Eb 6 fun K' J ρ q6 => ?_; go_simp
    refine Ln Eb J fun _ Ea => ?_; clear J K' Eb q6
    refine M2 Ea 40 39 fun K' J ρ q40 q39 => ?_; go_simp; (try clear q40 q39)
    refine late_skip Ea J (fun _ Eb => ?_); clear J K'; clear Ea
    refine Ld [1, 2, 3, 4, 6, 13, 14, 15, 25, 26, 27, 44] Eb hK fun a hE => ?_; clear hK K Q' Eb
    refine world_cut (fun wt => Below wr.heap.size wr wt ∧ HrS Hb Hb ⟨hr, b.sl, seenAt (b.sights.take (j + 1)) k, []⟩ wt A2 c2 none 0) ⟨hW6.trans (hsn.2.1.mono hnH), by rw [HT.out, if_pos hq]; exact hsn.1⟩ (fun w8 hCut => ?_)
    obtain ⟨hW8, hX8⟩ := hCut
    clear y11 hsn q1 q2 q3 q4 q5
    refine Ks ?_
    refine Rs 2 fun Q' K hK => ?_
    refine M1 hE 27 fun K' J ρ q27 => ?_; go_simp; (try go_bits); (try simp (disch := omega) only [IntWalk.i64_in])
    refine Ln hE J fun _ Eb => ?_; clear J K' hE a q27
    refine M1 Eb 41 fun K' J ρ q41 => ?_; go_simp
    refine Ln Eb J fun _ Ea => ?_; clear J K' Eb q41
    refine Ld [1, 2, 3, 4, 6, 13, 14, 15, 25, 26, 27, 44] Ea hK fun a hE => ?_; clear hK K Q' Ea
    refine Ks ?_
    exact ⟨j + 1, ⟨A2, c2, hjl, by rw [← hSe] at hE; simpa using hE, hW8, hX8⟩, by omega⟩
   ·have hq : ¬ X.hour = (k : Int) := by simpa using h
    clear h
    refine Ks ?_
    refine Rs 2 fun Q' K hK => ?_
    refine M1 hE 27 fun K' J ρ q27 => ?_; go_simp; (try go_bits); (try simp (disch := omega) only [IntWalk.i64_in])
    refine Ln hE J fun _ Eb => ?_; clear J K' hE a q27
    refine M1 Eb 41 fun K' J ρ q41 => ?_; go_simp
    refine Ln Eb J fun _ Ea => ?_; clear J K' Eb q41
    refine Ld [1, 2, 3, 4, 6, 13, 14, 15, 25, 26, 27, 44] Ea hK fun a hE => ?_; clear hK K Q' Ea
    refine Ks ?_
    exact ⟨j + 1, ⟨S', sc, hjl, by rw [← hSe] at hE; simpa using hE, hW6, by rw [HT.out, if_neg hq, List.append_nil]; exact hX6⟩, by omega⟩
  ·have hje : j = b.sights.length := by omega
   subst hje
   rw [List.take_length] at hX
   obtain ⟨ss, hss⟩ : ∃ ss, seenAt b.sights k = ss := ⟨_, rfl⟩
   have HX : Hid ((hpsOf b)[k]'(by rw [HLEN.out]; exact hlt) = ⟨hr, b.sl, ss, nub (bringP (srcs ⟨hr, b.sl, ss, []⟩) [])⟩) := hid (by rw [HBR.out, ← hss]; rfl)
   have HSS := hid (HSR.out ss [])
   rw [hss] at hX
   clear hss
   have hrw := hX.row
   have hlH := hX.lt
   refine Ks ?_
   refine Rs 1 fun Q' K hK => ?_
   refine M2 hE 27 26 fun K' J ρ q27 q26 => ?_; go_simp; (try go_bits)
   refine Ln hE J fun _ Eb => ?_; clear J K' hE a q27 q26
   replace Eb := Eb.turn 28 (v' := .bool false) rfl (by simp)
   refine Ld [1, 2, 3, 4, 6, 13, 14, 15, 25, 26, 27, 28, 44] Eb hK fun a hE => ?_; clear hK K Q' Eb
   refine Ks ?_
   refine cond_no hE (t := 28) rfl ?_
   refine Ks ?_
   refine Rs 2 fun Q' K hK => ?_
   refine Lp fun K' J => ?_
   have r6 := hE.at 6 rfl
   refine wp_load_mid 113 (.tmp 6) rfl Hb 0 (eval_of r6) (hpV S' sc none 0 ⟨hr, b.sl, ss, []⟩) _ (fun j u hu => by rw [Nat.zero_add]; exact (hrw j u hu).1) Tryd.underlying113 rfl (by kernel_rfl) ?_
   (try clear r6)
   refine Ln hE J fun _ Eb => ?_; clear J K' hE a
   refine M1 Eb 42 fun K' J ρ q42 => ?_; go_simp; (try go_bits); (try clear q42)
   go_at_call 80; refine (brought_any S' sc none 0 ⟨hr, b.sl, ss, []⟩ _).mono ?_; rintro e w9 ⟨B9, rfl, hnB9, hCB9, h9⟩
   (try clear r42)
   refine Ln Eb J fun _ Ea => ?_; clear J K' Eb
   refine Ld [1, 2, 3, 6, 13, 14, 15, 43, 44] Ea hK fun a hE => ?_; clear hK K Q' Ea
   have hX9 := hX.on h9
   have hW9 := hW.trans (h9.mono hW.size)
   have hs9 := h9.size
   have hsW9 := hW9.size
   have hHS : Hb < w9.heap.size := hX9.lt
   have HSI := hid (own_lt2 hX9.si)
   have hseq := brought_seq (M0 := fun q => q = Hb ∨ (none : Option Addr).map (·.block) = some q) HSS.out hCB9 (by rintro (h | h); (omega); (cases h))
   obtain ⟨XS, hXS⟩ : ∃ XS, bringP (srcs ⟨hr, b.sl, ss, []⟩) [] = XS := ⟨_, rfl⟩
   rw [hXS] at hseq HX
   have HXL : Hid (nub XS = XS.foldl nubS []) := hid rfl
   have HLB : Hid (∀ pre, pre <+: XS → (pre.foldl nubS []).length ≤ 64) := hid (fun pre hp => by
    have h1 := bringP_len (srcs ⟨hr, b.sl, ss, []⟩) [] (HNA.out ss [])
    have h2 := nub_len pre
    have h3 := hp.length_le
    rw [hXS] at h1
    unfold nub at h2
    have h4 : (4 : Nat) ^ (srcs ⟨hr, b.sl, ss, []⟩).length = 64 := rfl
    omega)
   clear hX hrw hlH h9
   refine Ks ?_
   refine wp_rangeR (gf := 93) (lb := #[.pointer (some ⟨B9, 0, none⟩)]) (hE.eval 43 rfl) (enters_of Tryd.func93 (by kernel_rfl) rfl) hseq (Below.refl _ _) (by rintro x vs V rfl; rfl)
    (fun pre M V => ∃ G gc, M = (fun q => q = Hb ∨ G.map (·.block) = some q) ∧ HrS Hb Hb ⟨hr, b.sl, ss, pre.foldl nubS []⟩ V S' sc G gc ∧ Below wr.heap.size wr V) (fun _ _ _ => False) ?hI (fun _ _ _ _ h _ _ => h) ?hIM ?h0
    (fun x a' V => Fits 64 [(9, .int .i64 x), (6, .pointer (some ⟨Hb, 0, none⟩))] a') ?hAx ?assign ?body ?done (fun _ _ _ _ _ _ _ h _ => h.elim)
   case hI =>
    rintro s M X Y ⟨G, gc, rfl, h1, h2⟩ hb hm
    exact ⟨G, gc, rfl, ⟨h1.ge, Nat.lt_of_lt_of_le h1.lt hb.size, row_of_block h1.row (hm Hb (.inl rfl)), own_of_block h1.si hb.size (fun g hg => hb.block g (HSI.out g hg)), own_of_block h1.br hb.size (fun g hg => hm g (.inr (by rwa [ownB2] at hg)))⟩, h2.trans (hb.mono hW9.size)⟩
   case hIM =>
    rintro s M X ⟨G, gc, rfl, h1, h2⟩ q hq
    rcases hq with rfl | hq
    ·exact h1.lt
    ·exact own_lt2 h1.br q (by rwa [ownB2])
   case h0 => exact ⟨none, 0, rfl, hX9, hW9⟩
   case hAx => exact fun _ _ _ _ _ _ _ _ h => h
   case assign =>
    rintro l pre x M V vs K _ hs' rfl hK
    have hE2 := fits_round hE 44 (.int .i64 x) (by decide)
    clear hE
    obtain ⟨a', ha⟩ : ∃ a', a' = (⟨((#[44] : Array Nat).zip #[.int .i64 x]).foldl (fun t (p, v) => t.setIfInBounds p v) a.tmps, []⟩ : Act) := ⟨_, rfl⟩
    rw [← ha] at hE2 ⊢
    clear ha a
    revert hE2; revert a'; intro a hE
    refine region_straight_in (n := 1) rfl (by kernel_rfl) (fun Q' K hK => ?_)
    refine M1 hE 44 fun K' J ρ q44 => ?_; go_simp
    refine Ln hE J fun _ Eb => ?_; clear J K' hE a q44
    refine Ld [9, 6] Eb hK fun a hE => ?_; clear hK K Q' Eb
    refine KsI ?_
    exact hK _ _ (Below.refl _ _) hE
   case body =>
    clear hE a
    rintro l pre x M a V hs' ⟨G, gc, rfl, h1, h2⟩ hE hp
    have hpl := HLB.out pre ((List.prefix_append pre [x]).trans hp)
    have HSN : Hid ((pre ++ [x]).foldl nubS [] = nubS (pre.foldl nubS []) x) := hid (by rw [List.foldl_append]; rfl)
    obtain ⟨bs, hbs⟩ : ∃ bs, pre.foldl nubS [] = bs := ⟨_, rfl⟩
    rw [hbs] at h1 hpl HSN
    clear hbs
    have e12 := (h1.row 12 _ rfl).1
    have HCO := hid (contains_any G gc bs x V (own_arr h1.br) (by omega))
    obtain ⟨q, hq⟩ : ∃ q, bs.contains x = q := ⟨_, rfl⟩
    rw [hq] at HCO
    refine KsI ?_
    refine region_straight_in (n := 5) rfl (by kernel_rfl) (fun Q' K hK => ?_)
    refine M1 hE 6 fun K' J ρ q6 => ?_; go_simp
    refine Ln hE J fun _ Eb => ?_; clear J K' hE a q6
    refine M1 Eb 45 fun K' J ρ q45 => ?_; go_simp
    refine Ln Eb J fun _ Ea => ?_; clear J K' Eb q45
    refine M1 Ea 9 fun K' J ρ q9 => ?_; go_simp
    refine Ln Ea J fun _ Eb => ?_; clear J K' Ea q9
    refine M2 Eb 46 47 fun K' J ρ q46 q47 => ?_; go_simp; (try go_bits); (try clear q46 q47)
    go_at_call 81; refine (HCO.out).mono ?_; rintro e w5 ⟨rfl, rfl⟩
    (try clear r46 r47)
    refine Ln Eb J fun _ Ea => ?_; clear J K' Eb
    refine M1 Ea 48 fun K' J ρ q48 => ?_; go_simp; (try go_bits); (try simp (disch := omega) only [IntWalk.i64_in])
    refine Ln Ea J fun _ Eb => ?_; clear J K' Ea q48
    refine Ld [6, 9, 49] Eb hK fun a hE => ?_; clear hK K Q' Eb
    refine KsI ?_
    refine condI_part hE (t := 49) rfl (fun h => ?_) (fun h => ?_)
    ·have hq0 : q = false := by simpa using h
     have HNB : Hid (nubS bs x = bs ++ [x]) := hid (by unfold nubS; rw [hq, hq0]; rfl)
     clear h
     refine KsI ?_
     refine region_straight_in (n := 7) rfl (by kernel_rfl) (fun Q' K hK => ?_)
     refine M1 hE 6 fun K' J ρ q6 => ?_; go_simp
     refine Ln hE J fun _ Eb => ?_; clear J K' hE a q6
     refine M1 Eb 50 fun K' J ρ q50 => ?_; go_simp
     refine Ln Eb J fun _ Ea => ?_; clear J K' Eb q50
     refine M1 Ea 9 fun K' J ρ q9 => ?_; go_simp
     refine Ln Ea J fun _ Eb => ?_; clear J K' Ea q9
     refine M1 Eb 52 fun K' J ρ q52 => ?_; go_simp
     refine Ln Eb J fun _ Ea => ?_; clear J K' Eb q52
     refine Lp fun K' J => ?_
     have r51 := Ea.at 51 rfl; have r53 := Ea.at 53 rfl
     refine wp_appN (.tmp 51) (.tmp 53) 40 rfl (Hb + 1) 3 (.int .i64 0) 1 8 Tryd.underlying40 (by kernel_rfl) rfl (by decide) _ _ _ (eval_of r51) (h1.br.alloc _) (V.heap.size + 1) (some ⟨V.heap.size, 0, none⟩) 1 1 [.int .i64 x] (eval_of r53) (arr_new V _ _) rfl (by intro u hu; simp at hu; subst hu; rfl) (by simp only [maxLen]; omega) (by simp only; omega) (by have := h1.lt; simp; omega) (fun A2 c2 w7 q1 q2 q3 q4 q5 => ?_)
     have hsn := h1.more x q3 q4 q5
     have y12 := hsn.2.2.1
     (try clear r51 r53)
     refine Ln Ea J fun _ Eb => ?_; clear J K' Ea
     refine M1 Eb 6 fun K' J ρ q6 => ?_; go_simp
     refine Ln Eb J fun _ Ea => ?_; clear J K' Eb q6
     refine M2 Ea 55 54 fun K' J ρ q55 q54 => ?_; go_simp; (try clear q55 q54)
     refine late_skip Ea J (fun _ Eb => ?_); clear J K'; clear Ea
     refine Ld [6] Eb hK fun a hE => ?_; clear hK K Q' Eb
     refine KsI ?_
     exact ⟨hsn.2.2.2.1, _, ⟨A2, c2, rfl, by rw [HSN.out, HNB.out]; exact hsn.1, h2.trans (hsn.2.1.mono hnH)⟩, hsn.2.2.2.2⟩
    ·have hq0 : q = true := by simpa using h
     have HNB : Hid (nubS bs x = bs) := hid (by unfold nubS; rw [hq, hq0]; rfl)
     clear h
     refine KsI ?_
     exact ⟨KeepA.refl _ _, _, ⟨G, gc, rfl, by rw [HSN.out, HNB.out]; exact h1, h2⟩, Grow.refl _ _⟩
   case done =>
    rintro D M V hD hMD ⟨G, gc, rfl, h1, h2⟩ hK
    replace hE := FitsD.mark (ds := ds) (d := D) hE
    rw [← HXL.out, ← HX.out] at h1
    have hPV := hP.on h2
    have e9 := (hPV.row 9 _ rfl).1
    have hrow1 := h1.row
    have hlC := hPV.lt
    refine Ks ?_
    refine Rs 7 fun Q' K hK => ?_
    refine M1 hE 3 fun K' J ρ q3 => ?_; go_simp
    refine Ln hE J fun _ Eb => ?_; clear J K' hE a q3
    refine M1 Eb 56 fun K' J ρ q56 => ?_; go_simp
    refine Ln Eb J fun _ Ea => ?_; clear J K' Eb q56
    refine Lp fun K' J => ?_
    have r6 := Ea.at 6 rfl
    refine wp_load_mid 113 (.tmp 6) rfl Hb 0 (eval_of r6) (hpV S' sc G gc ((hpsOf b)[k]'(by rw [HLEN.out]; exact hlt))) _ (fun j u hu => by rw [Nat.zero_add]; exact (hrow1 j u hu).1) Tryd.underlying113 rfl (by kernel_rfl) ?_
    (try clear r6)
    refine Ln Ea J fun _ Eb => ?_; clear J K' Ea
    refine Lp fun K' J => ?_
    have r58 := Eb.at 58 rfl
    refine wp_buildOne 83 113 (.tmp 58) rfl (hpV S' sc G gc ((hpsOf b)[k]'(by rw [HLEN.out]; exact hlt))) 13 (eval_of r58) Tryd.underlying83 (by kernel_rfl) (by kernel_rfl) rfl (by decide) (by decide) ?_
    (try clear r58)
    refine Ln Eb J fun _ Ea => ?_; clear J K' Eb
    refine Lp fun K' J => ?_
    have r57 := Ea.at 57 rfl; have r59 := Ea.at 59 rfl
    refine wp_appN (.tmp 57) (.tmp 59) 83 rfl (C + 1) 113 (.agg #[.int .i64 0, .int .i64 0, .int .i64 0, .int .i64 0, .int .i64 0, .int .i64 0, .int .i64 0, .int .i64 0, .int .i64 0, .int .i64 0, .int .i64 0, .slice none 0 0, .slice none 0 0]) 13 136 Tryd.underlying83 (by kernel_rfl) rfl (by decide) _ _ _ (eval_of r57) (hPV.own.alloc _) (V.heap.size + 1) (some ⟨V.heap.size, 0, none⟩) 1 1 (hpV S' sc G gc ((hpsOf b)[k]'(by rw [HLEN.out]; exact hlt))) (eval_of r59) (arr_new V _ _) rfl (by intro u hu; simp [hpV] at hu; rcases hu with rfl | rfl | rfl | rfl | rfl | rfl | rfl | rfl | rfl | rfl | rfl | rfl | rfl <;> rfl) (by simp only [maxLen]; omega) (by omega) (by simp; omega) (fun A2 c2 w7 q1 q2 q3 q4 q5 => ?_)
    have hlow : Below (C + 1) V w7 := ((Below.refl (C + 1) V).alloc (by omega) _).grown q4 (by simp; omega) (fun k e => ownBlock_le hPV.own k e)
    have y9 := ((row_of_block hPV.row (hlow.block C (by omega))) 9 _ rfl).2
    (try clear r57 r59)
    refine Ln Ea J fun _ Eb => ?_; clear J K' Ea
    refine M1 Eb 3 fun K' J ρ q3 => ?_; go_simp
    refine Ln Eb J fun _ Ea => ?_; clear J K' Eb q3
    refine M2 Ea 61 60 fun K' J ρ q61 q60 => ?_; go_simp; (try clear q61 q60)
    refine late_skip Ea J (fun _ Eb => ?_); clear J K'; clear Ea
    refine Ld [1, 2, 3, 13, 14, 15] Eb hK fun a hE => ?_; clear hK K Q' Eb
    have hlW := hP.lt
    have hsn := hPV.snoc (by rw [HLEN.out]; exact hlt) hnC (by omega) h1 q1 q3 q4
    have hmk : ∀ d, V.heap[d]? = some (Obj.deferred (some [])) → (w7.setCell ⟨C, 9, none⟩ (.slice A2 (k + 1) c2)).heap[d]? = some (Obj.deferred (some [])) := fun d hd => by
     have hdC := row_not hPV.row (by simp [bkV]) hd
     have hdV : d < V.heap.size := heap_lt hd
     refine (Below.heap_setCell _ _ _ _ hdC).trans ((q4.block d (by simp; omega) (fun e => own_not hPV.own hd e.symm)).trans ((Below.heap_alloc _ _ _ hdV).trans hd))
    refine world_cut (fun wt => PrS H hcap S scap b C w1 (k + 1) A2 c2 (ps ++ [((hpsOf b)[k]'(by rw [HLEN.out]; exact hlt), S', sc, G, gc)]) wt ∧ ∀ d ∈ D :: ds, w1.heap.size ≤ d ∧ wt.heap[d]? = some (.deferred (some []))) ⟨hsn, fun d hd => ?_⟩ (fun w8 hCut => ?_)
    ·rcases List.mem_cons.1 hd with rfl | hd
     ·exact ⟨by have := hP.below.size; omega, hmk d hK⟩
     ·exact ⟨(hds d hd).1, hmk d (heap_kept (hds d hd).2 h2)⟩
    obtain ⟨hP8, hds8⟩ := hCut
    have hnd8 : (D :: ds).Nodup := List.nodup_cons.2 ⟨fun hm => by have := heap_lt (hds D hm).2; omega, hnd⟩
    clear q1 q2 q3 q4 q5 y9 hlow hsn hmk hPV h1 e9 hrow1 hlC hP hds
    refine Ks ?_
    refine Rs 2 fun Q' K hK => ?_
    refine M1 hE 15 fun K' J ρ q15 => ?_; go_simp; (try go_bits); (try simp (disch := omega) only [IntWalk.i64_in])
    refine Ln hE J fun _ Eb => ?_; clear J K' hE a q15
    refine M1 Eb 62 fun K' J ρ q62 => ?_; go_simp
    refine Ln Eb J fun _ Ea => ?_; clear J K' Eb q62
    refine Ld [1, 2, 3, 13, 14, 15] Ea hK fun a hE => ?_; clear hK K Q' Ea
    refine Ks ?_
    exact ⟨k + 1, ⟨D :: ds, A2, c2, _, hlt, by rw [← hHe] at hE; simpa using hE, hP8, hnd8, hds8⟩, by omega⟩
 ·have hke : k = b.hours.length := by omega
  subst hke
  obtain ⟨hlR, zs, hzs, hRR⟩ := hRD.below hP.below
  have hrC := hP.row
  have HPS := hid hP.hps
  rw [hP.len, List.take_of_length_le (by rw [HLEN.out]; exact Nat.le_refl _)] at HPS
  have hs1 := hbw1.size
  have hRC : R < C := by have := hRD.1; omega
  refine Ks ?_
  refine Rs 1 fun Q' K hK => ?_
  refine M2 hE 15 14 fun K' J ρ q15 q14 => ?_; go_simp; (try go_bits)
  refine Ln hE J fun _ Eb => ?_; clear J K' hE a q15 q14
  replace Eb := Eb.turn 16 (v' := .bool false) rfl (by simp)
  refine Ld [1, 2, 3, 13, 14, 15, 16, 44] Eb hK fun a hE => ?_; clear hK K Q' Eb
  refine Ks ?_
  refine cond_no hE (t := 16) rfl ?_
  refine Ks ?_
  refine Rs 2 fun Q' K hK => ?_
  refine Lp fun K' J => ?_
  have r3 := hE.at 3 rfl
  refine wp_load_mid 85 (.tmp 3) rfl C 0 (eval_of r3) (bkV H hcap S scap b A b.hours.length c) _ (fun j u hu => by rw [Nat.zero_add]; exact (hrC j u hu).1) Tryd.underlying85 rfl (by kernel_rfl) ?_
  (try clear r3)
  refine Ln hE J fun _ Eb => ?_; clear J K' hE a
  refine Lp fun K' J => ?_
  have r2 := Eb.at 2 rfl; have r63 := Eb.at 63 rfl
  refine wp_store_mid 85 (.tmp 2) (.tmp 63) rfl R 0 (bkV H hcap S scap b A b.hours.length c).toArray (eval_of r2) (eval_of r63) (there_row hRR (by rw [hzs]; exact Nat.le_refl _)) (by kernel_rfl) (by kernel_rfl) ?_
  (try clear r2 r63)
  refine late_skip Eb J (fun _ Ea => ?_); clear J K'; clear Eb
  refine Ld [2] Ea hK fun a hE => ?_; clear hK K Q' Ea
  obtain ⟨q1, q2, q3, q4⟩ := cells_stored hRR (vs := bkV H hcap S scap b A b.hours.length c) (by rw [hzs]; rfl) hlR hnR hbr
  refine world_cut (fun wt => Cells wt R (bkV H hcap S scap b A b.hours.length c) ∧ Below w.heap.size w wt ∧ HpsN w.heap.size wt A (hpsOf b) ∧ ∀ d ∈ ds, w.heap.size ≤ d ∧ wt.heap[d]? = some (.deferred (some []))) ⟨q1, q2, ?_, fun d hd => ⟨by have := (hds d hd).1; omega, (q3 d (row_not hRR (by rw [hzs]; decide) (hds d hd).2)).trans (hds d hd).2⟩⟩ (fun w9 hCut => ?_)
  ·exact (HPS.out.keep (Nat.le_of_eq q4.symm) (fun p u hp hu => (World.cell?_of_block (q3 p.block (by omega))).trans hu)).less (by omega)
  obtain ⟨hC9, hb9, hps9, hds9⟩ := hCut
  refine Ks ?_
  have hRn : R ∉ ds := fun hm => by
   have := (hds9 R hm).2
   have c0 := hC9.2 0 _ rfl
   simp [World.cell?, this] at c0
  have g := hE.at 2 rfl
  have hd2 : ∀ d ∈ ds, w9.heap[d]? = some (.deferred (some [])) := fun d hd => (hds9 d hd).2
  refine ret_M hE hnd hd2 (v := .agg (bkV H hcap S scap b A b.hours.length c).toArray) (fun W hW' => ?_) ⟨⟨A, c, by rw [HLEN.out], hps9.keep (size_taken _ _) (fun p u _ hu => cell_taken hd2 hu)⟩, taken_below _ _ _ (fun d hd => (hds9 d hd).1) hb9.size hb9⟩
  exact res_cell rfl g (fun j u hu => (World.cell?_of_block (w := w9) (a := ⟨R, j, none⟩) (hW' R hRn)).trans (hC9.2 j u hu)) Tryd.underlying85 rfl (by kernel_rfl)
end
end Go.Proofs.YtkhmcofmjjmjhaaDoor
