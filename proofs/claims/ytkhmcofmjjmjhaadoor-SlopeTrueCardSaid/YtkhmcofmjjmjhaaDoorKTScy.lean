/- Slope: a book whose sights are right in what happened. -/
import Derived.Test.YtkhmcofmjjmjhaaDoorKTScq

namespace Go.Proofs.YtkhmcofmjjmjhaaDoor
set_option linter.unusedSimpArgs false
set_option linter.unusedVariables false
open Go Go.RowKit
attribute [local go_sem high] cell_set_wr
attribute [local go_sem low] cell_wr frozen_wr
attribute [local go_sem] wr_set wr_drew wr_drewN wr_alloc wr_new Rho.c Rho.n Rho.g
/-- the two lists of what happened -/
def lvs (t : List (Nat × Bool)) : List Value := t.map fun p => .int .i64 p.1
def fvs (t : List (Nat × Bool)) : List Value := t.map fun p => .bool p.2
theorem ArrD.lv {w : World} {A : Option Addr} {t : List (Nat × Bool)} (h : ArrD w A (lvs t)) {k : Nat} (hk : k < t.length) : ∃ b o, A = some ⟨b, o, none⟩ ∧ b < w.heap.size ∧ w.cell? ⟨b, o + k, none⟩ = some (.int .i64 t[k].1) := by
 obtain ⟨b, o, h1, h2, h3⟩ := h (fun e => by have := congrArg List.length e; simp [lvs] at this; subst this; simp at hk)
 exact ⟨b, o, h1, h2, h3 k _ (by simp [lvs, hk])⟩
theorem ArrD.fv {w : World} {A : Option Addr} {t : List (Nat × Bool)} (h : ArrD w A (fvs t)) {k : Nat} (hk : k < t.length) : ∃ b o, A = some ⟨b, o, none⟩ ∧ b < w.heap.size ∧ w.cell? ⟨b, o + k, none⟩ = some (.bool t[k].2) := by
 obtain ⟨b, o, h1, h2, h3⟩ := h (fun e => by have := congrArg List.length e; simp [fvs] at this; subst this; simp at hk)
 exact ⟨b, o, h1, h2, h3 k _ (by simp [fvs, hk])⟩
theorem see_take (b : Sb) (t : List (Nat × Bool)) {k : Nat} (h : k < b.sights.length) : (b.sights.map (seeS t)).take (k + 1) = (b.sights.map (seeS t)).take k ++ [seeS t b.sights[k]] := by
 rw [List.take_succ_eq_append_getElem (by simpa using h), List.getElem_map]
section
variable (H : Option Addr) (hcap : Nat) (S : Option Addr) (scap : Nat) (b : Sb)
set_option maxRecDepth 100000 in
set_option maxHeartbeats 4000000 in
theorem seen_any (hb : OkB b) (t : List (Nat × Bool)) (ht : TrB (bare b) t) (A1 A2 : Option Addr) (c1 c2 : Nat) (w : World) (hM : SbAt w H S b) (hA1 : ArrD w A1 (lvs t)) (hA2 : ArrD w A2 (fvs t)) :
    Calls Tryd.prog 36 #[.agg (sbV H hcap S scap b).toArray, .agg #[.slice A1 t.length c1, .slice A2 t.length c2]] w fun e w' => (∃ A' c', e = .returned (.agg (sbV H hcap A' c' (seeB b t)).toArray) ∧ SbAt w' H A' (seeB b t)) ∧ Below w.heap.size w w' := by
 have h6 := hb.sights
 have h12 := hb.hours
 have htl : t.length = b.hours.length := ht.length
 have HSI := hid fun (k : Nat) (hk : k < b.sights.length) => hb.sight b.sights[k] (List.getElem_mem hk)
 have HLT := hid fun (k : Nat) (hk : k < t.length) => ht.load_lt (ok_bare hb) t[k] (List.getElem_mem hk)
 have HT := hid fun (k : Nat) hk => see_take b t (k := k) hk
 have HTL := hid htl
 clear hb ht htl
 refine enterE Tryd.func36 rfl Tryd.ntmps36 (by simp) (fun a hE => ?_); simp only [envOf, Nat.zero_add, Nat.reduceAdd] at hE
 refine Ks ?_
 refine Rs 3 fun Q' K hK => ?_
 refine M1 hE 0 fun K' J ρ q0 => ?_; go_simp
 refine Ln hE J fun _ Eb => ?_; clear J K' hE a q0
 refine M1 Eb 1 fun K' J ρ q1 => ?_; go_simp
 refine Ln Eb J fun _ Ea => ?_; clear J K' Eb q1
 refine M0 fun K' J ρ => ?_; go_simp;
 refine Ln Ea J fun _ Eb => ?_; clear J K' Ea
 refine Ld [2, 3, 4] Eb hK fun a hE => ?_; clear hK K Q' Eb
 obtain ⟨B, hB⟩ : ∃ B, B = w.heap.size := ⟨_, rfl⟩
 obtain ⟨X, hX⟩ : ∃ B, B = w.heap.size + 1 := ⟨_, rfl⟩
 obtain ⟨R, hR⟩ : ∃ B, B = w.heap.size + 1 + 1 := ⟨_, rfl⟩
 try rw [← hR] at hE
 rw [← hX, ← hB] at hE
 refine world_cut (fun wt => Below w.heap.size w wt ∧ Cells wt B (sbV H hcap S scap b) ∧ Cells wt X [.slice A1 t.length c1, .slice A2 t.length c2] ∧ RowD wt R 9) ?_ (fun w1 hC => ?_)
 ·rw [hB, hX, hR]; obtain ⟨q1, q2, q3, q4, q5⟩ := box2_row w (sbV H hcap S scap b).toArray #[.slice A1 t.length c1, .slice A2 t.length c2] #[.int .i64 0, .int .i64 0, .int .i64 0, .int .i64 0, .int .i64 0, .int .i64 0, .int .i64 0, .slice none 0 0, .slice none 0 0] 29 52 29; exact ⟨q1, q2, q3, q4, _, rfl, q5⟩
 obtain ⟨hbw1, hCB, hCX, hRD⟩ := hC
 have hnR : w.heap.size ≤ R := by omega
 have hM1 := hM.below hbw1
 replace hA1 := hA1.below hbw1
 replace hA2 := hA2.below hbw1
 clear hB hX hR
 refine Ks ?_
 refine Rs 3 fun Q' K hK => ?_
 refine Lp fun K' J => ?_
 have r2 := hE.at 2 rfl
 refine wp_load_mid 29 (.tmp 2) rfl B 0 (eval_of r2) (sbV H hcap S scap b) _ (fun j u hu => by rw [Nat.zero_add]; exact hCB.2 j u hu) Tryd.underlying29 rfl (by kernel_rfl) ?_
 (try clear r2)
 refine Ln hE J fun _ Eb => ?_; clear J K' hE a
 refine M0 fun K' J ρ => ?_; go_simp;
 refine Ln Eb J fun _ Ea => ?_; clear J K' Eb
 refine Lp fun K' J => ?_
 have r5 := Ea.at 5 rfl; have r10 := Ea.at 10 rfl
 refine wp_store_mid 29 (.tmp 5) (.tmp 10) rfl w1.heap.size 0 (sbV H hcap S scap b).toArray (eval_of r5) (eval_of r10) (there_row (row_new w1 _ _) (Nat.le_of_eq rfl)) (by kernel_rfl) (by kernel_rfl) ?_
 (try clear r5 r10)
 refine late_skip Ea J (fun _ Eb => ?_); clear J K'; clear Ea
 refine Ld [2, 3, 4, 5] Eb hK fun a hE => ?_; clear hK K Q' Eb
 obtain ⟨Q, hQ⟩ : ∃ B, B = w1.heap.size := ⟨_, rfl⟩
 rw [← hQ] at hE
 have hnQ : w1.heap.size ≤ Q := Nat.le_of_eq hQ.symm
 refine world_cut (fun wt => Below w1.heap.size w1 wt ∧ Q < wt.heap.size ∧ Row wt Q (sbV H hcap S scap b)) ?_ (fun w2 hCut => ?_)
 ·rw [hQ]; have q := boxed_new w1 #[.int .i64 0, .int .i64 0, .int .i64 0, .int .i64 0, .int .i64 0, .int .i64 0, .int .i64 0, .slice none 0 0, .slice none 0 0] 29 (sbV H hcap S scap b) rfl; exact ⟨q.1, q.2.1, row_all (row_new w1 #[.int .i64 0, .int .i64 0, .int .i64 0, .int .i64 0, .int .i64 0, .int .i64 0, .int .i64 0, .slice none 0 0, .slice none 0 0] 29) rfl⟩
 obtain ⟨h2, hlQ, hRQ⟩ := hCut
 have y8 := (hRQ 8 _ rfl).2
 clear hQ
 have hbw2 := hbw1.trans (h2.mono hbw1.size)
 refine Ks ?_
 refine Rs 2 fun Q' K hK => ?_
 refine M1 hE 5 fun K' J ρ q5 => ?_; go_simp
 refine Ln hE J fun _ Eb => ?_; clear J K' hE a q5
 refine M1 Eb 11 fun K' J ρ q11 => ?_; go_simp; (try clear q11)
 refine late_skip Eb J (fun _ Ea => ?_); clear J K'; clear Eb
 refine Ld [2, 3, 4, 5] Ea hK fun a hE => ?_; clear hK K Q' Ea
 refine world_cut (fun wt => YoS H hcap b Q w1 w2 [] none 0 wt) ⟨h2.setCell hnQ _, by simp, hRQ.set (o := 8) (by simp [sbV]), own_nil _ _ _ _, fun R hR hne => Below.heap_setCell _ _ _ _ (by simpa using hne)⟩ (fun w3 hS3 => ?_)
 have hb3 := hbw1.trans (hS3.below.mono hbw1.size)
 clear y8 hRQ
 refine Ks ?_
 refine Rs 1 fun Q' K hK => ?_
 refine M0 fun K' J ρ => ?_; go_simp;
 refine Ln hE J fun _ Eb => ?_; clear J K' hE a
 refine Ld [2, 3, 4, 5, 6] Eb hK fun a hE => ?_; clear hK K Q' Eb
 refine Ks ?_
 refine loop_st (fun (k : Nat) a w' => ∃ (A : Option Addr) (c : Nat), k ≤ b.sights.length ∧ Fits 63 [(2, .pointer (some ⟨B, 0, none⟩)), (3, .pointer (some ⟨X, 0, none⟩)), (4, .pointer (some ⟨R, 0, none⟩)), (5, .pointer (some ⟨Q, 0, none⟩)), (6, .int .i64 k)] a ∧ YoS H hcap b Q w1 w2 ((b.sights.map (seeS t)).take k) A c w') (fun k => b.sights.length - k) 0 ⟨none, 0, Nat.zero_le _, by simpa using hE, hS3⟩ (fun k a wr hI => ?_)
 clear hE hS3 hb3
 obtain ⟨A, c, hk, hE, hS⟩ := hI
 have hbr := hbw1.trans (hS.below.mono hbw1.size)
 have hCBr := hCB.below hS.below
 have hCXr := hCX.below hS.below
 have hMr := hM1.below hS.below
 have hA1r := hA1.below hS.below
 have hA2r := hA2.below hS.below
 have nB := hCBr.1
 have d8 := hCBr.2 8 _ rfl
 by_cases hlt : k < b.sights.length
 ·have hltI : (k : Int) < b.sights.length := by omega
  obtain ⟨bx, ox, hSe, hbx, x0, x1, x2, x3⟩ := hMr.2.si hlt
  have hsi := HSI.out k hlt
  have hds := HT.out k hlt
  obtain ⟨Y, hYe⟩ : ∃ X, b.sights[k] = X := ⟨_, rfl⟩
  rw [hYe] at x0 x1 x2 x3 hsi hds
  obtain ⟨yh, yf, yl, yi⟩ := Y
  simp only at x0 x1 x2 x3 hsi
  obtain ⟨j, hj⟩ : ∃ j : Nat, yh = j := ⟨yh.toNat, by omega⟩
  subst hj
  have hjt : j < t.length := by have := HTL.out; omega
  have hjI : (j : Int) < t.length := by omega
  obtain ⟨b1, o1, hA1e, hb1, z1⟩ := hA1r.lv hjt
  obtain ⟨b2, o2, hA2e, hb2, z2⟩ := hA2r.fv hjt
  have hm := HLT.out j hjt
  obtain ⟨⟨m, f⟩, hp⟩ : ∃ p, t[j] = p := ⟨_, rfl⟩
  rw [hp] at z1 z2 hm
  simp only at z1 z2 hm
  obtain ⟨by', hby⟩ : ∃ n : Nat, min 40 (yi - yl) = (n : Int) := ⟨(min 40 (yi - yl)).toNat, by omega⟩
  have hby40 : by' ≤ 40 := by omega
  have hsc : (seeS t ⟨j, yf, yl, yi⟩).cells = [.int .i64 j, .bool f, .int .i64 (max 0 ((m : Int) - by')), .int .i64 (min 2000 ((m : Int) + (by' : Int).tdiv 2))] := by
   have e : t.getD j (0, false) = (m, f) := by rw [List.getD_eq_getElem?_getD, List.getElem?_eq_getElem hjt, hp]; rfl
   simp only [seeS, Int.toNat_natCast, e, hby, Si.cells, Int.tdiv_eq_ediv_of_nonneg (Int.natCast_nonneg by')]
  obtain ⟨Z, hZ⟩ : ∃ Z, seeS t ⟨j, yf, yl, yi⟩ = Z := ⟨_, rfl⟩
  rw [hZ] at hsc hds
  obtain ⟨ds, hdse⟩ : ∃ ds, (b.sights.map (seeS t)).take k = ds := ⟨_, rfl⟩
  have hdl : ds.length ≤ 6 := by rw [← hdse, List.length_take, List.length_map]; omega
  rw [hdse] at hds hS
  have HDS := hid hds
  have HSC := hid hsc
  have HBY := hid hby
  have hcx0 := hCXr.2 0 _ rfl
  have hcx1 := hCXr.2 1 _ rfl
  have nX := hCXr.1
  rw [hSe] at d8
  rw [hA1e] at hcx0
  rw [hA2e] at hcx1
  clear hds hsc hZ hdse hYe hp hby
  have hle1 : 0 ≤ yi - yl := by omega
  refine Ks ?_
  refine Rs 5 fun Q' K hK => ?_
  refine M1 hE 6 fun K' J ρ q6 => ?_; go_simp
  refine Ln hE J fun _ Eb => ?_; clear J K' hE a q6
  refine M1 Eb 2 fun K' J ρ q2 => ?_; go_simp
  refine Ln Eb J fun _ Ea => ?_; clear J K' Eb q2
  refine M1 Ea 13 fun K' J ρ q13 => ?_; go_simp
  refine Ln Ea J fun _ Eb => ?_; clear J K' Ea q13
  refine M1 Eb 14 fun K' J ρ q14 => ?_; go_simp; (try go_bits)
  refine Ln Eb J fun _ Ea => ?_; clear J K' Eb q14
  refine M2 Ea 12 15 fun K' J ρ q12 q15 => ?_; go_simp; (try go_bits)
  refine Ln Ea J fun _ Eb => ?_; clear J K' Ea q12 q15
  replace Eb := Eb.turn 16 (v' := .bool true) rfl (by (first | (simp; done) | (simp; omega)))
  refine Ld [2, 3, 4, 5, 6, 16] Eb hK fun a hE => ?_; clear hK K Q' Eb
  refine Ks ?_
  refine cond_yes hE (t := 16) rfl ?_
  refine Ks ?_
  refine Rs 7 fun Q' K hK => ?_
  refine M1 hE 2 fun K' J ρ q2 => ?_; go_simp
  refine Ln hE J fun _ Eb => ?_; clear J K' hE a q2
  refine M1 Eb 19 fun K' J ρ q19 => ?_; go_simp
  refine Ln Eb J fun _ Ea => ?_; clear J K' Eb q19
  refine M1 Ea 6 fun K' J ρ q6 => ?_; go_simp
  refine Ln Ea J fun _ Eb => ?_; clear J K' Ea q6
  refine M2 Eb 20 21 fun K' J ρ q20 q21 => ?_; go_simp; (try go_bits)
  refine Ln Eb J fun _ Ea => ?_; clear J K' Eb q20 q21
  refine M1 Ea 22 fun K' J ρ q22 => ?_; go_simp
  refine Ln Ea J fun _ Eb => ?_; clear J K' Ea q22
  refine M0 fun K' J ρ => ?_; go_simp;
  refine Ln Eb J fun _ Ea => ?_; clear J K' Eb
  refine Lp fun K' J => ?_
  have r7 := Ea.at 7 rfl; have r23 := Ea.at 23 rfl
  refine wp_store_mid 68 (.tmp 7) (.tmp 23) rfl wr.heap.size 0 #[.int .i64 j, .bool yf, .int .i64 yl, .int .i64 yi] (eval_of r7) (eval_of r23) (there_row (row_new wr _ _) (Nat.le_of_eq rfl)) (by kernel_rfl) (by kernel_rfl) ?_
  (try clear r7 r23)
  refine late_skip Ea J (fun _ Eb => ?_); clear J K'; clear Ea
  refine Ld [2, 3, 4, 5, 6, 7] Eb hK fun a hE => ?_; clear hK K Q' Eb
  obtain ⟨C, hC⟩ : ∃ B, B = wr.heap.size := ⟨_, rfl⟩
  rw [← hC] at hE
  refine world_cut (fun wt => Below wr.heap.size wr wt ∧ Cells wt C [.int .i64 j, .bool yf, .int .i64 yl, .int .i64 yi]) (by rw [hC]; exact boxed_new wr #[.int .i64 0, .bool false, .int .i64 0, .int .i64 0] 68 [.int .i64 j, .bool yf, .int .i64 yl, .int .i64 yi] rfl) (fun wq hCut => ?_)
  obtain ⟨kq, hCC⟩ := hCut
  replace hcx0 := (kq.cell (p := ⟨X, 0, none⟩) nX).trans hcx0
  replace hcx1 := (kq.cell (p := ⟨X, 1, none⟩) nX).trans hcx1
  replace z1 := (kq.cell (p := ⟨b1, o1 + j, none⟩) hb1).trans z1
  replace z2 := (kq.cell (p := ⟨b2, o2 + j, none⟩) hb2).trans z2
  replace hb1 := Nat.lt_of_lt_of_le hb1 kq.size
  replace hb2 := Nat.lt_of_lt_of_le hb2 kq.size
  replace nX := Nat.lt_of_lt_of_le nX kq.size
  replace hS := hS.on (Nat.lt_of_lt_of_le hlQ (Nat.le_refl _)) kq
  clear hC x0 x1 x2 x3 hbx nB d8
  have hbq := hbr.trans (kq.mono hbr.size)
  have nC := hCC.1; have cC0 := hCC.2 0 _ rfl; have cC2 := hCC.2 2 _ rfl; have cC3 := hCC.2 3 _ rfl
  refine Ks ?_
  refine Rd [15] (fun wt => Below wq.heap.size wq wt) (fun w1 w2 => Below w1.heap.size w1 w2) [(0, some 24), (1, some 25), (2, some 26), (3, some 27), (4, some 28), (5, some 29), (6, some 30), (7, some 31), (8, some 32), (9, some 33), (10, some 34), (11, some 35), (12, some 36), (13, some 37), (14, some 8)] [24, 25, 26, 27, 28, 29, 30, 31, 32, 33, 34, 35, 36, 37, 8] #[true, true, true, true, true, true, true, true, true, true, true, true, true, true, true, false] [2, 3, 4, 5, 6, 7, 9] hE ((Below.refl _ _).drew) fun Q' K hK => ?_
  refine SeqOps.val ?_ (Sp fun ax wx hS hT' hd K' J => ?_) ?_; rotate_left 1
  ·have r3 := hS.at 3 (by decide) (hE.at 3 rfl); obtain ⟨_, _, _, _, _, _⟩ := bT hT'
   refine Go.Proofs.YtkhmcofmjjmjhaaDoor.o1 r3 fun ρ q3 => ?_; go_simp;
   exact Jo J hT'
  refine SeqOps.val ?_ (Sp fun ax wx hS hT' hd K' J => ?_) ?_; rotate_left 1
  ·have r24 := Tv hd 0 0 24; obtain ⟨_, _, _, _, _, _⟩ := bT hT'
   refine Go.Proofs.YtkhmcofmjjmjhaaDoor.o1 r24 fun ρ q24 => ?_; go_simp;
   exact Jo J hT'
  refine SeqOps.val ?_ (Sp fun ax wx hS hT' hd K' J => ?_) ?_; rotate_left 1
  ·have r7 := hS.at 7 (by decide) (hE.at 7 rfl); obtain ⟨_, _, _, _, _, _⟩ := bT hT'
   refine Go.Proofs.YtkhmcofmjjmjhaaDoor.o1 r7 fun ρ q7 => ?_; go_simp;
   exact Jo J hT'
  refine SeqOps.val ?_ (Sp fun ax wx hS hT' hd K' J => ?_) ?_; rotate_left 1
  ·have r26 := Tv hd 0 2 26; obtain ⟨_, _, _, _, _, _⟩ := bT hT'
   refine Go.Proofs.YtkhmcofmjjmjhaaDoor.o1 r26 fun ρ q26 => ?_; go_simp;
   exact Jo J hT'
  refine SeqOps.val ?_ (Sp fun ax wx hS hT' hd K' J => ?_) ?_; rotate_left 1
  ·have r25 := Tv hd 2 1 25; have r27 := Tv hd 0 3 27; obtain ⟨_, _, _, _, _, _⟩ := bT hT'
   refine Go.Proofs.YtkhmcofmjjmjhaaDoor.o2 r25 r27 fun ρ q25 q27 => ?_; go_simp; (try go_bits);
   exact Jo J hT'
  refine SeqOps.val ?_ (Sp fun ax wx hS hT' hd K' J => ?_) ?_; rotate_left 1
  ·have r28 := Tv hd 0 4 28; obtain ⟨_, _, _, _, _, _⟩ := bT hT'
   refine Go.Proofs.YtkhmcofmjjmjhaaDoor.o1 r28 fun ρ q28 => ?_; go_simp;
   exact Jo J hT'
  refine SeqOps.val ?_ (Sp fun ax wx hS hT' hd K' J => ?_) ?_; rotate_left 1
  ·have r7 := hS.at 7 (by decide) (hE.at 7 rfl); obtain ⟨_, _, _, _, _, _⟩ := bT hT'
   refine Go.Proofs.YtkhmcofmjjmjhaaDoor.o1 r7 fun ρ q7 => ?_; go_simp;
   exact Jo J hT'
  refine SeqOps.val ?_ (Sp fun ax wx hS hT' hd K' J => ?_) ?_; rotate_left 1
  ·have r30 := Tv hd 0 6 30; obtain ⟨_, _, _, _, _, _⟩ := bT hT'
   refine Go.Proofs.YtkhmcofmjjmjhaaDoor.o1 r30 fun ρ q30 => ?_; go_simp;
   exact Jo J hT'
  refine SeqOps.val ?_ (Sp fun ax wx hS hT' hd K' J => ?_) ?_; rotate_left 1
  ·have r31 := Tv hd 0 7 31; obtain ⟨_, _, _, _, _, _⟩ := bT hT'
   refine Go.Proofs.YtkhmcofmjjmjhaaDoor.o1 r31 fun ρ q31 => ?_; go_simp;
   exact Jo J hT'
  refine SeqOps.val ?_ (Sp fun ax wx hS hT' hd K' J => ?_) ?_; rotate_left 1
  ·have r7 := hS.at 7 (by decide) (hE.at 7 rfl); obtain ⟨_, _, _, _, _, _⟩ := bT hT'
   refine Go.Proofs.YtkhmcofmjjmjhaaDoor.o1 r7 fun ρ q7 => ?_; go_simp;
   exact Jo J hT'
  refine SeqOps.val ?_ (Sp fun ax wx hS hT' hd K' J => ?_) ?_; rotate_left 1
  ·have r33 := Tv hd 0 9 33; obtain ⟨_, _, _, _, _, _⟩ := bT hT'
   refine Go.Proofs.YtkhmcofmjjmjhaaDoor.o1 r33 fun ρ q33 => ?_; go_simp;
   exact Jo J hT'
  refine SeqOps.val ?_ (Sp fun ax wx hS hT' hd K' J => ?_) ?_; rotate_left 1
  ·have r34 := Tv hd 0 10 34; obtain ⟨_, _, _, _, _, _⟩ := bT hT'
   refine Go.Proofs.YtkhmcofmjjmjhaaDoor.o1 r34 fun ρ q34 => ?_; go_simp;
   exact Jo J hT'
  refine SeqOps.val ?_ (Sp fun ax wx hS hT' hd K' J => ?_) ?_; rotate_left 1
  ·have r32 := Tv hd 3 8 32; have r35 := Tv hd 0 11 35; obtain ⟨_, _, _, _, _, _⟩ := bT hT'
   refine Go.Proofs.YtkhmcofmjjmjhaaDoor.o2 r32 r35 fun ρ q32 q35 => ?_; go_simp; (try go_bits); (try simp (disch := omega) only [IntWalk.i64_in]);
   exact Jo J hT'
  refine SeqOps.val ?_ (Sp fun ax wx hS hT' hd K' J => ?_) ?_; rotate_left 1
  ·have r36 := Tv hd 0 12 36; obtain ⟨_, _, _, _, _, _⟩ := bT hT'
   refine Go.Proofs.YtkhmcofmjjmjhaaDoor.o1 r36 fun ρ q36 => ?_; go_simp; (try go_bits);
   exact Jo J hT'
  refine SeqOps.val ?_ (Sp fun ax wx hS hT' hd K' J => ?_) ?_; rotate_left 1
  ·have r29 := Tv hd 8 5 29; obtain ⟨_, _, _, _, _, _⟩ := bT hT'
   refine Go.Proofs.YtkhmcofmjjmjhaaDoor.o1 r29 fun ρ q29 => ?_; go_simp;
   exact Jo J hT'
  refine SeqOps.nil ?_
  intro wu hBm; (repeat refine Ek ?_)
  refine fun amx hEmx => ?_
  simp only [lk, pick, Nat.reduceEqDiff, ↓reduceIte] at hEmx
  refine M1 hEmx 37 fun K' J ρ q37 => ?_; go_simp; (try clear q37)
  refine Ln hEmx J fun am_1 hEm_1 => ?_; clear J K' hEmx
  refine Ld [2, 3, 4, 5, 6, 7, 8, 9] hEm_1 hK fun a hE => ?_; clear hK K Q' hEm_1
  have hbwu := hbq.trans (hBm.mono hbq.size)
  replace hCC := hCC.below hBm
  clear nC cC0 cC2 cC3
  have nC := hCC.1; have cC0 := hCC.2 0 _ rfl; have cC2 := hCC.2 2 _ rfl; have cC3 := hCC.2 3 _ rfl
  rw [HBY.out] at hE
  replace hS := hS.on hlQ hBm
  replace hcx1 := (hBm.cell (p := ⟨X, 1, none⟩) nX).trans hcx1
  replace z2 := (hBm.cell (p := ⟨b2, o2 + j, none⟩) hb2).trans z2
  replace nX := Nat.lt_of_lt_of_le nX hBm.size
  replace hb2 := Nat.lt_of_lt_of_le hb2 hBm.size
  have e8 := (hS.row 8 _ rfl).1
  have hown := hS.own
  have nQ := Nat.lt_of_lt_of_le hlQ hS.size
  obtain ⟨nC, cC0⟩ := hCC.c1
  refine Ks ?_
  refine Rd [22, 23, 24] (fun wt => Below wu.heap.size wu wt) (fun w1 w2 => Below w1.heap.size w1 w2) [(0, some 38), (1, some 39), (2, some 40), (3, some 41), (4, some 42), (5, some 43), (6, some 44), (7, some 45), (8, some 46), (9, some 47), (10, some 48), (11, some 49), (12, some 50), (13, some 51), (14, some 52), (15, some 53), (16, some 54), (17, some 55), (18, some 56), (19, some 57), (20, some 58), (21, some 59)] [38, 39, 40, 41, 42, 43, 44, 45, 46, 47, 48, 49, 50, 51, 52, 53, 54, 55, 56, 57, 58, 59] #[true, true, true, true, true, true, true, true, true, true, true, true, true, true, true, true, true, true, true, true, true, true, false, false, false] [2, 3, 4, 5, 6] hE ((Below.refl _ _).drew) fun Q' K hK => ?_
  refine SeqOps.val ?_ (Sp fun ax wx hS hT' hd K' J => ?_) ?_; rotate_left 1
  ·have r5 := hS.at 5 (by decide) (hE.at 5 rfl); obtain ⟨_, _, _, _, _, _⟩ := bT hT'
   refine Go.Proofs.YtkhmcofmjjmjhaaDoor.o1 r5 fun ρ q5 => ?_; go_simp;
   exact Jo J hT'
  refine SeqOps.val ?_ (Sp fun ax wx hS hT' hd K' J => ?_) ?_; rotate_left 1
  ·have r38 := Tv hd 0 0 38; obtain ⟨_, _, _, _, _, _⟩ := bT hT'
   refine Go.Proofs.YtkhmcofmjjmjhaaDoor.o1 r38 fun ρ q38 => ?_; go_simp;
   exact Jo J hT'
  refine SeqOps.val ?_ (Sp fun ax wx hS hT' hd K' J => ?_) ?_; rotate_left 1
  ·have r7 := hS.at 7 (by decide) (hE.at 7 rfl); obtain ⟨_, _, _, _, _, _⟩ := bT hT'
   refine Go.Proofs.YtkhmcofmjjmjhaaDoor.o1 r7 fun ρ q7 => ?_; go_simp;
   exact Jo J hT'
  refine SeqOps.val ?_ (Sp fun ax wx hS hT' hd K' J => ?_) ?_; rotate_left 1
  ·have r40 := Tv hd 0 2 40; obtain ⟨_, _, _, _, _, _⟩ := bT hT'
   refine Go.Proofs.YtkhmcofmjjmjhaaDoor.o1 r40 fun ρ q40 => ?_; go_simp;
   exact Jo J hT'
  refine SeqOps.val ?_ (Sp fun ax wx hS hT' hd K' J => ?_) ?_; rotate_left 1
  ·have r3 := hS.at 3 (by decide) (hE.at 3 rfl); obtain ⟨_, _, _, _, _, _⟩ := bT hT'
   refine Go.Proofs.YtkhmcofmjjmjhaaDoor.o1 r3 fun ρ q3 => ?_; go_simp;
   exact Jo J hT'
  refine SeqOps.val ?_ (Sp fun ax wx hS hT' hd K' J => ?_) ?_; rotate_left 1
  ·have r42 := Tv hd 0 4 42; obtain ⟨_, _, _, _, _, _⟩ := bT hT'
   refine Go.Proofs.YtkhmcofmjjmjhaaDoor.o1 r42 fun ρ q42 => ?_; go_simp;
   exact Jo J hT'
  refine SeqOps.val ?_ (Sp fun ax wx hS hT' hd K' J => ?_) ?_; rotate_left 1
  ·have r7 := hS.at 7 (by decide) (hE.at 7 rfl); obtain ⟨_, _, _, _, _, _⟩ := bT hT'
   refine Go.Proofs.YtkhmcofmjjmjhaaDoor.o1 r7 fun ρ q7 => ?_; go_simp;
   exact Jo J hT'
  refine SeqOps.val ?_ (Sp fun ax wx hS hT' hd K' J => ?_) ?_; rotate_left 1
  ·have r44 := Tv hd 0 6 44; obtain ⟨_, _, _, _, _, _⟩ := bT hT'
   refine Go.Proofs.YtkhmcofmjjmjhaaDoor.o1 r44 fun ρ q44 => ?_; go_simp;
   exact Jo J hT'
  refine SeqOps.val ?_ (Sp fun ax wx hS hT' hd K' J => ?_) ?_; rotate_left 1
  ·have r43 := Tv hd 2 5 43; have r45 := Tv hd 0 7 45; obtain ⟨_, _, _, _, _, _⟩ := bT hT'
   refine Go.Proofs.YtkhmcofmjjmjhaaDoor.o2 r43 r45 fun ρ q43 q45 => ?_; go_simp; (try go_bits);
   exact Jo J hT'
  refine SeqOps.val ?_ (Sp fun ax wx hS hT' hd K' J => ?_) ?_; rotate_left 1
  ·have r46 := Tv hd 0 8 46; obtain ⟨_, _, _, _, _, _⟩ := bT hT'
   refine Go.Proofs.YtkhmcofmjjmjhaaDoor.o1 r46 fun ρ q46 => ?_; go_simp;
   exact Jo J hT'
  refine SeqOps.val ?_ (Sp fun ax wx hS hT' hd K' J => ?_) ?_; rotate_left 1
  ·have r8 := hS.at 8 (by decide) (hE.at 8 rfl); obtain ⟨_, _, _, _, _, _⟩ := bT hT'
   refine Go.Proofs.YtkhmcofmjjmjhaaDoor.o1 r8 fun ρ q8 => ?_; go_simp;
   exact Jo J hT'
  refine SeqOps.val ?_ (Sp fun ax wx hS hT' hd K' J => ?_) ?_; rotate_left 1
  ·have r9 := hS.at 9 (by decide) (hE.at 9 rfl); obtain ⟨_, _, _, _, _, _⟩ := bT hT'
   refine Go.Proofs.YtkhmcofmjjmjhaaDoor.o1 r9 fun ρ q9 => ?_; go_simp;
   exact Jo J hT'
  refine SeqOps.val ?_ (Sp fun ax wx hS hT' hd K' J => ?_) ?_; rotate_left 1
  ·have r48 := Tv hd 1 10 48; have r49 := Tv hd 0 11 49; obtain ⟨_, _, _, _, _, _⟩ := bT hT'
   refine Go.Proofs.YtkhmcofmjjmjhaaDoor.o2 r48 r49 fun ρ q48 q49 => ?_; go_simp; (try go_bits); (try simp (disch := omega) only [IntWalk.i64_in]);
   exact Jo J hT'
  refine SeqOps.val ?_ (Sp fun ax wx hS hT' hd K' J => ?_) ?_; rotate_left 1
  ·have r50 := Tv hd 0 12 50; obtain ⟨_, _, _, _, _, _⟩ := bT hT'
   refine Go.Proofs.YtkhmcofmjjmjhaaDoor.o1 r50 fun ρ q50 => ?_; go_simp; (try go_bits);
   exact Jo J hT'
  refine SeqOps.val ?_ (Sp fun ax wx hS hT' hd K' J => ?_) ?_; rotate_left 1
  ·have r8 := hS.at 8 (by decide) (hE.at 8 rfl); obtain ⟨_, _, _, _, _, _⟩ := bT hT'
   refine Go.Proofs.YtkhmcofmjjmjhaaDoor.o1 r8 fun ρ q8 => ?_; go_simp;
   exact Jo J hT'
  refine SeqOps.val ?_ (Sp fun ax wx hS hT' hd K' J => ?_) ?_; rotate_left 1
  ·have r9 := hS.at 9 (by decide) (hE.at 9 rfl); obtain ⟨_, _, _, _, _, _⟩ := bT hT'
   refine Go.Proofs.YtkhmcofmjjmjhaaDoor.o1 r9 fun ρ q9 => ?_; go_simp;
   exact Jo J hT'
  refine SeqOps.val ?_ (Sp fun ax wx hS hT' hd K' J => ?_) ?_; rotate_left 1
  ·have r53 := Tv hd 0 15 53; obtain ⟨_, _, _, _, _, _⟩ := bT hT'
   refine Go.Proofs.YtkhmcofmjjmjhaaDoor.o1 r53 fun ρ q53 => ?_; go_simp; (try go_bits); (try simp (disch := omega) only [IntWalk.i64_in]);
   exact Jo J hT'
  refine SeqOps.val ?_ (Sp fun ax wx hS hT' hd K' J => ?_) ?_; rotate_left 1
  ·have r52 := Tv hd 2 14 52; have r54 := Tv hd 0 16 54; obtain ⟨_, _, _, _, _, _⟩ := bT hT'
   refine Go.Proofs.YtkhmcofmjjmjhaaDoor.o2 r52 r54 fun ρ q52 q54 => ?_; go_simp; (try go_bits); (try simp (disch := omega) only [IntWalk.i64_in]);
   exact Jo J hT'
  refine SeqOps.val ?_ (Sp fun ax wx hS hT' hd K' J => ?_) ?_; rotate_left 1
  ·have r55 := Tv hd 0 17 55; obtain ⟨_, _, _, _, _, _⟩ := bT hT'
   refine Go.Proofs.YtkhmcofmjjmjhaaDoor.o1 r55 fun ρ q55 => ?_; go_simp; (try go_bits);
   exact Jo J hT'
  refine SeqOps.val ?_ (Sp fun ax wx hS hT' hd K' J => ?_) ?_; rotate_left 1
  ·have r51 := Tv hd 5 13 51; have r56 := Tv hd 0 18 56; obtain ⟨_, _, _, _, _, _⟩ := bT hT'
   refine Go.Proofs.YtkhmcofmjjmjhaaDoor.o2 r51 r56 fun ρ q51 q56 => ?_; go_simp; (try go_bits);
   go_at_call 54; refine (to_any _ _ _).mono ?_; rintro e g1 ⟨rfl, k1⟩
   refine J.out _ _ _ rfl ?_ (hT'.trans (k1.mono hT'.size)) k1; rfl
  refine SeqOps.val ?_ (Sp fun ax wx hS hT' hd K' J => ?_) ?_; rotate_left 1
  ·have r41 := Tv hd 16 3 41; have r47 := Tv hd 10 9 47; have r57 := Tv hd 0 19 57; obtain ⟨_, _, _, _, _, _⟩ := bT hT'
   refine o3 r41 r47 r57 fun ρ q41 q47 q57 => ?_; go_simp;
   exact Jo J hT'
  refine SeqOps.say (fun v wt => ∃ G, v = .slice (some ⟨G, 0, none⟩) 1 1 ∧ ArrD wt (some ⟨G, 0, none⟩) Z.cells) (fun _ _ _ hR ⟨G, e, h⟩ => ⟨G, e, h.below hR⟩) (Sp fun ax wx hS hT' hd K' J => ?_) ?_
  ·have r58 := Tv hd 0 20 58; obtain ⟨_, _, _, _, _, _⟩ := bT hT'
   refine Go.Proofs.YtkhmcofmjjmjhaaDoor.o1 r58 fun ρ q58 => ?_; go_simp;
   refine J.out _ _ _ rfl ⟨_, rfl, ?_⟩ (hT'.trans (((Below.refl _ _).alloc (Nat.le_refl _) _).mono hT'.size)) ((Below.refl _ _).alloc (Nat.le_refl _) _)
   rw [HSC.out]; exact (arr_new wx _ _).more (by simp)
  refine SeqOps.nil ?_
  intro wv hBn; (repeat refine Ek ?_); (refine fun v h => ?_; obtain ⟨G, rfl, hG⟩ := h);
  refine fun anx hEnx => ?_
  simp only [lk, pick, Nat.reduceEqDiff, ↓reduceIte] at hEnx
  refine Lp fun K' J => ?_
  have r39 := hEnx.at 39 rfl; have r59 := hEnx.at 59 rfl
  have hS7 := hS.on hlQ hBn
  have hO7 := own_below hown hBn
  refine wp_appN (.tmp 39) (.tmp 59) 27 rfl w2.heap.size 68 (.agg #[.int .i64 0, .bool false, .int .i64 0, .int .i64 0]) 4 32 Tryd.underlying27 (by kernel_rfl) rfl (by decide) _ _ _ (eval_of r39) hO7 wv.heap.size (some ⟨G, 0, none⟩) 1 1 Z.cells (eval_of r59) hG rfl (cells_one Z) (by simp only [maxLen]; omega) (by omega) hS7.size (fun A3 c3 w6 q1 q2 q3 q4 q5 => ?_)
  have hsn := hS7.snoc hnQ hlQ Z q3 q4
  have y8 := hsn.2
  (try clear r39 r59)
  refine Ln hEnx J fun an_1 hEn_1 => ?_; clear J K' hEnx
  refine M1 hEn_1 5 fun K' J ρ q5 => ?_; go_simp; (try clear q5)
  refine Ln hEn_1 J fun an_2 hEn_2 => ?_; clear J K' hEn_1
  refine M2 hEn_2 61 60 fun K' J ρ q61 q60 => ?_; go_simp; (try clear q61 q60)
  refine late_skip hEn_2 J (fun an_3 hEn_3 => ?_); clear J K'; clear hEn_2
  refine Ld [2, 3, 4, 5, 6] hEn_3 hK fun a hE => ?_; clear hK K Q' hEn_3
  have hbwv := hbwu.trans (hBn.mono hbwu.size)
  replace hCC := hCC.below hBn
  clear nC cC0
  obtain ⟨nC, cC0⟩ := hCC.c1
  refine world_cut (fun wt => YoS H hcap b Q w1 w2 (ds ++ [Z]) A3 c3 wt) hsn.1 (fun w8 hS8 => ?_)
  clear y8 hsn q1 q2 q3 q4 q5
  refine Ks ?_
  refine Rs 3 fun Q' K hK => ?_
  refine M1 hE 6 fun K' J ρ q6 => ?_; go_simp
  refine Ln hE J fun _ Eb => ?_; clear J K' hE a q6
  refine M1 Eb 17 fun K' J ρ q17 => ?_; go_simp; (try go_bits); (try simp (disch := omega) only [IntWalk.i64_in])
  refine Ln Eb J fun _ Ea => ?_; clear J K' Eb q17
  refine M1 Ea 18 fun K' J ρ q18 => ?_; go_simp
  refine Ln Ea J fun _ Eb => ?_; clear J K' Ea q18
  refine Ld [2, 3, 4, 5, 6] Eb hK fun a hE => ?_; clear hK K Q' Eb
  refine Ks ?_
  exact ⟨k + 1, ⟨A3, c3, hlt, by simpa using hE, by rw [HDS.out]; exact hS8⟩, by omega⟩
 ·have hke : k = b.sights.length := by omega
  subst hke
  have hall : (b.sights.map (seeS t)).take b.sights.length = b.sights.map (seeS t) := List.take_of_length_le (by simp)
  rw [hall] at hS
  have hrQ := hS.row
  obtain ⟨hlR, zs, hzs, hRR⟩ := hRD.below hS.below
  refine Ks ?_
  refine Rs 5 fun Q' K hK => ?_
  refine M1 hE 6 fun K' J ρ q6 => ?_; go_simp
  refine Ln hE J fun _ Eb => ?_; clear J K' hE a q6
  refine M1 Eb 2 fun K' J ρ q2 => ?_; go_simp
  refine Ln Eb J fun _ Ea => ?_; clear J K' Eb q2
  refine M1 Ea 13 fun K' J ρ q13 => ?_; go_simp
  refine Ln Ea J fun _ Eb => ?_; clear J K' Ea q13
  refine M1 Eb 14 fun K' J ρ q14 => ?_; go_simp; (try go_bits)
  refine Ln Eb J fun _ Ea => ?_; clear J K' Eb q14
  refine M2 Ea 12 15 fun K' J ρ q12 q15 => ?_; go_simp; (try go_bits)
  refine Ln Ea J fun _ Eb => ?_; clear J K' Ea q12 q15
  replace Eb := Eb.turn 16 (v' := .bool false) rfl (by (first | (simp; done) | (simp; omega)))
  refine Ld [2, 3, 4, 5, 6, 16] Eb hK fun a hE => ?_; clear hK K Q' Eb
  refine Ks ?_
  refine cond_no hE (t := 16) rfl ?_
  refine Ks ?_
  refine Rs 2 fun Q' K hK => ?_
  refine Lp fun K' J => ?_
  have r5 := hE.at 5 rfl
  refine wp_load_mid 29 (.tmp 5) rfl Q 0 (eval_of r5) (sbV H hcap A c (seeB b t)) _ (fun j u hu => by rw [Nat.zero_add]; exact (hrQ j u hu).1) Tryd.underlying29 rfl (by kernel_rfl) ?_
  (try clear r5)
  refine Ln hE J fun _ Eb => ?_; clear J K' hE a
  refine Lp fun K' J => ?_
  have r4 := Eb.at 4 rfl; have r62 := Eb.at 62 rfl
  refine wp_store_mid 29 (.tmp 4) (.tmp 62) rfl R 0 (sbV H hcap A c (seeB b t)).toArray (eval_of r4) (eval_of r62) (there_row hRR (by rw [hzs]; exact Nat.le_refl _)) (by kernel_rfl) (by kernel_rfl) ?_
  (try clear r4 r62)
  refine late_skip Eb J (fun _ Ea => ?_); clear J K'; clear Eb
  refine Ld [4] Ea hK fun a hE => ?_; clear hK K Q' Ea
  obtain ⟨q1, q2, q3, q4⟩ := cells_stored hRR (vs := sbV H hcap A c (seeB b t)) (by rw [hzs]; rfl) hlR hnR hbr
  refine world_cut (fun wt => Cells wt R (sbV H hcap A c (seeB b t)) ∧ Below w.heap.size w wt ∧ SbAt wt H A (seeB b t)) ⟨q1, q2, ?_⟩ (fun w9 hCut => ?_)
  ·exact ⟨hM.1.below q2, own_arr (own_of_block hS.own (by rw [q4]; exact Nat.le_refl _) (fun g hg => q3 g (by have := ownBlock_le hS.own g hg; have := hRD.1; omega)))⟩
  obtain ⟨hC9, hb9, hH9⟩ := hCut
  refine Ks ?_
  exact ret_cell hE rfl rfl hC9.2 Tryd.underlying29 rfl (by kernel_rfl) ⟨⟨A, c, rfl, hH9⟩, hb9⟩
end
end Go.Proofs.YtkhmcofmjjmjhaaDoor
