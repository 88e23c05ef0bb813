/- Slope: what can be of an hour. -/
import Derived.Test.YtkhmcofmjjmjhaaDoorKTSo

namespace Go.Proofs.YtkhmcofmjjmjhaaDoor
set_option linter.unusedSimpArgs false
set_option linter.unusedVariables false
open Go Go.RowKit
attribute [local go_sem high] cell_set_wr
attribute [local go_sem low] cell_wr frozen_wr
attribute [local go_sem] wr_set wr_drew wr_drewN wr_alloc wr_new Rho.c Rho.n Rho.g
theorem there_mid {w : World} {R : Nat} {zs : List Value} {o n : Nat} (h : Row w R zs) (hn : o + n ≤ zs.length) : w.there R o n := fun j hj => by
 have hj' : o + j < zs.length := by omega
 have hw := (h (o + j) (zs[o + j]'hj') (List.getElem?_eq_getElem hj')).2
 exact ⟨hw.1, hw.2⟩
theorem bls2_set0 {w : World} {C : Nat} {f g : Nat → Bool} (h : Nat → Bool) (hR : Row w C (bls2 f g)) : Row (w.setCells C 0 (bls h)) C (bls2 h g) := by
 have := row_stored (bls h) 0 w _ hR (by rw [bls2_length, bls_length]; omega)
 rw [bls_length, bls2, List.take_zero, List.nil_append, List.drop_left' (by rw [bls_length])] at this
 exact this
theorem bls2_set1 {w : World} {C : Nat} {f g : Nat → Bool} (h : Nat → Bool) (hR : Row w C (bls2 f g)) : Row (w.setCells C 2000 (bls h)) C (bls2 f h) := by
 have := row_stored (bls h) 2000 w _ hR (by rw [bls2_length, bls_length]; omega)
 rw [bls_length, bls2, List.take_left' (by rw [bls_length]), List.drop_of_length_le (by rw [List.length_append, bls_length, bls_length]; omega), List.append_nil] at this
 exact this
theorem zero_course : Tryd.zeroCells141 = (bls2 (fun _ => false) fun _ => false).toArray := by kernel_rfl
theorem bls2_one' (f g : Nat → Bool) : (bls2 f g).toArray.all (·.oneCell') = true := by
 rw [List.all_toArray, List.all_eq_true]
 intro v hv
 have h1 := List.all_eq_true.1 (by have := bls_one f; rwa [List.all_toArray] at this)
 have h2 := List.all_eq_true.1 (by have := bls_one g; rwa [List.all_toArray] at this)
 rcases List.mem_append.1 hv with hv | hv
 ·exact h1 v hv
 ·exact h2 v hv
theorem bls2_range {w : World} {B : Nat} {f g : Nat → Bool} (h : Row w B (bls2 f g)) : w.rangeAt B 0 (bls2 f g) := fun j u hu => by rw [Nat.zero_add]; exact (h j u hu).1
theorem three_box2 {w V : World} {cs ds es : List Value} {n : Nat} {t : TypeId} (hn : es.length = n) (q1 : Below w.heap.size w V) (q2 : Cells V w.heap.size cs) (q3 : w.heap.size + 1 < V.heap.size) (q4 : Row V (w.heap.size + 1) ds) (q5 : V.heap.size = w.heap.size + 1 + 1 := by simp) :
    Below w.heap.size w (V.alloc (.cells es.toArray t)) ∧ Cells (V.alloc (.cells es.toArray t)) w.heap.size cs ∧ (w.heap.size + 1 < (V.alloc (.cells es.toArray t)).heap.size ∧ Row (V.alloc (.cells es.toArray t)) (w.heap.size + 1) ds) ∧ RowD (V.alloc (.cells es.toArray t)) (w.heap.size + 1 + 1) n := by
 have z : Below V.heap.size V (V.alloc (.cells es.toArray t)) := (Below.refl _ _).alloc (Nat.le_refl _) _
 refine ⟨q1.trans (z.mono q1.size), q2.below z, ⟨Nat.lt_of_lt_of_le q3 z.size, q4.below z q3⟩, by simp; omega, es, hn, ?_⟩
 have h := row_new V es.toArray t
 rw [q5] at h
 exact h
/-- the sights' word so far -/
def coS (x : Hp) (f : Nat → Bool) (k m : Nat) : Bool := decide (1 ≤ k) && stF x f m
def coF (x : Hp) (f : Nat → Bool) (k m : Nat) : Bool := decide (2 ≤ k) && faF x f m
section
variable (S : Option Addr) (scap : Nat) (G : Option Addr) (gcap : Nat) (x : Hp)
theorem fits_pred (w : World) (hM : HpAt w S G x) (hs : x.sights.length ≤ 9223372036854775807) : PredF (fun _ => False) (fun W => Below w.heap.size w W) w.heap.size 117 #[.agg (hpV S scap G gcap x).toArray] #[] (fun k => x.fits k) where
 enter := fun args w => by kernel_rfl
 calls := fun k W _ _ hJ => by
  refine (fits_any S scap G gcap x k W (hM.below hJ) hs).mono ?_
  rintro e w' ⟨h1, h2⟩
  exact ⟨h1, .of_below h2, hJ.trans (h2.mono hJ.size)⟩
theorem much_pred (w : World) : PredF (fun _ => False) (fun W => Below w.heap.size w W) w.heap.size 118 #[.agg (hpV S scap G gcap x).toArray] #[] (fun k => decide (x.sl.hold < (k : Int))) where
 enter := fun args w => by kernel_rfl
 calls := fun k W _ _ hJ => by
  refine (isTooMuch_any S scap G gcap x k W).mono ?_
  rintro e w' ⟨h1, h2⟩
  exact ⟨h1, .of_below h2, hJ.trans (h2.mono hJ.size)⟩
theorem those_fits (f : Nat → Bool) (w : World) (hM : HpAt w S G x) (hs : x.sights.length ≤ 9223372036854775807) : Calls Tryd.prog 104 #[.agg (bls f).toArray, .func (.func 117) #[.agg (hpV S scap G gcap x).toArray] #[]] w fun e w' => e = .returned (.agg (bls fun i => f i && x.fits i).toArray) ∧ Below w.heap.size w w' :=
 (those_any (fun _ => False) (fun W => Below w.heap.size w W) _ _ _ f (fun k => x.fits k) w (Below.refl _ _) (fun _ h => h.elim) (fun _ _ h1 _ h3 => h1.trans h3) (hid (fits_pred S scap G gcap x w hM hs))).mono fun _ _ ⟨h1, _, h3⟩ => ⟨h1, h3⟩
theorem those_much (f : Nat → Bool) (w : World) : Calls Tryd.prog 104 #[.agg (bls f).toArray, .func (.func 118) #[.agg (hpV S scap G gcap x).toArray] #[]] w fun e w' => e = .returned (.agg (bls fun i => f i && decide (x.sl.hold < (i : Int))).toArray) ∧ Below w.heap.size w w' :=
 (those_any (fun _ => False) (fun W => Below w.heap.size w W) _ _ _ f (fun k => decide (x.sl.hold < (k : Int))) w (Below.refl _ _) (fun _ h => h.elim) (fun _ _ h1 _ h3 => h1.trans h3) (hid (much_pred S scap G gcap x w))).mono fun _ _ ⟨h1, _, h3⟩ => ⟨h1, h3⟩
theorem coF_zero (f : Nat → Bool) : bls2 (coS x f 0) (coF x f 0) = bls2 (fun _ => false) fun _ => false := by
 have h1 : coS x f 0 = fun _ => false := funext fun m => rfl
 have h2 : coF x f 0 = fun _ => false := funext fun m => rfl
 rw [h1, h2]
/-- one round: what is stored, or not -/
theorem co_no {f : Nat → Bool} {k : Nat} (hk : k < 2) {i : Nat} (hi : i < x.sights.length) (h : x.sights[i].fell ≠ decide (k = 1)) : coS x f (k + 1) = coS x f k ∧ coF x f (k + 1) = coF x f k := by
 have hm := List.getElem_mem hi
 have hk2 : k = 0 ∨ k = 1 := by omega
 rcases hk2 with rfl | rfl
 ·refine ⟨funext fun m => ?_, funext fun m => by simp [coF]⟩
  have : stF x f m = false := by
   unfold stF
   have : (x.sights.all fun s => !s.fell) = false := List.all_eq_false.2 ⟨_, hm, by simpa using h⟩
   rw [this, Bool.and_false]
  simp [coS, this]
 ·refine ⟨funext fun m => by simp [coS], funext fun m => ?_⟩
  have : faF x f m = false := by
   unfold faF
   have : (x.sights.all fun s => s.fell) = false := List.all_eq_false.2 ⟨_, hm, by simpa using h⟩
   rw [this, Bool.and_false]
  simp [coF, this]
theorem co_stay {f : Nat → Bool} (h : ∀ i (hi : i < x.sights.length), x.sights[i].fell = false) : bls2 (fun m => ldF f x 2000 m && x.fits m) (coF x f 0) = bls2 (coS x f (0 + 1)) (coF x f (0 + 1)) := by
 have h1 : (x.sights.all fun s => !s.fell) = true := List.all_eq_true.2 fun s hs => by
  obtain ⟨i, hi, rfl⟩ := List.getElem_of_mem hs
  rw [h i hi]; rfl
 have h2 : coS x f (0 + 1) = fun m => ldF f x 2000 m && x.fits m := funext fun m => by simp [coS, stF, h1]
 have h3 : coF x f (0 + 1) = coF x f 0 := funext fun m => by simp [coF]
 rw [h2, h3]
theorem co_fall {f : Nat → Bool} (h : ∀ i (hi : i < x.sights.length), x.sights[i].fell = true) : bls2 (coS x f 1) (fun m => (ldF f x 2000 m && x.fits m) && decide (x.sl.hold < (m : Int))) = bls2 (coS x f (1 + 1)) (coF x f (1 + 1)) := by
 have h1 : (x.sights.all fun s => s.fell) = true := List.all_eq_true.2 fun s hs => by
  obtain ⟨i, hi, rfl⟩ := List.getElem_of_mem hs
  rw [h i hi]
 have h2 : coF x f (1 + 1) = fun m => (ldF f x 2000 m && x.fits m) && decide (x.sl.hold < (m : Int)) := funext fun m => by simp [coF, faF, h1]
 have h3 : coS x f (1 + 1) = coS x f 1 := funext fun m => by simp [coS]
 rw [h2, h3]
set_option maxRecDepth 100000 in
set_option maxHeartbeats 1000000 in
theorem course_any (f : Nat → Bool) (w : World) (hM : HpAt w S G x) (hsl : x.sights.length ≤ 9223372036854775807) (hs : 0 ≤ x.sl.settle ∧ x.sl.settle ≤ 30) (hb : x.brings.length ≤ 9223372036854775807) (hn : ∀ k, k < 2000 → f k = true → ∀ n, n ∈ x.brings → (0 ≤ n ∧ n ≤ 2000) ∧ max ((k : Int) - x.sl.settle) 0 + n < 2000) : Calls Tryd.prog 99 #[.agg (hpV S scap G gcap x).toArray, .agg (bls f).toArray] w fun e w' => e = .returned (.agg (bls2 (stF x f) (faF x f)).toArray) ∧ Below w.heap.size w w' := by
 have CL := hid fun (W : World) (hW : HpAt W S G x) => loaded_any S scap G gcap x f W hW hs hb hn
 have CT := hid fun (W : World) (hW : HpAt W S G x) => those_fits S scap G gcap x (ldF f x 2000) W hW hsl
 have HSL := hid hsl
 clear hs hb hn hsl
 obtain ⟨al, hal⟩ : ∃ al : Nat → Bool, (fun i => ldF f x 2000 i && x.fits i) = al := ⟨_, rfl⟩
 have CM := hid fun (W : World) => those_much S scap G gcap x al W
 rw [hal] at CT
 have hV : (hpV S scap G gcap x).length = 13 := rfl
 refine enterE Tryd.func99 rfl Tryd.ntmps99 (by simp) (fun a hE => ?_); simp only [envOf, Nat.zero_add, Nat.reduceAdd] at hE
 refine Ks ?_
 refine Rs 3 fun Q' K hK => ?_
 refine M1 hE 0 fun K' J ρ q0 => ?_; go_simp
 refine Ln hE J fun _ Eb => ?_; clear J K' hE a q0
 refine M1 Eb 1 fun K' J ρ q1 => ?_; go_simp
 refine Ln Eb J fun _ Ea => ?_; clear J K' Eb q1
 refine M0 fun K' J ρ => ?_; go_simp;
 refine Ln Ea J fun _ Eb => ?_; clear J K' Ea
 refine Ld [2, 3, 4] Eb hK fun a hE => ?_; clear hK K Q' Eb
 obtain ⟨B, hB⟩ : ∃ B, B = w.heap.size := ⟨_, rfl⟩
 obtain ⟨L, hL⟩ : ∃ B, B = w.heap.size + 1 := ⟨_, rfl⟩
 obtain ⟨R, hR⟩ : ∃ B, B = w.heap.size + 1 + 1 := ⟨_, rfl⟩
 rw [← hR, ← hL, ← hB] at hE
 rw [zero_course]
 refine world_cut (fun wt => Below w.heap.size w wt ∧ Cells wt B (hpV S scap G gcap x) ∧ (L < wt.heap.size ∧ Row wt L (bls f)) ∧ RowD wt R 4000) ?_ (fun w1 hC => ?_)
 ·rw [hB, hL, hR]; obtain ⟨q1, q2, q3, q4⟩ := box_row w (hpV S scap G gcap x).toArray 113 (bls f).toArray 123; exact three_box2 (bls2_length _ _) q1 q2 q3 q4
 obtain ⟨hbw1, hCB, ⟨hlL, hRL⟩, hRD⟩ := hC
 have hnR : w.heap.size ≤ R := by omega
 have hM1 := hM.below hbw1
 clear hB hR hL
 refine Ks ?_
 refine Rd [7] (fun wt => Below w1.heap.size w1 wt) (fun w1 w2 => Below w1.heap.size w1 w2) [(0, some 11), (1, some 12), (2, some 13), (3, some 14), (4, some 15), (5, some 16), (6, some 5)] [11, 12, 13, 14, 15, 16, 5] #[true, true, true, true, true, true, true, false] [2, 4] hE ((Below.refl _ _).drew) fun Q' K hK => ?_
 refine SeqOps.val ?_ (Sp fun ax wx hS hT' hd K' J => ?_) ?_; rotate_left 1
 ·have r2 := hS.at 2 (by decide) (hE.at 2 rfl); obtain ⟨_, _, _, _, _, _⟩ := bT hT'
  refine wp_load_mid 113 (.tmp 2) rfl B 0 (eval_of r2) (hpV S scap G gcap x) _ (fun j u hu => by rw [Nat.zero_add]; exact (hCB.below hT').2 j u hu) Tryd.underlying113 rfl (by kernel_rfl) ?_
  refine J.out _ _ _ rfl ?_ hT' (Below.refl _ _); rfl
 refine SeqOps.val ?_ (Sp fun ax wx hS hT' hd K' J => ?_) ?_; rotate_left 1
 ·have r3 := hS.at 3 (by decide) (hE.at 3 rfl); obtain ⟨_, _, _, _, _, _⟩ := bT hT'
  refine wp_load_mid 123 (.tmp 3) rfl L 0 (eval_of r3) (bls f) _ (fun j u hu => by rw [Nat.zero_add]; exact ((hRL.below hT' hlL) j u hu).1) Tryd.underlying123 rfl (by rw [bls_length]; kernel_rfl) ?_
  refine J.out _ _ _ rfl ?_ hT' (Below.refl _ _); rfl
 refine SeqOps.val ?_ (Sp fun ax wx hS hT' hd K' J => ?_) ?_; rotate_left 1
 ·have r11 := Tv hd 1 0 11; have r12 := Tv hd 0 1 12; obtain ⟨_, _, _, _, _, _⟩ := bT hT'
  refine o2 r11 r12 fun ρ q11 q12 => ?_; go_simp; (try go_bits);
  go_at_call 116; refine (CL.out _ (hM1.below hT')).mono ?_; rintro e w4 ⟨rfl, h4⟩
  refine J.out _ _ _ rfl ?_ (hT'.trans (h4.mono hT'.size)) h4; rfl
 refine SeqOps.val ?_ (Sp fun ax wx hS hT' hd K' J => ?_) ?_; rotate_left 1
 ·have r2 := hS.at 2 (by decide) (hE.at 2 rfl); obtain ⟨_, _, _, _, _, _⟩ := bT hT'
  refine wp_load_mid 113 (.tmp 2) rfl B 0 (eval_of r2) (hpV S scap G gcap x) _ (fun j u hu => by rw [Nat.zero_add]; exact (hCB.below hT').2 j u hu) Tryd.underlying113 rfl (by kernel_rfl) ?_
  refine J.out _ _ _ rfl ?_ hT' (Below.refl _ _); rfl
 refine SeqOps.val ?_ (Sp fun ax wx hS hT' hd K' J => ?_) ?_; rotate_left 1
 ·have r14 := Tv hd 0 3 14; obtain ⟨_, _, _, _, _, _⟩ := bT hT'
  refine o1 r14 fun ρ q14 => ?_; go_simp;
  exact Jo J hT'
 refine SeqOps.val ?_ (Sp fun ax wx hS hT' hd K' J => ?_) ?_; rotate_left 1
 ·have r13 := Tv hd 2 2 13; have r15 := Tv hd 0 4 15; obtain ⟨_, _, _, _, _, _⟩ := bT hT'
  refine o2 r13 r15 fun ρ q13 q15 => ?_; go_simp; (try go_bits);
  go_at_call 104; refine (CT.out _ (hM1.below hT')).mono ?_; rintro e w4 ⟨rfl, h4⟩
  refine J.out _ _ _ rfl ?_ (hT'.trans (h4.mono hT'.size)) h4; rfl
 refine SeqOps.say (fun v wt => ∃ C, v = .pointer (some ⟨C, 0, none⟩) ∧ w1.heap.size ≤ C ∧ RowD wt C 2000) (fun v x y h ⟨C, h1, h2, h3⟩ => ⟨C, h1, h2, h3.below h⟩) (Sp fun ax wx hS hT' hd K' J => ?_) ?_
 ·obtain ⟨_, _, _, _, _, _⟩ := bT hT'
  refine o0 fun ρ => ?_; go_simp;
  rw [zero_loads]
  exact J.out _ _ _ rfl ⟨_, rfl, hT'.size, by simp, bls fun _ => false, bls_length _, row_new _ _ _⟩ (hT'.alloc hT'.size _) ((Below.refl _ _).alloc (Nat.le_refl _) _)
 refine SeqOps.nil ?_
 intro w2 hBm; (repeat refine Ek ?_); (refine fun v h => ?_; obtain ⟨L2, rfl, hnL2, hRL2⟩ := h);
 refine fun amx hEmx => ?_
 simp only [lk, pick, Nat.reduceEqDiff, ↓reduceIte] at hEmx
 refine Lp fun K' J => ?_
 have r5 := hEmx.at 5 rfl; have r16 := hEmx.at 16 rfl
 obtain ⟨hlL2, zs2, hzs2, hRR2⟩ := hRL2
 refine wp_store_mid 123 (.tmp 5) (.tmp 16) rfl L2 0 (bls al).toArray (eval_of r5) (eval_of r16) (there_row hRR2 (by rw [hzs2, List.size_toArray, bls_length]; exact Nat.le_refl _)) (by rw [List.size_toArray, bls_length]; kernel_rfl) (bls_one _) ?_
 (try clear r5 r16)
 refine late_skip hEmx J (fun am_1 hEm_1 => ?_); clear J K'; clear hEmx
 refine Ld [2, 4, 5] hEm_1 hK fun a hE => ?_; clear hK K Q' hEm_1
 have hbw2 := hbw1.trans (hBm.mono hbw1.size)
 refine world_cut (fun wt => Below w1.heap.size w1 wt ∧ L2 < wt.heap.size ∧ Row wt L2 (bls al)) ⟨Lib.below_setCells L2 hnL2 _ _ hBm, by rw [size_setCellsN]; exact hlL2, row_all hRR2 (by rw [hzs2, bls_length])⟩ (fun w3 hCut => ?_)
 obtain ⟨h3, hlA, hRA⟩ := hCut
 clear hRR2 hlL2 hBm
 have hb3 := hbw1.trans (h3.mono hbw1.size)
 refine Ks ?_
 refine Rs 1 fun Q' K hK => ?_
 refine M0 fun K' J ρ => ?_; go_simp;
 refine Ln hE J fun _ Eb => ?_; clear J K' hE a
 refine Ld [2, 4, 5, 6] Eb hK fun a hE => ?_; clear hK K Q' Eb
 rw [zero_course]
 obtain ⟨C, hC⟩ : ∃ B, B = w3.heap.size := ⟨_, rfl⟩
 rw [← hC] at hE
 refine world_cut (fun wt => Below w3.heap.size w3 wt ∧ C < wt.heap.size ∧ Row wt C (bls2 (fun _ => false) fun _ => false)) (by rw [hC]; exact ⟨(Below.refl _ _).alloc (Nat.le_refl _) _, by simp, row_new w3 _ _⟩) (fun w5 hCut => ?_)
 obtain ⟨h5, hlC, hRC⟩ := hCut
 have hnC : w3.heap.size ≤ C := Nat.le_of_eq hC.symm
 have hLC : L2 < C := by omega
 clear hC
 have hbw5 := hb3.trans (h5.mono hb3.size)
 refine Ks ?_
 refine Rs 2 fun Q' K hK => ?_
 refine M0 fun K' J ρ => ?_; go_simp;
 refine Ln hE J fun _ Eb => ?_; clear J K' hE a
 refine M0 fun K' J ρ => ?_; go_simp;
 refine Ln Eb J fun _ Ea => ?_; clear J K' Eb
 refine Ld [2, 4, 5, 6, 17, 18] Ea hK fun a hE => ?_; clear hK K Q' Ea
 refine Ks ?_
 rw [← coF_zero x f] at hRC
 refine loop_st (fun (k : Nat) a w' => k ≤ 2 ∧ Fits 43 [(2, .pointer (some ⟨B, 0, none⟩)), (4, .pointer (some ⟨R, 0, none⟩)), (5, .pointer (some ⟨L2, 0, none⟩)), (6, .pointer (some ⟨C, 0, none⟩)), (17, .agg #[.bool false, .bool true]), (18, .int .i64 k)] a ∧ Below w3.heap.size w3 w' ∧ C < w'.heap.size ∧ Row w' C (bls2 (coS x f k) (coF x f k))) (fun k => 2 - k) 0 ⟨Nat.zero_le _, by simpa using hE, h5, hlC, hRC⟩ (fun k a wr hI => ?_)
 clear hE hRC hlC
 obtain ⟨hk, hE, hW, hlC, hRC⟩ := hI
 have hbr := hb3.trans (hW.mono hb3.size)
 have h3r := h3.trans (hW.mono h3.size)
 by_cases hlt : k < 2
 ·have hltI : (k : Int) < 2 := by omega
  have iF : ∀ W, (Instr.index 156 (.agg #[.bool false, .bool true]) (.int .i64 k)).run Tryd.prog W = .ok (.bool (decide (k = 1))) W := fun W => by
   have hk2 : k = 0 ∨ k = 1 := by omega
   rcases hk2 with rfl | rfl <;> (show _ = _) <;> kernel_rfl
  have HNO := hid fun i hi h => co_no x (f := f) hlt (i := i) hi h
  obtain ⟨fe, hfe⟩ : ∃ fe, decide (k = 1) = fe := ⟨_, rfl⟩
  rw [hfe] at iF HNO
  have HFE := hid hfe
  clear hfe
  have d11 : wr.cell? ⟨B, 11, none⟩ = some (.slice S x.sights.length scap) := (hCB.below h3r).2 11 _ rfl
  have hAr := (hM1.below h3r).1
  have hS9 := HSL.out
  refine Ks ?_
  refine Rs 1 fun Q' K hK => ?_
  refine M1 hE 18 fun K' J ρ q18 => ?_; go_simp; (try go_bits)
  refine Ln hE J fun _ Eb => ?_; clear J K' hE a q18
  replace Eb := Eb.turn 19 (v' := .bool true) rfl (by (first | (simp; done) | (simp; omega)))
  refine Ld [2, 4, 5, 6, 17, 18, 19] Eb hK fun a hE => ?_; clear hK K Q' Eb
  refine Ks ?_
  refine cond_yes hE (t := 19) rfl ?_
  refine Ks ?_
  refine Rs 2 fun Q' K hK => ?_
  refine M2 hE 17 18 fun K' J ρ q17 q18 => ?_; go_simp; (try go_bits)
  refine Ln hE J fun _ Eb => ?_; clear J K' hE a q17 q18
  refine M1 Eb 20 fun K' J ρ q20 => ?_; go_simp
  refine Ln Eb J fun _ Ea => ?_; clear J K' Eb q20
  refine Ld [2, 4, 5, 6, 8, 17, 18] Ea hK fun a hE => ?_; clear hK K Q' Ea
  refine Ks ?_
  refine Rs 4 fun Q' K hK => ?_
  refine M1 hE 2 fun K' J ρ q2 => ?_; go_simp
  refine Ln hE J fun _ Eb => ?_; clear J K' hE a q2
  refine M1 Eb 21 fun K' J ρ q21 => ?_; go_simp
  refine Ln Eb J fun _ Ea => ?_; clear J K' Eb q21
  refine M1 Ea 22 fun K' J ρ q22 => ?_; go_simp; (try go_bits)
  refine Ln Ea J fun _ Eb => ?_; clear J K' Ea q22
  refine M0 fun K' J ρ => ?_; go_simp;
  refine Ln Eb J fun _ Ea => ?_; clear J K' Eb
  refine Ld [2, 4, 5, 6, 8, 17, 18, 22, 23, 24] Ea hK fun a hE => ?_; clear hK K Q' Ea
  refine Ks ?_
  clear iF d11
  refine loop_st (fun (j : Nat) a w' => j ≤ x.sights.length ∧ Fits 43 [(2, .pointer (some ⟨B, 0, none⟩)), (4, .pointer (some ⟨R, 0, none⟩)), (5, .pointer (some ⟨L2, 0, none⟩)), (6, .pointer (some ⟨C, 0, none⟩)), (8, .bool fe), (17, .agg #[.bool false, .bool true]), (18, .int .i64 k), (22, .slice S x.sights.length scap), (23, .int .i64 x.sights.length), (24, .int .i64 j)] a ∧ Below wr.heap.size wr w' ∧ ∀ i (h : i < x.sights.length), i < j → x.sights[i].fell = fe) (fun j => x.sights.length - j) 0 ⟨Nat.zero_le _, by simpa using hE, Below.refl _ _, fun i _ h => absurd h (Nat.not_lt_zero _)⟩ (fun j a ws hI => ?_)
  clear hE
  obtain ⟨hj, hE, hV, hN⟩ := hI
  have HN := hid hN
  clear hN
  have hbs := hbr.trans (hV.mono hbr.size)
  have hWs := hW.trans (hV.mono hW.size)
  have hRCs := hRC.below hV hlC
  have hlCs := Nat.lt_of_lt_of_le hlC hV.size
  have hAs := hAr.below hV
  have hS9 := HSL.out
  by_cases hjl : j < x.sights.length
  ·have hjlI : (j : Int) < x.sights.length := by omega
   obtain ⟨bx, ox, hSe, hbx, x0, x1, x2, x3⟩ := hAs.si hjl
   have HI : Hid (x.sights[j].fell = fe → ∀ i (h : i < x.sights.length), i < j + 1 → x.sights[i].fell = fe) := hid fun h i hi h1 => by
    by_cases e : i = j
    ·subst e; exact h
    ·exact HN.out i hi (by omega)
   have HQ : Hid (x.sights[j].fell ≠ fe → coS x f (k + 1) = coS x f k ∧ coF x f (k + 1) = coF x f k) := hid fun h => HNO.out j hjl h
   obtain ⟨X, hX⟩ : ∃ X, x.sights[j] = X := ⟨_, rfl⟩
   rw [hX] at x0 x1 x2 x3 HI HQ
   obtain ⟨xh, xf, xl, xi⟩ := X
   simp only at x0 x1 x2 x3 HI HQ
   have hEs := hE
   rw [hSe] at hE
   clear hX hEs
   refine Ks ?_
   refine Rs 1 fun Q' K hK => ?_
   refine M2 hE 24 23 fun K' J ρ q24 q23 => ?_; go_simp; (try go_bits)
   refine Ln hE J fun _ Eb => ?_; clear J K' hE a q24 q23
   replace Eb := Eb.turn 25 (v' := .bool true) rfl (by (first | (simp; done) | (simp; omega)))
   refine Ld [2, 4, 5, 6, 8, 17, 18, 22, 23, 24, 25] Eb hK fun a hE => ?_; clear hK K Q' Eb
   refine Ks ?_
   refine cond_yes hE (t := 25) rfl ?_
   refine Ks ?_
   refine Rs 4 fun Q' K hK => ?_
   refine M2 hE 22 24 fun K' J ρ q22 q24 => ?_; go_simp; (try go_bits)
   refine Ln hE J fun _ Eb => ?_; clear J K' hE a q22 q24
   refine M1 Eb 26 fun K' J ρ q26 => ?_; go_simp
   refine Ln Eb J fun _ Ea => ?_; clear J K' Eb q26
   refine M0 fun K' J ρ => ?_; go_simp;
   refine Ln Ea J fun _ Eb => ?_; clear J K' Ea
   refine Lp fun K' J => ?_
   have r10 := Eb.at 10 rfl; have r27 := Eb.at 27 rfl
   refine wp_store_mid 68 (.tmp 10) (.tmp 27) rfl ws.heap.size 0 #[.int .i64 xh, .bool xf, .int .i64 xl, .int .i64 xi] (eval_of r10) (eval_of r27) (there_row (row_new ws _ _) (Nat.le_of_eq rfl)) (by kernel_rfl) (by kernel_rfl) ?_
   (try clear r10 r27)
   refine late_skip Eb J (fun _ Ea => ?_); clear J K'; clear Eb
   refine Ld [2, 4, 5, 6, 8, 10, 17, 18, 22, 23, 24] Ea hK fun a hE => ?_; clear hK K Q' Ea
   obtain ⟨Q, hQ⟩ : ∃ B, B = ws.heap.size := ⟨_, rfl⟩
   rw [← hQ] at hE
   refine world_cut (fun wt => Below ws.heap.size ws wt ∧ Cells wt Q [.int .i64 xh, .bool xf, .int .i64 xl, .int .i64 xi]) (by rw [hQ]; exact boxed_new ws #[.int .i64 0, .bool false, .int .i64 0, .int .i64 0] 68 [.int .i64 xh, .bool xf, .int .i64 xl, .int .i64 xi] rfl) (fun w6 hCut => ?_)
   obtain ⟨h6, hCQ⟩ := hCut
   clear hQ
   have hbw6 := hbs.trans (h6.mono hbs.size)
   obtain ⟨nQ, cQ0, cQ1, cQ2, cQ3⟩ := hCQ.c4
   refine Ks ?_
   refine Rs 4 fun Q' K hK => ?_
   refine M1 hE 10 fun K' J ρ q10 => ?_; go_simp
   refine Ln hE J fun _ Eb => ?_; clear J K' hE a q10
   refine M1 Eb 28 fun K' J ρ q28 => ?_; go_simp
   refine Ln Eb J fun _ Ea => ?_; clear J K' Eb q28
   refine M1 Ea 8 fun K' J ρ q8 => ?_; go_simp
   refine Ln Ea J fun _ Eb => ?_; clear J K' Ea q8
   refine M2 Eb 29 30 fun K' J ρ q29 q30 => ?_; go_simp; (try go_bits)
   refine Ln Eb J fun _ Ea => ?_; clear J K' Eb q29 q30
   refine Ld [2, 4, 5, 6, 8, 17, 18, 22, 23, 24, 31] Ea hK fun a hE => ?_; clear hK K Q' Ea
   refine Ks ?_
   have hV6 := hV.trans (h6.mono hV.size)
   refine cond_part hE (t := 31) rfl (fun h => ?_) (fun h => ?_)
   ·have hne : xf ≠ fe := by simpa using h
    obtain ⟨e1, e2⟩ := HQ.out hne
    have hRC6 := hRCs.below h6 hlCs
    rw [← e1, ← e2] at hRC6
    clear h
    refine Ks ?_
    refine Rs 2 fun Q' K hK => ?_
    refine M1 hE 18 fun K' J ρ q18 => ?_; go_simp; (try go_bits); (try simp (disch := omega) only [IntWalk.i64_in])
    refine Ln hE J fun _ Eb => ?_; clear J K' hE a q18
    refine M1 Eb 41 fun K' J ρ q41 => ?_; go_simp
    refine Ln Eb J fun _ Ea => ?_; clear J K' Eb q41
    refine Ld [2, 4, 5, 6, 17, 18] Ea hK fun a hE => ?_; clear hK K Q' Ea
    refine Ks ?_
    exact ⟨k + 1, ⟨hlt, by simpa using hE, hWs.trans (h6.mono hWs.size), Nat.lt_of_lt_of_le hlCs h6.size, hRC6⟩, by omega⟩
   ·have hq : xf = fe := by simpa using h
    have HI2 := hid (HI.out hq)
    clear h
    refine Ks ?_
    refine Rs 2 fun Q' K hK => ?_
    refine M1 hE 24 fun K' J ρ q24 => ?_; go_simp; (try go_bits); (try simp (disch := omega) only [IntWalk.i64_in])
    refine Ln hE J fun _ Eb => ?_; clear J K' hE a q24
    refine M1 Eb 32 fun K' J ρ q32 => ?_; go_simp
    refine Ln Eb J fun _ Ea => ?_; clear J K' Eb q32
    refine Ld [2, 4, 5, 6, 8, 17, 18, 22, 23, 24] Ea hK fun a hE => ?_; clear hK K Q' Ea
    refine Ks ?_
    exact ⟨j + 1, ⟨hjl, by rw [← hSe] at hE; simpa using hE, hV6, fun i hi h1 => HI2.out i hi h1⟩, by omega⟩
  ·have hje : j = x.sights.length := by omega
   have hall : ∀ i (h : i < x.sights.length), x.sights[i].fell = fe := fun i h => HN.out i h (by omega)
   have HALL := hid hall
   clear hall
   subst hje
   have hRAs := hRA.below (hWs) hlA
   refine Ks ?_
   refine Rs 1 fun Q' K hK => ?_
   refine M2 hE 24 23 fun K' J ρ q24 q23 => ?_; go_simp; (try go_bits)
   refine Ln hE J fun _ Eb => ?_; clear J K' hE a q24 q23
   replace Eb := Eb.turn 25 (v' := .bool false) rfl (by simp)
   refine Ld [2, 4, 5, 6, 8, 17, 18, 22, 23, 24, 25] Eb hK fun a hE => ?_; clear hK K Q' Eb
   refine Ks ?_
   refine cond_no hE (t := 25) rfl ?_
   refine Ks ?_
   refine Rs 1 fun Q' K hK => ?_
   refine M1 hE 8 fun K' J ρ q8 => ?_; go_simp
   refine Ln hE J fun _ Eb => ?_; clear J K' hE a q8
   refine Ld [2, 4, 5, 6, 17, 18, 33] Eb hK fun a hE => ?_; clear hK K Q' Eb
   refine Ks ?_
   cases hv : fe
   ·have hk0 : k = 0 := by have := HFE.out; rw [hv] at this; simp at this; omega
    subst hk0
    have HST := hid (co_stay x (f := f) fun i hi => (HALL.out i hi).trans hv)
    rw [hv] at hE
    clear hv
    refine cond_no hE (t := 33) rfl ?_
    refine Ks ?_
    refine Rs 3 fun Q' K hK => ?_
    refine Lp fun K' J => ?_
    have r5 := hE.at 5 rfl
    refine wp_load_mid 123 (.tmp 5) rfl L2 0 (eval_of r5) (bls al) _ (fun j u hu => by rw [Nat.zero_add]; exact (hRAs j u hu).1) Tryd.underlying123 rfl (by rw [bls_length]; kernel_rfl) ?_
    (try clear r5)
    refine Ln hE J fun _ Eb => ?_; clear J K' hE a
    refine M1 Eb 6 fun K' J ρ q6 => ?_; go_simp
    refine Ln Eb J fun _ Ea => ?_; clear J K' Eb q6
    refine Lp fun K' J => ?_
    have r40 := Ea.at 40 rfl; have r39 := Ea.at 39 rfl
    refine wp_store_mid 123 (.tmp 40) (.tmp 39) rfl C 0 (bls al).toArray (eval_of r40) (eval_of r39) (there_mid hRCs (by rw [bls2_length, List.size_toArray, bls_length]; omega)) (by rw [List.size_toArray, bls_length]; kernel_rfl) (bls_one _) ?_
    (try clear r40 r39)
    refine late_skip Ea J (fun _ Eb => ?_); clear J K'; clear Ea
    refine Ld [2, 4, 5, 6, 17, 18] Eb hK fun a hE => ?_; clear hK K Q' Eb
    refine world_cut (fun wt => Below w3.heap.size w3 wt ∧ C < wt.heap.size ∧ Row wt C (bls2 (coS x f (0 + 1)) (coF x f (0 + 1)))) ⟨Lib.below_setCells C hnC _ _ hWs, by rw [size_setCellsN]; exact hlCs, by rw [← HST.out]; rw [hal]; exact bls2_set0 al hRCs⟩ (fun w9 hCut => ?_)
    obtain ⟨hW9, hlC9, hRC9⟩ := hCut
    refine Ks ?_
    refine Rs 2 fun Q' K hK => ?_
    refine M1 hE 18 fun K' J ρ q18 => ?_; go_simp; (try go_bits); (try simp (disch := omega) only [IntWalk.i64_in])
    refine Ln hE J fun _ Eb => ?_; clear J K' hE a q18
    refine M1 Eb 41 fun K' J ρ q41 => ?_; go_simp
    refine Ln Eb J fun _ Ea => ?_; clear J K' Eb q41
    refine Ld [2, 4, 5, 6, 17, 18] Ea hK fun a hE => ?_; clear hK K Q' Ea
    refine Ks ?_
    exact ⟨0 + 1, ⟨hlt, by simpa using hE, hW9, hlC9, hRC9⟩, by omega⟩
   ·have hk0 : k = 1 := by have := HFE.out; rw [hv] at this; simp at this; omega
    subst hk0
    have HST : Hid (bls2 (coS x f 1) (fun m => al m && decide (x.sl.hold < (m : Int))) = bls2 (coS x f (1 + 1)) (coF x f (1 + 1))) := hid (by rw [← hal]; exact co_fall x (f := f) fun i hi => (HALL.out i hi).trans hv)
    rw [hv] at hE
    clear hv
    refine cond_yes hE (t := 33) rfl ?_
    refine Ks ?_
    refine Rs 6 fun Q' K hK => ?_
    refine Lp fun K' J => ?_
    have r5 := hE.at 5 rfl
    refine wp_load_mid 123 (.tmp 5) rfl L2 0 (eval_of r5) (bls al) _ (fun j u hu => by rw [Nat.zero_add]; exact (hRAs j u hu).1) Tryd.underlying123 rfl (by rw [bls_length]; kernel_rfl) ?_
    (try clear r5)
    refine Ln hE J fun _ Eb => ?_; clear J K' hE a
    refine Lp fun K' J => ?_
    have r2 := Eb.at 2 rfl
    refine wp_load_mid 113 (.tmp 2) rfl B 0 (eval_of r2) (hpV S scap G gcap x) _ (fun j u hu => by rw [Nat.zero_add]; exact (hCB.below (h3r.trans (hV.mono h3r.size))).2 j u hu) Tryd.underlying113 rfl (by kernel_rfl) ?_
    (try clear r2)
    refine Ln Eb J fun _ Ea => ?_; clear J K' Eb
    refine M1 Ea 35 fun K' J ρ q35 => ?_; go_simp
    refine Ln Ea J fun _ Eb => ?_; clear J K' Ea q35
    refine M2 Eb 34 36 fun K' J ρ q34 q36 => ?_; go_simp; (try go_bits); (try clear q34 q36)
    go_at_call 104; refine (CM.out _).mono ?_; rintro e w7 ⟨rfl, h7⟩
    have hRC7 := hRCs.below h7 hlCs
    have hlC7 := Nat.lt_of_lt_of_le hlCs h7.size
    (try clear r34 r36)
    refine Ln Eb J fun _ Ea => ?_; clear J K' Eb
    refine M1 Ea 6 fun K' J ρ q6 => ?_; go_simp
    refine Ln Ea J fun _ Eb => ?_; clear J K' Ea q6
    refine Lp fun K' J => ?_
    have r38 := Eb.at 38 rfl; have r37 := Eb.at 37 rfl
    refine wp_store_mid 123 (.tmp 38) (.tmp 37) rfl C 2000 (bls fun i => al i && decide (x.sl.hold < (i : Int))).toArray (eval_of r38) (eval_of r37) (there_mid hRC7 (by rw [bls2_length, List.size_toArray, bls_length]; exact Nat.le_refl _)) (by rw [List.size_toArray, bls_length]; kernel_rfl) (bls_one _) ?_
    (try clear r38 r37)
    refine late_skip Eb J (fun _ Ea => ?_); clear J K'; clear Eb
    refine Ld [2, 4, 5, 6, 17, 18] Ea hK fun a hE => ?_; clear hK K Q' Ea
    have hW7 := hWs.trans (h7.mono hWs.size)
    refine world_cut (fun wt => Below w3.heap.size w3 wt ∧ C < wt.heap.size ∧ Row wt C (bls2 (coS x f (1 + 1)) (coF x f (1 + 1)))) ⟨Lib.below_setCells C hnC _ _ hW7, by rw [size_setCellsN]; exact hlC7, by rw [← HST.out]; exact bls2_set1 (fun i => al i && decide (x.sl.hold < (i : Int))) hRC7⟩ (fun w9 hCut => ?_)
    obtain ⟨hW9, hlC9, hRC9⟩ := hCut
    refine Ks ?_
    refine Rs 2 fun Q' K hK => ?_
    refine M1 hE 18 fun K' J ρ q18 => ?_; go_simp; (try go_bits); (try simp (disch := omega) only [IntWalk.i64_in])
    refine Ln hE J fun _ Eb => ?_; clear J K' hE a q18
    refine M1 Eb 41 fun K' J ρ q41 => ?_; go_simp
    refine Ln Eb J fun _ Ea => ?_; clear J K' Eb q41
    refine Ld [2, 4, 5, 6, 17, 18] Ea hK fun a hE => ?_; clear hK K Q' Ea
    refine Ks ?_
    exact ⟨1 + 1, ⟨hlt, by simpa using hE, hW9, hlC9, hRC9⟩, by omega⟩
 ·have hke : k = 2 := by omega
  subst hke
  have e1 : coS x f 2 = stF x f := funext fun m => by simp [coS]
  have e2 : coF x f 2 = faF x f := funext fun m => by simp [coF]
  rw [e1, e2] at hRC
  obtain ⟨hlR, zs, hzs, hRR⟩ := hRD.below h3r
  refine Ks ?_
  refine Rs 1 fun Q' K hK => ?_
  refine M1 hE 18 fun K' J ρ q18 => ?_; go_simp; (try go_bits)
  refine Ln hE J fun _ Eb => ?_; clear J K' hE a q18
  replace Eb := Eb.turn 19 (v' := .bool false) rfl (by simp)
  refine Ld [2, 4, 5, 6, 17, 18, 19] Eb hK fun a hE => ?_; clear hK K Q' Eb
  refine Ks ?_
  refine cond_no hE (t := 19) rfl ?_
  refine Ks ?_
  refine Rs 2 fun Q' K hK => ?_
  refine Lp fun K' J => ?_
  have r6 := hE.at 6 rfl
  refine wp_load_mid 141 (.tmp 6) rfl C 0 (eval_of r6) (bls2 (stF x f) (faF x f)) _ (bls2_range hRC) Tryd.underlying141 rfl (by rw [bls2_length]; kernel_rfl) ?_
  (try clear r6)
  refine Ln hE J fun _ Eb => ?_; clear J K' hE a
  refine Lp fun K' J => ?_
  have r4 := Eb.at 4 rfl; have r42 := Eb.at 42 rfl
  refine wp_store_mid 141 (.tmp 4) (.tmp 42) rfl R 0 (bls2 (stF x f) (faF x f)).toArray (eval_of r4) (eval_of r42) (there_row hRR (by rw [hzs, List.size_toArray, bls2_length]; exact Nat.le_refl _)) (by rw [List.size_toArray, bls2_length]; kernel_rfl) (bls2_one' _ _) ?_
  (try clear r4 r42)
  refine late_skip Eb J (fun _ Ea => ?_); clear J K'; clear Eb
  refine Ld [4] Ea hK fun a hE => ?_; clear hK K Q' Ea
  refine world_cut (fun wt => Below w.heap.size w wt ∧ Row wt R (bls2 (stF x f) (faF x f))) ⟨Lib.below_setCells R hnR _ _ hbr, row_all hRR (by rw [hzs, bls2_length])⟩ (fun w9 hC => ?_)
  obtain ⟨hb9, hRR9⟩ := hC
  refine Ks ?_
  exact ret_cell hE rfl rfl (fun j u hu => (hRR9 j u hu).1) Tryd.underlying141 rfl (by rw [bls2_length]; kernel_rfl) ⟨rfl, hb9⟩
end
end Go.Proofs.YtkhmcofmjjmjhaaDoor
