/- Cuts: what holds behind a statement in all cases (for any seat). -/
import Derived.Test.YtkhmcofmjjmjhaaDoorKLSde
import Derived.Test.YtkhmcofmjjmjhaaDoorKLF

namespace Go.Proofs.YtkhmcofmjjmjhaaDoor
set_option linter.unusedSimpArgs false
set_option linter.unusedVariables false
open Go Go.RowKit
attribute [local go_sem high] cell_set_wr
attribute [local go_sem low] cell_wr frozen_wr
attribute [local go_sem] wr_set wr_drew wr_drewN wr_alloc wr_new Rho.c Rho.n Rho.g
/-- the loads of an hour, if so much was left before it -/
def ldsR (b : Sb) (i : Nat) (h : Hr) (left : Nat) : List Nat := (hpI b i h).brings.map (loN (hpI b i h) left)
theorem brings_pos (sl : Sl) {h : Hr} (h1 : h.n1 ≤ h.n2) (h2 : h.w1 ≤ h.w2) (h3 : h.s1 ≤ h.s2) : 0 < (nub (brAll sl h)).length :=
 List.length_pos_of_mem (mem_nub.2 (mem_brAll.2 ⟨h.n1, h.w1, h.s1, ⟨Int.le_refl _, h1⟩, ⟨Int.le_refl _, h2⟩, ⟨Int.le_refl _, h3⟩, rfl⟩))
section
variable (H : Option Addr) (hcap : Nat) (S : Option Addr) (scap : Nat) (b : Sb)
set_option maxRecDepth 100000 in
set_option maxHeartbeats 4000000 in
theorem rloads_any (hb : OkB b) {i : Nat} (hi : i < b.hours.length) (left : Nat) (hlf : left ≤ 2000) (w : World) (hM : SbAt w H S b) : Calls Tryd.prog 86 #[.agg (sbV H hcap S scap b).toArray, .int .i64 i, .int .i64 left] w fun e w' => (∃ G c, e = .returned (.slice (some ⟨G, 0, none⟩) (ldsR b i b.hours[i] left).length c) ∧ w.heap.size ≤ G ∧ FArr w' G (ldsR b i b.hours[i] left).length (fun x => natV ((ldsR b i b.hours[i] left).getD x 0))) ∧ Below w.heap.size w w' := by
 have hHr := hb.hour b.hours[i] (List.getElem_mem hi); have hse := hb.settle; have HB := hid fun (n : Int) (hn : n ∈ nub (brAll b.sl b.hours[i])) => brings_to hb (List.getElem_mem hi) (mem_brAll.1 (mem_nub.1 hn)); have HC := hid fun (W : World) hW => brings_any H hcap S scap b hb hi W hW; have hpos := brings_pos b.sl hHr.1.1.2.1 hHr.2.1.1.2.1 hHr.2.2.1.2.1; have HX : Hid (ldsR b i b.hours[i] left = (nub (brAll b.sl b.hours[i])).map fun n => (max ((left : Int) - b.sl.settle) 0 + n).toNat) := hid rfl
 have h64 : (nub (brAll b.sl b.hours[i])).length ≤ 64 := by
  refine Nat.le_trans (nub_len _) ?_; rw [← lis_all]; have := lisA_len b.sl b.hours[i] (b.hours[i].n2 - b.hours[i].n1 + 1).toNat (by omega) (by omega)
  omega
 obtain ⟨L, hL⟩ : ∃ L, nub (brAll b.sl b.hours[i]) = L := ⟨_, rfl⟩; obtain ⟨R, hR⟩ : ∃ R, ldsR b i b.hours[i] left = R := ⟨_, rfl⟩; rw [hL] at HB HC hpos HX h64; rw [hR] at HX; rw [hR]; have hlen : R.length = L.length := by rw [HX.out, List.length_map]
 clear hL hR hHr hb; refine En Tryd.func86 Tryd.ntmps86 fun a hE => ?_; refine Ks ?_; refine Rs 2 fun Q' K hK => ?_; refine M1 hE 0 fun K' J ρ q0 => ?_; go_simp; refine Ln hE J fun _ Eb => ?_; clear J K' hE a q0; refine M0 fun K' J ρ => ?_; go_simp; refine Ln Eb J fun _ Ea => ?_; clear J K' Eb; refine Ld [1, 2, 3] Ea hK fun a hE => ?_; clear hK K Q' Ea; obtain ⟨B, hBe⟩ : ∃ B, B = w.heap.size := ⟨_, rfl⟩; rw [← hBe] at hE; refine world_cut (fun wt => Below w.heap.size w wt ∧ Cells wt B (sbV H hcap S scap b)) ⟨(Below.refl _ _).alloc (Nat.le_refl _) _, by rw [hBe]; exact cells_new _ _ _⟩ (fun w1 hCut => ?_); obtain ⟨hbw1, hCB⟩ := hCut; clear hBe; replace hM := hM.below hbw1; refine Ks ?_; refine Rs 4 fun Q' K hK => ?_; refine Lp fun K' J => ?_; have r3 := hE.at 3 rfl; refine wp_load_mid 29 (.tmp 3) rfl B 0 (eval_of r3) (sbV H hcap S scap b) _ (fun j u hu => by rw [Nat.zero_add]; exact hCB.2 j u hu) Tryd.underlying29 rfl (by kernel_rfl) ?_; (try clear r3); refine Ln hE J fun _ Eb => ?_; clear J K' hE a; refine M1 Eb 1 fun K' J ρ q1 => ?_; go_simp; refine Ln Eb J fun _ Ea => ?_; clear J K' Eb q1; refine M2 Ea 9 10 fun K' J ρ q9 q10 => ?_; go_simp; (try go_bits); (try clear q9 q10); go_at_call 108; refine (HC.out _ hM).mono ?_; rintro e w2 ⟨⟨A, c, rfl, hO⟩, h2⟩; (try clear r9 r10); refine Ln Ea J fun _ Eb => ?_; clear J K' Ea; refine M1 Eb 11 fun K' J ρ q11 => ?_; go_simp; refine Ln Eb J fun _ Ea => ?_; clear J K' Eb q11; refine Ld [2, 3, 7] Ea hK fun a hE => ?_; clear hK K Q' Ea; obtain ⟨G, rfl, hwG, hF⟩ := own_farr hO hpos
 clear hO; have hbw2 := hbw1.trans (h2.mono hbw1.size); replace hM := hM.below h2; refine Ks ?_; refine Rs 1 fun Q' K hK => ?_; refine M0 fun K' J ρ => ?_; go_simp; refine Ln hE J fun _ Eb => ?_; clear J K' hE a; refine Ld [2, 3, 7, 8] Eb hK fun a hE => ?_; clear hK K Q' Eb; refine Ks ?_; refine loop_st (fun (k : Nat) a w' => k ≤ L.length ∧ Fits 31 [(2, .int .i64 left), (3, .pointer (some ⟨B, 0, none⟩)), (7, .slice (some ⟨G, 0, none⟩) L.length c), (8, .int .i64 k)] a ∧ Below w1.heap.size w1 w' ∧ FArr w' G L.length (fun x => if x < k then natV (R.getD x 0) else .int .i64 (L.getD x 0))) (fun k => L.length - k) 0 ⟨Nat.zero_le _, by simpa using hE, h2, hF.congr fun x hx => ?_⟩ (fun k a wr hI => ?_)
 ·rw [if_neg (by omega)]; simp [ints, List.getD_eq_getElem?_getD, hx]
 clear hE hF; obtain ⟨hk, hE, hW, hF⟩ := hI; have hbr := hbw1.trans (hW.mono hbw1.size); have hCr := hCB.below hW; have nB := hCr.1; have cB3 := hCr.2 3 _ rfl
 by_cases hlt : k < L.length
 ·have hltI : (k : Int) < L.length := by omega
  have x0 := hF.cell k hlt; have xw := hF.wr k hlt; have nG := hF.lt; rw [if_neg (by omega)] at x0; obtain ⟨n, hn⟩ : ∃ n, L.getD k 0 = n := ⟨_, rfl⟩; have hnm : n ∈ L := by rw [← hn, List.getD_eq_getElem?_getD, List.getElem?_eq_getElem hlt]; exact List.getElem_mem hlt
  have hnb := HB.out n hnm
  have hRk : ((R.getD k 0 : Nat) : Int) = n + max 0 ((left : Int) - b.sl.settle) := by
   rw [HX.out, List.getD_eq_getElem?_getD, List.getElem?_map, List.getElem?_eq_getElem hlt, Option.map_some, Option.getD_some]; rw [List.getD_eq_getElem?_getD, List.getElem?_eq_getElem hlt, Option.getD_some] at hn; rw [hn]
   omega
  obtain ⟨m, hm⟩ : ∃ m, R.getD k 0 = m := ⟨_, rfl⟩; rw [hm] at hRk; rw [hn] at x0; have HM := hid hm; have HRk := hid hRk; have HF := hid hF; clear hm hn hnm hF hRk; refine Ks ?_; refine Rs 4 fun Q' K hK => ?_; refine M1 hE 8 fun K' J ρ q8 => ?_; go_simp; refine Ln hE J fun _ Eb => ?_; clear J K' hE a q8; refine M1 Eb 7 fun K' J ρ q7 => ?_; go_simp; refine Ln Eb J fun _ Ea => ?_; clear J K' Eb q7; refine M1 Ea 13 fun K' J ρ q13 => ?_; go_simp; (try go_bits); refine Ln Ea J fun _ Eb => ?_; clear J K' Ea q13; refine M2 Eb 12 14 fun K' J ρ q12 q14 => ?_; go_simp; (try go_bits); refine Ln Eb J fun _ Ea => ?_; clear J K' Eb q12 q14; replace Ea := Ea.turn 15 (v' := .bool true) rfl (by (first | (simp; done) | (simp; omega))); refine Ld [2, 3, 7, 8, 15] Ea hK fun a hE => ?_; clear hK K Q' Ea; refine Ks ?_; refine cond_yes hE (t := 15) rfl ?_; refine Ks ?_; refine Rd [12] (fun wt => Below wr.heap.size wr wt) (fun w1 w2 => Below w1.heap.size w1 w2) [(0, some 18), (1, some 19), (2, some 20), (3, some 21), (4, some 22), (5, some 23), (6, some 24), (7, some 25), (8, some 26), (9, some 27), (10, some 28), (11, some 29)] [18, 19, 20, 21, 22, 23, 24, 25, 26, 27, 28, 29] #[true, true, true, true, true, true, true, true, true, true, true, true, false] [2, 3, 7, 8] hE ((Below.refl _ _).drew) fun Q' K hK => ?_; refine SeqOps.val ?_ (Sp fun ax wx hS hT' hd K' J => ?_) ?_; rotate_left 1
  ·have r7 := Ta hS hE 7; refine o1 r7 fun ρ q7 => ?_; go_simp; exact Jo J hT'
  refine SeqOps.val ?_ (Sp fun ax wx hS hT' hd K' J => ?_) ?_; rotate_left 1
  ·have r8 := Ta hS hE 8; refine o1 r8 fun ρ q8 => ?_; go_simp; exact Jo J hT'
  refine SeqOps.val ?_ (Sp fun ax wx hS hT' hd K' J => ?_) ?_; rotate_left 1
  ·have r18 := Tv hd 1 0 18; have r19 := Tv hd 0 1 19; refine o2 r18 r19 fun ρ q18 q19 => ?_; go_simp; (try go_bits); exact Jo J hT'
  refine SeqOps.val ?_ (Sp fun ax wx hS hT' hd K' J => ?_) ?_; rotate_left 1
  ·have r20 := Tv hd 0 2 20; obtain ⟨_, _, _, _, _, _⟩ := bT hT'; refine o1 r20 fun ρ q20 => ?_; go_simp; exact Jo J hT'
  refine SeqOps.val ?_ (Sp fun ax wx hS hT' hd K' J => ?_) ?_; rotate_left 1
  ·have r2 := Ta hS hE 2; refine o1 r2 fun ρ q2 => ?_; go_simp; exact Jo J hT'
  refine SeqOps.val ?_ (Sp fun ax wx hS hT' hd K' J => ?_) ?_; rotate_left 1
  ·have r3 := Ta hS hE 3; refine o1 r3 fun ρ q3 => ?_; go_simp; exact Jo J hT'
  refine SeqOps.val ?_ (Sp fun ax wx hS hT' hd K' J => ?_) ?_; rotate_left 1
  ·have r23 := Tv hd 0 5 23; refine o1 r23 fun ρ q23 => ?_; go_simp; exact Jo J hT'
  refine SeqOps.val ?_ (Sp fun ax wx hS hT' hd K' J => ?_) ?_; rotate_left 1
  ·have r24 := Tv hd 0 6 24; obtain ⟨_, _, _, _, _, _⟩ := bT hT'; refine o1 r24 fun ρ q24 => ?_; go_simp; exact Jo J hT'
  refine SeqOps.val ?_ (Sp fun ax wx hS hT' hd K' J => ?_) ?_; rotate_left 1
  ·have r22 := Tv hd 3 4 22; have r25 := Tv hd 0 7 25; refine o2 r22 r25 fun ρ q22 q25 => ?_; go_simp; (try go_bits); (try simp (disch := omega) only [IntWalk.i64_in]); exact Jo J hT'
  refine SeqOps.val ?_ (Sp fun ax wx hS hT' hd K' J => ?_) ?_; rotate_left 1
  ·have r26 := Tv hd 0 8 26; refine o1 r26 fun ρ q26 => ?_; go_simp; (try go_bits); exact Jo J hT'
  refine SeqOps.val ?_ (Sp fun ax wx hS hT' hd K' J => ?_) ?_; rotate_left 1
  ·have r21 := Tv hd 6 3 21; have r27 := Tv hd 0 9 27; refine o2 r21 r27 fun ρ q21 q27 => ?_; go_simp; (try go_bits); (try simp (disch := omega) only [IntWalk.i64_in]); exact Jo J hT'
  refine SeqOps.val ?_ (Sp fun ax wx hS hT' hd K' J => ?_) ?_; rotate_left 1
  ·have r18 := Tv hd 10 0 18; have r19 := Tv hd 9 1 19; refine o2 r18 r19 fun ρ q18 q19 => ?_; go_simp; (try go_bits); exact Jo J hT'
  refine SeqOps.nil ?_
  intro wz hBm; (repeat refine Ek ?_)
  refine fun amx hEmx => ?_; simp only [lk, pick, Nat.reduceEqDiff, ↓reduceIte] at hEmx; have yw := wr_below xw hBm nG; have nG2 := Nat.lt_of_lt_of_le nG hBm.size; refine M2 hEmx 29 28 fun K' J ρ q29 q28 => ?_; go_simp; (try clear q29 q28); refine late_skip hEmx J (fun am_1 hEm_1 => ?_); clear J K'; clear hEmx; refine Ld [2, 3, 7, 8] hEm_1 hK fun a hE => ?_; clear hK K Q' hEm_1; have hbwz := hbr.trans (hBm.mono hbr.size); refine world_cut (fun wt => Below w1.heap.size w1 wt ∧ FArr wt G L.length (fun x => if x < k + 1 then natV (R.getD x 0) else .int .i64 (L.getD x 0))) ⟨(hW.trans (hBm.mono hW.size)).setCell hwG _, ((HF.out.below hBm).put _ hlt).congr (fun x hx => ?_)⟩ (fun wt hCut => ?_)
  ·by_cases e : x = k
   ·subst e; rw [if_pos rfl, if_pos (by omega), HM.out]; show _ = Value.int .i64 _; congr 1; have := HRk.out; omega
   ·rw [if_neg e]
    by_cases e2 : x < k
    ·rw [if_pos e2, if_pos (by omega)]
    ·rw [if_neg e2, if_neg (by omega)]
  clear yw nG2; obtain ⟨hW2, hF2⟩ := hCut; refine Ks ?_; refine Rs 3 fun Q' K hK => ?_; refine M1 hE 8 fun K' J ρ q8 => ?_; go_simp; refine Ln hE J fun _ Eb => ?_; clear J K' hE a q8; refine M1 Eb 16 fun K' J ρ q16 => ?_; go_simp; (try go_bits); (try simp (disch := omega) only [IntWalk.i64_in]); refine Ln Eb J fun _ Ea => ?_; clear J K' Eb q16; refine M1 Ea 17 fun K' J ρ q17 => ?_; go_simp; refine Ln Ea J fun _ Eb => ?_; clear J K' Ea q17; refine Ld [2, 3, 7, 8] Eb hK fun a hE => ?_; clear hK K Q' Eb; refine Ks ?_; exact ⟨k + 1, ⟨hlt, by simpa using hE, hW2, hF2⟩, by omega⟩
 ·have hke : k = L.length := by omega
  subst hke; refine Ks ?_; refine Rs 4 fun Q' K hK => ?_; refine M1 hE 8 fun K' J ρ q8 => ?_; go_simp; refine Ln hE J fun _ Eb => ?_; clear J K' hE a q8; refine M1 Eb 7 fun K' J ρ q7 => ?_; go_simp; refine Ln Eb J fun _ Ea => ?_; clear J K' Eb q7; refine M1 Ea 13 fun K' J ρ q13 => ?_; go_simp; (try go_bits); refine Ln Ea J fun _ Eb => ?_; clear J K' Ea q13; refine M2 Eb 12 14 fun K' J ρ q12 q14 => ?_; go_simp; (try go_bits); refine Ln Eb J fun _ Ea => ?_; clear J K' Eb q12 q14; replace Ea := Ea.turn 15 (v' := .bool false) rfl (by (first | (simp; done) | (simp; omega))); refine Ld [2, 3, 7, 8, 15] Ea hK fun a hE => ?_; clear hK K Q' Ea; refine Ks ?_; refine cond_no hE (t := 15) rfl ?_; refine Ks ?_; refine Rs 2 fun Q' K hK => ?_; refine M1 hE 7 fun K' J ρ q7 => ?_; go_simp; refine Ln hE J fun _ Eb => ?_; clear J K' hE a q7; refine M1 Eb 30 fun K' J ρ q30 => ?_; go_simp; refine Ln Eb J fun _ Ea => ?_; clear J K' Eb q30; refine Ld [6] Ea hK fun a hE => ?_; clear hK K Q' Ea; refine Ks ?_; have ha : FArr wr G R.length (fun x => natV (R.getD x 0)) := by rw [hlen]; exact hF.congr fun x hx => by rw [if_pos hx]
  rw [← hlen] at hE; exact ret_one hE rfl rfl ⟨⟨G, c, rfl, Nat.le_trans hbw1.size hwG, ha⟩, hbr⟩
end
end Go.Proofs.YtkhmcofmjjmjhaaDoor
namespace Go.Proofs.YtkhmcofmjjmjhaaDoor
set_option linter.unusedSimpArgs false
set_option linter.unusedVariables false
open Go Go.RowKit
attribute [local go_sem high] cell_set_wr
attribute [local go_sem low] cell_wr frozen_wr
attribute [local go_sem] wr_set wr_drew wr_drewN wr_alloc wr_new Rho.c Rho.n Rho.g
def canV (o : Option (Nat × Nat)) : Value := .bool o.isSome
def falV (g : Nat → Option (Nat × Nat)) (x : Nat) : Value := if x % 2 = 0 then natV ((g (x / 2)).getD (0, 0)).1 else natV ((g (x / 2)).getD (0, 0)).2
/-- what is kept of an hour -/
def gamB (b : Sb) (h l : Nat) : Option (Nat × Nat) := if h < b.hours.length ∧ 300 + 95 * h < l then none else goalP ((hpsOf b).drop h) l
structure GoAt (V : World) (C F : Nat) (g : Nat → Option (Nat × Nat)) : Prop where
 can : FArr V C 1500 (fun l => canV (g l))
 fal : FArr V F 3000 (falV g)
theorem GoAt.below {V V' : World} {C F : Nat} {g : Nat → Option (Nat × Nat)} (h : GoAt V C F g) (hb : Below V.heap.size V V') : GoAt V' C F g := ⟨h.can.below hb, h.fal.below hb⟩
theorem GoAt.congr {V : World} {C F : Nat} {g g' : Nat → Option (Nat × Nat)} (h : GoAt V C F g) (e : ∀ l, l < 1500 → g l = g' l) : GoAt V C F g' :=
 ⟨h.can.congr fun l hl => by rw [e l hl], h.fal.congr fun x hx => by unfold falV; rw [e (x / 2) (by omega)]⟩
theorem FArr.fals {V : World} {F : Nat} {g : Nat → Option (Nat × Nat)} (h : FArr V F 3000 (falV g)) {l : Nat} (hl : l < 1500) : V.cell? ⟨F, l * 2, none⟩ = some (natV ((g l).getD (0, 0)).1) ∧ V.cell? ⟨F, l * 2 + 1, none⟩ = some (natV ((g l).getD (0, 0)).2) := by
 have h0 := h.cell (l * 2) (by omega); have h1 := h.cell (l * 2 + 1) (by omega)
 unfold falV at h0 h1
 rw [if_pos (by omega), show l * 2 / 2 = l by omega] at h0; rw [if_neg (by omega), show (l * 2 + 1) / 2 = l by omega] at h1; exact ⟨h0, h1⟩
def updG (g : Nat → Option (Nat × Nat)) (l : Nat) (o : Option (Nat × Nat)) : Nat → Option (Nat × Nat) := fun y => if y = l then o else g y
theorem upd_same (g : Nat → Option (Nat × Nat)) (l : Nat) (o : Option (Nat × Nat)) : updG g l o l = o := if_pos rfl
theorem FArr.falput {V : World} {F : Nat} {g : Nat → Option (Nat × Nat)} {l : Nat} {o : Option (Nat × Nat)} (h : FArr V F 3000 (falV (updG g l o))) (hl : l < 1500) (a c : Nat) : FArr (V.setCells F (l * 2) [natV a, natV c]) F 3000 (falV (updG g l (some (a, c)))) := by
 refine (h.two (natV a) (natV c) (by omega)).congr fun x hx => ?_
 unfold falV updG
 by_cases e1 : x = l * 2 + 1
 ·rw [if_pos e1, if_neg (by omega), if_pos (by omega)]; rfl
 ·rw [if_neg e1]
  by_cases e0 : x = l * 2
  ·rw [if_pos e0, if_pos (by omega), if_pos (by omega)]; rfl
  ·have e2 : x / 2 ≠ l := by omega
   rw [if_neg e0]; simp only [if_neg e2]
theorem FArr.canput {V : World} {C : Nat} {g : Nat → Option (Nat × Nat)} {l : Nat} {o : Option (Nat × Nat)} (h : FArr V C 1500 (fun y => canV (updG g l o y))) (hl : l < 1500) (p : Nat × Nat) : FArr (V.setCell ⟨C, l, none⟩ (.bool true)) C 1500 (fun y => canV (updG g l (some p) y)) := by
 refine (h.put (.bool true) hl).congr fun x hx => ?_
 unfold updG
 by_cases e : x = l
 ·rw [if_pos e, if_pos e]; rfl
 ·rw [if_neg e, if_neg e, if_neg e]
/-- the hours that are done, from one on -/
structure OutG (V : World) (O : Nat) (b : Sb) (k : Nat) : Prop where
 ex : ∃ g : Nat → Value, FArr V O ((b.hours.length + 1) * 2) g ∧ ∀ h, k ≤ h → h ≤ b.hours.length → ∃ C F, g (h * 2) = .slice (some ⟨C, 0, none⟩) 1500 1500 ∧ g (h * 2 + 1) = .slice (some ⟨F, 0, none⟩) 1500 1500 ∧ C ≠ O ∧ F ≠ O ∧ GoAt V C F (gamB b h)
theorem OutG.below {V V' : World} {O k : Nat} {b : Sb} (h : OutG V O b k) (hb : Below V.heap.size V V') : OutG V' O b k := by
 obtain ⟨g, h1, h2⟩ := h.ex
 exact ⟨g, h1.below hb, fun i hi hi2 => by
  obtain ⟨C, F, e1, e2, n1, n2, h3⟩ := h2 i hi hi2; exact ⟨C, F, e1, e2, n1, n2, h3.below hb⟩⟩
theorem OutG.get {V : World} {O k : Nat} {b : Sb} (h : OutG V O b k) {i : Nat} (hi : k ≤ i) (hi2 : i ≤ b.hours.length) : ∃ C F, V.cell? ⟨O, i * 2, none⟩ = some (.slice (some ⟨C, 0, none⟩) 1500 1500) ∧ V.cell? ⟨O, i * 2 + 1, none⟩ = some (.slice (some ⟨F, 0, none⟩) 1500 1500) ∧ O < V.heap.size ∧ GoAt V C F (gamB b i) := by
 obtain ⟨g, h1, h2⟩ := h.ex; obtain ⟨C, F, e1, e2, n1, n2, h3⟩ := h2 i hi hi2; exact ⟨C, F, by rw [h1.cell _ (by omega), e1], by rw [h1.cell _ (by omega), e2], h1.lt, h3⟩
/-- one hour more is done -/
theorem OutG.next {V : World} {O k : Nat} {b : Sb} (h : OutG V O b (k + 1)) (hk : k ≤ b.hours.length) {C F : Nat} (hG : GoAt V C F (gamB b k)) (hC : C ≠ O) (hF : F ≠ O) : OutG (V.setCells O (k * 2) [.slice (some ⟨C, 0, none⟩) 1500 1500, .slice (some ⟨F, 0, none⟩) 1500 1500]) O b k := by
 obtain ⟨g, h1, h2⟩ := h.ex; have hot : ∀ {C F : Nat} {f : Nat → Option (Nat × Nat)}, GoAt V C F f → C ≠ O → F ≠ O → GoAt (V.setCells O (k * 2) [.slice (some ⟨C, 0, none⟩) 1500 1500, .slice (some ⟨F, 0, none⟩) 1500 1500]) C F f := fun h a c => ⟨(h.can.other _ (Ne.symm a)).other _ (Ne.symm a), (h.fal.other _ (Ne.symm c)).other _ (Ne.symm c)⟩; refine ⟨_, h1.two (.slice (some ⟨C, 0, none⟩) 1500 1500) (.slice (some ⟨F, 0, none⟩) 1500 1500) (by omega), fun i hi hi2 => ?_⟩
 by_cases e : i = k
 ·subst e; refine ⟨C, F, ?_, ?_, hC, hF, ⟨(hG.can.other _ (Ne.symm hC)).other _ (Ne.symm hC), (hG.fal.other _ (Ne.symm hF)).other _ (Ne.symm hF)⟩⟩
  ·exact (if_neg (by omega)).trans (if_pos rfl)
  ·exact if_pos rfl
 ·obtain ⟨C', F', e1, e2, n1, n2, h3⟩ := h2 i (by omega) hi2; refine ⟨C', F', ?_, ?_, n1, n2, ⟨(h3.can.other _ (Ne.symm n1)).other _ (Ne.symm n1), (h3.fal.other _ (Ne.symm n2)).other _ (Ne.symm n2)⟩⟩
  ·exact ((if_neg (by omega)).trans (if_neg (by omega))).trans e1
  ·exact ((if_neg (by omega)).trans (if_neg (by omega))).trans e2
/-- the hour at hand -/
structure GoS (w : World) (G C F : Nat) (g : Nat → Option (Nat × Nat)) (V : World) : Prop where
 below : Below w.heap.size w V
 row : Cells V G [.slice (some ⟨C, 0, none⟩) 1500 1500, .slice (some ⟨F, 0, none⟩) 1500 1500]
 at_ : GoAt V C F g
theorem GoS.on {w : World} {G C F : Nat} {g : Nat → Option (Nat × Nat)} {V V' : World} (h : GoS w G C F g V) (hb : Below V.heap.size V V') : GoS w G C F g V' := ⟨h.below.trans (hb.mono h.below.size), h.row.below hb, h.at_.below hb⟩
theorem GoS.congr {w : World} {G C F : Nat} {g g' : Nat → Option (Nat × Nat)} {V : World} (h : GoS w G C F g V) (e : ∀ l, l < 1500 → g l = g' l) : GoS w G C F g' V := ⟨h.below, h.row, h.at_.congr e⟩
theorem gam_step {b : Sb} {h : Nat} (hh : h < b.hours.length) {l : Nat} (hl : l ≤ 300 + 95 * h) : gamB b h l = (ldsR b h b.hours[h] l).foldl (stepG (hpI b h b.hours[h]) (goalP ((hpsOf b).drop (h + 1)))) none := by
 have hh' : h < (hpsOf b).length := by rw [hpsOf_length]; exact hh
 unfold gamB
 rw [if_neg (by omega), List.drop_eq_getElem_cons hh', goalP, hpsOf_at b h hh hh']
 rfl
theorem gam_next {b : Sb} {h m : Nat} (hm : m ≤ 300 + 95 * h + 95) : gamB b (h + 1) m = goalP ((hpsOf b).drop (h + 1)) m := by
 unfold gamB
 rw [if_neg (by omega)]
theorem gam_last (b : Sb) (l : Nat) : gamB b b.hours.length l = some (0, 0) := by
 unfold gamB
 rw [if_neg (by omega), List.drop_eq_nil_of_le (by rw [hpsOf_length]; exact Nat.le_refl _)]
 rfl
theorem gam_none {b : Sb} {h l : Nat} (hh : h < b.hours.length) (hl : 300 + 95 * h < l) : gamB b h l = none := if_pos ⟨hh, hl⟩
theorem gam_small {b : Sb} (hb : OkB b) {h l : Nat} {p : Nat × Nat} (e : gamB b h l = some p) : p.1 ≤ 12 ∧ p.2 ≤ 12 := by
 unfold gamB at e
 split at e
 ·cases e
 ·have hs : Small ((hpsOf b).drop h) := fun x hx => small_of hb x (List.mem_of_mem_drop hx); have h1 := goalP_le hs e; have h2 : ((hpsOf b).drop h).length ≤ 12 := by rw [List.length_drop, hpsOf_length]; have := hb.hours; omega
  omega
theorem step_no {x : Hp} {G : Nat → Option (Nat × Nat)} {acc : Option (Nat × Nat)} {m : Nat} (h : (fiB x m false && (G m).isSome) = false) : stepA x G acc m = acc := by
 unfold stepA
 cases hf : fiB x m false
 ·rfl
 ·rw [hf, Bool.true_and] at h; rw [if_pos rfl]
  cases hg : G m with
  | none => rfl
  | some p => rw [hg] at h; cases h
theorem step_yes {x : Hp} {G : Nat → Option (Nat × Nat)} {acc : Option (Nat × Nat)} {m : Nat} {p : Nat × Nat} (h : fiB x m false = true) (hg : G m = some p) : stepA x G acc m = widO acc p := by
 unfold stepA
 rw [if_pos h, hg]
theorem stepb_no {x : Hp} {G : Nat → Option (Nat × Nat)} {acc : Option (Nat × Nat)} {m : Nat} (h : (fiB x m true && (G 0).isSome) = false) : stepB x G acc m = acc := by
 unfold stepB
 cases hf : fiB x m true
 ·rfl
 ·rw [hf, Bool.true_and] at h; rw [if_pos rfl]
  cases hg : G 0 with
  | none => rfl
  | some p => rw [hg] at h; cases h
theorem stepb_yes {x : Hp} {G : Nat → Option (Nat × Nat)} {acc : Option (Nat × Nat)} {m : Nat} {p : Nat × Nat} (h : fiB x m true = true) (hg : G 0 = some p) : stepB x G acc m = widO acc (p.1 + 1, p.2 + 1) := by
 unfold stepB
 rw [if_pos h, hg]
/-- what wider returns, as an element -/
theorem wid_vals0 (acc : Option (Nat × Nat)) (p : Nat × Nat) : ∃ a c : Nat, widO acc p = some (a, c) ∧ (a : Int) = (if acc.isSome then min (((acc.getD (0, 0)).1 : Nat) : Int) ((p.1 : Int) + 0) else (p.1 : Int) + 0) ∧ (c : Int) = (if acc.isSome then max (((acc.getD (0, 0)).2 : Nat) : Int) ((p.2 : Int) + 0) else (p.2 : Int) + 0) := by
 cases acc with
 | none => exact ⟨p.1, p.2, rfl, by simp, by simp⟩
 | some q => exact ⟨min q.1 p.1, max q.2 p.2, rfl, by simp; omega, by simp; omega⟩
theorem wid_vals1 (acc : Option (Nat × Nat)) (p : Nat × Nat) : ∃ a c : Nat, widO acc (p.1 + 1, p.2 + 1) = some (a, c) ∧ (a : Int) = (if acc.isSome then min (((acc.getD (0, 0)).1 : Nat) : Int) ((p.1 : Int) + 1) else (p.1 : Int) + 1) ∧ (c : Int) = (if acc.isSome then max (((acc.getD (0, 0)).2 : Nat) : Int) ((p.2 : Int) + 1) else (p.2 : Int) + 1) := by
 cases acc with
 | none => exact ⟨p.1 + 1, p.2 + 1, rfl, by simp, by simp⟩
 | some q => exact ⟨min q.1 (p.1 + 1), max q.2 (p.2 + 1), rfl, by simp; omega, by simp; omega⟩
/-- the last hour has nothing behind it -/
theorem GoS.last {w : World} {G C F : Nat} {g : Nat → Option (Nat × Nat)} {l : Nat} {V : World} (h : GoS w G C F (fun y => if y < l then g y else none) V) (hl : l < 1500) (e : g l = some (0, 0)) (hCG : C ≠ G) (hCF : C ≠ F) (hCw : w.heap.size ≤ C) : GoS w G C F (fun y => if y < l + 1 then g y else none) (V.setCell ⟨C, l, none⟩ (.bool true)) := by
 refine ⟨h.below.setCell hCw _, ⟨by simpa using h.row.1, fun j u hu => ?_⟩, ⟨(h.at_.can.put (.bool true) hl).congr fun x hx => ?_, (h.at_.fal.other _ hCF).congr fun x hx => ?_⟩⟩
 ·rw [World.cell?_setCell_other _ _ _ _ (fun e' => hCG (congrArg Addr.block e'))]; exact h.row.2 j u hu
 ·by_cases ex : x = l
  ·subst ex; rw [if_pos rfl, if_pos (by omega), e]; rfl
  ·rw [if_neg ex]
   by_cases e2 : x < l
   ·rw [if_pos e2, if_pos (by omega)]
   ·rw [if_neg e2, if_neg (by omega)]
 ·have hk : ∀ y, (if y < l then g y else none).getD (0, 0) = (if y < l + 1 then g y else none).getD (0, 0) := fun y => by
   by_cases ex : y = l
   ·subst ex; rw [if_neg (by omega), if_pos (by omega), e]; rfl
   ·by_cases e2 : y < l
    ·rw [if_pos e2, if_pos (by omega)]
    ·rw [if_neg e2, if_neg (by omega)]
  unfold falV
  simp only; rw [hk]
theorem Cells.put {w : World} {B R o : Nat} {l : List Value} (h : Cells w B l) (v : Value) (hne : R ≠ B) : Cells (w.setCell ⟨R, o, none⟩ v) B l := ⟨by simpa using h.1, fun j u hu => by
 rw [World.cell?_setCell_other _ _ _ _ (fun e' => hne (congrArg Addr.block e'))]; exact h.2 j u hu⟩
theorem fold_take {β : Type} (f : β → Nat → β) (a : β) {L : List Nat} {i : Nat} (hi : i < L.length) : (L.take (i + 1)).foldl f a = f ((L.take i).foldl f a) (L.getD i 0) := by
 rw [List.take_succ_eq_append_getElem hi, List.foldl_append, List.foldl_cons, List.foldl_nil, List.getD_eq_getElem?_getD, List.getElem?_eq_getElem hi]
 rfl
/-- a hit: both ends are stored -/
theorem GoS.hitF {w : World} {G C F : Nat} {g : Nat → Option (Nat × Nat)} {l : Nat} {o : Option (Nat × Nat)} {V : World} (h : GoS w G C F (updG g l o) V) (hl : l < 1500) (hFG : F ≠ G) (hCF : C ≠ F) (hFw : w.heap.size ≤ F) (a c : Nat) :
    Below w.heap.size w (V.setCells F (l * 2) [natV a, natV c]) ∧ Cells (V.setCells F (l * 2) [natV a, natV c]) G [.slice (some ⟨C, 0, none⟩) 1500 1500, .slice (some ⟨F, 0, none⟩) 1500 1500] ∧ FArr (V.setCells F (l * 2) [natV a, natV c]) C 1500 (fun y => canV (updG g l o y)) ∧ FArr (V.setCells F (l * 2) [natV a, natV c]) F 3000 (falV (updG g l (some (a, c)))) :=
 ⟨(h.below.setCell hFw _).setCell hFw _, (h.row.put _ hFG).put _ hFG, (h.at_.can.other _ (Ne.symm hCF)).other _ (Ne.symm hCF), h.at_.fal.falput hl a c⟩
end Go.Proofs.YtkhmcofmjjmjhaaDoor
namespace Go.Proofs.YtkhmcofmjjmjhaaDoor
set_option linter.unusedSimpArgs false
set_option linter.unusedVariables false
open Go Go.RowKit
section
variable {P : Program} {Q : Exit → Act → World → Prop} {a : Act} {w : World} {next I : Act → World → Prop}
/-- a cut behind a statement: what holds there in all cases -/
theorem cut1 {c : Code} (h : c.wp P (Exit.then I Q) a w) (h2 : ∀ a w, I a w → next a w) : c.wp P (Exit.then next Q) a w := wp_mono h fun e a w he => by
 cases e with
 | normal => exact h2 _ _ he
 | _ => exact he
theorem cut2 {c d : Code} (h : c.wp P (Exit.then (d.wp P (Exit.then I Q)) (Exit.then I Q)) a w) (h2 : ∀ a w, I a w → next a w) : c.wp P (Exit.then (d.wp P (Exit.then next Q)) (Exit.then next Q)) a w := wp_mono h fun e a w he => by
 cases e with
 | normal => exact cut1 he h2
 | _ => exact he
end
end Go.Proofs.YtkhmcofmjjmjhaaDoor
