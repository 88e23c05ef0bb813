/- Slope: the exported functions, fourth part. -/
import Derived.Test.YtkhmcofmjjmjhaaDoorKTSbi

namespace Go.Proofs.YtkhmcofmjjmjhaaDoor
set_option linter.unusedSimpArgs false
set_option linter.unusedVariables false
open Go Go.RowKit
attribute [local go_sem high] cell_set_wr
attribute [local go_sem low] cell_wr frozen_wr
attribute [local go_sem] wr_set wr_drew wr_drewN wr_alloc wr_new Rho.c Rho.n Rho.g
theorem runN_le (s : Nat → Bool) : ∀ (r h : Nat), runN s r h ≤ r
 | 0, _ => Nat.le_refl _
 | r + 1, h => by
  have := runN_le s r (h + 1)
  unfold runN
  split <;> omega
/-- the first place, of r ones from h on -/
def croN (P : Nat → Bool) : Nat → Nat → Option Nat
 | 0, _ => none
 | r + 1, h => if P h = true then some h else croN P r (h + 1)
theorem croN_hit (P : Nat → Bool) : ∀ (r h g : Nat), h ≤ g → g < h + r → (∀ j, h ≤ j → j < g → P j = false) → P g = true → croN P r h = some g
 | 0, h, g, h1, h2, _, _ => by omega
 | r + 1, h, g, h1, h2, h3, h4 => by
  unfold croN
  by_cases e : h = g
  ·subst e; rw [if_pos h4]
  ·have h5 := h3 h (Nat.le_refl _) (by omega)
   rw [if_neg (by rw [h5]; decide)]
   exact croN_hit P r (h + 1) g (by omega) (by omega) (fun j a b => h3 j (by omega) b) h4
theorem croN_none (P : Nat → Bool) : ∀ (r h : Nat), (∀ j, h ≤ j → j < h + r → P j = false) → croN P r h = none
 | 0, _, _ => rfl
 | r + 1, h, h1 => by
  unfold croN
  rw [if_neg (by rw [h1 h (Nat.le_refl _) (by omega)]; decide)]
  exact croN_none P r (h + 1) (fun j a b => h1 j (by omega) (by omega))
def untR (b : Sb) (hour : Int) : Int × Int := if frE b (b.isHour hour) = 0 then (if runB b hour.toNat = 0 then (0, 4) else (hour + runB b hour.toNat - 1, 0)) else (0, frE b (b.isHour hour))
/-- whether a crossing as long can begin in an hour -/
def crP (b : Sb) (long : Int) (g : Nat) : Bool := decide (long ≤ runB b g)
theorem crP_yes {b : Sb} {long : Int} {g : Nat} (h : long ≤ runB b g) : crP b long g = true := by unfold crP; exact decide_eq_true h
theorem crP_no {b : Sb} {long : Int} {g : Nat} (h : ¬ long ≤ runB b g) : crP b long g = false := by unfold crP; exact decide_eq_false h
def croB (b : Sb) (hour : Nat) (long : Int) : Option Nat := croN (crP b long) (b.hours.length - hour) hour
def croV (o : Option Nat) : Int × Int := match o with
 | some g => (g, 0)
 | none => (0, 4)
def croR (b : Sb) (hour long : Int) : Int × Int := if frE b (b.isHour hour && wB long 1 12) = 0 then croV (croB b hour.toNat long) else (0, frE b (b.isHour hour && wB long 1 12))
section
variable (H : Option Addr) (hcap : Nat) (S : Option Addr) (scap : Nat) (b : Sb)
set_option maxRecDepth 100000 in
set_option maxHeartbeats 1000000 in
theorem pUntil_any (hour : Int) (w : World) (hM : SbAt w H S b) (hh : b.hours.length ≤ 9223372036854775807) (hss : b.sights.length ≤ 9223372036854775807) : Calls Tryd.prog 26 #[.agg (sbV H hcap S scap b).toArray, .int .i64 hour] w fun e w' => e = .returned (.tuple #[.int .i64 (untR b hour).1, .int .i64 (untR b hour).2]) ∧ Below w.heap.size w w' := by
 have CF := hid fun (W : World) hW => foreseen_any H hcap S scap b (b.isHour hour) W hW hh hss
 have CI := hid fun (W : World) => isHour_any H hcap S scap b hour W hh
 clear hh hss
 refine enterE Tryd.func26 rfl Tryd.ntmps26 (by simp) (fun a hE => ?_); simp only [envOf, Nat.zero_add, Nat.reduceAdd] at hE
 refine Ks ?_
 refine Rs 3 fun Q' K hK => ?_
 refine M1 hE 0 fun K' J ρ q0 => ?_; go_simp
 refine Ln hE J fun _ Eb => ?_; clear J K' hE a q0
 refine M0 fun K' J ρ => ?_; go_simp;
 refine Ln Eb J fun _ Ea => ?_; clear J K' Eb
 refine M0 fun K' J ρ => ?_; go_simp;
 refine Ln Ea J fun _ Eb => ?_; clear J K' Ea
 refine Ld [1, 2] Eb hK fun a hE => ?_; clear hK K Q' Eb
 obtain ⟨B, hBe⟩ : ∃ B, B = w.heap.size := ⟨_, rfl⟩; have hnB : w.heap.size ≤ B := Nat.le_of_eq hBe.symm; rw [← hBe] at hE; refine world_cut (fun wt => Below w.heap.size w wt ∧ B < wt.heap.size ∧ Row wt B (sbV H hcap S scap b)) ⟨(Below.refl _ _).alloc (Nat.le_refl _) _, by rw [hBe]; simp, by rw [hBe]; exact row_new _ _ _⟩ (fun w1 hCut => ?_); obtain ⟨hbw1, hlB, hRB⟩ := hCut; clear hBe
 have hCB := row_cells hRB hlB
 have hM1 := hM.below hbw1
 refine Ks ?_
 refine region_drawn_mem [10] (fun wt => Below w1.heap.size w1 wt) (TurnO b (frE b (b.isHour hour)) w1.heap.size) [(0, some 10), (1, some 11), (2, some 12), (3, some 13), (4, some 14), (5, some 9), (6, some 15), (7, some 16), (8, some 6)] [10, 11, 12, 13, 14, 9, 15, 16, 6] 9 6 (fun v wt => StoM b (frE b (b.isHour hour)) w1.heap.size v wt) #[true, true, true, true, true, true, true, true, true, true, false] [1, 7] hE (fun _ _ _ hR h => h.turned hR) (by kernel_rfl) (by kernel_rfl) (by kernel_rfl) (by kernel_rfl) (by kernel_rfl) (by kernel_rfl) (by kernel_rfl) (by kernel_rfl) (by kernel_rfl) (by kernel_rfl) (by kernel_rfl) (by kernel_rfl) (by kernel_rfl) (by kernel_rfl) ((Below.refl _ _).drew) (fun Q' K hK => ?_)
 refine SeqOps.val ?_ (Sp fun ax wx hS hT' hd K' J => ?_) ?_; rotate_left 1
 ·have r2 := hS.at 2 (by decide) (hE.at 2 rfl); obtain ⟨_, _, _, _, _, _⟩ := bT hT'
  refine wp_load_mid 29 (.tmp 2) rfl B 0 (eval_of r2) (sbV H hcap S scap b) _ (fun j u hu => by rw [Nat.zero_add]; exact (hCB.below hT').2 j u hu) Tryd.underlying29 rfl (by kernel_rfl) ?_
  refine J.out _ _ _ rfl ?_ hT' TurnO.refl; rfl
 refine SeqOps.val ?_ (Sp fun ax wx hS hT' hd K' J => ?_) ?_; rotate_left 1
 ·have r2 := hS.at 2 (by decide) (hE.at 2 rfl); obtain ⟨_, _, _, _, _, _⟩ := bT hT'
  refine wp_load_mid 29 (.tmp 2) rfl B 0 (eval_of r2) (sbV H hcap S scap b) _ (fun j u hu => by rw [Nat.zero_add]; exact (hCB.below hT').2 j u hu) Tryd.underlying29 rfl (by kernel_rfl) ?_
  refine J.out _ _ _ rfl ?_ hT' TurnO.refl; rfl
 refine SeqOps.val ?_ (Sp fun ax wx hS hT' hd K' J => ?_) ?_; rotate_left 1
 ·have r1 := hS.at 1 (by decide) (hE.at 1 rfl); obtain ⟨_, _, _, _, _, _⟩ := bT hT'
  refine o1 r1 fun ρ q1 => ?_; go_simp;
  refine J.out _ _ _ rfl ?_ hT' (TurnO.refl); rfl
 refine SeqOps.val ?_ (Sp fun ax wx hS hT' hd K' J => ?_) ?_; rotate_left 1
 ·have r11 := Tv hd 1 1 11; have r12 := Tv hd 0 2 12; obtain ⟨_, _, _, _, _, _⟩ := bT hT'
  refine o2 r11 r12 fun ρ q11 q12 => ?_; go_simp; (try go_bits);
  go_at_call 62; refine (CI.out _).mono ?_; rintro e g1 ⟨rfl, k1⟩
  refine J.out _ _ _ rfl ?_ (hT'.trans (k1.mono hT'.size)) (TurnO.of k1); rfl
 refine SeqOps.say (fun v wt => SetV b (frE b (b.isHour hour)) v wt) (fun _ _ _ hR h => h.turned hR) (Sp fun ax wx hS hT' hd K' J => ?_) ?_
 ·have r10 := Tv hd 3 0 10; have r13 := Tv hd 0 3 13; obtain ⟨_, _, _, _, _, _⟩ := bT hT'
  refine o2 r10 r13 fun ρ q10 q13 => ?_; go_simp; (try go_bits);
  go_at_call 65; refine (CF.out _ (hM1.below hT')).mono ?_; rintro e g1 ⟨⟨V, rfl, hV⟩, k1⟩
  exact J.out _ _ _ rfl ⟨V, rfl, hV, hV.nob⟩ (hT'.trans (k1.mono hT'.size)) (TurnO.of k1)
 refine SeqOps.say (fun v wt => SetV b (frE b (b.isHour hour)) v wt) (fun _ _ _ hR h => h.turned hR) (Sp fun ax wx hS hT' hd K' J => ?_) ?_
 ·obtain ⟨v14, r14, h14⟩ := Tg hd 0 4 14; obtain ⟨_, _, _, _, _, _⟩ := bT hT'
  refine o1 r14 fun ρ q14 => ?_; go_simp;
  exact J.out _ _ _ rfl h14 hT' TurnO.refl
 refine SeqOps.say (fun v wt => SetA b (frE b (b.isHour hour)) v wt) (fun _ _ _ hR h => h.turned hR) (Sp fun ax wx hS hT' hd K' J => ?_) ?_
 ·obtain ⟨v9, r9, h9⟩ := Tg hd 0 5 9; obtain ⟨V, rfl, hV, hVn⟩ := h9; obtain ⟨_, _, _, _, _, _⟩ := bT hT'
  refine o1 r9 fun ρ q9 => ?_; go_simp;
  exact J.out _ _ _ rfl ⟨V, rfl, hV, hVn⟩ hT' TurnO.refl
 refine SeqOps.val ?_ (Sp fun ax wx hS hT' hd K' J => ?_) ?_; rotate_left 1
 ·obtain ⟨v9, r9, h9⟩ := Tg hd 1 5 9; obtain ⟨V, rfl, hV, hVn⟩ := h9; obtain ⟨_, _, _, _, _, _⟩ := bT hT'
  refine o1 r9 fun ρ q9 => ?_; go_simp;
  refine J.out _ _ _ rfl ?_ hT' (TurnO.refl); rfl
 refine SeqOps.say (fun v wt => NewO w1.heap.size v wt) (fun _ _ _ hR h => h.turned hR) (Sp fun ax wx hS hT' hd K' J => ?_) ?_
 ·obtain ⟨_, _, _, _, _, _⟩ := bT hT'
  refine o0 fun ρ => ?_; go_simp;
  exact J.out _ _ _ rfl ⟨_, rfl, hT'.size, ⟨_, World.alloc_heap_new _ _, rfl, z12_noB⟩⟩ (hT'.alloc hT'.size _) (TurnO.of ((Below.refl _ _).alloc (Nat.le_refl _) _))
 refine SeqOps.nil ?_
 refine ⟨StepMem.plain (by (first | (simp only [List.getElem?_toArray, List.getElem?_cons_succ, List.getElem?_cons_zero]; rfl) | rfl)) rfl (fun ax wx hS hT' hd K' J => ?_), ?_⟩
 ·obtain ⟨v6, r6, h6⟩ := Tg hd 0 8 6; obtain ⟨C, rfl, hCn, hCb⟩ := h6; obtain ⟨v15, r15, h15⟩ := Tg hd 2 6 15; obtain ⟨V, rfl, hV, hVn⟩ := h15; obtain ⟨_, _, _, _, _, _⟩ := bT hT'
  have hVs : V.toArray.size = 12 := by simpa using hV.len
  obtain ⟨zs, hzs, hRC, hCl⟩ := hCb.row
  refine wp_store_mid 94 (.tmp 6) (.tmp 15) rfl C 0 V.toArray (eval_of r6) (eval_of r15) (there_row hRC (by rw [hzs, hVs]; exact Nat.le_refl _)) (by rw [hVs]; kernel_rfl) hV.one ?_
  have hq := cells_stored (w := w1) hRC (vs := V) (by rw [hzs, hV.len]) hCl hCn hT'
  exact J.out _ _ _ rfl r6 ⟨C, V, rfl, hCn, hq.1, hV.turned (.inr ⟨C, V, hCn, hCb, hV, hVn, rfl⟩)⟩ hq.2.1 (.inr ⟨C, V, hCn, hCb, hV, hVn, rfl⟩)
 intro w2 hBm; (repeat refine Ek ?_); (refine fun v14 h14 => ?_); (refine fun v h => ?_; obtain ⟨V, rfl, hV, hVn⟩ := h); (refine fun v h => ?_; obtain ⟨V, rfl, hV, hVn⟩ := h); (repeat refine Ek ?_); (refine fun v h => ?_; obtain ⟨C, rfl, hCn, hCb⟩ := h);
 refine fun amx hEmx => ?_
 refine fun vm hvm hM => ?_; obtain rfl := Option.some.inj (hvm.symm.trans (hEmx.at 6 rfl)); clear hvm
 simp only [lk, pick, Nat.reduceEqDiff, ↓reduceIte] at hEmx
 refine M1 hEmx 16 fun K' J ρ q16 => ?_; go_simp; (try clear q16)
 refine Ln hEmx J fun am_1 hEm_1 => ?_; clear J K' hEmx
 refine Ld [1, 6, 7] hEm_1 hK fun a hE => ?_; clear hK K Q' hEm_1
 have hbw2 := hbw1.trans (hBm.mono hbw1.size)
 obtain ⟨C', V', hCe, hCn', hCQ, hV3⟩ := hM
 obtain rfl : C = C' := by cases hCe; rfl
 clear V hV hVn hCb hCe
 by_cases he : frE b (b.isHour hour) = 0
 ·obtain ⟨hok, hva, hrt⟩ := frE_zero.1 he
  have hb := ok_iff.1 hok
  have hOV := hV3.ov he
  have HV12 := hid hV3.len
  have hfl : untR b hour = if runB b hour.toNat = 0 then (0, 4) else (hour + runB b hour.toNat - 1, 0) := by unfold untR; rw [if_pos he]
  rw [hfl]
  rw [he] at hE
  obtain ⟨h, rfl, hh⟩ := isHour_nat hva
  rw [Int.toNat_natCast]
  have CL := hid (safeFrom_b hb hrt (Nat.le_of_lt hh) V' w2 hOV)
  have hu12 : runB b h ≤ 12 := Nat.le_trans (runN_le _ _ _) (by have := hb.hours; omega)
  have hh12 : h < 12 := by have := hb.hours; omega
  clear hfl he hok hva hrt hb hh
  generalize runB b h = n at CL hu12 ⊢
  refine Ks ?_
  refine Rs 2 fun Q' K hK => ?_
  refine M1 hE 7 fun K' J ρ q7 => ?_; go_simp
  refine Ln hE J fun _ Eb => ?_; clear J K' hE a q7
  refine M1 Eb 17 fun K' J ρ q17 => ?_; go_simp; (try go_bits)
  refine Ln Eb J fun _ Ea => ?_; clear J K' Eb q17
  refine Ld [1, 6, 7, 18] Ea hK fun a hE => ?_; clear hK K Q' Ea
  refine Ks ?_
  refine cond_no hE (t := 18) rfl ?_
  refine Ks ?_
  refine Rs 4 fun Q' K hK => ?_
  refine Lp fun K' J => ?_
  have r6 := hE.at 6 rfl
  refine wp_load_mid 94 (.tmp 6) rfl C 0 (eval_of r6) V' _ (fun j u hu => by rw [Nat.zero_add]; exact hCQ.2 j u hu) Tryd.underlying94 rfl (by rw [HV12.out]; kernel_rfl) ?_
  (try clear r6)
  refine Ln hE J fun _ Eb => ?_; clear J K' hE a
  refine M1 Eb 1 fun K' J ρ q1 => ?_; go_simp
  refine Ln Eb J fun _ Ea => ?_; clear J K' Eb q1
  refine M2 Ea 20 21 fun K' J ρ q20 q21 => ?_; go_simp; (try go_bits); (try clear q20 q21)
  go_at_call 71; refine CL.out.mono ?_; rintro e w5 ⟨rfl, h5⟩
  (try clear r20 r21)
  refine Ln Ea J fun _ Eb => ?_; clear J K' Ea
  refine M1 Eb 22 fun K' J ρ q22 => ?_; go_simp
  refine Ln Eb J fun _ Ea => ?_; clear J K' Eb q22
  refine Ld [1, 8] Ea hK fun a hE => ?_; clear hK K Q' Ea
  have hb5 := hbw2.trans (h5.mono hbw2.size)
  refine Ks ?_
  refine Rs 2 fun Q' K hK => ?_
  refine M1 hE 8 fun K' J ρ q8 => ?_; go_simp
  refine Ln hE J fun _ Eb => ?_; clear J K' hE a q8
  refine M1 Eb 23 fun K' J ρ q23 => ?_; go_simp; (try go_bits)
  refine Ln Eb J fun _ Ea => ?_; clear J K' Eb q23
  refine Ld [1, 8, 24] Ea hK fun a hE => ?_; clear hK K Q' Ea
  clear CL
  by_cases hn : n = 0
  ·subst hn
   refine Ks ?_
   refine cond_yes hE (t := 24) rfl ?_
   refine Ks ?_
   refine Rs 2 fun Q' K hK => ?_
   refine M0 fun K' J ρ => ?_; go_simp;
   refine Ln hE J fun _ Eb => ?_; clear J K' hE a
   refine M0 fun K' J ρ => ?_; go_simp;
   refine Ln Eb J fun _ Ea => ?_; clear J K' Eb
   refine Ld [4, 5] Ea hK fun a hE => ?_; clear hK K Q' Ea
   refine Ks ?_
   exact ret_two hE rfl rfl rfl ⟨rfl, hb5⟩
  ·have hn1 : 1 ≤ n := Nat.one_le_iff_ne_zero.2 hn
   rw [if_neg hn]
   replace hE := hE.turn 24 (v' := .bool false) rfl (by simp [hn])
   refine Ks ?_
   refine cond_no hE (t := 24) rfl ?_
   refine Ks ?_
   refine Rs 6 fun Q' K hK => ?_
   refine M1 hE 1 fun K' J ρ q1 => ?_; go_simp
   refine Ln hE J fun _ Eb => ?_; clear J K' hE a q1
   refine M1 Eb 8 fun K' J ρ q8 => ?_; go_simp
   refine Ln Eb J fun _ Ea => ?_; clear J K' Eb q8
   refine M2 Ea 25 26 fun K' J ρ q25 q26 => ?_; go_simp; (try go_bits); (try simp (disch := omega) only [IntWalk.i64_in])
   refine Ln Ea J fun _ Eb => ?_; clear J K' Ea q25 q26
   refine M1 Eb 27 fun K' J ρ q27 => ?_; go_simp; (try go_bits); (try simp (disch := omega) only [IntWalk.i64_in])
   refine Ln Eb J fun _ Ea => ?_; clear J K' Eb q27
   refine M1 Ea 28 fun K' J ρ q28 => ?_; go_simp
   refine Ln Ea J fun _ Eb => ?_; clear J K' Ea q28
   refine M0 fun K' J ρ => ?_; go_simp;
   refine Ln Eb J fun _ Ea => ?_; clear J K' Eb
   refine Ld [4, 5] Ea hK fun a hE => ?_; clear hK K Q' Ea
   refine Ks ?_
   exact ret_two hE rfl rfl rfl ⟨rfl, hb5⟩
 ·have hfl : untR b hour = (0, frE b (b.isHour hour)) := by unfold untR; rw [if_neg he]
  rw [hfl]
  refine Ks ?_
  refine Rs 2 fun Q' K hK => ?_
  refine M1 hE 7 fun K' J ρ q7 => ?_; go_simp
  refine Ln hE J fun _ Eb => ?_; clear J K' hE a q7
  refine M1 Eb 17 fun K' J ρ q17 => ?_; go_simp; (try go_bits)
  refine Ln Eb J fun _ Ea => ?_; clear J K' Eb q17
  refine Ld [1, 6, 7, 18] Ea hK fun a hE => ?_; clear hK K Q' Ea
  replace hE := hE.turn 18 (v' := .bool true) rfl (by simp [he])
  refine Ks ?_
  refine cond_yes hE (t := 18) rfl ?_
  refine Ks ?_
  refine Rs 3 fun Q' K hK => ?_
  refine M1 hE 7 fun K' J ρ q7 => ?_; go_simp
  refine Ln hE J fun _ Eb => ?_; clear J K' hE a q7
  refine M0 fun K' J ρ => ?_; go_simp;
  refine Ln Eb J fun _ Ea => ?_; clear J K' Eb
  refine M1 Ea 19 fun K' J ρ q19 => ?_; go_simp
  refine Ln Ea J fun _ Eb => ?_; clear J K' Ea q19
  refine Ld [4, 5] Eb hK fun a hE => ?_; clear hK K Q' Eb
  refine Ks ?_
  exact ret_two hE rfl rfl rfl ⟨rfl, hbw2⟩
set_option maxRecDepth 100000 in
set_option maxHeartbeats 1000000 in
theorem pCross_no (hour long : Int) (hI : b.isHour hour = false) (w : World) (hM : SbAt w H S b) (hh : b.hours.length ≤ 9223372036854775807) (hss : b.sights.length ≤ 9223372036854775807) : Calls Tryd.prog 28 #[.agg (sbV H hcap S scap b).toArray, .int .i64 hour, .int .i64 long] w fun e w' => e = .returned (.tuple #[.int .i64 0, .int .i64 (frE b false)]) ∧ Below w.heap.size w w' := by
 have CF := hid fun (W : World) hW => foreseen_any H hcap S scap b false W hW hh hss
 have CI := hid fun (W : World) => by have := isHour_any H hcap S scap b hour W hh; rw [hI] at this; exact this
 have hne : frE b false ≠ 0 := fun e => by have := frE_zero.1 e; simp at this
 clear hh hss hI
 refine enterE Tryd.func28 rfl Tryd.ntmps28 (by simp) (fun a hE => ?_); simp only [envOf, Nat.zero_add, Nat.reduceAdd] at hE
 refine Ks ?_
 refine Rs 3 fun Q' K hK => ?_
 refine M1 hE 0 fun K' J ρ q0 => ?_; go_simp
 refine Ln hE J fun _ Eb => ?_; clear J K' hE a q0
 refine M0 fun K' J ρ => ?_; go_simp;
 refine Ln Eb J fun _ Ea => ?_; clear J K' Eb
 refine M0 fun K' J ρ => ?_; go_simp;
 refine Ln Ea J fun _ Eb => ?_; clear J K' Ea
 refine Ld [1, 2, 3] Eb hK fun a hE => ?_; clear hK K Q' Eb
 obtain ⟨B, hBe⟩ : ∃ B, B = w.heap.size := ⟨_, rfl⟩; have hnB : w.heap.size ≤ B := Nat.le_of_eq hBe.symm; rw [← hBe] at hE; refine world_cut (fun wt => Below w.heap.size w wt ∧ B < wt.heap.size ∧ Row wt B (sbV H hcap S scap b)) ⟨(Below.refl _ _).alloc (Nat.le_refl _) _, by rw [hBe]; simp, by rw [hBe]; exact row_new _ _ _⟩ (fun w1 hCut => ?_); obtain ⟨hbw1, hlB, hRB⟩ := hCut; clear hBe
 have hCB := row_cells hRB hlB
 have hM1 := hM.below hbw1
 refine Ks ?_
 refine region_drawn_mem [14] (fun wt => Below w1.heap.size w1 wt) (TurnO b (frE b false) w1.heap.size) [(0, some 12), (1, some 13), (2, some 14), (3, some 15), (4, some 16), (5, some 17), (6, some 18), (7, some 19), (8, some 20), (9, some 11), (10, some 21), (11, some 22), (12, some 8)] [12, 13, 14, 15, 16, 17, 18, 19, 20, 11, 21, 22, 8] 13 8 (fun v wt => StoM b (frE b false) w1.heap.size v wt) #[true, true, true, true, true, true, true, true, true, true, true, true, true, true, false] [1, 2, 9] hE (fun _ _ _ hR h => h.turned hR) (by kernel_rfl) (by kernel_rfl) (by kernel_rfl) (by kernel_rfl) (by kernel_rfl) (by kernel_rfl) (by kernel_rfl) (by kernel_rfl) (by kernel_rfl) (by kernel_rfl) (by kernel_rfl) (by kernel_rfl) (by kernel_rfl) (by kernel_rfl) ((Below.refl _ _).drew) (fun Q' K hK => ?_)
 refine SeqOps.val ?_ (Sp fun ax wx hS hT' hd K' J => ?_) ?_; rotate_left 1
 ·have r3 := hS.at 3 (by decide) (hE.at 3 rfl); obtain ⟨_, _, _, _, _, _⟩ := bT hT'
  refine wp_load_mid 29 (.tmp 3) rfl B 0 (eval_of r3) (sbV H hcap S scap b) _ (fun j u hu => by rw [Nat.zero_add]; exact (hCB.below hT').2 j u hu) Tryd.underlying29 rfl (by kernel_rfl) ?_
  refine J.out _ _ _ rfl ?_ hT' TurnO.refl; rfl
 refine SeqOps.val ?_ (Sp fun ax wx hS hT' hd K' J => ?_) ?_; rotate_left 1
 ·have r3 := hS.at 3 (by decide) (hE.at 3 rfl); obtain ⟨_, _, _, _, _, _⟩ := bT hT'
  refine wp_load_mid 29 (.tmp 3) rfl B 0 (eval_of r3) (sbV H hcap S scap b) _ (fun j u hu => by rw [Nat.zero_add]; exact (hCB.below hT').2 j u hu) Tryd.underlying29 rfl (by kernel_rfl) ?_
  refine J.out _ _ _ rfl ?_ hT' TurnO.refl; rfl
 refine SeqOps.val ?_ (Sp fun ax wx hS hT' hd K' J => ?_) ?_; rotate_left 1
 ·have r1 := hS.at 1 (by decide) (hE.at 1 rfl); obtain ⟨_, _, _, _, _, _⟩ := bT hT'
  refine o1 r1 fun ρ q1 => ?_; go_simp;
  refine J.out _ _ _ rfl ?_ hT' (TurnO.refl); rfl
 refine SeqOps.val ?_ (Sp fun ax wx hS hT' hd K' J => ?_) ?_; rotate_left 1
 ·have r13 := Tv hd 1 1 13; have r14 := Tv hd 0 2 14; obtain ⟨_, _, _, _, _, _⟩ := bT hT'
  refine o2 r13 r14 fun ρ q13 q14 => ?_; go_simp; (try go_bits);
  go_at_call 62; refine (CI.out _).mono ?_; rintro e g1 ⟨rfl, k1⟩
  refine J.out _ _ _ rfl ?_ (hT'.trans (k1.mono hT'.size)) (TurnO.of k1); rfl
 refine SeqOps.val ?_ (Sp fun ax wx hS hT' hd K' J => ?_) ?_; rotate_left 1
 ·have r15 := Tv hd 0 3 15; obtain ⟨_, _, _, _, _, _⟩ := bT hT'
  refine o1 r15 fun ρ q15 => ?_; go_simp;
  refine J.out _ _ _ rfl ?_ hT' (TurnO.refl); rfl
 refine SeqOps.val _ (StepOk.no (by (first | (simp only [List.getElem?_toArray, List.getElem?_cons_succ, List.getElem?_cons_zero]; rfl) | rfl)) rfl (e := 16) 0 rfl rfl (by kernel_rfl) (by kernel_rfl) (fun w => TurnO.refl)) ?_
 refine SeqOps.val _ (StepOk.no (by (first | (simp only [List.getElem?_toArray, List.getElem?_cons_succ, List.getElem?_cons_zero]; rfl) | rfl)) rfl (e := 16) 1 rfl rfl (by kernel_rfl) (by kernel_rfl) (fun w => TurnO.refl)) ?_
 refine SeqOps.val ?_ (Sp fun ax wx hS hT' hd K' J => ?_) ?_; rotate_left 1
 ·have r16 := Tv hd 2 4 16; have r18 := Tv hd 0 6 18; obtain ⟨_, _, _, _, _, _⟩ := bT hT'
  refine o2 r16 r18 fun ρ q16 q18 => ?_; go_simp; (try go_bits);
  refine J.out _ _ _ rfl ?_ hT' (TurnO.refl); rfl
 refine SeqOps.say (fun v wt => SetV b (frE b false) v wt) (fun _ _ _ hR h => h.turned hR) (Sp fun ax wx hS hT' hd K' J => ?_) ?_
 ·have r12 := Tv hd 7 0 12; have r19 := Tv hd 0 7 19; obtain ⟨_, _, _, _, _, _⟩ := bT hT'
  refine o2 r12 r19 fun ρ q12 q19 => ?_; go_simp; (try go_bits);
  go_at_call 65; refine (CF.out _ (hM1.below hT')).mono ?_; rintro e g1 ⟨⟨V, rfl, hV⟩, k1⟩
  exact J.out _ _ _ rfl ⟨V, rfl, hV, hV.nob⟩ (hT'.trans (k1.mono hT'.size)) (TurnO.of k1)
 refine SeqOps.say (fun v wt => SetV b (frE b false) v wt) (fun _ _ _ hR h => h.turned hR) (Sp fun ax wx hS hT' hd K' J => ?_) ?_
 ·obtain ⟨v20, r20, h20⟩ := Tg hd 0 8 20; obtain ⟨_, _, _, _, _, _⟩ := bT hT'
  refine o1 r20 fun ρ q20 => ?_; go_simp;
  exact J.out _ _ _ rfl h20 hT' TurnO.refl
 refine SeqOps.say (fun v wt => SetA b (frE b false) v wt) (fun _ _ _ hR h => h.turned hR) (Sp fun ax wx hS hT' hd K' J => ?_) ?_
 ·obtain ⟨v11, r11, h11⟩ := Tg hd 0 9 11; obtain ⟨V, rfl, hV, hVn⟩ := h11; obtain ⟨_, _, _, _, _, _⟩ := bT hT'
  refine o1 r11 fun ρ q11 => ?_; go_simp;
  exact J.out _ _ _ rfl ⟨V, rfl, hV, hVn⟩ hT' TurnO.refl
 refine SeqOps.val ?_ (Sp fun ax wx hS hT' hd K' J => ?_) ?_; rotate_left 1
 ·obtain ⟨v11, r11, h11⟩ := Tg hd 1 9 11; obtain ⟨V, rfl, hV, hVn⟩ := h11; obtain ⟨_, _, _, _, _, _⟩ := bT hT'
  refine o1 r11 fun ρ q11 => ?_; go_simp;
  refine J.out _ _ _ rfl ?_ hT' (TurnO.refl); rfl
 refine SeqOps.say (fun v wt => NewO w1.heap.size v wt) (fun _ _ _ hR h => h.turned hR) (Sp fun ax wx hS hT' hd K' J => ?_) ?_
 ·obtain ⟨_, _, _, _, _, _⟩ := bT hT'
  refine o0 fun ρ => ?_; go_simp;
  exact J.out _ _ _ rfl ⟨_, rfl, hT'.size, ⟨_, World.alloc_heap_new _ _, rfl, z12_noB⟩⟩ (hT'.alloc hT'.size _) (TurnO.of ((Below.refl _ _).alloc (Nat.le_refl _) _))
 refine SeqOps.nil ?_
 refine ⟨StepMem.plain (by (first | (simp only [List.getElem?_toArray, List.getElem?_cons_succ, List.getElem?_cons_zero]; rfl) | rfl)) rfl (fun ax wx hS hT' hd K' J => ?_), ?_⟩
 ·obtain ⟨v8, r8, h8⟩ := Tg hd 0 12 8; obtain ⟨C, rfl, hCn, hCb⟩ := h8; obtain ⟨v21, r21, h21⟩ := Tg hd 2 10 21; obtain ⟨V, rfl, hV, hVn⟩ := h21; obtain ⟨_, _, _, _, _, _⟩ := bT hT'
  have hVs : V.toArray.size = 12 := by simpa using hV.len
  obtain ⟨zs, hzs, hRC, hCl⟩ := hCb.row
  refine wp_store_mid 94 (.tmp 8) (.tmp 21) rfl C 0 V.toArray (eval_of r8) (eval_of r21) (there_row hRC (by rw [hzs, hVs]; exact Nat.le_refl _)) (by rw [hVs]; kernel_rfl) hV.one ?_
  have hq := cells_stored (w := w1) hRC (vs := V) (by rw [hzs, hV.len]) hCl hCn hT'
  exact J.out _ _ _ rfl r8 ⟨C, V, rfl, hCn, hq.1, hV.turned (.inr ⟨C, V, hCn, hCb, hV, hVn, rfl⟩)⟩ hq.2.1 (.inr ⟨C, V, hCn, hCb, hV, hVn, rfl⟩)
 intro w2 hBm; (repeat refine Ek ?_); (refine fun v20 h20 => ?_); (refine fun v h => ?_; obtain ⟨V, rfl, hV, hVn⟩ := h); (refine fun v h => ?_; obtain ⟨V, rfl, hV, hVn⟩ := h); (repeat refine Ek ?_); (refine fun v h => ?_; obtain ⟨C, rfl, hCn, hCb⟩ := h);
 refine fun amx hEmx => ?_
 refine fun vm hvm hM => ?_; obtain rfl := Option.some.inj (hvm.symm.trans (hEmx.at 8 rfl)); clear hvm
 simp only [lk, pick, Nat.reduceEqDiff, ↓reduceIte] at hEmx
 refine M1 hEmx 22 fun K' J ρ q22 => ?_; go_simp; (try clear q22)
 refine Ln hEmx J fun am_1 hEm_1 => ?_; clear J K' hEmx
 refine Ld [1, 2, 8, 9] hEm_1 hK fun a hE => ?_; clear hK K Q' hEm_1
 have hbw2 := hbw1.trans (hBm.mono hbw1.size)
 obtain ⟨C', V', hCe, hCn', hCQ, hV3⟩ := hM
 obtain rfl : C = C' := by cases hCe; rfl
 clear V hV hVn hCb hCe
 refine Ks ?_
 refine Rs 2 fun Q' K hK => ?_
 refine M1 hE 9 fun K' J ρ q9 => ?_; go_simp
 refine Ln hE J fun _ Eb => ?_; clear J K' hE a q9
 refine M1 Eb 23 fun K' J ρ q23 => ?_; go_simp; (try go_bits)
 refine Ln Eb J fun _ Ea => ?_; clear J K' Eb q23
 refine Ld [1, 2, 8, 9, 24] Ea hK fun a hE => ?_; clear hK K Q' Ea
 replace hE := hE.turn 24 (v' := .bool true) rfl (by simp [hne])
 clear hne
 refine Ks ?_
 refine cond_yes hE (t := 24) rfl ?_
 refine Ks ?_
 refine Rs 3 fun Q' K hK => ?_
 refine M1 hE 9 fun K' J ρ q9 => ?_; go_simp
 refine Ln hE J fun _ Eb => ?_; clear J K' hE a q9
 refine M0 fun K' J ρ => ?_; go_simp;
 refine Ln Eb J fun _ Ea => ?_; clear J K' Eb
 refine M1 Ea 25 fun K' J ρ q25 => ?_; go_simp
 refine Ln Ea J fun _ Eb => ?_; clear J K' Ea q25
 refine Ld [6, 7] Eb hK fun a hE => ?_; clear hK K Q' Eb
 refine Ks ?_
 exact ret_two hE rfl rfl rfl ⟨rfl, hbw2⟩
set_option maxRecDepth 100000 in
set_option maxHeartbeats 1000000 in
theorem pCross_yes (h : Nat) (long : Int) (hI : b.isHour h = true) (hhl : h < b.hours.length) (w : World) (hM : SbAt w H S b) (hh : b.hours.length ≤ 9223372036854775807) (hss : b.sights.length ≤ 9223372036854775807) : Calls Tryd.prog 28 #[.agg (sbV H hcap S scap b).toArray, .int .i64 h, .int .i64 long] w fun e w' => (∃ r : Int × Int, r = (if frE b (wB long 1 12) = 0 then croV (croB b h long) else (0, frE b (wB long 1 12))) ∧ e = .returned (.tuple #[.int .i64 r.1, .int .i64 r.2])) ∧ Below w.heap.size w w' := by
 have CF := hid fun (W : World) hW => foreseen_any H hcap S scap b (wB long 1 12) W hW hh hss
 have CI := hid fun (W : World) => by have := isHour_any H hcap S scap b h W hh; rw [hI] at this; exact this
 have CW := hid fun (W : World) => within_any long 1 12 W
 clear hh hss hI
 refine enterE Tryd.func28 rfl Tryd.ntmps28 (by simp) (fun a hE => ?_); simp only [envOf, Nat.zero_add, Nat.reduceAdd] at hE
 refine Ks ?_
 refine Rs 3 fun Q' K hK => ?_
 refine M1 hE 0 fun K' J ρ q0 => ?_; go_simp
 refine Ln hE J fun _ Eb => ?_; clear J K' hE a q0
 refine M0 fun K' J ρ => ?_; go_simp;
 refine Ln Eb J fun _ Ea => ?_; clear J K' Eb
 refine M0 fun K' J ρ => ?_; go_simp;
 refine Ln Ea J fun _ Eb => ?_; clear J K' Ea
 refine Ld [1, 2, 3] Eb hK fun a hE => ?_; clear hK K Q' Eb
 obtain ⟨B, hBe⟩ : ∃ B, B = w.heap.size := ⟨_, rfl⟩; have hnB : w.heap.size ≤ B := Nat.le_of_eq hBe.symm; rw [← hBe] at hE; refine world_cut (fun wt => Below w.heap.size w wt ∧ B < wt.heap.size ∧ Row wt B (sbV H hcap S scap b)) ⟨(Below.refl _ _).alloc (Nat.le_refl _) _, by rw [hBe]; simp, by rw [hBe]; exact row_new _ _ _⟩ (fun w1 hCut => ?_); obtain ⟨hbw1, hlB, hRB⟩ := hCut; clear hBe
 have hCB := row_cells hRB hlB
 have hM1 := hM.below hbw1
 refine Ks ?_
 refine region_drawn_mem [14] (fun wt => Below w1.heap.size w1 wt) (TurnO b (frE b (wB long 1 12)) w1.heap.size) [(0, some 12), (1, some 13), (2, some 14), (3, some 15), (4, some 16), (5, some 17), (6, some 18), (7, some 19), (8, some 20), (9, some 11), (10, some 21), (11, some 22), (12, some 8)] [12, 13, 14, 15, 16, 17, 18, 19, 20, 11, 21, 22, 8] 13 8 (fun v wt => StoM b (frE b (wB long 1 12)) w1.heap.size v wt) #[true, true, true, true, true, true, true, true, true, true, true, true, true, true, false] [1, 2, 9] hE (fun _ _ _ hR h => h.turned hR) (by kernel_rfl) (by kernel_rfl) (by kernel_rfl) (by kernel_rfl) (by kernel_rfl) (by kernel_rfl) (by kernel_rfl) (by kernel_rfl) (by kernel_rfl) (by kernel_rfl) (by kernel_rfl) (by kernel_rfl) (by kernel_rfl) (by kernel_rfl) ((Below.refl _ _).drew) (fun Q' K hK => ?_)
 refine SeqOps.val ?_ (Sp fun ax wx hS hT' hd K' J => ?_) ?_; rotate_left 1
 ·have r3 := hS.at 3 (by decide) (hE.at 3 rfl); obtain ⟨_, _, _, _, _, _⟩ := bT hT'
  refine wp_load_mid 29 (.tmp 3) rfl B 0 (eval_of r3) (sbV H hcap S scap b) _ (fun j u hu => by rw [Nat.zero_add]; exact (hCB.below hT').2 j u hu) Tryd.underlying29 rfl (by kernel_rfl) ?_
  refine J.out _ _ _ rfl ?_ hT' TurnO.refl; rfl
 refine SeqOps.val ?_ (Sp fun ax wx hS hT' hd K' J => ?_) ?_; rotate_left 1
 ·have r3 := hS.at 3 (by decide) (hE.at 3 rfl); obtain ⟨_, _, _, _, _, _⟩ := bT hT'
  refine wp_load_mid 29 (.tmp 3) rfl B 0 (eval_of r3) (sbV H hcap S scap b) _ (fun j u hu => by rw [Nat.zero_add]; exact (hCB.below hT').2 j u hu) Tryd.underlying29 rfl (by kernel_rfl) ?_
  refine J.out _ _ _ rfl ?_ hT' TurnO.refl; rfl
 refine SeqOps.val ?_ (Sp fun ax wx hS hT' hd K' J => ?_) ?_; rotate_left 1
 ·have r1 := hS.at 1 (by decide) (hE.at 1 rfl); obtain ⟨_, _, _, _, _, _⟩ := bT hT'
  refine o1 r1 fun ρ q1 => ?_; go_simp;
  refine J.out _ _ _ rfl ?_ hT' (TurnO.refl); rfl
 refine SeqOps.val ?_ (Sp fun ax wx hS hT' hd K' J => ?_) ?_; rotate_left 1
 ·have r13 := Tv hd 1 1 13; have r14 := Tv hd 0 2 14; obtain ⟨_, _, _, _, _, _⟩ := bT hT'
  refine o2 r13 r14 fun ρ q13 q14 => ?_; go_simp; (try go_bits);
  go_at_call 62; refine (CI.out _).mono ?_; rintro e g1 ⟨rfl, k1⟩
  refine J.out _ _ _ rfl ?_ (hT'.trans (k1.mono hT'.size)) (TurnO.of k1); rfl
 refine SeqOps.val ?_ (Sp fun ax wx hS hT' hd K' J => ?_) ?_; rotate_left 1
 ·have r15 := Tv hd 0 3 15; obtain ⟨_, _, _, _, _, _⟩ := bT hT'
  refine o1 r15 fun ρ q15 => ?_; go_simp;
  refine J.out _ _ _ rfl ?_ hT' (TurnO.refl); rfl
 refine SeqOps.val ?_ (Sy 0 16 fun ax wx hS hT' hd K' J => ?_) ?_; rotate_left 1
 ·have r2 := hS.at 2 (by decide) (hE.at 2 rfl); obtain ⟨_, _, _, _, _, _⟩ := bT hT'
  refine o1 r2 fun ρ q2 => ?_; go_simp;
  refine J.out _ _ _ rfl ?_ hT' (TurnO.refl); rfl
 refine SeqOps.val ?_ (Sy 1 16 fun ax wx hS hT' hd K' J => ?_) ?_; rotate_left 1
 ·have r17 := Tv hd 0 5 17; obtain ⟨_, _, _, _, _, _⟩ := bT hT'
  refine o1 r17 fun ρ q17 => ?_; go_simp; (try go_bits);
  go_at_call 60; refine (CW.out _).mono ?_; rintro e g1 ⟨rfl, rfl⟩
  refine J.out _ _ _ rfl ?_ hT' TurnO.refl; rfl
 refine SeqOps.val ?_ (Sp fun ax wx hS hT' hd K' J => ?_) ?_; rotate_left 1
 ·have r16 := Tv hd 2 4 16; have r18 := Tv hd 0 6 18; obtain ⟨_, _, _, _, _, _⟩ := bT hT'
  refine o2 r16 r18 fun ρ q16 q18 => ?_; go_simp; (try go_bits);
  refine J.out _ _ _ rfl ?_ hT' (TurnO.refl); rfl
 refine SeqOps.say (fun v wt => SetV b (frE b (wB long 1 12)) v wt) (fun _ _ _ hR h => h.turned hR) (Sp fun ax wx hS hT' hd K' J => ?_) ?_
 ·have r12 := Tv hd 7 0 12; have r19 := Tv hd 0 7 19; obtain ⟨_, _, _, _, _, _⟩ := bT hT'
  refine o2 r12 r19 fun ρ q12 q19 => ?_; go_simp; (try go_bits);
  go_at_call 65; refine (CF.out _ (hM1.below hT')).mono ?_; rintro e g1 ⟨⟨V, rfl, hV⟩, k1⟩
  exact J.out _ _ _ rfl ⟨V, rfl, hV, hV.nob⟩ (hT'.trans (k1.mono hT'.size)) (TurnO.of k1)
 refine SeqOps.say (fun v wt => SetV b (frE b (wB long 1 12)) v wt) (fun _ _ _ hR h => h.turned hR) (Sp fun ax wx hS hT' hd K' J => ?_) ?_
 ·obtain ⟨v20, r20, h20⟩ := Tg hd 0 8 20; obtain ⟨_, _, _, _, _, _⟩ := bT hT'
  refine o1 r20 fun ρ q20 => ?_; go_simp;
  exact J.out _ _ _ rfl h20 hT' TurnO.refl
 refine SeqOps.say (fun v wt => SetA b (frE b (wB long 1 12)) v wt) (fun _ _ _ hR h => h.turned hR) (Sp fun ax wx hS hT' hd K' J => ?_) ?_
 ·obtain ⟨v11, r11, h11⟩ := Tg hd 0 9 11; obtain ⟨V, rfl, hV, hVn⟩ := h11; obtain ⟨_, _, _, _, _, _⟩ := bT hT'
  refine o1 r11 fun ρ q11 => ?_; go_simp;
  exact J.out _ _ _ rfl ⟨V, rfl, hV, hVn⟩ hT' TurnO.refl
 refine SeqOps.val ?_ (Sp fun ax wx hS hT' hd K' J => ?_) ?_; rotate_left 1
 ·obtain ⟨v11, r11, h11⟩ := Tg hd 1 9 11; obtain ⟨V, rfl, hV, hVn⟩ := h11; obtain ⟨_, _, _, _, _, _⟩ := bT hT'
  refine o1 r11 fun ρ q11 => ?_; go_simp;
  refine J.out _ _ _ rfl ?_ hT' (TurnO.refl); rfl
 refine SeqOps.say (fun v wt => NewO w1.heap.size v wt) (fun _ _ _ hR h => h.turned hR) (Sp fun ax wx hS hT' hd K' J => ?_) ?_
 ·obtain ⟨_, _, _, _, _, _⟩ := bT hT'
  refine o0 fun ρ => ?_; go_simp;
  exact J.out _ _ _ rfl ⟨_, rfl, hT'.size, ⟨_, World.alloc_heap_new _ _, rfl, z12_noB⟩⟩ (hT'.alloc hT'.size _) (TurnO.of ((Below.refl _ _).alloc (Nat.le_refl _) _))
 refine SeqOps.nil ?_
 refine ⟨StepMem.plain (by (first | (simp only [List.getElem?_toArray, List.getElem?_cons_succ, List.getElem?_cons_zero]; rfl) | rfl)) rfl (fun ax wx hS hT' hd K' J => ?_), ?_⟩
 ·obtain ⟨v8, r8, h8⟩ := Tg hd 0 12 8; obtain ⟨C, rfl, hCn, hCb⟩ := h8; obtain ⟨v21, r21, h21⟩ := Tg hd 2 10 21; obtain ⟨V, rfl, hV, hVn⟩ := h21; obtain ⟨_, _, _, _, _, _⟩ := bT hT'
  have hVs : V.toArray.size = 12 := by simpa using hV.len
  obtain ⟨zs, hzs, hRC, hCl⟩ := hCb.row
  refine wp_store_mid 94 (.tmp 8) (.tmp 21) rfl C 0 V.toArray (eval_of r8) (eval_of r21) (there_row hRC (by rw [hzs, hVs]; exact Nat.le_refl _)) (by rw [hVs]; kernel_rfl) hV.one ?_
  have hq := cells_stored (w := w1) hRC (vs := V) (by rw [hzs, hV.len]) hCl hCn hT'
  exact J.out _ _ _ rfl r8 ⟨C, V, rfl, hCn, hq.1, hV.turned (.inr ⟨C, V, hCn, hCb, hV, hVn, rfl⟩)⟩ hq.2.1 (.inr ⟨C, V, hCn, hCb, hV, hVn, rfl⟩)
 intro w2 hBm; (repeat refine Ek ?_); (refine fun v20 h20 => ?_); (refine fun v h => ?_; obtain ⟨V, rfl, hV, hVn⟩ := h); (refine fun v h => ?_; obtain ⟨V, rfl, hV, hVn⟩ := h); (repeat refine Ek ?_); (refine fun v h => ?_; obtain ⟨C, rfl, hCn, hCb⟩ := h);
 refine fun amx hEmx => ?_
 refine fun vm hvm hM => ?_; obtain rfl := Option.some.inj (hvm.symm.trans (hEmx.at 8 rfl)); clear hvm
 simp only [lk, pick, Nat.reduceEqDiff, ↓reduceIte] at hEmx
 refine M1 hEmx 22 fun K' J ρ q22 => ?_; go_simp; (try clear q22)
 refine Ln hEmx J fun am_1 hEm_1 => ?_; clear J K' hEmx
 refine Ld [1, 2, 8, 9] hEm_1 hK fun a hE => ?_; clear hK K Q' hEm_1
 have hbw2 := hbw1.trans (hBm.mono hbw1.size)
 obtain ⟨C', V', hCe, hCn', hCQ, hV3⟩ := hM
 obtain rfl : C = C' := by cases hCe; rfl
 clear V hV hVn hCb hCe
 by_cases he : frE b (wB long 1 12) = 0
 ·obtain ⟨hok, hva, hrt⟩ := frE_zero.1 he
  have hb := ok_iff.1 hok
  have h12 := hb.hours
  have hOV := hV3.ov he
  rw [if_pos he]
  rw [he] at hE
  have CL := hid fun (g : Nat) (hg : g ≤ b.hours.length) W hW => safeFrom_b hb hrt hg V' W hW
  have hOV2 := hOV
  obtain ⟨H', hc', S', sc', P', pc', D', dc', hVe, _⟩ := hOV2
  have hV7 : V'[7]? = some (.slice H' b.hours.length hc') := by rw [hVe]; rfl
  have HV12 := hid hV3.len
  have hlQ := hCQ.1
  clear hVe he hok hrt hb hva
  refine Ks ?_
  refine Rs 2 fun Q' K hK => ?_
  refine M1 hE 9 fun K' J ρ q9 => ?_; go_simp
  refine Ln hE J fun _ Eb => ?_; clear J K' hE a q9
  refine M1 Eb 23 fun K' J ρ q23 => ?_; go_simp; (try go_bits)
  refine Ln Eb J fun _ Ea => ?_; clear J K' Eb q23
  replace Ea := Ea.turn 24 (v' := .bool false) rfl (by (first | rfl | simp))
  refine Ld [1, 2, 8, 9, 24] Ea hK fun a hE => ?_; clear hK K Q' Ea
  refine Ks ?_
  refine cond_no hE (t := 24) rfl ?_
  refine Ks ?_
  refine Rs 2 fun Q' K hK => ?_
  refine M1 hE 1 fun K' J ρ q1 => ?_; go_simp
  refine Ln hE J fun _ Eb => ?_; clear J K' hE a q1
  refine M1 Eb 26 fun K' J ρ q26 => ?_; go_simp
  refine Ln Eb J fun _ Ea => ?_; clear J K' Eb q26
  refine Ld [2, 8, 10] Ea hK fun a hE => ?_; clear hK K Q' Ea
  refine Ks ?_
  refine loop_st (fun (g : Nat) a w' => (h ≤ g ∧ g ≤ b.hours.length) ∧ Fits 42 [(2, .int .i64 long), (8, .pointer (some ⟨C, 0, none⟩)), (10, .int .i64 g)] a ∧ Below w2.heap.size w2 w' ∧ ∀ j, h ≤ j → j < g → crP b long j = false) (fun g => b.hours.length - g) h ⟨⟨Nat.le_refl _, Nat.le_of_lt hhl⟩, by simpa using hE, Below.refl _ _, fun j h1 h2 => absurd h1 (by omega)⟩ (fun g a wr hI => ?_)
  clear hE
  obtain ⟨⟨hg, hgl⟩, hE, hW, hN⟩ := hI
  have HN := hid hN
  clear hN
  have hbr := hbw2.trans (hW.mono hbw2.size)
  have hCQr := hCQ.below hW
  have c7 := hCQr.2 7 _ hV7
  by_cases hlt : g < b.hours.length
  ·have hltI : (g : Int) < b.hours.length := by omega
   have CS := hid (CL.out g hgl wr (hOV.below hW))
   obtain ⟨n, hn⟩ : ∃ n, runB b g = n := ⟨_, rfl⟩
   rw [hn] at CS
   have HQ := hid hn
   clear hn
   by_cases hge : long ≤ n
   ·have hhit : croB b h long = some g := croN_hit _ _ _ _ hg (by omega) HN.out (crP_yes (by rw [HQ.out]; exact hge))
    rw [hhit]
    clear hhit
    refine Ks ?_
    refine Rs 7 fun Q' K hK => ?_
    refine M1 hE 10 fun K' J ρ q10 => ?_; go_simp
    refine Ln hE J fun _ Eb => ?_; clear J K' hE a q10
    refine M1 Eb 8 fun K' J ρ q8 => ?_; go_simp
    refine Ln Eb J fun _ Ea => ?_; clear J K' Eb q8
    refine M1 Ea 28 fun K' J ρ q28 => ?_; go_simp
    refine Ln Ea J fun _ Eb => ?_; clear J K' Ea q28
    refine M1 Eb 29 fun K' J ρ q29 => ?_; go_simp
    refine Ln Eb J fun _ Ea => ?_; clear J K' Eb q29
    refine M1 Ea 30 fun K' J ρ q30 => ?_; go_simp
    refine Ln Ea J fun _ Eb => ?_; clear J K' Ea q30
    refine M1 Eb 31 fun K' J ρ q31 => ?_; go_simp; (try go_bits)
    refine Ln Eb J fun _ Ea => ?_; clear J K' Eb q31
    refine M2 Ea 27 32 fun K' J ρ q27 q32 => ?_; go_simp; (try go_bits)
    refine Ln Ea J fun _ Eb => ?_; clear J K' Ea q27 q32
    replace Eb := Eb.turn 33 (v' := .bool true) rfl (by (first | (simp; done) | (simp; omega)))
    refine Ld [2, 8, 10, 33] Eb hK fun a hE => ?_; clear hK K Q' Eb
    refine Ks ?_
    refine cond_yes hE (t := 33) rfl ?_
    refine Ks ?_
    refine Rs 5 fun Q' K hK => ?_
    refine Lp fun K' J => ?_
    have r8 := hE.at 8 rfl
    refine wp_load_mid 94 (.tmp 8) rfl C 0 (eval_of r8) V' _ (fun j u hu => by rw [Nat.zero_add]; exact hCQr.2 j u hu) Tryd.underlying94 rfl (by rw [HV12.out]; kernel_rfl) ?_
    (try clear r8)
    refine Ln hE J fun _ Eb => ?_; clear J K' hE a
    refine M1 Eb 10 fun K' J ρ q10 => ?_; go_simp
    refine Ln Eb J fun _ Ea => ?_; clear J K' Eb q10
    refine M2 Ea 36 37 fun K' J ρ q36 q37 => ?_; go_simp; (try go_bits); (try clear q36 q37)
    go_at_call 71; refine CS.out.mono ?_; rintro e w5 ⟨rfl, h5⟩
    (try clear r36 r37)
    refine Ln Ea J fun _ Eb => ?_; clear J K' Ea
    refine M1 Eb 2 fun K' J ρ q2 => ?_; go_simp
    refine Ln Eb J fun _ Ea => ?_; clear J K' Eb q2
    refine M2 Ea 38 39 fun K' J ρ q38 q39 => ?_; go_simp; (try go_bits)
    refine Ln Ea J fun _ Eb => ?_; clear J K' Ea q38 q39
    replace Eb := Eb.turn 40 (v' := .bool true) rfl (by (first | (simp; done) | (simp; omega)))
    refine Ld [2, 8, 10, 40] Eb hK fun a hE => ?_; clear hK K Q' Eb
    have hb5 := hbr.trans (h5.mono hbr.size)
    refine Ks ?_
    refine cond_yes hE (t := 40) rfl ?_
    refine Ks ?_
    refine Rs 3 fun Q' K hK => ?_
    refine M1 hE 10 fun K' J ρ q10 => ?_; go_simp
    refine Ln hE J fun _ Eb => ?_; clear J K' hE a q10
    refine M1 Eb 41 fun K' J ρ q41 => ?_; go_simp
    refine Ln Eb J fun _ Ea => ?_; clear J K' Eb q41
    refine M0 fun K' J ρ => ?_; go_simp;
    refine Ln Ea J fun _ Eb => ?_; clear J K' Ea
    refine Ld [6, 7] Eb hK fun a hE => ?_; clear hK K Q' Eb
    refine Ks ?_
    exact ret_two hE rfl rfl rfl ⟨⟨_, rfl, rfl⟩, hb5⟩
   ·have hmis := crP_no (b := b) (long := long) (g := g) (by rw [HQ.out]; exact hge)
    refine Ks ?_
    refine Rs 7 fun Q' K hK => ?_
    refine M1 hE 10 fun K' J ρ q10 => ?_; go_simp
    refine Ln hE J fun _ Eb => ?_; clear J K' hE a q10
    refine M1 Eb 8 fun K' J ρ q8 => ?_; go_simp
    refine Ln Eb J fun _ Ea => ?_; clear J K' Eb q8
    refine M1 Ea 28 fun K' J ρ q28 => ?_; go_simp
    refine Ln Ea J fun _ Eb => ?_; clear J K' Ea q28
    refine M1 Eb 29 fun K' J ρ q29 => ?_; go_simp
    refine Ln Eb J fun _ Ea => ?_; clear J K' Eb q29
    refine M1 Ea 30 fun K' J ρ q30 => ?_; go_simp
    refine Ln Ea J fun _ Eb => ?_; clear J K' Ea q30
    refine M1 Eb 31 fun K' J ρ q31 => ?_; go_simp; (try go_bits)
    refine Ln Eb J fun _ Ea => ?_; clear J K' Eb q31
    refine M2 Ea 27 32 fun K' J ρ q27 q32 => ?_; go_simp; (try go_bits)
    refine Ln Ea J fun _ Eb => ?_; clear J K' Ea q27 q32
    replace Eb := Eb.turn 33 (v' := .bool true) rfl (by (first | (simp; done) | (simp; omega)))
    refine Ld [2, 8, 10, 33] Eb hK fun a hE => ?_; clear hK K Q' Eb
    refine Ks ?_
    refine cond_yes hE (t := 33) rfl ?_
    refine Ks ?_
    refine Rs 5 fun Q' K hK => ?_
    refine Lp fun K' J => ?_
    have r8 := hE.at 8 rfl
    refine wp_load_mid 94 (.tmp 8) rfl C 0 (eval_of r8) V' _ (fun j u hu => by rw [Nat.zero_add]; exact hCQr.2 j u hu) Tryd.underlying94 rfl (by rw [HV12.out]; kernel_rfl) ?_
    (try clear r8)
    refine Ln hE J fun _ Eb => ?_; clear J K' hE a
    refine M1 Eb 10 fun K' J ρ q10 => ?_; go_simp
    refine Ln Eb J fun _ Ea => ?_; clear J K' Eb q10
    refine M2 Ea 36 37 fun K' J ρ q36 q37 => ?_; go_simp; (try go_bits); (try clear q36 q37)
    go_at_call 71; refine CS.out.mono ?_; rintro e w5 ⟨rfl, h5⟩
    (try clear r36 r37)
    refine Ln Ea J fun _ Eb => ?_; clear J K' Ea
    refine M1 Eb 2 fun K' J ρ q2 => ?_; go_simp
    refine Ln Eb J fun _ Ea => ?_; clear J K' Eb q2
    refine M2 Ea 38 39 fun K' J ρ q38 q39 => ?_; go_simp; (try go_bits)
    refine Ln Ea J fun _ Eb => ?_; clear J K' Ea q38 q39
    replace Eb := Eb.turn 40 (v' := .bool false) rfl (by (first | (simp; done) | (simp; omega)))
    refine Ld [2, 8, 10, 40] Eb hK fun a hE => ?_; clear hK K Q' Eb
    have hW5 := hW.trans (h5.mono hW.size)
    refine Ks ?_
    refine cond_no hE (t := 40) rfl ?_
    refine Ks ?_
    refine Rs 3 fun Q' K hK => ?_
    refine M1 hE 10 fun K' J ρ q10 => ?_; go_simp
    refine Ln hE J fun _ Eb => ?_; clear J K' hE a q10
    refine M1 Eb 34 fun K' J ρ q34 => ?_; go_simp; (try go_bits); (try simp (disch := omega) only [IntWalk.i64_in])
    refine Ln Eb J fun _ Ea => ?_; clear J K' Eb q34
    refine M1 Ea 35 fun K' J ρ q35 => ?_; go_simp
    refine Ln Ea J fun _ Eb => ?_; clear J K' Ea q35
    refine Ld [2, 8, 10] Eb hK fun a hE => ?_; clear hK K Q' Eb
    refine Ks ?_
    exact ⟨g + 1, ⟨⟨by omega, hlt⟩, by simpa using hE, hW5, fun j h1 h2 => by
     by_cases e : j = g
     ·subst e; exact hmis
     ·exact HN.out j h1 (by omega)⟩, by omega⟩
  ·have hltI : ¬ (g : Int) < b.hours.length := by omega
   have hnone : croB b h long = none := croN_none _ _ _ (fun j h1 h2 => HN.out j h1 (by omega))
   rw [hnone]
   clear hnone
   refine Ks ?_
   refine Rs 7 fun Q' K hK => ?_
   refine M1 hE 10 fun K' J ρ q10 => ?_; go_simp
   refine Ln hE J fun _ Eb => ?_; clear J K' hE a q10
   refine M1 Eb 8 fun K' J ρ q8 => ?_; go_simp
   refine Ln Eb J fun _ Ea => ?_; clear J K' Eb q8
   refine M1 Ea 28 fun K' J ρ q28 => ?_; go_simp
   refine Ln Ea J fun _ Eb => ?_; clear J K' Ea q28
   refine M1 Eb 29 fun K' J ρ q29 => ?_; go_simp
   refine Ln Eb J fun _ Ea => ?_; clear J K' Eb q29
   refine M1 Ea 30 fun K' J ρ q30 => ?_; go_simp
   refine Ln Ea J fun _ Eb => ?_; clear J K' Ea q30
   refine M1 Eb 31 fun K' J ρ q31 => ?_; go_simp; (try go_bits)
   refine Ln Eb J fun _ Ea => ?_; clear J K' Eb q31
   refine M2 Ea 27 32 fun K' J ρ q27 q32 => ?_; go_simp; (try go_bits)
   refine Ln Ea J fun _ Eb => ?_; clear J K' Ea q27 q32
   replace Eb := Eb.turn 33 (v' := .bool false) rfl (by (first | (simp; done) | (simp; omega)))
   refine Ld [2, 8, 10, 33] Eb hK fun a hE => ?_; clear hK K Q' Eb
   refine Ks ?_
   refine cond_no hE (t := 33) rfl ?_
   refine Ks ?_
   refine Rs 2 fun Q' K hK => ?_
   refine M0 fun K' J ρ => ?_; go_simp;
   refine Ln hE J fun _ Eb => ?_; clear J K' hE a
   refine M0 fun K' J ρ => ?_; go_simp;
   refine Ln Eb J fun _ Ea => ?_; clear J K' Eb
   refine Ld [6, 7] Ea hK fun a hE => ?_; clear hK K Q' Ea
   refine Ks ?_
   exact ret_two hE rfl rfl rfl ⟨⟨_, rfl, rfl⟩, hbr⟩
 ·rw [if_neg he]
  refine Ks ?_
  refine Rs 2 fun Q' K hK => ?_
  refine M1 hE 9 fun K' J ρ q9 => ?_; go_simp
  refine Ln hE J fun _ Eb => ?_; clear J K' hE a q9
  refine M1 Eb 23 fun K' J ρ q23 => ?_; go_simp; (try go_bits)
  refine Ln Eb J fun _ Ea => ?_; clear J K' Eb q23
  refine Ld [1, 2, 8, 9, 24] Ea hK fun a hE => ?_; clear hK K Q' Ea
  replace hE := hE.turn 24 (v' := .bool true) rfl (by simp [he])
  refine Ks ?_
  refine cond_yes hE (t := 24) rfl ?_
  refine Ks ?_
  refine Rs 3 fun Q' K hK => ?_
  refine M1 hE 9 fun K' J ρ q9 => ?_; go_simp
  refine Ln hE J fun _ Eb => ?_; clear J K' hE a q9
  refine M0 fun K' J ρ => ?_; go_simp;
  refine Ln Eb J fun _ Ea => ?_; clear J K' Eb
  refine M1 Ea 25 fun K' J ρ q25 => ?_; go_simp
  refine Ln Ea J fun _ Eb => ?_; clear J K' Ea q25
  refine Ld [6, 7] Eb hK fun a hE => ?_; clear hK K Q' Eb
  refine Ks ?_
  exact ret_two hE rfl rfl rfl ⟨⟨_, rfl, rfl⟩, hbw2⟩
theorem pCross_any (hour long : Int) (w : World) (hM : SbAt w H S b) (hh : b.hours.length ≤ 9223372036854775807) (hss : b.sights.length ≤ 9223372036854775807) : Calls Tryd.prog 28 #[.agg (sbV H hcap S scap b).toArray, .int .i64 hour, .int .i64 long] w fun e w' => e = .returned (.tuple #[.int .i64 (croR b hour long).1, .int .i64 (croR b hour long).2]) ∧ Below w.heap.size w w' := by
 cases hI : b.isHour hour
 ·have hr : croR b hour long = (0, frE b false) := by
   have hne : frE b false ≠ 0 := fun e => by have := frE_zero.1 e; simp at this
   unfold croR
   rw [hI, Bool.false_and, if_neg hne]
  rw [hr]
  exact pCross_no H hcap S scap b hour long hI w hM hh hss
 ·obtain ⟨h, rfl, hl⟩ := isHour_nat hI
  have hr : croR b h long = if frE b (wB long 1 12) = 0 then croV (croB b h long) else (0, frE b (wB long 1 12)) := by
   unfold croR
   rw [hI, Bool.true_and, Int.toNat_natCast]
  rw [hr]
  refine (pCross_yes H hcap S scap b h long hI hl w hM hh hss).mono ?_
  rintro e w' ⟨⟨r, rfl, rfl⟩, hb⟩
  exact ⟨rfl, hb⟩
end
end Go.Proofs.YtkhmcofmjjmjhaaDoor
