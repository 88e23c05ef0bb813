/- Slope: which books are sound. -/
import Derived.Test.YtkhmcofmjjmjhaaDoorKTScc

namespace Go.Proofs.YtkhmcofmjjmjhaaDoor
set_option linter.unusedSimpArgs false
set_option linter.unusedVariables false
open Go Go.RowKit
attribute [local go_sem high] cell_set_wr
attribute [local go_sem low] cell_wr frozen_wr
attribute [local go_sem] wr_set wr_drew wr_drewN wr_alloc wr_new Rho.c Rho.n Rho.g
theorem atI_neg : ∀ (l : List Int) (n : Int), atI l n < 0 ↔ n ∉ l
 | [], n => by simp [atI]
 | x :: r, n => by
  have ih := atI_neg r n
  have hl := atI_lt r n
  unfold atI
  by_cases h : x = n
  ·rw [if_pos h]; simp [h]
  ·rw [if_neg h, List.mem_cons, not_or, ← ih]
   split <;> (constructor <;> intro h' <;> first | omega | exact ⟨fun e => h e.symm, by omega⟩ | (obtain ⟨_, h'⟩ := h'; omega))
theorem atN_neg (out : List Nat) (i : Nat) : decide (atI (out.map fun (n : Nat) => (n : Int)) i < 0) = !out.contains i := by
 rw [Bool.eq_iff_iff, decide_eq_true_eq, atI_neg, Bool.not_eq_true', ← Bool.not_eq_true, List.contains_iff_mem, List.mem_map]
 refine ⟨fun h hm => h ⟨i, hm, rfl⟩, fun h ⟨a, h1, h2⟩ => h ?_⟩
 have : a = i := by omega
 exact this ▸ h1
theorem btw_yes {n lo hi : Int} (h : lo ≤ n ∧ n ≤ hi) (w : World) : Calls Tryd.prog 48 #[.int .i64 n, .int .i64 lo, .int .i64 hi] w fun e w' => e = .returned (.bool true) ∧ Below w.heap.size w w' := by
 have h2 := between_any n lo hi w
 have e : (decide (lo ≤ n) && decide (n ≤ hi)) = true := by simp [h.1, h.2]
 rw [e] at h2
 exact h2.mono (by rintro _ _ ⟨rfl, rfl⟩; exact ⟨rfl, Below.refl _ _⟩)
theorem spa_yes {lo hi a z : Int} (h : a ≤ lo ∧ lo ≤ hi ∧ hi ≤ z) (w : World) : Calls Tryd.prog 44 #[.agg #[.int .i64 lo, .int .i64 hi], .int .i64 a, .int .i64 z] w fun e w' => e = .returned (.bool true) ∧ Below w.heap.size w w' := by
 have h2 := spans_any lo hi a z w
 have e : (decide (a ≤ lo) && (decide (lo ≤ hi) && decide (hi ≤ z))) = true := by simp [h.1, h.2.1, h.2.2]
 rw [e] at h2
 exact h2
section
variable (H : Option Addr) (hcap : Nat) (S : Option Addr) (scap : Nat) (b : Sb)
set_option maxRecDepth 100000 in
set_option maxHeartbeats 4000000 in
theorem sound_no (ho : b.ok = false) (w : World) (hM : SbAt w H S b) (hh : b.hours.length ≤ 9223372036854775807) (hss : b.sights.length ≤ 9223372036854775807) : Calls Tryd.prog 34 #[.agg (sbV H hcap S scap b).toArray] w fun e w' => e = .returned (.bool false) ∧ Below w.heap.size w w' := by
 have C1 := hid fun (W : World) hW => pCheck_any H hcap S scap b W hW hh hss
 have e0 : sbE b = 30 := by unfold sbE; rw [ho]; rfl
 rw [e0] at C1
 clear e0 ho hh hss
 simp only [sbV] at C1 ⊢
 refine enterE Tryd.func34 rfl Tryd.ntmps34 (by simp) (fun a hE => ?_); simp only [envOf, Nat.zero_add, Nat.reduceAdd] at hE
 refine Ks ?_
 refine Rs 2 fun Q' K hK => ?_
 refine M1 hE 0 fun K' J ρ q0 => ?_; go_simp
 refine Ln hE J fun _ Eb => ?_; clear J K' hE a q0
 refine M0 fun K' J ρ => ?_; go_simp;
 refine Ln Eb J fun _ Ea => ?_; clear J K' Eb
 refine Ld [1] Ea hK fun a hE => ?_; clear hK K Q' Ea
 obtain ⟨B, hBe⟩ : ∃ B, B = w.heap.size := ⟨_, rfl⟩; rw [← hBe] at hE; refine world_cut (fun wt => Below w.heap.size w wt ∧ Cells wt B (sbV H hcap S scap b)) ⟨(Below.refl _ _).alloc (Nat.le_refl _) _, by rw [hBe]; exact cells_new _ _ _⟩ (fun w1 hCut => ?_); obtain ⟨hbw1, hCB⟩ := hCut; clear hBe
 simp only [sbV] at hCB
 have nB := hCB.1; have cB0 := hCB.2 0 _ rfl; have cB1 := hCB.2 1 _ rfl; have cB2 := hCB.2 2 _ rfl; have cB3 := hCB.2 3 _ rfl; have cB4 := hCB.2 4 _ rfl; have cB5 := hCB.2 5 _ rfl; have cB6 := hCB.2 6 _ rfl; have cB7 := hCB.2 7 _ rfl; have cB8 := hCB.2 8 _ rfl
 refine Ks ?_
 refine Rs 4 fun Q' K hK => ?_
 refine M1 hE 1 fun K' J ρ q1 => ?_; go_simp
 refine Ln hE J fun _ Eb => ?_; clear J K' hE a q1
 refine M1 Eb 8 fun K' J ρ q8 => ?_; go_simp
 refine Ln Eb J fun _ Ea => ?_; clear J K' Eb q8
 refine M0 fun K' J ρ => ?_; go_simp;
 refine Ln Ea J fun _ Eb => ?_; clear J K' Ea
 refine M2 Eb 3 9 fun K' J ρ q3 q9 => ?_; go_simp; (try clear q3 q9)
 refine late_skip Eb J (fun _ Ea => ?_); clear J K'; clear Eb
 refine Ld [1, 3] Ea hK fun a hE => ?_; clear hK K Q' Ea
 obtain ⟨X, hXe⟩ : ∃ B, B = w1.heap.size := ⟨_, rfl⟩; rw [← hXe] at hE; refine world_cut (fun wt => Below w1.heap.size w1 wt ∧ Cells wt X [.int .i64 b.sl.snow, .int .i64 b.sl.wind, .int .i64 b.sl.sun, .int .i64 b.sl.settle, .int .i64 b.sl.hold]) ⟨(Below.refl _ _).alloc (Nat.le_refl _) _, by rw [hXe]; exact cells_new _ _ _⟩ (fun w2 hCut => ?_); obtain ⟨hbw2, hCX⟩ := hCut; clear hXe
 have k2 := hbw2
 clear hbw2
 have hM2 := hM.below (hbw1.trans (k2.mono hbw1.size))
 have hbw2 := hbw1.trans (k2.mono hbw1.size)
 replace hCB := hCB.below k2
 clear nB cB0 cB1 cB2 cB3 cB4 cB5 cB6 cB7 cB8
 have nB := hCB.1; have cB0 := hCB.2 0 _ rfl; have cB1 := hCB.2 1 _ rfl; have cB2 := hCB.2 2 _ rfl; have cB3 := hCB.2 3 _ rfl; have cB4 := hCB.2 4 _ rfl; have cB5 := hCB.2 5 _ rfl; have cB6 := hCB.2 6 _ rfl; have cB7 := hCB.2 7 _ rfl; have cB8 := hCB.2 8 _ rfl
 refine Ks ?_
 refine Rs 46 fun Q' K hK => ?_
 refine M1 hE 1 fun K' J ρ q1 => ?_; go_simp
 refine Ln hE J fun _ Eb => ?_; clear J K' hE a q1
 refine M1 Eb 10 fun K' J ρ q10 => ?_; go_simp; (try go_bits); (try clear q10)
 go_at_call 16; refine (C1.out _ hM2).mono ?_; rintro e w3 ⟨rfl, h3⟩
 (try clear r10)
 refine Ln Eb J fun _ Ea => ?_; clear J K' Eb
 refine M1 Ea 11 fun K' J ρ q11 => ?_; go_simp; (try go_bits)
 refine Ln Ea J fun _ Eb => ?_; clear J K' Ea q11
 refine M1 Eb 12 fun K' J ρ q12 => ?_; go_simp
 refine Ln Eb J fun _ Ea => ?_; clear J K' Eb q12
 refine Lno Ea 13 ?_
 refine Lu Ea fun _ Eb => ?_
 refine Lno Eb 13 ?_
 refine Lu Eb fun _ Ea => ?_
 refine Lno Ea 13 ?_
 refine Lu Ea fun _ Eb => ?_
 refine M2 Eb 13 16 fun K' J ρ q13 q16 => ?_; go_simp; (try go_bits)
 refine Ln Eb J fun _ Ea => ?_; clear J K' Eb q13 q16
 refine M1 Ea 17 fun K' J ρ q17 => ?_; go_simp
 refine Ln Ea J fun _ Eb => ?_; clear J K' Ea q17
 refine Lno Eb 18 ?_
 refine Lu Eb fun _ Ea => ?_
 refine Lno Ea 18 ?_
 refine Lu Ea fun _ Eb => ?_
 refine Lno Eb 18 ?_
 refine Lu Eb fun _ Ea => ?_
 refine M2 Ea 18 21 fun K' J ρ q18 q21 => ?_; go_simp; (try go_bits)
 refine Ln Ea J fun _ Eb => ?_; clear J K' Ea q18 q21
 refine M1 Eb 22 fun K' J ρ q22 => ?_; go_simp
 refine Ln Eb J fun _ Ea => ?_; clear J K' Eb q22
 refine Lno Ea 23 ?_
 refine Lu Ea fun _ Eb => ?_
 refine Lno Eb 23 ?_
 refine Lu Eb fun _ Ea => ?_
 refine Lno Ea 23 ?_
 refine Lu Ea fun _ Eb => ?_
 refine M2 Eb 23 26 fun K' J ρ q23 q26 => ?_; go_simp; (try go_bits)
 refine Ln Eb J fun _ Ea => ?_; clear J K' Eb q23 q26
 refine M1 Ea 27 fun K' J ρ q27 => ?_; go_simp
 refine Ln Ea J fun _ Eb => ?_; clear J K' Ea q27
 refine Lno Eb 28 ?_
 refine Lu Eb fun _ Ea => ?_
 refine Lno Ea 28 ?_
 refine Lu Ea fun _ Eb => ?_
 refine Lno Eb 28 ?_
 refine Lu Eb fun _ Ea => ?_
 refine M2 Ea 28 31 fun K' J ρ q28 q31 => ?_; go_simp; (try go_bits)
 refine Ln Ea J fun _ Eb => ?_; clear J K' Ea q28 q31
 refine M1 Eb 32 fun K' J ρ q32 => ?_; go_simp
 refine Ln Eb J fun _ Ea => ?_; clear J K' Eb q32
 refine Lno Ea 33 ?_
 refine Lu Ea fun _ Eb => ?_
 refine Lno Eb 33 ?_
 refine Lu Eb fun _ Ea => ?_
 refine Lno Ea 33 ?_
 refine Lu Ea fun _ Eb => ?_
 refine M2 Eb 33 36 fun K' J ρ q33 q36 => ?_; go_simp; (try go_bits)
 refine Ln Eb J fun _ Ea => ?_; clear J K' Eb q33 q36
 refine M1 Ea 37 fun K' J ρ q37 => ?_; go_simp
 refine Ln Ea J fun _ Eb => ?_; clear J K' Ea q37
 refine Lno Eb 38 ?_
 refine Lu Eb fun _ Ea => ?_
 refine Lno Ea 38 ?_
 refine Lu Ea fun _ Eb => ?_
 refine Lno Eb 38 ?_
 refine Lu Eb fun _ Ea => ?_
 refine M2 Ea 38 41 fun K' J ρ q38 q41 => ?_; go_simp; (try go_bits)
 refine Ln Ea J fun _ Eb => ?_; clear J K' Ea q38 q41
 refine M1 Eb 42 fun K' J ρ q42 => ?_; go_simp
 refine Ln Eb J fun _ Ea => ?_; clear J K' Eb q42
 refine Lno Ea 43 ?_
 refine Lu Ea fun _ Eb => ?_
 refine Lno Eb 43 ?_
 refine Lu Eb fun _ Ea => ?_
 refine Lno Ea 43 ?_
 refine Lu Ea fun _ Eb => ?_
 refine Lno Eb 43 ?_
 refine Lu Eb fun _ Ea => ?_
 refine M2 Ea 43 47 fun K' J ρ q43 q47 => ?_; go_simp; (try go_bits)
 refine Ln Ea J fun _ Eb => ?_; clear J K' Ea q43 q47
 refine M1 Eb 48 fun K' J ρ q48 => ?_; go_simp
 refine Ln Eb J fun _ Ea => ?_; clear J K' Eb q48
 refine Lno Ea 49 ?_
 refine Lu Ea fun _ Eb => ?_
 refine Lno Eb 49 ?_
 refine Lu Eb fun _ Ea => ?_
 refine Lno Ea 49 ?_
 refine Lu Ea fun _ Eb => ?_
 refine Lno Eb 49 ?_
 refine Lu Eb fun _ Ea => ?_
 refine M2 Ea 49 53 fun K' J ρ q49 q53 => ?_; go_simp; (try go_bits)
 refine Ln Ea J fun _ Eb => ?_; clear J K' Ea q49 q53
 refine M1 Eb 54 fun K' J ρ q54 => ?_; go_simp
 refine Ln Eb J fun _ Ea => ?_; clear J K' Eb q54
 refine Ld [1, 4] Ea hK fun a hE => ?_; clear hK K Q' Ea
 have hbw3 := hbw2.trans (h3.mono hbw2.size)
 replace hCB := hCB.below h3
 clear nB cB0 cB1 cB2 cB3 cB4 cB5 cB6 cB7 cB8
 have nB := hCB.1; have cB0 := hCB.2 0 _ rfl; have cB1 := hCB.2 1 _ rfl; have cB2 := hCB.2 2 _ rfl; have cB3 := hCB.2 3 _ rfl; have cB4 := hCB.2 4 _ rfl; have cB5 := hCB.2 5 _ rfl; have cB6 := hCB.2 6 _ rfl; have cB7 := hCB.2 7 _ rfl; have cB8 := hCB.2 8 _ rfl
 refine Ks ?_
 refine Rs 1 fun Q' K hK => ?_
 refine M0 fun K' J ρ => ?_; go_simp;
 refine Ln hE J fun _ Eb => ?_; clear J K' hE a
 refine Ld [1, 4, 5] Eb hK fun a hE => ?_; clear hK K Q' Eb
 refine Ks ?_
 clear cB0 cB1 cB2 cB3 cB4 cB5 cB6 cB7 cB8 nB hCB hCX hM2 C1 hM
 refine loop_st (fun (k : Nat) a w' => Fits 114 [(1, .pointer (some ⟨B, 0, none⟩)), (4, .bool false), (5, .int .i64 0)] a ∧ Below w3.heap.size w3 w') (fun _ => 0) 0 ⟨by simpa using hE, Below.refl _ _⟩ (fun k a wr hI => ?_)
 clear hE
 obtain ⟨hE, hW⟩ := hI
 have hbr := hbw3.trans (hW.mono hbw3.size)
 refine Ks ?_
 refine Rs 8 fun Q' K hK => ?_
 refine M1 hE 4 fun K' J ρ q4 => ?_; go_simp
 refine Ln hE J fun _ Eb => ?_; clear J K' hE a q4
 refine M1 Eb 55 fun K' J ρ q55 => ?_; go_simp
 refine Ln Eb J fun _ Ea => ?_; clear J K' Eb q55
 refine Lno Ea 56 ?_
 refine Lu Ea fun _ Eb => ?_
 refine Lno Eb 56 ?_
 refine Lu Eb fun _ Ea => ?_
 refine Lno Ea 56 ?_
 refine Lu Ea fun _ Eb => ?_
 refine Lno Eb 56 ?_
 refine Lu Eb fun _ Ea => ?_
 refine Lno Ea 56 ?_
 refine Lu Ea fun _ Eb => ?_
 refine M2 Eb 56 61 fun K' J ρ q56 q61 => ?_; go_simp; (try go_bits)
 refine Ln Eb J fun _ Ea => ?_; clear J K' Eb q56 q61
 replace Ea := Ea.turn 62 (v' := .bool false) rfl (by (first | rfl | simp))
 refine Ld [1, 4, 5, 62] Ea hK fun a hE => ?_; clear hK K Q' Ea
 refine Ks ?_
 refine cond_no hE (t := 62) rfl ?_
 refine Ks ?_
 refine Rs 1 fun Q' K hK => ?_
 refine M0 fun K' J ρ => ?_; go_simp;
 refine Ln hE J fun _ Eb => ?_; clear J K' hE a
 refine Ld [1, 4, 7] Eb hK fun a hE => ?_; clear hK K Q' Eb
 refine Ks ?_
 refine loop_st (fun (k : Nat) a w' => Fits 114 [(1, .pointer (some ⟨B, 0, none⟩)), (4, .bool false), (7, .int .i64 0)] a ∧ Below w3.heap.size w3 w') (fun _ => 0) 0 ⟨by simpa using hE, hW⟩ (fun k a ws hI => ?_)
 clear hE hW hbr
 obtain ⟨hE, hW⟩ := hI
 have hbr := hbw3.trans (hW.mono hbw3.size)
 refine Ks ?_
 refine Rs 8 fun Q' K hK => ?_
 refine M1 hE 4 fun K' J ρ q4 => ?_; go_simp
 refine Ln hE J fun _ Eb => ?_; clear J K' hE a q4
 refine M1 Eb 83 fun K' J ρ q83 => ?_; go_simp
 refine Ln Eb J fun _ Ea => ?_; clear J K' Eb q83
 refine Lno Ea 84 ?_
 refine Lu Ea fun _ Eb => ?_
 refine Lno Eb 84 ?_
 refine Lu Eb fun _ Ea => ?_
 refine Lno Ea 84 ?_
 refine Lu Ea fun _ Eb => ?_
 refine Lno Eb 84 ?_
 refine Lu Eb fun _ Ea => ?_
 refine Lno Ea 84 ?_
 refine Lu Ea fun _ Eb => ?_
 refine M2 Eb 84 89 fun K' J ρ q84 q89 => ?_; go_simp; (try go_bits)
 refine Ln Eb J fun _ Ea => ?_; clear J K' Eb q84 q89
 replace Ea := Ea.turn 90 (v' := .bool false) rfl (by (first | rfl | simp))
 refine Ld [1, 4, 7, 90] Ea hK fun a hE => ?_; clear hK K Q' Ea
 refine Ks ?_
 refine cond_no hE (t := 90) rfl ?_
 refine Ks ?_
 refine Rs 2 fun Q' K hK => ?_
 refine M1 hE 4 fun K' J ρ q4 => ?_; go_simp
 refine Ln hE J fun _ Eb => ?_; clear J K' hE a q4
 refine M1 Eb 113 fun K' J ρ q113 => ?_; go_simp
 refine Ln Eb J fun _ Ea => ?_; clear J K' Eb q113
 refine Ld [2] Ea hK fun a hE => ?_; clear hK K Q' Ea
 refine Ks ?_
 exact ret_one hE rfl rfl ⟨rfl, hbr⟩
set_option maxRecDepth 100000 in
set_option maxHeartbeats 4000000 in
theorem sound_yes (hb : OkB b) (w : World) (hM : SbAt w H S b) : Calls Tryd.prog 34 #[.agg (sbV H hcap S scap b).toArray] w fun e w' => e = .returned (.bool true) ∧ Below w.heap.size w w' := by
 have h12 := hb.hours
 have h6 := hb.sights
 have h6I : (b.sights.length : Int) ≤ 6 := by omega
 have C1 := hid fun (W : World) hW => pCheck_any H hcap S scap b W hW (by omega) (by omega)
 have e0 : sbE b = 0 := by unfold sbE; rw [ok_iff.2 hb]; rfl
 rw [e0] at C1
 clear e0
 have D1 := hid fun (W : World) => btw_yes hb.snow W
 have D2 := hid fun (W : World) => btw_yes hb.wind W
 have D3 := hid fun (W : World) => btw_yes hb.sun W
 have D4 := hid fun (W : World) => btw_yes hb.settle W
 have D5 := hid fun (W : World) => btw_yes hb.hold W
 have D6 := hid fun (W : World) => spa_yes hb.start W
 have D7 := hid fun (W : World) => btw_yes (n := (b.hours.length : Int)) (lo := 1) (hi := 12) (by omega) W
 have D8 := hid fun (k : Nat) (hk : k < b.hours.length) => hb.hour b.hours[k] (List.getElem_mem hk)
 have D9 := hid fun (k : Nat) (hk : k < b.sights.length) => hb.sight b.sights[k] (List.getElem_mem hk)
 clear hb
 simp only [sbV] at C1 ⊢
 refine enterE Tryd.func34 rfl Tryd.ntmps34 (by simp) (fun a hE => ?_); simp only [envOf, Nat.zero_add, Nat.reduceAdd] at hE
 refine Ks ?_
 refine Rs 2 fun Q' K hK => ?_
 refine M1 hE 0 fun K' J ρ q0 => ?_; go_simp
 refine Ln hE J fun _ Eb => ?_; clear J K' hE a q0
 refine M0 fun K' J ρ => ?_; go_simp;
 refine Ln Eb J fun _ Ea => ?_; clear J K' Eb
 refine Ld [1] Ea hK fun a hE => ?_; clear hK K Q' Ea
 obtain ⟨B, hBe⟩ : ∃ B, B = w.heap.size := ⟨_, rfl⟩; rw [← hBe] at hE; refine world_cut (fun wt => Below w.heap.size w wt ∧ Cells wt B (sbV H hcap S scap b)) ⟨(Below.refl _ _).alloc (Nat.le_refl _) _, by rw [hBe]; exact cells_new _ _ _⟩ (fun w1 hCut => ?_); obtain ⟨hbw1, hCB⟩ := hCut; clear hBe
 simp only [sbV] at hCB
 replace hM := hM.below hbw1
 have nB := hCB.1; have cB0 := hCB.2 0 _ rfl; have cB1 := hCB.2 1 _ rfl; have cB2 := hCB.2 2 _ rfl; have cB3 := hCB.2 3 _ rfl; have cB4 := hCB.2 4 _ rfl; have cB5 := hCB.2 5 _ rfl; have cB6 := hCB.2 6 _ rfl; have cB7 := hCB.2 7 _ rfl; have cB8 := hCB.2 8 _ rfl
 refine Ks ?_
 refine Rs 4 fun Q' K hK => ?_
 refine M1 hE 1 fun K' J ρ q1 => ?_; go_simp
 refine Ln hE J fun _ Eb => ?_; clear J K' hE a q1
 refine M1 Eb 8 fun K' J ρ q8 => ?_; go_simp
 refine Ln Eb J fun _ Ea => ?_; clear J K' Eb q8
 refine M0 fun K' J ρ => ?_; go_simp;
 refine Ln Ea J fun _ Eb => ?_; clear J K' Ea
 refine M2 Eb 3 9 fun K' J ρ q3 q9 => ?_; go_simp; (try clear q3 q9)
 refine late_skip Eb J (fun _ Ea => ?_); clear J K'; clear Eb
 refine Ld [1, 3] Ea hK fun a hE => ?_; clear hK K Q' Ea
 obtain ⟨X, hXe⟩ : ∃ B, B = w1.heap.size := ⟨_, rfl⟩; rw [← hXe] at hE; refine world_cut (fun wt => Below w1.heap.size w1 wt ∧ Cells wt X [.int .i64 b.sl.snow, .int .i64 b.sl.wind, .int .i64 b.sl.sun, .int .i64 b.sl.settle, .int .i64 b.sl.hold]) ⟨(Below.refl _ _).alloc (Nat.le_refl _) _, by rw [hXe]; exact cells_new _ _ _⟩ (fun w2 hCut => ?_); obtain ⟨hbw2, hCX⟩ := hCut; clear hXe
 have k2 := hbw2
 clear hbw2
 have hbw2 := hbw1.trans (k2.mono hbw1.size)
 replace hCB := hCB.below k2
 clear nB cB0 cB1 cB2 cB3 cB4 cB5 cB6 cB7 cB8
 have nB := hCB.1; have cB0 := hCB.2 0 _ rfl; have cB1 := hCB.2 1 _ rfl; have cB2 := hCB.2 2 _ rfl; have cB3 := hCB.2 3 _ rfl; have cB4 := hCB.2 4 _ rfl; have cB5 := hCB.2 5 _ rfl; have cB6 := hCB.2 6 _ rfl; have cB7 := hCB.2 7 _ rfl; have cB8 := hCB.2 8 _ rfl
 replace hM := hM.below k2
 obtain ⟨nX, cX0, cX1, cX2, cX3, cX4⟩ := hCX.c5
 refine Ks ?_
 refine Rs 46 fun Q' K hK => ?_
 refine M1 hE 1 fun K' J ρ q1 => ?_; go_simp
 refine Ln hE J fun _ Eb => ?_; clear J K' hE a q1
 refine M1 Eb 10 fun K' J ρ q10 => ?_; go_simp; (try go_bits); (try clear q10)
 go_at_call 16; refine (C1.out _ hM).mono ?_; rintro e w3 ⟨rfl, h3⟩; have hbw3 := hbw2.trans (h3.mono hbw2.size); replace hCB := hCB.below h3; clear nB cB0 cB1 cB2 cB3 cB4 cB5 cB6 cB7 cB8; have nB := hCB.1; have cB0 := hCB.2 0 _ rfl; have cB1 := hCB.2 1 _ rfl; have cB2 := hCB.2 2 _ rfl; have cB3 := hCB.2 3 _ rfl; have cB4 := hCB.2 4 _ rfl; have cB5 := hCB.2 5 _ rfl; have cB6 := hCB.2 6 _ rfl; have cB7 := hCB.2 7 _ rfl; have cB8 := hCB.2 8 _ rfl; replace hCX := hCX.below h3; clear nX cX0 cX1 cX2 cX3 cX4; obtain ⟨nX, cX0, cX1, cX2, cX3, cX4⟩ := hCX.c5; replace hM := hM.below h3
 (try clear r10)
 refine Ln Eb J fun _ Ea => ?_; clear J K' Eb
 refine M1 Ea 11 fun K' J ρ q11 => ?_; go_simp; (try go_bits)
 refine Ln Ea J fun _ Eb => ?_; clear J K' Ea q11
 refine M1 Eb 12 fun K' J ρ q12 => ?_; go_simp
 refine Ln Eb J fun _ Ea => ?_; clear J K' Eb q12
 refine N1 Ea 13 3 fun K' J ρ q3 => ?_; go_simp
 refine Ln Ea J fun _ Eb => ?_; clear J K' Ea q3
 refine N1 Eb 13 14 fun K' J ρ q14 => ?_; go_simp
 refine Ln Eb J fun _ Ea => ?_; clear J K' Eb q14
 refine N1 Ea 13 15 fun K' J ρ q15 => ?_; go_simp; (try go_bits); (try clear q15)
 go_at_call 48; refine (D1.out _).mono ?_; rintro e w4 ⟨rfl, h4⟩; have hbw4 := hbw3.trans (h4.mono hbw3.size); replace hCB := hCB.below h4; clear nB cB0 cB1 cB2 cB3 cB4 cB5 cB6 cB7 cB8; have nB := hCB.1; have cB0 := hCB.2 0 _ rfl; have cB1 := hCB.2 1 _ rfl; have cB2 := hCB.2 2 _ rfl; have cB3 := hCB.2 3 _ rfl; have cB4 := hCB.2 4 _ rfl; have cB5 := hCB.2 5 _ rfl; have cB6 := hCB.2 6 _ rfl; have cB7 := hCB.2 7 _ rfl; have cB8 := hCB.2 8 _ rfl; replace hCX := hCX.below h4; clear nX cX0 cX1 cX2 cX3 cX4; obtain ⟨nX, cX0, cX1, cX2, cX3, cX4⟩ := hCX.c5; replace hM := hM.below h4
 (try clear r15)
 refine Ln Ea J fun _ Eb => ?_; clear J K' Ea
 refine M2 Eb 13 16 fun K' J ρ q13 q16 => ?_; go_simp; (try go_bits)
 refine Ln Eb J fun _ Ea => ?_; clear J K' Eb q13 q16
 refine M1 Ea 17 fun K' J ρ q17 => ?_; go_simp
 refine Ln Ea J fun _ Eb => ?_; clear J K' Ea q17
 refine N1 Eb 18 3 fun K' J ρ q3 => ?_; go_simp
 refine Ln Eb J fun _ Ea => ?_; clear J K' Eb q3
 refine N1 Ea 18 19 fun K' J ρ q19 => ?_; go_simp
 refine Ln Ea J fun _ Eb => ?_; clear J K' Ea q19
 refine N1 Eb 18 20 fun K' J ρ q20 => ?_; go_simp; (try go_bits); (try clear q20)
 go_at_call 48; refine (D2.out _).mono ?_; rintro e w5 ⟨rfl, h5⟩; have hbw5 := hbw4.trans (h5.mono hbw4.size); replace hCB := hCB.below h5; clear nB cB0 cB1 cB2 cB3 cB4 cB5 cB6 cB7 cB8; have nB := hCB.1; have cB0 := hCB.2 0 _ rfl; have cB1 := hCB.2 1 _ rfl; have cB2 := hCB.2 2 _ rfl; have cB3 := hCB.2 3 _ rfl; have cB4 := hCB.2 4 _ rfl; have cB5 := hCB.2 5 _ rfl; have cB6 := hCB.2 6 _ rfl; have cB7 := hCB.2 7 _ rfl; have cB8 := hCB.2 8 _ rfl; replace hCX := hCX.below h5; clear nX cX0 cX1 cX2 cX3 cX4; obtain ⟨nX, cX0, cX1, cX2, cX3, cX4⟩ := hCX.c5; replace hM := hM.below h5
 (try clear r20)
 refine Ln Eb J fun _ Ea => ?_; clear J K' Eb
 refine M2 Ea 18 21 fun K' J ρ q18 q21 => ?_; go_simp; (try go_bits)
 refine Ln Ea J fun _ Eb => ?_; clear J K' Ea q18 q21
 refine M1 Eb 22 fun K' J ρ q22 => ?_; go_simp
 refine Ln Eb J fun _ Ea => ?_; clear J K' Eb q22
 refine N1 Ea 23 3 fun K' J ρ q3 => ?_; go_simp
 refine Ln Ea J fun _ Eb => ?_; clear J K' Ea q3
 refine N1 Eb 23 24 fun K' J ρ q24 => ?_; go_simp
 refine Ln Eb J fun _ Ea => ?_; clear J K' Eb q24
 refine N1 Ea 23 25 fun K' J ρ q25 => ?_; go_simp; (try go_bits); (try clear q25)
 go_at_call 48; refine (D3.out _).mono ?_; rintro e w6 ⟨rfl, h6⟩; have hbw6 := hbw5.trans (h6.mono hbw5.size); replace hCB := hCB.below h6; clear nB cB0 cB1 cB2 cB3 cB4 cB5 cB6 cB7 cB8; have nB := hCB.1; have cB0 := hCB.2 0 _ rfl; have cB1 := hCB.2 1 _ rfl; have cB2 := hCB.2 2 _ rfl; have cB3 := hCB.2 3 _ rfl; have cB4 := hCB.2 4 _ rfl; have cB5 := hCB.2 5 _ rfl; have cB6 := hCB.2 6 _ rfl; have cB7 := hCB.2 7 _ rfl; have cB8 := hCB.2 8 _ rfl; replace hCX := hCX.below h6; clear nX cX0 cX1 cX2 cX3 cX4; obtain ⟨nX, cX0, cX1, cX2, cX3, cX4⟩ := hCX.c5; replace hM := hM.below h6
 (try clear r25)
 refine Ln Ea J fun _ Eb => ?_; clear J K' Ea
 refine M2 Eb 23 26 fun K' J ρ q23 q26 => ?_; go_simp; (try go_bits)
 refine Ln Eb J fun _ Ea => ?_; clear J K' Eb q23 q26
 refine M1 Ea 27 fun K' J ρ q27 => ?_; go_simp
 refine Ln Ea J fun _ Eb => ?_; clear J K' Ea q27
 refine N1 Eb 28 3 fun K' J ρ q3 => ?_; go_simp
 refine Ln Eb J fun _ Ea => ?_; clear J K' Eb q3
 refine N1 Ea 28 29 fun K' J ρ q29 => ?_; go_simp
 refine Ln Ea J fun _ Eb => ?_; clear J K' Ea q29
 refine N1 Eb 28 30 fun K' J ρ q30 => ?_; go_simp; (try go_bits); (try clear q30)
 go_at_call 48; refine (D4.out _).mono ?_; rintro e w7 ⟨rfl, h7⟩; have hbw7 := hbw6.trans (h7.mono hbw6.size); replace hCB := hCB.below h7; clear nB cB0 cB1 cB2 cB3 cB4 cB5 cB6 cB7 cB8; have nB := hCB.1; have cB0 := hCB.2 0 _ rfl; have cB1 := hCB.2 1 _ rfl; have cB2 := hCB.2 2 _ rfl; have cB3 := hCB.2 3 _ rfl; have cB4 := hCB.2 4 _ rfl; have cB5 := hCB.2 5 _ rfl; have cB6 := hCB.2 6 _ rfl; have cB7 := hCB.2 7 _ rfl; have cB8 := hCB.2 8 _ rfl; replace hCX := hCX.below h7; clear nX cX0 cX1 cX2 cX3 cX4; obtain ⟨nX, cX0, cX1, cX2, cX3, cX4⟩ := hCX.c5; replace hM := hM.below h7
 (try clear r30)
 refine Ln Eb J fun _ Ea => ?_; clear J K' Eb
 refine M2 Ea 28 31 fun K' J ρ q28 q31 => ?_; go_simp; (try go_bits)
 refine Ln Ea J fun _ Eb => ?_; clear J K' Ea q28 q31
 refine M1 Eb 32 fun K' J ρ q32 => ?_; go_simp
 refine Ln Eb J fun _ Ea => ?_; clear J K' Eb q32
 refine N1 Ea 33 3 fun K' J ρ q3 => ?_; go_simp
 refine Ln Ea J fun _ Eb => ?_; clear J K' Ea q3
 refine N1 Eb 33 34 fun K' J ρ q34 => ?_; go_simp
 refine Ln Eb J fun _ Ea => ?_; clear J K' Eb q34
 refine N1 Ea 33 35 fun K' J ρ q35 => ?_; go_simp; (try go_bits); (try clear q35)
 go_at_call 48; refine (D5.out _).mono ?_; rintro e w8 ⟨rfl, h8⟩; have hbw8 := hbw7.trans (h8.mono hbw7.size); replace hCB := hCB.below h8; clear nB cB0 cB1 cB2 cB3 cB4 cB5 cB6 cB7 cB8; have nB := hCB.1; have cB0 := hCB.2 0 _ rfl; have cB1 := hCB.2 1 _ rfl; have cB2 := hCB.2 2 _ rfl; have cB3 := hCB.2 3 _ rfl; have cB4 := hCB.2 4 _ rfl; have cB5 := hCB.2 5 _ rfl; have cB6 := hCB.2 6 _ rfl; have cB7 := hCB.2 7 _ rfl; have cB8 := hCB.2 8 _ rfl; replace hCX := hCX.below h8; clear nX cX0 cX1 cX2 cX3 cX4; obtain ⟨nX, cX0, cX1, cX2, cX3, cX4⟩ := hCX.c5; replace hM := hM.below h8
 (try clear r35)
 refine Ln Ea J fun _ Eb => ?_; clear J K' Ea
 refine M2 Eb 33 36 fun K' J ρ q33 q36 => ?_; go_simp; (try go_bits)
 refine Ln Eb J fun _ Ea => ?_; clear J K' Eb q33 q36
 refine M1 Ea 37 fun K' J ρ q37 => ?_; go_simp
 refine Ln Ea J fun _ Eb => ?_; clear J K' Ea q37
 refine N1 Eb 38 1 fun K' J ρ q1 => ?_; go_simp
 refine Ln Eb J fun _ Ea => ?_; clear J K' Eb q1
 refine N1 Ea 38 39 fun K' J ρ q39 => ?_; go_simp
 refine Ln Ea J fun _ Eb => ?_; clear J K' Ea q39
 refine N1 Eb 38 40 fun K' J ρ q40 => ?_; go_simp; (try go_bits); (try clear q40)
 go_at_call 44; refine (D6.out _).mono ?_; rintro e w9 ⟨rfl, h9⟩; have hbw9 := hbw8.trans (h9.mono hbw8.size); replace hCB := hCB.below h9; clear nB cB0 cB1 cB2 cB3 cB4 cB5 cB6 cB7 cB8; have nB := hCB.1; have cB0 := hCB.2 0 _ rfl; have cB1 := hCB.2 1 _ rfl; have cB2 := hCB.2 2 _ rfl; have cB3 := hCB.2 3 _ rfl; have cB4 := hCB.2 4 _ rfl; have cB5 := hCB.2 5 _ rfl; have cB6 := hCB.2 6 _ rfl; have cB7 := hCB.2 7 _ rfl; have cB8 := hCB.2 8 _ rfl; replace hCX := hCX.below h9; clear nX cX0 cX1 cX2 cX3 cX4; obtain ⟨nX, cX0, cX1, cX2, cX3, cX4⟩ := hCX.c5; replace hM := hM.below h9
 (try clear r40)
 refine Ln Eb J fun _ Ea => ?_; clear J K' Eb
 refine M2 Ea 38 41 fun K' J ρ q38 q41 => ?_; go_simp; (try go_bits)
 refine Ln Ea J fun _ Eb => ?_; clear J K' Ea q38 q41
 refine M1 Eb 42 fun K' J ρ q42 => ?_; go_simp
 refine Ln Eb J fun _ Ea => ?_; clear J K' Eb q42
 refine N1 Ea 43 1 fun K' J ρ q1 => ?_; go_simp
 refine Ln Ea J fun _ Eb => ?_; clear J K' Ea q1
 refine N1 Eb 43 44 fun K' J ρ q44 => ?_; go_simp
 refine Ln Eb J fun _ Ea => ?_; clear J K' Eb q44
 refine N1 Ea 43 45 fun K' J ρ q45 => ?_; go_simp; (try go_bits)
 refine Ln Ea J fun _ Eb => ?_; clear J K' Ea q45
 refine N1 Eb 43 46 fun K' J ρ q46 => ?_; go_simp; (try go_bits); (try clear q46)
 go_at_call 48; refine (D7.out _).mono ?_; rintro e w10 ⟨rfl, h10⟩; have hbw10 := hbw9.trans (h10.mono hbw9.size); replace hCB := hCB.below h10; clear nB cB0 cB1 cB2 cB3 cB4 cB5 cB6 cB7 cB8; have nB := hCB.1; have cB0 := hCB.2 0 _ rfl; have cB1 := hCB.2 1 _ rfl; have cB2 := hCB.2 2 _ rfl; have cB3 := hCB.2 3 _ rfl; have cB4 := hCB.2 4 _ rfl; have cB5 := hCB.2 5 _ rfl; have cB6 := hCB.2 6 _ rfl; have cB7 := hCB.2 7 _ rfl; have cB8 := hCB.2 8 _ rfl; replace hCX := hCX.below h10; clear nX cX0 cX1 cX2 cX3 cX4; obtain ⟨nX, cX0, cX1, cX2, cX3, cX4⟩ := hCX.c5; replace hM := hM.below h10
 (try clear r46)
 refine Ln Eb J fun _ Ea => ?_; clear J K' Eb
 refine M2 Ea 43 47 fun K' J ρ q43 q47 => ?_; go_simp; (try go_bits)
 refine Ln Ea J fun _ Eb => ?_; clear J K' Ea q43 q47
 refine M1 Eb 48 fun K' J ρ q48 => ?_; go_simp
 refine Ln Eb J fun _ Ea => ?_; clear J K' Eb q48
 refine N1 Ea 49 1 fun K' J ρ q1 => ?_; go_simp
 refine Ln Ea J fun _ Eb => ?_; clear J K' Ea q1
 refine N1 Eb 49 50 fun K' J ρ q50 => ?_; go_simp
 refine Ln Eb J fun _ Ea => ?_; clear J K' Eb q50
 refine N1 Ea 49 51 fun K' J ρ q51 => ?_; go_simp; (try go_bits)
 refine Ln Ea J fun _ Eb => ?_; clear J K' Ea q51
 refine N1 Eb 49 52 fun K' J ρ q52 => ?_; go_simp; (try go_bits)
 refine Ln Eb J fun _ Ea => ?_; clear J K' Eb q52
 replace Ea := Ea.turn 53 (v' := .bool true) rfl (by (first | (simp; done) | (simp; omega)))
 refine M2 Ea 49 53 fun K' J ρ q49 q53 => ?_; go_simp; (try go_bits)
 refine Ln Ea J fun _ Eb => ?_; clear J K' Ea q49 q53
 refine M1 Eb 54 fun K' J ρ q54 => ?_; go_simp
 refine Ln Eb J fun _ Ea => ?_; clear J K' Eb q54
 refine Ld [1, 4] Ea hK fun a hE => ?_; clear hK K Q' Ea
 refine Ks ?_
 refine Rs 1 fun Q' K hK => ?_
 refine M0 fun K' J ρ => ?_; go_simp;
 refine Ln hE J fun _ Eb => ?_; clear J K' hE a
 refine Ld [1, 4, 5] Eb hK fun a hE => ?_; clear hK K Q' Eb
 refine Ks ?_
 have hM3 := hM
 have hCB3 := hCB
 clear nB cB0 cB1 cB2 cB3 cB4 cB5 cB6 cB7 cB8 hCB hM nX cX0 cX1 cX2 cX3 cX4 hCX C1 D1 D2 D3 D4 D5 D6 D7
 refine loop_st (fun (k : Nat) a w' => k ≤ b.hours.length ∧ Fits 114 [(1, .pointer (some ⟨B, 0, none⟩)), (4, .bool true), (5, .int .i64 k)] a ∧ Below w10.heap.size w10 w') (fun k => b.hours.length - k) 0 ⟨Nat.zero_le _, by simpa using hE, Below.refl _ _⟩ (fun k a wr hI => ?_)
 clear hE
 obtain ⟨hk, hE, hW⟩ := hI
 have hbr := hbw10.trans (hW.mono hbw10.size)
 have hM := hM3.below hW
 have hCB := hCB3.below hW
 have nB := hCB.1; have cB0 := hCB.2 0 _ rfl; have cB1 := hCB.2 1 _ rfl; have cB2 := hCB.2 2 _ rfl; have cB3 := hCB.2 3 _ rfl; have cB4 := hCB.2 4 _ rfl; have cB5 := hCB.2 5 _ rfl; have cB6 := hCB.2 6 _ rfl; have cB7 := hCB.2 7 _ rfl; have cB8 := hCB.2 8 _ rfl
 by_cases hlt : k < b.hours.length
 ·have hltI : (k : Int) < b.hours.length := by omega
  obtain ⟨bx, ox, hHe, hbx, x0, x1, x2, x3, x4, x5⟩ := hM.1.hr hlt
  have HO := D8.out k hlt
  generalize b.hours[k] = X at x0 x1 x2 x3 x4 x5 HO
  obtain ⟨n1, n2, w1', w2', s1, s2⟩ := X
  simp only at HO x0 x1 x2 x3 x4 x5
  have E1 := hid fun (W : World) => spa_yes HO.1.1 W
  have E2 := hid fun (W : World) => spa_yes HO.2.1.1 W
  have E3 := hid fun (W : World) => spa_yes HO.2.2.1 W
  clear HO
  subst hHe
  refine Ks ?_
  refine Rs 8 fun Q' K hK => ?_
  refine M1 hE 4 fun K' J ρ q4 => ?_; go_simp
  refine Ln hE J fun _ Eb => ?_; clear J K' hE a q4
  refine M1 Eb 55 fun K' J ρ q55 => ?_; go_simp
  refine Ln Eb J fun _ Ea => ?_; clear J K' Eb q55
  refine N1 Ea 56 5 fun K' J ρ q5 => ?_; go_simp
  refine Ln Ea J fun _ Eb => ?_; clear J K' Ea q5
  refine N1 Eb 56 1 fun K' J ρ q1 => ?_; go_simp
  refine Ln Eb J fun _ Ea => ?_; clear J K' Eb q1
  refine N1 Ea 56 58 fun K' J ρ q58 => ?_; go_simp
  refine Ln Ea J fun _ Eb => ?_; clear J K' Ea q58
  refine N1 Eb 56 59 fun K' J ρ q59 => ?_; go_simp; (try go_bits)
  refine Ln Eb J fun _ Ea => ?_; clear J K' Eb q59
  refine N2 Ea 56 57 60 fun K' J ρ q57 q60 => ?_; go_simp; (try go_bits)
  refine Ln Ea J fun _ Eb => ?_; clear J K' Ea q57 q60
  replace Eb := Eb.turn 61 (v' := .bool true) rfl (by (first | (simp; done) | (simp; omega)))
  refine M2 Eb 56 61 fun K' J ρ q56 q61 => ?_; go_simp; (try go_bits)
  refine Ln Eb J fun _ Ea => ?_; clear J K' Eb q56 q61
  replace Ea := Ea.turn 62 (v' := .bool true) rfl (by (first | rfl | simp))
  refine Ld [1, 4, 5, 62] Ea hK fun a hE => ?_; clear hK K Q' Ea
  refine Ks ?_
  refine cond_yes hE (t := 62) rfl ?_
  refine Ks ?_
  refine Rs 7 fun Q' K hK => ?_
  refine M1 hE 1 fun K' J ρ q1 => ?_; go_simp
  refine Ln hE J fun _ Eb => ?_; clear J K' hE a q1
  refine M1 Eb 65 fun K' J ρ q65 => ?_; go_simp
  refine Ln Eb J fun _ Ea => ?_; clear J K' Eb q65
  refine M1 Ea 5 fun K' J ρ q5 => ?_; go_simp
  refine Ln Ea J fun _ Eb => ?_; clear J K' Ea q5
  refine M2 Eb 66 67 fun K' J ρ q66 q67 => ?_; go_simp; (try go_bits)
  refine Ln Eb J fun _ Ea => ?_; clear J K' Eb q66 q67
  refine M1 Ea 68 fun K' J ρ q68 => ?_; go_simp
  refine Ln Ea J fun _ Eb => ?_; clear J K' Ea q68
  refine M0 fun K' J ρ => ?_; go_simp;
  refine Ln Eb J fun _ Ea => ?_; clear J K' Eb
  refine Lp fun K' J => ?_
  have r6 := Ea.at 6 rfl; have r69 := Ea.at 69 rfl
  refine wp_store_mid 62 (.tmp 6) (.tmp 69) rfl wr.heap.size 0 #[.int .i64 n1, .int .i64 n2, .int .i64 w1', .int .i64 w2', .int .i64 s1, .int .i64 s2] (eval_of r6) (eval_of r69) (there_row (row_new wr _ _) (Nat.le_of_eq rfl)) (by kernel_rfl) (by kernel_rfl) ?_
  (try clear r6 r69)
  refine late_skip Ea J (fun _ Eb => ?_); clear J K'; clear Ea
  refine Ld [1, 5, 6] Eb hK fun a hE => ?_; clear hK K Q' Eb
  obtain ⟨C, hC⟩ : ∃ B, B = wr.heap.size := ⟨_, rfl⟩
  rw [← hC] at hE
  refine world_cut (fun wt => Below wr.heap.size wr wt ∧ Cells wt C [.int .i64 n1, .int .i64 n2, .int .i64 w1', .int .i64 w2', .int .i64 s1, .int .i64 s2]) (by rw [hC]; exact boxed_new wr #[.int .i64 0, .int .i64 0, .int .i64 0, .int .i64 0, .int .i64 0, .int .i64 0] 62 [.int .i64 n1, .int .i64 n2, .int .i64 w1', .int .i64 w2', .int .i64 s1, .int .i64 s2] rfl) (fun wq hCut => ?_)
  obtain ⟨kq, hCC⟩ := hCut
  clear hC
  have hbwq := hbr.trans (kq.mono hbr.size)
  replace hCB := hCB.below kq
  clear nB cB0 cB1 cB2 cB3 cB4 cB5 cB6 cB7 cB8
  have nB := hCB.1; have cB0 := hCB.2 0 _ rfl; have cB1 := hCB.2 1 _ rfl; have cB2 := hCB.2 2 _ rfl; have cB3 := hCB.2 3 _ rfl; have cB4 := hCB.2 4 _ rfl; have cB5 := hCB.2 5 _ rfl; have cB6 := hCB.2 6 _ rfl; have cB7 := hCB.2 7 _ rfl; have cB8 := hCB.2 8 _ rfl
  obtain ⟨nC, cC0, cC1, cC2, cC3, cC4, cC5⟩ := hCC.c6
  refine Ks ?_
  refine Rs 14 fun Q' K hK => ?_
  refine M1 hE 6 fun K' J ρ q6 => ?_; go_simp
  refine Ln hE J fun _ Eb => ?_; clear J K' hE a q6
  refine M1 Eb 70 fun K' J ρ q70 => ?_; go_simp
  refine Ln Eb J fun _ Ea => ?_; clear J K' Eb q70
  refine M1 Ea 71 fun K' J ρ q71 => ?_; go_simp; (try go_bits); (try clear q71)
  go_at_call 44; refine (E1.out _).mono ?_; rintro e u1 ⟨rfl, k1⟩; have hbu1 := hbwq.trans (k1.mono hbwq.size); replace hCB := hCB.below k1; clear nB cB0 cB1 cB2 cB3 cB4 cB5 cB6 cB7 cB8; have nB := hCB.1; have cB0 := hCB.2 0 _ rfl; have cB1 := hCB.2 1 _ rfl; have cB2 := hCB.2 2 _ rfl; have cB3 := hCB.2 3 _ rfl; have cB4 := hCB.2 4 _ rfl; have cB5 := hCB.2 5 _ rfl; have cB6 := hCB.2 6 _ rfl; have cB7 := hCB.2 7 _ rfl; have cB8 := hCB.2 8 _ rfl; replace hCC := hCC.below k1; clear nC cC0 cC1 cC2 cC3 cC4 cC5; obtain ⟨nC, cC0, cC1, cC2, cC3, cC4, cC5⟩ := hCC.c6
  (try clear r71)
  refine Ln Ea J fun _ Eb => ?_; clear J K' Ea
  refine M1 Eb 72 fun K' J ρ q72 => ?_; go_simp
  refine Ln Eb J fun _ Ea => ?_; clear J K' Eb q72
  refine N1 Ea 73 6 fun K' J ρ q6 => ?_; go_simp
  refine Ln Ea J fun _ Eb => ?_; clear J K' Ea q6
  refine N1 Eb 73 74 fun K' J ρ q74 => ?_; go_simp
  refine Ln Eb J fun _ Ea => ?_; clear J K' Eb q74
  refine N1 Ea 73 75 fun K' J ρ q75 => ?_; go_simp; (try go_bits); (try clear q75)
  go_at_call 44; refine (E2.out _).mono ?_; rintro e u2 ⟨rfl, k2⟩; have hbu2 := hbu1.trans (k2.mono hbu1.size); replace hCB := hCB.below k2; clear nB cB0 cB1 cB2 cB3 cB4 cB5 cB6 cB7 cB8; have nB := hCB.1; have cB0 := hCB.2 0 _ rfl; have cB1 := hCB.2 1 _ rfl; have cB2 := hCB.2 2 _ rfl; have cB3 := hCB.2 3 _ rfl; have cB4 := hCB.2 4 _ rfl; have cB5 := hCB.2 5 _ rfl; have cB6 := hCB.2 6 _ rfl; have cB7 := hCB.2 7 _ rfl; have cB8 := hCB.2 8 _ rfl; replace hCC := hCC.below k2; clear nC cC0 cC1 cC2 cC3 cC4 cC5; obtain ⟨nC, cC0, cC1, cC2, cC3, cC4, cC5⟩ := hCC.c6
  (try clear r75)
  refine Ln Ea J fun _ Eb => ?_; clear J K' Ea
  refine M2 Eb 73 76 fun K' J ρ q73 q76 => ?_; go_simp; (try go_bits)
  refine Ln Eb J fun _ Ea => ?_; clear J K' Eb q73 q76
  refine M1 Ea 77 fun K' J ρ q77 => ?_; go_simp
  refine Ln Ea J fun _ Eb => ?_; clear J K' Ea q77
  refine N1 Eb 78 6 fun K' J ρ q6 => ?_; go_simp
  refine Ln Eb J fun _ Ea => ?_; clear J K' Eb q6
  refine N1 Ea 78 79 fun K' J ρ q79 => ?_; go_simp
  refine Ln Ea J fun _ Eb => ?_; clear J K' Ea q79
  refine N1 Eb 78 80 fun K' J ρ q80 => ?_; go_simp; (try go_bits); (try clear q80)
  go_at_call 44; refine (E3.out _).mono ?_; rintro e u3 ⟨rfl, k3⟩; have hbu3 := hbu2.trans (k3.mono hbu2.size); replace hCB := hCB.below k3; clear nB cB0 cB1 cB2 cB3 cB4 cB5 cB6 cB7 cB8; have nB := hCB.1; have cB0 := hCB.2 0 _ rfl; have cB1 := hCB.2 1 _ rfl; have cB2 := hCB.2 2 _ rfl; have cB3 := hCB.2 3 _ rfl; have cB4 := hCB.2 4 _ rfl; have cB5 := hCB.2 5 _ rfl; have cB6 := hCB.2 6 _ rfl; have cB7 := hCB.2 7 _ rfl; have cB8 := hCB.2 8 _ rfl; replace hCC := hCC.below k3; clear nC cC0 cC1 cC2 cC3 cC4 cC5; obtain ⟨nC, cC0, cC1, cC2, cC3, cC4, cC5⟩ := hCC.c6
  (try clear r80)
  refine Ln Eb J fun _ Ea => ?_; clear J K' Eb
  refine M2 Ea 78 81 fun K' J ρ q78 q81 => ?_; go_simp; (try go_bits)
  refine Ln Ea J fun _ Eb => ?_; clear J K' Ea q78 q81
  refine M1 Eb 82 fun K' J ρ q82 => ?_; go_simp
  refine Ln Eb J fun _ Ea => ?_; clear J K' Eb q82
  refine Ld [1, 4, 5] Ea hK fun a hE => ?_; clear hK K Q' Ea
  refine Ks ?_
  refine Rs 3 fun Q' K hK => ?_
  refine M1 hE 5 fun K' J ρ q5 => ?_; go_simp
  refine Ln hE J fun _ Eb => ?_; clear J K' hE a q5
  refine M1 Eb 63 fun K' J ρ q63 => ?_; go_simp; (try go_bits); (try simp (disch := omega) only [IntWalk.i64_in])
  refine Ln Eb J fun _ Ea => ?_; clear J K' Eb q63
  refine M1 Ea 64 fun K' J ρ q64 => ?_; go_simp
  refine Ln Ea J fun _ Eb => ?_; clear J K' Ea q64
  refine Ld [1, 4, 5] Eb hK fun a hE => ?_; clear hK K Q' Eb
  refine Ks ?_
  have hWq := hW.trans (kq.mono hW.size)
  have hW1 := hWq.trans (k1.mono hWq.size)
  have hW2 := hW1.trans (k2.mono hW1.size)
  have hW3 := hW2.trans (k3.mono hW2.size)
  exact ⟨k + 1, ⟨hlt, by simpa using hE, hW3⟩, by omega⟩
 ·have hke : k = b.hours.length := by omega
  subst hke
  refine Ks ?_
  refine Rs 8 fun Q' K hK => ?_
  refine M1 hE 4 fun K' J ρ q4 => ?_; go_simp
  refine Ln hE J fun _ Eb => ?_; clear J K' hE a q4
  refine M1 Eb 55 fun K' J ρ q55 => ?_; go_simp
  refine Ln Eb J fun _ Ea => ?_; clear J K' Eb q55
  refine N1 Ea 56 5 fun K' J ρ q5 => ?_; go_simp
  refine Ln Ea J fun _ Eb => ?_; clear J K' Ea q5
  refine N1 Eb 56 1 fun K' J ρ q1 => ?_; go_simp
  refine Ln Eb J fun _ Ea => ?_; clear J K' Eb q1
  refine N1 Ea 56 58 fun K' J ρ q58 => ?_; go_simp
  refine Ln Ea J fun _ Eb => ?_; clear J K' Ea q58
  refine N1 Eb 56 59 fun K' J ρ q59 => ?_; go_simp; (try go_bits)
  refine Ln Eb J fun _ Ea => ?_; clear J K' Eb q59
  refine N2 Ea 56 57 60 fun K' J ρ q57 q60 => ?_; go_simp; (try go_bits)
  refine Ln Ea J fun _ Eb => ?_; clear J K' Ea q57 q60
  replace Eb := Eb.turn 61 (v' := .bool false) rfl (by simp)
  refine M2 Eb 56 61 fun K' J ρ q56 q61 => ?_; go_simp; (try go_bits)
  refine Ln Eb J fun _ Ea => ?_; clear J K' Eb q56 q61
  replace Ea := Ea.turn 62 (v' := .bool false) rfl (by (first | rfl | simp))
  refine Ld [1, 4, 5, 62] Ea hK fun a hE => ?_; clear hK K Q' Ea
  refine Ks ?_
  refine cond_no hE (t := 62) rfl ?_
  refine Ks ?_
  refine Rs 1 fun Q' K hK => ?_
  refine M0 fun K' J ρ => ?_; go_simp;
  refine Ln hE J fun _ Eb => ?_; clear J K' hE a
  refine Ld [1, 4, 7] Eb hK fun a hE => ?_; clear hK K Q' Eb
  refine Ks ?_
  clear nB cB0 cB1 cB2 cB3 cB4 cB5 cB6 cB7 cB8 hCB hM D8
  refine loop_st (fun (k : Nat) a w' => k ≤ b.sights.length ∧ Fits 114 [(1, .pointer (some ⟨B, 0, none⟩)), (4, .bool true), (7, .int .i64 k)] a ∧ Below w10.heap.size w10 w') (fun k => b.sights.length - k) 0 ⟨Nat.zero_le _, by simpa using hE, hW⟩ (fun k a ws hI => ?_)
  clear hE hW hbr hk hlt
  obtain ⟨hk, hE, hW⟩ := hI
  have hbr := hbw10.trans (hW.mono hbw10.size)
  have hM := hM3.below hW
  have hCB := hCB3.below hW
  have nB := hCB.1; have cB0 := hCB.2 0 _ rfl; have cB1 := hCB.2 1 _ rfl; have cB2 := hCB.2 2 _ rfl; have cB3 := hCB.2 3 _ rfl; have cB4 := hCB.2 4 _ rfl; have cB5 := hCB.2 5 _ rfl; have cB6 := hCB.2 6 _ rfl; have cB7 := hCB.2 7 _ rfl; have cB8 := hCB.2 8 _ rfl
  by_cases hlt : k < b.sights.length
  ·have hltI : (k : Int) < b.sights.length := by omega
   obtain ⟨bx, ox, hSe, hbx, x0, x1, x2, x3⟩ := hM.2.si hlt
   have HO := D9.out k hlt
   generalize b.sights[k] = X at x0 x1 x2 x3 HO
   obtain ⟨xh, xf, xl, xi⟩ := X
   simp only at HO x0 x1 x2 x3
   have E1 := hid fun (W : World) => btw_yes HO.1 W
   have E2 := hid fun (W : World) => spa_yes HO.2 W
   clear HO
   subst hSe
   refine Ks ?_
   refine Rs 8 fun Q' K hK => ?_
   refine M1 hE 4 fun K' J ρ q4 => ?_; go_simp
   refine Ln hE J fun _ Eb => ?_; clear J K' hE a q4
   refine M1 Eb 83 fun K' J ρ q83 => ?_; go_simp
   refine Ln Eb J fun _ Ea => ?_; clear J K' Eb q83
   refine N1 Ea 84 7 fun K' J ρ q7 => ?_; go_simp
   refine Ln Ea J fun _ Eb => ?_; clear J K' Ea q7
   refine N1 Eb 84 1 fun K' J ρ q1 => ?_; go_simp
   refine Ln Eb J fun _ Ea => ?_; clear J K' Eb q1
   refine N1 Ea 84 86 fun K' J ρ q86 => ?_; go_simp
   refine Ln Ea J fun _ Eb => ?_; clear J K' Ea q86
   refine N1 Eb 84 87 fun K' J ρ q87 => ?_; go_simp; (try go_bits)
   refine Ln Eb J fun _ Ea => ?_; clear J K' Eb q87
   refine N2 Ea 84 85 88 fun K' J ρ q85 q88 => ?_; go_simp; (try go_bits)
   refine Ln Ea J fun _ Eb => ?_; clear J K' Ea q85 q88
   replace Eb := Eb.turn 89 (v' := .bool true) rfl (by (first | (simp; done) | (simp; omega)))
   refine M2 Eb 84 89 fun K' J ρ q84 q89 => ?_; go_simp; (try go_bits)
   refine Ln Eb J fun _ Ea => ?_; clear J K' Eb q84 q89
   replace Ea := Ea.turn 90 (v' := .bool true) rfl (by (first | rfl | simp))
   refine Ld [1, 4, 7, 90] Ea hK fun a hE => ?_; clear hK K Q' Ea
   refine Ks ?_
   refine cond_yes hE (t := 90) rfl ?_
   refine Ks ?_
   refine Rd [20] (fun wt => Below ws.heap.size ws wt) (fun w1 w2 => Below w1.heap.size w1 w2) [(0, some 93), (1, some 94), (2, some 95), (3, some 96), (4, some 97), (5, some 98), (6, some 99), (7, some 100), (8, some 101), (9, some 102), (10, some 103), (11, some 104), (12, some 105), (13, some 106), (14, some 107), (15, some 108), (16, some 109), (17, some 110), (18, some 111), (19, some 112)] [93, 94, 95, 96, 97, 98, 99, 100, 101, 102, 103, 104, 105, 106, 107, 108, 109, 110, 111, 112] #[true, true, true, true, true, true, true, true, true, true, true, true, true, true, true, true, true, true, true, true, false] [1, 4, 7] hE ((Below.refl _ _).drew) fun Q' K hK => ?_
   refine SeqOps.val ?_ (Sp fun ax wx hS hT' hd K' J => ?_) ?_; rotate_left 1
   ·have r1 := hS.at 1 (by decide) (hE.at 1 rfl); obtain ⟨_, _, _, _, _, _⟩ := bT hT'
    refine o1 r1 fun ρ q1 => ?_; go_simp;
    exact Jo J hT'
   refine SeqOps.val ?_ (Sp fun ax wx hS hT' hd K' J => ?_) ?_; rotate_left 1
   ·have r93 := Tv hd 0 0 93; obtain ⟨_, _, _, _, _, _⟩ := bT hT'
    refine o1 r93 fun ρ q93 => ?_; go_simp;
    exact Jo J hT'
   refine SeqOps.val ?_ (Sp fun ax wx hS hT' hd K' J => ?_) ?_; rotate_left 1
   ·have r7 := hS.at 7 (by decide) (hE.at 7 rfl); obtain ⟨_, _, _, _, _, _⟩ := bT hT'
    refine o1 r7 fun ρ q7 => ?_; go_simp;
    exact Jo J hT'
   refine SeqOps.val ?_ (Sp fun ax wx hS hT' hd K' J => ?_) ?_; rotate_left 1
   ·have r94 := Tv hd 1 1 94; have r95 := Tv hd 0 2 95; obtain ⟨_, _, _, _, _, _⟩ := bT hT'
    refine o2 r94 r95 fun ρ q94 q95 => ?_; go_simp; (try go_bits);
    exact Jo J hT'
   refine SeqOps.val ?_ (Sp fun ax wx hS hT' hd K' J => ?_) ?_; rotate_left 1
   ·have r96 := Tv hd 0 3 96; obtain ⟨_, _, _, _, _, _⟩ := bT hT'
    refine o1 r96 fun ρ q96 => ?_; go_simp;
    exact Jo J hT'
   refine SeqOps.val ?_ (Sp fun ax wx hS hT' hd K' J => ?_) ?_; rotate_left 1
   ·have r97 := Tv hd 0 4 97; obtain ⟨_, _, _, _, _, _⟩ := bT hT'
    refine o1 r97 fun ρ q97 => ?_; go_simp;
    exact Jo J hT'
   refine SeqOps.val ?_ (Sp fun ax wx hS hT' hd K' J => ?_) ?_; rotate_left 1
   ·have r1 := hS.at 1 (by decide) (hE.at 1 rfl); obtain ⟨_, _, _, _, _, _⟩ := bT hT'
    refine o1 r1 fun ρ q1 => ?_; go_simp;
    exact Jo J hT'
   refine SeqOps.val ?_ (Sp fun ax wx hS hT' hd K' J => ?_) ?_; rotate_left 1
   ·have r99 := Tv hd 0 6 99; obtain ⟨_, _, _, _, _, _⟩ := bT hT'
    refine o1 r99 fun ρ q99 => ?_; go_simp;
    exact Jo J hT'
   refine SeqOps.val ?_ (Sp fun ax wx hS hT' hd K' J => ?_) ?_; rotate_left 1
   ·have r100 := Tv hd 0 7 100; obtain ⟨_, _, _, _, _, _⟩ := bT hT'
    refine o1 r100 fun ρ q100 => ?_; go_simp; (try go_bits);
    exact Jo J hT'
   refine SeqOps.val ?_ (Sp fun ax wx hS hT' hd K' J => ?_) ?_; rotate_left 1
   ·have r101 := Tv hd 0 8 101; obtain ⟨_, _, _, _, _, _⟩ := bT hT'
    refine o1 r101 fun ρ q101 => ?_; go_simp; (try go_bits); (try simp (disch := omega) only [IntWalk.i64_in]);
    exact Jo J hT'
   refine SeqOps.val ?_ (Sp fun ax wx hS hT' hd K' J => ?_) ?_; rotate_left 1
   ·have r98 := Tv hd 4 5 98; have r102 := Tv hd 0 9 102; obtain ⟨_, _, _, _, _, _⟩ := bT hT'
    refine o2 r98 r102 fun ρ q98 q102 => ?_; go_simp; (try go_bits);
    go_at_call 48; refine (E1.out _).mono ?_; rintro e g1 ⟨rfl, k1⟩
    refine J.out _ _ _ rfl ?_ (hT'.trans (k1.mono hT'.size)) k1; rfl
   refine SeqOps.val ?_ (Sp fun ax wx hS hT' hd K' J => ?_) ?_; rotate_left 1
   ·have r103 := Tv hd 0 10 103; obtain ⟨_, _, _, _, _, _⟩ := bT hT'
    refine o1 r103 fun ρ q103 => ?_; go_simp;
    exact Jo J hT'
   refine SeqOps.val ?_ (Sy 0 104 fun ax wx hS hT' hd K' J => ?_) ?_; rotate_left 1
   ·have r1 := hS.at 1 (by decide) (hE.at 1 rfl); obtain ⟨_, _, _, _, _, _⟩ := bT hT'
    refine o1 r1 fun ρ q1 => ?_; go_simp;
    exact Jo J hT'
   refine SeqOps.val ?_ (Sy 1 104 fun ax wx hS hT' hd K' J => ?_) ?_; rotate_left 1
   ·have r105 := Tv hd 0 12 105; obtain ⟨_, _, _, _, _, _⟩ := bT hT'
    refine o1 r105 fun ρ q105 => ?_; go_simp;
    exact Jo J hT'
   refine SeqOps.val ?_ (Sy 2 104 fun ax wx hS hT' hd K' J => ?_) ?_; rotate_left 1
   ·have r7 := hS.at 7 (by decide) (hE.at 7 rfl); obtain ⟨_, _, _, _, _, _⟩ := bT hT'
    refine o1 r7 fun ρ q7 => ?_; go_simp;
    exact Jo J hT'
   refine SeqOps.val ?_ (Sy 3 104 fun ax wx hS hT' hd K' J => ?_) ?_; rotate_left 1
   ·have r106 := Tv hd 1 13 106; have r107 := Tv hd 0 14 107; obtain ⟨_, _, _, _, _, _⟩ := bT hT'
    refine o2 r106 r107 fun ρ q106 q107 => ?_; go_simp; (try go_bits);
    exact Jo J hT'
   refine SeqOps.val ?_ (Sy 4 104 fun ax wx hS hT' hd K' J => ?_) ?_; rotate_left 1
   ·have r108 := Tv hd 0 15 108; obtain ⟨_, _, _, _, _, _⟩ := bT hT'
    refine o1 r108 fun ρ q108 => ?_; go_simp;
    exact Jo J hT'
   refine SeqOps.val ?_ (Sy 5 104 fun ax wx hS hT' hd K' J => ?_) ?_; rotate_left 1
   ·have r109 := Tv hd 0 16 109; obtain ⟨_, _, _, _, _, _⟩ := bT hT'
    refine o1 r109 fun ρ q109 => ?_; go_simp;
    exact Jo J hT'
   refine SeqOps.val ?_ (Sy 6 104 fun ax wx hS hT' hd K' J => ?_) ?_; rotate_left 1
   ·have r110 := Tv hd 0 17 110; obtain ⟨_, _, _, _, _, _⟩ := bT hT'
    refine o1 r110 fun ρ q110 => ?_; go_simp; (try go_bits);
    go_at_call 44; refine (E2.out _).mono ?_; rintro e g1 ⟨rfl, k1⟩
    refine J.out _ _ _ rfl ?_ (hT'.trans (k1.mono hT'.size)) k1; rfl
   refine SeqOps.val ?_ (Sp fun ax wx hS hT' hd K' J => ?_) ?_; rotate_left 1
   ·have r104 := Tv hd 7 11 104; have r111 := Tv hd 0 18 111; obtain ⟨_, _, _, _, _, _⟩ := bT hT'
    refine o2 r104 r111 fun ρ q104 q111 => ?_; go_simp; (try go_bits);
    exact Jo J hT'
   refine SeqOps.nil ?_
   intro wz hBm; (repeat refine Ek ?_)
   refine fun amx hEmx => ?_
   simp only [lk, pick, Nat.reduceEqDiff, ↓reduceIte] at hEmx
   refine M1 hEmx 112 fun K' J ρ q112 => ?_; go_simp; (try clear q112)
   refine Ln hEmx J fun am_1 hEm_1 => ?_; clear J K' hEmx
   refine Ld [1, 4, 7] hEm_1 hK fun a hE => ?_; clear hK K Q' hEm_1
   have hbwz := hbr.trans (hBm.mono hbr.size)
   replace hCB := hCB.below hBm
   clear nB cB0 cB1 cB2 cB3 cB4 cB5 cB6 cB7 cB8
   have nB := hCB.1; have cB0 := hCB.2 0 _ rfl; have cB1 := hCB.2 1 _ rfl; have cB2 := hCB.2 2 _ rfl; have cB3 := hCB.2 3 _ rfl; have cB4 := hCB.2 4 _ rfl; have cB5 := hCB.2 5 _ rfl; have cB6 := hCB.2 6 _ rfl; have cB7 := hCB.2 7 _ rfl; have cB8 := hCB.2 8 _ rfl
   refine Ks ?_
   refine Rs 3 fun Q' K hK => ?_
   refine M1 hE 7 fun K' J ρ q7 => ?_; go_simp
   refine Ln hE J fun _ Eb => ?_; clear J K' hE a q7
   refine M1 Eb 91 fun K' J ρ q91 => ?_; go_simp; (try go_bits); (try simp (disch := omega) only [IntWalk.i64_in])
   refine Ln Eb J fun _ Ea => ?_; clear J K' Eb q91
   refine M1 Ea 92 fun K' J ρ q92 => ?_; go_simp
   refine Ln Ea J fun _ Eb => ?_; clear J K' Ea q92
   refine Ld [1, 4, 7] Eb hK fun a hE => ?_; clear hK K Q' Eb
   refine Ks ?_
   exact ⟨k + 1, ⟨hlt, by simpa using hE, hW.trans (hBm.mono hW.size)⟩, by omega⟩
  ·have hke : k = b.sights.length := by omega
   subst hke
   refine Ks ?_
   refine Rs 8 fun Q' K hK => ?_
   refine M1 hE 4 fun K' J ρ q4 => ?_; go_simp
   refine Ln hE J fun _ Eb => ?_; clear J K' hE a q4
   refine M1 Eb 83 fun K' J ρ q83 => ?_; go_simp
   refine Ln Eb J fun _ Ea => ?_; clear J K' Eb q83
   refine N1 Ea 84 7 fun K' J ρ q7 => ?_; go_simp
   refine Ln Ea J fun _ Eb => ?_; clear J K' Ea q7
   refine N1 Eb 84 1 fun K' J ρ q1 => ?_; go_simp
   refine Ln Eb J fun _ Ea => ?_; clear J K' Eb q1
   refine N1 Ea 84 86 fun K' J ρ q86 => ?_; go_simp
   refine Ln Ea J fun _ Eb => ?_; clear J K' Ea q86
   refine N1 Eb 84 87 fun K' J ρ q87 => ?_; go_simp; (try go_bits)
   refine Ln Eb J fun _ Ea => ?_; clear J K' Eb q87
   refine N2 Ea 84 85 88 fun K' J ρ q85 q88 => ?_; go_simp; (try go_bits)
   refine Ln Ea J fun _ Eb => ?_; clear J K' Ea q85 q88
   replace Eb := Eb.turn 89 (v' := .bool false) rfl (by simp)
   refine M2 Eb 84 89 fun K' J ρ q84 q89 => ?_; go_simp; (try go_bits)
   refine Ln Eb J fun _ Ea => ?_; clear J K' Eb q84 q89
   replace Ea := Ea.turn 90 (v' := .bool false) rfl (by (first | rfl | simp))
   refine Ld [1, 4, 7, 90] Ea hK fun a hE => ?_; clear hK K Q' Ea
   refine Ks ?_
   refine cond_no hE (t := 90) rfl ?_
   refine Ks ?_
   refine Rs 2 fun Q' K hK => ?_
   refine M1 hE 4 fun K' J ρ q4 => ?_; go_simp
   refine Ln hE J fun _ Eb => ?_; clear J K' hE a q4
   refine M1 Eb 113 fun K' J ρ q113 => ?_; go_simp
   refine Ln Eb J fun _ Ea => ?_; clear J K' Eb q113
   refine Ld [2] Ea hK fun a hE => ?_; clear hK K Q' Ea
   refine Ks ?_
   exact ret_one hE rfl rfl ⟨rfl, hbr⟩
theorem sound_any (w : World) (hM : SbAt w H S b) (hh : b.hours.length ≤ 9223372036854775807) (hss : b.sights.length ≤ 9223372036854775807) : Calls Tryd.prog 34 #[.agg (sbV H hcap S scap b).toArray] w fun e w' => e = .returned (.bool b.ok) ∧ Below w.heap.size w w' := by
 cases ho : b.ok
 ·exact sound_no H hcap S scap b ho w hM hh hss
 ·exact sound_yes H hcap S scap b (ok_iff.1 ho) w hM
end
end Go.Proofs.YtkhmcofmjjmjhaaDoor
