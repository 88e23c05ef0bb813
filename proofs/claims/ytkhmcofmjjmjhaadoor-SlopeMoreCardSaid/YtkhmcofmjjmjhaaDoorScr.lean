/- Slope: the law SlopeMore walked. -/
import Derived.Test.YtkhmcofmjjmjhaaDoorScq
namespace Go.Proofs.YtkhmcofmjjmjhaaDoor
set_option linter.unusedSimpArgs false
set_option linter.unusedVariables false
open Go Go.RowKit
attribute [local go_sem high] cell_set_wr
attribute [local go_sem low] cell_wr frozen_wr
attribute [local go_sem] wr_set wr_drew wr_drewN wr_alloc wr_new Rho.c Rho.n Rho.g

theorem BkS.turned {N N' : Nat} {H : Option Addr} {hcap : Nat} {c : Sb} {vs : List Value} {P' : List Value → World → Prop} {w w' : World} (h : BkS N H hcap c vs w) (hR : TurnT 29 9 N' P' w w') : BkS N H hcap c vs w' := (BkS.stay N H hcap c 9).turned h hR
section
variable (H : Option Addr) (hcap : Nat) (S : Option Addr) (scap : Nat) (b : Sb)
set_option maxRecDepth 100000 in
set_option maxHeartbeats 4000000 in
theorem more_bad (ho : b.ok = false) (x : Si) (n : Int) (w : World) (hTw : TabW w) (hM : SbAt w H S b) (hh : b.hours.length ≤ 9223372036854775807) (hss : b.sights.length ≤ 9223372036854775807) : Calls Tryd.prog 10 #[.agg (sbV H hcap S scap b).toArray, .agg x.cells.toArray, .int .i64 n] w fun e w' => e = .returned (.bool true) ∧ Below w.heap.size w w' := by
 have C2 : Hid (∀ W, SbAt W H S b → Calls Tryd.prog 34 #[.agg (sbV H hcap S scap b).toArray] W fun e w' => e = .returned (.bool false) ∧ Below W.heap.size W w') := hid fun W hW => by
  have h := sound_any H hcap S scap b W hW hh hss
  rw [ho] at h
  exact h
 clear ho hh hss
 refine enterE Tryd.func10 rfl Tryd.ntmps10 (by simp) (fun a hE => ?_); simp only [envOf, Nat.zero_add, Nat.reduceAdd] at hE
 refine Ks ?_
 refine Rs 3 fun Q' K hK => ?_
 refine M1 hE 0 fun K' J ρ q0 => ?_; go_simp; (try clear q0)
 refine Ln hE J fun _ Eb => ?_; clear J K' hE a
 refine M1 Eb 1 fun K' J ρ q1 => ?_; go_simp; (try clear q1)
 refine Ln Eb J fun _ Ea => ?_; clear J K' Eb
 refine M0 fun K' J ρ => ?_; go_simp;
 refine Ln Ea J fun _ Eb => ?_; clear J K' Ea
 refine late_done [2, 3, 4] Eb hK (fun a hE => ?_); clear hK K Q' Eb; simp only [lk, pick, Nat.reduceEqDiff, ↓reduceIte] at hE
 obtain ⟨B, hB⟩ : ∃ B, B = w.heap.size := ⟨_, rfl⟩
 obtain ⟨X, hX⟩ : ∃ B, B = w.heap.size + 1 := ⟨_, rfl⟩
 rw [← hX, ← hB] at hE
 refine world_cut (fun wt => Below w.heap.size w wt ∧ Cells wt B (sbV H hcap S scap b) ∧ Cells wt X x.cells) (by rw [hB, hX]; exact cells_two w _ _ _ _) (fun w1 hC => ?_)
 obtain ⟨hbw1, hCB, hCX⟩ := hC
 replace hM := hM.below hbw1
 replace hTw := hTw.below hbw1
 clear hB hX
 have nB := hCB.1; have cB7 := hCB.2 7 _ rfl; have cB8 := hCB.2 8 _ rfl
 refine Ks ?_
 refine Rs 9 fun Q' K hK => ?_
 refine Lp fun K' J => ?_
 have r3 := hE.at 3 rfl
 refine wp_load_mid 29 (.tmp 3) rfl B 0 (eval_of r3) (sbV H hcap S scap b) _ (fun j u hu => by rw [Nat.zero_add]; exact hCB.2 j u hu) Tryd.underlying29 rfl (by kernel_rfl) ?_
 (try clear r3)
 refine Ln hE J fun _ Eb => ?_; clear J K' hE a
 refine M1 Eb 26 fun K' J ρ q26 => ?_; go_simp; (try go_bits); (try clear q26)
 go_at_call 34; refine (C2.out _ hM).mono ?_; rintro e w2 ⟨rfl, h2⟩
 (try clear r26)
 refine Ln Eb J fun _ Ea => ?_; clear J K' Eb
 refine M1 Ea 27 fun K' J ρ q27 => ?_; go_simp; (try go_bits); (try simp (disch := omega) only [IntWalk.i64_in]); (try clear q27)
 refine Ln Ea J fun _ Eb => ?_; clear J K' Ea
 refine M1 Eb 28 fun K' J ρ q28 => ?_; go_simp; (try clear q28)
 refine Ln Eb J fun _ Ea => ?_; clear J K' Eb
 refine Lno Ea 29 ?_
 refine Lu Ea fun _ Eb => ?_
 refine Lno Eb 29 ?_
 refine Lu Eb fun _ Ea => ?_
 refine Lno Ea 29 ?_
 refine Lu Ea fun _ Eb => ?_
 refine Lno Eb 29 ?_
 refine Lu Eb fun _ Ea => ?_
 refine M2 Ea 29 33 fun K' J ρ q29 q33 => ?_; go_simp; (try go_bits); (try clear q29 q33)
 refine Ln Ea J fun _ Eb => ?_; clear J K' Ea
 replace Eb := Eb.turn 34 (v' := .bool true) rfl (by (first | rfl | simp))
 refine late_done [2, 3, 4, 34] Eb hK (fun a hE => ?_); clear hK K Q' Eb; simp only [lk, pick, Nat.reduceEqDiff, ↓reduceIte] at hE
 have hbw2 := hbw1.trans (h2.mono hbw1.size)
 replace hCB := hCB.below h2
 clear nB cB7 cB8
 have nB := hCB.1; have cB7 := hCB.2 7 _ rfl; have cB8 := hCB.2 8 _ rfl
 replace hM := hM.below h2
 replace hTw := hTw.below h2
 replace hCX := hCX.below h2
 refine Ks ?_
 refine cond_yes hE (t := 34) rfl ?_
 refine Ks ?_
 refine Rs 2 fun Q' K hK => ?_
 refine M0 fun K' J ρ => ?_; go_simp; (try go_bits);
 go_at_call 22; refine (snowed_any _ hTw).mono ?_; rintro e w9 ⟨rfl, k9⟩
 refine Ln hE J fun _ Eb => ?_; clear J K' hE a
 refine M1 Eb 35 fun K' J ρ q35 => ?_; go_simp; (try clear q35)
 refine Ln Eb J fun _ Ea => ?_; clear J K' Eb
 refine late_done [6] Ea hK (fun a hE => ?_); clear hK K Q' Ea; simp only [lk, pick, Nat.reduceEqDiff, ↓reduceIte] at hE
 refine Ks ?_
 exact ret_one hE rfl rfl ⟨rfl, hbw2.trans (k9.mono hbw2.size)⟩
set_option maxRecDepth 100000 in
set_option maxHeartbeats 4000000 in
theorem more_six (hb : OkB b) (h6 : b.sights.length = 6) (x : Si) (n : Int) (w : World) (hTw : TabW w) (hM : SbAt w H S b) : Calls Tryd.prog 10 #[.agg (sbV H hcap S scap b).toArray, .agg x.cells.toArray, .int .i64 n] w fun e w' => e = .returned (.bool true) ∧ Below w.heap.size w w' := by
 have C2 := hid fun (W : World) hW => soundC H hcap S scap b hb W hW
 have h6I : (b.sights.length : Int) = 6 := by omega
 clear hb
 refine enterE Tryd.func10 rfl Tryd.ntmps10 (by simp) (fun a hE => ?_); simp only [envOf, Nat.zero_add, Nat.reduceAdd] at hE
 refine Ks ?_
 refine Rs 3 fun Q' K hK => ?_
 refine M1 hE 0 fun K' J ρ q0 => ?_; go_simp; (try clear q0)
 refine Ln hE J fun _ Eb => ?_; clear J K' hE a
 refine M1 Eb 1 fun K' J ρ q1 => ?_; go_simp; (try clear q1)
 refine Ln Eb J fun _ Ea => ?_; clear J K' Eb
 refine M0 fun K' J ρ => ?_; go_simp;
 refine Ln Ea J fun _ Eb => ?_; clear J K' Ea
 refine late_done [2, 3, 4] Eb hK (fun a hE => ?_); clear hK K Q' Eb; simp only [lk, pick, Nat.reduceEqDiff, ↓reduceIte] at hE
 obtain ⟨B, hB⟩ : ∃ B, B = w.heap.size := ⟨_, rfl⟩
 obtain ⟨X, hX⟩ : ∃ B, B = w.heap.size + 1 := ⟨_, rfl⟩
 rw [← hX, ← hB] at hE
 refine world_cut (fun wt => Below w.heap.size w wt ∧ Cells wt B (sbV H hcap S scap b) ∧ Cells wt X x.cells) (by rw [hB, hX]; exact cells_two w _ _ _ _) (fun w1 hC => ?_)
 obtain ⟨hbw1, hCB, hCX⟩ := hC
 replace hM := hM.below hbw1
 replace hTw := hTw.below hbw1
 clear hB hX
 have nB := hCB.1; have cB7 := hCB.2 7 _ rfl; have cB8 := hCB.2 8 _ rfl
 refine Ks ?_
 refine Rs 9 fun Q' K hK => ?_
 refine Lp fun K' J => ?_
 have r3 := hE.at 3 rfl
 refine wp_load_mid 29 (.tmp 3) rfl B 0 (eval_of r3) (sbV H hcap S scap b) _ (fun j u hu => by rw [Nat.zero_add]; exact hCB.2 j u hu) Tryd.underlying29 rfl (by kernel_rfl) ?_
 (try clear r3)
 refine Ln hE J fun _ Eb => ?_; clear J K' hE a
 refine M1 Eb 26 fun K' J ρ q26 => ?_; go_simp; (try go_bits); (try clear q26)
 go_at_call 34; refine (C2.out _ hM).mono ?_; rintro e w2 ⟨rfl, h2⟩
 have cB8 := hCB.below h2 |>.2 8 _ rfl
 (try clear r26)
 refine Ln Eb J fun _ Ea => ?_; clear J K' Eb
 refine M1 Ea 27 fun K' J ρ q27 => ?_; go_simp; (try go_bits); (try simp (disch := omega) only [IntWalk.i64_in]); (try clear q27)
 refine Ln Ea J fun _ Eb => ?_; clear J K' Ea
 refine M1 Eb 28 fun K' J ρ q28 => ?_; go_simp; (try clear q28)
 refine Ln Eb J fun _ Ea => ?_; clear J K' Eb
 refine N1 Ea 29 3 fun K' J ρ q3 => ?_; go_simp; (try clear q3)
 refine Ln Ea J fun _ Eb => ?_; clear J K' Ea
 refine N1 Eb 29 30 fun K' J ρ q30 => ?_; go_simp; (try clear q30)
 refine Ln Eb J fun _ Ea => ?_; clear J K' Eb
 refine N1 Ea 29 31 fun K' J ρ q31 => ?_; go_simp; (try go_bits); (try clear q31)
 refine Ln Ea J fun _ Eb => ?_; clear J K' Ea
 refine N1 Eb 29 32 fun K' J ρ q32 => ?_; go_simp; (try go_bits); (try clear q32)
 refine Ln Eb J fun _ Ea => ?_; clear J K' Eb
 replace Ea := Ea.turn 33 (v' := .bool true) rfl (by (simp [h6]))
 refine M2 Ea 29 33 fun K' J ρ q29 q33 => ?_; go_simp; (try go_bits); (try clear q29 q33)
 refine Ln Ea J fun _ Eb => ?_; clear J K' Ea
 replace Eb := Eb.turn 34 (v' := .bool true) rfl (by (first | rfl | simp))
 refine late_done [2, 3, 4, 34] Eb hK (fun a hE => ?_); clear hK K Q' Eb; simp only [lk, pick, Nat.reduceEqDiff, ↓reduceIte] at hE
 have hbw2 := hbw1.trans (h2.mono hbw1.size)
 replace hCB := hCB.below h2
 clear nB cB7 cB8
 have nB := hCB.1; have cB7 := hCB.2 7 _ rfl; have cB8 := hCB.2 8 _ rfl
 replace hM := hM.below h2
 replace hTw := hTw.below h2
 replace hCX := hCX.below h2
 refine Ks ?_
 refine cond_yes hE (t := 34) rfl ?_
 refine Ks ?_
 refine Rs 2 fun Q' K hK => ?_
 refine M0 fun K' J ρ => ?_; go_simp; (try go_bits);
 go_at_call 22; refine (snowed_any _ hTw).mono ?_; rintro e w9 ⟨rfl, k9⟩
 refine Ln hE J fun _ Eb => ?_; clear J K' hE a
 refine M1 Eb 35 fun K' J ρ q35 => ?_; go_simp; (try clear q35)
 refine Ln Eb J fun _ Ea => ?_; clear J K' Eb
 refine late_done [6] Ea hK (fun a hE => ?_); clear hK K Q' Ea; simp only [lk, pick, Nat.reduceEqDiff, ↓reduceIte] at hE
 refine Ks ?_
 exact ret_one hE rfl rfl ⟨rfl, hbw2.trans (k9.mono hbw2.size)⟩
set_option maxRecDepth 100000 in
set_option maxHeartbeats 4000000 in
theorem more_good (hb : OkB b) (h5 : b.sights.length ≤ 5) (x : Si) (n : Int) (w : World) (hTw : TabW w) (hM : SbAt w H S b) : Calls Tryd.prog 10 #[.agg (sbV H hcap S scap b).toArray, .agg x.cells.toArray, .int .i64 n] w fun e w' => e = .returned (.bool true) ∧ Below w.heap.size w w' := by
 have h12 := hb.hours
 have C2 := hid fun (W : World) hW => soundC H hcap S scap b hb W hW
 obtain ⟨hw1, hw2⟩ := windI_range n b.hours.length (by omega)
 obtain ⟨h, hh0⟩ : ∃ h : Nat, windI n b.hours.length = h := ⟨(windI n b.hours.length).toNat, by omega⟩
 have hh : h < b.hours.length := by omega
 have HCH : Hid ((withS b x).hours = b.hours) := hid rfl
 have HS := hid hh0
 have HW64 : Hid ((b.hours.length : Int) ≤ 9223372036854775807) := hid (by omega)
 have h6I : ¬ b.sights.length = 6 := by omega
 obtain ⟨l1, l2, l3⟩ := more_law hb x hh
 obtain ⟨r1, r2⟩ := rev_law hb hh
 have W1 := hid fun (W : World) hW => with_own H hcap S scap b (by omega) x W hW
 have q8 : (withS b x).sights.length ≤ 6 := by simp [withS]; omega
 have CL1 := hid fun (W : World) hW => pLoad_any H hcap S scap b h W hW (by omega) (by omega)
 have CL2 := hid fun (A : Option Addr) (c : Nat) (W : World) hW => pLoad_any H hcap A c (withS b x) h W hW (show b.hours.length ≤ _ by omega) (by omega)
 have CL3 := hid fun (A : Option Addr) (c : Nat) (W : World) hW => pLoad_any H hcap A c (revB b) h W hW (show b.hours.length ≤ _ by omega) (show b.sights.reverse.length ≤ _ by simp; omega)
 have CF1 := hid fun (W : World) hW => pFree_any H hcap S scap b W hW (by omega) (by omega)
 have CF2 := hid fun (A : Option Addr) (c : Nat) (W : World) hW => pFree_any H hcap A c (withS b x) W hW (show b.hours.length ≤ _ by omega) (by omega)
 have CA1 := hid fun (W : World) hW hT => pFalls_any H hcap S scap b W hW hT (by omega) (by omega)
 have CA2 := hid fun (A : Option Addr) (c : Nat) (W : World) hW hT => pFalls_any H hcap A c (withS b x) W hW hT (show b.hours.length ≤ _ by omega) (by omega)
 rw [hour_is hh] at CL1
 rw [hour_is (b := withS b x) hh] at CL2
 rw [hour_is (b := revB b) hh, r1, r2] at CL3
 obtain ⟨c, hc⟩ : ∃ c, withS b x = c := ⟨_, rfl⟩
 rw [hc] at W1 CL2 CF2 CA2 l2 l3 q8 HCH
 obtain ⟨e, he⟩ : ∃ e, frE b true = e := ⟨_, rfl⟩
 obtain ⟨f, hf⟩ : ∃ f, frE c true = f := ⟨_, rfl⟩
 rw [he] at CL1 CL3 CF1 CA1 l1 l3
 rw [hf] at CL2 CF2 CA2 l2 l3
 obtain ⟨⟨a1, a2⟩, hsl⟩ : ∃ p, loadR b h = p := ⟨_, rfl⟩
 obtain ⟨⟨t1, t2⟩, htl⟩ : ∃ p, loadR c h = p := ⟨_, rfl⟩
 obtain ⟨⟨p1, p2⟩, hpl⟩ : ∃ p, falR b = p := ⟨_, rfl⟩
 obtain ⟨⟨g1, g2⟩, hgl⟩ : ∃ p, falR c = p := ⟨_, rfl⟩
 obtain ⟨fl, hfl⟩ : ∃ l, freL b = l := ⟨_, rfl⟩
 obtain ⟨fm, hfm⟩ : ∃ l, freL c = l := ⟨_, rfl⟩
 have hfl12 : fl.length ≤ 12 := by rw [← hfl]; unfold freL; split <;> first | exact Nat.le_trans (freK_len _ _) h12.2 | exact Nat.zero_le _
 have hfm12 : fm.length ≤ 12 := by rw [← hfm]; unfold freL; split <;> first | (refine Nat.le_trans (freK_len _ _) ?_; rw [← hc]; exact h12.2) | exact Nat.zero_le _
 rw [hsl] at CL1 CL3 l3
 rw [htl] at CL2 l3
 rw [hpl] at CA1 l3
 rw [hgl] at CA2 l3
 rw [hfl] at CF1 l3
 rw [hfm] at CF2 l3
 simp only at CL1 CL2 CL3 CA1 CA2 l3
 have L1 := hid l1
 have L2 := hid l2
 have L3 := hid l3
 clear hb h12 hh hw1 hw2 hh0 l1 l2 l3 r1 r2 q8 he hf hsl htl hpl hgl hfl hfm
 refine enterE Tryd.func10 rfl Tryd.ntmps10 (by simp) (fun a hE => ?_); simp only [envOf, Nat.zero_add, Nat.reduceAdd] at hE
 refine Ks ?_
 refine Rs 3 fun Q' K hK => ?_
 refine M1 hE 0 fun K' J ρ q0 => ?_; go_simp; (try clear q0)
 refine Ln hE J fun _ Eb => ?_; clear J K' hE a
 refine M1 Eb 1 fun K' J ρ q1 => ?_; go_simp; (try clear q1)
 refine Ln Eb J fun _ Ea => ?_; clear J K' Eb
 refine M0 fun K' J ρ => ?_; go_simp;
 refine Ln Ea J fun _ Eb => ?_; clear J K' Ea
 refine late_done [2, 3, 4] Eb hK (fun a hE => ?_); clear hK K Q' Eb; simp only [lk, pick, Nat.reduceEqDiff, ↓reduceIte] at hE
 obtain ⟨B, hB⟩ : ∃ B, B = w.heap.size := ⟨_, rfl⟩
 obtain ⟨X, hX⟩ : ∃ B, B = w.heap.size + 1 := ⟨_, rfl⟩
 rw [← hX, ← hB] at hE
 refine world_cut (fun wt => Below w.heap.size w wt ∧ Cells wt B (sbV H hcap S scap b) ∧ Cells wt X x.cells) (by rw [hB, hX]; exact cells_two w _ _ _ _) (fun w1 hC => ?_)
 obtain ⟨hbw1, hCB, hCX⟩ := hC
 replace hM := hM.below hbw1
 replace hTw := hTw.below hbw1
 clear hB hX
 have nB := hCB.1; have cB7 := hCB.2 7 _ rfl; have cB8 := hCB.2 8 _ rfl
 refine Ks ?_
 refine Rs 9 fun Q' K hK => ?_
 refine Lp fun K' J => ?_
 have r3 := hE.at 3 rfl
 refine wp_load_mid 29 (.tmp 3) rfl B 0 (eval_of r3) (sbV H hcap S scap b) _ (fun j u hu => by rw [Nat.zero_add]; exact hCB.2 j u hu) Tryd.underlying29 rfl (by kernel_rfl) ?_
 (try clear r3)
 refine Ln hE J fun _ Eb => ?_; clear J K' hE a
 refine M1 Eb 26 fun K' J ρ q26 => ?_; go_simp; (try go_bits); (try clear q26)
 go_at_call 34; refine (C2.out _ hM).mono ?_; rintro e w2 ⟨rfl, h2⟩
 have cB8 := hCB.below h2 |>.2 8 _ rfl
 (try clear r26)
 refine Ln Eb J fun _ Ea => ?_; clear J K' Eb
 refine M1 Ea 27 fun K' J ρ q27 => ?_; go_simp; (try go_bits); (try simp (disch := omega) only [IntWalk.i64_in]); (try clear q27)
 refine Ln Ea J fun _ Eb => ?_; clear J K' Ea
 refine M1 Eb 28 fun K' J ρ q28 => ?_; go_simp; (try clear q28)
 refine Ln Eb J fun _ Ea => ?_; clear J K' Eb
 refine N1 Ea 29 3 fun K' J ρ q3 => ?_; go_simp; (try clear q3)
 refine Ln Ea J fun _ Eb => ?_; clear J K' Ea
 refine N1 Eb 29 30 fun K' J ρ q30 => ?_; go_simp; (try clear q30)
 refine Ln Eb J fun _ Ea => ?_; clear J K' Eb
 refine N1 Ea 29 31 fun K' J ρ q31 => ?_; go_simp; (try go_bits); (try clear q31)
 refine Ln Ea J fun _ Eb => ?_; clear J K' Ea
 refine N1 Eb 29 32 fun K' J ρ q32 => ?_; go_simp; (try go_bits); (try clear q32)
 refine Ln Eb J fun _ Ea => ?_; clear J K' Eb
 replace Ea := Ea.turn 33 (v' := .bool false) rfl (by (simp; omega))
 refine M2 Ea 29 33 fun K' J ρ q29 q33 => ?_; go_simp; (try go_bits); (try clear q29 q33)
 refine Ln Ea J fun _ Eb => ?_; clear J K' Ea
 replace Eb := Eb.turn 34 (v' := .bool false) rfl (by (first | rfl | simp))
 refine late_done [2, 3, 4, 34] Eb hK (fun a hE => ?_); clear hK K Q' Eb; simp only [lk, pick, Nat.reduceEqDiff, ↓reduceIte] at hE
 have hbw2 := hbw1.trans (h2.mono hbw1.size)
 replace hCB := hCB.below h2
 clear nB cB7 cB8
 have nB := hCB.1; have cB7 := hCB.2 7 _ rfl; have cB8 := hCB.2 8 _ rfl
 replace hM := hM.below h2
 replace hTw := hTw.below h2
 replace hCX := hCX.below h2
 refine Ks ?_
 refine cond_no hE (t := 34) rfl ?_
 refine Ks ?_
 refine Rs 6 fun Q' K hK => ?_
 refine M1 hE 2 fun K' J ρ q2 => ?_; go_simp; (try clear q2)
 refine Ln hE J fun _ Eb => ?_; clear J K' hE a
 refine M1 Eb 3 fun K' J ρ q3 => ?_; go_simp; (try clear q3)
 refine Ln Eb J fun _ Ea => ?_; clear J K' Eb
 refine M1 Ea 37 fun K' J ρ q37 => ?_; go_simp; (try clear q37)
 refine Ln Ea J fun _ Eb => ?_; clear J K' Ea
 refine M1 Eb 38 fun K' J ρ q38 => ?_; go_simp; (try go_bits); (try clear q38)
 refine Ln Eb J fun _ Ea => ?_; clear J K' Eb
 refine M2 Ea 36 39 fun K' J ρ q36 q39 => ?_; go_simp; (try go_bits); (try clear q36 q39)
 go_at_call 40; refine (wind_any n _ HW64.out _).mono ?_; rw [HS.out]; rintro e' g1 ⟨rfl, rfl⟩
 (try clear r36 r39)
 refine Ln Ea J fun _ Eb => ?_; clear J K' Ea
 refine M1 Eb 40 fun K' J ρ q40 => ?_; go_simp; (try clear q40)
 refine Ln Eb J fun _ Ea => ?_; clear J K' Eb
 refine late_done [3, 4, 7] Ea hK (fun a hE => ?_); clear hK K Q' Ea; simp only [lk, pick, Nat.reduceEqDiff, ↓reduceIte] at hE
 refine Ks ?_
 refine region_drawn_new [7] [(4, 8), (5, 9)] [(6, 8, StoT w2.heap.size (BkS w2.heap.size H hcap c))] (fun wt => Below w2.heap.size w2 wt) (TurnT 29 9 w2.heap.size (BkS w2.heap.size H hcap c)) [(0, some 41), (1, some 42), (2, some 43), (3, some 44), (4, some 8), (5, some 9), (6, none)] [41, 42, 43, 44, 8, 9] #[true, true, true, true, true, true, true, false] [3, 7] hE ((Below.refl _ _).drew) (fun _ _ h => h.size) (List.forall_mem_cons.2 ⟨fun _ _ _ hb h => h.turned (BkS.stay _ _ _ _ 9) hb, fun _ h => absurd h List.not_mem_nil⟩) (fun Q' K hK => ?_)
 refine SeqN.val ?_ (Sp fun ax wx hS hT' hd K' J => ?_) ?_; rotate_left 1
 ·have r3 := hS.at 3 (by decide) (hE.at 3 rfl); obtain ⟨hcT, hfT, hlT, hmT, hwT, hzT⟩ := bT hT'
  refine wp_load_mid 29 (.tmp 3) rfl B 0 (eval_of r3) (sbV H hcap S scap b) _ (fun j u hu => by rw [Nat.zero_add]; exact (hCB.below hT').2 j u hu) Tryd.underlying29 rfl (by kernel_rfl) ?_
  refine J.out _ _ _ rfl ?_ hT' (TurnT.refl); rfl
 refine SeqN.val ?_ (Sp fun ax wx hS hT' hd K' J => ?_) ?_; rotate_left 1
 ·have r4 := hS.at 4 (by decide) (hE.at 4 rfl); obtain ⟨hcT, hfT, hlT, hmT, hwT, hzT⟩ := bT hT'
  refine wp_load_mid 68 (.tmp 4) rfl X 0 (eval_of r4) x.cells _ (fun j u hu => by rw [Nat.zero_add]; exact (hCX.below hT').2 j u hu) Tryd.underlying68 rfl (by kernel_rfl) ?_
  refine J.out _ _ _ rfl ?_ hT' (TurnT.refl); rfl
 refine SeqN.say (fun v wt => ∃ vs, v = .agg vs.toArray ∧ BkS w2.heap.size H hcap c vs wt) (fun _ _ _ hR h => h.imp fun _ p => ⟨p.1, p.2.turned hR⟩) (Sp fun ax wx hS hT' hd K' J => ?_) ?_
 ·have r41 := Tv hd 1 0 41; have r42 := Tv hd 0 1 42; obtain ⟨hcT, hfT, hlT, hmT, hwT, hzT⟩ := bT hT'
  refine o2 r41 r42 fun ρ q41 q42 => ?_; go_simp; (try go_bits);
  go_at_call 45; refine (W1.out _ (hM.below hT')).mono ?_; rintro e' g1' ⟨⟨A, k, rfl, hA⟩, k1⟩
  exact J.out _ _ _ rfl ⟨_, rfl, A, k, rfl, own_base hA hT'.size⟩ (hT'.trans (k1.mono hT'.size)) (TurnT.of k1)
 refine SeqN.val ?_ (Sp fun ax wx hS hT' hd K' J => ?_) ?_; rotate_left 1
 ·have r3 := hS.at 3 (by decide) (hE.at 3 rfl); obtain ⟨hcT, hfT, hlT, hmT, hwT, hzT⟩ := bT hT'
  refine wp_load_mid 29 (.tmp 3) rfl B 0 (eval_of r3) (sbV H hcap S scap b) _ (fun j u hu => by rw [Nat.zero_add]; exact (hCB.below hT').2 j u hu) Tryd.underlying29 rfl (by kernel_rfl) ?_
  refine J.out _ _ _ rfl ?_ hT' (TurnT.refl); rfl
 refine SeqN.new (NewT 29 9 w2.heap.size) (fun _ _ _ hb h => h.turned hb) (StepNew.plain (by (first | (simp only [List.getElem?_toArray, List.getElem?_cons_succ, List.getElem?_cons_zero]; rfl) | rfl)) rfl (fun ax wx hS hT' hd K' J => ?_)) ?_
 ·obtain ⟨hcT, hfT, hlT, hmT, hwT, hzT⟩ := bT hT'
  refine o0 fun ρ => ?_; go_simp;
  exact J.out _ _ _ rfl ⟨_, rfl, hT'.size, _, World.alloc_heap_new _ _, rfl⟩ (hT'.alloc hT'.size _) (TurnT.of ((Below.refl _ _).alloc (Nat.le_refl _) _)) (Nat.le_refl _) (by simp [blkV])
 refine SeqN.new (NewT 29 9 w2.heap.size) (fun _ _ _ hb h => h.turned hb) (StepNew.plain (by (first | (simp only [List.getElem?_toArray, List.getElem?_cons_succ, List.getElem?_cons_zero]; rfl) | rfl)) rfl (fun ax wx hS hT' hd K' J => ?_)) ?_
 ·obtain ⟨hcT, hfT, hlT, hmT, hwT, hzT⟩ := bT hT'
  refine o0 fun ρ => ?_; go_simp;
  exact J.out _ _ _ rfl ⟨_, rfl, hT'.size, _, World.alloc_heap_new _ _, rfl⟩ (hT'.alloc hT'.size _) (TurnT.of ((Below.refl _ _).alloc (Nat.le_refl _) _)) (Nat.le_refl _) (by simp [blkV])
 refine SeqN.mem 8 _ (by first | exact List.mem_cons_self .. | exact List.mem_cons_of_mem _ (List.mem_cons_self ..)) (StepMem.plain (by (first | (simp only [List.getElem?_toArray, List.getElem?_cons_succ, List.getElem?_cons_zero]; rfl) | rfl)) rfl (fun ax wx hS hT' hd K' J => ?_)) ?_
 ·obtain ⟨v8, r8, h8⟩ := Tg hd 1 4 8; obtain ⟨C8, rfl, n8, b8⟩ := h8; obtain ⟨v43, r43, h43⟩ := Tg hd 3 2 43; obtain ⟨vs2, rfl, hP2⟩ := h43; obtain ⟨hcT, hfT, hlT, hmT, hwT, hzT⟩ := bT hT'
  obtain ⟨zs, hzs, hR8, hl8⟩ := b8.row
  obtain ⟨A2, k2, rfl, hO2⟩ := hP2
  refine wp_store_mid 29 (.tmp 8) (.tmp 43) rfl C8 0 (sbV H hcap A2 k2 c).toArray (eval_of r8) (eval_of r43) (there_row hR8 (by rw [hzs]; exact Nat.le_refl _)) (by kernel_rfl) (by kernel_rfl) ?_
  obtain ⟨q1, q2, _, _⟩ := cells_stored hR8 (vs := sbV H hcap A2 k2 c) (by rw [hzs]; rfl) hl8 n8 hT'
  exact J.out _ _ _ rfl r8 ⟨C8, _, rfl, n8, q1, (BkS.stay _ _ _ _ 9).stored _ _ _ _ b8 ⟨A2, k2, rfl, hO2⟩⟩ q2 (.inr ⟨C8, _, n8, b8, rfl, ⟨A2, k2, rfl, hO2⟩, rfl⟩)
 refine SeqN.nil ?_
 intro w3 hBm; refine ek_N ?_; refine ek_N ?_; (refine fun v h => ?_; obtain ⟨vs2, rfl, hP2⟩ := h); refine ek_N ?_; (refine fun v h => ?_; obtain ⟨C8, rfl, n8, b8⟩ := h); (refine fun v h => ?_; obtain ⟨C9, rfl, n9, b9⟩ := h)
 refine fun amx hEmx hNe hMe => ?_
 have ne8_9 := hNe (4, 8) (by decide) (5, 9) (by decide) (by decide) _ _ (hEmx.at 8 rfl) (hEmx.at 9 rfl); simp only [blkV] at ne8_9
 obtain ⟨vm, hvm, hM6⟩ := hMe _ (by first | exact List.mem_cons_self .. | exact List.mem_cons_of_mem _ (List.mem_cons_self ..) : (6, 8, StoT w2.heap.size (BkS w2.heap.size H hcap c)) ∈ _); obtain rfl := Option.some.inj (hvm.symm.trans (hEmx.at 8 rfl)); clear hvm
 clear hNe hMe
 simp only [lk, pick, Nat.reduceEqDiff, ↓reduceIte] at hEmx
 refine Lp fun K' J => ?_
 have r9 := hEmx.at 9 rfl; have r44 := hEmx.at 44 rfl
 obtain ⟨z9, hz9, hR9, hl9⟩ := b9.row
 refine wp_store_mid 29 (.tmp 9) (.tmp 44) rfl C9 0 (sbV H hcap S scap b).toArray (eval_of r9) (eval_of r44) (there_row hR9 (by rw [hz9]; exact Nat.le_refl _)) (by kernel_rfl) (by kernel_rfl) ?_
 (try clear r9 r44)
 refine late_skip hEmx J (fun am_1 hEm_1 => ?_); clear J K'; clear hEmx
 refine late_done [3, 7, 8, 9] hEm_1 hK (fun a hE => ?_); clear hK K Q' hEm_1; simp only [lk, pick, Nat.reduceEqDiff, ↓reduceIte] at hE
 have hbw3 := hbw2.trans (hBm.mono hbw2.size)
 obtain ⟨C8', vs8, eC, _, hC8, A8, k8, rfl, hO8⟩ := hM6
 obtain rfl : C8 = C8' := by cases eC; rfl
 refine world_cut (fun wt => Below w2.heap.size w2 wt ∧ Cells wt C8 (sbV H hcap A8 k8 c) ∧ wt.ownsRow w2.heap.size 68 4 (.slice A8 c.sights.length k8) c.sights.length (sis c.sights) ∧ Row wt C9 (sbV H hcap S scap b) ∧ BlkT 29 9 C9 wt) ?_ (fun w5 hC => ?_)
 ·obtain ⟨_, p2, _, _⟩ := cells_stored hR9 (vs := sbV H hcap S scap b) (by rw [hz9]; rfl) hl9 n9 hBm; exact ⟨p2, hC8.stored ne8_9, own_stored hO8 b9 (by decide), row_all hR9 (by rw [hz9]; rfl), blkT_stored _ _ _ b9⟩
 clear hC8 hO8 hR9 hl9 hz9 b9 b8 eC
 obtain ⟨hw5, hC8, hO8, hR9, b9⟩ := hC
 have hb5 := hbw2.trans (hw5.mono hbw2.size)
 clear hbw3 hBm
 have y8 := (hR9 8 _ rfl).2
 have hCB0 := hCB
 have hM0 := hM
 have hTw0 := hTw
 clear hCX
 refine Ks ?_
 refine Rs 2 fun Q' K hK => ?_
 refine M1 hE 9 fun K' J ρ q9 => ?_; go_simp; (try clear q9)
 refine Ln hE J fun _ Eb => ?_; clear J K' hE a
 refine M1 Eb 45 fun K' J ρ q45 => ?_; go_simp; (try clear q45)
 refine late_skip Eb J (fun _ Ea => ?_); clear J K'; clear Eb
 refine late_done [3, 7, 8, 9] Ea hK (fun a hE => ?_); clear hK K Q' Ea; simp only [lk, pick, Nat.reduceEqDiff, ↓reduceIte] at hE
 have hl9 : C9 < w5.heap.size := b9.choose_spec.1 |> heap_lt
 refine world_cut (fun wt => YoS H hcap b C9 w2 w5 [] none 0 wt) ⟨hw5.setCell n9 _, by simp, hR9.set (o := 8) (by simp [sbV]), own_nil _ _ _ _, fun R hR hne => Below.heap_setCell _ _ _ _ (by simpa using hne)⟩ (fun w6 hS6 => ?_)
 have hb6 := hbw2.trans (hS6.below.mono hbw2.size)
 replace hCB := hCB.below hS6.below
 clear nB cB7 cB8 y8 hR9
 have nB := hCB.1; have cB8 := hCB.2 8 _ rfl
 refine Ks ?_
 refine Rs 5 fun Q' K hK => ?_
 refine M1 hE 3 fun K' J ρ q3 => ?_; go_simp; (try clear q3)
 refine Ln hE J fun _ Eb => ?_; clear J K' hE a
 refine M1 Eb 46 fun K' J ρ q46 => ?_; go_simp; (try clear q46)
 refine Ln Eb J fun _ Ea => ?_; clear J K' Eb
 refine M1 Ea 47 fun K' J ρ q47 => ?_; go_simp; (try go_bits); (try clear q47)
 refine Ln Ea J fun _ Eb => ?_; clear J K' Ea
 refine M1 Eb 48 fun K' J ρ q48 => ?_; go_simp; (try go_bits); (try simp (disch := omega) only [IntWalk.i64_in]); (try clear q48)
 refine Ln Eb J fun _ Ea => ?_; clear J K' Eb
 refine M1 Ea 49 fun K' J ρ q49 => ?_; go_simp; (try clear q49)
 refine Ln Ea J fun _ Eb => ?_; clear J K' Ea
 refine late_done [3, 7, 8, 9, 10] Eb hK (fun a hE => ?_); clear hK K Q' Eb; simp only [lk, pick, Nat.reduceEqDiff, ↓reduceIte] at hE
 refine Ks ?_
 refine loop_st (fun (k : Nat) a w' => ∃ (A : Option Addr) (c' : Nat), k ≤ b.sights.length ∧ Fits 181 [(3, .pointer (some ⟨B, 0, none⟩)), (7, .int .i64 h), (8, .pointer (some ⟨C8, 0, none⟩)), (9, .pointer (some ⟨C9, 0, none⟩)), (10, .int .i64 ((b.sights.length : Int) - 1 - (k : Int)))] a ∧ YoS H hcap b C9 w2 w5 (b.sights.reverse.take k) A c' w') (fun k => b.sights.length - k) 0 ⟨none, 0, Nat.zero_le _, by simpa using hE, hS6⟩ (fun k a wr hI => ?_)
 clear hE hS6 hb6 nB cB8 hCB hM hTw
 obtain ⟨A, c', hk, hE, hS⟩ := hI
 have hbr := hbw2.trans (hS.below.mono hbw2.size)
 have hCB := hCB0.below hS.below
 have hM := hM0.below hS.below
 have hTw := hTw0.below hS.below
 by_cases hlt : k < b.sights.length
 ·obtain ⟨i, hi⟩ : ∃ i, b.sights.length = k + 1 + i := ⟨b.sights.length - k - 1, by omega⟩
  have hidx : (b.sights.length : Int) - 1 - k = i := by omega
  rw [hidx] at hE
  have hil : i < b.sights.length := by omega
  have hrt := rev_take hi
  obtain ⟨bx, ox, hSe, hbx, x0, x1, x2, x3⟩ := hM.2.si hil
  obtain ⟨Y, hYe⟩ : ∃ X, b.sights[i] = X := ⟨_, rfl⟩
  rw [hYe] at x0 x1 x2 x3 hrt
  have hdl : (b.sights.reverse.take k).length ≤ 6 := by rw [List.length_take, List.length_reverse]; omega
  obtain ⟨ds, hds⟩ : ∃ ds, b.sights.reverse.take k = ds := ⟨_, rfl⟩
  rw [hds] at hrt hS hdl
  have e8 := (hS.row 8 _ rfl).1
  have hown := hS.own
  have nQ := Nat.lt_of_lt_of_le hl9 hS.size
  have nB := hCB.1
  have d8 := hCB.2 8 _ rfl
  rw [hSe] at d8
  have HRT := hid hrt
  have hilI : (i : Int) < b.sights.length := by omega
  have HHI := hid hi
  have hlt5 : k < 6 ∧ i < 6 := by omega
  clear hds hYe hrt hi hidx
  refine Ks ?_
  refine Rs 2 fun Q' K hK => ?_
  refine M1 hE 10 fun K' J ρ q10 => ?_; go_simp; (try clear q10)
  refine Ln hE J fun _ Eb => ?_; clear J K' hE a
  refine M1 Eb 50 fun K' J ρ q50 => ?_; go_simp; (try go_bits); (try clear q50)
  refine Ln Eb J fun _ Ea => ?_; clear J K' Eb
  replace Ea := Ea.turn 51 (v' := .bool true) rfl (by (first | (simp; done) | (simp; omega)))
  refine late_done [3, 7, 8, 9, 10, 51] Ea hK (fun a hE => ?_); clear hK K Q' Ea; simp only [lk, pick, Nat.reduceEqDiff, ↓reduceIte] at hE
  refine Ks ?_
  refine cond_yes hE (t := 51) rfl ?_
  refine Ks ?_
  refine Rd [8, 9, 10] (fun wt => Below wr.heap.size wr wt) (fun w1 w2 => Below w1.heap.size w1 w2) [(0, some 54), (1, some 55), (2, some 56), (3, some 57), (4, some 58), (5, some 59), (6, some 60), (7, some 61)] [54, 55, 56, 57, 58, 59, 60, 61] #[true, true, true, true, true, true, true, true, false, false, false] [3, 7, 8, 9, 10] hE ((Below.refl _ _).drew) fun Q' K hK => ?_
  refine SeqOps.val ?_ (Sp fun ax wx hS hT' hd K' J => ?_) ?_; rotate_left 1
  ·have r9 := hS.at 9 (by decide) (hE.at 9 rfl); obtain ⟨hcT, hfT, hlT, hmT, hwT, hzT⟩ := bT hT'
   refine o1 r9 fun ρ q9 => ?_; go_simp;
   exact Jo J hT'
  refine SeqOps.val ?_ (Sp fun ax wx hS hT' hd K' J => ?_) ?_; rotate_left 1
  ·have r54 := Tv hd 0 0 54; obtain ⟨hcT, hfT, hlT, hmT, hwT, hzT⟩ := bT hT'
   refine o1 r54 fun ρ q54 => ?_; go_simp;
   exact Jo J hT'
  refine SeqOps.val ?_ (Sp fun ax wx hS hT' hd K' J => ?_) ?_; rotate_left 1
  ·have r3 := hS.at 3 (by decide) (hE.at 3 rfl); obtain ⟨hcT, hfT, hlT, hmT, hwT, hzT⟩ := bT hT'
   refine o1 r3 fun ρ q3 => ?_; go_simp;
   exact Jo J hT'
  refine SeqOps.val ?_ (Sp fun ax wx hS hT' hd K' J => ?_) ?_; rotate_left 1
  ·have r56 := Tv hd 0 2 56; obtain ⟨hcT, hfT, hlT, hmT, hwT, hzT⟩ := bT hT'
   refine o1 r56 fun ρ q56 => ?_; go_simp;
   exact Jo J hT'
  refine SeqOps.val ?_ (Sp fun ax wx hS hT' hd K' J => ?_) ?_; rotate_left 1
  ·have r10 := hS.at 10 (by decide) (hE.at 10 rfl); obtain ⟨hcT, hfT, hlT, hmT, hwT, hzT⟩ := bT hT'
   refine o1 r10 fun ρ q10 => ?_; go_simp;
   exact Jo J hT'
  refine SeqOps.val ?_ (Sp fun ax wx hS hT' hd K' J => ?_) ?_; rotate_left 1
  ·have r57 := Tv hd 1 3 57; have r58 := Tv hd 0 4 58; obtain ⟨hcT, hfT, hlT, hmT, hwT, hzT⟩ := bT hT'
   refine o2 r57 r58 fun ρ q57 q58 => ?_; go_simp; (try go_bits);
   exact Jo J hT'
  refine SeqOps.val ?_ (Sp fun ax wx hS hT' hd K' J => ?_) ?_; rotate_left 1
  ·have r59 := Tv hd 0 5 59; obtain ⟨hcT, hfT, hlT, hmT, hwT, hzT⟩ := bT hT'
   refine o1 r59 fun ρ q59 => ?_; go_simp;
   exact Jo J hT'
  refine SeqOps.say (fun v wt => ∃ G, v = .slice (some ⟨G, 0, none⟩) 1 1 ∧ ArrD wt (some ⟨G, 0, none⟩) Y.cells) (fun _ _ _ hR ⟨G, e, h⟩ => ⟨G, e, h.below hR⟩) (Sp fun ax wx hS hT' hd K' J => ?_) ?_
  ·have r60 := Tv hd 0 6 60; obtain ⟨hcT, hfT, hlT, hmT, hwT, hzT⟩ := bT hT'
   refine o1 r60 fun ρ q60 => ?_; go_simp;
   refine J.out _ _ _ rfl ⟨_, rfl, (arr_new wx _ _).more (by simp)⟩ (hT'.trans (((Below.refl _ _).alloc (Nat.le_refl _) _).mono hT'.size)) ((Below.refl _ _).alloc (Nat.le_refl _) _)
  refine SeqOps.nil ?_
  intro w7 hBl; (repeat refine Ek ?_); (refine fun v h => ?_; obtain ⟨G, rfl, hG⟩ := h);
  refine fun alx hElx => ?_
  simp only [lk, pick, Nat.reduceEqDiff, ↓reduceIte] at hElx
  refine Lp fun K' J => ?_
  have r55 := hElx.at 55 rfl; have r61 := hElx.at 61 rfl
  have hS7 := hS.on hl9 hBl
  have hO7 := own_below hown hBl
  refine wp_appN (.tmp 55) (.tmp 61) 27 rfl w5.heap.size 68 (.agg #[.int .i64 0, .bool false, .int .i64 0, .int .i64 0]) 4 32 Tryd.underlying27 (by kernel_rfl) rfl (by decide) _ _ _ (eval_of r55) hO7 w7.heap.size (some ⟨G, 0, none⟩) 1 1 Y.cells (eval_of r61) hG rfl (cells_one Y) (by simp only [maxLen]; omega) (by omega) hS7.size (fun A2 c3 w8 q1 q2 q3 q4 q5 => ?_)
  have hsn := hS7.snoc n9 hl9 Y q3 q4
  have y8 := hsn.2
  (try clear r55 r61)
  refine Ln hElx J fun al_1 hEl_1 => ?_; clear J K' hElx
  refine M1 hEl_1 9 fun K' J ρ q9 => ?_; go_simp; (try clear q9)
  refine Ln hEl_1 J fun al_2 hEl_2 => ?_; clear J K' hEl_1
  refine M2 hEl_2 63 62 fun K' J ρ q63 q62 => ?_; go_simp; (try clear q63 q62)
  refine late_skip hEl_2 J (fun al_3 hEl_3 => ?_); clear J K'; clear hEl_2
  refine late_done [3, 7, 8, 9, 10] hEl_3 hK (fun a hE => ?_); clear hK K Q' hEl_3; simp only [lk, pick, Nat.reduceEqDiff, ↓reduceIte] at hE
  have hbw7 := hbr.trans (hBl.mono hbr.size)
  refine world_cut (fun wt => YoS H hcap b C9 w2 w5 (ds ++ [Y]) A2 c3 wt) hsn.1 (fun w9 hS9 => ?_)
  clear y8 hsn q1 q2 q3 q4 q5
  refine Ks ?_
  refine Rs 3 fun Q' K hK => ?_
  refine M1 hE 10 fun K' J ρ q10 => ?_; go_simp; (try clear q10)
  refine Ln hE J fun _ Eb => ?_; clear J K' hE a
  refine M1 Eb 52 fun K' J ρ q52 => ?_; go_simp; (try go_bits); (try simp (disch := omega) only [IntWalk.i64_in]); (try clear q52)
  refine Ln Eb J fun _ Ea => ?_; clear J K' Eb
  refine M1 Ea 53 fun K' J ρ q53 => ?_; go_simp; (try clear q53)
  refine Ln Ea J fun _ Eb => ?_; clear J K' Ea
  refine late_done [3, 7, 8, 9, 10] Eb hK (fun a hE => ?_); clear hK K Q' Eb; simp only [lk, pick, Nat.reduceEqDiff, ↓reduceIte] at hE
  refine Ks ?_
  have hi := HHI.out
  have hidx2 : (b.sights.length : Int) - 1 - ((k + 1 : Nat) : Int) = (i : Int) - 1 := by omega
  refine ⟨k + 1, ⟨A2, c3, hlt, ?_, by rw [HRT.out]; exact hS9⟩, by omega⟩
  rw [hidx2]
  exact hE
 ·have hke : k = b.sights.length := by omega
  subst hke
  have hrev : b.sights.reverse.take b.sights.length = b.sights.reverse := List.take_of_length_le (by simp)
  rw [hrev] at hS
  have hC8r := cells_kept hC8 hS.size (hS.other C8 hC8.1 ne8_9)
  have hO8r := own_kept hO8 b9 (by decide) hS.size hS.other
  have hS8 : SbAt wr H A8 c := ⟨by rw [HCH.out]; exact hM.1, own_arr hO8r⟩
  have hC9 : Cells wr C9 (sbV H hcap A c' (revB b)) := ⟨Nat.lt_of_lt_of_le hl9 hS.size, fun j u hu => (hS.row j u hu).1⟩
  have hS9 : SbAt wr H A (revB b) := ⟨hM.1, own_arr hS.own⟩
  clear hC8 hO8 hO8r hS hrev hCB0 hM0 hTw0 b9
  have hC8 := hC8r
  clear hC8r
  refine Ks ?_
  refine Rs 2 fun Q' K hK => ?_
  refine M1 hE 10 fun K' J ρ q10 => ?_; go_simp; (try clear q10)
  refine Ln hE J fun _ Eb => ?_; clear J K' hE a
  refine M1 Eb 50 fun K' J ρ q50 => ?_; go_simp; (try go_bits); (try clear q50)
  refine Ln Eb J fun _ Ea => ?_; clear J K' Eb
  replace Ea := Ea.turn 51 (v' := .bool false) rfl (by (first | (simp; done) | (simp; omega)))
  refine late_done [3, 7, 8, 9, 10, 51] Ea hK (fun a hE => ?_); clear hK K Q' Ea; simp only [lk, pick, Nat.reduceEqDiff, ↓reduceIte] at hE
  refine Ks ?_
  refine cond_no hE (t := 51) rfl ?_
  refine Ks ?_
  refine Rs 9 fun Q' K hK => ?_
  refine Lp fun K' J => ?_
  have r3 := hE.at 3 rfl
  refine wp_load_mid 29 (.tmp 3) rfl B 0 (eval_of r3) (sbV H hcap S scap b) _ (fun j u hu => by rw [Nat.zero_add]; exact hCB.2 j u hu) Tryd.underlying29 rfl (by kernel_rfl) ?_
  (try clear r3)
  refine Ln hE J fun _ Eb => ?_; clear J K' hE a
  refine M1 Eb 7 fun K' J ρ q7 => ?_; go_simp; (try clear q7)
  refine Ln Eb J fun _ Ea => ?_; clear J K' Eb
  refine M2 Ea 65 66 fun K' J ρ q65 q66 => ?_; go_simp; (try go_bits); (try clear q65 q66)
  go_at_call 18; refine (CL1.out _ hM).mono ?_; rintro e' v1a ⟨rfl, hv1a⟩
  (try clear r65 r66)
  refine Ln Ea J fun _ Eb => ?_; clear J K' Ea
  refine M1 Eb 67 fun K' J ρ q67 => ?_; go_simp; (try clear q67)
  refine Ln Eb J fun _ Ea => ?_; clear J K' Eb
  refine M1 Ea 64 fun K' J ρ q64 => ?_; go_simp; (try clear q64)
  refine Ln Ea J fun _ Eb => ?_; clear J K' Ea
  refine M1 Eb 64 fun K' J ρ q64 => ?_; go_simp; (try clear q64)
  refine Ln Eb J fun _ Ea => ?_; clear J K' Eb
  refine M0 fun K' J ρ => ?_; go_simp;
  refine Ln Ea J fun _ Eb => ?_; clear J K' Ea
  refine M2 Eb 11 68 fun K' J ρ q11 q68 => ?_; go_simp; (try clear q11 q68)
  refine late_skip Eb J (fun _ Ea => ?_); clear J K'; clear Eb
  refine M1 Ea 69 fun K' J ρ q69 => ?_; go_simp; (try clear q69)
  refine Ln Ea J fun _ Eb => ?_; clear J K' Ea
  refine late_done [3, 7, 8, 9, 11, 12] Eb hK (fun a hE => ?_); clear hK K Q' Eb; simp only [lk, pick, Nat.reduceEqDiff, ↓reduceIte] at hE
  have hbv1a := hbr.trans (hv1a.mono hbr.size)
  replace hM := hM.below hv1a
  replace hTw := hTw.below hv1a
  replace hCB := hCB.below hv1a
  replace hC8 := hC8.below hv1a
  replace hS8 := hS8.below hv1a
  replace hC9 := hC9.below hv1a
  replace hS9 := hS9.below hv1a
  obtain ⟨Y1, hY1e⟩ : ∃ B, B = v1a.heap.size := ⟨_, rfl⟩; rw [← hY1e] at hE; refine world_cut (fun wt => Below v1a.heap.size v1a wt ∧ Cells wt Y1 [.int .i64 a1, .int .i64 a2]) ⟨(Below.refl _ _).alloc (Nat.le_refl _) _, by rw [hY1e]; exact cells_new _ _ _⟩ (fun v1 hCut => ?_); obtain ⟨hbv1, hCY1⟩ := hCut; clear hY1e
  have kv1 := hbv1
  clear hbv1
  have hbv1 := hbv1a.trans (kv1.mono hbv1a.size)
  replace hM := hM.below kv1
  replace hTw := hTw.below kv1
  replace hCB := hCB.below kv1
  replace hC8 := hC8.below kv1
  replace hS8 := hS8.below kv1
  replace hC9 := hC9.below kv1
  replace hS9 := hS9.below kv1
  have nY1 := hCY1.1; have cY10 := hCY1.2 0 _ rfl; have cY11 := hCY1.2 1 _ rfl
  refine Ks ?_
  refine Rs 9 fun Q' K hK => ?_
  refine Lp fun K' J => ?_
  have r8 := hE.at 8 rfl
  refine wp_load_mid 29 (.tmp 8) rfl C8 0 (eval_of r8) (sbV H hcap A8 k8 c) _ (fun j u hu => by rw [Nat.zero_add]; exact hC8.2 j u hu) Tryd.underlying29 rfl (by kernel_rfl) ?_
  (try clear r8)
  refine Ln hE J fun _ Eb => ?_; clear J K' hE a
  refine M1 Eb 7 fun K' J ρ q7 => ?_; go_simp; (try clear q7)
  refine Ln Eb J fun _ Ea => ?_; clear J K' Eb
  refine M2 Ea 71 72 fun K' J ρ q71 q72 => ?_; go_simp; (try go_bits); (try clear q71 q72)
  go_at_call 18; refine (CL2.out A8 k8 _ hS8).mono ?_; rintro e' v2a ⟨rfl, hv2a⟩
  (try clear r71 r72)
  refine Ln Ea J fun _ Eb => ?_; clear J K' Ea
  refine M1 Eb 73 fun K' J ρ q73 => ?_; go_simp; (try clear q73)
  refine Ln Eb J fun _ Ea => ?_; clear J K' Eb
  refine M1 Ea 70 fun K' J ρ q70 => ?_; go_simp; (try clear q70)
  refine Ln Ea J fun _ Eb => ?_; clear J K' Ea
  refine M1 Eb 70 fun K' J ρ q70 => ?_; go_simp; (try clear q70)
  refine Ln Eb J fun _ Ea => ?_; clear J K' Eb
  refine M0 fun K' J ρ => ?_; go_simp;
  refine Ln Ea J fun _ Eb => ?_; clear J K' Ea
  refine M2 Eb 13 74 fun K' J ρ q13 q74 => ?_; go_simp; (try clear q13 q74)
  refine late_skip Eb J (fun _ Ea => ?_); clear J K'; clear Eb
  refine M1 Ea 75 fun K' J ρ q75 => ?_; go_simp; (try clear q75)
  refine Ln Ea J fun _ Eb => ?_; clear J K' Ea
  refine late_done [3, 7, 8, 9, 11, 12, 13, 14] Eb hK (fun a hE => ?_); clear hK K Q' Eb; simp only [lk, pick, Nat.reduceEqDiff, ↓reduceIte] at hE
  have hbv2a := hbv1.trans (hv2a.mono hbv1.size)
  replace hCY1 := hCY1.below hv2a
  clear nY1 cY10 cY11
  have nY1 := hCY1.1; have cY10 := hCY1.2 0 _ rfl; have cY11 := hCY1.2 1 _ rfl
  replace hM := hM.below hv2a
  replace hTw := hTw.below hv2a
  replace hCB := hCB.below hv2a
  replace hC8 := hC8.below hv2a
  replace hS8 := hS8.below hv2a
  replace hC9 := hC9.below hv2a
  replace hS9 := hS9.below hv2a
  obtain ⟨Y2, hY2e⟩ : ∃ B, B = v2a.heap.size := ⟨_, rfl⟩; rw [← hY2e] at hE; refine world_cut (fun wt => Below v2a.heap.size v2a wt ∧ Cells wt Y2 [.int .i64 t1, .int .i64 t2]) ⟨(Below.refl _ _).alloc (Nat.le_refl _) _, by rw [hY2e]; exact cells_new _ _ _⟩ (fun v2 hCut => ?_); obtain ⟨hbv2, hCY2⟩ := hCut; clear hY2e
  have kv2 := hbv2
  clear hbv2
  have hbv2 := hbv2a.trans (kv2.mono hbv2a.size)
  replace hCY1 := hCY1.below kv2
  clear nY1 cY10 cY11
  have nY1 := hCY1.1; have cY10 := hCY1.2 0 _ rfl; have cY11 := hCY1.2 1 _ rfl
  replace hM := hM.below kv2
  replace hTw := hTw.below kv2
  replace hCB := hCB.below kv2
  replace hC8 := hC8.below kv2
  replace hS8 := hS8.below kv2
  replace hC9 := hC9.below kv2
  replace hS9 := hS9.below kv2
  have nY2 := hCY2.1; have cY20 := hCY2.2 0 _ rfl; have cY21 := hCY2.2 1 _ rfl
  refine Ks ?_
  refine Rs 9 fun Q' K hK => ?_
  refine Lp fun K' J => ?_
  have r9 := hE.at 9 rfl
  refine wp_load_mid 29 (.tmp 9) rfl C9 0 (eval_of r9) (sbV H hcap A c' (revB b)) _ (fun j u hu => by rw [Nat.zero_add]; exact hC9.2 j u hu) Tryd.underlying29 rfl (by kernel_rfl) ?_
  (try clear r9)
  refine Ln hE J fun _ Eb => ?_; clear J K' hE a
  refine M1 Eb 7 fun K' J ρ q7 => ?_; go_simp; (try clear q7)
  refine Ln Eb J fun _ Ea => ?_; clear J K' Eb
  refine M2 Ea 77 78 fun K' J ρ q77 q78 => ?_; go_simp; (try go_bits); (try clear q77 q78)
  go_at_call 18; refine (CL3.out A c' _ hS9).mono ?_; rintro e' v3a ⟨rfl, hv3a⟩
  (try clear r77 r78)
  refine Ln Ea J fun _ Eb => ?_; clear J K' Ea
  refine M1 Eb 79 fun K' J ρ q79 => ?_; go_simp; (try clear q79)
  refine Ln Eb J fun _ Ea => ?_; clear J K' Eb
  refine M1 Ea 76 fun K' J ρ q76 => ?_; go_simp; (try clear q76)
  refine Ln Ea J fun _ Eb => ?_; clear J K' Ea
  refine M1 Eb 76 fun K' J ρ q76 => ?_; go_simp; (try clear q76)
  refine Ln Eb J fun _ Ea => ?_; clear J K' Eb
  refine M0 fun K' J ρ => ?_; go_simp;
  refine Ln Ea J fun _ Eb => ?_; clear J K' Ea
  refine M2 Eb 15 80 fun K' J ρ q15 q80 => ?_; go_simp; (try clear q15 q80)
  refine late_skip Eb J (fun _ Ea => ?_); clear J K'; clear Eb
  refine M1 Ea 81 fun K' J ρ q81 => ?_; go_simp; (try clear q81)
  refine Ln Ea J fun _ Eb => ?_; clear J K' Ea
  refine late_done [3, 8, 11, 12, 13, 14, 15, 16] Eb hK (fun a hE => ?_); clear hK K Q' Eb; simp only [lk, pick, Nat.reduceEqDiff, ↓reduceIte] at hE
  have hbv3a := hbv2.trans (hv3a.mono hbv2.size)
  replace hCY1 := hCY1.below hv3a
  clear nY1 cY10 cY11
  have nY1 := hCY1.1; have cY10 := hCY1.2 0 _ rfl; have cY11 := hCY1.2 1 _ rfl
  replace hCY2 := hCY2.below hv3a
  clear nY2 cY20 cY21
  have nY2 := hCY2.1; have cY20 := hCY2.2 0 _ rfl; have cY21 := hCY2.2 1 _ rfl
  replace hM := hM.below hv3a
  replace hTw := hTw.below hv3a
  replace hCB := hCB.below hv3a
  replace hC8 := hC8.below hv3a
  replace hS8 := hS8.below hv3a
  replace hC9 := hC9.below hv3a
  replace hS9 := hS9.below hv3a
  obtain ⟨Y3, hY3e⟩ : ∃ B, B = v3a.heap.size := ⟨_, rfl⟩; rw [← hY3e] at hE; refine world_cut (fun wt => Below v3a.heap.size v3a wt ∧ Cells wt Y3 [.int .i64 a1, .int .i64 a2]) ⟨(Below.refl _ _).alloc (Nat.le_refl _) _, by rw [hY3e]; exact cells_new _ _ _⟩ (fun v3 hCut => ?_); obtain ⟨hbv3, hCY3⟩ := hCut; clear hY3e
  have kv3 := hbv3
  clear hbv3
  have hbv3 := hbv3a.trans (kv3.mono hbv3a.size)
  replace hCY1 := hCY1.below kv3
  clear nY1 cY10 cY11
  have nY1 := hCY1.1; have cY10 := hCY1.2 0 _ rfl; have cY11 := hCY1.2 1 _ rfl
  replace hCY2 := hCY2.below kv3
  clear nY2 cY20 cY21
  have nY2 := hCY2.1; have cY20 := hCY2.2 0 _ rfl; have cY21 := hCY2.2 1 _ rfl
  replace hM := hM.below kv3
  replace hTw := hTw.below kv3
  replace hCB := hCB.below kv3
  replace hC8 := hC8.below kv3
  replace hS8 := hS8.below kv3
  replace hC9 := hC9.below kv3
  replace hS9 := hS9.below kv3
  have nY3 := hCY3.1; have cY30 := hCY3.2 0 _ rfl; have cY31 := hCY3.2 1 _ rfl
  refine Ks ?_
  refine Rs 7 fun Q' K hK => ?_
  refine Lp fun K' J => ?_
  have r3 := hE.at 3 rfl
  refine wp_load_mid 29 (.tmp 3) rfl B 0 (eval_of r3) (sbV H hcap S scap b) _ (fun j u hu => by rw [Nat.zero_add]; exact hCB.2 j u hu) Tryd.underlying29 rfl (by kernel_rfl) ?_
  (try clear r3)
  refine Ln hE J fun _ Eb => ?_; clear J K' hE a
  refine M1 Eb 83 fun K' J ρ q83 => ?_; go_simp; (try go_bits); (try clear q83)
  go_at_call 23; refine (CF1.out _ hM).mono ?_; rintro e' v4 ⟨⟨T1, u1, rfl, hT1⟩, h4⟩
  (try clear r83)
  refine Ln Eb J fun _ Ea => ?_; clear J K' Eb
  refine M1 Ea 84 fun K' J ρ q84 => ?_; go_simp; (try clear q84)
  refine Ln Ea J fun _ Eb => ?_; clear J K' Ea
  refine M1 Eb 82 fun K' J ρ q82 => ?_; go_simp; (try clear q82)
  refine Ln Eb J fun _ Ea => ?_; clear J K' Eb
  refine M1 Ea 82 fun K' J ρ q82 => ?_; go_simp; (try clear q82)
  refine Ln Ea J fun _ Eb => ?_; clear J K' Ea
  refine M1 Eb 85 fun K' J ρ q85 => ?_; go_simp; (try clear q85)
  refine Ln Eb J fun _ Ea => ?_; clear J K' Eb
  refine M1 Ea 86 fun K' J ρ q86 => ?_; go_simp; (try clear q86)
  refine Ln Ea J fun _ Eb => ?_; clear J K' Ea
  refine late_done [3, 8, 11, 12, 13, 14, 15, 16, 17, 18] Eb hK (fun a hE => ?_); clear hK K Q' Eb; simp only [lk, pick, Nat.reduceEqDiff, ↓reduceIte] at hE
  have hbv4 := hbv3.trans (h4.mono hbv3.size)
  replace hCY1 := hCY1.below h4
  clear nY1 cY10 cY11
  have nY1 := hCY1.1; have cY10 := hCY1.2 0 _ rfl; have cY11 := hCY1.2 1 _ rfl
  replace hCY2 := hCY2.below h4
  clear nY2 cY20 cY21
  have nY2 := hCY2.1; have cY20 := hCY2.2 0 _ rfl; have cY21 := hCY2.2 1 _ rfl
  replace hCY3 := hCY3.below h4
  clear nY3 cY30 cY31
  have nY3 := hCY3.1; have cY30 := hCY3.2 0 _ rfl; have cY31 := hCY3.2 1 _ rfl
  replace hM := hM.below h4
  replace hTw := hTw.below h4
  replace hCB := hCB.below h4
  replace hC8 := hC8.below h4
  replace hS8 := hS8.below h4
  refine Ks ?_
  refine Rs 7 fun Q' K hK => ?_
  refine Lp fun K' J => ?_
  have r8 := hE.at 8 rfl
  refine wp_load_mid 29 (.tmp 8) rfl C8 0 (eval_of r8) (sbV H hcap A8 k8 c) _ (fun j u hu => by rw [Nat.zero_add]; exact hC8.2 j u hu) Tryd.underlying29 rfl (by kernel_rfl) ?_
  (try clear r8)
  refine Ln hE J fun _ Eb => ?_; clear J K' hE a
  refine M1 Eb 88 fun K' J ρ q88 => ?_; go_simp; (try go_bits); (try clear q88)
  go_at_call 23; refine (CF2.out A8 k8 _ hS8).mono ?_; rintro e' v5 ⟨⟨T2, u2, rfl, hT2⟩, h5'⟩
  (try clear r88)
  refine Ln Eb J fun _ Ea => ?_; clear J K' Eb
  refine M1 Ea 89 fun K' J ρ q89 => ?_; go_simp; (try clear q89)
  refine Ln Ea J fun _ Eb => ?_; clear J K' Ea
  refine M1 Eb 87 fun K' J ρ q87 => ?_; go_simp; (try clear q87)
  refine Ln Eb J fun _ Ea => ?_; clear J K' Eb
  refine M1 Ea 87 fun K' J ρ q87 => ?_; go_simp; (try clear q87)
  refine Ln Ea J fun _ Eb => ?_; clear J K' Ea
  refine M1 Eb 90 fun K' J ρ q90 => ?_; go_simp; (try clear q90)
  refine Ln Eb J fun _ Ea => ?_; clear J K' Eb
  refine M1 Ea 91 fun K' J ρ q91 => ?_; go_simp; (try clear q91)
  refine Ln Ea J fun _ Eb => ?_; clear J K' Ea
  refine late_done [3, 8, 11, 12, 13, 14, 15, 16, 17, 18, 19, 20] Eb hK (fun a hE => ?_); clear hK K Q' Eb; simp only [lk, pick, Nat.reduceEqDiff, ↓reduceIte] at hE
  have hbv5 := hbv4.trans (h5'.mono hbv4.size)
  replace hCY1 := hCY1.below h5'
  clear nY1 cY10 cY11
  have nY1 := hCY1.1; have cY10 := hCY1.2 0 _ rfl; have cY11 := hCY1.2 1 _ rfl
  replace hCY2 := hCY2.below h5'
  clear nY2 cY20 cY21
  have nY2 := hCY2.1; have cY20 := hCY2.2 0 _ rfl; have cY21 := hCY2.2 1 _ rfl
  replace hCY3 := hCY3.below h5'
  clear nY3 cY30 cY31
  have nY3 := hCY3.1; have cY30 := hCY3.2 0 _ rfl; have cY31 := hCY3.2 1 _ rfl
  replace hM := hM.below h5'
  replace hTw := hTw.below h5'
  replace hCB := hCB.below h5'
  replace hC8 := hC8.below h5'
  replace hS8 := hS8.below h5'
  replace hT1 := hT1.below h5'
  refine Ks ?_
  refine Rs 8 fun Q' K hK => ?_
  refine Lp fun K' J => ?_
  have r3 := hE.at 3 rfl
  refine wp_load_mid 29 (.tmp 3) rfl B 0 (eval_of r3) (sbV H hcap S scap b) _ (fun j u hu => by rw [Nat.zero_add]; exact hCB.2 j u hu) Tryd.underlying29 rfl (by kernel_rfl) ?_
  (try clear r3)
  refine Ln hE J fun _ Eb => ?_; clear J K' hE a
  refine M1 Eb 93 fun K' J ρ q93 => ?_; go_simp; (try go_bits); (try clear q93)
  go_at_call 30; refine (CA1.out _ hM hTw).mono ?_; rintro e' v6a ⟨rfl, hv6a⟩
  (try clear r93)
  refine Ln Eb J fun _ Ea => ?_; clear J K' Eb
  refine M1 Ea 94 fun K' J ρ q94 => ?_; go_simp; (try clear q94)
  refine Ln Ea J fun _ Eb => ?_; clear J K' Ea
  refine M1 Eb 92 fun K' J ρ q92 => ?_; go_simp; (try clear q92)
  refine Ln Eb J fun _ Ea => ?_; clear J K' Eb
  refine M1 Ea 92 fun K' J ρ q92 => ?_; go_simp; (try clear q92)
  refine Ln Ea J fun _ Eb => ?_; clear J K' Ea
  refine M0 fun K' J ρ => ?_; go_simp;
  refine Ln Eb J fun _ Ea => ?_; clear J K' Eb
  refine M2 Ea 21 95 fun K' J ρ q21 q95 => ?_; go_simp; (try clear q21 q95)
  refine late_skip Ea J (fun _ Eb => ?_); clear J K'; clear Ea
  refine M1 Eb 96 fun K' J ρ q96 => ?_; go_simp; (try clear q96)
  refine Ln Eb J fun _ Ea => ?_; clear J K' Eb
  refine late_done [8, 11, 12, 13, 14, 15, 16, 17, 18, 19, 20, 21, 22] Ea hK (fun a hE => ?_); clear hK K Q' Ea; simp only [lk, pick, Nat.reduceEqDiff, ↓reduceIte] at hE
  have hbv6a := hbv5.trans (hv6a.mono hbv5.size)
  replace hCY1 := hCY1.below hv6a
  clear nY1 cY10 cY11
  have nY1 := hCY1.1; have cY10 := hCY1.2 0 _ rfl; have cY11 := hCY1.2 1 _ rfl
  replace hCY2 := hCY2.below hv6a
  clear nY2 cY20 cY21
  have nY2 := hCY2.1; have cY20 := hCY2.2 0 _ rfl; have cY21 := hCY2.2 1 _ rfl
  replace hCY3 := hCY3.below hv6a
  clear nY3 cY30 cY31
  have nY3 := hCY3.1; have cY30 := hCY3.2 0 _ rfl; have cY31 := hCY3.2 1 _ rfl
  replace hM := hM.below hv6a
  replace hTw := hTw.below hv6a
  replace hCB := hCB.below hv6a
  replace hC8 := hC8.below hv6a
  replace hS8 := hS8.below hv6a
  replace hT1 := hT1.below hv6a
  replace hT2 := hT2.below hv6a
  obtain ⟨Y4, hY4e⟩ : ∃ B, B = v6a.heap.size := ⟨_, rfl⟩; rw [← hY4e] at hE; refine world_cut (fun wt => Below v6a.heap.size v6a wt ∧ Cells wt Y4 [.int .i64 p1, .int .i64 p2]) ⟨(Below.refl _ _).alloc (Nat.le_refl _) _, by rw [hY4e]; exact cells_new _ _ _⟩ (fun v6 hCut => ?_); obtain ⟨hbv6, hCY4⟩ := hCut; clear hY4e
  have kv6 := hbv6
  clear hbv6
  have hbv6 := hbv6a.trans (kv6.mono hbv6a.size)
  replace hCY1 := hCY1.below kv6
  clear nY1 cY10 cY11
  have nY1 := hCY1.1; have cY10 := hCY1.2 0 _ rfl; have cY11 := hCY1.2 1 _ rfl
  replace hCY2 := hCY2.below kv6
  clear nY2 cY20 cY21
  have nY2 := hCY2.1; have cY20 := hCY2.2 0 _ rfl; have cY21 := hCY2.2 1 _ rfl
  replace hCY3 := hCY3.below kv6
  clear nY3 cY30 cY31
  have nY3 := hCY3.1; have cY30 := hCY3.2 0 _ rfl; have cY31 := hCY3.2 1 _ rfl
  replace hM := hM.below kv6
  replace hTw := hTw.below kv6
  replace hCB := hCB.below kv6
  replace hC8 := hC8.below kv6
  replace hS8 := hS8.below kv6
  replace hT1 := hT1.below kv6
  replace hT2 := hT2.below kv6
  have nY4 := hCY4.1; have cY40 := hCY4.2 0 _ rfl; have cY41 := hCY4.2 1 _ rfl
  refine Ks ?_
  refine Rs 8 fun Q' K hK => ?_
  refine Lp fun K' J => ?_
  have r8 := hE.at 8 rfl
  refine wp_load_mid 29 (.tmp 8) rfl C8 0 (eval_of r8) (sbV H hcap A8 k8 c) _ (fun j u hu => by rw [Nat.zero_add]; exact hC8.2 j u hu) Tryd.underlying29 rfl (by kernel_rfl) ?_
  (try clear r8)
  refine Ln hE J fun _ Eb => ?_; clear J K' hE a
  refine M1 Eb 98 fun K' J ρ q98 => ?_; go_simp; (try go_bits); (try clear q98)
  go_at_call 30; refine (CA2.out A8 k8 _ hS8 hTw).mono ?_; rintro e' v7a ⟨rfl, hv7a⟩
  (try clear r98)
  refine Ln Eb J fun _ Ea => ?_; clear J K' Eb
  refine M1 Ea 99 fun K' J ρ q99 => ?_; go_simp; (try clear q99)
  refine Ln Ea J fun _ Eb => ?_; clear J K' Ea
  refine M1 Eb 97 fun K' J ρ q97 => ?_; go_simp; (try clear q97)
  refine Ln Eb J fun _ Ea => ?_; clear J K' Eb
  refine M1 Ea 97 fun K' J ρ q97 => ?_; go_simp; (try clear q97)
  refine Ln Ea J fun _ Eb => ?_; clear J K' Ea
  refine M0 fun K' J ρ => ?_; go_simp;
  refine Ln Eb J fun _ Ea => ?_; clear J K' Eb
  refine M2 Ea 23 100 fun K' J ρ q23 q100 => ?_; go_simp; (try clear q23 q100)
  refine late_skip Ea J (fun _ Eb => ?_); clear J K'; clear Ea
  refine M1 Eb 101 fun K' J ρ q101 => ?_; go_simp; (try clear q101)
  refine Ln Eb J fun _ Ea => ?_; clear J K' Eb
  refine late_done [11, 12, 13, 14, 15, 16, 17, 18, 19, 20, 21, 22, 23, 24] Ea hK (fun a hE => ?_); clear hK K Q' Ea; simp only [lk, pick, Nat.reduceEqDiff, ↓reduceIte] at hE
  have hbv7a := hbv6.trans (hv7a.mono hbv6.size)
  replace hCY1 := hCY1.below hv7a
  clear nY1 cY10 cY11
  have nY1 := hCY1.1; have cY10 := hCY1.2 0 _ rfl; have cY11 := hCY1.2 1 _ rfl
  replace hCY2 := hCY2.below hv7a
  clear nY2 cY20 cY21
  have nY2 := hCY2.1; have cY20 := hCY2.2 0 _ rfl; have cY21 := hCY2.2 1 _ rfl
  replace hCY3 := hCY3.below hv7a
  clear nY3 cY30 cY31
  have nY3 := hCY3.1; have cY30 := hCY3.2 0 _ rfl; have cY31 := hCY3.2 1 _ rfl
  replace hCY4 := hCY4.below hv7a
  clear nY4 cY40 cY41
  have nY4 := hCY4.1; have cY40 := hCY4.2 0 _ rfl; have cY41 := hCY4.2 1 _ rfl
  replace hM := hM.below hv7a
  replace hTw := hTw.below hv7a
  replace hCB := hCB.below hv7a
  replace hC8 := hC8.below hv7a
  replace hS8 := hS8.below hv7a
  replace hT1 := hT1.below hv7a
  replace hT2 := hT2.below hv7a
  obtain ⟨Y5, hY5e⟩ : ∃ B, B = v7a.heap.size := ⟨_, rfl⟩; rw [← hY5e] at hE; refine world_cut (fun wt => Below v7a.heap.size v7a wt ∧ Cells wt Y5 [.int .i64 g1, .int .i64 g2]) ⟨(Below.refl _ _).alloc (Nat.le_refl _) _, by rw [hY5e]; exact cells_new _ _ _⟩ (fun v7 hCut => ?_); obtain ⟨hbv7, hCY5⟩ := hCut; clear hY5e
  have kv7 := hbv7
  clear hbv7
  have hbv7 := hbv7a.trans (kv7.mono hbv7a.size)
  replace hCY1 := hCY1.below kv7
  clear nY1 cY10 cY11
  have nY1 := hCY1.1; have cY10 := hCY1.2 0 _ rfl; have cY11 := hCY1.2 1 _ rfl
  replace hCY2 := hCY2.below kv7
  clear nY2 cY20 cY21
  have nY2 := hCY2.1; have cY20 := hCY2.2 0 _ rfl; have cY21 := hCY2.2 1 _ rfl
  replace hCY3 := hCY3.below kv7
  clear nY3 cY30 cY31
  have nY3 := hCY3.1; have cY30 := hCY3.2 0 _ rfl; have cY31 := hCY3.2 1 _ rfl
  replace hCY4 := hCY4.below kv7
  clear nY4 cY40 cY41
  have nY4 := hCY4.1; have cY40 := hCY4.2 0 _ rfl; have cY41 := hCY4.2 1 _ rfl
  replace hM := hM.below kv7
  replace hTw := hTw.below kv7
  replace hCB := hCB.below kv7
  replace hC8 := hC8.below kv7
  replace hS8 := hS8.below kv7
  replace hT1 := hT1.below kv7
  replace hT2 := hT2.below kv7
  have nY5 := hCY5.1; have cY50 := hCY5.2 0 _ rfl; have cY51 := hCY5.2 1 _ rfl
  by_cases hf0 : f = 0
  ·obtain ⟨he0, ⟨i1, i2⟩, ⟨i3, i4⟩, hin⟩ := L3.out hf0
   subst hf0
   subst he0
   have HIN := hid fun (k : Nat) (hk : k < fl.length) => atN_mem (hin fl[k] (List.getElem_mem hk))
   have I1 := hid fun (W : World) => ins_yes (a := (t1 : Int)) (z := t2) (lo := a1) (hi := a2) ⟨by omega, by omega⟩ W
   have I2 := hid fun (W : World) => ins_yes (a := (g1 : Int)) (z := g2) (lo := p1) (hi := p2) ⟨by omega, by omega⟩ W
   have HAt := hid fun (i : Nat) (W : World) (hW : ArrD W T2 (nats fm)) => atC T2 u2 fm (by omega) i W hW
   clear i1 i2 i3 i4 hin L1 L2 L3
   refine Ks ?_
   refine Rs 44 fun Q' K hK => ?_
   refine M1 hE 15 fun K' J ρ q15 => ?_; go_simp; (try clear q15)
   refine Ln hE J fun _ Eb => ?_; clear J K' hE a
   refine M1 Eb 11 fun K' J ρ q11 => ?_; go_simp; (try clear q11)
   refine Ln Eb J fun _ Ea => ?_; clear J K' Eb
   refine M2 Ea 102 103 fun K' J ρ q102 q103 => ?_; go_simp; (try go_bits); (try clear q102 q103)
   refine Ln Ea J fun _ Eb => ?_; clear J K' Ea
   refine M1 Eb 104 fun K' J ρ q104 => ?_; go_simp; (try clear q104)
   refine Ln Eb J fun _ Ea => ?_; clear J K' Eb
   refine N1 Ea 105 16 fun K' J ρ q16 => ?_; go_simp; (try clear q16)
   refine Ln Ea J fun _ Eb => ?_; clear J K' Ea
   refine N1 Eb 105 12 fun K' J ρ q12 => ?_; go_simp; (try clear q12)
   refine Ln Eb J fun _ Ea => ?_; clear J K' Eb
   refine N2 Ea 105 106 107 fun K' J ρ q106 q107 => ?_; go_simp; (try go_bits); (try clear q106 q107)
   refine Ln Ea J fun _ Eb => ?_; clear J K' Ea
   refine M2 Eb 105 108 fun K' J ρ q105 q108 => ?_; go_simp; (try go_bits); (try clear q105 q108)
   refine Ln Eb J fun _ Ea => ?_; clear J K' Eb
   refine M1 Ea 109 fun K' J ρ q109 => ?_; go_simp; (try clear q109)
   refine Ln Ea J fun _ Eb => ?_; clear J K' Ea
   refine N1 Eb 110 18 fun K' J ρ q18 => ?_; go_simp; (try clear q18)
   refine Ln Eb J fun _ Ea => ?_; clear J K' Eb
   refine N1 Ea 110 12 fun K' J ρ q12 => ?_; go_simp; (try clear q12)
   refine Ln Ea J fun _ Eb => ?_; clear J K' Ea
   refine N2 Eb 110 111 112 fun K' J ρ q111 q112 => ?_; go_simp; (try go_bits); (try clear q111 q112)
   refine Ln Eb J fun _ Ea => ?_; clear J K' Eb
   refine M2 Ea 110 113 fun K' J ρ q110 q113 => ?_; go_simp; (try go_bits); (try clear q110 q113)
   refine Ln Ea J fun _ Eb => ?_; clear J K' Ea
   refine M1 Eb 114 fun K' J ρ q114 => ?_; go_simp; (try clear q114)
   refine Ln Eb J fun _ Ea => ?_; clear J K' Eb
   refine N1 Ea 115 20 fun K' J ρ q20 => ?_; go_simp; (try clear q20)
   refine Ln Ea J fun _ Eb => ?_; clear J K' Ea
   refine N1 Eb 115 14 fun K' J ρ q14 => ?_; go_simp; (try clear q14)
   refine Ln Eb J fun _ Ea => ?_; clear J K' Eb
   refine N2 Ea 115 116 117 fun K' J ρ q116 q117 => ?_; go_simp; (try go_bits); (try clear q116 q117)
   refine Ln Ea J fun _ Eb => ?_; clear J K' Ea
   refine M2 Eb 115 118 fun K' J ρ q115 q118 => ?_; go_simp; (try go_bits); (try clear q115 q118)
   refine Ln Eb J fun _ Ea => ?_; clear J K' Eb
   refine M1 Ea 119 fun K' J ρ q119 => ?_; go_simp; (try clear q119)
   refine Ln Ea J fun _ Eb => ?_; clear J K' Ea
   refine N1 Eb 120 22 fun K' J ρ q22 => ?_; go_simp; (try clear q22)
   refine Ln Eb J fun _ Ea => ?_; clear J K' Eb
   refine N1 Ea 120 12 fun K' J ρ q12 => ?_; go_simp; (try clear q12)
   refine Ln Ea J fun _ Eb => ?_; clear J K' Ea
   refine N2 Eb 120 121 122 fun K' J ρ q121 q122 => ?_; go_simp; (try go_bits); (try clear q121 q122)
   refine Ln Eb J fun _ Ea => ?_; clear J K' Eb
   refine M2 Ea 120 123 fun K' J ρ q120 q123 => ?_; go_simp; (try go_bits); (try clear q120 q123)
   refine Ln Ea J fun _ Eb => ?_; clear J K' Ea
   refine M1 Eb 124 fun K' J ρ q124 => ?_; go_simp; (try clear q124)
   refine Ln Eb J fun _ Ea => ?_; clear J K' Eb
   refine N1 Ea 125 24 fun K' J ρ q24 => ?_; go_simp; (try clear q24)
   refine Ln Ea J fun _ Eb => ?_; clear J K' Ea
   refine N1 Eb 125 14 fun K' J ρ q14 => ?_; go_simp; (try clear q14)
   refine Ln Eb J fun _ Ea => ?_; clear J K' Eb
   refine N2 Ea 125 126 127 fun K' J ρ q126 q127 => ?_; go_simp; (try go_bits); (try clear q126 q127)
   refine Ln Ea J fun _ Eb => ?_; clear J K' Ea
   refine M2 Eb 125 128 fun K' J ρ q125 q128 => ?_; go_simp; (try go_bits); (try clear q125 q128)
   refine Ln Eb J fun _ Ea => ?_; clear J K' Eb
   refine M1 Ea 129 fun K' J ρ q129 => ?_; go_simp; (try clear q129)
   refine Ln Ea J fun _ Eb => ?_; clear J K' Ea
   refine N1 Eb 130 14 fun K' J ρ q14 => ?_; go_simp; (try clear q14)
   refine Ln Eb J fun _ Ea => ?_; clear J K' Eb
   refine N1 Ea 130 131 fun K' J ρ q131 => ?_; go_simp; (try go_bits); (try clear q131)
   refine Ln Ea J fun _ Eb => ?_; clear J K' Ea
   refine N1 Eb 130 132 fun K' J ρ q132 => ?_; go_simp; (try clear q132)
   refine Ln Eb J fun _ Ea => ?_; clear J K' Eb
   refine N1 Ea 133 12 fun K' J ρ q12 => ?_; go_simp; (try clear q12)
   refine Ln Ea J fun _ Eb => ?_; clear J K' Ea
   refine N1 Eb 133 134 fun K' J ρ q134 => ?_; go_simp; (try go_bits); (try clear q134)
   refine Ln Eb J fun _ Ea => ?_; clear J K' Eb
   refine N2 Ea 130 133 135 fun K' J ρ q133 q135 => ?_; go_simp; (try go_bits); (try clear q133 q135)
   refine Ln Ea J fun _ Eb => ?_; clear J K' Ea
   refine M2 Eb 130 136 fun K' J ρ q130 q136 => ?_; go_simp; (try go_bits); (try clear q130 q136)
   refine Ln Eb J fun _ Ea => ?_; clear J K' Eb
   refine M1 Ea 137 fun K' J ρ q137 => ?_; go_simp; (try clear q137)
   refine Ln Ea J fun _ Eb => ?_; clear J K' Ea
   refine N1 Eb 138 12 fun K' J ρ q12 => ?_; go_simp; (try clear q12)
   refine Ln Eb J fun _ Ea => ?_; clear J K' Eb
   refine N1 Ea 138 139 fun K' J ρ q139 => ?_; go_simp; (try go_bits); (try clear q139)
   refine Ln Ea J fun _ Eb => ?_; clear J K' Ea
   refine N1 Eb 138 140 fun K' J ρ q140 => ?_; go_simp; (try clear q140)
   refine Ln Eb J fun _ Ea => ?_; clear J K' Eb
   refine Lno Ea 141 ?_
   refine Lu Ea fun _ Eb => ?_
   refine Lno Eb 141 ?_
   refine Lu Eb fun _ Ea => ?_
   refine N2 Ea 138 141 143 fun K' J ρ q141 q143 => ?_; go_simp; (try go_bits); (try clear q141 q143)
   refine Ln Ea J fun _ Eb => ?_; clear J K' Ea
   refine M2 Eb 138 144 fun K' J ρ q138 q144 => ?_; go_simp; (try go_bits); (try clear q138 q144)
   refine Ln Eb J fun _ Ea => ?_; clear J K' Eb
   replace Ea := Ea.turn 145 (v' := .bool false) rfl (by (first | rfl | simp))
   refine late_done [11, 13, 14, 17, 19, 21, 23, 145] Ea hK (fun a hE => ?_); clear hK K Q' Ea; simp only [lk, pick, Nat.reduceEqDiff, ↓reduceIte] at hE
   refine Ks ?_
   refine cond_no hE (t := 145) rfl ?_
   refine Ks ?_
   refine Rs 2 fun Q' K hK => ?_
   refine M1 hE 14 fun K' J ρ q14 => ?_; go_simp; (try clear q14)
   refine Ln hE J fun _ Eb => ?_; clear J K' hE a
   refine M1 Eb 146 fun K' J ρ q146 => ?_; go_simp; (try go_bits); (try clear q146)
   refine Ln Eb J fun _ Ea => ?_; clear J K' Eb
   replace Ea := Ea.turn 147 (v' := .bool false) rfl (by (first | rfl | simp))
   refine late_done [11, 13, 14, 17, 19, 21, 23, 147] Ea hK (fun a hE => ?_); clear hK K Q' Ea; simp only [lk, pick, Nat.reduceEqDiff, ↓reduceIte] at hE
   refine Ks ?_
   refine cond_no hE (t := 147) rfl ?_
   refine Ks ?_
   refine Rs 1 fun Q' K hK => ?_
   refine M0 fun K' J ρ => ?_; go_simp;
   refine Ln hE J fun _ Eb => ?_; clear J K' hE a
   refine late_done [11, 13, 17, 19, 21, 23, 25] Eb hK (fun a hE => ?_); clear hK K Q' Eb; simp only [lk, pick, Nat.reduceEqDiff, ↓reduceIte] at hE
   refine Ks ?_
   have hTw1 := hTw
   have hT11 := hT1
   have hT21 := hT2
   have q1 := hCY1
   have q2 := hCY2
   have q4 := hCY4
   have q5 := hCY5
   clear hTw hT1 hT2 hCY1 hCY2 hCY3 hCY4 hCY5 nY1 nY2 nY3 nY4 nY5 cY10 cY11 cY20 cY21 cY30 cY31 cY40 cY41 cY50 cY51
   refine loop_st (fun (k : Nat) a w' => k ≤ fl.length ∧ Fits 181 [(11, .pointer (some ⟨Y1, 0, none⟩)), (13, .pointer (some ⟨Y2, 0, none⟩)), (17, .slice T1 fl.length u1), (19, .slice T2 fm.length u2), (21, .pointer (some ⟨Y4, 0, none⟩)), (23, .pointer (some ⟨Y5, 0, none⟩)), (25, .int .i64 k)] a ∧ Below v7.heap.size v7 w') (fun k => fl.length - k) 0 ⟨Nat.zero_le _, by simpa using hE, Below.refl _ _⟩ (fun k a ws hI => ?_)
   clear hE
   obtain ⟨hk2, hE, hW⟩ := hI
   have hbs := hbv7.trans (hW.mono hbv7.size)
   have hT1 := hT11.below hW
   have hT2 := hT21.below hW
   have hTw := hTw1.below hW
   have hCY1 := q1.below hW
   have hCY2 := q2.below hW
   have hCY4 := q4.below hW
   have hCY5 := q5.below hW
   by_cases hlt2 : k < fl.length
   ·have hltI : (k : Int) < fl.length := by omega
    have hAk := HIN.out k hlt2
    obtain ⟨bx, ox, hTe, hbx, x0⟩ := hT1.nat hlt2
    subst hTe
    obtain ⟨y, hy⟩ : ∃ y, fl[k] = y := ⟨_, rfl⟩
    rw [hy] at hAk x0
    obtain ⟨z, hz⟩ : ∃ z, atI (fm.map fun (n : Nat) => (n : Int)) (y : Int) = z := ⟨_, rfl⟩
    have hA := HAt.out y _ hT2
    rw [hz] at hAk hA
    have HA := hid hA
    clear hA hz hy
    refine Ks ?_
    refine Rs 4 fun Q' K hK => ?_
    refine M1 hE 25 fun K' J ρ q25 => ?_; go_simp; (try clear q25)
    refine Ln hE J fun _ Eb => ?_; clear J K' hE a
    refine M1 Eb 17 fun K' J ρ q17 => ?_; go_simp; (try clear q17)
    refine Ln Eb J fun _ Ea => ?_; clear J K' Eb
    refine M1 Ea 158 fun K' J ρ q158 => ?_; go_simp; (try go_bits); (try clear q158)
    refine Ln Ea J fun _ Eb => ?_; clear J K' Ea
    refine M2 Eb 157 159 fun K' J ρ q157 q159 => ?_; go_simp; (try go_bits); (try clear q157 q159)
    refine Ln Eb J fun _ Ea => ?_; clear J K' Eb
    replace Ea := Ea.turn 160 (v' := .bool true) rfl (by (first | (simp; done) | (simp; omega)))
    refine late_done [11, 13, 17, 19, 21, 23, 25, 160] Ea hK (fun a hE => ?_); clear hK K Q' Ea; simp only [lk, pick, Nat.reduceEqDiff, ↓reduceIte] at hE
    refine Ks ?_
    refine cond_yes hE (t := 160) rfl ?_
    refine Ks ?_
    refine Rs 7 fun Q' K hK => ?_
    refine M1 hE 19 fun K' J ρ q19 => ?_; go_simp; (try clear q19)
    refine Ln hE J fun _ Eb => ?_; clear J K' hE a
    refine M1 Eb 17 fun K' J ρ q17 => ?_; go_simp; (try clear q17)
    refine Ln Eb J fun _ Ea => ?_; clear J K' Eb
    refine M1 Ea 25 fun K' J ρ q25 => ?_; go_simp; (try clear q25)
    refine Ln Ea J fun _ Eb => ?_; clear J K' Ea
    refine M2 Eb 164 165 fun K' J ρ q164 q165 => ?_; go_simp; (try go_bits); (try clear q164 q165)
    refine Ln Eb J fun _ Ea => ?_; clear J K' Eb
    refine M1 Ea 166 fun K' J ρ q166 => ?_; go_simp; (try clear q166)
    refine Ln Ea J fun _ Eb => ?_; clear J K' Ea
    refine M2 Eb 163 167 fun K' J ρ q163 q167 => ?_; go_simp; (try go_bits); (try clear q163 q167)
    go_at_call 39; refine (HA.out).mono ?_; rintro e' wu ⟨rfl, hu⟩
    (try clear r163 r167)
    refine Ln Eb J fun _ Ea => ?_; clear J K' Eb
    refine M1 Ea 168 fun K' J ρ q168 => ?_; go_simp; (try go_bits); (try clear q168)
    refine Ln Ea J fun _ Eb => ?_; clear J K' Ea
    replace Eb := Eb.turn 169 (v' := .bool false) rfl (by (first | (simp; done) | (simp; omega)))
    refine late_done [11, 13, 17, 19, 21, 23, 25, 169] Eb hK (fun a hE => ?_); clear hK K Q' Eb; simp only [lk, pick, Nat.reduceEqDiff, ↓reduceIte] at hE
    have hWu := hW.trans (hu.mono hW.size)
    refine Ks ?_
    refine cond_no hE (t := 169) rfl ?_
    refine Ks ?_
    refine Rs 3 fun Q' K hK => ?_
    refine M1 hE 25 fun K' J ρ q25 => ?_; go_simp; (try clear q25)
    refine Ln hE J fun _ Eb => ?_; clear J K' hE a
    refine M1 Eb 161 fun K' J ρ q161 => ?_; go_simp; (try go_bits); (try simp (disch := omega) only [IntWalk.i64_in]); (try clear q161)
    refine Ln Eb J fun _ Ea => ?_; clear J K' Eb
    refine M1 Ea 162 fun K' J ρ q162 => ?_; go_simp; (try clear q162)
    refine Ln Ea J fun _ Eb => ?_; clear J K' Ea
    refine late_done [11, 13, 17, 19, 21, 23, 25] Eb hK (fun a hE => ?_); clear hK K Q' Eb; simp only [lk, pick, Nat.reduceEqDiff, ↓reduceIte] at hE
    refine Ks ?_
    exact ⟨k + 1, ⟨hlt2, by simpa using hE, hWu⟩, by omega⟩
   ·have hke2 : k = fl.length := by omega
    subst hke2
    have nY1 := hCY1.1; have cY10 := hCY1.2 0 _ rfl; have cY11 := hCY1.2 1 _ rfl
    have nY2 := hCY2.1; have cY20 := hCY2.2 0 _ rfl; have cY21 := hCY2.2 1 _ rfl
    have nY4 := hCY4.1; have cY40 := hCY4.2 0 _ rfl; have cY41 := hCY4.2 1 _ rfl
    have nY5 := hCY5.1; have cY50 := hCY5.2 0 _ rfl; have cY51 := hCY5.2 1 _ rfl
    refine Ks ?_
    refine Rs 4 fun Q' K hK => ?_
    refine M1 hE 25 fun K' J ρ q25 => ?_; go_simp; (try clear q25)
    refine Ln hE J fun _ Eb => ?_; clear J K' hE a
    refine M1 Eb 17 fun K' J ρ q17 => ?_; go_simp; (try clear q17)
    refine Ln Eb J fun _ Ea => ?_; clear J K' Eb
    refine M1 Ea 158 fun K' J ρ q158 => ?_; go_simp; (try go_bits); (try clear q158)
    refine Ln Ea J fun _ Eb => ?_; clear J K' Ea
    refine M2 Eb 157 159 fun K' J ρ q157 q159 => ?_; go_simp; (try go_bits); (try clear q157 q159)
    refine Ln Eb J fun _ Ea => ?_; clear J K' Eb
    replace Ea := Ea.turn 160 (v' := .bool false) rfl (by (first | (simp; done) | (simp; omega)))
    refine late_done [11, 13, 17, 19, 21, 23, 25, 160] Ea hK (fun a hE => ?_); clear hK K Q' Ea; simp only [lk, pick, Nat.reduceEqDiff, ↓reduceIte] at hE
    refine Ks ?_
    refine cond_no hE (t := 160) rfl ?_
    refine Ks ?_
    refine Rs 12 fun Q' K hK => ?_
    refine M1 hE 13 fun K' J ρ q13 => ?_; go_simp; (try clear q13)
    refine Ln hE J fun _ Eb => ?_; clear J K' hE a
    refine M1 Eb 11 fun K' J ρ q11 => ?_; go_simp; (try clear q11)
    refine Ln Eb J fun _ Ea => ?_; clear J K' Eb
    refine M2 Ea 170 171 fun K' J ρ q170 q171 => ?_; go_simp; (try go_bits); (try clear q170 q171)
    go_at_call 42; refine (I1.out _).mono ?_; rintro e' wt ⟨rfl, ht⟩
    replace hCY4 := hCY4.below ht
    replace hCY5 := hCY5.below ht
    have d40 := hCY4.2 0 _ rfl
    have d41 := hCY4.2 1 _ rfl
    have d50 := hCY5.2 0 _ rfl
    have d51 := hCY5.2 1 _ rfl
    (try clear r170 r171)
    refine Ln Ea J fun _ Eb => ?_; clear J K' Ea
    refine M1 Eb 172 fun K' J ρ q172 => ?_; go_simp; (try clear q172)
    refine Ln Eb J fun _ Ea => ?_; clear J K' Eb
    refine N1 Ea 173 23 fun K' J ρ q23 => ?_; go_simp; (try clear q23)
    refine Ln Ea J fun _ Eb => ?_; clear J K' Ea
    refine N1 Eb 173 21 fun K' J ρ q21 => ?_; go_simp; (try clear q21)
    refine Ln Eb J fun _ Ea => ?_; clear J K' Eb
    refine N2 Ea 173 174 175 fun K' J ρ q174 q175 => ?_; go_simp; (try go_bits); (try clear q174 q175)
    go_at_call 42; refine (I2.out _).mono ?_; rintro e' wu ⟨rfl, hu⟩
    have htu := ht.trans (hu.mono ht.size)
    (try clear r174 r175)
    refine Ln Ea J fun _ Eb => ?_; clear J K' Ea
    refine M2 Eb 173 176 fun K' J ρ q173 q176 => ?_; go_simp; (try go_bits); (try clear q173 q176)
    refine Ln Eb J fun _ Ea => ?_; clear J K' Eb
    refine M1 Ea 177 fun K' J ρ q177 => ?_; go_simp; (try clear q177)
    refine Ln Ea J fun _ Eb => ?_; clear J K' Ea
    refine Ly Eb 178 fun K' J => ?_
    refine o0 fun ρ => ?_; go_simp; (try go_bits);
    go_at_call 22; refine (snowed_any _ (hTw.below htu)).mono ?_; rintro e' wv ⟨rfl, k9⟩
    have htv := htu.trans (k9.mono htu.size)
    refine Ln Eb J fun _ Ea => ?_; clear J K' Eb
    refine M2 Ea 178 179 fun K' J ρ q178 q179 => ?_; go_simp; (try go_bits); (try clear q178 q179)
    refine Ln Ea J fun _ Eb => ?_; clear J K' Ea
    refine M1 Eb 180 fun K' J ρ q180 => ?_; go_simp; (try clear q180)
    refine Ln Eb J fun _ Ea => ?_; clear J K' Eb
    refine late_done [6] Ea hK (fun a hE => ?_); clear hK K Q' Ea; simp only [lk, pick, Nat.reduceEqDiff, ↓reduceIte] at hE
    refine Ks ?_
    exact ret_one hE rfl rfl ⟨rfl, hbs.trans (htv.mono hbs.size)⟩
  ·have hff : f = 30 ∨ f = 32 := L2.out.resolve_left hf0
   have hee := L1.out
   clear L1 L2 L3 hf0 hT1 hT2
   rcases hee with he0 | he0 <;> rcases hff with hf0 | hf0 <;> subst he0 <;> subst hf0
   ·skip
    refine Ks ?_
    refine Rs 44 fun Q' K hK => ?_
    refine M1 hE 15 fun K' J ρ q15 => ?_; go_simp; (try clear q15)
    refine Ln hE J fun _ Eb => ?_; clear J K' hE a
    refine M1 Eb 11 fun K' J ρ q11 => ?_; go_simp; (try clear q11)
    refine Ln Eb J fun _ Ea => ?_; clear J K' Eb
    refine M2 Ea 102 103 fun K' J ρ q102 q103 => ?_; go_simp; (try go_bits); (try clear q102 q103)
    refine Ln Ea J fun _ Eb => ?_; clear J K' Ea
    refine M1 Eb 104 fun K' J ρ q104 => ?_; go_simp; (try clear q104)
    refine Ln Eb J fun _ Ea => ?_; clear J K' Eb
    refine N1 Ea 105 16 fun K' J ρ q16 => ?_; go_simp; (try clear q16)
    refine Ln Ea J fun _ Eb => ?_; clear J K' Ea
    refine N1 Eb 105 12 fun K' J ρ q12 => ?_; go_simp; (try clear q12)
    refine Ln Eb J fun _ Ea => ?_; clear J K' Eb
    refine N2 Ea 105 106 107 fun K' J ρ q106 q107 => ?_; go_simp; (try go_bits); (try clear q106 q107)
    refine Ln Ea J fun _ Eb => ?_; clear J K' Ea
    refine M2 Eb 105 108 fun K' J ρ q105 q108 => ?_; go_simp; (try go_bits); (try clear q105 q108)
    refine Ln Eb J fun _ Ea => ?_; clear J K' Eb
    refine M1 Ea 109 fun K' J ρ q109 => ?_; go_simp; (try clear q109)
    refine Ln Ea J fun _ Eb => ?_; clear J K' Ea
    refine N1 Eb 110 18 fun K' J ρ q18 => ?_; go_simp; (try clear q18)
    refine Ln Eb J fun _ Ea => ?_; clear J K' Eb
    refine N1 Ea 110 12 fun K' J ρ q12 => ?_; go_simp; (try clear q12)
    refine Ln Ea J fun _ Eb => ?_; clear J K' Ea
    refine N2 Eb 110 111 112 fun K' J ρ q111 q112 => ?_; go_simp; (try go_bits); (try clear q111 q112)
    refine Ln Eb J fun _ Ea => ?_; clear J K' Eb
    refine M2 Ea 110 113 fun K' J ρ q110 q113 => ?_; go_simp; (try go_bits); (try clear q110 q113)
    refine Ln Ea J fun _ Eb => ?_; clear J K' Ea
    refine M1 Eb 114 fun K' J ρ q114 => ?_; go_simp; (try clear q114)
    refine Ln Eb J fun _ Ea => ?_; clear J K' Eb
    refine N1 Ea 115 20 fun K' J ρ q20 => ?_; go_simp; (try clear q20)
    refine Ln Ea J fun _ Eb => ?_; clear J K' Ea
    refine N1 Eb 115 14 fun K' J ρ q14 => ?_; go_simp; (try clear q14)
    refine Ln Eb J fun _ Ea => ?_; clear J K' Eb
    refine N2 Ea 115 116 117 fun K' J ρ q116 q117 => ?_; go_simp; (try go_bits); (try clear q116 q117)
    refine Ln Ea J fun _ Eb => ?_; clear J K' Ea
    refine M2 Eb 115 118 fun K' J ρ q115 q118 => ?_; go_simp; (try go_bits); (try clear q115 q118)
    refine Ln Eb J fun _ Ea => ?_; clear J K' Eb
    refine M1 Ea 119 fun K' J ρ q119 => ?_; go_simp; (try clear q119)
    refine Ln Ea J fun _ Eb => ?_; clear J K' Ea
    refine N1 Eb 120 22 fun K' J ρ q22 => ?_; go_simp; (try clear q22)
    refine Ln Eb J fun _ Ea => ?_; clear J K' Eb
    refine N1 Ea 120 12 fun K' J ρ q12 => ?_; go_simp; (try clear q12)
    refine Ln Ea J fun _ Eb => ?_; clear J K' Ea
    refine N2 Eb 120 121 122 fun K' J ρ q121 q122 => ?_; go_simp; (try go_bits); (try clear q121 q122)
    refine Ln Eb J fun _ Ea => ?_; clear J K' Eb
    refine M2 Ea 120 123 fun K' J ρ q120 q123 => ?_; go_simp; (try go_bits); (try clear q120 q123)
    refine Ln Ea J fun _ Eb => ?_; clear J K' Ea
    refine M1 Eb 124 fun K' J ρ q124 => ?_; go_simp; (try clear q124)
    refine Ln Eb J fun _ Ea => ?_; clear J K' Eb
    refine N1 Ea 125 24 fun K' J ρ q24 => ?_; go_simp; (try clear q24)
    refine Ln Ea J fun _ Eb => ?_; clear J K' Ea
    refine N1 Eb 125 14 fun K' J ρ q14 => ?_; go_simp; (try clear q14)
    refine Ln Eb J fun _ Ea => ?_; clear J K' Eb
    refine N2 Ea 125 126 127 fun K' J ρ q126 q127 => ?_; go_simp; (try go_bits); (try clear q126 q127)
    refine Ln Ea J fun _ Eb => ?_; clear J K' Ea
    refine M2 Eb 125 128 fun K' J ρ q125 q128 => ?_; go_simp; (try go_bits); (try clear q125 q128)
    refine Ln Eb J fun _ Ea => ?_; clear J K' Eb
    refine M1 Ea 129 fun K' J ρ q129 => ?_; go_simp; (try clear q129)
    refine Ln Ea J fun _ Eb => ?_; clear J K' Ea
    refine N1 Eb 130 14 fun K' J ρ q14 => ?_; go_simp; (try clear q14)
    refine Ln Eb J fun _ Ea => ?_; clear J K' Eb
    refine N1 Ea 130 131 fun K' J ρ q131 => ?_; go_simp; (try go_bits); (try clear q131)
    refine Ln Ea J fun _ Eb => ?_; clear J K' Ea
    refine N1 Eb 130 132 fun K' J ρ q132 => ?_; go_simp; (try clear q132)
    refine Ln Eb J fun _ Ea => ?_; clear J K' Eb
    refine Lno Ea 133 ?_
    refine Lu Ea fun _ Eb => ?_
    refine Lno Eb 133 ?_
    refine Lu Eb fun _ Ea => ?_
    refine N2 Ea 130 133 135 fun K' J ρ q133 q135 => ?_; go_simp; (try go_bits); (try clear q133 q135)
    refine Ln Ea J fun _ Eb => ?_; clear J K' Ea
    refine M2 Eb 130 136 fun K' J ρ q130 q136 => ?_; go_simp; (try go_bits); (try clear q130 q136)
    refine Ln Eb J fun _ Ea => ?_; clear J K' Eb
    refine M1 Ea 137 fun K' J ρ q137 => ?_; go_simp; (try clear q137)
    refine Ln Ea J fun _ Eb => ?_; clear J K' Ea
    refine N1 Eb 138 12 fun K' J ρ q12 => ?_; go_simp; (try clear q12)
    refine Ln Eb J fun _ Ea => ?_; clear J K' Eb
    refine N1 Ea 138 139 fun K' J ρ q139 => ?_; go_simp; (try go_bits); (try clear q139)
    refine Ln Ea J fun _ Eb => ?_; clear J K' Ea
    refine N1 Eb 138 140 fun K' J ρ q140 => ?_; go_simp; (try clear q140)
    refine Ln Eb J fun _ Ea => ?_; clear J K' Eb
    refine Lno Ea 141 ?_
    refine Lu Ea fun _ Eb => ?_
    refine Lno Eb 141 ?_
    refine Lu Eb fun _ Ea => ?_
    refine N2 Ea 138 141 143 fun K' J ρ q141 q143 => ?_; go_simp; (try go_bits); (try clear q141 q143)
    refine Ln Ea J fun _ Eb => ?_; clear J K' Ea
    refine M2 Eb 138 144 fun K' J ρ q138 q144 => ?_; go_simp; (try go_bits); (try clear q138 q144)
    refine Ln Eb J fun _ Ea => ?_; clear J K' Eb
    replace Ea := Ea.turn 145 (v' := .bool false) rfl (by (first | rfl | simp))
    refine late_done [11, 13, 14, 17, 19, 21, 23, 145] Ea hK (fun a hE => ?_); clear hK K Q' Ea; simp only [lk, pick, Nat.reduceEqDiff, ↓reduceIte] at hE
    refine Ks ?_
    refine cond_no hE (t := 145) rfl ?_
    refine Ks ?_
    refine Rs 2 fun Q' K hK => ?_
    refine M1 hE 14 fun K' J ρ q14 => ?_; go_simp; (try clear q14)
    refine Ln hE J fun _ Eb => ?_; clear J K' hE a
    refine M1 Eb 146 fun K' J ρ q146 => ?_; go_simp; (try go_bits); (try clear q146)
    refine Ln Eb J fun _ Ea => ?_; clear J K' Eb
    replace Ea := Ea.turn 147 (v' := .bool true) rfl (by (first | rfl | simp))
    refine late_done [11, 13, 14, 17, 19, 21, 23, 147] Ea hK (fun a hE => ?_); clear hK K Q' Ea; simp only [lk, pick, Nat.reduceEqDiff, ↓reduceIte] at hE
    refine Ks ?_
    refine cond_yes hE (t := 147) rfl ?_
    refine Ks ?_
    refine Rs 10 fun Q' K hK => ?_
    refine M1 hE 14 fun K' J ρ q14 => ?_; go_simp; (try clear q14)
    refine Ln hE J fun _ Eb => ?_; clear J K' hE a
    refine M1 Eb 148 fun K' J ρ q148 => ?_; go_simp; (try go_bits); (try clear q148)
    refine Ln Eb J fun _ Ea => ?_; clear J K' Eb
    refine M1 Ea 149 fun K' J ρ q149 => ?_; go_simp; (try clear q149)
    refine Ln Ea J fun _ Eb => ?_; clear J K' Ea
    refine Lno Eb 150 ?_
    refine Lu Eb fun _ Ea => ?_
    refine Lno Ea 150 ?_
    refine Lu Ea fun _ Eb => ?_
    refine M2 Eb 150 152 fun K' J ρ q150 q152 => ?_; go_simp; (try go_bits); (try clear q150 q152)
    refine Ln Eb J fun _ Ea => ?_; clear J K' Eb
    refine M1 Ea 153 fun K' J ρ q153 => ?_; go_simp; (try clear q153)
    refine Ln Ea J fun _ Eb => ?_; clear J K' Ea
    refine Ly Eb 154 fun K' J => ?_
    refine o0 fun ρ => ?_; go_simp; (try go_bits);
    go_at_call 22; refine (snowed_any _ hTw).mono ?_; rintro e' wv ⟨rfl, k9⟩
    refine Ln Eb J fun _ Ea => ?_; clear J K' Eb
    refine M2 Ea 154 155 fun K' J ρ q154 q155 => ?_; go_simp; (try go_bits); (try clear q154 q155)
    refine Ln Ea J fun _ Eb => ?_; clear J K' Ea
    refine M1 Eb 156 fun K' J ρ q156 => ?_; go_simp; (try clear q156)
    refine Ln Eb J fun _ Ea => ?_; clear J K' Eb
    refine late_done [6] Ea hK (fun a hE => ?_); clear hK K Q' Ea; simp only [lk, pick, Nat.reduceEqDiff, ↓reduceIte] at hE
    refine Ks ?_
    exact ret_one hE rfl rfl ⟨rfl, hbv7.trans (k9.mono hbv7.size)⟩
   ·skip
    refine Ks ?_
    refine Rs 44 fun Q' K hK => ?_
    refine M1 hE 15 fun K' J ρ q15 => ?_; go_simp; (try clear q15)
    refine Ln hE J fun _ Eb => ?_; clear J K' hE a
    refine M1 Eb 11 fun K' J ρ q11 => ?_; go_simp; (try clear q11)
    refine Ln Eb J fun _ Ea => ?_; clear J K' Eb
    refine M2 Ea 102 103 fun K' J ρ q102 q103 => ?_; go_simp; (try go_bits); (try clear q102 q103)
    refine Ln Ea J fun _ Eb => ?_; clear J K' Ea
    refine M1 Eb 104 fun K' J ρ q104 => ?_; go_simp; (try clear q104)
    refine Ln Eb J fun _ Ea => ?_; clear J K' Eb
    refine N1 Ea 105 16 fun K' J ρ q16 => ?_; go_simp; (try clear q16)
    refine Ln Ea J fun _ Eb => ?_; clear J K' Ea
    refine N1 Eb 105 12 fun K' J ρ q12 => ?_; go_simp; (try clear q12)
    refine Ln Eb J fun _ Ea => ?_; clear J K' Eb
    refine N2 Ea 105 106 107 fun K' J ρ q106 q107 => ?_; go_simp; (try go_bits); (try clear q106 q107)
    refine Ln Ea J fun _ Eb => ?_; clear J K' Ea
    refine M2 Eb 105 108 fun K' J ρ q105 q108 => ?_; go_simp; (try go_bits); (try clear q105 q108)
    refine Ln Eb J fun _ Ea => ?_; clear J K' Eb
    refine M1 Ea 109 fun K' J ρ q109 => ?_; go_simp; (try clear q109)
    refine Ln Ea J fun _ Eb => ?_; clear J K' Ea
    refine N1 Eb 110 18 fun K' J ρ q18 => ?_; go_simp; (try clear q18)
    refine Ln Eb J fun _ Ea => ?_; clear J K' Eb
    refine N1 Ea 110 12 fun K' J ρ q12 => ?_; go_simp; (try clear q12)
    refine Ln Ea J fun _ Eb => ?_; clear J K' Ea
    refine N2 Eb 110 111 112 fun K' J ρ q111 q112 => ?_; go_simp; (try go_bits); (try clear q111 q112)
    refine Ln Eb J fun _ Ea => ?_; clear J K' Eb
    refine M2 Ea 110 113 fun K' J ρ q110 q113 => ?_; go_simp; (try go_bits); (try clear q110 q113)
    refine Ln Ea J fun _ Eb => ?_; clear J K' Ea
    refine M1 Eb 114 fun K' J ρ q114 => ?_; go_simp; (try clear q114)
    refine Ln Eb J fun _ Ea => ?_; clear J K' Eb
    refine N1 Ea 115 20 fun K' J ρ q20 => ?_; go_simp; (try clear q20)
    refine Ln Ea J fun _ Eb => ?_; clear J K' Ea
    refine N1 Eb 115 14 fun K' J ρ q14 => ?_; go_simp; (try clear q14)
    refine Ln Eb J fun _ Ea => ?_; clear J K' Eb
    refine N2 Ea 115 116 117 fun K' J ρ q116 q117 => ?_; go_simp; (try go_bits); (try clear q116 q117)
    refine Ln Ea J fun _ Eb => ?_; clear J K' Ea
    refine M2 Eb 115 118 fun K' J ρ q115 q118 => ?_; go_simp; (try go_bits); (try clear q115 q118)
    refine Ln Eb J fun _ Ea => ?_; clear J K' Eb
    refine M1 Ea 119 fun K' J ρ q119 => ?_; go_simp; (try clear q119)
    refine Ln Ea J fun _ Eb => ?_; clear J K' Ea
    refine N1 Eb 120 22 fun K' J ρ q22 => ?_; go_simp; (try clear q22)
    refine Ln Eb J fun _ Ea => ?_; clear J K' Eb
    refine N1 Ea 120 12 fun K' J ρ q12 => ?_; go_simp; (try clear q12)
    refine Ln Ea J fun _ Eb => ?_; clear J K' Ea
    refine N2 Eb 120 121 122 fun K' J ρ q121 q122 => ?_; go_simp; (try go_bits); (try clear q121 q122)
    refine Ln Eb J fun _ Ea => ?_; clear J K' Eb
    refine M2 Ea 120 123 fun K' J ρ q120 q123 => ?_; go_simp; (try go_bits); (try clear q120 q123)
    refine Ln Ea J fun _ Eb => ?_; clear J K' Ea
    refine M1 Eb 124 fun K' J ρ q124 => ?_; go_simp; (try clear q124)
    refine Ln Eb J fun _ Ea => ?_; clear J K' Eb
    refine N1 Ea 125 24 fun K' J ρ q24 => ?_; go_simp; (try clear q24)
    refine Ln Ea J fun _ Eb => ?_; clear J K' Ea
    refine N1 Eb 125 14 fun K' J ρ q14 => ?_; go_simp; (try clear q14)
    refine Ln Eb J fun _ Ea => ?_; clear J K' Eb
    refine N2 Ea 125 126 127 fun K' J ρ q126 q127 => ?_; go_simp; (try go_bits); (try clear q126 q127)
    refine Ln Ea J fun _ Eb => ?_; clear J K' Ea
    refine M2 Eb 125 128 fun K' J ρ q125 q128 => ?_; go_simp; (try go_bits); (try clear q125 q128)
    refine Ln Eb J fun _ Ea => ?_; clear J K' Eb
    refine M1 Ea 129 fun K' J ρ q129 => ?_; go_simp; (try clear q129)
    refine Ln Ea J fun _ Eb => ?_; clear J K' Ea
    refine N1 Eb 130 14 fun K' J ρ q14 => ?_; go_simp; (try clear q14)
    refine Ln Eb J fun _ Ea => ?_; clear J K' Eb
    refine N1 Ea 130 131 fun K' J ρ q131 => ?_; go_simp; (try go_bits); (try clear q131)
    refine Ln Ea J fun _ Eb => ?_; clear J K' Ea
    refine N1 Eb 130 132 fun K' J ρ q132 => ?_; go_simp; (try clear q132)
    refine Ln Eb J fun _ Ea => ?_; clear J K' Eb
    refine Lno Ea 133 ?_
    refine Lu Ea fun _ Eb => ?_
    refine Lno Eb 133 ?_
    refine Lu Eb fun _ Ea => ?_
    refine N2 Ea 130 133 135 fun K' J ρ q133 q135 => ?_; go_simp; (try go_bits); (try clear q133 q135)
    refine Ln Ea J fun _ Eb => ?_; clear J K' Ea
    refine M2 Eb 130 136 fun K' J ρ q130 q136 => ?_; go_simp; (try go_bits); (try clear q130 q136)
    refine Ln Eb J fun _ Ea => ?_; clear J K' Eb
    refine M1 Ea 137 fun K' J ρ q137 => ?_; go_simp; (try clear q137)
    refine Ln Ea J fun _ Eb => ?_; clear J K' Ea
    refine N1 Eb 138 12 fun K' J ρ q12 => ?_; go_simp; (try clear q12)
    refine Ln Eb J fun _ Ea => ?_; clear J K' Eb
    refine N1 Ea 138 139 fun K' J ρ q139 => ?_; go_simp; (try go_bits); (try clear q139)
    refine Ln Ea J fun _ Eb => ?_; clear J K' Ea
    refine N1 Eb 138 140 fun K' J ρ q140 => ?_; go_simp; (try clear q140)
    refine Ln Eb J fun _ Ea => ?_; clear J K' Eb
    refine Lno Ea 141 ?_
    refine Lu Ea fun _ Eb => ?_
    refine Lno Eb 141 ?_
    refine Lu Eb fun _ Ea => ?_
    refine N2 Ea 138 141 143 fun K' J ρ q141 q143 => ?_; go_simp; (try go_bits); (try clear q141 q143)
    refine Ln Ea J fun _ Eb => ?_; clear J K' Ea
    refine M2 Eb 138 144 fun K' J ρ q138 q144 => ?_; go_simp; (try go_bits); (try clear q138 q144)
    refine Ln Eb J fun _ Ea => ?_; clear J K' Eb
    replace Ea := Ea.turn 145 (v' := .bool false) rfl (by (first | rfl | simp))
    refine late_done [11, 13, 14, 17, 19, 21, 23, 145] Ea hK (fun a hE => ?_); clear hK K Q' Ea; simp only [lk, pick, Nat.reduceEqDiff, ↓reduceIte] at hE
    refine Ks ?_
    refine cond_no hE (t := 145) rfl ?_
    refine Ks ?_
    refine Rs 2 fun Q' K hK => ?_
    refine M1 hE 14 fun K' J ρ q14 => ?_; go_simp; (try clear q14)
    refine Ln hE J fun _ Eb => ?_; clear J K' hE a
    refine M1 Eb 146 fun K' J ρ q146 => ?_; go_simp; (try go_bits); (try clear q146)
    refine Ln Eb J fun _ Ea => ?_; clear J K' Eb
    replace Ea := Ea.turn 147 (v' := .bool true) rfl (by (first | rfl | simp))
    refine late_done [11, 13, 14, 17, 19, 21, 23, 147] Ea hK (fun a hE => ?_); clear hK K Q' Ea; simp only [lk, pick, Nat.reduceEqDiff, ↓reduceIte] at hE
    refine Ks ?_
    refine cond_yes hE (t := 147) rfl ?_
    refine Ks ?_
    refine Rs 10 fun Q' K hK => ?_
    refine M1 hE 14 fun K' J ρ q14 => ?_; go_simp; (try clear q14)
    refine Ln hE J fun _ Eb => ?_; clear J K' hE a
    refine M1 Eb 148 fun K' J ρ q148 => ?_; go_simp; (try go_bits); (try clear q148)
    refine Ln Eb J fun _ Ea => ?_; clear J K' Eb
    refine M1 Ea 149 fun K' J ρ q149 => ?_; go_simp; (try clear q149)
    refine Ln Ea J fun _ Eb => ?_; clear J K' Ea
    refine N1 Eb 150 14 fun K' J ρ q14 => ?_; go_simp; (try clear q14)
    refine Ln Eb J fun _ Ea => ?_; clear J K' Eb
    refine N1 Ea 150 151 fun K' J ρ q151 => ?_; go_simp; (try go_bits); (try clear q151)
    refine Ln Ea J fun _ Eb => ?_; clear J K' Ea
    refine M2 Eb 150 152 fun K' J ρ q150 q152 => ?_; go_simp; (try go_bits); (try clear q150 q152)
    refine Ln Eb J fun _ Ea => ?_; clear J K' Eb
    refine M1 Ea 153 fun K' J ρ q153 => ?_; go_simp; (try clear q153)
    refine Ln Ea J fun _ Eb => ?_; clear J K' Ea
    refine Ly Eb 154 fun K' J => ?_
    refine o0 fun ρ => ?_; go_simp; (try go_bits);
    go_at_call 22; refine (snowed_any _ hTw).mono ?_; rintro e' wv ⟨rfl, k9⟩
    refine Ln Eb J fun _ Ea => ?_; clear J K' Eb
    refine M2 Ea 154 155 fun K' J ρ q154 q155 => ?_; go_simp; (try go_bits); (try clear q154 q155)
    refine Ln Ea J fun _ Eb => ?_; clear J K' Ea
    refine M1 Eb 156 fun K' J ρ q156 => ?_; go_simp; (try clear q156)
    refine Ln Eb J fun _ Ea => ?_; clear J K' Eb
    refine late_done [6] Ea hK (fun a hE => ?_); clear hK K Q' Ea; simp only [lk, pick, Nat.reduceEqDiff, ↓reduceIte] at hE
    refine Ks ?_
    exact ret_one hE rfl rfl ⟨rfl, hbv7.trans (k9.mono hbv7.size)⟩
   ·skip
    refine Ks ?_
    refine Rs 44 fun Q' K hK => ?_
    refine M1 hE 15 fun K' J ρ q15 => ?_; go_simp; (try clear q15)
    refine Ln hE J fun _ Eb => ?_; clear J K' hE a
    refine M1 Eb 11 fun K' J ρ q11 => ?_; go_simp; (try clear q11)
    refine Ln Eb J fun _ Ea => ?_; clear J K' Eb
    refine M2 Ea 102 103 fun K' J ρ q102 q103 => ?_; go_simp; (try go_bits); (try clear q102 q103)
    refine Ln Ea J fun _ Eb => ?_; clear J K' Ea
    refine M1 Eb 104 fun K' J ρ q104 => ?_; go_simp; (try clear q104)
    refine Ln Eb J fun _ Ea => ?_; clear J K' Eb
    refine N1 Ea 105 16 fun K' J ρ q16 => ?_; go_simp; (try clear q16)
    refine Ln Ea J fun _ Eb => ?_; clear J K' Ea
    refine N1 Eb 105 12 fun K' J ρ q12 => ?_; go_simp; (try clear q12)
    refine Ln Eb J fun _ Ea => ?_; clear J K' Eb
    refine N2 Ea 105 106 107 fun K' J ρ q106 q107 => ?_; go_simp; (try go_bits); (try clear q106 q107)
    refine Ln Ea J fun _ Eb => ?_; clear J K' Ea
    refine M2 Eb 105 108 fun K' J ρ q105 q108 => ?_; go_simp; (try go_bits); (try clear q105 q108)
    refine Ln Eb J fun _ Ea => ?_; clear J K' Eb
    refine M1 Ea 109 fun K' J ρ q109 => ?_; go_simp; (try clear q109)
    refine Ln Ea J fun _ Eb => ?_; clear J K' Ea
    refine N1 Eb 110 18 fun K' J ρ q18 => ?_; go_simp; (try clear q18)
    refine Ln Eb J fun _ Ea => ?_; clear J K' Eb
    refine N1 Ea 110 12 fun K' J ρ q12 => ?_; go_simp; (try clear q12)
    refine Ln Ea J fun _ Eb => ?_; clear J K' Ea
    refine N2 Eb 110 111 112 fun K' J ρ q111 q112 => ?_; go_simp; (try go_bits); (try clear q111 q112)
    refine Ln Eb J fun _ Ea => ?_; clear J K' Eb
    refine M2 Ea 110 113 fun K' J ρ q110 q113 => ?_; go_simp; (try go_bits); (try clear q110 q113)
    refine Ln Ea J fun _ Eb => ?_; clear J K' Ea
    refine M1 Eb 114 fun K' J ρ q114 => ?_; go_simp; (try clear q114)
    refine Ln Eb J fun _ Ea => ?_; clear J K' Eb
    refine N1 Ea 115 20 fun K' J ρ q20 => ?_; go_simp; (try clear q20)
    refine Ln Ea J fun _ Eb => ?_; clear J K' Ea
    refine N1 Eb 115 14 fun K' J ρ q14 => ?_; go_simp; (try clear q14)
    refine Ln Eb J fun _ Ea => ?_; clear J K' Eb
    refine N2 Ea 115 116 117 fun K' J ρ q116 q117 => ?_; go_simp; (try go_bits); (try clear q116 q117)
    refine Ln Ea J fun _ Eb => ?_; clear J K' Ea
    refine M2 Eb 115 118 fun K' J ρ q115 q118 => ?_; go_simp; (try go_bits); (try clear q115 q118)
    refine Ln Eb J fun _ Ea => ?_; clear J K' Eb
    refine M1 Ea 119 fun K' J ρ q119 => ?_; go_simp; (try clear q119)
    refine Ln Ea J fun _ Eb => ?_; clear J K' Ea
    refine N1 Eb 120 22 fun K' J ρ q22 => ?_; go_simp; (try clear q22)
    refine Ln Eb J fun _ Ea => ?_; clear J K' Eb
    refine N1 Ea 120 12 fun K' J ρ q12 => ?_; go_simp; (try clear q12)
    refine Ln Ea J fun _ Eb => ?_; clear J K' Ea
    refine N2 Eb 120 121 122 fun K' J ρ q121 q122 => ?_; go_simp; (try go_bits); (try clear q121 q122)
    refine Ln Eb J fun _ Ea => ?_; clear J K' Eb
    refine M2 Ea 120 123 fun K' J ρ q120 q123 => ?_; go_simp; (try go_bits); (try clear q120 q123)
    refine Ln Ea J fun _ Eb => ?_; clear J K' Ea
    refine M1 Eb 124 fun K' J ρ q124 => ?_; go_simp; (try clear q124)
    refine Ln Eb J fun _ Ea => ?_; clear J K' Eb
    refine N1 Ea 125 24 fun K' J ρ q24 => ?_; go_simp; (try clear q24)
    refine Ln Ea J fun _ Eb => ?_; clear J K' Ea
    refine N1 Eb 125 14 fun K' J ρ q14 => ?_; go_simp; (try clear q14)
    refine Ln Eb J fun _ Ea => ?_; clear J K' Eb
    refine N2 Ea 125 126 127 fun K' J ρ q126 q127 => ?_; go_simp; (try go_bits); (try clear q126 q127)
    refine Ln Ea J fun _ Eb => ?_; clear J K' Ea
    refine M2 Eb 125 128 fun K' J ρ q125 q128 => ?_; go_simp; (try go_bits); (try clear q125 q128)
    refine Ln Eb J fun _ Ea => ?_; clear J K' Eb
    refine M1 Ea 129 fun K' J ρ q129 => ?_; go_simp; (try clear q129)
    refine Ln Ea J fun _ Eb => ?_; clear J K' Ea
    refine N1 Eb 130 14 fun K' J ρ q14 => ?_; go_simp; (try clear q14)
    refine Ln Eb J fun _ Ea => ?_; clear J K' Eb
    refine N1 Ea 130 131 fun K' J ρ q131 => ?_; go_simp; (try go_bits); (try clear q131)
    refine Ln Ea J fun _ Eb => ?_; clear J K' Ea
    refine N1 Eb 130 132 fun K' J ρ q132 => ?_; go_simp; (try clear q132)
    refine Ln Eb J fun _ Ea => ?_; clear J K' Eb
    refine Lno Ea 133 ?_
    refine Lu Ea fun _ Eb => ?_
    refine Lno Eb 133 ?_
    refine Lu Eb fun _ Ea => ?_
    refine N2 Ea 130 133 135 fun K' J ρ q133 q135 => ?_; go_simp; (try go_bits); (try clear q133 q135)
    refine Ln Ea J fun _ Eb => ?_; clear J K' Ea
    refine M2 Eb 130 136 fun K' J ρ q130 q136 => ?_; go_simp; (try go_bits); (try clear q130 q136)
    refine Ln Eb J fun _ Ea => ?_; clear J K' Eb
    refine M1 Ea 137 fun K' J ρ q137 => ?_; go_simp; (try clear q137)
    refine Ln Ea J fun _ Eb => ?_; clear J K' Ea
    refine N1 Eb 138 12 fun K' J ρ q12 => ?_; go_simp; (try clear q12)
    refine Ln Eb J fun _ Ea => ?_; clear J K' Eb
    refine N1 Ea 138 139 fun K' J ρ q139 => ?_; go_simp; (try go_bits); (try clear q139)
    refine Ln Ea J fun _ Eb => ?_; clear J K' Ea
    refine N1 Eb 138 140 fun K' J ρ q140 => ?_; go_simp; (try clear q140)
    refine Ln Eb J fun _ Ea => ?_; clear J K' Eb
    refine N1 Ea 141 12 fun K' J ρ q12 => ?_; go_simp; (try clear q12)
    refine Ln Ea J fun _ Eb => ?_; clear J K' Ea
    refine N1 Eb 141 142 fun K' J ρ q142 => ?_; go_simp; (try go_bits); (try clear q142)
    refine Ln Eb J fun _ Ea => ?_; clear J K' Eb
    refine N2 Ea 138 141 143 fun K' J ρ q141 q143 => ?_; go_simp; (try go_bits); (try clear q141 q143)
    refine Ln Ea J fun _ Eb => ?_; clear J K' Ea
    refine M2 Eb 138 144 fun K' J ρ q138 q144 => ?_; go_simp; (try go_bits); (try clear q138 q144)
    refine Ln Eb J fun _ Ea => ?_; clear J K' Eb
    replace Ea := Ea.turn 145 (v' := .bool false) rfl (by (first | rfl | simp))
    refine late_done [11, 13, 14, 17, 19, 21, 23, 145] Ea hK (fun a hE => ?_); clear hK K Q' Ea; simp only [lk, pick, Nat.reduceEqDiff, ↓reduceIte] at hE
    refine Ks ?_
    refine cond_no hE (t := 145) rfl ?_
    refine Ks ?_
    refine Rs 2 fun Q' K hK => ?_
    refine M1 hE 14 fun K' J ρ q14 => ?_; go_simp; (try clear q14)
    refine Ln hE J fun _ Eb => ?_; clear J K' hE a
    refine M1 Eb 146 fun K' J ρ q146 => ?_; go_simp; (try go_bits); (try clear q146)
    refine Ln Eb J fun _ Ea => ?_; clear J K' Eb
    replace Ea := Ea.turn 147 (v' := .bool true) rfl (by (first | rfl | simp))
    refine late_done [11, 13, 14, 17, 19, 21, 23, 147] Ea hK (fun a hE => ?_); clear hK K Q' Ea; simp only [lk, pick, Nat.reduceEqDiff, ↓reduceIte] at hE
    refine Ks ?_
    refine cond_yes hE (t := 147) rfl ?_
    refine Ks ?_
    refine Rs 10 fun Q' K hK => ?_
    refine M1 hE 14 fun K' J ρ q14 => ?_; go_simp; (try clear q14)
    refine Ln hE J fun _ Eb => ?_; clear J K' hE a
    refine M1 Eb 148 fun K' J ρ q148 => ?_; go_simp; (try go_bits); (try clear q148)
    refine Ln Eb J fun _ Ea => ?_; clear J K' Eb
    refine M1 Ea 149 fun K' J ρ q149 => ?_; go_simp; (try clear q149)
    refine Ln Ea J fun _ Eb => ?_; clear J K' Ea
    refine Lno Eb 150 ?_
    refine Lu Eb fun _ Ea => ?_
    refine Lno Ea 150 ?_
    refine Lu Ea fun _ Eb => ?_
    refine M2 Eb 150 152 fun K' J ρ q150 q152 => ?_; go_simp; (try go_bits); (try clear q150 q152)
    refine Ln Eb J fun _ Ea => ?_; clear J K' Eb
    refine M1 Ea 153 fun K' J ρ q153 => ?_; go_simp; (try clear q153)
    refine Ln Ea J fun _ Eb => ?_; clear J K' Ea
    refine Ly Eb 154 fun K' J => ?_
    refine o0 fun ρ => ?_; go_simp; (try go_bits);
    go_at_call 22; refine (snowed_any _ hTw).mono ?_; rintro e' wv ⟨rfl, k9⟩
    refine Ln Eb J fun _ Ea => ?_; clear J K' Eb
    refine M2 Ea 154 155 fun K' J ρ q154 q155 => ?_; go_simp; (try go_bits); (try clear q154 q155)
    refine Ln Ea J fun _ Eb => ?_; clear J K' Ea
    refine M1 Eb 156 fun K' J ρ q156 => ?_; go_simp; (try clear q156)
    refine Ln Eb J fun _ Ea => ?_; clear J K' Eb
    refine late_done [6] Ea hK (fun a hE => ?_); clear hK K Q' Ea; simp only [lk, pick, Nat.reduceEqDiff, ↓reduceIte] at hE
    refine Ks ?_
    exact ret_one hE rfl rfl ⟨rfl, hbv7.trans (k9.mono hbv7.size)⟩
   ·skip
    refine Ks ?_
    refine Rs 44 fun Q' K hK => ?_
    refine M1 hE 15 fun K' J ρ q15 => ?_; go_simp; (try clear q15)
    refine Ln hE J fun _ Eb => ?_; clear J K' hE a
    refine M1 Eb 11 fun K' J ρ q11 => ?_; go_simp; (try clear q11)
    refine Ln Eb J fun _ Ea => ?_; clear J K' Eb
    refine M2 Ea 102 103 fun K' J ρ q102 q103 => ?_; go_simp; (try go_bits); (try clear q102 q103)
    refine Ln Ea J fun _ Eb => ?_; clear J K' Ea
    refine M1 Eb 104 fun K' J ρ q104 => ?_; go_simp; (try clear q104)
    refine Ln Eb J fun _ Ea => ?_; clear J K' Eb
    refine N1 Ea 105 16 fun K' J ρ q16 => ?_; go_simp; (try clear q16)
    refine Ln Ea J fun _ Eb => ?_; clear J K' Ea
    refine N1 Eb 105 12 fun K' J ρ q12 => ?_; go_simp; (try clear q12)
    refine Ln Eb J fun _ Ea => ?_; clear J K' Eb
    refine N2 Ea 105 106 107 fun K' J ρ q106 q107 => ?_; go_simp; (try go_bits); (try clear q106 q107)
    refine Ln Ea J fun _ Eb => ?_; clear J K' Ea
    refine M2 Eb 105 108 fun K' J ρ q105 q108 => ?_; go_simp; (try go_bits); (try clear q105 q108)
    refine Ln Eb J fun _ Ea => ?_; clear J K' Eb
    refine M1 Ea 109 fun K' J ρ q109 => ?_; go_simp; (try clear q109)
    refine Ln Ea J fun _ Eb => ?_; clear J K' Ea
    refine N1 Eb 110 18 fun K' J ρ q18 => ?_; go_simp; (try clear q18)
    refine Ln Eb J fun _ Ea => ?_; clear J K' Eb
    refine N1 Ea 110 12 fun K' J ρ q12 => ?_; go_simp; (try clear q12)
    refine Ln Ea J fun _ Eb => ?_; clear J K' Ea
    refine N2 Eb 110 111 112 fun K' J ρ q111 q112 => ?_; go_simp; (try go_bits); (try clear q111 q112)
    refine Ln Eb J fun _ Ea => ?_; clear J K' Eb
    refine M2 Ea 110 113 fun K' J ρ q110 q113 => ?_; go_simp; (try go_bits); (try clear q110 q113)
    refine Ln Ea J fun _ Eb => ?_; clear J K' Ea
    refine M1 Eb 114 fun K' J ρ q114 => ?_; go_simp; (try clear q114)
    refine Ln Eb J fun _ Ea => ?_; clear J K' Eb
    refine N1 Ea 115 20 fun K' J ρ q20 => ?_; go_simp; (try clear q20)
    refine Ln Ea J fun _ Eb => ?_; clear J K' Ea
    refine N1 Eb 115 14 fun K' J ρ q14 => ?_; go_simp; (try clear q14)
    refine Ln Eb J fun _ Ea => ?_; clear J K' Eb
    refine N2 Ea 115 116 117 fun K' J ρ q116 q117 => ?_; go_simp; (try go_bits); (try clear q116 q117)
    refine Ln Ea J fun _ Eb => ?_; clear J K' Ea
    refine M2 Eb 115 118 fun K' J ρ q115 q118 => ?_; go_simp; (try go_bits); (try clear q115 q118)
    refine Ln Eb J fun _ Ea => ?_; clear J K' Eb
    refine M1 Ea 119 fun K' J ρ q119 => ?_; go_simp; (try clear q119)
    refine Ln Ea J fun _ Eb => ?_; clear J K' Ea
    refine N1 Eb 120 22 fun K' J ρ q22 => ?_; go_simp; (try clear q22)
    refine Ln Eb J fun _ Ea => ?_; clear J K' Eb
    refine N1 Ea 120 12 fun K' J ρ q12 => ?_; go_simp; (try clear q12)
    refine Ln Ea J fun _ Eb => ?_; clear J K' Ea
    refine N2 Eb 120 121 122 fun K' J ρ q121 q122 => ?_; go_simp; (try go_bits); (try clear q121 q122)
    refine Ln Eb J fun _ Ea => ?_; clear J K' Eb
    refine M2 Ea 120 123 fun K' J ρ q120 q123 => ?_; go_simp; (try go_bits); (try clear q120 q123)
    refine Ln Ea J fun _ Eb => ?_; clear J K' Ea
    refine M1 Eb 124 fun K' J ρ q124 => ?_; go_simp; (try clear q124)
    refine Ln Eb J fun _ Ea => ?_; clear J K' Eb
    refine N1 Ea 125 24 fun K' J ρ q24 => ?_; go_simp; (try clear q24)
    refine Ln Ea J fun _ Eb => ?_; clear J K' Ea
    refine N1 Eb 125 14 fun K' J ρ q14 => ?_; go_simp; (try clear q14)
    refine Ln Eb J fun _ Ea => ?_; clear J K' Eb
    refine N2 Ea 125 126 127 fun K' J ρ q126 q127 => ?_; go_simp; (try go_bits); (try clear q126 q127)
    refine Ln Ea J fun _ Eb => ?_; clear J K' Ea
    refine M2 Eb 125 128 fun K' J ρ q125 q128 => ?_; go_simp; (try go_bits); (try clear q125 q128)
    refine Ln Eb J fun _ Ea => ?_; clear J K' Eb
    refine M1 Ea 129 fun K' J ρ q129 => ?_; go_simp; (try clear q129)
    refine Ln Ea J fun _ Eb => ?_; clear J K' Ea
    refine N1 Eb 130 14 fun K' J ρ q14 => ?_; go_simp; (try clear q14)
    refine Ln Eb J fun _ Ea => ?_; clear J K' Eb
    refine N1 Ea 130 131 fun K' J ρ q131 => ?_; go_simp; (try go_bits); (try clear q131)
    refine Ln Ea J fun _ Eb => ?_; clear J K' Ea
    refine N1 Eb 130 132 fun K' J ρ q132 => ?_; go_simp; (try clear q132)
    refine Ln Eb J fun _ Ea => ?_; clear J K' Eb
    refine Lno Ea 133 ?_
    refine Lu Ea fun _ Eb => ?_
    refine Lno Eb 133 ?_
    refine Lu Eb fun _ Ea => ?_
    refine N2 Ea 130 133 135 fun K' J ρ q133 q135 => ?_; go_simp; (try go_bits); (try clear q133 q135)
    refine Ln Ea J fun _ Eb => ?_; clear J K' Ea
    refine M2 Eb 130 136 fun K' J ρ q130 q136 => ?_; go_simp; (try go_bits); (try clear q130 q136)
    refine Ln Eb J fun _ Ea => ?_; clear J K' Eb
    refine M1 Ea 137 fun K' J ρ q137 => ?_; go_simp; (try clear q137)
    refine Ln Ea J fun _ Eb => ?_; clear J K' Ea
    refine N1 Eb 138 12 fun K' J ρ q12 => ?_; go_simp; (try clear q12)
    refine Ln Eb J fun _ Ea => ?_; clear J K' Eb
    refine N1 Ea 138 139 fun K' J ρ q139 => ?_; go_simp; (try go_bits); (try clear q139)
    refine Ln Ea J fun _ Eb => ?_; clear J K' Ea
    refine N1 Eb 138 140 fun K' J ρ q140 => ?_; go_simp; (try clear q140)
    refine Ln Eb J fun _ Ea => ?_; clear J K' Eb
    refine N1 Ea 141 12 fun K' J ρ q12 => ?_; go_simp; (try clear q12)
    refine Ln Ea J fun _ Eb => ?_; clear J K' Ea
    refine N1 Eb 141 142 fun K' J ρ q142 => ?_; go_simp; (try go_bits); (try clear q142)
    refine Ln Eb J fun _ Ea => ?_; clear J K' Eb
    refine N2 Ea 138 141 143 fun K' J ρ q141 q143 => ?_; go_simp; (try go_bits); (try clear q141 q143)
    refine Ln Ea J fun _ Eb => ?_; clear J K' Ea
    refine M2 Eb 138 144 fun K' J ρ q138 q144 => ?_; go_simp; (try go_bits); (try clear q138 q144)
    refine Ln Eb J fun _ Ea => ?_; clear J K' Eb
    replace Ea := Ea.turn 145 (v' := .bool false) rfl (by (first | rfl | simp))
    refine late_done [11, 13, 14, 17, 19, 21, 23, 145] Ea hK (fun a hE => ?_); clear hK K Q' Ea; simp only [lk, pick, Nat.reduceEqDiff, ↓reduceIte] at hE
    refine Ks ?_
    refine cond_no hE (t := 145) rfl ?_
    refine Ks ?_
    refine Rs 2 fun Q' K hK => ?_
    refine M1 hE 14 fun K' J ρ q14 => ?_; go_simp; (try clear q14)
    refine Ln hE J fun _ Eb => ?_; clear J K' hE a
    refine M1 Eb 146 fun K' J ρ q146 => ?_; go_simp; (try go_bits); (try clear q146)
    refine Ln Eb J fun _ Ea => ?_; clear J K' Eb
    replace Ea := Ea.turn 147 (v' := .bool true) rfl (by (first | rfl | simp))
    refine late_done [11, 13, 14, 17, 19, 21, 23, 147] Ea hK (fun a hE => ?_); clear hK K Q' Ea; simp only [lk, pick, Nat.reduceEqDiff, ↓reduceIte] at hE
    refine Ks ?_
    refine cond_yes hE (t := 147) rfl ?_
    refine Ks ?_
    refine Rs 10 fun Q' K hK => ?_
    refine M1 hE 14 fun K' J ρ q14 => ?_; go_simp; (try clear q14)
    refine Ln hE J fun _ Eb => ?_; clear J K' hE a
    refine M1 Eb 148 fun K' J ρ q148 => ?_; go_simp; (try go_bits); (try clear q148)
    refine Ln Eb J fun _ Ea => ?_; clear J K' Eb
    refine M1 Ea 149 fun K' J ρ q149 => ?_; go_simp; (try clear q149)
    refine Ln Ea J fun _ Eb => ?_; clear J K' Ea
    refine N1 Eb 150 14 fun K' J ρ q14 => ?_; go_simp; (try clear q14)
    refine Ln Eb J fun _ Ea => ?_; clear J K' Eb
    refine N1 Ea 150 151 fun K' J ρ q151 => ?_; go_simp; (try go_bits); (try clear q151)
    refine Ln Ea J fun _ Eb => ?_; clear J K' Ea
    refine M2 Eb 150 152 fun K' J ρ q150 q152 => ?_; go_simp; (try go_bits); (try clear q150 q152)
    refine Ln Eb J fun _ Ea => ?_; clear J K' Eb
    refine M1 Ea 153 fun K' J ρ q153 => ?_; go_simp; (try clear q153)
    refine Ln Ea J fun _ Eb => ?_; clear J K' Ea
    refine Ly Eb 154 fun K' J => ?_
    refine o0 fun ρ => ?_; go_simp; (try go_bits);
    go_at_call 22; refine (snowed_any _ hTw).mono ?_; rintro e' wv ⟨rfl, k9⟩
    refine Ln Eb J fun _ Ea => ?_; clear J K' Eb
    refine M2 Ea 154 155 fun K' J ρ q154 q155 => ?_; go_simp; (try go_bits); (try clear q154 q155)
    refine Ln Ea J fun _ Eb => ?_; clear J K' Ea
    refine M1 Eb 156 fun K' J ρ q156 => ?_; go_simp; (try clear q156)
    refine Ln Eb J fun _ Ea => ?_; clear J K' Eb
    refine late_done [6] Ea hK (fun a hE => ?_); clear hK K Q' Ea; simp only [lk, pick, Nat.reduceEqDiff, ↓reduceIte] at hE
    refine Ks ?_
    exact ret_one hE rfl rfl ⟨rfl, hbv7.trans (k9.mono hbv7.size)⟩
theorem SlopeMore_any (x : Si) (n : Int) (w : World) (hTw : TabW w) (hM : SbAt w H S b) (hh : b.hours.length ≤ 9223372036854775807) (hss : b.sights.length ≤ 9223372036854775807) : Calls Tryd.prog 10 #[.agg (sbV H hcap S scap b).toArray, .agg x.cells.toArray, .int .i64 n] w fun e w' => e = .returned (.bool true) ∧ Below w.heap.size w w' := by
 cases ho : b.ok
 ·exact more_bad H hcap S scap b ho x n w hTw hM hh hss
 ·have hb := ok_iff.1 ho
  by_cases h6 : b.sights.length = 6
  ·exact more_six H hcap S scap b hb h6 x n w hTw hM
  ·exact more_good H hcap S scap b hb (by have := hb.sights; omega) x n w hTw hM
end
end Go.Proofs.YtkhmcofmjjmjhaaDoor
