/- Slope: the law SlopeEnds. -/
import Derived.Test.YtkhmcofmjjmjhaaDoorScu
import Derived.Test.YtkhmcofmjjmjhaaDoorScn
namespace Go.Proofs.YtkhmcofmjjmjhaaDoor
set_option linter.unusedSimpArgs false
set_option linter.unusedVariables false
open Go Go.RowKit
attribute [local go_sem high] cell_set_wr
attribute [local go_sem low] cell_wr frozen_wr
attribute [local go_sem] wr_set wr_drew wr_drewN wr_alloc wr_new Rho.c Rho.n Rho.g

theorem exI_to {b : Sb} (hb : OkB b) (most : Bool) : ∀ k, k ≤ b.hours.length → 0 ≤ exI b most k ∧ exI b most k ≤ 300 + 95 * (k : Int)
 | 0, _ => by
  have hst := hb.start
  rw [exI_zero]
  split <;> omega
 | k + 1, hk => by
  have ih := exI_to hb most k (by omega)
  rw [exI_succ b most (by omega)]
  obtain ⟨h1, h2, h3⟩ := hb.hour b.hours[k] (List.getElem_mem _)
  have hs := hb.settle
  have m1 := mul_to hb.snow (b := (exH most b.hours[k]).n2) (d := 9) (by cases most <;> simp [exH] <;> omega)
  have m2 := mul_to hb.wind (b := (exH most b.hours[k]).w2) (d := 5) (by cases most <;> simp [exH] <;> omega)
  have m3 := mul_to hb.sun (b := (exH most b.hours[k]).s2) (d := 5) (by cases most <;> simp [exH] <;> omega)
  unfold stepT
  push_cast
  omega
/-- what a round of the law wants -/
theorem exI_round {b : Sb} (hb : OkB b) (most : Bool) {k : Nat} (hk : k < b.hours.length) {X : Hr} (hX : b.hours[k] = X) : (0 ≤ exI b most k ∧ exI b most k ≤ 2000) ∧ (0 ≤ b.sl.settle ∧ b.sl.settle ≤ 30) ∧ (0 ≤ b.sl.snow * (exH most X).n1 ∧ b.sl.snow * (exH most X).n1 ≤ 45) ∧ (0 ≤ b.sl.wind * (exH most X).w1 ∧ b.sl.wind * (exH most X).w1 ≤ 25) ∧ (0 ≤ b.sl.sun * (exH most X).s1 ∧ b.sl.sun * (exH most X).s1 ≤ 25) ∧
    exI b most (k + 1) = max 0 (exI b most k - b.sl.settle) + b.sl.snow * (exH most X).n1 + b.sl.wind * (exH most X).w1 + b.sl.sun * (exH most X).s1 := by
 have h0 := exI_to hb most k (by omega)
 have h12 := hb.hours
 obtain ⟨h1, h2, h3⟩ := hb.hour b.hours[k] (List.getElem_mem _)
 rw [hX] at h1 h2 h3
 have m1 := mul_to hb.snow (b := (exH most X).n1) (d := 9) (by cases most <;> simp [exH] <;> omega)
 have m2 := mul_to hb.wind (b := (exH most X).w1) (d := 5) (by cases most <;> simp [exH] <;> omega)
 have m3 := mul_to hb.sun (b := (exH most X).s1) (d := 5) (by cases most <;> simp [exH] <;> omega)
 refine ⟨⟨h0.1, by omega⟩, hb.settle, ⟨m1.1, by omega⟩, ⟨m2.1, by omega⟩, ⟨m3.1, by omega⟩, ?_⟩
 rw [exI_succ b most hk, hX]
 cases most <;> rfl
theorem NewT.on {T : TypeId} {n N : Nat} {v : Value} {w w' : World} (h : NewT T n N v w) (hb : Below w.heap.size w w') : NewT T n N v w' := by
 obtain ⟨C, h1, h2, cs, h3, h4⟩ := h
 exact ⟨C, h1, h2, cs, heap_kept h3 hb, h4⟩
theorem BkH.on {N : Nat} {c : Sb} {vs : List Value} {w w' : World} (h : BkH N c vs w) (hb : Below w.heap.size w w') : BkH N c vs w' := (BkH.stay N c 9).below _ _ _ hb h
section
variable (H : Option Addr) (hcap : Nat) (S : Option Addr) (scap : Nat) (b : Sb)
set_option maxRecDepth 100000 in
set_option maxHeartbeats 4000000 in
theorem ends_bad (ho : b.ok = false) (n : Int) (w : World) (hTw : TabW w) (hM : SbAt w H S b) (hh : b.hours.length ≤ 9223372036854775807) (hss : b.sights.length ≤ 9223372036854775807) : Calls Tryd.prog 7 #[.agg (sbV H hcap S scap b).toArray, .int .i64 n] w fun e w' => e = .returned (.bool true) ∧ Below w.heap.size w w' := by
 have C2 : Hid (∀ W, SbAt W H S b → Calls Tryd.prog 34 #[.agg (sbV H hcap S scap b).toArray] W fun e w' => e = .returned (.bool false) ∧ Below W.heap.size W w') := hid fun W hW => by
  have h := sound_any H hcap S scap b W hW hh hss
  rw [ho] at h
  exact h
 clear ho hh hss
 refine enterE Tryd.func7 rfl Tryd.ntmps7 (by simp) (fun a hE => ?_); simp only [envOf, Nat.zero_add, Nat.reduceAdd] at hE
 refine Ks ?_
 refine Rs 2 fun Q' K hK => ?_
 refine M1 hE 0 fun K' J ρ q0 => ?_; go_simp; (try clear q0)
 refine Ln hE J fun _ Eb => ?_; clear J K' hE a
 refine M0 fun K' J ρ => ?_; go_simp;
 refine Ln Eb J fun _ Ea => ?_; clear J K' Eb
 refine late_done [1, 2] Ea hK (fun a hE => ?_); clear hK K Q' Ea; simp only [lk, pick, Nat.reduceEqDiff, ↓reduceIte] at hE
 obtain ⟨B, hBe⟩ : ∃ B, B = w.heap.size := ⟨_, rfl⟩; rw [← hBe] at hE; refine world_cut (fun wt => Below w.heap.size w wt ∧ Cells wt B (sbV H hcap S scap b)) ⟨(Below.refl _ _).alloc (Nat.le_refl _) _, by rw [hBe]; exact cells_new _ _ _⟩ (fun w1 hCut => ?_); obtain ⟨hbw1, hCB⟩ := hCut; clear hBe
 replace hM := hM.below hbw1
 replace hTw := hTw.below hbw1
 have nB := hCB.1; have cB7 := hCB.2 7 _ rfl
 refine Ks ?_
 refine Rs 3 fun Q' K hK => ?_
 refine Lp fun K' J => ?_
 have r2 := hE.at 2 rfl
 refine wp_load_mid 29 (.tmp 2) rfl B 0 (eval_of r2) (sbV H hcap S scap b) _ (fun j u hu => by rw [Nat.zero_add]; exact hCB.2 j u hu) Tryd.underlying29 rfl (by kernel_rfl) ?_
 (try clear r2)
 refine Ln hE J fun _ Eb => ?_; clear J K' hE a
 refine M1 Eb 18 fun K' J ρ q18 => ?_; go_simp; (try go_bits); (try clear q18)
 go_at_call 34; refine (C2.out _ hM).mono ?_; rintro e w2 ⟨rfl, h2⟩
 (try clear r18)
 refine Ln Eb J fun _ Ea => ?_; clear J K' Eb
 refine M1 Ea 19 fun K' J ρ q19 => ?_; go_simp; (try go_bits); (try simp (disch := omega) only [IntWalk.i64_in]); (try clear q19)
 refine Ln Ea J fun _ Eb => ?_; clear J K' Ea
 replace Eb := Eb.turn 20 (v' := .bool true) rfl (by (first | rfl | simp))
 refine late_done [1, 2, 20] Eb hK (fun a hE => ?_); clear hK K Q' Eb; simp only [lk, pick, Nat.reduceEqDiff, ↓reduceIte] at hE
 have hbw2 := hbw1.trans (h2.mono hbw1.size)
 replace hCB := hCB.below h2
 clear nB cB7
 have nB := hCB.1; have cB7 := hCB.2 7 _ rfl
 replace hM := hM.below h2
 replace hTw := hTw.below h2
 refine Ks ?_
 refine cond_yes hE (t := 20) rfl ?_
 refine Ks ?_
 refine Rs 2 fun Q' K hK => ?_
 refine M0 fun K' J ρ => ?_; go_simp; (try go_bits);
 go_at_call 22; refine (snowed_any _ hTw).mono ?_; rintro e w9 ⟨rfl, k9⟩
 refine Ln hE J fun _ Eb => ?_; clear J K' hE a
 refine M1 Eb 21 fun K' J ρ q21 => ?_; go_simp; (try clear q21)
 refine Ln Eb J fun _ Ea => ?_; clear J K' Eb
 refine late_done [4] Ea hK (fun a hE => ?_); clear hK K Q' Ea; simp only [lk, pick, Nat.reduceEqDiff, ↓reduceIte] at hE
 refine Ks ?_
 exact ret_one hE rfl rfl ⟨rfl, hbw2.trans (k9.mono hbw2.size)⟩
set_option maxRecDepth 100000 in
set_option maxHeartbeats 4000000 in
theorem ends_good (hb : OkB b) (n : Int) (w : World) (hTw : TabW w) (hM : SbAt w H S b) : Calls Tryd.prog 7 #[.agg (sbV H hcap S scap b).toArray, .int .i64 n] w fun e w' => e = .returned (.bool true) ∧ Below w.heap.size w w' := by
 have h12 := hb.hours
 have C2 := hid fun (W : World) hW => soundC H hcap S scap b hb W hW
 obtain ⟨hw1, hw2⟩ := windI_range n b.hours.length (by omega)
 obtain ⟨h, hh0⟩ : ∃ h : Nat, windI n b.hours.length = h := ⟨(windI n b.hours.length).toNat, by omega⟩
 have hh : h < b.hours.length := by omega
 have HS := hid hh0
 have HW64 : Hid ((b.hours.length : Int) ≤ 9223372036854775807) := hid (by omega)
 obtain ⟨l1, l2, l3, l4, l5, l6⟩ := ends_law hb hh
 have hl : ∀ m, h < (extB b m).hours.length := fun m => by simpa [extB] using hh
 have CL1 := hid fun (W : World) hW => loadC H hcap none 0 (bare b) (ok_bare hb) (rt_none (ok_bare hb) rfl) (h := h) hh W hW
 have CL2 := hid fun (A : Option Addr) (c : Nat) (W : World) hW => loadC A c none 0 (extB b true) (ok_ext hb true) (rt_none (ok_ext hb true) rfl) (hl true) W hW
 have CL3 := hid fun (A : Option Addr) (c : Nat) (W : World) hW => loadC A c none 0 (extB b false) (ok_ext hb false) (rt_none (ok_ext hb false) rfl) (hl false) W hW
 have X1 := hid fun (W : World) hW => extreme_any H hcap S scap b (by omega) true W hW
 have X2 := hid fun (W : World) hW => extreme_any H hcap S scap b (by omega) false W hW
 have HR := hid fun (most : Bool) (k : Nat) (hk : k < b.hours.length) (X : Hr) (hX : b.hours[k] = X) => exI_round hb most hk hX
 have HZ : Hid (exI b true 0 = b.hi ∧ exI b false 0 = b.lo) := hid ⟨exI_zero b true, exI_zero b false⟩
 obtain ⟨s1, e1⟩ : ∃ x, loH (bare b) h = x := ⟨_, rfl⟩
 obtain ⟨s2, e2⟩ : ∃ x, hiH (bare b) h = x := ⟨_, rfl⟩
 obtain ⟨t1, e3⟩ : ∃ x, loH (extB b true) h = x := ⟨_, rfl⟩
 obtain ⟨t2, e4⟩ : ∃ x, hiH (extB b true) h = x := ⟨_, rfl⟩
 obtain ⟨u1, e5⟩ : ∃ x, loH (extB b false) h = x := ⟨_, rfl⟩
 obtain ⟨u2, e6⟩ : ∃ x, hiH (extB b false) h = x := ⟨_, rfl⟩
 rw [e1, e2] at CL1
 rw [e3, e4] at CL2
 rw [e5, e6] at CL3
 rw [e2] at l1
 rw [e4] at l2
 rw [e6] at l3
 rw [e1] at l4
 rw [e1, e2, e3, e4] at l5
 rw [e1, e2, e5, e6] at l6
 have hts : t2 = s2 := by omega
 subst hts
 have I1 := hid fun (W : World) => ins_yes (a := (t1 : Int)) (z := t2) (lo := s1) (hi := t2) ⟨by omega, by omega⟩ W
 have I2 := hid fun (W : World) => ins_yes (a := (u1 : Int)) (z := u2) (lo := s1) (hi := t2) ⟨by omega, by omega⟩ W
 have HE1 : Hid (exI b true (h + 1) = t2) := hid (by omega)
 have HE0 : Hid (exI b false (h + 1) = u2) := hid (by omega)
 have HLE : Hid ((s1 : Int) ≤ u2) := hid (by omega)
 have hh11 : h ≤ 11 := by omega
 clear hb h12 hw1 hw2 hh0 l1 l2 l3 l4 l5 l6 hl e1 e2 e3 e4 e5 e6
 refine enterE Tryd.func7 rfl Tryd.ntmps7 (by simp) (fun a hE => ?_); simp only [envOf, Nat.zero_add, Nat.reduceAdd] at hE
 refine Ks ?_
 refine Rs 2 fun Q' K hK => ?_
 refine M1 hE 0 fun K' J ρ q0 => ?_; go_simp; (try clear q0)
 refine Ln hE J fun _ Eb => ?_; clear J K' hE a
 refine M0 fun K' J ρ => ?_; go_simp;
 refine Ln Eb J fun _ Ea => ?_; clear J K' Eb
 refine late_done [1, 2] Ea hK (fun a hE => ?_); clear hK K Q' Ea; simp only [lk, pick, Nat.reduceEqDiff, ↓reduceIte] at hE
 obtain ⟨B, hBe⟩ : ∃ B, B = w.heap.size := ⟨_, rfl⟩; rw [← hBe] at hE; refine world_cut (fun wt => Below w.heap.size w wt ∧ Cells wt B (sbV H hcap S scap b)) ⟨(Below.refl _ _).alloc (Nat.le_refl _) _, by rw [hBe]; exact cells_new _ _ _⟩ (fun w1 hCut => ?_); obtain ⟨hbw1, hCB⟩ := hCut; clear hBe
 replace hM := hM.below hbw1
 replace hTw := hTw.below hbw1
 have nB := hCB.1; have cB7 := hCB.2 7 _ rfl
 refine Ks ?_
 refine Rs 3 fun Q' K hK => ?_
 refine Lp fun K' J => ?_
 have r2 := hE.at 2 rfl
 refine wp_load_mid 29 (.tmp 2) rfl B 0 (eval_of r2) (sbV H hcap S scap b) _ (fun j u hu => by rw [Nat.zero_add]; exact hCB.2 j u hu) Tryd.underlying29 rfl (by kernel_rfl) ?_
 (try clear r2)
 refine Ln hE J fun _ Eb => ?_; clear J K' hE a
 refine M1 Eb 18 fun K' J ρ q18 => ?_; go_simp; (try go_bits); (try clear q18)
 go_at_call 34; refine (C2.out _ hM).mono ?_; rintro e w2 ⟨rfl, h2⟩
 (try clear r18)
 refine Ln Eb J fun _ Ea => ?_; clear J K' Eb
 refine M1 Ea 19 fun K' J ρ q19 => ?_; go_simp; (try go_bits); (try simp (disch := omega) only [IntWalk.i64_in]); (try clear q19)
 refine Ln Ea J fun _ Eb => ?_; clear J K' Ea
 replace Eb := Eb.turn 20 (v' := .bool false) rfl (by (first | rfl | simp))
 refine late_done [1, 2, 20] Eb hK (fun a hE => ?_); clear hK K Q' Eb; simp only [lk, pick, Nat.reduceEqDiff, ↓reduceIte] at hE
 have hbw2 := hbw1.trans (h2.mono hbw1.size)
 replace hCB := hCB.below h2
 clear nB cB7
 have nB := hCB.1; have cB7 := hCB.2 7 _ rfl
 replace hM := hM.below h2
 replace hTw := hTw.below h2
 refine Ks ?_
 refine cond_no hE (t := 20) rfl ?_
 refine Ks ?_
 refine Rs 3 fun Q' K hK => ?_
 refine Lp fun K' J => ?_
 have r2 := hE.at 2 rfl
 refine wp_load_mid 29 (.tmp 2) rfl B 0 (eval_of r2) (sbV H hcap S scap b) _ (fun j u hu => by rw [Nat.zero_add]; exact hCB.2 j u hu) Tryd.underlying29 rfl (by kernel_rfl) ?_
 (try clear r2)
 refine Ln hE J fun _ Eb => ?_; clear J K' hE a
 refine M0 fun K' J ρ => ?_; go_simp;
 refine Ln Eb J fun _ Ea => ?_; clear J K' Eb
 refine Lp fun K' J => ?_
 have r5 := Ea.at 5 rfl; have r22 := Ea.at 22 rfl
 refine wp_store_mid 29 (.tmp 5) (.tmp 22) rfl w2.heap.size 0 (sbV H hcap S scap b).toArray (eval_of r5) (eval_of r22) (there_row (row_new w2 _ _) (Nat.le_of_eq rfl)) (by kernel_rfl) (by kernel_rfl) ?_
 (try clear r5 r22)
 refine late_skip Ea J (fun _ Eb => ?_); clear J K'; clear Ea
 refine late_done [1, 2, 5] Eb hK (fun a hE => ?_); clear hK K Q' Eb; simp only [lk, pick, Nat.reduceEqDiff, ↓reduceIte] at hE
 obtain ⟨Q, hQ⟩ : ∃ B, B = w2.heap.size := ⟨_, rfl⟩
 rw [← hQ] at hE
 have hnQ : w2.heap.size ≤ Q := Nat.le_of_eq hQ.symm
 refine world_cut (fun wt => Below w2.heap.size w2 wt ∧ Q < wt.heap.size ∧ Row wt Q (sbV H hcap S scap b)) ?_ (fun w3 hCut => ?_)
 ·rw [hQ]; have q := boxed_new w2 #[.int .i64 0, .int .i64 0, .int .i64 0, .int .i64 0, .int .i64 0, .int .i64 0, .int .i64 0, .slice none 0 0, .slice none 0 0] 29 (sbV H hcap S scap b) rfl; exact ⟨q.1, q.2.1, row_all (row_new w2 #[.int .i64 0, .int .i64 0, .int .i64 0, .int .i64 0, .int .i64 0, .int .i64 0, .int .i64 0, .slice none 0 0, .slice none 0 0] 29) rfl⟩
 obtain ⟨k3, hlQ, hRQ⟩ := hCut
 have y8 := (hRQ 8 _ rfl).2
 clear hQ
 refine Ks ?_
 refine Rs 2 fun Q' K hK => ?_
 refine M1 hE 5 fun K' J ρ q5 => ?_; go_simp; (try clear q5)
 refine Ln hE J fun _ Eb => ?_; clear J K' hE a
 refine M1 Eb 23 fun K' J ρ q23 => ?_; go_simp; (try clear q23)
 refine late_skip Eb J (fun _ Ea => ?_); clear J K'; clear Eb
 refine late_done [1, 2, 5] Ea hK (fun a hE => ?_); clear hK K Q' Ea; simp only [lk, pick, Nat.reduceEqDiff, ↓reduceIte] at hE
 refine world_cut (fun wt => Below w2.heap.size w2 wt ∧ Cells wt Q (sbV H hcap none 0 (bare b))) ⟨k3.setCell hnQ _, by simpa using hlQ, fun j u hu => (hRQ.set (o := 8) (v := .slice none 0 0) (by simp [sbV]) j u hu).1⟩ (fun w4 hCut => ?_)
 clear hRQ hlQ y8 k3
 obtain ⟨k4, hCQ⟩ := hCut
 have hbw4 := hbw2.trans (k4.mono hbw2.size)
 replace hCB := hCB.below k4
 clear nB cB7
 have nB := hCB.1; have cB7 := hCB.2 7 _ rfl
 replace hM := hM.below k4
 replace hTw := hTw.below k4
 refine Ks ?_
 refine Rs 6 fun Q' K hK => ?_
 refine M1 hE 1 fun K' J ρ q1 => ?_; go_simp; (try clear q1)
 refine Ln hE J fun _ Eb => ?_; clear J K' hE a
 refine M1 Eb 2 fun K' J ρ q2 => ?_; go_simp; (try clear q2)
 refine Ln Eb J fun _ Ea => ?_; clear J K' Eb
 refine M1 Ea 25 fun K' J ρ q25 => ?_; go_simp; (try clear q25)
 refine Ln Ea J fun _ Eb => ?_; clear J K' Ea
 refine M1 Eb 26 fun K' J ρ q26 => ?_; go_simp; (try go_bits); (try clear q26)
 refine Ln Eb J fun _ Ea => ?_; clear J K' Eb
 refine M2 Ea 24 27 fun K' J ρ q24 q27 => ?_; go_simp; (try go_bits); (try clear q24 q27)
 go_at_call 40; refine (wind_any n _ HW64.out _).mono ?_; rw [HS.out]; rintro e' g1 ⟨rfl, rfl⟩
 (try clear r24 r27)
 refine Ln Ea J fun _ Eb => ?_; clear J K' Ea
 refine M1 Eb 28 fun K' J ρ q28 => ?_; go_simp; (try clear q28)
 refine Ln Eb J fun _ Ea => ?_; clear J K' Eb
 refine late_done [2, 5, 6] Ea hK (fun a hE => ?_); clear hK K Q' Ea; simp only [lk, pick, Nat.reduceEqDiff, ↓reduceIte] at hE
 refine Ks ?_
 refine Rs 9 fun Q' K hK => ?_
 refine Lp fun K' J => ?_
 have r5 := hE.at 5 rfl
 refine wp_load_mid 29 (.tmp 5) rfl Q 0 (eval_of r5) (sbV H hcap none 0 (bare b)) _ (fun j u hu => by rw [Nat.zero_add]; exact hCQ.2 j u hu) Tryd.underlying29 rfl (by kernel_rfl) ?_
 (try clear r5)
 refine Ln hE J fun _ Eb => ?_; clear J K' hE a
 refine M1 Eb 6 fun K' J ρ q6 => ?_; go_simp; (try clear q6)
 refine Ln Eb J fun _ Ea => ?_; clear J K' Eb
 refine M2 Ea 30 31 fun K' J ρ q30 q31 => ?_; go_simp; (try go_bits); (try clear q30 q31)
 go_at_call 18; refine (CL1.out _ ⟨hM.1, fun h => absurd rfl h⟩).mono ?_; rintro e' v1a ⟨rfl, hv1a⟩
 (try clear r30 r31)
 refine Ln Ea J fun _ Eb => ?_; clear J K' Ea
 refine M1 Eb 32 fun K' J ρ q32 => ?_; go_simp; (try clear q32)
 refine Ln Eb J fun _ Ea => ?_; clear J K' Eb
 refine M1 Ea 29 fun K' J ρ q29 => ?_; go_simp; (try clear q29)
 refine Ln Ea J fun _ Eb => ?_; clear J K' Ea
 refine M1 Eb 29 fun K' J ρ q29 => ?_; go_simp; (try clear q29)
 refine Ln Eb J fun _ Ea => ?_; clear J K' Eb
 refine M0 fun K' J ρ => ?_; go_simp;
 refine Ln Ea J fun _ Eb => ?_; clear J K' Ea
 refine M2 Eb 7 33 fun K' J ρ q7 q33 => ?_; go_simp; (try clear q7 q33)
 refine late_skip Eb J (fun _ Ea => ?_); clear J K'; clear Eb
 refine M1 Ea 34 fun K' J ρ q34 => ?_; go_simp; (try clear q34)
 refine Ln Ea J fun _ Eb => ?_; clear J K' Ea
 refine late_done [2, 6, 7, 8] Eb hK (fun a hE => ?_); clear hK K Q' Eb; simp only [lk, pick, Nat.reduceEqDiff, ↓reduceIte] at hE
 have hbv1a := hbw4.trans (hv1a.mono hbw4.size)
 replace hCB := hCB.below hv1a
 clear nB cB7
 have nB := hCB.1; have cB7 := hCB.2 7 _ rfl
 replace hM := hM.below hv1a
 replace hTw := hTw.below hv1a
 replace hCQ := hCQ.below hv1a
 obtain ⟨Y1, hY1e⟩ : ∃ B, B = v1a.heap.size := ⟨_, rfl⟩; rw [← hY1e] at hE; refine world_cut (fun wt => Below v1a.heap.size v1a wt ∧ Cells wt Y1 [.int .i64 s1, .int .i64 t2]) ⟨(Below.refl _ _).alloc (Nat.le_refl _) _, by rw [hY1e]; exact cells_new _ _ _⟩ (fun v1 hCut => ?_); obtain ⟨hbv1, hCY1⟩ := hCut; clear hY1e
 have kv1 := hbv1
 clear hbv1
 have hbv1 := hbv1a.trans (kv1.mono hbv1a.size)
 replace hCB := hCB.below kv1
 clear nB cB7
 have nB := hCB.1; have cB7 := hCB.2 7 _ rfl
 replace hM := hM.below kv1
 replace hTw := hTw.below kv1
 replace hCQ := hCQ.below kv1
 have nY1 := hCY1.1; have cY10 := hCY1.2 0 _ rfl; have cY11 := hCY1.2 1 _ rfl
 refine Ks ?_
 refine region_drawn_new [6, 7] [(4, 9), (5, 10)] [] (fun wt => Below v1.heap.size v1 wt) (fun w1 w2 => Below w1.heap.size w1 w2) [(0, some 35), (1, some 36), (2, some 37), (3, some 38), (4, some 9), (5, some 10)] [35, 36, 37, 38, 9, 10] #[true, true, true, true, true, true, false, false] [2, 6, 7, 8] hE ((Below.refl _ _).drew) (fun _ _ h => h.size) (fun _ h => absurd h List.not_mem_nil) (fun Q' K hK => ?_)
 refine SeqN.val ?_ (Sp fun ax wx hS hT' hd K' J => ?_) ?_; rotate_left 1
 ·have r2 := hS.at 2 (by decide) (hE.at 2 rfl); obtain ⟨hcT, hfT, hlT, hmT, hwT, hzT⟩ := bT hT'
  refine wp_load_mid 29 (.tmp 2) rfl B 0 (eval_of r2) (sbV H hcap S scap b) _ (fun j u hu => by rw [Nat.zero_add]; exact (hCB.below hT').2 j u hu) Tryd.underlying29 rfl (by kernel_rfl) ?_
  refine J.out _ _ _ rfl ?_ hT' (Below.refl _ _) ; rfl
 refine SeqN.say (fun v wt => ∃ vs, v = .agg vs.toArray ∧ BkH v1.heap.size (extB b true) vs wt) (fun _ _ _ hR h => h.imp fun _ p => ⟨p.1, p.2.on hR⟩) (Sp fun ax wx hS hT' hd K' J => ?_) ?_
 ·have r35 := Tv hd 0 0 35; obtain ⟨hcT, hfT, hlT, hmT, hwT, hzT⟩ := bT hT'
  refine Go.Proofs.YtkhmcofmjjmjhaaDoor.o1 r35 fun ρ q35 => ?_; go_simp; (try go_bits);
  go_at_call 41; refine (X1.out _ (hM.below hT')).mono ?_; rintro e' g1 ⟨⟨vs, rfl, A, k, e, hA⟩, k1⟩
  exact J.out _ _ _ rfl ⟨vs, rfl, A, k, e, own_base hA hT'.size⟩ (hT'.trans (k1.mono hT'.size)) k1
 refine SeqN.val ?_ (Sp fun ax wx hS hT' hd K' J => ?_) ?_; rotate_left 1
 ·have r2 := hS.at 2 (by decide) (hE.at 2 rfl); obtain ⟨hcT, hfT, hlT, hmT, hwT, hzT⟩ := bT hT'
  refine wp_load_mid 29 (.tmp 2) rfl B 0 (eval_of r2) (sbV H hcap S scap b) _ (fun j u hu => by rw [Nat.zero_add]; exact (hCB.below hT').2 j u hu) Tryd.underlying29 rfl (by kernel_rfl) ?_
  refine J.out _ _ _ rfl ?_ hT' (Below.refl _ _) ; rfl
 refine SeqN.say (fun v wt => ∃ vs, v = .agg vs.toArray ∧ BkH v1.heap.size (extB b false) vs wt) (fun _ _ _ hR h => h.imp fun _ p => ⟨p.1, p.2.on hR⟩) (Sp fun ax wx hS hT' hd K' J => ?_) ?_
 ·have r37 := Tv hd 0 2 37; obtain ⟨hcT, hfT, hlT, hmT, hwT, hzT⟩ := bT hT'
  refine Go.Proofs.YtkhmcofmjjmjhaaDoor.o1 r37 fun ρ q37 => ?_; go_simp; (try go_bits);
  go_at_call 41; refine (X2.out _ (hM.below hT')).mono ?_; rintro e' g1 ⟨⟨vs, rfl, A, k, e, hA⟩, k1⟩
  exact J.out _ _ _ rfl ⟨vs, rfl, A, k, e, own_base hA hT'.size⟩ (hT'.trans (k1.mono hT'.size)) k1
 refine SeqN.new (NewT 29 9 v1.heap.size) (fun _ _ _ hb h => h.on hb) (StepNew.plain (by (first | (simp only [List.getElem?_toArray, List.getElem?_cons_succ, List.getElem?_cons_zero]; rfl) | rfl)) rfl (fun ax wx hS hT' hd K' J => ?_)) ?_
 ·obtain ⟨hcT, hfT, hlT, hmT, hwT, hzT⟩ := bT hT'
  refine o0 fun ρ => ?_; go_simp;
  exact J.out _ _ _ rfl ⟨_, rfl, hT'.size, _, World.alloc_heap_new _ _, rfl⟩ (hT'.alloc hT'.size _) ((Below.refl _ _).alloc (Nat.le_refl _) _) (Nat.le_refl _) (by simp [blkV])
 refine SeqN.new (NewT 29 9 v1.heap.size) (fun _ _ _ hb h => h.on hb) (StepNew.plain (by (first | (simp only [List.getElem?_toArray, List.getElem?_cons_succ, List.getElem?_cons_zero]; rfl) | rfl)) rfl (fun ax wx hS hT' hd K' J => ?_)) ?_
 ·obtain ⟨hcT, hfT, hlT, hmT, hwT, hzT⟩ := bT hT'
  refine o0 fun ρ => ?_; go_simp;
  exact J.out _ _ _ rfl ⟨_, rfl, hT'.size, _, World.alloc_heap_new _ _, rfl⟩ (hT'.alloc hT'.size _) ((Below.refl _ _).alloc (Nat.le_refl _) _) (Nat.le_refl _) (by simp [blkV])
 refine SeqN.nil ?_
 intro v2 hBm; refine ek_N ?_; (refine fun v h => ?_; obtain ⟨vs1, rfl, A1, k1', rfl, hO1⟩ := h); refine ek_N ?_; (refine fun v h => ?_; obtain ⟨vs3, rfl, A3, k3', rfl, hO3⟩ := h); (refine fun v h => ?_; obtain ⟨C9, rfl, n9, b9⟩ := h); (refine fun v h => ?_; obtain ⟨Ca, rfl, na, ba⟩ := h)
 refine fun amx hEmx hNe hMe => ?_
 have ne9_10 := hNe (4, 9) (by decide) (5, 10) (by decide) (by decide) _ _ (hEmx.at 9 rfl) (hEmx.at 10 rfl); simp only [blkV] at ne9_10
 clear hNe hMe
 simp only [lk, pick, Nat.reduceEqDiff, ↓reduceIte] at hEmx
 refine Lp fun K' J => ?_
 have r9 := hEmx.at 9 rfl; have r36 := hEmx.at 36 rfl
 obtain ⟨z9, hz9, hR9, hl9⟩ := b9.row
 refine wp_store_mid 29 (.tmp 9) (.tmp 36) rfl C9 0 (sbV A1 k1' none 0 (extB b true)).toArray (eval_of r9) (eval_of r36) (there_row hR9 (by rw [hz9]; exact Nat.le_refl _)) (by kernel_rfl) (by kernel_rfl) ?_
 have p9 := cells_stored (w := v1) hR9 (vs := sbV A1 k1' none 0 (extB b true)) (by rw [hz9]; rfl) hl9 n9 hBm
 have pa : BlkT 29 9 Ca (v2.setCells C9 0 (sbV A1 k1' none 0 (extB b true))) := ba.turned (N := v1.heap.size) (P := fun _ _ => True) (.inr ⟨C9, _, n9, b9, rfl, trivial, rfl⟩)
 (try clear r9 r36)
 refine late_skip hEmx J (fun am_1 hEm_1 => ?_); clear J K'; clear hEmx
 refine Lp fun K' J => ?_
 have r10 := hEm_1.at 10 rfl; have r38 := hEm_1.at 38 rfl
 obtain ⟨za, hza, hRa, hla⟩ := pa.row
 refine wp_store_mid 29 (.tmp 10) (.tmp 38) rfl Ca 0 (sbV A3 k3' none 0 (extB b false)).toArray (eval_of r10) (eval_of r38) (there_row hRa (by rw [hza]; exact Nat.le_refl _)) (by kernel_rfl) (by kernel_rfl) ?_
 (try clear r10 r38)
 refine late_skip hEm_1 J (fun am_2 hEm_2 => ?_); clear J K'; clear hEm_1
 refine late_done [2, 6, 7, 8, 9, 10] hEm_2 hK (fun a hE => ?_); clear hK K Q' hEm_2; simp only [lk, pick, Nat.reduceEqDiff, ↓reduceIte] at hE
 have hbv2 := hbv1.trans (hBm.mono hbv1.size)
 have pb := cells_stored (w := v1) hRa (vs := sbV A3 k3' none 0 (extB b false)) (by rw [hza]; rfl) hla na p9.2.1
 have o1 := own_stored (vs := sbV A3 k3' none 0 (extB b false)) (o := 0) (own_stored (vs := sbV A1 k1' none 0 (extB b true)) (o := 0) hO1 b9 (by decide)) pa (by decide)
 have o3 := own_stored (vs := sbV A3 k3' none 0 (extB b false)) (o := 0) (own_stored (vs := sbV A1 k1' none 0 (extB b true)) (o := 0) hO3 b9 (by decide)) pa (by decide)
 refine world_cut (fun wt => Below v1.heap.size v1 wt ∧ Cells wt C9 (sbV A1 k1' none 0 (extB b true)) ∧ Cells wt Ca (sbV A3 k3' none 0 (extB b false)) ∧ ArrD wt A1 (hrs (extB b true).hours) ∧ ArrD wt A3 (hrs (extB b false).hours)) ⟨pb.2.1, p9.1.stored ne9_10, pb.1, own_arr o1, own_arr o3⟩ (fun v3 hCut => ?_)
 clear pb o1 o3 pa p9 hRa hla hza hR9 hl9 hz9 b9 ba hO1 hO3 hBm hbv2
 obtain ⟨kv3, hCC9, hCCa, hA1, hA3⟩ := hCut
 replace hM := hM.below kv3
 replace hTw := hTw.below kv3
 replace hCB := hCB.below kv3
 replace hCY1 := hCY1.below kv3
 have hb3 := hbv1.trans (kv3.mono hbv1.size)
 clear nB cB7 nY1 cY10 cY11 hM
 have nC9 := hCC9.1; have cC95 := hCC9.2 5 _ rfl
 have nCa := hCCa.1; have cCa5 := hCCa.2 5 _ rfl
 refine Ks ?_
 refine Rd [7] (fun wt => Below v3.heap.size v3 wt) (fun w1 w2 => Below w1.heap.size w1 w2) [(0, some 39), (1, some 40), (2, some 41), (3, some 42), (4, some 43), (5, some 44), (6, some 11)] [39, 40, 41, 42, 43, 44, 11] #[true, true, true, true, true, true, true, false] [2, 6, 7, 8, 9, 10, 12] hE ((Below.refl _ _).drew) fun Q' K hK => ?_
 refine SeqOps.val ?_ (Sp fun ax wx hS hT' hd K' J => ?_) ?_; rotate_left 1
 ·have r9 := hS.at 9 (by decide) (hE.at 9 rfl); obtain ⟨hcT, hfT, hlT, hmT, hwT, hzT⟩ := bT hT'
  refine Go.Proofs.YtkhmcofmjjmjhaaDoor.o1 r9 fun ρ q9 => ?_; go_simp;
  exact Jo J hT'
 refine SeqOps.val ?_ (Sp fun ax wx hS hT' hd K' J => ?_) ?_; rotate_left 1
 ·have r39 := Tv hd 0 0 39; obtain ⟨hcT, hfT, hlT, hmT, hwT, hzT⟩ := bT hT'
  refine Go.Proofs.YtkhmcofmjjmjhaaDoor.o1 r39 fun ρ q39 => ?_; go_simp;
  exact Jo J hT'
 refine SeqOps.val ?_ (Sp fun ax wx hS hT' hd K' J => ?_) ?_; rotate_left 1
 ·have r40 := Tv hd 0 1 40; obtain ⟨hcT, hfT, hlT, hmT, hwT, hzT⟩ := bT hT'
  refine Go.Proofs.YtkhmcofmjjmjhaaDoor.o1 r40 fun ρ q40 => ?_; go_simp;
  exact Jo J hT'
 refine SeqOps.val ?_ (Sp fun ax wx hS hT' hd K' J => ?_) ?_; rotate_left 1
 ·have r10 := hS.at 10 (by decide) (hE.at 10 rfl); obtain ⟨hcT, hfT, hlT, hmT, hwT, hzT⟩ := bT hT'
  refine Go.Proofs.YtkhmcofmjjmjhaaDoor.o1 r10 fun ρ q10 => ?_; go_simp;
  exact Jo J hT'
 refine SeqOps.val ?_ (Sp fun ax wx hS hT' hd K' J => ?_) ?_; rotate_left 1
 ·have r42 := Tv hd 0 3 42; obtain ⟨hcT, hfT, hlT, hmT, hwT, hzT⟩ := bT hT'
  refine Go.Proofs.YtkhmcofmjjmjhaaDoor.o1 r42 fun ρ q42 => ?_; go_simp;
  exact Jo J hT'
 refine SeqOps.val ?_ (Sp fun ax wx hS hT' hd K' J => ?_) ?_; rotate_left 1
 ·have r43 := Tv hd 0 4 43; obtain ⟨hcT, hfT, hlT, hmT, hwT, hzT⟩ := bT hT'
  refine Go.Proofs.YtkhmcofmjjmjhaaDoor.o1 r43 fun ρ q43 => ?_; go_simp;
  exact Jo J hT'
 refine SeqOps.val ?_ (Sp fun ax wx hS hT' hd K' J => ?_) ?_; rotate_left 1
 ·have r41 := Tv hd 3 2 41; obtain ⟨hcT, hfT, hlT, hmT, hwT, hzT⟩ := bT hT'
  refine Go.Proofs.YtkhmcofmjjmjhaaDoor.o1 r41 fun ρ q41 => ?_; go_simp;
  exact Jo J hT'
 refine SeqOps.nil ?_
 intro v4 hBn; (repeat refine Ek ?_)
 refine fun anx hEnx => ?_
 simp only [lk, pick, Nat.reduceEqDiff, ↓reduceIte] at hEnx
 refine M1 hEnx 44 fun K' J ρ q44 => ?_; go_simp; (try clear q44)
 refine Ln hEnx J fun an_1 hEn_1 => ?_; clear J K' hEnx
 refine late_done [2, 6, 7, 8, 9, 10, 11, 12] hEn_1 hK (fun a hE => ?_); clear hK K Q' hEn_1; simp only [lk, pick, Nat.reduceEqDiff, ↓reduceIte] at hE
 have hbv4 := hb3.trans (hBn.mono hb3.size)
 replace hCC9 := hCC9.below hBn
 clear nC9 cC95
 have nC9 := hCC9.1; have cC95 := hCC9.2 5 _ rfl
 replace hCCa := hCCa.below hBn
 clear nCa cCa5
 have nCa := hCCa.1; have cCa5 := hCCa.2 5 _ rfl
 have e1 : (extB b true).lo = exI b true 0 := HZ.out.1.symm
 have e0 : (extB b false).lo = exI b false 0 := HZ.out.2.symm
 rw [e1, e0] at hE
 clear e1 e0
 have hCC91 := hCC9
 have hCCa1 := hCCa
 have hCB1 := hCB.below hBn
 have hCY11 := hCY1.below hBn
 have hTw1 := hTw.below hBn
 have hA11 := hA1.below hBn
 have hA31 := hA3.below hBn
 clear hCC9 hCCa hCB hCY1 hTw hA1 hA3 nC9 nCa cC95 cCa5
 refine Ks ?_
 refine Rs 1 fun Q' K hK => ?_
 refine M0 fun K' J ρ => ?_; go_simp;
 refine Ln hE J fun _ Eb => ?_; clear J K' hE a
 refine late_done [2, 6, 7, 8, 9, 10, 11, 12, 13] Eb hK (fun a hE => ?_); clear hK K Q' Eb; simp only [lk, pick, Nat.reduceEqDiff, ↓reduceIte] at hE
 refine Ks ?_
 refine loop_st (fun (k : Nat) a w' => k ≤ h + 1 ∧ Fits 193 [(2, .pointer (some ⟨B, 0, none⟩)), (6, .int .i64 h), (7, .pointer (some ⟨Y1, 0, none⟩)), (8, .int .i64 0), (9, .pointer (some ⟨C9, 0, none⟩)), (10, .pointer (some ⟨Ca, 0, none⟩)), (11, .int .i64 (exI b true k)), (12, .int .i64 (exI b false k)), (13, .int .i64 k)] a ∧ Below v4.heap.size v4 w') (fun k => h + 1 - k) 0 ⟨Nat.zero_le _, by simpa using hE, Below.refl _ _⟩ (fun k a wr hI => ?_)
 clear hE
 obtain ⟨hk, hE, hW⟩ := hI
 have hbr := hbv4.trans (hW.mono hbv4.size)
 have hCC9 := hCC91.below hW
 have hCCa := hCCa1.below hW
 have hCB := hCB1.below hW
 have hCY1 := hCY11.below hW
 have hTw := hTw1.below hW
 have hA1 := hA11.below hW
 have hA3 := hA31.below hW
 by_cases hlt : k < h + 1
 ·have hkl : k < b.hours.length := by omega
  obtain ⟨X, hX⟩ : ∃ X, b.hours[k] = X := ⟨_, rfl⟩
  obtain ⟨q1, q2, q3, q4, q5, q6⟩ := HR.out true k hkl X hX
  obtain ⟨z1, z2, z3, z4, z5, z6⟩ := HR.out false k hkl X hX
  have hx1 : (extB b true).hours[k]'(by simpa [extB] using hkl) = exH true X := by simp [extB, hX]
  have hx0 : (extB b false).hours[k]'(by simpa [extB] using hkl) = exH false X := by simp [extB, hX]
  obtain ⟨bx, ox, hHe, hbx, x0, x1, x2, x3, x4, x5⟩ := hA1.hr (k := k) (by simpa [extB] using hkl)
  obtain ⟨by', oy, hHy, hby, y0, y1, y2, y3, y4, y5⟩ := hA3.hr (k := k) (by simpa [extB] using hkl)
  rw [hx1] at x0 x1 x2 x3 x4 x5
  rw [hx0] at y0 y1 y2 y3 y4 y5
  have hl1 : (extB b true).hours.length = b.hours.length := by simp [extB]
  have hl0 : (extB b false).hours.length = b.hours.length := by simp [extB]
  have d97 := hCC9.2 7 _ rfl
  have da7 := hCCa.2 7 _ rfl
  rw [hHe, hl1] at d97
  rw [hHy, hl0] at da7
  have n9 := hCC9.1
  have na := hCCa.1
  obtain ⟨E1, hE1⟩ : ∃ x, exI b true k = x := ⟨_, rfl⟩
  obtain ⟨E0, hE0⟩ : ∃ x, exI b false k = x := ⟨_, rfl⟩
  rw [hE1] at q1 q6 hE
  rw [hE0] at z1 z6 hE
  have HQ6 := hid q6
  have HZ6 := hid z6
  clear q6 z6 hE1 hE0 hX hx1 hx0 hl1 hl0
  obtain ⟨X1, hX1⟩ : ∃ x, exH true X = x := ⟨_, rfl⟩
  obtain ⟨X0, hX0⟩ : ∃ x, exH false X = x := ⟨_, rfl⟩
  rw [hX1] at x0 x1 x2 x3 x4 x5 q3 q4 q5 HQ6
  rw [hX0] at y0 y1 y2 y3 y4 y5 z3 z4 z5 HZ6
  clear hX1 hX0
  obtain ⟨a1, a2, a3, a4, a5, a6⟩ := X1
  obtain ⟨c1, c2, c3, c4, c5, c6⟩ := X0
  simp only at x0 x1 x2 x3 x4 x5 y0 y1 y2 y3 y4 y5 q3 q4 q5 z3 z4 z5 HQ6 HZ6
  have nB := hCB.1; have cB0 := hCB.2 0 _ rfl; have cB1 := hCB.2 1 _ rfl; have cB2 := hCB.2 2 _ rfl; have cB3 := hCB.2 3 _ rfl
  have HY := hid (And.intro y0 (And.intro y2 (And.intro y4 (And.intro da7 (And.intro na hby)))))
  clear y0 y1 y2 y3 y4 y5 da7 na hby x1 x3 x5
  refine Ks ?_
  refine Rs 3 fun Q' K hK => ?_
  refine M1 hE 13 fun K' J ρ q13 => ?_; go_simp; (try clear q13)
  refine Ln hE J fun _ Eb => ?_; clear J K' hE a
  refine M1 Eb 6 fun K' J ρ q6 => ?_; go_simp; (try clear q6)
  refine Ln Eb J fun _ Ea => ?_; clear J K' Eb
  refine M2 Ea 45 46 fun K' J ρ q45 q46 => ?_; go_simp; (try go_bits); (try clear q45 q46)
  refine Ln Ea J fun _ Eb => ?_; clear J K' Ea
  replace Eb := Eb.turn 47 (v' := .bool true) rfl (by (first | (simp; done) | (simp; omega)))
  refine late_done [2, 6, 7, 8, 9, 10, 11, 12, 13, 47] Eb hK (fun a hE => ?_); clear hK K Q' Eb; simp only [lk, pick, Nat.reduceEqDiff, ↓reduceIte] at hE
  refine Ks ?_
  refine cond_yes hE (t := 47) rfl ?_
  refine Ks ?_
  refine Rd [42] (fun wt => Below wr.heap.size wr wt) (fun w1 w2 => Below w1.heap.size w1 w2) [(0, some 50), (1, some 51), (2, some 52), (3, some 53), (4, some 54), (5, some 55), (6, some 56), (7, some 57), (8, some 58), (9, some 59), (10, some 60), (11, some 61), (12, some 62), (13, some 63), (14, some 64), (15, some 65), (16, some 66), (17, some 67), (18, some 68), (19, some 69), (20, some 70), (21, some 71), (22, some 72), (23, some 73), (24, some 74), (25, some 75), (26, some 76), (27, some 77), (28, some 78), (29, some 79), (30, some 80), (31, some 81), (32, some 82), (33, some 83), (34, some 84), (35, some 85), (36, some 86), (37, some 87), (38, some 88), (39, some 89), (40, some 90), (41, some 91)] [50, 51, 52, 53, 54, 55, 56, 57, 58, 59, 60, 61, 62, 63, 64, 65, 66, 67, 68, 69, 70, 71, 72, 73, 74, 75, 76, 77, 78, 79, 80, 81, 82, 83, 84, 85, 86, 87, 88, 89, 90, 91] #[true, true, true, true, true, true, true, true, true, true, true, true, true, true, true, true, true, true, true, true, true, true, true, true, true, true, true, true, true, true, true, true, true, true, true, true, true, true, true, true, true, true, false] [2, 6, 7, 8, 9, 10, 11, 12, 13] hE ((Below.refl _ _).drew) fun Q' K hK => ?_
  refine SeqOps.val ?_ (Sp fun ax wx hS hT' hd K' J => ?_) ?_; rotate_left 1
  ·have r11 := hS.at 11 (by decide) (hE.at 11 rfl); obtain ⟨hcT, hfT, hlT, hmT, hwT, hzT⟩ := bT hT'
   refine Go.Proofs.YtkhmcofmjjmjhaaDoor.o1 r11 fun ρ q11 => ?_; go_simp;
   exact Jo J hT'
  refine SeqOps.val ?_ (Sp fun ax wx hS hT' hd K' J => ?_) ?_; rotate_left 1
  ·have r2 := hS.at 2 (by decide) (hE.at 2 rfl); obtain ⟨hcT, hfT, hlT, hmT, hwT, hzT⟩ := bT hT'
   refine Go.Proofs.YtkhmcofmjjmjhaaDoor.o1 r2 fun ρ q2 => ?_; go_simp;
   exact Jo J hT'
  refine SeqOps.val ?_ (Sp fun ax wx hS hT' hd K' J => ?_) ?_; rotate_left 1
  ·have r51 := Tv hd 0 1 51; obtain ⟨hcT, hfT, hlT, hmT, hwT, hzT⟩ := bT hT'
   refine Go.Proofs.YtkhmcofmjjmjhaaDoor.o1 r51 fun ρ q51 => ?_; go_simp;
   exact Jo J hT'
  refine SeqOps.val ?_ (Sp fun ax wx hS hT' hd K' J => ?_) ?_; rotate_left 1
  ·have r52 := Tv hd 0 2 52; obtain ⟨hcT, hfT, hlT, hmT, hwT, hzT⟩ := bT hT'
   refine Go.Proofs.YtkhmcofmjjmjhaaDoor.o1 r52 fun ρ q52 => ?_; go_simp;
   exact Jo J hT'
  refine SeqOps.val ?_ (Sp fun ax wx hS hT' hd K' J => ?_) ?_; rotate_left 1
  ·have r50 := Tv hd 3 0 50; have r53 := Tv hd 0 3 53; obtain ⟨hcT, hfT, hlT, hmT, hwT, hzT⟩ := bT hT'
   refine o2 r50 r53 fun ρ q50 q53 => ?_; go_simp; (try go_bits); (try simp (disch := omega) only [IntWalk.i64_in]);
   exact Jo J hT'
  refine SeqOps.val ?_ (Sp fun ax wx hS hT' hd K' J => ?_) ?_; rotate_left 1
  ·have r54 := Tv hd 0 4 54; obtain ⟨hcT, hfT, hlT, hmT, hwT, hzT⟩ := bT hT'
   refine Go.Proofs.YtkhmcofmjjmjhaaDoor.o1 r54 fun ρ q54 => ?_; go_simp; (try go_bits);
   exact Jo J hT'
  refine SeqOps.val ?_ (Sp fun ax wx hS hT' hd K' J => ?_) ?_; rotate_left 1
  ·have r2 := hS.at 2 (by decide) (hE.at 2 rfl); obtain ⟨hcT, hfT, hlT, hmT, hwT, hzT⟩ := bT hT'
   refine Go.Proofs.YtkhmcofmjjmjhaaDoor.o1 r2 fun ρ q2 => ?_; go_simp;
   exact Jo J hT'
  refine SeqOps.val ?_ (Sp fun ax wx hS hT' hd K' J => ?_) ?_; rotate_left 1
  ·have r56 := Tv hd 0 6 56; obtain ⟨hcT, hfT, hlT, hmT, hwT, hzT⟩ := bT hT'
   refine Go.Proofs.YtkhmcofmjjmjhaaDoor.o1 r56 fun ρ q56 => ?_; go_simp;
   exact Jo J hT'
  refine SeqOps.val ?_ (Sp fun ax wx hS hT' hd K' J => ?_) ?_; rotate_left 1
  ·have r57 := Tv hd 0 7 57; obtain ⟨hcT, hfT, hlT, hmT, hwT, hzT⟩ := bT hT'
   refine Go.Proofs.YtkhmcofmjjmjhaaDoor.o1 r57 fun ρ q57 => ?_; go_simp;
   exact Jo J hT'
  refine SeqOps.val ?_ (Sp fun ax wx hS hT' hd K' J => ?_) ?_; rotate_left 1
  ·have r9 := hS.at 9 (by decide) (hE.at 9 rfl); obtain ⟨hcT, hfT, hlT, hmT, hwT, hzT⟩ := bT hT'
   refine Go.Proofs.YtkhmcofmjjmjhaaDoor.o1 r9 fun ρ q9 => ?_; go_simp;
   exact Jo J hT'
  refine SeqOps.val ?_ (Sp fun ax wx hS hT' hd K' J => ?_) ?_; rotate_left 1
  ·have r59 := Tv hd 0 9 59; obtain ⟨hcT, hfT, hlT, hmT, hwT, hzT⟩ := bT hT'
   refine Go.Proofs.YtkhmcofmjjmjhaaDoor.o1 r59 fun ρ q59 => ?_; go_simp;
   exact Jo J hT'
  refine SeqOps.val ?_ (Sp fun ax wx hS hT' hd K' J => ?_) ?_; rotate_left 1
  ·have r13 := hS.at 13 (by decide) (hE.at 13 rfl); obtain ⟨hcT, hfT, hlT, hmT, hwT, hzT⟩ := bT hT'
   refine Go.Proofs.YtkhmcofmjjmjhaaDoor.o1 r13 fun ρ q13 => ?_; go_simp;
   exact Jo J hT'
  refine SeqOps.val ?_ (Sp fun ax wx hS hT' hd K' J => ?_) ?_; rotate_left 1
  ·have r60 := Tv hd 1 10 60; have r61 := Tv hd 0 11 61; obtain ⟨hcT, hfT, hlT, hmT, hwT, hzT⟩ := bT hT'
   refine o2 r60 r61 fun ρ q60 q61 => ?_; go_simp; (try go_bits);
   exact Jo J hT'
  refine SeqOps.val ?_ (Sp fun ax wx hS hT' hd K' J => ?_) ?_; rotate_left 1
  ·have r62 := Tv hd 0 12 62; obtain ⟨hcT, hfT, hlT, hmT, hwT, hzT⟩ := bT hT'
   refine Go.Proofs.YtkhmcofmjjmjhaaDoor.o1 r62 fun ρ q62 => ?_; go_simp;
   exact Jo J hT'
  refine SeqOps.val ?_ (Sp fun ax wx hS hT' hd K' J => ?_) ?_; rotate_left 1
  ·have r63 := Tv hd 0 13 63; obtain ⟨hcT, hfT, hlT, hmT, hwT, hzT⟩ := bT hT'
   refine Go.Proofs.YtkhmcofmjjmjhaaDoor.o1 r63 fun ρ q63 => ?_; go_simp;
   exact Jo J hT'
  refine SeqOps.val ?_ (Sp fun ax wx hS hT' hd K' J => ?_) ?_; rotate_left 1
  ·have r64 := Tv hd 0 14 64; obtain ⟨hcT, hfT, hlT, hmT, hwT, hzT⟩ := bT hT'
   refine Go.Proofs.YtkhmcofmjjmjhaaDoor.o1 r64 fun ρ q64 => ?_; go_simp;
   exact Jo J hT'
  refine SeqOps.val ?_ (Sp fun ax wx hS hT' hd K' J => ?_) ?_; rotate_left 1
  ·have r58 := Tv hd 7 8 58; have r65 := Tv hd 0 15 65; obtain ⟨hcT, hfT, hlT, hmT, hwT, hzT⟩ := bT hT'
   refine o2 r58 r65 fun ρ q58 q65 => ?_; go_simp; (try go_bits); (try simp (disch := omega) only [IntWalk.i64_in]);
   exact Jo J hT'
  refine SeqOps.val ?_ (Sp fun ax wx hS hT' hd K' J => ?_) ?_; rotate_left 1
  ·have r55 := Tv hd 11 5 55; have r66 := Tv hd 0 16 66; obtain ⟨hcT, hfT, hlT, hmT, hwT, hzT⟩ := bT hT'
   refine o2 r55 r66 fun ρ q55 q66 => ?_; go_simp; (try go_bits); (try simp (disch := omega) only [IntWalk.i64_in]);
   exact Jo J hT'
  refine SeqOps.val ?_ (Sp fun ax wx hS hT' hd K' J => ?_) ?_; rotate_left 1
  ·have r2 := hS.at 2 (by decide) (hE.at 2 rfl); obtain ⟨hcT, hfT, hlT, hmT, hwT, hzT⟩ := bT hT'
   refine Go.Proofs.YtkhmcofmjjmjhaaDoor.o1 r2 fun ρ q2 => ?_; go_simp;
   exact Jo J hT'
  refine SeqOps.val ?_ (Sp fun ax wx hS hT' hd K' J => ?_) ?_; rotate_left 1
  ·have r68 := Tv hd 0 18 68; obtain ⟨hcT, hfT, hlT, hmT, hwT, hzT⟩ := bT hT'
   refine Go.Proofs.YtkhmcofmjjmjhaaDoor.o1 r68 fun ρ q68 => ?_; go_simp;
   exact Jo J hT'
  refine SeqOps.val ?_ (Sp fun ax wx hS hT' hd K' J => ?_) ?_; rotate_left 1
  ·have r69 := Tv hd 0 19 69; obtain ⟨hcT, hfT, hlT, hmT, hwT, hzT⟩ := bT hT'
   refine Go.Proofs.YtkhmcofmjjmjhaaDoor.o1 r69 fun ρ q69 => ?_; go_simp;
   exact Jo J hT'
  refine SeqOps.val ?_ (Sp fun ax wx hS hT' hd K' J => ?_) ?_; rotate_left 1
  ·have r9 := hS.at 9 (by decide) (hE.at 9 rfl); obtain ⟨hcT, hfT, hlT, hmT, hwT, hzT⟩ := bT hT'
   refine Go.Proofs.YtkhmcofmjjmjhaaDoor.o1 r9 fun ρ q9 => ?_; go_simp;
   exact Jo J hT'
  refine SeqOps.val ?_ (Sp fun ax wx hS hT' hd K' J => ?_) ?_; rotate_left 1
  ·have r71 := Tv hd 0 21 71; obtain ⟨hcT, hfT, hlT, hmT, hwT, hzT⟩ := bT hT'
   refine Go.Proofs.YtkhmcofmjjmjhaaDoor.o1 r71 fun ρ q71 => ?_; go_simp;
   exact Jo J hT'
  refine SeqOps.val ?_ (Sp fun ax wx hS hT' hd K' J => ?_) ?_; rotate_left 1
  ·have r13 := hS.at 13 (by decide) (hE.at 13 rfl); obtain ⟨hcT, hfT, hlT, hmT, hwT, hzT⟩ := bT hT'
   refine Go.Proofs.YtkhmcofmjjmjhaaDoor.o1 r13 fun ρ q13 => ?_; go_simp;
   exact Jo J hT'
  refine SeqOps.val ?_ (Sp fun ax wx hS hT' hd K' J => ?_) ?_; rotate_left 1
  ·have r72 := Tv hd 1 22 72; have r73 := Tv hd 0 23 73; obtain ⟨hcT, hfT, hlT, hmT, hwT, hzT⟩ := bT hT'
   refine o2 r72 r73 fun ρ q72 q73 => ?_; go_simp; (try go_bits);
   exact Jo J hT'
  refine SeqOps.val ?_ (Sp fun ax wx hS hT' hd K' J => ?_) ?_; rotate_left 1
  ·have r74 := Tv hd 0 24 74; obtain ⟨hcT, hfT, hlT, hmT, hwT, hzT⟩ := bT hT'
   refine Go.Proofs.YtkhmcofmjjmjhaaDoor.o1 r74 fun ρ q74 => ?_; go_simp;
   exact Jo J hT'
  refine SeqOps.val ?_ (Sp fun ax wx hS hT' hd K' J => ?_) ?_; rotate_left 1
  ·have r75 := Tv hd 0 25 75; obtain ⟨hcT, hfT, hlT, hmT, hwT, hzT⟩ := bT hT'
   refine Go.Proofs.YtkhmcofmjjmjhaaDoor.o1 r75 fun ρ q75 => ?_; go_simp;
   exact Jo J hT'
  refine SeqOps.val ?_ (Sp fun ax wx hS hT' hd K' J => ?_) ?_; rotate_left 1
  ·have r76 := Tv hd 0 26 76; obtain ⟨hcT, hfT, hlT, hmT, hwT, hzT⟩ := bT hT'
   refine Go.Proofs.YtkhmcofmjjmjhaaDoor.o1 r76 fun ρ q76 => ?_; go_simp;
   exact Jo J hT'
  refine SeqOps.val ?_ (Sp fun ax wx hS hT' hd K' J => ?_) ?_; rotate_left 1
  ·have r70 := Tv hd 7 20 70; have r77 := Tv hd 0 27 77; obtain ⟨hcT, hfT, hlT, hmT, hwT, hzT⟩ := bT hT'
   refine o2 r70 r77 fun ρ q70 q77 => ?_; go_simp; (try go_bits); (try simp (disch := omega) only [IntWalk.i64_in]);
   exact Jo J hT'
  refine SeqOps.val ?_ (Sp fun ax wx hS hT' hd K' J => ?_) ?_; rotate_left 1
  ·have r67 := Tv hd 11 17 67; have r78 := Tv hd 0 28 78; obtain ⟨hcT, hfT, hlT, hmT, hwT, hzT⟩ := bT hT'
   refine o2 r67 r78 fun ρ q67 q78 => ?_; go_simp; (try go_bits); (try simp (disch := omega) only [IntWalk.i64_in]);
   exact Jo J hT'
  refine SeqOps.val ?_ (Sp fun ax wx hS hT' hd K' J => ?_) ?_; rotate_left 1
  ·have r2 := hS.at 2 (by decide) (hE.at 2 rfl); obtain ⟨hcT, hfT, hlT, hmT, hwT, hzT⟩ := bT hT'
   refine Go.Proofs.YtkhmcofmjjmjhaaDoor.o1 r2 fun ρ q2 => ?_; go_simp;
   exact Jo J hT'
  refine SeqOps.val ?_ (Sp fun ax wx hS hT' hd K' J => ?_) ?_; rotate_left 1
  ·have r80 := Tv hd 0 30 80; obtain ⟨hcT, hfT, hlT, hmT, hwT, hzT⟩ := bT hT'
   refine Go.Proofs.YtkhmcofmjjmjhaaDoor.o1 r80 fun ρ q80 => ?_; go_simp;
   exact Jo J hT'
  refine SeqOps.val ?_ (Sp fun ax wx hS hT' hd K' J => ?_) ?_; rotate_left 1
  ·have r81 := Tv hd 0 31 81; obtain ⟨hcT, hfT, hlT, hmT, hwT, hzT⟩ := bT hT'
   refine Go.Proofs.YtkhmcofmjjmjhaaDoor.o1 r81 fun ρ q81 => ?_; go_simp;
   exact Jo J hT'
  refine SeqOps.val ?_ (Sp fun ax wx hS hT' hd K' J => ?_) ?_; rotate_left 1
  ·have r9 := hS.at 9 (by decide) (hE.at 9 rfl); obtain ⟨hcT, hfT, hlT, hmT, hwT, hzT⟩ := bT hT'
   refine Go.Proofs.YtkhmcofmjjmjhaaDoor.o1 r9 fun ρ q9 => ?_; go_simp;
   exact Jo J hT'
  refine SeqOps.val ?_ (Sp fun ax wx hS hT' hd K' J => ?_) ?_; rotate_left 1
  ·have r83 := Tv hd 0 33 83; obtain ⟨hcT, hfT, hlT, hmT, hwT, hzT⟩ := bT hT'
   refine Go.Proofs.YtkhmcofmjjmjhaaDoor.o1 r83 fun ρ q83 => ?_; go_simp;
   exact Jo J hT'
  refine SeqOps.val ?_ (Sp fun ax wx hS hT' hd K' J => ?_) ?_; rotate_left 1
  ·have r13 := hS.at 13 (by decide) (hE.at 13 rfl); obtain ⟨hcT, hfT, hlT, hmT, hwT, hzT⟩ := bT hT'
   refine Go.Proofs.YtkhmcofmjjmjhaaDoor.o1 r13 fun ρ q13 => ?_; go_simp;
   exact Jo J hT'
  refine SeqOps.val ?_ (Sp fun ax wx hS hT' hd K' J => ?_) ?_; rotate_left 1
  ·have r84 := Tv hd 1 34 84; have r85 := Tv hd 0 35 85; obtain ⟨hcT, hfT, hlT, hmT, hwT, hzT⟩ := bT hT'
   refine o2 r84 r85 fun ρ q84 q85 => ?_; go_simp; (try go_bits);
   exact Jo J hT'
  refine SeqOps.val ?_ (Sp fun ax wx hS hT' hd K' J => ?_) ?_; rotate_left 1
  ·have r86 := Tv hd 0 36 86; obtain ⟨hcT, hfT, hlT, hmT, hwT, hzT⟩ := bT hT'
   refine Go.Proofs.YtkhmcofmjjmjhaaDoor.o1 r86 fun ρ q86 => ?_; go_simp;
   exact Jo J hT'
  refine SeqOps.val ?_ (Sp fun ax wx hS hT' hd K' J => ?_) ?_; rotate_left 1
  ·have r87 := Tv hd 0 37 87; obtain ⟨hcT, hfT, hlT, hmT, hwT, hzT⟩ := bT hT'
   refine Go.Proofs.YtkhmcofmjjmjhaaDoor.o1 r87 fun ρ q87 => ?_; go_simp;
   exact Jo J hT'
  refine SeqOps.val ?_ (Sp fun ax wx hS hT' hd K' J => ?_) ?_; rotate_left 1
  ·have r88 := Tv hd 0 38 88; obtain ⟨hcT, hfT, hlT, hmT, hwT, hzT⟩ := bT hT'
   refine Go.Proofs.YtkhmcofmjjmjhaaDoor.o1 r88 fun ρ q88 => ?_; go_simp;
   exact Jo J hT'
  refine SeqOps.val ?_ (Sp fun ax wx hS hT' hd K' J => ?_) ?_; rotate_left 1
  ·have r82 := Tv hd 7 32 82; have r89 := Tv hd 0 39 89; obtain ⟨hcT, hfT, hlT, hmT, hwT, hzT⟩ := bT hT'
   refine o2 r82 r89 fun ρ q82 q89 => ?_; go_simp; (try go_bits); (try simp (disch := omega) only [IntWalk.i64_in]);
   exact Jo J hT'
  refine SeqOps.val ?_ (Sp fun ax wx hS hT' hd K' J => ?_) ?_; rotate_left 1
  ·have r79 := Tv hd 11 29 79; have r90 := Tv hd 0 40 90; obtain ⟨hcT, hfT, hlT, hmT, hwT, hzT⟩ := bT hT'
   refine o2 r79 r90 fun ρ q79 q90 => ?_; go_simp; (try go_bits); (try simp (disch := omega) only [IntWalk.i64_in]);
   exact Jo J hT'
  refine SeqOps.nil ?_
  intro wu hBo; (repeat refine Ek ?_)
  refine fun aox hEox => ?_
  simp only [lk, pick, Nat.reduceEqDiff, ↓reduceIte] at hEox
  refine M1 hEox 91 fun K' J ρ q91 => ?_; go_simp; (try clear q91)
  refine Ln hEox J fun ao_1 hEo_1 => ?_; clear J K' hEox
  refine late_done [2, 6, 7, 8, 9, 10, 11, 12, 13] hEo_1 hK (fun a hE => ?_); clear hK K Q' hEo_1; simp only [lk, pick, Nat.reduceEqDiff, ↓reduceIte] at hE
  have hbwu := hbr.trans (hBo.mono hbr.size)
  replace hCB := hCB.below hBo
  clear nB cB0 cB1 cB2 cB3
  have nB := hCB.1; have cB0 := hCB.2 0 _ rfl; have cB1 := hCB.2 1 _ rfl; have cB2 := hCB.2 2 _ rfl; have cB3 := hCB.2 3 _ rfl
  clear x0 x2 x4 d97 n9 hbx
  obtain ⟨y0, y2, y4, da7, na, hby⟩ := HY.out
  replace da7 := (hBo.cell (p := ⟨Ca, 7, none⟩) na).trans da7
  replace y0 := (hBo.cell (p := ⟨by', oy + k * 6, none⟩) hby).trans y0
  replace y2 := (hBo.cell (p := ⟨by', oy + k * 6 + 2, none⟩) hby).trans y2
  replace y4 := (hBo.cell (p := ⟨by', oy + k * 6 + 4, none⟩) hby).trans y4
  replace na := Nat.lt_of_lt_of_le na hBo.size
  replace hby := Nat.lt_of_lt_of_le hby hBo.size
  clear HY
  refine Ks ?_
  refine Rd [42] (fun wt => Below wu.heap.size wu wt) (fun w1 w2 => Below w1.heap.size w1 w2) [(0, some 92), (1, some 93), (2, some 94), (3, some 95), (4, some 96), (5, some 97), (6, some 98), (7, some 99), (8, some 100), (9, some 101), (10, some 102), (11, some 103), (12, some 104), (13, some 105), (14, some 106), (15, some 107), (16, some 108), (17, some 109), (18, some 110), (19, some 111), (20, some 112), (21, some 113), (22, some 114), (23, some 115), (24, some 116), (25, some 117), (26, some 118), (27, some 119), (28, some 120), (29, some 121), (30, some 122), (31, some 123), (32, some 124), (33, some 125), (34, some 126), (35, some 127), (36, some 128), (37, some 129), (38, some 130), (39, some 131), (40, some 132), (41, some 133)] [92, 93, 94, 95, 96, 97, 98, 99, 100, 101, 102, 103, 104, 105, 106, 107, 108, 109, 110, 111, 112, 113, 114, 115, 116, 117, 118, 119, 120, 121, 122, 123, 124, 125, 126, 127, 128, 129, 130, 131, 132, 133] #[true, true, true, true, true, true, true, true, true, true, true, true, true, true, true, true, true, true, true, true, true, true, true, true, true, true, true, true, true, true, true, true, true, true, true, true, true, true, true, true, true, true, false] [2, 6, 7, 8, 9, 10, 11, 12, 13] hE ((Below.refl _ _).drew) fun Q' K hK => ?_
  refine SeqOps.val ?_ (Sp fun ax wx hS hT' hd K' J => ?_) ?_; rotate_left 1
  ·have r12 := hS.at 12 (by decide) (hE.at 12 rfl); obtain ⟨hcT, hfT, hlT, hmT, hwT, hzT⟩ := bT hT'
   refine Go.Proofs.YtkhmcofmjjmjhaaDoor.o1 r12 fun ρ q12 => ?_; go_simp;
   exact Jo J hT'
  refine SeqOps.val ?_ (Sp fun ax wx hS hT' hd K' J => ?_) ?_; rotate_left 1
  ·have r2 := hS.at 2 (by decide) (hE.at 2 rfl); obtain ⟨hcT, hfT, hlT, hmT, hwT, hzT⟩ := bT hT'
   refine Go.Proofs.YtkhmcofmjjmjhaaDoor.o1 r2 fun ρ q2 => ?_; go_simp;
   exact Jo J hT'
  refine SeqOps.val ?_ (Sp fun ax wx hS hT' hd K' J => ?_) ?_; rotate_left 1
  ·have r93 := Tv hd 0 1 93; obtain ⟨hcT, hfT, hlT, hmT, hwT, hzT⟩ := bT hT'
   refine Go.Proofs.YtkhmcofmjjmjhaaDoor.o1 r93 fun ρ q93 => ?_; go_simp;
   exact Jo J hT'
  refine SeqOps.val ?_ (Sp fun ax wx hS hT' hd K' J => ?_) ?_; rotate_left 1
  ·have r94 := Tv hd 0 2 94; obtain ⟨hcT, hfT, hlT, hmT, hwT, hzT⟩ := bT hT'
   refine Go.Proofs.YtkhmcofmjjmjhaaDoor.o1 r94 fun ρ q94 => ?_; go_simp;
   exact Jo J hT'
  refine SeqOps.val ?_ (Sp fun ax wx hS hT' hd K' J => ?_) ?_; rotate_left 1
  ·have r92 := Tv hd 3 0 92; have r95 := Tv hd 0 3 95; obtain ⟨hcT, hfT, hlT, hmT, hwT, hzT⟩ := bT hT'
   refine o2 r92 r95 fun ρ q92 q95 => ?_; go_simp; (try go_bits); (try simp (disch := omega) only [IntWalk.i64_in]);
   exact Jo J hT'
  refine SeqOps.val ?_ (Sp fun ax wx hS hT' hd K' J => ?_) ?_; rotate_left 1
  ·have r96 := Tv hd 0 4 96; obtain ⟨hcT, hfT, hlT, hmT, hwT, hzT⟩ := bT hT'
   refine Go.Proofs.YtkhmcofmjjmjhaaDoor.o1 r96 fun ρ q96 => ?_; go_simp; (try go_bits);
   exact Jo J hT'
  refine SeqOps.val ?_ (Sp fun ax wx hS hT' hd K' J => ?_) ?_; rotate_left 1
  ·have r2 := hS.at 2 (by decide) (hE.at 2 rfl); obtain ⟨hcT, hfT, hlT, hmT, hwT, hzT⟩ := bT hT'
   refine Go.Proofs.YtkhmcofmjjmjhaaDoor.o1 r2 fun ρ q2 => ?_; go_simp;
   exact Jo J hT'
  refine SeqOps.val ?_ (Sp fun ax wx hS hT' hd K' J => ?_) ?_; rotate_left 1
  ·have r98 := Tv hd 0 6 98; obtain ⟨hcT, hfT, hlT, hmT, hwT, hzT⟩ := bT hT'
   refine Go.Proofs.YtkhmcofmjjmjhaaDoor.o1 r98 fun ρ q98 => ?_; go_simp;
   exact Jo J hT'
  refine SeqOps.val ?_ (Sp fun ax wx hS hT' hd K' J => ?_) ?_; rotate_left 1
  ·have r99 := Tv hd 0 7 99; obtain ⟨hcT, hfT, hlT, hmT, hwT, hzT⟩ := bT hT'
   refine Go.Proofs.YtkhmcofmjjmjhaaDoor.o1 r99 fun ρ q99 => ?_; go_simp;
   exact Jo J hT'
  refine SeqOps.val ?_ (Sp fun ax wx hS hT' hd K' J => ?_) ?_; rotate_left 1
  ·have r10 := hS.at 10 (by decide) (hE.at 10 rfl); obtain ⟨hcT, hfT, hlT, hmT, hwT, hzT⟩ := bT hT'
   refine Go.Proofs.YtkhmcofmjjmjhaaDoor.o1 r10 fun ρ q10 => ?_; go_simp;
   exact Jo J hT'
  refine SeqOps.val ?_ (Sp fun ax wx hS hT' hd K' J => ?_) ?_; rotate_left 1
  ·have r101 := Tv hd 0 9 101; obtain ⟨hcT, hfT, hlT, hmT, hwT, hzT⟩ := bT hT'
   refine Go.Proofs.YtkhmcofmjjmjhaaDoor.o1 r101 fun ρ q101 => ?_; go_simp;
   exact Jo J hT'
  refine SeqOps.val ?_ (Sp fun ax wx hS hT' hd K' J => ?_) ?_; rotate_left 1
  ·have r13 := hS.at 13 (by decide) (hE.at 13 rfl); obtain ⟨hcT, hfT, hlT, hmT, hwT, hzT⟩ := bT hT'
   refine Go.Proofs.YtkhmcofmjjmjhaaDoor.o1 r13 fun ρ q13 => ?_; go_simp;
   exact Jo J hT'
  refine SeqOps.val ?_ (Sp fun ax wx hS hT' hd K' J => ?_) ?_; rotate_left 1
  ·have r102 := Tv hd 1 10 102; have r103 := Tv hd 0 11 103; obtain ⟨hcT, hfT, hlT, hmT, hwT, hzT⟩ := bT hT'
   refine o2 r102 r103 fun ρ q102 q103 => ?_; go_simp; (try go_bits);
   exact Jo J hT'
  refine SeqOps.val ?_ (Sp fun ax wx hS hT' hd K' J => ?_) ?_; rotate_left 1
  ·have r104 := Tv hd 0 12 104; obtain ⟨hcT, hfT, hlT, hmT, hwT, hzT⟩ := bT hT'
   refine Go.Proofs.YtkhmcofmjjmjhaaDoor.o1 r104 fun ρ q104 => ?_; go_simp;
   exact Jo J hT'
  refine SeqOps.val ?_ (Sp fun ax wx hS hT' hd K' J => ?_) ?_; rotate_left 1
  ·have r105 := Tv hd 0 13 105; obtain ⟨hcT, hfT, hlT, hmT, hwT, hzT⟩ := bT hT'
   refine Go.Proofs.YtkhmcofmjjmjhaaDoor.o1 r105 fun ρ q105 => ?_; go_simp;
   exact Jo J hT'
  refine SeqOps.val ?_ (Sp fun ax wx hS hT' hd K' J => ?_) ?_; rotate_left 1
  ·have r106 := Tv hd 0 14 106; obtain ⟨hcT, hfT, hlT, hmT, hwT, hzT⟩ := bT hT'
   refine Go.Proofs.YtkhmcofmjjmjhaaDoor.o1 r106 fun ρ q106 => ?_; go_simp;
   exact Jo J hT'
  refine SeqOps.val ?_ (Sp fun ax wx hS hT' hd K' J => ?_) ?_; rotate_left 1
  ·have r100 := Tv hd 7 8 100; have r107 := Tv hd 0 15 107; obtain ⟨hcT, hfT, hlT, hmT, hwT, hzT⟩ := bT hT'
   refine o2 r100 r107 fun ρ q100 q107 => ?_; go_simp; (try go_bits); (try simp (disch := omega) only [IntWalk.i64_in]);
   exact Jo J hT'
  refine SeqOps.val ?_ (Sp fun ax wx hS hT' hd K' J => ?_) ?_; rotate_left 1
  ·have r97 := Tv hd 11 5 97; have r108 := Tv hd 0 16 108; obtain ⟨hcT, hfT, hlT, hmT, hwT, hzT⟩ := bT hT'
   refine o2 r97 r108 fun ρ q97 q108 => ?_; go_simp; (try go_bits); (try simp (disch := omega) only [IntWalk.i64_in]);
   exact Jo J hT'
  refine SeqOps.val ?_ (Sp fun ax wx hS hT' hd K' J => ?_) ?_; rotate_left 1
  ·have r2 := hS.at 2 (by decide) (hE.at 2 rfl); obtain ⟨hcT, hfT, hlT, hmT, hwT, hzT⟩ := bT hT'
   refine Go.Proofs.YtkhmcofmjjmjhaaDoor.o1 r2 fun ρ q2 => ?_; go_simp;
   exact Jo J hT'
  refine SeqOps.val ?_ (Sp fun ax wx hS hT' hd K' J => ?_) ?_; rotate_left 1
  ·have r110 := Tv hd 0 18 110; obtain ⟨hcT, hfT, hlT, hmT, hwT, hzT⟩ := bT hT'
   refine Go.Proofs.YtkhmcofmjjmjhaaDoor.o1 r110 fun ρ q110 => ?_; go_simp;
   exact Jo J hT'
  refine SeqOps.val ?_ (Sp fun ax wx hS hT' hd K' J => ?_) ?_; rotate_left 1
  ·have r111 := Tv hd 0 19 111; obtain ⟨hcT, hfT, hlT, hmT, hwT, hzT⟩ := bT hT'
   refine Go.Proofs.YtkhmcofmjjmjhaaDoor.o1 r111 fun ρ q111 => ?_; go_simp;
   exact Jo J hT'
  refine SeqOps.val ?_ (Sp fun ax wx hS hT' hd K' J => ?_) ?_; rotate_left 1
  ·have r10 := hS.at 10 (by decide) (hE.at 10 rfl); obtain ⟨hcT, hfT, hlT, hmT, hwT, hzT⟩ := bT hT'
   refine Go.Proofs.YtkhmcofmjjmjhaaDoor.o1 r10 fun ρ q10 => ?_; go_simp;
   exact Jo J hT'
  refine SeqOps.val ?_ (Sp fun ax wx hS hT' hd K' J => ?_) ?_; rotate_left 1
  ·have r113 := Tv hd 0 21 113; obtain ⟨hcT, hfT, hlT, hmT, hwT, hzT⟩ := bT hT'
   refine Go.Proofs.YtkhmcofmjjmjhaaDoor.o1 r113 fun ρ q113 => ?_; go_simp;
   exact Jo J hT'
  refine SeqOps.val ?_ (Sp fun ax wx hS hT' hd K' J => ?_) ?_; rotate_left 1
  ·have r13 := hS.at 13 (by decide) (hE.at 13 rfl); obtain ⟨hcT, hfT, hlT, hmT, hwT, hzT⟩ := bT hT'
   refine Go.Proofs.YtkhmcofmjjmjhaaDoor.o1 r13 fun ρ q13 => ?_; go_simp;
   exact Jo J hT'
  refine SeqOps.val ?_ (Sp fun ax wx hS hT' hd K' J => ?_) ?_; rotate_left 1
  ·have r114 := Tv hd 1 22 114; have r115 := Tv hd 0 23 115; obtain ⟨hcT, hfT, hlT, hmT, hwT, hzT⟩ := bT hT'
   refine o2 r114 r115 fun ρ q114 q115 => ?_; go_simp; (try go_bits);
   exact Jo J hT'
  refine SeqOps.val ?_ (Sp fun ax wx hS hT' hd K' J => ?_) ?_; rotate_left 1
  ·have r116 := Tv hd 0 24 116; obtain ⟨hcT, hfT, hlT, hmT, hwT, hzT⟩ := bT hT'
   refine Go.Proofs.YtkhmcofmjjmjhaaDoor.o1 r116 fun ρ q116 => ?_; go_simp;
   exact Jo J hT'
  refine SeqOps.val ?_ (Sp fun ax wx hS hT' hd K' J => ?_) ?_; rotate_left 1
  ·have r117 := Tv hd 0 25 117; obtain ⟨hcT, hfT, hlT, hmT, hwT, hzT⟩ := bT hT'
   refine Go.Proofs.YtkhmcofmjjmjhaaDoor.o1 r117 fun ρ q117 => ?_; go_simp;
   exact Jo J hT'
  refine SeqOps.val ?_ (Sp fun ax wx hS hT' hd K' J => ?_) ?_; rotate_left 1
  ·have r118 := Tv hd 0 26 118; obtain ⟨hcT, hfT, hlT, hmT, hwT, hzT⟩ := bT hT'
   refine Go.Proofs.YtkhmcofmjjmjhaaDoor.o1 r118 fun ρ q118 => ?_; go_simp;
   exact Jo J hT'
  refine SeqOps.val ?_ (Sp fun ax wx hS hT' hd K' J => ?_) ?_; rotate_left 1
  ·have r112 := Tv hd 7 20 112; have r119 := Tv hd 0 27 119; obtain ⟨hcT, hfT, hlT, hmT, hwT, hzT⟩ := bT hT'
   refine o2 r112 r119 fun ρ q112 q119 => ?_; go_simp; (try go_bits); (try simp (disch := omega) only [IntWalk.i64_in]);
   exact Jo J hT'
  refine SeqOps.val ?_ (Sp fun ax wx hS hT' hd K' J => ?_) ?_; rotate_left 1
  ·have r109 := Tv hd 11 17 109; have r120 := Tv hd 0 28 120; obtain ⟨hcT, hfT, hlT, hmT, hwT, hzT⟩ := bT hT'
   refine o2 r109 r120 fun ρ q109 q120 => ?_; go_simp; (try go_bits); (try simp (disch := omega) only [IntWalk.i64_in]);
   exact Jo J hT'
  refine SeqOps.val ?_ (Sp fun ax wx hS hT' hd K' J => ?_) ?_; rotate_left 1
  ·have r2 := hS.at 2 (by decide) (hE.at 2 rfl); obtain ⟨hcT, hfT, hlT, hmT, hwT, hzT⟩ := bT hT'
   refine Go.Proofs.YtkhmcofmjjmjhaaDoor.o1 r2 fun ρ q2 => ?_; go_simp;
   exact Jo J hT'
  refine SeqOps.val ?_ (Sp fun ax wx hS hT' hd K' J => ?_) ?_; rotate_left 1
  ·have r122 := Tv hd 0 30 122; obtain ⟨hcT, hfT, hlT, hmT, hwT, hzT⟩ := bT hT'
   refine Go.Proofs.YtkhmcofmjjmjhaaDoor.o1 r122 fun ρ q122 => ?_; go_simp;
   exact Jo J hT'
  refine SeqOps.val ?_ (Sp fun ax wx hS hT' hd K' J => ?_) ?_; rotate_left 1
  ·have r123 := Tv hd 0 31 123; obtain ⟨hcT, hfT, hlT, hmT, hwT, hzT⟩ := bT hT'
   refine Go.Proofs.YtkhmcofmjjmjhaaDoor.o1 r123 fun ρ q123 => ?_; go_simp;
   exact Jo J hT'
  refine SeqOps.val ?_ (Sp fun ax wx hS hT' hd K' J => ?_) ?_; rotate_left 1
  ·have r10 := hS.at 10 (by decide) (hE.at 10 rfl); obtain ⟨hcT, hfT, hlT, hmT, hwT, hzT⟩ := bT hT'
   refine Go.Proofs.YtkhmcofmjjmjhaaDoor.o1 r10 fun ρ q10 => ?_; go_simp;
   exact Jo J hT'
  refine SeqOps.val ?_ (Sp fun ax wx hS hT' hd K' J => ?_) ?_; rotate_left 1
  ·have r125 := Tv hd 0 33 125; obtain ⟨hcT, hfT, hlT, hmT, hwT, hzT⟩ := bT hT'
   refine Go.Proofs.YtkhmcofmjjmjhaaDoor.o1 r125 fun ρ q125 => ?_; go_simp;
   exact Jo J hT'
  refine SeqOps.val ?_ (Sp fun ax wx hS hT' hd K' J => ?_) ?_; rotate_left 1
  ·have r13 := hS.at 13 (by decide) (hE.at 13 rfl); obtain ⟨hcT, hfT, hlT, hmT, hwT, hzT⟩ := bT hT'
   refine Go.Proofs.YtkhmcofmjjmjhaaDoor.o1 r13 fun ρ q13 => ?_; go_simp;
   exact Jo J hT'
  refine SeqOps.val ?_ (Sp fun ax wx hS hT' hd K' J => ?_) ?_; rotate_left 1
  ·have r126 := Tv hd 1 34 126; have r127 := Tv hd 0 35 127; obtain ⟨hcT, hfT, hlT, hmT, hwT, hzT⟩ := bT hT'
   refine o2 r126 r127 fun ρ q126 q127 => ?_; go_simp; (try go_bits);
   exact Jo J hT'
  refine SeqOps.val ?_ (Sp fun ax wx hS hT' hd K' J => ?_) ?_; rotate_left 1
  ·have r128 := Tv hd 0 36 128; obtain ⟨hcT, hfT, hlT, hmT, hwT, hzT⟩ := bT hT'
   refine Go.Proofs.YtkhmcofmjjmjhaaDoor.o1 r128 fun ρ q128 => ?_; go_simp;
   exact Jo J hT'
  refine SeqOps.val ?_ (Sp fun ax wx hS hT' hd K' J => ?_) ?_; rotate_left 1
  ·have r129 := Tv hd 0 37 129; obtain ⟨hcT, hfT, hlT, hmT, hwT, hzT⟩ := bT hT'
   refine Go.Proofs.YtkhmcofmjjmjhaaDoor.o1 r129 fun ρ q129 => ?_; go_simp;
   exact Jo J hT'
  refine SeqOps.val ?_ (Sp fun ax wx hS hT' hd K' J => ?_) ?_; rotate_left 1
  ·have r130 := Tv hd 0 38 130; obtain ⟨hcT, hfT, hlT, hmT, hwT, hzT⟩ := bT hT'
   refine Go.Proofs.YtkhmcofmjjmjhaaDoor.o1 r130 fun ρ q130 => ?_; go_simp;
   exact Jo J hT'
  refine SeqOps.val ?_ (Sp fun ax wx hS hT' hd K' J => ?_) ?_; rotate_left 1
  ·have r124 := Tv hd 7 32 124; have r131 := Tv hd 0 39 131; obtain ⟨hcT, hfT, hlT, hmT, hwT, hzT⟩ := bT hT'
   refine o2 r124 r131 fun ρ q124 q131 => ?_; go_simp; (try go_bits); (try simp (disch := omega) only [IntWalk.i64_in]);
   exact Jo J hT'
  refine SeqOps.val ?_ (Sp fun ax wx hS hT' hd K' J => ?_) ?_; rotate_left 1
  ·have r121 := Tv hd 11 29 121; have r132 := Tv hd 0 40 132; obtain ⟨hcT, hfT, hlT, hmT, hwT, hzT⟩ := bT hT'
   refine o2 r121 r132 fun ρ q121 q132 => ?_; go_simp; (try go_bits); (try simp (disch := omega) only [IntWalk.i64_in]);
   exact Jo J hT'
  refine SeqOps.nil ?_
  intro wv hBp; (repeat refine Ek ?_)
  refine fun apx hEpx => ?_
  simp only [lk, pick, Nat.reduceEqDiff, ↓reduceIte] at hEpx
  refine M1 hEpx 133 fun K' J ρ q133 => ?_; go_simp; (try clear q133)
  refine Ln hEpx J fun ap_1 hEp_1 => ?_; clear J K' hEpx
  refine late_done [2, 6, 7, 8, 9, 10, 11, 12, 13] hEp_1 hK (fun a hE => ?_); clear hK K Q' hEp_1; simp only [lk, pick, Nat.reduceEqDiff, ↓reduceIte] at hE
  have hbwv := hbwu.trans (hBp.mono hbwu.size)
  replace hCB := hCB.below hBp
  clear nB cB0 cB1 cB2 cB3
  have nB := hCB.1; have cB0 := hCB.2 0 _ rfl; have cB1 := hCB.2 1 _ rfl; have cB2 := hCB.2 2 _ rfl; have cB3 := hCB.2 3 _ rfl
  refine Ks ?_
  refine Rs 3 fun Q' K hK => ?_
  refine M1 hE 13 fun K' J ρ q13 => ?_; go_simp; (try clear q13)
  refine Ln hE J fun _ Eb => ?_; clear J K' hE a
  refine M1 Eb 48 fun K' J ρ q48 => ?_; go_simp; (try go_bits); (try simp (disch := omega) only [IntWalk.i64_in]); (try clear q48)
  refine Ln Eb J fun _ Ea => ?_; clear J K' Eb
  refine M1 Ea 49 fun K' J ρ q49 => ?_; go_simp; (try clear q49)
  refine Ln Ea J fun _ Eb => ?_; clear J K' Ea
  refine late_done [2, 6, 7, 8, 9, 10, 11, 12, 13] Eb hK (fun a hE => ?_); clear hK K Q' Eb; simp only [lk, pick, Nat.reduceEqDiff, ↓reduceIte] at hE
  refine Ks ?_
  refine ⟨k + 1, ⟨by omega, ?_, ?_⟩, by omega⟩
  ·rw [HQ6.out, HZ6.out]
   simpa using hE
  ·exact hW.trans ((hBo.trans (hBp.mono hBo.size)).mono hW.size)
 ·have hke : k = h + 1 := by omega
  subst hke
  rw [HE1.out, HE0.out] at hE
  have hS1 : SbAt wr A1 none (extB b true) := ⟨hA1, fun h => absurd rfl h⟩
  have hS3 : SbAt wr A3 none (extB b false) := ⟨hA3, fun h => absurd rfl h⟩
  clear hA1 hA3 hCB
  have nY1 := hCY1.1; have cY10 := hCY1.2 0 _ rfl; have cY11 := hCY1.2 1 _ rfl
  have hle := HLE.out
  refine Ks ?_
  refine Rs 3 fun Q' K hK => ?_
  refine M1 hE 13 fun K' J ρ q13 => ?_; go_simp; (try clear q13)
  refine Ln hE J fun _ Eb => ?_; clear J K' hE a
  refine M1 Eb 6 fun K' J ρ q6 => ?_; go_simp; (try clear q6)
  refine Ln Eb J fun _ Ea => ?_; clear J K' Eb
  refine M2 Ea 45 46 fun K' J ρ q45 q46 => ?_; go_simp; (try go_bits); (try clear q45 q46)
  refine Ln Ea J fun _ Eb => ?_; clear J K' Ea
  replace Eb := Eb.turn 47 (v' := .bool false) rfl (by (first | (simp; done) | (simp; omega)))
  refine late_done [2, 6, 7, 8, 9, 10, 11, 12, 13, 47] Eb hK (fun a hE => ?_); clear hK K Q' Eb; simp only [lk, pick, Nat.reduceEqDiff, ↓reduceIte] at hE
  refine Ks ?_
  refine cond_no hE (t := 47) rfl ?_
  refine Ks ?_
  refine Rs 9 fun Q' K hK => ?_
  refine Lp fun K' J => ?_
  have r9 := hE.at 9 rfl
  refine wp_load_mid 29 (.tmp 9) rfl C9 0 (eval_of r9) (sbV A1 k1' none 0 (extB b true)) _ (fun j u hu => by rw [Nat.zero_add]; exact hCC9.2 j u hu) Tryd.underlying29 rfl (by kernel_rfl) ?_
  (try clear r9)
  refine Ln hE J fun _ Eb => ?_; clear J K' hE a
  refine M1 Eb 6 fun K' J ρ q6 => ?_; go_simp; (try clear q6)
  refine Ln Eb J fun _ Ea => ?_; clear J K' Eb
  refine M2 Ea 135 136 fun K' J ρ q135 q136 => ?_; go_simp; (try go_bits); (try clear q135 q136)
  go_at_call 18; refine (CL2.out A1 k1' _ hS1).mono ?_; rintro e' v5a ⟨rfl, hv5a⟩
  (try clear r135 r136)
  refine Ln Ea J fun _ Eb => ?_; clear J K' Ea
  refine M1 Eb 137 fun K' J ρ q137 => ?_; go_simp; (try clear q137)
  refine Ln Eb J fun _ Ea => ?_; clear J K' Eb
  refine M1 Ea 134 fun K' J ρ q134 => ?_; go_simp; (try clear q134)
  refine Ln Ea J fun _ Eb => ?_; clear J K' Ea
  refine M1 Eb 134 fun K' J ρ q134 => ?_; go_simp; (try clear q134)
  refine Ln Eb J fun _ Ea => ?_; clear J K' Eb
  refine M0 fun K' J ρ => ?_; go_simp;
  refine Ln Ea J fun _ Eb => ?_; clear J K' Ea
  refine M2 Eb 14 138 fun K' J ρ q14 q138 => ?_; go_simp; (try clear q14 q138)
  refine late_skip Eb J (fun _ Ea => ?_); clear J K'; clear Eb
  refine M1 Ea 139 fun K' J ρ q139 => ?_; go_simp; (try clear q139)
  refine Ln Ea J fun _ Eb => ?_; clear J K' Ea
  refine late_done [6, 7, 8, 10, 11, 12, 14, 15] Eb hK (fun a hE => ?_); clear hK K Q' Eb; simp only [lk, pick, Nat.reduceEqDiff, ↓reduceIte] at hE
  have hbv5a := hbr.trans (hv5a.mono hbr.size)
  replace hCY1 := hCY1.below hv5a
  clear nY1 cY10 cY11
  have nY1 := hCY1.1; have cY10 := hCY1.2 0 _ rfl; have cY11 := hCY1.2 1 _ rfl
  replace hTw := hTw.below hv5a
  replace hCC9 := hCC9.below hv5a
  replace hCCa := hCCa.below hv5a
  replace hS1 := hS1.below hv5a
  replace hS3 := hS3.below hv5a
  obtain ⟨Y2, hY2e⟩ : ∃ B, B = v5a.heap.size := ⟨_, rfl⟩; rw [← hY2e] at hE; refine world_cut (fun wt => Below v5a.heap.size v5a wt ∧ Cells wt Y2 [.int .i64 t1, .int .i64 t2]) ⟨(Below.refl _ _).alloc (Nat.le_refl _) _, by rw [hY2e]; exact cells_new _ _ _⟩ (fun v5 hCut => ?_); obtain ⟨hbv5, hCY2⟩ := hCut; clear hY2e
  have kv5 := hbv5
  clear hbv5
  have hbv5 := hbv5a.trans (kv5.mono hbv5a.size)
  replace hCY1 := hCY1.below kv5
  clear nY1 cY10 cY11
  have nY1 := hCY1.1; have cY10 := hCY1.2 0 _ rfl; have cY11 := hCY1.2 1 _ rfl
  replace hTw := hTw.below kv5
  replace hCC9 := hCC9.below kv5
  replace hCCa := hCCa.below kv5
  replace hS1 := hS1.below kv5
  replace hS3 := hS3.below kv5
  have nY2 := hCY2.1; have cY20 := hCY2.2 0 _ rfl; have cY21 := hCY2.2 1 _ rfl
  refine Ks ?_
  refine Rs 9 fun Q' K hK => ?_
  refine Lp fun K' J => ?_
  have r10 := hE.at 10 rfl
  refine wp_load_mid 29 (.tmp 10) rfl Ca 0 (eval_of r10) (sbV A3 k3' none 0 (extB b false)) _ (fun j u hu => by rw [Nat.zero_add]; exact hCCa.2 j u hu) Tryd.underlying29 rfl (by kernel_rfl) ?_
  (try clear r10)
  refine Ln hE J fun _ Eb => ?_; clear J K' hE a
  refine M1 Eb 6 fun K' J ρ q6 => ?_; go_simp; (try clear q6)
  refine Ln Eb J fun _ Ea => ?_; clear J K' Eb
  refine M2 Ea 141 142 fun K' J ρ q141 q142 => ?_; go_simp; (try go_bits); (try clear q141 q142)
  go_at_call 18; refine (CL3.out A3 k3' _ hS3).mono ?_; rintro e' v6a ⟨rfl, hv6a⟩
  (try clear r141 r142)
  refine Ln Ea J fun _ Eb => ?_; clear J K' Ea
  refine M1 Eb 143 fun K' J ρ q143 => ?_; go_simp; (try clear q143)
  refine Ln Eb J fun _ Ea => ?_; clear J K' Eb
  refine M1 Ea 140 fun K' J ρ q140 => ?_; go_simp; (try clear q140)
  refine Ln Ea J fun _ Eb => ?_; clear J K' Ea
  refine M1 Eb 140 fun K' J ρ q140 => ?_; go_simp; (try clear q140)
  refine Ln Eb J fun _ Ea => ?_; clear J K' Eb
  refine M0 fun K' J ρ => ?_; go_simp;
  refine Ln Ea J fun _ Eb => ?_; clear J K' Ea
  refine M2 Eb 16 144 fun K' J ρ q16 q144 => ?_; go_simp; (try clear q16 q144)
  refine late_skip Eb J (fun _ Ea => ?_); clear J K'; clear Eb
  refine M1 Ea 145 fun K' J ρ q145 => ?_; go_simp; (try clear q145)
  refine Ln Ea J fun _ Eb => ?_; clear J K' Ea
  refine late_done [7, 8, 11, 12, 14, 15, 16, 17] Eb hK (fun a hE => ?_); clear hK K Q' Eb; simp only [lk, pick, Nat.reduceEqDiff, ↓reduceIte] at hE
  have hbv6a := hbv5.trans (hv6a.mono hbv5.size)
  replace hCY1 := hCY1.below hv6a
  clear nY1 cY10 cY11
  have nY1 := hCY1.1; have cY10 := hCY1.2 0 _ rfl; have cY11 := hCY1.2 1 _ rfl
  replace hCY2 := hCY2.below hv6a
  clear nY2 cY20 cY21
  have nY2 := hCY2.1; have cY20 := hCY2.2 0 _ rfl; have cY21 := hCY2.2 1 _ rfl
  replace hTw := hTw.below hv6a
  replace hCC9 := hCC9.below hv6a
  replace hCCa := hCCa.below hv6a
  replace hS1 := hS1.below hv6a
  replace hS3 := hS3.below hv6a
  obtain ⟨Y3, hY3e⟩ : ∃ B, B = v6a.heap.size := ⟨_, rfl⟩; rw [← hY3e] at hE; refine world_cut (fun wt => Below v6a.heap.size v6a wt ∧ Cells wt Y3 [.int .i64 u1, .int .i64 u2]) ⟨(Below.refl _ _).alloc (Nat.le_refl _) _, by rw [hY3e]; exact cells_new _ _ _⟩ (fun v6 hCut => ?_); obtain ⟨hbv6, hCY3⟩ := hCut; clear hY3e
  have kv6 := hbv6
  clear hbv6
  have hbv6 := hbv6a.trans (kv6.mono hbv6a.size)
  replace hCY1 := hCY1.below kv6
  clear nY1 cY10 cY11
  have nY1 := hCY1.1; have cY10 := hCY1.2 0 _ rfl; have cY11 := hCY1.2 1 _ rfl
  replace hCY2 := hCY2.below kv6
  clear nY2 cY20 cY21
  have nY2 := hCY2.1; have cY20 := hCY2.2 0 _ rfl; have cY21 := hCY2.2 1 _ rfl
  replace hTw := hTw.below kv6
  replace hCC9 := hCC9.below kv6
  replace hCCa := hCCa.below kv6
  replace hS1 := hS1.below kv6
  replace hS3 := hS3.below kv6
  have nY3 := hCY3.1; have cY30 := hCY3.2 0 _ rfl; have cY31 := hCY3.2 1 _ rfl
  refine Ks ?_
  refine Rs 48 fun Q' K hK => ?_
  refine M1 hE 8 fun K' J ρ q8 => ?_; go_simp; (try clear q8)
  refine Ln hE J fun _ Eb => ?_; clear J K' hE a
  refine M1 Eb 146 fun K' J ρ q146 => ?_; go_simp; (try go_bits); (try clear q146)
  refine Ln Eb J fun _ Ea => ?_; clear J K' Eb
  refine M1 Ea 147 fun K' J ρ q147 => ?_; go_simp; (try clear q147)
  refine Ln Ea J fun _ Eb => ?_; clear J K' Ea
  refine N1 Eb 148 15 fun K' J ρ q15 => ?_; go_simp; (try clear q15)
  refine Ln Eb J fun _ Ea => ?_; clear J K' Eb
  refine N1 Ea 148 149 fun K' J ρ q149 => ?_; go_simp; (try go_bits); (try clear q149)
  refine Ln Ea J fun _ Eb => ?_; clear J K' Ea
  refine M2 Eb 148 150 fun K' J ρ q148 q150 => ?_; go_simp; (try go_bits); (try clear q148 q150)
  refine Ln Eb J fun _ Ea => ?_; clear J K' Eb
  refine M1 Ea 151 fun K' J ρ q151 => ?_; go_simp; (try clear q151)
  refine Ln Ea J fun _ Eb => ?_; clear J K' Ea
  refine N1 Eb 152 17 fun K' J ρ q17 => ?_; go_simp; (try clear q17)
  refine Ln Eb J fun _ Ea => ?_; clear J K' Eb
  refine N1 Ea 152 153 fun K' J ρ q153 => ?_; go_simp; (try go_bits); (try clear q153)
  refine Ln Ea J fun _ Eb => ?_; clear J K' Ea
  refine M2 Eb 152 154 fun K' J ρ q152 q154 => ?_; go_simp; (try go_bits); (try clear q152 q154)
  refine Ln Eb J fun _ Ea => ?_; clear J K' Eb
  refine M1 Ea 155 fun K' J ρ q155 => ?_; go_simp; (try clear q155)
  refine Ln Ea J fun _ Eb => ?_; clear J K' Ea
  refine N1 Eb 156 7 fun K' J ρ q7 => ?_; go_simp; (try clear q7)
  refine Ln Eb J fun _ Ea => ?_; clear J K' Eb
  refine N1 Ea 156 157 fun K' J ρ q157 => ?_; go_simp; (try clear q157)
  refine Ln Ea J fun _ Eb => ?_; clear J K' Ea
  refine N1 Eb 156 11 fun K' J ρ q11 => ?_; go_simp; (try clear q11)
  refine Ln Eb J fun _ Ea => ?_; clear J K' Eb
  refine N2 Ea 156 158 159 fun K' J ρ q158 q159 => ?_; go_simp; (try go_bits); (try clear q158 q159)
  refine Ln Ea J fun _ Eb => ?_; clear J K' Ea
  refine M2 Eb 156 160 fun K' J ρ q156 q160 => ?_; go_simp; (try go_bits); (try clear q156 q160)
  refine Ln Eb J fun _ Ea => ?_; clear J K' Eb
  refine M1 Ea 161 fun K' J ρ q161 => ?_; go_simp; (try clear q161)
  refine Ln Ea J fun _ Eb => ?_; clear J K' Ea
  refine N1 Eb 162 14 fun K' J ρ q14 => ?_; go_simp; (try clear q14)
  refine Ln Eb J fun _ Ea => ?_; clear J K' Eb
  refine N1 Ea 162 163 fun K' J ρ q163 => ?_; go_simp; (try clear q163)
  refine Ln Ea J fun _ Eb => ?_; clear J K' Ea
  refine N1 Eb 162 11 fun K' J ρ q11 => ?_; go_simp; (try clear q11)
  refine Ln Eb J fun _ Ea => ?_; clear J K' Eb
  refine N2 Ea 162 164 165 fun K' J ρ q164 q165 => ?_; go_simp; (try go_bits); (try clear q164 q165)
  refine Ln Ea J fun _ Eb => ?_; clear J K' Ea
  refine M2 Eb 162 166 fun K' J ρ q162 q166 => ?_; go_simp; (try go_bits); (try clear q162 q166)
  refine Ln Eb J fun _ Ea => ?_; clear J K' Eb
  refine M1 Ea 167 fun K' J ρ q167 => ?_; go_simp; (try clear q167)
  refine Ln Ea J fun _ Eb => ?_; clear J K' Ea
  refine N1 Eb 168 7 fun K' J ρ q7 => ?_; go_simp; (try clear q7)
  refine Ln Eb J fun _ Ea => ?_; clear J K' Eb
  refine N1 Ea 168 169 fun K' J ρ q169 => ?_; go_simp; (try clear q169)
  refine Ln Ea J fun _ Eb => ?_; clear J K' Ea
  refine N1 Eb 168 12 fun K' J ρ q12 => ?_; go_simp; (try clear q12)
  refine Ln Eb J fun _ Ea => ?_; clear J K' Eb
  refine N2 Ea 168 170 171 fun K' J ρ q170 q171 => ?_; go_simp; (try go_bits); (try clear q170 q171)
  refine Ln Ea J fun _ Eb => ?_; clear J K' Ea
  replace Eb := Eb.turn 172 (v' := .bool true) rfl (by (first | (simp; done) | (simp; omega)))
  refine M2 Eb 168 172 fun K' J ρ q168 q172 => ?_; go_simp; (try go_bits); (try clear q168 q172)
  refine Ln Eb J fun _ Ea => ?_; clear J K' Eb
  refine M1 Ea 173 fun K' J ρ q173 => ?_; go_simp; (try clear q173)
  refine Ln Ea J fun _ Eb => ?_; clear J K' Ea
  refine N1 Eb 174 16 fun K' J ρ q16 => ?_; go_simp; (try clear q16)
  refine Ln Eb J fun _ Ea => ?_; clear J K' Eb
  refine N1 Ea 174 175 fun K' J ρ q175 => ?_; go_simp; (try clear q175)
  refine Ln Ea J fun _ Eb => ?_; clear J K' Ea
  refine N1 Eb 174 12 fun K' J ρ q12 => ?_; go_simp; (try clear q12)
  refine Ln Eb J fun _ Ea => ?_; clear J K' Eb
  refine N2 Ea 174 176 177 fun K' J ρ q176 q177 => ?_; go_simp; (try go_bits); (try clear q176 q177)
  refine Ln Ea J fun _ Eb => ?_; clear J K' Ea
  refine M2 Eb 174 178 fun K' J ρ q174 q178 => ?_; go_simp; (try go_bits); (try clear q174 q178)
  refine Ln Eb J fun _ Ea => ?_; clear J K' Eb
  refine M1 Ea 179 fun K' J ρ q179 => ?_; go_simp; (try clear q179)
  refine Ln Ea J fun _ Eb => ?_; clear J K' Ea
  refine N1 Eb 180 14 fun K' J ρ q14 => ?_; go_simp; (try clear q14)
  refine Ln Eb J fun _ Ea => ?_; clear J K' Eb
  refine N1 Ea 180 7 fun K' J ρ q7 => ?_; go_simp; (try clear q7)
  refine Ln Ea J fun _ Eb => ?_; clear J K' Ea
  refine N2 Eb 180 181 182 fun K' J ρ q181 q182 => ?_; go_simp; (try go_bits); (try clear q181 q182)
  go_at_call 42; refine (I1.out _).mono ?_; rintro e' wt ⟨rfl, ht⟩
  replace hCY1 := hCY1.below ht
  replace hCY3 := hCY3.below ht
  have d10 := hCY1.2 0 _ rfl
  have d11 := hCY1.2 1 _ rfl
  have d30 := hCY3.2 0 _ rfl
  have d31 := hCY3.2 1 _ rfl
  (try clear r181 r182)
  refine Ln Eb J fun _ Ea => ?_; clear J K' Eb
  refine M2 Ea 180 183 fun K' J ρ q180 q183 => ?_; go_simp; (try go_bits); (try clear q180 q183)
  refine Ln Ea J fun _ Eb => ?_; clear J K' Ea
  refine M1 Eb 184 fun K' J ρ q184 => ?_; go_simp; (try clear q184)
  refine Ln Eb J fun _ Ea => ?_; clear J K' Eb
  refine N1 Ea 185 16 fun K' J ρ q16 => ?_; go_simp; (try clear q16)
  refine Ln Ea J fun _ Eb => ?_; clear J K' Ea
  refine N1 Eb 185 7 fun K' J ρ q7 => ?_; go_simp; (try clear q7)
  refine Ln Eb J fun _ Ea => ?_; clear J K' Eb
  refine N2 Ea 185 186 187 fun K' J ρ q186 q187 => ?_; go_simp; (try go_bits); (try clear q186 q187)
  go_at_call 42; refine (I2.out _).mono ?_; rintro e' wu ⟨rfl, hu⟩
  have htu := ht.trans (hu.mono ht.size)
  (try clear r186 r187)
  refine Ln Ea J fun _ Eb => ?_; clear J K' Ea
  refine M2 Eb 185 188 fun K' J ρ q185 q188 => ?_; go_simp; (try go_bits); (try clear q185 q188)
  refine Ln Eb J fun _ Ea => ?_; clear J K' Eb
  refine M1 Ea 189 fun K' J ρ q189 => ?_; go_simp; (try clear q189)
  refine Ln Ea J fun _ Eb => ?_; clear J K' Ea
  refine Ly Eb 190 fun K' J => ?_
  refine o0 fun ρ => ?_; go_simp; (try go_bits);
  go_at_call 22; refine (snowed_any _ (hTw.below htu)).mono ?_; rintro e' wv ⟨rfl, k9⟩
  have htv := htu.trans (k9.mono htu.size)
  refine Ln Eb J fun _ Ea => ?_; clear J K' Eb
  refine M2 Ea 190 191 fun K' J ρ q190 q191 => ?_; go_simp; (try go_bits); (try clear q190 q191)
  refine Ln Ea J fun _ Eb => ?_; clear J K' Ea
  refine M1 Eb 192 fun K' J ρ q192 => ?_; go_simp; (try clear q192)
  refine Ln Eb J fun _ Ea => ?_; clear J K' Eb
  refine late_done [4] Ea hK (fun a hE => ?_); clear hK K Q' Ea; simp only [lk, pick, Nat.reduceEqDiff, ↓reduceIte] at hE
  refine Ks ?_
  exact ret_one hE rfl rfl ⟨rfl, hbv6.trans (htv.mono hbv6.size)⟩
theorem SlopeEnds_any (n : Int) (w : World) (hTw : TabW w) (hM : SbAt w H S b) (hh : b.hours.length ≤ 9223372036854775807) (hss : b.sights.length ≤ 9223372036854775807) : Calls Tryd.prog 7 #[.agg (sbV H hcap S scap b).toArray, .int .i64 n] w fun e w' => e = .returned (.bool true) ∧ Below w.heap.size w w' := by
 cases ho : b.ok
 ·exact ends_bad H hcap S scap b ho n w hTw hM hh hss
 ·exact ends_good H hcap S scap b (ok_iff.1 ho) n w hTw hM
end
end Go.Proofs.YtkhmcofmjjmjhaaDoor
