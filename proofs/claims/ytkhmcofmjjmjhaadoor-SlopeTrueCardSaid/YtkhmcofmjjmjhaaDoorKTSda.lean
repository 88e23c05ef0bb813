/- Slope: the law SlopeTrue. -/
import Derived.Test.YtkhmcofmjjmjhaaDoorKTScz

namespace Go.Proofs.YtkhmcofmjjmjhaaDoor
set_option linter.unusedSimpArgs false
set_option linter.unusedVariables false
open Go Go.RowKit
attribute [local go_sem high] cell_set_wr
attribute [local go_sem low] cell_wr frozen_wr
attribute [local go_sem] wr_set wr_drew wr_drewN wr_alloc wr_new Rho.c Rho.n Rho.g
theorem in_yes {n lo hi : Int} (h : lo ≤ n ∧ n ≤ hi) (w : World) : Calls Tryd.prog 38 #[.int .i64 n, .agg #[.int .i64 lo, .int .i64 hi]] w fun e w' => e = .returned (.bool true) ∧ Below w.heap.size w w' := by
 have h2 := in_any n lo hi w
 have e : (decide (lo ≤ n) && decide (n ≤ hi)) = true := by simp [h.1, h.2]
 rw [e] at h2
 exact h2
theorem freK_inc (b : Sb) (n : Nat) : IncN 0 n (freK b n) := by
 unfold freK
 rw [List.range_eq_range']
 exact inc_filter _ n n 0 (by omega)
theorem falls_take {t : List (Nat × Bool)} {k : Nat} (h : k < t.length) : fallsN (t.take (k + 1)) = fallsN (t.take k) + (if t[k].2 then 1 else 0) := by
 unfold fallsN
 rw [List.take_succ_eq_append_getElem h, List.countP_append]
 simp
theorem fre_at {b : Sb} {k : Nat} (hk : k < b.hours.length) : decide (atI ((freK b b.hours.length).map fun (n : Nat) => (n : Int)) k < 0) = !safB b k := by
 rw [atN_neg]
 congr 1
 rw [Bool.eq_iff_iff, List.contains_iff_mem, mem_freK]
 exact ⟨fun h => h.2, fun h => ⟨hk, h⟩⟩
section
variable (H : Option Addr) (hcap : Nat) (S : Option Addr) (scap : Nat) (b : Sb)
set_option maxRecDepth 100000 in
set_option maxHeartbeats 4000000 in
theorem true_bad (ho : b.ok = false) (A : Option Addr) (ac : Nat) (l : List Int) (w : World) (hTw : TabW w) (hM : SbAt w H S b) (hh : b.hours.length ≤ 9223372036854775807) (hss : b.sights.length ≤ 9223372036854775807) : Calls Tryd.prog 6 #[.agg (sbV H hcap S scap b).toArray, .slice A l.length ac] w fun e w' => e = .returned (.bool true) ∧ Below w.heap.size w w' := by
 have C2 : Hid (∀ W, SbAt W H S b → Calls Tryd.prog 34 #[.agg (sbV H hcap S scap b).toArray] W fun e w' => e = .returned (.bool false) ∧ Below W.heap.size W w') := hid fun W hW => by
  have h := sound_any H hcap S scap b W hW hh hss
  rw [ho] at h
  exact h
 clear ho hh hss
 refine enterE Tryd.func6 rfl Tryd.ntmps6 (by simp) (fun a hE => ?_); simp only [envOf, Nat.zero_add, Nat.reduceAdd] at hE
 refine Ks ?_
 refine Rs 2 fun Q' K hK => ?_
 refine M1 hE 0 fun K' J ρ q0 => ?_; go_simp
 refine Ln hE J fun _ Eb => ?_; clear J K' hE a q0
 refine M0 fun K' J ρ => ?_; go_simp;
 refine Ln Eb J fun _ Ea => ?_; clear J K' Eb
 refine Ld [1, 2] Ea hK fun a hE => ?_; clear hK K Q' Ea
 obtain ⟨B, hBe⟩ : ∃ B, B = w.heap.size := ⟨_, rfl⟩; rw [← hBe] at hE; refine world_cut (fun wt => Below w.heap.size w wt ∧ Cells wt B (sbV H hcap S scap b)) ⟨(Below.refl _ _).alloc (Nat.le_refl _) _, by rw [hBe]; exact cells_new _ _ _⟩ (fun w1 hCut => ?_); obtain ⟨hbw1, hCB⟩ := hCut; clear hBe
 replace hM := hM.below hbw1
 replace hTw := hTw.below hbw1
 have nB := hCB.1; have cB4 := hCB.2 4 _ rfl; have cB7 := hCB.2 7 _ rfl
 refine Ks ?_
 refine Rs 3 fun Q' K hK => ?_
 refine Lp fun K' J => ?_
 have r2 := hE.at 2 rfl
 refine wp_load_mid 29 (.tmp 2) rfl B 0 (eval_of r2) (sbV H hcap S scap b) _ (fun j u hu => by rw [Nat.zero_add]; exact hCB.2 j u hu) Tryd.underlying29 rfl (by kernel_rfl) ?_
 (try clear r2)
 refine Ln hE J fun _ Eb => ?_; clear J K' hE a
 refine M1 Eb 21 fun K' J ρ q21 => ?_; go_simp; (try go_bits); (try clear q21)
 go_at_call 34; refine (C2.out _ hM).mono ?_; rintro e w2 ⟨rfl, h2⟩
 (try clear r21)
 refine Ln Eb J fun _ Ea => ?_; clear J K' Eb
 refine M1 Ea 22 fun K' J ρ q22 => ?_; go_simp; (try go_bits); (try simp (disch := omega) only [IntWalk.i64_in])
 refine Ln Ea J fun _ Eb => ?_; clear J K' Ea q22
 replace Eb := Eb.turn 23 (v' := .bool true) rfl (by (first | rfl | simp))
 refine Ld [1, 2, 23] Eb hK fun a hE => ?_; clear hK K Q' Eb
 have hbw2 := hbw1.trans (h2.mono hbw1.size)
 replace hCB := hCB.below h2
 clear nB cB4 cB7
 have nB := hCB.1; have cB4 := hCB.2 4 _ rfl; have cB7 := hCB.2 7 _ rfl
 replace hM := hM.below h2
 replace hTw := hTw.below h2
 refine Ks ?_
 refine cond_yes hE (t := 23) rfl ?_
 refine Ks ?_
 refine Rs 2 fun Q' K hK => ?_
 refine M0 fun K' J ρ => ?_; go_simp; (try go_bits);
 go_at_call 22; refine (snowed_any _ hTw).mono ?_; rintro e w9 ⟨rfl, k9⟩
 refine Ln hE J fun _ Eb => ?_; clear J K' hE a
 refine M1 Eb 24 fun K' J ρ q24 => ?_; go_simp
 refine Ln Eb J fun _ Ea => ?_; clear J K' Eb q24
 refine Ld [4] Ea hK fun a hE => ?_; clear hK K Q' Ea
 refine Ks ?_
 exact ret_one hE rfl rfl ⟨rfl, hbw2.trans (k9.mono hbw2.size)⟩
set_option maxRecDepth 100000 in
set_option maxHeartbeats 4000000 in
theorem true_fin (hb : OkB b) (t : List (Nat × Bool)) (ht : TrB (bare b) t) (O1 O2 A' : Option Addr) (c1 c2 c' B X5 Y6 : Nat) (w V : World) (hTw : TabW V) (hbV : Below w.heap.size w V) (hCB : Cells V B (sbV H hcap S scap b)) (hCX : Cells V X5 [.slice O1 t.length c1, .slice O2 t.length c2]) (hO1 : ArrD V O1 (lvs t)) (hO2 : ArrD V O2 (fvs t)) (hCY : Cells V Y6 (sbV H hcap A' c' (seeB b t))) (hMY : SbAt V H A' (seeB b t)) (a : Act)
    (hE : Fits 158 [(2, .pointer (some ⟨B, 0, none⟩)), (5, .pointer (some ⟨X5, 0, none⟩)), (6, .pointer (some ⟨Y6, 0, none⟩))] a) :
    (cr 4 (bodyOf Tryd.f6)).wp Tryd.prog (bodyPost Tryd.prog Tryd.f6 fun e w' => e = .returned (.bool true) ∧ Below w.heap.size w w') a V := by
 have h12 := hb.hours
 have hho := hb.hold
 have htl : t.length = b.hours.length := ht.length
 have ho := see_ok hb ht
 obtain ⟨hr, hwr⟩ := true_wrong hb ht
 have hyl : (seeB b t).hours.length = b.hours.length := rfl
 have CR := hid fun (W : World) hW => rightC H hcap A' c' (seeB b t) ho hr W hW
 have CW := hid fun (W : World) hW => wrongC H hcap A' c' (seeB b t) ho W hW
 have CF := hid fun (W : World) hW => freeC H hcap A' c' (seeB b t) ho hr W hW
 have CA := hid fun (W : World) hW hT => fallsC H hcap A' c' (seeB b t) ho hr W hW hT
 have CL := hid fun (k : Nat) (hk : k < b.hours.length) (W : World) hW => loadC H hcap A' c' (seeB b t) ho hr (h := k) hk W hW
 have CS := hid fun (k : Nat) (hk : k < b.hours.length) (W : World) hW => safeC H hcap A' c' (seeB b t) ho hr (h := k) hk W hW
 rw [hwr] at CW
 rw [hyl] at CF
 have HH := hid fun (k : Nat) (hk : k < b.hours.length) (p : Nat × Bool) (hp : t[k]? = some p) => true_hour hb ht hk hp
 have HSB := hid fun (k : Nat) (hk : k < b.hours.length) => (show safB (seeB b t) k = decide ((hiH (seeB b t) k : Int) ≤ b.sl.hold) from rfl)
 have HFA := hid fun (k : Nat) (hk : k < b.hours.length) => fre_at (b := seeB b t) (k := k) hk
 have hfl := true_falls hb ht
 have HIN := hid fun (W : World) => in_yes (n := (fallsN t : Int)) (lo := loO (seeB b t)) (hi := hiO (seeB b t)) ⟨by omega, by omega⟩ W
 have HCL : Hid (∀ T c W, ArrD W T (nats (freK (seeB b t) b.hours.length)) → Calls Tryd.prog 37 #[.slice T (freK (seeB b t) b.hours.length).length c, .int .i64 b.hours.length] W fun e w' => e = .returned (.bool true) ∧ Below W.heap.size W w') := hid fun T c W hW => by
  have hl := freK_len (seeB b t) b.hours.length
  have h := climbs_yes T c ((freK (seeB b t) b.hours.length).map fun (i : Nat) => (i : Int)) b.hours.length W (by rw [← nats_ints]; exact hW) (by rw [List.length_map]; omega) (climbs_inc (freK_inc _ _))
  rw [List.length_map] at h
  exact h
 have hl12 := freK_len (seeB b t) b.hours.length
 have HAT : Hid (∀ T c (i : Nat) W, ArrD W T (nats (freK (seeB b t) b.hours.length)) → Calls Tryd.prog 39 #[.slice T (freK (seeB b t) b.hours.length).length c, .int .i64 i] W fun e w' => e = .returned (.int .i64 (atI ((freK (seeB b t) b.hours.length).map fun (n : Nat) => (n : Int)) i)) ∧ Below W.heap.size W w') := hid fun T c i W hW => atC T c _ (by omega) i W hW
 rw [hyl] at HFA
 obtain ⟨fl, hfl2⟩ : ∃ x, freK (seeB b t) b.hours.length = x := ⟨_, rfl⟩
 rw [hfl2] at CF HFA HCL HAT hl12
 obtain ⟨f1, hf1⟩ : ∃ x, loO (seeB b t) = x := ⟨_, rfl⟩
 obtain ⟨f2, hf2⟩ : ∃ x, hiO (seeB b t) = x := ⟨_, rfl⟩
 rw [hf1, hf2] at CA HIN
 clear hb ht ho hr hwr hyl hfl hfl2 hf1 hf2
 refine wp_seq ?_; refine Ks ?_
 refine Rs 7 fun Q' K hK => ?_
 refine Lp fun K' J => ?_
 have r6 := hE.at 6 rfl
 refine wp_load_mid 29 (.tmp 6) rfl Y6 0 (eval_of r6) (sbV H hcap A' c' (seeB b t)) _ (fun j u hu => by rw [Nat.zero_add]; exact hCY.2 j u hu) Tryd.underlying29 rfl (by kernel_rfl) ?_
 (try clear r6)
 refine Ln hE J fun _ Eb => ?_; clear J K' hE a
 refine M1 Eb 32 fun K' J ρ q32 => ?_; go_simp; (try go_bits); (try clear q32)
 go_at_call 14; refine (CR.out _ hMY).mono ?_; rintro e v1 ⟨rfl, h1⟩
 (try clear r32)
 refine Ln Eb J fun _ Ea => ?_; clear J K' Eb
 refine M1 Ea 33 fun K' J ρ q33 => ?_; go_simp
 refine Ln Ea J fun _ Eb => ?_; clear J K' Ea q33
 refine M1 Eb 31 fun K' J ρ q31 => ?_; go_simp
 refine Ln Eb J fun _ Ea => ?_; clear J K' Eb q31
 refine M1 Ea 31 fun K' J ρ q31 => ?_; go_simp
 refine Ln Ea J fun _ Eb => ?_; clear J K' Ea q31
 refine M1 Eb 34 fun K' J ρ q34 => ?_; go_simp
 refine Ln Eb J fun _ Ea => ?_; clear J K' Eb q34
 refine M1 Ea 35 fun K' J ρ q35 => ?_; go_simp
 refine Ln Ea J fun _ Eb => ?_; clear J K' Ea q35
 refine Ld [2, 5, 6, 7, 8] Eb hK fun a hE => ?_; clear hK K Q' Eb
 have hbv1 := hbV.trans (h1.mono hbV.size)
 replace hTw := hTw.below h1
 replace hCB := hCB.below h1
 replace hCX := hCX.below h1
 replace hO1 := hO1.below h1
 replace hO2 := hO2.below h1
 replace hCY := hCY.below h1
 replace hMY := hMY.below h1
 refine Ks ?_
 refine Rs 7 fun Q' K hK => ?_
 refine Lp fun K' J => ?_
 have r6 := hE.at 6 rfl
 refine wp_load_mid 29 (.tmp 6) rfl Y6 0 (eval_of r6) (sbV H hcap A' c' (seeB b t)) _ (fun j u hu => by rw [Nat.zero_add]; exact hCY.2 j u hu) Tryd.underlying29 rfl (by kernel_rfl) ?_
 (try clear r6)
 refine Ln hE J fun _ Eb => ?_; clear J K' hE a
 refine M1 Eb 37 fun K' J ρ q37 => ?_; go_simp; (try go_bits); (try clear q37)
 go_at_call 32; refine (CW.out _ hMY).mono ?_; rintro e v2 ⟨⟨T0, u0, rfl, _⟩, h2⟩
 (try clear r37)
 refine Ln Eb J fun _ Ea => ?_; clear J K' Eb
 refine M1 Ea 38 fun K' J ρ q38 => ?_; go_simp
 refine Ln Ea J fun _ Eb => ?_; clear J K' Ea q38
 refine M1 Eb 36 fun K' J ρ q36 => ?_; go_simp
 refine Ln Eb J fun _ Ea => ?_; clear J K' Eb q36
 refine M1 Ea 36 fun K' J ρ q36 => ?_; go_simp
 refine Ln Ea J fun _ Eb => ?_; clear J K' Ea q36
 refine M1 Eb 39 fun K' J ρ q39 => ?_; go_simp
 refine Ln Eb J fun _ Ea => ?_; clear J K' Eb q39
 refine M1 Ea 40 fun K' J ρ q40 => ?_; go_simp
 refine Ln Ea J fun _ Eb => ?_; clear J K' Ea q40
 refine Ld [2, 5, 6, 7, 8, 9, 10] Eb hK fun a hE => ?_; clear hK K Q' Eb
 have hbv2 := hbv1.trans (h2.mono hbv1.size)
 replace hTw := hTw.below h2
 replace hCB := hCB.below h2
 replace hCX := hCX.below h2
 replace hO1 := hO1.below h2
 replace hO2 := hO2.below h2
 replace hCY := hCY.below h2
 replace hMY := hMY.below h2
 refine Ks ?_
 refine Rs 7 fun Q' K hK => ?_
 refine Lp fun K' J => ?_
 have r6 := hE.at 6 rfl
 refine wp_load_mid 29 (.tmp 6) rfl Y6 0 (eval_of r6) (sbV H hcap A' c' (seeB b t)) _ (fun j u hu => by rw [Nat.zero_add]; exact hCY.2 j u hu) Tryd.underlying29 rfl (by kernel_rfl) ?_
 (try clear r6)
 refine Ln hE J fun _ Eb => ?_; clear J K' hE a
 refine M1 Eb 42 fun K' J ρ q42 => ?_; go_simp; (try go_bits); (try clear q42)
 go_at_call 23; refine (CF.out _ hMY).mono ?_; rintro e v3 ⟨⟨T1, u1, rfl, hT1⟩, h3⟩
 (try clear r42)
 refine Ln Eb J fun _ Ea => ?_; clear J K' Eb
 refine M1 Ea 43 fun K' J ρ q43 => ?_; go_simp
 refine Ln Ea J fun _ Eb => ?_; clear J K' Ea q43
 refine M1 Eb 41 fun K' J ρ q41 => ?_; go_simp
 refine Ln Eb J fun _ Ea => ?_; clear J K' Eb q41
 refine M1 Ea 41 fun K' J ρ q41 => ?_; go_simp
 refine Ln Ea J fun _ Eb => ?_; clear J K' Ea q41
 refine M1 Eb 44 fun K' J ρ q44 => ?_; go_simp
 refine Ln Eb J fun _ Ea => ?_; clear J K' Eb q44
 refine M1 Ea 45 fun K' J ρ q45 => ?_; go_simp
 refine Ln Ea J fun _ Eb => ?_; clear J K' Ea q45
 refine Ld [2, 5, 6, 7, 8, 9, 10, 11, 12] Eb hK fun a hE => ?_; clear hK K Q' Eb
 have hbv3 := hbv2.trans (h3.mono hbv2.size)
 replace hTw := hTw.below h3
 replace hCB := hCB.below h3
 replace hCX := hCX.below h3
 replace hO1 := hO1.below h3
 replace hO2 := hO2.below h3
 replace hCY := hCY.below h3
 replace hMY := hMY.below h3
 refine Ks ?_
 refine Rs 8 fun Q' K hK => ?_
 refine Lp fun K' J => ?_
 have r6 := hE.at 6 rfl
 refine wp_load_mid 29 (.tmp 6) rfl Y6 0 (eval_of r6) (sbV H hcap A' c' (seeB b t)) _ (fun j u hu => by rw [Nat.zero_add]; exact hCY.2 j u hu) Tryd.underlying29 rfl (by kernel_rfl) ?_
 (try clear r6)
 refine Ln hE J fun _ Eb => ?_; clear J K' hE a
 refine M1 Eb 47 fun K' J ρ q47 => ?_; go_simp; (try go_bits); (try clear q47)
 go_at_call 30; refine (CA.out _ hMY hTw).mono ?_; rintro e v4 ⟨rfl, h4⟩
 (try clear r47)
 refine Ln Eb J fun _ Ea => ?_; clear J K' Eb
 refine M1 Ea 48 fun K' J ρ q48 => ?_; go_simp
 refine Ln Ea J fun _ Eb => ?_; clear J K' Ea q48
 refine M1 Eb 46 fun K' J ρ q46 => ?_; go_simp
 refine Ln Eb J fun _ Ea => ?_; clear J K' Eb q46
 refine M1 Ea 46 fun K' J ρ q46 => ?_; go_simp
 refine Ln Ea J fun _ Eb => ?_; clear J K' Ea q46
 refine M0 fun K' J ρ => ?_; go_simp;
 refine Ln Eb J fun _ Ea => ?_; clear J K' Eb
 refine M2 Ea 13 49 fun K' J ρ q13 q49 => ?_; go_simp; (try clear q13 q49)
 refine late_skip Ea J (fun _ Eb => ?_); clear J K'; clear Ea
 refine M1 Eb 50 fun K' J ρ q50 => ?_; go_simp
 refine Ln Eb J fun _ Ea => ?_; clear J K' Eb q50
 refine Ld [2, 5, 6, 7, 8, 9, 10, 11, 12, 13, 14] Ea hK fun a hE => ?_; clear hK K Q' Ea
 have hbv4 := hbv3.trans (h4.mono hbv3.size)
 replace hTw := hTw.below h4
 replace hCB := hCB.below h4
 replace hCX := hCX.below h4
 replace hO1 := hO1.below h4
 replace hO2 := hO2.below h4
 replace hCY := hCY.below h4
 replace hMY := hMY.below h4
 replace hT1 := hT1.below h4
 obtain ⟨Z, hZe⟩ : ∃ B, B = v4.heap.size := ⟨_, rfl⟩; rw [← hZe] at hE; refine world_cut (fun wt => Below v4.heap.size v4 wt ∧ Cells wt Z [.int .i64 f1, .int .i64 f2]) ⟨(Below.refl _ _).alloc (Nat.le_refl _) _, by rw [hZe]; exact cells_new _ _ _⟩ (fun v5 hCut => ?_); obtain ⟨hbv5, hCZ⟩ := hCut; clear hZe
 have k5 := hbv5
 clear hbv5
 have hbv5 := hbv4.trans (k5.mono hbv4.size)
 replace hTw := hTw.below k5
 replace hCB := hCB.below k5
 replace hCX := hCX.below k5
 replace hO1 := hO1.below k5
 replace hO2 := hO2.below k5
 replace hCY := hCY.below k5
 replace hMY := hMY.below k5
 replace hT1 := hT1.below k5
 have nB := hCB.1
 have cB7 := hCB.2 7 _ rfl
 refine Ks ?_
 refine Rs 31 fun Q' K hK => ?_
 refine M1 hE 8 fun K' J ρ q8 => ?_; go_simp
 refine Ln hE J fun _ Eb => ?_; clear J K' hE a q8
 refine M1 Eb 51 fun K' J ρ q51 => ?_; go_simp; (try go_bits)
 refine Ln Eb J fun _ Ea => ?_; clear J K' Eb q51
 refine M1 Ea 52 fun K' J ρ q52 => ?_; go_simp
 refine Ln Ea J fun _ Eb => ?_; clear J K' Ea q52
 refine N1 Eb 53 10 fun K' J ρ q10 => ?_; go_simp
 refine Ln Eb J fun _ Ea => ?_; clear J K' Eb q10
 refine N1 Ea 53 54 fun K' J ρ q54 => ?_; go_simp; (try go_bits)
 refine Ln Ea J fun _ Eb => ?_; clear J K' Ea q54
 refine M2 Eb 53 55 fun K' J ρ q53 q55 => ?_; go_simp; (try go_bits)
 refine Ln Eb J fun _ Ea => ?_; clear J K' Eb q53 q55
 refine M1 Ea 56 fun K' J ρ q56 => ?_; go_simp
 refine Ln Ea J fun _ Eb => ?_; clear J K' Ea q56
 refine N1 Eb 57 12 fun K' J ρ q12 => ?_; go_simp
 refine Ln Eb J fun _ Ea => ?_; clear J K' Eb q12
 refine N1 Ea 57 58 fun K' J ρ q58 => ?_; go_simp; (try go_bits)
 refine Ln Ea J fun _ Eb => ?_; clear J K' Ea q58
 refine M2 Eb 57 59 fun K' J ρ q57 q59 => ?_; go_simp; (try go_bits)
 refine Ln Eb J fun _ Ea => ?_; clear J K' Eb q57 q59
 refine M1 Ea 60 fun K' J ρ q60 => ?_; go_simp
 refine Ln Ea J fun _ Eb => ?_; clear J K' Ea q60
 refine N1 Eb 61 14 fun K' J ρ q14 => ?_; go_simp
 refine Ln Eb J fun _ Ea => ?_; clear J K' Eb q14
 refine N1 Ea 61 62 fun K' J ρ q62 => ?_; go_simp; (try go_bits)
 refine Ln Ea J fun _ Eb => ?_; clear J K' Ea q62
 refine M2 Eb 61 63 fun K' J ρ q61 q63 => ?_; go_simp; (try go_bits)
 refine Ln Eb J fun _ Ea => ?_; clear J K' Eb q61 q63
 refine M1 Ea 64 fun K' J ρ q64 => ?_; go_simp
 refine Ln Ea J fun _ Eb => ?_; clear J K' Ea q64
 refine N1 Eb 65 7 fun K' J ρ q7 => ?_; go_simp
 refine Ln Eb J fun _ Ea => ?_; clear J K' Eb q7
 refine N1 Ea 65 66 fun K' J ρ q66 => ?_; go_simp; (try go_bits); (try simp (disch := omega) only [IntWalk.i64_in])
 refine Ln Ea J fun _ Eb => ?_; clear J K' Ea q66
 refine M2 Eb 65 67 fun K' J ρ q65 q67 => ?_; go_simp; (try go_bits)
 refine Ln Eb J fun _ Ea => ?_; clear J K' Eb q65 q67
 refine M1 Ea 68 fun K' J ρ q68 => ?_; go_simp
 refine Ln Ea J fun _ Eb => ?_; clear J K' Ea q68
 refine N1 Eb 69 9 fun K' J ρ q9 => ?_; go_simp
 refine Ln Eb J fun _ Ea => ?_; clear J K' Eb q9
 refine N1 Ea 69 70 fun K' J ρ q70 => ?_; go_simp; (try go_bits)
 refine Ln Ea J fun _ Eb => ?_; clear J K' Ea q70
 refine N1 Eb 69 71 fun K' J ρ q71 => ?_; go_simp; (try go_bits)
 refine Ln Eb J fun _ Ea => ?_; clear J K' Eb q71
 refine M2 Ea 69 72 fun K' J ρ q69 q72 => ?_; go_simp; (try go_bits)
 refine Ln Ea J fun _ Eb => ?_; clear J K' Ea q69 q72
 refine M1 Eb 73 fun K' J ρ q73 => ?_; go_simp
 refine Ln Eb J fun _ Ea => ?_; clear J K' Eb q73
 refine N1 Ea 74 11 fun K' J ρ q11 => ?_; go_simp
 refine Ln Ea J fun _ Eb => ?_; clear J K' Ea q11
 refine N1 Eb 74 2 fun K' J ρ q2 => ?_; go_simp
 refine Ln Eb J fun _ Ea => ?_; clear J K' Eb q2
 refine N1 Ea 74 76 fun K' J ρ q76 => ?_; go_simp
 refine Ln Ea J fun _ Eb => ?_; clear J K' Ea q76
 refine N1 Eb 74 77 fun K' J ρ q77 => ?_; go_simp; (try go_bits)
 refine Ln Eb J fun _ Ea => ?_; clear J K' Eb q77
 refine N2 Ea 74 75 78 fun K' J ρ q75 q78 => ?_; go_simp; (try go_bits); (try clear q75 q78)
 go_at_call 37; refine (HCL.out T1 u1 _ hT1).mono ?_; rintro e v6 ⟨rfl, h6⟩
 (try clear r75 r78)
 refine Ln Ea J fun _ Eb => ?_; clear J K' Ea
 refine N1 Eb 74 79 fun K' J ρ q79 => ?_; go_simp; (try go_bits); (try simp (disch := omega) only [IntWalk.i64_in])
 refine Ln Eb J fun _ Ea => ?_; clear J K' Eb q79
 refine M2 Ea 74 80 fun K' J ρ q74 q80 => ?_; go_simp; (try go_bits)
 refine Ln Ea J fun _ Eb => ?_; clear J K' Ea q74 q80
 replace Eb := Eb.turn 81 (v' := .bool false) rfl (by (first | rfl | simp))
 refine Ld [2, 5, 6, 11, 13, 81] Eb hK fun a hE => ?_; clear hK K Q' Eb
 clear nB cB7
 replace hCZ := hCZ.below h6
 have hbv6 := hbv5.trans (h6.mono hbv5.size)
 replace hTw := hTw.below h6
 replace hCB := hCB.below h6
 replace hCX := hCX.below h6
 replace hO1 := hO1.below h6
 replace hO2 := hO2.below h6
 replace hCY := hCY.below h6
 replace hMY := hMY.below h6
 replace hT1 := hT1.below h6
 refine Ks ?_
 refine cond_no hE (t := 81) rfl ?_
 refine Ks ?_
 refine Rs 1 fun Q' K hK => ?_
 refine M0 fun K' J ρ => ?_; go_simp;
 refine Ln hE J fun _ Eb => ?_; clear J K' hE a
 refine Ld [2, 5, 6, 11, 13, 15] Eb hK fun a hE => ?_; clear hK K Q' Eb
 refine Ks ?_
 refine Rs 1 fun Q' K hK => ?_
 refine M0 fun K' J ρ => ?_; go_simp;
 refine Ln hE J fun _ Eb => ?_; clear J K' hE a
 refine Ld [2, 5, 6, 11, 13, 15, 16] Eb hK fun a hE => ?_; clear hK K Q' Eb
 refine Ks ?_
 have hTw1 := hTw
 have hCB1 := hCB
 have hCX1 := hCX
 have hO11 := hO1
 have hO21 := hO2
 have hCY1 := hCY
 have hMY1 := hMY
 have hT11 := hT1
 have hCZ1 := hCZ
 clear hTw hCB hCX hO1 hO2 hCY hMY hT1 hCZ
 refine loop_st (fun (k : Nat) a w' => k ≤ b.hours.length ∧ Fits 158 [(2, .pointer (some ⟨B, 0, none⟩)), (5, .pointer (some ⟨X5, 0, none⟩)), (6, .pointer (some ⟨Y6, 0, none⟩)), (11, .slice T1 fl.length u1), (13, .pointer (some ⟨Z, 0, none⟩)), (15, .int .i64 (fallsN (t.take k))), (16, .int .i64 k)] a ∧ Below v6.heap.size v6 w') (fun k => b.hours.length - k) 0 ⟨Nat.zero_le _, by simpa [fallsN] using hE, Below.refl _ _⟩ (fun k a wr hI => ?_)
 clear hE
 obtain ⟨hk, hE, hW⟩ := hI
 have hbr := hbv6.trans (hW.mono hbv6.size)
 have hTw := hTw1.below hW
 have hCB := hCB1.below hW
 have hCX := hCX1.below hW
 have hO1 := hO11.below hW
 have hO2 := hO21.below hW
 have hCY := hCY1.below hW
 have hMY := hMY1.below hW
 have hT1 := hT11.below hW
 have hCZ := hCZ1.below hW
 have nB := hCB.1
 have cB7 := hCB.2 7 _ rfl
 by_cases hlt : k < b.hours.length
 ·have hltI : (k : Int) < b.hours.length := by omega
  have hkt : k < t.length := by omega
  have hktI : (k : Int) < t.length := by omega
  obtain ⟨⟨m, f⟩, hp⟩ : ∃ p, t[k] = p := ⟨_, rfl⟩
  obtain ⟨q1, q2, q3⟩ := HH.out k hlt (m, f) (by rw [List.getElem?_eq_getElem hkt, hp])
  have q4 := HSB.out k hlt
  have q5 := HFA.out k hlt
  have hft := falls_take hkt
  have hCLk := CL.out k hlt
  have hCSk := CS.out k hlt
  have hATk := fun W hW => HAT.out T1 u1 k W hW
  obtain ⟨lo, hlo⟩ : ∃ x, loH (seeB b t) k = x := ⟨_, rfl⟩
  obtain ⟨hi, hhi⟩ : ∃ x, hiH (seeB b t) k = x := ⟨_, rfl⟩
  obtain ⟨sf, hsf⟩ : ∃ x, safB (seeB b t) k = x := ⟨_, rfl⟩
  obtain ⟨z, hz⟩ : ∃ x, atI (fl.map fun (n : Nat) => (n : Int)) k = x := ⟨_, rfl⟩
  rw [hlo] at q1 hCLk
  rw [hhi] at q2 q4 hCLk
  rw [hsf] at q3 q4 q5 hCSk
  rw [hz] at q5 hATk
  rw [hp] at hft
  simp only at q1 q2 q3 hft
  have CLk := hid hCLk
  have CSk := hid hCSk
  have ATk := hid hATk
  have INk := hid fun (W : World) => in_yes (n := (m : Int)) (lo := lo) (hi := hi) ⟨by omega, by omega⟩ W
  have HFT := hid hft
  have hfb : fallsN (t.take k) ≤ 12 := Nat.le_trans (falls_le _) (by rw [List.length_take]; omega)
  obtain ⟨fc, hfc⟩ : ∃ x, fallsN (t.take k) = x := ⟨_, rfl⟩
  rw [hfc] at hE hfb HFT
  clear hlo hhi hsf hz hCLk hCSk hATk hft hfc
  refine Ks ?_
  refine Rs 5 fun Q' K hK => ?_
  refine M1 hE 16 fun K' J ρ q16 => ?_; go_simp
  refine Ln hE J fun _ Eb => ?_; clear J K' hE a q16
  refine M1 Eb 2 fun K' J ρ q2 => ?_; go_simp
  refine Ln Eb J fun _ Ea => ?_; clear J K' Eb q2
  refine M1 Ea 83 fun K' J ρ q83 => ?_; go_simp
  refine Ln Ea J fun _ Eb => ?_; clear J K' Ea q83
  refine M1 Eb 84 fun K' J ρ q84 => ?_; go_simp; (try go_bits)
  refine Ln Eb J fun _ Ea => ?_; clear J K' Eb q84
  refine M2 Ea 82 85 fun K' J ρ q82 q85 => ?_; go_simp; (try go_bits)
  refine Ln Ea J fun _ Eb => ?_; clear J K' Ea q82 q85
  replace Eb := Eb.turn 86 (v' := .bool true) rfl (by (first | (simp; done) | (simp; omega)))
  refine Ld [2, 5, 6, 11, 13, 15, 16, 86] Eb hK fun a hE => ?_; clear hK K Q' Eb
  refine Ks ?_
  refine cond_yes hE (t := 86) rfl ?_
  refine Ks ?_
  refine Rs 9 fun Q' K hK => ?_
  refine Lp fun K' J => ?_
  have r6 := hE.at 6 rfl
  refine wp_load_mid 29 (.tmp 6) rfl Y6 0 (eval_of r6) (sbV H hcap A' c' (seeB b t)) _ (fun j u hu => by rw [Nat.zero_add]; exact hCY.2 j u hu) Tryd.underlying29 rfl (by kernel_rfl) ?_
  (try clear r6)
  refine Ln hE J fun _ Eb => ?_; clear J K' hE a
  refine M1 Eb 16 fun K' J ρ q16 => ?_; go_simp
  refine Ln Eb J fun _ Ea => ?_; clear J K' Eb q16
  refine M2 Ea 90 91 fun K' J ρ q90 q91 => ?_; go_simp; (try go_bits); (try clear q90 q91)
  go_at_call 18; refine (CLk.out _ hMY).mono ?_; rintro e x1 ⟨rfl, j1⟩
  (try clear r90 r91)
  refine Ln Ea J fun _ Eb => ?_; clear J K' Ea
  refine M1 Eb 92 fun K' J ρ q92 => ?_; go_simp
  refine Ln Eb J fun _ Ea => ?_; clear J K' Eb q92
  refine M1 Ea 89 fun K' J ρ q89 => ?_; go_simp
  refine Ln Ea J fun _ Eb => ?_; clear J K' Ea q89
  refine M1 Eb 89 fun K' J ρ q89 => ?_; go_simp
  refine Ln Eb J fun _ Ea => ?_; clear J K' Eb q89
  refine M0 fun K' J ρ => ?_; go_simp;
  refine Ln Ea J fun _ Eb => ?_; clear J K' Ea
  refine M2 Eb 17 93 fun K' J ρ q17 q93 => ?_; go_simp; (try clear q17 q93)
  refine late_skip Eb J (fun _ Ea => ?_); clear J K'; clear Eb
  refine M1 Ea 94 fun K' J ρ q94 => ?_; go_simp
  refine Ln Ea J fun _ Eb => ?_; clear J K' Ea q94
  refine Ld [2, 5, 6, 11, 13, 15, 16, 17, 18] Eb hK fun a hE => ?_; clear hK K Q' Eb
  clear nB cB7
  have hbx1 := hbr.trans (j1.mono hbr.size)
  replace hTw := hTw.below j1
  replace hCB := hCB.below j1
  replace hCX := hCX.below j1
  replace hO1 := hO1.below j1
  replace hO2 := hO2.below j1
  replace hCY := hCY.below j1
  replace hMY := hMY.below j1
  replace hT1 := hT1.below j1
  obtain ⟨L, hLe⟩ : ∃ B, B = x1.heap.size := ⟨_, rfl⟩; rw [← hLe] at hE; refine world_cut (fun wt => Below x1.heap.size x1 wt ∧ Cells wt L [.int .i64 lo, .int .i64 hi]) ⟨(Below.refl _ _).alloc (Nat.le_refl _) _, by rw [hLe]; exact cells_new _ _ _⟩ (fun x2 hCut => ?_); obtain ⟨hbx2, hCL⟩ := hCut; clear hLe
  have kx2 := hbx2
  clear hbx2
  have hbx2 := hbx1.trans (kx2.mono hbx1.size)
  replace hTw := hTw.below kx2
  replace hCB := hCB.below kx2
  replace hCX := hCX.below kx2
  replace hO1 := hO1.below kx2
  replace hO2 := hO2.below kx2
  replace hCY := hCY.below kx2
  replace hMY := hMY.below kx2
  replace hT1 := hT1.below kx2
  refine Ks ?_
  refine Rs 8 fun Q' K hK => ?_
  refine Lp fun K' J => ?_
  have r6 := hE.at 6 rfl
  refine wp_load_mid 29 (.tmp 6) rfl Y6 0 (eval_of r6) (sbV H hcap A' c' (seeB b t)) _ (fun j u hu => by rw [Nat.zero_add]; exact hCY.2 j u hu) Tryd.underlying29 rfl (by kernel_rfl) ?_
  (try clear r6)
  refine Ln hE J fun _ Eb => ?_; clear J K' hE a
  refine M1 Eb 16 fun K' J ρ q16 => ?_; go_simp
  refine Ln Eb J fun _ Ea => ?_; clear J K' Eb q16
  refine M2 Ea 96 97 fun K' J ρ q96 q97 => ?_; go_simp; (try go_bits); (try clear q96 q97)
  go_at_call 20; refine (CSk.out _ hMY).mono ?_; rintro e x3 ⟨rfl, j3⟩
  (try clear r96 r97)
  refine Ln Ea J fun _ Eb => ?_; clear J K' Ea
  refine M1 Eb 98 fun K' J ρ q98 => ?_; go_simp
  refine Ln Eb J fun _ Ea => ?_; clear J K' Eb q98
  refine M1 Ea 95 fun K' J ρ q95 => ?_; go_simp
  refine Ln Ea J fun _ Eb => ?_; clear J K' Ea q95
  refine M1 Eb 95 fun K' J ρ q95 => ?_; go_simp
  refine Ln Eb J fun _ Ea => ?_; clear J K' Eb q95
  refine M1 Ea 99 fun K' J ρ q99 => ?_; go_simp
  refine Ln Ea J fun _ Eb => ?_; clear J K' Ea q99
  refine M1 Eb 100 fun K' J ρ q100 => ?_; go_simp
  refine Ln Eb J fun _ Ea => ?_; clear J K' Eb q100
  refine Ld [2, 5, 6, 11, 13, 15, 16, 17, 18, 19, 20] Ea hK fun a hE => ?_; clear hK K Q' Ea
  replace hCL := hCL.below j3
  have hbx3 := hbx2.trans (j3.mono hbx2.size)
  replace hTw := hTw.below j3
  replace hCB := hCB.below j3
  replace hCX := hCX.below j3
  replace hO1 := hO1.below j3
  replace hO2 := hO2.below j3
  replace hCY := hCY.below j3
  replace hMY := hMY.below j3
  replace hT1 := hT1.below j3
  obtain ⟨b1, o1, hA1e, hb1, z1⟩ := hO1.lv hkt
  obtain ⟨b2, o2, hA2e, hb2, z2⟩ := hO2.fv hkt
  rw [hp] at z1 z2
  simp only at z1 z2
  have nB := hCB.1
  have cB4 := hCB.2 4 _ rfl
  have nL := hCL.1
  have cL0 := hCL.2 0 _ rfl
  have cL1 := hCL.2 1 _ rfl
  have nX := hCX.1
  have cX0 := hCX.2 0 _ rfl
  have cX1 := hCX.2 1 _ rfl
  rw [hA1e] at cX0
  rw [hA2e] at cX1
  have hWx : Below v6.heap.size v6 x3 := hW.trans ((j1.trans ((kx2.trans (j3.mono kx2.size)).mono j1.size)).mono hW.size)
  clear hp
  cases sf
  ·have hz0 : z < 0 := by simpa using q5
   have hhi : ¬ (hi : Int) ≤ b.sl.hold := by simpa using q4
   clear q3 q4 q5
   refine Ks ?_
   refine Rd [] (fun wt => Below x3.heap.size x3 wt) (fun w1 w2 => Below w1.heap.size w1 w2) [(0, some 101), (1, some 102), (2, some 103), (3, some 104), (4, some 105), (5, some 106), (6, some 107), (7, some 108), (8, some 109), (9, some 110), (10, some 111), (11, some 112), (12, some 113), (13, some 114), (14, some 115), (15, some 116), (16, some 117), (17, some 118), (18, some 119), (19, some 120), (20, some 121), (21, some 122), (22, some 123), (23, some 124), (24, some 125), (25, some 126), (26, some 127), (27, some 128), (28, some 129), (29, some 130), (30, some 131), (31, some 132), (32, some 133), (33, some 134), (34, some 135), (35, some 136), (36, some 137), (37, some 138), (38, some 139), (39, some 140), (40, some 141), (41, some 142), (42, some 143), (43, some 144)] [101, 102, 103, 104, 105, 106, 107, 108, 109, 110, 111, 112, 113, 114, 115, 116, 117, 118, 119, 120, 121, 122, 123, 124, 125, 126, 127, 128, 129, 130, 131, 132, 133, 134, 135, 136, 137, 138, 139, 140, 141, 142, 143, 144] #[true, true, true, true, true, true, true, true, true, true, true, true, true, true, true, true, true, true, true, true, true, true, true, true, true, true, true, true, true, true, true, true, true, true, true, true, true, true, true, true, true, true, true, true] [2, 5, 6, 11, 13, 15, 16] hE ((Below.refl _ _).drew) fun Q' K hK => ?_
   refine SeqOps.val ?_ (Sp fun ax wx hS hT' hd K' J => ?_) ?_; rotate_left 1
   ·have r18 := hS.at 18 (by decide) (hE.at 18 rfl); obtain ⟨_, _, _, _, _, _⟩ := bT hT'
    refine Go.Proofs.YtkhmcofmjjmjhaaDoor.o1 r18 fun ρ q18 => ?_; go_simp;
    exact Jo J hT'
   refine SeqOps.val ?_ (Sp fun ax wx hS hT' hd K' J => ?_) ?_; rotate_left 1
   ·have r101 := Tv hd 0 0 101; obtain ⟨_, _, _, _, _, _⟩ := bT hT'
    refine Go.Proofs.YtkhmcofmjjmjhaaDoor.o1 r101 fun ρ q101 => ?_; go_simp; (try go_bits);
    exact Jo J hT'
   refine SeqOps.val ?_ (Sp fun ax wx hS hT' hd K' J => ?_) ?_; rotate_left 1
   ·have r102 := Tv hd 0 1 102; obtain ⟨_, _, _, _, _, _⟩ := bT hT'
    refine Go.Proofs.YtkhmcofmjjmjhaaDoor.o1 r102 fun ρ q102 => ?_; go_simp;
    exact Jo J hT'
   refine SeqOps.val ?_ (Sy 0 103 fun ax wx hS hT' hd K' J => ?_) ?_; rotate_left 1
   ·have r20 := hS.at 20 (by decide) (hE.at 20 rfl); obtain ⟨_, _, _, _, _, _⟩ := bT hT'
    refine Go.Proofs.YtkhmcofmjjmjhaaDoor.o1 r20 fun ρ q20 => ?_; go_simp;
    exact Jo J hT'
   refine SeqOps.val ?_ (Sy 1 103 fun ax wx hS hT' hd K' J => ?_) ?_; rotate_left 1
   ·have r104 := Tv hd 0 3 104; obtain ⟨_, _, _, _, _, _⟩ := bT hT'
    refine Go.Proofs.YtkhmcofmjjmjhaaDoor.o1 r104 fun ρ q104 => ?_; go_simp; (try go_bits);
    exact Jo J hT'
   refine SeqOps.val ?_ (Sp fun ax wx hS hT' hd K' J => ?_) ?_; rotate_left 1
   ·have r103 := Tv hd 2 2 103; have r105 := Tv hd 0 4 105; obtain ⟨_, _, _, _, _, _⟩ := bT hT'
    refine Go.Proofs.YtkhmcofmjjmjhaaDoor.o2 r103 r105 fun ρ q103 q105 => ?_; go_simp; (try go_bits);
    exact Jo J hT'
   refine SeqOps.val ?_ (Sp fun ax wx hS hT' hd K' J => ?_) ?_; rotate_left 1
   ·have r106 := Tv hd 0 5 106; obtain ⟨_, _, _, _, _, _⟩ := bT hT'
    refine Go.Proofs.YtkhmcofmjjmjhaaDoor.o1 r106 fun ρ q106 => ?_; go_simp;
    exact Jo J hT'
   refine SeqOps.val ?_ (Sy 0 107 fun ax wx hS hT' hd K' J => ?_) ?_; rotate_left 1
   ·have r5 := hS.at 5 (by decide) (hE.at 5 rfl); obtain ⟨_, _, _, _, _, _⟩ := bT hT'
    refine Go.Proofs.YtkhmcofmjjmjhaaDoor.o1 r5 fun ρ q5 => ?_; go_simp;
    exact Jo J hT'
   refine SeqOps.val ?_ (Sy 1 107 fun ax wx hS hT' hd K' J => ?_) ?_; rotate_left 1
   ·have r108 := Tv hd 0 7 108; obtain ⟨_, _, _, _, _, _⟩ := bT hT'
    refine Go.Proofs.YtkhmcofmjjmjhaaDoor.o1 r108 fun ρ q108 => ?_; go_simp;
    exact Jo J hT'
   refine SeqOps.val ?_ (Sy 2 107 fun ax wx hS hT' hd K' J => ?_) ?_; rotate_left 1
   ·have r16 := hS.at 16 (by decide) (hE.at 16 rfl); obtain ⟨_, _, _, _, _, _⟩ := bT hT'
    refine Go.Proofs.YtkhmcofmjjmjhaaDoor.o1 r16 fun ρ q16 => ?_; go_simp;
    exact Jo J hT'
   refine SeqOps.val ?_ (Sy 3 107 fun ax wx hS hT' hd K' J => ?_) ?_; rotate_left 1
   ·have r109 := Tv hd 1 8 109; have r110 := Tv hd 0 9 110; obtain ⟨_, _, _, _, _, _⟩ := bT hT'
    refine Go.Proofs.YtkhmcofmjjmjhaaDoor.o2 r109 r110 fun ρ q109 q110 => ?_; go_simp; (try go_bits);
    exact Jo J hT'
   refine SeqOps.val ?_ (Sy 4 107 fun ax wx hS hT' hd K' J => ?_) ?_; rotate_left 1
   ·have r111 := Tv hd 0 10 111; obtain ⟨_, _, _, _, _, _⟩ := bT hT'
    refine Go.Proofs.YtkhmcofmjjmjhaaDoor.o1 r111 fun ρ q111 => ?_; go_simp;
    exact Jo J hT'
   refine SeqOps.val ?_ (Sy 5 107 fun ax wx hS hT' hd K' J => ?_) ?_; rotate_left 1
   ·have r17 := hS.at 17 (by decide) (hE.at 17 rfl); obtain ⟨_, _, _, _, _, _⟩ := bT hT'
    refine Go.Proofs.YtkhmcofmjjmjhaaDoor.o1 r17 fun ρ q17 => ?_; go_simp;
    exact Jo J hT'
   refine SeqOps.val ?_ (Sy 6 107 fun ax wx hS hT' hd K' J => ?_) ?_; rotate_left 1
   ·have r112 := Tv hd 1 11 112; have r113 := Tv hd 0 12 113; obtain ⟨_, _, _, _, _, _⟩ := bT hT'
    refine Go.Proofs.YtkhmcofmjjmjhaaDoor.o2 r112 r113 fun ρ q112 q113 => ?_; go_simp; (try go_bits);
    go_at_call 38; refine (INk.out _).mono ?_; rintro e g1 ⟨rfl, k1⟩
    refine J.out _ _ _ rfl ?_ (hT'.trans (k1.mono hT'.size)) k1; rfl
   refine SeqOps.val ?_ (Sy 7 107 fun ax wx hS hT' hd K' J => ?_) ?_; rotate_left 1
   ·have r114 := Tv hd 0 13 114; obtain ⟨_, _, _, _, _, _⟩ := bT hT'
    refine Go.Proofs.YtkhmcofmjjmjhaaDoor.o1 r114 fun ρ q114 => ?_; go_simp; (try go_bits); (try simp (disch := omega) only [IntWalk.i64_in]);
    exact Jo J hT'
   refine SeqOps.val ?_ (Sp fun ax wx hS hT' hd K' J => ?_) ?_; rotate_left 1
   ·have r107 := Tv hd 8 6 107; have r115 := Tv hd 0 14 115; obtain ⟨_, _, _, _, _, _⟩ := bT hT'
    refine Go.Proofs.YtkhmcofmjjmjhaaDoor.o2 r107 r115 fun ρ q107 q115 => ?_; go_simp; (try go_bits);
    exact Jo J hT'
   refine SeqOps.val ?_ (Sp fun ax wx hS hT' hd K' J => ?_) ?_; rotate_left 1
   ·have r116 := Tv hd 0 15 116; obtain ⟨_, _, _, _, _, _⟩ := bT hT'
    refine Go.Proofs.YtkhmcofmjjmjhaaDoor.o1 r116 fun ρ q116 => ?_; go_simp;
    exact Jo J hT'
   refine SeqOps.val ?_ (Sy 0 117 fun ax wx hS hT' hd K' J => ?_) ?_; rotate_left 1
   ·have r19 := hS.at 19 (by decide) (hE.at 19 rfl); obtain ⟨_, _, _, _, _, _⟩ := bT hT'
    refine Go.Proofs.YtkhmcofmjjmjhaaDoor.o1 r19 fun ρ q19 => ?_; go_simp;
    exact Jo J hT'
   refine SeqOps.val ?_ (Sy 1 117 fun ax wx hS hT' hd K' J => ?_) ?_; rotate_left 1
   ·have r118 := Tv hd 0 17 118; obtain ⟨_, _, _, _, _, _⟩ := bT hT'
    refine Go.Proofs.YtkhmcofmjjmjhaaDoor.o1 r118 fun ρ q118 => ?_; go_simp;
    exact Jo J hT'
   refine SeqOps.val _ (StepOk.no (by (first | (simp only [List.getElem?_toArray, List.getElem?_cons_succ, List.getElem?_cons_zero]; rfl) | rfl)) rfl (e := 119) 0 rfl rfl (by kernel_rfl) (by kernel_rfl) (fun w => Below.refl _ _)) ?_
   refine SeqOps.val _ (StepOk.no (by (first | (simp only [List.getElem?_toArray, List.getElem?_cons_succ, List.getElem?_cons_zero]; rfl) | rfl)) rfl (e := 119) 1 rfl rfl (by kernel_rfl) (by kernel_rfl) (fun w => Below.refl _ _)) ?_
   refine SeqOps.val _ (StepOk.no (by (first | (simp only [List.getElem?_toArray, List.getElem?_cons_succ, List.getElem?_cons_zero]; rfl) | rfl)) rfl (e := 119) 2 rfl rfl (by kernel_rfl) (by kernel_rfl) (fun w => Below.refl _ _)) ?_
   refine SeqOps.val _ (StepOk.no (by (first | (simp only [List.getElem?_toArray, List.getElem?_cons_succ, List.getElem?_cons_zero]; rfl) | rfl)) rfl (e := 119) 3 rfl rfl (by kernel_rfl) (by kernel_rfl) (fun w => Below.refl _ _)) ?_
   refine SeqOps.val _ (StepOk.no (by (first | (simp only [List.getElem?_toArray, List.getElem?_cons_succ, List.getElem?_cons_zero]; rfl) | rfl)) rfl (e := 119) 4 rfl rfl (by kernel_rfl) (by kernel_rfl) (fun w => Below.refl _ _)) ?_
   refine SeqOps.val ?_ (Sy 7 117 fun ax wx hS hT' hd K' J => ?_) ?_; rotate_left 1
   ·have r119 := Tv hd 5 18 119; have r124 := Tv hd 0 23 124; obtain ⟨_, _, _, _, _, _⟩ := bT hT'
    refine Go.Proofs.YtkhmcofmjjmjhaaDoor.o2 r119 r124 fun ρ q119 q124 => ?_; go_simp; (try go_bits);
    exact Jo J hT'
   refine SeqOps.val ?_ (Sp fun ax wx hS hT' hd K' J => ?_) ?_; rotate_left 1
   ·have r117 := Tv hd 8 16 117; have r125 := Tv hd 0 24 125; obtain ⟨_, _, _, _, _, _⟩ := bT hT'
    refine Go.Proofs.YtkhmcofmjjmjhaaDoor.o2 r117 r125 fun ρ q117 q125 => ?_; go_simp; (try go_bits);
    exact Jo J hT'
   refine SeqOps.val ?_ (Sp fun ax wx hS hT' hd K' J => ?_) ?_; rotate_left 1
   ·have r126 := Tv hd 0 25 126; obtain ⟨_, _, _, _, _, _⟩ := bT hT'
    refine Go.Proofs.YtkhmcofmjjmjhaaDoor.o1 r126 fun ρ q126 => ?_; go_simp;
    exact Jo J hT'
   refine SeqOps.val ?_ (Sy 0 127 fun ax wx hS hT' hd K' J => ?_) ?_; rotate_left 1
   ·have r19 := hS.at 19 (by decide) (hE.at 19 rfl); obtain ⟨_, _, _, _, _, _⟩ := bT hT'
    refine Go.Proofs.YtkhmcofmjjmjhaaDoor.o1 r19 fun ρ q19 => ?_; go_simp;
    exact Jo J hT'
   refine SeqOps.val ?_ (Sy 1 127 fun ax wx hS hT' hd K' J => ?_) ?_; rotate_left 1
   ·have r11 := hS.at 11 (by decide) (hE.at 11 rfl); obtain ⟨_, _, _, _, _, _⟩ := bT hT'
    refine Go.Proofs.YtkhmcofmjjmjhaaDoor.o1 r11 fun ρ q11 => ?_; go_simp;
    exact Jo J hT'
   refine SeqOps.val ?_ (Sy 2 127 fun ax wx hS hT' hd K' J => ?_) ?_; rotate_left 1
   ·have r16 := hS.at 16 (by decide) (hE.at 16 rfl); obtain ⟨_, _, _, _, _, _⟩ := bT hT'
    refine Go.Proofs.YtkhmcofmjjmjhaaDoor.o1 r16 fun ρ q16 => ?_; go_simp;
    exact Jo J hT'
   refine SeqOps.val ?_ (Sy 3 127 fun ax wx hS hT' hd K' J => ?_) ?_; rotate_left 1
   ·have r129 := Tv hd 1 28 129; have r130 := Tv hd 0 29 130; obtain ⟨_, _, _, _, _, _⟩ := bT hT'
    refine Go.Proofs.YtkhmcofmjjmjhaaDoor.o2 r129 r130 fun ρ q129 q130 => ?_; go_simp; (try go_bits);
    go_at_call 39; refine (ATk.out _ (hT1.below hT')).mono ?_; rintro e g1 ⟨rfl, k1⟩
    refine J.out _ _ _ rfl ?_ (hT'.trans (k1.mono hT'.size)) k1; rfl
   refine SeqOps.say (fun v _ => v = .bool false) (fun _ _ _ _ h => h) (Sy 4 127 fun ax wx hS hT' hd K' J => ?_) ?_
   ·have r131 := Tv hd 0 30 131; obtain ⟨_, _, _, _, _, _⟩ := bT hT'
    refine Go.Proofs.YtkhmcofmjjmjhaaDoor.o1 r131 fun ρ q131 => ?_; go_simp; (try go_bits);
    exact J.out _ _ _ rfl (by first | rfl | (congr 1; rw [decide_eq_false_iff_not]; omega)) hT' (Below.refl _ _)
   refine SeqOps.val ?_ (Sy 5 127 fun ax wx hS hT' hd K' J => ?_) ?_; rotate_left 1
   ·have r128 := Tv hd 4 27 128; obtain ⟨v132, r132, h132⟩ := Tg hd 0 31 132; obtain rfl := h132; obtain ⟨_, _, _, _, _, _⟩ := bT hT'
    refine Go.Proofs.YtkhmcofmjjmjhaaDoor.o2 r128 r132 fun ρ q128 q132 => ?_; go_simp; (try go_bits);
    exact Jo J hT'
   refine SeqOps.val ?_ (Sp fun ax wx hS hT' hd K' J => ?_) ?_; rotate_left 1
   ·have r127 := Tv hd 6 26 127; have r133 := Tv hd 0 32 133; obtain ⟨_, _, _, _, _, _⟩ := bT hT'
    refine Go.Proofs.YtkhmcofmjjmjhaaDoor.o2 r127 r133 fun ρ q127 q133 => ?_; go_simp; (try go_bits);
    exact Jo J hT'
   refine SeqOps.val ?_ (Sp fun ax wx hS hT' hd K' J => ?_) ?_; rotate_left 1
   ·have r134 := Tv hd 0 33 134; obtain ⟨_, _, _, _, _, _⟩ := bT hT'
    refine Go.Proofs.YtkhmcofmjjmjhaaDoor.o1 r134 fun ρ q134 => ?_; go_simp;
    exact Jo J hT'
   refine SeqOps.val ?_ (Sy 0 135 fun ax wx hS hT' hd K' J => ?_) ?_; rotate_left 1
   ·have r19 := hS.at 19 (by decide) (hE.at 19 rfl); obtain ⟨_, _, _, _, _, _⟩ := bT hT'
    refine Go.Proofs.YtkhmcofmjjmjhaaDoor.o1 r19 fun ρ q19 => ?_; go_simp;
    exact Jo J hT'
   refine SeqOps.val ?_ (Sy 1 135 fun ax wx hS hT' hd K' J => ?_) ?_; rotate_left 1
   ·have r17 := hS.at 17 (by decide) (hE.at 17 rfl); obtain ⟨_, _, _, _, _, _⟩ := bT hT'
    refine Go.Proofs.YtkhmcofmjjmjhaaDoor.o1 r17 fun ρ q17 => ?_; go_simp;
    exact Jo J hT'
   refine SeqOps.val ?_ (Sy 2 135 fun ax wx hS hT' hd K' J => ?_) ?_; rotate_left 1
   ·have r137 := Tv hd 0 36 137; obtain ⟨_, _, _, _, _, _⟩ := bT hT'
    refine Go.Proofs.YtkhmcofmjjmjhaaDoor.o1 r137 fun ρ q137 => ?_; go_simp;
    exact Jo J hT'
   refine SeqOps.val ?_ (Sy 3 135 fun ax wx hS hT' hd K' J => ?_) ?_; rotate_left 1
   ·have r2 := hS.at 2 (by decide) (hE.at 2 rfl); obtain ⟨_, _, _, _, _, _⟩ := bT hT'
    refine Go.Proofs.YtkhmcofmjjmjhaaDoor.o1 r2 fun ρ q2 => ?_; go_simp;
    exact Jo J hT'
   refine SeqOps.val ?_ (Sy 4 135 fun ax wx hS hT' hd K' J => ?_) ?_; rotate_left 1
   ·have r139 := Tv hd 0 38 139; obtain ⟨_, _, _, _, _, _⟩ := bT hT'
    refine Go.Proofs.YtkhmcofmjjmjhaaDoor.o1 r139 fun ρ q139 => ?_; go_simp;
    exact Jo J hT'
   refine SeqOps.val ?_ (Sy 5 135 fun ax wx hS hT' hd K' J => ?_) ?_; rotate_left 1
   ·have r140 := Tv hd 0 39 140; obtain ⟨_, _, _, _, _, _⟩ := bT hT'
    refine Go.Proofs.YtkhmcofmjjmjhaaDoor.o1 r140 fun ρ q140 => ?_; go_simp;
    exact Jo J hT'
   refine SeqOps.say (fun v _ => v = .bool false) (fun _ _ _ _ h => h) (Sy 6 135 fun ax wx hS hT' hd K' J => ?_) ?_
   ·have r138 := Tv hd 3 37 138; have r141 := Tv hd 0 40 141; obtain ⟨_, _, _, _, _, _⟩ := bT hT'
    refine Go.Proofs.YtkhmcofmjjmjhaaDoor.o2 r138 r141 fun ρ q138 q141 => ?_; go_simp; (try go_bits);
    exact J.out _ _ _ rfl (by first | rfl | (congr 1; rw [decide_eq_false_iff_not]; omega)) hT' (Below.refl _ _)
   refine SeqOps.val ?_ (Sy 7 135 fun ax wx hS hT' hd K' J => ?_) ?_; rotate_left 1
   ·have r136 := Tv hd 6 35 136; obtain ⟨v142, r142, h142⟩ := Tg hd 0 41 142; obtain rfl := h142; obtain ⟨_, _, _, _, _, _⟩ := bT hT'
    refine Go.Proofs.YtkhmcofmjjmjhaaDoor.o2 r136 r142 fun ρ q136 q142 => ?_; go_simp; (try go_bits);
    exact Jo J hT'
   refine SeqOps.val ?_ (Sp fun ax wx hS hT' hd K' J => ?_) ?_; rotate_left 1
   ·have r135 := Tv hd 8 34 135; have r143 := Tv hd 0 42 143; obtain ⟨_, _, _, _, _, _⟩ := bT hT'
    refine Go.Proofs.YtkhmcofmjjmjhaaDoor.o2 r135 r143 fun ρ q135 q143 => ?_; go_simp; (try go_bits);
    exact Jo J hT'
   refine SeqOps.nil ?_
   intro x4 hBm; (repeat refine Ek ?_)
   refine fun amx hEmx => ?_
   simp only [lk, pick, Nat.reduceEqDiff, ↓reduceIte] at hEmx
   refine Ld [2, 5, 6, 11, 13, 15, 16, 144] hEmx hK fun a hE => ?_; clear hK K Q' hEmx
   have hbx4 := hbx3.trans (hBm.mono hbx3.size)
   have hWy := hWx.trans (hBm.mono hWx.size)
   have cX1y := (hCX.below hBm).2 1 _ rfl
   have nXy := (hCX.below hBm).1
   have z2y := (hBm.cell (p := ⟨b2, o2 + k, none⟩) hb2).trans z2
   rw [hA2e] at cX1y
   clear nB cB4 nL cL0 cL1 nX cX0 cX1 z1 z2
   refine Ks ?_
   refine cond_no hE (t := 144) rfl ?_
   refine Ks ?_
   refine Rs 5 fun Q' K hK => ?_
   refine M1 hE 5 fun K' J ρ q5 => ?_; go_simp
   refine Ln hE J fun _ Eb => ?_; clear J K' hE a q5
   refine M1 Eb 145 fun K' J ρ q145 => ?_; go_simp
   refine Ln Eb J fun _ Ea => ?_; clear J K' Eb q145
   refine M1 Ea 16 fun K' J ρ q16 => ?_; go_simp
   refine Ln Ea J fun _ Eb => ?_; clear J K' Ea q16
   refine M2 Eb 146 147 fun K' J ρ q146 q147 => ?_; go_simp; (try go_bits)
   refine Ln Eb J fun _ Ea => ?_; clear J K' Eb q146 q147
   refine M1 Ea 148 fun K' J ρ q148 => ?_; go_simp
   refine Ln Ea J fun _ Eb => ?_; clear J K' Ea q148
   refine Ld [2, 5, 6, 11, 13, 15, 16, 149] Eb hK fun a hE => ?_; clear hK K Q' Eb
   cases f
   ·skip
    refine Ks ?_
    refine cond_no hE (t := 149) rfl ?_
    refine Ks ?_
    refine Rs 3 fun Q' K hK => ?_
    refine M1 hE 16 fun K' J ρ q16 => ?_; go_simp
    refine Ln hE J fun _ Eb => ?_; clear J K' hE a q16
    refine M1 Eb 87 fun K' J ρ q87 => ?_; go_simp; (try go_bits); (try simp (disch := omega) only [IntWalk.i64_in])
    refine Ln Eb J fun _ Ea => ?_; clear J K' Eb q87
    refine M1 Ea 88 fun K' J ρ q88 => ?_; go_simp
    refine Ln Ea J fun _ Eb => ?_; clear J K' Ea q88
    refine Ld [2, 5, 6, 11, 13, 15, 16] Eb hK fun a hE => ?_; clear hK K Q' Eb
    refine Ks ?_
    refine ⟨k + 1, ⟨hlt, ?_, hWy⟩, by omega⟩
    rw [HFT.out]
    simpa using hE
   ·skip
    refine Ks ?_
    refine cond_yes hE (t := 149) rfl ?_
    refine Ks ?_
    refine Rs 3 fun Q' K hK => ?_
    refine M1 hE 15 fun K' J ρ q15 => ?_; go_simp
    refine Ln hE J fun _ Eb => ?_; clear J K' hE a q15
    refine M1 Eb 150 fun K' J ρ q150 => ?_; go_simp; (try go_bits); (try simp (disch := omega) only [IntWalk.i64_in])
    refine Ln Eb J fun _ Ea => ?_; clear J K' Eb q150
    refine M1 Ea 151 fun K' J ρ q151 => ?_; go_simp
    refine Ln Ea J fun _ Eb => ?_; clear J K' Ea q151
    refine Ld [2, 5, 6, 11, 13, 15, 16] Eb hK fun a hE => ?_; clear hK K Q' Eb
    refine Ks ?_
    refine Rs 3 fun Q' K hK => ?_
    refine M1 hE 16 fun K' J ρ q16 => ?_; go_simp
    refine Ln hE J fun _ Eb => ?_; clear J K' hE a q16
    refine M1 Eb 87 fun K' J ρ q87 => ?_; go_simp; (try go_bits); (try simp (disch := omega) only [IntWalk.i64_in])
    refine Ln Eb J fun _ Ea => ?_; clear J K' Eb q87
    refine M1 Ea 88 fun K' J ρ q88 => ?_; go_simp
    refine Ln Ea J fun _ Eb => ?_; clear J K' Ea q88
    refine Ld [2, 5, 6, 11, 13, 15, 16] Eb hK fun a hE => ?_; clear hK K Q' Eb
    refine Ks ?_
    refine ⟨k + 1, ⟨hlt, ?_, hWy⟩, by omega⟩
    rw [HFT.out]
    simpa using hE
  ·have hz0 : ¬ z < 0 := by simpa using q5
   have hhi : (hi : Int) ≤ b.sl.hold := by simpa using q4
   obtain rfl : f = false := q3 rfl
   clear q3 q4 q5
   refine Ks ?_
   refine Rd [] (fun wt => Below x3.heap.size x3 wt) (fun w1 w2 => Below w1.heap.size w1 w2) [(0, some 101), (1, some 102), (2, some 103), (3, some 104), (4, some 105), (5, some 106), (6, some 107), (7, some 108), (8, some 109), (9, some 110), (10, some 111), (11, some 112), (12, some 113), (13, some 114), (14, some 115), (15, some 116), (16, some 117), (17, some 118), (18, some 119), (19, some 120), (20, some 121), (21, some 122), (22, some 123), (23, some 124), (24, some 125), (25, some 126), (26, some 127), (27, some 128), (28, some 129), (29, some 130), (30, some 131), (31, some 132), (32, some 133), (33, some 134), (34, some 135), (35, some 136), (36, some 137), (37, some 138), (38, some 139), (39, some 140), (40, some 141), (41, some 142), (42, some 143), (43, some 144)] [101, 102, 103, 104, 105, 106, 107, 108, 109, 110, 111, 112, 113, 114, 115, 116, 117, 118, 119, 120, 121, 122, 123, 124, 125, 126, 127, 128, 129, 130, 131, 132, 133, 134, 135, 136, 137, 138, 139, 140, 141, 142, 143, 144] #[true, true, true, true, true, true, true, true, true, true, true, true, true, true, true, true, true, true, true, true, true, true, true, true, true, true, true, true, true, true, true, true, true, true, true, true, true, true, true, true, true, true, true, true] [2, 5, 6, 11, 13, 15, 16] hE ((Below.refl _ _).drew) fun Q' K hK => ?_
   refine SeqOps.val ?_ (Sp fun ax wx hS hT' hd K' J => ?_) ?_; rotate_left 1
   ·have r18 := hS.at 18 (by decide) (hE.at 18 rfl); obtain ⟨_, _, _, _, _, _⟩ := bT hT'
    refine Go.Proofs.YtkhmcofmjjmjhaaDoor.o1 r18 fun ρ q18 => ?_; go_simp;
    exact Jo J hT'
   refine SeqOps.val ?_ (Sp fun ax wx hS hT' hd K' J => ?_) ?_; rotate_left 1
   ·have r101 := Tv hd 0 0 101; obtain ⟨_, _, _, _, _, _⟩ := bT hT'
    refine Go.Proofs.YtkhmcofmjjmjhaaDoor.o1 r101 fun ρ q101 => ?_; go_simp; (try go_bits);
    exact Jo J hT'
   refine SeqOps.val ?_ (Sp fun ax wx hS hT' hd K' J => ?_) ?_; rotate_left 1
   ·have r102 := Tv hd 0 1 102; obtain ⟨_, _, _, _, _, _⟩ := bT hT'
    refine Go.Proofs.YtkhmcofmjjmjhaaDoor.o1 r102 fun ρ q102 => ?_; go_simp;
    exact Jo J hT'
   refine SeqOps.val ?_ (Sy 0 103 fun ax wx hS hT' hd K' J => ?_) ?_; rotate_left 1
   ·have r20 := hS.at 20 (by decide) (hE.at 20 rfl); obtain ⟨_, _, _, _, _, _⟩ := bT hT'
    refine Go.Proofs.YtkhmcofmjjmjhaaDoor.o1 r20 fun ρ q20 => ?_; go_simp;
    exact Jo J hT'
   refine SeqOps.val ?_ (Sy 1 103 fun ax wx hS hT' hd K' J => ?_) ?_; rotate_left 1
   ·have r104 := Tv hd 0 3 104; obtain ⟨_, _, _, _, _, _⟩ := bT hT'
    refine Go.Proofs.YtkhmcofmjjmjhaaDoor.o1 r104 fun ρ q104 => ?_; go_simp; (try go_bits);
    exact Jo J hT'
   refine SeqOps.val ?_ (Sp fun ax wx hS hT' hd K' J => ?_) ?_; rotate_left 1
   ·have r103 := Tv hd 2 2 103; have r105 := Tv hd 0 4 105; obtain ⟨_, _, _, _, _, _⟩ := bT hT'
    refine Go.Proofs.YtkhmcofmjjmjhaaDoor.o2 r103 r105 fun ρ q103 q105 => ?_; go_simp; (try go_bits);
    exact Jo J hT'
   refine SeqOps.val ?_ (Sp fun ax wx hS hT' hd K' J => ?_) ?_; rotate_left 1
   ·have r106 := Tv hd 0 5 106; obtain ⟨_, _, _, _, _, _⟩ := bT hT'
    refine Go.Proofs.YtkhmcofmjjmjhaaDoor.o1 r106 fun ρ q106 => ?_; go_simp;
    exact Jo J hT'
   refine SeqOps.val ?_ (Sy 0 107 fun ax wx hS hT' hd K' J => ?_) ?_; rotate_left 1
   ·have r5 := hS.at 5 (by decide) (hE.at 5 rfl); obtain ⟨_, _, _, _, _, _⟩ := bT hT'
    refine Go.Proofs.YtkhmcofmjjmjhaaDoor.o1 r5 fun ρ q5 => ?_; go_simp;
    exact Jo J hT'
   refine SeqOps.val ?_ (Sy 1 107 fun ax wx hS hT' hd K' J => ?_) ?_; rotate_left 1
   ·have r108 := Tv hd 0 7 108; obtain ⟨_, _, _, _, _, _⟩ := bT hT'
    refine Go.Proofs.YtkhmcofmjjmjhaaDoor.o1 r108 fun ρ q108 => ?_; go_simp;
    exact Jo J hT'
   refine SeqOps.val ?_ (Sy 2 107 fun ax wx hS hT' hd K' J => ?_) ?_; rotate_left 1
   ·have r16 := hS.at 16 (by decide) (hE.at 16 rfl); obtain ⟨_, _, _, _, _, _⟩ := bT hT'
    refine Go.Proofs.YtkhmcofmjjmjhaaDoor.o1 r16 fun ρ q16 => ?_; go_simp;
    exact Jo J hT'
   refine SeqOps.val ?_ (Sy 3 107 fun ax wx hS hT' hd K' J => ?_) ?_; rotate_left 1
   ·have r109 := Tv hd 1 8 109; have r110 := Tv hd 0 9 110; obtain ⟨_, _, _, _, _, _⟩ := bT hT'
    refine Go.Proofs.YtkhmcofmjjmjhaaDoor.o2 r109 r110 fun ρ q109 q110 => ?_; go_simp; (try go_bits);
    exact Jo J hT'
   refine SeqOps.val ?_ (Sy 4 107 fun ax wx hS hT' hd K' J => ?_) ?_; rotate_left 1
   ·have r111 := Tv hd 0 10 111; obtain ⟨_, _, _, _, _, _⟩ := bT hT'
    refine Go.Proofs.YtkhmcofmjjmjhaaDoor.o1 r111 fun ρ q111 => ?_; go_simp;
    exact Jo J hT'
   refine SeqOps.val ?_ (Sy 5 107 fun ax wx hS hT' hd K' J => ?_) ?_; rotate_left 1
   ·have r17 := hS.at 17 (by decide) (hE.at 17 rfl); obtain ⟨_, _, _, _, _, _⟩ := bT hT'
    refine Go.Proofs.YtkhmcofmjjmjhaaDoor.o1 r17 fun ρ q17 => ?_; go_simp;
    exact Jo J hT'
   refine SeqOps.val ?_ (Sy 6 107 fun ax wx hS hT' hd K' J => ?_) ?_; rotate_left 1
   ·have r112 := Tv hd 1 11 112; have r113 := Tv hd 0 12 113; obtain ⟨_, _, _, _, _, _⟩ := bT hT'
    refine Go.Proofs.YtkhmcofmjjmjhaaDoor.o2 r112 r113 fun ρ q112 q113 => ?_; go_simp; (try go_bits);
    go_at_call 38; refine (INk.out _).mono ?_; rintro e g1 ⟨rfl, k1⟩
    refine J.out _ _ _ rfl ?_ (hT'.trans (k1.mono hT'.size)) k1; rfl
   refine SeqOps.val ?_ (Sy 7 107 fun ax wx hS hT' hd K' J => ?_) ?_; rotate_left 1
   ·have r114 := Tv hd 0 13 114; obtain ⟨_, _, _, _, _, _⟩ := bT hT'
    refine Go.Proofs.YtkhmcofmjjmjhaaDoor.o1 r114 fun ρ q114 => ?_; go_simp; (try go_bits); (try simp (disch := omega) only [IntWalk.i64_in]);
    exact Jo J hT'
   refine SeqOps.val ?_ (Sp fun ax wx hS hT' hd K' J => ?_) ?_; rotate_left 1
   ·have r107 := Tv hd 8 6 107; have r115 := Tv hd 0 14 115; obtain ⟨_, _, _, _, _, _⟩ := bT hT'
    refine Go.Proofs.YtkhmcofmjjmjhaaDoor.o2 r107 r115 fun ρ q107 q115 => ?_; go_simp; (try go_bits);
    exact Jo J hT'
   refine SeqOps.val ?_ (Sp fun ax wx hS hT' hd K' J => ?_) ?_; rotate_left 1
   ·have r116 := Tv hd 0 15 116; obtain ⟨_, _, _, _, _, _⟩ := bT hT'
    refine Go.Proofs.YtkhmcofmjjmjhaaDoor.o1 r116 fun ρ q116 => ?_; go_simp;
    exact Jo J hT'
   refine SeqOps.val ?_ (Sy 0 117 fun ax wx hS hT' hd K' J => ?_) ?_; rotate_left 1
   ·have r19 := hS.at 19 (by decide) (hE.at 19 rfl); obtain ⟨_, _, _, _, _, _⟩ := bT hT'
    refine Go.Proofs.YtkhmcofmjjmjhaaDoor.o1 r19 fun ρ q19 => ?_; go_simp;
    exact Jo J hT'
   refine SeqOps.val ?_ (Sy 1 117 fun ax wx hS hT' hd K' J => ?_) ?_; rotate_left 1
   ·have r118 := Tv hd 0 17 118; obtain ⟨_, _, _, _, _, _⟩ := bT hT'
    refine Go.Proofs.YtkhmcofmjjmjhaaDoor.o1 r118 fun ρ q118 => ?_; go_simp;
    exact Jo J hT'
   refine SeqOps.val ?_ (Sy 0 119 fun ax wx hS hT' hd K' J => ?_) ?_; rotate_left 1
   ·have r5 := hS.at 5 (by decide) (hE.at 5 rfl); obtain ⟨_, _, _, _, _, _⟩ := bT hT'
    refine Go.Proofs.YtkhmcofmjjmjhaaDoor.o1 r5 fun ρ q5 => ?_; go_simp;
    exact Jo J hT'
   refine SeqOps.val ?_ (Sy 1 119 fun ax wx hS hT' hd K' J => ?_) ?_; rotate_left 1
   ·have r120 := Tv hd 0 19 120; obtain ⟨_, _, _, _, _, _⟩ := bT hT'
    refine Go.Proofs.YtkhmcofmjjmjhaaDoor.o1 r120 fun ρ q120 => ?_; go_simp;
    exact Jo J hT'
   refine SeqOps.val ?_ (Sy 2 119 fun ax wx hS hT' hd K' J => ?_) ?_; rotate_left 1
   ·have r16 := hS.at 16 (by decide) (hE.at 16 rfl); obtain ⟨_, _, _, _, _, _⟩ := bT hT'
    refine Go.Proofs.YtkhmcofmjjmjhaaDoor.o1 r16 fun ρ q16 => ?_; go_simp;
    exact Jo J hT'
   refine SeqOps.val ?_ (Sy 3 119 fun ax wx hS hT' hd K' J => ?_) ?_; rotate_left 1
   ·have r121 := Tv hd 1 20 121; have r122 := Tv hd 0 21 122; obtain ⟨_, _, _, _, _, _⟩ := bT hT'
    refine Go.Proofs.YtkhmcofmjjmjhaaDoor.o2 r121 r122 fun ρ q121 q122 => ?_; go_simp; (try go_bits);
    exact Jo J hT'
   refine SeqOps.val ?_ (Sy 4 119 fun ax wx hS hT' hd K' J => ?_) ?_; rotate_left 1
   ·have r123 := Tv hd 0 22 123; obtain ⟨_, _, _, _, _, _⟩ := bT hT'
    refine Go.Proofs.YtkhmcofmjjmjhaaDoor.o1 r123 fun ρ q123 => ?_; go_simp;
    exact Jo J hT'
   refine SeqOps.val ?_ (Sy 7 117 fun ax wx hS hT' hd K' J => ?_) ?_; rotate_left 1
   ·have r119 := Tv hd 5 18 119; have r124 := Tv hd 0 23 124; obtain ⟨_, _, _, _, _, _⟩ := bT hT'
    refine Go.Proofs.YtkhmcofmjjmjhaaDoor.o2 r119 r124 fun ρ q119 q124 => ?_; go_simp; (try go_bits);
    exact Jo J hT'
   refine SeqOps.val ?_ (Sp fun ax wx hS hT' hd K' J => ?_) ?_; rotate_left 1
   ·have r117 := Tv hd 8 16 117; have r125 := Tv hd 0 24 125; obtain ⟨_, _, _, _, _, _⟩ := bT hT'
    refine Go.Proofs.YtkhmcofmjjmjhaaDoor.o2 r117 r125 fun ρ q117 q125 => ?_; go_simp; (try go_bits);
    exact Jo J hT'
   refine SeqOps.val ?_ (Sp fun ax wx hS hT' hd K' J => ?_) ?_; rotate_left 1
   ·have r126 := Tv hd 0 25 126; obtain ⟨_, _, _, _, _, _⟩ := bT hT'
    refine Go.Proofs.YtkhmcofmjjmjhaaDoor.o1 r126 fun ρ q126 => ?_; go_simp;
    exact Jo J hT'
   refine SeqOps.val ?_ (Sy 0 127 fun ax wx hS hT' hd K' J => ?_) ?_; rotate_left 1
   ·have r19 := hS.at 19 (by decide) (hE.at 19 rfl); obtain ⟨_, _, _, _, _, _⟩ := bT hT'
    refine Go.Proofs.YtkhmcofmjjmjhaaDoor.o1 r19 fun ρ q19 => ?_; go_simp;
    exact Jo J hT'
   refine SeqOps.val ?_ (Sy 1 127 fun ax wx hS hT' hd K' J => ?_) ?_; rotate_left 1
   ·have r11 := hS.at 11 (by decide) (hE.at 11 rfl); obtain ⟨_, _, _, _, _, _⟩ := bT hT'
    refine Go.Proofs.YtkhmcofmjjmjhaaDoor.o1 r11 fun ρ q11 => ?_; go_simp;
    exact Jo J hT'
   refine SeqOps.val ?_ (Sy 2 127 fun ax wx hS hT' hd K' J => ?_) ?_; rotate_left 1
   ·have r16 := hS.at 16 (by decide) (hE.at 16 rfl); obtain ⟨_, _, _, _, _, _⟩ := bT hT'
    refine Go.Proofs.YtkhmcofmjjmjhaaDoor.o1 r16 fun ρ q16 => ?_; go_simp;
    exact Jo J hT'
   refine SeqOps.val ?_ (Sy 3 127 fun ax wx hS hT' hd K' J => ?_) ?_; rotate_left 1
   ·have r129 := Tv hd 1 28 129; have r130 := Tv hd 0 29 130; obtain ⟨_, _, _, _, _, _⟩ := bT hT'
    refine Go.Proofs.YtkhmcofmjjmjhaaDoor.o2 r129 r130 fun ρ q129 q130 => ?_; go_simp; (try go_bits);
    go_at_call 39; refine (ATk.out _ (hT1.below hT')).mono ?_; rintro e g1 ⟨rfl, k1⟩
    refine J.out _ _ _ rfl ?_ (hT'.trans (k1.mono hT'.size)) k1; rfl
   refine SeqOps.say (fun v _ => v = .bool true) (fun _ _ _ _ h => h) (Sy 4 127 fun ax wx hS hT' hd K' J => ?_) ?_
   ·have r131 := Tv hd 0 30 131; obtain ⟨_, _, _, _, _, _⟩ := bT hT'
    refine Go.Proofs.YtkhmcofmjjmjhaaDoor.o1 r131 fun ρ q131 => ?_; go_simp; (try go_bits);
    exact J.out _ _ _ rfl (by first | rfl | (congr 1; rw [decide_eq_true_eq]; omega)) hT' (Below.refl _ _)
   refine SeqOps.val ?_ (Sy 5 127 fun ax wx hS hT' hd K' J => ?_) ?_; rotate_left 1
   ·have r128 := Tv hd 4 27 128; obtain ⟨v132, r132, h132⟩ := Tg hd 0 31 132; obtain rfl := h132; obtain ⟨_, _, _, _, _, _⟩ := bT hT'
    refine Go.Proofs.YtkhmcofmjjmjhaaDoor.o2 r128 r132 fun ρ q128 q132 => ?_; go_simp; (try go_bits);
    exact Jo J hT'
   refine SeqOps.val ?_ (Sp fun ax wx hS hT' hd K' J => ?_) ?_; rotate_left 1
   ·have r127 := Tv hd 6 26 127; have r133 := Tv hd 0 32 133; obtain ⟨_, _, _, _, _, _⟩ := bT hT'
    refine Go.Proofs.YtkhmcofmjjmjhaaDoor.o2 r127 r133 fun ρ q127 q133 => ?_; go_simp; (try go_bits);
    exact Jo J hT'
   refine SeqOps.val ?_ (Sp fun ax wx hS hT' hd K' J => ?_) ?_; rotate_left 1
   ·have r134 := Tv hd 0 33 134; obtain ⟨_, _, _, _, _, _⟩ := bT hT'
    refine Go.Proofs.YtkhmcofmjjmjhaaDoor.o1 r134 fun ρ q134 => ?_; go_simp;
    exact Jo J hT'
   refine SeqOps.val ?_ (Sy 0 135 fun ax wx hS hT' hd K' J => ?_) ?_; rotate_left 1
   ·have r19 := hS.at 19 (by decide) (hE.at 19 rfl); obtain ⟨_, _, _, _, _, _⟩ := bT hT'
    refine Go.Proofs.YtkhmcofmjjmjhaaDoor.o1 r19 fun ρ q19 => ?_; go_simp;
    exact Jo J hT'
   refine SeqOps.val ?_ (Sy 1 135 fun ax wx hS hT' hd K' J => ?_) ?_; rotate_left 1
   ·have r17 := hS.at 17 (by decide) (hE.at 17 rfl); obtain ⟨_, _, _, _, _, _⟩ := bT hT'
    refine Go.Proofs.YtkhmcofmjjmjhaaDoor.o1 r17 fun ρ q17 => ?_; go_simp;
    exact Jo J hT'
   refine SeqOps.val ?_ (Sy 2 135 fun ax wx hS hT' hd K' J => ?_) ?_; rotate_left 1
   ·have r137 := Tv hd 0 36 137; obtain ⟨_, _, _, _, _, _⟩ := bT hT'
    refine Go.Proofs.YtkhmcofmjjmjhaaDoor.o1 r137 fun ρ q137 => ?_; go_simp;
    exact Jo J hT'
   refine SeqOps.val ?_ (Sy 3 135 fun ax wx hS hT' hd K' J => ?_) ?_; rotate_left 1
   ·have r2 := hS.at 2 (by decide) (hE.at 2 rfl); obtain ⟨_, _, _, _, _, _⟩ := bT hT'
    refine Go.Proofs.YtkhmcofmjjmjhaaDoor.o1 r2 fun ρ q2 => ?_; go_simp;
    exact Jo J hT'
   refine SeqOps.val ?_ (Sy 4 135 fun ax wx hS hT' hd K' J => ?_) ?_; rotate_left 1
   ·have r139 := Tv hd 0 38 139; obtain ⟨_, _, _, _, _, _⟩ := bT hT'
    refine Go.Proofs.YtkhmcofmjjmjhaaDoor.o1 r139 fun ρ q139 => ?_; go_simp;
    exact Jo J hT'
   refine SeqOps.val ?_ (Sy 5 135 fun ax wx hS hT' hd K' J => ?_) ?_; rotate_left 1
   ·have r140 := Tv hd 0 39 140; obtain ⟨_, _, _, _, _, _⟩ := bT hT'
    refine Go.Proofs.YtkhmcofmjjmjhaaDoor.o1 r140 fun ρ q140 => ?_; go_simp;
    exact Jo J hT'
   refine SeqOps.say (fun v _ => v = .bool true) (fun _ _ _ _ h => h) (Sy 6 135 fun ax wx hS hT' hd K' J => ?_) ?_
   ·have r138 := Tv hd 3 37 138; have r141 := Tv hd 0 40 141; obtain ⟨_, _, _, _, _, _⟩ := bT hT'
    refine Go.Proofs.YtkhmcofmjjmjhaaDoor.o2 r138 r141 fun ρ q138 q141 => ?_; go_simp; (try go_bits);
    exact J.out _ _ _ rfl (by first | rfl | (congr 1; rw [decide_eq_true_eq]; omega)) hT' (Below.refl _ _)
   refine SeqOps.val ?_ (Sy 7 135 fun ax wx hS hT' hd K' J => ?_) ?_; rotate_left 1
   ·have r136 := Tv hd 6 35 136; obtain ⟨v142, r142, h142⟩ := Tg hd 0 41 142; obtain rfl := h142; obtain ⟨_, _, _, _, _, _⟩ := bT hT'
    refine Go.Proofs.YtkhmcofmjjmjhaaDoor.o2 r136 r142 fun ρ q136 q142 => ?_; go_simp; (try go_bits);
    exact Jo J hT'
   refine SeqOps.val ?_ (Sp fun ax wx hS hT' hd K' J => ?_) ?_; rotate_left 1
   ·have r135 := Tv hd 8 34 135; have r143 := Tv hd 0 42 143; obtain ⟨_, _, _, _, _, _⟩ := bT hT'
    refine Go.Proofs.YtkhmcofmjjmjhaaDoor.o2 r135 r143 fun ρ q135 q143 => ?_; go_simp; (try go_bits);
    exact Jo J hT'
   refine SeqOps.nil ?_
   intro x4 hBm; (repeat refine Ek ?_)
   refine fun amx hEmx => ?_
   simp only [lk, pick, Nat.reduceEqDiff, ↓reduceIte] at hEmx
   refine Ld [2, 5, 6, 11, 13, 15, 16, 144] hEmx hK fun a hE => ?_; clear hK K Q' hEmx
   have hbx4 := hbx3.trans (hBm.mono hbx3.size)
   have hWy := hWx.trans (hBm.mono hWx.size)
   have cX1y := (hCX.below hBm).2 1 _ rfl
   have nXy := (hCX.below hBm).1
   have z2y := (hBm.cell (p := ⟨b2, o2 + k, none⟩) hb2).trans z2
   rw [hA2e] at cX1y
   clear nB cB4 nL cL0 cL1 nX cX0 cX1 z1 z2
   refine Ks ?_
   refine cond_no hE (t := 144) rfl ?_
   refine Ks ?_
   refine Rs 5 fun Q' K hK => ?_
   refine M1 hE 5 fun K' J ρ q5 => ?_; go_simp
   refine Ln hE J fun _ Eb => ?_; clear J K' hE a q5
   refine M1 Eb 145 fun K' J ρ q145 => ?_; go_simp
   refine Ln Eb J fun _ Ea => ?_; clear J K' Eb q145
   refine M1 Ea 16 fun K' J ρ q16 => ?_; go_simp
   refine Ln Ea J fun _ Eb => ?_; clear J K' Ea q16
   refine M2 Eb 146 147 fun K' J ρ q146 q147 => ?_; go_simp; (try go_bits)
   refine Ln Eb J fun _ Ea => ?_; clear J K' Eb q146 q147
   refine M1 Ea 148 fun K' J ρ q148 => ?_; go_simp
   refine Ln Ea J fun _ Eb => ?_; clear J K' Ea q148
   refine Ld [2, 5, 6, 11, 13, 15, 16, 149] Eb hK fun a hE => ?_; clear hK K Q' Eb
   refine Ks ?_
   refine cond_no hE (t := 149) rfl ?_
   refine Ks ?_
   refine Rs 3 fun Q' K hK => ?_
   refine M1 hE 16 fun K' J ρ q16 => ?_; go_simp
   refine Ln hE J fun _ Eb => ?_; clear J K' hE a q16
   refine M1 Eb 87 fun K' J ρ q87 => ?_; go_simp; (try go_bits); (try simp (disch := omega) only [IntWalk.i64_in])
   refine Ln Eb J fun _ Ea => ?_; clear J K' Eb q87
   refine M1 Ea 88 fun K' J ρ q88 => ?_; go_simp
   refine Ln Ea J fun _ Eb => ?_; clear J K' Ea q88
   refine Ld [2, 5, 6, 11, 13, 15, 16] Eb hK fun a hE => ?_; clear hK K Q' Eb
   refine Ks ?_
   refine ⟨k + 1, ⟨hlt, ?_, hWy⟩, by omega⟩
   rw [HFT.out]
   simpa using hE
 ·have hke : k = b.hours.length := by omega
  subst hke
  have hall : t.take b.hours.length = t := List.take_of_length_le (by omega)
  rw [hall] at hE
  obtain ⟨nZ, cZ0, cZ1⟩ := hCZ.c2
  refine Ks ?_
  refine Rs 5 fun Q' K hK => ?_
  refine M1 hE 16 fun K' J ρ q16 => ?_; go_simp
  refine Ln hE J fun _ Eb => ?_; clear J K' hE a q16
  refine M1 Eb 2 fun K' J ρ q2 => ?_; go_simp
  refine Ln Eb J fun _ Ea => ?_; clear J K' Eb q2
  refine M1 Ea 83 fun K' J ρ q83 => ?_; go_simp
  refine Ln Ea J fun _ Eb => ?_; clear J K' Ea q83
  refine M1 Eb 84 fun K' J ρ q84 => ?_; go_simp; (try go_bits)
  refine Ln Eb J fun _ Ea => ?_; clear J K' Eb q84
  refine M2 Ea 82 85 fun K' J ρ q82 q85 => ?_; go_simp; (try go_bits)
  refine Ln Ea J fun _ Eb => ?_; clear J K' Ea q82 q85
  replace Eb := Eb.turn 86 (v' := .bool false) rfl (by (first | (simp; done) | (simp; omega)))
  refine Ld [2, 5, 6, 11, 13, 15, 16, 86] Eb hK fun a hE => ?_; clear hK K Q' Eb
  refine Ks ?_
  refine cond_no hE (t := 86) rfl ?_
  refine Ks ?_
  refine Rs 7 fun Q' K hK => ?_
  refine M1 hE 15 fun K' J ρ q15 => ?_; go_simp
  refine Ln hE J fun _ Eb => ?_; clear J K' hE a q15
  refine M1 Eb 13 fun K' J ρ q13 => ?_; go_simp
  refine Ln Eb J fun _ Ea => ?_; clear J K' Eb q13
  refine M2 Ea 152 153 fun K' J ρ q152 q153 => ?_; go_simp; (try go_bits); (try clear q152 q153)
  go_at_call 38; refine (HIN.out _).mono ?_; rintro e wt ⟨rfl, ht⟩
  (try clear r152 r153)
  refine Ln Ea J fun _ Eb => ?_; clear J K' Ea
  refine M1 Eb 154 fun K' J ρ q154 => ?_; go_simp
  refine Ln Eb J fun _ Ea => ?_; clear J K' Eb q154
  refine Ly Ea 155 fun K' J => ?_
  refine o0 fun ρ => ?_; go_simp; (try go_bits);
  go_at_call 22; refine (snowed_any _ (hTw.below ht)).mono ?_; rintro e wv ⟨rfl, k9⟩
  have htv := ht.trans (k9.mono ht.size)
  refine Ln Ea J fun _ Eb => ?_; clear J K' Ea
  refine M2 Eb 155 156 fun K' J ρ q155 q156 => ?_; go_simp; (try go_bits)
  refine Ln Eb J fun _ Ea => ?_; clear J K' Eb q155 q156
  refine M1 Ea 157 fun K' J ρ q157 => ?_; go_simp
  refine Ln Ea J fun _ Eb => ?_; clear J K' Ea q157
  refine Ld [4] Eb hK fun a hE => ?_; clear hK K Q' Eb
  refine Ks ?_
  exact ret_one hE rfl rfl ⟨rfl, hbr.trans (htv.mono hbr.size)⟩
set_option maxRecDepth 100000 in
set_option maxHeartbeats 4000000 in
theorem true_good (hb : OkB b) (A : Option Addr) (ac : Nat) (l : List Int) (w : World) (hTw : TabW w) (hM : SbAt w H S b) (hl : l.length ≤ 9223372036854775807) (hA : ArrD w A (ints l)) : Calls Tryd.prog 6 #[.agg (sbV H hcap S scap b).toArray, .slice A l.length ac] w fun e w' => e = .returned (.bool true) ∧ Below w.heap.size w w' := by
 have h12 := hb.hours
 have C2 := hid fun (W : World) hW => soundC H hcap S scap b hb W hW
 have CH := hid fun (W : World) hW hA => happened_any H hcap S scap b hb A ac l hl W hW hA
 have CS := hid fun (t : List (Nat × Bool)) ht (A1 A2 : Option Addr) (c1 c2 : Nat) (W : World) hW h1 h2 => seen_any H hcap S scap b hb t ht A1 A2 c1 c2 W hW h1 h2
 have HF := hid fun (t : List (Nat × Bool)) ht (O1 O2 A' : Option Addr) (c1 c2 c' B X5 Y6 : Nat) (V : World) => true_fin H hcap S scap b hb t ht O1 O2 A' c1 c2 c' B X5 Y6 w V
 clear hb
 refine enterE Tryd.func6 rfl Tryd.ntmps6 (by simp) (fun a hE => ?_); simp only [envOf, Nat.zero_add, Nat.reduceAdd] at hE
 refine Ks ?_
 refine Rs 2 fun Q' K hK => ?_
 refine M1 hE 0 fun K' J ρ q0 => ?_; go_simp
 refine Ln hE J fun _ Eb => ?_; clear J K' hE a q0
 refine M0 fun K' J ρ => ?_; go_simp;
 refine Ln Eb J fun _ Ea => ?_; clear J K' Eb
 refine Ld [1, 2] Ea hK fun a hE => ?_; clear hK K Q' Ea
 obtain ⟨B, hBe⟩ : ∃ B, B = w.heap.size := ⟨_, rfl⟩; rw [← hBe] at hE; refine world_cut (fun wt => Below w.heap.size w wt ∧ Cells wt B (sbV H hcap S scap b)) ⟨(Below.refl _ _).alloc (Nat.le_refl _) _, by rw [hBe]; exact cells_new _ _ _⟩ (fun w1 hCut => ?_); obtain ⟨hbw1, hCB⟩ := hCut; clear hBe
 replace hM := hM.below hbw1
 replace hTw := hTw.below hbw1
 replace hA := hA.below hbw1
 have nB := hCB.1; have cB4 := hCB.2 4 _ rfl; have cB7 := hCB.2 7 _ rfl
 refine Ks ?_
 refine Rs 3 fun Q' K hK => ?_
 refine Lp fun K' J => ?_
 have r2 := hE.at 2 rfl
 refine wp_load_mid 29 (.tmp 2) rfl B 0 (eval_of r2) (sbV H hcap S scap b) _ (fun j u hu => by rw [Nat.zero_add]; exact hCB.2 j u hu) Tryd.underlying29 rfl (by kernel_rfl) ?_
 (try clear r2)
 refine Ln hE J fun _ Eb => ?_; clear J K' hE a
 refine M1 Eb 21 fun K' J ρ q21 => ?_; go_simp; (try go_bits); (try clear q21)
 go_at_call 34; refine (C2.out _ hM).mono ?_; rintro e w2 ⟨rfl, h2⟩
 (try clear r21)
 refine Ln Eb J fun _ Ea => ?_; clear J K' Eb
 refine M1 Ea 22 fun K' J ρ q22 => ?_; go_simp; (try go_bits); (try simp (disch := omega) only [IntWalk.i64_in])
 refine Ln Ea J fun _ Eb => ?_; clear J K' Ea q22
 replace Eb := Eb.turn 23 (v' := .bool false) rfl (by (first | rfl | simp))
 refine Ld [1, 2, 23] Eb hK fun a hE => ?_; clear hK K Q' Eb
 have hbw2 := hbw1.trans (h2.mono hbw1.size)
 replace hCB := hCB.below h2
 clear nB cB4 cB7
 have nB := hCB.1; have cB4 := hCB.2 4 _ rfl; have cB7 := hCB.2 7 _ rfl
 replace hM := hM.below h2
 replace hTw := hTw.below h2
 replace hA := hA.below h2
 refine Ks ?_
 refine cond_no hE (t := 23) rfl ?_
 refine Ks ?_
 refine Rs 5 fun Q' K hK => ?_
 refine Lp fun K' J => ?_
 have r2 := hE.at 2 rfl
 refine wp_load_mid 29 (.tmp 2) rfl B 0 (eval_of r2) (sbV H hcap S scap b) _ (fun j u hu => by rw [Nat.zero_add]; exact hCB.2 j u hu) Tryd.underlying29 rfl (by kernel_rfl) ?_
 (try clear r2)
 refine Ln hE J fun _ Eb => ?_; clear J K' hE a
 refine M1 Eb 1 fun K' J ρ q1 => ?_; go_simp
 refine Ln Eb J fun _ Ea => ?_; clear J K' Eb q1
 refine M2 Ea 25 26 fun K' J ρ q25 q26 => ?_; go_simp; (try go_bits); (try clear q25 q26)
 go_at_call 35; refine (CH.out _ hM hA).mono ?_; rintro e w3 ⟨⟨t, O1, c1, O2, c2, ht, rfl, hO1, hO2⟩, h3⟩
 (try clear r25 r26)
 refine Ln Ea J fun _ Eb => ?_; clear J K' Ea
 refine M0 fun K' J ρ => ?_; go_simp;
 refine Ln Eb J fun _ Ea => ?_; clear J K' Eb
 refine M2 Ea 5 27 fun K' J ρ q5 q27 => ?_; go_simp; (try clear q5 q27)
 refine late_skip Ea J (fun _ Eb => ?_); clear J K'; clear Ea
 refine Ld [2, 5] Eb hK fun a hE => ?_; clear hK K Q' Eb
 have hbw3 := hbw2.trans (h3.mono hbw2.size)
 replace hCB := hCB.below h3
 clear nB cB4 cB7
 have nB := hCB.1; have cB4 := hCB.2 4 _ rfl; have cB7 := hCB.2 7 _ rfl
 replace hM := hM.below h3
 replace hTw := hTw.below h3
 replace hA := hA.below h3
 obtain ⟨X5, hX5e⟩ : ∃ B, B = w3.heap.size := ⟨_, rfl⟩; rw [← hX5e] at hE; refine world_cut (fun wt => Below w3.heap.size w3 wt ∧ Cells wt X5 [.slice O1 t.length c1, .slice O2 t.length c2]) ⟨(Below.refl _ _).alloc (Nat.le_refl _) _, by rw [hX5e]; exact cells_new _ _ _⟩ (fun w4 hCut => ?_); obtain ⟨hbw4, hCX5⟩ := hCut; clear hX5e
 have k4 := hbw4
 clear hbw4
 have hbw4 := hbw3.trans (k4.mono hbw3.size)
 replace hCB := hCB.below k4
 clear nB cB4 cB7
 have nB := hCB.1; have cB4 := hCB.2 4 _ rfl; have cB7 := hCB.2 7 _ rfl
 replace hM := hM.below k4
 replace hTw := hTw.below k4
 replace hA := hA.below k4
 replace hO1 := hO1.below k4
 replace hO2 := hO2.below k4
 obtain ⟨nX5, cX50, cX51⟩ := hCX5.c2
 refine Ks ?_
 refine Rs 5 fun Q' K hK => ?_
 refine Lp fun K' J => ?_
 have r2 := hE.at 2 rfl
 refine wp_load_mid 29 (.tmp 2) rfl B 0 (eval_of r2) (sbV H hcap S scap b) _ (fun j u hu => by rw [Nat.zero_add]; exact hCB.2 j u hu) Tryd.underlying29 rfl (by kernel_rfl) ?_
 (try clear r2)
 refine Ln hE J fun _ Eb => ?_; clear J K' hE a
 refine M1 Eb 5 fun K' J ρ q5 => ?_; go_simp
 refine Ln Eb J fun _ Ea => ?_; clear J K' Eb q5
 refine M2 Ea 28 29 fun K' J ρ q28 q29 => ?_; go_simp; (try go_bits); (try clear q28 q29)
 go_at_call 36; refine (CS.out t ht O1 O2 c1 c2 _ hM hO1 hO2).mono ?_; rintro e w5 ⟨⟨A', c', rfl, hMY⟩, h5⟩
 (try clear r28 r29)
 refine Ln Ea J fun _ Eb => ?_; clear J K' Ea
 refine M0 fun K' J ρ => ?_; go_simp;
 refine Ln Eb J fun _ Ea => ?_; clear J K' Eb
 refine Lp fun K' J => ?_
 have r6 := Ea.at 6 rfl; have r30 := Ea.at 30 rfl
 refine wp_store_mid 29 (.tmp 6) (.tmp 30) rfl w5.heap.size 0 (sbV H hcap A' c' (seeB b t)).toArray (eval_of r6) (eval_of r30) (there_row (row_new w5 _ _) (Nat.le_of_eq rfl)) (by kernel_rfl) (by kernel_rfl) ?_
 (try clear r6 r30)
 refine late_skip Ea J (fun _ Eb => ?_); clear J K'; clear Ea
 refine Ld [2, 5, 6] Eb hK fun a hE => ?_; clear hK K Q' Eb
 have hbw5 := hbw4.trans (h5.mono hbw4.size)
 replace hCB := hCB.below h5
 clear nB cB4 cB7
 have nB := hCB.1; have cB4 := hCB.2 4 _ rfl; have cB7 := hCB.2 7 _ rfl
 replace hCX5 := hCX5.below h5
 clear nX5 cX50 cX51
 obtain ⟨nX5, cX50, cX51⟩ := hCX5.c2
 replace hM := hM.below h5
 replace hTw := hTw.below h5
 replace hO1 := hO1.below h5
 replace hO2 := hO2.below h5
 obtain ⟨Y6, hQ⟩ : ∃ B, B = w5.heap.size := ⟨_, rfl⟩
 rw [← hQ] at hE
 refine world_cut (fun wt => Below w5.heap.size w5 wt ∧ Cells wt Y6 (sbV H hcap A' c' (seeB b t))) (by rw [hQ]; exact boxed_new w5 #[.int .i64 0, .int .i64 0, .int .i64 0, .int .i64 0, .int .i64 0, .int .i64 0, .int .i64 0, .slice none 0 0, .slice none 0 0] 29 (sbV H hcap A' c' (seeB b t)) rfl) (fun w6 hCut => ?_)
 obtain ⟨k6, hCY⟩ := hCut
 clear hQ
 have hbw6 := hbw5.trans (k6.mono hbw5.size)
 replace hCB := hCB.below k6
 clear nB cB4 cB7
 have nB := hCB.1; have cB4 := hCB.2 4 _ rfl; have cB7 := hCB.2 7 _ rfl
 replace hCX5 := hCX5.below k6
 clear nX5 cX50 cX51
 obtain ⟨nX5, cX50, cX51⟩ := hCX5.c2
 replace hM := hM.below k6
 replace hTw := hTw.below k6
 replace hO1 := hO1.below k6
 replace hO2 := hO2.below k6
 replace hMY := hMY.below k6
 exact HF.out t ht O1 O2 A' c1 c2 c' B X5 Y6 _ hTw hbw6 hCB hCX5 hO1 hO2 hCY hMY _ hE
theorem SlopeTrue_any (A : Option Addr) (ac : Nat) (l : List Int) (w : World) (hTw : TabW w) (hM : SbAt w H S b) (hh : b.hours.length ≤ 9223372036854775807) (hss : b.sights.length ≤ 9223372036854775807) (hl : l.length ≤ 9223372036854775807) (hA : ArrD w A (ints l)) : Calls Tryd.prog 6 #[.agg (sbV H hcap S scap b).toArray, .slice A l.length ac] w fun e w' => e = .returned (.bool true) ∧ Below w.heap.size w w' := by
 cases ho : b.ok
 ·exact true_bad H hcap S scap b ho A ac l w hTw hM hh hss
 ·exact true_good H hcap S scap b (ok_iff.1 ho) A ac l w hTw hM hl hA
end
end Go.Proofs.YtkhmcofmjjmjhaaDoor
