/- Slope: the law SlopeWrong. -/
import Derived.Test.YtkhmcofmjjmjhaaDoorSce
import Derived.Test.YtkhmcofmjjmjhaaDoorScf
namespace Go.Proofs.YtkhmcofmjjmjhaaDoor
set_option linter.unusedSimpArgs false
set_option linter.unusedVariables false
open Go Go.RowKit
attribute [local go_sem high] cell_set_wr
attribute [local go_sem low] cell_wr frozen_wr
attribute [local go_sem] wr_set wr_drew wr_drewN wr_alloc wr_new Rho.c Rho.n Rho.g

theorem lessN_int : ∀ (a b : List Nat), lessB (a.map fun (n : Nat) => (n : Int)) (b.map fun (n : Nat) => (n : Int)) = lessN a b
 | [], [] => rfl
 | [], _ :: _ => rfl
 | _ :: _, [] => rfl
 | x :: a, y :: b => by
  simp only [List.map_cons, lessB, lessN, lessN_int a b]
  by_cases h1 : x < y
  ·rw [if_pos h1, if_pos (by omega)]
  ·rw [if_neg h1, if_neg (by omega)]
   by_cases h2 : y < x
   ·rw [if_pos h2, if_pos (by omega)]
   ·rw [if_neg h2, if_neg (by omega)]
theorem windI_in (n b : Int) (h : 0 < b) : 0 ≤ windI n b ∧ windI n b < b := by
 unfold windI
 rw [if_neg (by omega)]
 exact ⟨Int.emod_nonneg _ (by omega), Int.emod_lt_of_pos _ h⟩
theorem pow_w6 (n : Nat) (h : n ≤ 6) : 0 < wrap64 (2 ^ n) ∧ wrap64 (2 ^ n) ≤ 64 := by
 have h9 : n = 0 ∨ n = 1 ∨ n = 2 ∨ n = 3 ∨ n = 4 ∨ n = 5 ∨ n = 6 := by omega
 rcases h9 with e | e | e | e | e | e | e <;> subst e <;> simp [wrap64]
def onS (s n : Nat) : List Nat := (List.range n).filter fun n => hasB s n
theorem onS_map (s n : Nat) : onesL s n = (onS s n).map fun (n : Nat) => (n : Int) := rfl
theorem onS_inc (s n : Nat) : IncN 0 n (onS s n) := by
 unfold onS
 rw [List.range_eq_range']
 exact inc_filter _ n n 0 (by omega)
section
variable (H : Option Addr) (hcap : Nat) (S : Option Addr) (scap : Nat) (b : Sb)
set_option maxRecDepth 100000 in
set_option maxHeartbeats 4000000 in
theorem wrong_bad (ho : b.ok = false) (n : Int) (w : World) (hTw : TabW w) (hM : SbAt w H S b) (hh : b.hours.length ≤ 9223372036854775807) (hss : b.sights.length ≤ 9223372036854775807) : Calls Tryd.prog 12 #[.agg (sbV H hcap S scap b).toArray, .int .i64 n] w fun e w' => e = .returned (.bool true) ∧ Below w.heap.size w w' := by
 have C1 : Hid (∀ W, SbAt W H S b → Calls Tryd.prog 32 #[.agg (sbV H hcap S scap b).toArray] W fun e w' => (∃ T c, e = .returned (.tuple #[.slice T 0 c, .int .i64 30]) ∧ ArrD w' T (nats [])) ∧ Below W.heap.size W w') := hid fun W hW => by
  have h := pWrong_any H hcap S scap b W hW hh hss
  have e0 : sbE b = 30 := by unfold sbE; rw [ho]; rfl
  rw [e0, ho] at h
  exact h
 have C2 : Hid (∀ W, SbAt W H S b → Calls Tryd.prog 34 #[.agg (sbV H hcap S scap b).toArray] W fun e w' => e = .returned (.bool false) ∧ Below W.heap.size W w') := hid fun W hW => by
  have h := sound_any H hcap S scap b W hW hh hss
  rw [ho] at h
  exact h
 clear ho hh hss
 refine enterE Tryd.func12 rfl Tryd.ntmps12 (by simp) (fun a hE => ?_); simp only [envOf, Nat.zero_add, Nat.reduceAdd] at hE
 refine Ks ?_
 refine Rs 2 fun Q' K hK => ?_
 refine M1 hE 0 fun K' J ρ q0 => ?_; go_simp; (try clear q0)
 refine Ln hE J fun _ Eb => ?_; clear J K' hE a
 refine M0 fun K' J ρ => ?_; go_simp;
 refine Ln Eb J fun _ Ea => ?_; clear J K' Eb
 refine late_done [1, 2] Ea hK (fun a hE => ?_); clear hK K Q' Ea; simp only [lk, pick, Nat.reduceEqDiff, ↓reduceIte] at hE
 obtain ⟨B, hBe⟩ : ∃ B, B = w.heap.size := ⟨_, rfl⟩; have hnB : w.heap.size ≤ B := Nat.le_of_eq hBe.symm; rw [← hBe] at hE; refine world_cut (fun wt => Below w.heap.size w wt ∧ B < wt.heap.size ∧ Row wt B (sbV H hcap S scap b)) ⟨(Below.refl _ _).alloc (Nat.le_refl _) _, by rw [hBe]; simp, by rw [hBe]; exact row_new _ _ _⟩ (fun w1 hCut => ?_); obtain ⟨hbw1, hlB, hRB⟩ := hCut; clear hBe
 have hCB := row_cells hRB hlB
 have hM1 := hM.below hbw1
 refine Ks ?_
 refine Rs 7 fun Q' K hK => ?_
 refine Lp fun K' J => ?_
 have r2 := hE.at 2 rfl
 refine wp_load_mid 29 (.tmp 2) rfl B 0 (eval_of r2) (sbV H hcap S scap b) _ (fun j u hu => by rw [Nat.zero_add]; exact hCB.2 j u hu) Tryd.underlying29 rfl (by kernel_rfl) ?_
 (try clear r2)
 refine Ln hE J fun _ Eb => ?_; clear J K' hE a
 refine M1 Eb 15 fun K' J ρ q15 => ?_; go_simp; (try go_bits); (try clear q15)
 go_at_call 32; refine (C1.out _ hM1).mono ?_; rintro e w2 ⟨⟨T, c, rfl, hT2⟩, h2⟩
 (try clear r15)
 refine Ln Eb J fun _ Ea => ?_; clear J K' Eb
 refine M1 Ea 16 fun K' J ρ q16 => ?_; go_simp; (try clear q16)
 refine Ln Ea J fun _ Eb => ?_; clear J K' Ea
 refine M1 Eb 14 fun K' J ρ q14 => ?_; go_simp; (try clear q14)
 refine Ln Eb J fun _ Ea => ?_; clear J K' Eb
 refine M1 Ea 14 fun K' J ρ q14 => ?_; go_simp; (try clear q14)
 refine Ln Ea J fun _ Eb => ?_; clear J K' Ea
 refine M1 Eb 17 fun K' J ρ q17 => ?_; go_simp; (try clear q17)
 refine Ln Eb J fun _ Ea => ?_; clear J K' Eb
 refine M1 Ea 18 fun K' J ρ q18 => ?_; go_simp; (try clear q18)
 refine Ln Ea J fun _ Eb => ?_; clear J K' Ea
 refine late_done [1, 2, 5, 6] Eb hK (fun a hE => ?_); clear hK K Q' Eb; simp only [lk, pick, Nat.reduceEqDiff, ↓reduceIte] at hE
 have hb2 := hbw1.trans (h2.mono hbw1.size)
 refine Ks ?_
 refine Rs 3 fun Q' K hK => ?_
 refine Lp fun K' J => ?_
 have r2 := hE.at 2 rfl
 refine wp_load_mid 29 (.tmp 2) rfl B 0 (eval_of r2) (sbV H hcap S scap b) _ (fun j u hu => by rw [Nat.zero_add]; exact (hCB.below h2).2 j u hu) Tryd.underlying29 rfl (by kernel_rfl) ?_
 (try clear r2)
 refine Ln hE J fun _ Eb => ?_; clear J K' hE a
 refine M1 Eb 19 fun K' J ρ q19 => ?_; go_simp; (try go_bits); (try clear q19)
 go_at_call 34; refine (C2.out _ (hM1.below h2)).mono ?_; rintro e w3 ⟨rfl, h3⟩
 (try clear r19)
 refine Ln Eb J fun _ Ea => ?_; clear J K' Eb
 refine M1 Ea 20 fun K' J ρ q20 => ?_; go_simp; (try go_bits); (try simp (disch := omega) only [IntWalk.i64_in]); (try clear q20)
 refine Ln Ea J fun _ Eb => ?_; clear J K' Ea
 replace Eb := Eb.turn 21 (v' := .bool true) rfl (by (first | rfl | simp))
 refine late_done [1, 2, 5, 6, 21] Eb hK (fun a hE => ?_); clear hK K Q' Eb; simp only [lk, pick, Nat.reduceEqDiff, ↓reduceIte] at hE
 have h13 := h2.trans (h3.mono h2.size)
 have hb3 := hbw1.trans (h13.mono hbw1.size)
 refine Ks ?_
 refine cond_yes hE (t := 21) rfl ?_
 refine Ks ?_
 refine Rs 11 fun Q' K hK => ?_
 refine M1 hE 6 fun K' J ρ q6 => ?_; go_simp; (try clear q6)
 refine Ln hE J fun _ Eb => ?_; clear J K' hE a
 refine M1 Eb 22 fun K' J ρ q22 => ?_; go_simp; (try go_bits); (try clear q22)
 refine Ln Eb J fun _ Ea => ?_; clear J K' Eb
 refine M1 Ea 23 fun K' J ρ q23 => ?_; go_simp; (try clear q23)
 refine Ln Ea J fun _ Eb => ?_; clear J K' Ea
 refine N1 Eb 24 5 fun K' J ρ q5 => ?_; go_simp; (try clear q5)
 refine Ln Eb J fun _ Ea => ?_; clear J K' Eb
 refine N1 Ea 24 25 fun K' J ρ q25 => ?_; go_simp; (try go_bits); (try clear q25)
 refine Ln Ea J fun _ Eb => ?_; clear J K' Ea
 refine N1 Eb 24 26 fun K' J ρ q26 => ?_; go_simp; (try go_bits); (try clear q26)
 refine Ln Eb J fun _ Ea => ?_; clear J K' Eb
 refine M2 Ea 24 27 fun K' J ρ q24 q27 => ?_; go_simp; (try go_bits); (try clear q24 q27)
 refine Ln Ea J fun _ Eb => ?_; clear J K' Ea
 refine M1 Eb 28 fun K' J ρ q28 => ?_; go_simp; (try clear q28)
 refine Ln Eb J fun _ Ea => ?_; clear J K' Eb
 refine Ly Ea 29 fun K' J => ?_
 refine o0 fun ρ => ?_; go_simp; (try go_bits);
 go_at_call 22; refine (snowed_any _ (hTw.below hb3)).mono ?_; rintro e w4 ⟨rfl, k9⟩
 refine Ln Ea J fun _ Eb => ?_; clear J K' Ea
 refine M2 Eb 29 30 fun K' J ρ q29 q30 => ?_; go_simp; (try go_bits); (try clear q29 q30)
 refine Ln Eb J fun _ Ea => ?_; clear J K' Eb
 refine M1 Ea 31 fun K' J ρ q31 => ?_; go_simp; (try clear q31)
 refine Ln Ea J fun _ Eb => ?_; clear J K' Ea
 refine late_done [4] Eb hK (fun a hE => ?_); clear hK K Q' Eb; simp only [lk, pick, Nat.reduceEqDiff, ↓reduceIte] at hE
 refine Ks ?_
 exact ret_one hE rfl rfl ⟨rfl, hb3.trans (k9.mono hb3.size)⟩
set_option maxRecDepth 100000 in
set_option maxHeartbeats 4000000 in
theorem wrong_good (hb : OkB b) (n : Int) (w : World) (hTw : TabW w) (hM : SbAt w H S b) : Calls Tryd.prog 12 #[.agg (sbV H hcap S scap b).toArray, .int .i64 n] w fun e w' => e = .returned (.bool true) ∧ Below w.heap.size w w' := by
 have h12 := hb.hours
 have h6 := hb.sights
 have e0 : sbE b = 0 := by unfold sbE; rw [ok_iff.2 hb]; rfl
 have l1 := wro_facts hb
 have l5 := wro_empty hb
 have l6 := fun u (hu : IncN 0 b.sights.length u) => wro_other hb hu
 obtain ⟨wl, hwl⟩ : ∃ wl, wroB b = wl := ⟨_, rfl⟩
 obtain ⟨q, hq⟩ : ∃ q, rtB b = q := ⟨_, rfl⟩
 rw [hwl] at l1 l5 l6
 rw [hq] at l5
 have HQ := hid l5
 have hwn := incN_len l1.1
 have hwl6 : wl.length ≤ 6 := by omega
 have C1 : Hid (∀ W, SbAt W H S b → Calls Tryd.prog 32 #[.agg (sbV H hcap S scap b).toArray] W fun e w' => (∃ T c, e = .returned (.tuple #[.slice T wl.length c, .int .i64 0]) ∧ ArrD w' T (nats wl)) ∧ Below W.heap.size W w') := hid fun W hW => by
  have h := pWrong_any H hcap S scap b W hW (by omega) (by omega)
  rw [e0, if_pos (ok_iff.2 hb), hwl] at h
  exact h
 have C2 : Hid (∀ W, SbAt W H S b → Calls Tryd.prog 34 #[.agg (sbV H hcap S scap b).toArray] W fun e w' => e = .returned (.bool true) ∧ Below W.heap.size W w') := hid fun W hW => sound_yes H hcap S scap b hb W hW
 have C3 : Hid (∀ W, SbAt W H S b → Calls Tryd.prog 14 #[.agg (sbV H hcap S scap b).toArray] W fun e w' => e = .returned (.tuple #[.bool q, .int .i64 0]) ∧ Below W.heap.size W w') := hid fun W hW => by
  have h := pRight_any H hcap S scap b W hW (by omega) (by omega)
  rw [e0, ok_iff.2 hb, hq, Bool.true_and] at h
  exact h
 have C4 : Hid (∀ T c W, ArrD W T (nats wl) → Calls Tryd.prog 37 #[.slice T wl.length c, .int .i64 b.sights.length] W fun e w' => e = .returned (.bool true) ∧ Below W.heap.size W w') := hid fun T c W hW => by
  have h := climbs_yes T c (wl.map fun (i : Nat) => (i : Int)) b.sights.length W (by rw [← nats_ints]; exact hW) (by rw [List.length_map]; omega) (climbs_inc l1.1)
  rw [List.length_map] at h
  exact h
 have C5 := hid fun (out : List Nat) (T : Option Addr) (c : Nat) (W : World) (ho : out.length ≤ 6) hW hT => lwithout_any H hcap S scap b h6 T c out W hW hT (by omega)
 have C6 : Hid (∀ (out : List Nat) (r : Bool) (_ : rtB (withoutB b out) = r) A c W, SbAt W H A (withoutB b out) → Calls Tryd.prog 14 #[.agg (sbV H hcap A c (withoutB b out)).toArray] W fun e w' => e = .returned (.tuple #[.bool r, .int .i64 0]) ∧ Below W.heap.size W w') := hid fun out r hr A c W hW => by
  have hb' := ok_without hb out
  have h := pRight_any H hcap A c (withoutB b out) W hW (by have := hb'.hours; omega) (by have := hb'.sights; omega)
  have e1 : sbE (withoutB b out) = 0 := by unfold sbE; rw [ok_iff.2 hb']; rfl
  rw [e1, ok_iff.2 hb', hr, Bool.true_and] at h
  exact h
 have HR := hid l1.2.1
 obtain ⟨hp1, hp2⟩ := pow_w6 b.sights.length h6
 obtain ⟨hw1, hw2⟩ := windI_in n _ hp1
 obtain ⟨s, hsx⟩ : ∃ s : Nat, windI n (wrap64 (2 ^ b.sights.length)) = s := ⟨(windI n (wrap64 (2 ^ b.sights.length))).toNat, by omega⟩
 have HS := hid hsx
 have HW64 : Hid (wrap64 (2 ^ b.sights.length) ≤ 9223372036854775807) := hid (by omega)
 have HMN : Hid (min b.sights.length 64 = b.sights.length) := hid (by omega)
 have hs64 : s < 64 := by omega
 clear hp1 hp2 hw1 hw2 hsx
 have hoi := onS_inc s b.sights.length
 have hol := incN_len hoi
 have hoX := l6 _ hoi
 have C8 : Hid (∀ W, Calls Tryd.prog 51 #[.int .i64 s, .int .i64 b.sights.length] W fun e w' => (∃ O oc, e = .returned (.slice O (onS s b.sights.length).length oc) ∧ ArrD w' O (nats (onS s b.sights.length))) ∧ Below W.heap.size W w') := hid fun W => by
  have h := ones_any s b.sights.length W (by omega) (by omega)
  rw [onS_map, List.length_map, ← nats_ints] at h
  exact h.mono (by
   rintro e w' ⟨O, oc, rfl, _, h1, h2⟩
   exact ⟨⟨O, oc, rfl, h1⟩, h2⟩)
 obtain ⟨out, hout⟩ : ∃ out, onS s b.sights.length = out := ⟨_, rfl⟩
 rw [hout] at C8 hol hoX
 have hol6 : out.length ≤ 6 := by omega
 have HX := hid hoX
 have C9 : Hid (∀ O oc T c W, ArrD W O (nats out) → ArrD W T (nats wl) → Calls Tryd.prog 52 #[.slice O out.length oc, .slice T wl.length c] W fun e w' => e = .returned (.bool (lessN out wl)) ∧ Below W.heap.size W w') := hid fun O oc T c W hO hT => by
  have h := less_any O T oc c (out.map fun (i : Nat) => (i : Int)) (wl.map fun (i : Nat) => (i : Int)) W (by rw [← nats_ints]; exact hO) (by rw [← nats_ints]; exact hT) (by rw [List.length_map]; omega) (by rw [List.length_map]; omega)
  rw [List.length_map, List.length_map, lessN_int] at h
  exact h
 clear hb h12 e0 l1 l5 l6 hwl hq hwn hs64 hoi hol hoX hout
 refine enterE Tryd.func12 rfl Tryd.ntmps12 (by simp) (fun a hE => ?_); simp only [envOf, Nat.zero_add, Nat.reduceAdd] at hE
 refine Ks ?_
 refine Rs 2 fun Q' K hK => ?_
 refine M1 hE 0 fun K' J ρ q0 => ?_; go_simp; (try clear q0)
 refine Ln hE J fun _ Eb => ?_; clear J K' hE a
 refine M0 fun K' J ρ => ?_; go_simp;
 refine Ln Eb J fun _ Ea => ?_; clear J K' Eb
 refine late_done [1, 2] Ea hK (fun a hE => ?_); clear hK K Q' Ea; simp only [lk, pick, Nat.reduceEqDiff, ↓reduceIte] at hE
 obtain ⟨B, hBe⟩ : ∃ B, B = w.heap.size := ⟨_, rfl⟩; have hnB : w.heap.size ≤ B := Nat.le_of_eq hBe.symm; rw [← hBe] at hE; refine world_cut (fun wt => Below w.heap.size w wt ∧ B < wt.heap.size ∧ Row wt B (sbV H hcap S scap b)) ⟨(Below.refl _ _).alloc (Nat.le_refl _) _, by rw [hBe]; simp, by rw [hBe]; exact row_new _ _ _⟩ (fun w1 hCut => ?_); obtain ⟨hbw1, hlB, hRB⟩ := hCut; clear hBe
 have hCB := row_cells hRB hlB
 have hM1 := hM.below hbw1
 refine Ks ?_
 refine Rs 7 fun Q' K hK => ?_
 refine Lp fun K' J => ?_
 have r2 := hE.at 2 rfl
 refine wp_load_mid 29 (.tmp 2) rfl B 0 (eval_of r2) (sbV H hcap S scap b) _ (fun j u hu => by rw [Nat.zero_add]; exact hCB.2 j u hu) Tryd.underlying29 rfl (by kernel_rfl) ?_
 (try clear r2)
 refine Ln hE J fun _ Eb => ?_; clear J K' hE a
 refine M1 Eb 15 fun K' J ρ q15 => ?_; go_simp; (try go_bits); (try clear q15)
 go_at_call 32; refine (C1.out _ hM1).mono ?_; rintro e w2 ⟨⟨T, c, rfl, hT2⟩, h2⟩
 (try clear r15)
 refine Ln Eb J fun _ Ea => ?_; clear J K' Eb
 refine M1 Ea 16 fun K' J ρ q16 => ?_; go_simp; (try clear q16)
 refine Ln Ea J fun _ Eb => ?_; clear J K' Ea
 refine M1 Eb 14 fun K' J ρ q14 => ?_; go_simp; (try clear q14)
 refine Ln Eb J fun _ Ea => ?_; clear J K' Eb
 refine M1 Ea 14 fun K' J ρ q14 => ?_; go_simp; (try clear q14)
 refine Ln Ea J fun _ Eb => ?_; clear J K' Ea
 refine M1 Eb 17 fun K' J ρ q17 => ?_; go_simp; (try clear q17)
 refine Ln Eb J fun _ Ea => ?_; clear J K' Eb
 refine M1 Ea 18 fun K' J ρ q18 => ?_; go_simp; (try clear q18)
 refine Ln Ea J fun _ Eb => ?_; clear J K' Ea
 refine late_done [1, 2, 5, 6] Eb hK (fun a hE => ?_); clear hK K Q' Eb; simp only [lk, pick, Nat.reduceEqDiff, ↓reduceIte] at hE
 have hb2 := hbw1.trans (h2.mono hbw1.size)
 refine Ks ?_
 refine Rs 3 fun Q' K hK => ?_
 refine Lp fun K' J => ?_
 have r2 := hE.at 2 rfl
 refine wp_load_mid 29 (.tmp 2) rfl B 0 (eval_of r2) (sbV H hcap S scap b) _ (fun j u hu => by rw [Nat.zero_add]; exact (hCB.below h2).2 j u hu) Tryd.underlying29 rfl (by kernel_rfl) ?_
 (try clear r2)
 refine Ln hE J fun _ Eb => ?_; clear J K' hE a
 refine M1 Eb 19 fun K' J ρ q19 => ?_; go_simp; (try go_bits); (try clear q19)
 go_at_call 34; refine (C2.out _ (hM1.below h2)).mono ?_; rintro e w3 ⟨rfl, h3⟩
 (try clear r19)
 refine Ln Eb J fun _ Ea => ?_; clear J K' Eb
 refine M1 Ea 20 fun K' J ρ q20 => ?_; go_simp; (try go_bits); (try simp (disch := omega) only [IntWalk.i64_in]); (try clear q20)
 refine Ln Ea J fun _ Eb => ?_; clear J K' Ea
 replace Eb := Eb.turn 21 (v' := .bool false) rfl (by (first | rfl | simp))
 refine late_done [1, 2, 5, 6, 21] Eb hK (fun a hE => ?_); clear hK K Q' Eb; simp only [lk, pick, Nat.reduceEqDiff, ↓reduceIte] at hE
 have h13 := h2.trans (h3.mono h2.size)
 have hb3 := hbw1.trans (h13.mono hbw1.size)
 refine Ks ?_
 refine cond_no hE (t := 21) rfl ?_
 refine Ks ?_
 refine Rs 7 fun Q' K hK => ?_
 refine Lp fun K' J => ?_
 have r2 := hE.at 2 rfl
 refine wp_load_mid 29 (.tmp 2) rfl B 0 (eval_of r2) (sbV H hcap S scap b) _ (fun j u hu => by rw [Nat.zero_add]; exact (hCB.below h13).2 j u hu) Tryd.underlying29 rfl (by kernel_rfl) ?_
 (try clear r2)
 refine Ln hE J fun _ Eb => ?_; clear J K' hE a
 refine M1 Eb 33 fun K' J ρ q33 => ?_; go_simp; (try go_bits); (try clear q33)
 go_at_call 14; refine (C3.out _ (hM1.below h13)).mono ?_; rintro e w4 ⟨rfl, h4⟩
 (try clear r33)
 refine Ln Eb J fun _ Ea => ?_; clear J K' Eb
 refine M1 Ea 34 fun K' J ρ q34 => ?_; go_simp; (try clear q34)
 refine Ln Ea J fun _ Eb => ?_; clear J K' Ea
 refine M1 Eb 32 fun K' J ρ q32 => ?_; go_simp; (try clear q32)
 refine Ln Eb J fun _ Ea => ?_; clear J K' Eb
 refine M1 Ea 32 fun K' J ρ q32 => ?_; go_simp; (try clear q32)
 refine Ln Ea J fun _ Eb => ?_; clear J K' Ea
 refine M1 Eb 35 fun K' J ρ q35 => ?_; go_simp; (try clear q35)
 refine Ln Eb J fun _ Ea => ?_; clear J K' Eb
 refine M1 Ea 36 fun K' J ρ q36 => ?_; go_simp; (try clear q36)
 refine Ln Ea J fun _ Eb => ?_; clear J K' Ea
 refine late_done [1, 2, 5, 6, 7, 8] Eb hK (fun a hE => ?_); clear hK K Q' Eb; simp only [lk, pick, Nat.reduceEqDiff, ↓reduceIte] at hE
 have h14 := h13.trans (h4.mono h13.size)
 have hb4 := hbw1.trans (h14.mono hbw1.size)
 have c8 := (hCB.below h14).2 8 _ rfl
 have hT4 := hT2.below (h3.trans (h4.mono h3.size))
 refine Ks ?_
 refine Rs 21 fun Q' K hK => ?_
 refine M1 hE 6 fun K' J ρ q6 => ?_; go_simp; (try clear q6)
 refine Ln hE J fun _ Eb => ?_; clear J K' hE a
 refine M1 Eb 37 fun K' J ρ q37 => ?_; go_simp; (try go_bits); (try clear q37)
 refine Ln Eb J fun _ Ea => ?_; clear J K' Eb
 refine M1 Ea 38 fun K' J ρ q38 => ?_; go_simp; (try clear q38)
 refine Ln Ea J fun _ Eb => ?_; clear J K' Ea
 refine N1 Eb 39 8 fun K' J ρ q8 => ?_; go_simp; (try clear q8)
 refine Ln Eb J fun _ Ea => ?_; clear J K' Eb
 refine N1 Ea 39 40 fun K' J ρ q40 => ?_; go_simp; (try go_bits); (try clear q40)
 refine Ln Ea J fun _ Eb => ?_; clear J K' Ea
 refine M2 Eb 39 41 fun K' J ρ q39 q41 => ?_; go_simp; (try go_bits); (try clear q39 q41)
 refine Ln Eb J fun _ Ea => ?_; clear J K' Eb
 refine M1 Ea 42 fun K' J ρ q42 => ?_; go_simp; (try clear q42)
 refine Ln Ea J fun _ Eb => ?_; clear J K' Ea
 refine N1 Eb 43 5 fun K' J ρ q5 => ?_; go_simp; (try clear q5)
 refine Ln Eb J fun _ Ea => ?_; clear J K' Eb
 refine N1 Ea 43 2 fun K' J ρ q2 => ?_; go_simp; (try clear q2)
 refine Ln Ea J fun _ Eb => ?_; clear J K' Ea
 refine N1 Eb 43 45 fun K' J ρ q45 => ?_; go_simp; (try clear q45)
 refine Ln Eb J fun _ Ea => ?_; clear J K' Eb
 refine N1 Ea 43 46 fun K' J ρ q46 => ?_; go_simp; (try go_bits); (try clear q46)
 refine Ln Ea J fun _ Eb => ?_; clear J K' Ea
 refine N2 Eb 43 44 47 fun K' J ρ q44 q47 => ?_; go_simp; (try go_bits); (try clear q44 q47)
 go_at_call 37; refine (C4.out T c _ hT4).mono ?_; rintro e w5 ⟨rfl, h5⟩
 (try clear r44 r47)
 refine Ln Eb J fun _ Ea => ?_; clear J K' Eb
 refine N1 Ea 43 48 fun K' J ρ q48 => ?_; go_simp; (try go_bits); (try simp (disch := omega) only [IntWalk.i64_in]); (try clear q48)
 refine Ln Ea J fun _ Eb => ?_; clear J K' Ea
 refine M2 Eb 43 49 fun K' J ρ q43 q49 => ?_; go_simp; (try go_bits); (try clear q43 q49)
 refine Ln Eb J fun _ Ea => ?_; clear J K' Eb
 refine M1 Ea 50 fun K' J ρ q50 => ?_; go_simp; (try clear q50)
 refine Ln Ea J fun _ Eb => ?_; clear J K' Ea
 refine N1 Eb 51 5 fun K' J ρ q5 => ?_; go_simp; (try clear q5)
 refine Ln Eb J fun _ Ea => ?_; clear J K' Eb
 refine N1 Ea 51 52 fun K' J ρ q52 => ?_; go_simp; (try go_bits); (try clear q52)
 refine Ln Ea J fun _ Eb => ?_; clear J K' Ea
 refine N1 Eb 51 53 fun K' J ρ q53 => ?_; go_simp; (try go_bits); (try clear q53)
 refine Ln Eb J fun _ Ea => ?_; clear J K' Eb
 replace Ea := Ea.turn 54 (v' := .bool q) rfl (by (rw [← HQ.out]; congr 1; rw [Bool.eq_iff_iff, beq_iff_eq, decide_eq_true_eq]; omega))
 refine N1 Ea 51 7 fun K' J ρ q7 => ?_; go_simp; (try clear q7)
 refine Ln Ea J fun _ Eb => ?_; clear J K' Ea
 refine N2 Eb 51 54 55 fun K' J ρ q54 q55 => ?_; go_simp; (try go_bits); (try clear q54 q55)
 refine Ln Eb J fun _ Ea => ?_; clear J K' Eb
 replace Ea := Ea.turn 56 (v' := .bool false) rfl (by (cases q <;> rfl))
 refine M2 Ea 51 56 fun K' J ρ q51 q56 => ?_; go_simp; (try go_bits); (try clear q51 q56)
 refine Ln Ea J fun _ Eb => ?_; clear J K' Ea
 replace Eb := Eb.turn 57 (v' := .bool false) rfl (by (first | rfl | simp))
 refine late_done [1, 2, 5, 57] Eb hK (fun a hE => ?_); clear hK K Q' Eb; simp only [lk, pick, Nat.reduceEqDiff, ↓reduceIte] at hE
 have h15 := h14.trans (h5.mono h14.size)
 have hb5 := hbw1.trans (h15.mono hbw1.size)
 have hT5 := hT4.below h5
 clear c8
 refine Ks ?_
 refine cond_no hE (t := 57) rfl ?_
 refine Ks ?_
 refine Rs 9 fun Q' K hK => ?_
 refine Lp fun K' J => ?_
 have r2 := hE.at 2 rfl
 refine wp_load_mid 29 (.tmp 2) rfl B 0 (eval_of r2) (sbV H hcap S scap b) _ (fun j u hu => by rw [Nat.zero_add]; exact (hCB.below h15).2 j u hu) Tryd.underlying29 rfl (by kernel_rfl) ?_
 (try clear r2)
 refine Ln hE J fun _ Eb => ?_; clear J K' hE a
 refine M1 Eb 5 fun K' J ρ q5 => ?_; go_simp; (try clear q5)
 refine Ln Eb J fun _ Ea => ?_; clear J K' Eb
 refine M2 Ea 59 60 fun K' J ρ q59 q60 => ?_; go_simp; (try go_bits); (try clear q59 q60)
 go_at_call 50; refine (C5.out wl T c _ hwl6 (hM1.below h15) hT5).mono ?_; rintro e w6 ⟨⟨A', c', rfl, hM6⟩, h6'⟩
 (try clear r59 r60)
 refine Ln Ea J fun _ Eb => ?_; clear J K' Ea
 refine M1 Eb 61 fun K' J ρ q61 => ?_; go_simp; (try go_bits); (try clear q61)
 go_at_call 14; refine (C6.out wl true HR.out A' c' _ hM6).mono ?_; rintro e w7 ⟨rfl, h7⟩
 (try clear r61)
 refine Ln Eb J fun _ Ea => ?_; clear J K' Eb
 refine M1 Ea 62 fun K' J ρ q62 => ?_; go_simp; (try clear q62)
 refine Ln Ea J fun _ Eb => ?_; clear J K' Ea
 refine M1 Eb 58 fun K' J ρ q58 => ?_; go_simp; (try clear q58)
 refine Ln Eb J fun _ Ea => ?_; clear J K' Eb
 refine M1 Ea 58 fun K' J ρ q58 => ?_; go_simp; (try clear q58)
 refine Ln Ea J fun _ Eb => ?_; clear J K' Ea
 refine M1 Eb 63 fun K' J ρ q63 => ?_; go_simp; (try clear q63)
 refine Ln Eb J fun _ Ea => ?_; clear J K' Eb
 refine M1 Ea 64 fun K' J ρ q64 => ?_; go_simp; (try clear q64)
 refine Ln Ea J fun _ Eb => ?_; clear J K' Ea
 refine late_done [1, 2, 5, 9, 10] Eb hK (fun a hE => ?_); clear hK K Q' Eb; simp only [lk, pick, Nat.reduceEqDiff, ↓reduceIte] at hE
 have h57 := h6'.trans (h7.mono h6'.size)
 have h17 := h15.trans (h57.mono h15.size)
 have hb7 := hbw1.trans (h17.mono hbw1.size)
 have hT7 := hT5.below h57
 have c8 := (hCB.below h17).2 8 _ rfl
 have nB := (hCB.below h17).1
 refine Ks ?_
 refine Rs 6 fun Q' K hK => ?_
 refine M1 hE 10 fun K' J ρ q10 => ?_; go_simp; (try clear q10)
 refine Ln hE J fun _ Eb => ?_; clear J K' hE a
 refine M1 Eb 65 fun K' J ρ q65 => ?_; go_simp; (try go_bits); (try clear q65)
 refine Ln Eb J fun _ Ea => ?_; clear J K' Eb
 refine M1 Ea 66 fun K' J ρ q66 => ?_; go_simp; (try clear q66)
 refine Ln Ea J fun _ Eb => ?_; clear J K' Ea
 refine N1 Eb 67 9 fun K' J ρ q9 => ?_; go_simp; (try clear q9)
 refine Ln Eb J fun _ Ea => ?_; clear J K' Eb
 refine N1 Ea 67 68 fun K' J ρ q68 => ?_; go_simp; (try go_bits); (try simp (disch := omega) only [IntWalk.i64_in]); (try clear q68)
 refine Ln Ea J fun _ Eb => ?_; clear J K' Ea
 refine M2 Eb 67 69 fun K' J ρ q67 q69 => ?_; go_simp; (try go_bits); (try clear q67 q69)
 refine Ln Eb J fun _ Ea => ?_; clear J K' Eb
 replace Ea := Ea.turn 70 (v' := .bool false) rfl (by (first | rfl | simp))
 refine late_done [1, 2, 5, 70] Ea hK (fun a hE => ?_); clear hK K Q' Ea; simp only [lk, pick, Nat.reduceEqDiff, ↓reduceIte] at hE
 refine Ks ?_
 refine cond_no hE (t := 70) rfl ?_
 refine Ks ?_
 refine Rd [10] (fun wt => Below w7.heap.size w7 wt) (fun w1 w2 => Below w1.heap.size w1 w2) [(0, some 71), (1, some 72), (2, some 73), (3, some 74), (4, some 75), (5, some 76), (6, some 77), (7, some 78), (8, some 79), (9, some 80)] [71, 72, 73, 74, 75, 76, 77, 78, 79, 80] #[true, true, true, true, true, true, true, true, true, true, false] [2, 5, 11] hE ((Below.refl _ _).drew) fun Q' K hK => ?_
 refine SeqOps.val ?_ (Sp fun ax wx hS hT' hd K' J => ?_) ?_; rotate_left 1
 ·have r1 := hS.at 1 (by decide) (hE.at 1 rfl); obtain ⟨hcT, hfT, hlT, hmT, hwT, hzT⟩ := bT hT'
  refine o1 r1 fun ρ q1 => ?_; go_simp;
  exact Jo J hT'
 refine SeqOps.val ?_ (Sp fun ax wx hS hT' hd K' J => ?_) ?_; rotate_left 1
 ·have r2 := hS.at 2 (by decide) (hE.at 2 rfl); obtain ⟨hcT, hfT, hlT, hmT, hwT, hzT⟩ := bT hT'
  refine o1 r2 fun ρ q2 => ?_; go_simp;
  exact Jo J hT'
 refine SeqOps.val ?_ (Sp fun ax wx hS hT' hd K' J => ?_) ?_; rotate_left 1
 ·have r72 := Tv hd 0 1 72; obtain ⟨hcT, hfT, hlT, hmT, hwT, hzT⟩ := bT hT'
  refine o1 r72 fun ρ q72 => ?_; go_simp;
  exact Jo J hT'
 refine SeqOps.val ?_ (Sp fun ax wx hS hT' hd K' J => ?_) ?_; rotate_left 1
 ·have r73 := Tv hd 0 2 73; obtain ⟨hcT, hfT, hlT, hmT, hwT, hzT⟩ := bT hT'
  refine o1 r73 fun ρ q73 => ?_; go_simp; (try go_bits);
  exact Jo J hT'
 refine SeqOps.val ?_ (Sp fun ax wx hS hT' hd K' J => ?_) ?_; rotate_left 1
 ·have r74 := Tv hd 0 3 74; obtain ⟨hcT, hfT, hlT, hmT, hwT, hzT⟩ := bT hT'
  refine o1 r74 fun ρ q74 => ?_; go_simp; (try go_bits); (try simp (disch := omega) only [IntWalk.i64_in]);
  exact Jo J hT'
 refine SeqOps.val ?_ (Sp fun ax wx hS hT' hd K' J => ?_) ?_; rotate_left 1
 ·have r71 := Tv hd 4 0 71; have r75 := Tv hd 0 4 75; obtain ⟨hcT, hfT, hlT, hmT, hwT, hzT⟩ := bT hT'
  refine o2 r71 r75 fun ρ q71 q75 => ?_; go_simp; (try go_bits);
  go_at_call 40; refine (wind_any n _ HW64.out _).mono ?_; rw [HS.out]; rintro e g1 ⟨rfl, rfl⟩
  refine J.out _ _ _ rfl ?_ hT' (Below.refl _ _); rfl
 refine SeqOps.val ?_ (Sp fun ax wx hS hT' hd K' J => ?_) ?_; rotate_left 1
 ·have r2 := hS.at 2 (by decide) (hE.at 2 rfl); obtain ⟨hcT, hfT, hlT, hmT, hwT, hzT⟩ := bT hT'
  refine o1 r2 fun ρ q2 => ?_; go_simp;
  exact Jo J hT'
 refine SeqOps.val ?_ (Sp fun ax wx hS hT' hd K' J => ?_) ?_; rotate_left 1
 ·have r77 := Tv hd 0 6 77; obtain ⟨hcT, hfT, hlT, hmT, hwT, hzT⟩ := bT hT'
  refine o1 r77 fun ρ q77 => ?_; go_simp;
  exact Jo J hT'
 refine SeqOps.val ?_ (Sp fun ax wx hS hT' hd K' J => ?_) ?_; rotate_left 1
 ·have r78 := Tv hd 0 7 78; obtain ⟨hcT, hfT, hlT, hmT, hwT, hzT⟩ := bT hT'
  refine o1 r78 fun ρ q78 => ?_; go_simp; (try go_bits);
  exact Jo J hT'
 refine SeqOps.say (fun v wt => ∃ O oc, v = .slice O out.length oc ∧ ArrD wt O (nats out)) (fun _ _ _ hR ⟨O, oc, e, h⟩ => ⟨O, oc, e, h.below hR⟩) (Sp fun ax wx hS hT' hd K' J => ?_) ?_
 ·have r76 := Tv hd 3 5 76; have r79 := Tv hd 0 8 79; obtain ⟨hcT, hfT, hlT, hmT, hwT, hzT⟩ := bT hT'
  refine o2 r76 r79 fun ρ q76 q79 => ?_; go_simp; (try go_bits);
  go_at_call 51; refine (C8.out _).mono ?_; rintro e g1 ⟨⟨O, oc, rfl, hO⟩, k1⟩
  exact J.out _ _ _ rfl ⟨O, oc, rfl, hO⟩ (hT'.trans (k1.mono hT'.size)) k1
 refine SeqOps.nil ?_
 intro w8 hBl; (repeat refine Ek ?_); (refine fun v h => ?_; obtain ⟨O, oc, rfl, hO⟩ := h);
 refine fun alx hElx => ?_
 simp only [lk, pick, Nat.reduceEqDiff, ↓reduceIte] at hElx
 refine M1 hElx 80 fun K' J ρ q80 => ?_; go_simp; (try clear q80)
 refine Ln hElx J fun al_1 hEl_1 => ?_; clear J K' hElx
 refine late_done [2, 5, 11] hEl_1 hK (fun a hE => ?_); clear hK K Q' hEl_1; simp only [lk, pick, Nat.reduceEqDiff, ↓reduceIte] at hE
 have hbw8 := hb7.trans (hBl.mono hb7.size)
 have h18 := h17.trans (hBl.mono h17.size)
 have hb8 := hbw1.trans (h18.mono hbw1.size)
 have hT8 := hT7.below hBl
 clear c8 nB hT7 hT5 hT4 hT2
 by_cases g1 : wl.length < out.length
 ·have g1I : (wl.length : Int) < out.length := by omega
  refine Ks ?_
  refine Rs 18 fun Q' K hK => ?_
  refine M1 hE 11 fun K' J ρ q11 => ?_; go_simp; (try clear q11)
  refine Ln hE J fun _ Eb => ?_; clear J K' hE a
  refine M1 Eb 81 fun K' J ρ q81 => ?_; go_simp; (try go_bits); (try clear q81)
  refine Ln Eb J fun _ Ea => ?_; clear J K' Eb
  refine M1 Ea 5 fun K' J ρ q5 => ?_; go_simp; (try clear q5)
  refine Ln Ea J fun _ Eb => ?_; clear J K' Ea
  refine M1 Eb 83 fun K' J ρ q83 => ?_; go_simp; (try go_bits); (try clear q83)
  refine Ln Eb J fun _ Ea => ?_; clear J K' Eb
  refine M2 Ea 82 84 fun K' J ρ q82 q84 => ?_; go_simp; (try go_bits); (try clear q82 q84)
  refine Ln Ea J fun _ Eb => ?_; clear J K' Ea
  refine M1 Eb 85 fun K' J ρ q85 => ?_; go_simp; (try clear q85)
  refine Ln Eb J fun _ Ea => ?_; clear J K' Eb
  refine Lno Ea 86 ?_
  refine Lu Ea fun _ Eb => ?_
  refine Lno Eb 86 ?_
  refine Lu Eb fun _ Ea => ?_
  refine Lno Ea 86 ?_
  refine Lu Ea fun _ Eb => ?_
  refine Lno Eb 86 ?_
  refine Lu Eb fun _ Ea => ?_
  refine Lno Ea 86 ?_
  refine Lu Ea fun _ Eb => ?_
  refine Lno Eb 86 ?_
  refine Lu Eb fun _ Ea => ?_
  refine Lun Ea 92 ?_
  refine Lu Ea fun _ Eb => ?_
  refine Lun Eb 92 ?_
  refine Lu Eb fun _ Ea => ?_
  refine Lun Ea 92 ?_
  refine Lu Ea fun _ Eb => ?_
  refine Lun Eb 92 ?_
  refine Lu Eb fun _ Ea => ?_
  refine Lno Ea 86 ?_
  refine Lu Ea fun _ Eb => ?_
  refine M2 Eb 86 97 fun K' J ρ q86 q97 => ?_; go_simp; (try go_bits); (try clear q86 q97)
  refine Ln Eb J fun _ Ea => ?_; clear J K' Eb
  replace Ea := Ea.turn 98 (v' := .bool true) rfl (by (first | rfl | simp))
  refine late_done [2, 11, 98] Ea hK (fun a hE => ?_); clear hK K Q' Ea; simp only [lk, pick, Nat.reduceEqDiff, ↓reduceIte] at hE
  refine Ks ?_
  refine cond_yes hE (t := 98) rfl ?_
  refine Ks ?_
  refine Rs 2 fun Q' K hK => ?_
  refine M0 fun K' J ρ => ?_; go_simp; (try go_bits);
  go_at_call 22; refine (snowed_any _ (hTw.below hb8)).mono ?_; rintro e wc ⟨rfl, k9⟩
  refine Ln hE J fun _ Eb => ?_; clear J K' hE a
  refine M1 Eb 99 fun K' J ρ q99 => ?_; go_simp; (try clear q99)
  refine Ln Eb J fun _ Ea => ?_; clear J K' Eb
  refine late_done [4] Ea hK (fun a hE => ?_); clear hK K Q' Ea; simp only [lk, pick, Nat.reduceEqDiff, ↓reduceIte] at hE
  refine Ks ?_
  exact ret_one hE rfl rfl ⟨rfl, hb8.trans (k9.mono hb8.size)⟩
 ·have g1I : ¬ (wl.length : Int) < out.length := by omega
  by_cases g2 : out.length = wl.length
  ·have g2I : (out.length : Int) = wl.length := by omega
   obtain ⟨q2, hq2⟩ : ∃ q, lessN out wl = q := ⟨_, rfl⟩
   rw [hq2] at C9
   have HXq := hid hq2
   have HG2 := hid g2
   clear hq2 g2 g1
   refine Ks ?_
   refine Rs 18 fun Q' K hK => ?_
   refine M1 hE 11 fun K' J ρ q11 => ?_; go_simp; (try clear q11)
   refine Ln hE J fun _ Eb => ?_; clear J K' hE a
   refine M1 Eb 81 fun K' J ρ q81 => ?_; go_simp; (try go_bits); (try clear q81)
   refine Ln Eb J fun _ Ea => ?_; clear J K' Eb
   refine M1 Ea 5 fun K' J ρ q5 => ?_; go_simp; (try clear q5)
   refine Ln Ea J fun _ Eb => ?_; clear J K' Ea
   refine M1 Eb 83 fun K' J ρ q83 => ?_; go_simp; (try go_bits); (try clear q83)
   refine Ln Eb J fun _ Ea => ?_; clear J K' Eb
   refine M2 Ea 82 84 fun K' J ρ q82 q84 => ?_; go_simp; (try go_bits); (try clear q82 q84)
   refine Ln Ea J fun _ Eb => ?_; clear J K' Ea
   replace Eb := Eb.turn 85 (v' := .bool false) rfl (by (simp [g1I]))
   refine M1 Eb 85 fun K' J ρ q85 => ?_; go_simp; (try clear q85)
   refine Ln Eb J fun _ Ea => ?_; clear J K' Eb
   refine N1 Ea 86 11 fun K' J ρ q11 => ?_; go_simp; (try clear q11)
   refine Ln Ea J fun _ Eb => ?_; clear J K' Ea
   refine N1 Eb 86 87 fun K' J ρ q87 => ?_; go_simp; (try go_bits); (try clear q87)
   refine Ln Eb J fun _ Ea => ?_; clear J K' Eb
   refine N1 Ea 86 5 fun K' J ρ q5 => ?_; go_simp; (try clear q5)
   refine Ln Ea J fun _ Eb => ?_; clear J K' Ea
   refine N1 Eb 86 89 fun K' J ρ q89 => ?_; go_simp; (try go_bits); (try clear q89)
   refine Ln Eb J fun _ Ea => ?_; clear J K' Eb
   refine N2 Ea 86 88 90 fun K' J ρ q88 q90 => ?_; go_simp; (try go_bits); (try clear q88 q90)
   refine Ln Ea J fun _ Eb => ?_; clear J K' Ea
   replace Eb := Eb.turn 91 (v' := .bool true) rfl (by (simp [g2I]))
   refine N1 Eb 86 91 fun K' J ρ q91 => ?_; go_simp; (try clear q91)
   refine Ln Eb J fun _ Ea => ?_; clear J K' Eb
   refine N1 Ea 92 11 fun K' J ρ q11 => ?_; go_simp; (try clear q11)
   refine Ln Ea J fun _ Eb => ?_; clear J K' Ea
   refine N1 Eb 92 5 fun K' J ρ q5 => ?_; go_simp; (try clear q5)
   refine Ln Eb J fun _ Ea => ?_; clear J K' Eb
   refine N2 Ea 92 93 94 fun K' J ρ q93 q94 => ?_; go_simp; (try go_bits); (try clear q93 q94)
   go_at_call 52; refine (C9.out _ _ _ _ _ hO hT8).mono ?_; rintro e w9 ⟨rfl, h9⟩
   (try clear r93 r94)
   refine Ln Ea J fun _ Eb => ?_; clear J K' Ea
   refine N1 Eb 92 95 fun K' J ρ q95 => ?_; go_simp; (try go_bits); (try simp (disch := omega) only [IntWalk.i64_in]); (try clear q95)
   refine Ln Eb J fun _ Ea => ?_; clear J K' Eb
   refine N2 Ea 86 92 96 fun K' J ρ q92 q96 => ?_; go_simp; (try go_bits); (try clear q92 q96)
   refine Ln Ea J fun _ Eb => ?_; clear J K' Ea
   refine M2 Eb 86 97 fun K' J ρ q86 q97 => ?_; go_simp; (try go_bits); (try clear q86 q97)
   refine Ln Eb J fun _ Ea => ?_; clear J K' Eb
   refine late_done [2, 11, 98] Ea hK (fun a hE => ?_); clear hK K Q' Ea; simp only [lk, pick, Nat.reduceEqDiff, ↓reduceIte] at hE
   have h19 := h18.trans (h9.mono h18.size)
   have hb9 := hbw1.trans (h19.mono hbw1.size)
   have hO9 := hO.below h9
   cases hqv : q2
   ·rw [hqv] at hE
    refine Ks ?_
    refine cond_yes hE (t := 98) rfl ?_
    refine Ks ?_
    refine Rs 2 fun Q' K hK => ?_
    refine M0 fun K' J ρ => ?_; go_simp; (try go_bits);
    go_at_call 22; refine (snowed_any _ (hTw.below hb9)).mono ?_; rintro e wc ⟨rfl, k9⟩
    refine Ln hE J fun _ Eb => ?_; clear J K' hE a
    refine M1 Eb 99 fun K' J ρ q99 => ?_; go_simp; (try clear q99)
    refine Ln Eb J fun _ Ea => ?_; clear J K' Eb
    refine late_done [4] Ea hK (fun a hE => ?_); clear hK K Q' Ea; simp only [lk, pick, Nat.reduceEqDiff, ↓reduceIte] at hE
    refine Ks ?_
    exact ret_one hE rfl rfl ⟨rfl, hb9.trans (k9.mono hb9.size)⟩
   ·rw [hqv] at hE
    refine Ks ?_
    refine cond_no hE (t := 98) rfl ?_
    refine Ks ?_
    refine Rs 9 fun Q' K hK => ?_
    refine Lp fun K' J => ?_
    have r2 := hE.at 2 rfl
    refine wp_load_mid 29 (.tmp 2) rfl B 0 (eval_of r2) (sbV H hcap S scap b) _ (fun j u hu => by rw [Nat.zero_add]; exact (hCB.below h19).2 j u hu) Tryd.underlying29 rfl (by kernel_rfl) ?_
    (try clear r2)
    refine Ln hE J fun _ Eb => ?_; clear J K' hE a
    refine M1 Eb 11 fun K' J ρ q11 => ?_; go_simp; (try clear q11)
    refine Ln Eb J fun _ Ea => ?_; clear J K' Eb
    refine M2 Ea 101 102 fun K' J ρ q101 q102 => ?_; go_simp; (try go_bits); (try clear q101 q102)
    go_at_call 50; refine (C5.out out O oc _ hol6 (hM1.below h19) hO9).mono ?_; rintro e wa ⟨⟨A2, c2, rfl, hMa⟩, ka⟩
    (try clear r101 r102)
    refine Ln Ea J fun _ Eb => ?_; clear J K' Ea
    refine M1 Eb 103 fun K' J ρ q103 => ?_; go_simp; (try go_bits); (try clear q103)
    go_at_call 14; refine (C6.out out false (HX.out (.inr ⟨HG2.out, HXq.out.trans hqv⟩)) A2 c2 _ hMa).mono ?_; rintro e wb ⟨rfl, kb⟩
    (try clear r103)
    refine Ln Eb J fun _ Ea => ?_; clear J K' Eb
    refine M1 Ea 104 fun K' J ρ q104 => ?_; go_simp; (try clear q104)
    refine Ln Ea J fun _ Eb => ?_; clear J K' Ea
    refine M1 Eb 100 fun K' J ρ q100 => ?_; go_simp; (try clear q100)
    refine Ln Eb J fun _ Ea => ?_; clear J K' Eb
    refine M1 Ea 100 fun K' J ρ q100 => ?_; go_simp; (try clear q100)
    refine Ln Ea J fun _ Eb => ?_; clear J K' Ea
    refine M1 Eb 105 fun K' J ρ q105 => ?_; go_simp; (try clear q105)
    refine Ln Eb J fun _ Ea => ?_; clear J K' Eb
    refine M1 Ea 106 fun K' J ρ q106 => ?_; go_simp; (try clear q106)
    refine Ln Ea J fun _ Eb => ?_; clear J K' Ea
    refine late_done [12, 13] Eb hK (fun a hE => ?_); clear hK K Q' Eb; simp only [lk, pick, Nat.reduceEqDiff, ↓reduceIte] at hE
    have hbb := hb9.trans ((ka.trans (kb.mono ka.size)).mono hb9.size)
    refine Ks ?_
    refine Rs 10 fun Q' K hK => ?_
    refine M1 hE 13 fun K' J ρ q13 => ?_; go_simp; (try clear q13)
    refine Ln hE J fun _ Eb => ?_; clear J K' hE a
    refine M1 Eb 107 fun K' J ρ q107 => ?_; go_simp; (try go_bits); (try clear q107)
    refine Ln Eb J fun _ Ea => ?_; clear J K' Eb
    refine M1 Ea 108 fun K' J ρ q108 => ?_; go_simp; (try clear q108)
    refine Ln Ea J fun _ Eb => ?_; clear J K' Ea
    refine N1 Eb 109 12 fun K' J ρ q12 => ?_; go_simp; (try clear q12)
    refine Ln Eb J fun _ Ea => ?_; clear J K' Eb
    refine N1 Ea 109 110 fun K' J ρ q110 => ?_; go_simp; (try go_bits); (try simp (disch := omega) only [IntWalk.i64_in]); (try clear q110)
    refine Ln Ea J fun _ Eb => ?_; clear J K' Ea
    refine M2 Eb 109 111 fun K' J ρ q109 q111 => ?_; go_simp; (try go_bits); (try clear q109 q111)
    refine Ln Eb J fun _ Ea => ?_; clear J K' Eb
    refine M1 Ea 112 fun K' J ρ q112 => ?_; go_simp; (try clear q112)
    refine Ln Ea J fun _ Eb => ?_; clear J K' Ea
    refine Ly Eb 113 fun K' J => ?_
    refine o0 fun ρ => ?_; go_simp; (try go_bits);
    go_at_call 22; refine (snowed_any _ (hTw.below hbb)).mono ?_; rintro e wc ⟨rfl, k9⟩
    refine Ln Eb J fun _ Ea => ?_; clear J K' Eb
    refine M2 Ea 113 114 fun K' J ρ q113 q114 => ?_; go_simp; (try go_bits); (try clear q113 q114)
    refine Ln Ea J fun _ Eb => ?_; clear J K' Ea
    refine M1 Eb 115 fun K' J ρ q115 => ?_; go_simp; (try clear q115)
    refine Ln Eb J fun _ Ea => ?_; clear J K' Eb
    refine late_done [4] Ea hK (fun a hE => ?_); clear hK K Q' Ea; simp only [lk, pick, Nat.reduceEqDiff, ↓reduceIte] at hE
    refine Ks ?_
    exact ret_one hE rfl rfl ⟨rfl, hbb.trans (k9.mono hbb.size)⟩
  ·have g2I : ¬ (out.length : Int) = wl.length := by omega
   have HLT : Hid (out.length < wl.length) := hid (by omega)
   refine Ks ?_
   refine Rs 18 fun Q' K hK => ?_
   refine M1 hE 11 fun K' J ρ q11 => ?_; go_simp; (try clear q11)
   refine Ln hE J fun _ Eb => ?_; clear J K' hE a
   refine M1 Eb 81 fun K' J ρ q81 => ?_; go_simp; (try go_bits); (try clear q81)
   refine Ln Eb J fun _ Ea => ?_; clear J K' Eb
   refine M1 Ea 5 fun K' J ρ q5 => ?_; go_simp; (try clear q5)
   refine Ln Ea J fun _ Eb => ?_; clear J K' Ea
   refine M1 Eb 83 fun K' J ρ q83 => ?_; go_simp; (try go_bits); (try clear q83)
   refine Ln Eb J fun _ Ea => ?_; clear J K' Eb
   refine M2 Ea 82 84 fun K' J ρ q82 q84 => ?_; go_simp; (try go_bits); (try clear q82 q84)
   refine Ln Ea J fun _ Eb => ?_; clear J K' Ea
   replace Eb := Eb.turn 85 (v' := .bool false) rfl (by (simp [g1I]))
   refine M1 Eb 85 fun K' J ρ q85 => ?_; go_simp; (try clear q85)
   refine Ln Eb J fun _ Ea => ?_; clear J K' Eb
   refine N1 Ea 86 11 fun K' J ρ q11 => ?_; go_simp; (try clear q11)
   refine Ln Ea J fun _ Eb => ?_; clear J K' Ea
   refine N1 Eb 86 87 fun K' J ρ q87 => ?_; go_simp; (try go_bits); (try clear q87)
   refine Ln Eb J fun _ Ea => ?_; clear J K' Eb
   refine N1 Ea 86 5 fun K' J ρ q5 => ?_; go_simp; (try clear q5)
   refine Ln Ea J fun _ Eb => ?_; clear J K' Ea
   refine N1 Eb 86 89 fun K' J ρ q89 => ?_; go_simp; (try go_bits); (try clear q89)
   refine Ln Eb J fun _ Ea => ?_; clear J K' Eb
   refine N2 Ea 86 88 90 fun K' J ρ q88 q90 => ?_; go_simp; (try go_bits); (try clear q88 q90)
   refine Ln Ea J fun _ Eb => ?_; clear J K' Ea
   replace Eb := Eb.turn 91 (v' := .bool false) rfl (by (simp [g2I]))
   refine N1 Eb 86 91 fun K' J ρ q91 => ?_; go_simp; (try clear q91)
   refine Ln Eb J fun _ Ea => ?_; clear J K' Eb
   refine Lno Ea 92 ?_
   refine Lu Ea fun _ Eb => ?_
   refine Lno Eb 92 ?_
   refine Lu Eb fun _ Ea => ?_
   refine Lno Ea 92 ?_
   refine Lu Ea fun _ Eb => ?_
   refine Lno Eb 92 ?_
   refine Lu Eb fun _ Ea => ?_
   refine N2 Ea 86 92 96 fun K' J ρ q92 q96 => ?_; go_simp; (try go_bits); (try clear q92 q96)
   refine Ln Ea J fun _ Eb => ?_; clear J K' Ea
   refine M2 Eb 86 97 fun K' J ρ q86 q97 => ?_; go_simp; (try go_bits); (try clear q86 q97)
   refine Ln Eb J fun _ Ea => ?_; clear J K' Eb
   replace Ea := Ea.turn 98 (v' := .bool false) rfl (by (first | rfl | simp))
   refine late_done [2, 11, 98] Ea hK (fun a hE => ?_); clear hK K Q' Ea; simp only [lk, pick, Nat.reduceEqDiff, ↓reduceIte] at hE
   refine Ks ?_
   refine cond_no hE (t := 98) rfl ?_
   refine Ks ?_
   refine Rs 9 fun Q' K hK => ?_
   refine Lp fun K' J => ?_
   have r2 := hE.at 2 rfl
   refine wp_load_mid 29 (.tmp 2) rfl B 0 (eval_of r2) (sbV H hcap S scap b) _ (fun j u hu => by rw [Nat.zero_add]; exact (hCB.below h18).2 j u hu) Tryd.underlying29 rfl (by kernel_rfl) ?_
   (try clear r2)
   refine Ln hE J fun _ Eb => ?_; clear J K' hE a
   refine M1 Eb 11 fun K' J ρ q11 => ?_; go_simp; (try clear q11)
   refine Ln Eb J fun _ Ea => ?_; clear J K' Eb
   refine M2 Ea 101 102 fun K' J ρ q101 q102 => ?_; go_simp; (try go_bits); (try clear q101 q102)
   go_at_call 50; refine (C5.out out O oc _ hol6 (hM1.below h18) hO).mono ?_; rintro e wa ⟨⟨A2, c2, rfl, hMa⟩, ka⟩
   (try clear r101 r102)
   refine Ln Ea J fun _ Eb => ?_; clear J K' Ea
   refine M1 Eb 103 fun K' J ρ q103 => ?_; go_simp; (try go_bits); (try clear q103)
   go_at_call 14; refine (C6.out out false (HX.out (.inl HLT.out)) A2 c2 _ hMa).mono ?_; rintro e wb ⟨rfl, kb⟩
   (try clear r103)
   refine Ln Eb J fun _ Ea => ?_; clear J K' Eb
   refine M1 Ea 104 fun K' J ρ q104 => ?_; go_simp; (try clear q104)
   refine Ln Ea J fun _ Eb => ?_; clear J K' Ea
   refine M1 Eb 100 fun K' J ρ q100 => ?_; go_simp; (try clear q100)
   refine Ln Eb J fun _ Ea => ?_; clear J K' Eb
   refine M1 Ea 100 fun K' J ρ q100 => ?_; go_simp; (try clear q100)
   refine Ln Ea J fun _ Eb => ?_; clear J K' Ea
   refine M1 Eb 105 fun K' J ρ q105 => ?_; go_simp; (try clear q105)
   refine Ln Eb J fun _ Ea => ?_; clear J K' Eb
   refine M1 Ea 106 fun K' J ρ q106 => ?_; go_simp; (try clear q106)
   refine Ln Ea J fun _ Eb => ?_; clear J K' Ea
   refine late_done [12, 13] Eb hK (fun a hE => ?_); clear hK K Q' Eb; simp only [lk, pick, Nat.reduceEqDiff, ↓reduceIte] at hE
   have hbb := hb8.trans ((ka.trans (kb.mono ka.size)).mono hb8.size)
   refine Ks ?_
   refine Rs 10 fun Q' K hK => ?_
   refine M1 hE 13 fun K' J ρ q13 => ?_; go_simp; (try clear q13)
   refine Ln hE J fun _ Eb => ?_; clear J K' hE a
   refine M1 Eb 107 fun K' J ρ q107 => ?_; go_simp; (try go_bits); (try clear q107)
   refine Ln Eb J fun _ Ea => ?_; clear J K' Eb
   refine M1 Ea 108 fun K' J ρ q108 => ?_; go_simp; (try clear q108)
   refine Ln Ea J fun _ Eb => ?_; clear J K' Ea
   refine N1 Eb 109 12 fun K' J ρ q12 => ?_; go_simp; (try clear q12)
   refine Ln Eb J fun _ Ea => ?_; clear J K' Eb
   refine N1 Ea 109 110 fun K' J ρ q110 => ?_; go_simp; (try go_bits); (try simp (disch := omega) only [IntWalk.i64_in]); (try clear q110)
   refine Ln Ea J fun _ Eb => ?_; clear J K' Ea
   refine M2 Eb 109 111 fun K' J ρ q109 q111 => ?_; go_simp; (try go_bits); (try clear q109 q111)
   refine Ln Eb J fun _ Ea => ?_; clear J K' Eb
   refine M1 Ea 112 fun K' J ρ q112 => ?_; go_simp; (try clear q112)
   refine Ln Ea J fun _ Eb => ?_; clear J K' Ea
   refine Ly Eb 113 fun K' J => ?_
   refine o0 fun ρ => ?_; go_simp; (try go_bits);
   go_at_call 22; refine (snowed_any _ (hTw.below hbb)).mono ?_; rintro e wc ⟨rfl, k9⟩
   refine Ln Eb J fun _ Ea => ?_; clear J K' Eb
   refine M2 Ea 113 114 fun K' J ρ q113 q114 => ?_; go_simp; (try go_bits); (try clear q113 q114)
   refine Ln Ea J fun _ Eb => ?_; clear J K' Ea
   refine M1 Eb 115 fun K' J ρ q115 => ?_; go_simp; (try clear q115)
   refine Ln Eb J fun _ Ea => ?_; clear J K' Eb
   refine late_done [4] Ea hK (fun a hE => ?_); clear hK K Q' Ea; simp only [lk, pick, Nat.reduceEqDiff, ↓reduceIte] at hE
   refine Ks ?_
   exact ret_one hE rfl rfl ⟨rfl, hbb.trans (k9.mono hbb.size)⟩
theorem SlopeWrong_any (n : Int) (w : World) (hTw : TabW w) (hM : SbAt w H S b) (hh : b.hours.length ≤ 9223372036854775807) (hss : b.sights.length ≤ 9223372036854775807) : Calls Tryd.prog 12 #[.agg (sbV H hcap S scap b).toArray, .int .i64 n] w fun e w' => e = .returned (.bool true) ∧ Below w.heap.size w w' := by
 cases ho : b.ok
 ·exact wrong_bad H hcap S scap b ho n w hTw hM hh hss
 ·exact wrong_good H hcap S scap b (ok_iff.1 ho) n w hTw hM
end
end Go.Proofs.YtkhmcofmjjmjhaaDoor
