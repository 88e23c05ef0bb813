/- ClockKnown: the books that are none. -/
import Derived.Test.YtnkbcapikenbbaaW21
namespace Go.Proofs.Ytnkbcapikenbbaa
set_option linter.unusedSimpArgs false
set_option linter.unusedVariables false
open Go.RowKit Go.Shelf
attribute [local go_sem high] cell_set_wr
attribute [local go_sem low] cell_wr frozen_wr
attribute [local go_sem] wr_set wr_drew wr_drewN wr_alloc wr_new

set_option maxRecDepth 100000 in
set_option maxHeartbeats 4000000 in
theorem known_mid (w wr : World) (a : Act) (e : Env) (hE : Fits 542 e a) (hB : Below w.heap.size w wr) : (cr 8 (bodyOf Try.f13)).wp Try.prog (bodyPost Try.prog Try.f13 (fun e w' => e = .returned (.bool true) ∧ Below w.heap.size w w')) a wr := by
  refine wp_seq ?_; (repeat (first | (with_reducible refine wp_seq ?_) | (with_reducible refine wp_block ?_) | (with_reducible refine then_n ?_) | (with_reducible refine inBlock_n ?_) | (with_reducible refine then_ret ?_) | (with_reducible refine inBlock_ret ?_) | (with_reducible refine then_exit ?_) | (with_reducible refine inBlock_hit ?_) | (with_reducible refine inBlock_miss (by decide) ?_) | (with_reducible refine wp_ret ?_) | (with_reducible refine wp_exit ?_) | (with_reducible refine wp_skip ?_)))
  refine region_drawn [] (fun wt => Below wr.heap.size wr wt) (fun w1 w2 => Below w1.heap.size w1 w2) [(0, some 233), (1, some 234), (2, some 235), (3, some 236), (4, some 237), (5, some 238), (6, some 239), (7, some 240), (8, some 241), (9, some 242), (10, some 243), (11, some 244), (12, some 21)] [233, 234, 235, 236, 237, 238, 239, 240, 241, 242, 243, 244, 21] #[true, true, true, true, true, true, true, true, true, true, true, true, true] [] hE (by kernel_rfl) (by kernel_rfl) (by kernel_rfl) (by kernel_rfl) (by kernel_rfl) (by kernel_rfl) (by kernel_rfl) (by kernel_rfl) (by kernel_rfl) (by kernel_rfl) (by kernel_rfl) (by kernel_rfl) (by decide) ((Below.refl _ _).drew) (fun Q' K hK => ?_)
  refine SeqOps.say (fun v wt => ∃ G, v = .slice (some ⟨G, 0, none⟩) 7 7 ∧ Blk 0 G Z21 67 wt) (fun _ _ _ hR ⟨G, e, hG⟩ => ⟨G, e, hG.keep hR⟩) (StepOk.plain (by (first | (simp only [List.getElem?_toArray, List.getElem?_cons_succ, List.getElem?_cons_zero]; rfl) | rfl)) rfl (fun ax wx hS hT' hd K' hK' => ?_)) ?_
  · obtain ⟨hcT, hfT, hlT, hmT, hwT⟩ := bcell hT'; have hzT := hT'.size
    refine op_run (fun ρ hρ qc qf qg => ?_); clear hρ; go_simp; (try go_bits); (try clear ρ);
    exact hK'.out _ _ _ rfl ⟨_, rfl, blk_zero wx _ Z21 _ (by kernel_rfl) (Nat.zero_le _)⟩ (hT'.trans (((Below.refl _ _).alloc (Nat.le_refl _) _).mono hT'.size)) ((Below.refl _ _).alloc (Nat.le_refl _) _)
  refine SeqOps.val ?_ (StepOk.plain (by (first | (simp only [List.getElem?_toArray, List.getElem?_cons_succ, List.getElem?_cons_zero]; rfl) | rfl)) rfl (fun ax wx hS hT' hd K' hK' => ?_)) ?_; rotate_left 1
  · obtain ⟨hcT, hfT, hlT, hmT, hwT⟩ := bcell hT'; have hzT := hT'.size
    refine op_run (fun ρ hρ qc qf qg => ?_); clear hρ; go_simp; (try go_bits); (try clear ρ);
    refine hK'.out _ _ _ rfl ?_ hT' (Below.refl _ _); rfl
  refine SeqOps.say (fun v wt => ∃ G, v = .slice (some ⟨G, 0, none⟩) 1 1 ∧ Blk 0 G (LnC (-1) 0 0) 67 wt) (fun _ _ _ hR ⟨G, e, hG⟩ => ⟨G, e, hG.keep hR⟩) (StepOk.plain (by (first | (simp only [List.getElem?_toArray, List.getElem?_cons_succ, List.getElem?_cons_zero]; rfl) | rfl)) rfl (fun ax wx hS hT' hd K' hK' => ?_)) ?_
  · have r234 := told_val hd 0 (k := 1) (e := 234) rfl (by kernel_rfl) (by kernel_rfl); obtain ⟨hcT, hfT, hlT, hmT, hwT⟩ := bcell hT'; have hzT := hT'.size
    refine op_run (fun ρ hρ qc qf qg => ?_); have q234 := rho hρ r234; clear hρ; go_simp; (try go_bits); (try clear ρ);
    exact hK'.out _ _ _ rfl ⟨_, rfl, blk_zero wx _ (LnC (-1) 0 0) _ (by rfl) (Nat.zero_le _)⟩ (hT'.trans (((Below.refl _ _).alloc (Nat.le_refl _) _).mono hT'.size)) ((Below.refl _ _).alloc (Nat.le_refl _) _)
  refine SeqOps.val ?_ (StepOk.plain (by (first | (simp only [List.getElem?_toArray, List.getElem?_cons_succ, List.getElem?_cons_zero]; rfl) | rfl)) rfl (fun ax wx hS hT' hd K' hK' => ?_)) ?_; rotate_left 1
  · obtain ⟨hcT, hfT, hlT, hmT, hwT⟩ := bcell hT'; have hzT := hT'.size
    refine op_run (fun ρ hρ qc qf qg => ?_); clear hρ; go_simp; (try go_bits); (try clear ρ);
    refine hK'.out _ _ _ rfl ?_ hT' (Below.refl _ _); rfl
  refine SeqOps.say (fun v wt => ∃ G, v = .slice (some ⟨G, 0, none⟩) 1 1 ∧ Blk 0 G (LnC (8639) 0 0) 67 wt) (fun _ _ _ hR ⟨G, e, hG⟩ => ⟨G, e, hG.keep hR⟩) (StepOk.plain (by (first | (simp only [List.getElem?_toArray, List.getElem?_cons_succ, List.getElem?_cons_zero]; rfl) | rfl)) rfl (fun ax wx hS hT' hd K' hK' => ?_)) ?_
  · have r236 := told_val hd 0 (k := 3) (e := 236) rfl (by kernel_rfl) (by kernel_rfl); obtain ⟨hcT, hfT, hlT, hmT, hwT⟩ := bcell hT'; have hzT := hT'.size
    refine op_run (fun ρ hρ qc qf qg => ?_); have q236 := rho hρ r236; clear hρ; go_simp; (try go_bits); (try clear ρ);
    exact hK'.out _ _ _ rfl ⟨_, rfl, blk_zero wx _ (LnC (8639) 0 0) _ (by rfl) (Nat.zero_le _)⟩ (hT'.trans (((Below.refl _ _).alloc (Nat.le_refl _) _).mono hT'.size)) ((Below.refl _ _).alloc (Nat.le_refl _) _)
  refine SeqOps.val ?_ (StepOk.plain (by (first | (simp only [List.getElem?_toArray, List.getElem?_cons_succ, List.getElem?_cons_zero]; rfl) | rfl)) rfl (fun ax wx hS hT' hd K' hK' => ?_)) ?_; rotate_left 1
  · obtain ⟨hcT, hfT, hlT, hmT, hwT⟩ := bcell hT'; have hzT := hT'.size
    refine op_run (fun ρ hρ qc qf qg => ?_); clear hρ; go_simp; (try go_bits); (try clear ρ);
    go_at_call 41; refine (to_any _ _ _).mono ?_; rintro e w1 ⟨rfl, h1⟩
    refine hK'.out _ _ _ rfl ?_ (hT'.trans (h1.mono hT'.size)) h1; rfl
  refine SeqOps.val ?_ (StepOk.plain (by (first | (simp only [List.getElem?_toArray, List.getElem?_cons_succ, List.getElem?_cons_zero]; rfl) | rfl)) rfl (fun ax wx hS hT' hd K' hK' => ?_)) ?_; rotate_left 1
  · have r238 := told_val hd 0 (k := 5) (e := 238) rfl (by kernel_rfl) (by kernel_rfl); obtain ⟨hcT, hfT, hlT, hmT, hwT⟩ := bcell hT'; have hzT := hT'.size
    refine op_run (fun ρ hρ qc qf qg => ?_); have q238 := rho hρ r238; clear hρ; go_simp; (try go_bits); (try clear ρ);
    refine hK'.out _ _ _ rfl ?_ hT' (Below.refl _ _); rfl
  refine SeqOps.say (fun v wt => ∃ G, v = .slice (some ⟨G, 0, none⟩) 1 1 ∧ Blk 0 G (LnC (0) 1 0) 67 wt) (fun _ _ _ hR ⟨G, e, hG⟩ => ⟨G, e, hG.keep hR⟩) (StepOk.plain (by (first | (simp only [List.getElem?_toArray, List.getElem?_cons_succ, List.getElem?_cons_zero]; rfl) | rfl)) rfl (fun ax wx hS hT' hd K' hK' => ?_)) ?_
  · have r239 := told_val hd 0 (k := 6) (e := 239) rfl (by kernel_rfl) (by kernel_rfl); obtain ⟨hcT, hfT, hlT, hmT, hwT⟩ := bcell hT'; have hzT := hT'.size
    refine op_run (fun ρ hρ qc qf qg => ?_); have q239 := rho hρ r239; clear hρ; go_simp; (try go_bits); (try clear ρ);
    exact hK'.out _ _ _ rfl ⟨_, rfl, blk_zero wx _ (LnC (0) 1 0) _ (by rfl) (Nat.zero_le _)⟩ (hT'.trans (((Below.refl _ _).alloc (Nat.le_refl _) _).mono hT'.size)) ((Below.refl _ _).alloc (Nat.le_refl _) _)
  refine SeqOps.val ?_ (StepOk.plain (by (first | (simp only [List.getElem?_toArray, List.getElem?_cons_succ, List.getElem?_cons_zero]; rfl) | rfl)) rfl (fun ax wx hS hT' hd K' hK' => ?_)) ?_; rotate_left 1
  · obtain ⟨hcT, hfT, hlT, hmT, hwT⟩ := bcell hT'; have hzT := hT'.size
    refine op_run (fun ρ hρ qc qf qg => ?_); clear hρ; go_simp; (try go_bits); (try clear ρ);
    go_at_call 41; refine (to_any _ _ _).mono ?_; rintro e w1 ⟨rfl, h1⟩
    refine hK'.out _ _ _ rfl ?_ (hT'.trans (h1.mono hT'.size)) h1; rfl
  refine SeqOps.val ?_ (StepOk.plain (by (first | (simp only [List.getElem?_toArray, List.getElem?_cons_succ, List.getElem?_cons_zero]; rfl) | rfl)) rfl (fun ax wx hS hT' hd K' hK' => ?_)) ?_; rotate_left 1
  · have r241 := told_val hd 0 (k := 8) (e := 241) rfl (by kernel_rfl) (by kernel_rfl); obtain ⟨hcT, hfT, hlT, hmT, hwT⟩ := bcell hT'; have hzT := hT'.size
    refine op_run (fun ρ hρ qc qf qg => ?_); have q241 := rho hρ r241; clear hρ; go_simp; (try go_bits); (try clear ρ);
    refine hK'.out _ _ _ rfl ?_ hT' (Below.refl _ _); rfl
  refine SeqOps.say (fun v wt => ∃ G, v = .slice (some ⟨G, 0, none⟩) 1 1 ∧ Blk 0 G (LnC (0) 0 4320) 67 wt) (fun _ _ _ hR ⟨G, e, hG⟩ => ⟨G, e, hG.keep hR⟩) (StepOk.plain (by (first | (simp only [List.getElem?_toArray, List.getElem?_cons_succ, List.getElem?_cons_zero]; rfl) | rfl)) rfl (fun ax wx hS hT' hd K' hK' => ?_)) ?_
  · have r242 := told_val hd 0 (k := 9) (e := 242) rfl (by kernel_rfl) (by kernel_rfl); obtain ⟨hcT, hfT, hlT, hmT, hwT⟩ := bcell hT'; have hzT := hT'.size
    refine op_run (fun ρ hρ qc qf qg => ?_); have q242 := rho hρ r242; clear hρ; go_simp; (try go_bits); (try clear ρ);
    exact hK'.out _ _ _ rfl ⟨_, rfl, blk_zero wx _ (LnC (0) 0 4320) _ (by rfl) (Nat.zero_le _)⟩ (hT'.trans (((Below.refl _ _).alloc (Nat.le_refl _) _).mono hT'.size)) ((Below.refl _ _).alloc (Nat.le_refl _) _)
  refine SeqOps.say (fun v wt => ∃ V, v = .slice (some ⟨V, 0, none⟩) 5 5 ∧ No1 V wt) (fun _ _ _ hR ⟨V, e, hV⟩ => ⟨V, e, hV.keep hR⟩) (StepOk.plain (by (first | (simp only [List.getElem?_toArray, List.getElem?_cons_succ, List.getElem?_cons_zero]; rfl) | rfl)) rfl (fun ax wx hS hT' hd K' hK' => ?_)) ?_
  · obtain ⟨v233, r233, h233⟩ := told_get hd 10 (k := 0) (e := 233) rfl (by kernel_rfl) (by kernel_rfl); obtain ⟨G0, rfl, hG0⟩ := h233; obtain ⟨v235, r235, h235⟩ := told_get hd 8 (k := 2) (e := 235) rfl (by kernel_rfl) (by kernel_rfl); obtain ⟨G2, rfl, hG2⟩ := h235; obtain ⟨v237, r237, h237⟩ := told_get hd 6 (k := 4) (e := 237) rfl (by kernel_rfl) (by kernel_rfl); obtain ⟨G4, rfl, hG4⟩ := h237; obtain ⟨v240, r240, h240⟩ := told_get hd 3 (k := 7) (e := 240) rfl (by kernel_rfl) (by kernel_rfl); obtain ⟨G7, rfl, hG7⟩ := h240; obtain ⟨v243, r243, h243⟩ := told_get hd 0 (k := 10) (e := 243) rfl (by kernel_rfl) (by kernel_rfl); obtain ⟨G10, rfl, hG10⟩ := h243; obtain ⟨hcT, hfT, hlT, hmT, hwT⟩ := bcell hT'; have hzT := hT'.size
    refine op_run (fun ρ hρ qc qf qg => ?_); have q233 := rho hρ r233; have q235 := rho hρ r235; have q237 := rho hρ r237; have q240 := rho hρ r240; have q243 := rho hρ r243; clear hρ; go_simp; (try go_bits); (try clear ρ);
    refine hK'.out _ _ _ rfl ⟨_, rfl, G0, G2, G4, G7, G10, blk_new wx _ _ (Nat.zero_le _), hG0.keep ((Below.refl _ _).alloc (Nat.le_refl _) _), hG2.keep ((Below.refl _ _).alloc (Nat.le_refl _) _), hG4.keep ((Below.refl _ _).alloc (Nat.le_refl _) _), hG7.keep ((Below.refl _ _).alloc (Nat.le_refl _) _), hG10.keep ((Below.refl _ _).alloc (Nat.le_refl _) _)⟩ (hT'.trans (((Below.refl _ _).alloc (Nat.le_refl _) _).mono hT'.size)) ((Below.refl _ _).alloc (Nat.le_refl _) _)
  refine SeqOps.say (fun v wt => ∃ V, v = .slice (some ⟨V, 0, none⟩) 5 5 ∧ No1 V wt) (fun _ _ _ hR ⟨V, e, hV⟩ => ⟨V, e, hV.keep hR⟩) (StepOk.plain (by (first | (simp only [List.getElem?_toArray, List.getElem?_cons_succ, List.getElem?_cons_zero]; rfl) | rfl)) rfl (fun ax wx hS hT' hd K' hK' => ?_)) ?_
  · obtain ⟨v244, r244, h244⟩ := told_get hd 0 (k := 11) (e := 244) rfl (by kernel_rfl) (by kernel_rfl); obtain ⟨V, rfl, hV⟩ := h244; obtain ⟨hcT, hfT, hlT, hmT, hwT⟩ := bcell hT'; have hzT := hT'.size
    refine op_run (fun ρ hρ qc qf qg => ?_); have q244 := rho hρ r244; clear hρ; go_simp; (try go_bits); (try clear ρ);
    exact hK'.out _ _ _ rfl ⟨V, rfl, hV⟩ hT' (Below.refl _ _)
  refine SeqOps.nil ?_
  intro wd hBl; (refine fun v h => ?_; obtain ⟨G0, rfl, hG0⟩ := h); (refine fun v h => ?_; obtain rfl := h); (refine fun v h => ?_; obtain ⟨G2, rfl, hG2⟩ := h); (refine fun v h => ?_; obtain rfl := h); (refine fun v h => ?_; obtain ⟨G4, rfl, hG4⟩ := h); (refine fun v h => ?_; obtain rfl := h); (refine fun v h => ?_; obtain rfl := h); (refine fun v h => ?_; obtain ⟨G7, rfl, hG7⟩ := h); (refine fun v h => ?_; obtain rfl := h); (refine fun v h => ?_; obtain rfl := h); (refine fun v h => ?_; obtain ⟨G10, rfl, hG10⟩ := h); (refine fun v h => ?_; obtain ⟨V, rfl, hV⟩ := h); (refine fun v h => ?_; obtain ⟨V, rfl, hV⟩ := h);
  refine fun ax hEx => ?_
  simp only [lk, pick, Nat.reduceEqDiff, ↓reduceIte] at hEx
  refine late_done [21] hEx hK (fun a hE => ?_); clear hK K Q' hEx; simp only [lk, pick, Nat.reduceEqDiff, ↓reduceIte] at hE
  have hBd := hB.trans (hBl.mono hB.size)
  clear hB hBl
  have hB := hBd
  clear hBd
  (repeat (first | (with_reducible refine wp_seq ?_) | (with_reducible refine wp_block ?_) | (with_reducible refine then_n ?_) | (with_reducible refine inBlock_n ?_) | (with_reducible refine then_ret ?_) | (with_reducible refine inBlock_ret ?_) | (with_reducible refine then_exit ?_) | (with_reducible refine inBlock_hit ?_) | (with_reducible refine inBlock_miss (by decide) ?_) | (with_reducible refine wp_ret ?_) | (with_reducible refine wp_exit ?_) | (with_reducible refine wp_skip ?_)))
  refine region_straight (m := 1) rfl (fun Q' K hK => ?_)
  refine Late.plain (by (first | (simp only [List.getElem?_toArray, List.getElem?_cons_succ, List.getElem?_cons_zero]; rfl) | rfl)) rfl (fun K' hK' => ?_)
  refine op_run (fun ρ hρ qc qf qg => ?_); clear hρ; go_simp; (try go_bits); (try clear ρ); (try clear qc qf qg)
  refine late_next hE (by decide) hK' (fun a_1 hE_1 => ?_); clear hK' K'; clear hE a
  refine late_done [21, 22] hE_1 hK (fun a hE => ?_); clear hK K Q' hE_1; simp only [lk, pick, Nat.reduceEqDiff, ↓reduceIte] at hE
  (repeat (first | (with_reducible refine wp_seq ?_) | (with_reducible refine wp_block ?_) | (with_reducible refine then_n ?_) | (with_reducible refine inBlock_n ?_) | (with_reducible refine then_ret ?_) | (with_reducible refine inBlock_ret ?_) | (with_reducible refine then_exit ?_) | (with_reducible refine inBlock_hit ?_) | (with_reducible refine inBlock_miss (by decide) ?_) | (with_reducible refine wp_ret ?_) | (with_reducible refine wp_exit ?_) | (with_reducible refine wp_skip ?_)))
  refine loop_st (fun (i : Nat) a wr => i ≤ 5 ∧ Fits 542 [(21, .slice (some ⟨V, 0, none⟩) 5 5), (22, .int .i64 i)] a ∧ No1 V wr ∧ Below w.heap.size w wr) (fun i => 5 - i) 0 ?_ (fun i a wr hI => ?_)
  · exact ⟨Nat.zero_le _, by simpa using hE, hV, hB⟩
  clear hE hV hB
  obtain ⟨hi, hE, hV, hB⟩ := hI
  (repeat (first | (with_reducible refine wp_seq ?_) | (with_reducible refine wp_block ?_) | (with_reducible refine then_n ?_) | (with_reducible refine inBlock_n ?_) | (with_reducible refine then_ret ?_) | (with_reducible refine inBlock_ret ?_) | (with_reducible refine then_exit ?_) | (with_reducible refine inBlock_hit ?_) | (with_reducible refine inBlock_miss (by decide) ?_) | (with_reducible refine wp_ret ?_) | (with_reducible refine wp_exit ?_) | (with_reducible refine wp_skip ?_)))
  refine region_straight (m := 4) rfl (fun Q' K hK => ?_)
  refine Late.plain (by (first | (simp only [List.getElem?_toArray, List.getElem?_cons_succ, List.getElem?_cons_zero]; rfl) | rfl)) rfl (fun K' hK' => ?_)
  have r22 := hE.at 22 rfl
  refine op_run (fun ρ hρ qc qf qg => ?_); have q22 := rho hρ r22; clear hρ; go_simp; (try go_bits); (try clear ρ); (try clear qc qf qg r22 q22)
  refine late_next hE (by decide) hK' (fun a_1 hE_1 => ?_); clear hK' K'; clear hE a
  refine Late.plain (by (first | (simp only [List.getElem?_toArray, List.getElem?_cons_succ, List.getElem?_cons_zero]; rfl) | rfl)) rfl (fun K' hK' => ?_)
  have r21 := hE_1.at 21 rfl
  refine op_run (fun ρ hρ qc qf qg => ?_); have q21 := rho hρ r21; clear hρ; go_simp; (try go_bits); (try clear ρ); (try clear qc qf qg r21 q21)
  refine late_next hE_1 (by decide) hK' (fun a_2 hE_2 => ?_); clear hK' K'; clear hE_1
  refine Late.plain (by (first | (simp only [List.getElem?_toArray, List.getElem?_cons_succ, List.getElem?_cons_zero]; rfl) | rfl)) rfl (fun K' hK' => ?_)
  have r246 := hE_2.at 246 rfl
  refine op_run (fun ρ hρ qc qf qg => ?_); have q246 := rho hρ r246; clear hρ; go_simp; (try go_bits); (try clear ρ); (try clear qc qf qg r246 q246)
  refine late_next hE_2 (by decide) hK' (fun a_3 hE_3 => ?_); clear hK' K'; clear hE_2
  refine Late.plain (by (first | (simp only [List.getElem?_toArray, List.getElem?_cons_succ, List.getElem?_cons_zero]; rfl) | rfl)) rfl (fun K' hK' => ?_)
  have r245 := hE_3.at 245 rfl; have r247 := hE_3.at 247 rfl
  refine op_run (fun ρ hρ qc qf qg => ?_); have q245 := rho hρ r245; have q247 := rho hρ r247; clear hρ; go_simp; (try go_bits); (try clear ρ); (try clear qc qf qg r245 q245 r247 q247)
  refine late_next hE_3 (by decide) hK' (fun a_4 hE_4 => ?_); clear hK' K'; clear hE_3
  refine late_done [21, 22, 248] hE_4 hK (fun a hE => ?_); clear hK K Q' hE_4; simp only [lk, pick, Nat.reduceEqDiff, ↓reduceIte] at hE
  (repeat (first | (with_reducible refine wp_seq ?_) | (with_reducible refine wp_block ?_) | (with_reducible refine then_n ?_) | (with_reducible refine inBlock_n ?_) | (with_reducible refine then_ret ?_) | (with_reducible refine inBlock_ret ?_) | (with_reducible refine then_exit ?_) | (with_reducible refine inBlock_hit ?_) | (with_reducible refine inBlock_miss (by decide) ?_) | (with_reducible refine wp_ret ?_) | (with_reducible refine wp_exit ?_) | (with_reducible refine wp_skip ?_)))
  refine cond_part hE (t := 248) rfl (fun h => ?_) (fun h => ?_)
  · have hlt : i < 5 := by have := of_decide_eq_true h; omega
    have hltI : (i : Int) < 5 := by omega
    clear h
    obtain ⟨nV, hVi⟩ := no_at hV
    obtain ⟨A, n, cap, ls, c0, hll, hn, hA, hNo⟩ := hVi i hlt
    have HO := hid hNo
    have HL := hid hll
    clear hNo hll hVi
    have hBc : Below wr.heap.size wr wr := Below.refl _ _
    (repeat (first | (with_reducible refine wp_seq ?_) | (with_reducible refine wp_block ?_) | (with_reducible refine then_n ?_) | (with_reducible refine inBlock_n ?_) | (with_reducible refine then_ret ?_) | (with_reducible refine inBlock_ret ?_) | (with_reducible refine then_exit ?_) | (with_reducible refine inBlock_hit ?_) | (with_reducible refine inBlock_miss (by decide) ?_) | (with_reducible refine wp_ret ?_) | (with_reducible refine wp_exit ?_) | (with_reducible refine wp_skip ?_)))
    refine region_drawn [] (fun wt => Below wr.heap.size wr wt) (fun w1 w2 => Below w1.heap.size w1 w2) [(0, some 252), (1, some 253), (2, some 254), (3, some 255), (4, some 256), (5, some 257), (6, some 251), (7, some 258), (8, some 259), (9, some 23), (10, some 24)] [252, 253, 254, 255, 256, 257, 251, 258, 259, 23, 24] #[true, true, true, true, true, true, true, true, true, true, true] [21, 22] hE (by kernel_rfl) (by kernel_rfl) (by kernel_rfl) (by kernel_rfl) (by kernel_rfl) (by kernel_rfl) (by kernel_rfl) (by kernel_rfl) (by kernel_rfl) (by kernel_rfl) (by kernel_rfl) (by kernel_rfl) (by decide) (hBc.drew) (fun Q' K hK => ?_)
    refine SeqOps.say (fun v wt => ∃ G, v = .agg #[.int .i64 100, .slice (some ⟨G, 0, none⟩) 2 2] ∧ Blk 0 G FC 69 wt) (fun _ _ _ hR ⟨G, e, hG⟩ => ⟨G, e, hG.keep hR⟩) (StepOk.plain (by (first | (simp only [List.getElem?_toArray, List.getElem?_cons_succ, List.getElem?_cons_zero]; rfl) | rfl)) rfl (fun ax wx hS hT' hd K' hK' => ?_)) ?_
    · obtain ⟨hcT, hfT, hlT, hmT, hwT⟩ := bcell hT'; have hzT := hT'.size
      refine op_run (fun ρ hρ qc qf qg => ?_); clear hρ; go_simp; (try go_bits); (try clear ρ);
      go_at_call 53; refine (frosty_new _).mono ?_; rintro e w1 ⟨⟨G, rfl, hG⟩, h1⟩
      exact hK'.out _ _ _ rfl ⟨G, rfl, hG.more (Nat.zero_le _)⟩ (hT'.trans (h1.mono hT'.size)) h1
    refine SeqOps.val ?_ (StepOk.plain (by (first | (simp only [List.getElem?_toArray, List.getElem?_cons_succ, List.getElem?_cons_zero]; rfl) | rfl)) rfl (fun ax wx hS hT' hd K' hK' => ?_)) ?_; rotate_left 1
    · have r21 := hS.at 21 (by decide) (hE.at 21 rfl); obtain ⟨hcT, hfT, hlT, hmT, hwT⟩ := bcell hT'; have hzT := hT'.size
      refine op_run (fun ρ hρ qc qf qg => ?_); have q21 := rho hρ r21; clear hρ; go_simp; (try go_bits); (try clear ρ);
      refine hK'.out _ _ _ rfl ?_ hT' (Below.refl _ _); rfl
    refine SeqOps.val ?_ (StepOk.plain (by (first | (simp only [List.getElem?_toArray, List.getElem?_cons_succ, List.getElem?_cons_zero]; rfl) | rfl)) rfl (fun ax wx hS hT' hd K' hK' => ?_)) ?_; rotate_left 1
    · have r22 := hS.at 22 (by decide) (hE.at 22 rfl); obtain ⟨hcT, hfT, hlT, hmT, hwT⟩ := bcell hT'; have hzT := hT'.size
      refine op_run (fun ρ hρ qc qf qg => ?_); have q22 := rho hρ r22; clear hρ; go_simp; (try go_bits); (try clear ρ);
      refine hK'.out _ _ _ rfl ?_ hT' (Below.refl _ _); rfl
    refine SeqOps.val ?_ (StepOk.plain (by (first | (simp only [List.getElem?_toArray, List.getElem?_cons_succ, List.getElem?_cons_zero]; rfl) | rfl)) rfl (fun ax wx hS hT' hd K' hK' => ?_)) ?_; rotate_left 1
    · have r253 := told_val hd 1 (k := 1) (e := 253) rfl (by kernel_rfl) (by kernel_rfl); have r254 := told_val hd 0 (k := 2) (e := 254) rfl (by kernel_rfl) (by kernel_rfl); obtain ⟨hcT, hfT, hlT, hmT, hwT⟩ := bcell hT'; have hzT := hT'.size
      refine op_run (fun ρ hρ qc qf qg => ?_); have q253 := rho hρ r253; have q254 := rho hρ r254; clear hρ; go_simp; (try go_bits); (try clear ρ);
      refine hK'.out _ _ _ rfl ?_ hT' (Below.refl _ _); rfl
    refine SeqOps.val ?_ (StepOk.plain (by (first | (simp only [List.getElem?_toArray, List.getElem?_cons_succ, List.getElem?_cons_zero]; rfl) | rfl)) rfl (fun ax wx hS hT' hd K' hK' => ?_)) ?_; rotate_left 1
    · have r255 := told_val hd 0 (k := 3) (e := 255) rfl (by kernel_rfl) (by kernel_rfl); obtain ⟨hcT, hfT, hlT, hmT, hwT⟩ := bcell hT'; have hzT := hT'.size
      refine op_run (fun ρ hρ qc qf qg => ?_); have q255 := rho hρ r255; clear hρ; go_simp; (try go_bits); (try clear ρ);
      refine hK'.out _ _ _ rfl ?_ hT' (Below.refl _ _); rfl
    refine SeqOps.val ?_ (StepOk.plain (by (first | (simp only [List.getElem?_toArray, List.getElem?_cons_succ, List.getElem?_cons_zero]; rfl) | rfl)) rfl (fun ax wx hS hT' hd K' hK' => ?_)) ?_; rotate_left 1
    · obtain ⟨v252, r252, h252⟩ := told_get hd 4 (k := 0) (e := 252) rfl (by kernel_rfl) (by kernel_rfl); obtain ⟨G, rfl, hG⟩ := h252; have r256 := told_val hd 0 (k := 4) (e := 256) rfl (by kernel_rfl) (by kernel_rfl); obtain ⟨hcT, hfT, hlT, hmT, hwT⟩ := bcell hT'; have hzT := hT'.size
      refine op_run (fun ρ hρ qc qf qg => ?_); have q252 := rho hρ r252; have q256 := rho hρ r256; clear hρ; go_simp; (try go_bits); (try clear ρ);
      go_at_call 25; refine (kRight (no_right frosty_ok HO.out) rfl HL.out (by omega) _ (hG.arr frL_cells) ((hA.below hT').more hT'.size)).mono ?_; rintro e w1 ⟨rfl, h1⟩
      refine hK'.out _ _ _ rfl ?_ (hT'.trans (h1.mono hT'.size)) h1; rfl
    refine SeqOps.val ?_ (StepOk.plain (by (first | (simp only [List.getElem?_toArray, List.getElem?_cons_succ, List.getElem?_cons_zero]; rfl) | rfl)) rfl (fun ax wx hS hT' hd K' hK' => ?_)) ?_; rotate_left 1
    · have r257 := told_val hd 0 (k := 5) (e := 257) rfl (by kernel_rfl) (by kernel_rfl); obtain ⟨hcT, hfT, hlT, hmT, hwT⟩ := bcell hT'; have hzT := hT'.size
      refine op_run (fun ρ hρ qc qf qg => ?_); have q257 := rho hρ r257; clear hρ; go_simp; (try go_bits); (try clear ρ);
      refine hK'.out _ _ _ rfl ?_ hT' (Below.refl _ _); rfl
    refine SeqOps.val ?_ (StepOk.plain (by (first | (simp only [List.getElem?_toArray, List.getElem?_cons_succ, List.getElem?_cons_zero]; rfl) | rfl)) rfl (fun ax wx hS hT' hd K' hK' => ?_)) ?_; rotate_left 1
    · have r251 := told_val hd 0 (k := 6) (e := 251) rfl (by kernel_rfl) (by kernel_rfl); obtain ⟨hcT, hfT, hlT, hmT, hwT⟩ := bcell hT'; have hzT := hT'.size
      refine op_run (fun ρ hρ qc qf qg => ?_); have q251 := rho hρ r251; clear hρ; go_simp; (try go_bits); (try clear ρ);
      refine hK'.out _ _ _ rfl ?_ hT' (Below.refl _ _); rfl
    refine SeqOps.val ?_ (StepOk.plain (by (first | (simp only [List.getElem?_toArray, List.getElem?_cons_succ, List.getElem?_cons_zero]; rfl) | rfl)) rfl (fun ax wx hS hT' hd K' hK' => ?_)) ?_; rotate_left 1
    · have r251 := told_val hd 1 (k := 6) (e := 251) rfl (by kernel_rfl) (by kernel_rfl); obtain ⟨hcT, hfT, hlT, hmT, hwT⟩ := bcell hT'; have hzT := hT'.size
      refine op_run (fun ρ hρ qc qf qg => ?_); have q251 := rho hρ r251; clear hρ; go_simp; (try go_bits); (try clear ρ);
      refine hK'.out _ _ _ rfl ?_ hT' (Below.refl _ _); rfl
    refine SeqOps.val ?_ (StepOk.plain (by (first | (simp only [List.getElem?_toArray, List.getElem?_cons_succ, List.getElem?_cons_zero]; rfl) | rfl)) rfl (fun ax wx hS hT' hd K' hK' => ?_)) ?_; rotate_left 1
    · have r258 := told_val hd 1 (k := 7) (e := 258) rfl (by kernel_rfl) (by kernel_rfl); obtain ⟨hcT, hfT, hlT, hmT, hwT⟩ := bcell hT'; have hzT := hT'.size
      refine op_run (fun ρ hρ qc qf qg => ?_); have q258 := rho hρ r258; clear hρ; go_simp; (try go_bits); (try clear ρ);
      refine hK'.out _ _ _ rfl ?_ hT' (Below.refl _ _); rfl
    refine SeqOps.val ?_ (StepOk.plain (by (first | (simp only [List.getElem?_toArray, List.getElem?_cons_succ, List.getElem?_cons_zero]; rfl) | rfl)) rfl (fun ax wx hS hT' hd K' hK' => ?_)) ?_; rotate_left 1
    · have r259 := told_val hd 1 (k := 8) (e := 259) rfl (by kernel_rfl) (by kernel_rfl); obtain ⟨hcT, hfT, hlT, hmT, hwT⟩ := bcell hT'; have hzT := hT'.size
      refine op_run (fun ρ hρ qc qf qg => ?_); have q259 := rho hρ r259; clear hρ; go_simp; (try go_bits); (try clear ρ);
      refine hK'.out _ _ _ rfl ?_ hT' (Below.refl _ _); rfl
    refine SeqOps.nil ?_
    intro w25 hBl; (refine fun v h => ?_; obtain ⟨G, rfl, hG⟩ := h); (refine fun v h => ?_; obtain rfl := h); (refine fun v h => ?_; obtain rfl := h); (refine fun v h => ?_; obtain rfl := h); (refine fun v h => ?_; obtain rfl := h); (refine fun v h => ?_; obtain rfl := h); (refine fun v h => ?_; obtain rfl := h); (refine fun v h => ?_; obtain rfl := h); (refine fun v h => ?_; obtain rfl := h); (refine fun v h => ?_; obtain rfl := h); (refine fun v h => ?_; obtain rfl := h);
    refine fun ax hEx => ?_
    simp only [lk, pick, Nat.reduceEqDiff, ↓reduceIte] at hEx
    refine late_done [21, 22, 24] hEx hK (fun a hE => ?_); clear hK K Q' hEx; simp only [lk, pick, Nat.reduceEqDiff, ↓reduceIte] at hE
    clear hBc
    have hBc := hBl
    clear hBl
    (repeat (first | (with_reducible refine wp_seq ?_) | (with_reducible refine wp_block ?_) | (with_reducible refine then_n ?_) | (with_reducible refine inBlock_n ?_) | (with_reducible refine then_ret ?_) | (with_reducible refine inBlock_ret ?_) | (with_reducible refine then_exit ?_) | (with_reducible refine inBlock_hit ?_) | (with_reducible refine inBlock_miss (by decide) ?_) | (with_reducible refine wp_ret ?_) | (with_reducible refine wp_exit ?_) | (with_reducible refine wp_skip ?_)))
    refine region_drawn [] (fun wt => Below wr.heap.size wr wt) (fun w1 w2 => Below w1.heap.size w1 w2) [(0, some 261), (1, some 262), (2, some 263), (3, some 264), (4, some 265), (5, some 266), (6, some 260), (7, some 267), (8, some 268), (9, some 25), (10, some 26)] [261, 262, 263, 264, 265, 266, 260, 267, 268, 25, 26] #[true, true, true, true, true, true, true, true, true, true, true] [21, 22, 24] hE (by kernel_rfl) (by kernel_rfl) (by kernel_rfl) (by kernel_rfl) (by kernel_rfl) (by kernel_rfl) (by kernel_rfl) (by kernel_rfl) (by kernel_rfl) (by kernel_rfl) (by kernel_rfl) (by kernel_rfl) (by decide) (hBc.drew) (fun Q' K hK => ?_)
    refine SeqOps.say (fun v wt => ∃ G, v = .agg #[.int .i64 100, .slice (some ⟨G, 0, none⟩) 2 2] ∧ Blk 0 G FC 69 wt) (fun _ _ _ hR ⟨G, e, hG⟩ => ⟨G, e, hG.keep hR⟩) (StepOk.plain (by (first | (simp only [List.getElem?_toArray, List.getElem?_cons_succ, List.getElem?_cons_zero]; rfl) | rfl)) rfl (fun ax wx hS hT' hd K' hK' => ?_)) ?_
    · obtain ⟨hcT, hfT, hlT, hmT, hwT⟩ := bcell hT'; have hzT := hT'.size
      refine op_run (fun ρ hρ qc qf qg => ?_); clear hρ; go_simp; (try go_bits); (try clear ρ);
      go_at_call 53; refine (frosty_new _).mono ?_; rintro e w1 ⟨⟨G, rfl, hG⟩, h1⟩
      exact hK'.out _ _ _ rfl ⟨G, rfl, hG.more (Nat.zero_le _)⟩ (hT'.trans (h1.mono hT'.size)) h1
    refine SeqOps.val ?_ (StepOk.plain (by (first | (simp only [List.getElem?_toArray, List.getElem?_cons_succ, List.getElem?_cons_zero]; rfl) | rfl)) rfl (fun ax wx hS hT' hd K' hK' => ?_)) ?_; rotate_left 1
    · have r21 := hS.at 21 (by decide) (hE.at 21 rfl); obtain ⟨hcT, hfT, hlT, hmT, hwT⟩ := bcell hT'; have hzT := hT'.size
      refine op_run (fun ρ hρ qc qf qg => ?_); have q21 := rho hρ r21; clear hρ; go_simp; (try go_bits); (try clear ρ);
      refine hK'.out _ _ _ rfl ?_ hT' (Below.refl _ _); rfl
    refine SeqOps.val ?_ (StepOk.plain (by (first | (simp only [List.getElem?_toArray, List.getElem?_cons_succ, List.getElem?_cons_zero]; rfl) | rfl)) rfl (fun ax wx hS hT' hd K' hK' => ?_)) ?_; rotate_left 1
    · have r22 := hS.at 22 (by decide) (hE.at 22 rfl); obtain ⟨hcT, hfT, hlT, hmT, hwT⟩ := bcell hT'; have hzT := hT'.size
      refine op_run (fun ρ hρ qc qf qg => ?_); have q22 := rho hρ r22; clear hρ; go_simp; (try go_bits); (try clear ρ);
      refine hK'.out _ _ _ rfl ?_ hT' (Below.refl _ _); rfl
    refine SeqOps.val ?_ (StepOk.plain (by (first | (simp only [List.getElem?_toArray, List.getElem?_cons_succ, List.getElem?_cons_zero]; rfl) | rfl)) rfl (fun ax wx hS hT' hd K' hK' => ?_)) ?_; rotate_left 1
    · have r262 := told_val hd 1 (k := 1) (e := 262) rfl (by kernel_rfl) (by kernel_rfl); have r263 := told_val hd 0 (k := 2) (e := 263) rfl (by kernel_rfl) (by kernel_rfl); obtain ⟨hcT, hfT, hlT, hmT, hwT⟩ := bcell hT'; have hzT := hT'.size
      refine op_run (fun ρ hρ qc qf qg => ?_); have q262 := rho hρ r262; have q263 := rho hρ r263; clear hρ; go_simp; (try go_bits); (try clear ρ);
      refine hK'.out _ _ _ rfl ?_ hT' (Below.refl _ _); rfl
    refine SeqOps.val ?_ (StepOk.plain (by (first | (simp only [List.getElem?_toArray, List.getElem?_cons_succ, List.getElem?_cons_zero]; rfl) | rfl)) rfl (fun ax wx hS hT' hd K' hK' => ?_)) ?_; rotate_left 1
    · have r264 := told_val hd 0 (k := 3) (e := 264) rfl (by kernel_rfl) (by kernel_rfl); obtain ⟨hcT, hfT, hlT, hmT, hwT⟩ := bcell hT'; have hzT := hT'.size
      refine op_run (fun ρ hρ qc qf qg => ?_); have q264 := rho hρ r264; clear hρ; go_simp; (try go_bits); (try clear ρ);
      refine hK'.out _ _ _ rfl ?_ hT' (Below.refl _ _); rfl
    refine SeqOps.say (fun v _ => ∃ O oc, v = .tuple #[.slice O 0 oc, .int .i64 11]) (fun _ _ _ _ h => h) (StepOk.plain (by (first | (simp only [List.getElem?_toArray, List.getElem?_cons_succ, List.getElem?_cons_zero]; rfl) | rfl)) rfl (fun ax wx hS hT' hd K' hK' => ?_)) ?_
    · obtain ⟨v261, r261, h261⟩ := told_get hd 4 (k := 0) (e := 261) rfl (by kernel_rfl) (by kernel_rfl); obtain ⟨G, rfl, hG⟩ := h261; have r265 := told_val hd 0 (k := 4) (e := 265) rfl (by kernel_rfl) (by kernel_rfl); obtain ⟨hcT, hfT, hlT, hmT, hwT⟩ := bcell hT'; have hzT := hT'.size
      refine op_run (fun ρ hρ qc qf qg => ?_); have q261 := rho hρ r261; have q265 := rho hρ r265; clear hρ; go_simp; (try go_bits); (try clear ρ);
      go_at_call 27; refine (kTimes (n := 0) (no_times frosty_ok HO.out) rfl rfl HL.out (by omega) _ (hG.arr frL_cells) ((hA.below hT').more hT'.size)).mono ?_; rintro e w1 ⟨O, oc, rfl, h1⟩
      exact hK'.out _ _ _ rfl ⟨O, oc, rfl⟩ (hT'.trans (h1.mono hT'.size)) h1
    refine SeqOps.say (fun v _ => ∃ O oc, v = .tuple #[.slice O 0 oc, .int .i64 11]) (fun _ _ _ _ h => h) (StepOk.plain (by (first | (simp only [List.getElem?_toArray, List.getElem?_cons_succ, List.getElem?_cons_zero]; rfl) | rfl)) rfl (fun ax wx hS hT' hd K' hK' => ?_)) ?_
    · obtain ⟨v266, r266, h266⟩ := told_get hd 0 (k := 5) (e := 266) rfl (by kernel_rfl) (by kernel_rfl); obtain ⟨O, oc, rfl⟩ := h266; obtain ⟨hcT, hfT, hlT, hmT, hwT⟩ := bcell hT'; have hzT := hT'.size
      refine op_run (fun ρ hρ qc qf qg => ?_); have q266 := rho hρ r266; clear hρ; go_simp; (try go_bits); (try clear ρ);
      exact hK'.out _ _ _ rfl ⟨O, oc, rfl⟩ hT' (Below.refl _ _)
    refine SeqOps.say (fun _ _ => True) (fun _ _ _ _ h => h) (StepOk.plain (by (first | (simp only [List.getElem?_toArray, List.getElem?_cons_succ, List.getElem?_cons_zero]; rfl) | rfl)) rfl (fun ax wx hS hT' hd K' hK' => ?_)) ?_
    · obtain ⟨v260, r260, h260⟩ := told_get hd 0 (k := 6) (e := 260) rfl (by kernel_rfl) (by kernel_rfl); obtain ⟨O, oc, rfl⟩ := h260; obtain ⟨hcT, hfT, hlT, hmT, hwT⟩ := bcell hT'; have hzT := hT'.size
      refine op_run (fun ρ hρ qc qf qg => ?_); have q260 := rho hρ r260; clear hρ; go_simp; (try go_bits); (try clear ρ);
      exact hK'.out _ _ _ rfl trivial hT' (Below.refl _ _)
    refine SeqOps.val ?_ (StepOk.plain (by (first | (simp only [List.getElem?_toArray, List.getElem?_cons_succ, List.getElem?_cons_zero]; rfl) | rfl)) rfl (fun ax wx hS hT' hd K' hK' => ?_)) ?_; rotate_left 1
    · obtain ⟨v260, r260, h260⟩ := told_get hd 1 (k := 6) (e := 260) rfl (by kernel_rfl) (by kernel_rfl); obtain ⟨O, oc, rfl⟩ := h260; obtain ⟨hcT, hfT, hlT, hmT, hwT⟩ := bcell hT'; have hzT := hT'.size
      refine op_run (fun ρ hρ qc qf qg => ?_); have q260 := rho hρ r260; clear hρ; go_simp; (try go_bits); (try clear ρ);
      refine hK'.out _ _ _ rfl ?_ hT' (Below.refl _ _); rfl
    refine SeqOps.say (fun _ _ => True) (fun _ _ _ _ h => h) (StepOk.plain (by (first | (simp only [List.getElem?_toArray, List.getElem?_cons_succ, List.getElem?_cons_zero]; rfl) | rfl)) rfl (fun ax wx hS hT' hd K' hK' => ?_)) ?_
    · obtain ⟨v267, r267, h267⟩ := told_get hd 1 (k := 7) (e := 267) rfl (by kernel_rfl) (by kernel_rfl); obtain ⟨hcT, hfT, hlT, hmT, hwT⟩ := bcell hT'; have hzT := hT'.size
      refine op_run (fun ρ hρ qc qf qg => ?_); have q267 := rho hρ r267; clear hρ; go_simp; (try go_bits); (try clear ρ);
      exact hK'.out _ _ _ rfl trivial hT' (Below.refl _ _)
    refine SeqOps.val ?_ (StepOk.plain (by (first | (simp only [List.getElem?_toArray, List.getElem?_cons_succ, List.getElem?_cons_zero]; rfl) | rfl)) rfl (fun ax wx hS hT' hd K' hK' => ?_)) ?_; rotate_left 1
    · have r268 := told_val hd 1 (k := 8) (e := 268) rfl (by kernel_rfl) (by kernel_rfl); obtain ⟨hcT, hfT, hlT, hmT, hwT⟩ := bcell hT'; have hzT := hT'.size
      refine op_run (fun ρ hρ qc qf qg => ?_); have q268 := rho hρ r268; clear hρ; go_simp; (try go_bits); (try clear ρ);
      refine hK'.out _ _ _ rfl ?_ hT' (Below.refl _ _); rfl
    refine SeqOps.nil ?_
    intro w26 hBl; (refine fun v h => ?_; obtain ⟨G, rfl, hG⟩ := h); (refine fun v h => ?_; obtain rfl := h); (refine fun v h => ?_; obtain rfl := h); (refine fun v h => ?_; obtain rfl := h); (refine fun v h => ?_; obtain rfl := h); (refine fun v h => ?_; obtain ⟨O, oc, rfl⟩ := h); (refine fun v h => ?_; obtain ⟨O, oc, rfl⟩ := h); (refine fun v h => ?_; obtain h267 := h); (refine fun v h => ?_; obtain rfl := h); (refine fun v h => ?_; obtain h25 := h); (refine fun v h => ?_; obtain rfl := h);
    refine fun ax hEx => ?_
    simp only [lk, pick, Nat.reduceEqDiff, ↓reduceIte] at hEx
    refine late_done [21, 22, 24, 26] hEx hK (fun a hE => ?_); clear hK K Q' hEx; simp only [lk, pick, Nat.reduceEqDiff, ↓reduceIte] at hE
    clear hBc
    have hBc := hBl
    clear hBl
    (repeat (first | (with_reducible refine wp_seq ?_) | (with_reducible refine wp_block ?_) | (with_reducible refine then_n ?_) | (with_reducible refine inBlock_n ?_) | (with_reducible refine then_ret ?_) | (with_reducible refine inBlock_ret ?_) | (with_reducible refine then_exit ?_) | (with_reducible refine inBlock_hit ?_) | (with_reducible refine inBlock_miss (by decide) ?_) | (with_reducible refine wp_ret ?_) | (with_reducible refine wp_exit ?_) | (with_reducible refine wp_skip ?_)))
    refine region_drawn [] (fun wt => Below wr.heap.size wr wt) (RSp 27) [(0, some 270), (1, some 271), (2, some 272), (3, some 273), (4, some 274), (5, some 275), (6, some 269), (7, some 276), (8, some 277), (9, some 27), (10, none), (11, some 28)] [270, 271, 272, 273, 274, 275, 269, 276, 277, 27, 28] #[true, true, true, true, true, true, true, true, true, true, true, true] [21, 22, 24, 26] hE (by kernel_rfl) (by kernel_rfl) (by kernel_rfl) (by kernel_rfl) (by kernel_rfl) (by kernel_rfl) (by kernel_rfl) (by kernel_rfl) (by kernel_rfl) (by kernel_rfl) (by kernel_rfl) (by kernel_rfl) (by decide) (hBc.drew) (fun Q' K hK => ?_)
    refine SeqOps.say (fun v wt => ∃ G, v = .agg #[.int .i64 100, .slice (some ⟨G, 0, none⟩) 2 2] ∧ Blk 0 G FC 69 wt) (fun _ _ _ hR ⟨G, e, hG⟩ => ⟨G, e, hR.blk (by decide) hG⟩) (StepOk.plain (by (first | (simp only [List.getElem?_toArray, List.getElem?_cons_succ, List.getElem?_cons_zero]; rfl) | rfl)) rfl (fun ax wx hS hT' hd K' hK' => ?_)) ?_
    · obtain ⟨hcT, hfT, hlT, hmT, hwT⟩ := bcell hT'; have hzT := hT'.size
      refine op_run (fun ρ hρ qc qf qg => ?_); clear hρ; go_simp; (try go_bits); (try clear ρ);
      go_at_call 53; refine (frosty_new _).mono ?_; rintro e w1 ⟨⟨G, rfl, hG⟩, h1⟩
      exact hK'.out _ _ _ rfl ⟨G, rfl, hG.more (Nat.zero_le _)⟩ (hT'.trans (h1.mono hT'.size)) (RSp.of h1)
    refine SeqOps.val ?_ (StepOk.plain (by (first | (simp only [List.getElem?_toArray, List.getElem?_cons_succ, List.getElem?_cons_zero]; rfl) | rfl)) rfl (fun ax wx hS hT' hd K' hK' => ?_)) ?_; rotate_left 1
    · have r21 := hS.at 21 (by decide) (hE.at 21 rfl); obtain ⟨hcT, hfT, hlT, hmT, hwT⟩ := bcell hT'; have hzT := hT'.size
      refine op_run (fun ρ hρ qc qf qg => ?_); have q21 := rho hρ r21; clear hρ; go_simp; (try go_bits); (try clear ρ);
      refine hK'.out _ _ _ rfl ?_ hT' (RSp.refl); rfl
    refine SeqOps.val ?_ (StepOk.plain (by (first | (simp only [List.getElem?_toArray, List.getElem?_cons_succ, List.getElem?_cons_zero]; rfl) | rfl)) rfl (fun ax wx hS hT' hd K' hK' => ?_)) ?_; rotate_left 1
    · have r22 := hS.at 22 (by decide) (hE.at 22 rfl); obtain ⟨hcT, hfT, hlT, hmT, hwT⟩ := bcell hT'; have hzT := hT'.size
      refine op_run (fun ρ hρ qc qf qg => ?_); have q22 := rho hρ r22; clear hρ; go_simp; (try go_bits); (try clear ρ);
      refine hK'.out _ _ _ rfl ?_ hT' (RSp.refl); rfl
    refine SeqOps.val ?_ (StepOk.plain (by (first | (simp only [List.getElem?_toArray, List.getElem?_cons_succ, List.getElem?_cons_zero]; rfl) | rfl)) rfl (fun ax wx hS hT' hd K' hK' => ?_)) ?_; rotate_left 1
    · have r271 := told_val hd 1 (k := 1) (e := 271) rfl (by kernel_rfl) (by kernel_rfl); have r272 := told_val hd 0 (k := 2) (e := 272) rfl (by kernel_rfl) (by kernel_rfl); obtain ⟨hcT, hfT, hlT, hmT, hwT⟩ := bcell hT'; have hzT := hT'.size
      refine op_run (fun ρ hρ qc qf qg => ?_); have q271 := rho hρ r271; have q272 := rho hρ r272; clear hρ; go_simp; (try go_bits); (try clear ρ);
      refine hK'.out _ _ _ rfl ?_ hT' (RSp.refl); rfl
    refine SeqOps.val ?_ (StepOk.plain (by (first | (simp only [List.getElem?_toArray, List.getElem?_cons_succ, List.getElem?_cons_zero]; rfl) | rfl)) rfl (fun ax wx hS hT' hd K' hK' => ?_)) ?_; rotate_left 1
    · have r273 := told_val hd 0 (k := 3) (e := 273) rfl (by kernel_rfl) (by kernel_rfl); obtain ⟨hcT, hfT, hlT, hmT, hwT⟩ := bcell hT'; have hzT := hT'.size
      refine op_run (fun ρ hρ qc qf qg => ?_); have q273 := rho hρ r273; clear hρ; go_simp; (try go_bits); (try clear ρ);
      refine hK'.out _ _ _ rfl ?_ hT' (RSp.refl); rfl
    refine SeqOps.val ?_ (StepOk.plain (by (first | (simp only [List.getElem?_toArray, List.getElem?_cons_succ, List.getElem?_cons_zero]; rfl) | rfl)) rfl (fun ax wx hS hT' hd K' hK' => ?_)) ?_; rotate_left 1
    · obtain ⟨v270, r270, h270⟩ := told_get hd 4 (k := 0) (e := 270) rfl (by kernel_rfl) (by kernel_rfl); obtain ⟨G, rfl, hG⟩ := h270; have r274 := told_val hd 0 (k := 4) (e := 274) rfl (by kernel_rfl) (by kernel_rfl); obtain ⟨hcT, hfT, hlT, hmT, hwT⟩ := bcell hT'; have hzT := hT'.size
      refine op_run (fun ρ hρ qc qf qg => ?_); have q270 := rho hρ r270; have q274 := rho hρ r274; clear hρ; go_simp; (try go_bits); (try clear ρ);
      go_at_call 30; refine (kStopped (no_stopped frosty_ok HO.out) rfl HL.out (by omega) _ (hG.arr frL_cells) ((hA.below hT').more hT'.size)).mono ?_; rintro e w1 ⟨rfl, h1⟩
      refine hK'.out _ _ _ rfl ?_ (hT'.trans (h1.mono hT'.size)) (RSp.of h1); rfl
    refine SeqOps.val ?_ (StepOk.plain (by (first | (simp only [List.getElem?_toArray, List.getElem?_cons_succ, List.getElem?_cons_zero]; rfl) | rfl)) rfl (fun ax wx hS hT' hd K' hK' => ?_)) ?_; rotate_left 1
    · have r275 := told_val hd 0 (k := 5) (e := 275) rfl (by kernel_rfl) (by kernel_rfl); obtain ⟨hcT, hfT, hlT, hmT, hwT⟩ := bcell hT'; have hzT := hT'.size
      refine op_run (fun ρ hρ qc qf qg => ?_); have q275 := rho hρ r275; clear hρ; go_simp; (try go_bits); (try clear ρ);
      refine hK'.out _ _ _ rfl ?_ hT' (RSp.refl); rfl
    refine SeqOps.val ?_ (StepOk.plain (by (first | (simp only [List.getElem?_toArray, List.getElem?_cons_succ, List.getElem?_cons_zero]; rfl) | rfl)) rfl (fun ax wx hS hT' hd K' hK' => ?_)) ?_; rotate_left 1
    · have r269 := told_val hd 0 (k := 6) (e := 269) rfl (by kernel_rfl) (by kernel_rfl); obtain ⟨hcT, hfT, hlT, hmT, hwT⟩ := bcell hT'; have hzT := hT'.size
      refine op_run (fun ρ hρ qc qf qg => ?_); have q269 := rho hρ r269; clear hρ; go_simp; (try go_bits); (try clear ρ);
      refine hK'.out _ _ _ rfl ?_ hT' (RSp.refl); rfl
    refine SeqOps.val ?_ (StepOk.plain (by (first | (simp only [List.getElem?_toArray, List.getElem?_cons_succ, List.getElem?_cons_zero]; rfl) | rfl)) rfl (fun ax wx hS hT' hd K' hK' => ?_)) ?_; rotate_left 1
    · have r269 := told_val hd 1 (k := 6) (e := 269) rfl (by kernel_rfl) (by kernel_rfl); obtain ⟨hcT, hfT, hlT, hmT, hwT⟩ := bcell hT'; have hzT := hT'.size
      refine op_run (fun ρ hρ qc qf qg => ?_); have q269 := rho hρ r269; clear hρ; go_simp; (try go_bits); (try clear ρ);
      refine hK'.out _ _ _ rfl ?_ hT' (RSp.refl); rfl
    refine SeqOps.say (fun v wt => ∃ B, v = .pointer (some ⟨B, 0, none⟩) ∧ wr.heap.size ≤ B ∧ Wr wt B 0 ∧ Wr wt B 1 ∧ ∃ cs, wt.heap[B]? = some (.cells cs 27)) (fun _ _ _ hR ⟨B, e, h1, h2, h3, h4⟩ => ⟨B, e, h1, hR.2.1 _ _ h2, hR.2.1 _ _ h3, hR.2.2.2 _ h4⟩) (StepOk.plain (by (first | (simp only [List.getElem?_toArray, List.getElem?_cons_succ, List.getElem?_cons_zero]; rfl) | rfl)) rfl (fun ax wx hS hT' hd K' hK' => ?_)) ?_
    · obtain ⟨hcT, hfT, hlT, hmT, hwT⟩ := bcell hT'; have hzT := hT'.size
      refine op_run (fun ρ hρ qc qf qg => ?_); clear hρ; go_simp; (try go_bits); (try clear ρ);
      exact hK'.out _ _ _ rfl ⟨_, rfl, hT'.size, wr_new rfl (by decide), wr_new rfl (by decide), _, (blk_new (N := 0) wx _ _ (Nat.zero_le _)).2.2⟩ (hT'.trans (((Below.refl _ _).alloc (Nat.le_refl _) _).mono hT'.size)) (RSp.of ((Below.refl _ _).alloc (Nat.le_refl _) _))
    refine SeqOps.val ?_ (StepOk.plain (by (first | (simp only [List.getElem?_toArray, List.getElem?_cons_succ, List.getElem?_cons_zero]; rfl) | rfl)) rfl (fun ax wx hS hT' hd K' hK' => ?_)) ?_; rotate_left 1
    · obtain ⟨v27, r27, h27⟩ := told_get hd 0 (k := 9) (e := 27) rfl (by kernel_rfl) (by kernel_rfl); obtain ⟨B, rfl, hB1, hB2, hB3, cs, hB4⟩ := h27; have r276 := told_val hd 2 (k := 7) (e := 276) rfl (by kernel_rfl) (by kernel_rfl); obtain ⟨hcT, hfT, hlT, hmT, hwT⟩ := bcell hT'; have hzT := hT'.size
      refine op_run (fun ρ hρ qc qf qg => ?_); have q27 := rho hρ r27; have q276 := rho hρ r276; clear hρ; go_simp; (try go_bits); (try clear ρ);
      refine hK'.out _ undef _ rfl ?_ ((hT'.setCell hB1 _).setCell hB1 _) ((RSp.set ⟨cs, hB4⟩).trans (RSp.set ((RSp.set ⟨cs, hB4⟩).2.2.2 _ ⟨cs, hB4⟩))); rfl
    refine SeqOps.val ?_ (StepOk.plain (by (first | (simp only [List.getElem?_toArray, List.getElem?_cons_succ, List.getElem?_cons_zero]; rfl) | rfl)) rfl (fun ax wx hS hT' hd K' hK' => ?_)) ?_; rotate_left 1
    · have r277 := told_val hd 2 (k := 8) (e := 277) rfl (by kernel_rfl) (by kernel_rfl); obtain ⟨hcT, hfT, hlT, hmT, hwT⟩ := bcell hT'; have hzT := hT'.size
      refine op_run (fun ρ hρ qc qf qg => ?_); have q277 := rho hρ r277; clear hρ; go_simp; (try go_bits); (try clear ρ);
      refine hK'.out _ _ _ rfl ?_ hT' (RSp.refl); rfl
    refine SeqOps.nil ?_
    intro w27 hBl; (refine fun v h => ?_; obtain ⟨G, rfl, hG⟩ := h); (refine fun v h => ?_; obtain rfl := h); (refine fun v h => ?_; obtain rfl := h); (refine fun v h => ?_; obtain rfl := h); (refine fun v h => ?_; obtain rfl := h); (refine fun v h => ?_; obtain rfl := h); (refine fun v h => ?_; obtain rfl := h); (refine fun v h => ?_; obtain rfl := h); (refine fun v h => ?_; obtain rfl := h); (refine fun v h => ?_; obtain ⟨B, rfl, hB1, hB2, hB3, cs, hB4⟩ := h); (refine fun v h => ?_; obtain rfl := h);
    refine fun ax hEx => ?_
    simp only [lk, pick, Nat.reduceEqDiff, ↓reduceIte] at hEx
    refine late_done [21, 22, 24, 26, 28] hEx hK (fun a hE => ?_); clear hK K Q' hEx; simp only [lk, pick, Nat.reduceEqDiff, ↓reduceIte] at hE
    clear hBc
    have hBc := hBl
    clear hBl
    (repeat (first | (with_reducible refine wp_seq ?_) | (with_reducible refine wp_block ?_) | (with_reducible refine then_n ?_) | (with_reducible refine inBlock_n ?_) | (with_reducible refine then_ret ?_) | (with_reducible refine inBlock_ret ?_) | (with_reducible refine then_exit ?_) | (with_reducible refine inBlock_hit ?_) | (with_reducible refine inBlock_miss (by decide) ?_) | (with_reducible refine wp_ret ?_) | (with_reducible refine wp_exit ?_) | (with_reducible refine wp_skip ?_)))
    refine region_drawn [] (fun wt => Below wr.heap.size wr wt) (fun w1 w2 => Below w1.heap.size w1 w2) [(0, some 279), (1, some 280), (2, some 281), (3, some 282), (4, some 283), (5, some 284), (6, some 278), (7, some 285), (8, some 286), (9, some 29), (10, some 30)] [279, 280, 281, 282, 283, 284, 278, 285, 286, 29, 30] #[true, true, true, true, true, true, true, true, true, true, true] [21, 22, 24, 26, 28] hE (by kernel_rfl) (by kernel_rfl) (by kernel_rfl) (by kernel_rfl) (by kernel_rfl) (by kernel_rfl) (by kernel_rfl) (by kernel_rfl) (by kernel_rfl) (by kernel_rfl) (by kernel_rfl) (by kernel_rfl) (by decide) (hBc.drew) (fun Q' K hK => ?_)
    refine SeqOps.say (fun v wt => ∃ G, v = .agg #[.int .i64 100, .slice (some ⟨G, 0, none⟩) 2 2] ∧ Blk 0 G FC 69 wt) (fun _ _ _ hR ⟨G, e, hG⟩ => ⟨G, e, hG.keep hR⟩) (StepOk.plain (by (first | (simp only [List.getElem?_toArray, List.getElem?_cons_succ, List.getElem?_cons_zero]; rfl) | rfl)) rfl (fun ax wx hS hT' hd K' hK' => ?_)) ?_
    · obtain ⟨hcT, hfT, hlT, hmT, hwT⟩ := bcell hT'; have hzT := hT'.size
      refine op_run (fun ρ hρ qc qf qg => ?_); clear hρ; go_simp; (try go_bits); (try clear ρ);
      go_at_call 53; refine (frosty_new _).mono ?_; rintro e w1 ⟨⟨G, rfl, hG⟩, h1⟩
      exact hK'.out _ _ _ rfl ⟨G, rfl, hG.more (Nat.zero_le _)⟩ (hT'.trans (h1.mono hT'.size)) h1
    refine SeqOps.val ?_ (StepOk.plain (by (first | (simp only [List.getElem?_toArray, List.getElem?_cons_succ, List.getElem?_cons_zero]; rfl) | rfl)) rfl (fun ax wx hS hT' hd K' hK' => ?_)) ?_; rotate_left 1
    · have r21 := hS.at 21 (by decide) (hE.at 21 rfl); obtain ⟨hcT, hfT, hlT, hmT, hwT⟩ := bcell hT'; have hzT := hT'.size
      refine op_run (fun ρ hρ qc qf qg => ?_); have q21 := rho hρ r21; clear hρ; go_simp; (try go_bits); (try clear ρ);
      refine hK'.out _ _ _ rfl ?_ hT' (Below.refl _ _); rfl
    refine SeqOps.val ?_ (StepOk.plain (by (first | (simp only [List.getElem?_toArray, List.getElem?_cons_succ, List.getElem?_cons_zero]; rfl) | rfl)) rfl (fun ax wx hS hT' hd K' hK' => ?_)) ?_; rotate_left 1
    · have r22 := hS.at 22 (by decide) (hE.at 22 rfl); obtain ⟨hcT, hfT, hlT, hmT, hwT⟩ := bcell hT'; have hzT := hT'.size
      refine op_run (fun ρ hρ qc qf qg => ?_); have q22 := rho hρ r22; clear hρ; go_simp; (try go_bits); (try clear ρ);
      refine hK'.out _ _ _ rfl ?_ hT' (Below.refl _ _); rfl
    refine SeqOps.val ?_ (StepOk.plain (by (first | (simp only [List.getElem?_toArray, List.getElem?_cons_succ, List.getElem?_cons_zero]; rfl) | rfl)) rfl (fun ax wx hS hT' hd K' hK' => ?_)) ?_; rotate_left 1
    · have r280 := told_val hd 1 (k := 1) (e := 280) rfl (by kernel_rfl) (by kernel_rfl); have r281 := told_val hd 0 (k := 2) (e := 281) rfl (by kernel_rfl) (by kernel_rfl); obtain ⟨hcT, hfT, hlT, hmT, hwT⟩ := bcell hT'; have hzT := hT'.size
      refine op_run (fun ρ hρ qc qf qg => ?_); have q280 := rho hρ r280; have q281 := rho hρ r281; clear hρ; go_simp; (try go_bits); (try clear ρ);
      refine hK'.out _ _ _ rfl ?_ hT' (Below.refl _ _); rfl
    refine SeqOps.val ?_ (StepOk.plain (by (first | (simp only [List.getElem?_toArray, List.getElem?_cons_succ, List.getElem?_cons_zero]; rfl) | rfl)) rfl (fun ax wx hS hT' hd K' hK' => ?_)) ?_; rotate_left 1
    · have r282 := told_val hd 0 (k := 3) (e := 282) rfl (by kernel_rfl) (by kernel_rfl); obtain ⟨hcT, hfT, hlT, hmT, hwT⟩ := bcell hT'; have hzT := hT'.size
      refine op_run (fun ρ hρ qc qf qg => ?_); have q282 := rho hρ r282; clear hρ; go_simp; (try go_bits); (try clear ρ);
      refine hK'.out _ _ _ rfl ?_ hT' (Below.refl _ _); rfl
    refine SeqOps.say (fun v _ => ∃ O oc, v = .tuple #[.slice O 0 oc, .int .i64 11]) (fun _ _ _ _ h => h) (StepOk.plain (by (first | (simp only [List.getElem?_toArray, List.getElem?_cons_succ, List.getElem?_cons_zero]; rfl) | rfl)) rfl (fun ax wx hS hT' hd K' hK' => ?_)) ?_
    · obtain ⟨v279, r279, h279⟩ := told_get hd 4 (k := 0) (e := 279) rfl (by kernel_rfl) (by kernel_rfl); obtain ⟨G, rfl, hG⟩ := h279; have r283 := told_val hd 0 (k := 4) (e := 283) rfl (by kernel_rfl) (by kernel_rfl); obtain ⟨hcT, hfT, hlT, hmT, hwT⟩ := bcell hT'; have hzT := hT'.size
      refine op_run (fun ρ hρ qc qf qg => ?_); have q279 := rho hρ r279; have q283 := rho hρ r283; clear hρ; go_simp; (try go_bits); (try clear ρ);
      go_at_call 32; refine (kWrong (n := 0) (no_wrong frosty_ok HO.out) rfl rfl HL.out (by omega) _ (hG.arr frL_cells) ((hA.below hT').more hT'.size)).mono ?_; rintro e w1 ⟨O, oc, rfl, h1⟩
      exact hK'.out _ _ _ rfl ⟨O, oc, rfl⟩ (hT'.trans (h1.mono hT'.size)) h1
    refine SeqOps.say (fun v _ => ∃ O oc, v = .tuple #[.slice O 0 oc, .int .i64 11]) (fun _ _ _ _ h => h) (StepOk.plain (by (first | (simp only [List.getElem?_toArray, List.getElem?_cons_succ, List.getElem?_cons_zero]; rfl) | rfl)) rfl (fun ax wx hS hT' hd K' hK' => ?_)) ?_
    · obtain ⟨v284, r284, h284⟩ := told_get hd 0 (k := 5) (e := 284) rfl (by kernel_rfl) (by kernel_rfl); obtain ⟨O, oc, rfl⟩ := h284; obtain ⟨hcT, hfT, hlT, hmT, hwT⟩ := bcell hT'; have hzT := hT'.size
      refine op_run (fun ρ hρ qc qf qg => ?_); have q284 := rho hρ r284; clear hρ; go_simp; (try go_bits); (try clear ρ);
      exact hK'.out _ _ _ rfl ⟨O, oc, rfl⟩ hT' (Below.refl _ _)
    refine SeqOps.say (fun _ _ => True) (fun _ _ _ _ h => h) (StepOk.plain (by (first | (simp only [List.getElem?_toArray, List.getElem?_cons_succ, List.getElem?_cons_zero]; rfl) | rfl)) rfl (fun ax wx hS hT' hd K' hK' => ?_)) ?_
    · obtain ⟨v278, r278, h278⟩ := told_get hd 0 (k := 6) (e := 278) rfl (by kernel_rfl) (by kernel_rfl); obtain ⟨O, oc, rfl⟩ := h278; obtain ⟨hcT, hfT, hlT, hmT, hwT⟩ := bcell hT'; have hzT := hT'.size
      refine op_run (fun ρ hρ qc qf qg => ?_); have q278 := rho hρ r278; clear hρ; go_simp; (try go_bits); (try clear ρ);
      exact hK'.out _ _ _ rfl trivial hT' (Below.refl _ _)
    refine SeqOps.val ?_ (StepOk.plain (by (first | (simp only [List.getElem?_toArray, List.getElem?_cons_succ, List.getElem?_cons_zero]; rfl) | rfl)) rfl (fun ax wx hS hT' hd K' hK' => ?_)) ?_; rotate_left 1
    · obtain ⟨v278, r278, h278⟩ := told_get hd 1 (k := 6) (e := 278) rfl (by kernel_rfl) (by kernel_rfl); obtain ⟨O, oc, rfl⟩ := h278; obtain ⟨hcT, hfT, hlT, hmT, hwT⟩ := bcell hT'; have hzT := hT'.size
      refine op_run (fun ρ hρ qc qf qg => ?_); have q278 := rho hρ r278; clear hρ; go_simp; (try go_bits); (try clear ρ);
      refine hK'.out _ _ _ rfl ?_ hT' (Below.refl _ _); rfl
    refine SeqOps.say (fun _ _ => True) (fun _ _ _ _ h => h) (StepOk.plain (by (first | (simp only [List.getElem?_toArray, List.getElem?_cons_succ, List.getElem?_cons_zero]; rfl) | rfl)) rfl (fun ax wx hS hT' hd K' hK' => ?_)) ?_
    · obtain ⟨v285, r285, h285⟩ := told_get hd 1 (k := 7) (e := 285) rfl (by kernel_rfl) (by kernel_rfl); obtain ⟨hcT, hfT, hlT, hmT, hwT⟩ := bcell hT'; have hzT := hT'.size
      refine op_run (fun ρ hρ qc qf qg => ?_); have q285 := rho hρ r285; clear hρ; go_simp; (try go_bits); (try clear ρ);
      exact hK'.out _ _ _ rfl trivial hT' (Below.refl _ _)
    refine SeqOps.val ?_ (StepOk.plain (by (first | (simp only [List.getElem?_toArray, List.getElem?_cons_succ, List.getElem?_cons_zero]; rfl) | rfl)) rfl (fun ax wx hS hT' hd K' hK' => ?_)) ?_; rotate_left 1
    · have r286 := told_val hd 1 (k := 8) (e := 286) rfl (by kernel_rfl) (by kernel_rfl); obtain ⟨hcT, hfT, hlT, hmT, hwT⟩ := bcell hT'; have hzT := hT'.size
      refine op_run (fun ρ hρ qc qf qg => ?_); have q286 := rho hρ r286; clear hρ; go_simp; (try go_bits); (try clear ρ);
      refine hK'.out _ _ _ rfl ?_ hT' (Below.refl _ _); rfl
    refine SeqOps.nil ?_
    intro w28 hBl; (refine fun v h => ?_; obtain ⟨G, rfl, hG⟩ := h); (refine fun v h => ?_; obtain rfl := h); (refine fun v h => ?_; obtain rfl := h); (refine fun v h => ?_; obtain rfl := h); (refine fun v h => ?_; obtain rfl := h); (refine fun v h => ?_; obtain ⟨O, oc, rfl⟩ := h); (refine fun v h => ?_; obtain ⟨O, oc, rfl⟩ := h); (refine fun v h => ?_; obtain h285 := h); (refine fun v h => ?_; obtain rfl := h); (refine fun v h => ?_; obtain h29 := h); (refine fun v h => ?_; obtain rfl := h);
    refine fun ax hEx => ?_
    simp only [lk, pick, Nat.reduceEqDiff, ↓reduceIte] at hEx
    refine late_done [21, 22, 24, 26, 28, 30] hEx hK (fun a hE => ?_); clear hK K Q' hEx; simp only [lk, pick, Nat.reduceEqDiff, ↓reduceIte] at hE
    clear hBc
    have hBc := hBl
    clear hBl
    (repeat (first | (with_reducible refine wp_seq ?_) | (with_reducible refine wp_block ?_) | (with_reducible refine then_n ?_) | (with_reducible refine inBlock_n ?_) | (with_reducible refine then_ret ?_) | (with_reducible refine inBlock_ret ?_) | (with_reducible refine then_exit ?_) | (with_reducible refine inBlock_hit ?_) | (with_reducible refine inBlock_miss (by decide) ?_) | (with_reducible refine wp_ret ?_) | (with_reducible refine wp_exit ?_) | (with_reducible refine wp_skip ?_)))
    refine region_straight (m := 14) rfl (fun Q' K hK => ?_)
    refine Late.plain (by (first | (simp only [List.getElem?_toArray, List.getElem?_cons_succ, List.getElem?_cons_zero]; rfl) | rfl)) rfl (fun K' hK' => ?_)
    have r24 := hE.at 24 rfl
    refine op_run (fun ρ hρ qc qf qg => ?_); have q24 := rho hρ r24; clear hρ; go_simp; (try go_bits); (try clear ρ); (try clear qc qf qg r24 q24)
    refine late_next hE (by decide) hK' (fun a_1 hE_1 => ?_); clear hK' K'; clear hE a
    refine Late.plain (by (first | (simp only [List.getElem?_toArray, List.getElem?_cons_succ, List.getElem?_cons_zero]; rfl) | rfl)) rfl (fun K' hK' => ?_)
    have r287 := hE_1.at 287 rfl
    refine op_run (fun ρ hρ qc qf qg => ?_); have q287 := rho hρ r287; clear hρ; go_simp; (try go_bits); (try clear ρ); (try clear qc qf qg r287 q287)
    refine late_next hE_1 (by decide) hK' (fun a_2 hE_2 => ?_); clear hK' K'; clear hE_1
    refine Late.plain (by (first | (simp only [List.getElem?_toArray, List.getElem?_cons_succ, List.getElem?_cons_zero]; rfl) | rfl)) rfl (fun K' hK' => ?_)
    have r288 := hE_2.at 288 rfl
    refine op_run (fun ρ hρ qc qf qg => ?_); have q288 := rho hρ r288; clear hρ; go_simp; (try go_bits); (try clear ρ); (try clear qc qf qg r288 q288)
    refine late_next hE_2 (by decide) hK' (fun a_3 hE_3 => ?_); clear hK' K'; clear hE_2
    refine Late.yes hE_3 (by (first | (simp only [List.getElem?_toArray, List.getElem?_cons_succ, List.getElem?_cons_zero]; rfl) | rfl)) rfl (d := 289) (by kernel_rfl) rfl (fun K' hK' => ?_)
    have r26 := hE_3.at 26 rfl
    refine op_run (fun ρ hρ qc qf qg => ?_); have q26 := rho hρ r26; clear hρ; go_simp; (try go_bits); (try clear ρ); (try clear qc qf qg r26 q26)
    refine late_next hE_3 (by decide) hK' (fun a_4 hE_4 => ?_); clear hK' K'; clear hE_3
    refine Late.yes hE_4 (by (first | (simp only [List.getElem?_toArray, List.getElem?_cons_succ, List.getElem?_cons_zero]; rfl) | rfl)) rfl (d := 289) (by kernel_rfl) rfl (fun K' hK' => ?_)
    have r290 := hE_4.at 290 rfl
    refine op_run (fun ρ hρ qc qf qg => ?_); have q290 := rho hρ r290; clear hρ; go_simp; (try go_bits); (try clear ρ); (try clear qc qf qg r290 q290)
    refine late_next hE_4 (by decide) hK' (fun a_5 hE_5 => ?_); clear hK' K'; clear hE_4
    refine Late.plain (by (first | (simp only [List.getElem?_toArray, List.getElem?_cons_succ, List.getElem?_cons_zero]; rfl) | rfl)) rfl (fun K' hK' => ?_)
    have r289 := hE_5.at 289 rfl; have r291 := hE_5.at 291 rfl
    refine op_run (fun ρ hρ qc qf qg => ?_); have q289 := rho hρ r289; have q291 := rho hρ r291; clear hρ; go_simp; (try go_bits); (try clear ρ); (try clear qc qf qg r289 q289 r291 q291)
    refine late_next hE_5 (by decide) hK' (fun a_6 hE_6 => ?_); clear hK' K'; clear hE_5
    refine Late.plain (by (first | (simp only [List.getElem?_toArray, List.getElem?_cons_succ, List.getElem?_cons_zero]; rfl) | rfl)) rfl (fun K' hK' => ?_)
    have r292 := hE_6.at 292 rfl
    refine op_run (fun ρ hρ qc qf qg => ?_); have q292 := rho hρ r292; clear hρ; go_simp; (try go_bits); (try clear ρ); (try clear qc qf qg r292 q292)
    refine late_next hE_6 (by decide) hK' (fun a_7 hE_7 => ?_); clear hK' K'; clear hE_6
    refine Late.yes hE_7 (by (first | (simp only [List.getElem?_toArray, List.getElem?_cons_succ, List.getElem?_cons_zero]; rfl) | rfl)) rfl (d := 293) (by kernel_rfl) rfl (fun K' hK' => ?_)
    have r28 := hE_7.at 28 rfl
    refine op_run (fun ρ hρ qc qf qg => ?_); have q28 := rho hρ r28; clear hρ; go_simp; (try go_bits); (try clear ρ); (try clear qc qf qg r28 q28)
    refine late_next hE_7 (by decide) hK' (fun a_8 hE_8 => ?_); clear hK' K'; clear hE_7
    refine Late.yes hE_8 (by (first | (simp only [List.getElem?_toArray, List.getElem?_cons_succ, List.getElem?_cons_zero]; rfl) | rfl)) rfl (d := 293) (by kernel_rfl) rfl (fun K' hK' => ?_)
    have r294 := hE_8.at 294 rfl
    refine op_run (fun ρ hρ qc qf qg => ?_); have q294 := rho hρ r294; clear hρ; go_simp; (try go_bits); (try clear ρ); (try clear qc qf qg r294 q294)
    refine late_next hE_8 (by decide) hK' (fun a_9 hE_9 => ?_); clear hK' K'; clear hE_8
    refine Late.plain (by (first | (simp only [List.getElem?_toArray, List.getElem?_cons_succ, List.getElem?_cons_zero]; rfl) | rfl)) rfl (fun K' hK' => ?_)
    have r293 := hE_9.at 293 rfl; have r295 := hE_9.at 295 rfl
    refine op_run (fun ρ hρ qc qf qg => ?_); have q293 := rho hρ r293; have q295 := rho hρ r295; clear hρ; go_simp; (try go_bits); (try clear ρ); (try clear qc qf qg r293 q293 r295 q295)
    refine late_next hE_9 (by decide) hK' (fun a_10 hE_10 => ?_); clear hK' K'; clear hE_9
    refine Late.plain (by (first | (simp only [List.getElem?_toArray, List.getElem?_cons_succ, List.getElem?_cons_zero]; rfl) | rfl)) rfl (fun K' hK' => ?_)
    have r296 := hE_10.at 296 rfl
    refine op_run (fun ρ hρ qc qf qg => ?_); have q296 := rho hρ r296; clear hρ; go_simp; (try go_bits); (try clear ρ); (try clear qc qf qg r296 q296)
    refine late_next hE_10 (by decide) hK' (fun a_11 hE_11 => ?_); clear hK' K'; clear hE_10
    refine Late.yes hE_11 (by (first | (simp only [List.getElem?_toArray, List.getElem?_cons_succ, List.getElem?_cons_zero]; rfl) | rfl)) rfl (d := 297) (by kernel_rfl) rfl (fun K' hK' => ?_)
    have r30 := hE_11.at 30 rfl
    refine op_run (fun ρ hρ qc qf qg => ?_); have q30 := rho hρ r30; clear hρ; go_simp; (try go_bits); (try clear ρ); (try clear qc qf qg r30 q30)
    refine late_next hE_11 (by decide) hK' (fun a_12 hE_12 => ?_); clear hK' K'; clear hE_11
    refine Late.yes hE_12 (by (first | (simp only [List.getElem?_toArray, List.getElem?_cons_succ, List.getElem?_cons_zero]; rfl) | rfl)) rfl (d := 297) (by kernel_rfl) rfl (fun K' hK' => ?_)
    have r298 := hE_12.at 298 rfl
    refine op_run (fun ρ hρ qc qf qg => ?_); have q298 := rho hρ r298; clear hρ; go_simp; (try go_bits); (try clear ρ); (try clear qc qf qg r298 q298)
    refine late_next hE_12 (by decide) hK' (fun a_13 hE_13 => ?_); clear hK' K'; clear hE_12
    refine Late.plain (by (first | (simp only [List.getElem?_toArray, List.getElem?_cons_succ, List.getElem?_cons_zero]; rfl) | rfl)) rfl (fun K' hK' => ?_)
    have r297 := hE_13.at 297 rfl; have r299 := hE_13.at 299 rfl
    refine op_run (fun ρ hρ qc qf qg => ?_); have q297 := rho hρ r297; have q299 := rho hρ r299; clear hρ; go_simp; (try go_bits); (try clear ρ); (try clear qc qf qg r297 q297 r299 q299)
    refine late_next hE_13 (by decide) hK' (fun a_14 hE_14 => ?_); clear hK' K'; clear hE_13
    refine late_done [21, 22, 300] hE_14 hK (fun a hE => ?_); clear hK K Q' hE_14; simp only [lk, pick, Nat.reduceEqDiff, ↓reduceIte] at hE
    (repeat (first | (with_reducible refine wp_seq ?_) | (with_reducible refine wp_block ?_) | (with_reducible refine then_n ?_) | (with_reducible refine inBlock_n ?_) | (with_reducible refine then_ret ?_) | (with_reducible refine inBlock_ret ?_) | (with_reducible refine then_exit ?_) | (with_reducible refine inBlock_hit ?_) | (with_reducible refine inBlock_miss (by decide) ?_) | (with_reducible refine wp_ret ?_) | (with_reducible refine wp_exit ?_) | (with_reducible refine wp_skip ?_)))
    refine cond_no hE (t := 300) rfl ?_
    (repeat (first | (with_reducible refine wp_seq ?_) | (with_reducible refine wp_block ?_) | (with_reducible refine then_n ?_) | (with_reducible refine inBlock_n ?_) | (with_reducible refine then_ret ?_) | (with_reducible refine inBlock_ret ?_) | (with_reducible refine then_exit ?_) | (with_reducible refine inBlock_hit ?_) | (with_reducible refine inBlock_miss (by decide) ?_) | (with_reducible refine wp_ret ?_) | (with_reducible refine wp_exit ?_) | (with_reducible refine wp_skip ?_)))
    refine region_straight (m := 3) rfl (fun Q' K hK => ?_)
    refine Late.plain (by (first | (simp only [List.getElem?_toArray, List.getElem?_cons_succ, List.getElem?_cons_zero]; rfl) | rfl)) rfl (fun K' hK' => ?_)
    have r22 := hE.at 22 rfl
    refine op_run (fun ρ hρ qc qf qg => ?_); have q22 := rho hρ r22; clear hρ; go_simp; (try go_bits); (try clear ρ); (try clear qc qf qg r22 q22)
    refine late_next hE (by decide) hK' (fun a_1 hE_1 => ?_); clear hK' K'; clear hE a
    refine Late.plain (by (first | (simp only [List.getElem?_toArray, List.getElem?_cons_succ, List.getElem?_cons_zero]; rfl) | rfl)) rfl (fun K' hK' => ?_)
    have r249 := hE_1.at 249 rfl
    refine op_run (fun ρ hρ qc qf qg => ?_); have q249 := rho hρ r249; clear hρ; go_simp; (try go_bits); (try simp (disch := omega) only [IntWalk.i64_in]); (try clear ρ); (try clear qc qf qg r249 q249)
    refine late_next hE_1 (by decide) hK' (fun a_2 hE_2 => ?_); clear hK' K'; clear hE_1
    refine Late.plain (by (first | (simp only [List.getElem?_toArray, List.getElem?_cons_succ, List.getElem?_cons_zero]; rfl) | rfl)) rfl (fun K' hK' => ?_)
    have r250 := hE_2.at 250 rfl
    refine op_run (fun ρ hρ qc qf qg => ?_); have q250 := rho hρ r250; clear hρ; go_simp; (try go_bits); (try clear ρ); (try clear qc qf qg r250 q250)
    refine late_next hE_2 (by decide) hK' (fun a_3 hE_3 => ?_); clear hK' K'; clear hE_2
    refine late_done [21, 22] hE_3 hK (fun a hE => ?_); clear hK K Q' hE_3; simp only [lk, pick, Nat.reduceEqDiff, ↓reduceIte] at hE
    (repeat (first | (with_reducible refine wp_seq ?_) | (with_reducible refine wp_block ?_) | (with_reducible refine then_n ?_) | (with_reducible refine inBlock_n ?_) | (with_reducible refine then_ret ?_) | (with_reducible refine inBlock_ret ?_) | (with_reducible refine then_exit ?_) | (with_reducible refine inBlock_hit ?_) | (with_reducible refine inBlock_miss (by decide) ?_) | (with_reducible refine wp_ret ?_) | (with_reducible refine wp_exit ?_) | (with_reducible refine wp_skip ?_)))
    exact ⟨i + 1, ⟨hlt, by simpa using hE, hV.keep hBc, hB.trans (hBc.mono hB.size)⟩, by omega⟩
  · clear h hi hV
    (repeat (first | (with_reducible refine then_n ?_) | (with_reducible refine inBlock_n ?_) | (with_reducible refine then_exit ?_) | (with_reducible refine inBlock_hit ?_) | (with_reducible refine inBlock_miss (by decide) ?_) | (with_reducible refine wp_exit ?_)))
    exact known_end w wr a _ hE hB
end Go.Proofs.Ytnkbcapikenbbaa
