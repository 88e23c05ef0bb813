/- ClockKnown: the walk. -/
import Derived.Test.YtnkbcapikenbbaaW22
namespace Go.Proofs.Ytnkbcapikenbbaa
set_option linter.unusedSimpArgs false
set_option linter.unusedVariables false
open Go.RowKit Go.Shelf
attribute [local go_sem high] cell_set_wr
attribute [local go_sem low] cell_wr frozen_wr
attribute [local go_sem] wr_set wr_drew wr_drewN wr_alloc wr_new

set_option maxRecDepth 100000 in
set_option maxHeartbeats 4000000 in
theorem known_any (w : World) : Calls Try.prog 13 #[] w fun e w' => e = .returned (.bool true) ∧ Below w.heap.size w w' := by
  refine enterU [66,67,68,69,70] Try.func13 rfl Try.ntmps13 (by simp) (by decide) (fun a hE => ?_); simp only [envOf, Nat.zero_add, Nat.reduceAdd, List.map_cons, List.map_nil, List.cons_append, List.nil_append] at hE
  (repeat (first | (with_reducible refine wp_seq ?_) | (with_reducible refine wp_block ?_) | (with_reducible refine then_n ?_) | (with_reducible refine inBlock_n ?_) | (with_reducible refine then_ret ?_) | (with_reducible refine inBlock_ret ?_) | (with_reducible refine then_exit ?_) | (with_reducible refine inBlock_hit ?_) | (with_reducible refine inBlock_miss (by decide) ?_) | (with_reducible refine wp_ret ?_) | (with_reducible refine wp_exit ?_) | (with_reducible refine wp_skip ?_)))
  refine region_straight (m := 1) rfl (fun Q' K hK => ?_)
  refine Late.plain (by (first | (simp only [List.getElem?_toArray, List.getElem?_cons_succ, List.getElem?_cons_zero]; rfl) | rfl)) rfl (fun K' hK' => ?_)
  refine op_run (fun ρ hρ qc qf qg => ?_); clear hρ; go_simp; (try go_bits); (try clear ρ); (try clear qc qf qg)
  refine late_next hE (by decide) hK' (fun a_1 hE_1 => ?_); clear hK' K'; clear hE a
  refine late_done [66, 67, 68, 69, 70] hE_1 hK (fun a hE => ?_); clear hK K Q' hE_1; simp only [lk, pick, Nat.reduceEqDiff, ↓reduceIte] at hE
  (repeat (first | (with_reducible refine wp_seq ?_) | (with_reducible refine wp_block ?_) | (with_reducible refine then_n ?_) | (with_reducible refine inBlock_n ?_) | (with_reducible refine then_ret ?_) | (with_reducible refine inBlock_ret ?_) | (with_reducible refine then_exit ?_) | (with_reducible refine inBlock_hit ?_) | (with_reducible refine inBlock_miss (by decide) ?_) | (with_reducible refine wp_ret ?_) | (with_reducible refine wp_exit ?_) | (with_reducible refine wp_skip ?_)))
  refine wp_region_any (by kernel_rfl) ?_
  have T0 : Below w.heap.size w w.drew := (Below.refl _ _).drew
  refine linE_any [10] 542 (badF w.heap.size) (fun wt => Below w.heap.size w wt) (fun w1 w2 => Below w1.heap.size w1 w2) badE ((List.range 542).filter fun t => ![62, 63, 64, 65, 66, 67, 68, 69, 70, 71].contains t) #[true, true, true, true, true, true, true, true, true, true, false] [0, 1, 2, 3, 4, 5, 6, 7, 8, 9] (by kernel_rfl) (by kernel_rfl) (by kernel_rfl) (by kernel_rfl) (by kernel_rfl) (by kernel_rfl) (by kernel_rfl) (by kernel_rfl) (by kernel_rfl) (by kernel_rfl)
    (badF_stable _) hE.2.1 T0 ?_ ?_ ?_
  · exact badE_init (hE.at 66 rfl) (hE.at 67 rfl) (hE.at 68 rfl) (hE.at 69 rfl) (hE.at 70 rfl)
  · have hE0 := hE
    clear hE
    intro a' w' L hL hd hsz hkn hT hE hall

    clear hd hkn hall
    refine LinE.cons (by (first | (simp only [List.getElem?_toArray, List.getElem?_cons_succ, List.getElem?_cons_zero]; rfl) | rfl)) (fun hnew hk K hK => ?_) ?_
    · rw [if_pos (wanted_none rfl)]; obtain ⟨ρ, hρ⟩ : ∃ ρ, a'.eval = ρ := ⟨_, rfl⟩; have qc : ∀ v, ρ (.const v) = v := (fun v => (by rw [← hρ]; rfl)); have qf : ∀ f, ρ (.func f) = .func (.func f) #[] #[] := (fun f => (by rw [← hρ]; rfl)); refine abs_op ρ hρ ?_; clear hρ; go_simp
      exact hK.out _ _ _ rfl rfl hT (Below.refl _ _) (badE_keep hE (Below.refl _ _) (by decide))
    refine LinE.cons (by (first | (simp only [List.getElem?_toArray, List.getElem?_cons_succ, List.getElem?_cons_zero]; rfl) | rfl)) (fun hnew hk K hK => ?_) ?_
    · rw [if_pos (wanted_none rfl)]; obtain ⟨ρ, hρ⟩ : ∃ ρ, a'.eval = ρ := ⟨_, rfl⟩; have qc : ∀ v, ρ (.const v) = v := (fun v => (by rw [← hρ]; rfl)); have qf : ∀ f, ρ (.func f) = .func (.func f) #[] #[] := (fun f => (by rw [← hρ]; rfl)); refine abs_op ρ hρ ?_; clear hρ; go_simp
      exact hK.out _ _ _ rfl rfl hT (Below.refl _ _) (badE_keep hE (Below.refl _ _) (by decide))
    refine LinE.cons (by (first | (simp only [List.getElem?_toArray, List.getElem?_cons_succ, List.getElem?_cons_zero]; rfl) | rfl)) (fun hnew hk K hK => ?_) ?_
    · rw [if_pos (wanted_none rfl)]; obtain ⟨ρ, hρ⟩ : ∃ ρ, a'.eval = ρ := ⟨_, rfl⟩; have qc : ∀ v, ρ (.const v) = v := (fun v => (by rw [← hρ]; rfl)); have qf : ∀ f, ρ (.func f) = .func (.func f) #[] #[] := (fun f => (by rw [← hρ]; rfl)); refine abs_op ρ hρ ?_; clear hρ; go_simp
      exact hK.out _ _ _ rfl ⟨_, rfl, blk_zero w' _ ZC 69 (by kernel_rfl) hT.size⟩ (hT.trans (((Below.refl _ _).alloc (Nat.le_refl _) _).mono hT.size)) ((Below.refl _ _).alloc (Nat.le_refl _) _) (badE_keep hE ((Below.refl _ _).alloc (Nat.le_refl _) _) (by decide))
    refine LinE.cons (by (first | (simp only [List.getElem?_toArray, List.getElem?_cons_succ, List.getElem?_cons_zero]; rfl) | rfl)) (fun hnew hk K hK => ?_) ?_
    · (obtain ⟨v, r64, hf⟩ := Known.get (hk 2 (by kernel_rfl) (by simp)) (d := 64) (by kernel_rfl); simp only [badF] at hf; (try subst hf))
      obtain ⟨M, rfl, hM⟩ := hf
      rw [if_pos (wanted_none rfl)]; obtain ⟨ρ, hρ⟩ : ∃ ρ, a'.eval = ρ := ⟨_, rfl⟩; have qc : ∀ v, ρ (.const v) = v := (fun v => (by rw [← hρ]; rfl)); have qf : ∀ f, ρ (.func f) = .func (.func f) #[] #[] := (fun f => (by rw [← hρ]; rfl)); have q64 := eval_of r64; rw [hρ] at q64; refine abs_op ρ hρ ?_; clear hρ; go_simp
      exact hK.out _ _ _ rfl ⟨M, rfl, hM⟩ hT (Below.refl _ _) (badE_keep hE (Below.refl _ _) (by decide))
    refine LinE.cons (by (first | (simp only [List.getElem?_toArray, List.getElem?_cons_succ, List.getElem?_cons_zero]; rfl) | rfl)) (fun hnew hk K hK => ?_) ?_
    · rw [if_pos (wanted_none rfl)]; obtain ⟨ρ, hρ⟩ : ∃ ρ, a'.eval = ρ := ⟨_, rfl⟩; have qc : ∀ v, ρ (.const v) = v := (fun v => (by rw [← hρ]; rfl)); have qf : ∀ f, ρ (.func f) = .func (.func f) #[] #[] := (fun f => (by rw [← hρ]; rfl)); refine abs_op ρ hρ ?_; clear hρ; go_simp
      go_at_call 53; refine (frosty_new _).mono ?_
      rintro e w1 ⟨⟨G, rfl, hG⟩, h1⟩
      exact hK.out _ _ _ rfl ⟨G, rfl, hG.more hT.size⟩ (hT.trans (h1.mono hT.size)) h1 (badE_new (j := 66) hE h1 (by decide) hG.1 hG.2.1 (by rw [hsz]; decide))
    refine LinE.cons (by (first | (simp only [List.getElem?_toArray, List.getElem?_cons_succ, List.getElem?_cons_zero]; rfl) | rfl)) (fun hnew hk K hK => ?_) ?_
    · rw [if_pos (wanted_none rfl)]; obtain ⟨ρ, hρ⟩ : ∃ ρ, a'.eval = ρ := ⟨_, rfl⟩; have qc : ∀ v, ρ (.const v) = v := (fun v => (by rw [← hρ]; rfl)); have qf : ∀ f, ρ (.func f) = .func (.func f) #[] #[] := (fun f => (by rw [← hρ]; rfl)); refine abs_op ρ hρ ?_; clear hρ; go_simp
      go_at_call 53; refine (frosty_new _).mono ?_
      rintro e w1 ⟨⟨G, rfl, hG⟩, h1⟩
      exact hK.out _ _ _ rfl ⟨G, rfl, hG.more hT.size⟩ (hT.trans (h1.mono hT.size)) h1 (badE_new (j := 67) hE h1 (by decide) hG.1 hG.2.1 (by rw [hsz]; decide))
    refine LinE.cons (by (first | (simp only [List.getElem?_toArray, List.getElem?_cons_succ, List.getElem?_cons_zero]; rfl) | rfl)) (fun hnew hk K hK => ?_) ?_
    · rw [if_pos (wanted_none rfl)]; obtain ⟨ρ, hρ⟩ : ∃ ρ, a'.eval = ρ := ⟨_, rfl⟩; have qc : ∀ v, ρ (.const v) = v := (fun v => (by rw [← hρ]; rfl)); have qf : ∀ f, ρ (.func f) = .func (.func f) #[] #[] := (fun f => (by rw [← hρ]; rfl)); refine abs_op ρ hρ ?_; clear hρ; go_simp
      go_at_call 53; refine (frosty_new _).mono ?_
      rintro e w1 ⟨⟨G, rfl, hG⟩, h1⟩
      exact hK.out _ _ _ rfl ⟨G, rfl, hG.more hT.size⟩ (hT.trans (h1.mono hT.size)) h1 (badE_new (j := 68) hE h1 (by decide) hG.1 hG.2.1 (by rw [hsz]; decide))
    refine LinE.cons (by (first | (simp only [List.getElem?_toArray, List.getElem?_cons_succ, List.getElem?_cons_zero]; rfl) | rfl)) (fun hnew hk K hK => ?_) ?_
    · rw [if_pos (wanted_none rfl)]; obtain ⟨ρ, hρ⟩ : ∃ ρ, a'.eval = ρ := ⟨_, rfl⟩; have qc : ∀ v, ρ (.const v) = v := (fun v => (by rw [← hρ]; rfl)); have qf : ∀ f, ρ (.func f) = .func (.func f) #[] #[] := (fun f => (by rw [← hρ]; rfl)); refine abs_op ρ hρ ?_; clear hρ; go_simp
      go_at_call 53; refine (frosty_new _).mono ?_
      rintro e w1 ⟨⟨G, rfl, hG⟩, h1⟩
      exact hK.out _ _ _ rfl ⟨G, rfl, hG.more hT.size⟩ (hT.trans (h1.mono hT.size)) h1 (badE_new (j := 69) hE h1 (by decide) hG.1 hG.2.1 (by rw [hsz]; decide))
    refine LinE.cons (by (first | (simp only [List.getElem?_toArray, List.getElem?_cons_succ, List.getElem?_cons_zero]; rfl) | rfl)) (fun hnew hk K hK => ?_) ?_
    · rw [if_pos (wanted_none rfl)]; obtain ⟨ρ, hρ⟩ : ∃ ρ, a'.eval = ρ := ⟨_, rfl⟩; have qc : ∀ v, ρ (.const v) = v := (fun v => (by rw [← hρ]; rfl)); have qf : ∀ f, ρ (.func f) = .func (.func f) #[] #[] := (fun f => (by rw [← hρ]; rfl)); refine abs_op ρ hρ ?_; clear hρ; go_simp
      go_at_call 53; refine (frosty_new _).mono ?_
      rintro e w1 ⟨⟨G, rfl, hG⟩, h1⟩
      exact hK.out _ _ _ rfl ⟨G, rfl, hG.more hT.size⟩ (hT.trans (h1.mono hT.size)) h1 (badE_new (j := 70) hE h1 (by decide) hG.1 hG.2.1 (by rw [hsz]; decide))
    refine LinE.cons (by (first | (simp only [List.getElem?_toArray, List.getElem?_cons_succ, List.getElem?_cons_zero]; rfl) | rfl)) (fun hnew hk K hK => ?_) ?_
    · (obtain ⟨v, r62, hf⟩ := Known.get (hk 0 (by kernel_rfl) (by simp)) (d := 62) (by kernel_rfl); simp only [badF] at hf; (try subst hf))
      (obtain ⟨v, r63, hf⟩ := Known.get (hk 1 (by kernel_rfl) (by simp)) (d := 63) (by kernel_rfl); simp only [badF] at hf; (try subst hf))
      (obtain ⟨v, r65, hf⟩ := Known.get (hk 3 (by kernel_rfl) (by simp)) (d := 65) (by kernel_rfl); simp only [badF] at hf; (try subst hf))
      obtain ⟨M, rfl, hM⟩ := hf
      (obtain ⟨v, r66, hf⟩ := Known.get (hk 4 (by kernel_rfl) (by simp)) (d := 66) (by kernel_rfl); simp only [badF] at hf; (try subst hf))
      obtain ⟨G4, rfl, h4⟩ := hf
      (obtain ⟨v, r67, hf⟩ := Known.get (hk 5 (by kernel_rfl) (by simp)) (d := 67) (by kernel_rfl); simp only [badF] at hf; (try subst hf))
      obtain ⟨G5, rfl, h5⟩ := hf
      (obtain ⟨v, r68, hf⟩ := Known.get (hk 6 (by kernel_rfl) (by simp)) (d := 68) (by kernel_rfl); simp only [badF] at hf; (try subst hf))
      obtain ⟨G6, rfl, h6⟩ := hf
      (obtain ⟨v, r69, hf⟩ := Known.get (hk 7 (by kernel_rfl) (by simp)) (d := 69) (by kernel_rfl); simp only [badF] at hf; (try subst hf))
      obtain ⟨G7, rfl, h7⟩ := hf
      (obtain ⟨v, r70, hf⟩ := Known.get (hk 8 (by kernel_rfl) (by simp)) (d := 70) (by kernel_rfl); simp only [badF] at hf; (try subst hf))
      obtain ⟨G8, rfl, h8⟩ := hf
      have hne := badE_ne hE r66 r67 r68 r69 r70
      simp only [FV] at r66 r67 r68 r69 r70
      rw [if_pos (wanted_none rfl)]; obtain ⟨ρ, hρ⟩ : ∃ ρ, a'.eval = ρ := ⟨_, rfl⟩; have qc : ∀ v, ρ (.const v) = v := (fun v => (by rw [← hρ]; rfl)); have qf : ∀ f, ρ (.func f) = .func (.func f) #[] #[] := (fun f => (by rw [← hρ]; rfl)); have q62 := eval_of r62; rw [hρ] at q62; have q63 := eval_of r63; rw [hρ] at q63; have q65 := eval_of r65; rw [hρ] at q65; have q66 := eval_of r66; rw [hρ] at q66; have q67 := eval_of r67; rw [hρ] at q67; have q68 := eval_of r68; rw [hρ] at q68; have q69 := eval_of r69; rw [hρ] at q69; have q70 := eval_of r70; rw [hρ] at q70; refine abs_op ρ hρ ?_; clear hρ; go_simp
      exact hK.out _ _ _ rfl ⟨w'.heap.size, M, G4, G5, G6, G7, G8, rfl, blk_new w' _ _ hT.size, hM.keep ((Below.refl _ _).alloc (Nat.le_refl _) _), ⟨h4.keep ((Below.refl _ _).alloc (Nat.le_refl _) _), h5.keep ((Below.refl _ _).alloc (Nat.le_refl _) _), h6.keep ((Below.refl _ _).alloc (Nat.le_refl _) _), h7.keep ((Below.refl _ _).alloc (Nat.le_refl _) _), h8.keep ((Below.refl _ _).alloc (Nat.le_refl _) _)⟩, hne⟩ (hT.trans (((Below.refl _ _).alloc (Nat.le_refl _) _).mono hT.size)) ((Below.refl _ _).alloc (Nat.le_refl _) _) (badE_keep hE ((Below.refl _ _).alloc (Nat.le_refl _) _) (by decide))
    exact LinE.nil

  intro a' w' hd hsz hkn hT hEb hall
  (obtain ⟨v, r71, hf⟩ := Known.get (hall 9 (by kernel_rfl) ) (d := 71) (by kernel_rfl); simp only [badF] at hf; (try subst hf))
  have hE1 : Fits 542 [(71, v)] a' := fits_one (hd.trans hE.1) hsz r71
  clear hall hd hsz hkn hEb hE T0 r71
  refine late_any (fun _ _ h => h) [10] _ _ _ (by kernel_rfl) ?_
  refine Late.plain (by simp only [List.getElem?_toArray, List.getElem?_cons_succ, List.getElem?_cons_zero]; rfl) rfl (fun K' hK' => ?_)
  have r71 := hE1.at 71 rfl
  refine op_run (fun ρ hρ qc qf qg => ?_); have q71 := rho hρ r71; clear hρ; go_simp
  (try clear qc qf qg q71 r71 ρ)
  refine late_next hE1 (by decide) hK' (fun a hE => ?_); clear hK' K' hE1 a'
  refine Late.nil ?_
  obtain ⟨Y, M, G4, G5, G6, G7, G8, rfl, hR⟩ := bad_rows hf
  have hB := hT
  clear hf hT

  (repeat (first | (with_reducible refine wp_seq ?_) | (with_reducible refine wp_block ?_) | (with_reducible refine then_n ?_) | (with_reducible refine inBlock_n ?_) | (with_reducible refine then_ret ?_) | (with_reducible refine inBlock_ret ?_) | (with_reducible refine then_exit ?_) | (with_reducible refine inBlock_hit ?_) | (with_reducible refine inBlock_miss (by decide) ?_) | (with_reducible refine wp_ret ?_) | (with_reducible refine wp_exit ?_) | (with_reducible refine wp_skip ?_)))
  have nY := (hR.get 0 rfl).2.1; have yk := ((hR.get 0 rfl).2.2 7 _ rfl).1; have nG := (hR.get 2 rfl).1; have zG := (hR.get 2 rfl).2.1
  simp only [sl] at yk
  refine region_drawn [5, 6, 7] (fun wt => Below w'.heap.size w' wt) (fun w1 w2 => Below w1.heap.size w1 w2) [(0, some 72), (1, some 73), (2, some 74), (3, some 75), (4, some 76)] [72, 73, 74, 75, 76] #[true, true, true, true, true, false, false, false] [1] hE (by kernel_rfl) (by kernel_rfl) (by kernel_rfl) (by kernel_rfl) (by kernel_rfl) (by kernel_rfl) (by kernel_rfl) (by kernel_rfl) (by kernel_rfl) (by kernel_rfl) (by kernel_rfl) (by kernel_rfl) (by decide) ((Below.refl _ _).drew) (fun Q' K hK => ?_)
  refine SeqOps.val ?_ (StepOk.plain (by (first | (simp only [List.getElem?_toArray, List.getElem?_cons_succ, List.getElem?_cons_zero]; rfl) | rfl)) rfl (fun ax wx hS hT' hd K' hK' => ?_)) ?_; rotate_left 1
  · have r1 := hS.at 1 (by decide) (hE.at 1 rfl); obtain ⟨hcT, hfT, hlT, hmT, hwT⟩ := bcell hT'; have hzT := hT'.size
    refine op_run (fun ρ hρ qc qf qg => ?_); have q1 := rho hρ r1; clear hρ; go_simp; (try go_bits); (try clear ρ);
    refine hK'.out _ _ _ rfl ?_ hT' (Below.refl _ _); rfl
  refine SeqOps.val ?_ (StepOk.plain (by (first | (simp only [List.getElem?_toArray, List.getElem?_cons_succ, List.getElem?_cons_zero]; rfl) | rfl)) rfl (fun ax wx hS hT' hd K' hK' => ?_)) ?_; rotate_left 1
  · have r72 := told_val hd 0 (k := 0) (e := 72) rfl (by kernel_rfl) (by kernel_rfl); obtain ⟨hcT, hfT, hlT, hmT, hwT⟩ := bcell hT'; have hzT := hT'.size
    refine op_run (fun ρ hρ qc qf qg => ?_); have q72 := rho hρ r72; clear hρ; go_simp; (try go_bits); (try clear ρ);
    refine hK'.out _ _ _ rfl ?_ hT' (Below.refl _ _); rfl
  refine SeqOps.val ?_ (StepOk.plain (by (first | (simp only [List.getElem?_toArray, List.getElem?_cons_succ, List.getElem?_cons_zero]; rfl) | rfl)) rfl (fun ax wx hS hT' hd K' hK' => ?_)) ?_; rotate_left 1
  · have r73 := told_val hd 0 (k := 1) (e := 73) rfl (by kernel_rfl) (by kernel_rfl); obtain ⟨hcT, hfT, hlT, hmT, hwT⟩ := bcell hT'; have hzT := hT'.size
    refine op_run (fun ρ hρ qc qf qg => ?_); have q73 := rho hρ r73; clear hρ; go_simp; (try go_bits); (try clear ρ);
    refine hK'.out _ _ _ rfl ?_ hT' (Below.refl _ _); rfl
  refine SeqOps.val ?_ (StepOk.plain (by (first | (simp only [List.getElem?_toArray, List.getElem?_cons_succ, List.getElem?_cons_zero]; rfl) | rfl)) rfl (fun ax wx hS hT' hd K' hK' => ?_)) ?_; rotate_left 1
  · have r74 := told_val hd 0 (k := 2) (e := 74) rfl (by kernel_rfl) (by kernel_rfl); obtain ⟨hcT, hfT, hlT, hmT, hwT⟩ := bcell hT'; have hzT := hT'.size
    refine op_run (fun ρ hρ qc qf qg => ?_); have q74 := rho hρ r74; clear hρ; go_simp; (try go_bits); (try clear ρ);
    refine hK'.out _ _ _ rfl ?_ hT' (Below.refl _ _); rfl
  refine SeqOps.val ?_ (StepOk.plain (by (first | (simp only [List.getElem?_toArray, List.getElem?_cons_succ, List.getElem?_cons_zero]; rfl) | rfl)) rfl (fun ax wx hS hT' hd K' hK' => ?_)) ?_; rotate_left 1
  · obtain ⟨hcT, hfT, hlT, hmT, hwT⟩ := bcell hT'; have hzT := hT'.size
    refine op_run (fun ρ hρ qc qf qg => ?_); clear hρ; go_simp; (try go_bits); (try clear ρ);
    go_at_call 41; refine (to_any _ _ _).mono ?_; rintro e w1 ⟨rfl, h1⟩
    refine hK'.out _ _ _ rfl ?_ (hT'.trans (h1.mono hT'.size)) h1; rfl
  refine SeqOps.nil ?_
  intro wb0 hBl; (refine fun v h => ?_; obtain rfl := h); (refine fun v h => ?_; obtain rfl := h); (refine fun v h => ?_; obtain rfl := h); (refine fun v h => ?_; obtain rfl := h); (refine fun v h => ?_; obtain rfl := h);
  refine fun ax hEx => ?_
  simp only [lk, pick, Nat.reduceEqDiff, ↓reduceIte] at hEx
  refine Late.plain (by (first | (simp only [List.getElem?_toArray, List.getElem?_cons_succ, List.getElem?_cons_zero]; rfl) | rfl)) rfl (fun K' hK' => ?_)
  have r75 := hEx.at 75 rfl
  refine op_run (fun ρ hρ qc qf qg => ?_); have q75 := rho hρ r75; clear hρ; go_simp; (try go_bits); (try clear ρ); (try clear qc qf qg r75 q75)
  refine late_next hEx (by decide) hK' (fun a_1 hE_1 => ?_); clear hK' K'; clear hEx
  refine Late.plain (by (first | (simp only [List.getElem?_toArray, List.getElem?_cons_succ, List.getElem?_cons_zero]; rfl) | rfl)) rfl (fun K' hK' => ?_)
  have r77 := hE_1.at 77 rfl
  refine op_run (fun ρ hρ qc qf qg => ?_); have q77 := rho hρ r77; clear hρ; go_simp; (try go_bits); (try clear ρ); (try clear qc qf qg r77 q77)
  refine late_next hE_1 (by decide) hK' (fun a_2 hE_2 => ?_); clear hK' K'; clear hE_1
  refine Late.plain (by (first | (simp only [List.getElem?_toArray, List.getElem?_cons_succ, List.getElem?_cons_zero]; rfl) | rfl)) rfl (fun K' hK' => ?_)
  have hGB := (hR.below hBl).get 2 rfl; have g0 := (hGB.2.2 0 _ rfl).2; have g1 := (hGB.2.2 1 _ rfl).2; clear hGB
  have r78 := hE_2.at 78 rfl; have r76 := hE_2.at 76 rfl
  refine op_run (fun ρ hρ qc qf qg => ?_); have q78 := rho hρ r78; have q76 := rho hρ r76; clear hρ; go_simp; (try go_bits); (try clear ρ); (try clear qc qf qg r78 q78 r76 q76)
  refine late_skip hE_2 hK' (fun a_3 hE_3 => ?_); clear hK' K'; clear hE_2
  refine late_done [1] hE_3 hK (fun a hE => ?_); clear hK K Q' hE_3; simp only [lk, pick, Nat.reduceEqDiff, ↓reduceIte] at hE
  refine world_cut (fun wt => Rws w.heap.size wt ([(Y, (YC M G4 G5 G6 G7 G8).toList), (M, ZC.toList), (G4, ints [50, 54, 80, 81, 200, 200, 210, 212]), (G5, FC.toList), (G6, FC.toList), (G7, FC.toList), (G8, FC.toList)]) ∧ Below w.heap.size w wt) ⟨?_, ?_⟩ (fun wc0 hC => ?_)
  · exact ((hR.below hBl).set 2 (.int .i64 (50)) rfl (by decide)).set 2 (.int .i64 (54)) rfl (by decide)
  · have hBw := hB.trans (hBl.mono hB.size)
    (repeat' (first | (with_reducible exact Below.refl _ _) | (with_reducible assumption) | (with_reducible refine Below.drew ?_) | (with_reducible refine below_drewN ?_ _) | (with_reducible refine Below.setCell ?_ ?_ _) | (with_reducible refine Below.alloc ?_ ?_ _) | go_size | (exact Below.size (by assumption)) | (refine Below.trans ?_ (Below.mono (by assumption) ?_))))
  clear nY yk nG zG hBl hR hB g0 g1
  obtain ⟨hR, hB⟩ := hC

  (repeat (first | (with_reducible refine wp_seq ?_) | (with_reducible refine wp_block ?_) | (with_reducible refine then_n ?_) | (with_reducible refine inBlock_n ?_) | (with_reducible refine then_ret ?_) | (with_reducible refine inBlock_ret ?_) | (with_reducible refine then_exit ?_) | (with_reducible refine inBlock_hit ?_) | (with_reducible refine inBlock_miss (by decide) ?_) | (with_reducible refine wp_ret ?_) | (with_reducible refine wp_exit ?_) | (with_reducible refine wp_skip ?_)))
  have nY := (hR.get 0 rfl).2.1; have yk := ((hR.get 0 rfl).2.2 9 _ rfl).1; have nG := (hR.get 3 rfl).1; have zG := (hR.get 3 rfl).2.1
  simp only [sl] at yk
  refine region_drawn [5, 6, 7] (fun wt => Below wc0.heap.size wc0 wt) (fun w1 w2 => Below w1.heap.size w1 w2) [(0, some 79), (1, some 80), (2, some 81), (3, some 82), (4, some 83)] [79, 80, 81, 82, 83] #[true, true, true, true, true, false, false, false] [1] hE (by kernel_rfl) (by kernel_rfl) (by kernel_rfl) (by kernel_rfl) (by kernel_rfl) (by kernel_rfl) (by kernel_rfl) (by kernel_rfl) (by kernel_rfl) (by kernel_rfl) (by kernel_rfl) (by kernel_rfl) (by decide) ((Below.refl _ _).drew) (fun Q' K hK => ?_)
  refine SeqOps.val ?_ (StepOk.plain (by (first | (simp only [List.getElem?_toArray, List.getElem?_cons_succ, List.getElem?_cons_zero]; rfl) | rfl)) rfl (fun ax wx hS hT' hd K' hK' => ?_)) ?_; rotate_left 1
  · have r1 := hS.at 1 (by decide) (hE.at 1 rfl); obtain ⟨hcT, hfT, hlT, hmT, hwT⟩ := bcell hT'; have hzT := hT'.size
    refine op_run (fun ρ hρ qc qf qg => ?_); have q1 := rho hρ r1; clear hρ; go_simp; (try go_bits); (try clear ρ);
    refine hK'.out _ _ _ rfl ?_ hT' (Below.refl _ _); rfl
  refine SeqOps.val ?_ (StepOk.plain (by (first | (simp only [List.getElem?_toArray, List.getElem?_cons_succ, List.getElem?_cons_zero]; rfl) | rfl)) rfl (fun ax wx hS hT' hd K' hK' => ?_)) ?_; rotate_left 1
  · have r79 := told_val hd 0 (k := 0) (e := 79) rfl (by kernel_rfl) (by kernel_rfl); obtain ⟨hcT, hfT, hlT, hmT, hwT⟩ := bcell hT'; have hzT := hT'.size
    refine op_run (fun ρ hρ qc qf qg => ?_); have q79 := rho hρ r79; clear hρ; go_simp; (try go_bits); (try clear ρ);
    refine hK'.out _ _ _ rfl ?_ hT' (Below.refl _ _); rfl
  refine SeqOps.val ?_ (StepOk.plain (by (first | (simp only [List.getElem?_toArray, List.getElem?_cons_succ, List.getElem?_cons_zero]; rfl) | rfl)) rfl (fun ax wx hS hT' hd K' hK' => ?_)) ?_; rotate_left 1
  · have r80 := told_val hd 0 (k := 1) (e := 80) rfl (by kernel_rfl) (by kernel_rfl); obtain ⟨hcT, hfT, hlT, hmT, hwT⟩ := bcell hT'; have hzT := hT'.size
    refine op_run (fun ρ hρ qc qf qg => ?_); have q80 := rho hρ r80; clear hρ; go_simp; (try go_bits); (try clear ρ);
    refine hK'.out _ _ _ rfl ?_ hT' (Below.refl _ _); rfl
  refine SeqOps.val ?_ (StepOk.plain (by (first | (simp only [List.getElem?_toArray, List.getElem?_cons_succ, List.getElem?_cons_zero]; rfl) | rfl)) rfl (fun ax wx hS hT' hd K' hK' => ?_)) ?_; rotate_left 1
  · have r81 := told_val hd 0 (k := 2) (e := 81) rfl (by kernel_rfl) (by kernel_rfl); obtain ⟨hcT, hfT, hlT, hmT, hwT⟩ := bcell hT'; have hzT := hT'.size
    refine op_run (fun ρ hρ qc qf qg => ?_); have q81 := rho hρ r81; clear hρ; go_simp; (try go_bits); (try clear ρ);
    refine hK'.out _ _ _ rfl ?_ hT' (Below.refl _ _); rfl
  refine SeqOps.val ?_ (StepOk.plain (by (first | (simp only [List.getElem?_toArray, List.getElem?_cons_succ, List.getElem?_cons_zero]; rfl) | rfl)) rfl (fun ax wx hS hT' hd K' hK' => ?_)) ?_; rotate_left 1
  · obtain ⟨hcT, hfT, hlT, hmT, hwT⟩ := bcell hT'; have hzT := hT'.size
    refine op_run (fun ρ hρ qc qf qg => ?_); clear hρ; go_simp; (try go_bits); (try clear ρ);
    go_at_call 41; refine (to_any _ _ _).mono ?_; rintro e w1 ⟨rfl, h1⟩
    refine hK'.out _ _ _ rfl ?_ (hT'.trans (h1.mono hT'.size)) h1; rfl
  refine SeqOps.nil ?_
  intro wb1 hBl; (refine fun v h => ?_; obtain rfl := h); (refine fun v h => ?_; obtain rfl := h); (refine fun v h => ?_; obtain rfl := h); (refine fun v h => ?_; obtain rfl := h); (refine fun v h => ?_; obtain rfl := h);
  refine fun ax hEx => ?_
  simp only [lk, pick, Nat.reduceEqDiff, ↓reduceIte] at hEx
  refine Late.plain (by (first | (simp only [List.getElem?_toArray, List.getElem?_cons_succ, List.getElem?_cons_zero]; rfl) | rfl)) rfl (fun K' hK' => ?_)
  have r82 := hEx.at 82 rfl
  refine op_run (fun ρ hρ qc qf qg => ?_); have q82 := rho hρ r82; clear hρ; go_simp; (try go_bits); (try clear ρ); (try clear qc qf qg r82 q82)
  refine late_next hEx (by decide) hK' (fun a_1 hE_1 => ?_); clear hK' K'; clear hEx
  refine Late.plain (by (first | (simp only [List.getElem?_toArray, List.getElem?_cons_succ, List.getElem?_cons_zero]; rfl) | rfl)) rfl (fun K' hK' => ?_)
  have r84 := hE_1.at 84 rfl
  refine op_run (fun ρ hρ qc qf qg => ?_); have q84 := rho hρ r84; clear hρ; go_simp; (try go_bits); (try clear ρ); (try clear qc qf qg r84 q84)
  refine late_next hE_1 (by decide) hK' (fun a_2 hE_2 => ?_); clear hK' K'; clear hE_1
  refine Late.plain (by (first | (simp only [List.getElem?_toArray, List.getElem?_cons_succ, List.getElem?_cons_zero]; rfl) | rfl)) rfl (fun K' hK' => ?_)
  have hGB := (hR.below hBl).get 3 rfl; have g0 := (hGB.2.2 2 _ rfl).2; have g1 := (hGB.2.2 3 _ rfl).2; clear hGB
  have r85 := hE_2.at 85 rfl; have r83 := hE_2.at 83 rfl
  refine op_run (fun ρ hρ qc qf qg => ?_); have q85 := rho hρ r85; have q83 := rho hρ r83; clear hρ; go_simp; (try go_bits); (try clear ρ); (try clear qc qf qg r85 q85 r83 q83)
  refine late_skip hE_2 hK' (fun a_3 hE_3 => ?_); clear hK' K'; clear hE_2
  refine late_done [1] hE_3 hK (fun a hE => ?_); clear hK K Q' hE_3; simp only [lk, pick, Nat.reduceEqDiff, ↓reduceIte] at hE
  refine world_cut (fun wt => Rws w.heap.size wt ([(Y, (YC M G4 G5 G6 G7 G8).toList), (M, ZC.toList), (G4, ints [50, 54, 80, 81, 200, 200, 210, 212]), (G5, ints [50, 52, 51, 53, 200, 200, 210, 212]), (G6, FC.toList), (G7, FC.toList), (G8, FC.toList)]) ∧ Below w.heap.size w wt) ⟨?_, ?_⟩ (fun wc1 hC => ?_)
  · exact ((hR.below hBl).set 3 (.int .i64 (51)) rfl (by decide)).set 3 (.int .i64 (53)) rfl (by decide)
  · have hBw := hB.trans (hBl.mono hB.size)
    (repeat' (first | (with_reducible exact Below.refl _ _) | (with_reducible assumption) | (with_reducible refine Below.drew ?_) | (with_reducible refine below_drewN ?_ _) | (with_reducible refine Below.setCell ?_ ?_ _) | (with_reducible refine Below.alloc ?_ ?_ _) | go_size | (exact Below.size (by assumption)) | (refine Below.trans ?_ (Below.mono (by assumption) ?_))))
  clear nY yk nG zG hBl hR hB g0 g1
  obtain ⟨hR, hB⟩ := hC

  (repeat (first | (with_reducible refine wp_seq ?_) | (with_reducible refine wp_block ?_) | (with_reducible refine then_n ?_) | (with_reducible refine inBlock_n ?_) | (with_reducible refine then_ret ?_) | (with_reducible refine inBlock_ret ?_) | (with_reducible refine then_exit ?_) | (with_reducible refine inBlock_hit ?_) | (with_reducible refine inBlock_miss (by decide) ?_) | (with_reducible refine wp_ret ?_) | (with_reducible refine wp_exit ?_) | (with_reducible refine wp_skip ?_)))
  have nY := (hR.get 0 rfl).2.1; have yk := ((hR.get 0 rfl).2.2 11 _ rfl).1; have nG := (hR.get 4 rfl).1; have zG := (hR.get 4 rfl).2.1
  simp only [sl] at yk
  refine region_drawn [5, 6, 7] (fun wt => Below wc1.heap.size wc1 wt) (fun w1 w2 => Below w1.heap.size w1 w2) [(0, some 86), (1, some 87), (2, some 88), (3, some 89), (4, some 90)] [86, 87, 88, 89, 90] #[true, true, true, true, true, false, false, false] [1] hE (by kernel_rfl) (by kernel_rfl) (by kernel_rfl) (by kernel_rfl) (by kernel_rfl) (by kernel_rfl) (by kernel_rfl) (by kernel_rfl) (by kernel_rfl) (by kernel_rfl) (by kernel_rfl) (by kernel_rfl) (by decide) ((Below.refl _ _).drew) (fun Q' K hK => ?_)
  refine SeqOps.val ?_ (StepOk.plain (by (first | (simp only [List.getElem?_toArray, List.getElem?_cons_succ, List.getElem?_cons_zero]; rfl) | rfl)) rfl (fun ax wx hS hT' hd K' hK' => ?_)) ?_; rotate_left 1
  · have r1 := hS.at 1 (by decide) (hE.at 1 rfl); obtain ⟨hcT, hfT, hlT, hmT, hwT⟩ := bcell hT'; have hzT := hT'.size
    refine op_run (fun ρ hρ qc qf qg => ?_); have q1 := rho hρ r1; clear hρ; go_simp; (try go_bits); (try clear ρ);
    refine hK'.out _ _ _ rfl ?_ hT' (Below.refl _ _); rfl
  refine SeqOps.val ?_ (StepOk.plain (by (first | (simp only [List.getElem?_toArray, List.getElem?_cons_succ, List.getElem?_cons_zero]; rfl) | rfl)) rfl (fun ax wx hS hT' hd K' hK' => ?_)) ?_; rotate_left 1
  · have r86 := told_val hd 0 (k := 0) (e := 86) rfl (by kernel_rfl) (by kernel_rfl); obtain ⟨hcT, hfT, hlT, hmT, hwT⟩ := bcell hT'; have hzT := hT'.size
    refine op_run (fun ρ hρ qc qf qg => ?_); have q86 := rho hρ r86; clear hρ; go_simp; (try go_bits); (try clear ρ);
    refine hK'.out _ _ _ rfl ?_ hT' (Below.refl _ _); rfl
  refine SeqOps.val ?_ (StepOk.plain (by (first | (simp only [List.getElem?_toArray, List.getElem?_cons_succ, List.getElem?_cons_zero]; rfl) | rfl)) rfl (fun ax wx hS hT' hd K' hK' => ?_)) ?_; rotate_left 1
  · have r87 := told_val hd 0 (k := 1) (e := 87) rfl (by kernel_rfl) (by kernel_rfl); obtain ⟨hcT, hfT, hlT, hmT, hwT⟩ := bcell hT'; have hzT := hT'.size
    refine op_run (fun ρ hρ qc qf qg => ?_); have q87 := rho hρ r87; clear hρ; go_simp; (try go_bits); (try clear ρ);
    refine hK'.out _ _ _ rfl ?_ hT' (Below.refl _ _); rfl
  refine SeqOps.val ?_ (StepOk.plain (by (first | (simp only [List.getElem?_toArray, List.getElem?_cons_succ, List.getElem?_cons_zero]; rfl) | rfl)) rfl (fun ax wx hS hT' hd K' hK' => ?_)) ?_; rotate_left 1
  · have r88 := told_val hd 0 (k := 2) (e := 88) rfl (by kernel_rfl) (by kernel_rfl); obtain ⟨hcT, hfT, hlT, hmT, hwT⟩ := bcell hT'; have hzT := hT'.size
    refine op_run (fun ρ hρ qc qf qg => ?_); have q88 := rho hρ r88; clear hρ; go_simp; (try go_bits); (try clear ρ);
    refine hK'.out _ _ _ rfl ?_ hT' (Below.refl _ _); rfl
  refine SeqOps.val ?_ (StepOk.plain (by (first | (simp only [List.getElem?_toArray, List.getElem?_cons_succ, List.getElem?_cons_zero]; rfl) | rfl)) rfl (fun ax wx hS hT' hd K' hK' => ?_)) ?_; rotate_left 1
  · obtain ⟨hcT, hfT, hlT, hmT, hwT⟩ := bcell hT'; have hzT := hT'.size
    refine op_run (fun ρ hρ qc qf qg => ?_); clear hρ; go_simp; (try go_bits); (try clear ρ);
    go_at_call 41; refine (to_any _ _ _).mono ?_; rintro e w1 ⟨rfl, h1⟩
    refine hK'.out _ _ _ rfl ?_ (hT'.trans (h1.mono hT'.size)) h1; rfl
  refine SeqOps.nil ?_
  intro wb2 hBl; (refine fun v h => ?_; obtain rfl := h); (refine fun v h => ?_; obtain rfl := h); (refine fun v h => ?_; obtain rfl := h); (refine fun v h => ?_; obtain rfl := h); (refine fun v h => ?_; obtain rfl := h);
  refine fun ax hEx => ?_
  simp only [lk, pick, Nat.reduceEqDiff, ↓reduceIte] at hEx
  refine Late.plain (by (first | (simp only [List.getElem?_toArray, List.getElem?_cons_succ, List.getElem?_cons_zero]; rfl) | rfl)) rfl (fun K' hK' => ?_)
  have r89 := hEx.at 89 rfl
  refine op_run (fun ρ hρ qc qf qg => ?_); have q89 := rho hρ r89; clear hρ; go_simp; (try go_bits); (try clear ρ); (try clear qc qf qg r89 q89)
  refine late_next hEx (by decide) hK' (fun a_1 hE_1 => ?_); clear hK' K'; clear hEx
  refine Late.plain (by (first | (simp only [List.getElem?_toArray, List.getElem?_cons_succ, List.getElem?_cons_zero]; rfl) | rfl)) rfl (fun K' hK' => ?_)
  have r91 := hE_1.at 91 rfl
  refine op_run (fun ρ hρ qc qf qg => ?_); have q91 := rho hρ r91; clear hρ; go_simp; (try go_bits); (try clear ρ); (try clear qc qf qg r91 q91)
  refine late_next hE_1 (by decide) hK' (fun a_2 hE_2 => ?_); clear hK' K'; clear hE_1
  refine Late.plain (by (first | (simp only [List.getElem?_toArray, List.getElem?_cons_succ, List.getElem?_cons_zero]; rfl) | rfl)) rfl (fun K' hK' => ?_)
  have hGB := (hR.below hBl).get 4 rfl; have g0 := (hGB.2.2 4 _ rfl).2; have g1 := (hGB.2.2 5 _ rfl).2; clear hGB
  have r92 := hE_2.at 92 rfl; have r90 := hE_2.at 90 rfl
  refine op_run (fun ρ hρ qc qf qg => ?_); have q92 := rho hρ r92; have q90 := rho hρ r90; clear hρ; go_simp; (try go_bits); (try clear ρ); (try clear qc qf qg r92 q92 r90 q90)
  refine late_skip hE_2 hK' (fun a_3 hE_3 => ?_); clear hK' K'; clear hE_2
  refine late_done [1] hE_3 hK (fun a hE => ?_); clear hK K Q' hE_3; simp only [lk, pick, Nat.reduceEqDiff, ↓reduceIte] at hE
  refine world_cut (fun wt => Rws w.heap.size wt ([(Y, (YC M G4 G5 G6 G7 G8).toList), (M, ZC.toList), (G4, ints [50, 54, 80, 81, 200, 200, 210, 212]), (G5, ints [50, 52, 51, 53, 200, 200, 210, 212]), (G6, ints [50, 52, 80, 81, 80, 82, 210, 212]), (G7, FC.toList), (G8, FC.toList)]) ∧ Below w.heap.size w wt) ⟨?_, ?_⟩ (fun wc2 hC => ?_)
  · exact ((hR.below hBl).set 4 (.int .i64 (80)) rfl (by decide)).set 4 (.int .i64 (82)) rfl (by decide)
  · have hBw := hB.trans (hBl.mono hB.size)
    (repeat' (first | (with_reducible exact Below.refl _ _) | (with_reducible assumption) | (with_reducible refine Below.drew ?_) | (with_reducible refine below_drewN ?_ _) | (with_reducible refine Below.setCell ?_ ?_ _) | (with_reducible refine Below.alloc ?_ ?_ _) | go_size | (exact Below.size (by assumption)) | (refine Below.trans ?_ (Below.mono (by assumption) ?_))))
  clear nY yk nG zG hBl hR hB g0 g1
  obtain ⟨hR, hB⟩ := hC

  (repeat (first | (with_reducible refine wp_seq ?_) | (with_reducible refine wp_block ?_) | (with_reducible refine then_n ?_) | (with_reducible refine inBlock_n ?_) | (with_reducible refine then_ret ?_) | (with_reducible refine inBlock_ret ?_) | (with_reducible refine then_exit ?_) | (with_reducible refine inBlock_hit ?_) | (with_reducible refine inBlock_miss (by decide) ?_) | (with_reducible refine wp_ret ?_) | (with_reducible refine wp_exit ?_) | (with_reducible refine wp_skip ?_)))
  have nY := (hR.get 0 rfl).2.1; have yk := ((hR.get 0 rfl).2.2 13 _ rfl).1; have nG := (hR.get 5 rfl).1; have zG := (hR.get 5 rfl).2.1
  simp only [sl] at yk
  refine region_drawn [5, 6, 7] (fun wt => Below wc2.heap.size wc2 wt) (fun w1 w2 => Below w1.heap.size w1 w2) [(0, some 93), (1, some 94), (2, some 95), (3, some 96), (4, some 97)] [93, 94, 95, 96, 97] #[true, true, true, true, true, false, false, false] [1] hE (by kernel_rfl) (by kernel_rfl) (by kernel_rfl) (by kernel_rfl) (by kernel_rfl) (by kernel_rfl) (by kernel_rfl) (by kernel_rfl) (by kernel_rfl) (by kernel_rfl) (by kernel_rfl) (by kernel_rfl) (by decide) ((Below.refl _ _).drew) (fun Q' K hK => ?_)
  refine SeqOps.val ?_ (StepOk.plain (by (first | (simp only [List.getElem?_toArray, List.getElem?_cons_succ, List.getElem?_cons_zero]; rfl) | rfl)) rfl (fun ax wx hS hT' hd K' hK' => ?_)) ?_; rotate_left 1
  · have r1 := hS.at 1 (by decide) (hE.at 1 rfl); obtain ⟨hcT, hfT, hlT, hmT, hwT⟩ := bcell hT'; have hzT := hT'.size
    refine op_run (fun ρ hρ qc qf qg => ?_); have q1 := rho hρ r1; clear hρ; go_simp; (try go_bits); (try clear ρ);
    refine hK'.out _ _ _ rfl ?_ hT' (Below.refl _ _); rfl
  refine SeqOps.val ?_ (StepOk.plain (by (first | (simp only [List.getElem?_toArray, List.getElem?_cons_succ, List.getElem?_cons_zero]; rfl) | rfl)) rfl (fun ax wx hS hT' hd K' hK' => ?_)) ?_; rotate_left 1
  · have r93 := told_val hd 0 (k := 0) (e := 93) rfl (by kernel_rfl) (by kernel_rfl); obtain ⟨hcT, hfT, hlT, hmT, hwT⟩ := bcell hT'; have hzT := hT'.size
    refine op_run (fun ρ hρ qc qf qg => ?_); have q93 := rho hρ r93; clear hρ; go_simp; (try go_bits); (try clear ρ);
    refine hK'.out _ _ _ rfl ?_ hT' (Below.refl _ _); rfl
  refine SeqOps.val ?_ (StepOk.plain (by (first | (simp only [List.getElem?_toArray, List.getElem?_cons_succ, List.getElem?_cons_zero]; rfl) | rfl)) rfl (fun ax wx hS hT' hd K' hK' => ?_)) ?_; rotate_left 1
  · have r94 := told_val hd 0 (k := 1) (e := 94) rfl (by kernel_rfl) (by kernel_rfl); obtain ⟨hcT, hfT, hlT, hmT, hwT⟩ := bcell hT'; have hzT := hT'.size
    refine op_run (fun ρ hρ qc qf qg => ?_); have q94 := rho hρ r94; clear hρ; go_simp; (try go_bits); (try clear ρ);
    refine hK'.out _ _ _ rfl ?_ hT' (Below.refl _ _); rfl
  refine SeqOps.val ?_ (StepOk.plain (by (first | (simp only [List.getElem?_toArray, List.getElem?_cons_succ, List.getElem?_cons_zero]; rfl) | rfl)) rfl (fun ax wx hS hT' hd K' hK' => ?_)) ?_; rotate_left 1
  · have r95 := told_val hd 0 (k := 2) (e := 95) rfl (by kernel_rfl) (by kernel_rfl); obtain ⟨hcT, hfT, hlT, hmT, hwT⟩ := bcell hT'; have hzT := hT'.size
    refine op_run (fun ρ hρ qc qf qg => ?_); have q95 := rho hρ r95; clear hρ; go_simp; (try go_bits); (try clear ρ);
    refine hK'.out _ _ _ rfl ?_ hT' (Below.refl _ _); rfl
  refine SeqOps.val ?_ (StepOk.plain (by (first | (simp only [List.getElem?_toArray, List.getElem?_cons_succ, List.getElem?_cons_zero]; rfl) | rfl)) rfl (fun ax wx hS hT' hd K' hK' => ?_)) ?_; rotate_left 1
  · obtain ⟨hcT, hfT, hlT, hmT, hwT⟩ := bcell hT'; have hzT := hT'.size
    refine op_run (fun ρ hρ qc qf qg => ?_); clear hρ; go_simp; (try go_bits); (try clear ρ);
    go_at_call 41; refine (to_any _ _ _).mono ?_; rintro e w1 ⟨rfl, h1⟩
    refine hK'.out _ _ _ rfl ?_ (hT'.trans (h1.mono hT'.size)) h1; rfl
  refine SeqOps.nil ?_
  intro wb3 hBl; (refine fun v h => ?_; obtain rfl := h); (refine fun v h => ?_; obtain rfl := h); (refine fun v h => ?_; obtain rfl := h); (refine fun v h => ?_; obtain rfl := h); (refine fun v h => ?_; obtain rfl := h);
  refine fun ax hEx => ?_
  simp only [lk, pick, Nat.reduceEqDiff, ↓reduceIte] at hEx
  refine Late.plain (by (first | (simp only [List.getElem?_toArray, List.getElem?_cons_succ, List.getElem?_cons_zero]; rfl) | rfl)) rfl (fun K' hK' => ?_)
  have r96 := hEx.at 96 rfl
  refine op_run (fun ρ hρ qc qf qg => ?_); have q96 := rho hρ r96; clear hρ; go_simp; (try go_bits); (try clear ρ); (try clear qc qf qg r96 q96)
  refine late_next hEx (by decide) hK' (fun a_1 hE_1 => ?_); clear hK' K'; clear hEx
  refine Late.plain (by (first | (simp only [List.getElem?_toArray, List.getElem?_cons_succ, List.getElem?_cons_zero]; rfl) | rfl)) rfl (fun K' hK' => ?_)
  have r98 := hE_1.at 98 rfl
  refine op_run (fun ρ hρ qc qf qg => ?_); have q98 := rho hρ r98; clear hρ; go_simp; (try go_bits); (try clear ρ); (try clear qc qf qg r98 q98)
  refine late_next hE_1 (by decide) hK' (fun a_2 hE_2 => ?_); clear hK' K'; clear hE_1
  refine Late.plain (by (first | (simp only [List.getElem?_toArray, List.getElem?_cons_succ, List.getElem?_cons_zero]; rfl) | rfl)) rfl (fun K' hK' => ?_)
  have hGB := (hR.below hBl).get 5 rfl; have g0 := (hGB.2.2 6 _ rfl).2; have g1 := (hGB.2.2 7 _ rfl).2; clear hGB
  have r99 := hE_2.at 99 rfl; have r97 := hE_2.at 97 rfl
  refine op_run (fun ρ hρ qc qf qg => ?_); have q99 := rho hρ r99; have q97 := rho hρ r97; clear hρ; go_simp; (try go_bits); (try clear ρ); (try clear qc qf qg r99 q99 r97 q97)
  refine late_skip hE_2 hK' (fun a_3 hE_3 => ?_); clear hK' K'; clear hE_2
  refine late_done [1] hE_3 hK (fun a hE => ?_); clear hK K Q' hE_3; simp only [lk, pick, Nat.reduceEqDiff, ↓reduceIte] at hE
  refine world_cut (fun wt => Rws w.heap.size wt ([(Y, (YC M G4 G5 G6 G7 G8).toList), (M, ZC.toList), (G4, ints [50, 54, 80, 81, 200, 200, 210, 212]), (G5, ints [50, 52, 51, 53, 200, 200, 210, 212]), (G6, ints [50, 52, 80, 81, 80, 82, 210, 212]), (G7, ints [50, 52, 80, 81, 200, 200, 212, 211]), (G8, FC.toList)]) ∧ Below w.heap.size w wt) ⟨?_, ?_⟩ (fun wc3 hC => ?_)
  · exact ((hR.below hBl).set 5 (.int .i64 (212)) rfl (by decide)).set 5 (.int .i64 (211)) rfl (by decide)
  · have hBw := hB.trans (hBl.mono hB.size)
    (repeat' (first | (with_reducible exact Below.refl _ _) | (with_reducible assumption) | (with_reducible refine Below.drew ?_) | (with_reducible refine below_drewN ?_ _) | (with_reducible refine Below.setCell ?_ ?_ _) | (with_reducible refine Below.alloc ?_ ?_ _) | go_size | (exact Below.size (by assumption)) | (refine Below.trans ?_ (Below.mono (by assumption) ?_))))
  clear nY yk nG zG hBl hR hB g0 g1
  obtain ⟨hR, hB⟩ := hC

  (repeat (first | (with_reducible refine wp_seq ?_) | (with_reducible refine wp_block ?_) | (with_reducible refine then_n ?_) | (with_reducible refine inBlock_n ?_) | (with_reducible refine then_ret ?_) | (with_reducible refine inBlock_ret ?_) | (with_reducible refine then_exit ?_) | (with_reducible refine inBlock_hit ?_) | (with_reducible refine inBlock_miss (by decide) ?_) | (with_reducible refine wp_ret ?_) | (with_reducible refine wp_exit ?_) | (with_reducible refine wp_skip ?_)))
  have nY := (hR.get 0 rfl).2.1; have yk := ((hR.get 0 rfl).2.2 15 _ rfl).1; have nG := (hR.get 6 rfl).1; have zG := (hR.get 6 rfl).2.1
  simp only [sl] at yk
  refine region_drawn [5, 6, 7] (fun wt => Below wc3.heap.size wc3 wt) (fun w1 w2 => Below w1.heap.size w1 w2) [(0, some 100), (1, some 101), (2, some 102), (3, some 103), (4, some 104)] [100, 101, 102, 103, 104] #[true, true, true, true, true, false, false, false] [1] hE (by kernel_rfl) (by kernel_rfl) (by kernel_rfl) (by kernel_rfl) (by kernel_rfl) (by kernel_rfl) (by kernel_rfl) (by kernel_rfl) (by kernel_rfl) (by kernel_rfl) (by kernel_rfl) (by kernel_rfl) (by decide) ((Below.refl _ _).drew) (fun Q' K hK => ?_)
  refine SeqOps.val ?_ (StepOk.plain (by (first | (simp only [List.getElem?_toArray, List.getElem?_cons_succ, List.getElem?_cons_zero]; rfl) | rfl)) rfl (fun ax wx hS hT' hd K' hK' => ?_)) ?_; rotate_left 1
  · have r1 := hS.at 1 (by decide) (hE.at 1 rfl); obtain ⟨hcT, hfT, hlT, hmT, hwT⟩ := bcell hT'; have hzT := hT'.size
    refine op_run (fun ρ hρ qc qf qg => ?_); have q1 := rho hρ r1; clear hρ; go_simp; (try go_bits); (try clear ρ);
    refine hK'.out _ _ _ rfl ?_ hT' (Below.refl _ _); rfl
  refine SeqOps.val ?_ (StepOk.plain (by (first | (simp only [List.getElem?_toArray, List.getElem?_cons_succ, List.getElem?_cons_zero]; rfl) | rfl)) rfl (fun ax wx hS hT' hd K' hK' => ?_)) ?_; rotate_left 1
  · have r100 := told_val hd 0 (k := 0) (e := 100) rfl (by kernel_rfl) (by kernel_rfl); obtain ⟨hcT, hfT, hlT, hmT, hwT⟩ := bcell hT'; have hzT := hT'.size
    refine op_run (fun ρ hρ qc qf qg => ?_); have q100 := rho hρ r100; clear hρ; go_simp; (try go_bits); (try clear ρ);
    refine hK'.out _ _ _ rfl ?_ hT' (Below.refl _ _); rfl
  refine SeqOps.val ?_ (StepOk.plain (by (first | (simp only [List.getElem?_toArray, List.getElem?_cons_succ, List.getElem?_cons_zero]; rfl) | rfl)) rfl (fun ax wx hS hT' hd K' hK' => ?_)) ?_; rotate_left 1
  · have r101 := told_val hd 0 (k := 1) (e := 101) rfl (by kernel_rfl) (by kernel_rfl); obtain ⟨hcT, hfT, hlT, hmT, hwT⟩ := bcell hT'; have hzT := hT'.size
    refine op_run (fun ρ hρ qc qf qg => ?_); have q101 := rho hρ r101; clear hρ; go_simp; (try go_bits); (try clear ρ);
    refine hK'.out _ _ _ rfl ?_ hT' (Below.refl _ _); rfl
  refine SeqOps.val ?_ (StepOk.plain (by (first | (simp only [List.getElem?_toArray, List.getElem?_cons_succ, List.getElem?_cons_zero]; rfl) | rfl)) rfl (fun ax wx hS hT' hd K' hK' => ?_)) ?_; rotate_left 1
  · have r102 := told_val hd 0 (k := 2) (e := 102) rfl (by kernel_rfl) (by kernel_rfl); obtain ⟨hcT, hfT, hlT, hmT, hwT⟩ := bcell hT'; have hzT := hT'.size
    refine op_run (fun ρ hρ qc qf qg => ?_); have q102 := rho hρ r102; clear hρ; go_simp; (try go_bits); (try clear ρ);
    refine hK'.out _ _ _ rfl ?_ hT' (Below.refl _ _); rfl
  refine SeqOps.val ?_ (StepOk.plain (by (first | (simp only [List.getElem?_toArray, List.getElem?_cons_succ, List.getElem?_cons_zero]; rfl) | rfl)) rfl (fun ax wx hS hT' hd K' hK' => ?_)) ?_; rotate_left 1
  · obtain ⟨hcT, hfT, hlT, hmT, hwT⟩ := bcell hT'; have hzT := hT'.size
    refine op_run (fun ρ hρ qc qf qg => ?_); clear hρ; go_simp; (try go_bits); (try clear ρ);
    go_at_call 41; refine (to_any _ _ _).mono ?_; rintro e w1 ⟨rfl, h1⟩
    refine hK'.out _ _ _ rfl ?_ (hT'.trans (h1.mono hT'.size)) h1; rfl
  refine SeqOps.nil ?_
  intro wb4 hBl; (refine fun v h => ?_; obtain rfl := h); (refine fun v h => ?_; obtain rfl := h); (refine fun v h => ?_; obtain rfl := h); (refine fun v h => ?_; obtain rfl := h); (refine fun v h => ?_; obtain rfl := h);
  refine fun ax hEx => ?_
  simp only [lk, pick, Nat.reduceEqDiff, ↓reduceIte] at hEx
  refine Late.plain (by (first | (simp only [List.getElem?_toArray, List.getElem?_cons_succ, List.getElem?_cons_zero]; rfl) | rfl)) rfl (fun K' hK' => ?_)
  have r103 := hEx.at 103 rfl
  refine op_run (fun ρ hρ qc qf qg => ?_); have q103 := rho hρ r103; clear hρ; go_simp; (try go_bits); (try clear ρ); (try clear qc qf qg r103 q103)
  refine late_next hEx (by decide) hK' (fun a_1 hE_1 => ?_); clear hK' K'; clear hEx
  refine Late.plain (by (first | (simp only [List.getElem?_toArray, List.getElem?_cons_succ, List.getElem?_cons_zero]; rfl) | rfl)) rfl (fun K' hK' => ?_)
  have r105 := hE_1.at 105 rfl
  refine op_run (fun ρ hρ qc qf qg => ?_); have q105 := rho hρ r105; clear hρ; go_simp; (try go_bits); (try clear ρ); (try clear qc qf qg r105 q105)
  refine late_next hE_1 (by decide) hK' (fun a_2 hE_2 => ?_); clear hK' K'; clear hE_1
  refine Late.plain (by (first | (simp only [List.getElem?_toArray, List.getElem?_cons_succ, List.getElem?_cons_zero]; rfl) | rfl)) rfl (fun K' hK' => ?_)
  have hGB := (hR.below hBl).get 6 rfl; have g0 := (hGB.2.2 6 _ rfl).2; have g1 := (hGB.2.2 7 _ rfl).2; clear hGB
  have r106 := hE_2.at 106 rfl; have r104 := hE_2.at 104 rfl
  refine op_run (fun ρ hρ qc qf qg => ?_); have q106 := rho hρ r106; have q104 := rho hρ r104; clear hρ; go_simp; (try go_bits); (try clear ρ); (try clear qc qf qg r106 q106 r104 q104)
  refine late_skip hE_2 hK' (fun a_3 hE_3 => ?_); clear hK' K'; clear hE_2
  refine late_done [1] hE_3 hK (fun a hE => ?_); clear hK K Q' hE_3; simp only [lk, pick, Nat.reduceEqDiff, ↓reduceIte] at hE
  refine world_cut (fun wt => Rws w.heap.size wt (badsL Y M G4 G5 G6 G7 G8) ∧ Below w.heap.size w wt) ⟨?_, ?_⟩ (fun wc4 hC => ?_)
  · exact ((hR.below hBl).set 6 (.int .i64 (4318)) rfl (by decide)).set 6 (.int .i64 (4320)) rfl (by decide)
  · have hBw := hB.trans (hBl.mono hB.size)
    (repeat' (first | (with_reducible exact Below.refl _ _) | (with_reducible assumption) | (with_reducible refine Below.drew ?_) | (with_reducible refine below_drewN ?_ _) | (with_reducible refine Below.setCell ?_ ?_ _) | (with_reducible refine Below.alloc ?_ ?_ _) | go_size | (exact Below.size (by assumption)) | (refine Below.trans ?_ (Below.mono (by assumption) ?_))))
  clear nY yk nG zG hBl hR hB g0 g1
  obtain ⟨hR, hB⟩ := hC

  (repeat (first | (with_reducible refine wp_seq ?_) | (with_reducible refine wp_block ?_) | (with_reducible refine then_n ?_) | (with_reducible refine inBlock_n ?_) | (with_reducible refine then_ret ?_) | (with_reducible refine inBlock_ret ?_) | (with_reducible refine then_exit ?_) | (with_reducible refine inBlock_hit ?_) | (with_reducible refine inBlock_miss (by decide) ?_) | (with_reducible refine wp_ret ?_) | (with_reducible refine wp_exit ?_) | (with_reducible refine wp_skip ?_)))
  refine region_straight (m := 1) rfl (fun Q' K hK => ?_)
  refine Late.plain (by (first | (simp only [List.getElem?_toArray, List.getElem?_cons_succ, List.getElem?_cons_zero]; rfl) | rfl)) rfl (fun K' hK' => ?_)
  refine op_run (fun ρ hρ qc qf qg => ?_); clear hρ; go_simp; (try go_bits); (try clear ρ); (try clear qc qf qg)
  refine late_next hE (by decide) hK' (fun a_1 hE_1 => ?_); clear hK' K'; clear hE a
  refine late_done [1, 2] hE_1 hK (fun a hE => ?_); clear hK K Q' hE_1; simp only [lk, pick, Nat.reduceEqDiff, ↓reduceIte] at hE
  (repeat (first | (with_reducible refine wp_seq ?_) | (with_reducible refine wp_block ?_) | (with_reducible refine then_n ?_) | (with_reducible refine inBlock_n ?_) | (with_reducible refine then_ret ?_) | (with_reducible refine inBlock_ret ?_) | (with_reducible refine then_exit ?_) | (with_reducible refine inBlock_hit ?_) | (with_reducible refine inBlock_miss (by decide) ?_) | (with_reducible refine wp_ret ?_) | (with_reducible refine wp_exit ?_) | (with_reducible refine wp_skip ?_)))
  refine loop_st (fun (i : Nat) a wr => i ≤ 8 ∧ Fits 542 [(1, .slice (some ⟨Y, 0, none⟩) 8 8), (2, .int .i64 i)] a ∧ Rws w.heap.size wr (badsL Y M G4 G5 G6 G7 G8) ∧ Below w.heap.size w wr) (fun i => 8 - i) 0 ?_ (fun i a wr hI => ?_)
  · exact ⟨Nat.zero_le _, by simpa using hE, hR, hB⟩
  clear hE hR hB
  obtain ⟨hi, hE, hR, hB⟩ := hI
  (repeat (first | (with_reducible refine wp_seq ?_) | (with_reducible refine wp_block ?_) | (with_reducible refine then_n ?_) | (with_reducible refine inBlock_n ?_) | (with_reducible refine then_ret ?_) | (with_reducible refine inBlock_ret ?_) | (with_reducible refine then_exit ?_) | (with_reducible refine inBlock_hit ?_) | (with_reducible refine inBlock_miss (by decide) ?_) | (with_reducible refine wp_ret ?_) | (with_reducible refine wp_exit ?_) | (with_reducible refine wp_skip ?_)))
  refine region_straight (m := 4) rfl (fun Q' K hK => ?_)
  refine Late.plain (by (first | (simp only [List.getElem?_toArray, List.getElem?_cons_succ, List.getElem?_cons_zero]; rfl) | rfl)) rfl (fun K' hK' => ?_)
  have r2 := hE.at 2 rfl
  refine op_run (fun ρ hρ qc qf qg => ?_); have q2 := rho hρ r2; clear hρ; go_simp; (try go_bits); (try clear ρ); (try clear qc qf qg r2 q2)
  refine late_next hE (by decide) hK' (fun a_1 hE_1 => ?_); clear hK' K'; clear hE a
  refine Late.plain (by (first | (simp only [List.getElem?_toArray, List.getElem?_cons_succ, List.getElem?_cons_zero]; rfl) | rfl)) rfl (fun K' hK' => ?_)
  have r1 := hE_1.at 1 rfl
  refine op_run (fun ρ hρ qc qf qg => ?_); have q1 := rho hρ r1; clear hρ; go_simp; (try go_bits); (try clear ρ); (try clear qc qf qg r1 q1)
  refine late_next hE_1 (by decide) hK' (fun a_2 hE_2 => ?_); clear hK' K'; clear hE_1
  refine Late.plain (by (first | (simp only [List.getElem?_toArray, List.getElem?_cons_succ, List.getElem?_cons_zero]; rfl) | rfl)) rfl (fun K' hK' => ?_)
  have r108 := hE_2.at 108 rfl
  refine op_run (fun ρ hρ qc qf qg => ?_); have q108 := rho hρ r108; clear hρ; go_simp; (try go_bits); (try clear ρ); (try clear qc qf qg r108 q108)
  refine late_next hE_2 (by decide) hK' (fun a_3 hE_3 => ?_); clear hK' K'; clear hE_2
  refine Late.plain (by (first | (simp only [List.getElem?_toArray, List.getElem?_cons_succ, List.getElem?_cons_zero]; rfl) | rfl)) rfl (fun K' hK' => ?_)
  have r107 := hE_3.at 107 rfl; have r109 := hE_3.at 109 rfl
  refine op_run (fun ρ hρ qc qf qg => ?_); have q107 := rho hρ r107; have q109 := rho hρ r109; clear hρ; go_simp; (try go_bits); (try clear ρ); (try clear qc qf qg r107 q107 r109 q109)
  refine late_next hE_3 (by decide) hK' (fun a_4 hE_4 => ?_); clear hK' K'; clear hE_3
  refine late_done [1, 2, 110] hE_4 hK (fun a hE => ?_); clear hK K Q' hE_4; simp only [lk, pick, Nat.reduceEqDiff, ↓reduceIte] at hE
  (repeat (first | (with_reducible refine wp_seq ?_) | (with_reducible refine wp_block ?_) | (with_reducible refine then_n ?_) | (with_reducible refine inBlock_n ?_) | (with_reducible refine then_ret ?_) | (with_reducible refine inBlock_ret ?_) | (with_reducible refine then_exit ?_) | (with_reducible refine inBlock_hit ?_) | (with_reducible refine inBlock_miss (by decide) ?_) | (with_reducible refine wp_ret ?_) | (with_reducible refine wp_exit ?_) | (with_reducible refine wp_skip ?_)))
  refine cond_part hE (t := 110) rfl (fun h => ?_) (fun h => ?_)
  · have hlt : i < 8 := by have := of_decide_eq_true h; omega
    have hltI : (i : Int) < 8 := by omega
    clear h
    obtain ⟨set, A, nf, cap, fs, c0, c1, hfl, hA, hOk⟩ := bads_at hR i hlt
    have nY := (hR.get 0 rfl).2.1
    have HO := hid hOk
    have HF := hid hfl
    clear hOk hfl
    have hBc : Below wr.heap.size wr wr := Below.refl _ _

    (repeat (first | (with_reducible refine wp_seq ?_) | (with_reducible refine wp_block ?_) | (with_reducible refine then_n ?_) | (with_reducible refine inBlock_n ?_) | (with_reducible refine then_ret ?_) | (with_reducible refine inBlock_ret ?_) | (with_reducible refine then_exit ?_) | (with_reducible refine inBlock_hit ?_) | (with_reducible refine inBlock_miss (by decide) ?_) | (with_reducible refine wp_ret ?_) | (with_reducible refine wp_exit ?_) | (with_reducible refine wp_skip ?_)))
    have hAc := (hA.below hBc).more hBc.size
    refine region_straight (m := 11) rfl (fun Q' K hK => ?_)
    refine Late.plain (by (first | (simp only [List.getElem?_toArray, List.getElem?_cons_succ, List.getElem?_cons_zero]; rfl) | rfl)) rfl (fun K' hK' => ?_)
    have r1 := hE.at 1 rfl
    refine op_run (fun ρ hρ qc qf qg => ?_); have q1 := rho hρ r1; clear hρ; go_simp; (try go_bits); (try clear ρ); (try clear qc qf qg r1 q1)
    refine late_next hE (by decide) hK' (fun a_1 hE_1 => ?_); clear hK' K'; clear hE a
    refine Late.plain (by (first | (simp only [List.getElem?_toArray, List.getElem?_cons_succ, List.getElem?_cons_zero]; rfl) | rfl)) rfl (fun K' hK' => ?_)
    have r2 := hE_1.at 2 rfl
    refine op_run (fun ρ hρ qc qf qg => ?_); have q2 := rho hρ r2; clear hρ; go_simp; (try go_bits); (try clear ρ); (try clear qc qf qg r2 q2)
    refine late_next hE_1 (by decide) hK' (fun a_2 hE_2 => ?_); clear hK' K'; clear hE_1
    refine Late.plain (by (first | (simp only [List.getElem?_toArray, List.getElem?_cons_succ, List.getElem?_cons_zero]; rfl) | rfl)) rfl (fun K' hK' => ?_)
    have r114 := hE_2.at 114 rfl; have r115 := hE_2.at 115 rfl
    refine op_run (fun ρ hρ qc qf qg => ?_); have q114 := rho hρ r114; have q115 := rho hρ r115; clear hρ; go_simp; (try go_bits); (try clear ρ); (try clear qc qf qg r114 q114 r115 q115)
    refine late_next hE_2 (by decide) hK' (fun a_3 hE_3 => ?_); clear hK' K'; clear hE_2
    refine Late.plain (by (first | (simp only [List.getElem?_toArray, List.getElem?_cons_succ, List.getElem?_cons_zero]; rfl) | rfl)) rfl (fun K' hK' => ?_)
    have r116 := hE_3.at 116 rfl
    refine op_run (fun ρ hρ qc qf qg => ?_); have q116 := rho hρ r116; clear hρ; go_simp; (try go_bits); (try clear ρ); (try clear qc qf qg r116 q116)
    refine late_next hE_3 (by decide) hK' (fun a_4 hE_4 => ?_); clear hK' K'; clear hE_3
    refine Late.plain (by (first | (simp only [List.getElem?_toArray, List.getElem?_cons_succ, List.getElem?_cons_zero]; rfl) | rfl)) rfl (fun K' hK' => ?_)
    have r117 := hE_4.at 117 rfl
    refine op_run (fun ρ hρ qc qf qg => ?_); have q117 := rho hρ r117; clear hρ; go_simp; (try go_bits); (try clear ρ); (try clear qc qf qg r117 q117)
    go_at_call 14; refine (kShows (bad_shows HO.out (-1)) HF.out _ hAc).mono ?_; rintro e w1 ⟨rfl, hb1⟩
    refine late_next hE_4 (by decide) hK' (fun a_5 hE_5 => ?_); clear hK' K'; clear hE_4
    refine Late.plain (by (first | (simp only [List.getElem?_toArray, List.getElem?_cons_succ, List.getElem?_cons_zero]; rfl) | rfl)) rfl (fun K' hK' => ?_)
    have r118 := hE_5.at 118 rfl
    refine op_run (fun ρ hρ qc qf qg => ?_); have q118 := rho hρ r118; clear hρ; go_simp; (try go_bits); (try clear ρ); (try clear qc qf qg r118 q118)
    refine late_next hE_5 (by decide) hK' (fun a_6 hE_6 => ?_); clear hK' K'; clear hE_5
    refine Late.plain (by (first | (simp only [List.getElem?_toArray, List.getElem?_cons_succ, List.getElem?_cons_zero]; rfl) | rfl)) rfl (fun K' hK' => ?_)
    have r113 := hE_6.at 113 rfl
    refine op_run (fun ρ hρ qc qf qg => ?_); have q113 := rho hρ r113; clear hρ; go_simp; (try go_bits); (try clear ρ); (try clear qc qf qg r113 q113)
    refine late_next hE_6 (by decide) hK' (fun a_7 hE_7 => ?_); clear hK' K'; clear hE_6
    refine Late.plain (by (first | (simp only [List.getElem?_toArray, List.getElem?_cons_succ, List.getElem?_cons_zero]; rfl) | rfl)) rfl (fun K' hK' => ?_)
    have r113 := hE_7.at 113 rfl
    refine op_run (fun ρ hρ qc qf qg => ?_); have q113 := rho hρ r113; clear hρ; go_simp; (try go_bits); (try clear ρ); (try clear qc qf qg r113 q113)
    refine late_next hE_7 (by decide) hK' (fun a_8 hE_8 => ?_); clear hK' K'; clear hE_7
    refine Late.plain (by (first | (simp only [List.getElem?_toArray, List.getElem?_cons_succ, List.getElem?_cons_zero]; rfl) | rfl)) rfl (fun K' hK' => ?_)
    refine op_run (fun ρ hρ qc qf qg => ?_); clear hρ; go_simp; (try go_bits); (try clear ρ); (try clear qc qf qg)
    refine late_next hE_8 (by decide) hK' (fun a_9 hE_9 => ?_); clear hK' K'; clear hE_8
    refine Late.plain (by (first | (simp only [List.getElem?_toArray, List.getElem?_cons_succ, List.getElem?_cons_zero]; rfl) | rfl)) rfl (fun K' hK' => ?_)
    have r3 := hE_9.at 3 rfl; have r119 := hE_9.at 119 rfl
    refine op_run (fun ρ hρ qc qf qg => ?_); have q3 := rho hρ r3; have q119 := rho hρ r119; clear hρ; go_simp; (try go_bits); (try clear ρ); (try clear qc qf qg r3 q3 r119 q119)
    refine late_skip hE_9 hK' (fun a_10 hE_10 => ?_); clear hK' K'; clear hE_9
    refine Late.plain (by (first | (simp only [List.getElem?_toArray, List.getElem?_cons_succ, List.getElem?_cons_zero]; rfl) | rfl)) rfl (fun K' hK' => ?_)
    have r120 := hE_10.at 120 rfl
    refine op_run (fun ρ hρ qc qf qg => ?_); have q120 := rho hρ r120; clear hρ; go_simp; (try go_bits); (try clear ρ); (try clear qc qf qg r120 q120)
    refine late_next hE_10 (by decide) hK' (fun a_11 hE_11 => ?_); clear hK' K'; clear hE_10
    refine late_done [1, 2, 4] hE_11 hK (fun a hE => ?_); clear hK K Q' hE_11; simp only [lk, pick, Nat.reduceEqDiff, ↓reduceIte] at hE
    refine world_cut (fun wt => Below wr.heap.size wr wt) ?_ (fun w10 hBd => ?_)
    · have hb := hBc.trans (hb1.mono hBc.size)
      have hz := hb.size
      (repeat' (first | (with_reducible exact Below.refl _ _) | (with_reducible assumption) | (with_reducible refine Below.drew ?_) | (with_reducible refine below_drewN ?_ _) | (with_reducible refine Below.setCell ?_ ?_ _) | (with_reducible refine Below.alloc ?_ ?_ _) | go_size | (exact Below.size (by assumption)) | (refine Below.trans ?_ (Below.mono (by assumption) ?_))))
    clear hBc hb1 hAc
    have hBc := hBd
    clear hBd
    (repeat (first | (with_reducible refine wp_seq ?_) | (with_reducible refine wp_block ?_) | (with_reducible refine then_n ?_) | (with_reducible refine inBlock_n ?_) | (with_reducible refine then_ret ?_) | (with_reducible refine inBlock_ret ?_) | (with_reducible refine then_exit ?_) | (with_reducible refine inBlock_hit ?_) | (with_reducible refine inBlock_miss (by decide) ?_) | (with_reducible refine wp_ret ?_) | (with_reducible refine wp_exit ?_) | (with_reducible refine wp_skip ?_)))
    obtain ⟨hcR, hfR, hlR, hmR, hwR⟩ := bcell hBc
    have hAc := (hA.below hBc).more hBc.size
    refine region_straight (m := 11) rfl (fun Q' K hK => ?_)
    refine Late.plain (by (first | (simp only [List.getElem?_toArray, List.getElem?_cons_succ, List.getElem?_cons_zero]; rfl) | rfl)) rfl (fun K' hK' => ?_)
    have r1 := hE.at 1 rfl
    refine op_run (fun ρ hρ qc qf qg => ?_); have q1 := rho hρ r1; clear hρ; go_simp; (try go_bits); (try clear ρ); (try clear qc qf qg r1 q1)
    refine late_next hE (by decide) hK' (fun a_1 hE_1 => ?_); clear hK' K'; clear hE a
    refine Late.plain (by (first | (simp only [List.getElem?_toArray, List.getElem?_cons_succ, List.getElem?_cons_zero]; rfl) | rfl)) rfl (fun K' hK' => ?_)
    have r2 := hE_1.at 2 rfl
    refine op_run (fun ρ hρ qc qf qg => ?_); have q2 := rho hρ r2; clear hρ; go_simp; (try go_bits); (try clear ρ); (try clear qc qf qg r2 q2)
    refine late_next hE_1 (by decide) hK' (fun a_2 hE_2 => ?_); clear hK' K'; clear hE_1
    refine Late.plain (by (first | (simp only [List.getElem?_toArray, List.getElem?_cons_succ, List.getElem?_cons_zero]; rfl) | rfl)) rfl (fun K' hK' => ?_)
    have r122 := hE_2.at 122 rfl; have r123 := hE_2.at 123 rfl
    refine op_run (fun ρ hρ qc qf qg => ?_); have q122 := rho hρ r122; have q123 := rho hρ r123; clear hρ; go_simp; (try go_bits); (try clear ρ); (try clear qc qf qg r122 q122 r123 q123)
    refine late_next hE_2 (by decide) hK' (fun a_3 hE_3 => ?_); clear hK' K'; clear hE_2
    refine Late.plain (by (first | (simp only [List.getElem?_toArray, List.getElem?_cons_succ, List.getElem?_cons_zero]; rfl) | rfl)) rfl (fun K' hK' => ?_)
    have r124 := hE_3.at 124 rfl
    refine op_run (fun ρ hρ qc qf qg => ?_); have q124 := rho hρ r124; clear hρ; go_simp; (try go_bits); (try clear ρ); (try clear qc qf qg r124 q124)
    refine late_next hE_3 (by decide) hK' (fun a_4 hE_4 => ?_); clear hK' K'; clear hE_3
    refine Late.plain (by (first | (simp only [List.getElem?_toArray, List.getElem?_cons_succ, List.getElem?_cons_zero]; rfl) | rfl)) rfl (fun K' hK' => ?_)
    have r125 := hE_4.at 125 rfl
    refine op_run (fun ρ hρ qc qf qg => ?_); have q125 := rho hρ r125; clear hρ; go_simp; (try go_bits); (try clear ρ); (try clear qc qf qg r125 q125)
    go_at_call 18; refine (kMeans (bad_means HO.out (-1)) HF.out _ hAc).mono ?_; rintro e w1 ⟨rfl, hb1⟩
    refine late_next hE_4 (by decide) hK' (fun a_5 hE_5 => ?_); clear hK' K'; clear hE_4
    refine Late.plain (by (first | (simp only [List.getElem?_toArray, List.getElem?_cons_succ, List.getElem?_cons_zero]; rfl) | rfl)) rfl (fun K' hK' => ?_)
    have r126 := hE_5.at 126 rfl
    refine op_run (fun ρ hρ qc qf qg => ?_); have q126 := rho hρ r126; clear hρ; go_simp; (try go_bits); (try clear ρ); (try clear qc qf qg r126 q126)
    refine late_next hE_5 (by decide) hK' (fun a_6 hE_6 => ?_); clear hK' K'; clear hE_5
    refine Late.plain (by (first | (simp only [List.getElem?_toArray, List.getElem?_cons_succ, List.getElem?_cons_zero]; rfl) | rfl)) rfl (fun K' hK' => ?_)
    have r121 := hE_6.at 121 rfl
    refine op_run (fun ρ hρ qc qf qg => ?_); have q121 := rho hρ r121; clear hρ; go_simp; (try go_bits); (try clear ρ); (try clear qc qf qg r121 q121)
    refine late_next hE_6 (by decide) hK' (fun a_7 hE_7 => ?_); clear hK' K'; clear hE_6
    refine Late.plain (by (first | (simp only [List.getElem?_toArray, List.getElem?_cons_succ, List.getElem?_cons_zero]; rfl) | rfl)) rfl (fun K' hK' => ?_)
    have r121 := hE_7.at 121 rfl
    refine op_run (fun ρ hρ qc qf qg => ?_); have q121 := rho hρ r121; clear hρ; go_simp; (try go_bits); (try clear ρ); (try clear qc qf qg r121 q121)
    refine late_next hE_7 (by decide) hK' (fun a_8 hE_8 => ?_); clear hK' K'; clear hE_7
    refine Late.plain (by (first | (simp only [List.getElem?_toArray, List.getElem?_cons_succ, List.getElem?_cons_zero]; rfl) | rfl)) rfl (fun K' hK' => ?_)
    refine op_run (fun ρ hρ qc qf qg => ?_); clear hρ; go_simp; (try go_bits); (try clear ρ); (try clear qc qf qg)
    refine late_next hE_8 (by decide) hK' (fun a_9 hE_9 => ?_); clear hK' K'; clear hE_8
    refine Late.plain (by (first | (simp only [List.getElem?_toArray, List.getElem?_cons_succ, List.getElem?_cons_zero]; rfl) | rfl)) rfl (fun K' hK' => ?_)
    have r5 := hE_9.at 5 rfl; have r127 := hE_9.at 127 rfl
    refine op_run (fun ρ hρ qc qf qg => ?_); have q5 := rho hρ r5; have q127 := rho hρ r127; clear hρ; go_simp; (try go_bits); (try clear ρ); (try clear qc qf qg r5 q5 r127 q127)
    refine late_skip hE_9 hK' (fun a_10 hE_10 => ?_); clear hK' K'; clear hE_9
    refine Late.plain (by (first | (simp only [List.getElem?_toArray, List.getElem?_cons_succ, List.getElem?_cons_zero]; rfl) | rfl)) rfl (fun K' hK' => ?_)
    have r128 := hE_10.at 128 rfl
    refine op_run (fun ρ hρ qc qf qg => ?_); have q128 := rho hρ r128; clear hρ; go_simp; (try go_bits); (try clear ρ); (try clear qc qf qg r128 q128)
    refine late_next hE_10 (by decide) hK' (fun a_11 hE_11 => ?_); clear hK' K'; clear hE_10
    refine late_done [1, 2, 4, 6] hE_11 hK (fun a hE => ?_); clear hK K Q' hE_11; simp only [lk, pick, Nat.reduceEqDiff, ↓reduceIte] at hE
    refine world_cut (fun wt => Below wr.heap.size wr wt) ?_ (fun w11 hBd => ?_)
    · have hb := hBc.trans (hb1.mono hBc.size)
      have hz := hb.size
      (repeat' (first | (with_reducible exact Below.refl _ _) | (with_reducible assumption) | (with_reducible refine Below.drew ?_) | (with_reducible refine below_drewN ?_ _) | (with_reducible refine Below.setCell ?_ ?_ _) | (with_reducible refine Below.alloc ?_ ?_ _) | go_size | (exact Below.size (by assumption)) | (refine Below.trans ?_ (Below.mono (by assumption) ?_))))
    clear hBc hb1 hAc hcR hfR hlR hmR hwR
    have hBc := hBd
    clear hBd
    (repeat (first | (with_reducible refine wp_seq ?_) | (with_reducible refine wp_block ?_) | (with_reducible refine then_n ?_) | (with_reducible refine inBlock_n ?_) | (with_reducible refine then_ret ?_) | (with_reducible refine inBlock_ret ?_) | (with_reducible refine then_exit ?_) | (with_reducible refine inBlock_hit ?_) | (with_reducible refine inBlock_miss (by decide) ?_) | (with_reducible refine wp_ret ?_) | (with_reducible refine wp_exit ?_) | (with_reducible refine wp_skip ?_)))
    obtain ⟨hcR, hfR, hlR, hmR, hwR⟩ := bcell hBc
    have hAc := (hA.below hBc).more hBc.size
    refine region_straight (m := 11) rfl (fun Q' K hK => ?_)
    refine Late.plain (by (first | (simp only [List.getElem?_toArray, List.getElem?_cons_succ, List.getElem?_cons_zero]; rfl) | rfl)) rfl (fun K' hK' => ?_)
    have r1 := hE.at 1 rfl
    refine op_run (fun ρ hρ qc qf qg => ?_); have q1 := rho hρ r1; clear hρ; go_simp; (try go_bits); (try clear ρ); (try clear qc qf qg r1 q1)
    refine late_next hE (by decide) hK' (fun a_1 hE_1 => ?_); clear hK' K'; clear hE a
    refine Late.plain (by (first | (simp only [List.getElem?_toArray, List.getElem?_cons_succ, List.getElem?_cons_zero]; rfl) | rfl)) rfl (fun K' hK' => ?_)
    have r2 := hE_1.at 2 rfl
    refine op_run (fun ρ hρ qc qf qg => ?_); have q2 := rho hρ r2; clear hρ; go_simp; (try go_bits); (try clear ρ); (try clear qc qf qg r2 q2)
    refine late_next hE_1 (by decide) hK' (fun a_2 hE_2 => ?_); clear hK' K'; clear hE_1
    refine Late.plain (by (first | (simp only [List.getElem?_toArray, List.getElem?_cons_succ, List.getElem?_cons_zero]; rfl) | rfl)) rfl (fun K' hK' => ?_)
    have r130 := hE_2.at 130 rfl; have r131 := hE_2.at 131 rfl
    refine op_run (fun ρ hρ qc qf qg => ?_); have q130 := rho hρ r130; have q131 := rho hρ r131; clear hρ; go_simp; (try go_bits); (try clear ρ); (try clear qc qf qg r130 q130 r131 q131)
    refine late_next hE_2 (by decide) hK' (fun a_3 hE_3 => ?_); clear hK' K'; clear hE_2
    refine Late.plain (by (first | (simp only [List.getElem?_toArray, List.getElem?_cons_succ, List.getElem?_cons_zero]; rfl) | rfl)) rfl (fun K' hK' => ?_)
    have r132 := hE_3.at 132 rfl
    refine op_run (fun ρ hρ qc qf qg => ?_); have q132 := rho hρ r132; clear hρ; go_simp; (try go_bits); (try clear ρ); (try clear qc qf qg r132 q132)
    refine late_next hE_3 (by decide) hK' (fun a_4 hE_4 => ?_); clear hK' K'; clear hE_3
    refine Late.plain (by (first | (simp only [List.getElem?_toArray, List.getElem?_cons_succ, List.getElem?_cons_zero]; rfl) | rfl)) rfl (fun K' hK' => ?_)
    have r133 := hE_4.at 133 rfl
    refine op_run (fun ρ hρ qc qf qg => ?_); have q133 := rho hρ r133; clear hρ; go_simp; (try go_bits); (try clear ρ); (try clear qc qf qg r133 q133)
    go_at_call 20; refine (kPassed (bad_passed HO.out (-1) (-1)) HF.out _ hAc).mono ?_; rintro e w1 ⟨rfl, hb1⟩
    refine late_next hE_4 (by decide) hK' (fun a_5 hE_5 => ?_); clear hK' K'; clear hE_4
    refine Late.plain (by (first | (simp only [List.getElem?_toArray, List.getElem?_cons_succ, List.getElem?_cons_zero]; rfl) | rfl)) rfl (fun K' hK' => ?_)
    have r134 := hE_5.at 134 rfl
    refine op_run (fun ρ hρ qc qf qg => ?_); have q134 := rho hρ r134; clear hρ; go_simp; (try go_bits); (try clear ρ); (try clear qc qf qg r134 q134)
    refine late_next hE_5 (by decide) hK' (fun a_6 hE_6 => ?_); clear hK' K'; clear hE_5
    refine Late.plain (by (first | (simp only [List.getElem?_toArray, List.getElem?_cons_succ, List.getElem?_cons_zero]; rfl) | rfl)) rfl (fun K' hK' => ?_)
    have r129 := hE_6.at 129 rfl
    refine op_run (fun ρ hρ qc qf qg => ?_); have q129 := rho hρ r129; clear hρ; go_simp; (try go_bits); (try clear ρ); (try clear qc qf qg r129 q129)
    refine late_next hE_6 (by decide) hK' (fun a_7 hE_7 => ?_); clear hK' K'; clear hE_6
    refine Late.plain (by (first | (simp only [List.getElem?_toArray, List.getElem?_cons_succ, List.getElem?_cons_zero]; rfl) | rfl)) rfl (fun K' hK' => ?_)
    have r129 := hE_7.at 129 rfl
    refine op_run (fun ρ hρ qc qf qg => ?_); have q129 := rho hρ r129; clear hρ; go_simp; (try go_bits); (try clear ρ); (try clear qc qf qg r129 q129)
    refine late_next hE_7 (by decide) hK' (fun a_8 hE_8 => ?_); clear hK' K'; clear hE_7
    refine Late.plain (by (first | (simp only [List.getElem?_toArray, List.getElem?_cons_succ, List.getElem?_cons_zero]; rfl) | rfl)) rfl (fun K' hK' => ?_)
    refine op_run (fun ρ hρ qc qf qg => ?_); clear hρ; go_simp; (try go_bits); (try clear ρ); (try clear qc qf qg)
    refine late_next hE_8 (by decide) hK' (fun a_9 hE_9 => ?_); clear hK' K'; clear hE_8
    refine Late.plain (by (first | (simp only [List.getElem?_toArray, List.getElem?_cons_succ, List.getElem?_cons_zero]; rfl) | rfl)) rfl (fun K' hK' => ?_)
    have r7 := hE_9.at 7 rfl; have r135 := hE_9.at 135 rfl
    refine op_run (fun ρ hρ qc qf qg => ?_); have q7 := rho hρ r7; have q135 := rho hρ r135; clear hρ; go_simp; (try go_bits); (try clear ρ); (try clear qc qf qg r7 q7 r135 q135)
    refine late_skip hE_9 hK' (fun a_10 hE_10 => ?_); clear hK' K'; clear hE_9
    refine Late.plain (by (first | (simp only [List.getElem?_toArray, List.getElem?_cons_succ, List.getElem?_cons_zero]; rfl) | rfl)) rfl (fun K' hK' => ?_)
    have r136 := hE_10.at 136 rfl
    refine op_run (fun ρ hρ qc qf qg => ?_); have q136 := rho hρ r136; clear hρ; go_simp; (try go_bits); (try clear ρ); (try clear qc qf qg r136 q136)
    refine late_next hE_10 (by decide) hK' (fun a_11 hE_11 => ?_); clear hK' K'; clear hE_10
    refine late_done [1, 2, 4, 6, 8] hE_11 hK (fun a hE => ?_); clear hK K Q' hE_11; simp only [lk, pick, Nat.reduceEqDiff, ↓reduceIte] at hE
    refine world_cut (fun wt => Below wr.heap.size wr wt) ?_ (fun w12 hBd => ?_)
    · have hb := hBc.trans (hb1.mono hBc.size)
      have hz := hb.size
      (repeat' (first | (with_reducible exact Below.refl _ _) | (with_reducible assumption) | (with_reducible refine Below.drew ?_) | (with_reducible refine below_drewN ?_ _) | (with_reducible refine Below.setCell ?_ ?_ _) | (with_reducible refine Below.alloc ?_ ?_ _) | go_size | (exact Below.size (by assumption)) | (refine Below.trans ?_ (Below.mono (by assumption) ?_))))
    clear hBc hb1 hAc hcR hfR hlR hmR hwR
    have hBc := hBd
    clear hBd
    (repeat (first | (with_reducible refine wp_seq ?_) | (with_reducible refine wp_block ?_) | (with_reducible refine then_n ?_) | (with_reducible refine inBlock_n ?_) | (with_reducible refine then_ret ?_) | (with_reducible refine inBlock_ret ?_) | (with_reducible refine then_exit ?_) | (with_reducible refine inBlock_hit ?_) | (with_reducible refine inBlock_miss (by decide) ?_) | (with_reducible refine wp_ret ?_) | (with_reducible refine wp_exit ?_) | (with_reducible refine wp_skip ?_)))
    refine region_drawn [] (fun wt => Below wr.heap.size wr wt) (fun w1 w2 => Below w1.heap.size w1 w2) [(0, some 138), (1, some 139), (2, some 140), (3, some 141), (4, some 142), (5, some 143), (6, some 137), (7, some 144), (8, some 145), (9, some 9), (10, some 10)] [138, 139, 140, 141, 142, 143, 137, 144, 145, 9, 10] #[true, true, true, true, true, true, true, true, true, true, true] [1, 2, 4, 6, 8] hE (by kernel_rfl) (by kernel_rfl) (by kernel_rfl) (by kernel_rfl) (by kernel_rfl) (by kernel_rfl) (by kernel_rfl) (by kernel_rfl) (by kernel_rfl) (by kernel_rfl) (by kernel_rfl) (by kernel_rfl) (by decide) (hBc.drew) (fun Q' K hK => ?_)
    refine SeqOps.val ?_ (StepOk.plain (by (first | (simp only [List.getElem?_toArray, List.getElem?_cons_succ, List.getElem?_cons_zero]; rfl) | rfl)) rfl (fun ax wx hS hT' hd K' hK' => ?_)) ?_; rotate_left 1
    · have r1 := hS.at 1 (by decide) (hE.at 1 rfl); obtain ⟨hcT, hfT, hlT, hmT, hwT⟩ := bcell hT'; have hzT := hT'.size
      refine op_run (fun ρ hρ qc qf qg => ?_); have q1 := rho hρ r1; clear hρ; go_simp; (try go_bits); (try clear ρ);
      refine hK'.out _ _ _ rfl ?_ hT' (Below.refl _ _); rfl
    refine SeqOps.val ?_ (StepOk.plain (by (first | (simp only [List.getElem?_toArray, List.getElem?_cons_succ, List.getElem?_cons_zero]; rfl) | rfl)) rfl (fun ax wx hS hT' hd K' hK' => ?_)) ?_; rotate_left 1
    · have r2 := hS.at 2 (by decide) (hE.at 2 rfl); obtain ⟨hcT, hfT, hlT, hmT, hwT⟩ := bcell hT'; have hzT := hT'.size
      refine op_run (fun ρ hρ qc qf qg => ?_); have q2 := rho hρ r2; clear hρ; go_simp; (try go_bits); (try clear ρ);
      refine hK'.out _ _ _ rfl ?_ hT' (Below.refl _ _); rfl
    refine SeqOps.val ?_ (StepOk.plain (by (first | (simp only [List.getElem?_toArray, List.getElem?_cons_succ, List.getElem?_cons_zero]; rfl) | rfl)) rfl (fun ax wx hS hT' hd K' hK' => ?_)) ?_; rotate_left 1
    · have r138 := told_val hd 1 (k := 0) (e := 138) rfl (by kernel_rfl) (by kernel_rfl); have r139 := told_val hd 0 (k := 1) (e := 139) rfl (by kernel_rfl) (by kernel_rfl); obtain ⟨hcT, hfT, hlT, hmT, hwT⟩ := bcell hT'; have hzT := hT'.size
      refine op_run (fun ρ hρ qc qf qg => ?_); have q138 := rho hρ r138; have q139 := rho hρ r139; clear hρ; go_simp; (try go_bits); (try clear ρ);
      refine hK'.out _ _ _ rfl ?_ hT' (Below.refl _ _); rfl
    refine SeqOps.val ?_ (StepOk.plain (by (first | (simp only [List.getElem?_toArray, List.getElem?_cons_succ, List.getElem?_cons_zero]; rfl) | rfl)) rfl (fun ax wx hS hT' hd K' hK' => ?_)) ?_; rotate_left 1
    · have r140 := told_val hd 0 (k := 2) (e := 140) rfl (by kernel_rfl) (by kernel_rfl); obtain ⟨hcT, hfT, hlT, hmT, hwT⟩ := bcell hT'; have hzT := hT'.size
      refine op_run (fun ρ hρ qc qf qg => ?_); have q140 := rho hρ r140; clear hρ; go_simp; (try go_bits); (try clear ρ);
      refine hK'.out _ _ _ rfl ?_ hT' (Below.refl _ _); rfl
    refine SeqOps.say (fun v wt => ∃ G, v = .agg #[.int .i64 100, .slice (some ⟨G, 0, none⟩) 2 2] ∧ Blk 0 G FC 69 wt) (fun _ _ _ hR ⟨G, e, hG⟩ => ⟨G, e, hG.keep hR⟩) (StepOk.plain (by (first | (simp only [List.getElem?_toArray, List.getElem?_cons_succ, List.getElem?_cons_zero]; rfl) | rfl)) rfl (fun ax wx hS hT' hd K' hK' => ?_)) ?_
    · obtain ⟨hcT, hfT, hlT, hmT, hwT⟩ := bcell hT'; have hzT := hT'.size
      refine op_run (fun ρ hρ qc qf qg => ?_); clear hρ; go_simp; (try go_bits); (try clear ρ);
      go_at_call 53; refine (frosty_new _).mono ?_; rintro e w1 ⟨⟨G, rfl, hG⟩, h1⟩
      exact hK'.out _ _ _ rfl ⟨G, rfl, hG.more (Nat.zero_le _)⟩ (hT'.trans (h1.mono hT'.size)) h1
    refine SeqOps.val ?_ (StepOk.plain (by (first | (simp only [List.getElem?_toArray, List.getElem?_cons_succ, List.getElem?_cons_zero]; rfl) | rfl)) rfl (fun ax wx hS hT' hd K' hK' => ?_)) ?_; rotate_left 1
    · have r141 := told_val hd 1 (k := 3) (e := 141) rfl (by kernel_rfl) (by kernel_rfl); obtain ⟨v142, r142, h142⟩ := told_get hd 0 (k := 4) (e := 142) rfl (by kernel_rfl) (by kernel_rfl); obtain ⟨G, rfl, hG⟩ := h142; obtain ⟨hcT, hfT, hlT, hmT, hwT⟩ := bcell hT'; have hzT := hT'.size
      refine op_run (fun ρ hρ qc qf qg => ?_); have q141 := rho hρ r141; have q142 := rho hρ r142; clear hρ; go_simp; (try go_bits); (try clear ρ);
      go_at_call 23; refine (kBefore (bad_before HO.out ⟨100, frL⟩ (-1) (-1)) HF.out rfl _ ((hA.below hT').more hT'.size) (hG.arr frL_cells)).mono ?_; rintro e w1 ⟨rfl, h1⟩
      refine hK'.out _ _ _ rfl ?_ (hT'.trans (h1.mono hT'.size)) h1; rfl
    refine SeqOps.val ?_ (StepOk.plain (by (first | (simp only [List.getElem?_toArray, List.getElem?_cons_succ, List.getElem?_cons_zero]; rfl) | rfl)) rfl (fun ax wx hS hT' hd K' hK' => ?_)) ?_; rotate_left 1
    · have r143 := told_val hd 0 (k := 5) (e := 143) rfl (by kernel_rfl) (by kernel_rfl); obtain ⟨hcT, hfT, hlT, hmT, hwT⟩ := bcell hT'; have hzT := hT'.size
      refine op_run (fun ρ hρ qc qf qg => ?_); have q143 := rho hρ r143; clear hρ; go_simp; (try go_bits); (try clear ρ);
      refine hK'.out _ _ _ rfl ?_ hT' (Below.refl _ _); rfl
    refine SeqOps.val ?_ (StepOk.plain (by (first | (simp only [List.getElem?_toArray, List.getElem?_cons_succ, List.getElem?_cons_zero]; rfl) | rfl)) rfl (fun ax wx hS hT' hd K' hK' => ?_)) ?_; rotate_left 1
    · have r137 := told_val hd 0 (k := 6) (e := 137) rfl (by kernel_rfl) (by kernel_rfl); obtain ⟨hcT, hfT, hlT, hmT, hwT⟩ := bcell hT'; have hzT := hT'.size
      refine op_run (fun ρ hρ qc qf qg => ?_); have q137 := rho hρ r137; clear hρ; go_simp; (try go_bits); (try clear ρ);
      refine hK'.out _ _ _ rfl ?_ hT' (Below.refl _ _); rfl
    refine SeqOps.val ?_ (StepOk.plain (by (first | (simp only [List.getElem?_toArray, List.getElem?_cons_succ, List.getElem?_cons_zero]; rfl) | rfl)) rfl (fun ax wx hS hT' hd K' hK' => ?_)) ?_; rotate_left 1
    · have r137 := told_val hd 1 (k := 6) (e := 137) rfl (by kernel_rfl) (by kernel_rfl); obtain ⟨hcT, hfT, hlT, hmT, hwT⟩ := bcell hT'; have hzT := hT'.size
      refine op_run (fun ρ hρ qc qf qg => ?_); have q137 := rho hρ r137; clear hρ; go_simp; (try go_bits); (try clear ρ);
      refine hK'.out _ _ _ rfl ?_ hT' (Below.refl _ _); rfl
    refine SeqOps.val ?_ (StepOk.plain (by (first | (simp only [List.getElem?_toArray, List.getElem?_cons_succ, List.getElem?_cons_zero]; rfl) | rfl)) rfl (fun ax wx hS hT' hd K' hK' => ?_)) ?_; rotate_left 1
    · have r144 := told_val hd 1 (k := 7) (e := 144) rfl (by kernel_rfl) (by kernel_rfl); obtain ⟨hcT, hfT, hlT, hmT, hwT⟩ := bcell hT'; have hzT := hT'.size
      refine op_run (fun ρ hρ qc qf qg => ?_); have q144 := rho hρ r144; clear hρ; go_simp; (try go_bits); (try clear ρ);
      refine hK'.out _ _ _ rfl ?_ hT' (Below.refl _ _); rfl
    refine SeqOps.val ?_ (StepOk.plain (by (first | (simp only [List.getElem?_toArray, List.getElem?_cons_succ, List.getElem?_cons_zero]; rfl) | rfl)) rfl (fun ax wx hS hT' hd K' hK' => ?_)) ?_; rotate_left 1
    · have r145 := told_val hd 1 (k := 8) (e := 145) rfl (by kernel_rfl) (by kernel_rfl); obtain ⟨hcT, hfT, hlT, hmT, hwT⟩ := bcell hT'; have hzT := hT'.size
      refine op_run (fun ρ hρ qc qf qg => ?_); have q145 := rho hρ r145; clear hρ; go_simp; (try go_bits); (try clear ρ);
      refine hK'.out _ _ _ rfl ?_ hT' (Below.refl _ _); rfl
    refine SeqOps.nil ?_
    intro w13 hBl; (refine fun v h => ?_; obtain rfl := h); (refine fun v h => ?_; obtain rfl := h); (refine fun v h => ?_; obtain rfl := h); (refine fun v h => ?_; obtain rfl := h); (refine fun v h => ?_; obtain ⟨G, rfl, hG⟩ := h); (refine fun v h => ?_; obtain rfl := h); (refine fun v h => ?_; obtain rfl := h); (refine fun v h => ?_; obtain rfl := h); (refine fun v h => ?_; obtain rfl := h); (refine fun v h => ?_; obtain rfl := h); (refine fun v h => ?_; obtain rfl := h);
    refine fun ax hEx => ?_
    simp only [lk, pick, Nat.reduceEqDiff, ↓reduceIte] at hEx
    refine late_done [1, 2, 4, 6, 8, 10] hEx hK (fun a hE => ?_); clear hK K Q' hEx; simp only [lk, pick, Nat.reduceEqDiff, ↓reduceIte] at hE
    clear hBc
    have hBc := hBl
    clear hBl
    (repeat (first | (with_reducible refine wp_seq ?_) | (with_reducible refine wp_block ?_) | (with_reducible refine then_n ?_) | (with_reducible refine inBlock_n ?_) | (with_reducible refine then_ret ?_) | (with_reducible refine inBlock_ret ?_) | (with_reducible refine then_exit ?_) | (with_reducible refine inBlock_hit ?_) | (with_reducible refine inBlock_miss (by decide) ?_) | (with_reducible refine wp_ret ?_) | (with_reducible refine wp_exit ?_) | (with_reducible refine wp_skip ?_)))
    refine region_drawn [] (fun wt => Below wr.heap.size wr wt) (fun w1 w2 => Below w1.heap.size w1 w2) [(0, some 147), (1, some 148), (2, some 149), (3, some 150), (4, some 151), (5, some 152), (6, some 146), (7, some 153), (8, some 154), (9, some 11), (10, some 12)] [147, 148, 149, 150, 151, 152, 146, 153, 154, 11, 12] #[true, true, true, true, true, true, true, true, true, true, true] [1, 2, 4, 6, 8, 10] hE (by kernel_rfl) (by kernel_rfl) (by kernel_rfl) (by kernel_rfl) (by kernel_rfl) (by kernel_rfl) (by kernel_rfl) (by kernel_rfl) (by kernel_rfl) (by kernel_rfl) (by kernel_rfl) (by kernel_rfl) (by decide) (hBc.drew) (fun Q' K hK => ?_)
    refine SeqOps.say (fun v wt => ∃ G, v = .agg #[.int .i64 100, .slice (some ⟨G, 0, none⟩) 2 2] ∧ Blk 0 G FC 69 wt) (fun _ _ _ hR ⟨G, e, hG⟩ => ⟨G, e, hG.keep hR⟩) (StepOk.plain (by (first | (simp only [List.getElem?_toArray, List.getElem?_cons_succ, List.getElem?_cons_zero]; rfl) | rfl)) rfl (fun ax wx hS hT' hd K' hK' => ?_)) ?_
    · obtain ⟨hcT, hfT, hlT, hmT, hwT⟩ := bcell hT'; have hzT := hT'.size
      refine op_run (fun ρ hρ qc qf qg => ?_); clear hρ; go_simp; (try go_bits); (try clear ρ);
      go_at_call 53; refine (frosty_new _).mono ?_; rintro e w1 ⟨⟨G, rfl, hG⟩, h1⟩
      exact hK'.out _ _ _ rfl ⟨G, rfl, hG.more (Nat.zero_le _)⟩ (hT'.trans (h1.mono hT'.size)) h1
    refine SeqOps.val ?_ (StepOk.plain (by (first | (simp only [List.getElem?_toArray, List.getElem?_cons_succ, List.getElem?_cons_zero]; rfl) | rfl)) rfl (fun ax wx hS hT' hd K' hK' => ?_)) ?_; rotate_left 1
    · have r1 := hS.at 1 (by decide) (hE.at 1 rfl); obtain ⟨hcT, hfT, hlT, hmT, hwT⟩ := bcell hT'; have hzT := hT'.size
      refine op_run (fun ρ hρ qc qf qg => ?_); have q1 := rho hρ r1; clear hρ; go_simp; (try go_bits); (try clear ρ);
      refine hK'.out _ _ _ rfl ?_ hT' (Below.refl _ _); rfl
    refine SeqOps.val ?_ (StepOk.plain (by (first | (simp only [List.getElem?_toArray, List.getElem?_cons_succ, List.getElem?_cons_zero]; rfl) | rfl)) rfl (fun ax wx hS hT' hd K' hK' => ?_)) ?_; rotate_left 1
    · have r2 := hS.at 2 (by decide) (hE.at 2 rfl); obtain ⟨hcT, hfT, hlT, hmT, hwT⟩ := bcell hT'; have hzT := hT'.size
      refine op_run (fun ρ hρ qc qf qg => ?_); have q2 := rho hρ r2; clear hρ; go_simp; (try go_bits); (try clear ρ);
      refine hK'.out _ _ _ rfl ?_ hT' (Below.refl _ _); rfl
    refine SeqOps.val ?_ (StepOk.plain (by (first | (simp only [List.getElem?_toArray, List.getElem?_cons_succ, List.getElem?_cons_zero]; rfl) | rfl)) rfl (fun ax wx hS hT' hd K' hK' => ?_)) ?_; rotate_left 1
    · have r148 := told_val hd 1 (k := 1) (e := 148) rfl (by kernel_rfl) (by kernel_rfl); have r149 := told_val hd 0 (k := 2) (e := 149) rfl (by kernel_rfl) (by kernel_rfl); obtain ⟨hcT, hfT, hlT, hmT, hwT⟩ := bcell hT'; have hzT := hT'.size
      refine op_run (fun ρ hρ qc qf qg => ?_); have q148 := rho hρ r148; have q149 := rho hρ r149; clear hρ; go_simp; (try go_bits); (try clear ρ);
      refine hK'.out _ _ _ rfl ?_ hT' (Below.refl _ _); rfl
    refine SeqOps.val ?_ (StepOk.plain (by (first | (simp only [List.getElem?_toArray, List.getElem?_cons_succ, List.getElem?_cons_zero]; rfl) | rfl)) rfl (fun ax wx hS hT' hd K' hK' => ?_)) ?_; rotate_left 1
    · have r150 := told_val hd 0 (k := 3) (e := 150) rfl (by kernel_rfl) (by kernel_rfl); obtain ⟨hcT, hfT, hlT, hmT, hwT⟩ := bcell hT'; have hzT := hT'.size
      refine op_run (fun ρ hρ qc qf qg => ?_); have q150 := rho hρ r150; clear hρ; go_simp; (try go_bits); (try clear ρ);
      refine hK'.out _ _ _ rfl ?_ hT' (Below.refl _ _); rfl
    refine SeqOps.val ?_ (StepOk.plain (by (first | (simp only [List.getElem?_toArray, List.getElem?_cons_succ, List.getElem?_cons_zero]; rfl) | rfl)) rfl (fun ax wx hS hT' hd K' hK' => ?_)) ?_; rotate_left 1
    · obtain ⟨v147, r147, h147⟩ := told_get hd 4 (k := 0) (e := 147) rfl (by kernel_rfl) (by kernel_rfl); obtain ⟨G, rfl, hG⟩ := h147; have r151 := told_val hd 0 (k := 4) (e := 151) rfl (by kernel_rfl) (by kernel_rfl); obtain ⟨hcT, hfT, hlT, hmT, hwT⟩ := bcell hT'; have hzT := hT'.size
      refine op_run (fun ρ hρ qc qf qg => ?_); have q147 := rho hρ r147; have q151 := rho hρ r151; clear hρ; go_simp; (try go_bits); (try clear ρ);
      go_at_call 23; refine (kBefore (bad_after frosty_ok HO.out (-1) (-1)) rfl HF.out _ (hG.arr frL_cells) ((hA.below hT').more hT'.size)).mono ?_; rintro e w1 ⟨rfl, h1⟩
      refine hK'.out _ _ _ rfl ?_ (hT'.trans (h1.mono hT'.size)) h1; rfl
    refine SeqOps.val ?_ (StepOk.plain (by (first | (simp only [List.getElem?_toArray, List.getElem?_cons_succ, List.getElem?_cons_zero]; rfl) | rfl)) rfl (fun ax wx hS hT' hd K' hK' => ?_)) ?_; rotate_left 1
    · have r152 := told_val hd 0 (k := 5) (e := 152) rfl (by kernel_rfl) (by kernel_rfl); obtain ⟨hcT, hfT, hlT, hmT, hwT⟩ := bcell hT'; have hzT := hT'.size
      refine op_run (fun ρ hρ qc qf qg => ?_); have q152 := rho hρ r152; clear hρ; go_simp; (try go_bits); (try clear ρ);
      refine hK'.out _ _ _ rfl ?_ hT' (Below.refl _ _); rfl
    refine SeqOps.val ?_ (StepOk.plain (by (first | (simp only [List.getElem?_toArray, List.getElem?_cons_succ, List.getElem?_cons_zero]; rfl) | rfl)) rfl (fun ax wx hS hT' hd K' hK' => ?_)) ?_; rotate_left 1
    · have r146 := told_val hd 0 (k := 6) (e := 146) rfl (by kernel_rfl) (by kernel_rfl); obtain ⟨hcT, hfT, hlT, hmT, hwT⟩ := bcell hT'; have hzT := hT'.size
      refine op_run (fun ρ hρ qc qf qg => ?_); have q146 := rho hρ r146; clear hρ; go_simp; (try go_bits); (try clear ρ);
      refine hK'.out _ _ _ rfl ?_ hT' (Below.refl _ _); rfl
    refine SeqOps.val ?_ (StepOk.plain (by (first | (simp only [List.getElem?_toArray, List.getElem?_cons_succ, List.getElem?_cons_zero]; rfl) | rfl)) rfl (fun ax wx hS hT' hd K' hK' => ?_)) ?_; rotate_left 1
    · have r146 := told_val hd 1 (k := 6) (e := 146) rfl (by kernel_rfl) (by kernel_rfl); obtain ⟨hcT, hfT, hlT, hmT, hwT⟩ := bcell hT'; have hzT := hT'.size
      refine op_run (fun ρ hρ qc qf qg => ?_); have q146 := rho hρ r146; clear hρ; go_simp; (try go_bits); (try clear ρ);
      refine hK'.out _ _ _ rfl ?_ hT' (Below.refl _ _); rfl
    refine SeqOps.val ?_ (StepOk.plain (by (first | (simp only [List.getElem?_toArray, List.getElem?_cons_succ, List.getElem?_cons_zero]; rfl) | rfl)) rfl (fun ax wx hS hT' hd K' hK' => ?_)) ?_; rotate_left 1
    · have r153 := told_val hd 1 (k := 7) (e := 153) rfl (by kernel_rfl) (by kernel_rfl); obtain ⟨hcT, hfT, hlT, hmT, hwT⟩ := bcell hT'; have hzT := hT'.size
      refine op_run (fun ρ hρ qc qf qg => ?_); have q153 := rho hρ r153; clear hρ; go_simp; (try go_bits); (try clear ρ);
      refine hK'.out _ _ _ rfl ?_ hT' (Below.refl _ _); rfl
    refine SeqOps.val ?_ (StepOk.plain (by (first | (simp only [List.getElem?_toArray, List.getElem?_cons_succ, List.getElem?_cons_zero]; rfl) | rfl)) rfl (fun ax wx hS hT' hd K' hK' => ?_)) ?_; rotate_left 1
    · have r154 := told_val hd 1 (k := 8) (e := 154) rfl (by kernel_rfl) (by kernel_rfl); obtain ⟨hcT, hfT, hlT, hmT, hwT⟩ := bcell hT'; have hzT := hT'.size
      refine op_run (fun ρ hρ qc qf qg => ?_); have q154 := rho hρ r154; clear hρ; go_simp; (try go_bits); (try clear ρ);
      refine hK'.out _ _ _ rfl ?_ hT' (Below.refl _ _); rfl
    refine SeqOps.nil ?_
    intro w14 hBl; (refine fun v h => ?_; obtain ⟨G, rfl, hG⟩ := h); (refine fun v h => ?_; obtain rfl := h); (refine fun v h => ?_; obtain rfl := h); (refine fun v h => ?_; obtain rfl := h); (refine fun v h => ?_; obtain rfl := h); (refine fun v h => ?_; obtain rfl := h); (refine fun v h => ?_; obtain rfl := h); (refine fun v h => ?_; obtain rfl := h); (refine fun v h => ?_; obtain rfl := h); (refine fun v h => ?_; obtain rfl := h); (refine fun v h => ?_; obtain rfl := h);
    refine fun ax hEx => ?_
    simp only [lk, pick, Nat.reduceEqDiff, ↓reduceIte] at hEx
    refine late_done [1, 2, 4, 6, 8, 10, 12] hEx hK (fun a hE => ?_); clear hK K Q' hEx; simp only [lk, pick, Nat.reduceEqDiff, ↓reduceIte] at hE
    clear hBc
    have hBc := hBl
    clear hBl
    (repeat (first | (with_reducible refine wp_seq ?_) | (with_reducible refine wp_block ?_) | (with_reducible refine then_n ?_) | (with_reducible refine inBlock_n ?_) | (with_reducible refine then_ret ?_) | (with_reducible refine inBlock_ret ?_) | (with_reducible refine then_exit ?_) | (with_reducible refine inBlock_hit ?_) | (with_reducible refine inBlock_miss (by decide) ?_) | (with_reducible refine wp_ret ?_) | (with_reducible refine wp_exit ?_) | (with_reducible refine wp_skip ?_)))
    refine region_drawn [] (fun wt => Below wr.heap.size wr wt) (fun w1 w2 => Below w1.heap.size w1 w2) [(0, some 156), (1, some 157), (2, some 158), (3, some 159), (4, some 160), (5, some 161), (6, some 155), (7, some 162), (8, some 163), (9, some 13), (10, some 14)] [156, 157, 158, 159, 160, 161, 155, 162, 163, 13, 14] #[true, true, true, true, true, true, true, true, true, true, true] [1, 2, 4, 6, 8, 10, 12] hE (by kernel_rfl) (by kernel_rfl) (by kernel_rfl) (by kernel_rfl) (by kernel_rfl) (by kernel_rfl) (by kernel_rfl) (by kernel_rfl) (by kernel_rfl) (by kernel_rfl) (by kernel_rfl) (by kernel_rfl) (by decide) (hBc.drew) (fun Q' K hK => ?_)
    refine SeqOps.val ?_ (StepOk.plain (by (first | (simp only [List.getElem?_toArray, List.getElem?_cons_succ, List.getElem?_cons_zero]; rfl) | rfl)) rfl (fun ax wx hS hT' hd K' hK' => ?_)) ?_; rotate_left 1
    · have r1 := hS.at 1 (by decide) (hE.at 1 rfl); obtain ⟨hcT, hfT, hlT, hmT, hwT⟩ := bcell hT'; have hzT := hT'.size
      refine op_run (fun ρ hρ qc qf qg => ?_); have q1 := rho hρ r1; clear hρ; go_simp; (try go_bits); (try clear ρ);
      refine hK'.out _ _ _ rfl ?_ hT' (Below.refl _ _); rfl
    refine SeqOps.val ?_ (StepOk.plain (by (first | (simp only [List.getElem?_toArray, List.getElem?_cons_succ, List.getElem?_cons_zero]; rfl) | rfl)) rfl (fun ax wx hS hT' hd K' hK' => ?_)) ?_; rotate_left 1
    · have r2 := hS.at 2 (by decide) (hE.at 2 rfl); obtain ⟨hcT, hfT, hlT, hmT, hwT⟩ := bcell hT'; have hzT := hT'.size
      refine op_run (fun ρ hρ qc qf qg => ?_); have q2 := rho hρ r2; clear hρ; go_simp; (try go_bits); (try clear ρ);
      refine hK'.out _ _ _ rfl ?_ hT' (Below.refl _ _); rfl
    refine SeqOps.val ?_ (StepOk.plain (by (first | (simp only [List.getElem?_toArray, List.getElem?_cons_succ, List.getElem?_cons_zero]; rfl) | rfl)) rfl (fun ax wx hS hT' hd K' hK' => ?_)) ?_; rotate_left 1
    · have r156 := told_val hd 1 (k := 0) (e := 156) rfl (by kernel_rfl) (by kernel_rfl); have r157 := told_val hd 0 (k := 1) (e := 157) rfl (by kernel_rfl) (by kernel_rfl); obtain ⟨hcT, hfT, hlT, hmT, hwT⟩ := bcell hT'; have hzT := hT'.size
      refine op_run (fun ρ hρ qc qf qg => ?_); have q156 := rho hρ r156; have q157 := rho hρ r157; clear hρ; go_simp; (try go_bits); (try clear ρ);
      refine hK'.out _ _ _ rfl ?_ hT' (Below.refl _ _); rfl
    refine SeqOps.val ?_ (StepOk.plain (by (first | (simp only [List.getElem?_toArray, List.getElem?_cons_succ, List.getElem?_cons_zero]; rfl) | rfl)) rfl (fun ax wx hS hT' hd K' hK' => ?_)) ?_; rotate_left 1
    · have r158 := told_val hd 0 (k := 2) (e := 158) rfl (by kernel_rfl) (by kernel_rfl); obtain ⟨hcT, hfT, hlT, hmT, hwT⟩ := bcell hT'; have hzT := hT'.size
      refine op_run (fun ρ hρ qc qf qg => ?_); have q158 := rho hρ r158; clear hρ; go_simp; (try go_bits); (try clear ρ);
      refine hK'.out _ _ _ rfl ?_ hT' (Below.refl _ _); rfl
    refine SeqOps.say (fun v wt => ∃ G, v = .slice (some ⟨G, 0, none⟩) 7 7 ∧ Blk 0 G Z21 67 wt) (fun _ _ _ hR ⟨G, e, hG⟩ => ⟨G, e, hG.keep hR⟩) (StepOk.plain (by (first | (simp only [List.getElem?_toArray, List.getElem?_cons_succ, List.getElem?_cons_zero]; rfl) | rfl)) rfl (fun ax wx hS hT' hd K' hK' => ?_)) ?_
    · obtain ⟨hcT, hfT, hlT, hmT, hwT⟩ := bcell hT'; have hzT := hT'.size
      refine op_run (fun ρ hρ qc qf qg => ?_); clear hρ; go_simp; (try go_bits); (try clear ρ);
      exact hK'.out _ _ _ rfl ⟨_, rfl, blk_zero wx _ Z21 _ (by kernel_rfl) (Nat.zero_le _)⟩ (hT'.trans (((Below.refl _ _).alloc (Nat.le_refl _) _).mono hT'.size)) ((Below.refl _ _).alloc (Nat.le_refl _) _)
    refine SeqOps.val ?_ (StepOk.plain (by (first | (simp only [List.getElem?_toArray, List.getElem?_cons_succ, List.getElem?_cons_zero]; rfl) | rfl)) rfl (fun ax wx hS hT' hd K' hK' => ?_)) ?_; rotate_left 1
    · have r159 := told_val hd 1 (k := 3) (e := 159) rfl (by kernel_rfl) (by kernel_rfl); obtain ⟨v160, r160, h160⟩ := told_get hd 0 (k := 4) (e := 160) rfl (by kernel_rfl) (by kernel_rfl); obtain ⟨G, rfl, hG⟩ := h160; obtain ⟨hcT, hfT, hlT, hmT, hwT⟩ := bcell hT'; have hzT := hT'.size
      refine op_run (fun ρ hρ qc qf qg => ?_); have q159 := rho hρ r159; have q160 := rho hρ r160; clear hρ; go_simp; (try go_bits); (try clear ρ);
      go_at_call 25; refine (kRight (bad_right HO.out _) HF.out rfl (by decide) _ ((hA.below hT').more hT'.size) (hG.arr Z21_lines)).mono ?_; rintro e w1 ⟨rfl, h1⟩
      refine hK'.out _ _ _ rfl ?_ (hT'.trans (h1.mono hT'.size)) h1; rfl
    refine SeqOps.val ?_ (StepOk.plain (by (first | (simp only [List.getElem?_toArray, List.getElem?_cons_succ, List.getElem?_cons_zero]; rfl) | rfl)) rfl (fun ax wx hS hT' hd K' hK' => ?_)) ?_; rotate_left 1
    · have r161 := told_val hd 0 (k := 5) (e := 161) rfl (by kernel_rfl) (by kernel_rfl); obtain ⟨hcT, hfT, hlT, hmT, hwT⟩ := bcell hT'; have hzT := hT'.size
      refine op_run (fun ρ hρ qc qf qg => ?_); have q161 := rho hρ r161; clear hρ; go_simp; (try go_bits); (try clear ρ);
      refine hK'.out _ _ _ rfl ?_ hT' (Below.refl _ _); rfl
    refine SeqOps.val ?_ (StepOk.plain (by (first | (simp only [List.getElem?_toArray, List.getElem?_cons_succ, List.getElem?_cons_zero]; rfl) | rfl)) rfl (fun ax wx hS hT' hd K' hK' => ?_)) ?_; rotate_left 1
    · have r155 := told_val hd 0 (k := 6) (e := 155) rfl (by kernel_rfl) (by kernel_rfl); obtain ⟨hcT, hfT, hlT, hmT, hwT⟩ := bcell hT'; have hzT := hT'.size
      refine op_run (fun ρ hρ qc qf qg => ?_); have q155 := rho hρ r155; clear hρ; go_simp; (try go_bits); (try clear ρ);
      refine hK'.out _ _ _ rfl ?_ hT' (Below.refl _ _); rfl
    refine SeqOps.val ?_ (StepOk.plain (by (first | (simp only [List.getElem?_toArray, List.getElem?_cons_succ, List.getElem?_cons_zero]; rfl) | rfl)) rfl (fun ax wx hS hT' hd K' hK' => ?_)) ?_; rotate_left 1
    · have r155 := told_val hd 1 (k := 6) (e := 155) rfl (by kernel_rfl) (by kernel_rfl); obtain ⟨hcT, hfT, hlT, hmT, hwT⟩ := bcell hT'; have hzT := hT'.size
      refine op_run (fun ρ hρ qc qf qg => ?_); have q155 := rho hρ r155; clear hρ; go_simp; (try go_bits); (try clear ρ);
      refine hK'.out _ _ _ rfl ?_ hT' (Below.refl _ _); rfl
    refine SeqOps.val ?_ (StepOk.plain (by (first | (simp only [List.getElem?_toArray, List.getElem?_cons_succ, List.getElem?_cons_zero]; rfl) | rfl)) rfl (fun ax wx hS hT' hd K' hK' => ?_)) ?_; rotate_left 1
    · have r162 := told_val hd 1 (k := 7) (e := 162) rfl (by kernel_rfl) (by kernel_rfl); obtain ⟨hcT, hfT, hlT, hmT, hwT⟩ := bcell hT'; have hzT := hT'.size
      refine op_run (fun ρ hρ qc qf qg => ?_); have q162 := rho hρ r162; clear hρ; go_simp; (try go_bits); (try clear ρ);
      refine hK'.out _ _ _ rfl ?_ hT' (Below.refl _ _); rfl
    refine SeqOps.val ?_ (StepOk.plain (by (first | (simp only [List.getElem?_toArray, List.getElem?_cons_succ, List.getElem?_cons_zero]; rfl) | rfl)) rfl (fun ax wx hS hT' hd K' hK' => ?_)) ?_; rotate_left 1
    · have r163 := told_val hd 1 (k := 8) (e := 163) rfl (by kernel_rfl) (by kernel_rfl); obtain ⟨hcT, hfT, hlT, hmT, hwT⟩ := bcell hT'; have hzT := hT'.size
      refine op_run (fun ρ hρ qc qf qg => ?_); have q163 := rho hρ r163; clear hρ; go_simp; (try go_bits); (try clear ρ);
      refine hK'.out _ _ _ rfl ?_ hT' (Below.refl _ _); rfl
    refine SeqOps.nil ?_
    intro w15 hBl; (refine fun v h => ?_; obtain rfl := h); (refine fun v h => ?_; obtain rfl := h); (refine fun v h => ?_; obtain rfl := h); (refine fun v h => ?_; obtain rfl := h); (refine fun v h => ?_; obtain ⟨G, rfl, hG⟩ := h); (refine fun v h => ?_; obtain rfl := h); (refine fun v h => ?_; obtain rfl := h); (refine fun v h => ?_; obtain rfl := h); (refine fun v h => ?_; obtain rfl := h); (refine fun v h => ?_; obtain rfl := h); (refine fun v h => ?_; obtain rfl := h);
    refine fun ax hEx => ?_
    simp only [lk, pick, Nat.reduceEqDiff, ↓reduceIte] at hEx
    refine late_done [1, 2, 4, 6, 8, 10, 12, 14] hEx hK (fun a hE => ?_); clear hK K Q' hEx; simp only [lk, pick, Nat.reduceEqDiff, ↓reduceIte] at hE
    clear hBc
    have hBc := hBl
    clear hBl
    (repeat (first | (with_reducible refine wp_seq ?_) | (with_reducible refine wp_block ?_) | (with_reducible refine then_n ?_) | (with_reducible refine inBlock_n ?_) | (with_reducible refine then_ret ?_) | (with_reducible refine inBlock_ret ?_) | (with_reducible refine then_exit ?_) | (with_reducible refine inBlock_hit ?_) | (with_reducible refine inBlock_miss (by decide) ?_) | (with_reducible refine wp_ret ?_) | (with_reducible refine wp_exit ?_) | (with_reducible refine wp_skip ?_)))
    refine region_drawn [] (fun wt => Below wr.heap.size wr wt) (fun w1 w2 => Below w1.heap.size w1 w2) [(0, some 165), (1, some 166), (2, some 167), (3, some 168), (4, some 169), (5, some 170), (6, some 164), (7, some 171), (8, some 172), (9, some 15), (10, some 16)] [165, 166, 167, 168, 169, 170, 164, 171, 172, 15, 16] #[true, true, true, true, true, true, true, true, true, true, true] [1, 2, 4, 6, 8, 10, 12, 14] hE (by kernel_rfl) (by kernel_rfl) (by kernel_rfl) (by kernel_rfl) (by kernel_rfl) (by kernel_rfl) (by kernel_rfl) (by kernel_rfl) (by kernel_rfl) (by kernel_rfl) (by kernel_rfl) (by kernel_rfl) (by decide) (hBc.drew) (fun Q' K hK => ?_)
    refine SeqOps.val ?_ (StepOk.plain (by (first | (simp only [List.getElem?_toArray, List.getElem?_cons_succ, List.getElem?_cons_zero]; rfl) | rfl)) rfl (fun ax wx hS hT' hd K' hK' => ?_)) ?_; rotate_left 1
    · have r1 := hS.at 1 (by decide) (hE.at 1 rfl); obtain ⟨hcT, hfT, hlT, hmT, hwT⟩ := bcell hT'; have hzT := hT'.size
      refine op_run (fun ρ hρ qc qf qg => ?_); have q1 := rho hρ r1; clear hρ; go_simp; (try go_bits); (try clear ρ);
      refine hK'.out _ _ _ rfl ?_ hT' (Below.refl _ _); rfl
    refine SeqOps.val ?_ (StepOk.plain (by (first | (simp only [List.getElem?_toArray, List.getElem?_cons_succ, List.getElem?_cons_zero]; rfl) | rfl)) rfl (fun ax wx hS hT' hd K' hK' => ?_)) ?_; rotate_left 1
    · have r2 := hS.at 2 (by decide) (hE.at 2 rfl); obtain ⟨hcT, hfT, hlT, hmT, hwT⟩ := bcell hT'; have hzT := hT'.size
      refine op_run (fun ρ hρ qc qf qg => ?_); have q2 := rho hρ r2; clear hρ; go_simp; (try go_bits); (try clear ρ);
      refine hK'.out _ _ _ rfl ?_ hT' (Below.refl _ _); rfl
    refine SeqOps.val ?_ (StepOk.plain (by (first | (simp only [List.getElem?_toArray, List.getElem?_cons_succ, List.getElem?_cons_zero]; rfl) | rfl)) rfl (fun ax wx hS hT' hd K' hK' => ?_)) ?_; rotate_left 1
    · have r165 := told_val hd 1 (k := 0) (e := 165) rfl (by kernel_rfl) (by kernel_rfl); have r166 := told_val hd 0 (k := 1) (e := 166) rfl (by kernel_rfl) (by kernel_rfl); obtain ⟨hcT, hfT, hlT, hmT, hwT⟩ := bcell hT'; have hzT := hT'.size
      refine op_run (fun ρ hρ qc qf qg => ?_); have q165 := rho hρ r165; have q166 := rho hρ r166; clear hρ; go_simp; (try go_bits); (try clear ρ);
      refine hK'.out _ _ _ rfl ?_ hT' (Below.refl _ _); rfl
    refine SeqOps.val ?_ (StepOk.plain (by (first | (simp only [List.getElem?_toArray, List.getElem?_cons_succ, List.getElem?_cons_zero]; rfl) | rfl)) rfl (fun ax wx hS hT' hd K' hK' => ?_)) ?_; rotate_left 1
    · have r167 := told_val hd 0 (k := 2) (e := 167) rfl (by kernel_rfl) (by kernel_rfl); obtain ⟨hcT, hfT, hlT, hmT, hwT⟩ := bcell hT'; have hzT := hT'.size
      refine op_run (fun ρ hρ qc qf qg => ?_); have q167 := rho hρ r167; clear hρ; go_simp; (try go_bits); (try clear ρ);
      refine hK'.out _ _ _ rfl ?_ hT' (Below.refl _ _); rfl
    refine SeqOps.say (fun v wt => ∃ G, v = .slice (some ⟨G, 0, none⟩) 7 7 ∧ Blk 0 G Z21 67 wt) (fun _ _ _ hR ⟨G, e, hG⟩ => ⟨G, e, hG.keep hR⟩) (StepOk.plain (by (first | (simp only [List.getElem?_toArray, List.getElem?_cons_succ, List.getElem?_cons_zero]; rfl) | rfl)) rfl (fun ax wx hS hT' hd K' hK' => ?_)) ?_
    · obtain ⟨hcT, hfT, hlT, hmT, hwT⟩ := bcell hT'; have hzT := hT'.size
      refine op_run (fun ρ hρ qc qf qg => ?_); clear hρ; go_simp; (try go_bits); (try clear ρ);
      exact hK'.out _ _ _ rfl ⟨_, rfl, blk_zero wx _ Z21 _ (by kernel_rfl) (Nat.zero_le _)⟩ (hT'.trans (((Below.refl _ _).alloc (Nat.le_refl _) _).mono hT'.size)) ((Below.refl _ _).alloc (Nat.le_refl _) _)
    refine SeqOps.say (fun v _ => ∃ O oc, v = .tuple #[.slice O 0 oc, .int .i64 10]) (fun _ _ _ _ h => h) (StepOk.plain (by (first | (simp only [List.getElem?_toArray, List.getElem?_cons_succ, List.getElem?_cons_zero]; rfl) | rfl)) rfl (fun ax wx hS hT' hd K' hK' => ?_)) ?_
    · have r168 := told_val hd 1 (k := 3) (e := 168) rfl (by kernel_rfl) (by kernel_rfl); obtain ⟨v169, r169, h169⟩ := told_get hd 0 (k := 4) (e := 169) rfl (by kernel_rfl) (by kernel_rfl); obtain ⟨G, rfl, hG⟩ := h169; obtain ⟨hcT, hfT, hlT, hmT, hwT⟩ := bcell hT'; have hzT := hT'.size
      refine op_run (fun ρ hρ qc qf qg => ?_); have q168 := rho hρ r168; have q169 := rho hρ r169; clear hρ; go_simp; (try go_bits); (try clear ρ);
      go_at_call 27; refine (kTimes (n := 0) (bad_times HO.out _) rfl HF.out rfl (by decide) _ ((hA.below hT').more hT'.size) (hG.arr Z21_lines)).mono ?_; rintro e w1 ⟨O, oc, rfl, h1⟩
      exact hK'.out _ _ _ rfl ⟨O, oc, rfl⟩ (hT'.trans (h1.mono hT'.size)) h1
    refine SeqOps.say (fun v _ => ∃ O oc, v = .tuple #[.slice O 0 oc, .int .i64 10]) (fun _ _ _ _ h => h) (StepOk.plain (by (first | (simp only [List.getElem?_toArray, List.getElem?_cons_succ, List.getElem?_cons_zero]; rfl) | rfl)) rfl (fun ax wx hS hT' hd K' hK' => ?_)) ?_
    · obtain ⟨v170, r170, h170⟩ := told_get hd 0 (k := 5) (e := 170) rfl (by kernel_rfl) (by kernel_rfl); obtain ⟨O, oc, rfl⟩ := h170; obtain ⟨hcT, hfT, hlT, hmT, hwT⟩ := bcell hT'; have hzT := hT'.size
      refine op_run (fun ρ hρ qc qf qg => ?_); have q170 := rho hρ r170; clear hρ; go_simp; (try go_bits); (try clear ρ);
      exact hK'.out _ _ _ rfl ⟨O, oc, rfl⟩ hT' (Below.refl _ _)
    refine SeqOps.say (fun _ _ => True) (fun _ _ _ _ h => h) (StepOk.plain (by (first | (simp only [List.getElem?_toArray, List.getElem?_cons_succ, List.getElem?_cons_zero]; rfl) | rfl)) rfl (fun ax wx hS hT' hd K' hK' => ?_)) ?_
    · obtain ⟨v164, r164, h164⟩ := told_get hd 0 (k := 6) (e := 164) rfl (by kernel_rfl) (by kernel_rfl); obtain ⟨O, oc, rfl⟩ := h164; obtain ⟨hcT, hfT, hlT, hmT, hwT⟩ := bcell hT'; have hzT := hT'.size
      refine op_run (fun ρ hρ qc qf qg => ?_); have q164 := rho hρ r164; clear hρ; go_simp; (try go_bits); (try clear ρ);
      exact hK'.out _ _ _ rfl trivial hT' (Below.refl _ _)
    refine SeqOps.val ?_ (StepOk.plain (by (first | (simp only [List.getElem?_toArray, List.getElem?_cons_succ, List.getElem?_cons_zero]; rfl) | rfl)) rfl (fun ax wx hS hT' hd K' hK' => ?_)) ?_; rotate_left 1
    · obtain ⟨v164, r164, h164⟩ := told_get hd 1 (k := 6) (e := 164) rfl (by kernel_rfl) (by kernel_rfl); obtain ⟨O, oc, rfl⟩ := h164; obtain ⟨hcT, hfT, hlT, hmT, hwT⟩ := bcell hT'; have hzT := hT'.size
      refine op_run (fun ρ hρ qc qf qg => ?_); have q164 := rho hρ r164; clear hρ; go_simp; (try go_bits); (try clear ρ);
      refine hK'.out _ _ _ rfl ?_ hT' (Below.refl _ _); rfl
    refine SeqOps.say (fun _ _ => True) (fun _ _ _ _ h => h) (StepOk.plain (by (first | (simp only [List.getElem?_toArray, List.getElem?_cons_succ, List.getElem?_cons_zero]; rfl) | rfl)) rfl (fun ax wx hS hT' hd K' hK' => ?_)) ?_
    · obtain ⟨v171, r171, h171⟩ := told_get hd 1 (k := 7) (e := 171) rfl (by kernel_rfl) (by kernel_rfl); obtain ⟨hcT, hfT, hlT, hmT, hwT⟩ := bcell hT'; have hzT := hT'.size
      refine op_run (fun ρ hρ qc qf qg => ?_); have q171 := rho hρ r171; clear hρ; go_simp; (try go_bits); (try clear ρ);
      exact hK'.out _ _ _ rfl trivial hT' (Below.refl _ _)
    refine SeqOps.val ?_ (StepOk.plain (by (first | (simp only [List.getElem?_toArray, List.getElem?_cons_succ, List.getElem?_cons_zero]; rfl) | rfl)) rfl (fun ax wx hS hT' hd K' hK' => ?_)) ?_; rotate_left 1
    · have r172 := told_val hd 1 (k := 8) (e := 172) rfl (by kernel_rfl) (by kernel_rfl); obtain ⟨hcT, hfT, hlT, hmT, hwT⟩ := bcell hT'; have hzT := hT'.size
      refine op_run (fun ρ hρ qc qf qg => ?_); have q172 := rho hρ r172; clear hρ; go_simp; (try go_bits); (try clear ρ);
      refine hK'.out _ _ _ rfl ?_ hT' (Below.refl _ _); rfl
    refine SeqOps.nil ?_
    intro w16 hBl; (refine fun v h => ?_; obtain rfl := h); (refine fun v h => ?_; obtain rfl := h); (refine fun v h => ?_; obtain rfl := h); (refine fun v h => ?_; obtain rfl := h); (refine fun v h => ?_; obtain ⟨G, rfl, hG⟩ := h); (refine fun v h => ?_; obtain ⟨O, oc, rfl⟩ := h); (refine fun v h => ?_; obtain ⟨O, oc, rfl⟩ := h); (refine fun v h => ?_; obtain h171 := h); (refine fun v h => ?_; obtain rfl := h); (refine fun v h => ?_; obtain h15 := h); (refine fun v h => ?_; obtain rfl := h);
    refine fun ax hEx => ?_
    simp only [lk, pick, Nat.reduceEqDiff, ↓reduceIte] at hEx
    refine late_done [1, 2, 4, 6, 8, 10, 12, 14, 16] hEx hK (fun a hE => ?_); clear hK K Q' hEx; simp only [lk, pick, Nat.reduceEqDiff, ↓reduceIte] at hE
    clear hBc
    have hBc := hBl
    clear hBl
    (repeat (first | (with_reducible refine wp_seq ?_) | (with_reducible refine wp_block ?_) | (with_reducible refine then_n ?_) | (with_reducible refine inBlock_n ?_) | (with_reducible refine then_ret ?_) | (with_reducible refine inBlock_ret ?_) | (with_reducible refine then_exit ?_) | (with_reducible refine inBlock_hit ?_) | (with_reducible refine inBlock_miss (by decide) ?_) | (with_reducible refine wp_ret ?_) | (with_reducible refine wp_exit ?_) | (with_reducible refine wp_skip ?_)))
    refine region_drawn [] (fun wt => Below wr.heap.size wr wt) (RSp 27) [(0, some 174), (1, some 175), (2, some 176), (3, some 177), (4, some 178), (5, some 179), (6, some 173), (7, some 180), (8, some 181), (9, some 17), (10, none), (11, some 18)] [174, 175, 176, 177, 178, 179, 173, 180, 181, 17, 18] #[true, true, true, true, true, true, true, true, true, true, true, true] [1, 2, 4, 6, 8, 10, 12, 14, 16] hE (by kernel_rfl) (by kernel_rfl) (by kernel_rfl) (by kernel_rfl) (by kernel_rfl) (by kernel_rfl) (by kernel_rfl) (by kernel_rfl) (by kernel_rfl) (by kernel_rfl) (by kernel_rfl) (by kernel_rfl) (by decide) (hBc.drew) (fun Q' K hK => ?_)
    refine SeqOps.val ?_ (StepOk.plain (by (first | (simp only [List.getElem?_toArray, List.getElem?_cons_succ, List.getElem?_cons_zero]; rfl) | rfl)) rfl (fun ax wx hS hT' hd K' hK' => ?_)) ?_; rotate_left 1
    · have r1 := hS.at 1 (by decide) (hE.at 1 rfl); obtain ⟨hcT, hfT, hlT, hmT, hwT⟩ := bcell hT'; have hzT := hT'.size
      refine op_run (fun ρ hρ qc qf qg => ?_); have q1 := rho hρ r1; clear hρ; go_simp; (try go_bits); (try clear ρ);
      refine hK'.out _ _ _ rfl ?_ hT' (RSp.refl); rfl
    refine SeqOps.val ?_ (StepOk.plain (by (first | (simp only [List.getElem?_toArray, List.getElem?_cons_succ, List.getElem?_cons_zero]; rfl) | rfl)) rfl (fun ax wx hS hT' hd K' hK' => ?_)) ?_; rotate_left 1
    · have r2 := hS.at 2 (by decide) (hE.at 2 rfl); obtain ⟨hcT, hfT, hlT, hmT, hwT⟩ := bcell hT'; have hzT := hT'.size
      refine op_run (fun ρ hρ qc qf qg => ?_); have q2 := rho hρ r2; clear hρ; go_simp; (try go_bits); (try clear ρ);
      refine hK'.out _ _ _ rfl ?_ hT' (RSp.refl); rfl
    refine SeqOps.val ?_ (StepOk.plain (by (first | (simp only [List.getElem?_toArray, List.getElem?_cons_succ, List.getElem?_cons_zero]; rfl) | rfl)) rfl (fun ax wx hS hT' hd K' hK' => ?_)) ?_; rotate_left 1
    · have r174 := told_val hd 1 (k := 0) (e := 174) rfl (by kernel_rfl) (by kernel_rfl); have r175 := told_val hd 0 (k := 1) (e := 175) rfl (by kernel_rfl) (by kernel_rfl); obtain ⟨hcT, hfT, hlT, hmT, hwT⟩ := bcell hT'; have hzT := hT'.size
      refine op_run (fun ρ hρ qc qf qg => ?_); have q174 := rho hρ r174; have q175 := rho hρ r175; clear hρ; go_simp; (try go_bits); (try clear ρ);
      refine hK'.out _ _ _ rfl ?_ hT' (RSp.refl); rfl
    refine SeqOps.val ?_ (StepOk.plain (by (first | (simp only [List.getElem?_toArray, List.getElem?_cons_succ, List.getElem?_cons_zero]; rfl) | rfl)) rfl (fun ax wx hS hT' hd K' hK' => ?_)) ?_; rotate_left 1
    · have r176 := told_val hd 0 (k := 2) (e := 176) rfl (by kernel_rfl) (by kernel_rfl); obtain ⟨hcT, hfT, hlT, hmT, hwT⟩ := bcell hT'; have hzT := hT'.size
      refine op_run (fun ρ hρ qc qf qg => ?_); have q176 := rho hρ r176; clear hρ; go_simp; (try go_bits); (try clear ρ);
      refine hK'.out _ _ _ rfl ?_ hT' (RSp.refl); rfl
    refine SeqOps.say (fun v wt => ∃ G, v = .slice (some ⟨G, 0, none⟩) 7 7 ∧ Blk 0 G Z21 67 wt) (fun _ _ _ hR ⟨G, e, hG⟩ => ⟨G, e, hR.blk (by decide) hG⟩) (StepOk.plain (by (first | (simp only [List.getElem?_toArray, List.getElem?_cons_succ, List.getElem?_cons_zero]; rfl) | rfl)) rfl (fun ax wx hS hT' hd K' hK' => ?_)) ?_
    · obtain ⟨hcT, hfT, hlT, hmT, hwT⟩ := bcell hT'; have hzT := hT'.size
      refine op_run (fun ρ hρ qc qf qg => ?_); clear hρ; go_simp; (try go_bits); (try clear ρ);
      exact hK'.out _ _ _ rfl ⟨_, rfl, blk_zero wx _ Z21 _ (by kernel_rfl) (Nat.zero_le _)⟩ (hT'.trans (((Below.refl _ _).alloc (Nat.le_refl _) _).mono hT'.size)) (RSp.of ((Below.refl _ _).alloc (Nat.le_refl _) _))
    refine SeqOps.val ?_ (StepOk.plain (by (first | (simp only [List.getElem?_toArray, List.getElem?_cons_succ, List.getElem?_cons_zero]; rfl) | rfl)) rfl (fun ax wx hS hT' hd K' hK' => ?_)) ?_; rotate_left 1
    · have r177 := told_val hd 1 (k := 3) (e := 177) rfl (by kernel_rfl) (by kernel_rfl); obtain ⟨v178, r178, h178⟩ := told_get hd 0 (k := 4) (e := 178) rfl (by kernel_rfl) (by kernel_rfl); obtain ⟨G, rfl, hG⟩ := h178; obtain ⟨hcT, hfT, hlT, hmT, hwT⟩ := bcell hT'; have hzT := hT'.size
      refine op_run (fun ρ hρ qc qf qg => ?_); have q177 := rho hρ r177; have q178 := rho hρ r178; clear hρ; go_simp; (try go_bits); (try clear ρ);
      go_at_call 30; refine (kStopped (bad_stopped HO.out _) HF.out rfl (by decide) _ ((hA.below hT').more hT'.size) (hG.arr Z21_lines)).mono ?_; rintro e w1 ⟨rfl, h1⟩
      refine hK'.out _ _ _ rfl ?_ (hT'.trans (h1.mono hT'.size)) (RSp.of h1); rfl
    refine SeqOps.val ?_ (StepOk.plain (by (first | (simp only [List.getElem?_toArray, List.getElem?_cons_succ, List.getElem?_cons_zero]; rfl) | rfl)) rfl (fun ax wx hS hT' hd K' hK' => ?_)) ?_; rotate_left 1
    · have r179 := told_val hd 0 (k := 5) (e := 179) rfl (by kernel_rfl) (by kernel_rfl); obtain ⟨hcT, hfT, hlT, hmT, hwT⟩ := bcell hT'; have hzT := hT'.size
      refine op_run (fun ρ hρ qc qf qg => ?_); have q179 := rho hρ r179; clear hρ; go_simp; (try go_bits); (try clear ρ);
      refine hK'.out _ _ _ rfl ?_ hT' (RSp.refl); rfl
    refine SeqOps.val ?_ (StepOk.plain (by (first | (simp only [List.getElem?_toArray, List.getElem?_cons_succ, List.getElem?_cons_zero]; rfl) | rfl)) rfl (fun ax wx hS hT' hd K' hK' => ?_)) ?_; rotate_left 1
    · have r173 := told_val hd 0 (k := 6) (e := 173) rfl (by kernel_rfl) (by kernel_rfl); obtain ⟨hcT, hfT, hlT, hmT, hwT⟩ := bcell hT'; have hzT := hT'.size
      refine op_run (fun ρ hρ qc qf qg => ?_); have q173 := rho hρ r173; clear hρ; go_simp; (try go_bits); (try clear ρ);
      refine hK'.out _ _ _ rfl ?_ hT' (RSp.refl); rfl
    refine SeqOps.val ?_ (StepOk.plain (by (first | (simp only [List.getElem?_toArray, List.getElem?_cons_succ, List.getElem?_cons_zero]; rfl) | rfl)) rfl (fun ax wx hS hT' hd K' hK' => ?_)) ?_; rotate_left 1
    · have r173 := told_val hd 1 (k := 6) (e := 173) rfl (by kernel_rfl) (by kernel_rfl); obtain ⟨hcT, hfT, hlT, hmT, hwT⟩ := bcell hT'; have hzT := hT'.size
      refine op_run (fun ρ hρ qc qf qg => ?_); have q173 := rho hρ r173; clear hρ; go_simp; (try go_bits); (try clear ρ);
      refine hK'.out _ _ _ rfl ?_ hT' (RSp.refl); rfl
    refine SeqOps.say (fun v wt => ∃ B, v = .pointer (some ⟨B, 0, none⟩) ∧ wr.heap.size ≤ B ∧ Wr wt B 0 ∧ Wr wt B 1 ∧ ∃ cs, wt.heap[B]? = some (.cells cs 27)) (fun _ _ _ hR ⟨B, e, h1, h2, h3, h4⟩ => ⟨B, e, h1, hR.2.1 _ _ h2, hR.2.1 _ _ h3, hR.2.2.2 _ h4⟩) (StepOk.plain (by (first | (simp only [List.getElem?_toArray, List.getElem?_cons_succ, List.getElem?_cons_zero]; rfl) | rfl)) rfl (fun ax wx hS hT' hd K' hK' => ?_)) ?_
    · obtain ⟨hcT, hfT, hlT, hmT, hwT⟩ := bcell hT'; have hzT := hT'.size
      refine op_run (fun ρ hρ qc qf qg => ?_); clear hρ; go_simp; (try go_bits); (try clear ρ);
      exact hK'.out _ _ _ rfl ⟨_, rfl, hT'.size, wr_new rfl (by decide), wr_new rfl (by decide), _, (blk_new (N := 0) wx _ _ (Nat.zero_le _)).2.2⟩ (hT'.trans (((Below.refl _ _).alloc (Nat.le_refl _) _).mono hT'.size)) (RSp.of ((Below.refl _ _).alloc (Nat.le_refl _) _))
    refine SeqOps.val ?_ (StepOk.plain (by (first | (simp only [List.getElem?_toArray, List.getElem?_cons_succ, List.getElem?_cons_zero]; rfl) | rfl)) rfl (fun ax wx hS hT' hd K' hK' => ?_)) ?_; rotate_left 1
    · obtain ⟨v17, r17, h17⟩ := told_get hd 0 (k := 9) (e := 17) rfl (by kernel_rfl) (by kernel_rfl); obtain ⟨B, rfl, hB1, hB2, hB3, cs, hB4⟩ := h17; have r180 := told_val hd 2 (k := 7) (e := 180) rfl (by kernel_rfl) (by kernel_rfl); obtain ⟨hcT, hfT, hlT, hmT, hwT⟩ := bcell hT'; have hzT := hT'.size
      refine op_run (fun ρ hρ qc qf qg => ?_); have q17 := rho hρ r17; have q180 := rho hρ r180; clear hρ; go_simp; (try go_bits); (try clear ρ);
      refine hK'.out _ undef _ rfl ?_ ((hT'.setCell hB1 _).setCell hB1 _) ((RSp.set ⟨cs, hB4⟩).trans (RSp.set ((RSp.set ⟨cs, hB4⟩).2.2.2 _ ⟨cs, hB4⟩))); rfl
    refine SeqOps.val ?_ (StepOk.plain (by (first | (simp only [List.getElem?_toArray, List.getElem?_cons_succ, List.getElem?_cons_zero]; rfl) | rfl)) rfl (fun ax wx hS hT' hd K' hK' => ?_)) ?_; rotate_left 1
    · have r181 := told_val hd 2 (k := 8) (e := 181) rfl (by kernel_rfl) (by kernel_rfl); obtain ⟨hcT, hfT, hlT, hmT, hwT⟩ := bcell hT'; have hzT := hT'.size
      refine op_run (fun ρ hρ qc qf qg => ?_); have q181 := rho hρ r181; clear hρ; go_simp; (try go_bits); (try clear ρ);
      refine hK'.out _ _ _ rfl ?_ hT' (RSp.refl); rfl
    refine SeqOps.nil ?_
    intro w17 hBl; (refine fun v h => ?_; obtain rfl := h); (refine fun v h => ?_; obtain rfl := h); (refine fun v h => ?_; obtain rfl := h); (refine fun v h => ?_; obtain rfl := h); (refine fun v h => ?_; obtain ⟨G, rfl, hG⟩ := h); (refine fun v h => ?_; obtain rfl := h); (refine fun v h => ?_; obtain rfl := h); (refine fun v h => ?_; obtain rfl := h); (refine fun v h => ?_; obtain rfl := h); (refine fun v h => ?_; obtain ⟨B, rfl, hB1, hB2, hB3, cs, hB4⟩ := h); (refine fun v h => ?_; obtain rfl := h);
    refine fun ax hEx => ?_
    simp only [lk, pick, Nat.reduceEqDiff, ↓reduceIte] at hEx
    refine late_done [1, 2, 4, 6, 8, 10, 12, 14, 16, 18] hEx hK (fun a hE => ?_); clear hK K Q' hEx; simp only [lk, pick, Nat.reduceEqDiff, ↓reduceIte] at hE
    clear hBc
    have hBc := hBl
    clear hBl
    (repeat (first | (with_reducible refine wp_seq ?_) | (with_reducible refine wp_block ?_) | (with_reducible refine then_n ?_) | (with_reducible refine inBlock_n ?_) | (with_reducible refine then_ret ?_) | (with_reducible refine inBlock_ret ?_) | (with_reducible refine then_exit ?_) | (with_reducible refine inBlock_hit ?_) | (with_reducible refine inBlock_miss (by decide) ?_) | (with_reducible refine wp_ret ?_) | (with_reducible refine wp_exit ?_) | (with_reducible refine wp_skip ?_)))
    refine region_drawn [] (fun wt => Below wr.heap.size wr wt) (fun w1 w2 => Below w1.heap.size w1 w2) [(0, some 183), (1, some 184), (2, some 185), (3, some 186), (4, some 187), (5, some 188), (6, some 182), (7, some 189), (8, some 190), (9, some 19), (10, some 20)] [183, 184, 185, 186, 187, 188, 182, 189, 190, 19, 20] #[true, true, true, true, true, true, true, true, true, true, true] [1, 2, 4, 6, 8, 10, 12, 14, 16, 18] hE (by kernel_rfl) (by kernel_rfl) (by kernel_rfl) (by kernel_rfl) (by kernel_rfl) (by kernel_rfl) (by kernel_rfl) (by kernel_rfl) (by kernel_rfl) (by kernel_rfl) (by kernel_rfl) (by kernel_rfl) (by decide) (hBc.drew) (fun Q' K hK => ?_)
    refine SeqOps.val ?_ (StepOk.plain (by (first | (simp only [List.getElem?_toArray, List.getElem?_cons_succ, List.getElem?_cons_zero]; rfl) | rfl)) rfl (fun ax wx hS hT' hd K' hK' => ?_)) ?_; rotate_left 1
    · have r1 := hS.at 1 (by decide) (hE.at 1 rfl); obtain ⟨hcT, hfT, hlT, hmT, hwT⟩ := bcell hT'; have hzT := hT'.size
      refine op_run (fun ρ hρ qc qf qg => ?_); have q1 := rho hρ r1; clear hρ; go_simp; (try go_bits); (try clear ρ);
      refine hK'.out _ _ _ rfl ?_ hT' (Below.refl _ _); rfl
    refine SeqOps.val ?_ (StepOk.plain (by (first | (simp only [List.getElem?_toArray, List.getElem?_cons_succ, List.getElem?_cons_zero]; rfl) | rfl)) rfl (fun ax wx hS hT' hd K' hK' => ?_)) ?_; rotate_left 1
    · have r2 := hS.at 2 (by decide) (hE.at 2 rfl); obtain ⟨hcT, hfT, hlT, hmT, hwT⟩ := bcell hT'; have hzT := hT'.size
      refine op_run (fun ρ hρ qc qf qg => ?_); have q2 := rho hρ r2; clear hρ; go_simp; (try go_bits); (try clear ρ);
      refine hK'.out _ _ _ rfl ?_ hT' (Below.refl _ _); rfl
    refine SeqOps.val ?_ (StepOk.plain (by (first | (simp only [List.getElem?_toArray, List.getElem?_cons_succ, List.getElem?_cons_zero]; rfl) | rfl)) rfl (fun ax wx hS hT' hd K' hK' => ?_)) ?_; rotate_left 1
    · have r183 := told_val hd 1 (k := 0) (e := 183) rfl (by kernel_rfl) (by kernel_rfl); have r184 := told_val hd 0 (k := 1) (e := 184) rfl (by kernel_rfl) (by kernel_rfl); obtain ⟨hcT, hfT, hlT, hmT, hwT⟩ := bcell hT'; have hzT := hT'.size
      refine op_run (fun ρ hρ qc qf qg => ?_); have q183 := rho hρ r183; have q184 := rho hρ r184; clear hρ; go_simp; (try go_bits); (try clear ρ);
      refine hK'.out _ _ _ rfl ?_ hT' (Below.refl _ _); rfl
    refine SeqOps.val ?_ (StepOk.plain (by (first | (simp only [List.getElem?_toArray, List.getElem?_cons_succ, List.getElem?_cons_zero]; rfl) | rfl)) rfl (fun ax wx hS hT' hd K' hK' => ?_)) ?_; rotate_left 1
    · have r185 := told_val hd 0 (k := 2) (e := 185) rfl (by kernel_rfl) (by kernel_rfl); obtain ⟨hcT, hfT, hlT, hmT, hwT⟩ := bcell hT'; have hzT := hT'.size
      refine op_run (fun ρ hρ qc qf qg => ?_); have q185 := rho hρ r185; clear hρ; go_simp; (try go_bits); (try clear ρ);
      refine hK'.out _ _ _ rfl ?_ hT' (Below.refl _ _); rfl
    refine SeqOps.say (fun v wt => ∃ G, v = .slice (some ⟨G, 0, none⟩) 7 7 ∧ Blk 0 G Z21 67 wt) (fun _ _ _ hR ⟨G, e, hG⟩ => ⟨G, e, hG.keep hR⟩) (StepOk.plain (by (first | (simp only [List.getElem?_toArray, List.getElem?_cons_succ, List.getElem?_cons_zero]; rfl) | rfl)) rfl (fun ax wx hS hT' hd K' hK' => ?_)) ?_
    · obtain ⟨hcT, hfT, hlT, hmT, hwT⟩ := bcell hT'; have hzT := hT'.size
      refine op_run (fun ρ hρ qc qf qg => ?_); clear hρ; go_simp; (try go_bits); (try clear ρ);
      exact hK'.out _ _ _ rfl ⟨_, rfl, blk_zero wx _ Z21 _ (by kernel_rfl) (Nat.zero_le _)⟩ (hT'.trans (((Below.refl _ _).alloc (Nat.le_refl _) _).mono hT'.size)) ((Below.refl _ _).alloc (Nat.le_refl _) _)
    refine SeqOps.say (fun v _ => ∃ O oc, v = .tuple #[.slice O 0 oc, .int .i64 10]) (fun _ _ _ _ h => h) (StepOk.plain (by (first | (simp only [List.getElem?_toArray, List.getElem?_cons_succ, List.getElem?_cons_zero]; rfl) | rfl)) rfl (fun ax wx hS hT' hd K' hK' => ?_)) ?_
    · have r186 := told_val hd 1 (k := 3) (e := 186) rfl (by kernel_rfl) (by kernel_rfl); obtain ⟨v187, r187, h187⟩ := told_get hd 0 (k := 4) (e := 187) rfl (by kernel_rfl) (by kernel_rfl); obtain ⟨G, rfl, hG⟩ := h187; obtain ⟨hcT, hfT, hlT, hmT, hwT⟩ := bcell hT'; have hzT := hT'.size
      refine op_run (fun ρ hρ qc qf qg => ?_); have q186 := rho hρ r186; have q187 := rho hρ r187; clear hρ; go_simp; (try go_bits); (try clear ρ);
      go_at_call 32; refine (kWrong (n := 0) (bad_wrong HO.out _) rfl HF.out rfl (by decide) _ ((hA.below hT').more hT'.size) (hG.arr Z21_lines)).mono ?_; rintro e w1 ⟨O, oc, rfl, h1⟩
      exact hK'.out _ _ _ rfl ⟨O, oc, rfl⟩ (hT'.trans (h1.mono hT'.size)) h1
    refine SeqOps.say (fun v _ => ∃ O oc, v = .tuple #[.slice O 0 oc, .int .i64 10]) (fun _ _ _ _ h => h) (StepOk.plain (by (first | (simp only [List.getElem?_toArray, List.getElem?_cons_succ, List.getElem?_cons_zero]; rfl) | rfl)) rfl (fun ax wx hS hT' hd K' hK' => ?_)) ?_
    · obtain ⟨v188, r188, h188⟩ := told_get hd 0 (k := 5) (e := 188) rfl (by kernel_rfl) (by kernel_rfl); obtain ⟨O, oc, rfl⟩ := h188; obtain ⟨hcT, hfT, hlT, hmT, hwT⟩ := bcell hT'; have hzT := hT'.size
      refine op_run (fun ρ hρ qc qf qg => ?_); have q188 := rho hρ r188; clear hρ; go_simp; (try go_bits); (try clear ρ);
      exact hK'.out _ _ _ rfl ⟨O, oc, rfl⟩ hT' (Below.refl _ _)
    refine SeqOps.say (fun _ _ => True) (fun _ _ _ _ h => h) (StepOk.plain (by (first | (simp only [List.getElem?_toArray, List.getElem?_cons_succ, List.getElem?_cons_zero]; rfl) | rfl)) rfl (fun ax wx hS hT' hd K' hK' => ?_)) ?_
    · obtain ⟨v182, r182, h182⟩ := told_get hd 0 (k := 6) (e := 182) rfl (by kernel_rfl) (by kernel_rfl); obtain ⟨O, oc, rfl⟩ := h182; obtain ⟨hcT, hfT, hlT, hmT, hwT⟩ := bcell hT'; have hzT := hT'.size
      refine op_run (fun ρ hρ qc qf qg => ?_); have q182 := rho hρ r182; clear hρ; go_simp; (try go_bits); (try clear ρ);
      exact hK'.out _ _ _ rfl trivial hT' (Below.refl _ _)
    refine SeqOps.val ?_ (StepOk.plain (by (first | (simp only [List.getElem?_toArray, List.getElem?_cons_succ, List.getElem?_cons_zero]; rfl) | rfl)) rfl (fun ax wx hS hT' hd K' hK' => ?_)) ?_; rotate_left 1
    · obtain ⟨v182, r182, h182⟩ := told_get hd 1 (k := 6) (e := 182) rfl (by kernel_rfl) (by kernel_rfl); obtain ⟨O, oc, rfl⟩ := h182; obtain ⟨hcT, hfT, hlT, hmT, hwT⟩ := bcell hT'; have hzT := hT'.size
      refine op_run (fun ρ hρ qc qf qg => ?_); have q182 := rho hρ r182; clear hρ; go_simp; (try go_bits); (try clear ρ);
      refine hK'.out _ _ _ rfl ?_ hT' (Below.refl _ _); rfl
    refine SeqOps.say (fun _ _ => True) (fun _ _ _ _ h => h) (StepOk.plain (by (first | (simp only [List.getElem?_toArray, List.getElem?_cons_succ, List.getElem?_cons_zero]; rfl) | rfl)) rfl (fun ax wx hS hT' hd K' hK' => ?_)) ?_
    · obtain ⟨v189, r189, h189⟩ := told_get hd 1 (k := 7) (e := 189) rfl (by kernel_rfl) (by kernel_rfl); obtain ⟨hcT, hfT, hlT, hmT, hwT⟩ := bcell hT'; have hzT := hT'.size
      refine op_run (fun ρ hρ qc qf qg => ?_); have q189 := rho hρ r189; clear hρ; go_simp; (try go_bits); (try clear ρ);
      exact hK'.out _ _ _ rfl trivial hT' (Below.refl _ _)
    refine SeqOps.val ?_ (StepOk.plain (by (first | (simp only [List.getElem?_toArray, List.getElem?_cons_succ, List.getElem?_cons_zero]; rfl) | rfl)) rfl (fun ax wx hS hT' hd K' hK' => ?_)) ?_; rotate_left 1
    · have r190 := told_val hd 1 (k := 8) (e := 190) rfl (by kernel_rfl) (by kernel_rfl); obtain ⟨hcT, hfT, hlT, hmT, hwT⟩ := bcell hT'; have hzT := hT'.size
      refine op_run (fun ρ hρ qc qf qg => ?_); have q190 := rho hρ r190; clear hρ; go_simp; (try go_bits); (try clear ρ);
      refine hK'.out _ _ _ rfl ?_ hT' (Below.refl _ _); rfl
    refine SeqOps.nil ?_
    intro w18 hBl; (refine fun v h => ?_; obtain rfl := h); (refine fun v h => ?_; obtain rfl := h); (refine fun v h => ?_; obtain rfl := h); (refine fun v h => ?_; obtain rfl := h); (refine fun v h => ?_; obtain ⟨G, rfl, hG⟩ := h); (refine fun v h => ?_; obtain ⟨O, oc, rfl⟩ := h); (refine fun v h => ?_; obtain ⟨O, oc, rfl⟩ := h); (refine fun v h => ?_; obtain h189 := h); (refine fun v h => ?_; obtain rfl := h); (refine fun v h => ?_; obtain h19 := h); (refine fun v h => ?_; obtain rfl := h);
    refine fun ax hEx => ?_
    simp only [lk, pick, Nat.reduceEqDiff, ↓reduceIte] at hEx
    refine late_done [1, 2, 4, 6, 8, 10, 12, 14, 16, 18, 20] hEx hK (fun a hE => ?_); clear hK K Q' hEx; simp only [lk, pick, Nat.reduceEqDiff, ↓reduceIte] at hE
    clear hBc
    have hBc := hBl
    clear hBl
    (repeat (first | (with_reducible refine wp_seq ?_) | (with_reducible refine wp_block ?_) | (with_reducible refine then_n ?_) | (with_reducible refine inBlock_n ?_) | (with_reducible refine then_ret ?_) | (with_reducible refine inBlock_ret ?_) | (with_reducible refine then_exit ?_) | (with_reducible refine inBlock_hit ?_) | (with_reducible refine inBlock_miss (by decide) ?_) | (with_reducible refine wp_ret ?_) | (with_reducible refine wp_exit ?_) | (with_reducible refine wp_skip ?_)))
    obtain ⟨hcR, hfR, hlR, hmR, hwR⟩ := bcell hBc
    have hAc := (hA.below hBc).more hBc.size
    refine region_straight (m := 42) rfl (fun Q' K hK => ?_)
    refine Late.plain (by (first | (simp only [List.getElem?_toArray, List.getElem?_cons_succ, List.getElem?_cons_zero]; rfl) | rfl)) rfl (fun K' hK' => ?_)
    have r1 := hE.at 1 rfl
    refine op_run (fun ρ hρ qc qf qg => ?_); have q1 := rho hρ r1; clear hρ; go_simp; (try go_bits); (try clear ρ); (try clear qc qf qg r1 q1)
    refine late_next hE (by decide) hK' (fun a_1 hE_1 => ?_); clear hK' K'; clear hE a
    refine Late.plain (by (first | (simp only [List.getElem?_toArray, List.getElem?_cons_succ, List.getElem?_cons_zero]; rfl) | rfl)) rfl (fun K' hK' => ?_)
    have r2 := hE_1.at 2 rfl
    refine op_run (fun ρ hρ qc qf qg => ?_); have q2 := rho hρ r2; clear hρ; go_simp; (try go_bits); (try clear ρ); (try clear qc qf qg r2 q2)
    refine late_next hE_1 (by decide) hK' (fun a_2 hE_2 => ?_); clear hK' K'; clear hE_1
    refine Late.plain (by (first | (simp only [List.getElem?_toArray, List.getElem?_cons_succ, List.getElem?_cons_zero]; rfl) | rfl)) rfl (fun K' hK' => ?_)
    have r191 := hE_2.at 191 rfl; have r192 := hE_2.at 192 rfl
    refine op_run (fun ρ hρ qc qf qg => ?_); have q191 := rho hρ r191; have q192 := rho hρ r192; clear hρ; go_simp; (try go_bits); (try clear ρ); (try clear qc qf qg r191 q191 r192 q192)
    refine late_next hE_2 (by decide) hK' (fun a_3 hE_3 => ?_); clear hK' K'; clear hE_2
    refine Late.plain (by (first | (simp only [List.getElem?_toArray, List.getElem?_cons_succ, List.getElem?_cons_zero]; rfl) | rfl)) rfl (fun K' hK' => ?_)
    have r193 := hE_3.at 193 rfl
    refine op_run (fun ρ hρ qc qf qg => ?_); have q193 := rho hρ r193; clear hρ; go_simp; (try go_bits); (try clear ρ); (try clear qc qf qg r193 q193)
    refine late_next hE_3 (by decide) hK' (fun a_4 hE_4 => ?_); clear hK' K'; clear hE_3
    refine Late.plain (by (first | (simp only [List.getElem?_toArray, List.getElem?_cons_succ, List.getElem?_cons_zero]; rfl) | rfl)) rfl (fun K' hK' => ?_)
    have r194 := hE_4.at 194 rfl
    refine op_run (fun ρ hρ qc qf qg => ?_); have q194 := rho hρ r194; clear hρ; go_simp; (try go_bits); (try clear ρ); (try clear qc qf qg r194 q194)
    go_at_call 16; refine (kCheck (bad_check HO.out) HF.out _ hAc).mono ?_; rintro e w1 ⟨rfl, hb1⟩
    refine late_next hE_4 (by decide) hK' (fun a_5 hE_5 => ?_); clear hK' K'; clear hE_4
    refine Late.plain (by (first | (simp only [List.getElem?_toArray, List.getElem?_cons_succ, List.getElem?_cons_zero]; rfl) | rfl)) rfl (fun K' hK' => ?_)
    have r195 := hE_5.at 195 rfl
    refine op_run (fun ρ hρ qc qf qg => ?_); have q195 := rho hρ r195; clear hρ; go_simp; (try go_bits); (try clear ρ); (try clear qc qf qg r195 q195)
    refine late_next hE_5 (by decide) hK' (fun a_6 hE_6 => ?_); clear hK' K'; clear hE_5
    refine Late.plain (by (first | (simp only [List.getElem?_toArray, List.getElem?_cons_succ, List.getElem?_cons_zero]; rfl) | rfl)) rfl (fun K' hK' => ?_)
    have r196 := hE_6.at 196 rfl
    refine op_run (fun ρ hρ qc qf qg => ?_); have q196 := rho hρ r196; clear hρ; go_simp; (try go_bits); (try clear ρ); (try clear qc qf qg r196 q196)
    refine late_next hE_6 (by decide) hK' (fun a_7 hE_7 => ?_); clear hK' K'; clear hE_6
    refine Late.yes hE_7 (by (first | (simp only [List.getElem?_toArray, List.getElem?_cons_succ, List.getElem?_cons_zero]; rfl) | rfl)) rfl (d := 197) (by kernel_rfl) rfl (fun K' hK' => ?_)
    have r4 := hE_7.at 4 rfl
    refine op_run (fun ρ hρ qc qf qg => ?_); have q4 := rho hρ r4; clear hρ; go_simp; (try go_bits); (try clear ρ); (try clear qc qf qg r4 q4)
    refine late_next hE_7 (by decide) hK' (fun a_8 hE_8 => ?_); clear hK' K'; clear hE_7
    refine Late.yes hE_8 (by (first | (simp only [List.getElem?_toArray, List.getElem?_cons_succ, List.getElem?_cons_zero]; rfl) | rfl)) rfl (d := 197) (by kernel_rfl) rfl (fun K' hK' => ?_)
    have r198 := hE_8.at 198 rfl
    refine op_run (fun ρ hρ qc qf qg => ?_); have q198 := rho hρ r198; clear hρ; go_simp; (try go_bits); (try clear ρ); (try clear qc qf qg r198 q198)
    refine late_next hE_8 (by decide) hK' (fun a_9 hE_9 => ?_); clear hK' K'; clear hE_8
    refine Late.plain (by (first | (simp only [List.getElem?_toArray, List.getElem?_cons_succ, List.getElem?_cons_zero]; rfl) | rfl)) rfl (fun K' hK' => ?_)
    have r197 := hE_9.at 197 rfl; have r199 := hE_9.at 199 rfl
    refine op_run (fun ρ hρ qc qf qg => ?_); have q197 := rho hρ r197; have q199 := rho hρ r199; clear hρ; go_simp; (try go_bits); (try clear ρ); (try clear qc qf qg r197 q197 r199 q199)
    refine late_next hE_9 (by decide) hK' (fun a_10 hE_10 => ?_); clear hK' K'; clear hE_9
    refine Late.plain (by (first | (simp only [List.getElem?_toArray, List.getElem?_cons_succ, List.getElem?_cons_zero]; rfl) | rfl)) rfl (fun K' hK' => ?_)
    have r200 := hE_10.at 200 rfl
    refine op_run (fun ρ hρ qc qf qg => ?_); have q200 := rho hρ r200; clear hρ; go_simp; (try go_bits); (try clear ρ); (try clear qc qf qg r200 q200)
    refine late_next hE_10 (by decide) hK' (fun a_11 hE_11 => ?_); clear hK' K'; clear hE_10
    refine Late.yes hE_11 (by (first | (simp only [List.getElem?_toArray, List.getElem?_cons_succ, List.getElem?_cons_zero]; rfl) | rfl)) rfl (d := 201) (by kernel_rfl) rfl (fun K' hK' => ?_)
    have r6 := hE_11.at 6 rfl
    refine op_run (fun ρ hρ qc qf qg => ?_); have q6 := rho hρ r6; clear hρ; go_simp; (try go_bits); (try clear ρ); (try clear qc qf qg r6 q6)
    refine late_next hE_11 (by decide) hK' (fun a_12 hE_12 => ?_); clear hK' K'; clear hE_11
    refine Late.yes hE_12 (by (first | (simp only [List.getElem?_toArray, List.getElem?_cons_succ, List.getElem?_cons_zero]; rfl) | rfl)) rfl (d := 201) (by kernel_rfl) rfl (fun K' hK' => ?_)
    have r202 := hE_12.at 202 rfl
    refine op_run (fun ρ hρ qc qf qg => ?_); have q202 := rho hρ r202; clear hρ; go_simp; (try go_bits); (try clear ρ); (try clear qc qf qg r202 q202)
    refine late_next hE_12 (by decide) hK' (fun a_13 hE_13 => ?_); clear hK' K'; clear hE_12
    refine Late.plain (by (first | (simp only [List.getElem?_toArray, List.getElem?_cons_succ, List.getElem?_cons_zero]; rfl) | rfl)) rfl (fun K' hK' => ?_)
    have r201 := hE_13.at 201 rfl; have r203 := hE_13.at 203 rfl
    refine op_run (fun ρ hρ qc qf qg => ?_); have q201 := rho hρ r201; have q203 := rho hρ r203; clear hρ; go_simp; (try go_bits); (try clear ρ); (try clear qc qf qg r201 q201 r203 q203)
    refine late_next hE_13 (by decide) hK' (fun a_14 hE_14 => ?_); clear hK' K'; clear hE_13
    refine Late.plain (by (first | (simp only [List.getElem?_toArray, List.getElem?_cons_succ, List.getElem?_cons_zero]; rfl) | rfl)) rfl (fun K' hK' => ?_)
    have r204 := hE_14.at 204 rfl
    refine op_run (fun ρ hρ qc qf qg => ?_); have q204 := rho hρ r204; clear hρ; go_simp; (try go_bits); (try clear ρ); (try clear qc qf qg r204 q204)
    refine late_next hE_14 (by decide) hK' (fun a_15 hE_15 => ?_); clear hK' K'; clear hE_14
    refine Late.yes hE_15 (by (first | (simp only [List.getElem?_toArray, List.getElem?_cons_succ, List.getElem?_cons_zero]; rfl) | rfl)) rfl (d := 205) (by kernel_rfl) rfl (fun K' hK' => ?_)
    have r8 := hE_15.at 8 rfl
    refine op_run (fun ρ hρ qc qf qg => ?_); have q8 := rho hρ r8; clear hρ; go_simp; (try go_bits); (try clear ρ); (try clear qc qf qg r8 q8)
    refine late_next hE_15 (by decide) hK' (fun a_16 hE_16 => ?_); clear hK' K'; clear hE_15
    refine Late.yes hE_16 (by (first | (simp only [List.getElem?_toArray, List.getElem?_cons_succ, List.getElem?_cons_zero]; rfl) | rfl)) rfl (d := 205) (by kernel_rfl) rfl (fun K' hK' => ?_)
    have r206 := hE_16.at 206 rfl
    refine op_run (fun ρ hρ qc qf qg => ?_); have q206 := rho hρ r206; clear hρ; go_simp; (try go_bits); (try clear ρ); (try clear qc qf qg r206 q206)
    refine late_next hE_16 (by decide) hK' (fun a_17 hE_17 => ?_); clear hK' K'; clear hE_16
    refine Late.plain (by (first | (simp only [List.getElem?_toArray, List.getElem?_cons_succ, List.getElem?_cons_zero]; rfl) | rfl)) rfl (fun K' hK' => ?_)
    have r205 := hE_17.at 205 rfl; have r207 := hE_17.at 207 rfl
    refine op_run (fun ρ hρ qc qf qg => ?_); have q205 := rho hρ r205; have q207 := rho hρ r207; clear hρ; go_simp; (try go_bits); (try clear ρ); (try clear qc qf qg r205 q205 r207 q207)
    refine late_next hE_17 (by decide) hK' (fun a_18 hE_18 => ?_); clear hK' K'; clear hE_17
    refine Late.plain (by (first | (simp only [List.getElem?_toArray, List.getElem?_cons_succ, List.getElem?_cons_zero]; rfl) | rfl)) rfl (fun K' hK' => ?_)
    have r208 := hE_18.at 208 rfl
    refine op_run (fun ρ hρ qc qf qg => ?_); have q208 := rho hρ r208; clear hρ; go_simp; (try go_bits); (try clear ρ); (try clear qc qf qg r208 q208)
    refine late_next hE_18 (by decide) hK' (fun a_19 hE_19 => ?_); clear hK' K'; clear hE_18
    refine Late.yes hE_19 (by (first | (simp only [List.getElem?_toArray, List.getElem?_cons_succ, List.getElem?_cons_zero]; rfl) | rfl)) rfl (d := 209) (by kernel_rfl) rfl (fun K' hK' => ?_)
    have r10 := hE_19.at 10 rfl
    refine op_run (fun ρ hρ qc qf qg => ?_); have q10 := rho hρ r10; clear hρ; go_simp; (try go_bits); (try clear ρ); (try clear qc qf qg r10 q10)
    refine late_next hE_19 (by decide) hK' (fun a_20 hE_20 => ?_); clear hK' K'; clear hE_19
    refine Late.yes hE_20 (by (first | (simp only [List.getElem?_toArray, List.getElem?_cons_succ, List.getElem?_cons_zero]; rfl) | rfl)) rfl (d := 209) (by kernel_rfl) rfl (fun K' hK' => ?_)
    have r210 := hE_20.at 210 rfl
    refine op_run (fun ρ hρ qc qf qg => ?_); have q210 := rho hρ r210; clear hρ; go_simp; (try go_bits); (try clear ρ); (try clear qc qf qg r210 q210)
    refine late_next hE_20 (by decide) hK' (fun a_21 hE_21 => ?_); clear hK' K'; clear hE_20
    refine Late.plain (by (first | (simp only [List.getElem?_toArray, List.getElem?_cons_succ, List.getElem?_cons_zero]; rfl) | rfl)) rfl (fun K' hK' => ?_)
    have r209 := hE_21.at 209 rfl; have r211 := hE_21.at 211 rfl
    refine op_run (fun ρ hρ qc qf qg => ?_); have q209 := rho hρ r209; have q211 := rho hρ r211; clear hρ; go_simp; (try go_bits); (try clear ρ); (try clear qc qf qg r209 q209 r211 q211)
    refine late_next hE_21 (by decide) hK' (fun a_22 hE_22 => ?_); clear hK' K'; clear hE_21
    refine Late.plain (by (first | (simp only [List.getElem?_toArray, List.getElem?_cons_succ, List.getElem?_cons_zero]; rfl) | rfl)) rfl (fun K' hK' => ?_)
    have r212 := hE_22.at 212 rfl
    refine op_run (fun ρ hρ qc qf qg => ?_); have q212 := rho hρ r212; clear hρ; go_simp; (try go_bits); (try clear ρ); (try clear qc qf qg r212 q212)
    refine late_next hE_22 (by decide) hK' (fun a_23 hE_23 => ?_); clear hK' K'; clear hE_22
    refine Late.yes hE_23 (by (first | (simp only [List.getElem?_toArray, List.getElem?_cons_succ, List.getElem?_cons_zero]; rfl) | rfl)) rfl (d := 213) (by kernel_rfl) rfl (fun K' hK' => ?_)
    have r12 := hE_23.at 12 rfl
    refine op_run (fun ρ hρ qc qf qg => ?_); have q12 := rho hρ r12; clear hρ; go_simp; (try go_bits); (try clear ρ); (try clear qc qf qg r12 q12)
    refine late_next hE_23 (by decide) hK' (fun a_24 hE_24 => ?_); clear hK' K'; clear hE_23
    refine Late.yes hE_24 (by (first | (simp only [List.getElem?_toArray, List.getElem?_cons_succ, List.getElem?_cons_zero]; rfl) | rfl)) rfl (d := 213) (by kernel_rfl) rfl (fun K' hK' => ?_)
    have r214 := hE_24.at 214 rfl
    refine op_run (fun ρ hρ qc qf qg => ?_); have q214 := rho hρ r214; clear hρ; go_simp; (try go_bits); (try clear ρ); (try clear qc qf qg r214 q214)
    refine late_next hE_24 (by decide) hK' (fun a_25 hE_25 => ?_); clear hK' K'; clear hE_24
    refine Late.plain (by (first | (simp only [List.getElem?_toArray, List.getElem?_cons_succ, List.getElem?_cons_zero]; rfl) | rfl)) rfl (fun K' hK' => ?_)
    have r213 := hE_25.at 213 rfl; have r215 := hE_25.at 215 rfl
    refine op_run (fun ρ hρ qc qf qg => ?_); have q213 := rho hρ r213; have q215 := rho hρ r215; clear hρ; go_simp; (try go_bits); (try clear ρ); (try clear qc qf qg r213 q213 r215 q215)
    refine late_next hE_25 (by decide) hK' (fun a_26 hE_26 => ?_); clear hK' K'; clear hE_25
    refine Late.plain (by (first | (simp only [List.getElem?_toArray, List.getElem?_cons_succ, List.getElem?_cons_zero]; rfl) | rfl)) rfl (fun K' hK' => ?_)
    have r216 := hE_26.at 216 rfl
    refine op_run (fun ρ hρ qc qf qg => ?_); have q216 := rho hρ r216; clear hρ; go_simp; (try go_bits); (try clear ρ); (try clear qc qf qg r216 q216)
    refine late_next hE_26 (by decide) hK' (fun a_27 hE_27 => ?_); clear hK' K'; clear hE_26
    refine Late.yes hE_27 (by (first | (simp only [List.getElem?_toArray, List.getElem?_cons_succ, List.getElem?_cons_zero]; rfl) | rfl)) rfl (d := 217) (by kernel_rfl) rfl (fun K' hK' => ?_)
    have r14 := hE_27.at 14 rfl
    refine op_run (fun ρ hρ qc qf qg => ?_); have q14 := rho hρ r14; clear hρ; go_simp; (try go_bits); (try clear ρ); (try clear qc qf qg r14 q14)
    refine late_next hE_27 (by decide) hK' (fun a_28 hE_28 => ?_); clear hK' K'; clear hE_27
    refine Late.yes hE_28 (by (first | (simp only [List.getElem?_toArray, List.getElem?_cons_succ, List.getElem?_cons_zero]; rfl) | rfl)) rfl (d := 217) (by kernel_rfl) rfl (fun K' hK' => ?_)
    have r218 := hE_28.at 218 rfl
    refine op_run (fun ρ hρ qc qf qg => ?_); have q218 := rho hρ r218; clear hρ; go_simp; (try go_bits); (try clear ρ); (try clear qc qf qg r218 q218)
    refine late_next hE_28 (by decide) hK' (fun a_29 hE_29 => ?_); clear hK' K'; clear hE_28
    refine Late.plain (by (first | (simp only [List.getElem?_toArray, List.getElem?_cons_succ, List.getElem?_cons_zero]; rfl) | rfl)) rfl (fun K' hK' => ?_)
    have r217 := hE_29.at 217 rfl; have r219 := hE_29.at 219 rfl
    refine op_run (fun ρ hρ qc qf qg => ?_); have q217 := rho hρ r217; have q219 := rho hρ r219; clear hρ; go_simp; (try go_bits); (try clear ρ); (try clear qc qf qg r217 q217 r219 q219)
    refine late_next hE_29 (by decide) hK' (fun a_30 hE_30 => ?_); clear hK' K'; clear hE_29
    refine Late.plain (by (first | (simp only [List.getElem?_toArray, List.getElem?_cons_succ, List.getElem?_cons_zero]; rfl) | rfl)) rfl (fun K' hK' => ?_)
    have r220 := hE_30.at 220 rfl
    refine op_run (fun ρ hρ qc qf qg => ?_); have q220 := rho hρ r220; clear hρ; go_simp; (try go_bits); (try clear ρ); (try clear qc qf qg r220 q220)
    refine late_next hE_30 (by decide) hK' (fun a_31 hE_31 => ?_); clear hK' K'; clear hE_30
    refine Late.yes hE_31 (by (first | (simp only [List.getElem?_toArray, List.getElem?_cons_succ, List.getElem?_cons_zero]; rfl) | rfl)) rfl (d := 221) (by kernel_rfl) rfl (fun K' hK' => ?_)
    have r16 := hE_31.at 16 rfl
    refine op_run (fun ρ hρ qc qf qg => ?_); have q16 := rho hρ r16; clear hρ; go_simp; (try go_bits); (try clear ρ); (try clear qc qf qg r16 q16)
    refine late_next hE_31 (by decide) hK' (fun a_32 hE_32 => ?_); clear hK' K'; clear hE_31
    refine Late.yes hE_32 (by (first | (simp only [List.getElem?_toArray, List.getElem?_cons_succ, List.getElem?_cons_zero]; rfl) | rfl)) rfl (d := 221) (by kernel_rfl) rfl (fun K' hK' => ?_)
    have r222 := hE_32.at 222 rfl
    refine op_run (fun ρ hρ qc qf qg => ?_); have q222 := rho hρ r222; clear hρ; go_simp; (try go_bits); (try clear ρ); (try clear qc qf qg r222 q222)
    refine late_next hE_32 (by decide) hK' (fun a_33 hE_33 => ?_); clear hK' K'; clear hE_32
    refine Late.plain (by (first | (simp only [List.getElem?_toArray, List.getElem?_cons_succ, List.getElem?_cons_zero]; rfl) | rfl)) rfl (fun K' hK' => ?_)
    have r221 := hE_33.at 221 rfl; have r223 := hE_33.at 223 rfl
    refine op_run (fun ρ hρ qc qf qg => ?_); have q221 := rho hρ r221; have q223 := rho hρ r223; clear hρ; go_simp; (try go_bits); (try clear ρ); (try clear qc qf qg r221 q221 r223 q223)
    refine late_next hE_33 (by decide) hK' (fun a_34 hE_34 => ?_); clear hK' K'; clear hE_33
    refine Late.plain (by (first | (simp only [List.getElem?_toArray, List.getElem?_cons_succ, List.getElem?_cons_zero]; rfl) | rfl)) rfl (fun K' hK' => ?_)
    have r224 := hE_34.at 224 rfl
    refine op_run (fun ρ hρ qc qf qg => ?_); have q224 := rho hρ r224; clear hρ; go_simp; (try go_bits); (try clear ρ); (try clear qc qf qg r224 q224)
    refine late_next hE_34 (by decide) hK' (fun a_35 hE_35 => ?_); clear hK' K'; clear hE_34
    refine Late.yes hE_35 (by (first | (simp only [List.getElem?_toArray, List.getElem?_cons_succ, List.getElem?_cons_zero]; rfl) | rfl)) rfl (d := 225) (by kernel_rfl) rfl (fun K' hK' => ?_)
    have r18 := hE_35.at 18 rfl
    refine op_run (fun ρ hρ qc qf qg => ?_); have q18 := rho hρ r18; clear hρ; go_simp; (try go_bits); (try clear ρ); (try clear qc qf qg r18 q18)
    refine late_next hE_35 (by decide) hK' (fun a_36 hE_36 => ?_); clear hK' K'; clear hE_35
    refine Late.yes hE_36 (by (first | (simp only [List.getElem?_toArray, List.getElem?_cons_succ, List.getElem?_cons_zero]; rfl) | rfl)) rfl (d := 225) (by kernel_rfl) rfl (fun K' hK' => ?_)
    have r226 := hE_36.at 226 rfl
    refine op_run (fun ρ hρ qc qf qg => ?_); have q226 := rho hρ r226; clear hρ; go_simp; (try go_bits); (try clear ρ); (try clear qc qf qg r226 q226)
    refine late_next hE_36 (by decide) hK' (fun a_37 hE_37 => ?_); clear hK' K'; clear hE_36
    refine Late.plain (by (first | (simp only [List.getElem?_toArray, List.getElem?_cons_succ, List.getElem?_cons_zero]; rfl) | rfl)) rfl (fun K' hK' => ?_)
    have r225 := hE_37.at 225 rfl; have r227 := hE_37.at 227 rfl
    refine op_run (fun ρ hρ qc qf qg => ?_); have q225 := rho hρ r225; have q227 := rho hρ r227; clear hρ; go_simp; (try go_bits); (try clear ρ); (try clear qc qf qg r225 q225 r227 q227)
    refine late_next hE_37 (by decide) hK' (fun a_38 hE_38 => ?_); clear hK' K'; clear hE_37
    refine Late.plain (by (first | (simp only [List.getElem?_toArray, List.getElem?_cons_succ, List.getElem?_cons_zero]; rfl) | rfl)) rfl (fun K' hK' => ?_)
    have r228 := hE_38.at 228 rfl
    refine op_run (fun ρ hρ qc qf qg => ?_); have q228 := rho hρ r228; clear hρ; go_simp; (try go_bits); (try clear ρ); (try clear qc qf qg r228 q228)
    refine late_next hE_38 (by decide) hK' (fun a_39 hE_39 => ?_); clear hK' K'; clear hE_38
    refine Late.yes hE_39 (by (first | (simp only [List.getElem?_toArray, List.getElem?_cons_succ, List.getElem?_cons_zero]; rfl) | rfl)) rfl (d := 229) (by kernel_rfl) rfl (fun K' hK' => ?_)
    have r20 := hE_39.at 20 rfl
    refine op_run (fun ρ hρ qc qf qg => ?_); have q20 := rho hρ r20; clear hρ; go_simp; (try go_bits); (try clear ρ); (try clear qc qf qg r20 q20)
    refine late_next hE_39 (by decide) hK' (fun a_40 hE_40 => ?_); clear hK' K'; clear hE_39
    refine Late.yes hE_40 (by (first | (simp only [List.getElem?_toArray, List.getElem?_cons_succ, List.getElem?_cons_zero]; rfl) | rfl)) rfl (d := 229) (by kernel_rfl) rfl (fun K' hK' => ?_)
    have r230 := hE_40.at 230 rfl
    refine op_run (fun ρ hρ qc qf qg => ?_); have q230 := rho hρ r230; clear hρ; go_simp; (try go_bits); (try clear ρ); (try clear qc qf qg r230 q230)
    refine late_next hE_40 (by decide) hK' (fun a_41 hE_41 => ?_); clear hK' K'; clear hE_40
    refine Late.plain (by (first | (simp only [List.getElem?_toArray, List.getElem?_cons_succ, List.getElem?_cons_zero]; rfl) | rfl)) rfl (fun K' hK' => ?_)
    have r229 := hE_41.at 229 rfl; have r231 := hE_41.at 231 rfl
    refine op_run (fun ρ hρ qc qf qg => ?_); have q229 := rho hρ r229; have q231 := rho hρ r231; clear hρ; go_simp; (try go_bits); (try clear ρ); (try clear qc qf qg r229 q229 r231 q231)
    refine late_next hE_41 (by decide) hK' (fun a_42 hE_42 => ?_); clear hK' K'; clear hE_41
    refine late_done [1, 2, 232] hE_42 hK (fun a hE => ?_); clear hK K Q' hE_42; simp only [lk, pick, Nat.reduceEqDiff, ↓reduceIte] at hE
    have hBd := hBc.trans (hb1.mono hBc.size)
    clear hBc hb1 hAc hcR hfR hlR hmR hwR
    have hBc := hBd
    clear hBd
    (repeat (first | (with_reducible refine wp_seq ?_) | (with_reducible refine wp_block ?_) | (with_reducible refine then_n ?_) | (with_reducible refine inBlock_n ?_) | (with_reducible refine then_ret ?_) | (with_reducible refine inBlock_ret ?_) | (with_reducible refine then_exit ?_) | (with_reducible refine inBlock_hit ?_) | (with_reducible refine inBlock_miss (by decide) ?_) | (with_reducible refine wp_ret ?_) | (with_reducible refine wp_exit ?_) | (with_reducible refine wp_skip ?_)))
    refine cond_no hE (t := 232) rfl ?_
    (repeat (first | (with_reducible refine wp_seq ?_) | (with_reducible refine wp_block ?_) | (with_reducible refine then_n ?_) | (with_reducible refine inBlock_n ?_) | (with_reducible refine then_ret ?_) | (with_reducible refine inBlock_ret ?_) | (with_reducible refine then_exit ?_) | (with_reducible refine inBlock_hit ?_) | (with_reducible refine inBlock_miss (by decide) ?_) | (with_reducible refine wp_ret ?_) | (with_reducible refine wp_exit ?_) | (with_reducible refine wp_skip ?_)))
    refine region_straight (m := 3) rfl (fun Q' K hK => ?_)
    refine Late.plain (by (first | (simp only [List.getElem?_toArray, List.getElem?_cons_succ, List.getElem?_cons_zero]; rfl) | rfl)) rfl (fun K' hK' => ?_)
    have r2 := hE.at 2 rfl
    refine op_run (fun ρ hρ qc qf qg => ?_); have q2 := rho hρ r2; clear hρ; go_simp; (try go_bits); (try clear ρ); (try clear qc qf qg r2 q2)
    refine late_next hE (by decide) hK' (fun a_1 hE_1 => ?_); clear hK' K'; clear hE a
    refine Late.plain (by (first | (simp only [List.getElem?_toArray, List.getElem?_cons_succ, List.getElem?_cons_zero]; rfl) | rfl)) rfl (fun K' hK' => ?_)
    have r111 := hE_1.at 111 rfl
    refine op_run (fun ρ hρ qc qf qg => ?_); have q111 := rho hρ r111; clear hρ; go_simp; (try go_bits); (try simp (disch := omega) only [IntWalk.i64_in]); (try clear ρ); (try clear qc qf qg r111 q111)
    refine late_next hE_1 (by decide) hK' (fun a_2 hE_2 => ?_); clear hK' K'; clear hE_1
    refine Late.plain (by (first | (simp only [List.getElem?_toArray, List.getElem?_cons_succ, List.getElem?_cons_zero]; rfl) | rfl)) rfl (fun K' hK' => ?_)
    have r112 := hE_2.at 112 rfl
    refine op_run (fun ρ hρ qc qf qg => ?_); have q112 := rho hρ r112; clear hρ; go_simp; (try go_bits); (try clear ρ); (try clear qc qf qg r112 q112)
    refine late_next hE_2 (by decide) hK' (fun a_3 hE_3 => ?_); clear hK' K'; clear hE_2
    refine late_done [1, 2] hE_3 hK (fun a hE => ?_); clear hK K Q' hE_3; simp only [lk, pick, Nat.reduceEqDiff, ↓reduceIte] at hE
    (repeat (first | (with_reducible refine wp_seq ?_) | (with_reducible refine wp_block ?_) | (with_reducible refine then_n ?_) | (with_reducible refine inBlock_n ?_) | (with_reducible refine then_ret ?_) | (with_reducible refine inBlock_ret ?_) | (with_reducible refine then_exit ?_) | (with_reducible refine inBlock_hit ?_) | (with_reducible refine inBlock_miss (by decide) ?_) | (with_reducible refine wp_ret ?_) | (with_reducible refine wp_exit ?_) | (with_reducible refine wp_skip ?_)))
    exact ⟨i + 1, ⟨hlt, by simpa using hE, hR.below hBc, hB.trans (hBc.mono hB.size)⟩, by omega⟩
  · clear h hi
    (repeat (first | (with_reducible refine then_n ?_) | (with_reducible refine inBlock_n ?_) | (with_reducible refine then_exit ?_) | (with_reducible refine inBlock_hit ?_) | (with_reducible refine inBlock_miss (by decide) ?_) | (with_reducible refine wp_exit ?_)))
    exact known_mid w wr a _ hE hB
end Go.Proofs.Ytnkbcapikenbbaa
