/- Slope: the exported functions, second part. -/
import Derived.Test.YtkhmcofmjjmjhaaDoorKTSbg

namespace Go.Proofs.YtkhmcofmjjmjhaaDoor
set_option linter.unusedSimpArgs false
set_option linter.unusedVariables false
open Go Go.RowKit
attribute [local go_sem high] cell_set_wr
attribute [local go_sem low] cell_wr frozen_wr
attribute [local go_sem] wr_set wr_drew wr_drewN wr_alloc wr_new Rho.c Rho.n Rho.g
/-- all safe hours, of the first ones -/
def freK (b : Sb) (k : Nat) : List Nat := (List.range k).filter (safB b)
theorem freK_succ (b : Sb) (k : Nat) : freK b (k + 1) = freK b k ++ (if safB b k = true then [k] else []) := by
 unfold freK
 rw [List.range_succ, List.filter_append]
 congr 1
 by_cases h : safB b k = true <;> simp [h]
theorem freK_len (b : Sb) (k : Nat) : (freK b k).length ≤ k := by
 unfold freK
 exact Nat.le_trans (List.length_filter_le _ _) (by simp)
def freL (b : Sb) : List Nat := if frE b true = 0 then freK b b.hours.length else []
set_option maxRecDepth 100000 in
/-- the ends of how often -/
theorem oft_ends {b : Sb} (hb : OkB b) (hr : rtB b = true) : oftN b < 16384 ∧ ((oftN b).testBit (loO b) = true ∧ ∀ j, j < loO b → (oftN b).testBit j = false) ∧ (oftN b).testBit (hiO b) = true ∧ ∀ j, hiO b < j → j < 14 → (oftN b).testBit j = false := by
 have hx12 : (hpsOf b).length ≤ 12 := by rw [hpsOf_length]; exact hb.hours.2
 have h1 := ofN_lt (hpsOf b) (f0 b) hx12 2000
 rw [ofN_all hb] at h1
 obtain ⟨t, ht⟩ := (rtB_iff hb).1 hr
 have h2 : (oftN b).testBit (fallsN t) = true := (oftN_iff hb).2 ⟨t, ht, rfl⟩
 have h3 := falls_le t
 rw [ht.length] at h3
 have h4 := hb.hours.2
 obtain ⟨a1, a2, a3⟩ := minB_is (f := fun k => (oftN b).testBit k) (by omega : fallsN t < 2000) h2
 obtain ⟨b1, b2, b3⟩ := maxB_is (f := fun k => (oftN b).testBit k) (by omega : fallsN t < 2000) h2
 exact ⟨h1, ⟨a1, a3⟩, b1, fun j hj hj2 => b3 j hj (by omega)⟩
def falR (b : Sb) : Nat × Nat := if frE b true = 0 then (loO b, hiO b) else (0, 0)
section
variable (H : Option Addr) (hcap : Nat) (S : Option Addr) (scap : Nat) (b : Sb)
set_option maxRecDepth 100000 in
set_option maxHeartbeats 1000000 in
theorem pFree_any (w : World) (hM : SbAt w H S b) (hh : b.hours.length ≤ 9223372036854775807) (hss : b.sights.length ≤ 9223372036854775807) : Calls Tryd.prog 23 #[.agg (sbV H hcap S scap b).toArray] w fun e w' => (∃ T c, e = .returned (.tuple #[.slice T (freL b).length c, .int .i64 (frE b true)]) ∧ ArrD w' T (nats (freL b))) ∧ Below w.heap.size w w' := by
 have C1 := hid fun (W : World) hW => foreseen_any H hcap S scap b true W hW hh hss
 have HSF := hid fun (hb : OkB b) (hr : rtB b = true) (h : Nat) (hh : h < b.hours.length) V W hV => isSafe_b hb hr hh V W hV
 clear hh hss
 refine enterE Tryd.func23 rfl Tryd.ntmps23 (by simp) (fun a hE => ?_); simp only [envOf, Nat.zero_add, Nat.reduceAdd] at hE
 refine Ks ?_
 refine Rs 3 fun Q' K hK => ?_
 refine M1 hE 0 fun K' J ρ q0 => ?_; go_simp
 refine Ln hE J fun _ Eb => ?_; clear J K' hE a q0
 refine M0 fun K' J ρ => ?_; go_simp;
 refine Ln Eb J fun _ Ea => ?_; clear J K' Eb
 refine M0 fun K' J ρ => ?_; go_simp;
 refine Ln Ea J fun _ Eb => ?_; clear J K' Ea
 refine Ld [1] Eb hK fun a hE => ?_; clear hK K Q' Eb
 obtain ⟨B, hBe⟩ : ∃ B, B = w.heap.size := ⟨_, rfl⟩; have hnB : w.heap.size ≤ B := Nat.le_of_eq hBe.symm; rw [← hBe] at hE; refine world_cut (fun wt => Below w.heap.size w wt ∧ B < wt.heap.size ∧ Row wt B (sbV H hcap S scap b)) ⟨(Below.refl _ _).alloc (Nat.le_refl _) _, by rw [hBe]; simp, by rw [hBe]; exact row_new _ _ _⟩ (fun w1 hCut => ?_); obtain ⟨hbw1, hlB, hRB⟩ := hCut; clear hBe
 have hM1 := hM.below hbw1
 refine Ks ?_
 refine Rs 8 fun Q' K hK => ?_
 refine Lp fun K' J => ?_
 have r1 := hE.at 1 rfl
 refine wp_load_mid 29 (.tmp 1) rfl B 0 (eval_of r1) (sbV H hcap S scap b) _ (fun j u hu => by rw [Nat.zero_add]; exact (hRB j u hu).1) Tryd.underlying29 rfl (by kernel_rfl) ?_
 (try clear r1)
 refine Ln hE J fun _ Eb => ?_; clear J K' hE a
 refine M1 Eb 9 fun K' J ρ q9 => ?_; go_simp; (try go_bits); (try clear q9)
 go_at_call 65; refine (C1.out _ hM1).mono ?_; rintro e w2 ⟨⟨V, rfl, hV⟩, h2⟩
 have hVs : V.toArray.size = 12 := by simpa using hV.len
 (try clear r9)
 refine Ln Eb J fun _ Ea => ?_; clear J K' Eb
 refine M1 Ea 10 fun K' J ρ q10 => ?_; go_simp
 refine Ln Ea J fun _ Eb => ?_; clear J K' Ea q10
 refine M1 Eb 8 fun K' J ρ q8 => ?_; go_simp
 refine Ln Eb J fun _ Ea => ?_; clear J K' Eb q8
 refine M1 Ea 8 fun K' J ρ q8 => ?_; go_simp
 refine Ln Ea J fun _ Eb => ?_; clear J K' Ea q8
 refine M0 fun K' J ρ => ?_; go_simp;
 refine Ln Eb J fun _ Ea => ?_; clear J K' Eb
 refine Lp fun K' J => ?_
 have r4 := Ea.at 4 rfl; have r11 := Ea.at 11 rfl
 refine wp_store_mid 94 (.tmp 4) (.tmp 11) rfl w2.heap.size 0 V.toArray (eval_of r4) (eval_of r11) (there_row (row_new w2 _ _) (by rw [hVs]; exact Nat.le_refl _)) (by rw [hVs]; kernel_rfl) hV.one ?_
 (try clear r4 r11)
 refine late_skip Ea J (fun _ Eb => ?_); clear J K'; clear Ea
 refine M1 Eb 12 fun K' J ρ q12 => ?_; go_simp
 refine Ln Eb J fun _ Ea => ?_; clear J K' Eb q12
 refine Ld [4, 5] Ea hK fun a hE => ?_; clear hK K Q' Ea
 obtain ⟨Q, hQ⟩ : ∃ B, B = w2.heap.size := ⟨_, rfl⟩
 rw [← hQ] at hE
 refine world_cut (fun wt => Below w2.heap.size w2 wt ∧ Cells wt Q V) (by rw [hQ]; exact boxed_new w2 #[.int .i64 0, .int .i64 0, .int .i64 0, .int .i64 0, .int .i64 0, .int .i64 0, .int .i64 0, .slice none 0 0, .slice none 0 0, .slice none 0 0, .slice none 0 0, .int .u64 0] 94 V (by rw [hV.len]; rfl)) (fun w3 hCut => ?_)
 obtain ⟨h3, hCQ⟩ := hCut
 have hV3 := hV.below h3
 have hb3 := hbw1.trans ((h2.trans (h3.mono h2.size)).mono hbw1.size)
 clear hQ h2
 refine Ks ?_
 refine Rs 2 fun Q' K hK => ?_
 refine M1 hE 5 fun K' J ρ q5 => ?_; go_simp
 refine Ln hE J fun _ Eb => ?_; clear J K' hE a q5
 refine M1 Eb 13 fun K' J ρ q13 => ?_; go_simp; (try go_bits)
 refine Ln Eb J fun _ Ea => ?_; clear J K' Eb q13
 refine Ld [4, 5, 14] Ea hK fun a hE => ?_; clear hK K Q' Ea
 by_cases he : frE b true = 0
 ·obtain ⟨hok, _, hrt⟩ := frE_zero.1 he
  have hb := ok_iff.1 hok
  have h12 := hb.hours
  have hSf := hid fun (h : Nat) (hh : h < b.hours.length) W hW => HSF.out hb hrt h hh V W hW
  have hOV := hV3.ov he
  have hfl : freL b = freK b b.hours.length := by unfold freL; rw [if_pos he]
  rw [hfl, he]
  rw [he] at hE
  have hOV2 := hOV
  obtain ⟨H', hc', S', sc', P', pc', D', dc', hVe, _⟩ := hOV2
  have hV7 : V[7]? = some (.slice H' b.hours.length hc') := by rw [hVe]; rfl
  have c7 := hCQ.2 7 _ hV7
  have hlQ := hCQ.1
  have HV12 := hid hV3.len
  clear hVe hfl he hok hrt hb
  refine Ks ?_
  refine cond_no hE (t := 14) rfl ?_
  refine Ks ?_
  refine Rs 1 fun Q' K hK => ?_
  refine M0 fun K' J ρ => ?_; go_simp;
  refine Ln hE J fun _ Eb => ?_; clear J K' hE a
  refine Ld [4, 6] Eb hK fun a hE => ?_; clear hK K Q' Eb
  refine Ks ?_
  refine Rs 6 fun Q' K hK => ?_
  refine M1 hE 4 fun K' J ρ q4 => ?_; go_simp
  refine Ln hE J fun _ Eb => ?_; clear J K' hE a q4
  refine M1 Eb 16 fun K' J ρ q16 => ?_; go_simp
  refine Ln Eb J fun _ Ea => ?_; clear J K' Eb q16
  refine M1 Ea 17 fun K' J ρ q17 => ?_; go_simp
  refine Ln Ea J fun _ Eb => ?_; clear J K' Ea q17
  refine M1 Eb 18 fun K' J ρ q18 => ?_; go_simp
  refine Ln Eb J fun _ Ea => ?_; clear J K' Eb q18
  refine M1 Ea 19 fun K' J ρ q19 => ?_; go_simp; (try go_bits)
  refine Ln Ea J fun _ Eb => ?_; clear J K' Ea q19
  refine M0 fun K' J ρ => ?_; go_simp;
  refine Ln Eb J fun _ Ea => ?_; clear J K' Eb
  refine Ld [4, 6, 20, 21] Ea hK fun a hE => ?_; clear hK K Q' Ea
  refine Ks ?_
  clear c7
  refine loop_st (fun (k : Nat) a w' => ∃ (A : Option Addr) (c : Nat), k ≤ b.hours.length ∧ Fits 33 [(4, .pointer (some ⟨Q, 0, none⟩)), (6, .slice A (freK b k).length c), (20, .int .i64 b.hours.length), (21, .int .i64 k)] a ∧ Below w3.heap.size w3 w' ∧ w'.ownsRow w3.heap.size 3 1 (.slice A (freK b k).length c) (freK b k).length (nats (freK b k))) (fun k => b.hours.length - k) 0 ⟨none, 0, Nat.zero_le _, by simpa [freK] using hE, Below.refl _ _, own_nil _ _ _ _⟩ (fun k a wr hI => ?_)
  clear hE
  obtain ⟨A, c, hk, hE, hW, hO⟩ := hI
  have hbr := hb3.trans (hW.mono hb3.size)
  have hCQr := hCQ.below hW
  by_cases hlt : k < b.hours.length
  ·have hltI : (k : Int) < b.hours.length := by omega
   have hSk := hid (hSf.out k hlt wr (hOV.below hW))
   have HFK := hid (freK_succ b k)
   have hfl := freK_len b k
   obtain ⟨q, hq⟩ : ∃ q, safB b k = q := ⟨_, rfl⟩
   rw [hq] at hSk HFK
   obtain ⟨fs, hfs⟩ : ∃ fs, freK b k = fs := ⟨_, rfl⟩
   rw [hfs] at hE hO HFK hfl
   clear hq hfs
   refine Ks ?_
   refine Rs 1 fun Q' K hK => ?_
   refine M2 hE 21 20 fun K' J ρ q21 q20 => ?_; go_simp; (try go_bits)
   refine Ln hE J fun _ Eb => ?_; clear J K' hE a q21 q20
   replace Eb := Eb.turn 22 (v' := .bool true) rfl (by (first | (simp; done) | (simp; omega)))
   refine Ld [4, 6, 20, 21, 22] Eb hK fun a hE => ?_; clear hK K Q' Eb
   refine Ks ?_
   refine cond_yes hE (t := 22) rfl ?_
   refine Ks ?_
   refine Rs 2 fun Q' K hK => ?_
   refine M1 hE 21 fun K' J ρ q21 => ?_; go_simp
   refine Ln hE J fun _ Eb => ?_; clear J K' hE a q21
   refine M1 Eb 23 fun K' J ρ q23 => ?_; go_simp
   refine Ln Eb J fun _ Ea => ?_; clear J K' Eb q23
   refine Ld [4, 6, 7, 20, 21] Ea hK fun a hE => ?_; clear hK K Q' Ea
   refine Ks ?_
   refine Rs 3 fun Q' K hK => ?_
   refine Lp fun K' J => ?_
   have r4 := hE.at 4 rfl
   refine wp_load_mid 94 (.tmp 4) rfl Q 0 (eval_of r4) V _ (fun j u hu => by rw [Nat.zero_add]; exact hCQr.2 j u hu) Tryd.underlying94 rfl (by rw [HV12.out]; kernel_rfl) ?_
   (try clear r4)
   refine Ln hE J fun _ Eb => ?_; clear J K' hE a
   refine M1 Eb 7 fun K' J ρ q7 => ?_; go_simp
   refine Ln Eb J fun _ Ea => ?_; clear J K' Eb q7
   refine M2 Ea 24 25 fun K' J ρ q24 q25 => ?_; go_simp; (try go_bits); (try clear q24 q25)
   go_at_call 69; refine hSk.out.mono ?_; rintro e w5 ⟨rfl, h5⟩
   (try clear r24 r25)
   refine Ln Ea J fun _ Eb => ?_; clear J K' Ea
   refine Ld [4, 6, 7, 20, 21, 26] Eb hK fun a hE => ?_; clear hK K Q' Eb
   have hW5 := hW.trans (h5.mono hW.size)
   have hO5 := own_below hO h5
   cases hv : q
   ·rw [hv] at hE HFK
    clear hv
    refine Ks ?_
    refine cond_no hE (t := 26) rfl ?_
    refine Ks ?_
    refine Rs 2 fun Q' K hK => ?_
    refine M1 hE 21 fun K' J ρ q21 => ?_; go_simp; (try go_bits); (try simp (disch := omega) only [IntWalk.i64_in])
    refine Ln hE J fun _ Eb => ?_; clear J K' hE a q21
    refine M1 Eb 31 fun K' J ρ q31 => ?_; go_simp
    refine Ln Eb J fun _ Ea => ?_; clear J K' Eb q31
    refine Ld [4, 6, 20, 21] Ea hK fun a hE => ?_; clear hK K Q' Ea
    refine Ks ?_
    exact ⟨k + 1, ⟨A, c, hlt, by rw [HFK.out]; simpa using hE, hW5, by rw [HFK.out]; simpa using hO5⟩, by omega⟩
   ·rw [hv] at hE HFK
    clear hv
    refine Ks ?_
    refine cond_yes hE (t := 26) rfl ?_
    refine Ks ?_
    refine Rs 5 fun Q' K hK => ?_
    refine M1 hE 6 fun K' J ρ q6 => ?_; go_simp
    refine Ln hE J fun _ Eb => ?_; clear J K' hE a q6
    refine M1 Eb 7 fun K' J ρ q7 => ?_; go_simp
    refine Ln Eb J fun _ Ea => ?_; clear J K' Eb q7
    refine M1 Ea 28 fun K' J ρ q28 => ?_; go_simp
    refine Ln Ea J fun _ Eb => ?_; clear J K' Ea q28
    refine Lp fun K' J => ?_
    have r27 := Eb.at 27 rfl; have r29 := Eb.at 29 rfl
    refine wp_appN (.tmp 27) (.tmp 29) 40 rfl w3.heap.size 3 (.int .i64 0) 1 8 Tryd.underlying40 (by kernel_rfl) rfl (by decide) _ _ _ (eval_of r27) (hO5.alloc _) (w5.heap.size + 1) (some ⟨w5.heap.size, 0, none⟩) 1 1 [.int .i64 k] (eval_of r29) (arr_new w5 _ _) rfl (by intro u hu; simp at hu; subst hu; rfl) (by simp only [maxLen]; omega) (by omega) (by have := hW5.size; simp; omega) (fun A2 c2 w7 q1 q2 q3 q4 q5 => ?_)
    have hlow : Below w3.heap.size w5 w7 := ((Below.refl w3.heap.size w5).alloc hW5.size _).grown q4 (by have := hW5.size; simp; omega) (fun k e => ownBlock_le hO5 k e)
    (try clear r27 r29)
    refine Ln Eb J fun _ Ea => ?_; clear J K' Eb
    refine M1 Ea 30 fun K' J ρ q30 => ?_; go_simp
    refine Ln Ea J fun _ Eb => ?_; clear J K' Ea q30
    refine Ld [4, 6, 20, 21] Eb hK fun a hE => ?_; clear hK K Q' Eb
    have hW7 := hW5.trans hlow
    have hfl2 : fs.length + 1 = (fs ++ [k]).length := by simp
    rw [hfl2] at hE
    have hO7 : w7.ownsRow w3.heap.size 3 1 (.slice A2 (fs ++ [k]).length c2) (fs ++ [k]).length (nats (fs ++ [k])) := by rw [nats_snoc, ← hfl2]; exact q3
    refine Ks ?_
    refine Rs 2 fun Q' K hK => ?_
    refine M1 hE 21 fun K' J ρ q21 => ?_; go_simp; (try go_bits); (try simp (disch := omega) only [IntWalk.i64_in])
    refine Ln hE J fun _ Eb => ?_; clear J K' hE a q21
    refine M1 Eb 31 fun K' J ρ q31 => ?_; go_simp
    refine Ln Eb J fun _ Ea => ?_; clear J K' Eb q31
    refine Ld [4, 6, 20, 21] Ea hK fun a hE => ?_; clear hK K Q' Ea
    refine Ks ?_
    exact ⟨k + 1, ⟨A2, c2, hlt, by rw [HFK.out]; simpa using hE, hW7, by rw [HFK.out]; simpa using hO7⟩, by omega⟩
  ·have hke : k = b.hours.length := by omega
   subst hke
   refine Ks ?_
   refine Rs 1 fun Q' K hK => ?_
   refine M2 hE 21 20 fun K' J ρ q21 q20 => ?_; go_simp; (try go_bits)
   refine Ln hE J fun _ Eb => ?_; clear J K' hE a q21 q20
   replace Eb := Eb.turn 22 (v' := .bool false) rfl (by simp)
   refine Ld [4, 6, 20, 21, 22] Eb hK fun a hE => ?_; clear hK K Q' Eb
   refine Ks ?_
   refine cond_no hE (t := 22) rfl ?_
   refine Ks ?_
   refine Rs 3 fun Q' K hK => ?_
   refine M1 hE 6 fun K' J ρ q6 => ?_; go_simp
   refine Ln hE J fun _ Eb => ?_; clear J K' hE a q6
   refine M1 Eb 32 fun K' J ρ q32 => ?_; go_simp
   refine Ln Eb J fun _ Ea => ?_; clear J K' Eb q32
   refine M0 fun K' J ρ => ?_; go_simp;
   refine Ln Ea J fun _ Eb => ?_; clear J K' Ea
   refine Ld [2, 3] Eb hK fun a hE => ?_; clear hK K Q' Eb
   refine Ks ?_
   exact ret_two hE rfl rfl rfl ⟨⟨A, c, rfl, own_arr hO⟩, hbr⟩
 ·have hfl : freL b = [] := by unfold freL; rw [if_neg he]
  rw [hfl]
  replace hE := hE.turn 14 (v' := .bool true) rfl (by simp [he])
  refine Ks ?_
  refine cond_yes hE (t := 14) rfl ?_
  refine Ks ?_
  refine Rs 3 fun Q' K hK => ?_
  refine M1 hE 5 fun K' J ρ q5 => ?_; go_simp
  refine Ln hE J fun _ Eb => ?_; clear J K' hE a q5
  refine M0 fun K' J ρ => ?_; go_simp;
  refine Ln Eb J fun _ Ea => ?_; clear J K' Eb
  refine M1 Ea 15 fun K' J ρ q15 => ?_; go_simp
  refine Ln Ea J fun _ Eb => ?_; clear J K' Ea q15
  refine Ld [2, 3] Eb hK fun a hE => ?_; clear hK K Q' Eb
  refine Ks ?_
  exact ret_two hE rfl rfl rfl ⟨⟨none, 0, rfl, fun h => absurd rfl h⟩, hb3⟩
set_option maxRecDepth 100000 in
set_option maxHeartbeats 1000000 in
theorem pFalls_any (w : World) (hM : SbAt w H S b) (hTw : TabW w) (hh : b.hours.length ≤ 9223372036854775807) (hss : b.sights.length ≤ 9223372036854775807) : Calls Tryd.prog 30 #[.agg (sbV H hcap S scap b).toArray] w fun e w' => e = .returned (.tuple #[.agg #[.int .i64 (falR b).1, .int .i64 (falR b).2], .int .i64 (frE b true)]) ∧ Below w.heap.size w w' := by
 have C1 := hid fun (W : World) hW => foreseen_any H hcap S scap b true W hW hh hss
 clear hh hss
 refine enterE Tryd.func30 rfl Tryd.ntmps30 (by simp) (fun a hE => ?_); simp only [envOf, Nat.zero_add, Nat.reduceAdd] at hE
 refine Ks ?_
 refine Rs 3 fun Q' K hK => ?_
 refine M1 hE 0 fun K' J ρ q0 => ?_; go_simp
 refine Ln hE J fun _ Eb => ?_; clear J K' hE a q0
 refine M0 fun K' J ρ => ?_; go_simp;
 refine Ln Eb J fun _ Ea => ?_; clear J K' Eb
 refine M0 fun K' J ρ => ?_; go_simp;
 refine Ln Ea J fun _ Eb => ?_; clear J K' Ea
 refine Ld [1, 2] Eb hK fun a hE => ?_; clear hK K Q' Eb
 obtain ⟨B, hB⟩ : ∃ B, B = w.heap.size := ⟨_, rfl⟩
 obtain ⟨R, hR⟩ : ∃ B, B = w.heap.size + 1 := ⟨_, rfl⟩
 rw [← hR, ← hB] at hE
 refine world_cut (fun wt => Below w.heap.size w wt ∧ Cells wt B (sbV H hcap S scap b) ∧ RowD wt R 2) ?_ (fun w1 hC => ?_)
 ·rw [hB, hR]; obtain ⟨q1, q2, q3, q4⟩ := box_row w (sbV H hcap S scap b).toArray 29 #[.int .i64 0, .int .i64 0] 25; exact ⟨q1, q2, q3, _, rfl, q4⟩
 obtain ⟨hbw1, hCB, hRD⟩ := hC
 have hnR : w.heap.size ≤ R := by omega
 have hM1 := hM.below hbw1
 clear hB hR
 refine Ks ?_
 refine Rs 8 fun Q' K hK => ?_
 refine Lp fun K' J => ?_
 have r1 := hE.at 1 rfl
 refine wp_load_mid 29 (.tmp 1) rfl B 0 (eval_of r1) (sbV H hcap S scap b) _ (fun j u hu => by rw [Nat.zero_add]; exact hCB.2 j u hu) Tryd.underlying29 rfl (by kernel_rfl) ?_
 (try clear r1)
 refine Ln hE J fun _ Eb => ?_; clear J K' hE a
 refine M1 Eb 7 fun K' J ρ q7 => ?_; go_simp; (try go_bits); (try clear q7)
 go_at_call 65; refine (C1.out _ hM1).mono ?_; rintro e w2 ⟨⟨V, rfl, hV⟩, h2⟩
 have hVs : V.toArray.size = 12 := by simpa using hV.len
 (try clear r7)
 refine Ln Eb J fun _ Ea => ?_; clear J K' Eb
 refine M1 Ea 8 fun K' J ρ q8 => ?_; go_simp
 refine Ln Ea J fun _ Eb => ?_; clear J K' Ea q8
 refine M1 Eb 6 fun K' J ρ q6 => ?_; go_simp
 refine Ln Eb J fun _ Ea => ?_; clear J K' Eb q6
 refine M1 Ea 6 fun K' J ρ q6 => ?_; go_simp
 refine Ln Ea J fun _ Eb => ?_; clear J K' Ea q6
 refine M0 fun K' J ρ => ?_; go_simp;
 refine Ln Eb J fun _ Ea => ?_; clear J K' Eb
 refine Lp fun K' J => ?_
 have r4 := Ea.at 4 rfl; have r9 := Ea.at 9 rfl
 refine wp_store_mid 94 (.tmp 4) (.tmp 9) rfl w2.heap.size 0 V.toArray (eval_of r4) (eval_of r9) (there_row (row_new w2 _ _) (by rw [hVs]; exact Nat.le_refl _)) (by rw [hVs]; kernel_rfl) hV.one ?_
 (try clear r4 r9)
 refine late_skip Ea J (fun _ Eb => ?_); clear J K'; clear Ea
 refine M1 Eb 10 fun K' J ρ q10 => ?_; go_simp
 refine Ln Eb J fun _ Ea => ?_; clear J K' Eb q10
 refine Ld [2, 4, 5] Ea hK fun a hE => ?_; clear hK K Q' Ea
 obtain ⟨Q, hQ⟩ : ∃ B, B = w2.heap.size := ⟨_, rfl⟩
 rw [← hQ] at hE
 refine world_cut (fun wt => Below w2.heap.size w2 wt ∧ Cells wt Q V) (by rw [hQ]; exact boxed_new w2 #[.int .i64 0, .int .i64 0, .int .i64 0, .int .i64 0, .int .i64 0, .int .i64 0, .int .i64 0, .slice none 0 0, .slice none 0 0, .slice none 0 0, .slice none 0 0, .int .u64 0] 94 V (by rw [hV.len]; rfl)) (fun w3 hCut => ?_)
 obtain ⟨h3, hCQ⟩ := hCut
 have hV3 := hV.below h3
 have h13 := h2.trans (h3.mono h2.size)
 have hb3 := hbw1.trans (h13.mono hbw1.size)
 have hRD3 := hRD.below h13
 clear hQ h2
 refine Ks ?_
 refine Rs 2 fun Q' K hK => ?_
 refine M1 hE 5 fun K' J ρ q5 => ?_; go_simp
 refine Ln hE J fun _ Eb => ?_; clear J K' hE a q5
 refine M1 Eb 11 fun K' J ρ q11 => ?_; go_simp; (try go_bits)
 refine Ln Eb J fun _ Ea => ?_; clear J K' Eb q11
 refine Ld [2, 4, 5, 12] Ea hK fun a hE => ?_; clear hK K Q' Ea
 by_cases he : frE b true = 0
 ·obtain ⟨hok, _, hrt⟩ := frE_zero.1 he
  have hb := ok_iff.1 hok
  obtain ⟨o1, ⟨o2, o3⟩, o4, o5⟩ := oft_ends hb hrt
  have C2 := hid fun (W : World) (hW : TabW W) => setspan_any (oftN b) (loO b) (hiO b) o1 o2 o3 o4 o5 W hW
  have hT3 := hTw.below hb3
  have hfl : falR b = (loO b, hiO b) := by unfold falR; rw [if_pos he]
  rw [hfl, he]
  rw [he] at hE
  obtain ⟨H', hc', S', sc', P', pc', D', dc', hVe, _⟩ := hV3.ov he
  have hV11 : V[11]? = some (.int .u64 (oftN b)) := by rw [hVe]; rfl
  have c11 := hCQ.2 11 _ hV11
  have hlQ := hCQ.1
  clear hVe hfl he hok hrt hb o1 o2 o3 o4 o5
  refine Ks ?_
  refine cond_no hE (t := 12) rfl ?_
  refine Ks ?_
  refine Rs 5 fun Q' K hK => ?_
  refine M1 hE 4 fun K' J ρ q4 => ?_; go_simp
  refine Ln hE J fun _ Eb => ?_; clear J K' hE a q4
  refine M1 Eb 15 fun K' J ρ q15 => ?_; go_simp
  refine Ln Eb J fun _ Ea => ?_; clear J K' Eb q15
  refine M1 Ea 16 fun K' J ρ q16 => ?_; go_simp; (try go_bits); (try clear q16)
  go_at_call 72; refine (C2.out _ hT3).mono ?_; rintro e w5 ⟨rfl, h5⟩
  obtain ⟨hlR, zs, hzs, hRR⟩ := hRD3.below h5
  have hb5 := hb3.trans (h5.mono hb3.size)
  (try clear r16)
  refine Ln Ea J fun _ Eb => ?_; clear J K' Ea
  refine Lp fun K' J => ?_
  have r2 := Eb.at 2 rfl; have r17 := Eb.at 17 rfl
  refine wp_store_mid 25 (.tmp 2) (.tmp 17) rfl R 0 #[.int .i64 (loO b), .int .i64 (hiO b)] (eval_of r2) (eval_of r17) (there_row hRR (by rw [hzs]; exact Nat.le_refl _)) (by kernel_rfl) (by kernel_rfl) ?_
  (try clear r2 r17)
  refine late_skip Eb J (fun _ Ea => ?_); clear J K'; clear Eb
  refine M0 fun K' J ρ => ?_; go_simp;
  refine Ln Ea J fun _ Eb => ?_; clear J K' Ea
  refine Ld [2, 3] Eb hK fun a hE => ?_; clear hK K Q' Eb
  obtain ⟨q1, q2, _, _⟩ := cells_stored hRR (vs := [.int .i64 (loO b), .int .i64 (hiO b)]) (by rw [hzs]; rfl) hlR hnR hb5
  refine world_cut (fun wt => Cells wt R [.int .i64 (loO b), .int .i64 (hiO b)] ∧ Below w.heap.size w wt) ⟨q1, q2⟩ (fun w9 hCut => ?_)
  obtain ⟨hC9, hb9⟩ := hCut
  refine Ks ?_
  exact ret_cell_two hE rfl rfl rfl hC9.2 Tryd.underlying25 rfl (by kernel_rfl) ⟨rfl, hb9⟩
 ·have hfl : falR b = (0, 0) := by unfold falR; rw [if_neg he]
  rw [hfl]
  obtain ⟨hlR, zs, hzs, hRR⟩ := hRD3
  replace hE := hE.turn 12 (v' := .bool true) rfl (by simp [he])
  refine Ks ?_
  refine cond_yes hE (t := 12) rfl ?_
  refine Ks ?_
  refine Rs 4 fun Q' K hK => ?_
  refine M0 fun K' J ρ => ?_; go_simp;
  refine Ln hE J fun _ Eb => ?_; clear J K' hE a
  refine M1 Eb 5 fun K' J ρ q5 => ?_; go_simp
  refine Ln Eb J fun _ Ea => ?_; clear J K' Eb q5
  refine Lp fun K' J => ?_
  have r2 := Ea.at 2 rfl; have r13 := Ea.at 13 rfl
  refine wp_store_mid 25 (.tmp 2) (.tmp 13) rfl R 0 #[.int .i64 0, .int .i64 0] (eval_of r2) (eval_of r13) (there_row hRR (by rw [hzs]; exact Nat.le_refl _)) (by kernel_rfl) (by kernel_rfl) ?_
  (try clear r2 r13)
  refine late_skip Ea J (fun _ Eb => ?_); clear J K'; clear Ea
  refine M1 Eb 14 fun K' J ρ q14 => ?_; go_simp
  refine Ln Eb J fun _ Ea => ?_; clear J K' Eb q14
  refine Ld [2, 3] Ea hK fun a hE => ?_; clear hK K Q' Ea
  obtain ⟨q1, q2, _, _⟩ := cells_stored hRR (vs := [.int .i64 0, .int .i64 0]) (by rw [hzs]; rfl) hlR hnR hb3
  refine world_cut (fun wt => Cells wt R [.int .i64 0, .int .i64 0] ∧ Below w.heap.size w wt) ⟨q1, q2⟩ (fun w9 hCut => ?_)
  obtain ⟨hC9, hb9⟩ := hCut
  refine Ks ?_
  exact ret_cell_two hE rfl rfl rfl hC9.2 Tryd.underlying25 rfl (by kernel_rfl) ⟨rfl, hb9⟩
end
end Go.Proofs.YtkhmcofmjjmjhaaDoor
