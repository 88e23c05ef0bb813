/- Slope: the law's books without some sights. -/
import Derived.Test.YtkhmcofmjjmjhaaDoorScd
namespace Go.Proofs.YtkhmcofmjjmjhaaDoor
set_option linter.unusedSimpArgs false
set_option linter.unusedVariables false
open Go Go.RowKit
attribute [local go_sem high] cell_set_wr
attribute [local go_sem low] cell_wr frozen_wr
attribute [local go_sem] wr_set wr_drew wr_drewN wr_alloc wr_new Rho.c Rho.n Rho.g

theorem WoS.snoc2 {H : Option Addr} {hcap : Nat} {b : Sb} {out : List Nat} {Q : Nat} {w : World} {k : Nat} {A : Option Addr} {c : Nat} {V V' : World} {ds : List Si} (h : WoS H hcap b out Q w k A c V) (hQ : w.heap.size ≤ Q) (hds : dropS b.sights out k = ds) (s : Si) (hk : dropS b.sights out (k + 1) = ds ++ [s]) {A2 : Option Addr} {c2 : Nat}
    (q3 : V'.ownsRow (Q + 1) 68 4 (.slice A2 (ds.length + 1) c2) (ds.length + 1) (sis ds ++ s.cells)) (q4 : V.grownBy V' (Value.slice A ds.length c).ownBlock) :
    WoS H hcap b out Q w (k + 1) A2 c2 (V'.setCell ⟨Q, 8, none⟩ (.slice A2 (ds.length + 1) c2)) ∧ Wr V' Q 8 := by
 have hsz := h.lt
 have ho := h.own
 rw [hds] at ho
 have hlow : Below (Q + 1) V V' := (Below.refl (Q + 1) V).grown q4 (by omega) (fun k e => ownBlock_le ho k e)
 have hrow := row_of_block h.row (hlow.block Q (by omega))
 have hl1 : ds.length + 1 = (dropS b.sights out (k + 1)).length := by rw [hk]; simp
 refine ⟨⟨(h.below.trans (hlow.mono (by omega))).setCell hQ _, by simpa using Nat.lt_of_lt_of_le hsz hlow.size, ?_, ?_⟩, (hrow 8 _ rfl).2⟩
 ·have := hrow.set (o := 8) (v := .slice A2 (ds.length + 1) c2) (by simp [sbV])
  rw [hl1] at this ⊢
  exact this
 ·rw [← hl1, hk, sis_snoc]
  refine own_of_block q3 (by simp) fun g hg => ?_
  have hg2 := ownBlock_le q3 g hg
  exact Below.heap_setCell _ _ _ _ (by simp only; omega)
section
variable (H : Option Addr) (hcap : Nat) (S : Option Addr) (scap : Nat) (b : Sb)
set_option maxRecDepth 100000 in
set_option maxHeartbeats 2000000 in
theorem lwithout_any (h6 : b.sights.length ≤ 6) (T : Option Addr) (c : Nat) (out : List Nat) (w : World) (hM : SbAt w H S b) (hT : ArrD w T (nats out)) (ho : out.length ≤ 9223372036854775807) :
    Calls Tryd.prog 50 #[.agg (sbV H hcap S scap b).toArray, .slice T out.length c] w fun e w' => (∃ A' c', e = .returned (.agg (sbV H hcap A' c' (withoutB b out)).toArray) ∧ SbAt w' H A' (withoutB b out)) ∧ Below w.heap.size w w' := by
 have HAt : Hid (∀ (i : Nat) (W : World), ArrD W T (nats out) → Calls Tryd.prog 39 #[.slice T out.length c, .int .i64 i] W fun e w' => e = .returned (.int .i64 (atI (out.map fun (n : Nat) => (n : Int)) i)) ∧ Below W.heap.size W w') := hid fun i W hW => by
  have h := at_any T c (out.map fun (n : Nat) => (n : Int)) i W (by rw [← nats_ints]; exact hW) (by rw [List.length_map]; exact ho)
  rw [List.length_map] at h
  exact h
 refine enterE Tryd.func50 rfl Tryd.ntmps50 (by simp) (fun a hE => ?_); simp only [envOf, Nat.zero_add, Nat.reduceAdd] at hE
 refine Ks ?_
 refine Rs 2 fun Q' K hK => ?_
 refine M1 hE 0 fun K' J ρ q0 => ?_; go_simp; (try clear q0)
 refine Ln hE J fun _ Eb => ?_; clear J K' hE a
 refine M0 fun K' J ρ => ?_; go_simp;
 refine Ln Eb J fun _ Ea => ?_; clear J K' Eb
 refine late_done [1, 2, 4] Ea hK (fun a hE => ?_); clear hK K Q' Ea; simp only [lk, pick, Nat.reduceEqDiff, ↓reduceIte] at hE
 obtain ⟨B, hB⟩ : ∃ B, B = w.heap.size := ⟨_, rfl⟩
 obtain ⟨R, hR⟩ : ∃ B, B = w.heap.size + 1 := ⟨_, rfl⟩
 rw [← hR, ← hB] at hE
 refine world_cut (fun wt => Below w.heap.size w wt ∧ Cells wt B (sbV H hcap S scap b) ∧ RowD wt R 9) ?_ (fun w1 hC => ?_)
 ·rw [hB, hR]; obtain ⟨q1, q2, q3, q4⟩ := box_row w (sbV H hcap S scap b).toArray 29 #[.int .i64 0, .int .i64 0, .int .i64 0, .int .i64 0, .int .i64 0, .int .i64 0, .int .i64 0, .slice none 0 0, .slice none 0 0] 29; exact ⟨q1, q2, q3, _, rfl, q4⟩
 obtain ⟨hbw1, hCB, hRD⟩ := hC
 have hnR : w.heap.size ≤ R := by omega
 have hM1 := hM.below hbw1
 have hT1 := hT.below hbw1
 clear hB hR
 refine Ks ?_
 refine Rs 3 fun Q' K hK => ?_
 refine Lp fun K' J => ?_
 have r2 := hE.at 2 rfl
 refine wp_load_mid 29 (.tmp 2) rfl B 0 (eval_of r2) (sbV H hcap S scap b) _ (fun j u hu => by rw [Nat.zero_add]; exact hCB.2 j u hu) Tryd.underlying29 rfl (by kernel_rfl) ?_
 (try clear r2)
 refine Ln hE J fun _ Eb => ?_; clear J K' hE a
 refine M0 fun K' J ρ => ?_; go_simp;
 refine Ln Eb J fun _ Ea => ?_; clear J K' Eb
 refine Lp fun K' J => ?_
 have r5 := Ea.at 5 rfl; have r7 := Ea.at 7 rfl
 refine wp_store_mid 29 (.tmp 5) (.tmp 7) rfl w1.heap.size 0 (sbV H hcap S scap b).toArray (eval_of r5) (eval_of r7) (there_row (row_new w1 _ _) (Nat.le_of_eq rfl)) (by kernel_rfl) (by kernel_rfl) ?_
 (try clear r5 r7)
 refine late_skip Ea J (fun _ Eb => ?_); clear J K'; clear Ea
 refine late_done [1, 2, 4, 5] Eb hK (fun a hE => ?_); clear hK K Q' Eb; simp only [lk, pick, Nat.reduceEqDiff, ↓reduceIte] at hE
 obtain ⟨Q, hQ⟩ : ∃ B, B = w1.heap.size := ⟨_, rfl⟩
 rw [← hQ] at hE
 have hnQ : w1.heap.size ≤ Q := Nat.le_of_eq hQ.symm
 refine world_cut (fun wt => Below w1.heap.size w1 wt ∧ Q < wt.heap.size ∧ Row wt Q (sbV H hcap S scap b)) ?_ (fun w2 hCut => ?_)
 ·rw [hQ]; have q := boxed_new w1 #[.int .i64 0, .int .i64 0, .int .i64 0, .int .i64 0, .int .i64 0, .int .i64 0, .int .i64 0, .slice none 0 0, .slice none 0 0] 29 (sbV H hcap S scap b) rfl; exact ⟨q.1, q.2.1, row_all (row_new w1 #[.int .i64 0, .int .i64 0, .int .i64 0, .int .i64 0, .int .i64 0, .int .i64 0, .int .i64 0, .slice none 0 0, .slice none 0 0] 29) rfl⟩
 obtain ⟨h2, hlQ, hRQ⟩ := hCut
 have y8 := (hRQ 8 _ rfl).2
 clear hQ
 have hbw2 := hbw1.trans (h2.mono hbw1.size)
 refine Ks ?_
 refine Rs 2 fun Q' K hK => ?_
 refine M1 hE 5 fun K' J ρ q5 => ?_; go_simp; (try clear q5)
 refine Ln hE J fun _ Eb => ?_; clear J K' hE a
 refine M1 Eb 8 fun K' J ρ q8 => ?_; go_simp; (try clear q8)
 refine late_skip Eb J (fun _ Ea => ?_); clear J K'; clear Eb
 refine late_done [1, 2, 4, 5] Ea hK (fun a hE => ?_); clear hK K Q' Ea; simp only [lk, pick, Nat.reduceEqDiff, ↓reduceIte] at hE
 refine world_cut (fun wt => WoS H hcap b out Q w1 0 none 0 wt) ⟨h2.setCell hnQ _, by simpa using hlQ, hRQ.set (o := 8) (by simp [sbV]), own_nil _ _ _ _⟩ (fun w3 hS3 => ?_)
 have hb3 := hbw1.trans (hS3.below.mono hbw1.size)
 clear hRQ hlQ y8 h2
 refine Ks ?_
 refine Rs 1 fun Q' K hK => ?_
 refine M0 fun K' J ρ => ?_; go_simp;
 refine Ln hE J fun _ Eb => ?_; clear J K' hE a
 refine late_done [1, 2, 4, 5, 6] Eb hK (fun a hE => ?_); clear hK K Q' Eb; simp only [lk, pick, Nat.reduceEqDiff, ↓reduceIte] at hE
 refine Ks ?_
 refine loop_st (fun (k : Nat) a w' => ∃ (A : Option Addr) (c2 : Nat), k ≤ b.sights.length ∧ Fits 31 [(1, .slice T out.length c), (2, .pointer (some ⟨B, 0, none⟩)), (4, .pointer (some ⟨R, 0, none⟩)), (5, .pointer (some ⟨Q, 0, none⟩)), (6, .int .i64 k)] a ∧ WoS H hcap b out Q w1 k A c2 w') (fun k => b.sights.length - k) 0 ⟨none, 0, Nat.zero_le _, by simpa using hE, hS3⟩ (fun k a wr hI => ?_)
 clear hE hS3 hb3 hbw2
 obtain ⟨A, c2, hk, hE, hS⟩ := hI
 have hbr := hbw1.trans (hS.below.mono hbw1.size)
 have d8 := (hCB.below hS.below).2 8 _ rfl
 have hTr := hT1.below hS.below
 by_cases hlt : k < b.sights.length
 ·have hltI : (k : Int) < b.sights.length := by omega
  have HDS := hid (dropS_succ b.sights out hlt)
  have hdl := dropS_len b.sights out k
  have hq := atN_neg out k
  obtain ⟨q, hqq⟩ : ∃ q, out.contains k = q := ⟨_, rfl⟩
  have HAi := hid (HAt.out k)
  obtain ⟨at_, hat⟩ : ∃ a, atI (out.map fun (n : Nat) => (n : Int)) k = a := ⟨_, rfl⟩
  rw [hat] at hq HAi
  rw [hqq] at hq HDS
  have HQ := hid hq
  clear hq hqq hat
  refine Ks ?_
  refine Rs 5 fun Q' K hK => ?_
  refine M1 hE 6 fun K' J ρ q6 => ?_; go_simp; (try clear q6)
  refine Ln hE J fun _ Eb => ?_; clear J K' hE a
  refine M1 Eb 2 fun K' J ρ q2 => ?_; go_simp; (try clear q2)
  refine Ln Eb J fun _ Ea => ?_; clear J K' Eb
  refine M1 Ea 10 fun K' J ρ q10 => ?_; go_simp; (try clear q10)
  refine Ln Ea J fun _ Eb => ?_; clear J K' Ea
  refine M1 Eb 11 fun K' J ρ q11 => ?_; go_simp; (try go_bits); (try clear q11)
  refine Ln Eb J fun _ Ea => ?_; clear J K' Eb
  refine M2 Ea 9 12 fun K' J ρ q9 q12 => ?_; go_simp; (try go_bits); (try clear q9 q12)
  refine Ln Ea J fun _ Eb => ?_; clear J K' Ea
  replace Eb := Eb.turn 13 (v' := .bool true) rfl (by (first | (simp; done) | (simp; omega)))
  refine late_done [1, 2, 4, 5, 6, 13] Eb hK (fun a hE => ?_); clear hK K Q' Eb; simp only [lk, pick, Nat.reduceEqDiff, ↓reduceIte] at hE
  refine Ks ?_
  refine cond_yes hE (t := 13) rfl ?_
  refine Ks ?_
  refine Rs 4 fun Q' K hK => ?_
  refine M1 hE 1 fun K' J ρ q1 => ?_; go_simp; (try clear q1)
  refine Ln hE J fun _ Eb => ?_; clear J K' hE a
  refine M1 Eb 6 fun K' J ρ q6 => ?_; go_simp; (try clear q6)
  refine Ln Eb J fun _ Ea => ?_; clear J K' Eb
  refine M2 Ea 16 17 fun K' J ρ q16 q17 => ?_; go_simp; (try go_bits); (try clear q16 q17)
  go_at_call 39; refine (HAi.out _ hTr).mono ?_; rintro e w4 ⟨rfl, h4⟩
  (try clear r16 r17)
  refine Ln Ea J fun _ Eb => ?_; clear J K' Ea
  refine M1 Eb 18 fun K' J ρ q18 => ?_; go_simp; (try go_bits); (try clear q18)
  refine Ln Eb J fun _ Ea => ?_; clear J K' Eb
  replace Ea := Ea.turn 19 (v' := .bool (!q)) rfl (by (first | (rw [← HQ.out]; done) | (rw [← HQ.out]; simp)))
  refine late_done [1, 2, 4, 5, 6, 19] Ea hK (fun a hE => ?_); clear hK K Q' Ea; simp only [lk, pick, Nat.reduceEqDiff, ↓reduceIte] at hE
  have hS4 := hS.on h4
  have hb4 := hbr.trans (h4.mono hbr.size)
  clear d8 hTr
  cases hv : q
  ·have hk1 : dropS b.sights out (k + 1) = dropS b.sights out k ++ [b.sights[k]] := by rw [HDS.out, hv]; rfl
   rw [hv] at hE
   have HK1 := hid hk1
   have e8 := (hS4.row 8 _ rfl).1
   have d8 := (hCB.below hS4.below).2 8 _ rfl
   have hown := hS4.own
   have nQ := hS4.lt
   have nB := (hCB.below hS4.below).1
   obtain ⟨bx, ox, hSe, hbx, x0, x1, x2, x3⟩ := (hM1.below hS4.below).2.si hlt
   obtain ⟨X, hXe⟩ : ∃ X, b.sights[k] = X := ⟨_, rfl⟩
   rw [hXe] at x0 x1 x2 x3 HK1
   obtain ⟨ds, hds⟩ : ∃ ds, dropS b.sights out k = ds := ⟨_, rfl⟩
   have HDE := hid hds
   rw [hds] at hown hdl HK1
   simp only [hds] at e8
   rw [hSe] at d8
   clear hv hk1 hds hXe
   refine Ks ?_
   refine cond_yes hE (t := 19) rfl ?_
   refine Ks ?_
   refine Rd [8, 9, 10] (fun wt => Below w4.heap.size w4 wt) (fun w1 w2 => Below w1.heap.size w1 w2) [(0, some 20), (1, some 21), (2, some 22), (3, some 23), (4, some 24), (5, some 25), (6, some 26), (7, some 27)] [20, 21, 22, 23, 24, 25, 26, 27] #[true, true, true, true, true, true, true, true, false, false, false] [1, 2, 4, 5, 6] hE ((Below.refl _ _).drew) fun Q' K hK => ?_
   refine SeqOps.val ?_ (Sp fun ax wx hS hT' hd K' J => ?_) ?_; rotate_left 1
   ·have r5 := hS.at 5 (by decide) (hE.at 5 rfl); obtain ⟨hcT, hfT, hlT, hmT, hwT, hzT⟩ := bT hT'
    refine o1 r5 fun ρ q5 => ?_; go_simp;
    exact Jo J hT'
   refine SeqOps.val ?_ (Sp fun ax wx hS hT' hd K' J => ?_) ?_; rotate_left 1
   ·have r20 := Tv hd 0 0 20; obtain ⟨hcT, hfT, hlT, hmT, hwT, hzT⟩ := bT hT'
    refine o1 r20 fun ρ q20 => ?_; go_simp;
    exact Jo J hT'
   refine SeqOps.val ?_ (Sp fun ax wx hS hT' hd K' J => ?_) ?_; rotate_left 1
   ·have r2 := hS.at 2 (by decide) (hE.at 2 rfl); obtain ⟨hcT, hfT, hlT, hmT, hwT, hzT⟩ := bT hT'
    refine o1 r2 fun ρ q2 => ?_; go_simp;
    exact Jo J hT'
   refine SeqOps.val ?_ (Sp fun ax wx hS hT' hd K' J => ?_) ?_; rotate_left 1
   ·have r22 := Tv hd 0 2 22; obtain ⟨hcT, hfT, hlT, hmT, hwT, hzT⟩ := bT hT'
    refine o1 r22 fun ρ q22 => ?_; go_simp;
    exact Jo J hT'
   refine SeqOps.val ?_ (Sp fun ax wx hS hT' hd K' J => ?_) ?_; rotate_left 1
   ·have r6 := hS.at 6 (by decide) (hE.at 6 rfl); obtain ⟨hcT, hfT, hlT, hmT, hwT, hzT⟩ := bT hT'
    refine o1 r6 fun ρ q6 => ?_; go_simp;
    exact Jo J hT'
   refine SeqOps.val ?_ (Sp fun ax wx hS hT' hd K' J => ?_) ?_; rotate_left 1
   ·have r23 := Tv hd 1 3 23; have r24 := Tv hd 0 4 24; obtain ⟨hcT, hfT, hlT, hmT, hwT, hzT⟩ := bT hT'
    refine o2 r23 r24 fun ρ q23 q24 => ?_; go_simp; (try go_bits);
    exact Jo J hT'
   refine SeqOps.val ?_ (Sp fun ax wx hS hT' hd K' J => ?_) ?_; rotate_left 1
   ·have r25 := Tv hd 0 5 25; obtain ⟨hcT, hfT, hlT, hmT, hwT, hzT⟩ := bT hT'
    refine o1 r25 fun ρ q25 => ?_; go_simp;
    exact Jo J hT'
   refine SeqOps.say (fun v wt => ∃ G, v = .slice (some ⟨G, 0, none⟩) 1 1 ∧ ArrD wt (some ⟨G, 0, none⟩) X.cells) (fun _ _ _ hR ⟨G, e, h⟩ => ⟨G, e, h.below hR⟩) (Sp fun ax wx hS hT' hd K' J => ?_) ?_
   ·have r26 := Tv hd 0 6 26; obtain ⟨hcT, hfT, hlT, hmT, hwT, hzT⟩ := bT hT'
    refine o1 r26 fun ρ q26 => ?_; go_simp;
    refine J.out _ _ _ rfl ⟨_, rfl, (arr_new wx _ _).more (by simp)⟩ (hT'.trans (((Below.refl _ _).alloc (Nat.le_refl _) _).mono hT'.size)) ((Below.refl _ _).alloc (Nat.le_refl _) _)
   refine SeqOps.nil ?_
   intro w5 hBl; (repeat refine Ek ?_); (refine fun v h => ?_; obtain ⟨G, rfl, hG⟩ := h);
   refine fun alx hElx => ?_
   simp only [lk, pick, Nat.reduceEqDiff, ↓reduceIte] at hElx
   refine Lp fun K' J => ?_
   have r21 := hElx.at 21 rfl; have r27 := hElx.at 27 rfl
   have hS5 := hS4.on hBl
   have hO5 := own_below hown hBl
   refine wp_appN (.tmp 21) (.tmp 27) 27 rfl (Q + 1) 68 (.agg #[.int .i64 0, .bool false, .int .i64 0, .int .i64 0]) 4 32 Tryd.underlying27 (by kernel_rfl) rfl (by decide) _ _ _ (eval_of r21) hO5 w5.heap.size (some ⟨G, 0, none⟩) 1 1 X.cells (eval_of r27) hG rfl (by intro u hu; simp [Si.cells] at hu; rcases hu with rfl | rfl | rfl | rfl <;> rfl) (by simp only [maxLen]; omega) (by omega) (by have := hS5.lt; omega) (fun A2 c3 w6 q1 q2 q3 q4 q5 => ?_)
   have hsn := hS5.snoc2 hnQ HDE.out X HK1.out q3 q4
   have y8 := hsn.2
   (try clear r21 r27)
   refine Ln hElx J fun al_1 hEl_1 => ?_; clear J K' hElx
   refine M1 hEl_1 5 fun K' J ρ q5 => ?_; go_simp; (try clear q5)
   refine Ln hEl_1 J fun al_2 hEl_2 => ?_; clear J K' hEl_1
   refine M2 hEl_2 29 28 fun K' J ρ q29 q28 => ?_; go_simp; (try clear q29 q28)
   refine late_skip hEl_2 J (fun al_3 hEl_3 => ?_); clear J K'; clear hEl_2
   refine late_done [1, 2, 4, 5, 6] hEl_3 hK (fun a hE => ?_); clear hK K Q' hEl_3; simp only [lk, pick, Nat.reduceEqDiff, ↓reduceIte] at hE
   have hbw5 := hb4.trans (hBl.mono hb4.size)
   refine world_cut (fun wt => WoS H hcap b out Q w1 (k + 1) A2 c3 wt) hsn.1 (fun w8 hS8 => ?_)
   clear y8 hsn q1 q2 q3 q4 q5
   refine Ks ?_
   refine Rs 3 fun Q' K hK => ?_
   refine M1 hE 6 fun K' J ρ q6 => ?_; go_simp; (try clear q6)
   refine Ln hE J fun _ Eb => ?_; clear J K' hE a
   refine M1 Eb 14 fun K' J ρ q14 => ?_; go_simp; (try go_bits); (try simp (disch := omega) only [IntWalk.i64_in]); (try clear q14)
   refine Ln Eb J fun _ Ea => ?_; clear J K' Eb
   refine M1 Ea 15 fun K' J ρ q15 => ?_; go_simp; (try clear q15)
   refine Ln Ea J fun _ Eb => ?_; clear J K' Ea
   refine late_done [1, 2, 4, 5, 6] Eb hK (fun a hE => ?_); clear hK K Q' Eb; simp only [lk, pick, Nat.reduceEqDiff, ↓reduceIte] at hE
   refine Ks ?_
   exact ⟨k + 1, ⟨A2, c3, hlt, by simpa using hE, hS8⟩, by omega⟩
  ·have hk1 : dropS b.sights out (k + 1) = dropS b.sights out k := by rw [HDS.out, hv]; simp
   rw [hv] at hE
   clear hv
   refine Ks ?_
   refine cond_no hE (t := 19) rfl ?_
   refine Ks ?_
   refine Rs 3 fun Q' K hK => ?_
   refine M1 hE 6 fun K' J ρ q6 => ?_; go_simp; (try clear q6)
   refine Ln hE J fun _ Eb => ?_; clear J K' hE a
   refine M1 Eb 14 fun K' J ρ q14 => ?_; go_simp; (try go_bits); (try simp (disch := omega) only [IntWalk.i64_in]); (try clear q14)
   refine Ln Eb J fun _ Ea => ?_; clear J K' Eb
   refine M1 Ea 15 fun K' J ρ q15 => ?_; go_simp; (try clear q15)
   refine Ln Ea J fun _ Eb => ?_; clear J K' Ea
   refine late_done [1, 2, 4, 5, 6] Eb hK (fun a hE => ?_); clear hK K Q' Eb; simp only [lk, pick, Nat.reduceEqDiff, ↓reduceIte] at hE
   refine Ks ?_
   exact ⟨k + 1, ⟨A, c2, hlt, by simpa using hE, ⟨hS4.below, hS4.lt, by rw [hk1]; exact hS4.row, by rw [hk1]; exact hS4.own⟩⟩, by omega⟩
 ·have hke : k = b.sights.length := by omega
  subst hke
  have hrQ := hS.row
  have hSb : SbAt wr H A (withoutB b out) := ⟨(hM1.below hS.below).1, own_arr hS.own⟩
  obtain ⟨hlR, zs, hzs, hRR⟩ := hRD.below hS.below
  refine Ks ?_
  refine Rs 5 fun Q' K hK => ?_
  refine M1 hE 6 fun K' J ρ q6 => ?_; go_simp; (try clear q6)
  refine Ln hE J fun _ Eb => ?_; clear J K' hE a
  refine M1 Eb 2 fun K' J ρ q2 => ?_; go_simp; (try clear q2)
  refine Ln Eb J fun _ Ea => ?_; clear J K' Eb
  refine M1 Ea 10 fun K' J ρ q10 => ?_; go_simp; (try clear q10)
  refine Ln Ea J fun _ Eb => ?_; clear J K' Ea
  refine M1 Eb 11 fun K' J ρ q11 => ?_; go_simp; (try go_bits); (try clear q11)
  refine Ln Eb J fun _ Ea => ?_; clear J K' Eb
  refine M2 Ea 9 12 fun K' J ρ q9 q12 => ?_; go_simp; (try go_bits); (try clear q9 q12)
  refine Ln Ea J fun _ Eb => ?_; clear J K' Ea
  replace Eb := Eb.turn 13 (v' := .bool false) rfl (by simp)
  refine late_done [1, 2, 4, 5, 6, 13] Eb hK (fun a hE => ?_); clear hK K Q' Eb; simp only [lk, pick, Nat.reduceEqDiff, ↓reduceIte] at hE
  refine Ks ?_
  refine cond_no hE (t := 13) rfl ?_
  refine Ks ?_
  refine Rs 2 fun Q' K hK => ?_
  refine Lp fun K' J => ?_
  have r5 := hE.at 5 rfl
  refine wp_load_mid 29 (.tmp 5) rfl Q 0 (eval_of r5) (sbV H hcap A c2 (withoutB b out)) _ (fun j u hu => by rw [Nat.zero_add]; exact (hrQ j u hu).1) Tryd.underlying29 rfl (by kernel_rfl) ?_
  (try clear r5)
  refine Ln hE J fun _ Eb => ?_; clear J K' hE a
  refine Lp fun K' J => ?_
  have r4 := Eb.at 4 rfl; have r30 := Eb.at 30 rfl
  refine wp_store_mid 29 (.tmp 4) (.tmp 30) rfl R 0 (sbV H hcap A c2 (withoutB b out)).toArray (eval_of r4) (eval_of r30) (there_row hRR (by rw [hzs]; exact Nat.le_refl _)) (by kernel_rfl) (by kernel_rfl) ?_
  (try clear r4 r30)
  refine late_skip Eb J (fun _ Ea => ?_); clear J K'; clear Eb
  refine late_done [4] Ea hK (fun a hE => ?_); clear hK K Q' Ea; simp only [lk, pick, Nat.reduceEqDiff, ↓reduceIte] at hE
  obtain ⟨q1, q2, q3, q4⟩ := cells_stored hRR (vs := sbV H hcap A c2 (withoutB b out)) (by rw [hzs]; rfl) hlR hnR hbr
  refine world_cut (fun wt => Cells wt R (sbV H hcap A c2 (withoutB b out)) ∧ Below w.heap.size w wt ∧ SbAt wt H A (withoutB b out)) ⟨q1, q2, ?_⟩ (fun w9 hCut => ?_)
  ·exact ⟨hM.1.below q2, own_arr (own_of_block hS.own (by rw [q4]; exact Nat.le_refl _) (fun g hg => q3 g (by have := ownBlock_le hS.own g hg; have := hRD.1; omega)))⟩
  obtain ⟨hC9, hb9, hH9⟩ := hCut
  refine Ks ?_
  exact ret_cell hE rfl rfl hC9.2 Tryd.underlying29 rfl (by kernel_rfl) ⟨⟨A, c2, rfl, hH9⟩, hb9⟩
end
end Go.Proofs.YtkhmcofmjjmjhaaDoor
