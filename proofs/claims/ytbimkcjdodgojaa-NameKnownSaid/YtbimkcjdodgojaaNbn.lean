/- Name: the closed law, the questions that are refused. -/
import Derived.Test.YtbimkcjdodgojaaNbm
namespace Go.Proofs.Ytbimkcjdodgojaa
set_option linter.unusedSimpArgs false
set_option linter.unusedVariables false
open Go Go.RowKit
attribute [local go_sem high] cell_set_wr
attribute [local go_sem low] cell_wr frozen_wr
attribute [local go_sem] wr_set wr_drew wr_drewN wr_alloc wr_new

set_option maxRecDepth 100000
def askV : List Value := [.int .i64 (-1), .int .i64 2, .int .i64 0, .int .i64 5, .int .i64 0, .int .i64 1, .int .i64 2, .int .i64 0, .int .i64 2, .int .i64 3]
theorem ask_k0 : pKindR (chBk 0) (-1) 2 = (0, 21) := by decide +kernel
theorem ask_k1 : pKindR (chBk 0) 0 5 = (0, 21) := by decide +kernel
theorem ask_k2 : pKindR (chBk 0) 0 1 = (0, 21) := by decide +kernel
theorem ask_k3 : pKindR (chBk 0) 2 0 = (0, 21) := by decide +kernel
theorem ask_k4 : pKindR (chBk 0) 2 3 = (0, 21) := by decide +kernel
theorem ask_c0 : (pCanR (chBk 1) (-1) 2).2 = 21 := by decide +kernel
theorem ask_c1 : (pCanR (chBk 1) 0 5).2 = 21 := by decide +kernel
theorem ask_c2 : (pCanR (chBk 1) 0 1).2 = 0 := by decide +kernel
theorem ask_c3 : (pCanR (chBk 1) 2 0).2 = 0 := by decide +kernel
theorem ask_c4 : (pCanR (chBk 1) 2 3).2 = 0 := by decide +kernel
theorem ask_row (i : Nat) (h : i < 5) : ∃ (x y : Int) (c : Bool) (ce : Int), askV[i * 2]? = some (.int .i64 x) ∧ askV[i * 2 + 1]? = some (.int .i64 y) ∧ pKindR (chBk 0) x y = (0, 21) ∧ pCanR (chBk 1) x y = (c, ce) ∧ ((ce = 21 ∧ (i : Int) < 2) ∨ (ce = 0 ∧ ¬ (i : Int) < 2)) := by
 have h5 : i = 0 ∨ i = 1 ∨ i = 2 ∨ i = 3 ∨ i = 4 := by omega
 rcases h5 with rfl | rfl | rfl | rfl | rfl
 ·exact ⟨-1, 2, _, _, rfl, rfl, ask_k0, rfl, .inl ⟨ask_c0, by decide⟩⟩
 ·exact ⟨0, 5, _, _, rfl, rfl, ask_k1, rfl, .inl ⟨ask_c1, by decide⟩⟩
 ·exact ⟨0, 1, _, _, rfl, rfl, ask_k2, rfl, .inr ⟨ask_c2, by decide⟩⟩
 ·exact ⟨2, 0, _, _, rfl, rfl, ask_k3, rfl, .inr ⟨ask_c3, by decide⟩⟩
 ·exact ⟨2, 3, _, _, rfl, rfl, ask_k4, rfl, .inr ⟨ask_c4, by decide⟩⟩
set_option maxHeartbeats 4000000 in
theorem known_asks (w V : World) (hb : Below w.heap.size w V) (e : Env) (a : Act) (hE : Fits 562 e a) : (cr 12 (bodyOf Try.f10)).wp Try.prog (bodyPost Try.prog Try.f10 fun e w' => e = .returned (.bool true) ∧ Below w.heap.size w w') a V := by
 refine wp_seq ?_; (repeat with_reducible first|refine ctl ?_|refine miss ?_)
 refine Rs 7 fun Q' K hK => ?_
 refine Lp fun K' J => ?_
 refine op0 fun ρ qc qf qg => ?_; go_simp; (try clear qc qf qg)
 refine Ln hE J fun a_1 E1 => ?_; clear J K' hE a
 refine Lp fun K' J => ?_
 refine op0 fun ρ qc qf qg => ?_; go_simp; (try clear qc qf qg)
 refine Ln E1 J fun a_2 E2 => ?_; clear J K' E1
 refine Lp fun K' J => ?_
 refine op0 fun ρ qc qf qg => ?_; go_simp; (try clear qc qf qg)
 refine Ln E2 J fun a_3 E3 => ?_; clear J K' E2
 refine Lp fun K' J => ?_
 refine op0 fun ρ qc qf qg => ?_; go_simp; (try clear qc qf qg)
 refine Ln E3 J fun a_4 E4 => ?_; clear J K' E3
 refine Lp fun K' J => ?_
 refine op0 fun ρ qc qf qg => ?_; go_simp; (try clear qc qf qg)
 refine Ln E4 J fun a_5 E5 => ?_; clear J K' E4
 refine Lp fun K' J => ?_
 have r273 := E5.at 273 rfl; have r274 := E5.at 274 rfl; have r275 := E5.at 275 rfl; have r276 := E5.at 276 rfl; have r277 := E5.at 277 rfl
 refine op_run (fun ρ hρ qc qf qg => ?_); have q273 := rho hρ r273; have q274 := rho hρ r274; have q275 := rho hρ r275; have q276 := rho hρ r276; have q277 := rho hρ r277; clear hρ; go_simp; (try clear qc qf qg r273 q273 r274 q274 r275 q275 r276 q276 r277 q277)
 (try clear r273 r274 r275 r276 r277)
 refine Ln E5 J fun a_6 E6 => ?_; clear J K' E5
 refine Lp fun K' J => op1 (E6.at 278 rfl) fun ρ qc qf qg q278 => ?_; go_simp; (try clear qc qf qg q278)
 refine Ln E6 J fun a_7 E7 => ?_; clear J K' E6
 refine late_done [24] E7 hK (fun a hE => ?_); clear hK K Q' E7; simp only [lk, pick, Nat.reduceEqDiff, ↓reduceIte] at hE
 obtain ⟨P, hP⟩ : ∃ P, P = V.heap.size := ⟨_, rfl⟩
 rw [← hP] at hE
 refine world_cut (fun wt => Below V.heap.size V wt ∧ Arr wt wt.heap.size (some ⟨P, 0, none⟩) askV) ⟨(Below.refl _ _).alloc (Nat.le_refl _) _, by rw [hP]; exact (arr_new V _ _).more (by simp)⟩ (fun w1 hC => ?_)
 obtain ⟨h1, hA1⟩ := hC
 obtain ⟨o, ho⟩ : ∃ o, o = 0 := ⟨_, rfl⟩
 rw [← ho] at hA1
 replace hE := hE.turn 24 (v' := .slice (some ⟨P, o, none⟩) 5 5) rfl (by rw [ho])
 have hb1 := hb.trans (h1.mono hb.size)
 clear hP ho h1
 (repeat with_reducible first|refine ctl ?_|refine miss ?_)
 refine Rs 1 fun Q' K hK => ?_
 refine Lp fun K' J => ?_
 refine op0 fun ρ qc qf qg => ?_; go_simp; (try clear qc qf qg)
 refine Ln hE J fun a_1 E1 => ?_; clear J K' hE a
 refine late_done [24, 25] E1 hK (fun a hE => ?_); clear hK K Q' E1; simp only [lk, pick, Nat.reduceEqDiff, ↓reduceIte] at hE
 (repeat with_reducible first|refine ctl ?_|refine miss ?_)
 refine loop_st (fun (i : Nat) a w' => i ≤ 5 ∧ Fits 562 [(24, .slice (some ⟨P, o, none⟩) 5 5), (25, .int .i64 i)] a ∧ Below w1.heap.size w1 w') (fun i => 5 - i) 0 ⟨Nat.zero_le _, by simpa using hE, Below.refl _ _⟩ (fun i a w' hI => ?_)
 clear hE
 obtain ⟨hi, hE, hW⟩ := hI
 obtain ⟨wr, hwr⟩ : ∃ x, x = w' := ⟨_, rfl⟩
 subst hwr
 (repeat with_reducible first|refine ctl ?_|refine miss ?_)
 refine Rs 4 fun Q' K hK => ?_
 refine Lp fun K' J => op1 (hE.at 25 rfl) fun ρ qc qf qg q25 => ?_; go_simp; (try clear qc qf qg q25)
 refine Ln hE J fun a_1 E1 => ?_; clear J K' hE a
 refine Lp fun K' J => op1 (E1.at 24 rfl) fun ρ qc qf qg q24 => ?_; go_simp; (try clear qc qf qg q24)
 refine Ln E1 J fun a_2 E2 => ?_; clear J K' E1
 refine Lp fun K' J => op1 (E2.at 280 rfl) fun ρ qc qf qg q280 => ?_; go_simp; (try go_bits); (try clear qc qf qg q280)
 refine Ln E2 J fun a_3 E3 => ?_; clear J K' E2
 refine Lp fun K' J => ?_
 have r279 := E3.at 279 rfl; have r281 := E3.at 281 rfl
 refine op2 r279 r281 fun ρ qc qf qg q279 q281 => ?_; go_simp; (try go_bits); (try clear qc qf qg r279 q279 r281 q281)
 (try clear r279 r281)
 refine Ln E3 J fun a_4 E4 => ?_; clear J K' E3
 refine late_done [24, 25, 282] E4 hK (fun a hE => ?_); clear hK K Q' E4; simp only [lk, pick, Nat.reduceEqDiff, ↓reduceIte] at hE
 (repeat with_reducible first|refine ctl ?_|refine miss ?_)
 refine cond_part hE (t := 282) rfl (fun h => ?_) (fun h => ?_)
 ·have hlt : i < 5 := by have := of_decide_eq_true h; omega
  clear h
  have hltI : (i : Int) < 5 := by omega
  obtain ⟨x, y, c, ce, hx, hy, hk, hc, hce⟩ := ask_row i hlt
  obtain ⟨b0, o0, hPo, hb0, hcl⟩ := (hA1.below hW).more hW.size (by simp [askV])
  have c0 := hcl _ _ hx
  have c1 := hcl _ _ hy
  have e0 : b0 = P ∧ o0 = o := by cases hPo; exact ⟨rfl, rfl⟩
  obtain ⟨rfl, rfl⟩ := e0
  rw [← Nat.add_assoc] at c1
  have HK := hid hk
  have HC := hid hc
  have HCE := hid hce
  clear hx hy hk hc hce hcl hPo
  (repeat with_reducible first|refine ctl ?_|refine miss ?_)
  refine Rd [16] (fun wt => Below wr.heap.size wr wt) (fun w1 w2 => Below w1.heap.size w1 w2) [(0, some 286), (1, some 287), (2, some 288), (3, some 289), (4, some 290), (5, some 291), (6, some 292), (7, some 293), (8, some 294), (9, some 295), (10, some 296), (11, some 297), (12, some 285), (13, some 298), (14, some 299), (15, some 26)] [286, 287, 288, 289, 290, 291, 292, 293, 294, 295, 296, 297, 285, 298, 299, 26] #[true, true, true, true, true, true, true, true, true, true, true, true, true, true, true, true, false] [24, 25, 27] hE ((Below.refl _ _).drew) fun Q' K hK => ?_
  refine SeqOps.say (fun v wt => ∃ A L, v = .agg (bkV A 2 L 5 (chBk 0)).toArray ∧ BkAt wt A L (chBk 0)) (fun _ _ _ hR ⟨A, L, e, h⟩ => ⟨A, L, e, h.below hR⟩) (Sp fun ax wx hS hT' hd K' J => ?_) ?_
  ·obtain ⟨hcT, hfT, hlT, hmT, hwT, hzT⟩ := bT hT'
   refine op0 fun ρ qc qf qg => ?_; go_simp; (try go_bits);
   go_at_call 43; refine (books_any 0 _).mono ?_; rintro e g1 ⟨⟨A, L, rfl, hM⟩, k1⟩
   exact J.out _ _ _ rfl ⟨A, L, rfl, hM⟩ (hT'.trans (k1.mono hT'.size)) k1
  refine SeqOps.val ?_ (Sp fun ax wx hS hT' hd K' J => ?_) ?_; rotate_left 1
  ·have r24 := hS.at 24 (by decide) (hE.at 24 rfl); obtain ⟨hcT, hfT, hlT, hmT, hwT, hzT⟩ := bT hT'
   refine op1 r24 fun ρ qc qf qg q24 => ?_; go_simp;
   refine J.out _ _ _ rfl ?_ hT' (Below.refl _ _); rfl
  refine SeqOps.val ?_ (Sp fun ax wx hS hT' hd K' J => ?_) ?_; rotate_left 1
  ·have r25 := hS.at 25 (by decide) (hE.at 25 rfl); obtain ⟨hcT, hfT, hlT, hmT, hwT, hzT⟩ := bT hT'
   refine op1 r25 fun ρ qc qf qg q25 => ?_; go_simp;
   refine J.out _ _ _ rfl ?_ hT' (Below.refl _ _); rfl
  refine SeqOps.val ?_ (Sp fun ax wx hS hT' hd K' J => ?_) ?_; rotate_left 1
  ·have r287 := Tv hd 1 1 287; have r288 := Tv hd 0 2 288; obtain ⟨hcT, hfT, hlT, hmT, hwT, hzT⟩ := bT hT'
   refine op2 r287 r288 fun ρ qc qf qg q287 q288 => ?_; go_simp; (try go_bits);
   refine J.out _ _ _ rfl ?_ hT' (Below.refl _ _); rfl
  refine SeqOps.val ?_ (Sp fun ax wx hS hT' hd K' J => ?_) ?_; rotate_left 1
  ·have r289 := Tv hd 0 3 289; obtain ⟨hcT, hfT, hlT, hmT, hwT, hzT⟩ := bT hT'
   refine op1 r289 fun ρ qc qf qg q289 => ?_; go_simp; (try go_bits);
   refine J.out _ _ _ rfl ?_ hT' (Below.refl _ _); rfl
  refine SeqOps.val ?_ (Sp fun ax wx hS hT' hd K' J => ?_) ?_; rotate_left 1
  ·have r290 := Tv hd 0 4 290; obtain ⟨hcT, hfT, hlT, hmT, hwT, hzT⟩ := bT hT'
   refine op1 r290 fun ρ qc qf qg q290 => ?_; go_simp;
   refine J.out _ _ _ rfl ?_ hT' (Below.refl _ _); rfl
  refine SeqOps.val ?_ (Sp fun ax wx hS hT' hd K' J => ?_) ?_; rotate_left 1
  ·have r24 := hS.at 24 (by decide) (hE.at 24 rfl); obtain ⟨hcT, hfT, hlT, hmT, hwT, hzT⟩ := bT hT'
   refine op1 r24 fun ρ qc qf qg q24 => ?_; go_simp;
   refine J.out _ _ _ rfl ?_ hT' (Below.refl _ _); rfl
  refine SeqOps.val ?_ (Sp fun ax wx hS hT' hd K' J => ?_) ?_; rotate_left 1
  ·have r25 := hS.at 25 (by decide) (hE.at 25 rfl); obtain ⟨hcT, hfT, hlT, hmT, hwT, hzT⟩ := bT hT'
   refine op1 r25 fun ρ qc qf qg q25 => ?_; go_simp;
   refine J.out _ _ _ rfl ?_ hT' (Below.refl _ _); rfl
  refine SeqOps.val ?_ (Sp fun ax wx hS hT' hd K' J => ?_) ?_; rotate_left 1
  ·have r292 := Tv hd 1 6 292; have r293 := Tv hd 0 7 293; obtain ⟨hcT, hfT, hlT, hmT, hwT, hzT⟩ := bT hT'
   refine op2 r292 r293 fun ρ qc qf qg q292 q293 => ?_; go_simp; (try go_bits);
   refine J.out _ _ _ rfl ?_ hT' (Below.refl _ _); rfl
  refine SeqOps.val ?_ (Sp fun ax wx hS hT' hd K' J => ?_) ?_; rotate_left 1
  ·have r294 := Tv hd 0 8 294; obtain ⟨hcT, hfT, hlT, hmT, hwT, hzT⟩ := bT hT'
   refine op1 r294 fun ρ qc qf qg q294 => ?_; go_simp; (try go_bits);
   refine J.out _ _ _ rfl ?_ hT' (Below.refl _ _); rfl
  refine SeqOps.val ?_ (Sp fun ax wx hS hT' hd K' J => ?_) ?_; rotate_left 1
  ·have r295 := Tv hd 0 9 295; obtain ⟨hcT, hfT, hlT, hmT, hwT, hzT⟩ := bT hT'
   refine op1 r295 fun ρ qc qf qg q295 => ?_; go_simp;
   refine J.out _ _ _ rfl ?_ hT' (Below.refl _ _); rfl
  refine SeqOps.val ?_ (Sp fun ax wx hS hT' hd K' J => ?_) ?_; rotate_left 1
  ·obtain ⟨v286, r286, h286⟩ := Tg hd 10 0 286; obtain ⟨A, L, rfl, hM⟩ := h286; have r291 := Tv hd 5 5 291; have r296 := Tv hd 0 10 296; obtain ⟨hcT, hfT, hlT, hmT, hwT, hzT⟩ := bT hT'
   refine op3 r286 r291 r296 fun ρ qc qf qg q286 q291 q296 => ?_; go_simp; (try go_bits);
   go_at_call 24; refine (xKind (x := x) (y := y) HK.out hM).mono ?_; rintro e g1 ⟨rfl, k1⟩
   refine J.out _ _ _ rfl ?_ (hT'.trans (k1.mono hT'.size)) k1; rfl
  refine SeqOps.val ?_ (Sp fun ax wx hS hT' hd K' J => ?_) ?_; rotate_left 1
  ·have r297 := Tv hd 0 11 297; obtain ⟨hcT, hfT, hlT, hmT, hwT, hzT⟩ := bT hT'
   refine op1 r297 fun ρ qc qf qg q297 => ?_; go_simp;
   refine J.out _ _ _ rfl ?_ hT' (Below.refl _ _); rfl
  refine SeqOps.val ?_ (Sp fun ax wx hS hT' hd K' J => ?_) ?_; rotate_left 1
  ·have r285 := Tv hd 0 12 285; obtain ⟨hcT, hfT, hlT, hmT, hwT, hzT⟩ := bT hT'
   refine op1 r285 fun ρ qc qf qg q285 => ?_; go_simp;
   refine J.out _ _ _ rfl ?_ hT' (Below.refl _ _); rfl
  refine SeqOps.val ?_ (Sp fun ax wx hS hT' hd K' J => ?_) ?_; rotate_left 1
  ·have r285 := Tv hd 1 12 285; obtain ⟨hcT, hfT, hlT, hmT, hwT, hzT⟩ := bT hT'
   refine op1 r285 fun ρ qc qf qg q285 => ?_; go_simp;
   refine J.out _ _ _ rfl ?_ hT' (Below.refl _ _); rfl
  refine SeqOps.val ?_ (Sp fun ax wx hS hT' hd K' J => ?_) ?_; rotate_left 1
  ·have r298 := Tv hd 1 13 298; obtain ⟨hcT, hfT, hlT, hmT, hwT, hzT⟩ := bT hT'
   refine op1 r298 fun ρ qc qf qg q298 => ?_; go_simp;
   refine J.out _ _ _ rfl ?_ hT' (Below.refl _ _); rfl
  refine SeqOps.nil ?_
  intro w2 hBl; (refine fun v h => ?_; obtain ⟨A, L, rfl, hM⟩ := h); (refine fun v h => ?_; obtain rfl := h); (refine fun v h => ?_; obtain rfl := h); (refine fun v h => ?_; obtain rfl := h); (refine fun v h => ?_; obtain rfl := h); (refine fun v h => ?_; obtain rfl := h); (refine fun v h => ?_; obtain rfl := h); (refine fun v h => ?_; obtain rfl := h); (refine fun v h => ?_; obtain rfl := h); (refine fun v h => ?_; obtain rfl := h); (refine fun v h => ?_; obtain rfl := h); (refine fun v h => ?_; obtain rfl := h); (refine fun v h => ?_; obtain rfl := h); (refine fun v h => ?_; obtain rfl := h); (refine fun v h => ?_; obtain rfl := h); (refine fun v h => ?_; obtain rfl := h);
  refine fun ax hEx => ?_
  simp only [lk, pick, Nat.reduceEqDiff, ↓reduceIte] at hEx
  refine Lp fun K' J => op1 (hEx.at 299 rfl) fun ρ qc qf qg q299 => ?_; go_simp; (try clear qc qf qg q299)
  refine Ln hEx J fun a_1 E1 => ?_; clear J K' hEx
  refine late_done [24, 25, 26, 27] E1 hK (fun a hE => ?_); clear hK K Q' E1; simp only [lk, pick, Nat.reduceEqDiff, ↓reduceIte] at hE
  have hW2 := hW.trans (hBl.mono hW.size)
  have hb02 : b0 < w2.heap.size := Nat.lt_of_lt_of_le hb0 hBl.size
  have d0 := (hBl.cell (p := ⟨b0, o0 + i * 2, none⟩) hb0).trans c0
  have d1 := (hBl.cell (p := ⟨b0, o0 + i * 2 + 1, none⟩) hb0).trans c1
  clear c0 c1 hb0 hM
  (repeat with_reducible first|refine ctl ?_|refine miss ?_)
  refine Rd [16] (fun wt => Below w2.heap.size w2 wt) (fun w1 w2 => Below w1.heap.size w1 w2) [(0, some 301), (1, some 302), (2, some 303), (3, some 304), (4, some 305), (5, some 306), (6, some 307), (7, some 308), (8, some 309), (9, some 310), (10, some 311), (11, some 312), (12, some 300), (13, some 313), (14, some 314), (15, some 28)] [301, 302, 303, 304, 305, 306, 307, 308, 309, 310, 311, 312, 300, 313, 314, 28] #[true, true, true, true, true, true, true, true, true, true, true, true, true, true, true, true, false] [24, 25, 27, 29] hE ((Below.refl _ _).drew) fun Q' K hK => ?_
  refine SeqOps.say (fun v wt => ∃ A L, v = .agg (bkV A 2 L 5 (chBk 1)).toArray ∧ BkAt wt A L (chBk 1)) (fun _ _ _ hR ⟨A, L, e, h⟩ => ⟨A, L, e, h.below hR⟩) (Sp fun ax wx hS hT' hd K' J => ?_) ?_
  ·obtain ⟨hcT, hfT, hlT, hmT, hwT, hzT⟩ := bT hT'
   refine op0 fun ρ qc qf qg => ?_; go_simp; (try go_bits);
   go_at_call 43; refine (books_any 1 _).mono ?_; rintro e g1 ⟨⟨A, L, rfl, hM⟩, k1⟩
   exact J.out _ _ _ rfl ⟨A, L, rfl, hM⟩ (hT'.trans (k1.mono hT'.size)) k1
  refine SeqOps.val ?_ (Sp fun ax wx hS hT' hd K' J => ?_) ?_; rotate_left 1
  ·have r24 := hS.at 24 (by decide) (hE.at 24 rfl); obtain ⟨hcT, hfT, hlT, hmT, hwT, hzT⟩ := bT hT'
   refine op1 r24 fun ρ qc qf qg q24 => ?_; go_simp;
   refine J.out _ _ _ rfl ?_ hT' (Below.refl _ _); rfl
  refine SeqOps.val ?_ (Sp fun ax wx hS hT' hd K' J => ?_) ?_; rotate_left 1
  ·have r25 := hS.at 25 (by decide) (hE.at 25 rfl); obtain ⟨hcT, hfT, hlT, hmT, hwT, hzT⟩ := bT hT'
   refine op1 r25 fun ρ qc qf qg q25 => ?_; go_simp;
   refine J.out _ _ _ rfl ?_ hT' (Below.refl _ _); rfl
  refine SeqOps.val ?_ (Sp fun ax wx hS hT' hd K' J => ?_) ?_; rotate_left 1
  ·have r302 := Tv hd 1 1 302; have r303 := Tv hd 0 2 303; obtain ⟨hcT, hfT, hlT, hmT, hwT, hzT⟩ := bT hT'
   refine op2 r302 r303 fun ρ qc qf qg q302 q303 => ?_; go_simp; (try go_bits);
   refine J.out _ _ _ rfl ?_ hT' (Below.refl _ _); rfl
  refine SeqOps.val ?_ (Sp fun ax wx hS hT' hd K' J => ?_) ?_; rotate_left 1
  ·have r304 := Tv hd 0 3 304; obtain ⟨hcT, hfT, hlT, hmT, hwT, hzT⟩ := bT hT'
   refine op1 r304 fun ρ qc qf qg q304 => ?_; go_simp; (try go_bits);
   refine J.out _ _ _ rfl ?_ hT' (Below.refl _ _); rfl
  refine SeqOps.val ?_ (Sp fun ax wx hS hT' hd K' J => ?_) ?_; rotate_left 1
  ·have r305 := Tv hd 0 4 305; obtain ⟨hcT, hfT, hlT, hmT, hwT, hzT⟩ := bT hT'
   refine op1 r305 fun ρ qc qf qg q305 => ?_; go_simp;
   refine J.out _ _ _ rfl ?_ hT' (Below.refl _ _); rfl
  refine SeqOps.val ?_ (Sp fun ax wx hS hT' hd K' J => ?_) ?_; rotate_left 1
  ·have r24 := hS.at 24 (by decide) (hE.at 24 rfl); obtain ⟨hcT, hfT, hlT, hmT, hwT, hzT⟩ := bT hT'
   refine op1 r24 fun ρ qc qf qg q24 => ?_; go_simp;
   refine J.out _ _ _ rfl ?_ hT' (Below.refl _ _); rfl
  refine SeqOps.val ?_ (Sp fun ax wx hS hT' hd K' J => ?_) ?_; rotate_left 1
  ·have r25 := hS.at 25 (by decide) (hE.at 25 rfl); obtain ⟨hcT, hfT, hlT, hmT, hwT, hzT⟩ := bT hT'
   refine op1 r25 fun ρ qc qf qg q25 => ?_; go_simp;
   refine J.out _ _ _ rfl ?_ hT' (Below.refl _ _); rfl
  refine SeqOps.val ?_ (Sp fun ax wx hS hT' hd K' J => ?_) ?_; rotate_left 1
  ·have r307 := Tv hd 1 6 307; have r308 := Tv hd 0 7 308; obtain ⟨hcT, hfT, hlT, hmT, hwT, hzT⟩ := bT hT'
   refine op2 r307 r308 fun ρ qc qf qg q307 q308 => ?_; go_simp; (try go_bits);
   refine J.out _ _ _ rfl ?_ hT' (Below.refl _ _); rfl
  refine SeqOps.val ?_ (Sp fun ax wx hS hT' hd K' J => ?_) ?_; rotate_left 1
  ·have r309 := Tv hd 0 8 309; obtain ⟨hcT, hfT, hlT, hmT, hwT, hzT⟩ := bT hT'
   refine op1 r309 fun ρ qc qf qg q309 => ?_; go_simp; (try go_bits);
   refine J.out _ _ _ rfl ?_ hT' (Below.refl _ _); rfl
  refine SeqOps.val ?_ (Sp fun ax wx hS hT' hd K' J => ?_) ?_; rotate_left 1
  ·have r310 := Tv hd 0 9 310; obtain ⟨hcT, hfT, hlT, hmT, hwT, hzT⟩ := bT hT'
   refine op1 r310 fun ρ qc qf qg q310 => ?_; go_simp;
   refine J.out _ _ _ rfl ?_ hT' (Below.refl _ _); rfl
  refine SeqOps.val ?_ (Sp fun ax wx hS hT' hd K' J => ?_) ?_; rotate_left 1
  ·obtain ⟨v301, r301, h301⟩ := Tg hd 10 0 301; obtain ⟨A, L, rfl, hM⟩ := h301; have r306 := Tv hd 5 5 306; have r311 := Tv hd 0 10 311; obtain ⟨hcT, hfT, hlT, hmT, hwT, hzT⟩ := bT hT'
   refine op3 r301 r306 r311 fun ρ qc qf qg q301 q306 q311 => ?_; go_simp; (try go_bits);
   go_at_call 23; refine (xCan (x := x) (y := y) HC.out hM).mono ?_; rintro e g1 ⟨rfl, k1⟩
   refine J.out _ _ _ rfl ?_ (hT'.trans (k1.mono hT'.size)) k1; rfl
  refine SeqOps.val ?_ (Sp fun ax wx hS hT' hd K' J => ?_) ?_; rotate_left 1
  ·have r312 := Tv hd 0 11 312; obtain ⟨hcT, hfT, hlT, hmT, hwT, hzT⟩ := bT hT'
   refine op1 r312 fun ρ qc qf qg q312 => ?_; go_simp;
   refine J.out _ _ _ rfl ?_ hT' (Below.refl _ _); rfl
  refine SeqOps.val ?_ (Sp fun ax wx hS hT' hd K' J => ?_) ?_; rotate_left 1
  ·have r300 := Tv hd 0 12 300; obtain ⟨hcT, hfT, hlT, hmT, hwT, hzT⟩ := bT hT'
   refine op1 r300 fun ρ qc qf qg q300 => ?_; go_simp;
   refine J.out _ _ _ rfl ?_ hT' (Below.refl _ _); rfl
  refine SeqOps.val ?_ (Sp fun ax wx hS hT' hd K' J => ?_) ?_; rotate_left 1
  ·have r300 := Tv hd 1 12 300; obtain ⟨hcT, hfT, hlT, hmT, hwT, hzT⟩ := bT hT'
   refine op1 r300 fun ρ qc qf qg q300 => ?_; go_simp;
   refine J.out _ _ _ rfl ?_ hT' (Below.refl _ _); rfl
  refine SeqOps.val ?_ (Sp fun ax wx hS hT' hd K' J => ?_) ?_; rotate_left 1
  ·have r313 := Tv hd 1 13 313; obtain ⟨hcT, hfT, hlT, hmT, hwT, hzT⟩ := bT hT'
   refine op1 r313 fun ρ qc qf qg q313 => ?_; go_simp;
   refine J.out _ _ _ rfl ?_ hT' (Below.refl _ _); rfl
  refine SeqOps.nil ?_
  intro w3 hBl; (refine fun v h => ?_; obtain ⟨A, L, rfl, hM⟩ := h); (refine fun v h => ?_; obtain rfl := h); (refine fun v h => ?_; obtain rfl := h); (refine fun v h => ?_; obtain rfl := h); (refine fun v h => ?_; obtain rfl := h); (refine fun v h => ?_; obtain rfl := h); (refine fun v h => ?_; obtain rfl := h); (refine fun v h => ?_; obtain rfl := h); (refine fun v h => ?_; obtain rfl := h); (refine fun v h => ?_; obtain rfl := h); (refine fun v h => ?_; obtain rfl := h); (refine fun v h => ?_; obtain rfl := h); (refine fun v h => ?_; obtain rfl := h); (refine fun v h => ?_; obtain rfl := h); (refine fun v h => ?_; obtain rfl := h); (refine fun v h => ?_; obtain rfl := h);
  refine fun ax hEx => ?_
  simp only [lk, pick, Nat.reduceEqDiff, ↓reduceIte] at hEx
  refine Lp fun K' J => op1 (hEx.at 314 rfl) fun ρ qc qf qg q314 => ?_; go_simp; (try clear qc qf qg q314)
  refine Ln hEx J fun a_1 E1 => ?_; clear J K' hEx
  refine late_done [24, 25, 27, 28, 29] E1 hK (fun a hE => ?_); clear hK K Q' E1; simp only [lk, pick, Nat.reduceEqDiff, ↓reduceIte] at hE
  have hW3 := hW2.trans (hBl.mono hW2.size)
  clear d0 d1 hb02 hM
  (repeat with_reducible first|refine ctl ?_|refine miss ?_)
  refine Rs 9 fun Q' K hK => ?_
  refine Lp fun K' J => op1 (hE.at 27 rfl) fun ρ qc qf qg q27 => ?_; go_simp; (try clear qc qf qg q27)
  refine Ln hE J fun a_1 E1 => ?_; clear J K' hE a
  refine Lp fun K' J => op1 (E1.at 315 rfl) fun ρ qc qf qg q315 => ?_; go_simp; (try go_bits); (try clear qc qf qg q315)
  refine Ln E1 J fun a_2 E2 => ?_; clear J K' E1
  refine Lp fun K' J => op1 (E2.at 316 rfl) fun ρ qc qf qg q316 => ?_; go_simp; (try clear qc qf qg q316)
  refine Ln E2 J fun a_3 E3 => ?_; clear J K' E2
  refine Ly E3 317 fun K' J => ?_
  refine op1 (E3.at 29 rfl) fun ρ qc qf qg q29 => ?_; go_simp; (try clear qc qf qg q29)
  refine Ln E3 J fun a_4 E4 => ?_; clear J K' E3
  refine Ly E4 317 fun K' J => ?_
  refine op1 (E4.at 318 rfl) fun ρ qc qf qg q318 => ?_; go_simp; (try go_bits); (try clear qc qf qg q318)
  refine Ln E4 J fun a_5 E5 => ?_; clear J K' E4
  refine Ly E5 317 fun K' J => ?_
  refine op1 (E5.at 25 rfl) fun ρ qc qf qg q25 => ?_; go_simp; (try clear qc qf qg q25)
  refine Ln E5 J fun a_6 E6 => ?_; clear J K' E5
  refine Ly E6 317 fun K' J => ?_
  refine op1 (E6.at 320 rfl) fun ρ qc qf qg q320 => ?_; go_simp; (try go_bits); (try clear qc qf qg q320)
  refine Ln E6 J fun a_7 E7 => ?_; clear J K' E6
  refine Ly E7 317 fun K' J => ?_
  have r319 := E7.at 319 rfl; have r321 := E7.at 321 rfl
  refine op2 r319 r321 fun ρ qc qf qg q319 q321 => ?_; go_simp; (try go_bits); (try clear qc qf qg r319 q319 r321 q321)
  (try clear r319 r321)
  refine Ln E7 J fun a_8 E8 => ?_; clear J K' E7
  replace E8 := E8.turn 322 (v' := .bool false) rfl (by (rcases HCE.out with ⟨h1, h2⟩ | ⟨h1, h2⟩; (simp [h1]; omega); (simp [h1]; omega)))
  refine Lp fun K' J => ?_
  have r317 := E8.at 317 rfl; have r322 := E8.at 322 rfl
  refine op2 r317 r322 fun ρ qc qf qg q317 q322 => ?_; go_simp; (try go_bits); (try clear qc qf qg r317 q317 r322 q322)
  (try clear r317 r322)
  refine Ln E8 J fun a_9 E9 => ?_; clear J K' E8
  refine late_done [24, 25, 323] E9 hK (fun a hE => ?_); clear hK K Q' E9; simp only [lk, pick, Nat.reduceEqDiff, ↓reduceIte] at hE
  (repeat with_reducible first|refine ctl ?_|refine miss ?_)
  refine cond_no hE (t := 323) rfl ?_
  (repeat with_reducible first|refine ctl ?_|refine miss ?_)
  refine Rs 3 fun Q' K hK => ?_
  refine Lp fun K' J => op1 (hE.at 25 rfl) fun ρ qc qf qg q25 => ?_; go_simp; (try clear qc qf qg q25)
  refine Ln hE J fun a_1 E1 => ?_; clear J K' hE a
  refine Lp fun K' J => ?_
  have r283 := E1.at 283 rfl; refine op1 r283 fun ρ qc qf qg q283 => ?_; go_simp; (try go_bits); (try simp (disch := omega) only [IntWalk.i64_in]); (try clear qc qf qg r283 q283)
  refine Ln E1 J fun a_2 E2 => ?_; clear J K' E1
  refine Lp fun K' J => op1 (E2.at 284 rfl) fun ρ qc qf qg q284 => ?_; go_simp; (try clear qc qf qg q284)
  refine Ln E2 J fun a_3 E3 => ?_; clear J K' E2
  refine late_done [24, 25] E3 hK (fun a hE => ?_); clear hK K Q' E3; simp only [lk, pick, Nat.reduceEqDiff, ↓reduceIte] at hE
  (repeat with_reducible first|refine ctl ?_|refine miss ?_)
  exact ⟨i + 1, ⟨hlt, by simpa using hE, hW3⟩, by omega⟩
 ·(repeat with_reducible first|refine ctlE ?_|refine miss ?_)
  exact known_a w _ (hb1.trans (hW.mono hb1.size)) _ _ hE
end Go.Proofs.Ytbimkcjdodgojaa
