/- Name: the closed law, the books that are no books: the last turns in them. -/
import Derived.Test.YtbimkcjdodgojaaNbq
import Derived.Test.YtbimkcjdodgojaaNaf
namespace Go.Proofs.Ytbimkcjdodgojaa
set_option linter.unusedSimpArgs false
set_option linter.unusedVariables false
open Go Go.RowKit
attribute [local go_sem high] cell_set_wr
attribute [local go_sem low] cell_wr frozen_wr
attribute [local go_sem] wr_set wr_drew wr_drewN wr_alloc wr_new

set_option maxRecDepth 100000
theorem there_off {w : World} {R : Nat} {zs : List Value} (h : Row w R zs) (o n : Nat) (hn : o + n ≤ zs.length) : w.there R o n := fun j hj => by
 have hj' : o + j < zs.length := by omega
 have hw := (h (o + j) (zs[o + j]'hj') (List.getElem?_eq_getElem hj')).2
 exact ⟨hw.1, hw.2⟩
set_option maxHeartbeats 4000000 in
theorem known_r15 {hd ln : Nat → Nat} {N P : Nat} (hR : Rest 9 hd ln N P (updB bs4 6 bb6)) : Rest 8 hd ln N P bs4 := by
 intro w V hb hwN hS a hE
 have HR := hid hR
 clear hR
 refine wp_seq ?_; (repeat with_reducible first|refine ctl ?_|refine miss ?_)
 refine Rs 5 fun Q' K hK => ?_
 refine Lp fun K' J => op1 (hE.at 6 rfl) fun ρ qc qf qg q6 => ?_; go_simp; (try clear qc qf qg q6)
 refine Ln hE J fun a_1 E1 => ?_; clear J K' hE a
 refine Lp fun K' J => ?_
 refine op0 fun ρ qc qf qg => ?_; go_simp; (try go_bits); (try clear qc qf qg)
 go_at_call 39; refine (to_any _ _ _).mono ?_; rintro e v1 ⟨rfl, k1⟩
 have hS1 := hS.below k1
 refine Ln E1 J fun a_2 E2 => ?_; clear J K' E1
 refine Lp fun K' J => op1 (E2.at 145 rfl) fun ρ qc qf qg q145 => ?_; go_simp; (try go_bits); (try clear qc qf qg q145)
 refine Ln E2 J fun a_3 E3 => ?_; clear J K' E2
 refine Lp fun K' J => op1 (E3.at 147 rfl) fun ρ qc qf qg q147 => ?_; go_simp; (try clear qc qf qg q147)
 refine Ln E3 J fun a_4 E4 => ?_; clear J K' E3
 refine Lp fun K' J => ?_
 have r148 := E4.at 148 rfl; have r146 := E4.at 146 rfl
 refine wp_store_mid 33 (.tmp 148) (.tmp 146) rfl P 46 #[.int .i64 90, .int .i64 1440] (eval_of r148) (eval_of r146) (there_off hS1.row 46 2 (show 46 + 2 ≤ 63 from by decide)) (by kernel_rfl) (by kernel_rfl) ?_
 (try clear r148 r146)
 refine late_skip E4 J (fun a_5 E5 => ?_); clear J K'; clear E4
 refine late_done [6] E5 hK (fun a hE => ?_); clear hK K Q' E5; simp only [lk, pick, Nat.reduceEqDiff, ↓reduceIte] at hE
 have hb1 := hb.trans (k1.mono hb.size)
 refine world_cut (fun wt => Below w.heap.size w wt ∧ BadS N P hd ln (updB bs4 6 bb6) wt) ⟨Lib.below_setCells P (Nat.le_trans hwN hS1.le) _ _ hb1, hS1.setP (row_stored [.int .i64 90, .int .i64 1440] 46 v1 _ hS1.row (show 46 + 2 ≤ 63 from by decide)) (nine rfl rfl rfl rfl rfl rfl rfl rfl rfl) (fun k hk => heap_stored hk _ _ _) (size_setCellsN _ _ _ _)⟩ (fun w1 hC => ?_)
 obtain ⟨h1, hS⟩ := hC
 (repeat with_reducible first|refine ctlE ?_|refine miss ?_)
 exact HR.out w w1 h1 hwN hS _ hE
def bs5 : Nat → Bk := updB bs4 6 bb6
set_option maxHeartbeats 4000000 in
theorem known_r16 {hd ln : Nat → Nat} {N P : Nat} (hR : Rest 10 hd ln N P (updB bs5 7 bb7)) : Rest 9 hd ln N P bs5 := by
 intro w V hb hwN hS a hE
 have HR := hid hR
 clear hR
 refine wp_seq ?_; (repeat with_reducible first|refine ctl ?_|refine miss ?_)
 refine Rs 5 fun Q' K hK => ?_
 refine Lp fun K' J => op1 (hE.at 6 rfl) fun ρ qc qf qg q6 => ?_; go_simp; (try clear qc qf qg q6)
 refine Ln hE J fun a_1 E1 => ?_; clear J K' hE a
 refine Lp fun K' J => ?_
 refine op0 fun ρ qc qf qg => ?_; go_simp; (try go_bits); (try clear qc qf qg)
 go_at_call 39; refine (to_any _ _ _).mono ?_; rintro e v1 ⟨rfl, k1⟩
 have hS1 := hS.below k1
 refine Ln E1 J fun a_2 E2 => ?_; clear J K' E1
 refine Lp fun K' J => op1 (E2.at 149 rfl) fun ρ qc qf qg q149 => ?_; go_simp; (try go_bits); (try clear qc qf qg q149)
 refine Ln E2 J fun a_3 E3 => ?_; clear J K' E2
 refine Lp fun K' J => op1 (E3.at 151 rfl) fun ρ qc qf qg q151 => ?_; go_simp; (try clear qc qf qg q151)
 refine Ln E3 J fun a_4 E4 => ?_; clear J K' E3
 refine Lp fun K' J => ?_
 have r152 := E4.at 152 rfl; have r150 := E4.at 150 rfl
 refine wp_store_mid 33 (.tmp 152) (.tmp 150) rfl P 53 #[.int .i64 90, .int .i64 89] (eval_of r152) (eval_of r150) (there_off hS1.row 53 2 (show 53 + 2 ≤ 63 from by decide)) (by kernel_rfl) (by kernel_rfl) ?_
 (try clear r152 r150)
 refine late_skip E4 J (fun a_5 E5 => ?_); clear J K'; clear E4
 refine late_done [6] E5 hK (fun a hE => ?_); clear hK K Q' E5; simp only [lk, pick, Nat.reduceEqDiff, ↓reduceIte] at hE
 have hb1 := hb.trans (k1.mono hb.size)
 refine world_cut (fun wt => Below w.heap.size w wt ∧ BadS N P hd ln (updB bs5 7 bb7) wt) ⟨Lib.below_setCells P (Nat.le_trans hwN hS1.le) _ _ hb1, hS1.setP (row_stored [.int .i64 90, .int .i64 89] 53 v1 _ hS1.row (show 53 + 2 ≤ 63 from by decide)) (nine rfl rfl rfl rfl rfl rfl rfl rfl rfl) (fun k hk => heap_stored hk _ _ _) (size_setCellsN _ _ _ _)⟩ (fun w1 hC => ?_)
 obtain ⟨h1, hS⟩ := hC
 (repeat with_reducible first|refine ctlE ?_|refine miss ?_)
 exact HR.out w w1 h1 hwN hS _ hE
def bs6 : Nat → Bk := updB bs5 7 bb7
def bs7 : Nat → Bk := updB bs6 8 bb8
/-- the nine books in memory, as they are read in the end -/
def BadF (P o : Nat) (W : World) : Prop := ∃ (A L : Nat → Option Addr) (lc : Nat → Nat), Arr W W.heap.size (some ⟨P, o, none⟩) ((List.range 9).flatMap fun i => bkV (A i) 2 (L i) (lc i) (bs7 i)) ∧ ∀ i, i < 9 → (bs7 i).small 2 (lc i) ∧ BkAt W (A i) (L i) (bs7 i)
theorem BadF.below {P o : Nat} {W W' : World} (h : BadF P o W) (hb : Below W.heap.size W W') : BadF P o W' := by
 obtain ⟨A, L, lc, h1, h2⟩ := h
 exact ⟨A, L, lc, (h1.below hb).more hb.size, fun i hi => ⟨(h2 i hi).1, (h2 i hi).2.below hb⟩⟩
theorem small_of {b : Bk} {c lc : Nat} (h : (decide (b.ear.alike.length ≤ c) && (decide (b.lines.length ≤ lc) && (decide (b.ear.alike.length ≤ 100) && (decide (b.lines.length ≤ 100) && (decide (b.ear.mute.size ≤ 100) && b.lines.all fun x => decide (x.heard.size ≤ 100)))))) = true) : b.small c lc := by
 simp only [Bool.and_eq_true, decide_eq_true_eq, List.all_eq_true] at h
 obtain ⟨h1, h2, h3, h4, h5, h6⟩ := h
 exact ⟨h1, by omega, h2, by omega, by omega, fun i hi => by have := h6 _ (List.getElem_mem hi); omega⟩
theorem bs7_no : ∀ i, i < 9 → (bs7 i).ok = false := nine (by decide +kernel) (by decide +kernel) (by decide +kernel) (by decide +kernel) (by decide +kernel) (by decide +kernel) (by decide +kernel) (by decide +kernel) (by decide +kernel)
set_option maxHeartbeats 4000000 in
theorem known_r17 {hd ln : Nat → Nat} {N P : Nat} (hR : ∀ (w V : World), Below w.heap.size w V → ∀ o, BadF P o V → ∀ (a : Act), Fits 562 [(6, .slice (some ⟨P, o, none⟩) 9 9)] a → (cr 11 (bodyOf Try.f10)).wp Try.prog (bodyPost Try.prog Try.f10 fun e w' => e = .returned (.bool true) ∧ Below w.heap.size w w') a V) : Rest 10 hd ln N P bs6 := by
 intro w V hb hwN hS a hE
 have HR := hid hR
 clear hR
 have hl := hS.l 8 (by omega)
 have cP := (hS.row 59 _ rfl).1
 have nP := hS.lt
 have hNP := hS.le
 obtain ⟨G, hG⟩ : ∃ G, ln 8 = G := ⟨_, rfl⟩
 have HS := hid hS
 have HG := hid hG
 rw [hG] at cP hl
 obtain ⟨g1, g2, g3, g4⟩ := hl
 clear hS hG
 refine wp_seq ?_; (repeat with_reducible first|refine ctl ?_|refine miss ?_)
 refine Rd [10, 11, 12] (fun wt => Below V.heap.size V wt) (fun w1 w2 => Below w1.heap.size w1 w2) [(0, some 153), (1, some 154), (2, some 155), (3, some 156), (4, some 157), (5, some 158), (6, some 159), (7, some 160), (8, some 161), (9, some 162)] [153, 154, 155, 156, 157, 158, 159, 160, 161, 162] #[true, true, true, true, true, true, true, true, true, true, false, false, false] [6] hE ((Below.refl _ _).drew) fun Q' K hK => ?_
 refine SeqOps.val ?_ (Sp fun ax wx hS hT' hd K' J => ?_) ?_; rotate_left 1
 ·have r6 := hS.at 6 (by decide) (hE.at 6 rfl); obtain ⟨hcT, hfT, hlT, hmT, hwT, hzT⟩ := bT hT'
  refine op1 r6 fun ρ qc qf qg q6 => ?_; go_simp;
  refine J.out _ _ _ rfl ?_ hT' (Below.refl _ _); rfl
 refine SeqOps.val ?_ (Sp fun ax wx hS hT' hd K' J => ?_) ?_; rotate_left 1
 ·have r6 := hS.at 6 (by decide) (hE.at 6 rfl); obtain ⟨hcT, hfT, hlT, hmT, hwT, hzT⟩ := bT hT'
  refine op1 r6 fun ρ qc qf qg q6 => ?_; go_simp;
  refine J.out _ _ _ rfl ?_ hT' (Below.refl _ _); rfl
 refine SeqOps.val ?_ (Sp fun ax wx hS hT' hd K' J => ?_) ?_; rotate_left 1
 ·have r154 := Tv hd 0 1 154; obtain ⟨hcT, hfT, hlT, hmT, hwT, hzT⟩ := bT hT'
  refine op1 r154 fun ρ qc qf qg q154 => ?_; go_simp; (try go_bits);
  refine J.out _ _ _ rfl ?_ hT' (Below.refl _ _); rfl
 refine SeqOps.val ?_ (Sp fun ax wx hS hT' hd K' J => ?_) ?_; rotate_left 1
 ·have r155 := Tv hd 0 2 155; obtain ⟨hcT, hfT, hlT, hmT, hwT, hzT⟩ := bT hT'
  refine op1 r155 fun ρ qc qf qg q155 => ?_; go_simp;
  refine J.out _ _ _ rfl ?_ hT' (Below.refl _ _); rfl
 refine SeqOps.val ?_ (Sp fun ax wx hS hT' hd K' J => ?_) ?_; rotate_left 1
 ·have r156 := Tv hd 0 3 156; obtain ⟨hcT, hfT, hlT, hmT, hwT, hzT⟩ := bT hT'
  refine op1 r156 fun ρ qc qf qg q156 => ?_; go_simp;
  refine J.out _ _ _ rfl ?_ hT' (Below.refl _ _); rfl
 refine SeqOps.val ?_ (Sp fun ax wx hS hT' hd K' J => ?_) ?_; rotate_left 1
 ·have r6 := hS.at 6 (by decide) (hE.at 6 rfl); obtain ⟨hcT, hfT, hlT, hmT, hwT, hzT⟩ := bT hT'
  refine op1 r6 fun ρ qc qf qg q6 => ?_; go_simp;
  refine J.out _ _ _ rfl ?_ hT' (Below.refl _ _); rfl
 refine SeqOps.val ?_ (Sp fun ax wx hS hT' hd K' J => ?_) ?_; rotate_left 1
 ·have r158 := Tv hd 0 5 158; obtain ⟨hcT, hfT, hlT, hmT, hwT, hzT⟩ := bT hT'
  refine op1 r158 fun ρ qc qf qg q158 => ?_; go_simp; (try go_bits);
  refine J.out _ _ _ rfl ?_ hT' (Below.refl _ _); rfl
 refine SeqOps.val ?_ (Sp fun ax wx hS hT' hd K' J => ?_) ?_; rotate_left 1
 ·have r159 := Tv hd 0 6 159; obtain ⟨hcT, hfT, hlT, hmT, hwT, hzT⟩ := bT hT'
  refine op1 r159 fun ρ qc qf qg q159 => ?_; go_simp;
  refine J.out _ _ _ rfl ?_ hT' (Below.refl _ _); rfl
 refine SeqOps.val ?_ (Sp fun ax wx hS hT' hd K' J => ?_) ?_; rotate_left 1
 ·have r160 := Tv hd 0 7 160; obtain ⟨hcT, hfT, hlT, hmT, hwT, hzT⟩ := bT hT'
  refine op1 r160 fun ρ qc qf qg q160 => ?_; go_simp;
  refine J.out _ _ _ rfl ?_ hT' (Below.refl _ _); rfl
 refine SeqOps.say (fun v wt => ∃ g c', v = .slice (some ⟨g, 0, none⟩) 10 c' ∧ 10 ≤ c' ∧ V.heap.size ≤ g ∧ Arr wt wt.heap.size (some ⟨g, 0, none⟩) (nlines bb8.lines)) (fun _ _ _ hR ⟨g, c', e, h1, h2, h3⟩ => ⟨g, c', e, h1, h2, (h3.below hR).more hR.size⟩) (Sp fun ax wx hS hT' hd K' J => ?_) ?_
 ·have r157 := Tv hd 4 4 157; have r161 := Tv hd 0 8 161; obtain ⟨hcT, hfT, hlT, hmT, hwT, hzT⟩ := bT hT'
  have hrw := g4.below hT' g2
  have har : Arr wx wx.heap.size (some ⟨G, 0, none⟩) (nlines (bs6 8).lines) := hrw.arr (Nat.lt_of_lt_of_le g2 hT'.size)
  refine wp_appFull (.tmp 157) (.tmp 161) 31 rfl 81 (.agg #[.int .i64 0, .int .i64 0, .string ⟨#[]⟩]) 3 32 Try.underlying31 (by kernel_rfl) rfl (by decide) (some ⟨G, 0, none⟩) 5 (nlines (bs6 8).lines) (eval_of r157) har rfl ⟨G, 0, none⟩ 5 5 (nlines (bs6 8).lines) (eval_of r161) (fun j u hu => by (have h := (hrw j u hu).1; by_cases e : j = 0; (subst e; simpa [Addr.add] using h); (simpa [Addr.add, e] using h))) (by decide) rfl (by decide) (by decide) (by decide) (fun g c' w' q1 q2 q3 q4 q5 q6 => ?_)
  exact J.out _ _ _ rfl ⟨g, c', rfl, q4, Nat.le_trans hT'.size q1, fun _ => ⟨g, 0, rfl, q2, fun j u hu => by rw [Nat.zero_add]; exact q3 j u hu⟩⟩ (hT'.trans (q5.mono hT'.size)) q5
 refine SeqOps.nil ?_
 intro v1 hBl; (refine fun v h => ?_; obtain rfl := h); (refine fun v h => ?_; obtain rfl := h); (refine fun v h => ?_; obtain rfl := h); (refine fun v h => ?_; obtain rfl := h); (refine fun v h => ?_; obtain rfl := h); (refine fun v h => ?_; obtain rfl := h); (refine fun v h => ?_; obtain rfl := h); (refine fun v h => ?_; obtain rfl := h); (refine fun v h => ?_; obtain rfl := h); (refine fun v h => ?_; obtain ⟨g, c', rfl, hc', hg, hgA⟩ := h);
 refine fun ax hEx => ?_
 simp only [lk, pick, Nat.reduceEqDiff, ↓reduceIte] at hEx
 refine Lp fun K' J => op1 (hEx.at 153 rfl) fun ρ qc qf qg q153 => ?_; go_simp; (try go_bits); (try clear qc qf qg q153)
 refine Ln hEx J fun a_1 E1 => ?_; clear J K' hEx
 refine Lp fun K' J => op1 (E1.at 163 rfl) fun ρ qc qf qg q163 => ?_; go_simp; (try clear qc qf qg q163)
 refine Ln E1 J fun a_2 E2 => ?_; clear J K' E1
 have hS1 := HS.out.below hBl
 have y59 := (hS1.row 59 _ rfl).2
 refine Lp fun K' J => ?_
 have r164 := E2.at 164 rfl; have r162 := E2.at 162 rfl
 refine op2 r164 r162 fun ρ qc qf qg q164 q162 => ?_; go_simp; (try clear qc qf qg r164 q164 r162 q162)
 (try clear r164 r162)
 refine late_skip E2 J (fun a_3 E3 => ?_); clear J K'; clear E2
 refine late_done [6] E3 hK (fun a hE => ?_); clear hK K Q' E3; simp only [lk, pick, Nat.reduceEqDiff, ↓reduceIte] at hE
 have hb1 := hb.trans (hBl.mono hb.size)
 have hgP : g ≠ P := by omega
 have hfA : ∀ i, i < 9 → Arr (v1.setCell ⟨P, 59, none⟩ (.slice (some ⟨g, 0, none⟩) 10 c')) (v1.setCell ⟨P, 59, none⟩ (.slice (some ⟨g, 0, none⟩) 10 c')).heap.size (some ⟨hd i, 0, none⟩) (txts chEar.alike) := fun i hi => by
  obtain ⟨_, _, q3, q4⟩ := hS1.h i hi
  have := arr_set (o := 59) (v := .slice (some ⟨g, 0, none⟩) 10 c') q4 q3
  simpa using this
 have hfL : ∀ i, i < 9 → Arr (v1.setCell ⟨P, 59, none⟩ (.slice (some ⟨g, 0, none⟩) 10 c')) (v1.setCell ⟨P, 59, none⟩ (.slice (some ⟨g, 0, none⟩) 10 c')).heap.size (some ⟨ln i, 0, none⟩) (nlines (bs6 i).lines) := fun i hi => by
  obtain ⟨_, q2, q3, q4⟩ := hS1.l i hi
  have := arr_set (o := 59) (v := .slice (some ⟨g, 0, none⟩) 10 c') (q4.arr q2) q3
  simpa using this
 have hf8 : Arr (v1.setCell ⟨P, 59, none⟩ (.slice (some ⟨g, 0, none⟩) 10 c')) (v1.setCell ⟨P, 59, none⟩ (.slice (some ⟨g, 0, none⟩) 10 c')).heap.size (some ⟨g, 0, none⟩) (nlines bb8.lines) := by
  have := arr_set (o := 59) (v := .slice (some ⟨g, 0, none⟩) 10 c') hgA hgP
  simpa using this
 have hrP : Row (v1.setCell ⟨P, 59, none⟩ (.slice (some ⟨g, 0, none⟩) 10 c')) P _ := hS1.row.set (o := 59) (show 59 < 63 from by decide)
 refine world_cut (fun wt => Below w.heap.size w wt ∧ BadF P 0 wt) ⟨hb1.setCell (by simp only; omega) _, fun i => some ⟨hd i, 0, none⟩, fun i => if i = 8 then some ⟨g, 0, none⟩ else some ⟨ln i, 0, none⟩, fun i => if i = 8 then c' else 5, hrP.arr (by simpa using hS1.lt), ?_⟩ (fun w1 hC => ?_)
 ·exact nine ⟨small_of (c := 2) (lc := 5) (b := bs7 0) (by decide), hfA 0 (by omega), hfL 0 (by omega)⟩ ⟨small_of (c := 2) (lc := 5) (b := bs7 1) (by decide), hfA 1 (by omega), hfL 1 (by omega)⟩ ⟨small_of (c := 2) (lc := 5) (b := bs7 2) (by decide), hfA 2 (by omega), hfL 2 (by omega)⟩ ⟨small_of (c := 2) (lc := 5) (b := bs7 3) (by decide), hfA 3 (by omega), hfL 3 (by omega)⟩ ⟨small_of (c := 2) (lc := 5) (b := bs7 4) (by decide), hfA 4 (by omega), hfL 4 (by omega)⟩ ⟨small_of (c := 2) (lc := 5) (b := bs7 5) (by decide), hfA 5 (by omega), hfL 5 (by omega)⟩ ⟨small_of (c := 2) (lc := 5) (b := bs7 6) (by decide), hfA 6 (by omega), hfL 6 (by omega)⟩ ⟨small_of (c := 2) (lc := 5) (b := bs7 7) (by decide), hfA 7 (by omega), hfL 7 (by omega)⟩ ⟨⟨by decide, by decide, hc', by decide, by decide, (small_of (c := 2) (lc := 10) (b := bb8) (by decide)).2.2.2.2.2⟩, hfA 8 (by omega), hf8⟩
 obtain ⟨h1, hF⟩ := hC
 (repeat with_reducible first|refine ctlE ?_|refine miss ?_)
 exact HR.out w w1 h1 0 hF _ hE
end Go.Proofs.Ytbimkcjdodgojaa
