/- Name: the reference's can. -/
import Derived.Test.YtbimkcjdodgojaaGreatKBNde
import Derived.Test.YtbimkcjdodgojaaGreatKBNt
import Derived.Test.YtbimkcjdodgojaaGreatKBNbk
import Derived.Test.YtbimkcjdodgojaaGreatKBYn
import Derived.Test.YtbimkcjdodgojaaGreatKBNcl

namespace Go.Proofs.YtbimkcjdodgojaaGreat
set_option linter.unusedSimpArgs false
set_option linter.unusedVariables false
open Go Go.RowKit
attribute [local go_sem high] cell_set_wr
attribute [local go_sem low] cell_wr frozen_wr
attribute [local go_sem] wr_set wr_drew wr_drewN wr_alloc wr_new Rho.c Rho.n Rho.g
/-- a new block whose first cells can be written -/
def NewW (N n : Nat) (v : Value) (wt : World) : Prop := ∃ C, v = .pointer (some ⟨C, 0, none⟩) ∧ N ≤ C ∧ C < wt.heap.size ∧ ∃ zs, zs.length = n ∧ Row wt C zs
theorem NewW.below {N n : Nat} {v : Value} {w w' : World} (h : NewW N n v w) (hb : Below w.heap.size w w') : NewW N n v w' := by
 obtain ⟨C, h1, h2, h3, zs, h4, h5⟩ := h
 exact ⟨C, h1, h2, Nat.lt_of_lt_of_le h3 hb.size, zs, h4, h5.below hb h3⟩
theorem Row.stored {w : World} {R G o : Nat} {vs l : List Value} (h : Row w G l) (hne : G ≠ R) : Row (w.setCells R o vs) G l := fun j u hu => by
 obtain ⟨h1, h2, h3⟩ := h j u hu
 have e := heap_stored hne vs o w
 exact ⟨(World.cell?_of_block e).trans h1, by rw [World.cell?_of_block e]; exact h2, by rw [World.frozen?_of_block e]; exact h3⟩
theorem Cells.stored {w : World} {R G o : Nat} {vs l : List Value} (h : Cells w G l) (hne : G ≠ R) : Cells (w.setCells R o vs) G l := ⟨by rw [size_setCellsN]; exact h.1, fun j u hu => (World.cell?_of_block (heap_stored hne vs o w)).trans (h.2 j u hu)⟩
/-- the first cells of the block that a pointer names -/
def CelW (vs : List Value) (v : Value) (wt : World) : Prop := ∃ C, v = .pointer (some ⟨C, 0, none⟩) ∧ Cells wt C vs
/-- nothing that was there has changed, or these cells have been stored at the head of a block behind B -/
def OneR (B : Nat) (vs : List Value) (w w' : World) : Prop := Below w.heap.size w w' ∨ ∃ g zs, B ≤ g ∧ g < w.heap.size ∧ zs.length = vs.length ∧ Row w g zs ∧ w' = w.setCells g 0 vs
theorem OneR.refl {B : Nat} {vs : List Value} {w : World} : OneR B vs w w := .inl (Below.refl _ _)
theorem OneR.size {B : Nat} {vs : List Value} {w w' : World} (h : OneR B vs w w') : w.heap.size ≤ w'.heap.size := by
 rcases h with h | ⟨g, zs, _, _, _, _, rfl⟩
 ·exact h.size
 ·rw [size_setCellsN]; exact Nat.le_refl _
theorem row_all {w : World} {g : Nat} {vs zs : List Value} (h : Row w g zs) (hl : zs.length = vs.length) : Row (w.setCells g 0 vs) g vs := by
 have := row_stored vs 0 w zs h (by omega)
 rw [List.drop_of_length_le (by omega)] at this
 simpa using this
theorem NewW.one {N B : Nat} {v : Value} {vs : List Value} {w w' : World} (h : NewW N vs.length v w) (hb : OneR B vs w w') : NewW N vs.length v w' := by
 rcases hb with hb | ⟨g, zg, _, hg, hl, hz, rfl⟩
 ·exact h.below hb
 ·obtain ⟨C, h1, h2, h3, zs, h4, h5⟩ := h
  by_cases e : C = g
  ·subst e
   exact ⟨C, h1, h2, by rw [size_setCellsN]; exact h3, vs, rfl, row_all hz hl⟩
  ·exact ⟨C, h1, h2, by rw [size_setCellsN]; exact h3, zs, h4, h5.stored e⟩
theorem CelW.one {B : Nat} {v : Value} {vs : List Value} {w w' : World} (h : CelW vs v w) (hb : OneR B vs w w') : CelW vs v w' := by
 obtain ⟨C, h1, h2⟩ := h
 rcases hb with hb | ⟨g, zg, _, hg, hl, hz, rfl⟩
 ·exact ⟨C, h1, h2.below hb⟩
 ·refine ⟨C, h1, ?_⟩
  by_cases e : C = g
  ·subst e
   exact row_cells (row_all hz hl) (by rw [size_setCellsN]; exact hg)
  ·exact h2.stored e
theorem slips_low {b : Bk} (h : b.ok = true) : 0 ≤ b.ear.slips := by
 unfold Bk.ok Ear.ok at h
 simp only [Bool.and_eq_true, decide_eq_true_eq] at h
 omega
theorem can_parts {b : Bk} {x y : NLn} : canL b x y = (!(x.book == y.book) && (heardB b x y && !offB b x y)) := by
 unfold canL
 cases heardB b x y <;> cases offB b x y <;> cases (x.book == y.book) <;> rfl
section
variable (A : Option Addr) (cap : Nat) (L : Option Addr) (lcap : Nat) (b : Bk)
set_option maxRecDepth 100000 in
set_option maxHeartbeats 2000000 in
theorem rcan_any (i k : Nat) (w : World) (hi : i < b.lines.length) (hk : k < b.lines.length) (hM : BkAt w A L b) (hs : b.small cap lcap) (ho : b.ok = true) (hz : ∀ i (h : i < b.ear.alike.length), b.ear.alike[i].size ≤ 9223372036854775807) : Calls Tryz.prog 31 #[.agg (bkV A cap L lcap b).toArray, .int .i64 i, .int .i64 k] w fun e w' => e = .returned (.bool (canL b (b.lines.getD i zeroLn) (b.lines.getD k zeroLn))) ∧ Below w.heap.size w w' := by
 have hmi := ok_minutes ho i hi
 have hmk := ok_minutes ho k hk
 have ei : b.lines.getD i zeroLn = b.lines[i] := by rw [List.getD_eq_getElem?_getD]; simp [hi]
 have ek : b.lines.getD k zeroLn = b.lines[k] := by rw [List.getD_eq_getElem?_getD]; simp [hk]
 rw [ei, ek]
 clear ei ek
 obtain ⟨s1, s2, s3, s4, s5, s6⟩ := hs
 have hsi := s6 i hi
 have hsk := s6 k hk
 obtain ⟨bl, ol, hL, hbl, x0, x1, x2⟩ := hM.2.nl hi
 obtain ⟨bl', ol', hL', _, y0, y1, y2⟩ := hM.2.nl hk
 rw [hL] at hL'
 cases hL'
 subst hL
 have CA := hid fun W (hW : Below w.heap.size w W) (x y : NLn) (hx : x.heard.size ≤ 9223372036854775807) (hy : y.heard.size ≤ 9223372036854775807) => rapart_any A cap b.ear.alike b.ear.mute b.ear.slips x.heard y.heard W (hM.below hW).1 s2 hz s5 hx hy
 have hiI : (i : Int) < b.lines.length := by omega
 have hkI : (k : Int) < b.lines.length := by omega
 obtain ⟨X, hX⟩ : ∃ X, b.lines[i] = X := ⟨_, rfl⟩
 obtain ⟨Y, hY⟩ : ∃ Y, b.lines[k] = Y := ⟨_, rfl⟩
 rw [hX] at hmi x0 x1 x2 hsi ⊢
 rw [hY] at hmk y0 y1 y2 hsk ⊢
 clear hX hY hz s6
 have hsl := slips_low ho
 have HP := hid (can_parts (b := b) (x := X) (y := Y))
 obtain ⟨xb, xm, xs⟩ := X
 obtain ⟨yb, ym, ys⟩ := Y
 simp only at x0 x1 x2 y0 y1 y2 hmi hmk hsi hsk
 obtain ⟨hm1, hm2⟩ := hmi
 obtain ⟨hm3, hm4⟩ := hmk
 have C1 := hid fun W hW => CA.out W hW ⟨xb, xm, xs⟩ ⟨yb, ym, ys⟩ hsi hsk
 obtain ⟨ap, hap⟩ : ∃ ap, rapR b.ear.alike b.ear.slips (keptL b.ear.mute xs.data.toList) (keptL b.ear.mute ys.data.toList) = ap := ⟨_, rfl⟩
 have HA : Hid (heardB b ⟨xb, xm, xs⟩ ⟨yb, ym, ys⟩ = decide (0 ≤ ap)) := hid (by
  rw [← hap]
  unfold heardB rapR
  cases h : (apR b.ear.alike b.ear.slips (keptL b.ear.mute xs.data.toList) (keptL b.ear.mute ys.data.toList)).2
  ·simp [h]
  ·have := (ap_range b.ear.alike hsl (keptL b.ear.mute xs.data.toList) (keptL b.ear.mute ys.data.toList)).1
   simpa using this)
 simp only [hap] at C1
 clear hap CA
 simp only [bkV]
 refine enterE Tryz.func31 rfl Tryz.ntmps31 (by simp) (fun a hE => ?_); simp only [envOf, Nat.zero_add, Nat.reduceAdd] at hE
 refine Ks ?_
 refine Rs 2 fun Q' K hK => ?_
 refine M1 hE 0 fun K' J ρ q0 => ?_; go_simp
 refine Ln hE J fun _ Eb => ?_; clear J K' hE a q0
 refine M0 fun K' J ρ => ?_; go_simp;
 refine Ln Eb J fun _ Ea => ?_; clear J K' Eb
 refine Ld [1, 2, 3] Ea hK fun a hE => ?_; clear hK K Q' Ea
 obtain ⟨B, hBe⟩ : ∃ B, B = w.heap.size := ⟨_, rfl⟩; rw [← hBe] at hE; refine world_cut (fun wt => Below w.heap.size w wt ∧ Cells wt B (bkV A cap (some ⟨bl, ol, none⟩) lcap b)) ⟨(Below.refl _ _).alloc (Nat.le_refl _) _, by rw [hBe]; exact cells_new _ _ _⟩ (fun w1 hCut => ?_); obtain ⟨hbw1, hCB⟩ := hCut; clear hBe
 simp only [bkV] at hCB
 have hbl1 : bl < w1.heap.size := Nat.lt_of_lt_of_le hbl hbw1.size
 have hc1 := hid (bcell hbw1).1
 have k0 := (hc1.out bl (ol + i * 3) hbl).trans x0
 have k1 := (hc1.out bl (ol + i * 3 + 1) hbl).trans x1
 have k2 := (hc1.out bl (ol + i * 3 + 2) hbl).trans x2
 have l0 := (hc1.out bl (ol + k * 3) hbl).trans y0
 have l1 := (hc1.out bl (ol + k * 3 + 1) hbl).trans y1
 have l2 := (hc1.out bl (ol + k * 3 + 2) hbl).trans y2
 clear x0 x1 x2 y0 y1 y2
 obtain ⟨nB, cB0, cB1, cB2, cB3, cB4, cB5, cB6⟩ := hCB.c7
 refine Ks ?_
 refine region_drawn_new [13] [(10, 7), (11, 8)] [(12, 7, CelW [.int .i64 xb, .int .i64 xm, .string xs])] (fun wt => Below w1.heap.size w1 wt) (OneR w1.heap.size [.int .i64 xb, .int .i64 xm, .string xs]) [(0, some 9), (1, some 10), (2, some 11), (3, some 12), (4, some 13), (5, some 14), (6, some 15), (7, some 16), (8, some 17), (9, some 18), (10, some 7), (11, some 8), (12, none)] [9, 10, 11, 12, 13, 14, 15, 16, 17, 18, 7, 8] #[true, true, true, true, true, true, true, true, true, true, true, true, true, false] [3] hE ((Below.refl _ _).drew) (fun _ _ h => h.size) (List.forall_mem_cons.2 ⟨fun _ _ _ hb h => h.one hb, fun _ h => absurd h List.not_mem_nil⟩) (fun Q' K hK => ?_)
 refine SeqN.val ?_ (Sp fun ax wx hS hT' hd K' J => ?_) ?_; rotate_left 1
 ·have r3 := hS.at 3 (by decide) (hE.at 3 rfl); obtain ⟨_, _, _, _, _, _⟩ := bT hT'
  refine o1 r3 fun ρ q3 => ?_; go_simp;
  refine J.out _ _ _ rfl ?_ hT' (OneR.refl); rfl
 refine SeqN.val ?_ (Sp fun ax wx hS hT' hd K' J => ?_) ?_; rotate_left 1
 ·have r9 := Tv hd 0 0 9; obtain ⟨_, _, _, _, _, _⟩ := bT hT'
  refine o1 r9 fun ρ q9 => ?_; go_simp;
  refine J.out _ _ _ rfl ?_ hT' (OneR.refl); rfl
 refine SeqN.val ?_ (Sp fun ax wx hS hT' hd K' J => ?_) ?_; rotate_left 1
 ·have r1 := hS.at 1 (by decide) (hE.at 1 rfl); obtain ⟨_, _, _, _, _, _⟩ := bT hT'
  refine o1 r1 fun ρ q1 => ?_; go_simp;
  refine J.out _ _ _ rfl ?_ hT' (OneR.refl); rfl
 refine SeqN.val ?_ (Sp fun ax wx hS hT' hd K' J => ?_) ?_; rotate_left 1
 ·have r10 := Tv hd 1 1 10; have r11 := Tv hd 0 2 11; obtain ⟨_, _, _, _, _, _⟩ := bT hT'
  refine o2 r10 r11 fun ρ q10 q11 => ?_; go_simp; (try go_bits);
  refine J.out _ _ _ rfl ?_ hT' (OneR.refl); rfl
 refine SeqN.val ?_ (Sp fun ax wx hS hT' hd K' J => ?_) ?_; rotate_left 1
 ·have r12 := Tv hd 0 3 12; obtain ⟨_, _, _, _, _, _⟩ := bT hT'
  refine o1 r12 fun ρ q12 => ?_; go_simp;
  refine J.out _ _ _ rfl ?_ hT' (OneR.refl); rfl
 refine SeqN.val ?_ (Sp fun ax wx hS hT' hd K' J => ?_) ?_; rotate_left 1
 ·have r3 := hS.at 3 (by decide) (hE.at 3 rfl); obtain ⟨_, _, _, _, _, _⟩ := bT hT'
  refine o1 r3 fun ρ q3 => ?_; go_simp;
  refine J.out _ _ _ rfl ?_ hT' (OneR.refl); rfl
 refine SeqN.val ?_ (Sp fun ax wx hS hT' hd K' J => ?_) ?_; rotate_left 1
 ·have r14 := Tv hd 0 5 14; obtain ⟨_, _, _, _, _, _⟩ := bT hT'
  refine o1 r14 fun ρ q14 => ?_; go_simp;
  refine J.out _ _ _ rfl ?_ hT' (OneR.refl); rfl
 refine SeqN.val ?_ (Sp fun ax wx hS hT' hd K' J => ?_) ?_; rotate_left 1
 ·have r2 := hS.at 2 (by decide) (hE.at 2 rfl); obtain ⟨_, _, _, _, _, _⟩ := bT hT'
  refine o1 r2 fun ρ q2 => ?_; go_simp;
  refine J.out _ _ _ rfl ?_ hT' (OneR.refl); rfl
 refine SeqN.val ?_ (Sp fun ax wx hS hT' hd K' J => ?_) ?_; rotate_left 1
 ·have r15 := Tv hd 1 6 15; have r16 := Tv hd 0 7 16; obtain ⟨_, _, _, _, _, _⟩ := bT hT'
  refine o2 r15 r16 fun ρ q15 q16 => ?_; go_simp; (try go_bits);
  refine J.out _ _ _ rfl ?_ hT' (OneR.refl); rfl
 refine SeqN.val ?_ (Sp fun ax wx hS hT' hd K' J => ?_) ?_; rotate_left 1
 ·have r17 := Tv hd 0 8 17; obtain ⟨_, _, _, _, _, _⟩ := bT hT'
  refine o1 r17 fun ρ q17 => ?_; go_simp;
  refine J.out _ _ _ rfl ?_ hT' (OneR.refl); rfl
 refine SeqN.new (NewW w1.heap.size 3) (fun _ _ _ hb h => h.one hb) (StepNew.plain (by (first | (simp only [List.getElem?_toArray, List.getElem?_cons_succ, List.getElem?_cons_zero]; rfl) | rfl)) rfl (fun ax wx hS hT' hd K' J => ?_)) ?_
 ·obtain ⟨_, _, _, _, _, _⟩ := bT hT'
  refine o0 fun ρ => ?_; go_simp;
  exact J.out _ _ _ rfl ⟨_, rfl, hT'.size, by simp, _, rfl, row_new _ _ _⟩ (hT'.alloc hT'.size _) (.inl ((Below.refl _ _).alloc (Nat.le_refl _) _)) (Nat.le_refl _) (by simp [blkV])
 refine SeqN.new (NewW w1.heap.size 3) (fun _ _ _ hb h => h.one hb) (StepNew.plain (by (first | (simp only [List.getElem?_toArray, List.getElem?_cons_succ, List.getElem?_cons_zero]; rfl) | rfl)) rfl (fun ax wx hS hT' hd K' J => ?_)) ?_
 ·obtain ⟨_, _, _, _, _, _⟩ := bT hT'
  refine o0 fun ρ => ?_; go_simp;
  exact J.out _ _ _ rfl ⟨_, rfl, hT'.size, by simp, _, rfl, row_new _ _ _⟩ (hT'.alloc hT'.size _) (.inl ((Below.refl _ _).alloc (Nat.le_refl _) _)) (Nat.le_refl _) (by simp [blkV])
 refine SeqN.mem 7 _ (by first | exact List.mem_cons_self .. | exact List.mem_cons_of_mem _ (List.mem_cons_self ..)) (StepMem.plain (by (first | (simp only [List.getElem?_toArray, List.getElem?_cons_succ, List.getElem?_cons_zero]; rfl) | rfl)) rfl (fun ax wx hS hT' hd K' J => ?_)) ?_
 ·obtain ⟨v7, r7, h7⟩ := Tg hd 1 10 7; obtain ⟨C7, rfl, n7, l7, z7, e7, R7⟩ := h7; have r13 := Tv hd 7 4 13; obtain ⟨_, _, _, _, _, _⟩ := bT hT'
  refine wp_store_mid 65 (.tmp 7) (.tmp 13) rfl C7 0 #[.int .i64 xb, .int .i64 xm, .string xs] (eval_of r7) (eval_of r13) (there_row R7 (by rw [e7]; exact Nat.le_refl _)) (by kernel_rfl) (by kernel_rfl) ?_
  obtain ⟨q1, q2, _, _⟩ := cells_stored R7 (vs := [.int .i64 xb, .int .i64 xm, .string xs]) (by rw [e7]; rfl) l7 n7 hT'
  exact J.out _ _ _ rfl r7 ⟨C7, rfl, q1⟩ q2 (.inr ⟨C7, z7, n7, l7, by rw [e7]; rfl, R7, rfl⟩)
 refine SeqN.nil ?_
 intro w2 hBl; refine ek_N ?_; refine ek_N ?_; refine ek_N ?_; refine ek_N ?_; refine ek_N ?_; refine ek_N ?_; refine ek_N ?_; refine ek_N ?_; refine ek_N ?_; refine ek_N ?_; (refine fun v h => ?_; obtain ⟨C7, rfl, n7, l7, z7, e7, R7⟩ := h); (refine fun v h => ?_; obtain ⟨C8, rfl, n8, l8, z8, e8, R8⟩ := h)
 refine fun ax hEx hNe hMe => ?_
 have ne7_8 := hNe (10, 7) (by decide) (11, 8) (by decide) (by decide) _ _ (hEx.at 7 rfl) (hEx.at 8 rfl); simp only [blkV] at ne7_8
 obtain ⟨vm, hvm, hM12⟩ := hMe _ (by first | exact List.mem_cons_self .. | exact List.mem_cons_of_mem _ (List.mem_cons_self ..) : (12, 7, CelW [.int .i64 xb, .int .i64 xm, .string xs]) ∈ _); obtain rfl := Option.some.inj (hvm.symm.trans (hEx.at 7 rfl)); clear hvm
 clear hNe hMe
 simp only [lk, pick, Nat.reduceEqDiff, ↓reduceIte] at hEx
 refine Lp fun K' J => ?_
 have r8 := hEx.at 8 rfl; have r18 := hEx.at 18 rfl
 refine wp_store_mid 65 (.tmp 8) (.tmp 18) rfl C8 0 #[.int .i64 yb, .int .i64 ym, .string ys] (eval_of r8) (eval_of r18) (there_row R8 (by rw [e8]; exact Nat.le_refl _)) (by kernel_rfl) (by kernel_rfl) ?_
 (try clear r8 r18)
 refine late_skip hEx J (fun _ Eb => ?_); clear J K'; clear hEx
 refine Ld [3, 7, 8] Eb hK fun a hE => ?_; clear hK K Q' Eb
 obtain ⟨_, eM, hM7⟩ := hM12
 cases eM
 refine world_cut (fun wt => Cells wt C7 [.int .i64 xb, .int .i64 xm, .string xs] ∧ Cells wt C8 [.int .i64 yb, .int .i64 ym, .string ys] ∧ Below w1.heap.size w1 wt) ?_ (fun w3 hC => ?_)
 ·obtain ⟨p1, p2, _, _⟩ := cells_stored R8 (vs := [.int .i64 yb, .int .i64 ym, .string ys]) (by rw [e8]; rfl) l8 n8 hBl
  exact ⟨hM7.stored ne7_8, p1, p2⟩
 obtain ⟨hCC7, hCC8, h3⟩ := hC
 have hb3 := hbw1.trans (h3.mono hbw1.size)
 replace hCB := hCB.below h3
 clear hM7; clear nB cB0 cB1 cB2 cB3 cB4 cB5 cB6 R7 R8 e7 e8 z7 z8 k0 k1 k2 l0 l1 l2 hBl
 obtain ⟨nB, cB0, cB1, cB2, cB3, cB4, cB5, cB6⟩ := hCB.c7
 have hCX := hCC7
 have hCY := hCC8
 clear hCC7 hCC8 ne7_8
 obtain ⟨nX, cX0, cX1, cX2⟩ := hCX.c3
 obtain ⟨nY, cY0, cY1, cY2⟩ := hCY.c3
 refine Ks ?_
 by_cases heq : xb = yb
 ·have HQ := hid heq
  refine Rs 32 fun Q' K hK => ?_
  refine M1 hE 7 fun K' J ρ q7 => ?_; go_simp
  refine Ln hE J fun _ Eb => ?_; clear J K' hE a q7
  refine M1 Eb 19 fun K' J ρ q19 => ?_; go_simp
  refine Ln Eb J fun _ Ea => ?_; clear J K' Eb q19
  refine M1 Ea 8 fun K' J ρ q8 => ?_; go_simp
  refine Ln Ea J fun _ Eb => ?_; clear J K' Ea q8
  refine M1 Eb 21 fun K' J ρ q21 => ?_; go_simp
  refine Ln Eb J fun _ Ea => ?_; clear J K' Eb q21
  refine M2 Ea 20 22 fun K' J ρ q20 q22 => ?_; go_simp; (try go_bits)
  refine Ln Ea J fun _ Eb => ?_; clear J K' Ea q20 q22
  replace Eb := Eb.turn 23 (v' := .bool false) rfl (by simp [HQ.out])
  refine M1 Eb 23 fun K' J ρ q23 => ?_; go_simp
  refine Ln Eb J fun _ Ea => ?_; clear J K' Eb q23
  refine Lno Ea 24 ?_
  refine Lu Ea fun _ Eb => ?_
  refine Lno Eb 24 ?_
  refine Lu Eb fun _ Ea => ?_
  refine Lno Ea 24 ?_
  refine Lu Ea fun _ Eb => ?_
  refine Lno Eb 24 ?_
  refine Lu Eb fun _ Ea => ?_
  refine Lno Ea 24 ?_
  refine Lu Ea fun _ Eb => ?_
  refine Lno Eb 24 ?_
  refine Lu Eb fun _ Ea => ?_
  refine Lno Ea 24 ?_
  refine Lu Ea fun _ Eb => ?_
  refine Lno Eb 24 ?_
  refine Lu Eb fun _ Ea => ?_
  refine M2 Ea 24 32 fun K' J ρ q24 q32 => ?_; go_simp; (try go_bits)
  refine Ln Ea J fun _ Eb => ?_; clear J K' Ea q24 q32
  refine M1 Eb 33 fun K' J ρ q33 => ?_; go_simp
  refine Ln Eb J fun _ Ea => ?_; clear J K' Eb q33
  refine Lno Ea 34 ?_
  refine Lu Ea fun _ Eb => ?_
  refine Lno Eb 34 ?_
  refine Lu Eb fun _ Ea => ?_
  refine Lno Ea 34 ?_
  refine Lu Ea fun _ Eb => ?_
  refine Lno Eb 34 ?_
  refine Lu Eb fun _ Ea => ?_
  refine Lno Ea 34 ?_
  refine Lu Ea fun _ Eb => ?_
  refine Lno Eb 34 ?_
  refine Lu Eb fun _ Ea => ?_
  refine Lno Ea 34 ?_
  refine Lu Ea fun _ Eb => ?_
  refine Lno Eb 34 ?_
  refine Lu Eb fun _ Ea => ?_
  refine Lno Ea 34 ?_
  refine Lu Ea fun _ Eb => ?_
  refine Lno Eb 34 ?_
  refine Lu Eb fun _ Ea => ?_
  refine Lno Ea 34 ?_
  refine Lu Ea fun _ Eb => ?_
  refine Lno Eb 34 ?_
  refine Lu Eb fun _ Ea => ?_
  refine Lno Ea 34 ?_
  refine Lu Ea fun _ Eb => ?_
  refine Lno Eb 34 ?_
  refine Lu Eb fun _ Ea => ?_
  refine M2 Ea 34 48 fun K' J ρ q34 q48 => ?_; go_simp; (try go_bits)
  refine Ln Ea J fun _ Eb => ?_; clear J K' Ea q34 q48
  refine M1 Eb 49 fun K' J ρ q49 => ?_; go_simp
  refine Ln Eb J fun _ Ea => ?_; clear J K' Eb q49
  refine Ld [6] Ea hK fun a hE => ?_; clear hK K Q' Ea
  refine Ks ?_
  exact ret_one hE rfl rfl ⟨by rw [HP.out]; simp [HQ.out], hb3⟩
 ·have HQ := hid heq
  clear heq
  by_cases hap : 0 ≤ ap
  ·have HH := hid hap
   clear hap
   refine Rs 32 fun Q' K hK => ?_
   refine M1 hE 7 fun K' J ρ q7 => ?_; go_simp
   refine Ln hE J fun _ Eb => ?_; clear J K' hE a q7
   refine M1 Eb 19 fun K' J ρ q19 => ?_; go_simp
   refine Ln Eb J fun _ Ea => ?_; clear J K' Eb q19
   refine M1 Ea 8 fun K' J ρ q8 => ?_; go_simp
   refine Ln Ea J fun _ Eb => ?_; clear J K' Ea q8
   refine M1 Eb 21 fun K' J ρ q21 => ?_; go_simp
   refine Ln Eb J fun _ Ea => ?_; clear J K' Eb q21
   refine M2 Ea 20 22 fun K' J ρ q20 q22 => ?_; go_simp; (try go_bits)
   refine Ln Ea J fun _ Eb => ?_; clear J K' Ea q20 q22
   replace Eb := Eb.turn 23 (v' := .bool true) rfl (by simp [HQ.out])
   refine M1 Eb 23 fun K' J ρ q23 => ?_; go_simp
   refine Ln Eb J fun _ Ea => ?_; clear J K' Eb q23
   refine N1 Ea 24 3 fun K' J ρ q3 => ?_; go_simp
   refine Ln Ea J fun _ Eb => ?_; clear J K' Ea q3
   refine N1 Eb 24 25 fun K' J ρ q25 => ?_; go_simp
   refine Ln Eb J fun _ Ea => ?_; clear J K' Eb q25
   refine N1 Ea 24 7 fun K' J ρ q7 => ?_; go_simp
   refine Ln Ea J fun _ Eb => ?_; clear J K' Ea q7
   refine N1 Eb 24 27 fun K' J ρ q27 => ?_; go_simp
   refine Ln Eb J fun _ Ea => ?_; clear J K' Eb q27
   refine N1 Ea 24 8 fun K' J ρ q8 => ?_; go_simp
   refine Ln Ea J fun _ Eb => ?_; clear J K' Ea q8
   refine N1 Eb 24 29 fun K' J ρ q29 => ?_; go_simp
   refine Ln Eb J fun _ Ea => ?_; clear J K' Eb q29
   refine N3 Ea 24 26 28 30 fun K' J ρ q26 q28 q30 => ?_; go_simp; (try go_bits); (try clear q26 q28 q30)
   go_at_call 66; refine (C1.out _ hb3).mono ?_; rintro e w4 ⟨rfl, h4⟩; replace hCB := hCB.below h4; replace hCX := hCX.below h4; replace hCY := hCY.below h4; clear nB cB0 cB1 cB2 cB3 cB4 cB5 cB6 nX cX0 cX1 cX2 nY cY0 cY1 cY2; obtain ⟨nB, cB0, cB1, cB2, cB3, cB4, cB5, cB6⟩ := hCB.c7; obtain ⟨nX, cX0, cX1, cX2⟩ := hCX.c3; obtain ⟨nY, cY0, cY1, cY2⟩ := hCY.c3
   (try clear r26 r28 r30)
   refine Ln Ea J fun _ Eb => ?_; clear J K' Ea
   refine N1 Eb 24 31 fun K' J ρ q31 => ?_; go_simp; (try go_bits)
   refine Ln Eb J fun _ Ea => ?_; clear J K' Eb q31
   replace Ea := Ea.turn 32 (v' := .bool true) rfl (by simp [HH.out])
   refine M2 Ea 24 32 fun K' J ρ q24 q32 => ?_; go_simp; (try go_bits)
   refine Ln Ea J fun _ Eb => ?_; clear J K' Ea q24 q32
   refine M1 Eb 33 fun K' J ρ q33 => ?_; go_simp
   refine Ln Eb J fun _ Ea => ?_; clear J K' Eb q33
   refine N1 Ea 34 7 fun K' J ρ q7 => ?_; go_simp
   refine Ln Ea J fun _ Eb => ?_; clear J K' Ea q7
   refine N1 Eb 34 35 fun K' J ρ q35 => ?_; go_simp
   refine Ln Eb J fun _ Ea => ?_; clear J K' Eb q35
   refine N1 Ea 34 8 fun K' J ρ q8 => ?_; go_simp
   refine Ln Ea J fun _ Eb => ?_; clear J K' Ea q8
   refine N1 Eb 34 37 fun K' J ρ q37 => ?_; go_simp
   refine Ln Eb J fun _ Ea => ?_; clear J K' Eb q37
   refine N2 Ea 34 36 38 fun K' J ρ q36 q38 => ?_; go_simp; (try go_bits); (try simp (disch := omega) only [IntWalk.i64_in])
   refine Ln Ea J fun _ Eb => ?_; clear J K' Ea q36 q38
   refine N1 Eb 34 8 fun K' J ρ q8 => ?_; go_simp
   refine Ln Eb J fun _ Ea => ?_; clear J K' Eb q8
   refine N1 Ea 34 40 fun K' J ρ q40 => ?_; go_simp
   refine Ln Ea J fun _ Eb => ?_; clear J K' Ea q40
   refine N1 Eb 34 7 fun K' J ρ q7 => ?_; go_simp
   refine Ln Eb J fun _ Ea => ?_; clear J K' Eb q7
   refine N1 Ea 34 42 fun K' J ρ q42 => ?_; go_simp
   refine Ln Ea J fun _ Eb => ?_; clear J K' Ea q42
   refine N2 Eb 34 41 43 fun K' J ρ q41 q43 => ?_; go_simp; (try go_bits); (try simp (disch := omega) only [IntWalk.i64_in])
   refine Ln Eb J fun _ Ea => ?_; clear J K' Eb q41 q43
   refine N2 Ea 34 39 44 fun K' J ρ q39 q44 => ?_; go_simp; (try go_bits)
   refine Ln Ea J fun _ Eb => ?_; clear J K' Ea q39 q44
   refine N1 Eb 34 3 fun K' J ρ q3 => ?_; go_simp
   refine Ln Eb J fun _ Ea => ?_; clear J K' Eb q3
   refine N1 Ea 34 46 fun K' J ρ q46 => ?_; go_simp
   refine Ln Ea J fun _ Eb => ?_; clear J K' Ea q46
   refine N2 Eb 34 45 47 fun K' J ρ q45 q47 => ?_; go_simp; (try go_bits); (try clear q45 q47)
   go_at_call 67; refine (in_any _ _ _ _).mono ?_; rintro e w5 ⟨rfl, h5⟩
   (try clear r45 r47)
   refine Ln Eb J fun _ Ea => ?_; clear J K' Eb
   refine M2 Ea 34 48 fun K' J ρ q34 q48 => ?_; go_simp; (try go_bits)
   refine Ln Ea J fun _ Eb => ?_; clear J K' Ea q34 q48
   refine M1 Eb 49 fun K' J ρ q49 => ?_; go_simp
   refine Ln Eb J fun _ Ea => ?_; clear J K' Eb q49
   refine Ld [6] Ea hK fun a hE => ?_; clear hK K Q' Ea
   refine Ks ?_
   refine ret_one hE rfl rfl ⟨?_, hb3.trans ((h4.trans (h5.mono h4.size)).mono hb3.size)⟩
   rw [HP.out, HA.out]
   unfold offB
   have e1 : (xb == yb) = false := by simpa using HQ.out
   have e2 : decide (0 ≤ ap) = true := decide_eq_true HH.out
   simp only [e1, e2, Int.neg_sub, Bool.not_false, Bool.true_and, Bool.not_not]
  ·have HH := hid hap
   clear hap
   refine Rs 32 fun Q' K hK => ?_
   refine M1 hE 7 fun K' J ρ q7 => ?_; go_simp
   refine Ln hE J fun _ Eb => ?_; clear J K' hE a q7
   refine M1 Eb 19 fun K' J ρ q19 => ?_; go_simp
   refine Ln Eb J fun _ Ea => ?_; clear J K' Eb q19
   refine M1 Ea 8 fun K' J ρ q8 => ?_; go_simp
   refine Ln Ea J fun _ Eb => ?_; clear J K' Ea q8
   refine M1 Eb 21 fun K' J ρ q21 => ?_; go_simp
   refine Ln Eb J fun _ Ea => ?_; clear J K' Eb q21
   refine M2 Ea 20 22 fun K' J ρ q20 q22 => ?_; go_simp; (try go_bits)
   refine Ln Ea J fun _ Eb => ?_; clear J K' Ea q20 q22
   replace Eb := Eb.turn 23 (v' := .bool true) rfl (by simp [HQ.out])
   refine M1 Eb 23 fun K' J ρ q23 => ?_; go_simp
   refine Ln Eb J fun _ Ea => ?_; clear J K' Eb q23
   refine N1 Ea 24 3 fun K' J ρ q3 => ?_; go_simp
   refine Ln Ea J fun _ Eb => ?_; clear J K' Ea q3
   refine N1 Eb 24 25 fun K' J ρ q25 => ?_; go_simp
   refine Ln Eb J fun _ Ea => ?_; clear J K' Eb q25
   refine N1 Ea 24 7 fun K' J ρ q7 => ?_; go_simp
   refine Ln Ea J fun _ Eb => ?_; clear J K' Ea q7
   refine N1 Eb 24 27 fun K' J ρ q27 => ?_; go_simp
   refine Ln Eb J fun _ Ea => ?_; clear J K' Eb q27
   refine N1 Ea 24 8 fun K' J ρ q8 => ?_; go_simp
   refine Ln Ea J fun _ Eb => ?_; clear J K' Ea q8
   refine N1 Eb 24 29 fun K' J ρ q29 => ?_; go_simp
   refine Ln Eb J fun _ Ea => ?_; clear J K' Eb q29
   refine N3 Ea 24 26 28 30 fun K' J ρ q26 q28 q30 => ?_; go_simp; (try go_bits); (try clear q26 q28 q30)
   go_at_call 66; refine (C1.out _ hb3).mono ?_; rintro e w4 ⟨rfl, h4⟩
   (try clear r26 r28 r30)
   refine Ln Ea J fun _ Eb => ?_; clear J K' Ea
   refine N1 Eb 24 31 fun K' J ρ q31 => ?_; go_simp; (try go_bits)
   refine Ln Eb J fun _ Ea => ?_; clear J K' Eb q31
   replace Ea := Ea.turn 32 (v' := .bool false) rfl (by simp [HH.out])
   refine M2 Ea 24 32 fun K' J ρ q24 q32 => ?_; go_simp; (try go_bits)
   refine Ln Ea J fun _ Eb => ?_; clear J K' Ea q24 q32
   refine M1 Eb 33 fun K' J ρ q33 => ?_; go_simp
   refine Ln Eb J fun _ Ea => ?_; clear J K' Eb q33
   refine Lno Ea 34 ?_
   refine Lu Ea fun _ Eb => ?_
   refine Lno Eb 34 ?_
   refine Lu Eb fun _ Ea => ?_
   refine Lno Ea 34 ?_
   refine Lu Ea fun _ Eb => ?_
   refine Lno Eb 34 ?_
   refine Lu Eb fun _ Ea => ?_
   refine Lno Ea 34 ?_
   refine Lu Ea fun _ Eb => ?_
   refine Lno Eb 34 ?_
   refine Lu Eb fun _ Ea => ?_
   refine Lno Ea 34 ?_
   refine Lu Ea fun _ Eb => ?_
   refine Lno Eb 34 ?_
   refine Lu Eb fun _ Ea => ?_
   refine Lno Ea 34 ?_
   refine Lu Ea fun _ Eb => ?_
   refine Lno Eb 34 ?_
   refine Lu Eb fun _ Ea => ?_
   refine Lno Ea 34 ?_
   refine Lu Ea fun _ Eb => ?_
   refine Lno Eb 34 ?_
   refine Lu Eb fun _ Ea => ?_
   refine Lno Ea 34 ?_
   refine Lu Ea fun _ Eb => ?_
   refine Lno Eb 34 ?_
   refine Lu Eb fun _ Ea => ?_
   refine M2 Ea 34 48 fun K' J ρ q34 q48 => ?_; go_simp; (try go_bits)
   refine Ln Ea J fun _ Eb => ?_; clear J K' Ea q34 q48
   refine M1 Eb 49 fun K' J ρ q49 => ?_; go_simp
   refine Ln Eb J fun _ Ea => ?_; clear J K' Eb q49
   refine Ld [6] Ea hK fun a hE => ?_; clear hK K Q' Ea
   refine Ks ?_
   exact ret_one hE rfl rfl ⟨by rw [HP.out, HA.out]; simp [HH.out], hb3.trans (h4.mono hb3.size)⟩
end
end Go.Proofs.YtbimkcjdodgojaaGreat
