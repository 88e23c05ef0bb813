/- Name: Kind. -/
import Derived.Test.YtbimkcjdodgojaaGreatKBNbd
import Derived.Test.YtbimkcjdodgojaaGreatKBJ
import Derived.Test.YtbimkcjdodgojaaGreatKBYm

namespace Go.Proofs.YtbimkcjdodgojaaGreat
set_option linter.unusedSimpArgs false
set_option linter.unusedVariables false
open Go Go.RowKit
attribute [local go_sem high] cell_set_wr
attribute [local go_sem low] cell_wr frozen_wr
attribute [local go_sem] wr_set wr_drew wr_drewN wr_alloc wr_new Rho.c Rho.n Rho.g
section
variable (A : Option Addr) (cap : Nat) (L : Option Addr) (lcap : Nat) (b : Bk)
/-- eighteen cells with the counts of a book -/
def OkM (W : World) (vs : List Value) : Prop := ∃ (u0 u1 u2 u3 u4 u5 u6 u7 u8 : Value) (T : Option Addr) (c Mb : Nat), vs = talV A cap L lcap b u0 u1 u2 u3 u4 u5 u6 u7 u8 T b.ts.length c Mb ∧ Tal W Mb (b.ts.length * 9) (cntP b.lines.length b.ts)
variable {A cap L lcap b} in
theorem OkT.okM {N0 : Nat} {W : World} {vs : List Value} (h : OkT A cap L lcap b N0 W vs) : OkM A cap L lcap b W vs := by
 obtain ⟨f, T, c, Mb, e, _, h2, _⟩ := h
 exact ⟨_, _, _, _, _, _, _, _, _, T, c, Mb, e, h2⟩
variable {A cap L lcap b} in
theorem OkM.below {W W' : World} {vs : List Value} (h : OkM A cap L lcap b W vs) (hb : Below W.heap.size W W') : OkM A cap L lcap b W' vs := by
 obtain ⟨_, _, _, _, _, _, _, _, _, T, c, Mb, e, h2⟩ := h
 exact ⟨_, _, _, _, _, _, _, _, _, T, c, Mb, e, h2.of_block (hb.block Mb h2.lt)⟩
variable {A cap L lcap b} in
theorem OkM.stored {W W' : World} {vs : List Value} (h : OkM A cap L lcap b W vs) {R : Nat} {u : Value} (hc : W.cell? ⟨R, 0, none⟩ = some u) (hk : ∀ k, k ≠ R → W'.heap[k]? = W.heap[k]?) : OkM A cap L lcap b W' vs := by
 obtain ⟨_, _, _, _, _, _, _, _, _, T, c, Mb, e, h2⟩ := h
 refine ⟨_, _, _, _, _, _, _, _, _, T, c, Mb, e, h2.of_block (hk Mb fun e => ?_)⟩
 obtain ⟨D, ⟨es, ck, g1, _⟩, _⟩ := h2
 subst e
 simp [World.cell?, g1] at hc
variable {A cap L lcap b} in
theorem OkM.kind {W : World} {vs : List Value} (h : OkM A cap L lcap b W vs) (x y : Int) (hx : WfI x) (hy : WfI y) : Calls Tryz.prog 51 #[.agg vs.toArray, .int .i64 x, .int .i64 y] W fun e w' => e = .returned (.int .i64 (kindP (cntP b.lines.length b.ts x y) b.ts.length)) ∧ Below W.heap.size W w' := by
 obtain ⟨_, _, _, _, _, _, _, _, _, T, c, Mb, rfl, h2⟩ := h
 exact kind_any A cap L lcap b _ _ _ _ _ _ _ _ _ T _ c Mb _ _ x y W h2 hx hy
/-- what settled tells: a tuple of eighteen cells and an error -/
def SetV (A : Option Addr) (cap : Nat) (L : Option Addr) (lcap : Nat) (b : Bk) (r : Int) (v : Value) (wt : World) : Prop := ∃ vs : List Value, v = .tuple #[.agg vs.toArray, .int .i64 r] ∧ vs.length = 18 ∧ vs.toArray.all (·.oneCell') = true ∧ (r = 0 → OkM A cap L lcap b wt vs)
theorem SetV.below {A : Option Addr} {cap : Nat} {L : Option Addr} {lcap : Nat} {b : Bk} {r : Int} {v : Value} {w w' : World} (h : SetV A cap L lcap b r v w) (hb : Below w.heap.size w w') : SetV A cap L lcap b r v w' := by
 obtain ⟨vs, h1, h2, h3, h4⟩ := h
 exact ⟨vs, h1, h2, h3, fun e => (h4 e).below hb⟩
def SetA (A : Option Addr) (cap : Nat) (L : Option Addr) (lcap : Nat) (b : Bk) (r : Int) (v : Value) (wt : World) : Prop := ∃ vs : List Value, v = .agg vs.toArray ∧ vs.length = 18 ∧ vs.toArray.all (·.oneCell') = true ∧ (r = 0 → OkM A cap L lcap b wt vs)
theorem SetA.below {A : Option Addr} {cap : Nat} {L : Option Addr} {lcap : Nat} {b : Bk} {r : Int} {v : Value} {w w' : World} (h : SetA A cap L lcap b r v w) (hb : Below w.heap.size w w') : SetA A cap L lcap b r v w' := by
 obtain ⟨vs, h1, h2, h3, h4⟩ := h
 exact ⟨vs, h1, h2, h3, fun e => (h4 e).below hb⟩
/-- a new block of so many cells -/
def NewB (N n : Nat) (v : Value) (wt : World) : Prop := ∃ C, v = .pointer (some ⟨C, 0, none⟩) ∧ N ≤ C ∧ C < wt.heap.size ∧ ∀ j, j < n → Wr wt C j
theorem row_of_wr {w : World} {C : Nat} : ∀ (n : Nat), (∀ j, j < n → Wr w C j) → ∃ Z : List Value, Z.length = n ∧ Row w C Z
 | 0, _ => ⟨[], rfl, fun j u hu => by simp at hu⟩
 | n + 1, h => by
  obtain ⟨Z, hZ, hr⟩ := row_of_wr n (fun j hj => h j (by omega))
  obtain ⟨v, hv⟩ := Option.isSome_iff_exists.1 (h n (by omega)).1
  refine ⟨Z ++ [v], by simp [hZ], fun j u hu => ?_⟩
  by_cases hj : j < n
  ·rw [List.getElem?_append_left (by omega)] at hu
   exact hr j u hu
  ·have hjn : j = n := by
    have := (List.getElem?_eq_some_iff.1 hu).1
    simp [hZ] at this; omega
   subst hjn
   rw [List.getElem?_append_right (by omega), hZ] at hu
   simp at hu
   subst hu
   exact ⟨hv, h j (by omega)⟩
/-- the tally lies there -/
def StoM (A : Option Addr) (cap : Nat) (L : Option Addr) (lcap : Nat) (b : Bk) (N : Nat) (r : Int) (v : Value) (wt : World) : Prop := ∃ C vs, v = .pointer (some ⟨C, 0, none⟩) ∧ N ≤ C ∧ vs.length = 18 ∧ Cells wt C vs ∧ (r = 0 → OkM A cap L lcap b wt vs)
/-- what the statement's operations do to memory: they make new one, or lay a tally into a new block -/
def TurnB (A : Option Addr) (cap : Nat) (L : Option Addr) (lcap : Nat) (b : Bk) (N : Nat) (r : Int) (w w' : World) : Prop := Below w.heap.size w w' ∨ ∃ C vs, N ≤ C ∧ (∃ u, w.cell? ⟨C, 0, none⟩ = some u) ∧ vs.length = 18 ∧ Cells w' C vs ∧ (r = 0 → OkM A cap L lcap b w' vs) ∧ (∀ k, k ≠ C → w'.heap[k]? = w.heap[k]?) ∧ w'.heap.size = w.heap.size ∧ ∀ b o, Wr w b o → Wr w' b o
section
variable {A : Option Addr} {cap : Nat} {L : Option Addr} {lcap : Nat} {b : Bk} {N : Nat} {r : Int} {w w' : World}
theorem TurnB.refl : TurnB A cap L lcap b N r w w := .inl (Below.refl _ _)
theorem TurnB.of (h : Below w.heap.size w w') : TurnB A cap L lcap b N r w w' := .inl h
theorem SetV.turned {v : Value} (h : SetV A cap L lcap b r v w) (hb : TurnB A cap L lcap b N r w w') : SetV A cap L lcap b r v w' := by
 rcases hb with hb | ⟨C, vs, h1, ⟨u, h2⟩, h3, h4, h5, h6, h7, h8⟩
 ·exact h.below hb
 ·obtain ⟨vs, g1, g2, g3, g4⟩ := h
  exact ⟨vs, g1, g2, g3, fun e => (g4 e).stored h2 h6⟩
theorem SetA.turned {v : Value} (h : SetA A cap L lcap b r v w) (hb : TurnB A cap L lcap b N r w w') : SetA A cap L lcap b r v w' := by
 rcases hb with hb | ⟨C, vs, h1, ⟨u, h2⟩, h3, h4, h5, h6, h7, h8⟩
 ·exact h.below hb
 ·obtain ⟨vs, g1, g2, g3, g4⟩ := h
  exact ⟨vs, g1, g2, g3, fun e => (g4 e).stored h2 h6⟩
theorem NewB.turned {n : Nat} {v : Value} (h : NewB N n v w) (hb : TurnB A cap L lcap b N r w w') : NewB N n v w' := by
 obtain ⟨C, g1, g2, g3, g4⟩ := h
 rcases hb with hb | ⟨C', vs, h1, ⟨u, h2⟩, h3, h4, h5, h6, h7, h8⟩
 ·exact ⟨C, g1, g2, Nat.lt_of_lt_of_le g3 hb.size, fun j hj => wr_below (g4 j hj) hb g3⟩
 ·exact ⟨C, g1, g2, by rw [h7]; exact g3, fun j hj => h8 _ _ (g4 j hj)⟩
theorem StoM.turned {v : Value} (h : StoM A cap L lcap b N r v w) (hb : TurnB A cap L lcap b N r w w') : StoM A cap L lcap b N r v w' := by
 obtain ⟨C, vs, g1, g2, g3, g4, g5⟩ := h
 rcases hb with hb | ⟨C', vs', h1, ⟨u, h2⟩, h3, h4, h5, h6, h7, h8⟩
 ·exact ⟨C, vs, g1, g2, g3, g4.below hb, fun e => (g5 e).below hb⟩
 ·by_cases e : C = C'
  ·subst e
   exact ⟨C, vs', g1, g2, h3, h4, h5⟩
  ·exact ⟨C, vs, g1, g2, g3, ⟨by rw [h7]; exact g4.1, fun j u hu => (World.cell?_of_block (w := w) (a := ⟨C, j, none⟩) (h6 C e)).trans (g4.2 j u hu)⟩, fun e => (g5 e).stored h2 h6⟩
theorem wr_setCells {R b o : Nat} : ∀ (vs : List Value) (k : Nat) (w : World), Wr w b o → Wr (w.setCells R k vs) b o
 | [], _, _, h => h
 | v :: r, k, w, h => by
  unfold World.setCells
  exact wr_setCells r (k + 1) _ (by rw [wr_set]; exact h)
end
theorem line_wf {b : Bk} {x f t : Int} (h9 : b.lines.length ≤ 9) (h : lineOfB b x f t = true) : WfI x := by
 obtain ⟨k, rfl, hk, _⟩ := line_nat h
 exact wf_int _ (by omega)
set_option maxRecDepth 100000 in
set_option maxHeartbeats 2000000 in
theorem kind_end {x y r : Int} {w V : World} {vs : List Value} {C : Nat} (hwf : r = 0 → WfI x ∧ WfI y) (hl2 : vs.length = 18) (hok : r = 0 → OkM A cap L lcap b V vs) (hCC : Cells V C vs) (hb : Below w.heap.size w V) (a : Act) (hE : Fits 30 [(1, .int .i64 x), (2, .int .i64 y), (8, .pointer (some ⟨C, 0, none⟩)), (9, .int .i64 r)] a) :
    (cr 2 (bodyOf Tryz.f15)).wp Tryz.prog (bodyPost Tryz.prog Tryz.f15 fun e w' => e = .returned (.tuple #[.int .i64 (if r = 0 then (kindP (cntP b.lines.length b.ts x y) b.ts.length, (0 : Int)) else (0, r)).1, .int .i64 (if r = 0 then (kindP (cntP b.lines.length b.ts x y) b.ts.length, (0 : Int)) else (0, r)).2]) ∧ Below w.heap.size w w') a V := by
 by_cases hr0 : r = 0
 ·obtain ⟨hwx, hwy⟩ := hwf hr0
  have HK := hid ((hok hr0).kind x y hwx hwy)
  rw [if_pos hr0]
  subst hr0
  obtain ⟨k, hk⟩ : ∃ k, kindP (cntP b.lines.length b.ts x y) b.ts.length = k := ⟨_, rfl⟩
  rw [hk] at HK ⊢
  clear hwf hok hwx hwy hk
  refine wp_seq ?_; refine Ks ?_
  refine Rs 2 fun Q' K hK => ?_
  refine M1 hE 9 fun K' J ρ q9 => ?_; go_simp
  refine Ln hE J fun _ Eb => ?_; clear J K' hE a q9
  refine M1 Eb 23 fun K' J ρ q23 => ?_; go_simp; (try go_bits)
  refine Ln Eb J fun _ Ea => ?_; clear J K' Eb q23
  refine Ld [1, 2, 8, 24] Ea hK fun a hE => ?_; clear hK K Q' Ea
  refine Ks ?_
  refine cond_no hE (t := 24) rfl ?_
  refine Ks ?_
  refine Rs 6 fun Q' K hK => ?_
  refine Lp fun K' J => ?_
  have r8 := hE.at 8 rfl
  refine wp_load_mid 75 (.tmp 8) rfl C 0 (eval_of r8) vs _ (fun j u hu => by rw [Nat.zero_add]; exact hCC.2 j u hu) Tryz.underlying75 rfl (by rw [hl2]; kernel_rfl) ?_
  (try clear r8)
  refine Ln hE J fun _ Eb => ?_; clear J K' hE a
  refine M1 Eb 1 fun K' J ρ q1 => ?_; go_simp
  refine Ln Eb J fun _ Ea => ?_; clear J K' Eb q1
  refine M1 Ea 2 fun K' J ρ q2 => ?_; go_simp
  refine Ln Ea J fun _ Eb => ?_; clear J K' Ea q2
  refine M3 Eb 26 27 28 fun K' J ρ q26 q27 q28 => ?_; go_simp; (try go_bits); (try clear q26 q27 q28)
  go_at_call 51; refine (HK.out).mono ?_; rintro e w4 ⟨rfl, h4⟩
  (try clear r26 r27 r28)
  refine Ln Eb J fun _ Ea => ?_; clear J K' Eb
  refine M1 Ea 29 fun K' J ρ q29 => ?_; go_simp
  refine Ln Ea J fun _ Eb => ?_; clear J K' Ea q29
  refine M0 fun K' J ρ => ?_; go_simp;
  refine Ln Eb J fun _ Ea => ?_; clear J K' Eb
  refine Ld [6, 7] Ea hK fun a hE => ?_; clear hK K Q' Ea
  refine Ks ?_
  exact ret_two hE rfl rfl rfl ⟨rfl, hb.trans (h4.mono hb.size)⟩
 ·rw [if_neg hr0]
  clear hwf hok
  refine wp_seq ?_; refine Ks ?_
  refine Rs 2 fun Q' K hK => ?_
  refine M1 hE 9 fun K' J ρ q9 => ?_; go_simp
  refine Ln hE J fun _ Eb => ?_; clear J K' hE a q9
  refine M1 Eb 23 fun K' J ρ q23 => ?_; go_simp; (try go_bits)
  refine Ln Eb J fun _ Ea => ?_; clear J K' Eb q23
  refine Ld [9, 24] Ea hK fun a hE => ?_; clear hK K Q' Ea
  replace hE := hE.turn 24 (v' := .bool true) rfl (by simp [hr0])
  refine Ks ?_
  refine cond_yes hE (t := 24) rfl ?_
  refine Ks ?_
  refine Rs 3 fun Q' K hK => ?_
  refine M1 hE 9 fun K' J ρ q9 => ?_; go_simp
  refine Ln hE J fun _ Eb => ?_; clear J K' hE a q9
  refine M0 fun K' J ρ => ?_; go_simp;
  refine Ln Eb J fun _ Ea => ?_; clear J K' Eb
  refine M1 Ea 25 fun K' J ρ q25 => ?_; go_simp
  refine Ln Ea J fun _ Eb => ?_; clear J K' Ea q25
  refine Ld [6, 7] Eb hK fun a hE => ?_; clear hK K Q' Eb
  refine Ks ?_
  exact ret_two hE rfl rfl rfl ⟨rfl, hb⟩
set_option maxRecDepth 100000 in
set_option maxHeartbeats 4000000 in
theorem pKind_any (x y : Int) (w : World) (hM : BkAt w A L b) (hs : b.small cap lcap) : Calls Tryz.prog 15 #[.agg (bkV A cap L lcap b).toArray, .int .i64 x, .int .i64 y] w fun e w' => e = .returned (.tuple #[.int .i64 (pKindR b x y).1, .int .i64 (pKindR b x y).2]) ∧ Below w.heap.size w w' := by
 have hqx : pKindR b x y = if setE b (lineOfB b x 0 0 && lineOfB b y 1 1) = 0 then (kindP (cntP b.lines.length b.ts x y) b.ts.length, 0) else (0, setE b (lineOfB b x 0 0 && lineOfB b y 1 1)) := rfl
 rw [hqx]
 clear hqx
 have hwf : setE b (lineOfB b x 0 0 && lineOfB b y 1 1) = 0 → WfI x ∧ WfI y := fun h => by
  obtain ⟨h1, h2, _⟩ := setE_ok h
  rw [Bool.and_eq_true] at h2
  exact ⟨line_wf (ok_nine h1) h2.1, line_wf (ok_nine h1) h2.2⟩
 obtain ⟨q1, hq1⟩ : ∃ q, lineOfB b x 0 0 = q := ⟨_, rfl⟩
 obtain ⟨q2, hq2⟩ : ∃ q, lineOfB b y 1 1 = q := ⟨_, rfl⟩
 have HA := hid hq1
 have HB := hid hq2
 rw [hq1, hq2] at hwf ⊢
 clear hq1 hq2
 have C1 : Hid (∀ W, BkAt W A L b → Calls Tryz.prog 28 #[.agg (bkV A cap L lcap b).toArray, .int .i64 x, .int .i64 0, .int .i64 0] W fun e w' => e = .returned (.bool q1) ∧ Below W.heap.size W w') := hid fun W hW => by
  have := isLineOf_any A cap L lcap b x 0 0 W hW hs
  rw [HA.out] at this; exact this
 have C2 : Hid (∀ W, BkAt W A L b → Calls Tryz.prog 28 #[.agg (bkV A cap L lcap b).toArray, .int .i64 y, .int .i64 1, .int .i64 1] W fun e w' => e = .returned (.bool q2) ∧ Below W.heap.size W w') := hid fun W hW => by
  have := isLineOf_any A cap L lcap b y 1 1 W hW hs
  rw [HB.out] at this; exact this
 obtain ⟨r, hr⟩ : ∃ r, setE b (q1 && q2) = r := ⟨_, rfl⟩
 rw [hr] at hwf ⊢
 have C3 : Hid (∀ W, BkAt W A L b → Calls Tryz.prog 50 #[.agg (bkV A cap L lcap b).toArray, .bool (q1 && q2)] W fun e w' => (∃ v, e = .returned v ∧ SetV A cap L lcap b r v w') ∧ Below W.heap.size W w') := hid fun W hW => (settled_any (A := A) (cap := cap) (L := L) (lcap := lcap) (b := b) (q1 && q2) W hW hs).mono (by
  rintro e w' ⟨⟨vs, rfl, h2, h3, h4⟩, hb⟩
  rw [hr] at h4 ⊢
  exact ⟨⟨_, rfl, vs, rfl, h2, h3, fun e => (h4 e).okM⟩, hb⟩)
 have HR := hid hr
 have HW := hid hwf
 clear hr hwf
 simp only [bkV] at C1 C2 C3 ⊢
 refine enterE Tryz.func15 rfl Tryz.ntmps15 (by simp) (fun a hE => ?_); simp only [envOf, Nat.zero_add, Nat.reduceAdd] at hE
 refine Ks ?_
 refine Rs 3 fun Q' K hK => ?_
 refine M1 hE 0 fun K' J ρ q0 => ?_; go_simp
 refine Ln hE J fun _ Eb => ?_; clear J K' hE a q0
 refine M0 fun K' J ρ => ?_; go_simp;
 refine Ln Eb J fun _ Ea => ?_; clear J K' Eb
 refine M0 fun K' J ρ => ?_; go_simp;
 refine Ln Ea J fun _ Eb => ?_; clear J K' Ea
 refine Ld [1, 2, 3] Eb hK fun a hE => ?_; clear hK K Q' Eb
 obtain ⟨B, hBe⟩ : ∃ B, B = w.heap.size := ⟨_, rfl⟩; rw [← hBe] at hE; refine world_cut (fun wt => Below w.heap.size w wt ∧ Cells wt B (bkV A cap L lcap b)) ⟨(Below.refl _ _).alloc (Nat.le_refl _) _, by rw [hBe]; exact cells_new _ _ _⟩ (fun w1 hCut => ?_); obtain ⟨hbw1, hCB⟩ := hCut; clear hBe
 have hM1 := hM.below hbw1
 simp only [bkV] at hCB
 obtain ⟨nB, cB0, cB1, cB2, cB3, cB4, cB5, cB6⟩ := hCB.c7
 refine Ks ?_
 cases hqv : q1
 ·have HV := hid hqv
  clear hqv
  have C3b := C3.out
  rw [HV.out] at C3b
  simp only [Bool.false_and] at C3b
  have C3' := hid C3b
  clear C3b C3
  refine region_drawn_mem [15] (fun wt => Below w1.heap.size w1 wt) (TurnB A cap L lcap b w1.heap.size r) [(0, some 11), (1, some 12), (2, some 13), (3, some 14), (4, some 15), (5, some 16), (6, some 17), (7, some 18), (8, some 19), (9, some 20), (10, some 10), (11, some 21), (12, some 22), (13, some 8)] [11, 12, 13, 14, 15, 16, 17, 18, 19, 20, 10, 21, 22, 8] 14 8 (fun v wt => StoM A cap L lcap b w1.heap.size r v wt) #[true, true, true, true, true, true, true, true, true, true, true, true, true, true, true, false] [1, 2, 9] hE (fun _ _ _ hR h => h.turned hR) (by kernel_rfl) (by kernel_rfl) (by kernel_rfl) (by kernel_rfl) (by kernel_rfl) (by kernel_rfl) (by kernel_rfl) (by kernel_rfl) (by kernel_rfl) (by kernel_rfl) (by kernel_rfl) (by kernel_rfl) (by kernel_rfl) (by kernel_rfl) ((Below.refl _ _).drew) (fun Q' K hK => ?_)
  refine SeqOps.val ?_ (Sp fun ax wx hS hT' hd K' J => ?_) ?_; rotate_left 1
  ·have r3 := hS.at 3 (by decide) (hE.at 3 rfl); obtain ⟨_, _, _, _, _, _⟩ := bT hT'
   refine o1 r3 fun ρ q3 => ?_; go_simp;
   refine J.out _ _ _ rfl ?_ hT' (TurnB.refl); rfl
  refine SeqOps.val ?_ (Sp fun ax wx hS hT' hd K' J => ?_) ?_; rotate_left 1
  ·have r3 := hS.at 3 (by decide) (hE.at 3 rfl); obtain ⟨_, _, _, _, _, _⟩ := bT hT'
   refine o1 r3 fun ρ q3 => ?_; go_simp;
   refine J.out _ _ _ rfl ?_ hT' (TurnB.refl); rfl
  refine SeqOps.val ?_ (Sp fun ax wx hS hT' hd K' J => ?_) ?_; rotate_left 1
  ·have r1 := hS.at 1 (by decide) (hE.at 1 rfl); obtain ⟨_, _, _, _, _, _⟩ := bT hT'
   refine o1 r1 fun ρ q1 => ?_; go_simp;
   refine J.out _ _ _ rfl ?_ hT' (TurnB.refl); rfl
  refine SeqOps.val ?_ (Sp fun ax wx hS hT' hd K' J => ?_) ?_; rotate_left 1
  ·have r12 := Tv hd 1 1 12; have r13 := Tv hd 0 2 13; obtain ⟨_, _, _, _, _, _⟩ := bT hT'
   refine o2 r12 r13 fun ρ q12 q13 => ?_; go_simp; (try go_bits);
   go_at_call 28; refine (C1.out _ (hM1.below hT')).mono ?_; rw [HV.out]; rintro e g1 ⟨rfl, k1⟩
   refine J.out _ _ _ rfl ?_ (hT'.trans (k1.mono hT'.size)) (TurnB.of k1); rfl
  refine SeqOps.val ?_ (Sp fun ax wx hS hT' hd K' J => ?_) ?_; rotate_left 1
  ·have r14 := Tv hd 0 3 14; obtain ⟨_, _, _, _, _, _⟩ := bT hT'
   refine o1 r14 fun ρ q14 => ?_; go_simp;
   refine J.out _ _ _ rfl ?_ hT' (TurnB.refl); rfl
  refine SeqOps.val _ (StepOk.no (by (first | (simp only [List.getElem?_toArray, List.getElem?_cons_succ, List.getElem?_cons_zero]; rfl) | rfl)) rfl (e := 15) 0 rfl rfl (by kernel_rfl) (by kernel_rfl) (fun w => TurnB.refl)) ?_
  refine SeqOps.val _ (StepOk.no (by (first | (simp only [List.getElem?_toArray, List.getElem?_cons_succ, List.getElem?_cons_zero]; rfl) | rfl)) rfl (e := 15) 1 rfl rfl (by kernel_rfl) (by kernel_rfl) (fun w => TurnB.refl)) ?_
  refine SeqOps.val _ (StepOk.no (by (first | (simp only [List.getElem?_toArray, List.getElem?_cons_succ, List.getElem?_cons_zero]; rfl) | rfl)) rfl (e := 15) 2 rfl rfl (by kernel_rfl) (by kernel_rfl) (fun w => TurnB.refl)) ?_
  refine SeqOps.val ?_ (Sp fun ax wx hS hT' hd K' J => ?_) ?_; rotate_left 1
  ·have r15 := Tv hd 3 4 15; have r18 := Tv hd 0 7 18; obtain ⟨_, _, _, _, _, _⟩ := bT hT'
   refine o2 r15 r18 fun ρ q15 q18 => ?_; go_simp; (try go_bits);
   refine J.out _ _ _ rfl ?_ hT' (TurnB.refl); rfl
  refine SeqOps.say (fun v wt => SetV A cap L lcap b r v wt) (fun _ _ _ hR h => h.turned hR) (Sp fun ax wx hS hT' hd K' J => ?_) ?_
  ·have r11 := Tv hd 8 0 11; have r19 := Tv hd 0 8 19; obtain ⟨_, _, _, _, _, _⟩ := bT hT'
   refine o2 r11 r19 fun ρ q11 q19 => ?_; go_simp; (try go_bits);
   go_at_call 50; refine (C3'.out _ (hM1.below hT')).mono ?_; rintro e g1 ⟨⟨v, rfl, hv⟩, k1⟩
   exact J.out _ _ _ rfl hv (hT'.trans (k1.mono hT'.size)) (TurnB.of k1)
  refine SeqOps.say (fun v wt => SetV A cap L lcap b r v wt) (fun _ _ _ hR h => h.turned hR) (Sp fun ax wx hS hT' hd K' J => ?_) ?_
  ·obtain ⟨v20, r20, h20⟩ := Tg hd 0 9 20; obtain ⟨_, _, _, _, _, _⟩ := bT hT'
   refine o1 r20 fun ρ q20 => ?_; go_simp;
   exact J.out _ _ _ rfl h20 hT' TurnB.refl
  refine SeqOps.say (fun v wt => SetA A cap L lcap b r v wt) (fun _ _ _ hR h => h.turned hR) (Sp fun ax wx hS hT' hd K' J => ?_) ?_
  ·obtain ⟨v10, r10, h10⟩ := Tg hd 0 10 10; obtain ⟨vs, rfl, hl9, ho9, hok9⟩ := h10; obtain ⟨_, _, _, _, _, _⟩ := bT hT'
   refine o1 r10 fun ρ q10 => ?_; go_simp;
   exact J.out _ _ _ rfl ⟨vs, rfl, hl9, ho9, hok9⟩ hT' TurnB.refl
  refine SeqOps.val ?_ (Sp fun ax wx hS hT' hd K' J => ?_) ?_; rotate_left 1
  ·obtain ⟨v10, r10, h10⟩ := Tg hd 1 10 10; obtain ⟨vs, rfl, hl9, ho9, hok9⟩ := h10; obtain ⟨_, _, _, _, _, _⟩ := bT hT'
   refine o1 r10 fun ρ q10 => ?_; go_simp;
   refine J.out _ _ _ rfl ?_ hT' (TurnB.refl); rfl
  refine SeqOps.say (fun v wt => NewB w1.heap.size 18 v wt) (fun _ _ _ hR h => h.turned hR) (Sp fun ax wx hS hT' hd K' J => ?_) ?_
  ·obtain ⟨_, _, _, _, _, _⟩ := bT hT'
   refine o0 fun ρ => ?_; go_simp;
   exact J.out _ _ _ rfl ⟨_, rfl, hT'.size, by simp, fun j hj => wr_new rfl hj⟩ (hT'.trans (((Below.refl _ _).alloc (Nat.le_refl _) _).mono hT'.size)) (TurnB.of ((Below.refl _ _).alloc (Nat.le_refl _) _))
  refine SeqOps.nil ?_
  refine ⟨StepMem.plain (by (first | (simp only [List.getElem?_toArray, List.getElem?_cons_succ, List.getElem?_cons_zero]; rfl) | rfl)) rfl (fun ax wx hS hT' hd K' J => ?_), ?_⟩
  ·obtain ⟨v8, r8, h8⟩ := Tg hd 0 13 8; obtain ⟨C, rfl, hCn, hCl, hWC⟩ := h8; obtain ⟨v21, r21, h21⟩ := Tg hd 2 11 21; obtain ⟨va, rfl, hla, hoa, hoka⟩ := h21; obtain ⟨_, _, _, _, _, _⟩ := bT hT'
   have hla' : va.toArray.size = 18 := by simpa using hla
   obtain ⟨Z, hZ, hRC⟩ := row_of_wr 18 hWC
   refine wp_store_mid 75 (.tmp 8) (.tmp 21) rfl C 0 va.toArray (eval_of r8) (eval_of r21) (there_row hRC (by rw [hZ, hla']; exact Nat.le_refl _)) (by rw [hla']; kernel_rfl) hoa ?_
   have hq := cells_stored (w := w1) hRC (vs := va) (by rw [hZ, hla]) hCl hCn hT'
   obtain ⟨z0, hz0⟩ : ∃ u, Z[0]? = some u := ⟨Z[0]'(by omega), List.getElem?_eq_getElem (by omega)⟩
   exact J.out _ _ _ rfl r8 ⟨C, va, rfl, hCn, hla, hq.1, fun e => (hoka e).stored (hRC 0 z0 hz0).1 hq.2.2.1⟩ hq.2.1 (.inr ⟨C, va, hCn, ⟨z0, (hRC 0 z0 hz0).1⟩, hla, hq.1, fun e => (hoka e).stored (hRC 0 z0 hz0).1 hq.2.2.1, hq.2.2.1, hq.2.2.2, fun b o h => wr_setCells _ _ _ h⟩)
  intro w2 hBl; (repeat refine Ek ?_); (refine fun v h => ?_; obtain h20 := h); (refine fun v h => ?_; obtain ⟨vs, rfl, hl9, ho9, hok9⟩ := h); (refine fun v h => ?_; obtain ⟨va, rfl, hla, hoa, hoka⟩ := h); (repeat refine Ek ?_); (refine fun v h => ?_; obtain ⟨C, rfl, hCn, hCl, hWC⟩ := h);
  refine fun ax hEx => ?_
  refine fun vm hvm hM => ?_; obtain rfl := Option.some.inj (hvm.symm.trans (hEx.at 8 rfl)); clear hvm
  simp only [lk, pick, Nat.reduceEqDiff, ↓reduceIte] at hEx
  refine M1 hEx 22 fun K' J ρ q22 => ?_; go_simp
  refine Ln hEx J fun _ Eb => ?_; clear J K' hEx q22
  refine Ld [1, 2, 8, 9] Eb hK fun a hE => ?_; clear hK K Q' Eb
  obtain ⟨C', va', hCe, hCn', hla', hq, hok⟩ := hM
  obtain rfl : C = C' := by cases hCe; rfl
  refine KsE ?_
  exact kind_end A cap L lcap b HW.out hla' hok hq (hbw1.trans (hBl.mono hbw1.size)) _ (hE.keep [1, 2, 8, 9])
 ·have HV := hid hqv
  clear hqv
  have C3b := C3.out
  rw [HV.out] at C3b
  simp only [Bool.true_and] at C3b
  have C3' := hid C3b
  clear C3b C3
  refine region_drawn_mem [15] (fun wt => Below w1.heap.size w1 wt) (TurnB A cap L lcap b w1.heap.size r) [(0, some 11), (1, some 12), (2, some 13), (3, some 14), (4, some 15), (5, some 16), (6, some 17), (7, some 18), (8, some 19), (9, some 20), (10, some 10), (11, some 21), (12, some 22), (13, some 8)] [11, 12, 13, 14, 15, 16, 17, 18, 19, 20, 10, 21, 22, 8] 14 8 (fun v wt => StoM A cap L lcap b w1.heap.size r v wt) #[true, true, true, true, true, true, true, true, true, true, true, true, true, true, true, false] [1, 2, 9] hE (fun _ _ _ hR h => h.turned hR) (by kernel_rfl) (by kernel_rfl) (by kernel_rfl) (by kernel_rfl) (by kernel_rfl) (by kernel_rfl) (by kernel_rfl) (by kernel_rfl) (by kernel_rfl) (by kernel_rfl) (by kernel_rfl) (by kernel_rfl) (by kernel_rfl) (by kernel_rfl) ((Below.refl _ _).drew) (fun Q' K hK => ?_)
  refine SeqOps.val ?_ (Sp fun ax wx hS hT' hd K' J => ?_) ?_; rotate_left 1
  ·have r3 := hS.at 3 (by decide) (hE.at 3 rfl); obtain ⟨_, _, _, _, _, _⟩ := bT hT'
   refine o1 r3 fun ρ q3 => ?_; go_simp;
   refine J.out _ _ _ rfl ?_ hT' (TurnB.refl); rfl
  refine SeqOps.val ?_ (Sp fun ax wx hS hT' hd K' J => ?_) ?_; rotate_left 1
  ·have r3 := hS.at 3 (by decide) (hE.at 3 rfl); obtain ⟨_, _, _, _, _, _⟩ := bT hT'
   refine o1 r3 fun ρ q3 => ?_; go_simp;
   refine J.out _ _ _ rfl ?_ hT' (TurnB.refl); rfl
  refine SeqOps.val ?_ (Sp fun ax wx hS hT' hd K' J => ?_) ?_; rotate_left 1
  ·have r1 := hS.at 1 (by decide) (hE.at 1 rfl); obtain ⟨_, _, _, _, _, _⟩ := bT hT'
   refine o1 r1 fun ρ q1 => ?_; go_simp;
   refine J.out _ _ _ rfl ?_ hT' (TurnB.refl); rfl
  refine SeqOps.val ?_ (Sp fun ax wx hS hT' hd K' J => ?_) ?_; rotate_left 1
  ·have r12 := Tv hd 1 1 12; have r13 := Tv hd 0 2 13; obtain ⟨_, _, _, _, _, _⟩ := bT hT'
   refine o2 r12 r13 fun ρ q12 q13 => ?_; go_simp; (try go_bits);
   go_at_call 28; refine (C1.out _ (hM1.below hT')).mono ?_; rw [HV.out]; rintro e g1 ⟨rfl, k1⟩
   refine J.out _ _ _ rfl ?_ (hT'.trans (k1.mono hT'.size)) (TurnB.of k1); rfl
  refine SeqOps.val ?_ (Sp fun ax wx hS hT' hd K' J => ?_) ?_; rotate_left 1
  ·have r14 := Tv hd 0 3 14; obtain ⟨_, _, _, _, _, _⟩ := bT hT'
   refine o1 r14 fun ρ q14 => ?_; go_simp;
   refine J.out _ _ _ rfl ?_ hT' (TurnB.refl); rfl
  refine SeqOps.val ?_ (Sy 0 15 fun ax wx hS hT' hd K' J => ?_) ?_; rotate_left 1
  ·have r3 := hS.at 3 (by decide) (hE.at 3 rfl); obtain ⟨_, _, _, _, _, _⟩ := bT hT'
   refine o1 r3 fun ρ q3 => ?_; go_simp;
   refine J.out _ _ _ rfl ?_ hT' (TurnB.refl); rfl
  refine SeqOps.val ?_ (Sy 1 15 fun ax wx hS hT' hd K' J => ?_) ?_; rotate_left 1
  ·have r2 := hS.at 2 (by decide) (hE.at 2 rfl); obtain ⟨_, _, _, _, _, _⟩ := bT hT'
   refine o1 r2 fun ρ q2 => ?_; go_simp;
   refine J.out _ _ _ rfl ?_ hT' (TurnB.refl); rfl
  refine SeqOps.val ?_ (Sy 2 15 fun ax wx hS hT' hd K' J => ?_) ?_; rotate_left 1
  ·have r16 := Tv hd 1 5 16; have r17 := Tv hd 0 6 17; obtain ⟨_, _, _, _, _, _⟩ := bT hT'
   refine o2 r16 r17 fun ρ q16 q17 => ?_; go_simp; (try go_bits);
   go_at_call 28; refine (C2.out _ (hM1.below hT')).mono ?_; rintro e g1 ⟨rfl, k1⟩
   refine J.out _ _ _ rfl ?_ (hT'.trans (k1.mono hT'.size)) (TurnB.of k1); rfl
  refine SeqOps.val ?_ (Sp fun ax wx hS hT' hd K' J => ?_) ?_; rotate_left 1
  ·have r15 := Tv hd 3 4 15; have r18 := Tv hd 0 7 18; obtain ⟨_, _, _, _, _, _⟩ := bT hT'
   refine o2 r15 r18 fun ρ q15 q18 => ?_; go_simp; (try go_bits);
   refine J.out _ _ _ rfl ?_ hT' (TurnB.refl); rfl
  refine SeqOps.say (fun v wt => SetV A cap L lcap b r v wt) (fun _ _ _ hR h => h.turned hR) (Sp fun ax wx hS hT' hd K' J => ?_) ?_
  ·have r11 := Tv hd 8 0 11; have r19 := Tv hd 0 8 19; obtain ⟨_, _, _, _, _, _⟩ := bT hT'
   refine o2 r11 r19 fun ρ q11 q19 => ?_; go_simp; (try go_bits);
   go_at_call 50; refine (C3'.out _ (hM1.below hT')).mono ?_; rintro e g1 ⟨⟨v, rfl, hv⟩, k1⟩
   exact J.out _ _ _ rfl hv (hT'.trans (k1.mono hT'.size)) (TurnB.of k1)
  refine SeqOps.say (fun v wt => SetV A cap L lcap b r v wt) (fun _ _ _ hR h => h.turned hR) (Sp fun ax wx hS hT' hd K' J => ?_) ?_
  ·obtain ⟨v20, r20, h20⟩ := Tg hd 0 9 20; obtain ⟨_, _, _, _, _, _⟩ := bT hT'
   refine o1 r20 fun ρ q20 => ?_; go_simp;
   exact J.out _ _ _ rfl h20 hT' TurnB.refl
  refine SeqOps.say (fun v wt => SetA A cap L lcap b r v wt) (fun _ _ _ hR h => h.turned hR) (Sp fun ax wx hS hT' hd K' J => ?_) ?_
  ·obtain ⟨v10, r10, h10⟩ := Tg hd 0 10 10; obtain ⟨vs, rfl, hl9, ho9, hok9⟩ := h10; obtain ⟨_, _, _, _, _, _⟩ := bT hT'
   refine o1 r10 fun ρ q10 => ?_; go_simp;
   exact J.out _ _ _ rfl ⟨vs, rfl, hl9, ho9, hok9⟩ hT' TurnB.refl
  refine SeqOps.val ?_ (Sp fun ax wx hS hT' hd K' J => ?_) ?_; rotate_left 1
  ·obtain ⟨v10, r10, h10⟩ := Tg hd 1 10 10; obtain ⟨vs, rfl, hl9, ho9, hok9⟩ := h10; obtain ⟨_, _, _, _, _, _⟩ := bT hT'
   refine o1 r10 fun ρ q10 => ?_; go_simp;
   refine J.out _ _ _ rfl ?_ hT' (TurnB.refl); rfl
  refine SeqOps.say (fun v wt => NewB w1.heap.size 18 v wt) (fun _ _ _ hR h => h.turned hR) (Sp fun ax wx hS hT' hd K' J => ?_) ?_
  ·obtain ⟨_, _, _, _, _, _⟩ := bT hT'
   refine o0 fun ρ => ?_; go_simp;
   exact J.out _ _ _ rfl ⟨_, rfl, hT'.size, by simp, fun j hj => wr_new rfl hj⟩ (hT'.trans (((Below.refl _ _).alloc (Nat.le_refl _) _).mono hT'.size)) (TurnB.of ((Below.refl _ _).alloc (Nat.le_refl _) _))
  refine SeqOps.nil ?_
  refine ⟨StepMem.plain (by (first | (simp only [List.getElem?_toArray, List.getElem?_cons_succ, List.getElem?_cons_zero]; rfl) | rfl)) rfl (fun ax wx hS hT' hd K' J => ?_), ?_⟩
  ·obtain ⟨v8, r8, h8⟩ := Tg hd 0 13 8; obtain ⟨C, rfl, hCn, hCl, hWC⟩ := h8; obtain ⟨v21, r21, h21⟩ := Tg hd 2 11 21; obtain ⟨va, rfl, hla, hoa, hoka⟩ := h21; obtain ⟨_, _, _, _, _, _⟩ := bT hT'
   have hla' : va.toArray.size = 18 := by simpa using hla
   obtain ⟨Z, hZ, hRC⟩ := row_of_wr 18 hWC
   refine wp_store_mid 75 (.tmp 8) (.tmp 21) rfl C 0 va.toArray (eval_of r8) (eval_of r21) (there_row hRC (by rw [hZ, hla']; exact Nat.le_refl _)) (by rw [hla']; kernel_rfl) hoa ?_
   have hq := cells_stored (w := w1) hRC (vs := va) (by rw [hZ, hla]) hCl hCn hT'
   obtain ⟨z0, hz0⟩ : ∃ u, Z[0]? = some u := ⟨Z[0]'(by omega), List.getElem?_eq_getElem (by omega)⟩
   exact J.out _ _ _ rfl r8 ⟨C, va, rfl, hCn, hla, hq.1, fun e => (hoka e).stored (hRC 0 z0 hz0).1 hq.2.2.1⟩ hq.2.1 (.inr ⟨C, va, hCn, ⟨z0, (hRC 0 z0 hz0).1⟩, hla, hq.1, fun e => (hoka e).stored (hRC 0 z0 hz0).1 hq.2.2.1, hq.2.2.1, hq.2.2.2, fun b o h => wr_setCells _ _ _ h⟩)
  intro w2 hBl; (repeat refine Ek ?_); (refine fun v h => ?_; obtain h20 := h); (refine fun v h => ?_; obtain ⟨vs, rfl, hl9, ho9, hok9⟩ := h); (refine fun v h => ?_; obtain ⟨va, rfl, hla, hoa, hoka⟩ := h); (repeat refine Ek ?_); (refine fun v h => ?_; obtain ⟨C, rfl, hCn, hCl, hWC⟩ := h);
  refine fun ax hEx => ?_
  refine fun vm hvm hM => ?_; obtain rfl := Option.some.inj (hvm.symm.trans (hEx.at 8 rfl)); clear hvm
  simp only [lk, pick, Nat.reduceEqDiff, ↓reduceIte] at hEx
  refine M1 hEx 22 fun K' J ρ q22 => ?_; go_simp
  refine Ln hEx J fun _ Eb => ?_; clear J K' hEx q22
  refine Ld [1, 2, 8, 9] Eb hK fun a hE => ?_; clear hK K Q' Eb
  obtain ⟨C', va', hCe, hCn', hla', hq, hok⟩ := hM
  obtain rfl : C = C' := by cases hCe; rfl
  refine KsE ?_
  exact kind_end A cap L lcap b HW.out hla' hok hq (hbw1.trans (hBl.mono hbw1.size)) _ (hE.keep [1, 2, 8, 9])
end
end Go.Proofs.YtbimkcjdodgojaaGreat
