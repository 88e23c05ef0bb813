/- Name: the law of wider books, walked: what follows when the wider books are there. -/
import Derived.Test.YtbimkcjdodgojaaNcd
import Derived.Test.YtbimkcjdodgojaaNch
namespace Go.Proofs.Ytbimkcjdodgojaa
set_option linter.unusedSimpArgs false
set_option linter.unusedVariables false
open Go Go.RowKit
attribute [local go_sem high] cell_set_wr
attribute [local go_sem low] cell_wr frozen_wr
attribute [local go_sem] wr_set wr_drew wr_drewN wr_alloc wr_new Rho.c Rho.n Rho.g

/-- wider books have no more wrong lines -/
theorem Wider.wrong {b x : Bk} (h : Wider b x) (hl : 0 ≤ b.lost) : (wrongP x).length ≤ (wrongP b).length := by
 have hl' : x.lines.length = b.lines.length := by rw [h.lines]
 have hx : 0 ≤ x.lost := by have := h.lost; omega
 obtain ⟨b1, b2, _⟩ := wrong_lawN hl
 obtain ⟨_, _, x3, _⟩ := wrong_lawN hx
 refine Classical.byContradiction fun hn => ?_
 have h1 := x3 (wrongP b) (by rw [hl']; exact b1) (by omega)
 rw [right_ts] at h1 b2
 have h2 := (h.without (wrongP b)).ts.length_le
 cases hb : (b.without (wrongP b)).ts with
 | nil => rw [hb] at b2; cases b2
 | cons u l =>
  rw [hb] at h2
  cases hxl : (x.without (wrongP b)).ts with
  | nil => rw [hxl] at h2; simp at h2
  | cons u' l' => rw [hxl] at h1; cases h1
theorem Wider.joined {b x : Bk} (h : Wider b x) (ho : b.ok = true) (hx : x.ok = true) (hne : b.ts.length ≠ 0) (p : Nat × Nat) (hp : p ∈ pJoinedL x) : hasP (pJoinedL b) p = true := by
 have hl' : x.lines.length = b.lines.length := by rw [h.lines]
 have hz : zB x = zB b := by unfold zB; rw [h.lines]
 have hle := h.ts.length_le
 have s1 : setE b true = 0 := by rw [set_ok ho, if_neg hne]
 have s2 : setE x true = 0 := by rw [set_ok hx, if_neg (by omega)]
 unfold pJoinedL at hp ⊢
 rw [s2, if_pos rfl, hl'] at hp
 rw [s1, if_pos rfl]
 unfold hasP
 rw [List.contains_iff_mem]
 have hsx := sides_bk x
 rw [hl', hz] at hsx
 exact join_sub (sides_bk b) hsx (fun t ht => h.ts.subset ht) (fun t ht => ((mem_ts (sides_bk b) b.lost t).1 ht).1) (fun e => hne (by rw [e]; rfl)) p hp
theorem Wider.people {b x : Bk} (h : Wider b x) (ho : b.ok = true) (hx : x.ok = true) (hne : b.ts.length ≠ 0) : (pPeopleR x).1 ≤ (pPeopleR b).1 ∧ (pPeopleR b).2 ≤ (pPeopleR x).2 := by
 have hl' : x.lines.length = b.lines.length := by rw [h.lines]
 have hle := h.ts.length_le
 have s1 : setE b true = 0 := by rw [set_ok ho, if_neg hne]
 have s2 : setE x true = 0 := by rw [set_ok hx, if_neg (by omega)]
 unfold pPeopleR
 rw [s1, s2, if_pos rfl, if_pos rfl, hl']
 unfold headP
 rw [hl']
 exact people_sub _ (fun t ht => h.ts.subset ht) (fun e => hne (by rw [e]; rfl))
section
variable (A : Option Addr) (cap : Nat) (L : Option Addr) (lcap : Nat) (b x : Bk)
set_option maxRecDepth 100000 in
set_option maxHeartbeats 4000000 in
theorem wider_end (hs : b.small cap lcap) (hsx : x.small cap lcap) (J K : Prs) (lo hi lo' hi' : Int) (hK81 : K.length ≤ 81) (hJ81 : J.length ≤ 81) (HI : Hid (lo' ≤ lo ∧ hi ≤ hi')) (HJ : Hid (∀ p ∈ K, hasP J p = true))
    (C1 : Hid (∀ W, BkAt W A L b → Calls Try.prog 19 #[.agg (bkV A cap L lcap b).toArray] W fun e' w' => (∃ Z c, e' = .returned (.tuple #[.slice Z J.length c, .int .i64 0]) ∧ Arr w' w'.heap.size Z (pairsV J)) ∧ Below W.heap.size W w'))
    (C2 : Hid (∀ W, BkAt W A L x → Calls Try.prog 19 #[.agg (bkV A cap L lcap x).toArray] W fun e' w' => (∃ Z c, e' = .returned (.tuple #[.slice Z K.length c, .int .i64 0]) ∧ Arr w' w'.heap.size Z (pairsV K)) ∧ Below W.heap.size W w'))
    (C3 : Hid (∀ W, BkAt W A L b → Calls Try.prog 20 #[.agg (bkV A cap L lcap b).toArray] W fun e' w' => e' = .returned (.tuple #[.agg #[.int .i64 lo, .int .i64 hi], .int .i64 0]) ∧ Below W.heap.size W w'))
    (C4 : Hid (∀ W, BkAt W A L x → Calls Try.prog 20 #[.agg (bkV A cap L lcap x).toArray] W fun e' w' => e' = .returned (.tuple #[.agg #[.int .i64 lo', .int .i64 hi'], .int .i64 0]) ∧ Below W.heap.size W w'))
    (B X : Nat) (w V : World) (hM : BkAt V A L b) (hMx : BkAt V A L x) (hb : Below w.heap.size w V) (hCB : Cells V B (bkV A cap L lcap b)) (hCX : Cells V X (bkV A cap L lcap x)) (a : Act)
    (hE : Fits 194 [(3, .pointer (some ⟨B, 0, none⟩)), (7, .pointer (some ⟨X, 0, none⟩))] a) :
    (cr 13 (bodyOf Try.f8)).wp Try.prog (bodyPost Try.prog Try.f8 fun e w' => e = .returned (.bool true) ∧ Below w.heap.size w w') a V := by
 simp only [bkV] at C1 C2 C3 C4 hCB hCX
 have nB := hCB.1
 have cB0 := hCB.2 0 _ rfl
 have cB1 := hCB.2 1 _ rfl
 have cB2 := hCB.2 2 _ rfl
 have cB3 := hCB.2 3 _ rfl
 have cB4 := hCB.2 4 _ rfl
 have cB5 := hCB.2 5 _ rfl
 have cB6 := hCB.2 6 _ rfl
 have nX := hCX.1
 have cX0 := hCX.2 0 _ rfl
 have cX1 := hCX.2 1 _ rfl
 have cX2 := hCX.2 2 _ rfl
 have cX3 := hCX.2 3 _ rfl
 have cX4 := hCX.2 4 _ rfl
 have cX5 := hCX.2 5 _ rfl
 have cX6 := hCX.2 6 _ rfl
 refine wp_seq ?_; refine Ks ?_
 refine Rs 7 fun Q' K hK => ?_
 refine M1 hE 3 fun K' Kh ρ q3 => ?_; go_simp; (try clear q3)
 refine Ln hE Kh fun _ Eb => ?_; clear Kh K' hE a
 refine M1 Eb 141 fun K' Kh ρ q141 => ?_; go_simp; (try go_bits); (try clear q141)
 go_at_call 19; refine (C1.out _ hM).mono ?_; rintro e1 w1 ⟨⟨Z, zc, rfl, hZ⟩, h1⟩
 (try clear r141)
 refine Ln Eb Kh fun _ Ea => ?_; clear Kh K' Eb
 refine M1 Ea 142 fun K' Kh ρ q142 => ?_; go_simp; (try clear q142)
 refine Ln Ea Kh fun _ Eb => ?_; clear Kh K' Ea
 refine M1 Eb 140 fun K' Kh ρ q140 => ?_; go_simp; (try clear q140)
 refine Ln Eb Kh fun _ Ea => ?_; clear Kh K' Eb
 refine M1 Ea 140 fun K' Kh ρ q140 => ?_; go_simp; (try clear q140)
 refine Ln Ea Kh fun _ Eb => ?_; clear Kh K' Ea
 refine M1 Eb 143 fun K' Kh ρ q143 => ?_; go_simp; (try clear q143)
 refine Ln Eb Kh fun _ Ea => ?_; clear Kh K' Eb
 refine M1 Ea 144 fun K' Kh ρ q144 => ?_; go_simp; (try clear q144)
 refine Ln Ea Kh fun _ Eb => ?_; clear Kh K' Ea
 refine late_done [3, 7, 21, 10] Eb hK (fun a hE => ?_); clear hK K Q' Eb; simp only [lk, pick, Nat.reduceEqDiff, ↓reduceIte] at hE
 replace hb := hb.trans (h1.mono hb.size)
 replace hM := hM.below h1
 replace hMx := hMx.below h1
 replace hCB := hCB.below h1
 replace hCX := hCX.below h1
 clear nB cB0 cB1 cB2 cB3 cB4 cB5 cB6 nX cX0 cX1 cX2 cX3 cX4 cX5 cX6
 clear h1
 have nB := hCB.1
 have cB0 := hCB.2 0 _ rfl
 have cB1 := hCB.2 1 _ rfl
 have cB2 := hCB.2 2 _ rfl
 have cB3 := hCB.2 3 _ rfl
 have cB4 := hCB.2 4 _ rfl
 have cB5 := hCB.2 5 _ rfl
 have cB6 := hCB.2 6 _ rfl
 have nX := hCX.1
 have cX0 := hCX.2 0 _ rfl
 have cX1 := hCX.2 1 _ rfl
 have cX2 := hCX.2 2 _ rfl
 have cX3 := hCX.2 3 _ rfl
 have cX4 := hCX.2 4 _ rfl
 have cX5 := hCX.2 5 _ rfl
 have cX6 := hCX.2 6 _ rfl
 refine Ks ?_
 refine Rs 7 fun Q' K hK => ?_
 refine M1 hE 7 fun K' Kh ρ q7 => ?_; go_simp; (try clear q7)
 refine Ln hE Kh fun _ Eb => ?_; clear Kh K' hE a
 refine M1 Eb 146 fun K' Kh ρ q146 => ?_; go_simp; (try go_bits); (try clear q146)
 go_at_call 19; refine (C2.out _ hMx).mono ?_; rintro e2 w2 ⟨⟨Y, yc, rfl, hY⟩, h2⟩
 (try clear r146)
 refine Ln Eb Kh fun _ Ea => ?_; clear Kh K' Eb
 refine M1 Ea 147 fun K' Kh ρ q147 => ?_; go_simp; (try clear q147)
 refine Ln Ea Kh fun _ Eb => ?_; clear Kh K' Ea
 refine M1 Eb 145 fun K' Kh ρ q145 => ?_; go_simp; (try clear q145)
 refine Ln Eb Kh fun _ Ea => ?_; clear Kh K' Eb
 refine M1 Ea 145 fun K' Kh ρ q145 => ?_; go_simp; (try clear q145)
 refine Ln Ea Kh fun _ Eb => ?_; clear Kh K' Ea
 refine M1 Eb 148 fun K' Kh ρ q148 => ?_; go_simp; (try clear q148)
 refine Ln Eb Kh fun _ Ea => ?_; clear Kh K' Eb
 refine M1 Ea 149 fun K' Kh ρ q149 => ?_; go_simp; (try clear q149)
 refine Ln Ea Kh fun _ Eb => ?_; clear Kh K' Ea
 refine late_done [3, 7, 21, 10, 22, 12] Eb hK (fun a hE => ?_); clear hK K Q' Eb; simp only [lk, pick, Nat.reduceEqDiff, ↓reduceIte] at hE
 replace hb := hb.trans (h2.mono hb.size)
 replace hM := hM.below h2
 replace hMx := hMx.below h2
 replace hCB := hCB.below h2
 replace hCX := hCX.below h2
 replace hZ := (hZ.below h2).more h2.size
 clear nB cB0 cB1 cB2 cB3 cB4 cB5 cB6 nX cX0 cX1 cX2 cX3 cX4 cX5 cX6
 clear h2
 have nB := hCB.1
 have cB0 := hCB.2 0 _ rfl
 have cB1 := hCB.2 1 _ rfl
 have cB2 := hCB.2 2 _ rfl
 have cB3 := hCB.2 3 _ rfl
 have cB4 := hCB.2 4 _ rfl
 have cB5 := hCB.2 5 _ rfl
 have cB6 := hCB.2 6 _ rfl
 have nX := hCX.1
 have cX0 := hCX.2 0 _ rfl
 have cX1 := hCX.2 1 _ rfl
 have cX2 := hCX.2 2 _ rfl
 have cX3 := hCX.2 3 _ rfl
 have cX4 := hCX.2 4 _ rfl
 have cX5 := hCX.2 5 _ rfl
 have cX6 := hCX.2 6 _ rfl
 refine Ks ?_
 refine Rs 8 fun Q' K hK => ?_
 refine M1 hE 3 fun K' Kh ρ q3 => ?_; go_simp; (try clear q3)
 refine Ln hE Kh fun _ Eb => ?_; clear Kh K' hE a
 refine M1 Eb 151 fun K' Kh ρ q151 => ?_; go_simp; (try go_bits); (try clear q151)
 go_at_call 20; refine (C3.out _ hM).mono ?_; rintro e3 w3 ⟨rfl, h3⟩
 (try clear r151)
 refine Ln Eb Kh fun _ Ea => ?_; clear Kh K' Eb
 refine M1 Ea 152 fun K' Kh ρ q152 => ?_; go_simp; (try clear q152)
 refine Ln Ea Kh fun _ Eb => ?_; clear Kh K' Ea
 refine M1 Eb 150 fun K' Kh ρ q150 => ?_; go_simp; (try clear q150)
 refine Ln Eb Kh fun _ Ea => ?_; clear Kh K' Eb
 refine M1 Ea 150 fun K' Kh ρ q150 => ?_; go_simp; (try clear q150)
 refine Ln Ea Kh fun _ Eb => ?_; clear Kh K' Ea
 refine M0 fun K' Kh ρ => ?_; go_simp;
 refine Ln Eb Kh fun _ Ea => ?_; clear Kh K' Eb
 refine M2 Ea 23 153 fun K' Kh ρ q23 q153 => ?_; go_simp; (try clear q23 q153)
 refine late_skip Ea Kh (fun _ Eb => ?_); clear Kh K'; clear Ea
 refine M1 Eb 154 fun K' Kh ρ q154 => ?_; go_simp; (try clear q154)
 refine Ln Eb Kh fun _ Ea => ?_; clear Kh K' Eb
 refine late_done [3, 7, 21, 10, 22, 12, 23, 14] Ea hK (fun a hE => ?_); clear hK K Q' Ea; simp only [lk, pick, Nat.reduceEqDiff, ↓reduceIte] at hE
 obtain ⟨S, hSe⟩ : ∃ B, B = w3.heap.size := ⟨_, rfl⟩; rw [← hSe] at hE; refine world_cut (fun wt => Below w3.heap.size w3 wt ∧ Cells wt S [.int .i64 lo, .int .i64 hi]) ⟨(Below.refl _ _).alloc (Nat.le_refl _) _, by rw [hSe]; exact cells_new _ _ _⟩ (fun w31 hCut => ?_); obtain ⟨hbw31, hCS⟩ := hCut; clear hSe
 have hh3 := h3.trans (hbw31.mono h3.size)
 clear hbw31 h3
 replace hb := hb.trans (hh3.mono hb.size)
 replace hM := hM.below hh3
 replace hMx := hMx.below hh3
 replace hCB := hCB.below hh3
 replace hCX := hCX.below hh3
 replace hZ := (hZ.below hh3).more hh3.size
 replace hY := (hY.below hh3).more hh3.size
 clear nB cB0 cB1 cB2 cB3 cB4 cB5 cB6 nX cX0 cX1 cX2 cX3 cX4 cX5 cX6
 clear hh3
 have nB := hCB.1
 have cB0 := hCB.2 0 _ rfl
 have cB1 := hCB.2 1 _ rfl
 have cB2 := hCB.2 2 _ rfl
 have cB3 := hCB.2 3 _ rfl
 have cB4 := hCB.2 4 _ rfl
 have cB5 := hCB.2 5 _ rfl
 have cB6 := hCB.2 6 _ rfl
 have nX := hCX.1
 have cX0 := hCX.2 0 _ rfl
 have cX1 := hCX.2 1 _ rfl
 have cX2 := hCX.2 2 _ rfl
 have cX3 := hCX.2 3 _ rfl
 have cX4 := hCX.2 4 _ rfl
 have cX5 := hCX.2 5 _ rfl
 have cX6 := hCX.2 6 _ rfl
 refine Ks ?_
 refine Rs 8 fun Q' K hK => ?_
 refine M1 hE 7 fun K' Kh ρ q7 => ?_; go_simp; (try clear q7)
 refine Ln hE Kh fun _ Eb => ?_; clear Kh K' hE a
 refine M1 Eb 156 fun K' Kh ρ q156 => ?_; go_simp; (try go_bits); (try clear q156)
 go_at_call 20; refine (C4.out _ hMx).mono ?_; rintro e4 w4 ⟨rfl, h4⟩
 (try clear r156)
 refine Ln Eb Kh fun _ Ea => ?_; clear Kh K' Eb
 refine M1 Ea 157 fun K' Kh ρ q157 => ?_; go_simp; (try clear q157)
 refine Ln Ea Kh fun _ Eb => ?_; clear Kh K' Ea
 refine M1 Eb 155 fun K' Kh ρ q155 => ?_; go_simp; (try clear q155)
 refine Ln Eb Kh fun _ Ea => ?_; clear Kh K' Eb
 refine M1 Ea 155 fun K' Kh ρ q155 => ?_; go_simp; (try clear q155)
 refine Ln Ea Kh fun _ Eb => ?_; clear Kh K' Ea
 refine M0 fun K' Kh ρ => ?_; go_simp;
 refine Ln Eb Kh fun _ Ea => ?_; clear Kh K' Eb
 refine M2 Ea 24 158 fun K' Kh ρ q24 q158 => ?_; go_simp; (try clear q24 q158)
 refine late_skip Ea Kh (fun _ Eb => ?_); clear Kh K'; clear Ea
 refine M1 Eb 159 fun K' Kh ρ q159 => ?_; go_simp; (try clear q159)
 refine Ln Eb Kh fun _ Ea => ?_; clear Kh K' Eb
 refine late_done [3, 7, 21, 10, 22, 12, 23, 14, 24, 16] Ea hK (fun a hE => ?_); clear hK K Q' Ea; simp only [lk, pick, Nat.reduceEqDiff, ↓reduceIte] at hE
 obtain ⟨U, hUe⟩ : ∃ B, B = w4.heap.size := ⟨_, rfl⟩; rw [← hUe] at hE; refine world_cut (fun wt => Below w4.heap.size w4 wt ∧ Cells wt U [.int .i64 lo', .int .i64 hi']) ⟨(Below.refl _ _).alloc (Nat.le_refl _) _, by rw [hUe]; exact cells_new _ _ _⟩ (fun w41 hCut => ?_); obtain ⟨hbw41, hCU⟩ := hCut; clear hUe
 have hh4 := h4.trans (hbw41.mono h4.size)
 replace hCS := hCS.below hh4
 clear hbw41 h4
 replace hb := hb.trans (hh4.mono hb.size)
 replace hM := hM.below hh4
 replace hMx := hMx.below hh4
 replace hCB := hCB.below hh4
 replace hCX := hCX.below hh4
 replace hZ := (hZ.below hh4).more hh4.size
 replace hY := (hY.below hh4).more hh4.size
 clear nB cB0 cB1 cB2 cB3 cB4 cB5 cB6 nX cX0 cX1 cX2 cX3 cX4 cX5 cX6
 clear hh4
 have nB := hCB.1
 have cB0 := hCB.2 0 _ rfl
 have cB1 := hCB.2 1 _ rfl
 have cB2 := hCB.2 2 _ rfl
 have cB3 := hCB.2 3 _ rfl
 have cB4 := hCB.2 4 _ rfl
 have cB5 := hCB.2 5 _ rfl
 have cB6 := hCB.2 6 _ rfl
 have nX := hCX.1
 have cX0 := hCX.2 0 _ rfl
 have cX1 := hCX.2 1 _ rfl
 have cX2 := hCX.2 2 _ rfl
 have cX3 := hCX.2 3 _ rfl
 have cX4 := hCX.2 4 _ rfl
 have cX5 := hCX.2 5 _ rfl
 have cX6 := hCX.2 6 _ rfl
 refine Ks ?_
 have nS := hCS.1
 have cS0 := hCS.2 0 _ rfl
 have cS1 := hCS.2 1 _ rfl
 have nU := hCU.1
 have cU0 := hCU.2 0 _ rfl
 have cU1 := hCU.2 1 _ rfl
 refine Rs 20 fun Q' K hK => ?_
 refine M1 hE 10 fun K' Kh ρ q10 => ?_; go_simp; (try clear q10)
 refine Ln hE Kh fun _ Eb => ?_; clear Kh K' hE a
 refine M1 Eb 160 fun K' Kh ρ q160 => ?_; go_simp; (try go_bits); (try clear q160)
 refine Ln Eb Kh fun _ Ea => ?_; clear Kh K' Eb
 replace Ea := Ea.turn 161 (v' := .bool false) rfl (by (first | rfl | simp))
 refine M1 Ea 161 fun K' Kh ρ q161 => ?_; go_simp; (try clear q161)
 refine Ln Ea Kh fun _ Eb => ?_; clear Kh K' Ea
 refine N1 Eb 162 12 fun K' Kh ρ q12 => ?_; go_simp; (try clear q12)
 refine Ln Eb Kh fun _ Ea => ?_; clear Kh K' Eb
 refine N1 Ea 162 163 fun K' Kh ρ q163 => ?_; go_simp; (try go_bits); (try clear q163)
 refine Ln Ea Kh fun _ Eb => ?_; clear Kh K' Ea
 replace Eb := Eb.turn 164 (v' := .bool false) rfl (by (first | rfl | simp))
 refine M2 Eb 162 164 fun K' Kh ρ q162 q164 => ?_; go_simp; (try go_bits); (try clear q162 q164)
 refine Ln Eb Kh fun _ Ea => ?_; clear Kh K' Eb
 refine M1 Ea 165 fun K' Kh ρ q165 => ?_; go_simp; (try clear q165)
 refine Ln Ea Kh fun _ Eb => ?_; clear Kh K' Ea
 refine N1 Eb 166 14 fun K' Kh ρ q14 => ?_; go_simp; (try clear q14)
 refine Ln Eb Kh fun _ Ea => ?_; clear Kh K' Eb
 refine N1 Ea 166 167 fun K' Kh ρ q167 => ?_; go_simp; (try go_bits); (try clear q167)
 refine Ln Ea Kh fun _ Eb => ?_; clear Kh K' Ea
 replace Eb := Eb.turn 168 (v' := .bool false) rfl (by (first | rfl | simp))
 refine M2 Eb 166 168 fun K' Kh ρ q166 q168 => ?_; go_simp; (try go_bits); (try clear q166 q168)
 refine Ln Eb Kh fun _ Ea => ?_; clear Kh K' Eb
 refine M1 Ea 169 fun K' Kh ρ q169 => ?_; go_simp; (try clear q169)
 refine Ln Ea Kh fun _ Eb => ?_; clear Kh K' Ea
 refine N1 Eb 170 16 fun K' Kh ρ q16 => ?_; go_simp; (try clear q16)
 refine Ln Eb Kh fun _ Ea => ?_; clear Kh K' Eb
 refine N1 Ea 170 171 fun K' Kh ρ q171 => ?_; go_simp; (try go_bits); (try clear q171)
 refine Ln Ea Kh fun _ Eb => ?_; clear Kh K' Ea
 replace Eb := Eb.turn 172 (v' := .bool false) rfl (by (first | rfl | simp))
 refine M2 Eb 170 172 fun K' Kh ρ q170 q172 => ?_; go_simp; (try go_bits); (try clear q170 q172)
 refine Ln Eb Kh fun _ Ea => ?_; clear Kh K' Eb
 refine M1 Ea 173 fun K' Kh ρ q173 => ?_; go_simp; (try clear q173)
 refine Ln Ea Kh fun _ Eb => ?_; clear Kh K' Ea
 refine N1 Eb 174 23 fun K' Kh ρ q23 => ?_; go_simp; (try clear q23)
 refine Ln Eb Kh fun _ Ea => ?_; clear Kh K' Eb
 refine N1 Ea 174 24 fun K' Kh ρ q24 => ?_; go_simp; (try clear q24)
 refine Ln Ea Kh fun _ Eb => ?_; clear Kh K' Ea
 refine N2 Eb 174 175 176 fun K' Kh ρ q175 q176 => ?_; go_simp; (try go_bits); (try clear q175 q176)
 go_at_call 40; refine (inside_any _ _ _ _ _).mono ?_; rintro e5 w5 ⟨rfl, h5⟩
 (try clear r175 r176)
 refine Ln Eb Kh fun _ Ea => ?_; clear Kh K' Eb
 refine N1 Ea 174 177 fun K' Kh ρ q177 => ?_; go_simp; (try go_bits); (try simp (disch := omega) only [IntWalk.i64_in]); (try clear q177)
 refine Ln Ea Kh fun _ Eb => ?_; clear Kh K' Ea
 replace Eb := Eb.turn 178 (v' := .bool false) rfl (by (obtain ⟨i1, i2⟩ := HI.out; simp [i1, i2]))
 refine M2 Eb 174 178 fun K' Kh ρ q174 q178 => ?_; go_simp; (try go_bits); (try clear q174 q178)
 refine Ln Eb Kh fun _ Ea => ?_; clear Kh K' Eb
 refine late_done [21, 22, 179] Ea hK (fun a hE => ?_); clear hK K Q' Ea; simp only [lk, pick, Nat.reduceEqDiff, ↓reduceIte] at hE
 replace hb := hb.trans (h5.mono hb.size)
 replace hZ := (hZ.below h5).more h5.size
 replace hY := (hY.below h5).more h5.size
 clear nB cB0 cB1 cB2 cB3 cB4 cB5 cB6 nX cX0 cX1 cX2 cX3 cX4 cX5 cX6
 clear nS cS0 cS1 nU cU0 cU1 hCS hCU hCB hCX hM hMx h5
 refine Ks ?_
 refine cond_no hE (t := 179) rfl ?_
 refine Ks ?_
 refine Rs 1 fun Q' K hK => ?_
 refine M0 fun K' Kh ρ => ?_; go_simp;
 refine Ln hE Kh fun _ Eb => ?_; clear Kh K' hE a
 refine late_done [21, 22, 25] Eb hK (fun a hE => ?_); clear hK K Q' Eb; simp only [lk, pick, Nat.reduceEqDiff, ↓reduceIte] at hE
 refine Ks ?_
 refine loop_st (fun (k : Nat) a w' => k ≤ K.length ∧ Fits 194 [(21, .slice Z J.length zc), (22, .slice Y K.length yc), (25, .int .i64 k)] a ∧ Below w5.heap.size w5 w') (fun k => K.length - k) 0 ⟨Nat.zero_le _, by simpa using hE, Below.refl _ _⟩ (fun k a w' hI => ?_)
 clear hE
 obtain ⟨hk, hE, hW⟩ := hI
 refine Ks ?_
 refine Rs 4 fun Q' K hK => ?_
 refine M1 hE 25 fun K' Kh ρ q25 => ?_; go_simp; (try clear q25)
 refine Ln hE Kh fun _ Eb => ?_; clear Kh K' hE a
 refine M1 Eb 22 fun K' Kh ρ q22 => ?_; go_simp; (try clear q22)
 refine Ln Eb Kh fun _ Ea => ?_; clear Kh K' Eb
 refine M1 Ea 181 fun K' Kh ρ q181 => ?_; go_simp; (try go_bits); (try clear q181)
 refine Ln Ea Kh fun _ Eb => ?_; clear Kh K' Ea
 refine M2 Eb 180 182 fun K' Kh ρ q180 q182 => ?_; go_simp; (try go_bits); (try clear q180 q182)
 refine Ln Eb Kh fun _ Ea => ?_; clear Kh K' Eb
 refine late_done [21, 22, 25, 183] Ea hK (fun a hE => ?_); clear hK K Q' Ea; simp only [lk, pick, Nat.reduceEqDiff, ↓reduceIte] at hE
 refine Ks ?_
 refine cond_part hE (t := 183) rfl (fun h => ?_) (fun h => ?_)
 ·have hlt : k < K.length := by have := of_decide_eq_true h; omega
  clear h
  have hltI : (k : Int) < K.length := by omega
  have hZ' := (hZ.below hW).more hW.size
  have hY' := (hY.below hW).more hW.size
  have hj := HJ.out K[k] (List.getElem_mem hlt)
  obtain ⟨yb, yo, rfl, hyb, p0, p1⟩ := hY'.pr hlt
  obtain ⟨p, hp⟩ : ∃ p, K[k] = p := ⟨_, rfl⟩
  rw [hp] at p0 p1 hj
  have HJ2 := hid hj
  clear hp hj
  refine Ks ?_
  refine Rs 7 fun Q' K hK => ?_
  refine M1 hE 21 fun K' Kh ρ q21 => ?_; go_simp; (try clear q21)
  refine Ln hE Kh fun _ Eb => ?_; clear Kh K' hE a
  refine M1 Eb 22 fun K' Kh ρ q22 => ?_; go_simp; (try clear q22)
  refine Ln Eb Kh fun _ Ea => ?_; clear Kh K' Eb
  refine M1 Ea 25 fun K' Kh ρ q25 => ?_; go_simp; (try clear q25)
  refine Ln Ea Kh fun _ Eb => ?_; clear Kh K' Ea
  refine M2 Eb 187 188 fun K' Kh ρ q187 q188 => ?_; go_simp; (try go_bits); (try clear q187 q188)
  refine Ln Eb Kh fun _ Ea => ?_; clear Kh K' Eb
  refine M1 Ea 189 fun K' Kh ρ q189 => ?_; go_simp; (try clear q189)
  refine Ln Ea Kh fun _ Eb => ?_; clear Kh K' Ea
  refine M2 Eb 186 190 fun K' Kh ρ q186 q190 => ?_; go_simp; (try go_bits); (try clear q186 q190)
  go_at_call 33; refine (joins_any Z zc J p _ hZ' (by omega)).mono ?_; rw [HJ2.out]; rintro e6 w6 ⟨rfl, h6⟩
  (try clear r186 r190)
  refine Ln Eb Kh fun _ Ea => ?_; clear Kh K' Eb
  refine M1 Ea 191 fun K' Kh ρ q191 => ?_; go_simp; (try go_bits); (try simp (disch := omega) only [IntWalk.i64_in]); (try clear q191)
  refine Ln Ea Kh fun _ Eb => ?_; clear Kh K' Ea
  replace Eb := Eb.turn 192 (v' := .bool false) rfl (by (first | rfl | simp))
  refine late_done [21, 22, 25, 192] Eb hK (fun a hE => ?_); clear hK K Q' Eb; simp only [lk, pick, Nat.reduceEqDiff, ↓reduceIte] at hE
  refine Ks ?_
  refine cond_no hE (t := 192) rfl ?_
  refine Ks ?_
  refine Rs 3 fun Q' K hK => ?_
  refine M1 hE 25 fun K' Kh ρ q25 => ?_; go_simp; (try clear q25)
  refine Ln hE Kh fun _ Eb => ?_; clear Kh K' hE a
  refine M1 Eb 184 fun K' Kh ρ q184 => ?_; go_simp; (try go_bits); (try simp (disch := omega) only [IntWalk.i64_in]); (try clear q184)
  refine Ln Eb Kh fun _ Ea => ?_; clear Kh K' Eb
  refine M1 Ea 185 fun K' Kh ρ q185 => ?_; go_simp; (try clear q185)
  refine Ln Ea Kh fun _ Eb => ?_; clear Kh K' Ea
  refine late_done [21, 22, 25] Eb hK (fun a hE => ?_); clear hK K Q' Eb; simp only [lk, pick, Nat.reduceEqDiff, ↓reduceIte] at hE
  refine Ks ?_
  exact ⟨k + 1, ⟨hlt, by simpa using hE, hW.trans (h6.mono hW.size)⟩, by omega⟩
 ·clear h hk
  refine KsE ?_
  refine Ks ?_
  refine Rs 2 fun Q' K hK => ?_
  refine M0 fun K' Kh ρ => ?_; go_simp; (try go_bits);
  go_at_call 15; refine (written_any _).mono ?_; rintro e7 w7 ⟨rfl, h7⟩
  refine Ln hE Kh fun _ Eb => ?_; clear Kh K' hE a
  refine M1 Eb 193 fun K' Kh ρ q193 => ?_; go_simp; (try clear q193)
  refine Ln Eb Kh fun _ Ea => ?_; clear Kh K' Eb
  refine late_done [6] Ea hK (fun a hE => ?_); clear hK K Q' Ea; simp only [lk, pick, Nat.reduceEqDiff, ↓reduceIte] at hE
  refine Ks ?_
  exact ret_one hE rfl rfl ⟨rfl, hb.trans ((hW.trans (h7.mono hW.size)).mono hb.size)⟩
set_option maxRecDepth 100000 in
set_option maxHeartbeats 4000000 in
theorem wider_mid (hs : b.small cap lcap) (hsx : x.small cap lcap) (T : Option Addr) (tc : Nat) (ns : List Int) (m m' : Nat) (wl vl : List Nat) (hm : m ≤ m') (hwv : vl.length ≤ wl.length) (hwl9 : wl.length ≤ 9)
    (C3 : Hid (∀ W, BkAt W A L b → Arr W W.heap.size T (ints ns) → Calls Try.prog 29 #[.agg (bkV A cap L lcap b).toArray, .slice T ns.length tc] W fun e w' => (∃ (O : Option Addr) (oc : Nat) (t : Prs), e = .returned (.slice O t.length oc) ∧ OkP (couldsP b) 0 b.lines.length [] t ∧ Arr w' w'.heap.size O (pairsV t)) ∧ Below W.heap.size W w'))
    (h9 : b.lines.length ≤ 9)
    (C4 : Hid (∀ (t : Prs), t.length ≤ 9 → ∃ q q' : Bool, (q = true → q' = true) ∧ (∀ O oc W, BkAt W A L b → Arr W W.heap.size O (pairsV t) → Calls Try.prog 18 #[.agg (bkV A cap L lcap b).toArray, .slice O t.length oc] W fun e w' => e = .returned (.tuple #[.bool q, .int .i64 0]) ∧ Below W.heap.size W w') ∧
     (∀ O oc W, BkAt W A L x → Arr W W.heap.size O (pairsV t) → Calls Try.prog 18 #[.agg (bkV A cap L lcap x).toArray, .slice O t.length oc] W fun e w' => e = .returned (.tuple #[.bool q', .int .i64 0]) ∧ Below W.heap.size W w')))
    (C5 : Hid (∀ W, BkAt W A L b → Calls Try.prog 30 #[.agg (bkV A cap L lcap b).toArray] W fun e w' => e = .returned (.tuple #[.int .i64 m, .int .i64 0]) ∧ Below W.heap.size W w'))
    (C6 : Hid (∀ W, BkAt W A L x → Calls Try.prog 30 #[.agg (bkV A cap L lcap x).toArray] W fun e w' => e = .returned (.tuple #[.int .i64 m', .int .i64 0]) ∧ Below W.heap.size W w'))
    (C7 : Hid (∀ W, BkAt W A L b → Calls Try.prog 21 #[.agg (bkV A cap L lcap b).toArray] W fun e w' => (∃ T c, e = .returned (.tuple #[.slice T wl.length c, .int .i64 0])) ∧ Below W.heap.size W w'))
    (C8 : Hid (∀ W, BkAt W A L x → Calls Try.prog 21 #[.agg (bkV A cap L lcap x).toArray] W fun e w' => (∃ T c, e = .returned (.tuple #[.slice T vl.length c, .int .i64 0])) ∧ Below W.heap.size W w'))
    (HEnd : Hid (0 < m → ∀ (B X : Nat) (w W : World) (a : Act), BkAt W A L b → BkAt W A L x → Below w.heap.size w W → Cells W B (bkV A cap L lcap b) → Cells W X (bkV A cap L lcap x) → Fits 194 [(3, .pointer (some ⟨B, 0, none⟩)), (7, .pointer (some ⟨X, 0, none⟩))] a → (cr 13 (bodyOf Try.f8)).wp Try.prog (bodyPost Try.prog Try.f8 fun e w' => e = .returned (.bool true) ∧ Below w.heap.size w w') a W))
    (B X : Nat) (w V : World) (hM : BkAt V A L b) (hMx : BkAt V A L x) (hb : Below w.heap.size w V) (hT : Arr V V.heap.size T (ints ns)) (hCB : Cells V B (bkV A cap L lcap b)) (hCX : Cells V X (bkV A cap L lcap x)) (a : Act)
    (hE : Fits 194 [(1, .slice T ns.length tc), (3, .pointer (some ⟨B, 0, none⟩)), (7, .pointer (some ⟨X, 0, none⟩))] a) :
    (cr 4 (bodyOf Try.f8)).wp Try.prog (bodyPost Try.prog Try.f8 fun e w' => e = .returned (.bool true) ∧ Below w.heap.size w w') a V := by
 simp only [bkV] at C3 C4 C5 C6 C7 C8 hCB hCX
 have nB := hCB.1
 have cB0 := hCB.2 0 _ rfl
 have cB1 := hCB.2 1 _ rfl
 have cB2 := hCB.2 2 _ rfl
 have cB3 := hCB.2 3 _ rfl
 have cB4 := hCB.2 4 _ rfl
 have cB5 := hCB.2 5 _ rfl
 have cB6 := hCB.2 6 _ rfl
 have nX := hCX.1
 have cX0 := hCX.2 0 _ rfl
 have cX1 := hCX.2 1 _ rfl
 have cX2 := hCX.2 2 _ rfl
 have cX3 := hCX.2 3 _ rfl
 have cX4 := hCX.2 4 _ rfl
 have cX5 := hCX.2 5 _ rfl
 have cX6 := hCX.2 6 _ rfl
 refine wp_seq ?_; refine Ks ?_
 refine Rs 4 fun Q' K hK => ?_
 refine M1 hE 3 fun K' Kh ρ q3 => ?_; go_simp; (try clear q3)
 refine Ln hE Kh fun _ Eb => ?_; clear Kh K' hE a
 refine M1 Eb 1 fun K' Kh ρ q1 => ?_; go_simp; (try clear q1)
 refine Ln Eb Kh fun _ Ea => ?_; clear Kh K' Eb
 refine M2 Ea 61 62 fun K' Kh ρ q61 q62 => ?_; go_simp; (try go_bits); (try clear q61 q62)
 go_at_call 29; refine (C3.out _ hM hT).mono ?_; rintro e1 w1 ⟨⟨O, oc, t, rfl, hOk, hO⟩, h1⟩
 (try clear r61 r62)
 refine Ln Ea Kh fun _ Eb => ?_; clear Kh K' Ea
 refine M1 Eb 63 fun K' Kh ρ q63 => ?_; go_simp; (try clear q63)
 refine Ln Eb Kh fun _ Ea => ?_; clear Kh K' Eb
 refine late_done [3, 7, 8] Ea hK (fun a hE => ?_); clear hK K Q' Ea; simp only [lk, pick, Nat.reduceEqDiff, ↓reduceIte] at hE
 replace hb := hb.trans (h1.mono hb.size)
 replace hM := hM.below h1
 replace hMx := hMx.below h1
 replace hCB := hCB.below h1
 replace hCX := hCX.below h1
 clear nB cB0 cB1 cB2 cB3 cB4 cB5 cB6 nX cX0 cX1 cX2 cX3 cX4 cX5 cX6
 clear h1
 have nB := hCB.1
 have cB0 := hCB.2 0 _ rfl
 have cB1 := hCB.2 1 _ rfl
 have cB2 := hCB.2 2 _ rfl
 have cB3 := hCB.2 3 _ rfl
 have cB4 := hCB.2 4 _ rfl
 have cB5 := hCB.2 5 _ rfl
 have cB6 := hCB.2 6 _ rfl
 have nX := hCX.1
 have cX0 := hCX.2 0 _ rfl
 have cX1 := hCX.2 1 _ rfl
 have cX2 := hCX.2 2 _ rfl
 have cX3 := hCX.2 3 _ rfl
 have cX4 := hCX.2 4 _ rfl
 have cX5 := hCX.2 5 _ rfl
 have cX6 := hCX.2 6 _ rfl
 refine Ks ?_
 have ht9 : t.length ≤ 9 := by
  rcases hOk.len with h | h
  ·omega
  ·rw [h]; exact Nat.zero_le _
 obtain ⟨q, q', hqq, hq1, hq2⟩ := C4.out t ht9
 have C9 := hid hq1
 have C10 := hid hq2
 have HQQ := hid hqq
 clear hqq hq1 hq2 hOk C4
 refine Rs 8 fun Q' K hK => ?_
 refine M1 hE 3 fun K' Kh ρ q3 => ?_; go_simp; (try clear q3)
 refine Ln hE Kh fun _ Eb => ?_; clear Kh K' hE a
 refine M1 Eb 8 fun K' Kh ρ q8 => ?_; go_simp; (try clear q8)
 refine Ln Eb Kh fun _ Ea => ?_; clear Kh K' Eb
 refine M2 Ea 65 66 fun K' Kh ρ q65 q66 => ?_; go_simp; (try go_bits); (try clear q65 q66)
 go_at_call 18; refine (C9.out _ _ _ hM hO).mono ?_; rintro e2 w2 ⟨rfl, h2⟩
 (try clear r65 r66)
 refine Ln Ea Kh fun _ Eb => ?_; clear Kh K' Ea
 refine M1 Eb 67 fun K' Kh ρ q67 => ?_; go_simp; (try clear q67)
 refine Ln Eb Kh fun _ Ea => ?_; clear Kh K' Eb
 refine M1 Ea 64 fun K' Kh ρ q64 => ?_; go_simp; (try clear q64)
 refine Ln Ea Kh fun _ Eb => ?_; clear Kh K' Ea
 refine M1 Eb 64 fun K' Kh ρ q64 => ?_; go_simp; (try clear q64)
 refine Ln Eb Kh fun _ Ea => ?_; clear Kh K' Eb
 refine M1 Ea 68 fun K' Kh ρ q68 => ?_; go_simp; (try clear q68)
 refine Ln Ea Kh fun _ Eb => ?_; clear Kh K' Ea
 refine M1 Eb 69 fun K' Kh ρ q69 => ?_; go_simp; (try clear q69)
 refine Ln Eb Kh fun _ Ea => ?_; clear Kh K' Eb
 refine late_done [3, 7, 8, 9, 10] Ea hK (fun a hE => ?_); clear hK K Q' Ea; simp only [lk, pick, Nat.reduceEqDiff, ↓reduceIte] at hE
 replace hb := hb.trans (h2.mono hb.size)
 replace hM := hM.below h2
 replace hMx := hMx.below h2
 replace hCB := hCB.below h2
 replace hCX := hCX.below h2
 replace hO := (hO.below h2).more h2.size
 clear nB cB0 cB1 cB2 cB3 cB4 cB5 cB6 nX cX0 cX1 cX2 cX3 cX4 cX5 cX6
 clear h2
 have nB := hCB.1
 have cB0 := hCB.2 0 _ rfl
 have cB1 := hCB.2 1 _ rfl
 have cB2 := hCB.2 2 _ rfl
 have cB3 := hCB.2 3 _ rfl
 have cB4 := hCB.2 4 _ rfl
 have cB5 := hCB.2 5 _ rfl
 have cB6 := hCB.2 6 _ rfl
 have nX := hCX.1
 have cX0 := hCX.2 0 _ rfl
 have cX1 := hCX.2 1 _ rfl
 have cX2 := hCX.2 2 _ rfl
 have cX3 := hCX.2 3 _ rfl
 have cX4 := hCX.2 4 _ rfl
 have cX5 := hCX.2 5 _ rfl
 have cX6 := hCX.2 6 _ rfl
 refine Ks ?_
 refine Rs 8 fun Q' K hK => ?_
 refine M1 hE 7 fun K' Kh ρ q7 => ?_; go_simp; (try clear q7)
 refine Ln hE Kh fun _ Eb => ?_; clear Kh K' hE a
 refine M1 Eb 8 fun K' Kh ρ q8 => ?_; go_simp; (try clear q8)
 refine Ln Eb Kh fun _ Ea => ?_; clear Kh K' Eb
 refine M2 Ea 71 72 fun K' Kh ρ q71 q72 => ?_; go_simp; (try go_bits); (try clear q71 q72)
 go_at_call 18; refine (C10.out _ _ _ hMx hO).mono ?_; rintro e3 w3 ⟨rfl, h3⟩
 (try clear r71 r72)
 refine Ln Ea Kh fun _ Eb => ?_; clear Kh K' Ea
 refine M1 Eb 73 fun K' Kh ρ q73 => ?_; go_simp; (try clear q73)
 refine Ln Eb Kh fun _ Ea => ?_; clear Kh K' Eb
 refine M1 Ea 70 fun K' Kh ρ q70 => ?_; go_simp; (try clear q70)
 refine Ln Ea Kh fun _ Eb => ?_; clear Kh K' Ea
 refine M1 Eb 70 fun K' Kh ρ q70 => ?_; go_simp; (try clear q70)
 refine Ln Eb Kh fun _ Ea => ?_; clear Kh K' Eb
 refine M1 Ea 74 fun K' Kh ρ q74 => ?_; go_simp; (try clear q74)
 refine Ln Ea Kh fun _ Eb => ?_; clear Kh K' Ea
 refine M1 Eb 75 fun K' Kh ρ q75 => ?_; go_simp; (try clear q75)
 refine Ln Eb Kh fun _ Ea => ?_; clear Kh K' Eb
 refine late_done [3, 7, 8, 9, 10, 11, 12] Ea hK (fun a hE => ?_); clear hK K Q' Ea; simp only [lk, pick, Nat.reduceEqDiff, ↓reduceIte] at hE
 replace hb := hb.trans (h3.mono hb.size)
 replace hM := hM.below h3
 replace hMx := hMx.below h3
 replace hCB := hCB.below h3
 replace hCX := hCX.below h3
 replace hO := (hO.below h3).more h3.size
 clear nB cB0 cB1 cB2 cB3 cB4 cB5 cB6 nX cX0 cX1 cX2 cX3 cX4 cX5 cX6
 clear h3
 have nB := hCB.1
 have cB0 := hCB.2 0 _ rfl
 have cB1 := hCB.2 1 _ rfl
 have cB2 := hCB.2 2 _ rfl
 have cB3 := hCB.2 3 _ rfl
 have cB4 := hCB.2 4 _ rfl
 have cB5 := hCB.2 5 _ rfl
 have cB6 := hCB.2 6 _ rfl
 have nX := hCX.1
 have cX0 := hCX.2 0 _ rfl
 have cX1 := hCX.2 1 _ rfl
 have cX2 := hCX.2 2 _ rfl
 have cX3 := hCX.2 3 _ rfl
 have cX4 := hCX.2 4 _ rfl
 have cX5 := hCX.2 5 _ rfl
 have cX6 := hCX.2 6 _ rfl
 refine Ks ?_
 refine Rs 7 fun Q' K hK => ?_
 refine M1 hE 3 fun K' Kh ρ q3 => ?_; go_simp; (try clear q3)
 refine Ln hE Kh fun _ Eb => ?_; clear Kh K' hE a
 refine M1 Eb 77 fun K' Kh ρ q77 => ?_; go_simp; (try go_bits); (try clear q77)
 go_at_call 30; refine (C5.out _ hM).mono ?_; rintro e4 w4 ⟨rfl, h4⟩
 (try clear r77)
 refine Ln Eb Kh fun _ Ea => ?_; clear Kh K' Eb
 refine M1 Ea 78 fun K' Kh ρ q78 => ?_; go_simp; (try clear q78)
 refine Ln Ea Kh fun _ Eb => ?_; clear Kh K' Ea
 refine M1 Eb 76 fun K' Kh ρ q76 => ?_; go_simp; (try clear q76)
 refine Ln Eb Kh fun _ Ea => ?_; clear Kh K' Eb
 refine M1 Ea 76 fun K' Kh ρ q76 => ?_; go_simp; (try clear q76)
 refine Ln Ea Kh fun _ Eb => ?_; clear Kh K' Ea
 refine M1 Eb 79 fun K' Kh ρ q79 => ?_; go_simp; (try clear q79)
 refine Ln Eb Kh fun _ Ea => ?_; clear Kh K' Eb
 refine M1 Ea 80 fun K' Kh ρ q80 => ?_; go_simp; (try clear q80)
 refine Ln Ea Kh fun _ Eb => ?_; clear Kh K' Ea
 refine late_done [3, 7, 9, 10, 11, 12, 13, 14] Eb hK (fun a hE => ?_); clear hK K Q' Eb; simp only [lk, pick, Nat.reduceEqDiff, ↓reduceIte] at hE
 replace hb := hb.trans (h4.mono hb.size)
 replace hM := hM.below h4
 replace hMx := hMx.below h4
 replace hCB := hCB.below h4
 replace hCX := hCX.below h4
 replace hO := (hO.below h4).more h4.size
 clear nB cB0 cB1 cB2 cB3 cB4 cB5 cB6 nX cX0 cX1 cX2 cX3 cX4 cX5 cX6
 clear h4
 have nB := hCB.1
 have cB0 := hCB.2 0 _ rfl
 have cB1 := hCB.2 1 _ rfl
 have cB2 := hCB.2 2 _ rfl
 have cB3 := hCB.2 3 _ rfl
 have cB4 := hCB.2 4 _ rfl
 have cB5 := hCB.2 5 _ rfl
 have cB6 := hCB.2 6 _ rfl
 have nX := hCX.1
 have cX0 := hCX.2 0 _ rfl
 have cX1 := hCX.2 1 _ rfl
 have cX2 := hCX.2 2 _ rfl
 have cX3 := hCX.2 3 _ rfl
 have cX4 := hCX.2 4 _ rfl
 have cX5 := hCX.2 5 _ rfl
 have cX6 := hCX.2 6 _ rfl
 refine Ks ?_
 refine Rs 7 fun Q' K hK => ?_
 refine M1 hE 7 fun K' Kh ρ q7 => ?_; go_simp; (try clear q7)
 refine Ln hE Kh fun _ Eb => ?_; clear Kh K' hE a
 refine M1 Eb 82 fun K' Kh ρ q82 => ?_; go_simp; (try go_bits); (try clear q82)
 go_at_call 30; refine (C6.out _ hMx).mono ?_; rintro e5 w5 ⟨rfl, h5⟩
 (try clear r82)
 refine Ln Eb Kh fun _ Ea => ?_; clear Kh K' Eb
 refine M1 Ea 83 fun K' Kh ρ q83 => ?_; go_simp; (try clear q83)
 refine Ln Ea Kh fun _ Eb => ?_; clear Kh K' Ea
 refine M1 Eb 81 fun K' Kh ρ q81 => ?_; go_simp; (try clear q81)
 refine Ln Eb Kh fun _ Ea => ?_; clear Kh K' Eb
 refine M1 Ea 81 fun K' Kh ρ q81 => ?_; go_simp; (try clear q81)
 refine Ln Ea Kh fun _ Eb => ?_; clear Kh K' Ea
 refine M1 Eb 84 fun K' Kh ρ q84 => ?_; go_simp; (try clear q84)
 refine Ln Eb Kh fun _ Ea => ?_; clear Kh K' Eb
 refine M1 Ea 85 fun K' Kh ρ q85 => ?_; go_simp; (try clear q85)
 refine Ln Ea Kh fun _ Eb => ?_; clear Kh K' Ea
 refine late_done [3, 7, 9, 10, 11, 12, 13, 14, 15, 16] Eb hK (fun a hE => ?_); clear hK K Q' Eb; simp only [lk, pick, Nat.reduceEqDiff, ↓reduceIte] at hE
 replace hb := hb.trans (h5.mono hb.size)
 replace hM := hM.below h5
 replace hMx := hMx.below h5
 replace hCB := hCB.below h5
 replace hCX := hCX.below h5
 replace hO := (hO.below h5).more h5.size
 clear nB cB0 cB1 cB2 cB3 cB4 cB5 cB6 nX cX0 cX1 cX2 cX3 cX4 cX5 cX6
 clear h5
 have nB := hCB.1
 have cB0 := hCB.2 0 _ rfl
 have cB1 := hCB.2 1 _ rfl
 have cB2 := hCB.2 2 _ rfl
 have cB3 := hCB.2 3 _ rfl
 have cB4 := hCB.2 4 _ rfl
 have cB5 := hCB.2 5 _ rfl
 have cB6 := hCB.2 6 _ rfl
 have nX := hCX.1
 have cX0 := hCX.2 0 _ rfl
 have cX1 := hCX.2 1 _ rfl
 have cX2 := hCX.2 2 _ rfl
 have cX3 := hCX.2 3 _ rfl
 have cX4 := hCX.2 4 _ rfl
 have cX5 := hCX.2 5 _ rfl
 have cX6 := hCX.2 6 _ rfl
 refine Ks ?_
 refine Rs 7 fun Q' K hK => ?_
 refine M1 hE 3 fun K' Kh ρ q3 => ?_; go_simp; (try clear q3)
 refine Ln hE Kh fun _ Eb => ?_; clear Kh K' hE a
 refine M1 Eb 87 fun K' Kh ρ q87 => ?_; go_simp; (try go_bits); (try clear q87)
 go_at_call 21; refine (C7.out _ hM).mono ?_; rintro e6 w6 ⟨⟨Wl, wc, rfl⟩, h6⟩
 (try clear r87)
 refine Ln Eb Kh fun _ Ea => ?_; clear Kh K' Eb
 refine M1 Ea 88 fun K' Kh ρ q88 => ?_; go_simp; (try clear q88)
 refine Ln Ea Kh fun _ Eb => ?_; clear Kh K' Ea
 refine M1 Eb 86 fun K' Kh ρ q86 => ?_; go_simp; (try clear q86)
 refine Ln Eb Kh fun _ Ea => ?_; clear Kh K' Eb
 refine M1 Ea 86 fun K' Kh ρ q86 => ?_; go_simp; (try clear q86)
 refine Ln Ea Kh fun _ Eb => ?_; clear Kh K' Ea
 refine M1 Eb 89 fun K' Kh ρ q89 => ?_; go_simp; (try clear q89)
 refine Ln Eb Kh fun _ Ea => ?_; clear Kh K' Eb
 refine M1 Ea 90 fun K' Kh ρ q90 => ?_; go_simp; (try clear q90)
 refine Ln Ea Kh fun _ Eb => ?_; clear Kh K' Ea
 refine late_done [3, 7, 9, 10, 11, 12, 13, 14, 15, 16, 17, 18] Eb hK (fun a hE => ?_); clear hK K Q' Eb; simp only [lk, pick, Nat.reduceEqDiff, ↓reduceIte] at hE
 replace hb := hb.trans (h6.mono hb.size)
 replace hM := hM.below h6
 replace hMx := hMx.below h6
 replace hCB := hCB.below h6
 replace hCX := hCX.below h6
 replace hO := (hO.below h6).more h6.size
 clear nB cB0 cB1 cB2 cB3 cB4 cB5 cB6 nX cX0 cX1 cX2 cX3 cX4 cX5 cX6
 clear h6
 have nB := hCB.1
 have cB0 := hCB.2 0 _ rfl
 have cB1 := hCB.2 1 _ rfl
 have cB2 := hCB.2 2 _ rfl
 have cB3 := hCB.2 3 _ rfl
 have cB4 := hCB.2 4 _ rfl
 have cB5 := hCB.2 5 _ rfl
 have cB6 := hCB.2 6 _ rfl
 have nX := hCX.1
 have cX0 := hCX.2 0 _ rfl
 have cX1 := hCX.2 1 _ rfl
 have cX2 := hCX.2 2 _ rfl
 have cX3 := hCX.2 3 _ rfl
 have cX4 := hCX.2 4 _ rfl
 have cX5 := hCX.2 5 _ rfl
 have cX6 := hCX.2 6 _ rfl
 refine Ks ?_
 refine Rs 7 fun Q' K hK => ?_
 refine M1 hE 7 fun K' Kh ρ q7 => ?_; go_simp; (try clear q7)
 refine Ln hE Kh fun _ Eb => ?_; clear Kh K' hE a
 refine M1 Eb 92 fun K' Kh ρ q92 => ?_; go_simp; (try go_bits); (try clear q92)
 go_at_call 21; refine (C8.out _ hMx).mono ?_; rintro e7 w7 ⟨⟨Vl, vc, rfl⟩, h7⟩
 (try clear r92)
 refine Ln Eb Kh fun _ Ea => ?_; clear Kh K' Eb
 refine M1 Ea 93 fun K' Kh ρ q93 => ?_; go_simp; (try clear q93)
 refine Ln Ea Kh fun _ Eb => ?_; clear Kh K' Ea
 refine M1 Eb 91 fun K' Kh ρ q91 => ?_; go_simp; (try clear q91)
 refine Ln Eb Kh fun _ Ea => ?_; clear Kh K' Eb
 refine M1 Ea 91 fun K' Kh ρ q91 => ?_; go_simp; (try clear q91)
 refine Ln Ea Kh fun _ Eb => ?_; clear Kh K' Ea
 refine M1 Eb 94 fun K' Kh ρ q94 => ?_; go_simp; (try clear q94)
 refine Ln Eb Kh fun _ Ea => ?_; clear Kh K' Eb
 refine M1 Ea 95 fun K' Kh ρ q95 => ?_; go_simp; (try clear q95)
 refine Ln Ea Kh fun _ Eb => ?_; clear Kh K' Ea
 refine late_done [3, 7, 9, 10, 11, 12, 13, 14, 15, 16, 17, 18, 19, 20] Eb hK (fun a hE => ?_); clear hK K Q' Eb; simp only [lk, pick, Nat.reduceEqDiff, ↓reduceIte] at hE
 replace hb := hb.trans (h7.mono hb.size)
 replace hM := hM.below h7
 replace hMx := hMx.below h7
 replace hCB := hCB.below h7
 replace hCX := hCX.below h7
 replace hO := (hO.below h7).more h7.size
 clear nB cB0 cB1 cB2 cB3 cB4 cB5 cB6 nX cX0 cX1 cX2 cX3 cX4 cX5 cX6
 clear h7
 have nB := hCB.1
 have cB0 := hCB.2 0 _ rfl
 have cB1 := hCB.2 1 _ rfl
 have cB2 := hCB.2 2 _ rfl
 have cB3 := hCB.2 3 _ rfl
 have cB4 := hCB.2 4 _ rfl
 have cB5 := hCB.2 5 _ rfl
 have cB6 := hCB.2 6 _ rfl
 have nX := hCX.1
 have cX0 := hCX.2 0 _ rfl
 have cX1 := hCX.2 1 _ rfl
 have cX2 := hCX.2 2 _ rfl
 have cX3 := hCX.2 3 _ rfl
 have cX4 := hCX.2 4 _ rfl
 have cX5 := hCX.2 5 _ rfl
 have cX6 := hCX.2 6 _ rfl
 refine Ks ?_
 cases hq : q
 ·rw [hq] at hE
  refine Rs 41 fun Q' K hK => ?_
  refine M1 hE 10 fun K' Kh ρ q10 => ?_; go_simp; (try clear q10)
  refine Ln hE Kh fun _ Eb => ?_; clear Kh K' hE a
  refine M1 Eb 96 fun K' Kh ρ q96 => ?_; go_simp; (try go_bits); (try clear q96)
  refine Ln Eb Kh fun _ Ea => ?_; clear Kh K' Eb
  replace Ea := Ea.turn 97 (v' := .bool false) rfl (by (first | rfl | simp))
  refine M1 Ea 97 fun K' Kh ρ q97 => ?_; go_simp; (try clear q97)
  refine Ln Ea Kh fun _ Eb => ?_; clear Kh K' Ea
  refine N1 Eb 98 12 fun K' Kh ρ q12 => ?_; go_simp; (try clear q12)
  refine Ln Eb Kh fun _ Ea => ?_; clear Kh K' Eb
  refine N1 Ea 98 99 fun K' Kh ρ q99 => ?_; go_simp; (try go_bits); (try clear q99)
  refine Ln Ea Kh fun _ Eb => ?_; clear Kh K' Ea
  replace Eb := Eb.turn 100 (v' := .bool false) rfl (by (first | rfl | simp))
  refine M2 Eb 98 100 fun K' Kh ρ q98 q100 => ?_; go_simp; (try go_bits); (try clear q98 q100)
  refine Ln Eb Kh fun _ Ea => ?_; clear Kh K' Eb
  refine M1 Ea 101 fun K' Kh ρ q101 => ?_; go_simp; (try clear q101)
  refine Ln Ea Kh fun _ Eb => ?_; clear Kh K' Ea
  refine N1 Eb 102 14 fun K' Kh ρ q14 => ?_; go_simp; (try clear q14)
  refine Ln Eb Kh fun _ Ea => ?_; clear Kh K' Eb
  refine N1 Ea 102 103 fun K' Kh ρ q103 => ?_; go_simp; (try go_bits); (try clear q103)
  refine Ln Ea Kh fun _ Eb => ?_; clear Kh K' Ea
  replace Eb := Eb.turn 104 (v' := .bool false) rfl (by (first | rfl | simp))
  refine M2 Eb 102 104 fun K' Kh ρ q102 q104 => ?_; go_simp; (try go_bits); (try clear q102 q104)
  refine Ln Eb Kh fun _ Ea => ?_; clear Kh K' Eb
  refine M1 Ea 105 fun K' Kh ρ q105 => ?_; go_simp; (try clear q105)
  refine Ln Ea Kh fun _ Eb => ?_; clear Kh K' Ea
  refine N1 Eb 106 16 fun K' Kh ρ q16 => ?_; go_simp; (try clear q16)
  refine Ln Eb Kh fun _ Ea => ?_; clear Kh K' Eb
  refine N1 Ea 106 107 fun K' Kh ρ q107 => ?_; go_simp; (try go_bits); (try clear q107)
  refine Ln Ea Kh fun _ Eb => ?_; clear Kh K' Ea
  replace Eb := Eb.turn 108 (v' := .bool false) rfl (by (first | rfl | simp))
  refine M2 Eb 106 108 fun K' Kh ρ q106 q108 => ?_; go_simp; (try go_bits); (try clear q106 q108)
  refine Ln Eb Kh fun _ Ea => ?_; clear Kh K' Eb
  refine M1 Ea 109 fun K' Kh ρ q109 => ?_; go_simp; (try clear q109)
  refine Ln Ea Kh fun _ Eb => ?_; clear Kh K' Ea
  refine N1 Eb 110 18 fun K' Kh ρ q18 => ?_; go_simp; (try clear q18)
  refine Ln Eb Kh fun _ Ea => ?_; clear Kh K' Eb
  refine N1 Ea 110 111 fun K' Kh ρ q111 => ?_; go_simp; (try go_bits); (try clear q111)
  refine Ln Ea Kh fun _ Eb => ?_; clear Kh K' Ea
  replace Eb := Eb.turn 112 (v' := .bool false) rfl (by (first | rfl | simp))
  refine M2 Eb 110 112 fun K' Kh ρ q110 q112 => ?_; go_simp; (try go_bits); (try clear q110 q112)
  refine Ln Eb Kh fun _ Ea => ?_; clear Kh K' Eb
  refine M1 Ea 113 fun K' Kh ρ q113 => ?_; go_simp; (try clear q113)
  refine Ln Ea Kh fun _ Eb => ?_; clear Kh K' Ea
  refine N1 Eb 114 20 fun K' Kh ρ q20 => ?_; go_simp; (try clear q20)
  refine Ln Eb Kh fun _ Ea => ?_; clear Kh K' Eb
  refine N1 Ea 114 115 fun K' Kh ρ q115 => ?_; go_simp; (try go_bits); (try clear q115)
  refine Ln Ea Kh fun _ Eb => ?_; clear Kh K' Ea
  replace Eb := Eb.turn 116 (v' := .bool false) rfl (by (first | rfl | simp))
  refine M2 Eb 114 116 fun K' Kh ρ q114 q116 => ?_; go_simp; (try go_bits); (try clear q114 q116)
  refine Ln Eb Kh fun _ Ea => ?_; clear Kh K' Eb
  refine M1 Ea 117 fun K' Kh ρ q117 => ?_; go_simp; (try clear q117)
  refine Ln Ea Kh fun _ Eb => ?_; clear Kh K' Ea
  refine N1 Eb 118 9 fun K' Kh ρ q9 => ?_; go_simp; (try clear q9)
  refine Ln Eb Kh fun _ Ea => ?_; clear Kh K' Eb
  refine N1 Ea 118 119 fun K' Kh ρ q119 => ?_; go_simp; (try clear q119)
  refine Ln Ea Kh fun _ Eb => ?_; clear Kh K' Ea
  refine Lno Eb 120 ?_
  refine Lu Eb fun _ Ea => ?_
  refine Lno Ea 120 ?_
  refine Lu Ea fun _ Eb => ?_
  refine N2 Eb 118 120 122 fun K' Kh ρ q120 q122 => ?_; go_simp; (try go_bits); (try clear q120 q122)
  refine Ln Eb Kh fun _ Ea => ?_; clear Kh K' Eb
  refine M2 Ea 118 123 fun K' Kh ρ q118 q123 => ?_; go_simp; (try go_bits); (try clear q118 q123)
  refine Ln Ea Kh fun _ Eb => ?_; clear Kh K' Ea
  refine M1 Eb 124 fun K' Kh ρ q124 => ?_; go_simp; (try clear q124)
  refine Ln Eb Kh fun _ Ea => ?_; clear Kh K' Eb
  refine N1 Ea 125 15 fun K' Kh ρ q15 => ?_; go_simp; (try clear q15)
  refine Ln Ea Kh fun _ Eb => ?_; clear Kh K' Ea
  refine N1 Eb 125 13 fun K' Kh ρ q13 => ?_; go_simp; (try clear q13)
  refine Ln Eb Kh fun _ Ea => ?_; clear Kh K' Eb
  refine N2 Ea 125 126 127 fun K' Kh ρ q126 q127 => ?_; go_simp; (try go_bits); (try clear q126 q127)
  refine Ln Ea Kh fun _ Eb => ?_; clear Kh K' Ea
  replace Eb := Eb.turn 128 (v' := .bool false) rfl (by (first | (simp; done) | (simp; omega)))
  refine M2 Eb 125 128 fun K' Kh ρ q125 q128 => ?_; go_simp; (try go_bits); (try clear q125 q128)
  refine Ln Eb Kh fun _ Ea => ?_; clear Kh K' Eb
  refine M1 Ea 129 fun K' Kh ρ q129 => ?_; go_simp; (try clear q129)
  refine Ln Ea Kh fun _ Eb => ?_; clear Kh K' Ea
  refine N1 Eb 130 19 fun K' Kh ρ q19 => ?_; go_simp; (try clear q19)
  refine Ln Eb Kh fun _ Ea => ?_; clear Kh K' Eb
  refine N1 Ea 130 131 fun K' Kh ρ q131 => ?_; go_simp; (try go_bits); (try clear q131)
  refine Ln Ea Kh fun _ Eb => ?_; clear Kh K' Ea
  refine N1 Eb 130 17 fun K' Kh ρ q17 => ?_; go_simp; (try clear q17)
  refine Ln Eb Kh fun _ Ea => ?_; clear Kh K' Eb
  refine N1 Ea 130 133 fun K' Kh ρ q133 => ?_; go_simp; (try go_bits); (try clear q133)
  refine Ln Ea Kh fun _ Eb => ?_; clear Kh K' Ea
  refine N2 Eb 130 132 134 fun K' Kh ρ q132 q134 => ?_; go_simp; (try go_bits); (try clear q132 q134)
  refine Ln Eb Kh fun _ Ea => ?_; clear Kh K' Eb
  replace Ea := Ea.turn 135 (v' := .bool false) rfl (by (first | (simp; done) | (simp; omega)))
  refine M2 Ea 130 135 fun K' Kh ρ q130 q135 => ?_; go_simp; (try go_bits); (try clear q130 q135)
  refine Ln Ea Kh fun _ Eb => ?_; clear Kh K' Ea
  refine late_done [3, 7, 13, 136] Eb hK (fun a hE => ?_); clear hK K Q' Eb; simp only [lk, pick, Nat.reduceEqDiff, ↓reduceIte] at hE
  refine Ks ?_
  refine cond_no hE (t := 136) rfl ?_
  refine Ks ?_
  refine Rs 2 fun Q' K hK => ?_
  refine M1 hE 13 fun K' Kh ρ q13 => ?_; go_simp; (try clear q13)
  refine Ln hE Kh fun _ Eb => ?_; clear Kh K' hE a
  refine M1 Eb 137 fun K' Kh ρ q137 => ?_; go_simp; (try go_bits); (try clear q137)
  refine Ln Eb Kh fun _ Ea => ?_; clear Kh K' Eb
  refine late_done [3, 7, 138] Ea hK (fun a hE => ?_); clear hK K Q' Ea; simp only [lk, pick, Nat.reduceEqDiff, ↓reduceIte] at hE
  refine Ks ?_
  refine cond_part hE (t := 138) rfl (fun h => ?_) (fun h => ?_)
  ·refine Ks ?_
   refine Rs 2 fun Q' K hK => ?_
   refine M0 fun K' Kh ρ => ?_; go_simp; (try go_bits);
   go_at_call 15; refine (written_any _).mono ?_; rintro e8 w8 ⟨rfl, h8⟩
   refine Ln hE Kh fun _ Eb => ?_; clear Kh K' hE a
   refine M1 Eb 139 fun K' Kh ρ q139 => ?_; go_simp; (try clear q139)
   refine Ln Eb Kh fun _ Ea => ?_; clear Kh K' Eb
   refine late_done [6] Ea hK (fun a hE => ?_); clear hK K Q' Ea; simp only [lk, pick, Nat.reduceEqDiff, ↓reduceIte] at hE
   refine Ks ?_
   exact ret_one hE rfl rfl ⟨rfl, hb.trans (h8.mono hb.size)⟩
  ·have hm0 : ¬ (m : Int) = 0 := by simpa using h
   refine wp_skip ?_
   refine KsE ?_
   exact HEnd.out (by omega) B X w w7 _ hM hMx hb hCB hCX (hE.keep [3, 7])
 ·have hq2 := HQQ.out hq
  rw [hq, hq2] at hE
  refine Rs 41 fun Q' K hK => ?_
  refine M1 hE 10 fun K' Kh ρ q10 => ?_; go_simp; (try clear q10)
  refine Ln hE Kh fun _ Eb => ?_; clear Kh K' hE a
  refine M1 Eb 96 fun K' Kh ρ q96 => ?_; go_simp; (try go_bits); (try clear q96)
  refine Ln Eb Kh fun _ Ea => ?_; clear Kh K' Eb
  replace Ea := Ea.turn 97 (v' := .bool false) rfl (by (first | rfl | simp))
  refine M1 Ea 97 fun K' Kh ρ q97 => ?_; go_simp; (try clear q97)
  refine Ln Ea Kh fun _ Eb => ?_; clear Kh K' Ea
  refine N1 Eb 98 12 fun K' Kh ρ q12 => ?_; go_simp; (try clear q12)
  refine Ln Eb Kh fun _ Ea => ?_; clear Kh K' Eb
  refine N1 Ea 98 99 fun K' Kh ρ q99 => ?_; go_simp; (try go_bits); (try clear q99)
  refine Ln Ea Kh fun _ Eb => ?_; clear Kh K' Ea
  replace Eb := Eb.turn 100 (v' := .bool false) rfl (by (first | rfl | simp))
  refine M2 Eb 98 100 fun K' Kh ρ q98 q100 => ?_; go_simp; (try go_bits); (try clear q98 q100)
  refine Ln Eb Kh fun _ Ea => ?_; clear Kh K' Eb
  refine M1 Ea 101 fun K' Kh ρ q101 => ?_; go_simp; (try clear q101)
  refine Ln Ea Kh fun _ Eb => ?_; clear Kh K' Ea
  refine N1 Eb 102 14 fun K' Kh ρ q14 => ?_; go_simp; (try clear q14)
  refine Ln Eb Kh fun _ Ea => ?_; clear Kh K' Eb
  refine N1 Ea 102 103 fun K' Kh ρ q103 => ?_; go_simp; (try go_bits); (try clear q103)
  refine Ln Ea Kh fun _ Eb => ?_; clear Kh K' Ea
  replace Eb := Eb.turn 104 (v' := .bool false) rfl (by (first | rfl | simp))
  refine M2 Eb 102 104 fun K' Kh ρ q102 q104 => ?_; go_simp; (try go_bits); (try clear q102 q104)
  refine Ln Eb Kh fun _ Ea => ?_; clear Kh K' Eb
  refine M1 Ea 105 fun K' Kh ρ q105 => ?_; go_simp; (try clear q105)
  refine Ln Ea Kh fun _ Eb => ?_; clear Kh K' Ea
  refine N1 Eb 106 16 fun K' Kh ρ q16 => ?_; go_simp; (try clear q16)
  refine Ln Eb Kh fun _ Ea => ?_; clear Kh K' Eb
  refine N1 Ea 106 107 fun K' Kh ρ q107 => ?_; go_simp; (try go_bits); (try clear q107)
  refine Ln Ea Kh fun _ Eb => ?_; clear Kh K' Ea
  replace Eb := Eb.turn 108 (v' := .bool false) rfl (by (first | rfl | simp))
  refine M2 Eb 106 108 fun K' Kh ρ q106 q108 => ?_; go_simp; (try go_bits); (try clear q106 q108)
  refine Ln Eb Kh fun _ Ea => ?_; clear Kh K' Eb
  refine M1 Ea 109 fun K' Kh ρ q109 => ?_; go_simp; (try clear q109)
  refine Ln Ea Kh fun _ Eb => ?_; clear Kh K' Ea
  refine N1 Eb 110 18 fun K' Kh ρ q18 => ?_; go_simp; (try clear q18)
  refine Ln Eb Kh fun _ Ea => ?_; clear Kh K' Eb
  refine N1 Ea 110 111 fun K' Kh ρ q111 => ?_; go_simp; (try go_bits); (try clear q111)
  refine Ln Ea Kh fun _ Eb => ?_; clear Kh K' Ea
  replace Eb := Eb.turn 112 (v' := .bool false) rfl (by (first | rfl | simp))
  refine M2 Eb 110 112 fun K' Kh ρ q110 q112 => ?_; go_simp; (try go_bits); (try clear q110 q112)
  refine Ln Eb Kh fun _ Ea => ?_; clear Kh K' Eb
  refine M1 Ea 113 fun K' Kh ρ q113 => ?_; go_simp; (try clear q113)
  refine Ln Ea Kh fun _ Eb => ?_; clear Kh K' Ea
  refine N1 Eb 114 20 fun K' Kh ρ q20 => ?_; go_simp; (try clear q20)
  refine Ln Eb Kh fun _ Ea => ?_; clear Kh K' Eb
  refine N1 Ea 114 115 fun K' Kh ρ q115 => ?_; go_simp; (try go_bits); (try clear q115)
  refine Ln Ea Kh fun _ Eb => ?_; clear Kh K' Ea
  replace Eb := Eb.turn 116 (v' := .bool false) rfl (by (first | rfl | simp))
  refine M2 Eb 114 116 fun K' Kh ρ q114 q116 => ?_; go_simp; (try go_bits); (try clear q114 q116)
  refine Ln Eb Kh fun _ Ea => ?_; clear Kh K' Eb
  refine M1 Ea 117 fun K' Kh ρ q117 => ?_; go_simp; (try clear q117)
  refine Ln Ea Kh fun _ Eb => ?_; clear Kh K' Ea
  refine N1 Eb 118 9 fun K' Kh ρ q9 => ?_; go_simp; (try clear q9)
  refine Ln Eb Kh fun _ Ea => ?_; clear Kh K' Eb
  refine N1 Ea 118 119 fun K' Kh ρ q119 => ?_; go_simp; (try clear q119)
  refine Ln Ea Kh fun _ Eb => ?_; clear Kh K' Ea
  refine N1 Eb 120 11 fun K' Kh ρ q11 => ?_; go_simp; (try clear q11)
  refine Ln Eb Kh fun _ Ea => ?_; clear Kh K' Eb
  refine N1 Ea 120 121 fun K' Kh ρ q121 => ?_; go_simp; (try go_bits); (try simp (disch := omega) only [IntWalk.i64_in]); (try clear q121)
  refine Ln Ea Kh fun _ Eb => ?_; clear Kh K' Ea
  replace Eb := Eb.turn 122 (v' := .bool false) rfl (by (first | rfl | simp))
  refine N2 Eb 118 120 122 fun K' Kh ρ q120 q122 => ?_; go_simp; (try go_bits); (try clear q120 q122)
  refine Ln Eb Kh fun _ Ea => ?_; clear Kh K' Eb
  refine M2 Ea 118 123 fun K' Kh ρ q118 q123 => ?_; go_simp; (try go_bits); (try clear q118 q123)
  refine Ln Ea Kh fun _ Eb => ?_; clear Kh K' Ea
  refine M1 Eb 124 fun K' Kh ρ q124 => ?_; go_simp; (try clear q124)
  refine Ln Eb Kh fun _ Ea => ?_; clear Kh K' Eb
  refine N1 Ea 125 15 fun K' Kh ρ q15 => ?_; go_simp; (try clear q15)
  refine Ln Ea Kh fun _ Eb => ?_; clear Kh K' Ea
  refine N1 Eb 125 13 fun K' Kh ρ q13 => ?_; go_simp; (try clear q13)
  refine Ln Eb Kh fun _ Ea => ?_; clear Kh K' Eb
  refine N2 Ea 125 126 127 fun K' Kh ρ q126 q127 => ?_; go_simp; (try go_bits); (try clear q126 q127)
  refine Ln Ea Kh fun _ Eb => ?_; clear Kh K' Ea
  replace Eb := Eb.turn 128 (v' := .bool false) rfl (by (first | (simp; done) | (simp; omega)))
  refine M2 Eb 125 128 fun K' Kh ρ q125 q128 => ?_; go_simp; (try go_bits); (try clear q125 q128)
  refine Ln Eb Kh fun _ Ea => ?_; clear Kh K' Eb
  refine M1 Ea 129 fun K' Kh ρ q129 => ?_; go_simp; (try clear q129)
  refine Ln Ea Kh fun _ Eb => ?_; clear Kh K' Ea
  refine N1 Eb 130 19 fun K' Kh ρ q19 => ?_; go_simp; (try clear q19)
  refine Ln Eb Kh fun _ Ea => ?_; clear Kh K' Eb
  refine N1 Ea 130 131 fun K' Kh ρ q131 => ?_; go_simp; (try go_bits); (try clear q131)
  refine Ln Ea Kh fun _ Eb => ?_; clear Kh K' Ea
  refine N1 Eb 130 17 fun K' Kh ρ q17 => ?_; go_simp; (try clear q17)
  refine Ln Eb Kh fun _ Ea => ?_; clear Kh K' Eb
  refine N1 Ea 130 133 fun K' Kh ρ q133 => ?_; go_simp; (try go_bits); (try clear q133)
  refine Ln Ea Kh fun _ Eb => ?_; clear Kh K' Ea
  refine N2 Eb 130 132 134 fun K' Kh ρ q132 q134 => ?_; go_simp; (try go_bits); (try clear q132 q134)
  refine Ln Eb Kh fun _ Ea => ?_; clear Kh K' Eb
  replace Ea := Ea.turn 135 (v' := .bool false) rfl (by (first | (simp; done) | (simp; omega)))
  refine M2 Ea 130 135 fun K' Kh ρ q130 q135 => ?_; go_simp; (try go_bits); (try clear q130 q135)
  refine Ln Ea Kh fun _ Eb => ?_; clear Kh K' Ea
  refine late_done [3, 7, 13, 136] Eb hK (fun a hE => ?_); clear hK K Q' Eb; simp only [lk, pick, Nat.reduceEqDiff, ↓reduceIte] at hE
  refine Ks ?_
  refine cond_no hE (t := 136) rfl ?_
  refine Ks ?_
  refine Rs 2 fun Q' K hK => ?_
  refine M1 hE 13 fun K' Kh ρ q13 => ?_; go_simp; (try clear q13)
  refine Ln hE Kh fun _ Eb => ?_; clear Kh K' hE a
  refine M1 Eb 137 fun K' Kh ρ q137 => ?_; go_simp; (try go_bits); (try clear q137)
  refine Ln Eb Kh fun _ Ea => ?_; clear Kh K' Eb
  refine late_done [3, 7, 138] Ea hK (fun a hE => ?_); clear hK K Q' Ea; simp only [lk, pick, Nat.reduceEqDiff, ↓reduceIte] at hE
  refine Ks ?_
  refine cond_part hE (t := 138) rfl (fun h => ?_) (fun h => ?_)
  ·refine Ks ?_
   refine Rs 2 fun Q' K hK => ?_
   refine M0 fun K' Kh ρ => ?_; go_simp; (try go_bits);
   go_at_call 15; refine (written_any _).mono ?_; rintro e8 w8 ⟨rfl, h8⟩
   refine Ln hE Kh fun _ Eb => ?_; clear Kh K' hE a
   refine M1 Eb 139 fun K' Kh ρ q139 => ?_; go_simp; (try clear q139)
   refine Ln Eb Kh fun _ Ea => ?_; clear Kh K' Eb
   refine late_done [6] Ea hK (fun a hE => ?_); clear hK K Q' Ea; simp only [lk, pick, Nat.reduceEqDiff, ↓reduceIte] at hE
   refine Ks ?_
   exact ret_one hE rfl rfl ⟨rfl, hb.trans (h8.mono hb.size)⟩
  ·have hm0 : ¬ (m : Int) = 0 := by simpa using h
   refine wp_skip ?_
   refine KsE ?_
   exact HEnd.out (by omega) B X w w7 _ hM hMx hb hCB hCX (hE.keep [3, 7])
end
end Go.Proofs.Ytbimkcjdodgojaa
