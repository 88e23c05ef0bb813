/- Name: truths: the iterator, and whether there is one. -/
import Derived.Test.YtbimkcjdodgojaaGreatKBNag
import Derived.Test.YtbimkcjdodgojaaGreatKBNm

namespace Go.Proofs.YtbimkcjdodgojaaGreat
set_option linter.unusedSimpArgs false
set_option linter.unusedVariables false
open Go Go.RowKit
attribute [local go_sem high] cell_set_wr
attribute [local go_sem low] cell_wr frozen_wr
attribute [local go_sem] wr_set wr_drew wr_drewN wr_alloc wr_new Rho.c Rho.n Rho.g
section
variable {P : Program} {Q : Exit → Act → World → Prop} {a : Act} {w : World} {m : Nat}
theorem fits_round {D : List Deferred} {n : Nat} {e : Env} (h : FitsD D n e a) (p : Nat) (v : Value) (hp : p < n) : Fits n ((p, v) :: e) { tmps := ((#[p] : Array Nat).zip #[v]).foldl (fun t (p, v) => t.setIfInBounds p v) a.tmps, defers := [] } := by
 have h1 := h.put v hp
 refine ⟨rfl, ?_, fun t u hu => ?_⟩
 ·simpa [Act.put] using h1.2.1
 ·simpa [Act.put] using h1.2.2 t u hu
theorem ret_M {ds : List Nat} {n : Nat} {e : Env} {fn : Func} {R : Ending → World → Prop} {F : Fence} {v : Value} (hE : FitsD (rmarks ds) n e a) (hn : ds.Nodup) (hd : ∀ d ∈ ds, w.heap[d]? = some (.deferred (some []))) (hr : ∀ W, (∀ k, k ∉ ds → W.heap[k]? = w.heap[k]?) → (results fn a.tmps).run P W = .ok v W) (h : R (.returned v) (taken ds w)) : bodyPostM F m P fn R .ret a w := by
 show LeavesInM F m P fn a.tmps R a.defers .returning w
 rw [hE.1]
 exact leaves_marks ds w hn hd ⟨_, hr _ (fun k hk => taken_block ds w k hk), h⟩
theorem box_row (w : World) (cs : Array Value) (t : TypeId) (cs' : Array Value) (t' : TypeId) : Below w.heap.size w ((w.alloc (.cells cs t)).alloc (.cells cs' t')) ∧ Cells ((w.alloc (.cells cs t)).alloc (.cells cs' t')) w.heap.size cs.toList ∧ (w.heap.size + 1 < ((w.alloc (.cells cs t)).alloc (.cells cs' t')).heap.size ∧ Row ((w.alloc (.cells cs t)).alloc (.cells cs' t')) (w.heap.size + 1) cs'.toList) := by
 refine ⟨((Below.refl _ _).alloc (Nat.le_refl _) _).alloc (by simp) _, (cells_new w cs t).below ((Below.refl _ _).alloc (Nat.le_refl _) _), by simp, ?_⟩
 have h := row_new (w.alloc (.cells cs t)) cs' t'
 rwa [World.size_alloc] at h
theorem Stay.cells {n R : Nat} {A C : World} {l : List Value} (h : Cells A R l) (hb : Below n A C) (hR : R < n) : Cells C R l := ⟨Nat.lt_of_lt_of_le h.1 hb.size, fun j u hu => (hb.cell (p := ⟨R, j, none⟩) hR).trans (h.2 j u hu)⟩
theorem row_of_block {A C : World} {R : Nat} {l : List Value} (h : Row A R l) (e : C.heap[R]? = A.heap[R]?) : Row C R l := fun j u hu => by
 obtain ⟨h1, h2⟩ := h j u hu
 have c := World.cell?_of_block (w := A) (a := ⟨R, j, none⟩) e
 have f := World.frozen?_of_block (w := A) (a := ⟨R, j, none⟩) e
 exact ⟨c.trans h1, by unfold Wr at h2 ⊢; rw [c, f]; exact h2⟩
end
/-- the books' lists lie in memory, where no round writes -/
def CouldAt (_b : Bk) (u0 u1 u2 u3 u4 u5 u6 u7 u8 : Value) (M : Nat → Prop) (w : World) (cs : List (List Nat)) : Prop := ∀ k, k < 9 → ∃ Ak c, [u0, u1, u2, u3, u4, u5, u6, u7, u8][k]? = some (.slice Ak (cs.getD k []).length c) ∧ ArrS M w.heap.size w Ak (nats (cs.getD k []))
section
variable (A : Option Addr) (cap : Nat) (L : Option Addr) (lcap : Nat) (b : Bk) (u0 u1 u2 u3 u4 u5 u6 u7 u8 : Value)
theorem CouldAt.of_below {b : Bk} {u0 u1 u2 u3 u4 u5 u6 u7 u8 : Value} {M M' : Nat → Prop} {w w' : World} {cs : List (List Nat)} (h : CouldAt b u0 u1 u2 u3 u4 u5 u6 u7 u8 M w cs) (hb : Below w.heap.size w w') (hM : ∀ k, M' k → k < w.heap.size → M k) : CouldAt b u0 u1 u2 u3 u4 u5 u6 u7 u8 M' w' cs := fun k hk => by
 obtain ⟨Ak, c, h1, h2⟩ := h k hk
 refine ⟨Ak, c, h1, fun hx => ?_⟩
 obtain ⟨b0, o0, e, q1, q2, _, q4⟩ := h2 hx
 have := hb.size
 exact ⟨b0, o0, e, by omega, fun h => q2 (hM _ h q1), by omega, fun j u hj => (hb.cell (p := ⟨b0, o0 + j, none⟩) q1).trans (q4 j u hj)⟩
set_option maxRecDepth 100000 in
theorem truths_any (w : World) : Calls Tryz.prog 74 #[.agg (bksV A cap L lcap b u0 u1 u2 u3 u4 u5 u6 u7 u8).toArray] w fun e w' => ∃ B, e = .returned (.func (.func 94) #[] #[.pointer (some ⟨B, 0, none⟩)]) ∧ w.heap.size ≤ B ∧ Cells w' B (bksV A cap L lcap b u0 u1 u2 u3 u4 u5 u6 u7 u8) ∧ Below w.heap.size w w' := by
 simp only [bksV]
 refine enterE Tryz.func74 rfl Tryz.ntmps74 (by simp) (fun a hE => ?_); simp only [envOf, Nat.zero_add, Nat.reduceAdd] at hE
 refine Ks ?_
 refine Rs 2 fun Q' K hK => ?_
 refine M1 hE 0 fun K' Kh ρ q0 => ?_; go_simp
 refine Ln hE Kh fun _ Eb => ?_; clear Kh K' hE a q0
 refine Go.Proofs.YtbimkcjdodgojaaGreat.M0 fun K' Kh ρ => ?_; go_simp;
 refine Ln Eb Kh fun _ Ea => ?_; clear Kh K' Eb
 refine Ld [1, 2] Ea hK fun a hE => ?_; clear hK K Q' Ea
 obtain ⟨B, hBe⟩ : ∃ B, B = w.heap.size := ⟨_, rfl⟩; have hnB : w.heap.size ≤ B := Nat.le_of_eq hBe.symm; rw [← hBe] at hE; refine world_cut (fun wt => Below w.heap.size w wt ∧ B < wt.heap.size ∧ Row wt B (bksV A cap L lcap b u0 u1 u2 u3 u4 u5 u6 u7 u8)) ⟨(Below.refl _ _).alloc (Nat.le_refl _) _, by rw [hBe]; simp, by rw [hBe]; exact row_new _ _ _⟩ (fun w1 hCut => ?_); obtain ⟨hbw1, hlB, hRB⟩ := hCut; clear hBe
 refine Ks ?_
 refine Rs 2 fun Q' K hK => ?_
 refine M1 hE 1 fun K' Kh ρ q1 => ?_; go_simp
 refine Ln hE Kh fun _ Eb => ?_; clear Kh K' hE a q1
 refine M1 Eb 3 fun K' Kh ρ q3 => ?_; go_simp
 refine Ln Eb Kh fun _ Ea => ?_; clear Kh K' Eb q3
 refine Ld [2] Ea hK fun a hE => ?_; clear hK K Q' Ea
 refine Ks ?_
 exact ret_one hE rfl rfl ⟨B, rfl, hnB, row_cells hRB hlB, hbw1⟩
variable {A cap L lcap b u0 u1 u2 u3 u4 u5 u6 u7 u8}
set_option maxRecDepth 100000 in
set_option maxHeartbeats 1000000 in
theorem truths_seq {cs : List (List Nat)} {B : Nat} {M0 : Nat → Prop} {w0 : World} (hn : b.lines.length ≤ 9) (hl : b.lines.length ≤ lcap) (hcs : ∀ k, (cs.getD k []).length ≤ 9223372036854775807) (hB : Cells w0 B (bksV A cap L lcap b u0 u1 u2 u3 u4 u5 u6 u7 u8)) (hBM : ¬ M0 B)
    (hu : CouldAt b u0 u1 u2 u3 u4 u5 u6 u7 u8 M0 w0 cs) : SeqR Tryz.prog 94 #[.pointer (some ⟨B, 0, none⟩)] (encT w0.heap.size) M0 (fromP b.lines.length b.lost cs b.lines.length 0 []) w0 := by
 intro l J Jx W hb hl1 hl2 hJ hJx hJM hY hJ0
 have hM := hJM _ _ _ hJ0
 have hs0 := hb.size
 show Calls Tryz.prog 94 #[.func (.yield l) #[] #[], .pointer (some ⟨B, 0, none⟩)] W _
 refine enterE Tryz.func94 rfl Tryz.ntmps94 (by simp) (fun a hE => ?_); simp only [envOf, Nat.zero_add, Nat.reduceAdd] at hE
 refine Ks ?_
 refine Rs 1 fun Q' K hK => ?_
 refine M1 hE 0 fun K' Kh ρ q0 => ?_; go_simp
 refine Ln hE Kh fun _ Eb => ?_; clear Kh K' hE a q0
 refine Ld [1, 2] Eb hK fun a hE => ?_; clear hK K Q' Eb
 obtain ⟨Y, hYe⟩ : ∃ B, B = W.heap.size := ⟨_, rfl⟩; have hnY : W.heap.size ≤ Y := Nat.le_of_eq hYe.symm; rw [← hYe] at hE; refine world_cut (fun wt => Below W.heap.size W wt ∧ Y < wt.heap.size ∧ Row wt Y [.func (.yield l) #[] #[]]) ⟨(Below.refl _ _).alloc (Nat.le_refl _) _, by rw [hYe]; simp, by rw [hYe]; exact row_new _ _ _⟩ (fun w1 hCut => ?_); obtain ⟨hbw1, hlY, hRY⟩ := hCut; clear hYe
 have hYe : Y < w1.heap.size := hlY
 refine Ks ?_
 refine Rs 1 fun Q' K hK => ?_
 refine Go.Proofs.YtbimkcjdodgojaaGreat.M0 fun K' Kh ρ => ?_; go_simp;
 refine Ln hE Kh fun _ Eb => ?_; clear Kh K' hE a
 refine Ld [1, 2, 3] Eb hK fun a hE => ?_; clear hK K Q' Eb
 obtain ⟨Z, hZe⟩ : ∃ B, B = w1.heap.size := ⟨_, rfl⟩; have hnZ : w1.heap.size ≤ Z := Nat.le_of_eq hZe.symm; rw [← hZe] at hE; refine world_cut (fun wt => Below w1.heap.size w1 wt ∧ Z < wt.heap.size ∧ Row wt Z [.nilFunc]) ⟨(Below.refl _ _).alloc (Nat.le_refl _) _, by rw [hZe]; simp, by rw [hZe]; exact row_new _ _ _⟩ (fun w2 hCut => ?_); obtain ⟨hbw2, hlZ, hRZ⟩ := hCut; clear hZe
 have hz0 := (hRZ 0 _ rfl).1
 have hzw := (hRZ 0 _ rfl).2
 have hYZ : Y < Z := by omega
 refine Ks ?_
 refine Rs 2 fun Q' K hK => ?_
 refine M3 hE 1 2 3 fun K' Kh ρ q1 q2 q3 => ?_; go_simp
 refine Ln hE Kh fun _ Eb => ?_; clear Kh K' hE a q1 q2 q3
 refine M2 Eb 3 4 fun K' Kh ρ q3 q4 => ?_; go_simp; (try clear q3 q4)
 refine late_skip Eb Kh (fun _ Ea => ?_); clear Kh K'; clear Eb
 refine Ld [1, 2, 3] Ea hK fun a hE => ?_; clear hK K Q' Ea
 have hz1 := hbw1.size
 have hz2 := hbw2.size
 refine world_cut (fun wt => Below W.heap.size W wt ∧ Cells wt Y [.func (.yield l) #[] #[]] ∧ Cells wt Z [.func (.func 95) #[] #[.pointer (some ⟨B, 0, none⟩), .pointer (some ⟨Y, 0, none⟩), .pointer (some ⟨Z, 0, none⟩)]]) ⟨(hbw1.trans (hbw2.mono hz1)).setCell (by simp only; omega) _, row_cells ((hRY.below hbw2 hlY).other (by omega)) (by simp; omega), row_cells (hRZ.set (by simp)) (by simp; omega)⟩ (fun w3 hC => ?_)
 obtain ⟨hB3, hCY, hCZ⟩ := hC
 have hlY3 := hCY.1
 clear hz0 hzw hRY hRZ hbw1 hbw2
 obtain ⟨nZ, cZ0⟩ := hCZ.c1
 have hB03 := hb.trans (hB3.mono hs0)
 have hCB := hB.below hB03
 have hD : Dat A cap L lcap b u0 u1 u2 u3 u4 u5 u6 u7 u8 cs B Y Z l M0 w3 := ⟨⟨hCB.1, hBM, by have := hB.1; omega, hCB.2⟩, ⟨hCY.1, fun h => by have := hM.1 _ h; omega, by omega, hCY.2⟩, ⟨hCZ.1, fun h => by have := hM.1 _ h; omega, by omega, hCZ.2⟩, fun k hk => by
  obtain ⟨Ak, c, h1, h2⟩ := hu k (by omega)
  refine ⟨Ak, c, h1, fun hx => ?_⟩
  obtain ⟨b0, o0, e, q1, q2, _, q4⟩ := h2 hx
  exact ⟨b0, o0, e, Nat.lt_of_lt_of_le q1 hB03.size, q2, by omega, fun j u hj => (hB03.cell (p := ⟨b0, o0 + j, none⟩) q1).trans (q4 j u hj)⟩⟩
 have hJ3 := hJ _ _ _ _ hJ0 hB3 (fun k hk => hB3.block k (hM.1 k hk))
 have hs3 := hB3.size
 have hc := pair_any w0.heap.size J Jx (fromP b.lines.length b.lost cs b.lines.length 0 []) W hs0 hn hl hcs hY hJ hJM b.lines.length 0 none 0 [] M0 w3 [] (by omega) (Nat.le_refl _) (Nat.le_refl _) hJ3 (by simp) hs3 hD (fun h => absurd rfl h) (by omega)
 refine Ks ?_
 refine Rs 2 fun Q' K hK => ?_
 refine M1 hE 3 fun K' Kh ρ q3 => ?_; go_simp
 refine Ln hE Kh fun _ Eb => ?_; clear Kh K' hE a q3
 refine M1 Eb 5 fun K' Kh ρ q5 => ?_; go_simp; (try go_bits); (try clear q5)
 go_at_call 95; refine hc.mono ?_; rintro e w5 ⟨x, rfl, hO⟩
 (try clear r5)
 refine Ln Eb Kh fun _ Ea => ?_; clear Kh K' Eb
 refine Ld [1] Ea hK fun a hE => ?_; clear hK K Q' Ea
 refine Ks ?_
 refine bodyPost_end (results_none rfl _ _ _) hE.1 ⟨⟨_, rfl⟩, ?_⟩
 rcases hO with ⟨_, M', h1, _⟩ | ⟨_, h1⟩
 ·exact .inl ⟨M', by simpa using h1⟩
 ·exact .inr h1
set_option maxRecDepth 100000 in
set_option maxHeartbeats 1000000 in
theorem canBeTrue_any {cs : List (List Nat)} {w : World} (hn : b.lines.length ≤ 9) (hl : b.lines.length ≤ lcap) (hcs : ∀ k, (cs.getD k []).length ≤ 9223372036854775807) (hu : CouldAt b u0 u1 u2 u3 u4 u5 u6 u7 u8 (fun _ => False) w cs) :
    Calls Tryz.prog 82 #[.agg (bksV A cap L lcap b u0 u1 u2 u3 u4 u5 u6 u7 u8).toArray] w fun e w' => e = .returned (.bool (!(fromP b.lines.length b.lost cs b.lines.length 0 []).isEmpty)) ∧ Below w.heap.size w w' := by
 have HT := hid (truths_any A cap L lcap b u0 u1 u2 u3 u4 u5 u6 u7 u8)
 simp only [bksV] at HT ⊢
 refine enterM Tryz.func82 rfl Tryz.ntmps82 (by simp) (fun a hE => ?_); simp only [envOf, Nat.zero_add, Nat.reduceAdd] at hE
 refine Ks ?_
 refine Rs 2 fun Q' K hK => ?_
 refine M1 hE 0 fun K' Kh ρ q0 => ?_; go_simp
 refine Ln hE Kh fun _ Eb => ?_; clear Kh K' hE a q0
 refine Go.Proofs.YtbimkcjdodgojaaGreat.M0 fun K' Kh ρ => ?_; go_simp;
 refine Ln Eb Kh fun _ Ea => ?_; clear Kh K' Eb
 refine Ld [1, 2] Ea hK fun a hE => ?_; clear hK K Q' Ea
 obtain ⟨B1, hB1⟩ : ∃ B, B = w.heap.size := ⟨_, rfl⟩
 obtain ⟨R, hR⟩ : ∃ B, B = w.heap.size + 1 := ⟨_, rfl⟩
 rw [← hR, ← hB1] at hE
 refine world_cut (fun wt => Below w.heap.size w wt ∧ Cells wt B1 (bksV A cap L lcap b u0 u1 u2 u3 u4 u5 u6 u7 u8) ∧ R < wt.heap.size ∧ Row wt R [.bool false]) (by rw [hB1, hR]; exact box_row _ _ _ _ _) (fun w1 hC => ?_)
 obtain ⟨hb1, hCB1, hlR, hRR⟩ := hC
 have hnR : w.heap.size ≤ R := by omega
 clear hB1 hR
 simp only [bksV] at hCB1
 have nB1 := hCB1.1; have cB10 := hCB1.2 0 _ rfl; have cB11 := hCB1.2 1 _ rfl; have cB12 := hCB1.2 2 _ rfl; have cB13 := hCB1.2 3 _ rfl; have cB14 := hCB1.2 4 _ rfl; have cB15 := hCB1.2 5 _ rfl; have cB16 := hCB1.2 6 _ rfl; have cB17 := hCB1.2 7 _ rfl; have cB18 := hCB1.2 8 _ rfl; have cB19 := hCB1.2 9 _ rfl; have cB110 := hCB1.2 10 _ rfl; have cB111 := hCB1.2 11 _ rfl; have cB112 := hCB1.2 12 _ rfl; have cB113 := hCB1.2 13 _ rfl; have cB114 := hCB1.2 14 _ rfl; have cB115 := hCB1.2 15 _ rfl
 refine Ks ?_
 refine Rs 2 fun Q' K hK => ?_
 refine M1 hE 1 fun K' Kh ρ q1 => ?_; go_simp
 refine Ln hE Kh fun _ Eb => ?_; clear Kh K' hE a q1
 refine M1 Eb 3 fun K' Kh ρ q3 => ?_; go_simp; (try go_bits); (try clear q3)
 go_at_call 74; refine (HT.out _).mono ?_; rintro e w2 ⟨B, rfl, hnB, hCB, h2⟩
 (try clear r3)
 refine Ln Eb Kh fun _ Ea => ?_; clear Kh K' Eb
 refine Ld [2, 4] Ea hK fun a hE => ?_; clear hK K Q' Ea
 have hb2 := hb1.trans (h2.mono hb1.size)
 have hRR2 := hRR.below h2 hlR
 have hlR2 := Nat.lt_of_lt_of_le hlR h2.size
 clear hRR nB1 cB10 cB11 cB12 cB13 cB14 cB15 cB16 cB17 cB18 cB19 cB110 cB111 cB112 cB113 cB114 cB115
 obtain ⟨XS, hXS⟩ : ∃ XS, fromP b.lines.length b.lost cs b.lines.length 0 [] = XS := ⟨_, rfl⟩
 have hseq := truths_seq (M0 := fun k => k = R) hn hl hcs hCB (by omega) (hu.of_below hb2 (by intro k hk h; omega))
 rw [hXS] at hseq ⊢
 refine Ks ?_
 refine wp_rangeR (gf := 94) (lb := #[.pointer (some ⟨B, 0, none⟩)]) (hE.eval 4 rfl) (enters_of Tryz.func94 (by kernel_rfl) rfl) hseq (Below.refl _ _) (by rintro x vs V ⟨T, rfl, _⟩; rfl)
  (fun pre M V => pre = [] ∧ M = (fun k => k = R) ∧ R < V.heap.size ∧ Row V R [.bool false] ∧ Below w.heap.size w V) (fun j pre V => j = Code.ret ∧ Cells V R [.bool true] ∧ Below w.heap.size w V) ?hI ?hIx ?hIM ?h0
  (fun x a' V => Fits 6 [(2, .pointer (some ⟨R, 0, none⟩))] a') ?hAx ?assign ?body ?done ?stop
 case hI =>
  rintro s M X Y ⟨h1, rfl, h2, h3, h4⟩ hb hm
  exact ⟨h1, rfl, Nat.lt_of_lt_of_le h2 hb.size, row_of_block h3 (hm R rfl), h4.trans (hb.mono hb2.size)⟩
 case hIx =>
  rintro j s X Y ⟨h1, h2, h3⟩ hb _
  exact ⟨h1, Stay.cells h2 hb hlR2, h3.trans (hb.mono hb2.size)⟩
 case hIM =>
  rintro s M X ⟨h1, rfl, h2, _⟩ k rfl
  exact h2
 case h0 => exact ⟨rfl, rfl, hlR2, hRR2, hb2⟩
 case hAx => exact fun _ _ _ _ _ _ _ _ h => h
 case assign =>
  rintro l pre x M V vs K ⟨h1, rfl, h2, h3, h4⟩ hs ⟨T, rfl, hT⟩ hK
  refine wpIn_skip ?_
  exact hK _ _ (Below.refl _ _) ((fits_round hE 5 _ (by decide)).keep [2])
 case body =>
  clear hE a
  rintro l pre x M a V hs ⟨h1, rfl, h2, h3, h4⟩ hE hp
  have g0 := (h3 0 _ rfl).1
  have y0 := (h3 0 _ rfl).2
  refine KsI ?_
  refine region_straight_in (n := 1) rfl (by kernel_rfl) (fun Q' K hK => ?_)
  refine M1 hE 2 fun K' Kh ρ q2 => ?_; go_simp; (try clear q2)
  refine late_skip hE Kh (fun _ Eb => ?_); clear Kh K'; clear hE a
  refine Ld [2] Eb hK fun a hE => ?_; clear hK K Q' Eb
  refine KsI ?_
  exact ⟨(KeepA.refl _ _).set R 0 _ rfl, rfl, row_cells (h3.set (by simp)) (by simpa using h2), h4.setCell hnR _⟩
 case done =>
  rintro D M V hD hMD ⟨h1, rfl, h2, h3, h4⟩ hK
  have g0 := (h3 0 _ rfl).1
  have y0 := (h3 0 _ rfl).2
  replace hE := FitsD.mark (ds := []) (d := D) hE
  refine Ks ?_
  refine Rs 1 fun Q' K hK => ?_
  refine M1 hE 2 fun K' Kh ρ q2 => ?_; go_simp; (try clear q2)
  refine late_skip hE Kh (fun _ Eb => ?_); clear Kh K'; clear hE a
  refine Ld [2] Eb hK fun a hE => ?_; clear hK K Q' Eb
  have hDR : D ≠ R := by omega
  refine world_cut (fun wt => Cells wt R [.bool false] ∧ Below w.heap.size w wt ∧ wt.heap[D]? = some (.deferred (some []))) ⟨row_cells (h3.set (by simp)) (by simpa using h2), h4.setCell hnR _, (Below.heap_setCell _ _ _ _ hDR).trans hK⟩ (fun w3 hC => ?_)
  obtain ⟨hCR, hb3, hK3⟩ := hC
  clear g0 y0
  refine Ks ?_
  have g := hE.at 2 rfl
  have hb1s := hb2.size
  refine ret_M hE (by simp) (by simpa using hK3) (v := .bool false) (fun W hW => ?_) ⟨?_, taken_below _ _ _ (by intro d hd; simp at hd; omega) (by have := hb3.size; omega) hb3⟩
  ·have c0 := (World.cell?_of_block (w := w3) (a := ⟨R, 0, none⟩) (hW R (by simp; omega))).trans (hCR.2 0 _ rfl)
   simp [results, Tryz.results82, go_sem, g, c0]
  ·rw [h1]; rfl
 case stop =>
  rintro D j pre x V hD hp ⟨rfl, hCR, hb3⟩ hK
  replace hE := FitsD.mark (ds := []) (d := D) hE
  refine wp_ret ?_
  refine Ks ?_
  have g := hE.at 2 rfl
  have hDR : D ≠ R := by omega
  have hb1s := hb2.size
  refine ret_M hE (by simp) (by simpa using hK) (v := .bool true) (fun W hW => ?_) ⟨?_, taken_below _ _ _ (by intro d hd; simp at hd; omega) (by have := hb3.size; omega) hb3⟩
  ·have c0 := (World.cell?_of_block (w := V) (a := ⟨R, 0, none⟩) (hW R (by simp; omega))).trans (hCR.2 0 _ rfl)
   simp [results, Tryz.results82, go_sem, g, c0]
  ·cases XS with
   | nil => simp at hp
   | cons _ _ => rfl
end
end Go.Proofs.YtbimkcjdodgojaaGreat
