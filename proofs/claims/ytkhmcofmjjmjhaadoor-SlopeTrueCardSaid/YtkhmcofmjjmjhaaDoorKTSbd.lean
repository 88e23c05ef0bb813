/- Slope: the outlook of a book: the walk. -/
import Derived.Test.YtkhmcofmjjmjhaaDoorKTSbc

namespace Go.Proofs.YtkhmcofmjjmjhaaDoor
set_option linter.unusedSimpArgs false
set_option linter.unusedVariables false
open Go Go.RowKit
attribute [local go_sem high] cell_set_wr
attribute [local go_sem low] cell_wr frozen_wr
attribute [local go_sem] wr_set wr_drew wr_drewN wr_alloc wr_new Rho.c Rho.n Rho.g
attribute [local go_sem] run_store_func
theorem LtS.re {H : Option Addr} {hcap : Nat} {S : Option Addr} {scap : Nat} {b : Sb} {P : Option Addr} {pcap : Nat} {A : Option Addr} {c : Nat} {xs : List Hp} {f : Nat → Bool} {B Cc Kn Fr Wi Mb : Nat} {w w0 V V' : World} (h : LtS H hcap S scap b P pcap A c xs f B Cc Kn Fr Wi Mb w0 V) (hw : w.heap.size ≤ w0.heap.size) (hP : HpsAt w P xs) (hA : ArrD w A (crV (crsF xs f))) (hb : Below w.heap.size w V') (hs : V.heap.size ≤ V'.heap.size) (hk : ∀ g, g = B ∨ g = Cc ∨ g = Kn ∨ g = Fr ∨ g = Wi ∨ g = Mb → V'.heap[g]? = V.heap[g]?) : LtS H hcap S scap b P pcap A c xs f B Cc Kn Fr Wi Mb w V' := by
 have key : ∀ {G : Nat} {l : List Value}, V'.heap[G]? = V.heap[G]? → Cells V G l → Cells V' G l := fun e hc => ⟨Nat.lt_of_lt_of_le hc.1 hs, fun j u hu => (World.cell?_of_block e).trans (hc.2 j u hu)⟩
 exact ⟨hb, key (hk _ (by simp)) h.cb, key (hk _ (by simp)) h.cc, key (hk _ (by simp)) h.ck, key (hk _ (by simp)) h.cf, key (hk _ (by simp)) h.cw, hP.below hb, hA.below hb, h.memo.of_block (hk _ (by simp)), Nat.le_trans hw h.mb⟩
/-- the state while loads are listed: o lies in block O, later in block Wv -/
structure OuS (H : Option Addr) (hcap : Nat) (S : Option Addr) (scap : Nat) (b : Sb) (P : Option Addr) (pcap : Nat) (A : Option Addr) (c : Nat) (xs : List Hp) (f : Nat → Bool) (B Cc Kn Fr Wi Mb O Wv N : Nat) (w : World) (k : Nat) (D : Option Addr) (dc : Nat) (often : Nat) (V : World) : Prop where
 lt : LtS H hcap S scap b P pcap A c xs f B Cc Kn Fr Wi Mb w V
 row : Row V O (olV H hcap S scap b P xs.length pcap D k dc (.int .u64 often))
 own : V.ownsRow N 123 2000 (.slice D k dc) k (ldV (ouA xs f k))
 wv : Cells V Wv [.func (.func 119) #[] #[.pointer (some ⟨Cc, 0, none⟩), .pointer (some ⟨Fr, 0, none⟩), .pointer (some ⟨B, 0, none⟩)]]
 lo : O < N ∧ N ≤ V.heap.size ∧ Wv < N ∧ Mb < N
theorem KeepC.refl (V : World) : KeepC V V := ⟨Nat.le_refl _, fun _ _ h => h⟩
section
variable {H : Option Addr} {hcap : Nat} {S : Option Addr} {scap : Nat} {b : Sb} {P : Option Addr} {pcap : Nat} {A : Option Addr} {c : Nat} {xs : List Hp} {f : Nat → Bool} {B Cc Kn Fr Wi Mb O Wv N : Nat}
theorem OuS.step {w V V' : World} {k : Nat} {D : Option Addr} {dc often : Nat} (h : OuS H hcap S scap b P pcap A c xs f B Cc Kn Fr Wi Mb O Wv N w k D dc often V) (hO : O ≠ Mb) (hL : LtS H hcap S scap b P pcap A c xs f B Cc Kn Fr Wi Mb w V') (hk : KeepX (fun q => q = Mb) V V') : OuS H hcap S scap b P pcap A c xs f B Cc Kn Fr Wi Mb O Wv N w k D dc often V' :=
 ⟨hL, row_of_block h.row (hk.block O (Nat.lt_of_lt_of_le h.lo.1 h.lo.2.1) hO), own_of_block h.own hk.size (fun g hg => hk.block g (own_lt2 h.own g hg) (by have := ownBlock_le h.own g hg; have := h.lo.2.2.2; omega)), h.wv.c (h.lt.keepC hk), h.lo.1, Nat.le_trans h.lo.2.1 hk.size, h.lo.2.2⟩
theorem OuS.on {w V V' : World} {k : Nat} {D : Option Addr} {dc often : Nat} (h : OuS H hcap S scap b P pcap A c xs f B Cc Kn Fr Wi Mb O Wv N w k D dc often V) (hb : Below V.heap.size V V') : OuS H hcap S scap b P pcap A c xs f B Cc Kn Fr Wi Mb O Wv N w k D dc often V' :=
 ⟨h.lt.on hb, h.row.below hb (Nat.lt_of_lt_of_le h.lo.1 h.lo.2.1), own_below h.own hb, h.wv.below hb, h.lo.1, Nat.le_trans h.lo.2.1 hb.size, h.lo.2.2⟩
theorem OuS.snoc {w V V' : World} {k : Nat} {D : Option Addr} {dc often : Nat} (h : OuS H hcap S scap b P pcap A c xs f B Cc Kn Fr Wi Mb O Wv N w k D dc often V) (hwO : w.heap.size ≤ O) (hP : HpsAt w P xs) (hA : ArrD w A (crV (crsF xs f))) (hgN : ∀ g, g = B ∨ g = Cc ∨ g = Kn ∨ g = Fr ∨ g = Wi ∨ g = Mb → g < N ∧ g ≠ O) (hWO : Wv ≠ O)
    {A2 : Option Addr} {c2 : Nat} (q3 : V'.ownsRow N 123 2000 (.slice A2 (k + 1) c2) (k + 1) (ldV (ouA xs f k) ++ bls (ouL xs f k))) (q4 : V.grownBy V' (Value.slice D k dc).ownBlock) :
    OuS H hcap S scap b P pcap A c xs f B Cc Kn Fr Wi Mb O Wv N w (k + 1) A2 c2 often (V'.setCell ⟨O, 10, none⟩ (.slice A2 (k + 1) c2)) ∧ Wr V' O 10 := by
 obtain ⟨hON, hNV, hWN, hMN⟩ := h.lo
 have hlow : Below N V V' := (Below.refl N V).grown q4 hNV (fun k e => ownBlock_le h.own k e)
 have hrow := row_of_block h.row (hlow.block O hON)
 have hkb : ∀ g, g < N → g ≠ O → (V'.setCell ⟨O, 10, none⟩ (.slice A2 (k + 1) c2)).heap[g]? = V.heap[g]? := fun g hg hne => (Below.heap_setCell _ _ _ _ (by simp only; exact hne)).trans (hlow.block g hg)
 have hsz : V.heap.size ≤ (V'.setCell ⟨O, 10, none⟩ (.slice A2 (k + 1) c2)).heap.size := by simpa using hlow.size
 refine ⟨⟨h.lt.re (Nat.le_refl _) hP hA ((h.lt.below.trans (hlow.mono (by omega))).setCell hwO _) hsz (fun g hg => hkb g (hgN g hg).1 (hgN g hg).2), ?_, ?_, ⟨Nat.lt_of_lt_of_le h.wv.1 hsz, fun j u hu => (World.cell?_of_block (w := V) (a := ⟨Wv, j, none⟩) (hkb Wv hWN hWO)).trans (h.wv.2 j u hu)⟩, hON, Nat.le_trans hNV hsz, hWN, hMN⟩, (hrow 10 _ rfl).2⟩
 ·have := hrow.set (o := 10) (v := .slice A2 (k + 1) c2) (by simp [olV, bkV])
  simpa [olV, bkV] using this
 ·rw [ouA_succ, ldV_snoc]
  refine own_of_block q3 (by simp) fun g hg => ?_
  have hg2 := ownBlock_le q3 g hg
  exact Below.heap_setCell _ _ _ _ (by simp only; omega)
theorem OuS.more {w V : World} {k : Nat} {D : Option Addr} {dc often : Nat} (h : OuS H hcap S scap b P pcap A c xs f B Cc Kn Fr Wi Mb O Wv N w k D dc often V) (hwO : w.heap.size ≤ O) (hP : HpsAt w P xs) (hA : ArrD w A (crV (crsF xs f))) (hgN : ∀ g, g = B ∨ g = Cc ∨ g = Kn ∨ g = Fr ∨ g = Wi ∨ g = Mb → g < N ∧ g ≠ O) (hWO : Wv ≠ O) (often' : Nat) :
    OuS H hcap S scap b P pcap A c xs f B Cc Kn Fr Wi Mb O Wv N w k D dc often' (V.setCell ⟨O, 11, none⟩ (.int .u64 often')) := by
 obtain ⟨hON, hNV, hWN, hMN⟩ := h.lo
 have hkb : ∀ g, g ≠ O → (V.setCell ⟨O, 11, none⟩ (.int .u64 often')).heap[g]? = V.heap[g]? := fun g hne => Below.heap_setCell _ _ _ _ (by simp only; exact hne)
 have hsz : V.heap.size ≤ (V.setCell ⟨O, 11, none⟩ (.int .u64 often')).heap.size := by simp
 refine ⟨h.lt.re (Nat.le_refl _) hP hA (h.lt.below.setCell hwO _) hsz (fun g hg => hkb g (hgN g hg).2), ?_, ?_, ⟨Nat.lt_of_lt_of_le h.wv.1 hsz, fun j u hu => (World.cell?_of_block (w := V) (a := ⟨Wv, j, none⟩) (hkb Wv hWO)).trans (h.wv.2 j u hu)⟩, hON, Nat.le_trans hNV hsz, hWN, hMN⟩
 ·have := h.row.set (o := 11) (v := .int .u64 often') (by simp [olV, bkV])
  simpa [olV, bkV] using this
 ·exact own_of_block h.own hsz fun g hg => hkb g (by have := ownBlock_le h.own g hg; omega)
end
theorem ld_at {V : World} {D : Option Addr} {ls : List (Nat → Bool)} (h : ArrD V D (ldV ls)) : LdAt V D ls := fun k hk => by
 obtain ⟨b, o, e, h1, h2⟩ := ArrD.range (f := bls) (m := 2000) bls_length (by omega) h hk
 exact ⟨b, o, e, h1, h2⟩
/-- loads in blocks from some block on -/
def LdN (N : Nat) (w : World) (D : Option Addr) (ls : List (Nat → Bool)) : Prop := ∀ k (h : k < ls.length), ∃ b o, D = some ⟨b, o, none⟩ ∧ N ≤ b ∧ b < w.heap.size ∧ w.rangeAt b (o + k * 2000) (bls ls[k])
theorem LdN.at {N : Nat} {w : World} {D : Option Addr} {ls : List (Nat → Bool)} (h : LdN N w D ls) : LdAt w D ls := fun k hk => by
 obtain ⟨b, o, h1, _, h2, h3⟩ := h k hk
 exact ⟨b, o, h1, h2, h3⟩
theorem LdN.keep {N : Nat} {w w' : World} {D : Option Addr} {ls : List (Nat → Bool)} (h : LdN N w D ls) (hs : w.heap.size ≤ w'.heap.size) (hc : ∀ p u, N ≤ p.block → w.cell? p = some u → w'.cell? p = some u) : LdN N w' D ls := fun k hk => by
 obtain ⟨b, o, h1, h0, h2, h3⟩ := h k hk
 exact ⟨b, o, h1, h0, Nat.lt_of_lt_of_le h2 hs, fun j u hu => hc _ u h0 (h3 j u hu)⟩
theorem ldV_length (ls : List (Nat → Bool)) : (ldV ls).length = ls.length * 2000 := flat_length bls 2000 bls_length ls
theorem ld_n {N : Nat} {V : World} {D : Option Addr} {ls : List (Nat → Bool)} (h : ArrG N V D (ldV ls)) : LdN N V D ls := fun k hk => by
 obtain ⟨b, o, e, h1, h2⟩ := ld_at h.arr k hk
 obtain ⟨b1, o1, e1, h0, _⟩ := h (fun e => by have := ldV_length ls; rw [e] at this; simp at this; omega)
 rw [e] at e1
 cases e1
 exact ⟨b, o, e, h0, h1, h2⟩
theorem loads_zero : (Tryd.prog.info? 123).map (fun i => (i.zero, i.size, i.bytes)) = some (some (Value.agg Tryd.zeroCells123), 2000, 2000) := by kernel_rfl
section
variable (H : Option Addr) (hcap : Nat) (S : Option Addr) (scap : Nat) (b : Sb) (P : Option Addr) (pcap : Nat)
set_option maxRecDepth 100000 in
set_option maxHeartbeats 2000000 in
theorem outlook_any (hb : OkB b) (w : World) (hM : HpsAt w P (hpsOf b)) : Calls Tryd.prog 84 #[.agg (bkV H hcap S scap b P (hpsOf b).length pcap).toArray] w fun e w' => ((rtB b = true ∧ ∃ D dc, e = .returned (.tuple #[.agg (olV H hcap S scap b P (hpsOf b).length pcap D (hpsOf b).length dc (.int .u64 (oftN b))).toArray, .bool true]) ∧ LdN w.heap.size w' D (ouA (hpsOf b) (f0 b) (hpsOf b).length)) ∨ (rtB b = false ∧ e = .returned (.tuple #[.agg (olV none 0 none 0 ⟨⟨0, 0, 0, 0, 0⟩, 0, 0, [], []⟩ none 0 0 none 0 0 (.int .u64 0)).toArray, .bool false]))) ∧ Below w.heap.size w w' := by
 have CC := hid (courses_any H hcap S scap b P pcap hb)
 have HLA := hid fun (A : Option Addr) (c B Cc Kn Fr Wi Mb : Nat) (w : World) (h : Nat) (hh : h < (hpsOf b).length) => ((later_all (H := H) (hcap := hcap) (S := S) (scap := scap) (b := b) (P := P) (pcap := pcap) (A := A) (c := c) (B := B) (Cc := Cc) (Kn := Kn) (Fr := Fr) (Wi := Wi) (Mb := Mb) hb w ((hpsOf b).length - h) h (by omega)).2 hh)
 have HOF := hid (ofN_all hb)
 have hx12 : (hpsOf b).length ≤ 12 := by rw [hpsOf_length]; exact hb.hours.2
 have hx1 : 1 ≤ (hpsOf b).length := by rw [hpsOf_length]; exact hb.hours.1
 clear hb
 rw [← HOF.out, show rtB b = canF (hpsOf b) (f0 b) from rfl]
 obtain ⟨xs, hxs⟩ : ∃ xs, hpsOf b = xs := ⟨_, rfl⟩
 obtain ⟨f, hf⟩ : ∃ f, f0 b = f := ⟨_, rfl⟩
 rw [hxs] at CC HLA hM hx12 hx1 ⊢
 rw [hf] at CC HLA ⊢
 clear HOF hxs hf
 have HCR := hid fun k (hk : k < xs.length) h' => crsF_at xs f k hk h'
 refine enterE Tryd.func84 rfl Tryd.ntmps84 (by simp) (fun a hE => ?_); simp only [envOf, Nat.zero_add, Nat.reduceAdd] at hE
 refine Ks ?_
 refine Rs 3 fun Q' K hK => ?_
 refine M1 hE 0 fun K' J ρ q0 => ?_; go_simp
 refine Ln hE J fun _ Eb => ?_; clear J K' hE a q0
 refine M0 fun K' J ρ => ?_; go_simp;
 refine Ln Eb J fun _ Ea => ?_; clear J K' Eb
 refine M0 fun K' J ρ => ?_; go_simp;
 refine Ln Ea J fun _ Eb => ?_; clear J K' Ea
 refine Ld [1, 2] Eb hK fun a hE => ?_; clear hK K Q' Eb
 obtain ⟨Bb, hB⟩ : ∃ B, B = w.heap.size := ⟨_, rfl⟩
 obtain ⟨R, hR⟩ : ∃ B, B = w.heap.size + 1 := ⟨_, rfl⟩
 rw [← hR, ← hB] at hE
 refine world_cut (fun wt => Below w.heap.size w wt ∧ Cells wt Bb (bkV H hcap S scap b P xs.length pcap) ∧ RowD wt R 12) ?_ (fun w1 hC => ?_)
 ·rw [hB, hR]; obtain ⟨q1, q2, q3, q4⟩ := box_row w (bkV H hcap S scap b P xs.length pcap).toArray 85 #[.int .i64 0, .int .i64 0, .int .i64 0, .int .i64 0, .int .i64 0, .int .i64 0, .int .i64 0, .slice none 0 0, .slice none 0 0, .slice none 0 0, .slice none 0 0, .int .u64 0] 94; exact ⟨q1, q2, q3, _, rfl, q4⟩
 obtain ⟨hbw1, hCB, hRD⟩ := hC
 have hnR : w.heap.size ≤ R := by omega
 have hM1 := hM.below hbw1
 clear hB hR
 refine Ks ?_
 refine Rs 7 fun Q' K hK => ?_
 refine Lp fun K' J => ?_
 have r1 := hE.at 1 rfl
 refine wp_load_mid 85 (.tmp 1) rfl Bb 0 (eval_of r1) (bkV H hcap S scap b P xs.length pcap) _ (fun j u hu => by rw [Nat.zero_add]; exact hCB.2 j u hu) Tryd.underlying85 rfl (by kernel_rfl) ?_
 (try clear r1)
 refine Ln hE J fun _ Eb => ?_; clear J K' hE a
 refine M1 Eb 13 fun K' J ρ q13 => ?_; go_simp; (try go_bits); (try clear q13)
 go_at_call 82; refine (CC.out _ hM1).mono (R' := fun e w' => ∃ A k c, e = .returned (.tuple #[.slice A k c, .bool (canF xs f)]) ∧ (canF xs f = true → k = xs.length ∧ ArrD w' A (crV (crsF xs f))) ∧ Below w1.heap.size w1 w') ?_ |>.mono ?_
 ·rintro e w2 ⟨(⟨h1, A, c, rfl, h3⟩ | ⟨h1, rfl⟩), h2⟩; exact ⟨A, _, c, by rw [h1], fun _ => ⟨rfl, h3⟩, h2⟩; exact ⟨none, 0, 0, by rw [h1], fun h => absurd h (by rw [h1]; decide), h2⟩
 rintro e w2 ⟨A, kA, c, rfl, hA, h2⟩
 (try clear r13)
 refine Ln Eb J fun _ Ea => ?_; clear J K' Eb
 refine M1 Ea 14 fun K' J ρ q14 => ?_; go_simp
 refine Ln Ea J fun _ Eb => ?_; clear J K' Ea q14
 refine M1 Eb 12 fun K' J ρ q12 => ?_; go_simp
 refine Ln Eb J fun _ Ea => ?_; clear J K' Eb q12
 refine M1 Ea 12 fun K' J ρ q12 => ?_; go_simp
 refine Ln Ea J fun _ Eb => ?_; clear J K' Ea q12
 refine M1 Eb 15 fun K' J ρ q15 => ?_; go_simp
 refine Ln Eb J fun _ Ea => ?_; clear J K' Eb q15
 refine M1 Ea 16 fun K' J ρ q16 => ?_; go_simp
 refine Ln Ea J fun _ Eb => ?_; clear J K' Ea q16
 refine Ld [1, 2, 4, 5] Eb hK fun a hE => ?_; clear hK K Q' Eb
 have hb2 := hbw1.trans (h2.mono hbw1.size)
 have hCB2 := hCB.below h2
 have hRD2 := hRD.below h2
 have hM2 := hM1.below h2
 refine Ks ?_
 refine Rs 2 fun Q' K hK => ?_
 refine M1 hE 5 fun K' J ρ q5 => ?_; go_simp
 refine Ln hE J fun _ Eb => ?_; clear J K' hE a q5
 refine M1 Eb 17 fun K' J ρ q17 => ?_; go_simp; (try go_bits); (try simp (disch := omega) only [IntWalk.i64_in])
 refine Ln Eb J fun _ Ea => ?_; clear J K' Eb q17
 refine Ld [1, 2, 4, 18] Ea hK fun a hE => ?_; clear hK K Q' Ea
 cases hcan : canF xs f
 ·rw [hcan] at hE
  obtain ⟨hlR, zs, hzs, hRR⟩ := hRD2
  refine Ks ?_
  refine cond_yes hE (t := 18) rfl ?_
  refine Ks ?_
  refine Rs 3 fun Q' K hK => ?_
  refine M0 fun K' J ρ => ?_; go_simp;
  refine Ln hE J fun _ Eb => ?_; clear J K' hE a
  refine Lp fun K' J => ?_
  have r2 := Eb.at 2 rfl; have r19 := Eb.at 19 rfl
  refine wp_store_mid 94 (.tmp 2) (.tmp 19) rfl R 0 (olV none 0 none 0 ⟨⟨0, 0, 0, 0, 0⟩, 0, 0, [], []⟩ none 0 0 none 0 0 (.int .u64 0)).toArray (eval_of r2) (eval_of r19) (there_row hRR (by rw [hzs]; exact Nat.le_refl _)) (by kernel_rfl) (by kernel_rfl) ?_
  (try clear r2 r19)
  refine late_skip Eb J (fun _ Ea => ?_); clear J K'; clear Eb
  refine M0 fun K' J ρ => ?_; go_simp;
  refine Ln Ea J fun _ Eb => ?_; clear J K' Ea
  refine Ld [2, 3] Eb hK fun a hE => ?_; clear hK K Q' Eb
  obtain ⟨q1, q2, q3, q4⟩ := cells_stored hRR (vs := olV none 0 none 0 ⟨⟨0, 0, 0, 0, 0⟩, 0, 0, [], []⟩ none 0 0 none 0 0 (.int .u64 0)) (by rw [hzs]; rfl) hlR hnR hb2
  refine world_cut (fun wt => Cells wt R (olV none 0 none 0 ⟨⟨0, 0, 0, 0, 0⟩, 0, 0, [], []⟩ none 0 0 none 0 0 (.int .u64 0)) ∧ Below w.heap.size w wt) ⟨q1, q2⟩ (fun w9 hCut => ?_)
  obtain ⟨hC9, hb9⟩ := hCut
  refine Ks ?_
  exact ret_cell_two hE rfl rfl rfl hC9.2 Tryd.underlying94 rfl (by kernel_rfl) ⟨.inr ⟨rfl, rfl⟩, hb9⟩
 ·rw [hcan] at hE
  obtain ⟨rfl, hA2⟩ := hA hcan
  clear hA hcan
  refine Ks ?_
  refine cond_no hE (t := 18) rfl ?_
  refine Ks ?_
  refine Rs 4 fun Q' K hK => ?_
  refine Lp fun K' J => ?_
  have r1 := hE.at 1 rfl
  refine wp_load_mid 85 (.tmp 1) rfl Bb 0 (eval_of r1) [.int .i64 b.sl.snow, .int .i64 b.sl.wind, .int .i64 b.sl.sun, .int .i64 b.sl.settle, .int .i64 b.sl.hold, .int .i64 b.lo, .int .i64 b.hi, .slice H b.hours.length hcap, .slice S b.sights.length scap, .slice P xs.length pcap] _ (fun j u hu => by rw [Nat.zero_add]; exact hCB2.2 j u hu) Tryd.underlying85 rfl (by kernel_rfl) ?_
  (try clear r1)
  refine Ln hE J fun _ Eb => ?_; clear J K' hE a
  refine M1 Eb 20 fun K' J ρ q20 => ?_; go_simp
  refine Ln Eb J fun _ Ea => ?_; clear J K' Eb q20
  refine M0 fun K' J ρ => ?_; go_simp;
  refine Ln Ea J fun _ Eb => ?_; clear J K' Ea
  refine Lp fun K' J => ?_
  have r6 := Eb.at 6 rfl; have r21 := Eb.at 21 rfl
  refine wp_store_mid 94 (.tmp 6) (.tmp 21) rfl w2.heap.size 0 (olV H hcap S scap b P xs.length pcap none 0 0 (.int .u64 0)).toArray (eval_of r6) (eval_of r21) (there_row (row_new w2 _ _) (Nat.le_of_eq rfl)) (by kernel_rfl) (by kernel_rfl) ?_
  (try clear r6 r21)
  refine late_skip Eb J (fun _ Ea => ?_); clear J K'; clear Eb
  refine Ld [1, 2, 4, 6] Ea hK fun a hE => ?_; clear hK K Q' Ea
  obtain ⟨O, hO⟩ : ∃ B, B = w2.heap.size := ⟨_, rfl⟩
  rw [← hO] at hE
  have hnO : w2.heap.size ≤ O := Nat.le_of_eq hO.symm
  refine world_cut (fun wt => Below w2.heap.size w2 wt ∧ O < wt.heap.size ∧ Row wt O (olV H hcap S scap b P xs.length pcap none 0 0 (.int .u64 0))) ?_ (fun w3 hCut => ?_)
  ·rw [hO]; have q := boxed_new w2 #[.int .i64 0, .int .i64 0, .int .i64 0, .int .i64 0, .int .i64 0, .int .i64 0, .int .i64 0, .slice none 0 0, .slice none 0 0, .slice none 0 0, .slice none 0 0, .int .u64 0] 94 (olV H hcap S scap b P xs.length pcap none 0 0 (.int .u64 0)) rfl; exact ⟨q.1, q.2.1, row_all (row_new w2 #[.int .i64 0, .int .i64 0, .int .i64 0, .int .i64 0, .int .i64 0, .int .i64 0, .int .i64 0, .slice none 0 0, .slice none 0 0, .slice none 0 0, .slice none 0 0, .int .u64 0] 94) rfl⟩
  obtain ⟨h3, hlO, hRO⟩ := hCut
  have hb3 := hb2.trans (h3.mono hb2.size)
  have hCB3 := hCB2.below h3
  clear hO
  refine Ks ?_
  refine Rs 5 fun Q' K hK => ?_
  refine Lp fun K' J => ?_
  have r1 := hE.at 1 rfl
  refine wp_load_mid 85 (.tmp 1) rfl Bb 0 (eval_of r1) (bkV H hcap S scap b P xs.length pcap) _ (fun j u hu => by rw [Nat.zero_add]; exact hCB3.2 j u hu) Tryd.underlying85 rfl (by kernel_rfl) ?_
  (try clear r1)
  refine Ln hE J fun _ Eb => ?_; clear J K' hE a
  refine M1 Eb 4 fun K' J ρ q4 => ?_; go_simp
  refine Ln Eb J fun _ Ea => ?_; clear J K' Eb q4
  refine M2 Ea 22 23 fun K' J ρ q22 q23 => ?_; go_simp; (try go_bits); (try clear q22 q23)
  go_at_call 101; refine (later_any H hcap S scap b P pcap A c xs f _ (hM2.below h3) (hA2.below h3)).mono ?_; rintro e w4 ⟨B, Cc, Kn, Fr, Wi, Mb, rfl, hL4, hlo⟩
  (try clear r22 r23)
  refine Ln Ea J fun _ Eb => ?_; clear J K' Ea
  refine M0 fun K' J ρ => ?_; go_simp;
  refine Ln Eb J fun _ Ea => ?_; clear J K' Eb
  refine M2 Ea 7 24 fun K' J ρ q7 q24 => ?_; go_simp; (try clear q7 q24)
  refine late_skip Ea J (fun _ Eb => ?_); clear J K'; clear Ea
  refine Ld [2, 4, 6, 7] Eb hK fun a hE => ?_; clear hK K Q' Eb
  obtain ⟨Wv, hWv⟩ : ∃ B, B = w4.heap.size := ⟨_, rfl⟩
  rw [← hWv] at hE
  obtain ⟨N, hN⟩ : ∃ N, N = w4.heap.size + 1 := ⟨_, rfl⟩
  have hs3 := h3.size
  have hs4 := hL4.below.size
  have hgN : ∀ g, g = B ∨ g = Cc ∨ g = Kn ∨ g = Fr ∨ g = Wi ∨ g = Mb → g < N ∧ g ≠ O := fun g hg => by have := hlo g hg; omega
  refine world_cut (fun wt => OuS H hcap S scap b P pcap A c xs f B Cc Kn Fr Wi Mb O Wv N w2 0 none 0 0 wt) ?_ (fun w5 hS5 => ?_)
  ·have q1 : Below w4.heap.size w4 (w4.alloc (.cells #[.func (.func 119) #[] #[.pointer (some ⟨Cc, 0, none⟩), .pointer (some ⟨Fr, 0, none⟩), .pointer (some ⟨B, 0, none⟩)]] 143)) := (Below.refl _ _).alloc (Nat.le_refl _) _
   have q2 := hL4.below.trans (q1.mono hs4)
   exact ⟨hL4.re hs3 hM2 hA2 (h3.trans (q2.mono hs3)) q1.size (fun g hg => q1.block g (hlo g hg).2), hRO.below q2 hlO, own_nil _ _ _ _, by rw [hWv]; exact cells_new w4 _ _, by omega, by simp; omega, by omega, by have := hlo Mb (by simp); omega⟩
  have hb5 := hb2.trans (hS5.lt.below.mono hb2.size)
  have HGN := hid hgN
  have hWO : Wv ≠ O := by omega
  clear hWv hN hL4 hlo hs4 hgN hRO hlO
  refine Ks ?_
  refine Rs 3 fun Q' K hK => ?_
  refine M1 hE 4 fun K' J ρ q4 => ?_; go_simp
  refine Ln hE J fun _ Eb => ?_; clear J K' hE a q4
  refine M1 Eb 25 fun K' J ρ q25 => ?_; go_simp; (try go_bits)
  refine Ln Eb J fun _ Ea => ?_; clear J K' Eb q25
  refine M0 fun K' J ρ => ?_; go_simp;
  refine Ln Ea J fun _ Eb => ?_; clear J K' Ea
  refine Ld [2, 6, 7, 25, 26, 27] Eb hK fun a hE => ?_; clear hK K Q' Eb
  refine Ks ?_
  refine loop_st (fun (k : Nat) a w' => ∃ (D : Option Addr) (dc : Nat), k ≤ xs.length ∧ Fits 61 [(2, .pointer (some ⟨R, 0, none⟩)), (6, .pointer (some ⟨O, 0, none⟩)), (7, .pointer (some ⟨Wv, 0, none⟩)), (25, .slice A xs.length c), (26, .int .i64 xs.length), (27, .int .i64 k)] a ∧ OuS H hcap S scap b P pcap A c xs f B Cc Kn Fr Wi Mb O Wv N w2 k D dc 0 w') (fun k => xs.length - k) 0 ⟨none, 0, Nat.zero_le _, by simpa using hE, hS5⟩ (fun k a wr hI => ?_)
  clear hE hS5
  obtain ⟨D, dc, hk, hE, hS⟩ := hI
  have hbr := hb2.trans (hS.lt.below.mono hb2.size)
  by_cases hlt : k < xs.length
  ·have hltI : (k : Int) < xs.length := by omega
   have hx9 : (xs.length : Int) ≤ 9223372036854775807 := by omega
   obtain ⟨bx, ox, hAe, hbx, hrx⟩ := ArrD.range (f := fun p : (Nat → Bool) × (Nat → Bool) => bls2 p.1 p.2) (m := 4000) (fun _ => bls2_length _ _) (by omega) hS.lt.cr (k := k) (by rw [crsF_length]; exact hlt)
   rw [HCR.out k hlt] at hrx
   have HOU := hid (funext fun m => ouL_eq xs f hlt m)
   obtain ⟨st, hst⟩ : ∃ st, stF xs[k] (atF xs f k) = st := ⟨_, rfl⟩
   obtain ⟨fa, hfa⟩ : ∃ fa, faF xs[k] (atF xs f k) = fa := ⟨_, rfl⟩
   rw [hst, hfa] at hrx HOU
   clear hst hfa
   have hEs := hE
   rw [hAe] at hE
   clear hEs
   have hHL := HLA.out A c B Cc Kn Fr Wi Mb w2 k hlt
   refine Ks ?_
   refine Rs 1 fun Q' K hK => ?_
   refine M2 hE 27 26 fun K' J ρ q27 q26 => ?_; go_simp; (try go_bits)
   refine Ln hE J fun _ Eb => ?_; clear J K' hE a q27 q26
   replace Eb := Eb.turn 28 (v' := .bool true) rfl (by (first | (simp; done) | (simp; omega)))
   refine Ld [2, 6, 7, 25, 26, 27, 28] Eb hK fun a hE => ?_; clear hK K Q' Eb
   refine Ks ?_
   refine cond_yes hE (t := 28) rfl ?_
   refine Ks ?_
   refine Rs 7 fun Q' K hK => ?_
   refine M1 hE 27 fun K' J ρ q27 => ?_; go_simp
   refine Ln hE J fun _ Eb => ?_; clear J K' hE a q27
   refine M2 Eb 25 27 fun K' J ρ q25 q27 => ?_; go_simp; (try go_bits)
   refine Ln Eb J fun _ Ea => ?_; clear J K' Eb q25 q27
   refine Lp fun K' J => ?_
   have r30 := Ea.at 30 rfl
   refine wp_load_mid 141 (.tmp 30) rfl bx (ox + k * 4000) (eval_of r30) (bls2 st fa) _ hrx Tryd.underlying141 rfl (by rw [bls2_length]; kernel_rfl) ?_
   (try clear r30)
   refine Ln Ea J fun _ Eb => ?_; clear J K' Ea
   refine M0 fun K' J ρ => ?_; go_simp;
   refine Ln Eb J fun _ Ea => ?_; clear J K' Eb
   refine M0 fun K' J ρ => ?_; go_simp;
   refine Ln Ea J fun _ Eb => ?_; clear J K' Ea
   refine M2 Eb 8 29 fun K' J ρ q8 q29 => ?_; go_simp; (try clear q8 q29)
   refine late_skip Eb J (fun _ Ea => ?_); clear J K'; clear Eb
   refine Lp fun K' J => ?_
   have r9 := Ea.at 9 rfl; have r31 := Ea.at 31 rfl
   rw [zero_course]
   refine wp_store_mid 141 (.tmp 9) (.tmp 31) rfl (wr.heap.size + 1) 0 (bls2 st fa).toArray (eval_of r9) (eval_of r31) (there_row (by have := row_new (wr.alloc (.cells #[.int .i64 k] 3)) (bls2 (fun _ => false) fun _ => false).toArray 141; rw [World.size_alloc] at this; exact this) (by rw [List.toList_toArray, bls2_length, List.size_toArray, bls2_length]; exact Nat.le_refl _)) (by rw [List.size_toArray, bls2_length]; kernel_rfl) (bls2_one' _ _) ?_
   (try clear r9 r31)
   refine late_skip Ea J (fun _ Eb => ?_); clear J K'; clear Ea
   refine Ld [2, 6, 7, 8, 9, 25, 26, 27] Eb hK fun a hE => ?_; clear hK K Q' Eb
   obtain ⟨Iv, hIv⟩ : ∃ B, B = wr.heap.size := ⟨_, rfl⟩
   obtain ⟨Cv, hCv⟩ : ∃ B, B = wr.heap.size + 1 := ⟨_, rfl⟩
   rw [← hCv, ← hIv] at hE
   refine world_cut (fun wt => Below wr.heap.size wr wt ∧ Cells wt Iv [.int .i64 k] ∧ Row wt Cv (bls2 st fa)) ?_ (fun w6 hCut => ?_)
   ·have q0 : Below wr.heap.size wr (wr.alloc (.cells #[.int .i64 k] 3)) := (Below.refl _ _).alloc (Nat.le_refl _) _
    have q := boxed_new (wr.alloc (.cells #[.int .i64 k] 3)) (bls2 (fun _ => false) fun _ => false).toArray 141 (bls2 st fa) (by rw [List.size_toArray, bls2_length, bls2_length])
    have q2 := row_all (row_new (wr.alloc (.cells #[.int .i64 k] 3)) (bls2 (fun _ => false) fun _ => false).toArray 141) (vs := bls2 st fa) (by rw [List.toList_toArray, bls2_length, bls2_length])
    rw [World.size_alloc] at q q2
    rw [hIv, hCv]
    exact ⟨q0.trans (q.1.mono (by omega)), (cells_new wr #[.int .i64 k] 3).below (by rw [World.size_alloc]; exact q.1), q2⟩
   obtain ⟨h6, hCI, hRC⟩ := hCut
   have hS6 := hS.on h6
   clear hIv hCv hrx hbx
   refine Ks ?_
   refine Rs 2 fun Q' K hK => ?_
   refine M2 hE 7 8 fun K' J ρ q7 q8 => ?_; go_simp
   refine Ln hE J fun _ Eb => ?_; clear J K' hE a q7 q8
   refine M1 Eb 32 fun K' J ρ q32 => ?_; go_simp
   refine Ln Eb J fun _ Ea => ?_; clear J K' Eb q32
   refine Ld [2, 6, 7, 9, 10, 25, 26, 27] Ea hK fun a hE => ?_; clear hK K Q' Ea
   have THG := hid fun (V0 : World) h1 h2 h3 => those_goes (H := H) (hcap := hcap) (S := S) (scap := scap) (b := b) (P := P) (pcap := pcap) (A := A) (c := c) (xs := xs) (f := f) (B := B) (Cc := Cc) (Kn := Kn) (Fr := Fr) (Wi := Wi) (Mb := Mb) w2 V0 k Wv Iv (fun m => st m || fa m) hHL h1 h2 h3
   rw [← HOU.out] at THG
   have hL6 := hS6.lt
   have c10 := (hS6.row 10 _ rfl).1
   have hWv6 := hS6.wv
   obtain ⟨hON, hN6, hWN, hMN⟩ := hS6.lo
   refine Ks ?_
   refine Rd [7, 8, 9] (fun wt => LtS H hcap S scap b P pcap A c xs f B Cc Kn Fr Wi Mb w2 wt ∧ KeepX (fun q => q = Mb) w6 wt) (fun w1 w2 => KeepC w1 w2) [(0, some 33), (1, some 34), (2, some 35), (3, some 36), (4, some 37), (5, some 38), (6, some 39)] [33, 34, 35, 36, 37, 38, 39] #[true, true, true, true, true, true, true, false, false, false] [2, 6, 7, 25, 26, 27] hE (⟨hL6.on ((Below.refl _ _).drew), .of_below ((Below.refl _ _).drew)⟩) fun Q' K hK => ?_
   refine SeqOps.val ?_ (Sp fun ax wx hS hT' hd K' J => ?_) ?_; rotate_left 1
   ·have r6 := hS.at 6 (by decide) (hE.at 6 rfl); have hKT := hL6.keepC hT'.2; have d10 := hKT.cell _ _ c10
    refine Go.Proofs.YtkhmcofmjjmjhaaDoor.o1 r6 fun ρ q6 => ?_; go_simp;
    refine J.out _ _ _ rfl ?_ hT' (KeepC.refl _); rfl
   refine SeqOps.val ?_ (Sp fun ax wx hS hT' hd K' J => ?_) ?_; rotate_left 1
   ·have r33 := Tv hd 0 0 33; have hKT := hL6.keepC hT'.2; have d10 := hKT.cell _ _ c10
    refine Go.Proofs.YtkhmcofmjjmjhaaDoor.o1 r33 fun ρ q33 => ?_; go_simp;
    refine J.out _ _ _ rfl ?_ hT' (KeepC.refl _); rfl
   refine SeqOps.val ?_ (Sp fun ax wx hS hT' hd K' J => ?_) ?_; rotate_left 1
   ·have r9 := hS.at 9 (by decide) (hE.at 9 rfl); have hKT := hL6.keepC hT'.2; have d10 := hKT.cell _ _ c10
    refine wp_load_mid 141 (.tmp 9) rfl Cv 0 (eval_of r9) (bls2 st fa) _ (fun j u hu => by rw [Nat.zero_add]; exact hKT.cell _ u (hRC j u hu).1) Tryd.underlying141 rfl (by rw [bls2_length]; kernel_rfl) ?_
    refine J.out _ _ _ rfl ?_ hT' (KeepC.refl _); rfl
   refine SeqOps.val ?_ (Sp fun ax wx hS hT' hd K' J => ?_) ?_; rotate_left 1
   ·have r35 := Tv hd 0 2 35; have hKT := hL6.keepC hT'.2; have d10 := hKT.cell _ _ c10
    refine Go.Proofs.YtkhmcofmjjmjhaaDoor.o1 r35 fun ρ q35 => ?_; go_simp; (try go_bits);
    go_at_call 103; refine (cloads_any st fa _).mono ?_; rintro e g1 ⟨rfl, k1⟩
    refine J.out _ _ _ rfl ?_ ⟨hT'.1.on k1, hT'.2.trans (.of_below k1)⟩ (.of_below k1); rfl
   refine SeqOps.val ?_ (Sp fun ax wx hS hT' hd K' J => ?_) ?_; rotate_left 1
   ·have r10 := hS.at 10 (by decide) (hE.at 10 rfl); have hKT := hL6.keepC hT'.2; have d10 := hKT.cell _ _ c10
    refine Go.Proofs.YtkhmcofmjjmjhaaDoor.o1 r10 fun ρ q10 => ?_; go_simp;
    refine J.out _ _ _ rfl ?_ hT' (KeepC.refl _); rfl
   refine SeqOps.val ?_ (Sp fun ax wx hS hT' hd K' J => ?_) ?_; rotate_left 1
   ·have r36 := Tv hd 1 3 36; have r37 := Tv hd 0 4 37; have hKT := hL6.keepC hT'.2; have d10 := hKT.cell _ _ c10
    refine o2 r36 r37 fun ρ q36 q37 => ?_; go_simp; (try go_bits);
    go_at_call 104; refine (THG.out _ hT'.1 (hWv6.c hKT) (hCI.c hKT)).mono ?_; rintro e g1 ⟨rfl, k1, l1⟩
    refine J.out _ _ _ rfl ?_ ⟨l1, hT'.2.trans k1⟩ (hT'.1.keepC k1); rfl
   refine SeqOps.say (fun v wt => ∃ g, v = .slice (some ⟨g, 0, none⟩) 1 1 ∧ g < wt.heap.size ∧ wt.rangeAt g 0 (bls (ouL xs f k))) (fun v x y h ⟨g, h1, h2, h3⟩ => ⟨g, h1, Nat.lt_of_lt_of_le h2 h.size, fun j u hu => h.cell _ u (h3 j u hu)⟩) (Sp fun ax wx hS hT' hd K' J => ?_) ?_
   ·have r38 := Tv hd 0 5 38; have hKT := hL6.keepC hT'.2; have d10 := hKT.cell _ _ c10
    refine wp_buildOne 90 123 (.tmp 38) rfl (bls (ouL xs f k)) 2000 (eval_of r38) Tryd.underlying90 (by kernel_rfl) (by kernel_rfl) (bls_length _) (by decide) (by decide) ?_
    have k1 : Below wx.heap.size wx (wx.alloc (.cells (bls (ouL xs f k)).toArray 123)) := (Below.refl _ _).alloc (Nat.le_refl _) _
    exact J.out _ _ _ rfl ⟨_, rfl, by simp, fun j u hu => by rw [Nat.zero_add]; exact (row_new wx (bls (ouL xs f k)).toArray _ j u (by simpa using hu)).1⟩ ⟨hT'.1.on k1, hT'.2.trans (.of_below k1)⟩ (.of_below k1)
   refine SeqOps.nil ?_
   intro w8 hBn; (repeat refine Ek ?_); (refine fun v h => ?_; obtain ⟨g6, rfl, hg1, hg2⟩ := h);
   refine fun anx hEnx => ?_
   simp only [lk, pick, Nat.reduceEqDiff, ↓reduceIte] at hEnx
   refine Lp fun K' J => ?_
   have r34 := hEnx.at 34 rfl; have r39 := hEnx.at 39 rfl
   have hS8 := hS6.step (HGN.out Mb (by simp)).2.symm hBn.1 hBn.2
   refine wp_appN (.tmp 34) (.tmp 39) 90 rfl N 123 (.agg Tryd.zeroCells123) 2000 2000 Tryd.underlying90 loads_zero (by kernel_rfl) (by decide) _ _ _ (eval_of r34) hS8.own w8.heap.size (some ⟨g6, 0, none⟩) 1 1 (bls (ouL xs f k)) (eval_of r39) (fun _ => ⟨g6, 0, rfl, hg1, fun j u hu => hg2 j u hu⟩) (by rw [bls_length]) (fun u hu => Array.all_eq_true'.1 (bls_one (ouL xs f k)) u (by simpa using hu)) (by simp only [maxLen]; omega) (by omega) hS8.lo.2.1 (fun A2 c2 w9 q1 q2 q3 q4 q5 => ?_)
   have hsn := hS8.snoc hnO hM2 hA2 HGN.out hWO q3 q4
   have y10 := hsn.2
   (try clear r34 r39)
   refine Ln hEnx J fun an_1 hEn_1 => ?_; clear J K' hEnx
   refine M1 hEn_1 6 fun K' J ρ q6 => ?_; go_simp; (try clear q6)
   refine Ln hEn_1 J fun an_2 hEn_2 => ?_; clear J K' hEn_1
   refine M2 hEn_2 41 40 fun K' J ρ q41 q40 => ?_; go_simp; (try clear q41 q40)
   refine late_skip hEn_2 J (fun an_3 hEn_3 => ?_); clear J K'; clear hEn_2
   refine Ld [2, 6, 7, 25, 26, 27] hEn_3 hK fun a hE => ?_; clear hK K Q' hEn_3
   refine world_cut (fun wt => OuS H hcap S scap b P pcap A c xs f B Cc Kn Fr Wi Mb O Wv N w2 (k + 1) A2 c2 0 wt) hsn.1 (fun w10 hS10 => ?_)
   clear y10 hsn q1 q2 q3 q4 q5
   refine Ks ?_
   refine Rs 2 fun Q' K hK => ?_
   refine M1 hE 27 fun K' J ρ q27 => ?_; go_simp; (try go_bits); (try simp (disch := omega) only [IntWalk.i64_in])
   refine Ln hE J fun _ Eb => ?_; clear J K' hE a q27
   refine M1 Eb 42 fun K' J ρ q42 => ?_; go_simp
   refine Ln Eb J fun _ Ea => ?_; clear J K' Eb q42
   refine Ld [2, 6, 7, 25, 26, 27] Ea hK fun a hE => ?_; clear hK K Q' Ea
   refine Ks ?_
   exact ⟨k + 1, ⟨A2, c2, hlt, by rw [← hAe] at hE; simpa using hE, hS10⟩, by omega⟩
  ·have hke : k = xs.length := by omega
   subst hke
   refine Ks ?_
   refine Rs 1 fun Q' K hK => ?_
   refine M2 hE 27 26 fun K' J ρ q27 q26 => ?_; go_simp; (try go_bits)
   refine Ln hE J fun _ Eb => ?_; clear J K' hE a q27 q26
   replace Eb := Eb.turn 28 (v' := .bool false) rfl (by simp)
   refine Ld [2, 6, 7, 25, 26, 27, 28] Eb hK fun a hE => ?_; clear hK K Q' Eb
   refine Ks ?_
   refine cond_no hE (t := 28) rfl ?_
   refine Ks ?_
   refine Rs 1 fun Q' K hK => ?_
   refine M0 fun K' J ρ => ?_; go_simp;
   refine Ln hE J fun _ Eb => ?_; clear J K' hE a
   refine Ld [2, 6, 7, 43] Eb hK fun a hE => ?_; clear hK K Q' Eb
   refine Ks ?_
   have hHL := HLA.out A c B Cc Kn Fr Wi Mb w2 0 (by omega)
   refine loop_st (fun (k : Nat) a w' => k ≤ 2000 ∧ Fits 61 [(2, .pointer (some ⟨R, 0, none⟩)), (6, .pointer (some ⟨O, 0, none⟩)), (7, .pointer (some ⟨Wv, 0, none⟩)), (43, .int .i64 k)] a ∧ OuS H hcap S scap b P pcap A c xs f B Cc Kn Fr Wi Mb O Wv N w2 xs.length D dc (ofN xs f k) w') (fun k => 2000 - k) 0 ⟨Nat.zero_le _, by simpa using hE, hS⟩ (fun k a ws hI => ?_)
   clear hE hS hbr
   obtain ⟨hk2, hE, hS⟩ := hI
   have hbs := hb2.trans (hS.lt.below.mono hb2.size)
   by_cases hlt2 : k < 2000
   ·have hltI : (k : Int) < 2000 := by omega
    have hx9 : (xs.length : Int) ≤ 9223372036854775807 := by omega
    have hx0 : (0 : Int) < xs.length := by omega
    have hx0N : 0 < xs.length := by omega
    obtain ⟨bd, od, hDe, hbd, hrd⟩ := ld_at (own_arr hS.own) 0 (by simp [ouA]; omega)
    have hou0 : (ouA xs f xs.length)[0]'(by simp [ouA]; omega) = ouL xs f 0 := by simp [ouA]
    rw [hou0] at hrd
    have hcell := hrd k _ (bls_at _ hlt2)
    rw [Nat.zero_mul, Nat.add_zero] at hcell
    have HOF := hid (ofN_succ xs f k)
    have hol := ofN_lt xs f hx12 k
    have hwl := wS_lt xs f 0 k hx12
    have HW0 := hid fun (V : World) hV => hHL k V hlt2 hV
    obtain ⟨ov, hov⟩ : ∃ ov, ofN xs f k = ov := ⟨_, rfl⟩
    obtain ⟨wv, hwv⟩ : ∃ wv, wS xs f 0 k = wv := ⟨_, rfl⟩
    obtain ⟨q, hq⟩ : ∃ q, ouL xs f 0 k = q := ⟨_, rfl⟩
    rw [hov, hwv, hq] at HOF
    rw [hwv] at HW0 hwl
    rw [hov] at hol hS
    rw [hq] at hcell
    clear hov hwv hq hrd hou0
    have d10 := (hS.row 10 _ rfl).1
    have hlO := Nat.lt_of_lt_of_le hS.lo.1 hS.lo.2.1
    have hDs := hDe
    rw [hDe] at d10
    refine Ks ?_
    refine Rs 1 fun Q' K hK => ?_
    refine M1 hE 43 fun K' J ρ q43 => ?_; go_simp; (try go_bits)
    refine Ln hE J fun _ Eb => ?_; clear J K' hE a q43
    replace Eb := Eb.turn 44 (v' := .bool true) rfl (by (first | (simp; done) | (simp; omega)))
    refine Ld [2, 6, 7, 43, 44] Eb hK fun a hE => ?_; clear hK K Q' Eb
    refine Ks ?_
    refine cond_yes hE (t := 44) rfl ?_
    refine Ks ?_
    refine Rs 2 fun Q' K hK => ?_
    refine M1 hE 43 fun K' J ρ q43 => ?_; go_simp
    refine Ln hE J fun _ Eb => ?_; clear J K' hE a q43
    refine M1 Eb 45 fun K' J ρ q45 => ?_; go_simp
    refine Ln Eb J fun _ Ea => ?_; clear J K' Eb q45
    refine Ld [2, 6, 7, 11, 43] Ea hK fun a hE => ?_; clear hK K Q' Ea
    refine Ks ?_
    refine Rs 6 fun Q' K hK => ?_
    refine M1 hE 6 fun K' J ρ q6 => ?_; go_simp
    refine Ln hE J fun _ Eb => ?_; clear J K' hE a q6
    refine M1 Eb 46 fun K' J ρ q46 => ?_; go_simp
    refine Ln Eb J fun _ Ea => ?_; clear J K' Eb q46
    refine M1 Ea 11 fun K' J ρ q11 => ?_; go_simp
    refine Ln Ea J fun _ Eb => ?_; clear J K' Ea q11
    refine M1 Eb 47 fun K' J ρ q47 => ?_; go_simp; (try go_bits)
    refine Ln Eb J fun _ Ea => ?_; clear J K' Eb q47
    refine M2 Ea 49 48 fun K' J ρ q49 q48 => ?_; go_simp; (try go_bits)
    refine Ln Ea J fun _ Eb => ?_; clear J K' Ea q49 q48
    refine M1 Eb 50 fun K' J ρ q50 => ?_; go_simp
    refine Ln Eb J fun _ Ea => ?_; clear J K' Eb q50
    refine Ld [2, 6, 7, 11, 43, 51] Ea hK fun a hE => ?_; clear hK K Q' Ea
    cases hv : q
    ·rw [hv] at hE HOF
     clear hv
     refine Ks ?_
     refine cond_no hE (t := 51) rfl ?_
     refine Ks ?_
     refine Rs 2 fun Q' K hK => ?_
     refine M1 hE 43 fun K' J ρ q43 => ?_; go_simp; (try go_bits); (try simp (disch := omega) only [IntWalk.i64_in])
     refine Ln hE J fun _ Eb => ?_; clear J K' hE a q43
     refine M1 Eb 59 fun K' J ρ q59 => ?_; go_simp
     refine Ln Eb J fun _ Ea => ?_; clear J K' Eb q59
     refine Ld [2, 6, 7, 43] Ea hK fun a hE => ?_; clear hK K Q' Ea
     refine Ks ?_
     exact ⟨k + 1, ⟨hlt2, by simpa using hE, by rw [HOF.out]; simpa using hS⟩, by omega⟩
    ·rw [hv] at hE HOF
     have hL6 := hS.lt
     have c11 := (hS.row 11 _ rfl).1
     have c0 := hS.wv.2 0 _ rfl
     clear hv hcell d10
     refine Ks ?_
     refine cond_yes hE (t := 51) rfl ?_
     refine Ks ?_
     refine Rd [6, 7] (fun wt => LtS H hcap S scap b P pcap A c xs f B Cc Kn Fr Wi Mb w2 wt ∧ KeepX (fun q => q = Mb) ws wt) (fun w1 w2 => KeepC w1 w2) [(0, some 52), (1, some 53), (2, some 54), (3, some 55), (4, some 56), (5, some 57)] [52, 53, 54, 55, 56, 57] #[true, true, true, true, true, true, false, false] [2, 6, 7, 43] hE (⟨hL6.on ((Below.refl _ _).drew), .of_below ((Below.refl _ _).drew)⟩) fun Q' K hK => ?_
     refine SeqOps.val ?_ (Sp fun ax wx hS hT' hd K' J => ?_) ?_; rotate_left 1
     ·have r6 := hS.at 6 (by decide) (hE.at 6 rfl); have hKT := hL6.keepC hT'.2; have d11 := hKT.cell _ _ c11; have d0 := hKT.cell _ _ c0
      refine Go.Proofs.YtkhmcofmjjmjhaaDoor.o1 r6 fun ρ q6 => ?_; go_simp;
      refine J.out _ _ _ rfl ?_ hT' (KeepC.refl _); rfl
     refine SeqOps.val ?_ (Sp fun ax wx hS hT' hd K' J => ?_) ?_; rotate_left 1
     ·have r52 := Tv hd 0 0 52; have hKT := hL6.keepC hT'.2; have d11 := hKT.cell _ _ c11; have d0 := hKT.cell _ _ c0
      refine Go.Proofs.YtkhmcofmjjmjhaaDoor.o1 r52 fun ρ q52 => ?_; go_simp;
      refine J.out _ _ _ rfl ?_ hT' (KeepC.refl _); rfl
     refine SeqOps.val ?_ (Sp fun ax wx hS hT' hd K' J => ?_) ?_; rotate_left 1
     ·have r7 := hS.at 7 (by decide) (hE.at 7 rfl); have hKT := hL6.keepC hT'.2; have d11 := hKT.cell _ _ c11; have d0 := hKT.cell _ _ c0
      refine Go.Proofs.YtkhmcofmjjmjhaaDoor.o1 r7 fun ρ q7 => ?_; go_simp;
      refine J.out _ _ _ rfl ?_ hT' (KeepC.refl _); rfl
     refine SeqOps.val ?_ (Sp fun ax wx hS hT' hd K' J => ?_) ?_; rotate_left 1
     ·have r11 := hS.at 11 (by decide) (hE.at 11 rfl); have hKT := hL6.keepC hT'.2; have d11 := hKT.cell _ _ c11; have d0 := hKT.cell _ _ c0
      refine Go.Proofs.YtkhmcofmjjmjhaaDoor.o1 r11 fun ρ q11 => ?_; go_simp;
      refine J.out _ _ _ rfl ?_ hT' (KeepC.refl _); rfl
     refine SeqOps.val ?_ (Sp fun ax wx hS hT' hd K' J => ?_) ?_; rotate_left 1
     ·have r54 := Tv hd 1 2 54; have r55 := Tv hd 0 3 55; have hKT := hL6.keepC hT'.2; have d11 := hKT.cell _ _ c11; have d0 := hKT.cell _ _ c0
      refine o2 r54 r55 fun ρ q54 q55 => ?_; go_simp; (try go_bits);
      go_at_call 119; refine (HW0.out _ hT'.1).mono ?_; rintro e g1 ⟨rfl, k1, l1⟩
      refine J.out _ _ _ rfl ?_ ⟨l1, hT'.2.trans k1⟩ (hT'.1.keepC k1); rfl
     refine SeqOps.val ?_ (Sp fun ax wx hS hT' hd K' J => ?_) ?_; rotate_left 1
     ·have r53 := Tv hd 3 1 53; have r56 := Tv hd 0 4 56; have hKT := hL6.keepC hT'.2; have d11 := hKT.cell _ _ c11; have d0 := hKT.cell _ _ c0
      refine o2 r53 r56 fun ρ q53 q56 => ?_; go_simp; (try go_bits);
      rw [or_nat _ _ (by omega) (by omega)]
      refine J.out _ _ _ rfl ?_ hT' (KeepC.refl _); rfl
     refine SeqOps.nil ?_
     intro w8 hBn; (repeat refine Ek ?_)
     refine fun anx hEnx => ?_
     simp only [lk, pick, Nat.reduceEqDiff, ↓reduceIte] at hEnx
     refine M1 hEnx 6 fun K' J ρ q6 => ?_; go_simp; (try clear q6)
     refine Ln hEnx J fun an_1 hEn_1 => ?_; clear J K' hEnx
     have hS8 := hS.step (HGN.out Mb (by simp)).2.symm hBn.1 hBn.2
     have y11 := (hS8.row 11 _ rfl).2
     refine M2 hEn_1 58 57 fun K' J ρ q58 q57 => ?_; go_simp; (try clear q58 q57)
     refine late_skip hEn_1 J (fun an_2 hEn_2 => ?_); clear J K'; clear hEn_1
     refine Ld [2, 6, 7, 43] hEn_2 hK fun a hE => ?_; clear hK K Q' hEn_2
     refine world_cut (fun wt => OuS H hcap S scap b P pcap A c xs f B Cc Kn Fr Wi Mb O Wv N w2 xs.length D dc (ov ||| wv) wt) (hS8.more hnO hM2 hA2 HGN.out hWO _) (fun w10 hS10 => ?_)
     clear y11 hS8
     refine Ks ?_
     refine Rs 2 fun Q' K hK => ?_
     refine M1 hE 43 fun K' J ρ q43 => ?_; go_simp; (try go_bits); (try simp (disch := omega) only [IntWalk.i64_in])
     refine Ln hE J fun _ Eb => ?_; clear J K' hE a q43
     refine M1 Eb 59 fun K' J ρ q59 => ?_; go_simp
     refine Ln Eb J fun _ Ea => ?_; clear J K' Eb q59
     refine Ld [2, 6, 7, 43] Ea hK fun a hE => ?_; clear hK K Q' Ea
     refine Ks ?_
     exact ⟨k + 1, ⟨hlt2, by simpa using hE, by rw [HOF.out]; simpa using hS10⟩, by omega⟩
   ·have hke : k = 2000 := by omega
    subst hke
    have hrO := hS.row
    have hRD9 := hRD2.below hS.lt.below
    have hlo := hS.lo
    obtain ⟨hlR, zs, hzs, hRR⟩ := hRD9
    have hRw2 := hRD2.1
    refine Ks ?_
    refine Rs 1 fun Q' K hK => ?_
    refine M1 hE 43 fun K' J ρ q43 => ?_; go_simp; (try go_bits)
    refine Ln hE J fun _ Eb => ?_; clear J K' hE a q43
    replace Eb := Eb.turn 44 (v' := .bool false) rfl (by simp)
    refine Ld [2, 6, 7, 43, 44] Eb hK fun a hE => ?_; clear hK K Q' Eb
    refine Ks ?_
    refine cond_no hE (t := 44) rfl ?_
    refine Ks ?_
    refine Rs 3 fun Q' K hK => ?_
    refine Lp fun K' J => ?_
    have r6 := hE.at 6 rfl
    refine wp_load_mid 94 (.tmp 6) rfl O 0 (eval_of r6) (olV H hcap S scap b P xs.length pcap D xs.length dc (.int .u64 (ofN xs f 2000))) _ (fun j u hu => by rw [Nat.zero_add]; exact (hrO j u hu).1) Tryd.underlying94 rfl (by kernel_rfl) ?_
    (try clear r6)
    refine Ln hE J fun _ Eb => ?_; clear J K' hE a
    refine Lp fun K' J => ?_
    have r2 := Eb.at 2 rfl; have r60 := Eb.at 60 rfl
    refine wp_store_mid 94 (.tmp 2) (.tmp 60) rfl R 0 (olV H hcap S scap b P xs.length pcap D xs.length dc (.int .u64 (ofN xs f 2000))).toArray (eval_of r2) (eval_of r60) (there_row hRR (by rw [hzs]; exact Nat.le_refl _)) (by kernel_rfl) (by kernel_rfl) ?_
    (try clear r2 r60)
    refine late_skip Eb J (fun _ Ea => ?_); clear J K'; clear Eb
    refine M0 fun K' J ρ => ?_; go_simp;
    refine Ln Ea J fun _ Eb => ?_; clear J K' Ea
    refine Ld [2, 3] Eb hK fun a hE => ?_; clear hK K Q' Eb
    obtain ⟨q1, q2, q3, q4⟩ := cells_stored hRR (vs := olV H hcap S scap b P xs.length pcap D xs.length dc (.int .u64 (ofN xs f 2000))) (by rw [hzs]; rfl) hlR hnR hbs
    refine world_cut (fun wt => Cells wt R (olV H hcap S scap b P xs.length pcap D xs.length dc (.int .u64 (ofN xs f 2000))) ∧ Below w.heap.size w wt ∧ LdN w.heap.size wt D (ouA xs f xs.length)) ⟨q1, q2, ld_n ((own_arrG (own_of_block hS.own (Nat.le_of_eq q4.symm) (fun g hg => q3 g (by have := ownBlock_le hS.own g hg; omega)))).less (by omega))⟩ (fun w9 hCut => ?_)
    obtain ⟨hC9, hb9, hL9⟩ := hCut
    refine Ks ?_
    exact ret_cell_two hE rfl rfl rfl hC9.2 Tryd.underlying94 rfl (by kernel_rfl) ⟨.inl ⟨rfl, D, dc, rfl, hL9⟩, hb9⟩
end
end Go.Proofs.YtkhmcofmjjmjhaaDoor
