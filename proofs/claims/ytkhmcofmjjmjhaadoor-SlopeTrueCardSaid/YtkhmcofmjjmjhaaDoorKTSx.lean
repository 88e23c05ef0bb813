/- Slope: the fewest sights that must be wrong. -/
import Derived.Test.YtkhmcofmjjmjhaaDoorKTSw

namespace Go.Proofs.YtkhmcofmjjmjhaaDoor
set_option linter.unusedSimpArgs false
set_option linter.unusedVariables false
open Go Go.RowKit
attribute [local go_sem high] cell_set_wr
attribute [local go_sem low] cell_wr frozen_wr
attribute [local go_sem] wr_set wr_drew wr_drewN wr_alloc wr_new Rho.c Rho.n Rho.g
attribute [local go_sem] run_store_func
/-- the best list so far, in a block of its own -/
def BestAt (V : World) (Bt : Nat) (l : List Nat) : Prop := ∃ A c, V.heap[Bt]? = some (.cells #[.slice A l.length c] 40) ∧ ArrD V A (nats l)
/-- numbers in a block that is not this one -/
def ArrN (Bt : Nat) (V : World) (A : Option Addr) (l : List Nat) : Prop := nats l ≠ [] → ∃ b o, A = some ⟨b, o, none⟩ ∧ b < V.heap.size ∧ b ≠ Bt ∧ ∀ j u, (nats l)[j]? = some u → V.cell? ⟨b, o + j, none⟩ = some u
theorem ArrN.arr {Bt : Nat} {V : World} {A : Option Addr} {l : List Nat} (h : ArrN Bt V A l) : ArrD V A (nats l) := fun hx => by
 obtain ⟨b, o, e, h1, _, h2⟩ := h hx
 exact ⟨b, o, e, h1, h2⟩
theorem ArrN.keep {Bt : Nat} {V V' : World} {A : Option Addr} {l : List Nat} (h : ArrN Bt V A l) (hk : KeepX (fun q => q = Bt) V V') : ArrN Bt V' A l := fun hx => by
 obtain ⟨b, o, e, h1, h0, h2⟩ := h hx
 exact ⟨b, o, e, Nat.lt_of_lt_of_le h1 hk.size, h0, fun j u hu => (World.cell?_of_block (hk.block b h1 h0)).trans (h2 j u hu)⟩
theorem arrN_of {Bt : Nat} {V : World} {A : Option Addr} {l : List Nat} {x : Value} (h : ArrD V A (nats l)) {X : Option Addr} {n c : Nat} (hB : V.heap[Bt]? = some (.cells #[.slice X n c] 40)) : ArrN Bt V A l := fun hx => by
 obtain ⟨b, o, e, h1, h2⟩ := h hx
 refine ⟨b, o, e, h1, fun hb => ?_, h2⟩
 subst hb
 cases l with
 | nil => exact hx rfl
 | cons n0 l =>
  have c := h2 0 (natV n0) rfl
  simp only [World.cell?, hB] at c
  cases o with
  | zero => simp [natV] at c
  | succ m => simp at c
theorem blk_set {V : World} {Bt : Nat} {x v : Value} {t : TypeId} (h : V.heap[Bt]? = some (.cells #[x] t)) : (V.setCell ⟨Bt, 0, none⟩ v).heap[Bt]? = some (.cells #[v] t) := by
 simp [World.setCell, Array.getElem?_modify, h]
theorem blk_cell {V : World} {Bt : Nat} {x : Value} {t : TypeId} (h : V.heap[Bt]? = some (.cells #[x] t)) : V.cell? ⟨Bt, 0, none⟩ = some x := by simp [World.cell?, h]
theorem blk_wr {V : World} {Bt : Nat} {x : Value} {t : TypeId} (h : V.heap[Bt]? = some (.cells #[x] t)) : Wr V Bt 0 := Wr.of (blk_cell h) (by simp [World.frozen?, h])
theorem BestAt.below {V V' : World} {Bt : Nat} {l : List Nat} (h : BestAt V Bt l) (hb : Below V.heap.size V V') : BestAt V' Bt l := by
 obtain ⟨A, c, h1, h2⟩ := h
 exact ⟨A, c, heap_kept h1 hb, h2.below hb⟩
theorem BestAt.set {V : World} {Bt : Nat} {l out : List Nat} (h : BestAt V Bt l) {T : Option Addr} {c : Nat} (hT : ArrD V T (nats out)) : BestAt (V.setCell ⟨Bt, 0, none⟩ (.slice T out.length c)) Bt out := by
 obtain ⟨A, c', h1, h2⟩ := h
 refine ⟨T, c, blk_set h1, fun hx => ?_⟩
 obtain ⟨b, o, e, q1, q2, q3⟩ := arrN_of (x := .nilFunc) hT h1 hx
 refine ⟨b, o, e, by simpa using q1, fun j u hu => ?_⟩
 rw [World.cell?_setCell_other _ _ _ _ (by intro e'; have := congrArg Addr.block e'; simp only at this; exact q2 this.symm)]
 exact q3 j u hu
theorem keepX_set {V : World} {Bt : Nat} (v : Value) : KeepX (fun q => q = Bt) V (V.setCell ⟨Bt, 0, none⟩ v) := ⟨rfl, rfl, rfl, by simp, fun k _ hk => Below.heap_setCell _ _ _ _ hk⟩
theorem KeepX.cells {M : Nat → Prop} {V V' : World} {B : Nat} {l : List Value} (h : Cells V B l) (hk : KeepX M V V') (hM : ¬ M B) : Cells V' B l := ⟨Nat.lt_of_lt_of_le h.1 hk.size, fun j u hu => (World.cell?_of_block (w := V) (a := ⟨B, j, none⟩) (hk.block B h.1 hM)).trans (h.2 j u hu)⟩
theorem KeepX.from {M : Nat → Prop} {w V V' : World} (h : Below w.heap.size w V) (hk : KeepX M V V') (hM : ∀ q, M q → w.heap.size ≤ q) : Below w.heap.size w V' := ⟨hk.os.trans h.os, hk.tape.trans h.tape, hk.output.trans h.output, Nat.le_trans h.size hk.size, fun q hq => (hk.block q (Nat.lt_of_lt_of_le hq h.size) (fun hm => by have := hM q hm; omega)).trans (h.block q hq)⟩
theorem nats_snoc (l : List Nat) (n : Nat) : nats (l ++ [n]) = nats l ++ [.int .i64 n] := by simp [nats, natV]
theorem leaP_fold_le (C : List Nat → Bool) (n d : Nat) (out : List Nat) {k : Nat} (hd : n - k < d + 1) : ∀ (m k' : Nat) (bs : List Nat), bs.length ≤ 6 → k ≤ k' → ((List.range' k' m).foldl (fun best i => leaP C n d (out ++ [i]) (i + 1) best) bs).length ≤ 6
 | 0, _, _, h, _ => h
 | m + 1, k', bs, h, hk => by
  rw [List.range'_succ, List.foldl_cons]
  refine leaP_fold_le C n d out hd m (k' + 1) _ ?_ (by omega)
  rcases Nat.lt_or_ge (n - (k' + 1)) d with h1 | h1
  ·exact Nat.le_trans (leaP_le _ _ _ _ _ _ h1) h
  ·cases d with
   | zero => exact h
   | succ d => exact Nat.le_trans (leaP_le _ _ _ _ _ _ (by omega)) h
section
variable (H : Option Addr) (hcap : Nat) (S : Option Addr) (scap : Nat) (b : Sb) (P : Option Addr) (n pcap : Nat) (Bt Bb Lv : Nat)
def cW (b : Sb) : List Nat → Bool := fun out => rtB (withoutB b out)
/-- what the closure reads -/
structure LvD (w V : World) : Prop where
 below : Below w.heap.size w V
 cb : Cells V Bb (bkV H hcap S scap b P n pcap)
 cl : Cells V Lv [.func (.func 90) #[] #[.pointer (some ⟨Bt, 0, none⟩), .pointer (some ⟨Bb, 0, none⟩), .pointer (some ⟨Lv, 0, none⟩)]]
 ne : Bb ≠ Bt ∧ Lv ≠ Bt ∧ w.heap.size ≤ Bt
variable {H hcap S scap b P n pcap Bt Bb Lv}
theorem LvD.keep {w V V' : World} (h : LvD H hcap S scap b P n pcap Bt Bb Lv w V) (hk : KeepX (fun q => q = Bt) V V') : LvD H hcap S scap b P n pcap Bt Bb Lv w V' := ⟨KeepX.from h.below hk (fun q hq => by rw [hq]; exact h.ne.2.2), KeepX.cells h.cb hk h.ne.1, KeepX.cells h.cl hk h.ne.2.1, h.ne⟩
theorem LvD.on {w V V' : World} (h : LvD H hcap S scap b P n pcap Bt Bb Lv w V) (hk : Below V.heap.size V V') : LvD H hcap S scap b P n pcap Bt Bb Lv w V' := h.keep (.of_below hk)
set_option maxRecDepth 100000 in
set_option maxHeartbeats 2000000 in
theorem leave_any (hb : OkB b) (w : World) (hM : SbAt w H S b) : ∀ (d : Nat) (out : List Nat) (k : Nat) (T : Option Addr) (c : Nat) (best : List Nat) (V : World), b.sights.length - k < d → k ≤ b.sights.length → best.length ≤ 6 → out.length ≤ 1000 - d → d ≤ 500 → out.length ≤ c → ArrN Bt V T out → BestAt V Bt best → LvD H hcap S scap b P n pcap Bt Bb Lv w V →
    Calls Tryd.prog 90 #[.slice T out.length c, .int .i64 k, .pointer (some ⟨Bt, 0, none⟩), .pointer (some ⟨Bb, 0, none⟩), .pointer (some ⟨Lv, 0, none⟩)] V
     fun e V' => (∃ v, e = .returned v) ∧ KeepX (fun q => q = Bt) V V' ∧ BestAt V' Bt (leaP (cW b) b.sights.length d out k best) := by
 have hS6 := hb.sights
 have HWO := hid fun (T : Option Addr) (c : Nat) (out : List Nat) (W : World) (h1 : SbAt W H S b) (h2 : ArrD W T (nats out)) (h3 : out.length ≤ 9223372036854775807) => without_any H hcap S scap b P pcap hb n T c out W h1 h2 h3
 have HCB := hid fun (S' : Option Addr) (sc : Nat) (out : List Nat) (P' : Option Addr) (c' : Nat) (W : World) (h1 : HpsAt W P' (hpsOf (withoutB b out))) => canBeTrue_any H hcap S' sc (withoutB b out) P' c' (ok_without hb out) W h1
 clear hb
 intro d
 induction d with
 | zero => intro out k T c best V hd; omega
 | succ d ih =>
  intro out k T c best V hd hkn hbl hol hd5 hc hT hBe hD
  have HLE : Hid (leaP (cW b) b.sights.length (d + 1) out k best = if best.length ≤ out.length then best else if cW b out then out else (List.range' k (b.sights.length - k)).foldl (fun best i => leaP (cW b) b.sights.length d (out ++ [i]) (i + 1) best) best) := hid rfl
  rw [HLE.out]
  obtain ⟨A0, c0, hBk, hBa⟩ := hBe
  have hcBt := blk_cell hBk
  have hwBt := blk_wr hBk
  have hlBt := heap_lt hBk
  have hMV := hM.below hD.below
  have hCb := hD.cb
  refine enterE Tryd.func90 rfl Tryd.ntmps90 (by simp) (fun a hE => ?_); simp only [envOf, Nat.zero_add, Nat.reduceAdd] at hE
  by_cases hle : best.length ≤ out.length
  ·rw [if_pos hle]
   have hleI : (best.length : Int) ≤ (out.length : Int) := by omega
   refine Ks ?_
   refine Rs 5 fun Q' K hK => ?_
   refine M1 hE 0 fun K' J ρ q0 => ?_; go_simp
   refine Ln hE J fun _ Eb => ?_; clear J K' hE a q0
   refine M1 Eb 8 fun K' J ρ q8 => ?_; go_simp; (try go_bits)
   refine Ln Eb J fun _ Ea => ?_; clear J K' Eb q8
   refine M1 Ea 2 fun K' J ρ q2 => ?_; go_simp
   refine Ln Ea J fun _ Eb => ?_; clear J K' Ea q2
   refine M1 Eb 10 fun K' J ρ q10 => ?_; go_simp; (try go_bits)
   refine Ln Eb J fun _ Ea => ?_; clear J K' Eb q10
   refine M2 Ea 9 11 fun K' J ρ q9 q11 => ?_; go_simp; (try go_bits)
   refine Ln Ea J fun _ Eb => ?_; clear J K' Ea q9 q11
   replace Eb := Eb.turn 12 (v' := .bool true) rfl (by (first | rfl | (simp; omega)))
   refine Ld [0, 1, 2, 3, 4, 12] Eb hK fun a hE => ?_; clear hK K Q' Eb
   refine Ks ?_
   refine cond_yes hE (t := 12) rfl ?_
   refine Ks ?_
   exact bodyPost_ret (results_none rfl _ _ _) hE.1 ⟨⟨_, rfl⟩, .of_below (Below.refl _ _), A0, c0, hBk, hBa⟩
  ·rw [if_neg hle]
   have hleI : ¬ (best.length : Int) ≤ (out.length : Int) := by omega
   refine Ks ?_
   refine Rs 5 fun Q' K hK => ?_
   refine M1 hE 0 fun K' J ρ q0 => ?_; go_simp
   refine Ln hE J fun _ Eb => ?_; clear J K' hE a q0
   refine M1 Eb 8 fun K' J ρ q8 => ?_; go_simp; (try go_bits)
   refine Ln Eb J fun _ Ea => ?_; clear J K' Eb q8
   refine M1 Ea 2 fun K' J ρ q2 => ?_; go_simp
   refine Ln Ea J fun _ Eb => ?_; clear J K' Ea q2
   refine M1 Eb 10 fun K' J ρ q10 => ?_; go_simp; (try go_bits)
   refine Ln Eb J fun _ Ea => ?_; clear J K' Eb q10
   refine M2 Ea 9 11 fun K' J ρ q9 q11 => ?_; go_simp; (try go_bits)
   refine Ln Ea J fun _ Eb => ?_; clear J K' Ea q9 q11
   replace Eb := Eb.turn 12 (v' := .bool false) rfl (by (first | rfl | (simp; omega)))
   refine Ld [0, 1, 2, 3, 4, 12] Eb hK fun a hE => ?_; clear hK K Q' Eb
   refine Ks ?_
   refine cond_no hE (t := 12) rfl ?_
   refine Ks ?_
   refine Rs 4 fun Q' K hK => ?_
   refine Lp fun K' J => ?_
   have r3 := hE.at 3 rfl
   refine wp_load_mid 85 (.tmp 3) rfl Bb 0 (eval_of r3) (bkV H hcap S scap b P n pcap) _ (fun j u hu => by rw [Nat.zero_add]; exact hCb.2 j u hu) Tryd.underlying85 rfl (by kernel_rfl) ?_
   (try clear r3)
   refine Ln hE J fun _ Eb => ?_; clear J K' hE a
   refine M1 Eb 0 fun K' J ρ q0 => ?_; go_simp
   refine Ln Eb J fun _ Ea => ?_; clear J K' Eb q0
   refine M2 Ea 13 14 fun K' J ρ q13 q14 => ?_; go_simp; (try go_bits); (try clear q13 q14)
   go_at_call 91; refine (HWO.out T c out _ hMV hT.arr (by omega)).mono ?_; rintro e w4 ⟨⟨S', sc, P', c', rfl, hH4⟩, h4⟩
   (try clear r13 r14)
   refine Ln Ea J fun _ Eb => ?_; clear J K' Ea
   refine M1 Eb 15 fun K' J ρ q15 => ?_; go_simp; (try go_bits); (try clear q15)
   go_at_call 56; refine (HCB.out S' sc out P' c' _ hH4.at).mono ?_; rintro e w5 ⟨rfl, h5⟩
   (try clear r15)
   refine Ln Eb J fun _ Ea => ?_; clear J K' Eb
   refine Ld [0, 1, 2, 3, 4, 16] Ea hK fun a hE => ?_; clear hK K Q' Ea
   have h45 := h4.trans (h5.mono h4.size)
   have hBk5 := heap_kept hBk h45
   have hBa5 := hBa.below h45
   have hT5 := hT.keep (.of_below h45)
   have hD5 := hD.on h45
   rw [show rtB (withoutB b out) = cW b out from rfl] at hE
   cases hv : cW b out
   ·rw [if_neg (by simp)]
    rw [hv] at hE
    clear hH4 h4 h5 hv hcBt hwBt hlBt hBk hBa hT hD hMV hCb HLE
    have h0 : KeepX (fun q => q = Bt) V w5 := .of_below h45
    refine Ks ?_
    refine cond_no hE (t := 16) rfl ?_
    refine Ks ?_
    refine Rs 2 fun Q' K hK => ?_
    refine M1 hE 1 fun K' J ρ q1 => ?_; go_simp
    refine Ln hE J fun _ Eb => ?_; clear J K' hE a q1
    refine M1 Eb 18 fun K' J ρ q18 => ?_; go_simp
    refine Ln Eb J fun _ Ea => ?_; clear J K' Eb q18
    refine Ld [0, 3, 4, 7] Ea hK fun a hE => ?_; clear hK K Q' Ea
    refine Ks ?_
    refine loop_st (fun (i : Nat) a w' => k ≤ i ∧ i ≤ b.sights.length ∧ Fits 40 [(0, .slice T out.length c), (3, .pointer (some ⟨Bb, 0, none⟩)), (4, .pointer (some ⟨Lv, 0, none⟩)), (7, .int .i64 i)] a ∧ KeepX (fun q => q = Bt) V w' ∧ ArrN Bt w' T out ∧ LvD H hcap S scap b P n pcap Bt Bb Lv w w' ∧ BestAt w' Bt ((List.range' k (i - k)).foldl (fun best i => leaP (cW b) b.sights.length d (out ++ [i]) (i + 1) best) best)) (fun i => b.sights.length - i) k ⟨Nat.le_refl _, hkn, by simpa using hE, h0, hT5, hD5, by rw [Nat.sub_self]; exact ⟨A0, c0, hBk5, hBa5⟩⟩ (fun i a wr hI => ?_)
    clear hE h0 hT5 hD5 hBk5 hBa5 h45
    obtain ⟨hki, hin, hE, hK, hTr, hDr, hBr⟩ := hI
    have d8 := hDr.cb.2 8 _ rfl
    have nBb := hDr.cb.1
    by_cases hlt : i < b.sights.length
    ·have hltI : (i : Int) < b.sights.length := by omega
     have HST : Hid ((List.range' k (i + 1 - k)).foldl (fun best i => leaP (cW b) b.sights.length d (out ++ [i]) (i + 1) best) best = leaP (cW b) b.sights.length d (out ++ [i]) (i + 1) ((List.range' k (i - k)).foldl (fun best i => leaP (cW b) b.sights.length d (out ++ [i]) (i + 1) best) best)) := hid (by
      rw [show i + 1 - k = (i - k) + 1 by omega, List.range'_concat, List.foldl_append]
      simp only [List.foldl_cons, List.foldl_nil]
      rw [show k + 1 * (i - k) = i by omega])
     have hbl2 := leaP_fold_le (cW b) b.sights.length d out (by omega) (i - k) k best hbl (Nat.le_refl _)
     obtain ⟨bs, hbs⟩ : ∃ bs, (List.range' k (i - k)).foldl (fun best i => leaP (cW b) b.sights.length d (out ++ [i]) (i + 1) best) best = bs := ⟨_, rfl⟩
     rw [hbs] at HST hBr hbl2
     clear hbs
     have hcl := hDr.cl.2 0 _ rfl
     have nLv := hDr.cl.1
     have hTA := hTr.arr
     have hlBt := heap_lt hBr.choose_spec.choose_spec.1
     refine Ks ?_
     refine Rs 6 fun Q' K hK => ?_
     refine M1 hE 7 fun K' J ρ q7 => ?_; go_simp
     refine Ln hE J fun _ Eb => ?_; clear J K' hE a q7
     refine M1 Eb 3 fun K' J ρ q3 => ?_; go_simp
     refine Ln Eb J fun _ Ea => ?_; clear J K' Eb q3
     refine M1 Ea 20 fun K' J ρ q20 => ?_; go_simp
     refine Ln Ea J fun _ Eb => ?_; clear J K' Ea q20
     refine M1 Eb 21 fun K' J ρ q21 => ?_; go_simp
     refine Ln Eb J fun _ Ea => ?_; clear J K' Eb q21
     refine M1 Ea 22 fun K' J ρ q22 => ?_; go_simp; (try go_bits)
     refine Ln Ea J fun _ Eb => ?_; clear J K' Ea q22
     refine M2 Eb 19 23 fun K' J ρ q19 q23 => ?_; go_simp; (try go_bits)
     refine Ln Eb J fun _ Ea => ?_; clear J K' Eb q19 q23
     replace Ea := Ea.turn 24 (v' := .bool true) rfl (by (first | (simp; done) | (simp; omega)))
     refine Ld [0, 3, 4, 7, 24] Ea hK fun a hE => ?_; clear hK K Q' Ea
     refine Ks ?_
     refine cond_yes hE (t := 24) rfl ?_
     refine Ks ?_
     refine Rd [12] (fun wt => Below wr.heap.size wr wt) (fun w1 w2 => Below w1.heap.size w1 w2) [(0, some 27), (1, some 28), (2, some 29), (3, some 30), (4, some 31), (5, some 32), (6, some 33), (7, some 34), (8, some 35), (9, some 36), (10, some 37), (11, some 38)] [27, 28, 29, 30, 31, 32, 33, 34, 35, 36, 37, 38] #[true, true, true, true, true, true, true, true, true, true, true, true, false] [0, 3, 4, 7] hE ((Below.refl _ _).drew) fun Q' K hK => ?_
     refine SeqOps.val ?_ (Sp fun ax wx hS hT' hd K' J => ?_) ?_; rotate_left 1
     ·have r4 := hS.at 4 (by decide) (hE.at 4 rfl); obtain ⟨_, _, _, _, _, _⟩ := bT hT'
      refine o1 r4 fun ρ q4 => ?_; go_simp;
      exact Jo J hT'
     refine SeqOps.val ?_ (Sp fun ax wx hS hT' hd K' J => ?_) ?_; rotate_left 1
     ·have r0 := hS.at 0 (by decide) (hE.at 0 rfl); obtain ⟨_, _, _, _, _, _⟩ := bT hT'
      refine o1 r0 fun ρ q0 => ?_; go_simp;
      exact Jo J hT'
     refine SeqOps.val ?_ (Sp fun ax wx hS hT' hd K' J => ?_) ?_; rotate_left 1
     ·have r0 := hS.at 0 (by decide) (hE.at 0 rfl); obtain ⟨_, _, _, _, _, _⟩ := bT hT'
      refine o1 r0 fun ρ q0 => ?_; go_simp;
      exact Jo J hT'
     refine SeqOps.val ?_ (Sp fun ax wx hS hT' hd K' J => ?_) ?_; rotate_left 1
     ·have r29 := Tv hd 0 2 29; obtain ⟨_, _, _, _, _, _⟩ := bT hT'
      refine o1 r29 fun ρ q29 => ?_; go_simp; (try go_bits);
      exact Jo J hT'
     refine SeqOps.val ?_ (Sp fun ax wx hS hT' hd K' J => ?_) ?_; rotate_left 1
     ·have r0 := hS.at 0 (by decide) (hE.at 0 rfl); obtain ⟨_, _, _, _, _, _⟩ := bT hT'
      refine o1 r0 fun ρ q0 => ?_; go_simp;
      exact Jo J hT'
     refine SeqOps.val ?_ (Sp fun ax wx hS hT' hd K' J => ?_) ?_; rotate_left 1
     ·have r31 := Tv hd 0 4 31; obtain ⟨_, _, _, _, _, _⟩ := bT hT'
      refine o1 r31 fun ρ q31 => ?_; go_simp; (try go_bits);
      exact Jo J hT'
     refine SeqOps.val ?_ (Sp fun ax wx hS hT' hd K' J => ?_) ?_; rotate_left 1
     ·have r28 := Tv hd 4 1 28; have r30 := Tv hd 2 3 30; have r32 := Tv hd 0 5 32; obtain ⟨_, _, _, _, _, _⟩ := bT hT'
      refine o3 r28 r30 r32 fun ρ q28 q30 q32 => ?_; go_simp; (try go_bits);
      exact Jo J hT'
     refine SeqOps.val ?_ (Sp fun ax wx hS hT' hd K' J => ?_) ?_; rotate_left 1
     ·have r7 := hS.at 7 (by decide) (hE.at 7 rfl); obtain ⟨_, _, _, _, _, _⟩ := bT hT'
      refine o1 r7 fun ρ q7 => ?_; go_simp;
      exact Jo J hT'
     refine SeqOps.say (fun v wt => ∃ g, v = .slice (some ⟨g, 0, none⟩) 1 1 ∧ g < wt.heap.size ∧ wt.cell? ⟨g, 0, none⟩ = some (.int .i64 i)) (fun v x y h ⟨g, h1, h2, h3⟩ => ⟨g, h1, Nat.lt_of_lt_of_le h2 h.size, (h.cell (p := ⟨g, 0, none⟩) h2).trans h3⟩) (Sp fun ax wx hS hT' hd K' J => ?_) ?_
     ·have r34 := Tv hd 0 7 34; obtain ⟨_, _, _, _, _, _⟩ := bT hT'
      refine o1 r34 fun ρ q34 => ?_; go_simp;
      exact J.out _ _ _ rfl ⟨_, rfl, by simp, by simp [go_sem]⟩ (hT'.alloc hT'.size _) ((Below.refl _ _).alloc (Nat.le_refl _) _)
     refine SeqOps.say (fun v wt => ∃ g c', v = .slice (some ⟨g, 0, none⟩) (out.length + 1) c' ∧ out.length + 1 ≤ c' ∧ wr.heap.size ≤ g ∧ g < wt.heap.size ∧ (∀ j u, (nats (out ++ [i]))[j]? = some u → wt.cell? ⟨g, j, none⟩ = some u)) (fun v x y h ⟨g, c', h1, h2, h3, h4, h5⟩ => ⟨g, c', h1, h2, h3, Nat.lt_of_lt_of_le h4 h.size, fun j u hu => (h.cell (p := ⟨g, j, none⟩) h4).trans (h5 j u hu)⟩) (Sp fun ax wx hS hT' hd K' J => ?_) ?_
     ·have r33 := Tv hd 2 6 33; obtain ⟨v35, r35, h35⟩ := Tg hd 0 8 35; obtain ⟨g12, rfl, hg1, hg2⟩ := h35; obtain ⟨_, _, _, _, _, _⟩ := bT hT'
      refine wp_appFull (.tmp 33) (.tmp 35) 40 rfl 3 (.int .i64 0) 1 8 Tryd.underlying40 (by kernel_rfl) rfl (by decide) T out.length (nats out) (eval_of r33) (hTA.below hT') (by rw [nats_length]; omega) ⟨g12, 0, none⟩ 1 1 [.int .i64 i] (eval_of r35) ?_ (by decide) rfl ?_ (by simp only [maxLen]; omega) (by omega) (fun g c' w' q1 q2 q3 q4 q5 q6 => ?_)
      ·(intro j u hu; (match j, hu with | 0, hu => (cases hu; exact hg2) | j + 1, hu => simp at hu))
      ·(intro u hu; rw [List.mem_singleton.1 hu]; rfl)
      exact J.out _ _ _ rfl ⟨g, c', rfl, q4, Nat.le_trans hT'.size q1, q2, by rw [nats_snoc]; exact q3⟩ (hT'.trans (q5.mono hT'.size)) q5
     refine SeqOps.val ?_ (Sp fun ax wx hS hT' hd K' J => ?_) ?_; rotate_left 1
     ·have r7 := hS.at 7 (by decide) (hE.at 7 rfl); obtain ⟨_, _, _, _, _, _⟩ := bT hT'
      refine o1 r7 fun ρ q7 => ?_; go_simp;
      exact Jo J hT'
     refine SeqOps.val ?_ (Sp fun ax wx hS hT' hd K' J => ?_) ?_; rotate_left 1
     ·have r37 := Tv hd 0 10 37; obtain ⟨_, _, _, _, _, _⟩ := bT hT'
      refine o1 r37 fun ρ q37 => ?_; go_simp; (try go_bits); (try simp (disch := omega) only [IntWalk.i64_in]);
      exact Jo J hT'
     refine SeqOps.nil ?_
     intro w6 hBm; (repeat refine Ek ?_); (refine fun v h => ?_; obtain ⟨g12, rfl, hg1, hg2⟩ := h); (refine fun v h => ?_; obtain ⟨g13, c13, rfl, hh1, hh2, hh3, hh4⟩ := h); (repeat refine Ek ?_)
     refine fun amx hEmx => ?_
     simp only [lk, pick, Nat.reduceEqDiff, ↓reduceIte] at hEmx
     refine M3 hEmx 27 36 38 fun K' J ρ q27 q36 q38 => ?_; go_simp; (try go_bits); (try clear q27 q36 q38)
     have hT6 : ArrN Bt w6 (some ⟨g13, 0, none⟩) (out ++ [i]) := fun _ => ⟨g13, 0, rfl, hh3, by omega, fun j u hu => by rw [Nat.zero_add]; exact hh4 j u hu⟩
     have ihc := ih (out ++ [i]) (i + 1) (some ⟨g13, 0, none⟩) c13 bs w6 (by omega) (by omega) hbl2 (by simp; omega) (by omega) (by simp; omega) hT6 (hBr.below hBm) (hDr.on hBm)
     simp only [List.length_append, List.length_cons, List.length_nil, Nat.zero_add, Int.natCast_add, Int.natCast_one] at ihc
     go_at_call 90; refine ihc.mono ?_; rintro e w7 ⟨⟨v7, rfl⟩, hK7, hB7⟩
     (try clear r27 r36 r38)
     refine Ln hEmx J fun am_1 hEm_1 => ?_; clear J K' hEmx
     refine Ld [0, 3, 4, 7] hEm_1 hK fun a hE => ?_; clear hK K Q' hEm_1
     have hKm : KeepX (fun q => q = Bt) wr w7 := (KeepX.of_below hBm).trans hK7
     refine Ks ?_
     refine Rs 3 fun Q' K hK => ?_
     refine M1 hE 7 fun K' J ρ q7 => ?_; go_simp
     refine Ln hE J fun _ Eb => ?_; clear J K' hE a q7
     refine M1 Eb 25 fun K' J ρ q25 => ?_; go_simp; (try go_bits); (try simp (disch := omega) only [IntWalk.i64_in])
     refine Ln Eb J fun _ Ea => ?_; clear J K' Eb q25
     refine M1 Ea 26 fun K' J ρ q26 => ?_; go_simp
     refine Ln Ea J fun _ Eb => ?_; clear J K' Ea q26
     refine Ld [0, 3, 4, 7] Eb hK fun a hE => ?_; clear hK K Q' Eb
     refine Ks ?_
     exact ⟨i + 1, ⟨by omega, hlt, by simpa using hE, hK.trans hKm, hTr.keep hKm, hDr.keep hKm, by rw [HST.out]; exact hB7⟩, by omega⟩
    ·have hie : i = b.sights.length := by omega
     subst hie
     refine Ks ?_
     refine Rs 6 fun Q' K hK => ?_
     refine M1 hE 7 fun K' J ρ q7 => ?_; go_simp
     refine Ln hE J fun _ Eb => ?_; clear J K' hE a q7
     refine M1 Eb 3 fun K' J ρ q3 => ?_; go_simp
     refine Ln Eb J fun _ Ea => ?_; clear J K' Eb q3
     refine M1 Ea 20 fun K' J ρ q20 => ?_; go_simp
     refine Ln Ea J fun _ Eb => ?_; clear J K' Ea q20
     refine M1 Eb 21 fun K' J ρ q21 => ?_; go_simp
     refine Ln Eb J fun _ Ea => ?_; clear J K' Eb q21
     refine M1 Ea 22 fun K' J ρ q22 => ?_; go_simp; (try go_bits)
     refine Ln Ea J fun _ Eb => ?_; clear J K' Ea q22
     refine M2 Eb 19 23 fun K' J ρ q19 q23 => ?_; go_simp; (try go_bits)
     refine Ln Eb J fun _ Ea => ?_; clear J K' Eb q19 q23
     replace Ea := Ea.turn 24 (v' := .bool false) rfl (by simp)
     refine Ld [0, 3, 4, 7, 24] Ea hK fun a hE => ?_; clear hK K Q' Ea
     refine Ks ?_
     refine cond_no hE (t := 24) rfl ?_
     refine Ks ?_
     exact bodyPost_end (results_none rfl _ _ _) hE.1 ⟨⟨_, rfl⟩, hK, hBr⟩
   ·rw [if_pos rfl]
    rw [hv] at hE
    have hwB5 := blk_wr hBk5
    clear hv
    refine Ks ?_
    refine cond_yes hE (t := 16) rfl ?_
    refine Ks ?_
    refine Rs 2 fun Q' K hK => ?_
    refine M1 hE 0 fun K' J ρ q0 => ?_; go_simp
    refine Ln hE J fun _ Eb => ?_; clear J K' hE a q0
    refine M2 Eb 2 17 fun K' J ρ q2 q17 => ?_; go_simp; (try clear q2 q17)
    refine late_skip Eb J (fun _ Ea => ?_); clear J K'; clear Eb
    refine Ld [] Ea hK fun a hE => ?_; clear hK K Q' Ea
    refine world_cut (fun wt => KeepX (fun q => q = Bt) V wt ∧ BestAt wt Bt out) ⟨(KeepX.of_below h45).trans (keepX_set _), BestAt.set ⟨A0, c0, hBk5, hBa5⟩ hT5.arr⟩ (fun w6 hCut => ?_)
    obtain ⟨hK6, hB6⟩ := hCut
    refine Ks ?_
    exact bodyPost_ret (results_none rfl _ _ _) hE.1 ⟨⟨_, rfl⟩, hK6, hB6⟩
variable (H hcap S scap b P n pcap)
set_option maxRecDepth 100000 in
set_option maxHeartbeats 1000000 in
theorem wrong_any (hb : OkB b) (w : World) (hM : SbAt w H S b) : Calls Tryd.prog 75 #[.agg (bkV H hcap S scap b P n pcap).toArray] w fun e w' => (∃ A c, e = .returned (.slice A (wroB b).length c) ∧ ArrD w' A (nats (wroB b))) ∧ Below w.heap.size w w' := by
 have hS6 := hb.sights
 have HLV := hid fun (Bt Bb Lv : Nat) => leave_any (H := H) (hcap := hcap) (S := S) (scap := scap) (b := b) (P := P) (n := n) (pcap := pcap) (Bt := Bt) (Bb := Bb) (Lv := Lv) hb w hM (b.sights.length + 1) [] 0 none 0 (List.range b.sights.length)
 have HWR : Hid (wroB b = leaP (cW b) b.sights.length (b.sights.length + 1) [] 0 (List.range b.sights.length)) := hid rfl
 rw [HWR.out]
 clear hb
 refine enterE Tryd.func75 rfl Tryd.ntmps75 (by simp) (fun a hE => ?_); simp only [envOf, Nat.zero_add, Nat.reduceAdd] at hE
 refine Ks ?_
 refine Rs 2 fun Q' K hK => ?_
 refine M1 hE 0 fun K' J ρ q0 => ?_; go_simp
 refine Ln hE J fun _ Eb => ?_; clear J K' hE a q0
 refine M0 fun K' J ρ => ?_; go_simp;
 refine Ln Eb J fun _ Ea => ?_; clear J K' Eb
 refine Ld [1] Ea hK fun a hE => ?_; clear hK K Q' Ea
 obtain ⟨B, hBe⟩ : ∃ B, B = w.heap.size := ⟨_, rfl⟩; have hnB : w.heap.size ≤ B := Nat.le_of_eq hBe.symm; rw [← hBe] at hE; refine world_cut (fun wt => Below w.heap.size w wt ∧ B < wt.heap.size ∧ Row wt B (bkV H hcap S scap b P n pcap)) ⟨(Below.refl _ _).alloc (Nat.le_refl _) _, by rw [hBe]; simp, by rw [hBe]; exact row_new _ _ _⟩ (fun w1 hCut => ?_); obtain ⟨hbw1, hlB, hRB⟩ := hCut; clear hBe
 have hCB := row_cells hRB hlB
 have nB := hCB.1; have cB8 := hCB.2 8 _ rfl
 refine Ks ?_
 refine Rs 1 fun Q' K hK => ?_
 refine M0 fun K' J ρ => ?_; go_simp;
 refine Ln hE J fun _ Eb => ?_; clear J K' hE a
 refine Ld [1, 3] Eb hK fun a hE => ?_; clear hK K Q' Eb
 obtain ⟨Bt, hBt⟩ : ∃ B, B = w1.heap.size := ⟨_, rfl⟩
 rw [← hBt] at hE
 have hnBt : w1.heap.size ≤ Bt := Nat.le_of_eq hBt.symm
 refine world_cut (fun wt => Below w1.heap.size w1 wt ∧ wt.heap[Bt]? = some (.cells #[.slice none 0 0] 40)) ⟨(Below.refl _ _).alloc (Nat.le_refl _) _, by rw [hBt]; exact World.alloc_heap_new w1 _⟩ (fun w2 hCut => ?_)
 obtain ⟨h2, hBk⟩ := hCut
 clear hBt
 have hbw2 := hbw1.trans (h2.mono hbw1.size)
 replace hCB := hCB.below h2
 clear nB cB8
 have nB := hCB.1; have cB8 := hCB.2 8 _ rfl
 refine Ks ?_
 refine Rs 5 fun Q' K hK => ?_
 refine M1 hE 1 fun K' J ρ q1 => ?_; go_simp
 refine Ln hE J fun _ Eb => ?_; clear J K' hE a q1
 refine M1 Eb 6 fun K' J ρ q6 => ?_; go_simp
 refine Ln Eb J fun _ Ea => ?_; clear J K' Eb q6
 refine M1 Ea 7 fun K' J ρ q7 => ?_; go_simp
 refine Ln Ea J fun _ Eb => ?_; clear J K' Ea q7
 refine M1 Eb 8 fun K' J ρ q8 => ?_; go_simp; (try go_bits)
 refine Ln Eb J fun _ Ea => ?_; clear J K' Eb q8
 refine M0 fun K' J ρ => ?_; go_simp;
 refine Ln Ea J fun _ Eb => ?_; clear J K' Ea
 refine Ld [1, 3, 9, 10] Eb hK fun a hE => ?_; clear hK K Q' Eb
 refine Ks ?_
 refine loop_st (fun (k : Nat) a w' => ∃ (A : Option Addr) (c : Nat), k ≤ b.sights.length ∧ Fits 22 [(1, .pointer (some ⟨B, 0, none⟩)), (3, .pointer (some ⟨Bt, 0, none⟩)), (9, .int .i64 b.sights.length), (10, .int .i64 k)] a ∧ Below w1.heap.size w1 w' ∧ w'.heap[Bt]? = some (.cells #[.slice A k c] 40) ∧ w'.ownsRow (Bt + 1) 3 1 (.slice A k c) k (nats (List.range k))) (fun k => b.sights.length - k) 0 ⟨none, 0, Nat.zero_le _, by simpa using hE, h2, hBk, own_nil _ _ _ _⟩ (fun k a wr hI => ?_)
 have hCB1 := hRB
 clear hE hBk h2 nB cB8 hCB
 obtain ⟨A, c, hk, hE, hW, hBk, hO⟩ := hI
 have hbr := hbw1.trans (hW.mono hbw1.size)
 by_cases hlt : k < b.sights.length
 ·have hltI : (k : Int) < b.sights.length := by omega
  have hcBt := blk_cell hBk
  have hlBt := heap_lt hBk
  refine Ks ?_
  refine Rs 1 fun Q' K hK => ?_
  refine M2 hE 10 9 fun K' J ρ q10 q9 => ?_; go_simp; (try go_bits)
  refine Ln hE J fun _ Eb => ?_; clear J K' hE a q10 q9
  replace Eb := Eb.turn 11 (v' := .bool true) rfl (by (first | (simp; done) | (simp; omega)))
  refine Ld [1, 3, 9, 10, 11] Eb hK fun a hE => ?_; clear hK K Q' Eb
  refine Ks ?_
  refine cond_yes hE (t := 11) rfl ?_
  refine Ks ?_
  refine Rs 2 fun Q' K hK => ?_
  refine M1 hE 10 fun K' J ρ q10 => ?_; go_simp
  refine Ln hE J fun _ Eb => ?_; clear J K' hE a q10
  refine M1 Eb 12 fun K' J ρ q12 => ?_; go_simp
  refine Ln Eb J fun _ Ea => ?_; clear J K' Eb q12
  refine Ld [1, 3, 4, 9, 10] Ea hK fun a hE => ?_; clear hK K Q' Ea
  refine Ks ?_
  refine Rs 5 fun Q' K hK => ?_
  refine M1 hE 3 fun K' J ρ q3 => ?_; go_simp
  refine Ln hE J fun _ Eb => ?_; clear J K' hE a q3
  refine M1 Eb 4 fun K' J ρ q4 => ?_; go_simp
  refine Ln Eb J fun _ Ea => ?_; clear J K' Eb q4
  refine M1 Ea 14 fun K' J ρ q14 => ?_; go_simp
  refine Ln Ea J fun _ Eb => ?_; clear J K' Ea q14
  refine Lp fun K' J => ?_
  have r13 := Eb.at 13 rfl; have r15 := Eb.at 15 rfl
  refine wp_appN (.tmp 13) (.tmp 15) 40 rfl (Bt + 1) 3 (.int .i64 0) 1 8 Tryd.underlying40 (by kernel_rfl) rfl (by decide) _ _ _ (eval_of r13) (hO.alloc _) (wr.heap.size + 1) (some ⟨wr.heap.size, 0, none⟩) 1 1 [.int .i64 k] (eval_of r15) (arr_new wr _ _) rfl (by intro u hu; simp at hu; subst hu; rfl) (by simp only [maxLen]; omega) (by omega) (by simp; omega) (fun A2 c2 w7 q1 q2 q3 q4 q5 => ?_)
  have hlow : Below (Bt + 1) wr w7 := ((Below.refl (Bt + 1) wr).alloc (by omega) _).grown q4 (by simp; omega) (fun k e => ownBlock_le hO k e)
  have hBk7 := (hlow.block Bt (by omega)).trans hBk
  have hwB7 := blk_wr hBk7
  (try clear r13 r15)
  refine Ln Eb J fun _ Ea => ?_; clear J K' Eb
  refine M2 Ea 3 16 fun K' J ρ q3 q16 => ?_; go_simp; (try clear q3 q16)
  refine late_skip Ea J (fun _ Eb => ?_); clear J K'; clear Ea
  refine Ld [1, 3, 9, 10] Eb hK fun a hE => ?_; clear hK K Q' Eb
  refine world_cut (fun wt => Below w1.heap.size w1 wt ∧ wt.heap[Bt]? = some (.cells #[.slice A2 (k + 1) c2] 40) ∧ wt.ownsRow (Bt + 1) 3 1 (.slice A2 (k + 1) c2) (k + 1) (nats (List.range (k + 1)))) ⟨(hW.trans (hlow.mono (by omega))).setCell hnBt _, blk_set hBk7, ?_⟩ (fun w8 hCut => ?_)
  ·rw [List.range_succ, nats_snoc]
   refine own_of_block q3 (by simp) fun g hg => ?_
   have hg2 := ownBlock_le q3 g hg
   exact Below.heap_setCell _ _ _ _ (by simp only; omega)
  obtain ⟨hW8, hBk8, hO8⟩ := hCut
  clear hwB7 hBk7 q1 q2 q3 q4 q5 hlow
  refine Ks ?_
  refine Rs 2 fun Q' K hK => ?_
  refine M1 hE 10 fun K' J ρ q10 => ?_; go_simp; (try go_bits); (try simp (disch := omega) only [IntWalk.i64_in])
  refine Ln hE J fun _ Eb => ?_; clear J K' hE a q10
  refine M1 Eb 17 fun K' J ρ q17 => ?_; go_simp
  refine Ln Eb J fun _ Ea => ?_; clear J K' Eb q17
  refine Ld [1, 3, 9, 10] Ea hK fun a hE => ?_; clear hK K Q' Ea
  refine Ks ?_
  exact ⟨k + 1, ⟨A2, c2, hlt, by simpa using hE, hW8, hBk8, hO8⟩, by omega⟩
 ·have hke : k = b.sights.length := by omega
  subst hke
  have hO2 := own_arr hO
  have hRBr := hCB1.below hW hlB
  have hlBr := Nat.lt_of_lt_of_le hlB hW.size
  have hsB := hbw1.size
  have hlBt := heap_lt hBk
  refine Ks ?_
  refine Rs 1 fun Q' K hK => ?_
  refine M2 hE 10 9 fun K' J ρ q10 q9 => ?_; go_simp; (try go_bits)
  refine Ln hE J fun _ Eb => ?_; clear J K' hE a q10 q9
  replace Eb := Eb.turn 11 (v' := .bool false) rfl (by simp)
  refine Ld [1, 3, 9, 10, 11] Eb hK fun a hE => ?_; clear hK K Q' Eb
  refine Ks ?_
  refine cond_no hE (t := 11) rfl ?_
  refine Ks ?_
  refine Rs 1 fun Q' K hK => ?_
  refine M0 fun K' J ρ => ?_; go_simp;
  refine Ln hE J fun _ Eb => ?_; clear J K' hE a
  refine Ld [1, 3, 5] Eb hK fun a hE => ?_; clear hK K Q' Eb
  obtain ⟨Lv, hLve⟩ : ∃ B, B = wr.heap.size := ⟨_, rfl⟩; have hnLv : wr.heap.size ≤ Lv := Nat.le_of_eq hLve.symm; rw [← hLve] at hE; refine world_cut (fun wt => Below wr.heap.size wr wt ∧ Lv < wt.heap.size ∧ Row wt Lv [.nilFunc]) ⟨(Below.refl _ _).alloc (Nat.le_refl _) _, by rw [hLve]; simp, by rw [hLve]; exact row_new _ _ _⟩ (fun w9 hCut => ?_); obtain ⟨hbw9, hlLv, hRLv⟩ := hCut; clear hLve
  have hz0 := (hRLv 0 _ rfl).1
  have hzw := (hRLv 0 _ rfl).2
  have h9 := hbw9
  have hbw9 := hbr.trans (h9.mono hbr.size)
  refine Ks ?_
  refine Rs 2 fun Q' K hK => ?_
  refine M3 hE 3 1 5 fun K' J ρ q3 q1 q5 => ?_; go_simp
  refine Ln hE J fun _ Eb => ?_; clear J K' hE a q3 q1 q5
  refine M2 Eb 5 18 fun K' J ρ q5 q18 => ?_; go_simp; (try clear q5 q18)
  refine late_skip Eb J (fun _ Ea => ?_); clear J K'; clear Eb
  refine Ld [3, 5] Ea hK fun a hE => ?_; clear hK K Q' Ea
  have hs9 := h9.size
  refine world_cut (fun wt => LvD H hcap S scap b P n pcap Bt B Lv w wt ∧ BestAt wt Bt (List.range b.sights.length)) ?_ (fun w10 hCut => ?_)
  ·have hst : Below wr.heap.size wr (w9.setCell ⟨Lv, 0, none⟩ (.func (.func 90) #[] #[.pointer (some ⟨Bt, 0, none⟩), .pointer (some ⟨B, 0, none⟩), .pointer (some ⟨Lv, 0, none⟩)])) := h9.setCell hnLv _
   refine ⟨⟨hbr.trans (hst.mono hbr.size), (row_cells hRBr hlBr).below hst, row_cells (hRLv.set (by simp)) (by simp; omega), by omega, by omega, by omega⟩, ?_⟩
   exact BestAt.below ⟨A, c, by rw [List.length_range]; exact hBk, hO2⟩ hst
  obtain ⟨hD, hBe⟩ := hCut
  have e0 := hD.cl.2 0 _ rfl
  clear hz0 hzw hRLv
  have hlv := HLV.out Bt B Lv w10 (by omega) (Nat.zero_le _) (by rw [List.length_range]; exact hS6) (by simp) (by omega) (Nat.le_refl _) (fun h => absurd rfl h) hBe hD
  refine Ks ?_
  refine Rs 2 fun Q' K hK => ?_
  refine M1 hE 5 fun K' J ρ q5 => ?_; go_simp
  refine Ln hE J fun _ Eb => ?_; clear J K' hE a q5
  refine M1 Eb 19 fun K' J ρ q19 => ?_; go_simp; (try go_bits); (try clear q19)
  go_at_call 90; refine hlv.mono ?_; rintro e w11 ⟨⟨v, rfl⟩, hK11, hB11⟩
  (try clear r19)
  refine Ln Eb J fun _ Ea => ?_; clear J K' Eb
  refine Ld [3] Ea hK fun a hE => ?_; clear hK K Q' Ea
  have hb11 := KeepX.from hD.below hK11 (fun q hq => by rw [hq]; exact hD.ne.2.2)
  obtain ⟨A2, c2, hBk11, hA11⟩ := hB11
  have hc11 := blk_cell hBk11
  refine Ks ?_
  refine Rs 2 fun Q' K hK => ?_
  refine M1 hE 3 fun K' J ρ q3 => ?_; go_simp
  refine Ln hE J fun _ Eb => ?_; clear J K' hE a q3
  refine M1 Eb 21 fun K' J ρ q21 => ?_; go_simp
  refine Ln Eb J fun _ Ea => ?_; clear J K' Eb q21
  refine Ld [2] Ea hK fun a hE => ?_; clear hK K Q' Ea
  refine Ks ?_
  exact ret_one hE rfl rfl ⟨⟨A2, c2, rfl, hA11⟩, hb11⟩
end
end Go.Proofs.YtkhmcofmjjmjhaaDoor
