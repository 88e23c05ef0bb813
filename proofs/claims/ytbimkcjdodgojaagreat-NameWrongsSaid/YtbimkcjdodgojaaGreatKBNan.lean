/- Name: the fewest lines that must be wrong. -/
import Derived.Test.YtbimkcjdodgojaaGreatKBNal
import Derived.Test.YtbimkcjdodgojaaGreatKBNam
import Derived.Test.YtbimkcjdodgojaaGreatKBNaj

namespace Go.Proofs.YtbimkcjdodgojaaGreat
set_option linter.unusedSimpArgs false
set_option linter.unusedVariables false
open Go Go.RowKit
attribute [local go_sem high] cell_set_wr
attribute [local go_sem low] cell_wr frozen_wr
attribute [local go_sem] wr_set wr_drew wr_drewN wr_alloc wr_new Rho.c Rho.n Rho.g
/-- is there a truth without some lines? -/
def rightP (b : Bk) (out : List Nat) : Bool := !(truthsP (b.without out)).isEmpty
def candsP (n k : Nat) : List (List Nat) := (List.range k).flatMap fun s => listsL s n
def wrongP (b : Bk) : List Nat := ((candsP b.lines.length (b.lines.length + 1)).find? (rightP b)).getD []
theorem candsP_succ (n k : Nat) : candsP n (k + 1) = candsP n k ++ listsL k n := by simp [candsP, List.range_succ]
theorem candsP_prefix (n : Nat) {k m : Nat} (h : k ≤ m) : candsP n k <+: candsP n m := by
 obtain ⟨d, rfl⟩ : ∃ d, m = k + d := ⟨m - k, by omega⟩
 induction d with
 | zero => exact List.prefix_refl _
 | succ d ih => rw [← Nat.add_assoc, candsP_succ]; exact (ih (by omega)).trans (List.prefix_append _ _)
theorem wrongP_of {b : Bk} {pre : List (List Nat)} {x : List Nat} {k : Nat} (hk : k ≤ b.lines.length) (hp : pre ++ [x] <+: listsL k b.lines.length) (h0 : ∀ y ∈ candsP b.lines.length k, rightP b y = false) (h1 : ∀ y ∈ pre, rightP b y = false) (hx : rightP b x = true) : wrongP b = x := by
 unfold wrongP
 have h2 := candsP_prefix b.lines.length (show k + 1 ≤ b.lines.length + 1 by omega)
 rw [candsP_succ] at h2
 obtain ⟨r, hr⟩ := hp
 obtain ⟨s, hs⟩ := h2
 rw [← hs, ← hr]
 simp only [List.append_assoc]
 rw [List.find?_append, List.find?_eq_none.2 (fun y hy => by rw [h0 y hy]; simp), Option.none_or, List.find?_append, List.find?_eq_none.2 (fun y hy => by rw [h1 y hy]; simp), Option.none_or]
 simp [hx]
theorem wrongP_none {b : Bk} (h : ∀ y ∈ candsP b.lines.length (b.lines.length + 1), rightP b y = false) : wrongP b = [] := by
 unfold wrongP
 rw [List.find?_eq_none.2 (fun y hy => by rw [h y hy]; simp)]; rfl
theorem couldsP_len (b : Bk) (k : Nat) : ((couldsP b).getD k []).length ≤ b.lines.length := by
 unfold couldsP
 rw [List.getD_eq_getElem?_getD, List.getElem?_map]
 cases h : (List.range b.lines.length)[k]? with
 | none => simp
 | some i => simp only [Option.map_some, Option.getD_some]; unfold couldP; exact Nat.le_trans (List.length_filter_le _ _) (by simp)
theorem addL_len {size count : Nat} : ∀ (f : Nat) (li : List Nat) (n : Nat) (x : List Nat), x ∈ addL size count f li n → x.length = size
 | 0, li, n, x, h => by
  unfold addL at h
  split at h
  ·simp at h; rw [h]; assumption
  ·cases h
 | f + 1, li, n, x, h => by
  unfold addL at h
  split at h
  ·simp at h; rw [h]; assumption
  ·rw [List.mem_flatMap] at h
   obtain ⟨k, _, hk⟩ := h
   exact addL_len f _ _ x hk
theorem heap_two (w : World) (o o' : Obj) : ((w.alloc o).alloc o').heap[w.heap.size + 1]? = some o' := by
 have h := World.alloc_heap_new (w.alloc o) o'
 rwa [World.size_alloc] at h
theorem arr_keepNL {A C : World} {T : Option Addr} {xs : List Value} (h : Arr A A.heap.size T xs) (hb : A.heap.size ≤ C.heap.size) (hk : ∀ k, k < A.heap.size → (∀ o, A.heap[k]? ≠ some (.loop o)) → C.heap[k]? = A.heap[k]?) : Arr C C.heap.size T xs := fun hx => by
 obtain ⟨b0, o0, e, h1, h2⟩ := h hx
 have hnl : ∀ o, A.heap[b0]? ≠ some (.loop o) := fun o ho => by
  cases xs with
  | nil => exact hx rfl
  | cons u us =>
   have := h2 0 u rfl
   simp [World.cell?, ho] at this
 exact ⟨b0, o0, e, by omega, fun j u hu => (World.cell?_of_block (w := A) (hk b0 h1 hnl)).trans (h2 j u hu)⟩
theorem arr_taken {V : World} {N : Nat} {T : Option Addr} {xs : List Value} (h : Arr V N T xs) {ds : List Nat} (hd : ∀ d ∈ ds, V.heap[d]? = some (.deferred (some []))) : Arr (taken ds V) N T xs := fun hx => by
 obtain ⟨b0, o0, e, h1, h2⟩ := h hx
 have hnd : b0 ∉ ds := fun hm => by
  have ho := hd b0 hm
  cases xs with
  | nil => exact hx rfl
  | cons u us =>
   have := h2 0 u rfl
   simp [World.cell?, ho] at this
 exact ⟨b0, o0, e, h1, fun j u hu => (World.cell?_of_block (w := V) (taken_block ds V b0 hnd)).trans (h2 j u hu)⟩
section
variable {A : Option Addr} {cap : Nat} {L : Option Addr} {lcap : Nat} {b : Bk} {u0 u1 u2 u3 u4 u5 u6 u7 u8 : Value}
set_option maxRecDepth 100000 in
set_option maxHeartbeats 1500000 in
theorem wrong_any (w : World) (hM : BkAt w A L b) (hs : b.small cap lcap) (h9 : b.lines.length ≤ 9) (hm : ∀ i (h : i < b.lines.length), 0 ≤ b.lines[i].minute ∧ b.lines[i].minute ≤ 1439) :
    Calls Tryz.prog 58 #[.agg (bksV A cap L lcap b u0 u1 u2 u3 u4 u5 u6 u7 u8).toArray] w fun e w' => (∃ T c, e = .returned (.slice T (wrongP b).length c) ∧ Arr w' w'.heap.size T (nats (wrongP b))) ∧ Below w.heap.size w w' := by
 have HWO := hid (fun T c out W h1 h2 h3 => without_any A cap L lcap b u0 u1 u2 u3 u4 u5 u6 u7 u8 T c out W h1 hs h9 hm h2 h3)
 simp only [bksV] at HWO ⊢
 refine enterM Tryz.func58 rfl Tryz.ntmps58 (by simp) (fun a hE => ?_); simp only [envOf, Nat.zero_add, Nat.reduceAdd] at hE
 refine Ks ?_
 refine Rs 2 fun Q' K hK => ?_
 refine M1 hE 0 fun K' J ρ q0 => ?_; go_simp
 refine Ln hE J fun _ Eb => ?_; clear J K' hE a q0
 refine Go.Proofs.YtbimkcjdodgojaaGreat.M0 fun K' J ρ => ?_; go_simp;
 refine Ln Eb J fun _ Ea => ?_; clear J K' Eb
 refine Ld [1, 2] Ea hK fun a hE => ?_; clear hK K Q' Ea
 obtain ⟨B, hB⟩ : ∃ B, B = w.heap.size := ⟨_, rfl⟩
 obtain ⟨R, hR⟩ : ∃ B, B = w.heap.size + 1 := ⟨_, rfl⟩
 rw [← hR, ← hB] at hE
 refine world_cut (fun wt => Below w.heap.size w wt ∧ Cells wt B (bksV A cap L lcap b u0 u1 u2 u3 u4 u5 u6 u7 u8) ∧ R < wt.heap.size ∧ Blk 0 R #[.slice none 0 0] 48 wt) (by rw [hB, hR]; obtain ⟨q1, q2, q3, _⟩ := box_row w _ _ _ _; exact ⟨q1, q2, q3, Nat.zero_le _, q3, heap_two _ _ _⟩) (fun w1 hC => ?_)
 obtain ⟨hb1, hCB, hlR, hRR⟩ := hC
 have hnR : w.heap.size ≤ R := by omega
 have hBR : B < R := by omega
 clear hB hR
 simp only [bksV] at hCB
 have nB := hCB.1; have cB0 := hCB.2 0 _ rfl; have cB1 := hCB.2 1 _ rfl; have cB2 := hCB.2 2 _ rfl; have cB3 := hCB.2 3 _ rfl; have cB4 := hCB.2 4 _ rfl; have cB5 := hCB.2 5 _ rfl; have cB6 := hCB.2 6 _ rfl; have cB7 := hCB.2 7 _ rfl; have cB8 := hCB.2 8 _ rfl; have cB9 := hCB.2 9 _ rfl; have cB10 := hCB.2 10 _ rfl; have cB11 := hCB.2 11 _ rfl; have cB12 := hCB.2 12 _ rfl; have cB13 := hCB.2 13 _ rfl; have cB14 := hCB.2 14 _ rfl; have cB15 := hCB.2 15 _ rfl
 refine Ks ?_
 refine Rs 6 fun Q' K hK => ?_
 refine M1 hE 1 fun K' J ρ q1 => ?_; go_simp
 refine Ln hE J fun _ Eb => ?_; clear J K' hE a q1
 refine M1 Eb 5 fun K' J ρ q5 => ?_; go_simp
 refine Ln Eb J fun _ Ea => ?_; clear J K' Eb q5
 refine M1 Ea 6 fun K' J ρ q6 => ?_; go_simp
 refine Ln Ea J fun _ Eb => ?_; clear J K' Ea q6
 refine M1 Eb 7 fun K' J ρ q7 => ?_; go_simp; (try go_bits)
 refine Ln Eb J fun _ Ea => ?_; clear J K' Eb q7
 refine M1 Ea 8 fun K' J ρ q8 => ?_; go_simp; (try go_bits); (try simp (disch := omega) only [IntWalk.i64_in])
 refine Ln Ea J fun _ Eb => ?_; clear J K' Ea q8
 refine Go.Proofs.YtbimkcjdodgojaaGreat.M0 fun K' J ρ => ?_; go_simp;
 refine Ln Eb J fun _ Ea => ?_; clear J K' Eb
 refine Ld [1, 2, 9, 10] Ea hK fun a hE => ?_; clear hK K Q' Ea
 refine Ks ?_
 have hMR : ∀ W, Below w1.heap.size w1 W → True := fun _ _ => trivial
 clear nB cB0 cB1 cB2 cB3 cB4 cB5 cB6 cB7 cB8 cB9 cB10 cB11 cB12 cB13 cB14 cB15 hMR
 refine loop_st (fun (k : Nat) a w' => ∃ ds : List Nat, k ≤ b.lines.length + 1 ∧ FitsD (rmarks ds) 26 [(1, .pointer (some ⟨B, 0, none⟩)), (2, .pointer (some ⟨R, 0, none⟩)), (9, .int .i64 (b.lines.length + 1)), (10, .int .i64 k)] a ∧ Below w.heap.size w w' ∧ (R < w'.heap.size ∧ Blk 0 R #[.slice none 0 0] 48 w') ∧ Cells w' B (bksV A cap L lcap b u0 u1 u2 u3 u4 u5 u6 u7 u8) ∧ (ds.Nodup ∧ ∀ d ∈ ds, w.heap.size ≤ d ∧ w'.heap[d]? = some (.deferred (some []))) ∧ ∀ y ∈ candsP b.lines.length k, rightP b y = false) (fun k => b.lines.length + 1 - k) 0 ?_ (fun k a w' hI => ?_)
 ·refine ⟨[], Nat.zero_le _, by simpa [rmarks] using hE, hb1, ⟨hlR, hRR⟩, by simpa only [bksV] using hCB, ⟨List.nodup_nil, fun _ h => by cases h⟩, fun y hy => ?_⟩
  simp [candsP] at hy
 clear hE hb1 hlR hRR hCB
 obtain ⟨ds, hk, hE, hW, ⟨hlR, hRR⟩, hCB, ⟨hnd, hds⟩, hno⟩ := hI
 obtain ⟨wr, hwr⟩ : ∃ x, x = w' := ⟨_, rfl⟩
 subst hwr
 have HNO := hid hno
 clear hno
 refine Ks ?_
 refine Rs 1 fun Q' K hK => ?_
 refine M2 hE 10 9 fun K' J ρ q10 q9 => ?_; go_simp; (try go_bits)
 refine Ln hE J fun _ Eb => ?_; clear J K' hE a q10 q9
 refine Ld [1, 2, 9, 10, 11] Eb hK fun a hE => ?_; clear hK K Q' Eb
 refine Ks ?_
 refine cond_part hE (t := 11) rfl (fun h => ?_) (fun h => ?_)
 ·have hkn : k ≤ b.lines.length := by have := of_decide_eq_true h; omega
  clear h
  refine Ks ?_
  refine Rs 2 fun Q' K hK => ?_
  refine M1 hE 10 fun K' J ρ q10 => ?_; go_simp
  refine Ln hE J fun _ Eb => ?_; clear J K' hE a q10
  refine M1 Eb 12 fun K' J ρ q12 => ?_; go_simp
  refine Ln Eb J fun _ Ea => ?_; clear J K' Eb q12
  refine Ld [1, 2, 3, 9, 10] Ea hK fun a hE => ?_; clear hK K Q' Ea
  simp only [bksV] at hCB
  obtain ⟨nB, cB0, cB1, cB2, cB3, cB4, cB5, cB6⟩ := hCB.c7
  refine Ks ?_
  refine Rs 6 fun Q' K hK => ?_
  refine M1 hE 3 fun K' J ρ q3 => ?_; go_simp
  refine Ln hE J fun _ Eb => ?_; clear J K' hE a q3
  refine M1 Eb 1 fun K' J ρ q1 => ?_; go_simp
  refine Ln Eb J fun _ Ea => ?_; clear J K' Eb q1
  refine M1 Ea 14 fun K' J ρ q14 => ?_; go_simp
  refine Ln Ea J fun _ Eb => ?_; clear J K' Ea q14
  refine M1 Eb 15 fun K' J ρ q15 => ?_; go_simp
  refine Ln Eb J fun _ Ea => ?_; clear J K' Eb q15
  refine M1 Ea 16 fun K' J ρ q16 => ?_; go_simp; (try go_bits)
  refine Ln Ea J fun _ Eb => ?_; clear J K' Ea q16
  refine M2 Eb 13 17 fun K' J ρ q13 q17 => ?_; go_simp; (try go_bits); (try clear q13 q17)
  go_at_call 80; refine (lists_any _ _ _).mono ?_; rintro e w2 ⟨Sz, Ct, rfl, ⟨hn1, hn2⟩, hSz, hCt, h2⟩
  (try clear r13 r17)
  refine Ln Eb J fun _ Ea => ?_; clear J K' Eb
  refine Ld [1, 2, 9, 10, 18] Ea hK fun a hE => ?_; clear hK K Q' Ea
  have hW2 := hW.trans (h2.mono hW.size)
  have hRR2 := hRR.keep h2
  have hlR2 := Nat.lt_of_lt_of_le hlR h2.size
  have hCB2 := hCB.below h2
  have hds2 : ∀ d ∈ ds, w.heap.size ≤ d ∧ d < w2.heap.size ∧ w2.heap[d]? = some (.deferred (some [])) := fun d hd => by
   have h3 := (hds d hd).2
   have hlt := (Array.getElem?_eq_some_iff.1 h3).1
   exact ⟨(hds d hd).1, Nat.lt_of_lt_of_le hlt h2.size, (h2.block d hlt).trans h3⟩
  clear nB cB0 cB1 cB2 cB3 cB4 cB5 cB6 hCB hRR hds
  have hseq := lists_seq (size := k) (count := b.lines.length) (M0 := fun j => j = R) h9 hSz hCt (by omega) (by omega)
  refine Ks ?_
  refine wp_rangeR (gf := 99) (lb := #[.pointer (some ⟨Sz, 0, none⟩), .pointer (some ⟨Ct, 0, none⟩)]) (hE.eval 18 rfl) (enters_of Tryz.func99 (by kernel_rfl) rfl) hseq (Below.refl _ _) (by rintro x vs V ⟨T, c, rfl, _⟩; rfl)
   (fun pre M V => (∀ y ∈ pre, rightP b y = false) ∧ M = (fun j => j = R) ∧ (R < V.heap.size ∧ Blk 0 R #[.slice none 0 0] 48 V) ∧ Below w.heap.size w V ∧ Cells V B (bksV A cap L lcap b u0 u1 u2 u3 u4 u5 u6 u7 u8) ∧ ∀ d ∈ ds, V.heap[d]? = some (.deferred (some [])))
   (fun j pre V => j = Code.ret ∧ ∃ pre' x T c, pre = pre' ++ [x] ∧ (∀ y ∈ pre', rightP b y = false) ∧ rightP b x = true ∧ Cells V R [.slice T x.length c] ∧ Arr V V.heap.size T (nats x) ∧ Below w.heap.size w V ∧ ∀ d ∈ ds, V.heap[d]? = some (.deferred (some []))) ?hI ?hIx ?hIM ?h0
   (fun x a' V => ∃ T c, Fits 26 [(4, .slice T x.length c), (1, .pointer (some ⟨B, 0, none⟩)), (2, .pointer (some ⟨R, 0, none⟩))] a' ∧ Arr V V.heap.size T (nats x)) ?hAx ?assign ?body ?done ?stop
  case hI =>
   rintro s M X Y ⟨h1, rfl, ⟨h3, h4⟩, h5, h6, h7⟩ hb hm'
   exact ⟨h1, rfl, ⟨Nat.lt_of_lt_of_le h3 hb.size, ⟨Nat.zero_le _, Nat.lt_of_lt_of_le h3 hb.size, (hm' R rfl).trans h4.2.2⟩⟩, h5.trans (hb.mono hW2.size), Stay.cells h6 hb hCB2.1, fun d hd => (hb.block d (hds2 d hd).2.1).trans (h7 d hd)⟩
  case hIx =>
   rintro j s X Y ⟨h1, pre', x, T, c, h2, h3, h4, h5, h6, h7, h8⟩ hb hnl
   exact ⟨h1, pre', x, T, c, h2, h3, h4, Stay.cells h5 hb hlR2, arr_keepNL h6 hb.size hnl, h7.trans (hb.mono hW2.size), fun d hd => (hb.block d (hds2 d hd).2.1).trans (h8 d hd)⟩
  case hIM =>
   rintro s M X ⟨h1, rfl, ⟨h2, _⟩, _⟩ j rfl
   exact h2
  case h0 => exact ⟨fun _ h => (by cases h), rfl, ⟨hlR2, hRR2⟩, hW2, by simpa only [bksV] using hCB2, fun d hd => (hds2 d hd).2.2⟩
  case hAx =>
   rintro x a' V l o o' _ ho ⟨T, c, h1, h2⟩
   exact ⟨T, c, h1, by rw [World.putObj_size]; exact h2.put_loop ho⟩
  case assign =>
   rintro l pre x M V vs K ⟨h1, rfl, h3, h4, h5, h6⟩ hs' ⟨T, c, rfl, hc, hT⟩ hK
   have hE2 := fits_round hE 19 (.slice T x.length c) (by decide)
   clear hE
   obtain ⟨a', ha⟩ : ∃ a', a' = (⟨((#[19] : Array Nat).zip #[.slice T x.length c]).foldl (fun t (p, v) => t.setIfInBounds p v) a.tmps, []⟩ : Act) := ⟨_, rfl⟩
   rw [← ha] at hE2 ⊢
   clear ha a
   revert hE2; revert a'; intro a hE
   refine region_straight_in (n := 1) rfl (by kernel_rfl) (fun Q' K hK => ?_)
   refine M1 hE 19 fun K' J ρ q19 => ?_; go_simp
   refine Ln hE J fun _ Eb => ?_; clear J K' hE a q19
   refine Ld [4, 1, 2] Eb hK fun a hE => ?_; clear hK K Q' Eb
   refine KsI ?_
   exact hK _ _ (Below.refl _ _) ⟨T, c, hE, hT⟩
  case body =>
   clear hE a
   rintro l pre x M a V hs' ⟨h1, rfl, ⟨h3, h3'⟩, h4, h5, h6⟩ ⟨T, c, hE, hT⟩ hp
   have hxl := addL_len _ _ _ x (hp.subset (by simp) : x ∈ listsL k b.lines.length)
   have hx9 : x.length ≤ 9223372036854775807 := by omega
   clear hxl
   have hMV := hM.below h4
   have hCB := h5
   simp only [bksV] at hCB
   have nB := hCB.1; have cB0 := hCB.2 0 _ rfl; have cB1 := hCB.2 1 _ rfl; have cB2 := hCB.2 2 _ rfl; have cB3 := hCB.2 3 _ rfl; have cB4 := hCB.2 4 _ rfl; have cB5 := hCB.2 5 _ rfl; have cB6 := hCB.2 6 _ rfl; have cB7 := hCB.2 7 _ rfl; have cB8 := hCB.2 8 _ rfl; have cB9 := hCB.2 9 _ rfl; have cB10 := hCB.2 10 _ rfl; have cB11 := hCB.2 11 _ rfl; have cB12 := hCB.2 12 _ rfl; have cB13 := hCB.2 13 _ rfl; have cB14 := hCB.2 14 _ rfl; have cB15 := hCB.2 15 _ rfl
   refine KsI ?_
   refine region_straight_in (n := 4) rfl (by kernel_rfl) (fun Q' K hK => ?_)
   refine M1 hE 1 fun K' J ρ q1 => ?_; go_simp
   refine Ln hE J fun _ Eb => ?_; clear J K' hE a q1
   refine M1 Eb 4 fun K' J ρ q4 => ?_; go_simp
   refine Ln Eb J fun _ Ea => ?_; clear J K' Eb q4
   refine M2 Ea 20 21 fun K' J ρ q20 q21 => ?_; go_simp; (try go_bits); (try clear q20 q21)
   go_at_call 81; refine (HWO.out T c x _ hMV hT hx9).mono ?_; rintro e w4 ⟨⟨A', cap', f, rfl, hl', hu⟩, k4⟩
   (try clear r20 r21)
   refine Ln Ea J fun _ Eb => ?_; clear J K' Ea
   refine M1 Eb 22 fun K' J ρ q22 => ?_; go_simp; (try go_bits); (try clear q22)
   go_at_call 82; refine (canBeTrue_any (w := w4) (Nat.le_trans (dropK_len _ _ _) h9) hl' (fun j => Nat.le_trans (couldsP_len _ j) (by have := dropK_len b.lines x b.lines.length; simp only [Bk.without]; omega)) hu).mono ?_; rintro e w5 ⟨rfl, k5⟩
   (try clear r22)
   refine Ln Eb J fun _ Ea => ?_; clear J K' Eb
   refine Ld [1, 2, 4, 23] Ea hK fun a hE => ?_; clear hK K Q' Ea
   have hk5 := k4.trans (k5.mono k4.size)
   have hR5 := h3'.keep hk5
   have hlR5 := Nat.lt_of_lt_of_le h3 hk5.size
   have hT5 := (hT.below hk5).more hk5.size
   have hr : (!(fromP (b.without x).lines.length (b.without x).lost (couldsP (b.without x)) (b.without x).lines.length 0 []).isEmpty) = rightP b x := rfl
   rw [hr] at hE
   clear nB cB0 cB1 cB2 cB3 cB4 cB5 cB6 cB7 cB8 cB9 cB10 cB11 cB12 cB13 cB14 cB15 hr hCB
   refine KsI ?_
   refine condI_part hE (t := 23) rfl (fun h => ?_) (fun h => ?_)
   ·have y0 := (hR5.row 0 _ rfl).2
    have hh := h
    clear h
    refine KsI ?_
    refine region_straight_in (n := 2) rfl (by kernel_rfl) (fun Q' K hK => ?_)
    refine M1 hE 4 fun K' J ρ q4 => ?_; go_simp
    refine Ln hE J fun _ Eb => ?_; clear J K' hE a q4
    refine M2 Eb 2 24 fun K' J ρ q2 q24 => ?_; go_simp; (try clear q2 q24)
    refine late_skip Eb J (fun _ Ea => ?_); clear J K'; clear Eb
    refine Ld [2] Ea hK fun a hE => ?_; clear hK K Q' Ea
    refine KsI ?_
    refine ⟨(KeepA.of_below hk5).set R 0 _ rfl, rfl, pre, x, T, c, rfl, h1, hh, row_cells (hR5.row.set (by simp)) (by simpa using hlR5), ?_, (h4.trans (hk5.mono h4.size)).setCell hnR _, fun d hd => ?_⟩
    ·intro hx
     obtain ⟨b0, o0, e, q1, q2⟩ := hT hx
     have hne : b0 ≠ R := fun e' => by
      rw [e'] at q2
      obtain ⟨n0, xs', rfl⟩ : ∃ n0 xs', x = n0 :: xs' := by
       cases x with
       | nil => exact absurd rfl hx
       | cons n0 xs' => exact ⟨_, _, rfl⟩
      have c := q2 0 (natV n0) rfl
      simp only [World.cell?, h3'.2.2] at c
      cases o0 with
      | zero => simp [natV] at c
      | succ m => simp at c
     exact ⟨b0, o0, e, by have := hk5.size; simp; omega, fun j u hu => by
      rw [World.cell?_setCell_other _ _ _ _ (by intro e'; have := congrArg Addr.block e'; simp only at this; exact hne this.symm)]
      exact (hk5.cell (p := ⟨b0, o0 + j, none⟩) q1).trans (q2 j u hu)⟩
    ·have hdR : d ≠ R := fun e' => by
      subst e'
      have h7 := h6 d hd
      have := h3'.2.2
      rw [h7] at this; cases this
     exact (Below.heap_setCell _ _ _ _ hdR).trans ((hk5.block d (Array.getElem?_eq_some_iff.1 (h6 d hd)).1).trans (h6 d hd))
   ·refine KsI ?_
    exact ⟨KeepA.of_below hk5, _, ⟨fun z hz => by
     rcases List.mem_append.1 hz with hz | hz
     ·exact h1 z hz
     ·rw [List.mem_singleton.1 hz]; exact h, rfl, ⟨hlR5, hR5⟩, h4.trans (hk5.mono h4.size), Stay.cells h5 hk5 h5.1, fun d hd => (hk5.block d (Array.getElem?_eq_some_iff.1 (h6 d hd)).1).trans (h6 d hd)⟩, Grow.refl _ _⟩
  case done =>
   rintro D M V hD hMD ⟨h1, rfl, ⟨h3, h3'⟩, h4, h5, h6⟩ hK
   replace hE := FitsD.mark (ds := ds) (d := D) hE
   refine Ks ?_
   refine Rs 2 fun Q' K hK => ?_
   refine M1 hE 10 fun K' J ρ q10 => ?_; go_simp; (try go_bits); (try simp (disch := omega) only [IntWalk.i64_in])
   refine Ln hE J fun _ Eb => ?_; clear J K' hE a q10
   refine M1 Eb 25 fun K' J ρ q25 => ?_; go_simp
   refine Ln Eb J fun _ Ea => ?_; clear J K' Eb q25
   refine Ld [1, 2, 9, 10] Ea hK fun a hE => ?_; clear hK K Q' Ea
   refine Ks ?_
   refine ⟨k + 1, ⟨D :: ds, by omega, by simpa using hE, h4, ⟨h3, h3'⟩, h5, ⟨List.nodup_cons.2 ⟨fun hm' => by have := (hds2 D hm').2.1; omega, hnd⟩, fun d hd => ?_⟩, fun y hy => ?_⟩, by omega⟩
   ·rcases List.mem_cons.1 hd with rfl | hd
    ·exact ⟨by have := hW2.size; omega, hK⟩
    ·exact ⟨(hds2 d hd).1, h6 d hd⟩
   ·rw [candsP_succ] at hy
    rcases List.mem_append.1 hy with hy | hy
    ·exact HNO.out y hy
    ·exact h1 y hy
  case stop =>
   rintro D j pre x V hD hp ⟨rfl, pre', x', T, c, he, h1, h2, h3, h4, h5, h6⟩ hK
   obtain ⟨rfl, hxx⟩ := List.append_inj' he rfl
   obtain rfl : x = x' := by simpa using hxx
   replace hE := FitsD.mark (ds := ds) (d := D) hE
   refine wp_ret ?_
   refine Ks ?_
   have g := hE.at 2 rfl
   have hwx : wrongP b = x := wrongP_of hkn hp HNO.out h1 h2
   have hmk : ∀ d ∈ D :: ds, V.heap[d]? = some (.deferred (some [])) := fun d hd => by
    rcases List.mem_cons.1 hd with rfl | hd
    ·exact hK
    ·exact h6 d hd
   have hRn : R ∉ D :: ds := fun hm' => by
    have := hmk R hm'
    have c0 := h3.2 0 _ rfl
    simp [World.cell?, this] at c0
   refine ret_M hE (List.nodup_cons.2 ⟨fun hm' => by have := (hds2 D hm').2.1; omega, hnd⟩) hmk (v := .slice T x.length c) (fun W hW' => ?_) ⟨⟨T, c, by rw [hwx], ?_⟩, taken_below _ _ _ (fun d hd => ?_) (by have := h5.size; omega) h5⟩
   ·have c0 := (World.cell?_of_block (w := V) (a := ⟨R, 0, none⟩) (hW' R hRn)).trans (h3.2 0 _ rfl)
    simp [results, Tryz.results58, go_sem, g, c0]
   ·rw [hwx]
    exact (arr_taken h4 hmk).more (taken_below (B := 0) _ V V (fun _ _ => Nat.zero_le _) (Nat.zero_le _) (Below.refl _ _)).size
   ·rcases List.mem_cons.1 hd with rfl | hd
    ·have := hW2.size; omega
    ·exact (hds2 d hd).1
 ·have hkk : k = b.lines.length + 1 := by have := of_decide_eq_false h; omega
  subst hkk
  clear h
  have y0 := (hRR.row 0 _ rfl).2
  refine Ks ?_
  refine Rs 1 fun Q' K hK => ?_
  refine M1 hE 2 fun K' J ρ q2 => ?_; go_simp; (try clear q2)
  refine late_skip hE J (fun _ Eb => ?_); clear J K'; clear hE a
  refine Ld [2] Eb hK fun a hE => ?_; clear hK K Q' Eb
  refine world_cut (fun wt => Cells wt R [.slice none 0 0] ∧ Below w.heap.size w wt ∧ ∀ d ∈ ds, wt.heap[d]? = some (.deferred (some []))) ⟨row_cells (hRR.row.set (by simp)) (by simpa using hlR), hW.setCell hnR _, fun d hd => ?_⟩ (fun w3 hC => ?_)
  ·have hdR : d ≠ R := fun e' => by
    subst e'
    have h7 := (hds d hd).2
    have := hRR.2.2
    rw [h7] at this; cases this
   exact (Below.heap_setCell _ _ _ _ hdR).trans (hds d hd).2
  obtain ⟨hCR, hb3, hmk⟩ := hC
  clear y0
  refine Ks ?_
  have g := hE.at 2 rfl
  have hRn : R ∉ ds := fun hm' => by
   have := hmk R hm'
   have c0 := hCR.2 0 _ rfl
   simp [World.cell?, this] at c0
  have hwx : wrongP b = [] := wrongP_none HNO.out
  refine ret_M hE hnd hmk (v := .slice none 0 0) (fun W hW' => ?_) ⟨⟨none, 0, by rw [hwx]; rfl, by rw [hwx]; exact fun h => absurd rfl h⟩, taken_below _ _ _ (fun d hd => (hds d hd).1) (by have := hb3.size; omega) hb3⟩
  have c0 := (World.cell?_of_block (w := w3) (a := ⟨R, 0, none⟩) (hW' R hRn)).trans (hCR.2 0 _ rfl)
  simp [results, Tryz.results58, go_sem, g, c0]
end
end Go.Proofs.YtbimkcjdodgojaaGreat
