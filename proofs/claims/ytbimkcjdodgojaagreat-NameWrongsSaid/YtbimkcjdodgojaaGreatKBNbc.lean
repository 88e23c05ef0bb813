/- Name: settled. -/
import Derived.Test.YtbimkcjdodgojaaGreatKBNba
import Derived.Test.YtbimkcjdodgojaaGreatKBNav
import Derived.Test.YtbimkcjdodgojaaGreatKBNau
import Derived.Test.YtbimkcjdodgojaaGreatKBNax
import Derived.Test.YtbimkcjdodgojaaGreatKBNk

namespace Go.Proofs.YtbimkcjdodgojaaGreat
set_option linter.unusedSimpArgs false
set_option linter.unusedVariables false
open Go Go.RowKit
attribute [local go_sem high] cell_set_wr
attribute [local go_sem low] cell_wr frozen_wr
attribute [local go_sem] wr_set wr_drew wr_drewN wr_alloc wr_new Rho.c Rho.n Rho.g
theorem there_row {w : World} {R : Nat} {zs : List Value} {n : Nat} (h : Row w R zs) (hn : n ≤ zs.length) : w.there R 0 n := fun j hj => by
 rw [Nat.zero_add]
 have hj' : j < zs.length := Nat.lt_of_lt_of_le hj hn
 have hw := (h j (zs[j]'hj') (List.getElem?_eq_getElem hj')).2
 exact ⟨hw.1, hw.2⟩
theorem boxed_new (w : World) (Z : Array Value) (t : TypeId) (vs : List Value) (hz : Z.size = vs.length) : Below w.heap.size w ((w.alloc (.cells Z t)).setCells w.heap.size 0 vs) ∧ Cells ((w.alloc (.cells Z t)).setCells w.heap.size 0 vs) w.heap.size vs := by
 have := cells_stored (w := w) (V := w.alloc (.cells Z t)) (row_new w Z t) (by simpa using hz) (by simp) (Nat.le_refl _) ((Below.refl _ _).alloc (Nat.le_refl _) _)
 exact ⟨this.2.1, this.1⟩
section
variable (A : Option Addr) (cap : Nat) (L : Option Addr) (lcap : Nat) (b : Bk)
/-- these eighteen cells are the tally of a book -/
def OkT (N0 : Nat) (W : World) (vs : List Value) : Prop := ∃ (f : Nat → Option Addr × Nat × Nat) (T : Option Addr) (c Mb : Nat), vs = talV A cap L lcap b (sl9 f 0) (sl9 f 1) (sl9 f 2) (sl9 f 3) (sl9 f 4) (sl9 f 5) (sl9 f 6) (sl9 f 7) (sl9 f 8) T b.ts.length c Mb ∧
 Arr W W.heap.size T (ints (peopleP b.lines.length b.ts)) ∧ Tal W Mb (b.ts.length * 9) (cntP b.lines.length b.ts) ∧ b.ts.length ≤ c ∧ c ≤ 9223372036854775807 ∧ (∀ g, T.map (·.block) = some g → N0 ≤ g) ∧
 CouldAt b (sl9 f 0) (sl9 f 1) (sl9 f 2) (sl9 f 3) (sl9 f 4) (sl9 f 5) (sl9 f 6) (sl9 f 7) (sl9 f 8) (fun k => k < N0) W (couldsP b)
variable {A cap L lcap b}
theorem OkT.len {N0 : Nat} {W : World} {vs : List Value} (h : OkT A cap L lcap b N0 W vs) : vs.length = 18 := by
 obtain ⟨f, T, c, Mb, rfl, _⟩ := h; rfl
theorem OkT.one {N0 : Nat} {W : World} {vs : List Value} (h : OkT A cap L lcap b N0 W vs) : vs.toArray.all (·.oneCell') = true := by
 obtain ⟨f, T, c, Mb, rfl, _⟩ := h
 simp only [talV, sl9, List.all_toArray, List.all_cons, List.all_nil, Bool.and_true]; rfl
theorem OkT.below {N0 : Nat} {W W' : World} {vs : List Value} (h : OkT A cap L lcap b N0 W vs) (hb : Below W.heap.size W W') : OkT A cap L lcap b N0 W' vs := by
 obtain ⟨f, T, c, Mb, e, h1, h2, h3, h4, h5, h6⟩ := h
 exact ⟨f, T, c, Mb, e, (h1.below hb).more hb.size, h2.of_block (hb.block Mb h2.lt), h3, h4, h5, h6.of_below hb (fun k hk _ => hk)⟩
theorem OkT.stored {N0 : Nat} {W W' : World} {vs : List Value} (h : OkT A cap L lcap b N0 W vs) {R : Nat} {u : Value} (hR : R < N0) (hc : W.cell? ⟨R, 0, none⟩ = some u) (hk : ∀ k, k ≠ R → W'.heap[k]? = W.heap[k]?) (hs : W'.heap.size = W.heap.size) : OkT A cap L lcap b N0 W' vs := by
 obtain ⟨f, T, c, Mb, e, h1, h2, h3, h4, h5, h6⟩ := h
 refine ⟨f, T, c, Mb, e, fun hx => ?_, h2.of_block (hk Mb fun e => ?_), h3, h4, h5, fun k hk9 => ?_⟩
 ·obtain ⟨b0, o0, e0, q1, q2⟩ := h1 hx
  have := h5 b0 (by rw [e0]; rfl)
  exact ⟨b0, o0, e0, by rw [hs]; exact q1, fun j u hu => (World.cell?_of_block (w := W) (a := ⟨b0, o0 + j, none⟩) (hk b0 (by omega))).trans (q2 j u hu)⟩
 ·obtain ⟨D, ⟨es, ck, g1, _⟩, _⟩ := h2
  subst e
  simp [World.cell?, g1] at hc
 ·obtain ⟨Ak, ck, g1, g2⟩ := h6 k hk9
  refine ⟨Ak, ck, g1, fun hx => ?_⟩
  obtain ⟨b0, o0, e0, q1, q2, q3, q4⟩ := g2 hx
  have q2' : ¬ b0 < N0 := q2
  exact ⟨b0, o0, e0, by rw [hs]; exact q1, q2, by rw [hs]; exact q3, fun j u hu => (World.cell?_of_block (w := W) (a := ⟨b0, o0 + j, none⟩) (hk b0 (by omega))).trans (q4 j u hu)⟩
theorem OkT.less {N0 N1 : Nat} {W : World} {vs : List Value} (h : OkT A cap L lcap b N0 W vs) (hN : N1 ≤ N0) : OkT A cap L lcap b N1 W vs := by
 obtain ⟨f, T, c, Mb, e, h1, h2, h3, h4, h5, h6⟩ := h
 exact ⟨f, T, c, Mb, e, h1, h2, h3, h4, fun g hg => Nat.le_trans hN (h5 g hg), h6.of_below (Below.refl _ _) (fun k hk _ => Nat.lt_of_lt_of_le hk hN)⟩
theorem OkT.truths {N0 : Nat} {W : World} {vs : List Value} (h : OkT A cap L lcap b N0 W vs) (w : World) : Calls Tryz.prog 44 #[.agg vs.toArray] w fun e w' => e = .returned (.int .i64 b.ts.length) ∧ Below w.heap.size w w' := by
 obtain ⟨f, T, c, Mb, rfl, _⟩ := h
 exact tTruths_any A cap L lcap b _ _ _ _ _ _ _ _ _ T _ c Mb w
theorem OkT.kind {N0 : Nat} {W : World} {vs : List Value} (h : OkT A cap L lcap b N0 W vs) (x y : Int) (hx : WfI x) (hy : WfI y) : Calls Tryz.prog 51 #[.agg vs.toArray, .int .i64 x, .int .i64 y] W fun e w' => e = .returned (.int .i64 (kindP (cntP b.lines.length b.ts x y) b.ts.length)) ∧ Below W.heap.size W w' := by
 obtain ⟨f, T, c, Mb, rfl, _, h2, _⟩ := h
 exact kind_any A cap L lcap b _ _ _ _ _ _ _ _ _ T _ c Mb _ _ x y W h2 hx hy
theorem OkT.joined {N0 : Nat} {W : World} {vs : List Value} (h : OkT A cap L lcap b N0 W vs) (h9 : b.lines.length ≤ 9) : Calls Tryz.prog 54 #[.agg vs.toArray] W fun e w' => (∃ T' c', e = .returned (.slice T' (joinK (fun i o => kindP (cntP b.lines.length b.ts i o) b.ts.length == 2) (couldsP b) 9).length c') ∧ Arr w' w'.heap.size T' (pairsV (joinK (fun i o => kindP (cntP b.lines.length b.ts i o) b.ts.length == 2) (couldsP b) 9))) ∧ Below W.heap.size W w' := by
 obtain ⟨f, T, c, Mb, rfl, _, h2, _, _, _, h6⟩ := h
 exact joined_any A cap L lcap b f T _ c Mb _ _ W h2 (couldsP_nine h9) (couldsP_lt h9) (h6.of_below (Below.refl _ _) (fun k hk _ => hk.elim))
def headP (b : Bk) : Int := (peopleP b.lines.length b.ts).headD 0
theorem people_cons (h : b.ts.length ≠ 0) : peopleP b.lines.length b.ts = headP b :: (peopleP b.lines.length b.ts).tail ∧ (peopleP b.lines.length b.ts).tail.length + 1 = b.ts.length := by
 have hl : (peopleP b.lines.length b.ts).length = b.ts.length := by simp [peopleP]
 unfold headP
 cases hp : peopleP b.lines.length b.ts with
 | nil => rw [hp] at hl; simp at hl; omega
 | cons p l => rw [hp] at hl; simpa using hl
theorem OkT.least {N0 : Nat} {W : World} {vs : List Value} (h : OkT A cap L lcap b N0 W vs) (h0 : b.ts.length ≠ 0) : Calls Tryz.prog 55 #[.agg vs.toArray, .agg #[.func (.func 56) #[] #[]]] W fun e w' => e = .returned (.int .i64 (minL (headP b) (peopleP b.lines.length b.ts).tail)) ∧ Below W.heap.size W w' := by
 obtain ⟨f, T, c, Mb, rfl, h1, h2, h3, h4, _⟩ := h
 obtain ⟨q1, q2⟩ := people_cons h0
 rw [q1] at h1
 rw [← q2] at h3 ⊢
 exact findLeast_any A cap L lcap b _ _ _ _ _ _ _ _ _ T c Mb _ _ W h1 h3 h4
theorem OkT.greatest {N0 : Nat} {W : World} {vs : List Value} (h : OkT A cap L lcap b N0 W vs) (h0 : b.ts.length ≠ 0) : Calls Tryz.prog 55 #[.agg vs.toArray, .agg #[.func (.func 57) #[] #[]]] W fun e w' => e = .returned (.int .i64 (maxL (headP b) (peopleP b.lines.length b.ts).tail)) ∧ Below W.heap.size W w' := by
 obtain ⟨f, T, c, Mb, rfl, h1, h2, h3, h4, _⟩ := h
 obtain ⟨q1, q2⟩ := people_cons h0
 rw [q1] at h1
 rw [← q2] at h3 ⊢
 exact findGreatest_any A cap L lcap b _ _ _ _ _ _ _ _ _ T c Mb _ _ W h1 h3 h4
theorem OkT.ask {N0 : Nat} {W : World} {vs : List Value} (h : OkT A cap L lcap b N0 W vs) (h9 : b.lines.length ≤ 9) (f : Nat → Int) (hf : ∀ i : Nat, i ≤ 9 → WorstOf (cntP b.lines.length b.ts) i (f i)) : Calls Tryz.prog 63 #[.agg vs.toArray] W fun e w' => e = .returned (.int .i64 (askP f b.lines.length)) ∧ Below W.heap.size W w' := by
 obtain ⟨f', T, c, Mb, rfl, _, h2, _⟩ := h
 exact ask_any A cap L lcap b _ _ _ _ _ _ _ _ _ T _ c Mb _ f hf _ W h2 h9
theorem counted_ok {W : World} {f : Nat → Option Addr × Nat × Nat} (h9 : b.lines.length ≤ 9) (hl : b.lines.length ≤ lcap) (N0 : Nat) (hN : N0 ≤ W.heap.size) (hu : CouldAt b (sl9 f 0) (sl9 f 1) (sl9 f 2) (sl9 f 3) (sl9 f 4) (sl9 f 5) (sl9 f 6) (sl9 f 7) (sl9 f 8) (fun k => k < N0) W (couldsP b)) :
    Calls Tryz.prog 43 #[.agg (bksV A cap L lcap b (sl9 f 0) (sl9 f 1) (sl9 f 2) (sl9 f 3) (sl9 f 4) (sl9 f 5) (sl9 f 6) (sl9 f 7) (sl9 f 8)).toArray] W fun e w' => (∃ vs, e = .returned (.agg vs.toArray) ∧ OkT A cap L lcap b N0 w' vs) ∧ Below W.heap.size W w' := by
 refine (counted_any (w := W) h9 hl (couldsP_nine h9) (couldsP_lt h9) (hu.of_below (Below.refl _ _) (fun k hk _ => hk.elim))).mono ?_
 rintro e w' ⟨⟨T, c, Mb, rfl, h1, h2, h3, h4, h5⟩, hb⟩
 exact ⟨⟨_, rfl, f, T, c, Mb, rfl, h1, h2, h3, h4, fun g hg => Nat.le_trans hN (h5 g hg), hu.of_below hb (fun k hk _ => hk)⟩, hb⟩
end
def setE (b : Bk) (v : Bool) : Int := if refE b v = 0 then (if b.ts.length = 0 then 22 else 0) else refE b v
theorem refE_zero {b : Bk} {v : Bool} (h : refE b v = 0) : b.ok = true ∧ v = true := by
 unfold refE at h
 revert h
 cases b.ok <;> cases v <;> decide
theorem ret_cell_two {P : Program} {w : World} {a : Act} {n : Nat} {e : Env} {fn : Func} {Q : Ending → World → Prop} (hE : Fits n e a) {p ty u R : Nat} {v : List Value} {x : Value} {d : TypeDesc} (hf : fn.results = #[.cell p ty, .tmp u]) (hp : lk p e = some (.pointer (some ⟨R, 0, none⟩))) (hx : lk u e = some x) (hc : ∀ j y, v[j]? = some y → w.cell? ⟨R, j, none⟩ = some y) (hu : P.underlying ty = some d) (hd : d.isRow = true) (hi : (P.info? ty).map (·.size) = some v.length) (h : Q (.returned (.tuple #[.agg v.toArray, x])) w) : bodyPost P fn Q .ret a w := by
 have h2 := run_loadVar_mid (P := P) w R 0 ty v d (fun j u hu => by rw [Nat.zero_add]; exact hc j u hu) hu hd hi
 refine bodyPost_ret (v := .tuple #[.agg v.toArray, x]) ?_ hE.1 h
 unfold results
 rw [hf]
 have g1 := hE.at p hp
 have g2 := hE.at u hx
 simp [g1, g2, asAddr, h2, Result.andThen, Sem.run_bind]
theorem zs_stored {w V : World} {R n : Nat} {zs vs : List Value} (h : Row V R zs) (hz : zs.length = n) (hR : R < V.heap.size) (hn : w.heap.size ≤ R) (hb : Below w.heap.size w V) (hv : vs.length = n) (ho : vs.toArray.all (·.oneCell') = true) : ∃ zs' : List Value, zs'.length = n ∧ zs'.toArray.all (·.oneCell') = true ∧ Cells (V.setCells R 0 vs) R zs' ∧ Below w.heap.size w (V.setCells R 0 vs) := by
 obtain ⟨q1, q2, _⟩ := cells_stored h (vs := vs) (by rw [hz, hv]) hR hn hb
 exact ⟨vs, hv, ho, q1, q2⟩
section
variable {A : Option Addr} {cap : Nat} {L : Option Addr} {lcap : Nat} {b : Bk}
set_option maxRecDepth 100000 in
set_option maxHeartbeats 2000000 in
theorem settled_any (v : Bool) (w : World) (hM : BkAt w A L b) (hs : b.small cap lcap) : Calls Tryz.prog 50 #[.agg (bkV A cap L lcap b).toArray, .bool v] w fun e w' => (∃ vs : List Value, e = .returned (.tuple #[.agg vs.toArray, .int .i64 (setE b v)]) ∧ vs.length = 18 ∧ vs.toArray.all (·.oneCell') = true ∧ (setE b v = 0 → OkT A cap L lcap b w.heap.size w' vs)) ∧ Below w.heap.size w w' := by
 have C2 : Hid (b.ok = true → ∀ W, BkAt W A L b → _) := hid fun ho W hW => compared_any A cap L lcap b W hW hs (ok_nine ho) (ok_minutes ho)
 have C3 : Hid (∀ W v, BkAt W A L b → Calls Tryz.prog 27 #[.agg (bkV A cap L lcap b).toArray, .bool v] W fun e w' => e = .returned (.int .i64 (refE b v)) ∧ Below W.heap.size W w') := hid fun W v hW => refuse_any A cap L lcap b v W hW hs
 simp only [bkV] at C2 C3 ⊢
 refine enterE Tryz.func50 rfl Tryz.ntmps50 (by simp) (fun a hE => ?_); simp only [envOf, Nat.zero_add, Nat.reduceAdd] at hE
 refine Ks ?_
 refine Rs 3 fun Q' K hK => ?_
 refine M1 hE 0 fun K' J ρ q0 => ?_; go_simp
 refine Ln hE J fun _ Eb => ?_; clear J K' hE a q0
 refine M0 fun K' J ρ => ?_; go_simp;
 refine Ln Eb J fun _ Ea => ?_; clear J K' Eb
 refine M0 fun K' J ρ => ?_; go_simp;
 refine Ln Ea J fun _ Eb => ?_; clear J K' Ea
 refine Ld [1, 2, 4] Eb hK fun a hE => ?_; clear hK K Q' Eb
 obtain ⟨B, hB⟩ : ∃ B, B = w.heap.size := ⟨_, rfl⟩
 obtain ⟨R, hR⟩ : ∃ B, B = w.heap.size + 1 := ⟨_, rfl⟩
 rw [← hR, ← hB] at hE
 refine world_cut (fun wt => Below w.heap.size w wt ∧ Cells wt B (bkV A cap L lcap b) ∧ R < wt.heap.size ∧ ∃ zs : List Value, zs.length = 18 ∧ Row wt R zs) ?_ (fun w1 hC => ?_)
 ·rw [hB, hR]
  obtain ⟨q1, q2, q3, q4⟩ := box_row w _ _ _ _
  exact ⟨q1, q2, q3, _, rfl, q4⟩
 obtain ⟨hb1, hCB, hlR, zs, hz, hRR⟩ := hC
 have hnR : w.heap.size ≤ R := by omega
 clear hB hR
 have hM1 := hM.below hb1
 simp only [bkV] at hCB
 obtain ⟨nB, cB0, cB1, cB2, cB3, cB4, cB5, cB6⟩ := hCB.c7
 have HR0 := hid (rfl : refE b v = refE b v)
 obtain ⟨r, hr⟩ : ∃ r, refE b v = r := ⟨_, rfl⟩
 have C3' := hid fun W hW => C3.out W v hW
 rw [hr] at C3'
 have HR := hid hr
 clear hr C3 HR0
 refine Ks ?_
 refine Rs 4 fun Q' K hK => ?_
 refine M1 hE 2 fun K' J ρ q2 => ?_; go_simp
 refine Ln hE J fun _ Eb => ?_; clear J K' hE a q2
 refine M1 Eb 1 fun K' J ρ q1 => ?_; go_simp
 refine Ln Eb J fun _ Ea => ?_; clear J K' Eb q1
 refine M2 Ea 8 9 fun K' J ρ q8 q9 => ?_; go_simp; (try go_bits); (try clear q8 q9)
 go_at_call 27; refine (C3'.out _ hM1).mono ?_; rintro e w2 ⟨rfl, h2⟩
 (try clear r8 r9)
 refine Ln Ea J fun _ Eb => ?_; clear J K' Ea
 refine M1 Eb 10 fun K' J ρ q10 => ?_; go_simp
 refine Ln Eb J fun _ Ea => ?_; clear J K' Eb q10
 refine Ld [2, 4, 6] Ea hK fun a hE => ?_; clear hK K Q' Ea
 have hb2 := hb1.trans (h2.mono hb1.size)
 have hM2 := hM.below hb2
 have hRR2 := hRR.below h2 hlR
 have hlR2 := Nat.lt_of_lt_of_le hlR h2.size
 replace hCB := hCB.below h2
 clear nB cB0 cB1 cB2 cB3 cB4 cB5 cB6 C3' hRR
 obtain ⟨nB, cB0, cB1, cB2, cB3, cB4, cB5, cB6⟩ := hCB.c7
 by_cases hr0 : r = 0
 ·subst hr0
  obtain ⟨hok, hv⟩ := refE_zero HR.out
  have HO := hid hok
  have HC : Hid (∀ (W : World) (f : Nat → Option Addr × Nat × Nat), w2.heap.size ≤ W.heap.size → CouldAt b (sl9 f 0) (sl9 f 1) (sl9 f 2) (sl9 f 3) (sl9 f 4) (sl9 f 5) (sl9 f 6) (sl9 f 7) (sl9 f 8) (fun k => k < w2.heap.size) W (couldsP b) → _) := hid fun W f h1 h2 => counted_ok (A := A) (cap := cap) (L := L) (lcap := lcap) (W := W) (ok_nine HO.out) hs.2.2.1 w2.heap.size h1 h2
  have hS : setE b v = if b.ts.length = 0 then 22 else 0 := by unfold setE; rw [HR.out]; rfl
  rw [hS]
  have h64 : Hid ((b.ts.length : Int) = (b.ts.length : Nat)) := hid rfl
  clear hok hv hS
  refine Ks ?_
  refine Rs 2 fun Q' K hK => ?_
  refine M1 hE 6 fun K' J ρ q6 => ?_; go_simp
  refine Ln hE J fun _ Eb => ?_; clear J K' hE a q6
  refine M1 Eb 11 fun K' J ρ q11 => ?_; go_simp; (try go_bits)
  refine Ln Eb J fun _ Ea => ?_; clear J K' Eb q11
  refine Ld [2, 4, 12] Ea hK fun a hE => ?_; clear hK K Q' Ea
  refine Ks ?_
  refine cond_no hE (t := 12) rfl ?_
  refine Ks ?_
  refine Rs 5 fun Q' K hK => ?_
  refine M1 hE 2 fun K' J ρ q2 => ?_; go_simp
  refine Ln hE J fun _ Eb => ?_; clear J K' hE a q2
  refine M1 Eb 15 fun K' J ρ q15 => ?_; go_simp; (try go_bits); (try clear q15)
  go_at_call 40; refine (C2.out HO.out _ hM2).mono ?_; rintro e w3 ⟨⟨f, rfl, hu⟩, h3⟩
  (try clear r15)
  refine Ln Eb J fun _ Ea => ?_; clear J K' Eb
  refine M1 Ea 16 fun K' J ρ q16 => ?_; go_simp; (try go_bits); (try clear q16)
  go_at_call 43; refine (HC.out _ f h3.size hu).mono ?_; rintro e w4 ⟨⟨vs, rfl, hok4⟩, h4⟩
  have hl4 := hok4.len; have ho4 := hok4.one; have hl4' : vs.toArray.size = 18 := by simpa using hl4
  (try clear r16)
  refine Ln Ea J fun _ Eb => ?_; clear J K' Ea
  refine M0 fun K' J ρ => ?_; go_simp;
  refine Ln Eb J fun _ Ea => ?_; clear J K' Eb
  refine Lp fun K' J => ?_
  have r7 := Ea.at 7 rfl; have r17 := Ea.at 17 rfl
  refine wp_store_mid 75 (.tmp 7) (.tmp 17) rfl w4.heap.size 0 vs.toArray (eval_of r7) (eval_of r17) (there_row (row_new w4 _ _) (by rw [hl4']; exact Nat.le_of_eq rfl)) (by rw [hl4']; kernel_rfl) ho4 ?_
  (try clear r7 r17)
  refine late_skip Ea J (fun _ Eb => ?_); clear J K'; clear Ea
  refine Ld [4, 7] Eb hK fun a hE => ?_; clear hK K Q' Eb
  obtain ⟨C, hC⟩ : ∃ C, C = w4.heap.size := ⟨_, rfl⟩
  rw [← hC] at hE
  refine world_cut (fun wt => Below w4.heap.size w4 wt ∧ Cells wt C vs) (by rw [hC]; exact boxed_new w4 _ _ vs (by rw [hl4]; rfl)) (fun w5 hC5 => ?_)
  obtain ⟨h5, hCC⟩ := hC5
  clear hC
  have h24 := h3.trans (h4.mono h3.size)
  have h25 := h24.trans (h5.mono h24.size)
  have hb5 := hb2.trans (h25.mono hb2.size)
  have hRR5 := hRR2.below h25 hlR2
  have hlR5 := Nat.lt_of_lt_of_le hlR2 h25.size
  have hok5 := hok4.below h5
  have HT := hid hok5.truths
  obtain ⟨m, hm⟩ : ∃ m : Nat, b.ts.length = m := ⟨_, rfl⟩
  rw [hm] at HT ⊢
  clear hm h64 hM2 hRR2 hlR2 nB cB0 cB1 cB2 cB3 cB4 cB5 cB6 hCB
  refine Ks ?_
  refine Rs 3 fun Q' K hK => ?_
  refine Lp fun K' J => ?_
  have r7 := hE.at 7 rfl
  refine wp_load_mid 75 (.tmp 7) rfl C 0 (eval_of r7) vs _ (fun j u hu => by rw [Nat.zero_add]; exact hCC.2 j u hu) Tryz.underlying75 rfl (by rw [hl4]; kernel_rfl) ?_
  (try clear r7)
  refine Ln hE J fun _ Eb => ?_; clear J K' hE a
  refine M1 Eb 18 fun K' J ρ q18 => ?_; go_simp; (try go_bits); (try clear q18)
  go_at_call 44; refine (HT.out _).mono ?_; rintro e w6 ⟨rfl, h6⟩
  (try clear r18)
  refine Ln Eb J fun _ Ea => ?_; clear J K' Eb
  refine M1 Ea 19 fun K' J ρ q19 => ?_; go_simp; (try go_bits)
  refine Ln Ea J fun _ Eb => ?_; clear J K' Ea q19
  refine Ld [4, 7, 20] Eb hK fun a hE => ?_; clear hK K Q' Eb
  have hb6 := hb5.trans (h6.mono hb5.size)
  have hRR6 := hRR5.below h6 hlR5
  have hlR6 := Nat.lt_of_lt_of_le hlR5 h6.size
  have hok6 := hok5.below h6
  have hCC6 := hCC.below h6
  have hRw2 : R < w2.heap.size := Nat.lt_of_lt_of_le hlR h2.size
  clear hRR5 hlR5 hok5 hCC
  refine Ks ?_
  refine cond_part hE (t := 20) rfl (fun h => ?_) (fun h => ?_)
  ·have hm0 : m = 0 := by have h' : (m : Int) = 0 := (by simpa using h); omega
   clear h
   refine Ks ?_
   refine Rs 3 fun Q' K hK => ?_
   refine M0 fun K' J ρ => ?_; go_simp;
   refine Ln hE J fun _ Eb => ?_; clear J K' hE a
   refine Lp fun K' J => ?_
   have r4 := Eb.at 4 rfl; have r21 := Eb.at 21 rfl
   refine wp_store_mid 75 (.tmp 4) (.tmp 21) rfl R 0 _ (eval_of r4) (eval_of r21) (there_row hRR6 (by rw [hz]; exact Nat.le_of_eq rfl)) (by kernel_rfl) (by kernel_rfl) ?_
   (try clear r4 r21)
   refine late_skip Eb J (fun _ Ea => ?_); clear J K'; clear Eb
   refine M0 fun K' J ρ => ?_; go_simp;
   refine Ln Ea J fun _ Eb => ?_; clear J K' Ea
   refine Ld [4, 5] Eb hK fun a hE => ?_; clear hK K Q' Eb
   refine world_cut (fun wt => ∃ zs' : List Value, zs'.length = 18 ∧ zs'.toArray.all (·.oneCell') = true ∧ Cells wt R zs' ∧ Below w.heap.size w wt) ?_ (fun w7 hC => ?_)
   ·exact zs_stored hRR6 hz hlR6 hnR hb6 (by kernel_rfl) (by kernel_rfl)
   obtain ⟨zs', hz', ho', hC7, hb7⟩ := hC
   refine Ks ?_
   refine ret_cell_two hE rfl rfl rfl hC7.2 Tryz.underlying75 rfl (by rw [hz']; kernel_rfl) ⟨⟨zs', ?_, hz', ho', fun h => ?_⟩, hb7⟩
   ·rw [if_pos hm0]
   ·rw [if_pos hm0] at h; exact absurd h (by decide)
  ·have hm0 : ¬ m = 0 := by have h' : ¬ (m : Int) = 0 := (by simpa using h); omega
   clear h
   refine Ks ?_
   refine Rs 3 fun Q' K hK => ?_
   refine Lp fun K' J => ?_
   have r7 := hE.at 7 rfl
   refine wp_load_mid 75 (.tmp 7) rfl C 0 (eval_of r7) vs _ (fun j u hu => by rw [Nat.zero_add]; exact hCC6.2 j u hu) Tryz.underlying75 rfl (by rw [hl4]; kernel_rfl) ?_
   (try clear r7)
   refine Ln hE J fun _ Eb => ?_; clear J K' hE a
   refine Lp fun K' J => ?_
   have r4 := Eb.at 4 rfl; have r22 := Eb.at 22 rfl
   refine wp_store_mid 75 (.tmp 4) (.tmp 22) rfl R 0 vs.toArray (eval_of r4) (eval_of r22) (there_row hRR6 (by rw [hz, hl4']; exact Nat.le_refl _)) (by rw [hl4']; kernel_rfl) ho4 ?_
   (try clear r4 r22)
   refine late_skip Eb J (fun _ Ea => ?_); clear J K'; clear Eb
   refine M0 fun K' J ρ => ?_; go_simp;
   refine Ln Ea J fun _ Eb => ?_; clear J K' Ea
   refine Ld [4, 5] Eb hK fun a hE => ?_; clear hK K Q' Eb
   refine world_cut (fun wt => Cells wt R vs ∧ Below w.heap.size w wt ∧ OkT A cap L lcap b w2.heap.size wt vs) ?_ (fun w7 hC => ?_)
   ·obtain ⟨q1, q2, q3, q4⟩ := cells_stored hRR6 (vs := vs) (by rw [hz, hl4]) hlR6 hnR hb6
    obtain ⟨u, hu⟩ : ∃ u, zs[0]? = some u := ⟨zs[0]'(by omega), List.getElem?_eq_getElem (by omega)⟩
    exact ⟨q1, q2, hok6.stored hRw2 (hRR6 0 u hu).1 q3 q4⟩
   obtain ⟨hC7, hb7, hok7⟩ := hC
   refine Ks ?_
   refine ret_cell_two hE rfl rfl rfl hC7.2 Tryz.underlying75 rfl (by rw [hl4]; kernel_rfl) ⟨⟨vs, ?_, hl4, ho4, fun _ => hok7.less hb2.size⟩, hb7⟩
   rw [if_neg hm0]
 ·have hS : setE b v = r := by unfold setE; rw [HR.out, if_neg hr0]
  rw [hS]
  clear hS
  refine Ks ?_
  refine Rs 2 fun Q' K hK => ?_
  refine M1 hE 6 fun K' J ρ q6 => ?_; go_simp
  refine Ln hE J fun _ Eb => ?_; clear J K' hE a q6
  refine M1 Eb 11 fun K' J ρ q11 => ?_; go_simp; (try go_bits)
  refine Ln Eb J fun _ Ea => ?_; clear J K' Eb q11
  refine Ld [2, 4, 6, 12] Ea hK fun a hE => ?_; clear hK K Q' Ea
  replace hE := hE.turn 12 (v' := .bool true) rfl (by simp [hr0])
  refine Ks ?_
  refine cond_yes hE (t := 12) rfl ?_
  refine Ks ?_
  refine Rs 4 fun Q' K hK => ?_
  refine M0 fun K' J ρ => ?_; go_simp;
  refine Ln hE J fun _ Eb => ?_; clear J K' hE a
  refine M1 Eb 6 fun K' J ρ q6 => ?_; go_simp
  refine Ln Eb J fun _ Ea => ?_; clear J K' Eb q6
  refine Lp fun K' J => ?_
  have r4 := Ea.at 4 rfl; have r13 := Ea.at 13 rfl
  refine wp_store_mid 75 (.tmp 4) (.tmp 13) rfl R 0 _ (eval_of r4) (eval_of r13) (there_row hRR2 (by rw [hz]; exact Nat.le_of_eq rfl)) (by kernel_rfl) (by kernel_rfl) ?_
  (try clear r4 r13)
  refine late_skip Ea J (fun _ Eb => ?_); clear J K'; clear Ea
  refine M1 Eb 14 fun K' J ρ q14 => ?_; go_simp
  refine Ln Eb J fun _ Ea => ?_; clear J K' Eb q14
  refine Ld [4, 5] Ea hK fun a hE => ?_; clear hK K Q' Ea
  refine world_cut (fun wt => ∃ zs' : List Value, zs'.length = 18 ∧ zs'.toArray.all (·.oneCell') = true ∧ Cells wt R zs' ∧ Below w.heap.size w wt) ?_ (fun w7 hC => ?_)
  ·exact zs_stored hRR2 hz hlR2 hnR hb2 (by kernel_rfl) (by kernel_rfl)
  obtain ⟨zs', hz', ho', hC7, hb7⟩ := hC
  refine Ks ?_
  exact ret_cell_two hE rfl rfl rfl hC7.2 Tryz.underlying75 rfl (by rw [hz']; kernel_rfl) ⟨⟨zs', rfl, hz', ho', fun h => absurd h hr0⟩, hb7⟩
end
end Go.Proofs.YtbimkcjdodgojaaGreat
