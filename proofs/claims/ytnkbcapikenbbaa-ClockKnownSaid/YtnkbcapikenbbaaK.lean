/- A map from frosts to bools that the call itself has made: what it holds, asked and stored, without conditions of its own. -/
import Derived.Test.YtnkbcapikenbbaaM
import Derived.Test.YtnkbcapikenbbaaProg
import Derived.Test.YtnkbcapikenbbaaL
import Derived.Maps.Own
import Derived.Maps.OwnOps
import Derived.Maps.Views
import Derived.DeepKeys4
namespace Go.Proofs.Ytnkbcapikenbbaa
set_option linter.unusedSimpArgs false
set_option linter.unusedVariables false
open Go.RowKit Go.WideMaps

theorem k_laid : laidOutB Try.prog = true := by kernel_rfl
theorem k_row : (101 : TypeId) < Try.prog.types.size := of_decide_eq_true (by kernel_rfl)
theorem k_wide : (match Try.prog.underlying 101 with | some (.array _ _) | some (.struct _) => true | _ => false) = true := by kernel_rfl
theorem k_size : ∃ m, Try.prog.types.size = m + 1 := ⟨160, by kernel_rfl⟩
theorem k_cells : Try.prog.cellsOf 101 = 2 := by kernel_rfl
theorem k_cell : Try.prog.cellsOf 3 = 1 := by kernel_rfl
theorem k_type : Try.prog.keyType 101 = true := by kernel_rfl
theorem k_at : Try.prog.keyTypeAt 2 101 = true := by kernel_rfl
set_option maxRecDepth 100000 in
theorem k_law : Maps.Keyed Try.prog 101 := .of_law (deep_law_laid k_laid (m := 2) (by omega) k_row k_at k_wide)
theorem k_lits (a b : Int) (wa : (Lit.int .i64 a).wf = true) (wb : (Lit.int .i64 b).wf = true) : ∃ l, keyOf Try.prog 101 (.agg #[.int .i64 a, .int .i64 b]) = some l := by
  obtain ⟨m, hs⟩ : ∃ m, Try.prog.types.size = m + 1 := k_size
  have hc := k_cells
  have h1 := k_cell
  have hk := k_type
  have hf : (Value.agg #[.int .i64 a, .int .i64 b]).formed Try.prog 101 = true := by simp [Value.formed, Try.underlying101, hc]
  have hl : Try.prog.keyLits (Try.prog.types.size + 1) 101 [.int .i64 a, .int .i64 b] = some [.int .i64 a, .int .i64 b] := by
    rw [hs]
    have hi : ∀ (n : Nat) (x : Int), (Lit.int .i64 x).wf = true → Try.prog.keyLits (n + 1) 3 [.int .i64 x] = some [.int .i64 x] := fun n x hx => by
      unfold Program.keyLits
      simp only [Try.underlying3]
      simp [hx]
    unfold Program.keyLits
    simp only [Try.underlying101, hc]
    simp [hi, wa, wb, h1]
  refine ⟨.string (keyBytes [.int .i64 a, .int .i64 b]), ?_⟩
  unfold keyOf
  rw [Try.underlying101]
  simp only [hk, hf, Bool.and_self, if_true]
  simp only [Value.cells]
  rw [hl]
  rfl

abbrev fval (f : Sp) : Value := .agg #[.int .i64 f.lo, .int .i64 f.hi]
def WfS (f : Sp) : Prop := (Lit.int .i64 f.lo).wf = true ∧ (Lit.int .i64 f.hi).wf = true
theorem wf_small (f : Sp) (h : 0 ≤ f.lo ∧ f.lo ≤ 4320 ∧ 0 ≤ f.hi ∧ f.hi ≤ 4320) : WfS f := by
  obtain ⟨h1, h2, h3, h4⟩ := h
  unfold WfS Lit.wf
  constructor <;> (simp [IntKind.min, IntKind.max, IntKind.bits, IntKind.signed]; omega)

/-- block b of w is a map of at most n frosts, with true for those of l -/
def Listed (w : World) (b n : Nat) (l : List Sp) : Prop :=
  ∃ D : DataW Unit, w.ownsMap Try.prog 101 (plainElem Try.prog 4) b n D ∧ Maps.IsMap D ∧
    ∀ f kl, keyOf Try.prog 101 (fval f) = some kl → D.atKey kl (.lit (.bool false)) = .lit (.bool (decide (f ∈ l)))

theorem Listed.of_block {w w' : World} {b n : Nat} {l : List Sp} (h : Listed w b n l) (hb : w'.heap[b]? = w.heap[b]?) : Listed w' b n l := by
  obtain ⟨D, ⟨es, c, h1, h2, h3, h4⟩, r⟩ := h
  exact ⟨D, ⟨es, c, hb.trans h1, h2, h3, h4⟩, r⟩
theorem Listed.lt {w : World} {b n : Nat} {l : List Sp} (h : Listed w b n l) : b < w.heap.size := by
  obtain ⟨D, h, _⟩ := h
  exact h.lt
theorem Listed.made (w : World) : Listed (w.alloc (.map #[] 0)) w.heap.size 0 [] :=
  ⟨.map [], World.ownsMap_made _ _ _ _, Maps.isMap_empty, fun f kl _ => by simp [DataW.atKey]⟩

theorem k_zero (w : World) : (zeroValue 4).run Try.prog w = .ok (.bool false) w := by kernel_rfl

theorem pe_bool_inv {P : Program} {e : TypeId} (he : P.underlying e = some .bool) {v : Value} {z : DataW Unit × List MemPlace} (h : plainElem P e v = some z) : ∃ x, v = .bool x ∧ z = (.lit (.bool x), []) := by
  unfold plainElem at h
  rw [he] at h
  cases v <;> simp at h
  exact ⟨_, rfl, h.symm⟩

theorem Listed.lookup {w : World} {b n : Nat} {l : List Sp} (h : Listed w b n l) (f : Sp) (hf : WfS f) :
    (Instr.lookup 142 (.map (some b)) (fval f) false).run Try.prog w = .ok (.bool (decide (f ∈ l))) w := by
  obtain ⟨D, ho, _, hD⟩ := h
  obtain ⟨kl, hk⟩ := k_lits f.lo f.hi hf.1 hf.2
  obtain ⟨v, ps, hr, hv⟩ := ho.lookup k_law Try.underlying142 (k_zero w) (plainElem_bool Try.underlying4 false) hk
  rw [hr]
  rw [hD f kl hk] at hv
  obtain ⟨x, rfl, hx⟩ := pe_bool_inv Try.underlying4 hv
  simp only [Prod.mk.injEq, DataW.lit.injEq, Lit.bool.injEq] at hx
  rw [hx.1]

theorem Listed.update {w : World} {b n : Nat} {l : List Sp} (h : Listed w b n l) (hn : n < maxLen) (f : Sp) (hf : WfS f) :
    ∃ w', (Instr.mapUpdate 142 (.map (some b)) (fval f) (.bool true)).run Try.prog w = .ok () w' ∧ Listed w' b (n + 1) (l ++ [f]) ∧ w.grownBy w' (some b) := by
  obtain ⟨D, ho, hm, hD⟩ := h
  obtain ⟨kl, hk⟩ := k_lits f.lo f.hi hf.1 hf.2
  obtain ⟨w', hr, ho', hg⟩ := ho.update k_law Try.underlying142 hn hk (plainElem_bool Try.underlying4 true)
  refine ⟨w', hr, ⟨_, ho', hm.put _ _, fun g kg hkg => ?_⟩, hg⟩
  by_cases hgf : g = f
  · subst hgf
    have : kg = kl := by rw [hk] at hkg; cases hkg; rfl
    rw [this, Maps.atKey_put_same hm (k_law.key hk)]
    simp
  · have hne : kg ≠ kl := fun e => hgf (by
      have := k_law.inj hkg (e ▸ hk)
      obtain ⟨a, b⟩ := g
      obtain ⟨c, d⟩ := f
      simpa [fval] using this)
    rw [Maps.atKey_put_other hne, hD g kg hkg]
    simp [hgf]

theorem wpList_look (w : World) {ops : Array Oper} {rest : List Oper} {o : Oper} {a : Act} {Q : Exit → Act → World → Prop}
    (hg : o.guard = none) (m x : Operand) (hop : o.op = Op.lookup 142 m x false) (b n : Nat) (l : List Sp) (hl : Listed w b n l)
    (hm : a.eval m = .map (some b)) (lo hi : Int) (hx : a.eval x = .agg #[.int .i64 lo, .int .i64 hi]) (hf : WfS ⟨lo, hi⟩)
    (hK : wpList Try.prog ops Q rest (a.put o.dst (.bool (decide (⟨lo, hi⟩ ∈ l)))) w) :
    wpList Try.prog ops Q (o :: rest) a w := by
  refine wpList_plain hg fun K' hK' => ?_
  have hrun := hl.lookup ⟨lo, hi⟩ hf
  unfold Oper.wp
  simp [execOp, hop, hm, hx, hrun, Result.andThen]
  exact hK' _ _ hK

theorem wpList_store (w : World) {ops : Array Oper} {rest : List Oper} {o : Oper} {a : Act} {Q : Exit → Act → World → Prop}
    (hg : o.guard = none) (m x v : Operand) (hop : o.op = Op.mapUpdate 142 m x v) (b n : Nat) (l : List Sp) (hl : Listed w b n l) (hn : n < maxLen)
    (hm : a.eval m = .map (some b)) (lo hi : Int) (hx : a.eval x = .agg #[.int .i64 lo, .int .i64 hi]) (hv : a.eval v = .bool true) (hf : WfS ⟨lo, hi⟩)
    (hK : ∀ w', Listed w' b (n + 1) (l ++ [⟨lo, hi⟩]) → w.grownBy w' (some b) → wpList Try.prog ops Q rest (a.put o.dst undef) w') :
    wpList Try.prog ops Q (o :: rest) a w := by
  refine wpList_plain hg fun K' hK' => ?_
  obtain ⟨w', hrun, r1, r2⟩ := hl.update hn ⟨lo, hi⟩ hf
  unfold Oper.wp
  simp [execOp, hop, hm, hx, hv, hrun, Result.andThen]
  exact hK' _ _ (hK w' r1 r2)
end Go.Proofs.Ytnkbcapikenbbaa
