/- A statement that draws its order, in a round: what is shown of it outside rounds serves. Without conditions of its own. -/
import Derived.RangeFuncNested
import Derived.RangeFuncBound
import Derived.RangeFuncCalls
import Derived.RangeFuncLeaves
import Derived.WalkKit
import Derived.Deep.RegionHeld
namespace Go.Proofs.YtbimkcjdodgojaaGreat
set_option linter.unusedSimpArgs false
set_option linter.unusedVariables false
open Go Go.RowKit
/-- From block c on all that lay there lies as it lay. -/
structure Mid (c : Nat) (W V : World) : Prop where
  size : W.heap.size ≤ V.heap.size
  block : ∀ k, c ≤ k → k < W.heap.size → V.heap[k]? = W.heap[k]?
/-- The same, but for one block. -/
structure MidBut (c l : Nat) (W V : World) : Prop where
  size : W.heap.size ≤ V.heap.size
  block : ∀ k, c ≤ k → k < W.heap.size → k ≠ l → V.heap[k]? = W.heap[k]?
theorem Mid.refl (c : Nat) (W : World) : Mid c W W := ⟨Nat.le_refl _, fun _ _ _ => rfl⟩
theorem Mid.trans {c : Nat} {A B C : World} (h : Mid c A B) (k : Mid c B C) : Mid c A C :=
  ⟨Nat.le_trans h.size k.size, fun i hi hA => (k.block i hi (Nat.lt_of_lt_of_le hA h.size)).trans (h.block i hi hA)⟩
theorem Mid.mono {c c' : Nat} {A B : World} (h : Mid c A B) (hc : c ≤ c') : Mid c' A B := ⟨h.size, fun i hi hA => h.block i (Nat.le_trans hc hi) hA⟩
theorem Mid.of_below {c : Nat} {A B : World} (h : Below A.heap.size A B) : Mid c A B := ⟨h.size, fun i _ hA => h.block i hA⟩
theorem Mid.alloc {c : Nat} {A B : World} (h : Mid c A B) (o : Obj) : Mid c A (B.alloc o) :=
  h.trans ⟨by simp, fun i _ hB => Below.heap_alloc _ _ _ hB⟩
theorem Mid.below {c : Nat} {A B C : World} (h : Mid c A B) (k : Below B.heap.size B C) : Mid c A C := h.trans (.of_below k)
theorem Mid.set {c : Nat} {A B : World} (h : Mid c A B) (b o : Nat) (u : Value) (hb : b < c ∨ A.heap.size ≤ b) : Mid c A (B.setCell ⟨b, o, none⟩ u) :=
  ⟨by simpa [World.setCell] using h.size, fun i hi hA => (Below.heap_setCell _ _ _ _ (by show i ≠ b; omega)).trans (h.block i hi hA)⟩
theorem Mid.cell {c : Nat} {A B : World} (h : Mid c A B) {p : Addr} (h1 : c ≤ p.block) (h2 : p.block < A.heap.size) : B.cell? p = A.cell? p :=
  World.cell?_of_block (w := A) (h.block _ h1 h2)
theorem Mid.frozen {c : Nat} {A B : World} (h : Mid c A B) {p : Addr} (h1 : c ≤ p.block) (h2 : p.block < A.heap.size) : B.frozen? p = A.frozen? p :=
  World.frozen?_of_block (w := A) (h.block _ h1 h2)
theorem Mid.but {c : Nat} {A B : World} (h : Mid c A B) (l : Nat) : MidBut c l A B := ⟨h.size, fun i hi hA _ => h.block i hi hA⟩
theorem MidBut.trans {c l : Nat} {A B C : World} (h : MidBut c l A B) (k : MidBut c l B C) : MidBut c l A C :=
  ⟨Nat.le_trans h.size k.size, fun i hi hA hl => (k.block i hi (Nat.lt_of_lt_of_le hA h.size) hl).trans (h.block i hi hA hl)⟩
theorem MidBut.put {c l : Nat} {A B : World} (h : MidBut c l A B) (o : Obj) : MidBut c l A (B.putObj l o) :=
  ⟨by simpa using h.size, fun i hi hA hl => (World.putObj_heap_other hl).trans (h.block i hi hA hl)⟩
theorem MidBut.cell {c l : Nat} {A B : World} (h : MidBut c l A B) {p : Addr} (h1 : c ≤ p.block) (h2 : p.block < A.heap.size) (h3 : p.block ≠ l) : B.cell? p = A.cell? p :=
  World.cell?_of_block (w := A) (h.block _ h1 h2 h3)
theorem MidBut.frozen {c l : Nat} {A B : World} (h : MidBut c l A B) {p : Addr} (h1 : c ≤ p.block) (h2 : p.block < A.heap.size) (h3 : p.block ≠ l) : B.frozen? p = A.frozen? p :=
  World.frozen?_of_block (w := A) (h.block _ h1 h2 h3)
/-- J speaks of blocks below B alone. -/
def Up {β : Type} (B : Nat) (J : β → World → Prop) : Prop := ∀ s A C, J s A → Below B A C → J s C
theorem Up.mono {β : Type} {B B' : Nat} {J : β → World → Prop} (h : Up B J) (hB : B ≤ B') : Up B' J := fun s A C hs hb => h s A C hs (hb.mono hB)
theorem Up.and {β : Type} {B : Nat} {J K : β → World → Prop} (h : Up B J) (k : Up B K) : Up B (fun s W => J s W ∧ K s W) := fun s A C hs hb => ⟨h s A C hs.1 hb, k s A C hs.2 hb⟩
theorem Up.below {β : Type} {B n : Nat} {w : World} (hn : n ≤ B) : Up B (fun (_ : β) W => Below n w W) := fun _ _ _ hs hb => hs.trans (hb.mono hn)
theorem Up.cell {β : Type} {B b o : Nat} {f : β → Value} (hn : b < B) : Up B (fun s W => W.cell? ⟨b, o, none⟩ = some (f s)) := fun _ _ _ hs hb => (hb.cell (p := ⟨b, o, none⟩) hn).trans hs
theorem Up.frozen {β : Type} {B b o : Nat} {v : Bool} (hn : b < B) : Up B (fun (_ : β) W => W.frozen? ⟨b, o, none⟩ = v) := fun _ _ _ hs hb => (hb.frozen (p := ⟨b, o, none⟩) hn).trans hs
/-- A call of yield, whatever room there is. -/
def YieldW (P : Program) (l : Nat) (args : Array Value) (W : World) (R : Ending → World → Prop) : Prop :=
  ∃ fn tmps assign body, (Instr.yield l args).run P W = .ok (.round l fn tmps assign body) W ∧ ∀ m, RoundIn Fence.wide m P l fn tmps assign body W R
theorem YieldW.mono {P : Program} {l : Nat} {args : Array Value} {W : World} {R R' : Ending → World → Prop} (h : YieldW P l args W R) (hr : ∀ e w, R e w → R' e w) : YieldW P l args W R' := by
  obtain ⟨fn, tmps, assign, body, hy, hR⟩ := h
  exact ⟨fn, tmps, assign, body, hy, fun m => (hR m).mono hr⟩
/-- no operation is a defer -/
def noDefer (ops : Array Oper) : Bool := ops.toList.all fun o => match o.op with
  | .defer _ => false
  | _ => true
theorem noDefer_at {ops : Array Oper} (h : noDefer ops = true) {i : Nat} {o : Oper} (ho : ops[i]? = some o) : ∀ c, o.op ≠ .defer c := by
  intro c e
  unfold noDefer at h
  rw [List.all_eq_true] at h
  have hm : o ∈ ops.toList := by
    have := Array.mem_of_getElem? ho
    simpa using this
  have := h o hm
  rw [e] at this
  cases this
theorem opIn_of_op {P : Program} {l n : Nat} {o : Oper} {a : Act} {w : World} {next next' : Act → World → Prop} {Q : Exit → Act → World → Prop}
    (hs : ∀ c, o.op ≠ .defer c) (hn : ∀ a w, next a w → next' a w) (h : o.wp P a w next Q) : o.wpIn (Fence.wide.inRound l) n P a w next' Q := by
  unfold Oper.wp at h
  refine ⟨fun _ _ => trivial, ?_⟩
  rw [Oper.semAt_eq _ _ _ hs]
  generalize (execOp a.eval o).run P w = r at *
  unfold Oper.upon at h
  unfold Oper.uponIn
  split at h
  · exact hn _ _ h
  · exact hn _ _ h
  · exact hn _ _ h
  · refine ⟨fun e => by simp [Fence.wide, Fence.inRound] at e, ?_⟩
    refine CallsIn.inRound l (callsIn_wide.2 (Calls.mono h ?_))
    intro e w'' he
    cases e with
    | returned v => exact hn _ _ he
    | panicked c => exact he
    | outgrown => exact he
  · refine ⟨fun e => by simp [Fence.wide, Fence.inRound] at e, ?_⟩
    have hr : RowsIn Fence.wide (n - 1) P _ _ _ _ := fun c cs _ => by
      obtain ⟨v, w', hv, hst⟩ := h c cs
      exact ⟨v, w', hn _ _ hv, stepsIn_wide.2 hst⟩
    exact hr
  · exact h
  · exact h.elim
theorem opsIn_of_ops {P : Program} {l n : Nat} {ops : Array Oper} {Q : Exit → Act → World → Prop} (hd : noDefer ops = true) (hL : ¬ LetsOut Q) :
    ∀ (is : List Nat) (a : Act) (w : World), wpOps P ops Q is a w → wpOpsIn (Fence.wide.inRound l) n P ops Q is a w := by
  intro is
  induction is with
  | nil => intro a w h; exact h
  | cons i is ih =>
    intro a w h
    unfold wpOps at h
    unfold wpOpsIn
    cases ho : ops[i]? with
    | none => rw [ho] at h; exact ih _ _ h
    | some o =>
      rw [ho] at h
      simp only at h ⊢
      split
      · rename_i hw
        rw [if_pos hw] at h
        rcases h with h | ⟨_, h⟩
        · exact opIn_of_op (noDefer_at hd ho) (fun a w h => ih a w h) h
        · exact absurd h hL
      · rename_i hw
        rw [if_neg hw] at h
        exact ⟨fun _ _ => trivial, ih _ _ h⟩
variable {P : Program} {ops : Array Oper} {Q : Exit → Act → World → Prop} {S : World → Prop}
theorem wpIn_region_any {l n id : Nat} {a : Act} {w : World} (hd : noDefer ops = true) (hL : ¬ LetsOut Q) (hm : P.follows .mixedOrders = true)
    (h : wpAny P .any ops Q ops.size (Array.replicate ops.size false) a w.drew) : (Code.region id ops true).wpIn (Fence.wide.inRound l) n P Q a w :=
  wpIn_region_draw fun t => opsIn_of_ops hd hL _ _ _ (by
    simp only [Region.schedule, hm, Bool.true_or, if_true]
    exact wpAny_sound ops.size t _ a _ h)
end Go.Proofs.YtbimkcjdodgojaaGreat
