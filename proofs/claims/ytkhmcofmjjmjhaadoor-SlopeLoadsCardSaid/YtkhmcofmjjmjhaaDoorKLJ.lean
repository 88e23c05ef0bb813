/- A statement that draws its order, in a round: what is shown of it outside rounds serves. Without conditions of its own. -/
import Derived.Test.YtkhmcofmjjmjhaaDoorKLG
import Derived.RangeFuncNested
import Derived.RangeFuncBound
import Derived.RangeFuncCalls
import Derived.RangeFuncLeaves
import Derived.WalkKit
import Derived.Deep.RegionHeld
namespace Go.Proofs.YtkhmcofmjjmjhaaDoor
set_option linter.unusedSimpArgs false
set_option linter.unusedVariables false
open Go Go.RowKit
/-- a block from some size on -/
def Blk (N G : Nat) (cs : Array Value) (t : TypeId) (w : World) : Prop := N ≤ G ∧ G < w.heap.size ∧ w.heap[G]? = some (.cells cs t)
theorem Blk.keep {N G : Nat} {cs : Array Value} {t : TypeId} {w w' : World} (h : Blk N G cs t w) (hb : Below w.heap.size w w') : Blk N G cs t w' := ⟨h.1, Nat.lt_of_lt_of_le h.2.1 hb.size, (hb.block G h.2.1).trans h.2.2⟩
theorem Blk.more {N N' G : Nat} {cs : Array Value} {t : TypeId} {w : World} (h : Blk N G cs t w) (hn : N' ≤ N) : Blk N' G cs t w := ⟨Nat.le_trans hn h.1, h.2⟩
theorem blk_new {N : Nat} (w : World) (cs : Array Value) (t : TypeId) (h : N ≤ w.heap.size) : Blk N w.heap.size cs t (w.alloc (.cells cs t)) := ⟨h, by simp, by show (w.heap.push _)[w.heap.size]? = _; simp⟩
/-- a block's cells, each of which can be written -/
def Row (w : World) (G : Nat) (l : List Value) : Prop := ∀ j u, l[j]? = some u → w.cell? ⟨G, j, none⟩ = some u ∧ Wr w G j
theorem Blk.row {N G : Nat} {cs : Array Value} {t : TypeId} {w : World} (h : Blk N G cs t w) : Row w G cs.toList := fun j u hu => by
  have hc : w.cell? ⟨G, j, none⟩ = some u := by
    simp only [World.cell?, h.2.2]
    simpa using hu
  exact ⟨hc, Wr.of hc (by simp [World.frozen?, h.2.2])⟩
theorem Row.set {w : World} {G o : Nat} {l : List Value} {v : Value} (h : Row w G l) (ho : o < l.length) : Row (w.setCell ⟨G, o, none⟩ v) G (l.set o v) := fun j u hu => by
  rw [List.getElem?_set] at hu
  by_cases e : o = j
  · subst e
    rw [if_pos rfl, if_pos ho] at hu
    cases hu
    obtain ⟨_, hw⟩ := h o l[o] (List.getElem?_eq_getElem ho); exact ⟨cell_set_wr hw, by rw [wr_set]; exact hw⟩
  · rw [if_neg e] at hu
    obtain ⟨h1, h2⟩ := h j u hu; exact ⟨by rw [World.cell?_setCell_other _ _ _ _ (fun e' => e (congrArg Addr.off e'))]; exact h1, by rw [wr_set]; exact h2⟩
theorem Row.other {w : World} {G b o : Nat} {l : List Value} {v : Value} (h : Row w G l) (hb : b ≠ G) : Row (w.setCell ⟨b, o, none⟩ v) G l := fun j u hu => by
  obtain ⟨h1, h2⟩ := h j u hu; exact ⟨by rw [World.cell?_setCell_other _ _ _ _ (fun e' => hb (congrArg Addr.block e'))]; exact h1, by rw [wr_set]; exact h2⟩
theorem Row.below {w w' : World} {G : Nat} {l : List Value} (h : Row w G l) (hb : Below w.heap.size w w') (hG : G < w.heap.size) : Row w' G l := fun j u hu => by
  obtain ⟨h1, h2⟩ := h j u hu; exact ⟨(hb.cell (p := ⟨G, j, none⟩) hG).trans h1, wr_below h2 hb hG⟩
theorem Row.arr {w : World} {G : Nat} {l : List Value} (h : Row w G l) (hG : G < w.heap.size) : Arr w w.heap.size (some ⟨G, 0, none⟩) l := fun _ => ⟨G, 0, rfl, hG, fun j u hu => by rw [Nat.zero_add]; exact (h j u hu).1⟩
/-- rows in memory, each a block of its own from some block on, each cell of which can be written -/
def Rws (N : Nat) (w : World) (L : List (Nat × List Value)) : Prop := (L.map (·.1)).Nodup ∧ ∀ p ∈ L, N ≤ p.1 ∧ p.1 < w.heap.size ∧ Row w p.1 p.2
theorem Rws.below {N : Nat} {w w' : World} {L : List (Nat × List Value)} (h : Rws N w L) (hb : Below w.heap.size w w') : Rws N w' L :=
  ⟨h.1, fun p hp => let ⟨h1, h2, h3⟩ := h.2 p hp; ⟨h1, Nat.lt_of_lt_of_le h2 hb.size, h3.below hb h2⟩⟩
theorem Rws.get {N : Nat} {w : World} {L : List (Nat × List Value)} (h : Rws N w L) (i : Nat) {G : Nat} {l : List Value} (hi : L[i]? = some (G, l)) : N ≤ G ∧ G < w.heap.size ∧ Row w G l := h.2 (G, l) (List.mem_of_getElem? hi)
theorem Rws.set {N : Nat} {w : World} {L : List (Nat × List Value)} (h : Rws N w L) (i : Nat) {G o : Nat} {l : List Value} (v : Value) (hi : L[i]? = some (G, l)) (ho : o < l.length) : Rws N (w.setCell ⟨G, o, none⟩ v) (L.set i (G, l.set o v)) := by
  have hlt : i < L.length := (List.getElem?_eq_some_iff.1 hi).1
  have hm : (L.set i (G, l.set o v)).map (·.1) = L.map (·.1) := by
    rw [List.map_set]; refine List.ext_getElem? fun j => ?_; rw [List.getElem?_set]
    by_cases e : i = j
    · subst e
      rw [if_pos rfl, if_pos (by simpa using hlt)]; simp [hi]
    · rw [if_neg e]
  refine ⟨by rw [hm]; exact h.1, fun p hp => ?_⟩; rw [List.mem_iff_getElem?] at hp; obtain ⟨j, hj⟩ := hp; rw [List.getElem?_set] at hj
  by_cases e : i = j
  · subst e
    rw [if_pos rfl, if_pos hlt] at hj
    cases hj
    obtain ⟨h1, h2, h3⟩ := h.get i hi; exact ⟨h1, by simpa using h2, h3.set ho⟩
  · rw [if_neg e] at hj
    obtain ⟨h1, h2, h3⟩ := h.2 p (List.mem_of_getElem? hj); refine ⟨h1, by simpa using h2, h3.other fun e' => e ?_⟩; have hn := h.1; have hj' : (L.map (·.1))[j]? = some p.1 := by simp [hj]
    have hi' : (L.map (·.1))[i]? = some p.1 := by simp [hi, e']
    have hjl : j < (L.map (·.1)).length := (List.getElem?_eq_some_iff.1 hj').1; have hil : i < (L.map (·.1)).length := (List.getElem?_eq_some_iff.1 hi').1; rw [List.getElem?_eq_getElem hil] at hi'; rw [List.getElem?_eq_getElem hjl] at hj'; have heq : (L.map (·.1))[i] = (L.map (·.1))[j] := by rw [Option.some.inj hi', Option.some.inj hj']
    have hp := List.pairwise_iff_getElem.1 hn
    rcases Nat.lt_trichotomy i j with h4 | h4 | h4
    · exact absurd heq (hp i j hil hjl h4)
    · exact h4
    · exact absurd heq.symm (hp j i hjl hil h4)
/-- what stays when a block of one type may be written -/
def RSp (t : TypeId) (w w' : World) : Prop := w.heap.size ≤ w'.heap.size ∧ (∀ b o, Wr w b o → Wr w' b o) ∧ (∀ (G : Nat) (cs : Array Value) (t' : TypeId), t' ≠ t → w.heap[G]? = some (.cells cs t') → w'.heap[G]? = some (.cells cs t')) ∧ ∀ (G : Nat), (∃ cs, w.heap[G]? = some (.cells cs t)) → ∃ cs, w'.heap[G]? = some (.cells cs t)
theorem RSp.refl {t : TypeId} {w : World} : RSp t w w := ⟨Nat.le_refl _, fun _ _ h => h, fun _ _ _ _ h => h, fun _ h => h⟩
theorem RSp.of {t : TypeId} {w w' : World} (h : Below w.heap.size w w') : RSp t w w' := ⟨h.size, fun _ _ hw => wr_below hw h hw.lt, fun G cs t' _ hG => (h.block G (Array.getElem?_eq_some_iff.1 hG).1).trans hG, fun G ⟨cs, hG⟩ => ⟨cs, (h.block G (Array.getElem?_eq_some_iff.1 hG).1).trans hG⟩⟩
theorem RSp.trans {t : TypeId} {a b c : World} (h : RSp t a b) (k : RSp t b c) : RSp t a c := ⟨Nat.le_trans h.1 k.1, fun _ _ hw => k.2.1 _ _ (h.2.1 _ _ hw), fun G cs t' hne hG => k.2.2.1 G cs t' hne (h.2.2.1 G cs t' hne hG), fun G hG => k.2.2.2 G (h.2.2.2 G hG)⟩
theorem RSp.set {t : TypeId} {w : World} {B o : Nat} {v : Value} (hB : ∃ cs, w.heap[B]? = some (.cells cs t)) : RSp t w (w.setCell ⟨B, o, none⟩ v) := by
  obtain ⟨cs, hB⟩ := hB
  have other : ∀ G, G ≠ B → (w.setCell ⟨B, o, none⟩ v).heap[G]? = w.heap[G]? := fun G hne => by
    simp only [World.setCell, Array.getElem?_modify]; rw [if_neg (Ne.symm hne)]
  have same : ∃ cs, (w.setCell ⟨B, o, none⟩ v).heap[B]? = some (.cells cs t) := by
    simp [World.setCell, Array.getElem?_modify, hB]
  refine ⟨by simp, fun b o' h => by rw [wr_set]; exact h, fun G cs' t' hne hG => ?_, fun G ⟨cs', hG⟩ => ?_⟩
  · have hGB : G ≠ B := fun e => by
      subst e; rw [hB] at hG
      injection hG with hG
      injection hG with _ hG
      exact hne hG.symm
    rw [other G hGB]; exact hG
  · by_cases e : G = B
    · subst e; exact same
    · exact ⟨cs', by rw [other G e]; exact hG⟩
theorem Blk.arr {N G : Nat} {cs : Array Value} {t : TypeId} {w : World} (h : Blk N G cs t w) {l : List Value} (e : cs.toList = l) : Arr w w.heap.size (some ⟨G, 0, none⟩) l := by rw [← e]; exact h.row.arr h.2.1
end Go.Proofs.YtkhmcofmjjmjhaaDoor
namespace Go.Proofs.YtkhmcofmjjmjhaaDoor
set_option linter.unusedSimpArgs false
set_option linter.unusedVariables false
open Go Go.RowKit
/-- From block c on all that lay there lies as it lay. -/
structure Mid (c : Nat) (W V : World) : Prop where
  size : W.heap.size ≤ V.heap.size
  block : ∀ k, c ≤ k → k < W.heap.size → V.heap[k]? = W.heap[k]?
/-- The same, but for one block. -/
structure MidBut (c l : Nat) (W V : World) : Prop where
  size : W.heap.size ≤ V.heap.size
  block : ∀ k, c ≤ k → k < W.heap.size → k ≠ l → V.heap[k]? = W.heap[k]?
theorem Mid.refl (c : Nat) (W : World) : Mid c W W := ⟨Nat.le_refl _, fun _ _ _ => rfl⟩
theorem Mid.trans {c : Nat} {A B C : World} (h : Mid c A B) (k : Mid c B C) : Mid c A C :=
  ⟨Nat.le_trans h.size k.size, fun i hi hA => (k.block i hi (Nat.lt_of_lt_of_le hA h.size)).trans (h.block i hi hA)⟩
theorem Mid.mono {c c' : Nat} {A B : World} (h : Mid c A B) (hc : c ≤ c') : Mid c' A B := ⟨h.size, fun i hi hA => h.block i (Nat.le_trans hc hi) hA⟩
theorem Mid.of_below {c : Nat} {A B : World} (h : Below A.heap.size A B) : Mid c A B := ⟨h.size, fun i _ hA => h.block i hA⟩
theorem Mid.alloc {c : Nat} {A B : World} (h : Mid c A B) (o : Obj) : Mid c A (B.alloc o) :=
  h.trans ⟨by simp, fun i _ hB => Below.heap_alloc _ _ _ hB⟩
theorem Mid.below {c : Nat} {A B C : World} (h : Mid c A B) (k : Below B.heap.size B C) : Mid c A C := h.trans (.of_below k)
theorem Mid.set {c : Nat} {A B : World} (h : Mid c A B) (b o : Nat) (u : Value) (hb : b < c ∨ A.heap.size ≤ b) : Mid c A (B.setCell ⟨b, o, none⟩ u) :=
  ⟨by simpa [World.setCell] using h.size, fun i hi hA => (Below.heap_setCell _ _ _ _ (by show i ≠ b; omega)).trans (h.block i hi hA)⟩
theorem Mid.cell {c : Nat} {A B : World} (h : Mid c A B) {p : Addr} (h1 : c ≤ p.block) (h2 : p.block < A.heap.size) : B.cell? p = A.cell? p :=
  World.cell?_of_block (w := A) (h.block _ h1 h2)
theorem Mid.frozen {c : Nat} {A B : World} (h : Mid c A B) {p : Addr} (h1 : c ≤ p.block) (h2 : p.block < A.heap.size) : B.frozen? p = A.frozen? p :=
  World.frozen?_of_block (w := A) (h.block _ h1 h2)
theorem Mid.but {c : Nat} {A B : World} (h : Mid c A B) (l : Nat) : MidBut c l A B := ⟨h.size, fun i hi hA _ => h.block i hi hA⟩
theorem MidBut.trans {c l : Nat} {A B C : World} (h : MidBut c l A B) (k : MidBut c l B C) : MidBut c l A C :=
  ⟨Nat.le_trans h.size k.size, fun i hi hA hl => (k.block i hi (Nat.lt_of_lt_of_le hA h.size) hl).trans (h.block i hi hA hl)⟩
theorem MidBut.put {c l : Nat} {A B : World} (h : MidBut c l A B) (o : Obj) : MidBut c l A (B.putObj l o) :=
  ⟨by simpa using h.size, fun i hi hA hl => (World.putObj_heap_other hl).trans (h.block i hi hA hl)⟩
theorem MidBut.cell {c l : Nat} {A B : World} (h : MidBut c l A B) {p : Addr} (h1 : c ≤ p.block) (h2 : p.block < A.heap.size) (h3 : p.block ≠ l) : B.cell? p = A.cell? p :=
  World.cell?_of_block (w := A) (h.block _ h1 h2 h3)
theorem MidBut.frozen {c l : Nat} {A B : World} (h : MidBut c l A B) {p : Addr} (h1 : c ≤ p.block) (h2 : p.block < A.heap.size) (h3 : p.block ≠ l) : B.frozen? p = A.frozen? p :=
  World.frozen?_of_block (w := A) (h.block _ h1 h2 h3)
/-- J speaks of blocks below B alone. -/
def Up {β : Type} (B : Nat) (J : β → World → Prop) : Prop := ∀ s A C, J s A → Below B A C → J s C
theorem Up.mono {β : Type} {B B' : Nat} {J : β → World → Prop} (h : Up B J) (hB : B ≤ B') : Up B' J := fun s A C hs hb => h s A C hs (hb.mono hB)
theorem Up.and {β : Type} {B : Nat} {J K : β → World → Prop} (h : Up B J) (k : Up B K) : Up B (fun s W => J s W ∧ K s W) := fun s A C hs hb => ⟨h s A C hs.1 hb, k s A C hs.2 hb⟩
theorem Up.below {β : Type} {B n : Nat} {w : World} (hn : n ≤ B) : Up B (fun (_ : β) W => Below n w W) := fun _ _ _ hs hb => hs.trans (hb.mono hn)
theorem Up.cell {β : Type} {B b o : Nat} {f : β → Value} (hn : b < B) : Up B (fun s W => W.cell? ⟨b, o, none⟩ = some (f s)) := fun _ _ _ hs hb => (hb.cell (p := ⟨b, o, none⟩) hn).trans hs
theorem Up.frozen {β : Type} {B b o : Nat} {v : Bool} (hn : b < B) : Up B (fun (_ : β) W => W.frozen? ⟨b, o, none⟩ = v) := fun _ _ _ hs hb => (hb.frozen (p := ⟨b, o, none⟩) hn).trans hs
/-- A call of yield, whatever room there is. -/
def YieldW (P : Program) (l : Nat) (args : Array Value) (W : World) (R : Ending → World → Prop) : Prop :=
  ∃ fn tmps assign body, (Instr.yield l args).run P W = .ok (.round l fn tmps assign body) W ∧ ∀ m, RoundIn Fence.wide m P l fn tmps assign body W R
theorem YieldW.mono {P : Program} {l : Nat} {args : Array Value} {W : World} {R R' : Ending → World → Prop} (h : YieldW P l args W R) (hr : ∀ e w, R e w → R' e w) : YieldW P l args W R' := by
  obtain ⟨fn, tmps, assign, body, hy, hR⟩ := h; exact ⟨fn, tmps, assign, body, hy, fun m => (hR m).mono hr⟩
/-- no operation is a defer -/
def noDefer (ops : Array Oper) : Bool := ops.toList.all fun o => match o.op with
  | .defer _ => false
  | _ => true
theorem noDefer_at {ops : Array Oper} (h : noDefer ops = true) {i : Nat} {o : Oper} (ho : ops[i]? = some o) : ∀ c, o.op ≠ .defer c := by
  intro c e
  unfold noDefer at h
  rw [List.all_eq_true] at h
  have hm : o ∈ ops.toList := by
    have := Array.mem_of_getElem? ho
    simpa using this
  have := h o hm; rw [e] at this
  cases this
theorem opIn_of_op {P : Program} {l n : Nat} {o : Oper} {a : Act} {w : World} {next next' : Act → World → Prop} {Q : Exit → Act → World → Prop}
    (hs : ∀ c, o.op ≠ .defer c) (hn : ∀ a w, next a w → next' a w) (h : o.wp P a w next Q) : o.wpIn (Fence.wide.inRound l) n P a w next' Q := by
  unfold Oper.wp at h
  refine ⟨fun _ _ => trivial, ?_⟩; rw [Oper.semAt_eq _ _ _ hs]
  generalize (execOp a.eval o).run P w = r at *
  unfold Oper.upon at h
  unfold Oper.uponIn
  split at h
  · exact hn _ _ h
  · exact hn _ _ h
  · exact hn _ _ h
  · refine ⟨fun e => by simp [Fence.wide, Fence.inRound] at e, ?_⟩
    refine CallsIn.inRound l (callsIn_wide.2 (Calls.mono h ?_))
    intro e w'' he
    cases e with
    | returned v => exact hn _ _ he
    | panicked c => exact he
    | outgrown => exact he
  · refine ⟨fun e => by simp [Fence.wide, Fence.inRound] at e, ?_⟩
    have hr : RowsIn Fence.wide (n - 1) P _ _ _ _ := fun c cs _ => by
      obtain ⟨v, w', hv, hst⟩ := h c cs; exact ⟨v, w', hn _ _ hv, stepsIn_wide.2 hst⟩
    exact hr
  · exact h
  · exact h.elim
theorem opsIn_of_ops {P : Program} {l n : Nat} {ops : Array Oper} {Q : Exit → Act → World → Prop} (hd : noDefer ops = true) (hL : ¬ LetsOut Q) :
    ∀ (is : List Nat) (a : Act) (w : World), wpOps P ops Q is a w → wpOpsIn (Fence.wide.inRound l) n P ops Q is a w := by
  intro is
  induction is with
  | nil => intro a w h; exact h
  | cons i is ih =>
    intro a w h
    unfold wpOps at h
    unfold wpOpsIn
    cases ho : ops[i]? with
    | none => rw [ho] at h; exact ih _ _ h
    | some o =>
      rw [ho] at h; simp only at h ⊢
      split
      · rename_i hw
        rw [if_pos hw] at h
        rcases h with h | ⟨_, h⟩
        · exact opIn_of_op (noDefer_at hd ho) (fun a w h => ih a w h) h
        · exact absurd h hL
      · rename_i hw
        rw [if_neg hw] at h; exact ⟨fun _ _ => trivial, ih _ _ h⟩
variable {P : Program} {ops : Array Oper} {Q : Exit → Act → World → Prop} {S : World → Prop}
theorem wpIn_region_any {l n id : Nat} {a : Act} {w : World} (hd : noDefer ops = true) (hL : ¬ LetsOut Q) (hm : P.follows .mixedOrders = true)
    (h : wpAny P .any ops Q ops.size (Array.replicate ops.size false) a w.drew) : (Code.region id ops true).wpIn (Fence.wide.inRound l) n P Q a w :=
  wpIn_region_draw fun t => opsIn_of_ops hd hL _ _ _ (by
    simp only [Region.schedule, hm, Bool.true_or, if_true]; exact wpAny_sound ops.size t _ a _ h)
end Go.Proofs.YtkhmcofmjjmjhaaDoor
