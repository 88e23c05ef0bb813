/- A statement that draws its order, in a round: what is shown of it outside rounds serves. Without conditions of its own. -/
import Derived.RangeFuncNested
import Derived.RangeFuncBound
import Derived.RangeFuncCalls
import Derived.RangeFuncLeaves
import Derived.WalkKit
import Derived.Deep.RegionHeld
namespace Go.Proofs.YtkhmcofmjjmjhaaDoor
set_option linter.unusedSimpArgs false
set_option linter.unusedVariables false
open Go Go.RowKit

/-- From block c on all that lay there lies as it lay. -/
structure Mid (c : Nat) (W V : World) : Prop where
  size : W.heap.size ≤ V.heap.size
  block : ∀ k, c ≤ k → k < W.heap.size → V.heap[k]? = W.heap[k]?

/-- The same, but for one block. -/
structure MidBut (c l : Nat) (W V : World) : Prop where
  size : W.heap.size ≤ V.heap.size
  block : ∀ k, c ≤ k → k < W.heap.size → k ≠ l → V.heap[k]? = W.heap[k]?

theorem Mid.refl (c : Nat) (W : World) : Mid c W W := ⟨Nat.le_refl _, fun _ _ _ => rfl⟩
theorem Mid.trans {c : Nat} {A B C : World} (h : Mid c A B) (k : Mid c B C) : Mid c A C :=
  ⟨Nat.le_trans h.size k.size, fun i hi hA => (k.block i hi (Nat.lt_of_lt_of_le hA h.size)).trans (h.block i hi hA)⟩
theorem Mid.mono {c c' : Nat} {A B : World} (h : Mid c A B) (hc : c ≤ c') : Mid c' A B := ⟨h.size, fun i hi hA => h.block i (Nat.le_trans hc hi) hA⟩
theorem Mid.of_below {c : Nat} {A B : World} (h : Below A.heap.size A B) : Mid c A B := ⟨h.size, fun i _ hA => h.block i hA⟩
theorem Mid.alloc {c : Nat} {A B : World} (h : Mid c A B) (o : Obj) : Mid c A (B.alloc o) :=
  h.trans ⟨by simp, fun i _ hB => Below.heap_alloc _ _ _ hB⟩
theorem Mid.below {c : Nat} {A B C : World} (h : Mid c A B) (k : Below B.heap.size B C) : Mid c A C := h.trans (.of_below k)
theorem Mid.set {c : Nat} {A B : World} (h : Mid c A B) (b o : Nat) (u : Value) (hb : b < c ∨ A.heap.size ≤ b) : Mid c A (B.setCell ⟨b, o, none⟩ u) :=
  ⟨by simpa [World.setCell] using h.size, fun i hi hA => (Below.heap_setCell _ _ _ _ (by show i ≠ b; omega)).trans (h.block i hi hA)⟩
theorem Mid.cell {c : Nat} {A B : World} (h : Mid c A B) {p : Addr} (h1 : c ≤ p.block) (h2 : p.block < A.heap.size) : B.cell? p = A.cell? p :=
  World.cell?_of_block (w := A) (h.block _ h1 h2)
theorem Mid.frozen {c : Nat} {A B : World} (h : Mid c A B) {p : Addr} (h1 : c ≤ p.block) (h2 : p.block < A.heap.size) : B.frozen? p = A.frozen? p :=
  World.frozen?_of_block (w := A) (h.block _ h1 h2)
theorem Mid.but {c : Nat} {A B : World} (h : Mid c A B) (l : Nat) : MidBut c l A B := ⟨h.size, fun i hi hA _ => h.block i hi hA⟩
theorem MidBut.trans {c l : Nat} {A B C : World} (h : MidBut c l A B) (k : MidBut c l B C) : MidBut c l A C :=
  ⟨Nat.le_trans h.size k.size, fun i hi hA hl => (k.block i hi (Nat.lt_of_lt_of_le hA h.size) hl).trans (h.block i hi hA hl)⟩
theorem MidBut.put {c l : Nat} {A B : World} (h : MidBut c l A B) (o : Obj) : MidBut c l A (B.putObj l o) :=
  ⟨by simpa using h.size, fun i hi hA hl => (World.putObj_heap_other hl).trans (h.block i hi hA hl)⟩
theorem MidBut.mid {c c' l : Nat} {A B : World} (h : MidBut c l A B) (hl : l < c') (hc : c ≤ c') : Mid c' A B :=
  ⟨h.size, fun i hi hA => h.block i (Nat.le_trans hc hi) hA (by omega)⟩
theorem MidBut.cell {c l : Nat} {A B : World} (h : MidBut c l A B) {p : Addr} (h1 : c ≤ p.block) (h2 : p.block < A.heap.size) (h3 : p.block ≠ l) : B.cell? p = A.cell? p :=
  World.cell?_of_block (w := A) (h.block _ h1 h2 h3)
theorem MidBut.frozen {c l : Nat} {A B : World} (h : MidBut c l A B) {p : Addr} (h1 : c ≤ p.block) (h2 : p.block < A.heap.size) (h3 : p.block ≠ l) : B.frozen? p = A.frozen? p :=
  World.frozen?_of_block (w := A) (h.block _ h1 h2 h3)

/-- J speaks of blocks below B alone. -/
def Up {β : Type} (B : Nat) (J : β → World → Prop) : Prop := ∀ s A C, J s A → Below B A C → J s C

theorem Up.mono {β : Type} {B B' : Nat} {J : β → World → Prop} (h : Up B J) (hB : B ≤ B') : Up B' J := fun s A C hs hb => h s A C hs (hb.mono hB)
theorem Up.and {β : Type} {B : Nat} {J K : β → World → Prop} (h : Up B J) (k : Up B K) : Up B (fun s W => J s W ∧ K s W) := fun s A C hs hb => ⟨h s A C hs.1 hb, k s A C hs.2 hb⟩
theorem Up.pure {β : Type} (B : Nat) (p : β → Prop) : Up B (fun s _ => p s) := fun _ _ _ hs _ => hs
theorem Up.below {β : Type} {B n : Nat} {w : World} (hn : n ≤ B) : Up B (fun (_ : β) W => Below n w W) := fun _ _ _ hs hb => hs.trans (hb.mono hn)
theorem Up.cell {β : Type} {B b o : Nat} {f : β → Value} (hn : b < B) : Up B (fun s W => W.cell? ⟨b, o, none⟩ = some (f s)) := fun _ _ _ hs hb => (hb.cell (p := ⟨b, o, none⟩) hn).trans hs
theorem Up.frozen {β : Type} {B b o : Nat} {v : Bool} (hn : b < B) : Up B (fun (_ : β) W => W.frozen? ⟨b, o, none⟩ = v) := fun _ _ _ hs hb => (hb.frozen (p := ⟨b, o, none⟩) hn).trans hs

/-- A call of yield, whatever room there is. -/
def YieldW (P : Program) (l : Nat) (args : Array Value) (W : World) (R : Ending → World → Prop) : Prop :=
  ∃ fn tmps assign body, (Instr.yield l args).run P W = .ok (.round l fn tmps assign body) W ∧ ∀ m, RoundIn Fence.wide m P l fn tmps assign body W R

theorem YieldW.mono {P : Program} {l : Nat} {args : Array Value} {W : World} {R R' : Ending → World → Prop} (h : YieldW P l args W R) (hr : ∀ e w, R e w → R' e w) : YieldW P l args W R' := by
  obtain ⟨fn, tmps, assign, body, hy, hR⟩ := h
  exact ⟨fn, tmps, assign, body, hy, fun m => (hR m).mono hr⟩

/-- The contract of an iterator that gives xs one after another: what is said of the blocks below the heap's size at its call, rounds may turn; what lies from c on a round keeps, but for the loop's record. -/
def SeqM {α : Type} (P : Program) (g : Nat) (lb : Array Value) (encs : α → Array Value) (c : Nat) (xs : List α) (w : World) : Prop :=
  ∀ (l : Nat) (J Jx : List α → World → Prop) (W : World), Below w.heap.size w W → w.heap.size ≤ l → l < W.heap.size → Up W.heap.size J → Up W.heap.size Jx →
    (∀ pre x V, J pre V → W.heap.size ≤ V.heap.size → pre ++ [x] <+: xs → YieldW P l (encs x) V fun e V' =>
      (e = .returned (.bool true) ∧ J (pre ++ [x]) V' ∧ MidBut c l V V') ∨ (e = .returned (.bool false) ∧ Jx (pre ++ [x]) V')) →
    J [] W →
    Calls P g (#[.func (.yield l) #[] #[]] ++ lb) W fun e W' => (∃ v, e = .returned v) ∧ (J xs W' ∨ ∃ pre x, pre ++ [x] <+: xs ∧ Jx (pre ++ [x]) W')

/-- How a round's body may be left. -/
def postM {α : Type} (c : Nat) (I : List α → World → Prop) (Ix : Code → List α → World → Prop) (xs : List α) (W : World) : Exit → Act → World → Prop
  | .normal, _, V => Mid c W V ∧ I xs V
  | .ret, _, V => Mid c W V ∧ Ix .ret xs V
  | .exit id, _, V => Mid c W V ∧ Ix (.exit id) xs V
  | .goto t, _, V => Mid c W V ∧ Ix (.goto t) xs V
  | .panic _, _, _ => False
  | .outgrown, _, _ => False

/-- The statement 'for .. := range g' over such an iterator, outside rounds. -/
theorem wpIn_rangeM {P : Program} {n : Nat} {α : Type} {g : Operand} {ps : Array Tmp} {assign body : Code} {Q : Exit → Act → World → Prop} {a : Act} {w : World}
    {gf : Nat} {lb : Array Value} (hg : a.eval g = .func (.func gf) #[] lb) (eg : ∀ args w, (callFunc gf args).run P w = .ok (.enter gf args) w)
    {encs : α → Array Value} {c : Nat} {xs : List α} {w0 : World} (hseq : SeqM P gf lb encs c xs w0) (hb0 : Below w0.heap.size w0 w) (hc : c ≤ w.heap.size) (hps : ∀ x, (encs x).size = ps.size)
    (I : List α → World → Prop) (Ix : Code → List α → World → Prop) (hI : Up w.heap.size I) (hIx : ∀ j, Up w.heap.size (Ix j)) (h0 : I [] w)
    (Ax : α → Act → World → Prop) (hAx : ∀ x a' W l o o', w.heap.size ≤ l → W.heap[l]? = some (.loop o) → Ax x a' W → Ax x a' (W.putObj l o'))
    (hassign : ∀ (l : Nat) (pre : List α) (x : α) (W : World) (K : Act → World → Prop), I pre W → w.heap.size ≤ W.heap.size → (∀ a' W', Mid c W W' → I pre W' → Ax x a' W' → K a' W') →
      assign.wpIn (Fence.wide.inRound l) n P (Exit.then K (fun _ _ _ => False)) { tmps := (ps.zip (encs x)).foldl (fun t (p, v) => t.setIfInBounds p v) a.tmps, defers := [] } W)
    (hbody : ∀ (l : Nat) (pre : List α) (x : α) (a' : Act) (W : World), w.heap.size ≤ W.heap.size → I pre W → Ax x a' W → pre ++ [x] <+: xs → body.wpIn (Fence.wide.inRound l) n P (postM c I Ix (pre ++ [x]) W) a' W)
    (hdone : ∀ (D : Nat) (W : World), w.heap.size ≤ D → I xs W → W.heap[D]? = some (.deferred (some [])) → Q .normal { a with defers := { target := .collected D, args := #[] } :: a.defers } W)
    (hstop : ∀ (D : Nat) (j : Code) (pre : List α) (x : α) (W : World), w.heap.size ≤ D → pre ++ [x] <+: xs → Ix j (pre ++ [x]) W → W.heap[D]? = some (.deferred (some [])) → j.wpIn Fence.wide n P Q { a with defers := { target := .collected D, args := #[] } :: a.defers } W) :
    (Code.rangeFunc g ps assign body).wpIn Fence.wide n P Q a w := by
  refine wpIn_rangeFunc ?_
  intro fn _
  obtain ⟨rec, hrec⟩ : ∃ rec : LoopState → Option Code → Loop, rec = fun st pe => { state := st, pending := pe, fn, tmps := a.tmps, params := ps, assign, body, defers := w.heap.size } := ⟨_, rfl⟩
  obtain ⟨W1, hW1⟩ : ∃ W1, (w.alloc (.deferred (some []))).alloc (.loop (rec .ready none)) = W1 := ⟨_, rfl⟩
  have hz1 : W1.heap.size = w.heap.size + 1 + 1 := by rw [← hW1]; simp
  have hL1 : W1.heap[w.heap.size + 1]? = some (.loop (rec .ready none)) := by
    rw [← hW1]; have h := World.alloc_heap_new (w.alloc (.deferred (some []))) (.loop (rec .ready none)); rwa [World.size_alloc] at h
  have hD1 : W1.heap[w.heap.size]? = some (.deferred (some [])) := by
    rw [← hW1]; exact (Below.heap_alloc _ _ _ (by simp)).trans (World.alloc_heap_new w _)
  have hbw : Below w.heap.size w W1 := by rw [← hW1]; exact ((Below.refl _ w).alloc (Nat.le_refl _) _).alloc (by simp) _
  have up : ∀ {β : Type} {J : β → World → Prop} {s : β} {V : World} (o : Obj), Up w.heap.size J → J s V → (w.heap.size + 1) < V.heap.size → J s (V.putObj (w.heap.size + 1) o) := fun o h hs _ =>
    h _ _ _ hs ((Below.refl _ _).grown (grownBy_putObj' _ _ o) (by omega) (fun k e => by cases e; omega))
  refine ⟨w.heap.size + 1, [{ target := .collected w.heap.size, args := #[] }], W1, { target := .fn (.func gf) lb, args := #[.func (.yield (w.heap.size + 1)) #[] #[]] }, W1, gf,
    #[.func (.yield (w.heap.size + 1)) #[] #[]] ++ lb, W1, ?_, ?_, ?_, ?_, ?_, ?_⟩
  · rw [← hW1, hrec]; exact run_enterLoop_outer _ _ _ _ _
  · simp only [resolve, hg]
    simp [go_sem]
  · intro f' _; trivial
  · simp [invoke, go_sem, eg]
  · intro h; simp [Fence.wide] at h
  · refine callsIn_wide.2 ?_
    refine (hseq (w.heap.size + 1)
      (fun pre W => I pre W ∧ W.heap[w.heap.size + 1]? = some (.loop (rec .ready none)) ∧ W.heap[w.heap.size]? = some (.deferred (some [])))
      (fun pre W => ∃ j, Ix j pre W ∧ W.heap[w.heap.size + 1]? = some (.loop (rec .done (some j))) ∧ W.heap[w.heap.size]? = some (.deferred (some [])))
      W1 (hb0.trans (hbw.mono hb0.size)) (Nat.le_trans hb0.size (by omega)) (by omega)
      (fun s A C hs hb => ⟨(hI.mono (by omega)) s A C hs.1 hb, (hb.block _ (by omega)).trans hs.2.1, (hb.block _ (by omega)).trans hs.2.2⟩)
      (fun s A C hs hb => by
        obtain ⟨j, hj, hl, hd⟩ := hs
        exact ⟨j, ((hIx j).mono (by omega)) s A C hj hb, (hb.block _ (by omega)).trans hl, (hb.block _ (by omega)).trans hd⟩)
      ?_ ⟨hI _ _ _ h0 hbw, hL1, hD1⟩).mono ?_
    · rintro pre x V ⟨hi, hl, hd⟩ hsz hpre
      have hy := run_yield (P := P) (args := encs x) hl (by rw [hrec]; exact hps x)
      rw [hrec] at hy
      refine ⟨fn, _, assign, body, hy, fun m => roundIn_of_wpIn (n := m) trivial ?_⟩
      have hwide : ∀ {cd : Code} {F : Fence} {m m' : Nat} {Q : Exit → Act → World → Prop} {a : Act} {w : World}, F.depth = none → cd.wpIn F m P Q a w → cd.wpIn F m' P Q a w := by
        intro cd F m m' Q a w hd h b k cs h1 h2 _
        exact h b k cs h1 h2 (fun d e => by rw [hd] at e; cases e)
      refine hwide (m := n) rfl (hassign _ pre x V _ hi (by omega) ?_)
      intro a' Wa hm hia hax
      have hla := (hm.block (w.heap.size + 1) (by omega) (by omega)).trans hl
      have hda := (hm.block w.heap.size (by omega) (by omega)).trans hd
      have hsa := hm.size
      refine ⟨_, run_beginRound hla (by rw [hrec]), ?_⟩
      refine hwide (m := n) rfl (wpIn_mono (hbody _ pre x a' _ (by simp; omega) (up _ hI hia (by omega)) (hAx _ _ _ _ _ _ (by omega) hla hax) hpre) ?_)
      have fin : ∀ (jump : Option Code) (W3 : World), Mid c (Wa.putObj (w.heap.size + 1) (.loop { rec .ready none with state := .busy })) W3 →
          (Instr.endRound (w.heap.size + 1) jump).run P W3 = .ok (.bool jump.isNone) (W3.putObj (w.heap.size + 1) (.loop (rec (if jump.isNone then .ready else .done) jump))) ∧
          w.heap.size + 1 < W3.heap.size ∧
          (W3.putObj (w.heap.size + 1) (.loop (rec (if jump.isNone then .ready else .done) jump))).heap[w.heap.size + 1]? = some (.loop (rec (if jump.isNone then .ready else .done) jump)) ∧
          (W3.putObj (w.heap.size + 1) (.loop (rec (if jump.isNone then .ready else .done) jump))).heap[w.heap.size]? = some (.deferred (some [])) ∧
          MidBut c (w.heap.size + 1) V (W3.putObj (w.heap.size + 1) (.loop (rec (if jump.isNone then .ready else .done) jump))) := by
        intro jump W3 h3
        have h3s := h3.size
        simp only [World.putObj_size] at h3s
        have hl3 := (h3.block (w.heap.size + 1) (by omega) (by simp; omega)).trans (World.putObj_heap_same (by omega))
        have hd3 := (h3.block w.heap.size (by omega) (by simp; omega)).trans ((World.putObj_heap_other (by omega)).trans hda)
        have hr := run_endRound (P := P) jump hl3
        rw [hrec] at hr ⊢
        exact ⟨hr, by omega, World.putObj_heap_same (by omega), (World.putObj_heap_other (by omega)).trans hd3, (((hm.but _).put _).trans (h3.but _)).put _⟩
      rintro e a3 W3 hp
      cases e with
      | normal =>
        obtain ⟨h3, hi3⟩ := hp
        obtain ⟨hr, hz, hl4, hd4, hk4⟩ := fin none W3 h3
        exact ⟨_, _, hr, .inl ⟨rfl, ⟨up _ hI hi3 hz, hl4, hd4⟩, hk4⟩⟩
      | ret =>
        obtain ⟨h3, hi3⟩ := hp
        obtain ⟨hr, hz, hl4, hd4, _⟩ := fin (some .ret) W3 h3
        exact ⟨_, _, hr, .inr ⟨rfl, .ret, up _ (hIx _) hi3 hz, hl4, hd4⟩⟩
      | exit id =>
        obtain ⟨h3, hi3⟩ := hp
        obtain ⟨hr, hz, hl4, hd4, _⟩ := fin (some (.exit id)) W3 h3
        exact ⟨_, _, hr, .inr ⟨rfl, .exit id, up _ (hIx _) hi3 hz, hl4, hd4⟩⟩
      | goto t =>
        obtain ⟨h3, hi3⟩ := hp
        obtain ⟨hr, hz, hl4, hd4, _⟩ := fin (some (.goto t)) W3 h3
        exact ⟨_, _, hr, .inr ⟨rfl, .goto t, up _ (hIx _) hi3 hz, hl4, hd4⟩⟩
      | panic ch => exact hp.elim
      | outgrown => exact hp.elim
    · rintro e W2 ⟨⟨v, rfl⟩, (⟨hi, hl, hd⟩ | ⟨pre, x, hpre, j, hi, hl, hd⟩)⟩
      · refine ⟨none, _, by have h := run_endLoop (P := P) hl (by rw [hrec]; simp); rw [hrec] at h; exact h, ?_⟩
        exact hdone _ _ (Nat.le_refl _) (up _ hI hi (Array.getElem?_eq_some_iff.1 hl).1) ((World.putObj_heap_other (by omega)).trans hd)
      · refine ⟨some j, _, by have h := run_endLoop (P := P) hl (by rw [hrec]; simp); rw [hrec] at h; exact h, ?_⟩
        exact hstop _ j pre x _ (Nat.le_refl _) hpre (up _ (hIx j) hi (Array.getElem?_eq_some_iff.1 hl).1) ((World.putObj_heap_other (by omega)).trans hd)

/-- The contract, where rounds leave Inv be, of an iterator that gives xs one after another: what is said of the blocks below the heap's size at its call, rounds may turn; what lies from c on a round keeps, but for the loop's record. -/
def SeqI {α : Type} (P : Program) (g : Nat) (lb : Array Value) (encs : α → Array Value) (c : Nat) (Inv : World → Prop) (xs : List α) (w : World) : Prop :=
  ∀ (l : Nat) (J Jx : List α → World → Prop) (W : World), Below w.heap.size w W → w.heap.size ≤ l → l < W.heap.size → Up W.heap.size J → Up W.heap.size Jx → (∀ pre V, J pre V → Inv V) →
    (∀ pre x V, J pre V → W.heap.size ≤ V.heap.size → pre ++ [x] <+: xs → YieldW P l (encs x) V fun e V' =>
      (e = .returned (.bool true) ∧ J (pre ++ [x]) V' ∧ MidBut c l V V') ∨ (e = .returned (.bool false) ∧ Jx (pre ++ [x]) V' ∧ MidBut c l V V')) →
    J [] W →
    Calls P g (#[.func (.yield l) #[] #[]] ++ lb) W fun e W' => (∃ v, e = .returned v) ∧ (J xs W' ∨ ∃ pre x, pre ++ [x] <+: xs ∧ Jx (pre ++ [x]) W')

/-- The statement 'for .. := range g' over such an iterator, outside rounds. -/
theorem wpIn_rangeI {P : Program} {n : Nat} {α : Type} {g : Operand} {ps : Array Tmp} {assign body : Code} {Q : Exit → Act → World → Prop} {a : Act} {w : World}
    {gf : Nat} {lb : Array Value} (hg : a.eval g = .func (.func gf) #[] lb) (eg : ∀ args w, (callFunc gf args).run P w = .ok (.enter gf args) w)
    {encs : α → Array Value} {c : Nat} {xs : List α} {w0 : World} {Inv : World → Prop} (hseq : SeqI P gf lb encs c Inv xs w0) (hb0 : Below w0.heap.size w0 w) (hc : c ≤ w.heap.size) (hps : ∀ x, (encs x).size = ps.size)
    (I : List α → World → Prop) (Ix : Code → List α → World → Prop) (hI : Up w.heap.size I) (hIx : ∀ j, Up w.heap.size (Ix j)) (h0 : I [] w) (hInv : ∀ pre V, I pre V → Inv V)
    (Ax : α → Act → World → Prop) (hAx : ∀ x a' W l o o', w.heap.size ≤ l → W.heap[l]? = some (.loop o) → Ax x a' W → Ax x a' (W.putObj l o'))
    (hassign : ∀ (l : Nat) (pre : List α) (x : α) (W : World) (K : Act → World → Prop), I pre W → w.heap.size ≤ W.heap.size → (∀ a' W', Mid c W W' → I pre W' → Ax x a' W' → K a' W') →
      assign.wpIn (Fence.wide.inRound l) n P (Exit.then K (fun _ _ _ => False)) { tmps := (ps.zip (encs x)).foldl (fun t (p, v) => t.setIfInBounds p v) a.tmps, defers := [] } W)
    (hbody : ∀ (l : Nat) (pre : List α) (x : α) (a' : Act) (W : World), w.heap.size ≤ W.heap.size → I pre W → Ax x a' W → pre ++ [x] <+: xs → body.wpIn (Fence.wide.inRound l) n P (postM c I Ix (pre ++ [x]) W) a' W)
    (hdone : ∀ (D : Nat) (W : World), w.heap.size ≤ D → I xs W → W.heap[D]? = some (.deferred (some [])) → Q .normal { a with defers := { target := .collected D, args := #[] } :: a.defers } W)
    (hstop : ∀ (D : Nat) (j : Code) (pre : List α) (x : α) (W : World), w.heap.size ≤ D → pre ++ [x] <+: xs → Ix j (pre ++ [x]) W → W.heap[D]? = some (.deferred (some [])) → j.wpIn Fence.wide n P Q { a with defers := { target := .collected D, args := #[] } :: a.defers } W) :
    (Code.rangeFunc g ps assign body).wpIn Fence.wide n P Q a w := by
  refine wpIn_rangeFunc ?_
  intro fn _
  obtain ⟨rec, hrec⟩ : ∃ rec : LoopState → Option Code → Loop, rec = fun st pe => { state := st, pending := pe, fn, tmps := a.tmps, params := ps, assign, body, defers := w.heap.size } := ⟨_, rfl⟩
  obtain ⟨W1, hW1⟩ : ∃ W1, (w.alloc (.deferred (some []))).alloc (.loop (rec .ready none)) = W1 := ⟨_, rfl⟩
  have hz1 : W1.heap.size = w.heap.size + 1 + 1 := by rw [← hW1]; simp
  have hL1 : W1.heap[w.heap.size + 1]? = some (.loop (rec .ready none)) := by
    rw [← hW1]; have h := World.alloc_heap_new (w.alloc (.deferred (some []))) (.loop (rec .ready none)); rwa [World.size_alloc] at h
  have hD1 : W1.heap[w.heap.size]? = some (.deferred (some [])) := by
    rw [← hW1]; exact (Below.heap_alloc _ _ _ (by simp)).trans (World.alloc_heap_new w _)
  have hbw : Below w.heap.size w W1 := by rw [← hW1]; exact ((Below.refl _ w).alloc (Nat.le_refl _) _).alloc (by simp) _
  have up : ∀ {β : Type} {J : β → World → Prop} {s : β} {V : World} (o : Obj), Up w.heap.size J → J s V → (w.heap.size + 1) < V.heap.size → J s (V.putObj (w.heap.size + 1) o) := fun o h hs _ =>
    h _ _ _ hs ((Below.refl _ _).grown (grownBy_putObj' _ _ o) (by omega) (fun k e => by cases e; omega))
  refine ⟨w.heap.size + 1, [{ target := .collected w.heap.size, args := #[] }], W1, { target := .fn (.func gf) lb, args := #[.func (.yield (w.heap.size + 1)) #[] #[]] }, W1, gf,
    #[.func (.yield (w.heap.size + 1)) #[] #[]] ++ lb, W1, ?_, ?_, ?_, ?_, ?_, ?_⟩
  · rw [← hW1, hrec]; exact run_enterLoop_outer _ _ _ _ _
  · simp only [resolve, hg]
    simp [go_sem]
  · intro f' _; trivial
  · simp [invoke, go_sem, eg]
  · intro h; simp [Fence.wide] at h
  · refine callsIn_wide.2 ?_
    refine (hseq (w.heap.size + 1)
      (fun pre W => I pre W ∧ W.heap[w.heap.size + 1]? = some (.loop (rec .ready none)) ∧ W.heap[w.heap.size]? = some (.deferred (some [])))
      (fun pre W => ∃ j, Ix j pre W ∧ W.heap[w.heap.size + 1]? = some (.loop (rec .done (some j))) ∧ W.heap[w.heap.size]? = some (.deferred (some [])))
      W1 (hb0.trans (hbw.mono hb0.size)) (Nat.le_trans hb0.size (by omega)) (by omega)
      (fun s A C hs hb => ⟨(hI.mono (by omega)) s A C hs.1 hb, (hb.block _ (by omega)).trans hs.2.1, (hb.block _ (by omega)).trans hs.2.2⟩)
      (fun s A C hs hb => by
        obtain ⟨j, hj, hl, hd⟩ := hs
        exact ⟨j, ((hIx j).mono (by omega)) s A C hj hb, (hb.block _ (by omega)).trans hl, (hb.block _ (by omega)).trans hd⟩)
      (fun pre V h => hInv pre V h.1) ?_ ⟨hI _ _ _ h0 hbw, hL1, hD1⟩).mono ?_
    · rintro pre x V ⟨hi, hl, hd⟩ hsz hpre
      have hy := run_yield (P := P) (args := encs x) hl (by rw [hrec]; exact hps x)
      rw [hrec] at hy
      refine ⟨fn, _, assign, body, hy, fun m => roundIn_of_wpIn (n := m) trivial ?_⟩
      have hwide : ∀ {cd : Code} {F : Fence} {m m' : Nat} {Q : Exit → Act → World → Prop} {a : Act} {w : World}, F.depth = none → cd.wpIn F m P Q a w → cd.wpIn F m' P Q a w := by
        intro cd F m m' Q a w hd h b k cs h1 h2 _
        exact h b k cs h1 h2 (fun d e => by rw [hd] at e; cases e)
      refine hwide (m := n) rfl (hassign _ pre x V _ hi (by omega) ?_)
      intro a' Wa hm hia hax
      have hla := (hm.block (w.heap.size + 1) (by omega) (by omega)).trans hl
      have hda := (hm.block w.heap.size (by omega) (by omega)).trans hd
      have hsa := hm.size
      refine ⟨_, run_beginRound hla (by rw [hrec]), ?_⟩
      refine hwide (m := n) rfl (wpIn_mono (hbody _ pre x a' _ (by simp; omega) (up _ hI hia (by omega)) (hAx _ _ _ _ _ _ (by omega) hla hax) hpre) ?_)
      have fin : ∀ (jump : Option Code) (W3 : World), Mid c (Wa.putObj (w.heap.size + 1) (.loop { rec .ready none with state := .busy })) W3 →
          (Instr.endRound (w.heap.size + 1) jump).run P W3 = .ok (.bool jump.isNone) (W3.putObj (w.heap.size + 1) (.loop (rec (if jump.isNone then .ready else .done) jump))) ∧
          w.heap.size + 1 < W3.heap.size ∧
          (W3.putObj (w.heap.size + 1) (.loop (rec (if jump.isNone then .ready else .done) jump))).heap[w.heap.size + 1]? = some (.loop (rec (if jump.isNone then .ready else .done) jump)) ∧
          (W3.putObj (w.heap.size + 1) (.loop (rec (if jump.isNone then .ready else .done) jump))).heap[w.heap.size]? = some (.deferred (some [])) ∧
          MidBut c (w.heap.size + 1) V (W3.putObj (w.heap.size + 1) (.loop (rec (if jump.isNone then .ready else .done) jump))) := by
        intro jump W3 h3
        have h3s := h3.size
        simp only [World.putObj_size] at h3s
        have hl3 := (h3.block (w.heap.size + 1) (by omega) (by simp; omega)).trans (World.putObj_heap_same (by omega))
        have hd3 := (h3.block w.heap.size (by omega) (by simp; omega)).trans ((World.putObj_heap_other (by omega)).trans hda)
        have hr := run_endRound (P := P) jump hl3
        rw [hrec] at hr ⊢
        exact ⟨hr, by omega, World.putObj_heap_same (by omega), (World.putObj_heap_other (by omega)).trans hd3, (((hm.but _).put _).trans (h3.but _)).put _⟩
      rintro e a3 W3 hp
      cases e with
      | normal =>
        obtain ⟨h3, hi3⟩ := hp
        obtain ⟨hr, hz, hl4, hd4, hk4⟩ := fin none W3 h3
        exact ⟨_, _, hr, .inl ⟨rfl, ⟨up _ hI hi3 hz, hl4, hd4⟩, hk4⟩⟩
      | ret =>
        obtain ⟨h3, hi3⟩ := hp
        obtain ⟨hr, hz, hl4, hd4, hk4⟩ := fin (some .ret) W3 h3
        exact ⟨_, _, hr, .inr ⟨rfl, ⟨.ret, up _ (hIx _) hi3 hz, hl4, hd4⟩, hk4⟩⟩
      | exit id =>
        obtain ⟨h3, hi3⟩ := hp
        obtain ⟨hr, hz, hl4, hd4, hk4⟩ := fin (some (.exit id)) W3 h3
        exact ⟨_, _, hr, .inr ⟨rfl, ⟨.exit id, up _ (hIx _) hi3 hz, hl4, hd4⟩, hk4⟩⟩
      | goto t =>
        obtain ⟨h3, hi3⟩ := hp
        obtain ⟨hr, hz, hl4, hd4, hk4⟩ := fin (some (.goto t)) W3 h3
        exact ⟨_, _, hr, .inr ⟨rfl, ⟨.goto t, up _ (hIx _) hi3 hz, hl4, hd4⟩, hk4⟩⟩
      | panic ch => exact hp.elim
      | outgrown => exact hp.elim
    · rintro e W2 ⟨⟨v, rfl⟩, (⟨hi, hl, hd⟩ | ⟨pre, x, hpre, j, hi, hl, hd⟩)⟩
      · refine ⟨none, _, by have h := run_endLoop (P := P) hl (by rw [hrec]; simp); rw [hrec] at h; exact h, ?_⟩
        exact hdone _ _ (Nat.le_refl _) (up _ hI hi (Array.getElem?_eq_some_iff.1 hl).1) ((World.putObj_heap_other (by omega)).trans hd)
      · refine ⟨some j, _, by have h := run_endLoop (P := P) hl (by rw [hrec]; simp); rw [hrec] at h; exact h, ?_⟩
        exact hstop _ j pre x _ (Nat.le_refl _) hpre (up _ (hIx j) hi (Array.getElem?_eq_some_iff.1 hl).1) ((World.putObj_heap_other (by omega)).trans hd)


theorem SeqM.seqI {P : Program} {α : Type} {g : Nat} {lb : Array Value} {encs : α → Array Value} {c : Nat} {xs : List α} {w : World} (Inv : World → Prop) (h : SeqM P g lb encs c xs w) : SeqI P g lb encs c Inv xs w :=
  fun l J Jx W a b d e f _ k m => h l J Jx W a b d e f (fun pre x V p q r => (k pre x V p q r).mono fun _ _ h => h.imp id fun h => ⟨h.1, h.2.1⟩) m

/-- no operation is a defer -/
def noDefer (ops : Array Oper) : Bool := ops.toList.all fun o => match o.op with
  | .defer _ => false
  | _ => true
theorem noDefer_at {ops : Array Oper} (h : noDefer ops = true) {i : Nat} {o : Oper} (ho : ops[i]? = some o) : ∀ c, o.op ≠ .defer c := by
  intro c e
  unfold noDefer at h
  rw [List.all_eq_true] at h
  have hm : o ∈ ops.toList := by
    have := Array.mem_of_getElem? ho
    simpa using this
  have := h o hm
  rw [e] at this
  cases this

theorem opIn_of_op {P : Program} {l n : Nat} {o : Oper} {a : Act} {w : World} {next next' : Act → World → Prop} {Q : Exit → Act → World → Prop}
    (hs : ∀ c, o.op ≠ .defer c) (hn : ∀ a w, next a w → next' a w) (h : o.wp P a w next Q) : o.wpIn (Fence.wide.inRound l) n P a w next' Q := by
  unfold Oper.wp at h
  refine ⟨fun _ _ => trivial, ?_⟩
  rw [Oper.semAt_eq _ _ _ hs]
  generalize (execOp a.eval o).run P w = r at *
  unfold Oper.upon at h
  unfold Oper.uponIn
  split at h
  · exact hn _ _ h
  · exact hn _ _ h
  · exact hn _ _ h
  · refine ⟨fun e => by simp [Fence.wide, Fence.inRound] at e, ?_⟩
    refine CallsIn.inRound l (callsIn_wide.2 (Calls.mono h ?_))
    intro e w'' he
    cases e with
    | returned v => exact hn _ _ he
    | panicked c => exact he
    | outgrown => exact he
  · refine ⟨fun e => by simp [Fence.wide, Fence.inRound] at e, ?_⟩
    have hr : RowsIn Fence.wide (n - 1) P _ _ _ _ := fun c cs _ => by
      obtain ⟨v, w', hv, hst⟩ := h c cs
      exact ⟨v, w', hn _ _ hv, stepsIn_wide.2 hst⟩
    exact hr
  · exact h
  · exact h.elim

theorem opsIn_of_ops {P : Program} {l n : Nat} {ops : Array Oper} {Q : Exit → Act → World → Prop} (hd : noDefer ops = true) (hL : ¬ LetsOut Q) :
    ∀ (is : List Nat) (a : Act) (w : World), wpOps P ops Q is a w → wpOpsIn (Fence.wide.inRound l) n P ops Q is a w := by
  intro is
  induction is with
  | nil => intro a w h; exact h
  | cons i is ih =>
    intro a w h
    unfold wpOps at h
    unfold wpOpsIn
    cases ho : ops[i]? with
    | none => rw [ho] at h; exact ih _ _ h
    | some o =>
      rw [ho] at h
      simp only at h ⊢
      split
      · rename_i hw
        rw [if_pos hw] at h
        rcases h with h | ⟨_, h⟩
        · exact opIn_of_op (noDefer_at hd ho) (fun a w h => ih a w h) h
        · exact absurd h hL
      · rename_i hw
        rw [if_neg hw] at h
        exact ⟨fun _ _ => trivial, ih _ _ h⟩

variable {P : Program} {ops : Array Oper} {Q : Exit → Act → World → Prop} {S : World → Prop}
theorem wpIn_region_any {l n id : Nat} {a : Act} {w : World} (hd : noDefer ops = true) (hL : ¬ LetsOut Q) (hm : P.follows .mixedOrders = true)
    (h : wpAny P .any ops Q ops.size (Array.replicate ops.size false) a w.drew) : (Code.region id ops true).wpIn (Fence.wide.inRound l) n P Q a w :=
  wpIn_region_draw fun t => opsIn_of_ops hd hL _ _ _ (by
    simp only [Region.schedule, hm, Bool.true_or, if_true]
    exact wpAny_sound ops.size t _ a _ h)
theorem wpIn_region_held_drew {l n id : Nat} {a : Act} {w : World} (hd : noDefer ops = true) (hL : ¬ LetsOut Q) (hm : P.follows .mixedOrders = true) (hS : S w.drew)
    (h : S w.drew → wpAnyH P .any ops Q S ops.size (Array.replicate ops.size false) a w.drew) : (Code.region id ops true).wpIn (Fence.wide.inRound l) n P Q a w :=
  wpIn_region_any hd hL hm (wpAny_of_held _ _ _ _ (h hS))
end Go.Proofs.YtkhmcofmjjmjhaaDoor
