/- Ranges over functions, for any element: what is handed over may lie in memory; rounds write blocks of their own alone. Regions and control inside rounds, over frames of which only some slots are told. -/
import Derived.Test.YtkhmcofmjjmjhaaDoorKLF
import Derived.Test.YtkhmcofmjjmjhaaDoorKLJ
import Derived.Scope
namespace Go.Proofs.YtkhmcofmjjmjhaaDoor
set_option linter.unusedSimpArgs false
set_option linter.unusedVariables false
open Go Go.RowKit
/-- all blocks as they were, but those of M -/
structure KeepA (M : Nat → Prop) (V V' : World) : Prop where
  size : V.heap.size ≤ V'.heap.size
  block : ∀ k, k < V.heap.size → ¬ M k → V'.heap[k]? = V.heap[k]?
/-- all blocks as they were, but those of M and the block l -/
structure KeepM (M : Nat → Prop) (l : Nat) (V V' : World) : Prop where
  size : V.heap.size ≤ V'.heap.size
  block : ∀ k, k < V.heap.size → ¬ M k → k ≠ l → V'.heap[k]? = V.heap[k]?
/-- what a block belongs to grows by new blocks alone -/
def Grow (M M' : Nat → Prop) (V : World) : Prop := ∀ k, M' k → M k ∨ V.heap.size ≤ k
theorem Grow.refl (M : Nat → Prop) (V : World) : Grow M M V := fun _ h => .inl h
theorem Grow.trans {M M' M'' : Nat → Prop} {V V' : World} (h : Grow M M' V) (k : Grow M' M'' V') (hs : V.heap.size ≤ V'.heap.size) : Grow M M'' V := fun i hi => by
  rcases k i hi with h1 | h1
  · exact h i h1
  · exact .inr (by omega)
theorem KeepA.refl (M : Nat → Prop) (V : World) : KeepA M V V := ⟨Nat.le_refl _, fun _ _ _ => rfl⟩
theorem KeepA.of_below {M : Nat → Prop} {V V' : World} (h : Below V.heap.size V V') : KeepA M V V' := ⟨h.size, fun k hk _ => h.block k hk⟩
theorem KeepA.trans {M M' : Nat → Prop} {A B C : World} (h : KeepA M A B) (hg : Grow M M' A) (k : KeepA M' B C) : KeepA M A C := ⟨Nat.le_trans h.size k.size, fun i hi hm =>
  (k.block i (Nat.lt_of_lt_of_le hi h.size) (fun h' => by rcases hg i h' with h1 | h1; exact hm h1; omega)).trans (h.block i hi hm)⟩
theorem KeepA.below {M : Nat → Prop} {A B C : World} (h : KeepA M A B) (k : Below B.heap.size B C) : KeepA M A C := h.trans (Grow.refl _ _) (.of_below k)
theorem KeepA.set {M : Nat → Prop} {A B : World} (h : KeepA M A B) (b o : Nat) (u : Value) (hb : M b) : KeepA M A (B.setCell ⟨b, o, none⟩ u) := ⟨by simpa [World.setCell] using h.size, fun i hi hm =>
  (Below.heap_setCell _ _ _ _ (by show i ≠ b; intro e; subst e; exact hm hb)).trans (h.block i hi hm)⟩
theorem KeepM.refl (M : Nat → Prop) (l : Nat) (V : World) : KeepM M l V V := ⟨Nat.le_refl _, fun _ _ _ _ => rfl⟩
theorem KeepM.of_below {M : Nat → Prop} {l : Nat} {V V' : World} (h : Below V.heap.size V V') : KeepM M l V V' := ⟨h.size, fun k hk _ _ => h.block k hk⟩
theorem KeepM.trans {M M' : Nat → Prop} {l : Nat} {A B C : World} (h : KeepM M l A B) (hg : Grow M M' A) (k : KeepM M' l B C) : KeepM M l A C := ⟨Nat.le_trans h.size k.size, fun i hi hm hl =>
  (k.block i (Nat.lt_of_lt_of_le hi h.size) (fun h' => by rcases hg i h' with h1 | h1; exact hm h1; omega) hl).trans (h.block i hi hm hl)⟩
theorem KeepM.below {M : Nat → Prop} {l : Nat} {A B C : World} (h : KeepM M l A B) (k : Below B.heap.size B C) : KeepM M l A C := h.trans (Grow.refl _ _) (.of_below k)
theorem KeepM.cell {M : Nat → Prop} {l : Nat} {A B : World} (h : KeepM M l A B) {b o : Nat} (h1 : b < A.heap.size) (h2 : ¬ M b) (h3 : b ≠ l) : B.cell? ⟨b, o, none⟩ = A.cell? ⟨b, o, none⟩ := World.cell?_of_block (w := A) (h.block _ h1 h2 h3)
/-- a slice's cells in a block that no round writes -/
def ArrS (M : Nat → Prop) (l : Nat) (w : World) (A : Option Addr) (xs : List Value) : Prop :=
  xs ≠ [] → ∃ b o, A = some ⟨b, o, none⟩ ∧ b < w.heap.size ∧ ¬ M b ∧ b ≠ l ∧ ∀ j u, xs[j]? = some u → w.cell? ⟨b, o + j, none⟩ = some u
theorem ArrS.arr {M : Nat → Prop} {l : Nat} {w : World} {A : Option Addr} {xs : List Value} (h : ArrS M l w A xs) : Arr w w.heap.size A xs := fun hx => by
  obtain ⟨b, o, e, h1, _, _, h4⟩ := h hx; exact ⟨b, o, e, h1, h4⟩
theorem ArrS.keep {M M' : Nat → Prop} {l : Nat} {w w' : World} {A : Option Addr} {xs : List Value} (h : ArrS M l w A xs) (hk : KeepM M l w w') (hg : Grow M M' w) : ArrS M' l w' A xs := fun hx => by
  obtain ⟨b, o, e, h1, h2, h3, h4⟩ := h hx; exact ⟨b, o, e, Nat.lt_of_lt_of_le h1 hk.size, fun h' => by rcases hg b h' with h5 | h5; exact h2 h5; omega, h3, fun j u hu => (hk.cell h1 h2 h3).trans (h4 j u hu)⟩
theorem ArrS.below {M : Nat → Prop} {l : Nat} {w w' : World} {A : Option Addr} {xs : List Value} (h : ArrS M l w A xs) (hk : Below w.heap.size w w') : ArrS M l w' A xs := h.keep (.of_below hk) (.refl _ _)
/-- a block's first cells, where no round writes -/
def CellsS (M : Nat → Prop) (l : Nat) (w : World) (B : Nat) (xs : List Value) : Prop := B < w.heap.size ∧ ¬ M B ∧ B ≠ l ∧ ∀ j u, xs[j]? = some u → w.cell? ⟨B, j, none⟩ = some u
theorem CellsS.cells {M : Nat → Prop} {l : Nat} {w : World} {B : Nat} {xs : List Value} (h : CellsS M l w B xs) : Cells w B xs := ⟨h.1, h.2.2.2⟩
theorem CellsS.keep {M M' : Nat → Prop} {l : Nat} {w w' : World} {B : Nat} {xs : List Value} (h : CellsS M l w B xs) (hk : KeepM M l w w') (hg : Grow M M' w) : CellsS M' l w' B xs :=
  ⟨Nat.lt_of_lt_of_le h.1 hk.size, fun h' => by rcases hg B h' with h5 | h5; exact h.2.1 h5; have := h.1; omega, h.2.2.1, fun j u hu => (hk.cell h.1 h.2.1 h.2.2.1).trans (h.2.2.2 j u hu)⟩
theorem CellsS.below {M : Nat → Prop} {l : Nat} {w w' : World} {B : Nat} {xs : List Value} (h : CellsS M l w B xs) (hk : Below w.heap.size w w') : CellsS M l w' B xs := h.keep (.of_below hk) (.refl _ _)
/-- The contract of an iterator that gives xs one after another: rounds write the consumer's blocks alone (M, that grow by new ones). -/
def SeqR {α : Type} (P : Program) (g : Nat) (lb : Array Value) (Enc : α → Array Value → World → Prop) (M0 : Nat → Prop) (xs : List α) (w : World) : Prop :=
  ∀ (l : Nat) (J : List α → (Nat → Prop) → World → Prop) (Jx : List α → World → Prop) (W : World), Below w.heap.size w W → w.heap.size ≤ l → l < W.heap.size →
    (∀ s M A C, J s M A → Below W.heap.size A C → (∀ k, M k → C.heap[k]? = A.heap[k]?) → J s M C) → (∀ s A C, Jx s A → Below A.heap.size A C → Jx s C) →
    (∀ s M A, J s M A → (∀ k, M k → k < A.heap.size) ∧ ¬ M l) →
    (∀ pre x M V vs, J pre M V → W.heap.size ≤ V.heap.size → Enc x vs V → pre ++ [x] <+: xs → YieldW P l vs V fun e V' =>
      (e = .returned (.bool true) ∧ ∃ M', J (pre ++ [x]) M' V' ∧ Grow M M' V ∧ KeepM M l V V') ∨ (e = .returned (.bool false) ∧ Jx (pre ++ [x]) V')) →
    J [] M0 W →
    Calls P g (#[.func (.yield l) #[] #[]] ++ lb) W fun e W' => (∃ v, e = .returned v) ∧ ((∃ M, J xs M W') ∨ ∃ pre x, pre ++ [x] <+: xs ∧ Jx (pre ++ [x]) W')
/-- How a round's body may be left. -/
def postR {α : Type} (M : Nat → Prop) (I : List α → (Nat → Prop) → World → Prop) (Ix : Code → List α → World → Prop) (xs : List α) (W : World) : Exit → Act → World → Prop
  | .normal, _, V => KeepA M W V ∧ ∃ M', I xs M' V ∧ Grow M M' W
  | .ret, _, V => KeepA M W V ∧ Ix .ret xs V
  | .exit id, _, V => KeepA M W V ∧ Ix (.exit id) xs V
  | .goto t, _, V => KeepA M W V ∧ Ix (.goto t) xs V
  | .panic _, _, _ => False
  | .outgrown, _, _ => False
/-- The statement 'for .. := range g' over such an iterator, outside rounds. -/
theorem wp_rangeR {P : Program} {α : Type} {g : Operand} {ps : Array Tmp} {assign body : Code} {Q : Exit → Act → World → Prop} {a : Act} {w : World}
    {gf : Nat} {lb : Array Value} (hg : a.eval g = .func (.func gf) #[] lb) (eg : ∀ args w, (callFunc gf args).run P w = .ok (.enter gf args) w)
    {Enc : α → Array Value → World → Prop} {M0 : Nat → Prop} {xs : List α} {w0 : World} (hseq : SeqR P gf lb Enc M0 xs w0) (hb0 : Below w0.heap.size w0 w) (hps : ∀ x vs V, Enc x vs V → vs.size = ps.size)
    (I : List α → (Nat → Prop) → World → Prop) (Ix : Code → List α → World → Prop)
    (hI : ∀ s M A C, I s M A → Below w.heap.size A C → (∀ k, M k → C.heap[k]? = A.heap[k]?) → I s M C)
    (hIx : ∀ j s A C, Ix j s A → Below w.heap.size A C → (∀ k, k < A.heap.size → (∀ o, A.heap[k]? ≠ some (.loop o)) → C.heap[k]? = A.heap[k]?) → Ix j s C)
    (hIM : ∀ s M A, I s M A → ∀ k, M k → k < A.heap.size) (h0 : I [] M0 w)
    (Ax : α → Act → World → Prop) (hAx : ∀ x a' W l o o', w.heap.size ≤ l → W.heap[l]? = some (.loop o) → Ax x a' W → Ax x a' (W.putObj l o'))
    (hassign : ∀ (l : Nat) (pre : List α) (x : α) (M : Nat → Prop) (W : World) (vs : Array Value) (K : Act → World → Prop), I pre M W → w.heap.size ≤ W.heap.size → Enc x vs W → (∀ a' W', Below W.heap.size W W' → Ax x a' W' → K a' W') →
      assign.wpIn (Fence.wide.inRound l) 5 P (Exit.then K (fun _ _ _ => False)) { tmps := (ps.zip vs).foldl (fun t (p, v) => t.setIfInBounds p v) a.tmps, defers := [] } W)
    (hbody : ∀ (l : Nat) (pre : List α) (x : α) (M : Nat → Prop) (a' : Act) (W : World), w.heap.size ≤ W.heap.size → I pre M W → Ax x a' W → pre ++ [x] <+: xs → body.wpIn (Fence.wide.inRound l) 5 P (postR M I Ix (pre ++ [x]) W) a' W)
    (hdone : ∀ (D : Nat) (M : Nat → Prop) (W : World), w.heap.size ≤ D → ¬ M D → I xs M W → W.heap[D]? = some (.deferred (some [])) → Q .normal { a with defers := { target := .collected D, args := #[] } :: a.defers } W)
    (hstop : ∀ (D : Nat) (j : Code) (pre : List α) (x : α) (W : World), w.heap.size ≤ D → pre ++ [x] <+: xs → Ix j (pre ++ [x]) W → W.heap[D]? = some (.deferred (some [])) → j.wp P Q { a with defers := { target := .collected D, args := #[] } :: a.defers } W) :
    (Code.rangeFunc g ps assign body).wp P Q a w := by
  refine (wpIn_wide (n := 5)).1 (wpIn_rangeFunc ?_)
  intro fn _
  obtain ⟨rec, hrec⟩ : ∃ rec : LoopState → Option Code → Loop, rec = fun st pe => { state := st, pending := pe, fn, tmps := a.tmps, params := ps, assign, body, defers := w.heap.size } := ⟨_, rfl⟩; obtain ⟨W1, hW1⟩ : ∃ W1, (w.alloc (.deferred (some []))).alloc (.loop (rec .ready none)) = W1 := ⟨_, rfl⟩; have hz1 : W1.heap.size = w.heap.size + 1 + 1 := by rw [← hW1]; simp
  have hL1 : W1.heap[w.heap.size + 1]? = some (.loop (rec .ready none)) := by
    rw [← hW1]; have h := World.alloc_heap_new (w.alloc (.deferred (some []))) (.loop (rec .ready none)); rwa [World.size_alloc] at h
  have hD1 : W1.heap[w.heap.size]? = some (.deferred (some [])) := by
    rw [← hW1]; exact (Below.heap_alloc _ _ _ (by simp)).trans (World.alloc_heap_new w _)
  have hbw : Below w.heap.size w W1 := by rw [← hW1]; exact ((Below.refl _ w).alloc (Nat.le_refl _) _).alloc (by simp) _
  have hM0 := hIM _ _ _ h0
  have putb : ∀ (V : World) (o : Obj), Below w.heap.size V (V.putObj (w.heap.size + 1) o) ∨ V.heap.size < w.heap.size := fun V o => by
    rcases Nat.lt_or_ge V.heap.size w.heap.size with h | h
    · exact .inr h
    · exact .inl ((Below.refl _ _).grown (grownBy_putObj' _ _ o) h (fun k e => by cases e; omega))
  have up : ∀ {s : List α} {M : Nat → Prop} {V : World} (o : Obj), I s M V → ¬ M (w.heap.size + 1) → w.heap.size + 1 < V.heap.size → I s M (V.putObj (w.heap.size + 1) o) := fun {s M V} o hs hm hlt =>
    hI _ _ _ _ hs ((putb V o).resolve_right (by omega)) (fun k hk => World.putObj_heap_other (fun e => hm (e ▸ hk)))
  have upx : ∀ {j : Code} {s : List α} {V : World} {q : Loop} (o : Obj), V.heap[w.heap.size + 1]? = some (.loop q) → Ix j s V → Ix j s (V.putObj (w.heap.size + 1) o) := fun {j s V q} o hq hs =>
    hIx _ _ _ _ hs ((putb V o).resolve_right (by have := (Array.getElem?_eq_some_iff.1 hq).1; omega)) (fun k _ hk => World.putObj_heap_other (fun e => hk q (e ▸ hq)))
  refine ⟨w.heap.size + 1, [{ target := .collected w.heap.size, args := #[] }], W1, { target := .fn (.func gf) lb, args := #[.func (.yield (w.heap.size + 1)) #[] #[]] }, W1, gf,
    #[.func (.yield (w.heap.size + 1)) #[] #[]] ++ lb, W1, ?_, ?_, ?_, ?_, ?_, ?_⟩
  · rw [← hW1, hrec]; exact run_enterLoop_outer _ _ _ _ _
  · simp only [resolve, hg]
    simp [go_sem]
  · intro f' _; trivial
  · simp [invoke, go_sem, eg]
  · intro h; simp [Fence.wide] at h
  · refine callsIn_wide.2 ?_
    refine (hseq (w.heap.size + 1)
      (fun pre M W => I pre M W ∧ (¬ M (w.heap.size + 1) ∧ ¬ M w.heap.size) ∧ W.heap[w.heap.size + 1]? = some (.loop (rec .ready none)) ∧ W.heap[w.heap.size]? = some (.deferred (some [])))
      (fun pre W => ∃ j, Ix j pre W ∧ W.heap[w.heap.size + 1]? = some (.loop (rec .done (some j))) ∧ W.heap[w.heap.size]? = some (.deferred (some [])))
      W1 (hb0.trans (hbw.mono hb0.size)) (Nat.le_trans hb0.size (by omega)) (by omega)
      (fun s M A C hs hb hm => ⟨hI s M A C hs.1 (hb.mono (by omega)) hm, hs.2.1, (hb.block _ (by omega)).trans hs.2.2.1, (hb.block _ (by omega)).trans hs.2.2.2⟩)
      (fun s A C hs hb => by
        obtain ⟨j, hj, hl, hd⟩ := hs; have hlt := (Array.getElem?_eq_some_iff.1 hl).1; exact ⟨j, hIx j s A C hj (hb.mono (by omega)) (fun k hk _ => hb.block k hk), (hb.block _ hlt).trans hl, (hb.block _ (by omega)).trans hd⟩)
      (fun s M A hs => ⟨hIM _ _ _ hs.1, hs.2.1.1⟩) ?_ ⟨hI _ _ _ _ h0 hbw (fun k hk => hbw.block k (hM0 k hk)), ⟨fun h => by have := hM0 _ h; omega, fun h => by have := hM0 _ h; omega⟩, hL1, hD1⟩).mono ?_
    · rintro pre x M V vs ⟨hi, ⟨hml, hmd⟩, hl, hd⟩ hsz hen hpre
      have hy := run_yield (P := P) (args := vs) hl (by rw [hrec]; exact hps x vs V hen); rw [hrec] at hy; refine ⟨fn, _, assign, body, hy, fun m => roundIn_of_wpIn (n := m) trivial ?_⟩
      have hwide : ∀ {cd : Code} {F : Fence} {m m' : Nat} {Q : Exit → Act → World → Prop} {a : Act} {w : World}, F.depth = none → cd.wpIn F m P Q a w → cd.wpIn F m' P Q a w := by
        intro cd F m m' Q a w hd h b k cs h1 h2 _
        exact h b k cs h1 h2 (fun d e => by rw [hd] at e; cases e)
      refine hwide (m := 5) rfl (hassign _ pre x M V vs _ hi (by omega) hen ?_)
      intro a' Wa hm hax
      have hlV := (Array.getElem?_eq_some_iff.1 hl).1; have hla := (hm.block (w.heap.size + 1) hlV).trans hl; have hda := (hm.block w.heap.size (by omega)).trans hd; have hia := hI _ _ _ _ hi (hm.mono (by omega)) (fun k hk => hm.block k (hIM _ _ _ hi k hk)); have hsa := hm.size; refine ⟨_, run_beginRound hla (by rw [hrec]), ?_⟩; refine hwide (m := 5) rfl (wpIn_mono (hbody _ pre x M a' _ (by simp; omega) (up _ hia hml (by omega)) (hAx _ _ _ _ _ _ (by omega) hla hax) hpre) ?_)
      have fin : ∀ (jump : Option Code) (W3 : World), KeepA M (Wa.putObj (w.heap.size + 1) (.loop { rec .ready none with state := .busy })) W3 →
          (Instr.endRound (w.heap.size + 1) jump).run P W3 = .ok (.bool jump.isNone) (W3.putObj (w.heap.size + 1) (.loop (rec (if jump.isNone then .ready else .done) jump))) ∧
          w.heap.size + 1 < W3.heap.size ∧ (∃ q, W3.heap[w.heap.size + 1]? = some (.loop q)) ∧
          (W3.putObj (w.heap.size + 1) (.loop (rec (if jump.isNone then .ready else .done) jump))).heap[w.heap.size + 1]? = some (.loop (rec (if jump.isNone then .ready else .done) jump)) ∧
          (W3.putObj (w.heap.size + 1) (.loop (rec (if jump.isNone then .ready else .done) jump))).heap[w.heap.size]? = some (.deferred (some [])) ∧
          KeepM M (w.heap.size + 1) V (W3.putObj (w.heap.size + 1) (.loop (rec (if jump.isNone then .ready else .done) jump))) ∧ V.heap.size ≤ W3.heap.size := by
        intro jump W3 h3
        have h3s := h3.size; simp only [World.putObj_size] at h3s; have hl3 := (h3.block (w.heap.size + 1) (by simp; omega) hml).trans (World.putObj_heap_same (by omega)); have hd3 := (h3.block w.heap.size (by simp; omega) hmd).trans ((World.putObj_heap_other (by omega)).trans hda); have hr := run_endRound (P := P) jump hl3; rw [hrec] at hr hl3 ⊢; exact ⟨hr, by omega, ⟨_, hl3⟩, World.putObj_heap_same (by omega), (World.putObj_heap_other (by omega)).trans hd3, ⟨by simp; omega, fun k hk hkm hkl => (World.putObj_heap_other hkl).trans ((h3.block k (by simp; omega) hkm).trans ((World.putObj_heap_other hkl).trans (hm.block k hk)))⟩, by omega⟩
      rintro e a3 W3 hp
      cases e with
      | normal =>
        obtain ⟨h3, M', hi3, hgr⟩ := hp; obtain ⟨hr, hz, _, hl4, hd4, hk4, hz4⟩ := fin none W3 h3; have hgr' : Grow M M' V := fun k hk => (hgr k hk).imp id fun h => by simp at h; omega
        have hml' : ¬ M' (w.heap.size + 1) := fun h => (hgr' _ h).elim hml (fun h => by omega); have hmd' : ¬ M' w.heap.size := fun h => (hgr' _ h).elim hmd (fun h => by omega); exact ⟨_, _, hr, .inl ⟨rfl, M', ⟨up _ hi3 hml' hz, ⟨hml', hmd'⟩, hl4, hd4⟩, hgr', hk4⟩⟩
      | ret =>
        obtain ⟨h3, hi3⟩ := hp; obtain ⟨hr, hz, ⟨q, hq⟩, hl4, hd4, _⟩ := fin (some .ret) W3 h3; exact ⟨_, _, hr, .inr ⟨rfl, .ret, upx _ hq hi3, hl4, hd4⟩⟩
      | exit id =>
        obtain ⟨h3, hi3⟩ := hp; obtain ⟨hr, hz, ⟨q, hq⟩, hl4, hd4, _⟩ := fin (some (.exit id)) W3 h3; exact ⟨_, _, hr, .inr ⟨rfl, .exit id, upx _ hq hi3, hl4, hd4⟩⟩
      | goto t =>
        obtain ⟨h3, hi3⟩ := hp; obtain ⟨hr, hz, ⟨q, hq⟩, hl4, hd4, _⟩ := fin (some (.goto t)) W3 h3; exact ⟨_, _, hr, .inr ⟨rfl, .goto t, upx _ hq hi3, hl4, hd4⟩⟩
      | panic ch => exact hp.elim
      | outgrown => exact hp.elim
    · rintro e W2 ⟨⟨v, rfl⟩, (⟨M, hi, ⟨hml, hmd⟩, hl, hd⟩ | ⟨pre, x, hpre, j, hi, hl, hd⟩)⟩
      · refine ⟨none, _, by have h := run_endLoop (P := P) hl (by rw [hrec]; simp); rw [hrec] at h; exact h, ?_⟩
        exact hdone _ M _ (Nat.le_refl _) hmd (up _ hi hml (Array.getElem?_eq_some_iff.1 hl).1) ((World.putObj_heap_other (by omega)).trans hd)
      · refine ⟨some j, _, by have h := run_endLoop (P := P) hl (by rw [hrec]; simp); rw [hrec] at h; exact h, ?_⟩
        exact wpIn_wide.2 (hstop _ j pre x _ (Nat.le_refl _) hpre (upx _ hl hi) ((World.putObj_heap_other (by omega)).trans hd))
/-! regions inside rounds -/
section
variable {D : List Deferred} {P : Program} {ops : Array Oper} {Q Q' : Exit → Act → World → Prop} {a : Act} {w : World} {l m : Nat}
theorem region_straight_in {id n : Nat} (hm : ops.size = n) (hd : noDefer ops = true) (h : ∀ Q' K, Hush (∀ a w, Q .normal a w → K a w) → Late false P ops Q' K (List.range n) a w) : (Code.region id ops false).wpIn (Fence.wide.inRound l) m P Q a w := by
  subst hm; refine wpIn_mono (wpIn_region (opsIn_of_ops hd cutQ_not _ _ _ ?_)) cutQ_out; exact late_wpOps _ a w (fun i hi => List.mem_range.1 hi) (fun _ _ h => h) (h (cutQ Q) (Q .normal) (fun _ _ h => h))
/-! scopes -/
theorem noGoto_n (h : Q .normal a w) : Exit.noGoto Q .normal a w := h
theorem noGoto_ret (h : Q .ret a w) : Exit.noGoto Q .ret a w := h
theorem noGoto_exit {i : Nat} (h : Q (.exit i) a w) : Exit.noGoto Q (.exit i) a w := h
instance {c : Code} : Ctl ((Code.scope c).wp P Q a w) (c.wp P (Exit.noGoto Q) a w) := ⟨wp_scope_straight⟩
instance : Ctl (Exit.noGoto Q .normal a w) (Q .normal a w) := ⟨noGoto_n⟩
instance : Ctl (Exit.noGoto Q .ret a w) (Q .ret a w) := ⟨noGoto_ret⟩
instance {i : Nat} : Ctl (Exit.noGoto Q (.exit i) a w) (Q (.exit i) a w) := ⟨noGoto_exit⟩
/-! control inside rounds -/
theorem condI_part {n : Nat} {e : Env} (hE : FitsD D n e a) {t : Nat} {x y : Code} {b : Bool} (hv : lk t e = some (.bool b)) (h1 : b = true → x.wpIn (Fence.wide.inRound l) m P Q a w) (h2 : b = false → y.wpIn (Fence.wide.inRound l) m P Q a w) : (Code.cond (.tmp t) x y).wpIn (Fence.wide.inRound l) m P Q a w := wpIn_cond_split (hE.eval t hv) h1 h2
/-! functions that hold a range over a function -/
theorem enterM {f : FuncId} {fn : Func} {c : Code} {args : List Value} {R : Ending → World → Prop} {n : Nat} (hf : P.funcs[f]? = some fn) (hb : fn.body = some c) (hn : fn.ntmps = n) (hk : args.length ≤ n)
    (h : ∀ a, Fits n (envOf 0 args) a → c.wp P (bodyPostM Fence.wide 5 P fn R) a w) : Calls P f args.toArray w R := by
  refine (callsIn_wide (n := 5)).1 (callsIn_of_wp_marks hf hb trivial (wpIn_wide.2 ?_) rfl); rw [hn]; exact h _ (fits_start (k := args.length) rfl hk _ fun t v hl => by simpa using (lk_envOf args 0 t v hl).2)
/-- the rmarks of ranges that have ended -/
def rmarks (ds : List Nat) : List Deferred := ds.map fun d => { target := .collected d, args := #[] }
/-- the world when the rmarks have been taken -/
def taken : List Nat → World → World
  | [], w => w
  | d :: ds, w => taken ds (w.putObj d (.deferred none))
theorem taken_block : ∀ (ds : List Nat) (w : World) (k : Nat), k ∉ ds → (taken ds w).heap[k]? = w.heap[k]?
  | [], _, _, _ => rfl
  | d :: ds, w, k, h => by
    rw [List.mem_cons, not_or] at h; exact (taken_block ds _ k h.2).trans (World.putObj_heap_other h.1)
theorem taken_below {B : Nat} : ∀ (ds : List Nat) (w0 w : World), (∀ d ∈ ds, B ≤ d) → B ≤ w.heap.size → Below B w0 w → Below B w0 (taken ds w)
  | [], _, _, _, _, h => h
  | d :: ds, w0, w, hd, hB, h => taken_below ds w0 _ (fun x hx => hd x (List.mem_cons_of_mem _ hx)) (by simpa using hB) (h.grown (grownBy_putObj' w d _) hB (fun k e => by cases e; exact hd d (List.mem_cons_self ..)))
theorem leaves_marks {fn : Func} {tmps : Array Value} {R : Ending → World → Prop} {F : Fence} : ∀ (ds : List Nat) (w : World), ds.Nodup → (∀ d ∈ ds, w.heap[d]? = some (.deferred (some []))) → (∃ v, (results fn tmps).run P (taken ds w) = .ok v (taken ds w) ∧ R (.returned v) (taken ds w)) →
    LeavesInM F m P fn tmps R (rmarks ds) .returning w
  | [], w, _, _, h => h
  | d :: ds, w, hn, hd, h => by
    rw [List.nodup_cons] at hn; refine ⟨by simp, .inl ⟨d, _, rfl, run_takeDeferred (hd d (List.mem_cons_self ..)), ?_⟩⟩; refine leaves_marks ds _ hn.2 (fun x hx => ?_) h; exact (World.putObj_heap_other (fun e => hn.1 (by subst e; exact hx))).trans (hd x (List.mem_cons_of_mem _ hx))
theorem FitsD.mark {n : Nat} {e : Env} {d : Nat} {ds : List Nat} (h : FitsD (rmarks ds) n e a) : FitsD (rmarks (d :: ds)) n e { a with defers := { target := .collected d, args := #[] } :: a.defers } := ⟨by rw [h.1]; rfl, h.2.1, h.2.2⟩
/-! the call of yield, outside rounds -/
theorem yield_op {n' l' : Nat} {o : Oper} {c : Call} {K : Act → World → Prop} {vs : Array Value} {R : Ending → World → Prop} (ho : o.op = .call c) (hc : ∃ x, c.callee = .value x ∧ a.eval x = .func (.yield l') #[] #[]) (ha : c.args.map a.eval = vs) (hy : YieldW P l' vs w R)
    (hR : ∀ e w', R e w' → ∃ v, e = .returned v ∧ K (a.put o.dst v) w') : o.wpIn Fence.wide n' P a w K Q := by
  obtain ⟨fn, tmps, assign, body, hy, hr⟩ := hy; obtain ⟨x, hx, hv⟩ := hc; refine ⟨fun _ _ => trivial, ?_⟩; rw [show Fence.wide.round = none from rfl, Oper.semAt_none]
  have hrun : (execOp a.eval o).run P w = .ok (.round l' fn tmps assign body) w := by
    obtain ⟨callee, args, ats⟩ := c; simp only at hx ha; subst hx; subst ha
    unfold execOp
    simp only [ho, resolve, hv, Sem.run_bind, Sem.run_pure, Result.andThen_ok]; simp [invoke, hy, go_sem]
  rw [hrun]; refine ⟨fun e => by simp [Fence.wide] at e, (hr _).mono fun e w' h => ?_⟩; obtain ⟨v, rfl, hk⟩ := hR e w' h; exact hk
end
end Go.Proofs.YtkhmcofmjjmjhaaDoor
