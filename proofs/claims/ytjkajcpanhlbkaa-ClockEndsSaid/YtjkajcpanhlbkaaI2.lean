/- Ranges over iterators that read, between rounds, what came in: rounds leave that be. Without conditions of its own. -/
import Derived.Test.YtjkajcpanhlbkaaI
namespace Go.Proofs.Ytjkajcpanhlbkaa
set_option linter.unusedSimpArgs false
set_option linter.unusedVariables false
open Go Go.RowKit

/-- The contract, where rounds leave Inv be, of an iterator that gives xs one after another: what is said of the blocks below the heap's size at its call, rounds may turn; what lies from c on a round keeps, but for the loop's record. -/
def SeqI {α : Type} (P : Program) (g : Nat) (lb : Array Value) (encs : α → Array Value) (c : Nat) (Inv : World → Prop) (xs : List α) (w : World) : Prop :=
  ∀ (l : Nat) (J Jx : List α → World → Prop) (W : World), Below w.heap.size w W → w.heap.size ≤ l → l < W.heap.size → Up W.heap.size J → Up W.heap.size Jx → (∀ pre V, J pre V → Inv V) →
    (∀ pre x V, J pre V → W.heap.size ≤ V.heap.size → pre ++ [x] <+: xs → YieldW P l (encs x) V fun e V' =>
      (e = .returned (.bool true) ∧ J (pre ++ [x]) V' ∧ MidBut c l V V') ∨ (e = .returned (.bool false) ∧ Jx (pre ++ [x]) V' ∧ MidBut c l V V')) →
    J [] W →
    Calls P g (#[.func (.yield l) #[] #[]] ++ lb) W fun e W' => (∃ v, e = .returned v) ∧ (J xs W' ∨ ∃ pre x, pre ++ [x] <+: xs ∧ Jx (pre ++ [x]) W')

/-- The statement 'for .. := range g' over such an iterator, outside rounds. -/
theorem wpIn_rangeI {P : Program} {n : Nat} {α : Type} {g : Operand} {ps : Array Tmp} {assign body : Code} {Q : Exit → Act → World → Prop} {a : Act} {w : World}
    {gf : Nat} {lb : Array Value} (hg : a.eval g = .func (.func gf) #[] lb) (eg : ∀ args w, (callFunc gf args).run P w = .ok (.enter gf args) w)
    {encs : α → Array Value} {c : Nat} {xs : List α} {w0 : World} {Inv : World → Prop} (hseq : SeqI P gf lb encs c Inv xs w0) (hb0 : Below w0.heap.size w0 w) (hc : c ≤ w.heap.size) (hps : ∀ x, (encs x).size = ps.size)
    (I : List α → World → Prop) (Ix : Code → List α → World → Prop) (hI : Up w.heap.size I) (hIx : ∀ j, Up w.heap.size (Ix j)) (h0 : I [] w) (hInv : ∀ pre V, I pre V → Inv V)
    (Ax : α → Act → World → Prop) (hAx : ∀ x a' W l o o', w.heap.size ≤ l → W.heap[l]? = some (.loop o) → Ax x a' W → Ax x a' (W.putObj l o'))
    (hassign : ∀ (l : Nat) (pre : List α) (x : α) (W : World) (K : Act → World → Prop), I pre W → w.heap.size ≤ W.heap.size → (∀ a' W', Mid c W W' → I pre W' → Ax x a' W' → K a' W') →
      assign.wpIn (Fence.wide.inRound l) n P (Exit.then K (fun _ _ _ => False)) { tmps := (ps.zip (encs x)).foldl (fun t (p, v) => t.setIfInBounds p v) a.tmps, defers := [] } W)
    (hbody : ∀ (l : Nat) (pre : List α) (x : α) (a' : Act) (W : World), w.heap.size ≤ W.heap.size → I pre W → Ax x a' W → pre ++ [x] <+: xs → body.wpIn (Fence.wide.inRound l) n P (postM c I Ix (pre ++ [x]) W) a' W)
    (hdone : ∀ (D : Nat) (W : World), w.heap.size ≤ D → I xs W → W.heap[D]? = some (.deferred (some [])) → Q .normal { a with defers := { target := .collected D, args := #[] } :: a.defers } W)
    (hstop : ∀ (D : Nat) (j : Code) (pre : List α) (x : α) (W : World), w.heap.size ≤ D → pre ++ [x] <+: xs → Ix j (pre ++ [x]) W → W.heap[D]? = some (.deferred (some [])) → j.wpIn Fence.wide n P Q { a with defers := { target := .collected D, args := #[] } :: a.defers } W) :
    (Code.rangeFunc g ps assign body).wpIn Fence.wide n P Q a w := by
  refine wpIn_rangeFunc ?_
  intro fn _
  obtain ⟨rec, hrec⟩ : ∃ rec : LoopState → Option Code → Loop, rec = fun st pe => { state := st, pending := pe, fn, tmps := a.tmps, params := ps, assign, body, defers := w.heap.size } := ⟨_, rfl⟩
  obtain ⟨W1, hW1⟩ : ∃ W1, (w.alloc (.deferred (some []))).alloc (.loop (rec .ready none)) = W1 := ⟨_, rfl⟩
  have hz1 : W1.heap.size = w.heap.size + 1 + 1 := by rw [← hW1]; simp
  have hL1 : W1.heap[w.heap.size + 1]? = some (.loop (rec .ready none)) := by
    rw [← hW1]; have h := World.alloc_heap_new (w.alloc (.deferred (some []))) (.loop (rec .ready none)); rwa [World.size_alloc] at h
  have hD1 : W1.heap[w.heap.size]? = some (.deferred (some [])) := by
    rw [← hW1]; exact (Below.heap_alloc _ _ _ (by simp)).trans (World.alloc_heap_new w _)
  have hbw : Below w.heap.size w W1 := by rw [← hW1]; exact ((Below.refl _ w).alloc (Nat.le_refl _) _).alloc (by simp) _
  have up : ∀ {β : Type} {J : β → World → Prop} {s : β} {V : World} (o : Obj), Up w.heap.size J → J s V → (w.heap.size + 1) < V.heap.size → J s (V.putObj (w.heap.size + 1) o) := fun o h hs _ =>
    h _ _ _ hs ((Below.refl _ _).grown (grownBy_putObj' _ _ o) (by omega) (fun k e => by cases e; omega))
  refine ⟨w.heap.size + 1, [{ target := .collected w.heap.size, args := #[] }], W1, { target := .fn (.func gf) lb, args := #[.func (.yield (w.heap.size + 1)) #[] #[]] }, W1, gf,
    #[.func (.yield (w.heap.size + 1)) #[] #[]] ++ lb, W1, ?_, ?_, ?_, ?_, ?_, ?_⟩
  · rw [← hW1, hrec]; exact run_enterLoop_outer _ _ _ _ _
  · simp only [resolve, hg]
    simp [go_sem]
  · intro f' _; trivial
  · simp [invoke, go_sem, eg]
  · intro h; simp [Fence.wide] at h
  · refine callsIn_wide.2 ?_
    refine (hseq (w.heap.size + 1)
      (fun pre W => I pre W ∧ W.heap[w.heap.size + 1]? = some (.loop (rec .ready none)) ∧ W.heap[w.heap.size]? = some (.deferred (some [])))
      (fun pre W => ∃ j, Ix j pre W ∧ W.heap[w.heap.size + 1]? = some (.loop (rec .done (some j))) ∧ W.heap[w.heap.size]? = some (.deferred (some [])))
      W1 (hb0.trans (hbw.mono hb0.size)) (Nat.le_trans hb0.size (by omega)) (by omega)
      (fun s A C hs hb => ⟨(hI.mono (by omega)) s A C hs.1 hb, (hb.block _ (by omega)).trans hs.2.1, (hb.block _ (by omega)).trans hs.2.2⟩)
      (fun s A C hs hb => by
        obtain ⟨j, hj, hl, hd⟩ := hs
        exact ⟨j, ((hIx j).mono (by omega)) s A C hj hb, (hb.block _ (by omega)).trans hl, (hb.block _ (by omega)).trans hd⟩)
      (fun pre V h => hInv pre V h.1) ?_ ⟨hI _ _ _ h0 hbw, hL1, hD1⟩).mono ?_
    · rintro pre x V ⟨hi, hl, hd⟩ hsz hpre
      have hy := run_yield (P := P) (args := encs x) hl (by rw [hrec]; exact hps x)
      rw [hrec] at hy
      refine ⟨fn, _, assign, body, hy, fun m => roundIn_of_wpIn (n := m) trivial ?_⟩
      have hwide : ∀ {cd : Code} {F : Fence} {m m' : Nat} {Q : Exit → Act → World → Prop} {a : Act} {w : World}, F.depth = none → cd.wpIn F m P Q a w → cd.wpIn F m' P Q a w := by
        intro cd F m m' Q a w hd h b k cs h1 h2 _
        exact h b k cs h1 h2 (fun d e => by rw [hd] at e; cases e)
      refine hwide (m := n) rfl (hassign _ pre x V _ hi (by omega) ?_)
      intro a' Wa hm hia hax
      have hla := (hm.block (w.heap.size + 1) (by omega) (by omega)).trans hl
      have hda := (hm.block w.heap.size (by omega) (by omega)).trans hd
      have hsa := hm.size
      refine ⟨_, run_beginRound hla (by rw [hrec]), ?_⟩
      refine hwide (m := n) rfl (wpIn_mono (hbody _ pre x a' _ (by simp; omega) (up _ hI hia (by omega)) (hAx _ _ _ _ _ _ (by omega) hla hax) hpre) ?_)
      have fin : ∀ (jump : Option Code) (W3 : World), Mid c (Wa.putObj (w.heap.size + 1) (.loop { rec .ready none with state := .busy })) W3 →
          (Instr.endRound (w.heap.size + 1) jump).run P W3 = .ok (.bool jump.isNone) (W3.putObj (w.heap.size + 1) (.loop (rec (if jump.isNone then .ready else .done) jump))) ∧
          w.heap.size + 1 < W3.heap.size ∧
          (W3.putObj (w.heap.size + 1) (.loop (rec (if jump.isNone then .ready else .done) jump))).heap[w.heap.size + 1]? = some (.loop (rec (if jump.isNone then .ready else .done) jump)) ∧
          (W3.putObj (w.heap.size + 1) (.loop (rec (if jump.isNone then .ready else .done) jump))).heap[w.heap.size]? = some (.deferred (some [])) ∧
          MidBut c (w.heap.size + 1) V (W3.putObj (w.heap.size + 1) (.loop (rec (if jump.isNone then .ready else .done) jump))) := by
        intro jump W3 h3
        have h3s := h3.size
        simp only [World.putObj_size] at h3s
        have hl3 := (h3.block (w.heap.size + 1) (by omega) (by simp; omega)).trans (World.putObj_heap_same (by omega))
        have hd3 := (h3.block w.heap.size (by omega) (by simp; omega)).trans ((World.putObj_heap_other (by omega)).trans hda)
        have hr := run_endRound (P := P) jump hl3
        rw [hrec] at hr ⊢
        exact ⟨hr, by omega, World.putObj_heap_same (by omega), (World.putObj_heap_other (by omega)).trans hd3, (((hm.but _).put _).trans (h3.but _)).put _⟩
      rintro e a3 W3 hp
      cases e with
      | normal =>
        obtain ⟨h3, hi3⟩ := hp
        obtain ⟨hr, hz, hl4, hd4, hk4⟩ := fin none W3 h3
        exact ⟨_, _, hr, .inl ⟨rfl, ⟨up _ hI hi3 hz, hl4, hd4⟩, hk4⟩⟩
      | ret =>
        obtain ⟨h3, hi3⟩ := hp
        obtain ⟨hr, hz, hl4, hd4, hk4⟩ := fin (some .ret) W3 h3
        exact ⟨_, _, hr, .inr ⟨rfl, ⟨.ret, up _ (hIx _) hi3 hz, hl4, hd4⟩, hk4⟩⟩
      | exit id =>
        obtain ⟨h3, hi3⟩ := hp
        obtain ⟨hr, hz, hl4, hd4, hk4⟩ := fin (some (.exit id)) W3 h3
        exact ⟨_, _, hr, .inr ⟨rfl, ⟨.exit id, up _ (hIx _) hi3 hz, hl4, hd4⟩, hk4⟩⟩
      | goto t =>
        obtain ⟨h3, hi3⟩ := hp
        obtain ⟨hr, hz, hl4, hd4, hk4⟩ := fin (some (.goto t)) W3 h3
        exact ⟨_, _, hr, .inr ⟨rfl, ⟨.goto t, up _ (hIx _) hi3 hz, hl4, hd4⟩, hk4⟩⟩
      | panic ch => exact hp.elim
      | outgrown => exact hp.elim
    · rintro e W2 ⟨⟨v, rfl⟩, (⟨hi, hl, hd⟩ | ⟨pre, x, hpre, j, hi, hl, hd⟩)⟩
      · refine ⟨none, _, by have h := run_endLoop (P := P) hl (by rw [hrec]; simp); rw [hrec] at h; exact h, ?_⟩
        exact hdone _ _ (Nat.le_refl _) (up _ hI hi (Array.getElem?_eq_some_iff.1 hl).1) ((World.putObj_heap_other (by omega)).trans hd)
      · refine ⟨some j, _, by have h := run_endLoop (P := P) hl (by rw [hrec]; simp); rw [hrec] at h; exact h, ?_⟩
        exact hstop _ j pre x _ (Nat.le_refl _) hpre (up _ (hIx j) hi (Array.getElem?_eq_some_iff.1 hl).1) ((World.putObj_heap_other (by omega)).trans hd)


theorem SeqM.seqI {P : Program} {α : Type} {g : Nat} {lb : Array Value} {encs : α → Array Value} {c : Nat} {xs : List α} {w : World} (Inv : World → Prop) (h : SeqM P g lb encs c xs w) : SeqI P g lb encs c Inv xs w :=
  fun l J Jx W a b d e f _ k m => h l J Jx W a b d e f (fun pre x V p q r => (k pre x V p q r).mono fun _ _ h => h.imp id fun h => ⟨h.1, h.2.1⟩) m
end Go.Proofs.Ytjkajcpanhlbkaa
