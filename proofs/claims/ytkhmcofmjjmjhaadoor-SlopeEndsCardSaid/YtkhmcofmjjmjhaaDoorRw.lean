/- Blocks and rows of the call's own, for any seat. -/
import Derived.Test.YtkhmcofmjjmjhaaDoorG
namespace Go.Proofs.YtkhmcofmjjmjhaaDoor
set_option linter.unusedSimpArgs false
set_option linter.unusedVariables false
open Go Go.RowKit

/-- a block from some size on -/
def Blk (N G : Nat) (cs : Array Value) (t : TypeId) (w : World) : Prop := N ≤ G ∧ G < w.heap.size ∧ w.heap[G]? = some (.cells cs t)
theorem Blk.keep {N G : Nat} {cs : Array Value} {t : TypeId} {w w' : World} (h : Blk N G cs t w) (hb : Below w.heap.size w w') : Blk N G cs t w' := ⟨h.1, Nat.lt_of_lt_of_le h.2.1 hb.size, (hb.block G h.2.1).trans h.2.2⟩
theorem Blk.more {N N' G : Nat} {cs : Array Value} {t : TypeId} {w : World} (h : Blk N G cs t w) (hn : N' ≤ N) : Blk N' G cs t w := ⟨Nat.le_trans hn h.1, h.2⟩
theorem blk_new {N : Nat} (w : World) (cs : Array Value) (t : TypeId) (h : N ≤ w.heap.size) : Blk N w.heap.size cs t (w.alloc (.cells cs t)) := ⟨h, by simp, by show (w.heap.push _)[w.heap.size]? = _; simp⟩
theorem blk_zero {N : Nat} (w : World) (cs cs' : Array Value) (t : TypeId) (e : cs = cs') (h : N ≤ w.heap.size) : Blk N w.heap.size cs' t (w.alloc (.cells cs t)) := by
  subst e
  exact blk_new w cs t h
/-- a block's cells, each of which can be written -/
def Row (w : World) (G : Nat) (l : List Value) : Prop := ∀ j u, l[j]? = some u → w.cell? ⟨G, j, none⟩ = some u ∧ Wr w G j
theorem Blk.row {N G : Nat} {cs : Array Value} {t : TypeId} {w : World} (h : Blk N G cs t w) : Row w G cs.toList := fun j u hu => by
  have hc : w.cell? ⟨G, j, none⟩ = some u := by
    simp only [World.cell?, h.2.2]
    simpa using hu
  exact ⟨hc, Wr.of hc (by simp [World.frozen?, h.2.2])⟩
theorem Row.set {w : World} {G o : Nat} {l : List Value} {v : Value} (h : Row w G l) (ho : o < l.length) : Row (w.setCell ⟨G, o, none⟩ v) G (l.set o v) := fun j u hu => by
  rw [List.getElem?_set] at hu
  by_cases e : o = j
  · subst e
    rw [if_pos rfl, if_pos ho] at hu
    cases hu
    obtain ⟨_, hw⟩ := h o l[o] (List.getElem?_eq_getElem ho)
    exact ⟨cell_set_wr hw, by rw [wr_set]; exact hw⟩
  · rw [if_neg e] at hu
    obtain ⟨h1, h2⟩ := h j u hu
    exact ⟨by rw [World.cell?_setCell_other _ _ _ _ (fun e' => e (congrArg Addr.off e'))]; exact h1, by rw [wr_set]; exact h2⟩
theorem Row.other {w : World} {G b o : Nat} {l : List Value} {v : Value} (h : Row w G l) (hb : b ≠ G) : Row (w.setCell ⟨b, o, none⟩ v) G l := fun j u hu => by
  obtain ⟨h1, h2⟩ := h j u hu
  exact ⟨by rw [World.cell?_setCell_other _ _ _ _ (fun e' => hb (congrArg Addr.block e'))]; exact h1, by rw [wr_set]; exact h2⟩
theorem Row.below {w w' : World} {G : Nat} {l : List Value} (h : Row w G l) (hb : Below w.heap.size w w') (hG : G < w.heap.size) : Row w' G l := fun j u hu => by
  obtain ⟨h1, h2⟩ := h j u hu
  exact ⟨(hb.cell (p := ⟨G, j, none⟩) hG).trans h1, wr_below h2 hb hG⟩
theorem Row.arr {w : World} {G : Nat} {l : List Value} (h : Row w G l) (hG : G < w.heap.size) : Arr w w.heap.size (some ⟨G, 0, none⟩) l := fun _ => ⟨G, 0, rfl, hG, fun j u hu => by rw [Nat.zero_add]; exact (h j u hu).1⟩
/-- rows in memory, each a block of its own from some block on, each cell of which can be written -/
def Rws (N : Nat) (w : World) (L : List (Nat × List Value)) : Prop := (L.map (·.1)).Nodup ∧ ∀ p ∈ L, N ≤ p.1 ∧ p.1 < w.heap.size ∧ Row w p.1 p.2
theorem Rws.below {N : Nat} {w w' : World} {L : List (Nat × List Value)} (h : Rws N w L) (hb : Below w.heap.size w w') : Rws N w' L :=
  ⟨h.1, fun p hp => let ⟨h1, h2, h3⟩ := h.2 p hp; ⟨h1, Nat.lt_of_lt_of_le h2 hb.size, h3.below hb h2⟩⟩
theorem Rws.get {N : Nat} {w : World} {L : List (Nat × List Value)} (h : Rws N w L) (i : Nat) {G : Nat} {l : List Value} (hi : L[i]? = some (G, l)) : N ≤ G ∧ G < w.heap.size ∧ Row w G l := h.2 (G, l) (List.mem_of_getElem? hi)
theorem Rws.set {N : Nat} {w : World} {L : List (Nat × List Value)} (h : Rws N w L) (i : Nat) {G o : Nat} {l : List Value} (v : Value) (hi : L[i]? = some (G, l)) (ho : o < l.length) : Rws N (w.setCell ⟨G, o, none⟩ v) (L.set i (G, l.set o v)) := by
  have hlt : i < L.length := (List.getElem?_eq_some_iff.1 hi).1
  have hm : (L.set i (G, l.set o v)).map (·.1) = L.map (·.1) := by
    rw [List.map_set]
    refine List.ext_getElem? fun j => ?_
    rw [List.getElem?_set]
    by_cases e : i = j
    · subst e
      rw [if_pos rfl, if_pos (by simpa using hlt)]
      simp [hi]
    · rw [if_neg e]
  refine ⟨by rw [hm]; exact h.1, fun p hp => ?_⟩
  rw [List.mem_iff_getElem?] at hp
  obtain ⟨j, hj⟩ := hp
  rw [List.getElem?_set] at hj
  by_cases e : i = j
  · subst e
    rw [if_pos rfl, if_pos hlt] at hj
    cases hj
    obtain ⟨h1, h2, h3⟩ := h.get i hi
    exact ⟨h1, by simpa using h2, h3.set ho⟩
  · rw [if_neg e] at hj
    obtain ⟨h1, h2, h3⟩ := h.2 p (List.mem_of_getElem? hj)
    refine ⟨h1, by simpa using h2, h3.other fun e' => e ?_⟩
    have hn := h.1
    have hj' : (L.map (·.1))[j]? = some p.1 := by simp [hj]
    have hi' : (L.map (·.1))[i]? = some p.1 := by simp [hi, e']
    have hjl : j < (L.map (·.1)).length := (List.getElem?_eq_some_iff.1 hj').1
    have hil : i < (L.map (·.1)).length := (List.getElem?_eq_some_iff.1 hi').1
    rw [List.getElem?_eq_getElem hil] at hi'
    rw [List.getElem?_eq_getElem hjl] at hj'
    have heq : (L.map (·.1))[i] = (L.map (·.1))[j] := by rw [Option.some.inj hi', Option.some.inj hj']
    have hp := List.pairwise_iff_getElem.1 hn
    rcases Nat.lt_trichotomy i j with h4 | h4 | h4
    · exact absurd heq (hp i j hil hjl h4)
    · exact h4
    · exact absurd heq.symm (hp j i hjl hil h4)
/-- what stays when a block of one type may be written -/
def RSp (t : TypeId) (w w' : World) : Prop := w.heap.size ≤ w'.heap.size ∧ (∀ b o, Wr w b o → Wr w' b o) ∧ (∀ (G : Nat) (cs : Array Value) (t' : TypeId), t' ≠ t → w.heap[G]? = some (.cells cs t') → w'.heap[G]? = some (.cells cs t')) ∧ ∀ (G : Nat), (∃ cs, w.heap[G]? = some (.cells cs t)) → ∃ cs, w'.heap[G]? = some (.cells cs t)
theorem RSp.refl {t : TypeId} {w : World} : RSp t w w := ⟨Nat.le_refl _, fun _ _ h => h, fun _ _ _ _ h => h, fun _ h => h⟩
theorem RSp.of {t : TypeId} {w w' : World} (h : Below w.heap.size w w') : RSp t w w' := ⟨h.size, fun _ _ hw => wr_below hw h hw.lt, fun G cs t' _ hG => (h.block G (Array.getElem?_eq_some_iff.1 hG).1).trans hG, fun G ⟨cs, hG⟩ => ⟨cs, (h.block G (Array.getElem?_eq_some_iff.1 hG).1).trans hG⟩⟩
theorem RSp.blk {t t' : TypeId} {w w' : World} {N G : Nat} {cs : Array Value} (h : RSp t w w') (hne : t' ≠ t) (hG : Blk N G cs t' w) : Blk N G cs t' w' := ⟨hG.1, Nat.lt_of_lt_of_le hG.2.1 h.1, h.2.2.1 G cs t' hne hG.2.2⟩
theorem RSp.trans {t : TypeId} {a b c : World} (h : RSp t a b) (k : RSp t b c) : RSp t a c := ⟨Nat.le_trans h.1 k.1, fun _ _ hw => k.2.1 _ _ (h.2.1 _ _ hw), fun G cs t' hne hG => k.2.2.1 G cs t' hne (h.2.2.1 G cs t' hne hG), fun G hG => k.2.2.2 G (h.2.2.2 G hG)⟩
theorem RSp.set {t : TypeId} {w : World} {B o : Nat} {v : Value} (hB : ∃ cs, w.heap[B]? = some (.cells cs t)) : RSp t w (w.setCell ⟨B, o, none⟩ v) := by
  obtain ⟨cs, hB⟩ := hB
  have other : ∀ G, G ≠ B → (w.setCell ⟨B, o, none⟩ v).heap[G]? = w.heap[G]? := fun G hne => by
    simp only [World.setCell, Array.getElem?_modify]
    rw [if_neg (Ne.symm hne)]
  have same : ∃ cs, (w.setCell ⟨B, o, none⟩ v).heap[B]? = some (.cells cs t) := by
    simp [World.setCell, Array.getElem?_modify, hB]
  refine ⟨by simp, fun b o' h => by rw [wr_set]; exact h, fun G cs' t' hne hG => ?_, fun G ⟨cs', hG⟩ => ?_⟩
  · have hGB : G ≠ B := fun e => by
      subst e
      rw [hB] at hG
      injection hG with hG
      injection hG with _ hG
      exact hne hG.symm
    rw [other G hGB]
    exact hG
  · by_cases e : G = B
    · subst e; exact same
    · exact ⟨cs', by rw [other G e]; exact hG⟩
theorem Blk.arr {N G : Nat} {cs : Array Value} {t : TypeId} {w : World} (h : Blk N G cs t w) {l : List Value} (e : cs.toList = l) : Arr w w.heap.size (some ⟨G, 0, none⟩) l := by rw [← e]; exact h.row.arr h.2.1

end Go.Proofs.YtkhmcofmjjmjhaaDoor
