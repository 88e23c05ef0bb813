/- ClockKnown: the rows of the clocks that are none, and what each of them is. -/
import Derived.Test.YtnkbcapikenbbaaW18
import Derived.Test.YtnkbcapikenbbaaF
namespace Go.Proofs.Ytnkbcapikenbbaa
set_option linter.unusedSimpArgs false
set_option linter.unusedVariables false
open Go.RowKit Go.Shelf
attribute [local go_sem high] cell_set_wr
attribute [local go_sem low] cell_wr frozen_wr
attribute [local go_sem] wr_set wr_drew wr_drewN wr_alloc wr_new

/-- rows in memory, each a block of its own from some block on, each cell of which can be written -/
def Rws (N : Nat) (w : World) (L : List (Nat × List Value)) : Prop := (L.map (·.1)).Nodup ∧ ∀ p ∈ L, N ≤ p.1 ∧ p.1 < w.heap.size ∧ Row w p.1 p.2
theorem Rws.below {N : Nat} {w w' : World} {L : List (Nat × List Value)} (h : Rws N w L) (hb : Below w.heap.size w w') : Rws N w' L :=
  ⟨h.1, fun p hp => let ⟨h1, h2, h3⟩ := h.2 p hp; ⟨h1, Nat.lt_of_lt_of_le h2 hb.size, h3.below hb h2⟩⟩
theorem Rws.get {N : Nat} {w : World} {L : List (Nat × List Value)} (h : Rws N w L) (i : Nat) {G : Nat} {l : List Value} (hi : L[i]? = some (G, l)) : N ≤ G ∧ G < w.heap.size ∧ Row w G l := h.2 (G, l) (List.mem_of_getElem? hi)
theorem Rws.set {N : Nat} {w : World} {L : List (Nat × List Value)} (h : Rws N w L) (i : Nat) {G o : Nat} {l : List Value} (v : Value) (hi : L[i]? = some (G, l)) (ho : o < l.length) : Rws N (w.setCell ⟨G, o, none⟩ v) (L.set i (G, l.set o v)) := by
  have hlt : i < L.length := (List.getElem?_eq_some_iff.1 hi).1
  have hm : (L.set i (G, l.set o v)).map (·.1) = L.map (·.1) := by
    rw [List.map_set]
    refine List.ext_getElem? fun j => ?_
    rw [List.getElem?_set]
    by_cases e : i = j
    · subst e
      rw [if_pos rfl, if_pos (by simpa using hlt)]
      simp [hi]
    · rw [if_neg e]
  refine ⟨by rw [hm]; exact h.1, fun p hp => ?_⟩
  rw [List.mem_iff_getElem?] at hp
  obtain ⟨j, hj⟩ := hp
  rw [List.getElem?_set] at hj
  by_cases e : i = j
  · subst e
    rw [if_pos rfl, if_pos hlt] at hj
    cases hj
    obtain ⟨h1, h2, h3⟩ := h.get i hi
    exact ⟨h1, by simpa using h2, h3.set ho⟩
  · rw [if_neg e] at hj
    obtain ⟨h1, h2, h3⟩ := h.2 p (List.mem_of_getElem? hj)
    refine ⟨h1, by simpa using h2, h3.other fun e' => e ?_⟩
    have hn := h.1
    have hj' : (L.map (·.1))[j]? = some p.1 := by simp [hj]
    have hi' : (L.map (·.1))[i]? = some p.1 := by simp [hi, e']
    have hjl : j < (L.map (·.1)).length := (List.getElem?_eq_some_iff.1 hj').1
    have hil : i < (L.map (·.1)).length := (List.getElem?_eq_some_iff.1 hi').1
    rw [List.getElem?_eq_getElem hil] at hi'
    rw [List.getElem?_eq_getElem hjl] at hj'
    have heq : (L.map (·.1))[i] = (L.map (·.1))[j] := by rw [Option.some.inj hi', Option.some.inj hj']
    have hp := List.pairwise_iff_getElem.1 hn
    rcases Nat.lt_trichotomy i j with h4 | h4 | h4
    · exact absurd heq (hp i j hil hjl h4)
    · exact h4
    · exact absurd heq.symm (hp j i hjl hil h4)
theorem fits_one {n t : Nat} {v : Value} {a : Act} (h1 : a.defers = []) (h2 : a.tmps.size = n) (h3 : a.tmps[t]? = some v) : Fits n [(t, v)] a := ⟨h1, h2, fun t' v' h => by
  simp only [lk] at h
  by_cases e : t = t'
  · subst e; rw [if_pos rfl] at h; cases h; exact h3
  · rw [if_neg e] at h; cases h⟩
/-- the first statement's blocks, as rows -/
theorem bad_rows {N : Nat} {v : Value} {w : World} (h : Bad1 N v w) : ∃ Y M a b c d e, v = .slice (some ⟨Y, 0, none⟩) 8 8 ∧
    Rws N w [(Y, (YC M a b c d e).toList), (M, ZC.toList), (a, FC.toList), (b, FC.toList), (c, FC.toList), (d, FC.toList), (e, FC.toList)] := by
  obtain ⟨Y, M, a, b, c, d, e, rfl, hY, hM, ⟨h1, h2, h3, h4, h5⟩, hn⟩ := h
  have ne : ∀ {G G' : Nat} {cs cs' : Array Value} {t t' : TypeId}, Blk N G cs t w → Blk N G' cs' t' w → cs ≠ cs' → G ≠ G' := fun q1 q2 hne e => by
    subst e
    have := q1.2.2.symm.trans q2.2.2
    injection this with this
    injection this with this _
    exact hne this
  have sYZ : YC M a b c d e ≠ ZC := by intro h; have := congrArg Array.toList h; simp [YC, ZC] at this
  have sYF : YC M a b c d e ≠ FC := by intro h; have := congrArg Array.size h; simp [YC, FC] at this
  have sZF : ZC ≠ FC := by intro h; have := congrArg Array.size h; simp [ZC, FC] at this
  refine ⟨Y, M, a, b, c, d, e, rfl, ?_, ?_⟩
  · simp only [List.map_cons, List.map_nil]
    rw [List.nodup_cons, List.nodup_cons]
    refine ⟨?_, ?_, hn⟩
    · simp only [List.mem_cons, List.not_mem_nil, or_false, not_or]
      exact ⟨ne hY hM sYZ, ne hY h1 sYF, ne hY h2 sYF, ne hY h3 sYF, ne hY h4 sYF, ne hY h5 sYF⟩
    · simp only [List.mem_cons, List.not_mem_nil, or_false, not_or]
      exact ⟨ne hM h1 sZF, ne hM h2 sZF, ne hM h3 sZF, ne hM h4 sZF, ne hM h5 sZF⟩
  · intro p hp
    simp only [List.mem_cons, List.not_mem_nil, or_false] at hp
    rcases hp with rfl | rfl | rfl | rfl | rfl | rfl | rfl
    · exact ⟨hY.1, hY.2.1, hY.row⟩
    · exact ⟨hM.1, hM.2.1, hM.row⟩
    · exact ⟨h1.1, h1.2.1, h1.row⟩
    · exact ⟨h2.1, h2.2.1, h2.row⟩
    · exact ⟨h3.1, h3.2.1, h3.row⟩
    · exact ⟨h4.1, h4.2.1, h4.row⟩
    · exact ⟨h5.1, h5.2.1, h5.row⟩
end Go.Proofs.Ytnkbcapikenbbaa
