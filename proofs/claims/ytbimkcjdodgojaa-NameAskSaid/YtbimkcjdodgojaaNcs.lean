/- Name: what is said of a truth: whether it is one, its kinds, what is joined, how many people there are. -/
import Derived.Test.YtbimkcjdodgojaaNcc
import Derived.Test.YtbimkcjdodgojaaNo
namespace Go.Proofs.Ytbimkcjdodgojaa
set_option linter.unusedSimpArgs false
set_option linter.unusedVariables false
open Go Go.RowKit

theorem OkP.len {cs : List (List Nat)} : ∀ {k m : Nat} {u s : Prs}, OkP cs k m u s → k + s.length ≤ m ∨ s = []
 | _, _, _, [], _ => .inr rfl
 | k, m, u, p :: s, ⟨h1, h2, _, _, h5⟩ => .inl (by
  rcases h5.len with h | h
  ·simp only [List.length_cons]; omega
  ·subst h; simp only [List.length_singleton]; omega)
theorem can_in {b : Bk} (ho : b.ok = true) {i k : Nat} (hi : i < b.lines.length) (hk : k < b.lines.length) : pCanR b i k = (canL b (b.lines.getD i zeroLn) (b.lines.getD k zeroLn), 0) := by
 have hb : ∀ j, j < b.lines.length → lineOfB b (j : Int) 0 1 = true := fun j hj => by
  have hl : lineB b.lines[j] = true := by
   unfold Bk.ok at ho
   rw [Bool.and_eq_true, Bool.and_eq_true] at ho
   exact List.all_eq_true.1 ho.2.2 _ (List.getElem_mem hj)
  have e : b.at (j : Int) = b.lines[j] := by unfold Bk.at; rw [Int.toNat_natCast, List.getD_eq_getElem?_getD]; simp [hj]
  unfold lineOfB inLines
  rw [e]
  unfold lineB at hl
  simp only [Bool.and_eq_true, decide_eq_true_eq] at hl ⊢
  exact ⟨⟨by omega, by omega⟩, hl.1.1.1, hl.1.1.2⟩
 unfold pCanR
 rw [ho, hb i hi, hb k hk]
 rfl
theorem book_ok {b : Bk} (ho : b.ok = true) {j : Nat} (hj : j < b.lines.length) : 0 ≤ b.lines[j].book ∧ b.lines[j].book ≤ 1 := by
 have hl : lineB b.lines[j] = true := by
  unfold Bk.ok at ho
  rw [Bool.and_eq_true, Bool.and_eq_true] at ho
  exact List.all_eq_true.1 ho.2.2 _ (List.getElem_mem hj)
 unfold lineB at hl
 simp only [Bool.and_eq_true, decide_eq_true_eq] at hl
 exact hl.1.1
/-- is a pair one of several? -/
def hasP (t : Prs) (p : Nat × Nat) : Bool := t.contains p
theorem has_take (t : Prs) (p : Nat × Nat) (k : Nat) (h : k < t.length) : hasP (t.take (k + 1)) p = (hasP (t.take k) p || (decide ((t[k].1 : Int) = p.1) && decide ((t[k].2 : Int) = p.2))) := by
 unfold hasP
 rw [List.take_succ_eq_append_getElem h, Bool.eq_iff_iff, Bool.or_eq_true, List.contains_iff_mem, List.contains_iff_mem, List.mem_append, List.mem_singleton, Bool.and_eq_true, decide_eq_true_eq, decide_eq_true_eq]
 constructor
 ·rintro (h1 | h1)
  ·exact .inl h1
  ·exact .inr ⟨by rw [← h1], by rw [← h1]⟩
 ·rintro (h1 | ⟨h1, h2⟩)
  ·exact .inl h1
  ·exact .inr (Prod.ext (by omega) (by omega))
theorem pairs_cast (t : Prs) : pairsI (t.map castP) = pairsV t := by
 unfold pairsI pairsV
 rw [List.flatMap_map]
 rfl
theorem same_iff (t u : Prs) : sameP t (u.map castP) = decide (t = u) := by
 unfold sameP
 rw [Bool.eq_iff_iff, beq_iff_eq, decide_eq_true_eq]
 constructor
 ·intro h
  refine List.ext_getElem (by simpa using congrArg List.length h) fun i h1 h2 => ?_
  have := congrArg (fun l => l[i]?) h
  simp only [List.getElem?_map, List.getElem?_eq_getElem h1, List.getElem?_eq_getElem h2, Option.map_some, Option.some.injEq] at this
  unfold castP at this
  have h3 := congrArg Prod.fst this
  have h4 := congrArg Prod.snd this
  simp only at h3 h4
  exact Prod.ext (by omega) (by omega)
 ·rintro rfl; rfl
theorem is_truth {b : Bk} (ho : b.ok = true) (t : Prs) : pIsTruthR b (t.map castP) = (decide (t ∈ b.ts), 0) := by
 unfold pIsTruthR
 rw [ho, if_pos rfl]
 congr 1
 rw [Bool.eq_iff_iff, List.any_eq_true, decide_eq_true_eq]
 constructor
 ·rintro ⟨u, hu, h⟩
  rw [same_iff, decide_eq_true_eq] at h
  exact h ▸ hu
 ·intro h
  exact ⟨t, h, by rw [same_iff, decide_eq_true_eq]⟩
theorem in_ts {b : Bk} {t : Prs} (hOk : OkP (couldsP b) 0 b.lines.length [] t) : decide (t ∈ b.ts) = decide ((b.lines.length : Int) - 2 * t.length ≤ b.lost) := by
 rw [Bool.eq_iff_iff, decide_eq_true_eq, decide_eq_true_eq]
 exact ⟨fun h => ((mem_ts (sides_bk b) b.lost t).1 h).2, fun h => (mem_ts (sides_bk b) b.lost t).2 ⟨hOk, h⟩⟩
theorem set_ok {b : Bk} (ho : b.ok = true) : setE b true = if b.ts.length = 0 then 22 else 0 := by
 unfold setE refE
 rw [ho]
 rfl
theorem line_of {b : Bk} {i : Nat} (hi : i < b.lines.length) {x : Int} (h : b.lines[i].book = x) : lineOfB b i x x = true := by
 have e : b.at (i : Int) = b.lines[i] := by unfold Bk.at; rw [Int.toNat_natCast, List.getD_eq_getElem?_getD]; simp [hi]
 unfold lineOfB inLines
 rw [e, h]
 simp; omega
/-- what Kind says of a pair of a truth -/
theorem kind_in {b : Bk} (ho : b.ok = true) {t : Prs} (ht : t ∈ b.ts) {p : Nat × Nat} (hp : p ∈ t) : ∃ kk : Int, (kk = 1 ∨ kk = 2) ∧ decide (kk = 2) = (decide ((b.ts.length : Int) = 1) || hasP (pJoinedL b) p) ∧ pKindR b p.1 p.2 = (kk, 0) := by
 have hne : b.ts.length ≠ 0 := fun e => by rw [List.eq_nil_of_length_eq_zero e] at ht; cases ht
 have hset : setE b true = 0 := by rw [set_ok ho, if_neg hne]
 obtain ⟨k1, k2⟩ := kind_law (sides_bk b) (ok_nine ho) b.lost ht hp
 have hok := ((mem_ts (sides_bk b) b.lost t).1 ht).1
 obtain ⟨_, _, h3, _⟩ := hok.firsts p hp
 obtain ⟨m1, m2, m3, m4⟩ := (mem_coulds b p.1 p.2).1 h3
 have m5 := (sides_bk b _ _ h3).2.2.2
 have z1 : b.lines[p.1].book = 0 := by
  unfold zB at m3
  rw [List.getD_eq_getElem?_getD] at m3
  simpa [m1] using m3
 have z2 : b.lines[p.2].book = 1 := by
  unfold zB at m5
  rw [List.getD_eq_getElem?_getD] at m5
  have h5 : ¬ b.lines[p.2].book = 0 := by simpa [m2] using m5
  have := book_ok ho m2
  omega
 refine ⟨kindP (cntP b.lines.length b.ts p.1 p.2) b.ts.length, k1, ?_, ?_⟩
 ·rw [show pJoinedL b = joinK (fun i o => kindP (cntP b.lines.length b.ts i o) b.ts.length == 2) (couldsP b) 9 by unfold pJoinedL; rw [hset, if_pos rfl]]
  exact k2
 ·unfold pKindR
  rw [line_of m1 z1, line_of m2 z2, Bool.and_self, hset, if_pos rfl]
theorem join_in {b : Bk} (ho : b.ok = true) {t : Prs} (ht : t ∈ b.ts) {p : Nat × Nat} (hp : p ∈ pJoinedL b) : matchP t p.1 = p.2 := by
 have hne : b.ts.length ≠ 0 := fun e => by rw [List.eq_nil_of_length_eq_zero e] at ht; cases ht
 have hset : setE b true = 0 := by rw [set_ok ho, if_neg hne]
 unfold pJoinedL at hp
 rw [hset, if_pos rfl] at hp
 exact ((join_law (sides_bk b) b.ts p.1 p.2).1 hp).2.2 t ht
theorem joined_len {b : Bk} (h : b.lines.length ≤ 9) : (pJoinedL b).length ≤ 81 := by
 unfold pJoinedL
 split
 ·exact joinK_len _ _ (couldsP_nine h) 9
 ·simp
theorem peo_in {b : Bk} (ho : b.ok = true) {t : Prs} (ht : t ∈ b.ts) : (pPeopleR b).1 ≤ (b.lines.length : Int) - t.length ∧ (b.lines.length : Int) - t.length ≤ (pPeopleR b).2 := by
 have hne : b.ts.length ≠ 0 := fun e => by rw [List.eq_nil_of_length_eq_zero e] at ht; cases ht
 have hset : setE b true = 0 := by rw [set_ok ho, if_neg hne]
 unfold pPeopleR
 rw [hset, if_pos rfl]
 exact people_in _ ht
end Go.Proofs.Ytbimkcjdodgojaa
