/- Name: how many truths are left, counted: without two lines that are paired, and without a line that is not. -/
import Derived.Test.YtbimkcjdodgojaaNcs
import Derived.Test.YtbimkcjdodgojaaNcl
import Derived.Test.YtbimkcjdodgojaaNbd
namespace Go.Proofs.Ytbimkcjdodgojaa
set_option linter.unusedSimpArgs false
set_option linter.unusedVariables false
open Go Go.RowKit

/-- strictly increasing firsts, no second twice, each pair allowed -/
def Good (cs : List (List Nat)) (k m : Nat) (t : Prs) : Prop := (t.map (·.1)).Pairwise (· < ·) ∧ (t.map (·.2)).Nodup ∧ ∀ p ∈ t, k ≤ p.1 ∧ p.1 < m ∧ p.2 ∈ cs.getD p.1 []
theorem okP_good {cs : List (List Nat)} {m : Nat} : ∀ {k : Nat} {u t : Prs}, OkP cs k m u t ↔ Good cs k m t ∧ ∀ p ∈ t, usedP u p.2 = false
 | k, u, [] => ⟨fun _ => ⟨⟨List.Pairwise.nil, List.nodup_nil, fun _ h => absurd h List.not_mem_nil⟩, fun _ h => absurd h List.not_mem_nil⟩, fun _ => trivial⟩
 | k, u, p :: s => by
  constructor
  ·rintro ⟨h1, h2, h3, h4, h5⟩
   obtain ⟨⟨g1, g2, g3⟩, g4⟩ := okP_good.1 h5
   refine ⟨⟨?_, ?_, fun q hq => ?_⟩, fun q hq => ?_⟩
   ·rw [List.map_cons, List.pairwise_cons]
    refine ⟨fun x hx => ?_, g1⟩
    obtain ⟨q, hq, rfl⟩ := List.mem_map.1 hx
    have := (g3 q hq).1
    omega
   ·rw [List.map_cons, List.nodup_cons]
    refine ⟨fun hx => ?_, g2⟩
    obtain ⟨q, hq, e⟩ := List.mem_map.1 hx
    have := g4 q hq
    unfold usedP at this
    rw [List.any_append, Bool.or_eq_false_iff] at this
    simp [e] at this
   ·rcases List.mem_cons.1 hq with rfl | hq
    ·exact ⟨h1, h2, h3⟩
    ·obtain ⟨a, b, c⟩ := g3 q hq
     exact ⟨by omega, b, c⟩
   ·rcases List.mem_cons.1 hq with rfl | hq
    ·exact h4
    ·have := g4 q hq
     unfold usedP at this ⊢
     rw [List.any_append, Bool.or_eq_false_iff] at this
     exact this.1
  ·rintro ⟨⟨g1, g2, g3⟩, g4⟩
   rw [List.map_cons, List.pairwise_cons] at g1
   rw [List.map_cons, List.nodup_cons] at g2
   obtain ⟨a, b, c⟩ := g3 p (List.mem_cons_self ..)
   refine ⟨a, b, c, g4 p (List.mem_cons_self ..), okP_good.2 ⟨⟨g1.2, g2.2, fun q hq => ?_⟩, fun q hq => ?_⟩⟩
   ·obtain ⟨_, d, e⟩ := g3 q (List.mem_cons_of_mem _ hq)
    exact ⟨g1.1 _ (List.mem_map_of_mem (f := (·.1)) hq), d, e⟩
   ·unfold usedP
    rw [List.any_append, Bool.or_eq_false_iff]
    refine ⟨g4 q (List.mem_cons_of_mem _ hq), ?_⟩
    have hne : ¬ p.2 = q.2 := fun e => g2.1 (e ▸ List.mem_map_of_mem (f := (·.2)) hq)
    simp [hne]
theorem ok_good {cs : List (List Nat)} {m : Nat} {t : Prs} : OkP cs 0 m [] t ↔ Good cs 0 m t := by
 rw [okP_good]
 exact ⟨fun h => h.1, fun h => ⟨h, fun _ _ => rfl⟩⟩
/-- no truth is listed twice -/
theorem from_nodup {n : Nat} {lost : Int} {cs : List (List Nat)} (hc : ∀ k, (cs.getD k []).Nodup) : ∀ (r k : Nat) (u : Prs), (fromP n lost cs r k u).Nodup
 | 0, k, u => by
  unfold fromP
  split
  ·exact List.nodup_cons.2 ⟨List.not_mem_nil, List.nodup_nil⟩
  ·exact List.nodup_nil
 | r + 1, k, u => by
  unfold fromP
  rw [List.nodup_append]
  refine ⟨?_, from_nodup hc r (k + 1) u, fun a ha b hb e => ?_⟩
  ·have hn : ((cs.getD k []).filter fun o => !usedP u o).Nodup := (hc k).filter _
   generalize ((cs.getD k []).filter fun o => !usedP u o) = l at hn
   induction l with
   | nil => exact List.nodup_nil
   | cons o l ih =>
    rw [List.nodup_cons] at hn
    rw [List.flatMap_cons, List.nodup_append]
    refine ⟨from_nodup hc r (k + 1) _, ih hn.2, fun a ha b hb e => ?_⟩
    obtain ⟨s, rfl, _, _⟩ := (mem_from _ _ _ _ _ _ _).1 ha
    obtain ⟨o', ho', hb'⟩ := List.mem_flatMap.1 hb
    obtain ⟨s', rfl, _, _⟩ := (mem_from _ _ _ _ _ _ _).1 hb'
    rw [List.append_assoc, List.append_assoc] at e
    have h1 := List.append_cancel_left e
    simp only [List.singleton_append, List.cons.injEq, Prod.mk.injEq, true_and] at h1
    exact hn.1 (h1.1 ▸ ho')
  ·obtain ⟨o, ho, ha'⟩ := List.mem_flatMap.1 ha
   obtain ⟨s, rfl, _, _⟩ := (mem_from _ _ _ _ _ _ _).1 ha'
   obtain ⟨s', rfl, hs', _⟩ := (mem_from _ _ _ _ _ _ _).1 hb
   rw [List.append_assoc] at e
   have h1 := List.append_cancel_left e
   subst h1
   have := hs'.1
   simp only [List.singleton_append] at hs'
   exact absurd hs'.1 (by omega)
theorem len_le {α : Type} [DecidableEq α] : ∀ {l m : List α}, l.Nodup → (∀ x ∈ l, x ∈ m) → l.length ≤ m.length
 | [], _, _, _ => Nat.zero_le _
 | a :: l, m, hn, hs => by
  rw [List.nodup_cons] at hn
  have ha : a ∈ m := hs a (List.mem_cons_self ..)
  have ih := len_le (m := m.erase a) hn.2 fun x hx => (List.mem_erase_of_ne (fun (e : x = a) => hn.1 (e ▸ hx))).2 (hs x (List.mem_cons_of_mem _ hx))
  rw [List.length_erase_of_mem ha] at ih
  have := List.length_pos_of_mem ha
  simp only [List.length_cons]
  omega
/-- as many as there are pictures -/
theorem len_map {α β : Type} [DecidableEq β] {l : List α} {m : List β} {g : α → β} (hl : l.Nodup) (hm : m.Nodup) (hg : ∀ x ∈ l, ∀ y ∈ l, g x = g y → x = y) (h1 : ∀ x ∈ l, g x ∈ m) (h2 : ∀ y ∈ m, ∃ x ∈ l, g x = y) : l.length = m.length := by
 have hn : (l.map g).Nodup := by
  clear h1 h2
  induction l with
  | nil => exact List.nodup_nil
  | cons a l ih =>
   rw [List.nodup_cons] at hl
   rw [List.map_cons, List.nodup_cons]
   refine ⟨fun h => ?_, ih hl.2 fun x hx y hy => hg x (List.mem_cons_of_mem _ hx) y (List.mem_cons_of_mem _ hy)⟩
   obtain ⟨x, hx, e⟩ := List.mem_map.1 h
   exact hl.1 (hg x (List.mem_cons_of_mem _ hx) a (List.mem_cons_self ..) e ▸ hx)
 have a1 := len_le hn (m := m) fun y hy => by
  obtain ⟨x, hx, rfl⟩ := List.mem_map.1 hy
  exact h1 x hx
 have a2 := len_le hm (m := l.map g) fun y hy => by
  obtain ⟨x, hx, rfl⟩ := h2 y hy
  exact List.mem_map_of_mem hx
 rw [List.length_map] at a1 a2
 omega
/-- the lines that are left -/
def keepN (n : Nat) (out : List Nat) : List Nat := (List.range n).filter fun i => !out.contains i
theorem mem_keep {n : Nat} {out : List Nat} {j : Nat} : j ∈ keepN n out ↔ j < n ∧ j ∉ out := by
 unfold keepN
 rw [List.mem_filter, List.mem_range, Bool.not_eq_true', ← Bool.not_eq_true, List.contains_iff_mem]
theorem keep_inc (n : Nat) (out : List Nat) : (keepN n out).Pairwise (· < ·) := List.Pairwise.filter _ List.pairwise_lt_range
theorem getD_lt' {l : List Nat} {i : Nat} (h : i < l.length) : l.getD i 0 = l[i] := by rw [List.getD_eq_getElem?_getD, List.getElem?_eq_getElem h]; rfl
theorem inc_lt {l : List Nat} (hp : l.Pairwise (· < ·)) {i j : Nat} (hi : i < l.length) (hj : j < l.length) : l.getD i 0 < l.getD j 0 ↔ i < j := by
 rw [getD_lt' hi, getD_lt' hj]
 have key : ∀ a b (ha : a < l.length) (hb : b < l.length), a < b → l[a] < l[b] := fun a b ha hb hab => List.pairwise_iff_getElem.1 hp a b ha hb hab
 constructor
 ·intro h
  rcases Nat.lt_trichotomy i j with e | e | e
  ·exact e
  ·subst e; omega
  ·have := key j i hj hi e; omega
 ·exact key i j hi hj
theorem inc_eq {l : List Nat} (hp : l.Pairwise (· < ·)) {i j : Nat} (hi : i < l.length) (hj : j < l.length) (h : l.getD i 0 = l.getD j 0) : i = j := by
 rcases Nat.lt_trichotomy i j with e | e | e
 ·have := (inc_lt hp hi hj).2 e; omega
 ·exact e
 ·have := (inc_lt hp hj hi).2 e; omega
theorem idx_at {l : List Nat} {j : Nat} (h : j ∈ l) : l.idxOf j < l.length ∧ l.getD (l.idxOf j) 0 = j := by
 have h1 := List.idxOf_lt_length_of_mem h
 exact ⟨h1, by rw [getD_lt' h1]; exact List.getElem_idxOf h1⟩
/-- pairs, by the numbers that their lines had -/
def upP (K : List Nat) (t : Prs) : Prs := t.map fun p => (K.getD p.1 0, K.getD p.2 0)
theorem line_up (b : Bk) (out : List Nat) {j : Nat} (hj : j < (keepN b.lines.length out).length) : (b.without out).lines.getD j zeroLn = b.lines.getD ((keepN b.lines.length out).getD j 0) zeroLn := by
 show (dropK b.lines out b.lines.length).getD j zeroLn = _
 have e : dropK b.lines out b.lines.length = (keepN b.lines.length out).map fun i => b.lines.getD i zeroLn := rfl
 rw [e, List.getD_eq_getElem?_getD, List.getElem?_map, List.getElem?_eq_getElem hj, getD_lt' hj]
 rfl
theorem without_len (b : Bk) (out : List Nat) : (b.without out).lines.length = (keepN b.lines.length out).length := by
 show (dropK b.lines out b.lines.length).length = _
 exact List.length_map ..
theorem coulds_up (b : Bk) (out : List Nat) {i o : Nat} (hi : i < (keepN b.lines.length out).length) (ho : o < (keepN b.lines.length out).length) : o ∈ (couldsP (b.without out)).getD i [] ↔ (keepN b.lines.length out).getD o 0 ∈ (couldsP b).getD ((keepN b.lines.length out).getD i 0) [] := by
 have ki : (keepN b.lines.length out).getD i 0 < b.lines.length := by rw [getD_lt' hi]; exact (mem_keep.1 (List.getElem_mem hi)).1
 have ko : (keepN b.lines.length out).getD o 0 < b.lines.length := by rw [getD_lt' ho]; exact (mem_keep.1 (List.getElem_mem ho)).1
 rw [mem_coulds, mem_coulds, without_len]
 unfold zB
 rw [line_up b out hi, line_up b out ho]
 exact ⟨fun ⟨_, _, h3, h4⟩ => ⟨ki, ko, h3, h4⟩, fun ⟨_, _, h3, h4⟩ => ⟨hi, ho, h3, h4⟩⟩
theorem up_good {b : Bk} {out : List Nat} {s : Prs} (h : Good (couldsP (b.without out)) 0 (b.without out).lines.length s) : Good (couldsP b) 0 b.lines.length (upP (keepN b.lines.length out) s) ∧ ∀ p ∈ upP (keepN b.lines.length out) s, p.1 ∉ out ∧ p.2 ∉ out := by
 obtain ⟨h1, h2, h3⟩ := h
 rw [without_len] at h3
 have hK := keep_inc b.lines.length out
 have hb : ∀ p ∈ s, p.1 < (keepN b.lines.length out).length ∧ p.2 < (keepN b.lines.length out).length := fun p hp => by
  obtain ⟨_, a, c⟩ := h3 p hp
  have := ((mem_coulds _ _ _).1 c).2.1
  rw [without_len] at this
  exact ⟨a, this⟩
 refine ⟨⟨?_, ?_, fun q hq => ?_⟩, fun q hq => ?_⟩
 ·unfold upP
  rw [List.map_map, List.pairwise_map]
  rw [List.pairwise_map] at h1
  exact h1.imp_of_mem fun ha hc hlt => (inc_lt hK (hb _ ha).1 (hb _ hc).1).2 hlt
 ·unfold upP List.Nodup
  rw [List.map_map, List.pairwise_map]
  unfold List.Nodup at h2
  rw [List.pairwise_map] at h2
  exact h2.imp_of_mem fun ha hc hne e => hne (inc_eq hK (hb _ ha).2 (hb _ hc).2 e)
 ·obtain ⟨p, hp, rfl⟩ := List.mem_map.1 hq
  obtain ⟨_, a, c⟩ := h3 p hp
  have c' := (coulds_up b out (hb p hp).1 (hb p hp).2).1 c
  exact ⟨Nat.zero_le _, ((mem_coulds _ _ _).1 c').1, c'⟩
 ·obtain ⟨p, hp, rfl⟩ := List.mem_map.1 hq
  obtain ⟨a, c⟩ := hb p hp
  simp only
  rw [getD_lt' a, getD_lt' c]
  exact ⟨(mem_keep.1 (List.getElem_mem a)).2, (mem_keep.1 (List.getElem_mem c)).2⟩
theorem down_good {b : Bk} {out : List Nat} {t : Prs} (h : Good (couldsP b) 0 b.lines.length t) (hout : ∀ p ∈ t, p.1 ∉ out ∧ p.2 ∉ out) : ∃ s, Good (couldsP (b.without out)) 0 (b.without out).lines.length s ∧ upP (keepN b.lines.length out) s = t := by
 obtain ⟨h1, h2, h3⟩ := h
 have hK := keep_inc b.lines.length out
 have hb : ∀ p ∈ t, p.1 ∈ keepN b.lines.length out ∧ p.2 ∈ keepN b.lines.length out := fun p hp => by
  obtain ⟨m1, m2, _, _⟩ := (mem_coulds _ _ _).1 (h3 p hp).2.2
  obtain ⟨a, c⟩ := hout p hp
  exact ⟨mem_keep.2 ⟨m1, a⟩, mem_keep.2 ⟨m2, c⟩⟩
 refine ⟨t.map fun p => ((keepN b.lines.length out).idxOf p.1, (keepN b.lines.length out).idxOf p.2), ⟨?_, ?_, fun q hq => ?_⟩, ?_⟩
 ·rw [List.map_map, List.pairwise_map]
  rw [List.pairwise_map] at h1
  refine h1.imp_of_mem fun {a c} ha hc hlt => ?_
  obtain ⟨i1, i2⟩ := idx_at (hb a ha).1
  obtain ⟨j1, j2⟩ := idx_at (hb c hc).1
  refine (inc_lt hK i1 j1).1 ?_
  rw [i2, j2]; exact hlt
 ·unfold List.Nodup at h2 ⊢
  rw [List.map_map, List.pairwise_map]
  rw [List.pairwise_map] at h2
  refine h2.imp_of_mem fun {a c} ha hc hne e => hne ?_
  have i2 := (idx_at (hb a ha).2).2
  have j2 := (idx_at (hb c hc).2).2
  have e' : (keepN b.lines.length out).idxOf a.2 = (keepN b.lines.length out).idxOf c.2 := e
  rw [← i2, ← j2, e']
 ·obtain ⟨p, hp, rfl⟩ := List.mem_map.1 hq
  obtain ⟨i1, i2⟩ := idx_at (hb p hp).1
  obtain ⟨j1, j2⟩ := idx_at (hb p hp).2
  refine ⟨Nat.zero_le _, by rw [without_len]; exact i1, (coulds_up b out i1 j1).2 ?_⟩
  rw [i2, j2]
  exact (h3 p hp).2.2
 ·unfold upP
  rw [List.map_map]
  refine (List.map_congr_left fun p hp => ?_).trans (List.map_id t)
  simp only [Function.comp]
  rw [(idx_at (hb p hp).1).2, (idx_at (hb p hp).2).2]
  rfl
theorem up_inj {K : List Nat} (hK : K.Pairwise (· < ·)) : ∀ {s s' : Prs}, (∀ p ∈ s, p.1 < K.length ∧ p.2 < K.length) → (∀ p ∈ s', p.1 < K.length ∧ p.2 < K.length) → upP K s = upP K s' → s = s'
 | [], [], _, _, _ => rfl
 | [], p :: s', _, _, h => by simp [upP] at h
 | p :: s, [], _, _, h => by simp [upP] at h
 | p :: s, q :: s', h1, h2, h => by
  unfold upP at h
  rw [List.map_cons, List.map_cons, List.cons.injEq, Prod.mk.injEq] at h
  obtain ⟨⟨e1, e2⟩, e3⟩ := h
  obtain ⟨a1, a2⟩ := h1 p (List.mem_cons_self ..)
  obtain ⟨b1, b2⟩ := h2 q (List.mem_cons_self ..)
  have hp : p = q := Prod.ext (inc_eq hK a1 b1 e1) (inc_eq hK a2 b2 e2)
  rw [hp, up_inj hK (fun x hx => h1 x (List.mem_cons_of_mem _ hx)) (fun x hx => h2 x (List.mem_cons_of_mem _ hx)) e3]
/-- a pair laid into pairs, by its first line -/
def insP (p : Nat × Nat) : Prs → Prs
 | [] => [p]
 | q :: l => if q.1 < p.1 then q :: insP p l else p :: q :: l
theorem mem_ins {p x : Nat × Nat} : ∀ {l : Prs}, x ∈ insP p l ↔ x = p ∨ x ∈ l
 | [] => by simp [insP]
 | q :: l => by
  unfold insP
  split
  ·rw [List.mem_cons, mem_ins, List.mem_cons]
   exact ⟨fun h => h.elim (fun h => .inr (.inl h)) fun h => h.elim .inl fun h => .inr (.inr h), fun h => h.elim (fun h => .inr (.inl h)) fun h => h.elim .inl fun h => .inr (.inr h)⟩
  ·rw [List.mem_cons]
theorem ins_len {p : Nat × Nat} : ∀ {l : Prs}, (insP p l).length = l.length + 1
 | [] => rfl
 | q :: l => by
  unfold insP
  split
  ·rw [List.length_cons, ins_len, List.length_cons]
  ·rfl
theorem ins_erase {p : Nat × Nat} : ∀ {l : Prs}, p ∉ l → (insP p l).erase p = l
 | [], _ => by simp [insP]
 | q :: l, h => by
  unfold insP
  have hq : q ≠ p := fun e => h (e ▸ List.mem_cons_self ..)
  split
  ·rw [List.erase_cons_tail (by simpa using hq), ins_erase fun h' => h (List.mem_cons_of_mem _ h')]
  ·rw [List.erase_cons_head]
theorem erase_ins {p : Nat × Nat} : ∀ {l : Prs}, (l.map (·.1)).Pairwise (· < ·) → p ∈ l → insP p (l.erase p) = l
 | [], _, h => by cases h
 | q :: l, hp, h => by
  rw [List.map_cons, List.pairwise_cons] at hp
  by_cases e : q = p
  ·subst e
   rw [List.erase_cons_head]
   cases l with
   | nil => rfl
   | cons r l =>
    have := hp.1 r.1 (by simp)
    unfold insP
    rw [if_neg (by omega)]
  ·have hm : p ∈ l := by rcases List.mem_cons.1 h with h | h; exact absurd h.symm e; exact h
   rw [List.erase_cons_tail (by simpa using e)]
   have hlt := hp.1 p.1 (List.mem_map_of_mem (f := (·.1)) hm)
   unfold insP
   rw [if_pos hlt, erase_ins hp.2 hm]
theorem ins_inc {p : Nat × Nat} : ∀ {l : Prs}, (l.map (·.1)).Pairwise (· < ·) → (∀ q ∈ l, q.1 ≠ p.1) → ((insP p l).map (·.1)).Pairwise (· < ·)
 | [], _, _ => by simp [insP]
 | q :: l, hp, hn => by
  have hp' := hp
  rw [List.map_cons, List.pairwise_cons] at hp
  unfold insP
  split
  ·rename_i hlt
   rw [List.map_cons, List.pairwise_cons]
   refine ⟨fun x hx => ?_, ins_inc hp.2 fun r hr => hn r (List.mem_cons_of_mem _ hr)⟩
   obtain ⟨r, hr, rfl⟩ := List.mem_map.1 hx
   rcases mem_ins.1 hr with rfl | hr
   ·exact hlt
   ·exact hp.1 _ (List.mem_map_of_mem (f := (·.1)) hr)
  ·rename_i hge
   have hne := hn q (List.mem_cons_self ..)
   rw [List.map_cons, List.pairwise_cons]
   refine ⟨fun x hx => ?_, hp'⟩
   rw [List.map_cons, List.mem_cons] at hx
   rcases hx with rfl | hx
   ·omega
   ·have := hp.1 x hx; omega
theorem ins_snd {p : Nat × Nat} : ∀ {l : Prs}, (l.map (·.2)).Nodup → (∀ q ∈ l, q.2 ≠ p.2) → ((insP p l).map (·.2)).Nodup
 | [], _, _ => by simp [insP]
 | q :: l, hp, hn => by
  have hp' := hp
  rw [List.map_cons, List.nodup_cons] at hp
  unfold insP
  split
  ·rw [List.map_cons, List.nodup_cons]
   refine ⟨fun hx => ?_, ins_snd hp.2 fun r hr => hn r (List.mem_cons_of_mem _ hr)⟩
   obtain ⟨r, hr, e⟩ := List.mem_map.1 hx
   rcases mem_ins.1 hr with rfl | hr
   ·exact hn q (List.mem_cons_self ..) e.symm
   ·exact hp.1 (e ▸ List.mem_map_of_mem (f := (·.2)) hr)
  ·rw [List.map_cons, List.nodup_cons]
   refine ⟨fun hx => ?_, hp'⟩
   obtain ⟨r, hr, e⟩ := List.mem_map.1 hx
   exact hn r hr e
theorem ins_good {cs : List (List Nat)} {m : Nat} {t : Prs} {p : Nat × Nat} (h : Good cs 0 m t) (hp : p.1 < m ∧ p.2 ∈ cs.getD p.1 []) (h1 : ∀ q ∈ t, q.1 ≠ p.1) (h2 : ∀ q ∈ t, q.2 ≠ p.2) : Good cs 0 m (insP p t) := by
 obtain ⟨g1, g2, g3⟩ := h
 refine ⟨ins_inc g1 h1, ins_snd g2 h2, fun q hq => ?_⟩
 rcases mem_ins.1 hq with rfl | hq
 ·exact ⟨Nat.zero_le _, hp⟩
 ·exact g3 q hq
theorem erase_good {cs : List (List Nat)} {m : Nat} {t : Prs} {p : Nat × Nat} (h : Good cs 0 m t) (hp : p ∈ t) : Good cs 0 m (t.erase p) ∧ (∀ q ∈ t.erase p, q.1 ≠ p.1) ∧ (∀ q ∈ t.erase p, q.2 ≠ p.2) ∧ (t.erase p).length + 1 = t.length := by
 obtain ⟨g1, g2, g3⟩ := h
 have hsub : (t.erase p).Sublist t := List.erase_sublist ..
 have hnd : t.Nodup := by
  unfold List.Nodup at g2 ⊢
  rw [List.pairwise_map] at g2
  exact g2.imp fun h e => h (by rw [e])
 have hne : ∀ q ∈ t.erase p, q ≠ p := fun q hq e => by
  rw [e] at hq
  exact hnd.not_mem_erase hq
 refine ⟨⟨(g1.sublist (hsub.map _)), (g2.sublist (hsub.map _)), fun q hq => g3 q (hsub.subset hq)⟩, fun q hq e => ?_, fun q hq e => ?_, ?_⟩
 ·rw [List.pairwise_map] at g1
  obtain ⟨i, hi, hqi⟩ := List.getElem_of_mem (hsub.subset hq)
  obtain ⟨j, hj, hpj⟩ := List.getElem_of_mem hp
  have hij : i ≠ j := fun e' => hne q hq (by rw [← hqi, ← hpj]; subst e'; rfl)
  rcases Nat.lt_or_gt_of_ne hij with h | h
  ·have := List.pairwise_iff_getElem.1 g1 i j hi hj h; rw [hqi, hpj] at this; omega
  ·have := List.pairwise_iff_getElem.1 g1 j i hj hi h; rw [hqi, hpj] at this; omega
 ·unfold List.Nodup at g2
  rw [List.pairwise_map] at g2
  obtain ⟨i, hi, hqi⟩ := List.getElem_of_mem (hsub.subset hq)
  obtain ⟨j, hj, hpj⟩ := List.getElem_of_mem hp
  have hij : i ≠ j := fun e' => hne q hq (by rw [← hqi, ← hpj]; subst e'; rfl)
  rcases Nat.lt_or_gt_of_ne hij with h | h
  ·have := List.pairwise_iff_getElem.1 g2 i j hi hj h; rw [hqi, hpj] at this; exact this e
  ·have := List.pairwise_iff_getElem.1 g2 j i hj hi h; rw [hqi, hpj] at this; exact this e.symm
 ·rw [List.length_erase_of_mem hp]
  have := List.length_pos_of_mem hp
  omega
theorem coulds_nodup (b : Bk) (k : Nat) : ((couldsP b).getD k []).Nodup := by
 rw [coulds_at]
 split
 ·unfold couldP
  exact List.Pairwise.filter _ List.nodup_range
 ·exact List.nodup_nil
theorem ts_nodup (b : Bk) : b.ts.Nodup := from_nodup (coulds_nodup b) _ _ _
theorem mem_tsG (b : Bk) (t : Prs) : t ∈ b.ts ↔ Good (couldsP b) 0 b.lines.length t ∧ (b.lines.length : Int) - 2 * t.length ≤ b.lost := by
 unfold Bk.ts
 rw [mem_ts (sides_bk b), ok_good]
theorem good_below {b : Bk} {t : Prs} (h : Good (couldsP b) 0 b.lines.length t) : ∀ p ∈ t, p.1 < b.lines.length ∧ p.2 < b.lines.length := fun p hp => by
 obtain ⟨_, a, c⟩ := h.2.2 p hp
 exact ⟨a, ((mem_coulds _ _ _).1 c).2.1⟩
theorem up_len (K : List Nat) (s : Prs) : (upP K s).length = s.length := by unfold upP; simp
/-- how many lines are left without one, and without two -/
theorem keep_one {n i : Nat} (hi : i < n) : (keepN n [i]).length + 1 = n := by
 have h := countP_ne (P := fun _ => true) (a := i) (List.nodup_range (n := n)) (List.mem_range.2 hi) rfl
 have e1 : keepN n [i] = (List.range n).filter fun x => x != i && true := by
  unfold keepN
  apply List.filter_congr
  intro x _
  rw [Bool.and_true, Bool.eq_iff_iff, Bool.not_eq_true', ← Bool.not_eq_true, List.contains_iff_mem, List.mem_singleton, bne_iff_ne]
 have e2 : ((List.range n).filter fun _ => true).length = n := by rw [List.filter_eq_self.2 fun _ _ => rfl]; simp
 rw [e1]; omega
theorem keep_two {n i k : Nat} (hi : i < n) (hk : k < n) (hne : i ≠ k) : (keepN n [i, k]).length + 2 = n := by
 have h1 := countP_ne (P := fun _ => true) (a := k) (List.nodup_range (n := n)) (List.mem_range.2 hk) rfl
 have h2 := countP_ne (P := fun x => x != k && true) (a := i) (List.nodup_range (n := n)) (List.mem_range.2 hi) (by simpa using hne)
 have e1 : keepN n [i, k] = (List.range n).filter fun x => x != i && (x != k && true) := by
  unfold keepN
  apply List.filter_congr
  intro x _
  rw [Bool.and_true, Bool.eq_iff_iff, Bool.not_eq_true', ← Bool.not_eq_true, List.contains_iff_mem, List.mem_cons, List.mem_singleton, Bool.and_eq_true, bne_iff_ne, bne_iff_ne]
  exact not_or
 have e2 : ((List.range n).filter fun _ => true).length = n := by rw [List.filter_eq_self.2 fun _ _ => rfl]; simp
 rw [e1]; omega
theorem pair_iff {b : Bk} {t : Prs} (ht : t ∈ b.ts) {x y : Nat} (hy : y ∈ (couldsP b).getD x []) : (matchP t x = y ↔ (x, y) ∈ t) ∧ (matchP t y = x ↔ (x, y) ∈ t) := by
 have hok := ok_good.2 ((mem_tsG b t).1 ht).1
 have h1 := match_ok (sides_bk b) hok
 have hs := sides_bk b _ _ hy
 have hno : (y, x) ∉ t := fun h => by
  have := (sides_bk b _ _ (hok.firsts _ h).2.2.1).2.2.1
  simp only at this
  rw [this] at hs
  exact absurd hs.2.2.2 (by simp)
 refine ⟨⟨fun h => ?_, fun h => (h1 _ h).1⟩, ⟨fun h => ?_, fun h => (h1 _ h).2⟩⟩
 ·exact (match_mem h).resolve_right hno
 ·exact (match_mem h).resolve_left hno
theorem cnt_none (b : Bk) {i : Nat} (hi : i < b.lines.length) : ({ b.without [i] with lost := b.lost - 1 } : Bk).ts.length = (b.ts.filter fun t => matchP t i == -1).length := by
 have hmem : ∀ s, s ∈ ({ b.without [i] with lost := b.lost - 1 } : Bk).ts ↔ Good (couldsP (b.without [i])) 0 (b.without [i]).lines.length s ∧ ((b.without [i]).lines.length : Int) - 2 * s.length ≤ b.lost - 1 := fun s => mem_tsG { b.without [i] with lost := b.lost - 1 } s
 have hn := keep_one hi
 have hl := without_len b [i]
 refine len_map (g := upP (keepN b.lines.length [i])) (ts_nodup _) ((ts_nodup b).filter _) (fun s hs s' hs' e => ?_) (fun s hs => ?_) (fun t ht => ?_)
 ·have q1 := good_below ((hmem s).1 hs).1
  have q2 := good_below ((hmem s').1 hs').1
  rw [hl] at q1 q2
  exact up_inj (keep_inc _ _) q1 q2 e
 ·obtain ⟨q1, q2⟩ := (hmem s).1 hs
  obtain ⟨q3, q4⟩ := up_good q1
  rw [List.mem_filter, mem_tsG, up_len]
  refine ⟨⟨q3, by omega⟩, ?_⟩
  rw [matchP_no fun p hp => ?_]
  ·rfl
  ·obtain ⟨a, c⟩ := q4 p hp
   exact ⟨fun e => a (by simp [e]), fun e => c (by simp [e])⟩
 ·rw [List.mem_filter, beq_iff_eq] at ht
  obtain ⟨hts, hm⟩ := ht
  obtain ⟨q1, q2⟩ := (mem_tsG b t).1 hts
  have hok := match_ok (sides_bk b) (ok_good.2 q1)
  have hout : ∀ p ∈ t, p.1 ∉ [i] ∧ p.2 ∉ [i] := fun p hp => by
   obtain ⟨a, c⟩ := hok p hp
   refine ⟨fun e => ?_, fun e => ?_⟩
   ·rw [List.mem_singleton] at e
    rw [e] at a; omega
   ·rw [List.mem_singleton] at e
    rw [e] at c; omega
  obtain ⟨s, q3, q4⟩ := down_good q1 hout
  have hsl : s.length = t.length := by rw [← q4, up_len]
  exact ⟨s, (hmem s).2 ⟨q3, by omega⟩, q4⟩
theorem cnt_pair (b : Bk) {x y : Nat} {out : List Nat} (hout : ∀ j, j ∈ out ↔ j = x ∨ j = y) (hy : y ∈ (couldsP b).getD x []) : (b.without out).ts.length = (b.ts.filter fun t => matchP t x == (y : Int)).length := by
 obtain ⟨x1, y1, z1, z2⟩ := sides_bk b _ _ hy
 have hxy : x ≠ y := fun e => by rw [e, z2] at z1; cases z1
 have hn : (keepN b.lines.length out).length + 2 = b.lines.length := by
  have e : keepN b.lines.length out = keepN b.lines.length [x, y] := by
   unfold keepN
   apply List.filter_congr
   intro j _
   congr 1
   rw [Bool.eq_iff_iff, List.contains_iff_mem, List.contains_iff_mem, hout]
   simp
  rw [e]; exact keep_two x1 y1 hxy
 have hl := without_len b out
 have hmem : ∀ s, s ∈ (b.without out).ts ↔ Good (couldsP (b.without out)) 0 (b.without out).lines.length s ∧ ((b.without out).lines.length : Int) - 2 * s.length ≤ b.lost := fun s => mem_tsG (b.without out) s
 have avoid : ∀ s, Good (couldsP (b.without out)) 0 (b.without out).lines.length s → (∀ q ∈ upP (keepN b.lines.length out) s, q.1 ≠ x) ∧ (∀ q ∈ upP (keepN b.lines.length out) s, q.2 ≠ y) := fun s hs => by
  have h := (up_good hs).2
  exact ⟨fun q hq e => (h q hq).1 ((hout _).2 (.inl e)), fun q hq e => (h q hq).2 ((hout _).2 (.inr e))⟩
 have hnot : ∀ s, Good (couldsP (b.without out)) 0 (b.without out).lines.length s → (x, y) ∉ upP (keepN b.lines.length out) s := fun s hs h => (avoid s hs).1 _ h rfl
 refine len_map (g := fun s => insP (x, y) (upP (keepN b.lines.length out) s)) (ts_nodup _) ((ts_nodup b).filter _) (fun s hs s' hs' e => ?_) (fun s hs => ?_) (fun t ht => ?_)
 ·have q1 := ((hmem s).1 hs).1
  have q2 := ((hmem s').1 hs').1
  have e' := congrArg (fun l => l.erase (x, y)) e
  try simp only at e'
  rw [ins_erase (hnot s q1), ins_erase (hnot s' q2)] at e'
  have r1 := good_below q1
  have r2 := good_below q2
  rw [hl] at r1 r2
  exact up_inj (keep_inc _ _) r1 r2 e'
 ·obtain ⟨q1, q2⟩ := (hmem s).1 hs
  have q3 := ins_good (p := (x, y)) (up_good q1).1 ⟨x1, hy⟩ (avoid s q1).1 (avoid s q1).2
  have hts : insP (x, y) (upP (keepN b.lines.length out) s) ∈ b.ts := by
   rw [mem_tsG, ins_len, up_len]
   exact ⟨q3, by omega⟩
  rw [List.mem_filter, beq_iff_eq]
  exact ⟨hts, (pair_iff hts hy).1.2 (mem_ins.2 (.inl rfl))⟩
 ·rw [List.mem_filter, beq_iff_eq] at ht
  obtain ⟨hts, hm⟩ := ht
  have hp := (pair_iff hts hy).1.1 hm
  obtain ⟨q1, q2⟩ := (mem_tsG b t).1 hts
  obtain ⟨g1, g2, g3, g4⟩ := erase_good q1 hp
  have hs := sides_bk b
  have hav : ∀ q ∈ t.erase (x, y), q.1 ∉ out ∧ q.2 ∉ out := fun q hq => by
   have hc := (g1.2.2 q hq).2.2
   obtain ⟨_, _, w1, w2⟩ := hs _ _ hc
   refine ⟨fun h => ?_, fun h => ?_⟩
   ·rcases (hout _).1 h with e | e
    ·exact g2 q hq e
    ·rw [e, z2] at w1; cases w1
   ·rcases (hout _).1 h with e | e
    ·rw [e, z1] at w2; cases w2
    ·exact g3 q hq e
  obtain ⟨s, q3, q4⟩ := down_good g1 hav
  have hsl : s.length + 1 = t.length := by rw [← g4, ← q4, up_len]
  refine ⟨s, (hmem s).2 ⟨q3, by omega⟩, ?_⟩
  rw [q4]
  exact erase_ins q1.1 hp
theorem cnt_eq {n : Nat} {ts : List Prs} {i : Nat} (hi : i < n) (o : Int) : cntP n ts i o = ((ts.filter fun t => matchP t i == o).length : Int) := by
 unfold cntP
 rw [if_pos ⟨by omega, by omega⟩, Int.toNat_natCast]
theorem can_comm (b : Bk) (x y : NLn) : canL b x y = canL b y x := by
 unfold canL heardB
 rw [ap_comm]
 have h1 : (x.book == y.book) = (y.book == x.book) := by rw [Bool.eq_iff_iff, beq_iff_eq, beq_iff_eq]; exact ⟨Eq.symm, Eq.symm⟩
 have h2 : offB b x y = offB b y x := by
  unfold offB
  have e : max (x.minute - y.minute) (-(x.minute - y.minute)) = max (y.minute - x.minute) (-(y.minute - x.minute)) := by omega
  rw [e]
 rw [h1, h2]
theorem book_getD {b : Bk} {i : Nat} (hi : i < b.lines.length) : (b.lines.getD i zeroLn) = b.lines[i] := by rw [List.getD_eq_getElem?_getD]; simp [hi]
theorem cnt_can {b : Bk} (ho : b.ok = true) {i k : Nat} (hi : i < b.lines.length) (hk : k < b.lines.length) (hc : canL b (b.lines.getD i zeroLn) (b.lines.getD k zeroLn) = true) {out : List Nat} (hout : ∀ j, j ∈ out ↔ j = i ∨ j = k) : ((b.without out).ts.length : Int) = cntP b.lines.length b.ts i k := by
 rw [cnt_eq hi]
 congr 1
 by_cases z : zB b i = true
 ·exact cnt_pair b hout ((mem_coulds b i k).2 ⟨hi, hk, z, hc⟩)
 ·have zk : zB b k = true := by
   unfold zB at z ⊢
   rw [book_getD hi] at z hc
   rw [book_getD hk] at hc ⊢
   have b1 := book_ok ho hi
   have b2 := book_ok ho hk
   unfold canL at hc
   rw [Bool.and_eq_true, Bool.not_eq_true', beq_eq_false_iff_ne] at hc
   rw [beq_iff_eq] at z ⊢
   have := hc.1
   omega
  have hy : i ∈ (couldsP b).getD k [] := (mem_coulds b k i).2 ⟨hk, hi, zk, by rw [can_comm]; exact hc⟩
  rw [cnt_pair b (x := k) (y := i) (fun j => (hout j).trans Or.comm) hy]
  congr 1
  apply List.filter_congr
  intro t ht
  rw [Bool.eq_iff_iff, beq_iff_eq, beq_iff_eq, (pair_iff ht hy).1, (pair_iff ht hy).2]
theorem cnt_cannot {b : Bk} {i k : Nat} (hi : i < b.lines.length) (hc : canL b (b.lines.getD i zeroLn) (b.lines.getD k zeroLn) = false) : cntP b.lines.length b.ts i k = 0 := by
 rw [cnt_eq hi]
 have : b.ts.filter (fun t => matchP t i == (k : Int)) = [] := by
  rw [List.filter_eq_nil_iff]
  intro t ht h
  rw [beq_iff_eq] at h
  have hg := ((mem_tsG b t).1 ht).1
  rcases match_mem h with h | h
  ·have := ((mem_coulds _ _ _).1 (hg.2.2 _ h).2.2).2.2.2
   simp only at this
   rw [this] at hc; cases hc
  ·have := ((mem_coulds _ _ _).1 (hg.2.2 _ h).2.2).2.2.2
   simp only at this
   rw [can_comm, this] at hc; cases hc
 rw [this]; rfl
/-- truths in which a line is paired with one of the first lines -/
def sumK (ts : List Prs) (i k : Nat) : Int := ((ts.filter fun t => decide (0 ≤ matchP t i) && decide (matchP t i < k)).length : Int)
theorem sum_zero (ts : List Prs) (i : Nat) : sumK ts i 0 = 0 := by
 unfold sumK
 have : ts.filter (fun t => decide (0 ≤ matchP t i) && decide (matchP t i < ((0 : Nat) : Int))) = [] := by
  rw [List.filter_eq_nil_iff]
  intro t _ h
  rw [Bool.and_eq_true, decide_eq_true_eq, decide_eq_true_eq] at h
  omega
 rw [this]; rfl
theorem sum_succ (i k : Nat) : ∀ ts : List Prs, sumK ts i (k + 1) = sumK ts i k + ((ts.filter fun t => matchP t i == (k : Int)).length : Int)
 | [] => rfl
 | t :: ts => by
  have ih := sum_succ i k ts
  unfold sumK at ih ⊢
  rw [List.filter_cons, List.filter_cons, List.filter_cons]
  by_cases a : 0 ≤ matchP t i
  ·by_cases e : matchP t i = k
   ·have h1 : (decide (0 ≤ matchP t i) && decide (matchP t i < ((k + 1 : Nat) : Int))) = true := by rw [Bool.and_eq_true, decide_eq_true_eq, decide_eq_true_eq]; omega
    have h2 : ¬ (decide (0 ≤ matchP t i) && decide (matchP t i < (k : Int))) = true := by rw [Bool.and_eq_true, decide_eq_true_eq, decide_eq_true_eq]; omega
    rw [if_pos h1, if_neg h2, if_pos (by rw [beq_iff_eq]; exact e)]
    simp only [List.length_cons]; omega
   ·rw [if_neg (c := (matchP t i == (k : Int)) = true) (by rw [beq_iff_eq]; exact e)]
    by_cases c : matchP t i < k
    ·have h1 : (decide (0 ≤ matchP t i) && decide (matchP t i < ((k + 1 : Nat) : Int))) = true := by rw [Bool.and_eq_true, decide_eq_true_eq, decide_eq_true_eq]; omega
     have h2 : (decide (0 ≤ matchP t i) && decide (matchP t i < (k : Int))) = true := by rw [Bool.and_eq_true, decide_eq_true_eq, decide_eq_true_eq]; omega
     rw [if_pos h1, if_pos h2]
     simp only [List.length_cons]; omega
    ·have h1 : ¬ (decide (0 ≤ matchP t i) && decide (matchP t i < ((k + 1 : Nat) : Int))) = true := by rw [Bool.and_eq_true, decide_eq_true_eq, decide_eq_true_eq]; omega
     have h2 : ¬ (decide (0 ≤ matchP t i) && decide (matchP t i < (k : Int))) = true := by rw [Bool.and_eq_true, decide_eq_true_eq, decide_eq_true_eq]; omega
     rw [if_neg h1, if_neg h2]
     exact ih
  ·have h0 : ¬ (matchP t i == (k : Int)) = true := by rw [beq_iff_eq]; omega
   have h1 : ¬ (decide (0 ≤ matchP t i) && decide (matchP t i < ((k + 1 : Nat) : Int))) = true := by rw [Bool.and_eq_true, decide_eq_true_eq, decide_eq_true_eq]; omega
   have h2 : ¬ (decide (0 ≤ matchP t i) && decide (matchP t i < (k : Int))) = true := by rw [Bool.and_eq_true, decide_eq_true_eq, decide_eq_true_eq]; omega
   rw [if_neg h0, if_neg h1, if_neg h2]
   exact ih
theorem sum_all (i n : Nat) : ∀ ts : List Prs, (∀ t ∈ ts, matchP t i < n) → sumK ts i n + ((ts.filter fun t => matchP t i == -1).length : Int) = ts.length
 | [], _ => rfl
 | t :: ts, h => by
  have ih := sum_all i n ts fun u hu => h u (List.mem_cons_of_mem _ hu)
  have ht := h t (List.mem_cons_self ..)
  have hl := matchP_low t i
  unfold sumK at ih ⊢
  rw [List.filter_cons, List.filter_cons]
  by_cases e : matchP t i = -1
  ·have h1 : ¬ (decide (0 ≤ matchP t i) && decide (matchP t i < (n : Int))) = true := by rw [Bool.and_eq_true, decide_eq_true_eq, decide_eq_true_eq]; omega
   rw [if_neg h1, if_pos (by rw [beq_iff_eq]; exact e)]
   simp only [List.length_cons]; omega
  ·have h1 : (decide (0 ≤ matchP t i) && decide (matchP t i < (n : Int))) = true := by rw [Bool.and_eq_true, decide_eq_true_eq, decide_eq_true_eq]; omega
   rw [if_pos h1, if_neg (by rw [beq_iff_eq]; exact e)]
   simp only [List.length_cons]; omega
theorem match_below {b : Bk} {t : Prs} (ht : t ∈ b.ts) (i : Nat) : matchP t i < b.lines.length := by
 rcases matchP_nat t i with h | h
 ·omega
 ·obtain ⟨o, e⟩ : ∃ o : Nat, matchP t i = o := ⟨(matchP t i).toNat, by omega⟩
  have hb := good_below ((mem_tsG b t).1 ht).1
  rcases match_mem e with h | h
  ·have := (hb _ h).2; simp only at this; omega
  ·have := (hb _ h).1; simp only at this; omega
/-- the greatest of the first counts -/
def MaxTo (c : Int → Int) (k : Nat) (r : Int) : Prop := 0 ≤ r ∧ (r = 0 ∨ ∃ j : Nat, j < k ∧ r = c j) ∧ ∀ j : Nat, j < k → c j ≤ r
theorem MaxTo.zero (c : Int → Int) : MaxTo c 0 0 := ⟨Int.le_refl _, .inl rfl, fun j h => by omega⟩
theorem MaxTo.succ {c : Int → Int} {k : Nat} {r : Int} (h : MaxTo c k r) : MaxTo c (k + 1) (max r (c k)) := by
 obtain ⟨h1, h2, h3⟩ := h
 refine ⟨by omega, ?_, fun j hj => ?_⟩
 ·by_cases e : c k ≤ r
  ·rw [Int.max_eq_left e]
   rcases h2 with h2 | ⟨j, hj, e2⟩
   ·exact .inl h2
   ·exact .inr ⟨j, by omega, e2⟩
  ·exact .inr ⟨k, by omega, by omega⟩
 ·by_cases e : j = k
  ·subst e; omega
  ·have := h3 j (by omega); omega
theorem MaxTo.skip {c : Int → Int} {k : Nat} {r : Int} (h : MaxTo c k r) (h0 : c k = 0) : MaxTo c (k + 1) r := by
 have := h.succ
 rw [h0, Int.max_eq_left h.1] at this
 exact this
theorem worst_done {b : Bk} (h9 : b.lines.length ≤ 9) {i : Nat} (hi : i < b.lines.length) {r : Int} (h : MaxTo (cntP b.lines.length b.ts i) b.lines.length r) : max r (cntP b.lines.length b.ts i (-1)) = worstP b i := by
 refine WorstOf.uniq (cnt := cntP b.lines.length b.ts) (x := i) ?_ (worst_is h9 i)
 obtain ⟨h1, h2, h3⟩ := h
 have hm := (cntP_le b.lines.length b.ts i (-1)).1
 refine ⟨by omega, ?_, fun o _ => ?_⟩
 ·by_cases e : cntP b.lines.length b.ts i (-1) ≤ r
  ·rw [Int.max_eq_left e]
   rcases h2 with h2 | ⟨j, hj, e2⟩
   ·exact .inl h2
   ·exact .inr ⟨j, wf_int _ (by omega), e2⟩
  ·exact .inr ⟨-1, by unfold WfI; first | omega | decide | exact ⟨by omega, by omega⟩, by omega⟩
 ·by_cases e1 : o = -1
  ·subst e1; omega
  ·by_cases e2 : 0 ≤ o ∧ o < b.lines.length
   ·have := h3 o.toNat (by omega)
    rw [show ((o.toNat : Nat) : Int) = o by omega] at this
    omega
   ·have h0 : cntP b.lines.length b.ts i o = 0 := by
     rw [cnt_eq hi]
     have : b.ts.filter (fun t => matchP t i == o) = [] := by
      rw [List.filter_eq_nil_iff]
      intro t ht h
      rw [beq_iff_eq] at h
      have a1 := match_below ht i
      have a2 := matchP_low t i
      omega
     rw [this]; rfl
    omega
theorem cnt_lost {b : Bk} {i : Nat} (hi : i < b.lines.length) (h0 : b.lost = 0) : cntP b.lines.length b.ts i (-1) = 0 := by
 rw [cnt_eq hi, ← cnt_none b hi]
 have : ({ b.without [i] with lost := b.lost - 1 } : Bk).ts = [] := by
  rw [List.eq_nil_iff_forall_not_mem]
  intro s hs
  obtain ⟨h1, h2⟩ := (mem_tsG { b.without [i] with lost := b.lost - 1 } s).1 hs
  have := lost_ok (sides_bk { b.without [i] with lost := b.lost - 1 }) (ok_good.2 h1)
  have e : ({ b.without [i] with lost := b.lost - 1 } : Bk).lost = b.lost - 1 := rfl
  rw [e] at h2
  omega
 rw [this]; rfl
theorem ask_first (f : Nat → Int) : ∀ (n k : Nat), k < n → f (askP f n) ≤ f k ∧ (f (askP f n) = f k → askP f n ≤ k)
 | 0, k, h => by omega
 | n + 1, k, h => by
  have hle := askP_le f n
  unfold askP
  by_cases c : f n < f (askP f n)
  ·rw [if_pos c]
   by_cases e : k = n
   ·subst e; exact ⟨Int.le_refl _, fun _ => Nat.le_refl _⟩
   ·obtain ⟨h1, _⟩ := ask_first f n k (by omega)
    exact ⟨by omega, fun e' => by omega⟩
  ·rw [if_neg c]
   by_cases e : k = n
   ·subst e; exact ⟨by omega, fun _ => hle⟩
   ·exact ask_first f n k (by omega)
theorem ask_lt (f : Nat → Int) : ∀ n, 0 < n → askP f n < n
 | 0, h => by omega
 | n + 1, _ => by
  have hle := askP_le f n
  unfold askP
  split <;> omega
end Go.Proofs.Ytbimkcjdodgojaa
