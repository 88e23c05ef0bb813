/- Name: wider books have no fewer truths. -/
import Derived.Test.YtbimkcjdodgojaaNcc
import Derived.Test.YtbimkcjdodgojaaNbk
namespace Go.Proofs.Ytbimkcjdodgojaa
set_option linter.unusedSimpArgs false
set_option linter.unusedVariables false
open Go Go.RowKit

/-- wider: more pairs can be, and more lines can be lost -/
theorem flatMap_sub {α β : Type} {f g : α → List β} (hf : ∀ a, (f a).Sublist (g a)) : ∀ {l m : List α}, l.Sublist m → (l.flatMap f).Sublist (m.flatMap g)
 | _, _, .slnil => List.Sublist.refl _
 | _, _, .cons a h => by
  rw [List.flatMap_cons]
  exact (flatMap_sub hf h).trans (List.sublist_append_right _ _)
 | _, _, .cons_cons a h => by
  rw [List.flatMap_cons, List.flatMap_cons]
  exact (hf a).append (flatMap_sub hf h)
theorem from_sub {n : Nat} {lost lost' : Int} {cs cs' : List (List Nat)} (hl : lost ≤ lost') (hc : ∀ k, (cs.getD k []).Sublist (cs'.getD k [])) : ∀ (r k : Nat) (t : Prs), (fromP n lost cs r k t).Sublist (fromP n lost' cs' r k t)
 | 0, k, t => by
  unfold fromP
  by_cases h : (lostP n t : Int) ≤ lost
  ·rw [if_pos h, if_pos (by omega)]
   exact List.Sublist.refl _
  ·rw [if_neg h]; exact List.nil_sublist _
 | r + 1, k, t => by
  unfold fromP
  exact (flatMap_sub (fun o => from_sub hl hc r (k + 1) _) ((hc k).filter _)).append (from_sub hl hc r (k + 1) t)
theorem join_sub {cs cs' : List (List Nat)} {n : Nat} {z : Nat → Bool} (hc : Sides n z cs) (hc' : Sides n z cs') {ts ts' : List Prs} (hsub : ∀ t ∈ ts, t ∈ ts') (hts : ∀ t ∈ ts, OkP cs 0 n [] t) (hne : ts ≠ []) (p : Nat × Nat)
    (hp : p ∈ joinK (fun i o => kindP (cntP n ts' i o) ts'.length == 2) cs' 9) : p ∈ joinK (fun i o => kindP (cntP n ts i o) ts.length == 2) cs 9 := by
 obtain ⟨i, o⟩ := p
 rw [join_law hc'] at hp
 rw [join_law hc]
 obtain ⟨h1, h2, h3⟩ := hp
 refine ⟨h1, ?_, fun t ht => h3 t (hsub t ht)⟩
 cases ts with
 | nil => exact absurd rfl hne
 | cons t ts =>
  have ht := List.mem_cons_self (a := t) (l := ts)
  have hok := hts t ht
  rcases match_mem (h3 t (hsub t ht)) with h | h
  ·exact (hok.firsts _ h).2.2.1
  ·have h4 := (hc _ _ (hok.firsts _ h).2.2.1).2.2.1
   have h5 := (hc' _ _ h2).2.2.2
   simp only at h4
   rw [h4] at h5
   cases h5
theorem people_sub (n : Nat) {ts ts' : List Prs} (hsub : ∀ t ∈ ts, t ∈ ts') (hne : ts ≠ []) : minL ((peopleP n ts').headD 0) (peopleP n ts').tail ≤ minL ((peopleP n ts).headD 0) (peopleP n ts).tail ∧ maxL ((peopleP n ts).headD 0) (peopleP n ts).tail ≤ maxL ((peopleP n ts').headD 0) (peopleP n ts').tail := by
 have hs : ∀ y ∈ peopleP n ts, y ∈ peopleP n ts' := fun y hy => by
  unfold peopleP at hy ⊢
  rw [List.mem_map] at hy ⊢
  obtain ⟨t, ht, e⟩ := hy
  exact ⟨t, hsub t ht, e⟩
 have h1 : peopleP n ts ≠ [] := fun e => hne (List.map_eq_nil_iff.1 e)
 have h2 : peopleP n ts' ≠ [] := fun e => by
  cases hp : peopleP n ts with
  | nil => exact h1 hp
  | cons y l => have := hs y (by rw [hp]; exact List.mem_cons_self ..); rw [e] at this; cases this
 obtain ⟨_, a2, a3⟩ := ends_law h1
 obtain ⟨b1, _, _⟩ := ends_law h2
 exact ⟨(b1 _ (hs _ a2)).1, (b1 _ (hs _ a3)).2⟩
/-- as b, but with more lines lost, a wider way, or more slips -/
structure Wider (b x : Bk) : Prop where
 lines : x.lines = b.lines
 alike : x.ear.alike = b.ear.alike
 mute : x.ear.mute = b.ear.mute
 slips : b.ear.slips ≤ x.ear.slips
 lo : x.lo ≤ b.lo
 hi : b.hi ≤ x.hi
 lost : b.lost ≤ x.lost
theorem Wider.without {b x : Bk} (h : Wider b x) (out : List Nat) : Wider (b.without out) (x.without out) :=
 ⟨by show dropK x.lines out x.lines.length = dropK b.lines out b.lines.length; rw [h.lines], h.alike, h.mute, h.slips, h.lo, h.hi, h.lost⟩
theorem Wider.can {b x : Bk} (h : Wider b x) (p q : NLn) (hc : canL b p q = true) : canL x p q = true := by
 unfold canL at hc ⊢
 rw [Bool.and_eq_true, Bool.and_eq_true] at hc ⊢
 obtain ⟨h1, h2, h3⟩ := hc
 refine ⟨h1, ?_, ?_⟩
 ·unfold offB at h2 ⊢
  rw [Bool.not_not, Bool.and_eq_true, decide_eq_true_eq, decide_eq_true_eq] at h2 ⊢
  have a := h.lo
  have c := h.hi
  omega
 ·unfold heardB apR at h3 ⊢
  rw [h.alike, h.mute]
  have hs := h.slips
  split at h3
  ·rename_i hh
   rw [if_pos ⟨hh.1, hh.2.1, by omega⟩]
  ·cases h3
theorem filter_sub {α : Type} {p q : α → Bool} (h : ∀ a, p a = true → q a = true) : ∀ l : List α, (l.filter p).Sublist (l.filter q)
 | [] => List.Sublist.refl _
 | a :: l => by
  rw [List.filter_cons, List.filter_cons]
  cases hp : p a
  ·rw [if_neg (by simp)]
   split
   ·exact (filter_sub h l).cons _
   ·exact filter_sub h l
  ·rw [if_pos rfl, if_pos (h a hp)]
   exact (filter_sub h l).cons_cons _
theorem Wider.ts {b x : Bk} (h : Wider b x) : b.ts.Sublist x.ts := by
 have hl : x.lines.length = b.lines.length := by rw [h.lines]
 unfold Bk.ts
 rw [hl]
 refine from_sub h.lost (fun k => ?_) _ _ _
 rw [coulds_at, coulds_at, hl]
 by_cases hk : k < b.lines.length
 ·rw [if_pos hk, if_pos hk]
  unfold couldP
  rw [hl, h.lines]
  refine filter_sub (fun o ho => ?_) _
  rw [Bool.and_eq_true] at ho ⊢
  exact ⟨ho.1, h.can _ _ ho.2⟩
 ·rw [if_neg hk, if_neg hk]
  exact List.Sublist.refl _
end Go.Proofs.Ytbimkcjdodgojaa
