/- What is on the program's lists of frosts and of dials. No Go here. -/
import Derived.Test.YtnkbcapikenbbaaP5
namespace Go.Proofs.Ytnkbcapikenbbaa
set_option linter.unusedSimpArgs false
set_option linter.unusedVariables false

theorem mem_addNew (l : List Sp) (f x : Sp) : x ∈ addNew l f ↔ x ∈ l ∨ x = f := by
  unfold addNew
  split
  · constructor
    · exact .inl
    · rintro (h | rfl)
      · exact h
      · assumption
  · simp
theorem mem_colF (m b : Int) (es : List Int) (l : List Sp) (x : Sp) : x ∈ colF m b es l ↔ x ∈ l ∨ ∃ e ∈ es, x = cutF ⟨b, e⟩ m := by
  induction es generalizing l with
  | nil => simp [colF]
  | cons e es ih =>
    have h : colF m b (e :: es) l = colF m b es (addNew l (cutF ⟨b, e⟩ m)) := rfl
    rw [h, ih, mem_addNew]
    simp only [List.mem_cons, exists_eq_or_imp, or_assoc]
theorem mem_rowF (m : Int) (bs es : List Int) (l : List Sp) (x : Sp) : x ∈ rowF m bs es l ↔ x ∈ l ∨ ∃ b ∈ bs, ∃ e ∈ es, x = cutF ⟨b, e⟩ m := by
  induction bs generalizing l with
  | nil => simp [rowF]
  | cons b bs ih =>
    have h : rowF m (b :: bs) es l = rowF m bs es (colF m b es l) := rfl
    rw [h, ih, mem_colF]
    simp only [List.mem_cons, exists_eq_or_imp, or_assoc]
theorem mem_spList (s : Sp) (x : Int) : x ∈ s.list ↔ s.lo ≤ x ∧ x ≤ s.hi := by
  unfold Sp.list
  simp only [List.mem_map, List.mem_range]
  constructor
  · rintro ⟨i, hi, rfl⟩; omega
  · intro h
    exact ⟨(x - s.lo).toNat, by omega, by omega⟩
/-- a frost as it was before a minute is on the program's list just if it is so in a truth -/
theorem mem_frostsL (k : Fr) (m : Int) (x : Sp) : x ∈ frostsL k m ↔ ∃ b e, (k.b.lo ≤ b ∧ b ≤ k.b.hi) ∧ (k.e.lo ≤ e ∧ e ≤ k.e.hi) ∧ x = cutF ⟨b, e⟩ m := by
  unfold frostsL
  rw [mem_rowF]
  simp only [List.not_mem_nil, false_or, mem_spList]
  constructor
  · rintro ⟨b, hb, e, he, rfl⟩; exact ⟨b, e, hb, he, rfl⟩
  · rintro ⟨b, e, hb, he, rfl⟩; exact ⟨b, hb, e, he, rfl⟩
theorem addNew_length (l : List Sp) (f : Sp) : (addNew l f).length ≤ l.length + 1 := by
  unfold addNew; split <;> simp
theorem colF_length (m b : Int) (es : List Int) (l : List Sp) : (colF m b es l).length ≤ l.length + es.length := by
  induction es generalizing l with
  | nil => simp [colF]
  | cons e es ih =>
    have h : colF m b (e :: es) l = colF m b es (addNew l (cutF ⟨b, e⟩ m)) := rfl
    have h1 := ih (addNew l (cutF ⟨b, e⟩ m))
    have h2 := addNew_length l (cutF ⟨b, e⟩ m)
    rw [h]; simp only [List.length_cons]; omega
theorem rowF_length (m : Int) (bs es : List Int) (l : List Sp) : (rowF m bs es l).length ≤ l.length + bs.length * es.length := by
  induction bs generalizing l with
  | nil => simp [rowF]
  | cons b bs ih =>
    have h : rowF m (b :: bs) es l = rowF m bs es (colF m b es l) := rfl
    have h1 := ih (colF m b es l)
    have h2 := colF_length m b es l
    rw [h]; simp only [List.length_cons, Nat.add_mul, Nat.one_mul]; omega
theorem frostsL_length (k : Fr) (m : Int) (h1 : k.b.hi - k.b.lo ≤ 3) (h2 : k.e.hi - k.e.lo ≤ 3) : (frostsL k m).length ≤ 16 := by
  have h := rowF_length m k.b.list k.e.list []
  have a : k.b.list.length ≤ 4 := by rw [list_length]; omega
  have b : k.e.list.length ≤ 4 := by rw [list_length]; omega
  have c := Nat.mul_le_mul a b
  unfold frostsL
  simp only [List.length_nil] at h
  omega
theorem frostsL_small (fs : List Fr) (m : Int) (hO : OkFs fs) : ∀ L ∈ fs.map (fun f => frostsL f m), L.length ≤ 16 := by
  intro L hL
  obtain ⟨f, hf, rfl⟩ := List.mem_map.1 hL
  have h := hO.2 f hf
  exact frostsL_length f m (by omega) (by omega)
/-- one of each list, one after another -/
def Picks : List (List Sp) → List Sp → Prop
  | [], x => x = []
  | l :: ls, x => ∃ f r, x = f :: r ∧ f ∈ l ∧ Picks ls r
theorem mem_combos (ls : List (List Sp)) (x : List Sp) : x ∈ combos ls ↔ Picks ls x := by
  induction ls generalizing x with
  | nil => simp [combos, Picks]
  | cons l ls ih =>
    simp only [combos, List.mem_flatMap, List.mem_map, Picks]
    constructor
    · rintro ⟨f, hf, r, hr, rfl⟩; exact ⟨f, r, rfl, hf, (ih r).1 hr⟩
    · rintro ⟨f, r, rfl, hf, hr⟩; exact ⟨f, hf, r, (ih r).2 hr, rfl⟩
theorem picks_length (ls : List (List Sp)) (x : List Sp) (h : Picks ls x) : x.length = ls.length := by
  induction ls generalizing x with
  | nil => rw [show x = [] from h]; rfl
  | cons l ls ih =>
    obtain ⟨f, r, rfl, _, hr⟩ := h
    simp [ih r hr]
theorem picks_all (p : Sp → Prop) (ls : List (List Sp)) (x : List Sp) (h : Picks ls x) (hp : ∀ l ∈ ls, ∀ f ∈ l, p f) : ∀ f ∈ x, p f := by
  induction ls generalizing x with
  | nil => rw [show x = [] from h]; simp
  | cons l ls ih =>
    obtain ⟨f, r, rfl, hf, hr⟩ := h
    intro g hg
    rcases List.mem_cons.1 hg with rfl | hg
    · exact hp l (List.mem_cons_self ..) g hf
    · exact ih r hr (fun l' hl' => hp l' (List.mem_cons_of_mem _ hl')) g hg
theorem pad_three (x : List Sp) (h : x.length ≤ 3) : ∃ f0 f1 f2, pad x = [f0, f1, f2] := by
  match x, h with
  | [], _ => exact ⟨_, _, _, rfl⟩
  | [a], _ => exact ⟨_, _, _, rfl⟩
  | [a, b], _ => exact ⟨_, _, _, rfl⟩
  | [a, b, c], _ => exact ⟨_, _, _, rfl⟩
/-- all dials of a clock, with frosts cut at a minute -/
def dialsOf (fs : List Fr) (m : Int) : List (List Sp) := dialsL (fs.map fun f => frostsL f m)
theorem mem_dialsOf (fs : List Fr) (m : Int) (x : List Sp) : x ∈ dialsOf fs m ↔ ∃ y, Picks (fs.map fun f => frostsL f m) y ∧ x = pad y := by
  unfold dialsOf dialsL
  simp only [List.mem_map, mem_combos]
  constructor
  · rintro ⟨y, h, rfl⟩; exact ⟨y, h, rfl⟩
  · rintro ⟨y, h, rfl⟩; exact ⟨y, h, rfl⟩
theorem dialsOf_ok (fs : List Fr) (m : Int) (hO : OkFs fs) (hm : 0 ≤ m ∧ m ≤ 4320) : ∀ x ∈ dialsOf fs m, ∃ f0 f1 f2, x = [f0, f1, f2] ∧ OkD [f0, f1, f2] := by
  intro x hx
  obtain ⟨y, hy, rfl⟩ := (mem_dialsOf fs m x).1 hx
  have hl := picks_length _ _ hy
  rw [List.length_map] at hl
  obtain ⟨f0, f1, f2, h3⟩ := pad_three y (by have := hO.1; omega)
  refine ⟨f0, f1, f2, h3, rfl, fun f hf => ?_⟩
  rw [← h3] at hf
  unfold pad at hf
  rcases List.mem_append.1 hf with hf | hf
  · refine picks_all (fun f => 0 ≤ f.lo ∧ f.lo ≤ f.hi ∧ f.hi ≤ 4320) _ _ hy ?_ f hf
    intro L hL g hg
    obtain ⟨k, hk, rfl⟩ := List.mem_map.1 hL
    obtain ⟨b, e, hb, he, rfl⟩ := (mem_frostsL k m g).1 hg
    have := hO.2 k hk
    exact cutF_bd ⟨b, e⟩ m (by simp only; omega) hm.1
  · rw [(List.mem_replicate.1 hf).2]
    simp [zSp]
end Go.Proofs.Ytnkbcapikenbbaa
