/- Name: truths, in the program's order. -/
import Derived.Test.YtbimkcjdodgojaaNo
import Derived.Test.YtbimkcjdodgojaaRr
namespace Go.Proofs.Ytbimkcjdodgojaa
set_option linter.unusedSimpArgs false
set_option linter.unusedVariables false
open Go Go.RowKit

abbrev Prs := List (Nat × Nat)
def pcells (p : Nat × Nat) : List Value := [.int .i64 p.1, .int .i64 p.2]
def pairsV (t : Prs) : List Value := t.flatMap pcells
theorem pcells_length (p : Nat × Nat) : (pcells p).length = 2 := rfl
theorem pairsV_length (t : Prs) : (pairsV t).length = t.length * 2 := flat_length pcells 2 pcells_length t
def natV (n : Nat) : Value := .int .i64 n
def nats (l : List Nat) : List Value := l.map natV
theorem nats_length (l : List Nat) : (nats l).length = l.length := by simp [nats]
theorem Arr.nat {w : World} {B : Nat} {A : Option Addr} {l : List Nat} (h : Arr w B A (nats l)) {k : Nat} (hk : k < l.length) :
    ∃ b o, A = some ⟨b, o, none⟩ ∧ b < B ∧ w.cell? ⟨b, o + k, none⟩ = some (.int .i64 l[k]) := by
 obtain ⟨b, o, hA, hlt, hc⟩ := h (fun e => by have := nats_length l; rw [e] at this; simp at this; omega)
 exact ⟨b, o, hA, hlt, hc k _ (by simp [nats, natV, hk])⟩
theorem Arr.pr {w : World} {B : Nat} {A : Option Addr} {t : Prs} (h : Arr w B A (pairsV t)) {k : Nat} (hk : k < t.length) :
    ∃ b o, A = some ⟨b, o, none⟩ ∧ b < B ∧ w.cell? ⟨b, o + k * 2, none⟩ = some (.int .i64 t[k].1) ∧ w.cell? ⟨b, o + k * 2 + 1, none⟩ = some (.int .i64 t[k].2) := by
 obtain ⟨b, o, hA, hlt, hc⟩ := h.elem pcells_length (by decide) hk
 exact ⟨b, o, hA, hlt, hc 0 _ (by decide) rfl, hc 1 _ (by decide) rfl⟩

/-- the line that is paired with a line, -1: none is -/
def matchP : Prs → Nat → Int
 | [], _ => -1
 | p :: t, l => if l = p.1 then p.2 else if l = p.2 then p.1 else matchP t l
def lostP (n : Nat) (t : Prs) : Nat := ((List.range n).filter fun l => matchP t l == -1).length
def usedP (t : Prs) (o : Nat) : Bool := t.any fun p => p.2 == o
/-- the truths that begin with the pairs t, of the lines from k on, of which there are r -/
def fromP (n : Nat) (lost : Int) (cs : List (List Nat)) : Nat → Nat → Prs → List Prs
 | 0, _, t => if (lostP n t : Int) ≤ lost then [t] else []
 | r + 1, k, t => ((cs.getD k []).filter fun o => !usedP t o).flatMap (fun o => fromP n lost cs r (k + 1) (t ++ [(k, o)])) ++ fromP n lost cs r (k + 1) t
def couldP (b : Bk) (i : Nat) : List Nat := (List.range b.lines.length).filter fun o => (b.lines.getD i zeroLn).book == 0 && canL b (b.lines.getD i zeroLn) (b.lines.getD o zeroLn)
def couldsP (b : Bk) : List (List Nat) := (List.range b.lines.length).map (couldP b)
def truthsP (b : Bk) : List Prs := fromP b.lines.length b.lost (couldsP b) b.lines.length 0 []

theorem matchP_nat (t : Prs) (l : Nat) : matchP t l = -1 ∨ 0 ≤ matchP t l := by
 induction t with
 | nil => exact .inl rfl
 | cons p t ih =>
  unfold matchP
  split
  ·exact .inr (by omega)
  ·split
   ·exact .inr (by omega)
   ·exact ih
theorem matchP_drop (t : Prs) (k : Nat) (hk : k < t.length) (l : Nat) : matchP (t.drop k) l = if l = t[k].1 then (t[k].2 : Int) else if l = t[k].2 then (t[k].1 : Int) else matchP (t.drop (k + 1)) l := by
 rw [List.drop_eq_getElem_cons hk]; rfl
theorem ite2_neq {p q : Prop} [Decidable p] [Decidable q] {X : World} : (if p then (if q then Result.ok (Next.value (Value.bool false)) X else Result.ok (Next.value (Value.bool true)) X) else Result.ok (Next.value (Value.bool true)) X) = Result.ok (Next.value (Value.bool (!(decide p && decide q)))) X := by
 by_cases hp : p <;> by_cases hq : q <;> simp [hp, hq]
theorem ite2_eq {p q : Prop} [Decidable p] [Decidable q] {X : World} : (if p then (if q then Result.ok (Next.value (Value.bool true)) X else Result.ok (Next.value (Value.bool false)) X) else Result.ok (Next.value (Value.bool false)) X) = Result.ok (Next.value (Value.bool (decide p && decide q))) X := by
 by_cases hp : p <;> by_cases hq : q <;> simp [hp, hq]
theorem ite1_neq {p : Prop} [Decidable p] {X : World} : (if p then Result.ok (Next.value (Value.bool false)) X else Result.ok (Next.value (Value.bool true)) X) = Result.ok (Next.value (Value.bool (!decide p))) X := by
 by_cases hp : p <;> simp [hp]
theorem ite1_eq {p : Prop} [Decidable p] {X : World} : (if p then Result.ok (Next.value (Value.bool true)) X else Result.ok (Next.value (Value.bool false)) X) = Result.ok (Next.value (Value.bool (decide p))) X := by
 by_cases hp : p <;> simp [hp]
end Go.Proofs.Ytbimkcjdodgojaa
