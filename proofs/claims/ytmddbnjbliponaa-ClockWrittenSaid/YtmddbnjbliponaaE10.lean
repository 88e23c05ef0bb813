/- The exported functions of books by what they are said to return. -/
import Derived.Test.YtmddbnjbliponaaE9
namespace Go.Proofs.Ytmddbnjbliponaa
set_option linter.unusedSimpArgs false
set_option linter.unusedVariables false
open Go.RowKit

/-- where a walk is to stand still -/
def Halt (p : Prop) : Prop := p
theorem Halt.on {p : Prop} (h : Halt p) : p := h
theorem Halt.off {p : Prop} (h : p) : Halt p := h

theorem times_to {set : Int} {A L : Option Addr} {cap lcap nf n : Nat} {fs : List Fr} {ls : List Ln} {l : List Sp} {x : Int} (P : timesR ⟨set, fs⟩ ls = (l, x)) (hn : l.length = n) (hf : fs.length = nf) (hl : ls.length ≤ 9223372036854775807) (W : World) (hA : Arr W W.heap.size A (frosts fs)) (hL : Arr W W.heap.size L (lines ls)) :
    Calls Try.prog 27 #[.agg #[.int .i64 set, .slice A nf cap], .slice L ls.length lcap] W fun e w' => ∃ O oc, e = .returned (.tuple #[.slice O n oc, .int .i64 x]) ∧ Arr w' w'.heap.size O (spans l) ∧ Below W.heap.size W w' := by
  subst hf hn
  have h := pTimes_any set A L cap lcap fs ls W hA hL hl
  rw [pTimes_eq, P] at h
  exact h.mono fun e w' ⟨⟨O, oc, h1, _, h2⟩, h3⟩ => ⟨O, oc, h1, h2, h3⟩
theorem stopped_to {set : Int} {A L : Option Addr} {cap lcap : Nat} {fs : List Fr} {ls : List Ln} {s : Sp} {x : Int} (P : stoppedR ⟨set, fs⟩ ls = (s, x)) (hl : ls.length ≤ 9223372036854775807) (W : World) (hA : Arr W W.heap.size A (frosts fs)) (hL : Arr W W.heap.size L (lines ls)) :
    Calls Try.prog 30 #[.agg #[.int .i64 set, .slice A fs.length cap], .slice L ls.length lcap] W fun e w' => e = .returned (.tuple #[.agg #[.int .i64 s.lo, .int .i64 s.hi], .int .i64 x]) ∧ Below W.heap.size W w' := by
  have h := pStopped_any set A L cap lcap fs ls W hA hL hl
  rw [pStopped_eq, P] at h
  exact h
theorem right_to {set : Int} {A L : Option Addr} {cap lcap : Nat} {fs : List Fr} {ls : List Ln} {q : Bool} {x : Int} (P : rightR ⟨set, fs⟩ ls = (q, x)) (hl : ls.length ≤ 9223372036854775807) (W : World) (hA : Arr W W.heap.size A (frosts fs)) (hL : Arr W W.heap.size L (lines ls)) :
    Calls Try.prog 25 #[.agg #[.int .i64 set, .slice A fs.length cap], .slice L ls.length lcap] W fun e w' => e = .returned (.tuple #[.bool q, .int .i64 x]) ∧ Below W.heap.size W w' := by
  have h := pRight_any set A L cap lcap fs ls W hA hL hl
  rw [pRight_eq, P] at h
  exact h
theorem wrong_to {set : Int} {A L : Option Addr} {cap lcap n : Nat} {fs : List Fr} {ls : List Ln} {l : List Int} {x : Int} (P : wrongR ⟨set, fs⟩ ls = (l, x)) (hn : l.length = n) (hl : ls.length ≤ 9223372036854775807) (W : World) (hA : Arr W W.heap.size A (frosts fs)) (hL : Arr W W.heap.size L (lines ls)) :
    Calls Try.prog 32 #[.agg #[.int .i64 set, .slice A fs.length cap], .slice L ls.length lcap] W fun e w' => ∃ O oc, e = .returned (.tuple #[.slice O n oc, .int .i64 x]) ∧ Below W.heap.size W w' := by
  subst hn
  have h := pWrong_any set A L cap lcap fs ls W hA hL hl
  rw [pWrong_eq, P] at h
  exact h.mono fun e w' ⟨⟨O, oc, h1, _, _⟩, h3⟩ => ⟨O, oc, h1, h3⟩
theorem in_sub {s m : Sp} (h : Sub s m) : (decide (m.lo ≤ s.lo) && decide (s.hi ≤ m.hi)) = true := by rw [decide_eq_true h.1, decide_eq_true h.2]; rfl
theorem row_at {w : World} {B n N : Nat} {A : Option Addr} {m : List Sp} (h : Arr w B A (spans m)) (hB : B ≤ N) (hn : m.length = n) :
    ∃ b o, 0 < n → A = some ⟨b, o, none⟩ ∧ b < N ∧ ∀ q (h : q < m.length), w.cell? ⟨b, o + q * 2, none⟩ = some (.int .i64 m[q].lo) ∧ w.cell? ⟨b, o + q * 2 + 1, none⟩ = some (.int .i64 m[q].hi) := by
  rcases Nat.eq_zero_or_pos n with h0 | h0
  · exact ⟨0, 0, fun h' => absurd h' (by omega)⟩
  · obtain ⟨b, o, e, hb, _, _⟩ := h.sp (k := 0) (by omega)
    refine ⟨b, o, fun _ => ⟨e, by omega, fun q hq => ?_⟩⟩
    obtain ⟨b', o', e', _, c0, c1⟩ := h.sp hq
    rw [e] at e'
    simp only [Option.some.injEq, Addr.mk.injEq, and_true] at e'
    obtain ⟨rfl, rfl⟩ := e'
    exact ⟨c0, c1⟩
end Go.Proofs.Ytmddbnjbliponaa
