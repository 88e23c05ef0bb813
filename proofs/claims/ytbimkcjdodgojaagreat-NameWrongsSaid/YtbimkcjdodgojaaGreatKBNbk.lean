/- Name: the lines that must be wrong are the fewest, the first ones of several. -/
import Derived.Test.YtbimkcjdodgojaaGreatKBJ
import Derived.Test.YtbimkcjdodgojaaGreatKBNpb
import Derived.Test.YtbimkcjdodgojaaGreatKBNam
import Derived.Test.YtbimkcjdodgojaaGreatKBNbc
import Derived.Test.YtbimkcjdodgojaaGreatKBNax
import Derived.WalkKit
import Derived.WalkSpells
import Derived.WalkLawsBesides
import Derived.LoopTactic
import Derived.Handy
import Derived.Deep.QuietTactic
import Derived.BigQuiet
namespace Go.Proofs.YtbimkcjdodgojaaGreat
set_option linter.unusedSimpArgs false
set_option linter.unusedVariables false
open Go.RowKit
theorem to_any (lo hi : Int) (w : World) :
    Calls Tryz.prog 49 #[.int .i64 lo, .int .i64 hi] w fun e w' =>
     e = .returned (.agg #[.int .i64 lo, .int .i64 hi]) ∧ Below w.heap.size w w' := by
 go_enter Tryz.func49, Tryz.ntmps49
 go_wp2
 go_returns
 exact ⟨rfl, by (repeat' (first | (with_reducible exact Below.refl _ _) | (with_reducible assumption) | (with_reducible refine Below.drew ?_) | (with_reducible refine below_drewN ?_ _) | (with_reducible refine Below.setCell ?_ ?_ _) | (with_reducible refine Below.alloc ?_ ?_ _) | go_size | (exact Below.size (by assumption)) | (refine Below.trans ?_ (Below.mono (by assumption) ?_))))⟩
theorem take_eq_step {α : Type} {a b : List α} {k : Nat} (ha : k < a.length) (hb : k < b.length) (h : a.take k = b.take k) (he : a[k] = b[k]) : a.take (k + 1) = b.take (k + 1) := by
 rw [List.take_succ_eq_append_getElem ha, List.take_succ_eq_append_getElem hb, h, he]
theorem bequal_any (A B : Option Addr) (n m : Nat) (a b : List Int) (w : World) (hA : Arr w w.heap.size A (ints a)) (hB : Arr w w.heap.size B (ints b)) (hn : a.length ≤ 9223372036854775807) :
    Calls Tryz.prog 62 #[.slice A a.length n, .slice B b.length m] w fun e w' => e = .returned (.bool (decide (a = b))) ∧ Below w.heap.size w w' := by
 by_cases hl : a.length = b.length
 ·have Hl := hid hl
  have hl' : ((a.length : Int) != (b.length : Int)) = false := by simp [hl]
  clear hl
  go_enter Tryz.func62, Tryz.ntmps62
  go_wp2
  go_loopw [5] (fun i wr => ∃ k : Nat, k ≤ a.length ∧ i = .int .i64 k ∧ Hid (a.take k = b.take k) ∧ ∃ n, wr = w.drewN n) (fun i _ => a.length - (intOf i).toNat)
  case atStart => exact ⟨0, Nat.zero_le _, rfl, hid (by simp), 0, rfl⟩
  case round =>
   obtain ⟨k, hk, rfl, HT, nd, rfl⟩ := hrel
   by_cases hlt : k < a.length
   ·have hlb : k < b.length := by have := Hl.out; omega
    obtain ⟨ba, oa, rfl, _, ca⟩ := hA.int hlt
    obtain ⟨bb, ob, rfl, _, cb⟩ := hB.int hlb
    clear hA hB
    by_cases he : a[k] = b[k]
    ·have HE := hid he
     have he' : (a[k] != b[k]) = false := by simp [he]
     clear he
     go_wp2
     go_quiet (fail)
     go_wp2
     exact ⟨⟨k + 1, by omega, by go_num, hid (take_eq_step hlt hlb HT.out HE.out), _, rfl⟩, by simp [intOf]; omega⟩
    ·have HE := hid he
     have he' : (a[k] != b[k]) = true := by simp [he]
     clear he
     go_wp2
     go_quiet (fail)
     go_wp2
     go_ret
     exact ⟨ret_bool (by rw [decide_eq_false (fun h => HE.out (by simp [h]))]), by (repeat' (first | (with_reducible exact Below.refl _ _) | (with_reducible assumption) | (with_reducible refine Below.drew ?_) | (with_reducible refine below_drewN ?_ _) | (with_reducible refine Below.setCell ?_ ?_ _) | (with_reducible refine Below.alloc ?_ ?_ _) | go_size | (exact Below.size (by assumption)) | (refine Below.trans ?_ (Below.mono (by assumption) ?_))))⟩
   ·obtain rfl : k = a.length := by omega
    go_wp2
    go_ret
    exact ⟨ret_bool (by rw [decide_eq_true]; have h := HT.out; rw [List.take_length] at h; rw [h, Hl.out, List.take_length]), by (repeat' (first | (with_reducible exact Below.refl _ _) | (with_reducible assumption) | (with_reducible refine Below.drew ?_) | (with_reducible refine below_drewN ?_ _) | (with_reducible refine Below.setCell ?_ ?_ _) | (with_reducible refine Below.alloc ?_ ?_ _) | go_size | (exact Below.size (by assumption)) | (refine Below.trans ?_ (Below.mono (by assumption) ?_))))⟩
 ·have Hl := hid hl
  have hl' : ((a.length : Int) != (b.length : Int)) = true := by simp; omega
  clear hl
  go_enter Tryz.func62, Tryz.ntmps62
  go_wp2
  go_ret
  exact ⟨ret_bool (by rw [decide_eq_false (fun h => Hl.out (by rw [h]))]), by (repeat' (first | (with_reducible exact Below.refl _ _) | (with_reducible assumption) | (with_reducible refine Below.drew ?_) | (with_reducible refine below_drewN ?_ _) | (with_reducible refine Below.setCell ?_ ?_ _) | (with_reducible refine Below.alloc ?_ ?_ _) | go_size | (exact Below.size (by assumption)) | (refine Below.trans ?_ (Below.mono (by assumption) ?_))))⟩
end Go.Proofs.YtbimkcjdodgojaaGreat
namespace Go.Proofs.YtbimkcjdodgojaaGreat
set_option linter.unusedSimpArgs false
set_option linter.unusedVariables false
open Go.RowKit
def lessB : List Int → List Int → Bool
 | [], [] => false
 | [], _ :: _ => true
 | _ :: _, [] => false
 | x :: a, y :: b => if x < y then true else if y < x then false else lessB a b
def hasB (set n : Nat) : Bool := set / 2 ^ n % 2 == 1
def onesL (set : Nat) (below : Nat) : List Int := ((List.range below).filter fun n => hasB set n).map fun (n : Nat) => (n : Int)
theorem spans_any (lo hi a z : Int) (w : World) :
    Calls Tryz.prog 37 #[.agg #[.int .i64 lo, .int .i64 hi], .int .i64 a, .int .i64 z] w fun e w' =>
     e = .returned (.bool (decide (a ≤ lo) && (decide (lo ≤ hi) && decide (hi ≤ z)))) ∧ Below w.heap.size w w' := by
 by_cases h : a ≤ lo
 by_cases h' : lo ≤ hi
 all_goals
  go_enter Tryz.func37, Tryz.ntmps37
  go_wp2
  go_ret
  exact ⟨ret_bool (by first | (simp [*]; done) | (simp [*]; omega)), by (repeat' (first | (with_reducible exact Below.refl _ _) | (with_reducible assumption) | (with_reducible refine Below.drew ?_) | (with_reducible refine below_drewN ?_ _) | (with_reducible refine Below.setCell ?_ ?_ _) | (with_reducible refine Below.alloc ?_ ?_ _) | go_size | (exact Below.size (by assumption)) | (refine Below.trans ?_ (Below.mono (by assumption) ?_))))⟩
theorem in_any (n lo hi : Int) (w : World) :
    Calls Tryz.prog 67 #[.int .i64 n, .agg #[.int .i64 lo, .int .i64 hi]] w fun e w' =>
     e = .returned (.bool (decide (lo ≤ n) && decide (n ≤ hi))) ∧ Below w.heap.size w w' := by
 go_enter Tryz.func67, Tryz.ntmps67
 go_wp2_with (go_at_call 38; refine (between_any _ _ _ _).mono ?_; rintro e w1 ⟨rfl, rfl⟩)
 go_ret
 exact ⟨rfl, by (repeat' (first | (with_reducible exact Below.refl _ _) | (with_reducible assumption) | (with_reducible refine Below.drew ?_) | (with_reducible refine below_drewN ?_ _) | (with_reducible refine Below.setCell ?_ ?_ _) | (with_reducible refine Below.alloc ?_ ?_ _) | go_size | (exact Below.size (by assumption)) | (refine Below.trans ?_ (Below.mono (by assumption) ?_))))⟩
theorem info_int : (Tryz.prog.info? 3).map (fun i => (i.zero, i.size, i.bytes)) = some (some (.int .i64 0), 1, 8) := by kernel_rfl
theorem lessB_drop (a b : List Int) (k : Nat) (ha : k < a.length) (hb : k < b.length) :
    lessB (a.drop k) (b.drop k) = if a[k] < b[k] then true else if b[k] < a[k] then false else lessB (a.drop (k + 1)) (b.drop (k + 1)) := by
 rw [List.drop_eq_getElem_cons ha, List.drop_eq_getElem_cons hb]; rfl
theorem lessB_end (a b : List Int) (k : Nat) (h : a.length ≤ k ∨ b.length ≤ k) (ha : k ≤ a.length) (hb : k ≤ b.length) : lessB (a.drop k) (b.drop k) = decide (a.length < b.length) := by
 rcases h with h | h
 ·rw [List.drop_of_length_le h]
  by_cases hk : k < b.length
  ·rw [List.drop_eq_getElem_cons hk, decide_eq_true (by omega)]; rfl
  ·rw [List.drop_of_length_le (by omega), decide_eq_false (by omega)]; rfl
 ·rw [List.drop_of_length_le h, decide_eq_false (by omega)]
  by_cases hk : k < a.length
  ·rw [List.drop_eq_getElem_cons hk]; rfl
  ·rw [List.drop_of_length_le (by omega)]; rfl
theorem less_any (A B : Option Addr) (n m : Nat) (a b : List Int) (w : World) (hA : Arr w w.heap.size A (ints a)) (hB : Arr w w.heap.size B (ints b)) (hn : a.length ≤ 9223372036854775807) (hm : b.length ≤ 9223372036854775807) :
    Calls Tryz.prog 60 #[.slice A a.length n, .slice B b.length m] w fun e w' => e = .returned (.bool (lessB a b)) ∧ Below w.heap.size w w' := by
 go_enter Tryz.func60, Tryz.ntmps60
 go_wp2
 go_loopw [5] (fun i wr => ∃ k : Nat, k ≤ a.length ∧ k ≤ b.length ∧ i = .int .i64 k ∧ Hid (lessB a b = lessB (a.drop k) (b.drop k)) ∧ ∃ n, wr = w.drewN n) (fun i _ => a.length - (intOf i).toNat)
 case atStart => exact ⟨0, Nat.zero_le _, Nat.zero_le _, rfl, hid (by simp), 0, rfl⟩
 case round =>
  obtain ⟨k, hka, hkb, rfl, HL, nd, rfl⟩ := hrel
  by_cases hlt : k < a.length ∧ k < b.length
  ·obtain ⟨hla, hlb⟩ := hlt
   obtain ⟨ba, oa, rfl, _, ca⟩ := hA.int hla
   obtain ⟨bb, ob, rfl, _, cb⟩ := hB.int hlb
   have HD := hid (lessB_drop a b k hla hlb)
   clear hA hB
   by_cases h1 : a[k] < b[k]
   ·have H1 := hid h1
    have t1 : decide (a[k] < b[k]) = true := by simpa using h1
    go_wp2
    all_goals
     go_quiet (fail)
     go_wp2
     go_ret
     exact ⟨ret_bool (by rw [HL.out, HD.out, if_pos H1.out]), by (repeat' (first | (with_reducible exact Below.refl _ _) | (with_reducible assumption) | (with_reducible refine Below.drew ?_) | (with_reducible refine below_drewN ?_ _) | (with_reducible refine Below.setCell ?_ ?_ _) | (with_reducible refine Below.alloc ?_ ?_ _) | go_size | (exact Below.size (by assumption)) | (refine Below.trans ?_ (Below.mono (by assumption) ?_))))⟩
   ·have H1 := hid h1
    have t1 : decide (a[k] < b[k]) = false := by simpa using h1
    by_cases h2 : b[k] < a[k]
    ·have H2 := hid h2
     have t2 : decide (b[k] < a[k]) = true := by simpa using h2
     go_wp2
     all_goals
      go_quiet (fail)
      go_wp2
      go_quiet (fail)
      go_wp2
      go_ret
      exact ⟨ret_bool (by rw [HL.out, HD.out, if_neg (by have := H1.out; omega), if_pos H2.out]), by (repeat' (first | (with_reducible exact Below.refl _ _) | (with_reducible assumption) | (with_reducible refine Below.drew ?_) | (with_reducible refine below_drewN ?_ _) | (with_reducible refine Below.setCell ?_ ?_ _) | (with_reducible refine Below.alloc ?_ ?_ _) | go_size | (exact Below.size (by assumption)) | (refine Below.trans ?_ (Below.mono (by assumption) ?_))))⟩
    ·have H2 := hid h2
     have t2 : decide (b[k] < a[k]) = false := by simpa using h2
     go_wp2
     all_goals
      go_quiet (fail)
      go_wp2
      go_quiet (fail)
      go_wp2
      exact ⟨⟨k + 1, by omega, by omega, by go_num, hid (by rw [HL.out, HD.out, if_neg (by have := H1.out; omega), if_neg (by have := H2.out; omega)]), _, rfl⟩, by simp [intOf]; omega⟩
  ·have HE := hid (lessB_end a b k (by omega) hka hkb)
   go_wp2
   all_goals
    go_ret
    exact ⟨ret_bool (by rw [HL.out, HE.out]), by (repeat' (first | (with_reducible exact Below.refl _ _) | (with_reducible assumption) | (with_reducible refine Below.drew ?_) | (with_reducible refine below_drewN ?_ _) | (with_reducible refine Below.setCell ?_ ?_ _) | (with_reducible refine Below.alloc ?_ ?_ _) | go_size | (exact Below.size (by assumption)) | (refine Below.trans ?_ (Below.mono (by assumption) ?_))))⟩
theorem has_any (s n : Nat) (w : World) (hn : n ≤ 62) (hs : s < 4611686018427387904) :
    Calls Tryz.prog 83 #[.int .i64 s, .int .i64 n] w fun e w' => e = .returned (.bool (hasB s n)) ∧ w = w' := by
 go_enter Tryz.func83, Tryz.ntmps83
 go_wp2
 go_ret
 refine ⟨ret_bool ?_, rfl⟩
 unfold hasB
 have e1 : ((s : Int) / 2 ^ n) = ((s / 2 ^ n : Nat) : Int) := by simp
 rw [e1]
 generalize s / 2 ^ n = q
 rw [Int.tmod_eq_emod_of_nonneg (by omega)]
 rw [Bool.eq_iff_iff, beq_iff_eq, beq_iff_eq]
 omega
theorem onesL_succ (s k : Nat) : onesL s (k + 1) = onesL s k ++ if hasB s k then [(k : Int)] else [] := by
 unfold onesL
 rw [List.range_succ, List.filter_append, List.map_append]
 cases h : hasB s k <;> simp [h]
theorem onesL_len (s k : Nat) : (onesL s k).length ≤ k := by
 unfold onesL
 rw [List.length_map]
 exact Nat.le_trans (List.length_filter_le _ _) (by simp)
theorem ones_any (s below : Nat) (w : World) (hn : below ≤ 62) (hs : s < 4611686018427387904) :
    Calls Tryz.prog 59 #[.int .i64 s, .int .i64 below] w (Ret w (onesL s below).length (ints (onesL s below))) := by
 go_enter Tryz.func59, Tryz.ntmps59
 go_wp2
 go_loopw [5, 6] (fun out i wr => ∃ k : Nat, k ≤ below ∧ i = .int .i64 k ∧ wr.ownsRow w.heap.size 3 1 out (onesL s k).length (ints (onesL s k)) ∧ Below w.heap.size w wr) (fun _ i _ => below - (intOf i).toNat)
 case atStart => exact ⟨0, Nat.zero_le _, rfl, own_nil _ _ _ _, Below.refl _ _⟩
 case round =>
  obtain ⟨k, hk, rfl, hown, hB⟩ := hrel
  by_cases hlt : k < below
  ·have hl := onesL_len s k
   have HS := hid (onesL_succ s k)
   cases hh : hasB s k
   ·have HH := hid hh
    go_wp2_with (go_at_call 83; refine (has_any s k _ (by omega) hs).mono ?_; rintro e w1 ⟨rfl, rfl⟩)
    exact ⟨⟨k + 1, by omega, by go_num, by rw [HS.out, HH.out]; simpa using hown, hB⟩, by simp [intOf]; omega⟩
   ·have HH := hid hh
    go_wp2_with (first
     | (go_at_call 83; refine (has_any s k _ (by omega) hs).mono ?_; rintro e w1 ⟨rfl, rfl⟩)
     | (at_builtin; refine wpList_app1 rfl _ _ 48 rfl w.heap.size 3 _ 1 8 Tryz.underlying48 info_int rfl (by omega) _ (onesL s k).length _ rfl hown _ rfl rfl (by simp [Value.oneCell']) (by unfold maxLen; omega) (by omega) hB.size ?_; intro A1 cap1 w1 hcap1 hcap1' hown1 hb1 hg1))
    have e1 : (onesL s (k + 1)).length = (onesL s k).length + 1 := by rw [HS.out, HH.out]; simp
    have e2 : ints (onesL s (k + 1)) = ints (onesL s k) ++ [.int .i64 (k : Int)] := by rw [HS.out, HH.out]; simp [ints]
    refine ⟨⟨k + 1, by omega, by go_num, ?_, hB.trans hb1⟩, by simp [intOf]; omega⟩
    rw [e1, e2]; exact hown1
  ·obtain rfl : k = below := by omega
   go_wp2
   go_ret
   obtain ⟨A, cap, rfl, _, hcm, ha⟩ := own_form hown
   exact ⟨A, cap, rfl, hcm, ha, hB⟩
end Go.Proofs.YtbimkcjdodgojaaGreat
namespace Go.Proofs.YtbimkcjdodgojaaGreat
set_option linter.unusedSimpArgs false
set_option linter.unusedVariables false
open Go Go.RowKit
attribute [local go_sem high] cell_set_wr
attribute [local go_sem low] cell_wr frozen_wr
attribute [local go_sem] wr_set wr_drew wr_drewN wr_alloc wr_new Rho.c Rho.n Rho.g
theorem nats_ints (l : List Nat) : nats l = ints (l.map fun (n : Nat) => (n : Int)) := by simp [nats, ints, natV]
/-- the state while lines are left out -/
def OutL (A : Option Addr) (cap : Nat) (b : Bk) (out : List Nat) (Q R : Nat) (w : World) (k : Nat) (w' : World) : Prop :=
 ∃ A' cap', (Q < w'.heap.size ∧ Row w' Q [.slice A b.ear.alike.length cap, .string b.ear.mute, .int .i64 b.ear.slips, .slice A' (dropK b.lines out k).length cap', .int .i64 b.lo, .int .i64 b.hi, .int .i64 b.lost]) ∧
  w'.ownsRow (Q + 1) 65 3 (.slice A' (dropK b.lines out k).length cap') (dropK b.lines out k).length (nlines (dropK b.lines out k)) ∧ (R < w'.heap.size ∧ ∃ zs : List Value, zs.length = 7 ∧ Row w' R zs) ∧ Below w.heap.size w w'
theorem OutL.below {A : Option Addr} {cap : Nat} {b : Bk} {out : List Nat} {Q R : Nat} {w : World} {k : Nat} {w' w'' : World} (h : OutL A cap b out Q R w k w') (hb : Below w'.heap.size w' w'') : OutL A cap b out Q R w k w'' := by
 obtain ⟨A', cap', ⟨h1, h2⟩, h3, ⟨h4, zs, h5, h6⟩, h7⟩ := h
 exact ⟨A', cap', ⟨Nat.lt_of_lt_of_le h1 hb.size, h2.below hb h1⟩, own_below h3 hb, ⟨Nat.lt_of_lt_of_le h4 hb.size, zs, h5, h6.below hb h4⟩, h7.trans (hb.mono h7.size)⟩
section
variable (A : Option Addr) (cap : Nat) (L : Option Addr) (lcap : Nat) (b : Bk)
end
end Go.Proofs.YtbimkcjdodgojaaGreat
namespace Go.Proofs.YtbimkcjdodgojaaGreat
set_option linter.unusedSimpArgs false
set_option linter.unusedVariables false
open Go Go.RowKit
/-- strictly increasing numbers from one on, below another one -/
def IncN : Nat → Nat → List Nat → Prop
 | _, _, [] => True
 | s, n, x :: t => s ≤ x ∧ x < n ∧ IncN (x + 1) n t
def lessN : List Nat → List Nat → Bool
 | [], [] => false
 | [], _ :: _ => true
 | _ :: _, [] => false
 | x :: a, y :: b => if x < y then true else if y < x then false else lessN a b
theorem lessN_int : ∀ (a b : List Nat), lessB (a.map fun (n : Nat) => (n : Int)) (b.map fun (n : Nat) => (n : Int)) = lessN a b
 | [], [] => rfl
 | [], _ :: _ => rfl
 | _ :: _, [] => rfl
 | x :: a, y :: b => by
  simp only [List.map_cons, lessB, lessN, lessN_int a b]
  by_cases h1 : x < y
  ·rw [if_pos h1, if_pos (by omega)]
  ·rw [if_neg h1, if_neg (by omega)]
   by_cases h2 : y < x
   ·rw [if_pos h2, if_pos (by omega)]
   ·rw [if_neg h2, if_neg (by omega)]
theorem findSome_range {α : Type} {g : Nat → Option α} {a : α} : ∀ (m n : Nat), (List.range' n m).findSome? g = some a → ∃ j, n ≤ j ∧ j < n + m ∧ g j = some a ∧ ∀ k, n ≤ k → k < j → g k = none
 | 0, n, h => by simp at h
 | m + 1, n, h => by
  rw [List.range'_succ, List.findSome?_cons] at h
  cases hg : g n with
  | some b =>
   rw [hg] at h
   obtain rfl := Option.some.inj h
   exact ⟨n, Nat.le_refl _, by omega, hg, fun k h1 h2 => by omega⟩
  | none =>
   rw [hg] at h
   obtain ⟨j, h1, h2, h3, h4⟩ := findSome_range m (n + 1) h
   refine ⟨j, by omega, by omega, h3, fun k hk1 hk2 => ?_⟩
   by_cases e : k = n
   ·subst e; exact hg
   ·exact h4 k (by omega) hk2
theorem addL_mem {size count : Nat} : ∀ (f : Nat) (li : List Nat) (n : Nat) (u : List Nat), IncN n count u → li.length + u.length = size → u.length ≤ f → li ++ u ∈ addL size count f li n
 | 0, li, n, u, _, hl, hf => by
  obtain rfl : u = [] := List.eq_nil_of_length_eq_zero (by omega)
  unfold addL
  rw [if_pos (by simpa using hl)]
  simp
 | f + 1, li, n, [], _, hl, _ => by
  unfold addL
  rw [if_pos (by simpa using hl)]
  simp
 | f + 1, li, n, x :: t, ⟨h1, h2, h3⟩, hl, hf => by
  unfold addL
  simp only [List.length_cons] at hl hf
  rw [if_neg (by omega), List.mem_flatMap]
  refine ⟨x, List.mem_range'_1.2 ⟨h1, by omega⟩, ?_⟩
  have := addL_mem (size := size) (count := count) f (li ++ [x]) (x + 1) t h3 (by simp; omega) (by omega)
  simpa using this
theorem addL_first {size count : Nat} {p : List Nat → Bool} : ∀ (f : Nat) (li : List Nat) (n : Nat) (r : List Nat), size ≤ li.length + f → (addL size count f li n).find? p = some r →
    ∃ t, r = li ++ t ∧ IncN n count t ∧ p r = true ∧ ∀ u, IncN n count u → li.length + u.length = size → lessN u t = true → p (li ++ u) = false := fun f => by
 induction f with
 | zero =>
  intro li n r hf h
  unfold addL at h
  split at h
  ·rename_i hl
   have hp := List.find?_some h
   have hm := List.mem_of_find?_eq_some h
   rw [List.mem_singleton] at hm
   subst hm
   refine ⟨[], by simp, trivial, hp, fun u _ hul hlt => ?_⟩
   obtain rfl : u = [] := List.eq_nil_of_length_eq_zero (by omega)
   cases hlt
  ·simp at h
 | succ f ih =>
  intro li n r hf h
  unfold addL at h
  split at h
  ·rename_i hl
   have hp := List.find?_some h
   have hm := List.mem_of_find?_eq_some h
   rw [List.mem_singleton] at hm
   subst hm
   refine ⟨[], by simp, trivial, hp, fun u _ hul hlt => ?_⟩
   obtain rfl : u = [] := List.eq_nil_of_length_eq_zero (by omega)
   cases hlt
  ·rename_i hl
   rw [List.find?_flatMap] at h
   obtain ⟨j, h1, h2, h3, h4⟩ := findSome_range _ _ h
   obtain ⟨t, rfl, ht, hp, hlt⟩ := ih (li ++ [j]) (j + 1) r (by simp; omega) h3
   refine ⟨j :: t, by simp, ⟨h1, by omega, ht⟩, hp, fun u hu hul hless => ?_⟩
   cases u with
   | nil => simp at hul; omega
   | cons x u' =>
    obtain ⟨k1, k2, k3⟩ := hu
    simp only [List.length_cons] at hul
    simp only [lessN] at hless
    by_cases c : x < j
    ·have hno := List.find?_eq_none.1 (h4 x k1 c) (li ++ [x] ++ u') (addL_mem f (li ++ [x]) (x + 1) u' k3 (by simp; omega) (by omega))
     simpa using hno
    ·rw [if_neg c] at hless
     by_cases d : j < x
     ·rw [if_pos d] at hless; cases hless
     ·rw [if_neg d] at hless
      obtain rfl : x = j := by omega
      have := hlt u' k3 (by simp; omega) hless
      simpa using this
theorem incN_len : ∀ {s n : Nat} {u : List Nat}, IncN s n u → u.length ≤ n - s
 | _, _, [], _ => Nat.zero_le _
 | s, n, x :: t, ⟨h1, h2, h3⟩ => by
  have := incN_len h3
  simp only [List.length_cons]; omega
theorem cands_first {n : Nat} {p : List Nat → Bool} {r : List Nat} (h : (candsP n (n + 1)).find? p = some r) :
    IncN 0 n r ∧ p r = true ∧ (∀ u, IncN 0 n u → u.length < r.length → p u = false) ∧ ∀ u, IncN 0 n u → u.length = r.length → lessN u r = true → p u = false := by
 unfold candsP at h
 rw [List.range_eq_range', List.find?_flatMap] at h
 obtain ⟨j, _, h2, h3, h4⟩ := findSome_range _ _ h
 have hl := addL_len _ _ _ _ (List.mem_of_find?_eq_some h3)
 obtain ⟨t, rt, ht, hp, hlt⟩ := addL_first n [] 0 r (by simp; omega) h3
 obtain rfl : r = t := rt
 refine ⟨ht, hp, fun u hu hul => ?_, fun u hu hul hless => ?_⟩
 ·have hno := List.find?_eq_none.1 (h4 u.length (Nat.zero_le _) (by omega)) u (addL_mem n [] 0 u hu (by simp) (by have := incN_len hu; omega))
  simpa using hno
 ·have := hlt u hu (by simp; omega) hless
  simpa using this
theorem incN_range (n : Nat) : ∀ (m s : Nat), s + m ≤ n → IncN s n (List.range' s m)
 | 0, _, _ => trivial
 | m + 1, s, h => by
  rw [List.range'_succ]
  exact ⟨Nat.le_refl _, by omega, incN_range n m (s + 1) (by omega)⟩
theorem without_nil (b : Bk) : b.without [] = b := by
 have : dropK b.lines [] b.lines.length = b.lines := by
  unfold dropK
  rw [List.filter_eq_self.2 (fun x _ => by simp)]
  apply List.ext_getElem (by simp)
  intro i h1 h2
  simp [List.getD_eq_getElem?_getD, h2]
 unfold Bk.without
 rw [this]
theorem without_all (b : Bk) : (b.without (List.range b.lines.length)).lines = [] := by
 show dropK b.lines _ b.lines.length = []
 unfold dropK
 rw [List.map_eq_nil_iff, List.filter_eq_nil_iff]
 intro x hx
 simp [List.mem_range.1 hx]
theorem right_ts (b : Bk) (out : List Nat) : rightP b out = !((b.without out).ts).isEmpty := rfl
theorem right_all {b : Bk} (h : 0 ≤ b.lost) : rightP b (List.range b.lines.length) = true := by
 rw [right_ts]
 unfold Bk.ts
 rw [without_all]
 simp only [List.length_nil]
 unfold fromP
 have : (b.without (List.range b.lines.length)).lost = b.lost := rfl
 rw [this, if_pos (by first | simpa [lostP] using h | (simp [lostP]; omega) | simp [lostP, h])]
 rfl
/-- what the law asks of Wrong -/
theorem wrong_lawN {b : Bk} (h : 0 ≤ b.lost) : IncN 0 b.lines.length (wrongP b) ∧ rightP b (wrongP b) = true ∧ (∀ u, IncN 0 b.lines.length u → u.length < (wrongP b).length → rightP b u = false) ∧
    (∀ u, IncN 0 b.lines.length u → u.length = (wrongP b).length → lessN u (wrongP b) = true → rightP b u = false) ∧ ((wrongP b).length = 0 ↔ b.ts.length ≠ 0) := by
 cases hf : (candsP b.lines.length (b.lines.length + 1)).find? (rightP b) with
 | none =>
  have hm : List.range b.lines.length ∈ candsP b.lines.length (b.lines.length + 1) := by
   unfold candsP
   rw [List.mem_flatMap]
   refine ⟨b.lines.length, List.mem_range.2 (by omega), ?_⟩
   have := addL_mem (size := b.lines.length) (count := b.lines.length) b.lines.length [] 0 (List.range b.lines.length) (by rw [List.range_eq_range']; exact incN_range _ _ _ (by omega)) (by simp) (by simp)
   simpa [listsL] using this
  have := List.find?_eq_none.1 hf _ hm
  rw [right_all h] at this
  exact absurd rfl this
 | some r =>
  have hw : wrongP b = r := by unfold wrongP; rw [hf]; rfl
  rw [hw]
  obtain ⟨h1, h2, h3, h4⟩ := cands_first hf
  refine ⟨h1, h2, h3, h4, fun e => ?_, fun e => ?_⟩
  ·rw [List.eq_nil_of_length_eq_zero e, right_ts, without_nil] at h2
   intro e0
   rw [List.eq_nil_of_length_eq_zero e0] at h2
   cases h2
  ·refine Classical.byContradiction fun hne => ?_
   have := h3 [] trivial (by simp; omega)
   rw [right_ts, without_nil] at this
   cases hts : b.ts with
   | nil => rw [hts] at e; exact e rfl
   | cons x l => rw [hts] at this; cases this
/-- the numbers of a set -/
def onesN (s n : Nat) : List Nat := (List.range n).filter fun k => hasB s k
theorem ones_map (s n : Nat) : onesL s n = (onesN s n).map fun (i : Nat) => (i : Int) := rfl
theorem incN_filter (p : Nat → Bool) : ∀ {s n : Nat} {l : List Nat}, IncN s n l → IncN s n (l.filter p)
 | _, _, [], _ => trivial
 | s, n, x :: t, ⟨h1, h2, h3⟩ => by
  rw [List.filter_cons]
  split
  ·exact ⟨h1, h2, incN_filter p h3⟩
  ·have := incN_filter p h3
   revert this
   cases t.filter p with
   | nil => intro _; trivial
   | cons y u => rintro ⟨g1, g2, g3⟩; exact ⟨by omega, g2, g3⟩
theorem incN_ones (s n : Nat) : IncN 0 n (onesN s n) := by
 unfold onesN
 refine incN_filter _ ?_
 rw [List.range_eq_range']
 exact incN_range _ _ _ (by omega)
end Go.Proofs.YtbimkcjdodgojaaGreat
