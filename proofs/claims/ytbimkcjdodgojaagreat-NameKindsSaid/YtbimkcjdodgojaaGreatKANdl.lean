/- Name: the reference's functions, with no premise left open. -/
import Derived.Test.YtbimkcjdodgojaaGreatKANdk

namespace Go.Proofs.YtbimkcjdodgojaaGreat
set_option linter.unusedSimpArgs false
set_option linter.unusedVariables false
open Go Go.RowKit
attribute [local go_sem high] cell_set_wr
attribute [local go_sem low] cell_wr frozen_wr
attribute [local go_sem] wr_set wr_drew wr_drewN wr_alloc wr_new Rho.c Rho.n Rho.g
/-- a list that lies in memory -/
def ArrD (w : World) (G : Option Addr) (xs : List Value) : Prop := Arr w w.heap.size G xs
theorem ArrD.below {w w' : World} {G : Option Addr} {xs : List Value} (h : ArrD w G xs) (hb : Below w.heap.size w w') : ArrD w' G xs := (Arr.below h hb).more hb.size
/-- a cell that lies in memory -/
def LoadD (w : World) (b o : Nat) (v : Value) : Prop := b < w.heap.size ∧ w.cell? ⟨b, o, none⟩ = some v
theorem LoadD.below {w w' : World} {b o : Nat} {v : Value} (h : LoadD w b o v) (hb : Below w.heap.size w w') : LoadD w' b o v := ⟨Nat.lt_of_lt_of_le h.1 hb.size, (hb.cell (p := ⟨b, o, none⟩) h.1).trans h.2⟩
/-- a block with n cells that can be written -/
def RowD (w : World) (R n : Nat) : Prop := R < w.heap.size ∧ ∃ zs : List Value, zs.length = n ∧ Row w R zs
theorem RowD.below {w w' : World} {R n : Nat} (h : RowD w R n) (hb : Below w.heap.size w w') : RowD w' R n := by
 obtain ⟨h1, zs, h2, h3⟩ := h
 exact ⟨Nat.lt_of_lt_of_le h1 hb.size, zs, h2, h3.below hb h1⟩
theorem ok_lost {b : Bk} (h : b.ok = true) : 0 ≤ b.lost ∧ b.lost ≤ 9 := by
 unfold Bk.ok headB at h
 simp only [Bool.and_eq_true, decide_eq_true_eq] at h
 exact h.2.1.2
section
variable (A : Option Addr) (cap : Nat) (L : Option Addr) (lcap : Nat) (b : Bk)
theorem rAll_full (hs : b.small cap lcap) (hz : ∀ i (h : i < b.ear.alike.length), b.ear.alike[i].size ≤ 9223372036854775807) (ho : b.ok = true) (w : World) (hM : BkAt w A L b) : Calls Tryz.prog 42 #[.agg (bkV A cap L lcap b).toArray] w fun e w' => (∃ O c, e = .returned (.slice O (truthsR b).length c) ∧ TruAt w' w'.heap.size O (truthsR b)) ∧ Below w.heap.size w w' := by
 refine rAll_any A cap L lcap b w hM (hid fun W hW => ?_)
 refine (rfrom_any A cap L lcap b (ok_nine ho) (ok_lost ho) (hid fun i k W hi hk hW => rcan_any A cap L lcap b i k W hi hk hW hs ho hz) b.lines.length 0 0 [] none 0 W (by omega) rfl (by simp) hW (own_nil _ _ _ _)).mono ?_
 rintro e w' ⟨⟨v, rfl, hv⟩, h⟩
 obtain ⟨O, c, rfl, hT⟩ := hv.tru
 exact ⟨⟨O, c, rfl, hT⟩, h⟩
theorem rAll_len (hs : b.small cap lcap) (hz : ∀ i (h : i < b.ear.alike.length), b.ear.alike[i].size ≤ 9223372036854775807) : Hid (b.ok = true → ∀ (W : World), BkAt W A L b → Calls Tryz.prog 42 #[.agg (bkV A cap L lcap b).toArray] W fun e w' => (∃ O c, e = .returned (.slice O b.ts.length c)) ∧ Below W.heap.size W w') := hid fun ho W hW => by
 refine (rAll_full A cap L lcap b hs hz ho W hW).mono ?_
 rintro e w' ⟨⟨O, c, rfl, _⟩, h⟩
 exact ⟨⟨O, c, by rw [truthsR_len]⟩, h⟩
theorem rasked_full (v : Bool) (w : World) (hM : BkAt w A L b) (hs : b.small cap lcap) (hz : ∀ i (h : i < b.ear.alike.length), b.ear.alike[i].size ≤ 9223372036854775807) : Calls Tryz.prog 52 #[.agg (bkV A cap L lcap b).toArray, .bool v] w fun e w' => e = .returned (.int .i64 (setE b v)) ∧ Below w.heap.size w w' :=
 rasked_any A cap L lcap b v w hM hs hz (rAll_len A cap L lcap b hs hz)
end
end Go.Proofs.YtbimkcjdodgojaaGreat
