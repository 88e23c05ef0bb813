/- Slope: the law SlopeMore: its maths, and the sights the other way round. -/
import Derived.Test.YtkhmcofmjjmjhaaDoorScp
import Derived.Test.YtkhmcofmjjmjhaaDoorScn
namespace Go.Proofs.YtkhmcofmjjmjhaaDoor
set_option linter.unusedSimpArgs false
set_option linter.unusedVariables false
open Go Go.RowKit
attribute [local go_sem high] cell_set_wr
attribute [local go_sem low] cell_wr frozen_wr
attribute [local go_sem] wr_set wr_drew wr_drewN wr_alloc wr_new Rho.c Rho.n Rho.g

theorem frE_cases (b : Sb) : (frE b true = 0 ∧ OkB b ∧ rtB b = true) ∨ (frE b true = 30 ∧ b.ok = false) ∨ (frE b true = 32 ∧ OkB b ∧ rtB b = false) := by
 cases ho : b.ok with
 | false => exact .inr (.inl ⟨by unfold frE; rw [ho]; rfl, rfl⟩)
 | true =>
  have hb := ok_iff.1 ho
  cases hr : rtB b with
  | true => exact .inl ⟨frE_yes hb hr rfl, hb, rfl⟩
  | false => exact .inr (.inr ⟨frE_no hb hr rfl, hb, rfl⟩)
theorem rt_rev {b : Sb} (hb : OkB b) : rtB (revB b) = rtB b := by
 rw [Bool.eq_iff_iff, rtB_iff (ok_rev hb), rtB_iff hb]
 exact ⟨fun ⟨t, h⟩ => ⟨t, tr_rev.1 h⟩, fun ⟨t, h⟩ => ⟨t, tr_rev.2 h⟩⟩
theorem rev_law {b : Sb} (hb : OkB b) {h : Nat} (hh : h < b.hours.length) : frE (revB b) true = frE b true ∧ loadR (revB b) h = loadR b h := by
 have hb' := ok_rev hb
 have e1 : frE (revB b) true = frE b true := by
  cases hr : rtB b with
  | true => rw [frE_yes hb hr rfl, frE_yes hb' (by rw [rt_rev hb]; exact hr) rfl]
  | false => rw [frE_no hb hr rfl, frE_no hb' (by rw [rt_rev hb]; exact hr) rfl]
 refine ⟨e1, ?_⟩
 unfold loadR
 rw [hour_is (b := revB b) hh, hour_is hh, e1]
 by_cases h0 : frE b true = 0
 ·rw [if_pos h0, if_pos h0]
  obtain ⟨_, _, hr⟩ := frE_zero.1 h0
  have he := ends_load hb hr hh
  have he' := ends_load hb' (by rw [rt_rev hb]; exact hr) (h := h) hh
  obtain ⟨h1, h2⟩ := he.unique ⟨he'.low.imp fun t ⟨a, c⟩ => ⟨tr_rev.1 a, c⟩, he'.high.imp fun t ⟨a, c⟩ => ⟨tr_rev.1 a, c⟩, fun m ⟨t, a, c⟩ => he'.all m ⟨t, tr_rev.2 a, c⟩⟩
  rw [Int.toNat_natCast]
  rw [h1, h2]
 ·rw [if_neg h0, if_neg h0]
theorem more_law {b : Sb} (hb : OkB b) (x : Si) {h : Nat} (hh : h < b.hours.length) : (frE b true = 0 ∨ frE b true = 32) ∧ (frE (withS b x) true = 0 ∨ frE (withS b x) true = 30 ∨ frE (withS b x) true = 32) ∧
    (frE (withS b x) true = 0 → frE b true = 0 ∧ ((loadR b h).1 ≤ (loadR (withS b x) h).1 ∧ (loadR (withS b x) h).2 ≤ (loadR b h).2) ∧ ((falR b).1 ≤ (falR (withS b x)).1 ∧ (falR (withS b x)).2 ≤ (falR b).2) ∧ ∀ k ∈ freL b, k ∈ freL (withS b x)) := by
 refine ⟨?_, ?_, fun h0 => ?_⟩
 ·rcases frE_cases b with h | h | h
  ·exact .inl h.1
  ·rw [ok_iff.2 hb] at h; cases h.2
  ·exact .inr h.1
 ·rcases frE_cases (withS b x) with h | h | h
  ·exact .inl h.1
  ·exact .inr (.inl h.1)
  ·exact .inr (.inr h.1)
 ·obtain ⟨ho, _, hr⟩ := frE_zero.1 h0
  have hc := ok_iff.1 ho
  have hs : ∀ t, TrB (withS b x) t → TrB b t := fun t ht => (tr_with.1 ht).1
  have hrb := sub_rt hb hc hs hr
  have h1 := frE_yes hb hrb (v := true) rfl
  have hh' : h < (withS b x).hours.length := hh
  have g1 := sub_load hb hc hs hr hh hh'
  have g2 := sub_falls hb hc hs hr
  have e1 : loadR b h = (loH b h, hiH b h) := by unfold loadR; rw [hour_is hh, if_pos h1, Int.toNat_natCast]
  have e2 : loadR (withS b x) h = (loH (withS b x) h, hiH (withS b x) h) := by unfold loadR; rw [hour_is hh', if_pos h0, Int.toNat_natCast]
  have e3 : falR b = (loO b, hiO b) := by unfold falR; rw [if_pos h1]
  have e4 : falR (withS b x) = (loO (withS b x), hiO (withS b x)) := by unfold falR; rw [if_pos h0]
  have e5 : freL b = freK b b.hours.length := by unfold freL; rw [if_pos h1]
  have e6 : freL (withS b x) = freK (withS b x) b.hours.length := by unfold freL; rw [if_pos h0]; rfl
  rw [e1, e2, e3, e4, e5, e6]
  dsimp only
  refine ⟨h1, ⟨g1.1, g1.2.2⟩, ⟨g2.1, g2.2.2⟩, fun k hk => ?_⟩
  obtain ⟨k1, k2⟩ := mem_freK.1 hk
  exact mem_freK.2 ⟨k1, sub_safe hb hc rfl hs hr (h := k) k1 k1 k2⟩
/-- a book with other sights in memory -/
structure YoS (H : Option Addr) (hcap : Nat) (b : Sb) (Q : Nat) (w w0 : World) (ds : List Si) (A : Option Addr) (c : Nat) (V : World) : Prop where
 below : Below w.heap.size w V
 size : w0.heap.size ≤ V.heap.size
 row : Row V Q (sbV H hcap A c { b with sights := ds })
 own : V.ownsRow w0.heap.size 68 4 (.slice A ds.length c) ds.length (sis ds)
 other : ∀ R, R < w0.heap.size → R ≠ Q → V.heap[R]? = w0.heap[R]?
theorem YoS.on {H : Option Addr} {hcap : Nat} {b : Sb} {Q : Nat} {w w0 : World} {ds : List Si} {A : Option Addr} {c : Nat} {V V' : World} (h : YoS H hcap b Q w w0 ds A c V) (hQ0 : Q < w0.heap.size) (hb : Below V.heap.size V V') : YoS H hcap b Q w w0 ds A c V' := ⟨h.below.trans (hb.mono h.below.size), Nat.le_trans h.size hb.size, h.row.below hb (Nat.lt_of_lt_of_le hQ0 h.size), own_below h.own hb, fun R hR hne => (hb.block R (Nat.lt_of_lt_of_le hR h.size)).trans (h.other R hR hne)⟩
theorem YoS.snoc {H : Option Addr} {hcap : Nat} {b : Sb} {Q : Nat} {w w0 : World} {ds : List Si} {A : Option Addr} {c : Nat} {V V' : World} (h : YoS H hcap b Q w w0 ds A c V) (hQ : w.heap.size ≤ Q) (hQ0 : Q < w0.heap.size) (s : Si) {A2 : Option Addr} {c2 : Nat}
    (q3 : V'.ownsRow w0.heap.size 68 4 (.slice A2 (ds.length + 1) c2) (ds.length + 1) (sis ds ++ s.cells)) (q4 : V.grownBy V' (Value.slice A ds.length c).ownBlock) :
    YoS H hcap b Q w w0 (ds ++ [s]) A2 c2 (V'.setCell ⟨Q, 8, none⟩ (.slice A2 (ds.length + 1) c2)) ∧ Wr V' Q 8 := by
 have hsz := h.size
 have ho := h.own
 have hlow : Below w0.heap.size V V' := (Below.refl w0.heap.size V).grown q4 hsz (fun k e => ownBlock_le ho k e)
 have hrow := row_of_block h.row (hlow.block Q hQ0)
 have hl1 : (ds ++ [s]).length = ds.length + 1 := by simp
 refine ⟨⟨(h.below.trans (hlow.mono (by omega))).setCell hQ _, by simpa using Nat.le_trans hsz hlow.size, ?_, ?_, fun R hR hne => ?_⟩, (hrow 8 _ rfl).2⟩
 ·have := hrow.set (o := 8) (v := .slice A2 (ds.length + 1) c2) (by simp [sbV])
  rw [← hl1] at this ⊢
  exact this
 ·rw [hl1, sis_snoc]
  refine own_of_block q3 (by simp) fun g hg => ?_
  have hg2 := ownBlock_le q3 g hg
  exact Below.heap_setCell _ _ _ _ (by simp only; omega)
 ·rw [Below.heap_setCell _ _ _ _ (by simpa using hne), hlow.block R hR]
  exact h.other R hR hne
theorem rev_take {b : Sb} {k i : Nat} (h : b.sights.length = k + 1 + i) : b.sights.reverse.take (k + 1) = b.sights.reverse.take k ++ [b.sights[i]'(by omega)] := by
 have hk : k < b.sights.reverse.length := by rw [List.length_reverse]; omega
 rw [List.take_succ_eq_append_getElem hk, List.getElem_reverse]
 congr 3
 omega
end Go.Proofs.YtkhmcofmjjmjhaaDoor
