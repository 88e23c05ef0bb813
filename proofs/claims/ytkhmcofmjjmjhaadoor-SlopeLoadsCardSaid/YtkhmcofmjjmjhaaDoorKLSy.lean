/- Slope: what is known of moments: a map that the call itself has made. -/
import Derived.Test.YtkhmcofmjjmjhaaDoorKLSx
import Derived.Maps.Own
import Derived.Maps.OwnOps
import Derived.Maps.OwnSet
import Derived.Maps.Views
import Derived.DeepKeys4
namespace Go.Proofs.YtkhmcofmjjmjhaaDoor
set_option linter.unusedSimpArgs false
set_option linter.unusedVariables false
open Go Go.RowKit Go.WideMaps Go.Maps Go.ChangeMaps
attribute [local go_sem high] cell_set_wr
attribute [local go_sem low] cell_wr frozen_wr
attribute [local go_sem] wr_set wr_drew wr_drewN wr_alloc wr_new Rho.c Rho.n Rho.g
theorem k_laid : laidOutB Tryd.prog = true := by kernel_rfl
theorem k_row : (160 : TypeId) < Tryd.prog.types.size := of_decide_eq_true (by kernel_rfl)
theorem k_wide : (match Tryd.prog.underlying 160 with | some (.array _ _) | some (.struct _) => true | _ => false) = true := by kernel_rfl
theorem k_size : ∃ m, Tryd.prog.types.size = m + 1 := ⟨Tryd.prog.types.size - 1, by kernel_rfl⟩
theorem k_cells : Tryd.prog.cellsOf 160 = 2 := by kernel_rfl
theorem k_cell : Tryd.prog.cellsOf 3 = 1 := by kernel_rfl
theorem k_type : Tryd.prog.keyType 160 = true := by kernel_rfl
theorem k_at : Tryd.prog.keyTypeAt 2 160 = true := by kernel_rfl
set_option maxRecDepth 100000 in
theorem k_law0 : KeyLaw Tryd.prog 160 := deep_law_laid k_laid (m := 2) (by omega) k_row k_at k_wide
theorem k_law : Maps.Keyed Tryd.prog 160 := .of_law k_law0
theorem k_lits (a b : Int) (wa : (Lit.int .i64 a).wf = true) (wb : (Lit.int .i64 b).wf = true) : ∃ l, keyOf Tryd.prog 160 (.agg #[.int .i64 a, .int .i64 b]) = some l := by
 obtain ⟨m, hs⟩ : ∃ m, Tryd.prog.types.size = m + 1 := k_size; have hc := k_cells; have h1 := k_cell; have hk := k_type; have hf : (Value.agg #[.int .i64 a, .int .i64 b]).formed Tryd.prog 160 = true := by simp [Value.formed, Tryd.underlying160, hc]
 have hl : Tryd.prog.keyLits (Tryd.prog.types.size + 1) 160 [.int .i64 a, .int .i64 b] = some [.int .i64 a, .int .i64 b] := by
  rw [hs]
  have hi : ∀ (n : Nat) (x : Int), (Lit.int .i64 x).wf = true → Tryd.prog.keyLits (n + 1) 3 [.int .i64 x] = some [.int .i64 x] := fun n x hx => by
   unfold Program.keyLits
   simp only [Tryd.underlying3]; simp [hx]
  unfold Program.keyLits
  simp only [Tryd.underlying160, hc]; simp [hi, wa, wb, h1]
 refine ⟨.string (keyBytes [.int .i64 a, .int .i64 b]), ?_⟩
 unfold keyOf
 rw [Tryd.underlying160]; simp only [hk, hf, Bool.and_self, if_true]; simp only [Value.cells]; rw [hl]
 rfl
abbrev mval (h l : Nat) : Value := .agg #[.int .i64 h, .int .i64 l]
theorem wf_nat (a : Nat) (h : a ≤ 1000000) : (Lit.int .i64 (a : Int)).wf = true := by
 unfold Lit.wf
 simp [IntKind.min, IntKind.max, IntKind.bits, IntKind.signed]; omega
theorem wf_u64 (a : Nat) (h : a ≤ 1000000) : (Lit.int .u64 (a : Int)).wf = true := by
 unfold Lit.wf
 simp [IntKind.min, IntKind.max, IntKind.bits, IntKind.signed]; omega
theorem nodup_le : ∀ (N : Nat) (l : List Nat), l.Nodup → (∀ x ∈ l, x < N) → l.length ≤ N
 | 0, l, _, h => by
  cases l with
  | nil => exact Nat.le_refl _
  | cons x l => exact absurd (h x (by simp)) (by omega)
 | N + 1, l, hn, h => by
  have h1 := nodup_le N (l.erase N) (hn.erase N) (fun x hx => by
   have h2 := (List.Nodup.mem_erase_iff hn).1 hx; have := h x h2.2; have := h2.1
   omega)
  rw [List.length_erase] at h1
  split at h1 <;> omega
theorem keys_le {ks : List (Nat × Nat)} (hn : ks.Nodup) (h : ∀ k ∈ ks, k.1 < 12 ∧ k.2 < 2000) : ks.length ≤ 24000 := by
 have h1 := nodup_le 24000 (ks.map fun k => k.1 * 2000 + k.2) (by
  rw [List.nodup_iff_pairwise_ne, List.pairwise_map]; refine (List.nodup_iff_pairwise_ne.1 hn).imp_of_mem ?_
  intro a b ha hb hne e
  have h1 := h a ha; have h2 := h b hb
  exact hne (Prod.ext (by omega) (by omega))) (fun x hx => by
  obtain ⟨k, hk, rfl⟩ := List.mem_map.1 hx; have := h k hk
  omega)
 simpa using h1
/-- block Mb is a map: at each moment that it knows it says what F says -/
def Memo (w : World) (Mb : Nat) (F : Nat → Nat → Nat) : Prop :=
 ∃ (D : DataW Unit) (ks : List (Nat × Nat)), w.ownsMap Tryd.prog 160 (plainElem Tryd.prog 92) Mb ks.length D ∧ Maps.size D = ks.length ∧ ks.Nodup ∧ (∀ k ∈ ks, k.1 < 12 ∧ k.2 < 2000) ∧
  ∀ h l kl, keyOf Tryd.prog 160 (mval h l) = some kl → (Maps.has D kl = true → (h, l) ∈ ks) ∧ ((h, l) ∈ ks → Maps.has D kl = true) ∧ (Maps.has D kl = true → D.atKey kl (.lit (.int .u64 0)) = .lit (.int .u64 (F h l)))
theorem Memo.of_block {w w' : World} {Mb : Nat} {F : Nat → Nat → Nat} (h : Memo w Mb F) (hb : w'.heap[Mb]? = w.heap[Mb]?) : Memo w' Mb F := by
 obtain ⟨D, ks, ⟨es, c, h1, h2, h3, h4⟩, r⟩ := h; exact ⟨D, ks, ⟨es, c, hb.trans h1, h2, h3, h4⟩, r⟩
theorem Memo.lt {w : World} {Mb : Nat} {F : Nat → Nat → Nat} (h : Memo w Mb F) : Mb < w.heap.size := by
 obtain ⟨D, ks, h, _⟩ := h; exact h.lt
theorem Memo.map {w : World} {Mb : Nat} {F : Nat → Nat → Nat} (h : Memo w Mb F) : ∃ es c, w.heap[Mb]? = some (.map es c) := by
 obtain ⟨D, ks, ⟨es, c, h1, _⟩, _⟩ := h; exact ⟨es, c, h1⟩
theorem Memo.made (w : World) (F : Nat → Nat → Nat) : Memo (w.alloc (.map #[] 0)) w.heap.size F :=
 ⟨.map [], [], World.ownsMap_made _ _ _ _, rfl, List.nodup_nil, fun _ h => absurd h (by simp), fun h l kl _ => ⟨fun h => absurd h (by simp [Maps.has_eq]), fun h => absurd h (by simp), fun h => absurd h (by simp [Maps.has_eq])⟩⟩
theorem k_zero (w : World) : (zeroValue 92).run Tryd.prog w = .ok (.int .u64 0) w := by kernel_rfl
theorem Memo.lookup {w : World} {Mb : Nat} {F : Nat → Nat → Nat} (h : Memo w Mb F) (hr l : Nat) (hh : hr ≤ 1000000) (hl : l ≤ 1000000) :
    ∃ c ok, (Instr.lookup 157 (.map (some Mb)) (mval hr l) true).run Tryd.prog w = .ok (.tuple #[.int .u64 c, .bool ok]) w ∧ (ok = true → c = (F hr l : Int)) := by
 obtain ⟨D, ks, hown, _, _, _, hD⟩ := h; obtain ⟨kl, hk⟩ := k_lits hr l (wf_nat _ hh) (wf_nat _ hl); obtain ⟨v, ps, hrun, hv⟩ := hown.look_ok k_law Tryd.underlying157 (k_zero w) (plainElem_int (a := 0) Tryd.underlying92 (by decide)) hk; obtain ⟨c, rfl, hc, _⟩ := plainElem_int_inv Tryd.underlying92 hv; refine ⟨c, _, hrun, fun hok => ?_⟩; have h1 := (hD hr l kl hk).2.2 hok; simp only [Prod.mk.injEq] at hc; rw [h1] at hc; have := hc.1; simp only [DataW.lit.injEq, Lit.int.injEq, true_and] at this; exact this.symm
theorem own_tight {w : World} {Mb n : Nat} {D : DataW Unit} (h : w.ownsMap Tryd.prog 160 (plainElem Tryd.prog 92) Mb n D) : w.ownsMap Tryd.prog 160 (plainElem Tryd.prog 92) Mb (Maps.size D) D := by
 obtain ⟨es, clock, hb, F, _, rfl⟩ := h; exact ⟨es, clock, hb, F, by simp [Maps.size, length_sorted], rfl⟩
theorem Memo.store {w : World} {Mb : Nat} {F : Nat → Nat → Nat} (h : Memo w Mb F) {hr l : Nat} (hh : hr < 12) (hl : l < 2000) (hF : F hr l ≤ 1000000) :
    ∃ w', (Instr.mapUpdate 157 (.map (some Mb)) (mval hr l) (.int .u64 (F hr l))).run Tryd.prog w = .ok () w' ∧ Memo w' Mb F ∧ w.grownBy w' (some Mb) := by
 obtain ⟨D, ks, hown, hsz, hnd, hks, hD⟩ := h; have hle := keys_le hnd hks; obtain ⟨kl, hk⟩ := k_lits hr l (wf_nat _ (by omega)) (wf_nat _ (by omega)); have ht := hown.tidy k_law; obtain ⟨w', h1, h2, h3⟩ := hown.update k_law Tryd.underlying157 (by simp only [maxLen]; omega) hk (plainElem_int Tryd.underlying92 (wf_u64 _ hF)); have hsp := Maps.size_put ht (k := kl) (.lit (.int .u64 (F hr l)))
 have hat : ∀ kg h' l', keyOf Tryd.prog 160 (mval h' l') = some kg → (kg = kl ↔ (h', l') = (hr, l)) := fun kg h' l' hkg => by
  constructor
  ·intro e
   have := k_law.inj hkg (e ▸ hk); simp only [mval, Value.agg.injEq, Array.mk.injEq, List.cons.injEq, Value.int.injEq, true_and, and_true] at this; exact Prod.ext (by omega) (by omega)
  ·intro e
   simp only [Prod.mk.injEq] at e; obtain ⟨rfl, rfl⟩ := e; rw [hk] at hkg; cases hkg; rfl
 have fin : ∀ ks' : List (Nat × Nat), Maps.size (D.put kl (.lit (.int .u64 (F hr l)))) = ks'.length → ks'.Nodup → (∀ k ∈ ks', k.1 < 12 ∧ k.2 < 2000) → (∀ q, q ∈ ks' ↔ q = (hr, l) ∨ q ∈ ks) → Memo w' Mb F := fun ks' g1 g2 g3 g4 => by
  refine ⟨_, ks', by rw [← g1]; exact own_tight h2, g1, g2, g3, fun h' l' kg hkg => ?_⟩
  by_cases e : kg = kl
  ·have e2 := (hat kg h' l' hkg).1 e; simp only [Prod.mk.injEq] at e2; obtain ⟨rfl, rfl⟩ := e2; subst e; refine ⟨fun _ => (g4 _).2 (.inl rfl), fun _ => Maps.has_put_same ht.isMap (k_law.key hk) _, fun _ => ?_⟩; rw [Maps.atKey_put_same ht.isMap (k_law.key hk)]
  ·have e2 : ¬ (h', l') = (hr, l) := fun e2 => e ((hat kg h' l' hkg).2 e2); obtain ⟨a1, a2, a3⟩ := hD h' l' kg hkg; rw [Maps.has_put_other e, Maps.atKey_put_other e]; refine ⟨fun h => (g4 _).2 (.inr (a1 h)), fun h => ?_, a3⟩
   rcases (g4 _).1 h with h | h
   ·exact absurd h e2
   ·exact a2 h
 refine ⟨w', h1, ?_, h3⟩; obtain ⟨a1, a2, _⟩ := hD hr l kl hk
 by_cases hm : (hr, l) ∈ ks
 ·refine fin ks (by rw [hsp, if_pos (a2 hm), hsz]) hnd hks fun q => ⟨.inr, ?_⟩; rintro (rfl | h)
  ·exact hm
  ·exact h
 ·have hf : ¬ Maps.has D kl = true := fun h => hm (a1 h); refine fin ((hr, l) :: ks) (by rw [hsp, if_neg hf, hsz]; rfl) (List.nodup_cons.2 ⟨hm, hnd⟩) (fun k hk => ?_) fun q => List.mem_cons
  rcases List.mem_cons.1 hk with rfl | hk
  ·exact ⟨hh, hl⟩
  ·exact hks k hk
/-- cells stay -/
structure KeepC (V V' : World) : Prop where
 size : V.heap.size ≤ V'.heap.size
 cell : ∀ p u, V.cell? p = some u → V'.cell? p = some u
theorem KeepC.of_below {V V' : World} (h : Below V.heap.size V V') : KeepC V V' := ⟨h.size, fun p u hu => by
 have hlt : p.block < V.heap.size := by
  cases hb : V.heap[p.block]? with
  | none => simp [World.cell?, hb] at hu
  | some x => exact heap_lt hb
 exact (World.cell?_of_block (h.block _ hlt)).trans hu⟩
theorem KeepC.of_map {V V' : World} {Mb : Nat} {es : Array MapEntry} {c : Nat} (hm : V.heap[Mb]? = some (.map es c)) (h : KeepX (fun q => q = Mb) V V') : KeepC V V' := ⟨h.size, fun p u hu => by
 have hlt : p.block < V.heap.size := by
  cases hb : V.heap[p.block]? with
  | none => simp [World.cell?, hb] at hu
  | some x => exact heap_lt hb
 have hne : ¬ p.block = Mb := fun e => by
  rw [← e] at hm; simp [World.cell?, hm] at hu
 exact (World.cell?_of_block (h.block _ hlt hne)).trans hu⟩
theorem Cells.c {V V' : World} {B : Nat} {l : List Value} (h : Cells V B l) (hk : KeepC V V') : Cells V' B l := ⟨Nat.lt_of_lt_of_le h.1 hk.size, fun j u hu => hk.cell _ u (h.2 j u hu)⟩
theorem ArrD.c {V V' : World} {A : Option Addr} {l : List Value} (h : ArrD V A l) (hk : KeepC V V') : ArrD V' A l := fun hx => by
 obtain ⟨b, o, e, h1, h2⟩ := h hx; exact ⟨b, o, e, Nat.lt_of_lt_of_le h1 hk.size, fun j u hu => hk.cell _ u (h2 j u hu)⟩
theorem HpsAt.c {V V' : World} {P : Option Addr} {xs : List Hp} (h : HpsAt V P xs) (hk : KeepC V V') : HpsAt V' P xs := fun k hk' => by
 obtain ⟨b, o, S, sc, G, gc, h1, h2, h3, h4⟩ := h k hk'; exact ⟨b, o, S, sc, G, gc, h1, Nat.lt_of_lt_of_le h2 hk.size, fun j u hu => hk.cell _ u (h3 j u hu), h4.1.c hk, h4.2.c hk⟩
/-- how often from a moment on, and from an hour with a load on -/
def oS (xs : List Hp) (f : Nat → Bool) (h l : Nat) : Nat := oftF (xs.drop h) (atF xs f h) l
def wS (xs : List Hp) (f : Nat → Bool) (h m : Nat) : Nat := match xs.drop h with
 | x :: r => wiF x (atF xs f h) (oftF r (atF xs f (h + 1))) m
 | [] => 0
theorem wS_eq (xs : List Hp) (f : Nat → Bool) {h : Nat} (hh : h < xs.length) (m : Nat) : wS xs f h m = (if stF xs[h] (atF xs f h) m then oS xs f (h + 1) m else 0) ||| (if faF xs[h] (atF xs f h) m then oS xs f (h + 1) 0 else 0) <<< 1 := by
 unfold wS oS
 rw [List.drop_eq_getElem_cons hh]
 rfl
theorem oS_eq (xs : List Hp) (f : Nat → Bool) {h : Nat} (hh : h < xs.length) (l : Nat) : oS xs f h l = xs[h].brings.foldl (fun acc n => acc ||| wS xs f h (loN xs[h] l n)) 0 := by
 unfold wS oS
 rw [List.drop_eq_getElem_cons hh]; simp only [oftF]; rw [atF_succ xs f h hh]
theorem oS_end (xs : List Hp) (f : Nat → Bool) {h : Nat} (hh : xs.length ≤ h) (l : Nat) : oS xs f h l = 1 := by
 unfold oS
 rw [List.drop_of_length_le hh]
 rfl
theorem oS_lt (xs : List Hp) (f : Nat → Bool) (h l : Nat) (hx : xs.length ≤ 12) : oS xs f h l < 8192 := by
 have h1 := oft_lt (xs.drop h) (atF xs f h) l; have h2 : (xs.drop h).length + 1 ≤ 13 := by rw [List.length_drop]; omega
 have h3 : 2 ^ ((xs.drop h).length + 1) ≤ 2 ^ 13 := Nat.pow_le_pow_right (by omega) h2
 unfold oS
 omega
theorem wS_lt (xs : List Hp) (f : Nat → Bool) (h m : Nat) (hx : xs.length ≤ 12) : wS xs f h m < 16384 := by
 by_cases hh : h < xs.length
 ·rw [wS_eq xs f hh]; refine Nat.or_lt_two_pow (n := 14) ?_ ?_
  ·split
   ·have := oS_lt xs f (h + 1) m hx; omega
   ·decide
  ·rw [Nat.shiftLeft_eq]
   split
   ·have := oS_lt xs f (h + 1) 0 hx; omega
   ·decide
 ·unfold wS
  rw [List.drop_of_length_le (by omega)]; exact (by decide : (0 : Nat) < 16384)
end Go.Proofs.YtkhmcofmjjmjhaaDoor
