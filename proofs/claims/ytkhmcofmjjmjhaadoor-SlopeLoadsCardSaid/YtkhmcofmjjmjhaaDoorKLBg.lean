/- clavendierref00's functions, for any seat. -/
import Derived.Test.YtkhmcofmjjmjhaaDoorKLYn
import Derived.Test.YtkhmcofmjjmjhaaDoorKLRr
import Derived.Deep.MidRow
import Derived.ArgAppend
import Derived.Lib.SlBuf
import Derived.WalkKit
import Derived.WalkSpells
import Derived.WalkLawsBesides
import Derived.LoopTactic
import Derived.Handy
import Derived.Deep.QuietTactic
import Derived.BigQuiet
namespace Go.Proofs.YtkhmcofmjjmjhaaDoor
set_option linter.unusedSimpArgs false
set_option linter.unusedVariables false
open Go Go.RowKit
attribute [local go_sem high] cell_set_wr
attribute [local go_sem low] cell_wr frozen_wr
attribute [local go_sem] wr_set wr_drew wr_drewN wr_alloc wr_new Rho.c Rho.n Rho.g
section
variable {P : Program} {Q : Exit → Act → World → Prop} {a : Act} {w : World}
theorem row_new (w : World) (cs : Array Value) (t : TypeId) : Row (w.alloc (.cells cs t)) w.heap.size cs.toList := (blk_new (N := 0) w cs t (Nat.zero_le _)).row
theorem row_cells {w : World} {G : Nat} {l : List Value} (h : Row w G l) (hG : G < w.heap.size) : Cells w G l := ⟨hG, fun j u hu => (h j u hu).1⟩
theorem size_setCellsN (b : Nat) : ∀ (vs : List Value) (o : Nat) (w : World), (w.setCells b o vs).heap.size = w.heap.size
 | [], _, _ => rfl
 | v :: r, o, w => by unfold World.setCells; rw [size_setCellsN b r (o + 1)]; simp
theorem row_stored {R : Nat} : ∀ (vs : List Value) (o : Nat) (w : World) (zs : List Value), Row w R zs → o + vs.length ≤ zs.length → Row (w.setCells R o vs) R (zs.take o ++ vs ++ zs.drop (o + vs.length))
 | [], o, w, zs, h, _ => by simpa [World.setCells] using h
 | v :: r, o, w, zs, h, hl => by
  simp only [List.length_cons] at hl; have h1 := h.set (o := o) (v := v) (by omega); have h2 := row_stored r (o + 1) _ _ h1 (by simp; omega)
  unfold World.setCells
  have e : (zs.set o v).take (o + 1) ++ r ++ (zs.set o v).drop (o + 1 + r.length) = zs.take o ++ (v :: r) ++ zs.drop (o + (v :: r).length) := by
   rw [List.drop_set_of_lt (by omega), List.take_add_one, List.take_set_of_le (Nat.le_refl _), List.getElem?_set_self (by omega)]; simp only [Option.toList_some, List.append_assoc, List.cons_append, List.nil_append, List.length_cons]; rw [show o + 1 + r.length = o + (r.length + 1) by omega]
  rw [e] at h2; exact h2
theorem heap_stored {R k : Nat} (hk : k ≠ R) : ∀ (vs : List Value) (o : Nat) (w : World), (w.setCells R o vs).heap[k]? = w.heap[k]?
 | [], _, _ => rfl
 | v :: r, o, w => by
  unfold World.setCells
  rw [heap_stored hk r (o + 1)]; exact Below.heap_setCell _ _ _ _ hk
theorem cells_stored {w V : World} {R : Nat} {zs vs : List Value} (h : Row V R zs) (hl : zs.length = vs.length) (hR : R < V.heap.size) (hn : w.heap.size ≤ R) (hb : Below w.heap.size w V) : Cells (V.setCells R 0 vs) R vs ∧ Below w.heap.size w (V.setCells R 0 vs) ∧ (∀ k, k ≠ R → (V.setCells R 0 vs).heap[k]? = V.heap[k]?) ∧ (V.setCells R 0 vs).heap.size = V.heap.size := by
 have h1 := row_stored vs 0 V zs h (by omega); have e : zs.take 0 ++ vs ++ zs.drop (0 + vs.length) = vs := by rw [List.drop_of_length_le (by omega)]; simp
 rw [e] at h1; exact ⟨row_cells h1 (by rw [size_setCellsN]; exact hR), Lib.below_setCells R hn _ _ hb, fun k hk => heap_stored hk _ _ _, size_setCellsN _ _ _ _⟩
theorem res_cell {P : Program} {fn : Func} {p ty : Nat} {tmps : Array Value} {R : Nat} {v : List Value} {W : World} {d : TypeDesc} (hf : fn.results = #[.cell p ty]) (hp : tmps[p]? = some (.pointer (some ⟨R, 0, none⟩))) (hc : ∀ j u, v[j]? = some u → W.cell? ⟨R, j, none⟩ = some u) (hu : P.underlying ty = some d) (hd : d.isRow = true) (hi : (P.info? ty).map (·.size) = some v.length) : (results fn tmps).run P W = .ok (.agg v.toArray) W := by
 have h2 := run_loadVar_mid (P := P) W R 0 ty v d (fun j u hu => by rw [Nat.zero_add]; exact hc j u hu) hu hd hi
 unfold results
 rw [hf]; simp [hp, asAddr, h2, Result.andThen, Sem.run_bind]
theorem there_row {w : World} {R : Nat} {zs : List Value} {n : Nat} (h : Row w R zs) (hn : n ≤ zs.length) : w.there R 0 n := fun j hj => by
 rw [Nat.zero_add]; have hj' : j < zs.length := Nat.lt_of_lt_of_le hj hn; have hw := (h j (zs[j]'hj') (List.getElem?_eq_getElem hj')).2; exact ⟨hw.1, hw.2⟩
theorem boxed_new (w : World) (Z : Array Value) (t : TypeId) (vs : List Value) (hz : Z.size = vs.length) : Below w.heap.size w ((w.alloc (.cells Z t)).setCells w.heap.size 0 vs) ∧ Cells ((w.alloc (.cells Z t)).setCells w.heap.size 0 vs) w.heap.size vs := by
 have := cells_stored (w := w) (V := w.alloc (.cells Z t)) (row_new w Z t) (by simpa using hz) (by simp) (Nat.le_refl _) ((Below.refl _ _).alloc (Nat.le_refl _) _); exact ⟨this.2.1, this.1⟩
theorem box_row (w : World) (cs : Array Value) (t : TypeId) (cs' : Array Value) (t' : TypeId) : Below w.heap.size w ((w.alloc (.cells cs t)).alloc (.cells cs' t')) ∧ Cells ((w.alloc (.cells cs t)).alloc (.cells cs' t')) w.heap.size cs.toList ∧ (w.heap.size + 1 < ((w.alloc (.cells cs t)).alloc (.cells cs' t')).heap.size ∧ Row ((w.alloc (.cells cs t)).alloc (.cells cs' t')) (w.heap.size + 1) cs'.toList) := by
 refine ⟨((Below.refl _ _).alloc (Nat.le_refl _) _).alloc (by simp) _, (cells_new w cs t).below ((Below.refl _ _).alloc (Nat.le_refl _) _), by simp, ?_⟩; have h := row_new (w.alloc (.cells cs t)) cs' t'
 rwa [World.size_alloc] at h
theorem row_of_block {A C : World} {R : Nat} {l : List Value} (h : Row A R l) (e : C.heap[R]? = A.heap[R]?) : Row C R l := fun j u hu => by
 obtain ⟨h1, h2⟩ := h j u hu; have c := World.cell?_of_block (w := A) (a := ⟨R, j, none⟩) e; have f := World.frozen?_of_block (w := A) (a := ⟨R, j, none⟩) e; exact ⟨c.trans h1, by unfold Wr at h2 ⊢; rw [c, f]; exact h2⟩
theorem own_of_block {w w' : World} {base : Nat} {e : TypeId} {size : Nat} {v : Value} {n : Nat} {xs : List Value} (h : w.ownsRow base e size v n xs) (_ : w.heap.size ≤ w'.heap.size) (hb : ∀ g, v.ownBlock = some g → w'.heap[g]? = w.heap[g]?) : w'.ownsRow base e size v n xs := by
 obtain ⟨h1, h | ⟨g, c, cur, hv, hg, hh, r⟩⟩ := h
 ·exact ⟨h1, .inl h⟩
 ·exact ⟨h1, .inr ⟨g, c, cur, hv, hg, (hb g (by rw [hv]; rfl)).trans hh, r⟩⟩
theorem ret_cell_two {P : Program} {w : World} {a : Act} {n : Nat} {e : Env} {fn : Func} {Q : Ending → World → Prop} (hE : Fits n e a) {p ty u R : Nat} {v : List Value} {x : Value} {d : TypeDesc} (hf : fn.results = #[.cell p ty, .tmp u]) (hp : lk p e = some (.pointer (some ⟨R, 0, none⟩))) (hx : lk u e = some x) (hc : ∀ j y, v[j]? = some y → w.cell? ⟨R, j, none⟩ = some y) (hu : P.underlying ty = some d) (hd : d.isRow = true) (hi : (P.info? ty).map (·.size) = some v.length) (h : Q (.returned (.tuple #[.agg v.toArray, x])) w) : bodyPost P fn Q .ret a w := by
 have h2 := run_loadVar_mid (P := P) w R 0 ty v d (fun j u hu => by rw [Nat.zero_add]; exact hc j u hu) hu hd hi; refine bodyPost_ret (v := .tuple #[.agg v.toArray, x]) ?_ hE.1 h
 unfold results
 rw [hf]; have g1 := hE.at p hp; have g2 := hE.at u hx; simp [g1, g2, asAddr, h2, Result.andThen, Sem.run_bind]
theorem Row.stored {w : World} {R G o : Nat} {vs l : List Value} (h : Row w G l) (hne : G ≠ R) : Row (w.setCells R o vs) G l := fun j u hu => by
 obtain ⟨h1, h2, h3⟩ := h j u hu; have e := heap_stored hne vs o w; exact ⟨(World.cell?_of_block e).trans h1, by rw [World.cell?_of_block e]; exact h2, by rw [World.frozen?_of_block e]; exact h3⟩
theorem Cells.stored {w : World} {R G o : Nat} {vs l : List Value} (h : Cells w G l) (hne : G ≠ R) : Cells (w.setCells R o vs) G l := ⟨by rw [size_setCellsN]; exact h.1, fun j u hu => (World.cell?_of_block (heap_stored hne vs o w)).trans (h.2 j u hu)⟩
def NewW (N n : Nat) (v : Value) (wt : World) : Prop := ∃ C, v = .pointer (some ⟨C, 0, none⟩) ∧ N ≤ C ∧ C < wt.heap.size ∧ ∃ zs, zs.length = n ∧ Row wt C zs
theorem NewW.below {N n : Nat} {v : Value} {w w' : World} (h : NewW N n v w) (hb : Below w.heap.size w w') : NewW N n v w' := by
 obtain ⟨C, h1, h2, h3, zs, h4, h5⟩ := h; exact ⟨C, h1, h2, Nat.lt_of_lt_of_le h3 hb.size, zs, h4, h5.below hb h3⟩
def CelW (vs : List Value) (v : Value) (wt : World) : Prop := ∃ C, v = .pointer (some ⟨C, 0, none⟩) ∧ Cells wt C vs
def OneR (B : Nat) (vs : List Value) (w w' : World) : Prop := Below w.heap.size w w' ∨ ∃ g zs, B ≤ g ∧ g < w.heap.size ∧ zs.length = vs.length ∧ Row w g zs ∧ w' = w.setCells g 0 vs
theorem OneR.refl {B : Nat} {vs : List Value} {w : World} : OneR B vs w w := .inl (Below.refl _ _)
theorem OneR.size {B : Nat} {vs : List Value} {w w' : World} (h : OneR B vs w w') : w.heap.size ≤ w'.heap.size := by
 rcases h with h | ⟨g, zs, _, _, _, _, rfl⟩
 ·exact h.size
 ·rw [size_setCellsN]; exact Nat.le_refl _
theorem row_all {w : World} {g : Nat} {vs zs : List Value} (h : Row w g zs) (hl : zs.length = vs.length) : Row (w.setCells g 0 vs) g vs := by
 have := row_stored vs 0 w zs h (by omega); rw [List.drop_of_length_le (by omega)] at this
 simpa using this
theorem NewW.one {N B : Nat} {v : Value} {vs : List Value} {w w' : World} (h : NewW N vs.length v w) (hb : OneR B vs w w') : NewW N vs.length v w' := by
 rcases hb with hb | ⟨g, zg, _, hg, hl, hz, rfl⟩
 ·exact h.below hb
 ·obtain ⟨C, h1, h2, h3, zs, h4, h5⟩ := h
  by_cases e : C = g
  ·subst e; exact ⟨C, h1, h2, by rw [size_setCellsN]; exact h3, vs, rfl, row_all hz hl⟩
  ·exact ⟨C, h1, h2, by rw [size_setCellsN]; exact h3, zs, h4, h5.stored e⟩
theorem CelW.one {B : Nat} {v : Value} {vs : List Value} {w w' : World} (h : CelW vs v w) (hb : OneR B vs w w') : CelW vs v w' := by
 obtain ⟨C, h1, h2⟩ := h
 rcases hb with hb | ⟨g, zg, _, hg, hl, hz, rfl⟩
 ·exact ⟨C, h1, h2.below hb⟩
 ·refine ⟨C, h1, ?_⟩
  by_cases e : C = g
  ·subst e; exact row_cells (row_all hz hl) (by rw [size_setCellsN]; exact hg)
  ·exact h2.stored e
theorem heap_lt {w : World} {g : Nat} {x : Obj} (h : w.heap[g]? = some x) : g < w.heap.size := (Array.getElem?_eq_some_iff.1 h).1
theorem heap_kept {w w' : World} {g : Nat} {x : Obj} (h : w.heap[g]? = some x) (hb : Below w.heap.size w w') : w'.heap[g]? = some x := (hb.block g (heap_lt h)).trans h
def LoadD (w : World) (b o : Nat) (v : Value) : Prop := b < w.heap.size ∧ w.cell? ⟨b, o, none⟩ = some v
theorem LoadD.below {w w' : World} {b o : Nat} {v : Value} (h : LoadD w b o v) (hb : Below w.heap.size w w') : LoadD w' b o v := ⟨Nat.lt_of_lt_of_le h.1 hb.size, (hb.cell (p := ⟨b, o, none⟩) h.1).trans h.2⟩
def ArrD (w : World) (G : Option Addr) (xs : List Value) : Prop := Arr w w.heap.size G xs
theorem ArrD.below {w w' : World} {G : Option Addr} {xs : List Value} (h : ArrD w G xs) (hb : Below w.heap.size w w') : ArrD w' G xs := (Arr.below h hb).more hb.size
def RowD (w : World) (R n : Nat) : Prop := R < w.heap.size ∧ ∃ zs : List Value, zs.length = n ∧ Row w R zs
theorem RowD.below {w w' : World} {R n : Nat} (h : RowD w R n) (hb : Below w.heap.size w w') : RowD w' R n := by
 obtain ⟨h1, zs, h2, h3⟩ := h; exact ⟨Nat.lt_of_lt_of_le h1 hb.size, zs, h2, h3.below hb h1⟩
theorem cells_two (w : World) (a b : Array Value) (ta tb : TypeId) : Below w.heap.size w ((w.alloc (.cells a ta)).alloc (.cells b tb)) ∧ Cells ((w.alloc (.cells a ta)).alloc (.cells b tb)) w.heap.size a.toList ∧ Cells ((w.alloc (.cells a ta)).alloc (.cells b tb)) (w.heap.size + 1) b.toList := by
 have h1 : (w.alloc (.cells a ta)).heap.size = w.heap.size + 1 := by simp
 have k1 := cells_new w a ta; have k2 := cells_new (w.alloc (.cells a ta)) b tb; rw [h1] at k2; have b2 := (Below.refl (w.alloc (.cells a ta)).heap.size (w.alloc (.cells a ta))).alloc (Nat.le_refl _) (.cells b tb); exact ⟨((Below.refl _ _).alloc (Nat.le_refl _) _).alloc (by rw [h1]; omega) _, k1.below b2, k2⟩
theorem row_at {w : World} {C : Nat} {vs : List Value} (h : Row w C vs) {j : Nat} {u : Value} (hj : vs[j]? = some u) : w.cell? ⟨C, j, none⟩ = some u := (h j u hj).1
theorem own_new {base : Nat} {e : TypeId} {size : Nat} {v : Value} {n : Nat} {xs : List Value} (h : w.ownsRow base e size v n xs) (hn : 0 < n) :
    ∃ g cap, v = .slice (some ⟨g, 0, none⟩) n cap ∧ base ≤ g ∧ g < w.heap.size ∧ n ≤ cap ∧ cap ≤ maxLen ∧ (∀ j u, xs[j]? = some u → w.cell? ⟨g, j, none⟩ = some u) ∧ ∃ cur, w.heap[g]? = some (.cells cur e (0, 0)) := by
 obtain ⟨hl, h | ⟨g, cap, cur, hv, hb, hh, hn', hm, hc, ht⟩⟩ := h
 ·omega
 ·refine ⟨g, cap, hv, hb, (Array.getElem?_eq_some_iff.1 hh).1, hn', hm, fun j u hu => ?_, cur, hh⟩; simp only [World.cell?, hh]; rw [← ht] at hu
  have hj : j < n * size := by
   have := (List.getElem?_eq_some_iff.1 hu).1; simp only [List.length_take] at this; omega
  rw [List.getElem?_take_of_lt hj] at hu
  simpa using hu
def natV (n : Nat) : Value := .int .i64 n
def nats (l : List Nat) : List Value := l.map natV
theorem nats_length (l : List Nat) : (nats l).length = l.length := by simp [nats]
theorem nats_ints (l : List Nat) : nats l = ints (l.map fun (n : Nat) => (n : Int)) := by simp [nats, ints, natV]
end
end Go.Proofs.YtkhmcofmjjmjhaaDoor
namespace Go.Proofs.YtkhmcofmjjmjhaaDoor
set_option linter.unusedSimpArgs false
set_option linter.unusedVariables false
open Go.RowKit
theorem between_any (n lo hi : Int) (w : World) :
    Calls Tryd.prog 48 #[.int .i64 n, .int .i64 lo, .int .i64 hi] w fun e w' =>
     e = .returned (.bool (decide (lo ≤ n) && decide (n ≤ hi))) ∧ w = w' := by
 by_cases h : lo ≤ n
 all_goals
  go_enter Tryd.func48, Tryd.ntmps48
  go_wp2
  go_ret
  exact ⟨ret_bool (by first | (simp [h]; done) | (simp; omega)), rfl⟩
theorem to_any (lo hi : Int) (w : World) :
    Calls Tryd.prog 54 #[.int .i64 lo, .int .i64 hi] w fun e w' =>
     e = .returned (.agg #[.int .i64 lo, .int .i64 hi]) ∧ Below w.heap.size w w' := by
 go_enter Tryd.func54, Tryd.ntmps54
 go_wp2
 go_returns
 exact ⟨rfl, by (repeat' (first | (with_reducible exact Below.refl _ _) | (with_reducible assumption) | (with_reducible refine Below.drew ?_) | (with_reducible refine below_drewN ?_ _) | (with_reducible refine Below.setCell ?_ ?_ _) | (with_reducible refine Below.alloc ?_ ?_ _) | go_size | (exact Below.size (by assumption)) | (refine Below.trans ?_ (Below.mono (by assumption) ?_))))⟩
theorem one_any (n : Int) (w : World) :
    Calls Tryd.prog 43 #[.int .i64 n] w fun e w' => e = .returned (.agg #[.int .i64 n, .int .i64 n]) ∧ Below w.heap.size w w' := by
 go_enter Tryd.func43, Tryd.ntmps43
 go_wp2_with (go_at_call 54; refine (to_any _ _ _).mono ?_; rintro e w1 ⟨rfl, hb1⟩; (first | replace hb1 := Below.un1 hb1 | replace hb1 := Below.un2 hb1 | skip); obtain ⟨hc1, hf1, hl1, hm1, hw1⟩ := bcell hb1; have hz1 := hb1.size; (try simp only [World.size_alloc, World.size_setCell] at hz1))
 simp [bodyPost, results, Tryd.results43, go_sem, hc1, hf1]
 (repeat' (first | (with_reducible exact Below.refl _ _) | (with_reducible assumption) | (with_reducible refine Below.drew ?_) | (with_reducible refine below_drewN ?_ _) | (with_reducible refine Below.setCell ?_ ?_ _) | (with_reducible refine Below.alloc ?_ ?_ _) | go_size | (exact Below.size (by assumption)) | (refine Below.trans ?_ (Below.mono (by assumption) ?_))))
theorem take_eq_step {α : Type} {a b : List α} {k : Nat} (ha : k < a.length) (hb : k < b.length) (h : a.take k = b.take k) (he : a[k] = b[k]) : a.take (k + 1) = b.take (k + 1) := by
 rw [List.take_succ_eq_append_getElem ha, List.take_succ_eq_append_getElem hb, h, he]
theorem bequal_any (A B : Option Addr) (n m : Nat) (a b : List Int) (w : World) (hA : Arr w w.heap.size A (ints a)) (hB : Arr w w.heap.size B (ints b)) (hn : a.length ≤ 9223372036854775807) :
    Calls Tryd.prog 25 #[.slice A a.length n, .slice B b.length m] w fun e w' => e = .returned (.bool (decide (a = b))) ∧ Below w.heap.size w w' := by
 by_cases hl : a.length = b.length
 ·have Hl := hid hl; have hl' : ((a.length : Int) != (b.length : Int)) = false := by simp [hl]
  clear hl
  go_enter Tryd.func25, Tryd.ntmps25
  go_wp2
  go_loopw [5] (fun i wr => ∃ k : Nat, k ≤ a.length ∧ i = .int .i64 k ∧ Hid (a.take k = b.take k) ∧ ∃ n, wr = w.drewN n) (fun i _ => a.length - (intOf i).toNat)
  case atStart => exact ⟨0, Nat.zero_le _, rfl, hid (by simp), 0, rfl⟩
  case round =>
   obtain ⟨k, hk, rfl, HT, nd, rfl⟩ := hrel
   by_cases hlt : k < a.length
   ·have hlb : k < b.length := by have := Hl.out; omega
    obtain ⟨ba, oa, rfl, _, ca⟩ := hA.int hlt; obtain ⟨bb, ob, rfl, _, cb⟩ := hB.int hlb; clear hA hB
    by_cases he : a[k] = b[k]
    ·have HE := hid he; have he' : (a[k] != b[k]) = false := by simp [he]
     clear he
     go_wp2
     go_quiet (fail)
     go_wp2
     exact ⟨⟨k + 1, by omega, by go_num, hid (take_eq_step hlt hlb HT.out HE.out), _, rfl⟩, by simp [intOf]; omega⟩
    ·have HE := hid he; have he' : (a[k] != b[k]) = true := by simp [he]
     clear he
     go_wp2
     go_quiet (fail)
     go_wp2
     go_ret
     exact ⟨ret_bool (by rw [decide_eq_false (fun h => HE.out (by simp [h]))]), by (repeat' (first | (with_reducible exact Below.refl _ _) | (with_reducible assumption) | (with_reducible refine Below.drew ?_) | (with_reducible refine below_drewN ?_ _) | (with_reducible refine Below.setCell ?_ ?_ _) | (with_reducible refine Below.alloc ?_ ?_ _) | go_size | (exact Below.size (by assumption)) | (refine Below.trans ?_ (Below.mono (by assumption) ?_))))⟩
   ·obtain rfl : k = a.length := by omega
    go_wp2
    go_ret
    exact ⟨ret_bool (by rw [decide_eq_true]; have h := HT.out; rw [List.take_length] at h; rw [h, Hl.out, List.take_length]), by (repeat' (first | (with_reducible exact Below.refl _ _) | (with_reducible assumption) | (with_reducible refine Below.drew ?_) | (with_reducible refine below_drewN ?_ _) | (with_reducible refine Below.setCell ?_ ?_ _) | (with_reducible refine Below.alloc ?_ ?_ _) | go_size | (exact Below.size (by assumption)) | (refine Below.trans ?_ (Below.mono (by assumption) ?_))))⟩
 ·have Hl := hid hl; have hl' : ((a.length : Int) != (b.length : Int)) = true := by simp; omega
  clear hl
  go_enter Tryd.func25, Tryd.ntmps25
  go_wp2
  go_ret
  exact ⟨ret_bool (by rw [decide_eq_false (fun h => Hl.out (by rw [h]))]), by (repeat' (first | (with_reducible exact Below.refl _ _) | (with_reducible assumption) | (with_reducible refine Below.drew ?_) | (with_reducible refine below_drewN ?_ _) | (with_reducible refine Below.setCell ?_ ?_ _) | (with_reducible refine Below.alloc ?_ ?_ _) | go_size | (exact Below.size (by assumption)) | (refine Below.trans ?_ (Below.mono (by assumption) ?_))))⟩
theorem spans_any (lo hi a z : Int) (w : World) :
    Calls Tryd.prog 44 #[.agg #[.int .i64 lo, .int .i64 hi], .int .i64 a, .int .i64 z] w fun e w' =>
     e = .returned (.bool (decide (a ≤ lo) && (decide (lo ≤ hi) && decide (hi ≤ z)))) ∧ Below w.heap.size w w' := by
 by_cases h : a ≤ lo
 by_cases h' : lo ≤ hi
 all_goals
  go_enter Tryd.func44, Tryd.ntmps44
  go_wp2
  go_ret
  exact ⟨ret_bool (by first | (simp [*]; done) | (simp [*]; omega)), by (repeat' (first | (with_reducible exact Below.refl _ _) | (with_reducible assumption) | (with_reducible refine Below.drew ?_) | (with_reducible refine below_drewN ?_ _) | (with_reducible refine Below.setCell ?_ ?_ _) | (with_reducible refine Below.alloc ?_ ?_ _) | go_size | (exact Below.size (by assumption)) | (refine Below.trans ?_ (Below.mono (by assumption) ?_))))⟩
theorem in_any (n lo hi : Int) (w : World) :
    Calls Tryd.prog 38 #[.int .i64 n, .agg #[.int .i64 lo, .int .i64 hi]] w fun e w' =>
     e = .returned (.bool (decide (lo ≤ n) && decide (n ≤ hi))) ∧ Below w.heap.size w w' := by
 go_enter Tryd.func38, Tryd.ntmps38
 go_wp2_with (go_at_call 48; refine (between_any _ _ _ _).mono ?_; rintro e w1 ⟨rfl, rfl⟩)
 go_ret
 exact ⟨rfl, by (repeat' (first | (with_reducible exact Below.refl _ _) | (with_reducible assumption) | (with_reducible refine Below.drew ?_) | (with_reducible refine below_drewN ?_ _) | (with_reducible refine Below.setCell ?_ ?_ _) | (with_reducible refine Below.alloc ?_ ?_ _) | go_size | (exact Below.size (by assumption)) | (refine Below.trans ?_ (Below.mono (by assumption) ?_))))⟩
end Go.Proofs.YtkhmcofmjjmjhaaDoor
