/- Slope: the law SlopeMore: its maths, and the sights the other way round. -/
import Derived.Test.YtkhmcofmjjmjhaaDoorKTSck
import Derived.Test.YtkhmcofmjjmjhaaDoorKTRs

namespace Go.Proofs.YtkhmcofmjjmjhaaDoor
set_option linter.unusedSimpArgs false
set_option linter.unusedVariables false
open Go Go.RowKit
/-- what is left behind some hours -/
def leftT (l : Nat) (t : List (Nat × Bool)) : Nat := t.foldl (fun _ p => if p.2 then 0 else p.1) l
theorem tru_snoc {b : Sb} {x : Hr} {m : Nat} {f : Bool} {n : Int} (hn : Brings b.sl x n) (hf : f = true → b.sl.hold < (m : Int)) (h0 : b.sights = []) : ∀ (hs : List Hr) (i l : Nat) (t : List (Nat × Bool)), Tru b i hs l t → (m : Int) = max ((leftT l t : Int) - b.sl.settle) 0 + n → Tru b i (hs ++ [x]) l (t ++ [(m, f)])
 | [], i, l, [], _, hm => ⟨⟨n, hn, hm⟩, hf, fun s hs => (by rw [h0] at hs; cases hs), trivial⟩
 | [], _, _, _ :: _, h, _ => absurd h (by simp [Tru])
 | _ :: _, _, _, [], h, _ => absurd h (by simp [Tru])
 | h :: hs, i, l, (m', f') :: t, ⟨h1, h2, h3, h4⟩, hm => ⟨h1, h2, h3, tru_snoc hn hf h0 hs (i + 1) _ t h4 hm⟩
theorem leftT_snoc (l : Nat) (t : List (Nat × Bool)) (p : Nat × Bool) : leftT l (t ++ [p]) = if p.2 then 0 else p.1 := by
 unfold leftT; rw [List.foldl_append]; rfl
/-- a truth of the first hours -/
def TruK (b : Sb) (k l : Nat) (t : List (Nat × Bool)) : Prop := Tru (bare b) 0 (b.hours.take k) l t
theorem truK_succ {b : Sb} {k l m : Nat} {t : List (Nat × Bool)} (h : TruK b k l t) (hk : k < b.hours.length) {f : Bool} {n : Int} (hn : Brings b.sl b.hours[k] n) (hf : f = true → b.sl.hold < (m : Int)) (hm : (m : Int) = max ((leftT l t : Int) - b.sl.settle) 0 + n) : TruK b (k + 1) l (t ++ [(m, f)]) := by
 unfold TruK
 rw [List.take_succ_eq_append_getElem hk]
 exact tru_snoc (b := bare b) hn hf rfl _ 0 l t h hm
theorem truK_len {b : Sb} {k l : Nat} {t : List (Nat × Bool)} (h : TruK b k l t) (hk : k ≤ b.hours.length) : t.length = k := by
 rw [Tru.length h, List.length_take]; omega
theorem truK_all {b : Sb} {l : Nat} {t : List (Nat × Bool)} (h : TruK b b.hours.length l t) (hl : b.lo ≤ (l : Int) ∧ (l : Int) ≤ b.hi) : TrB (bare b) t := by
 unfold TruK at h
 rw [List.take_length] at h
 exact ⟨l, hl, h⟩
theorem leftT_le {t : List (Nat × Bool)} {l c : Nat} (h0 : l ≤ c) (h : ∀ p ∈ t, p.1 ≤ c) : leftT l t ≤ c := by
 induction t generalizing l with
 | nil => exact h0
 | cons p t ih =>
  unfold leftT
  rw [List.foldl_cons]
  exact ih (by have := h p (by simp); split <;> omega) (fun q hq => h q (by simp [hq]))
theorem truK_le {b : Sb} (hb : OkB b) {k l : Nat} {t : List (Nat × Bool)} (h : TruK b k l t) (hl : l ≤ 300) : ∀ p ∈ t, p.1 ≤ 1440 := by
 intro p hp
 have h1 : TruH (hpsFrom (bare b) 0 (b.hours.take k)) l t := (tru_iff _ _ _ _ _).2 h
 have h2 := TruH.load_le (c := 300) (small_from (ok_bare hb) (b.hours.take k) 0 (fun x hx => List.mem_of_mem_take hx)) hl h1 p hp
 have h3 : (hpsFrom (bare b) 0 (b.hours.take k)).length ≤ 12 := by
  rw [hpsFrom_length, List.length_take]
  have := hb.hours
  omega
 omega
/-- a sight as it was right -/
def seeS (t : List (Nat × Bool)) (s : Si) : Si :=
 let p := t.getD s.hour.toNat (0, false)
 ⟨s.hour, p.2, max 0 ((p.1 : Int) - min 40 (s.hi - s.lo)), min 2000 ((p.1 : Int) + min 40 (s.hi - s.lo) / 2)⟩
def seeB (b : Sb) (t : List (Nat × Bool)) : Sb := { b with sights := b.sights.map (seeS t) }
theorem see_ok {b : Sb} (hb : OkB b) {t : List (Nat × Bool)} (ht : TrB (bare b) t) : OkB (seeB b t) := by
 refine ⟨hb.snow, hb.wind, hb.sun, hb.settle, hb.hold, hb.start, hb.hours, by simpa [seeB] using hb.sights, hb.hour, fun s hs => ?_⟩
 obtain ⟨x, hx, rfl⟩ := List.mem_map.1 (show s ∈ b.sights.map (seeS t) from hs)
 obtain ⟨h1, h2⟩ := hb.sight x hx
 have hl : x.hour.toNat < t.length := by
  rw [ht.length]
  show _ < b.hours.length
  omega
 have h3 := ht.load_lt (ok_bare hb) _ (List.getElem_mem hl)
 have e : t.getD x.hour.toNat (0, false) = t[x.hour.toNat] := by rw [List.getD_eq_getElem?_getD, List.getElem?_eq_getElem hl]; rfl
 refine ⟨h1, ?_⟩
 simp only [seeS, e]
 omega
theorem see_tr {b : Sb} (hb : OkB b) {t : List (Nat × Bool)} (ht : TrB (bare b) t) : TrB (seeB b t) t := by
 refine tr_iff.2 ⟨ht, fun s hs k p hk he => ?_⟩
 obtain ⟨x, hx, rfl⟩ := List.mem_map.1 (show s ∈ b.sights.map (seeS t) from hs)
 obtain ⟨h1, h2⟩ := hb.sight x hx
 have he : x.hour = (k : Int) := he
 have e0 : x.hour.toNat = k := by omega
 have e : t.getD x.hour.toNat (0, false) = p := by rw [List.getD_eq_getElem?_getD, e0, hk]; rfl
 have h3 := ht.load_lt (ok_bare hb) _ (List.mem_of_getElem? hk)
 refine ⟨by simp only [seeS, e], ?_, ?_⟩
 ·simp only [seeS, e]; omega
 ·simp only [seeS, e]; omega
/-- what the law asks of an hour -/
theorem true_hour {b : Sb} (hb : OkB b) {t : List (Nat × Bool)} (ht : TrB (bare b) t) {h : Nat} (hh : h < b.hours.length) {p : Nat × Bool} (hp : t[h]? = some p) : loH (seeB b t) h ≤ p.1 ∧ p.1 ≤ hiH (seeB b t) h ∧ (safB (seeB b t) h = true → p.2 = false) := by
 have ho := see_ok hb ht
 have hs := see_tr hb ht
 have hr : rtB (seeB b t) = true := (rtB_iff ho).2 ⟨t, hs⟩
 obtain ⟨h1, h2⟩ := (ends_load ho hr (h := h) hh).all p.1 ⟨t, hs, by rw [hp]; rfl⟩
 refine ⟨h1, h2, fun h3 => ?_⟩
 obtain ⟨m, f⟩ := p
 cases f with
 | false => rfl
 | true =>
  have h4 := tr_fell hs hp
  have h5 : (m : Int) ≤ (seeB b t).sl.hold := (safB_iff ho hr (h := h) hh).1 h3 t hs _ hp
  omega
theorem true_falls {b : Sb} (hb : OkB b) {t : List (Nat × Bool)} (ht : TrB (bare b) t) : loO (seeB b t) ≤ fallsN t ∧ fallsN t ≤ hiO (seeB b t) := by
 have ho := see_ok hb ht
 have hs := see_tr hb ht
 exact (ends_falls ho ((rtB_iff ho).2 ⟨t, hs⟩)).all _ ⟨t, hs, rfl⟩
theorem true_wrong {b : Sb} (hb : OkB b) {t : List (Nat × Bool)} (ht : TrB (bare b) t) : rtB (seeB b t) = true ∧ wroB (seeB b t) = [] := by
 have ho := see_ok hb ht
 have hr : rtB (seeB b t) = true := (rtB_iff ho).2 ⟨t, see_tr hb ht⟩
 have h1 := wro_empty ho
 rw [hr, decide_eq_true_eq] at h1
 exact ⟨hr, List.eq_nil_of_length_eq_zero h1⟩
end Go.Proofs.YtkhmcofmjjmjhaaDoor
namespace Go.Proofs.YtkhmcofmjjmjhaaDoor
set_option linter.unusedSimpArgs false
set_option linter.unusedVariables false
open Go Go.RowKit
attribute [local go_sem high] cell_set_wr
attribute [local go_sem low] cell_wr frozen_wr
attribute [local go_sem] wr_set wr_drew wr_drewN wr_alloc wr_new Rho.c Rho.n Rho.g
theorem box2_row (w : World) (a b c : Array Value) (ta tb tc : TypeId) : Below w.heap.size w (((w.alloc (.cells a ta)).alloc (.cells b tb)).alloc (.cells c tc)) ∧ Cells (((w.alloc (.cells a ta)).alloc (.cells b tb)).alloc (.cells c tc)) w.heap.size a.toList ∧ Cells (((w.alloc (.cells a ta)).alloc (.cells b tb)).alloc (.cells c tc)) (w.heap.size + 1) b.toList ∧
    w.heap.size + 1 + 1 < (((w.alloc (.cells a ta)).alloc (.cells b tb)).alloc (.cells c tc)).heap.size ∧ Row (((w.alloc (.cells a ta)).alloc (.cells b tb)).alloc (.cells c tc)) (w.heap.size + 1 + 1) c.toList := by
 obtain ⟨h1, h2, h3, _⟩ := cells_three w a b c ta tb tc
 refine ⟨h1, h2, h3, by simp, ?_⟩
 have h := row_new ((w.alloc (.cells a ta)).alloc (.cells b tb)) c tc
 rwa [World.size_alloc, World.size_alloc] at h
theorem cells_one (s : Si) (u : Value) (h : u ∈ s.cells) : u.oneCell' = true := by
 simp [Si.cells] at h
 rcases h with rfl | rfl | rfl | rfl <;> rfl
section
variable (H : Option Addr) (hcap : Nat) (S : Option Addr) (scap : Nat) (b : Sb)
end
/-- a block of n cells, of a type -/
def BlkT (T : TypeId) (n C : Nat) (w : World) : Prop := ∃ cs : Array Value, w.heap[C]? = some (.cells cs T) ∧ cs.size = n
def NewT (T : TypeId) (n N : Nat) (v : Value) (wt : World) : Prop := ∃ C, v = .pointer (some ⟨C, 0, none⟩) ∧ N ≤ C ∧ BlkT T n C wt
/-- new memory, or a store of what is known into such a block -/
def TurnT (T : TypeId) (n N : Nat) (P : List Value → World → Prop) (w w' : World) : Prop := Below w.heap.size w w' ∨ ∃ g vs, N ≤ g ∧ BlkT T n g w ∧ vs.length = n ∧ P vs w ∧ w' = w.setCells g 0 vs
def StoT (N : Nat) (P : List Value → World → Prop) (v : Value) (wt : World) : Prop := ∃ C vs, v = .pointer (some ⟨C, 0, none⟩) ∧ N ≤ C ∧ Cells wt C vs ∧ P vs wt
/-- what is known stays so -/
structure StayP (T : TypeId) (n : Nat) (P : List Value → World → Prop) : Prop where
 below : ∀ vs w w', Below w.heap.size w w' → P vs w → P vs w'
 stored : ∀ vs w g us, BlkT T n g w → P vs w → P vs (w.setCells g 0 us)
section
variable {T : TypeId} {n N : Nat} {P : List Value → World → Prop} {w w' : World}
theorem TurnT.of (h : Below w.heap.size w w') : TurnT T n N P w w' := .inl h
theorem TurnT.refl : TurnT T n N P w w := .inl (Below.refl _ _)
theorem TurnT.size (h : TurnT T n N P w w') : w.heap.size ≤ w'.heap.size := by
 rcases h with h | ⟨g, vs, _, _, _, _, rfl⟩
 ·exact h.size
 ·rw [size_setCellsN]; exact Nat.le_refl _
theorem blkT_stored {C : Nat} : ∀ (vs : List Value) (o : Nat) (w : World), BlkT T n C w → BlkT T n C (w.setCells C o vs)
 | [], _, _, h => h
 | v :: r, o, w, ⟨cs, h1, h2⟩ => by
  unfold World.setCells
  exact blkT_stored r (o + 1) _ ⟨cs.setIfInBounds o v, by simp [World.setCell, Array.getElem?_modify, h1], by simpa using h2⟩
theorem BlkT.row {C : Nat} (h : BlkT T n C w) : ∃ zs : List Value, zs.length = n ∧ Row w C zs ∧ C < w.heap.size := by
 obtain ⟨cs, h1, h2⟩ := h
 exact ⟨cs.toList, by simpa using h2, Blk.row (N := 0) ⟨Nat.zero_le _, heap_lt h1, h1⟩, heap_lt h1⟩
theorem BlkT.turned {C : Nat} (h : BlkT T n C w) (hR : TurnT T n N P w w') : BlkT T n C w' := by
 rcases hR with hb | ⟨g, vs, _, hg, _, _, rfl⟩
 ·obtain ⟨cs, h1, h2⟩ := h
  exact ⟨cs, heap_kept h1 hb, h2⟩
 ·by_cases e : C = g
  ·subst e; exact blkT_stored _ _ _ h
  ·obtain ⟨cs, h1, h2⟩ := h
   exact ⟨cs, (heap_stored e _ _ _).trans h1, h2⟩
theorem NewT.turned {N' : Nat} {v : Value} (h : NewT T n N v w) (hR : TurnT T n N' P w w') : NewT T n N v w' := by
 obtain ⟨C, h1, h2, h3⟩ := h
 exact ⟨C, h1, h2, h3.turned hR⟩
theorem StayP.turned (hP : StayP T n P) {P' : List Value → World → Prop} {vs : List Value} (h : P vs w) (hR : TurnT T n N P' w w') : P vs w' := by
 rcases hR with hb | ⟨g, us, _, hg, _, _, rfl⟩
 ·exact hP.below _ _ _ hb h
 ·exact hP.stored _ _ _ _ hg h
theorem StoT.turned {N' : Nat} {v : Value} (hP : StayP T n P) (h : StoT N P v w) (hR : TurnT T n N' P w w') : StoT N P v w' := by
 obtain ⟨C, vs, h1, h2, h3, h4⟩ := h
 have h5 := hP.turned h4 hR
 rcases hR with hb | ⟨g, us, _, hO, hl, hu, rfl⟩
 ·exact ⟨C, vs, h1, h2, h3.below hb, h5⟩
 ·by_cases e : C = g
  ·subst e
   obtain ⟨zs, hz, hr, hlt⟩ := hO.row
   exact ⟨C, us, h1, h2, row_cells (row_all hr (by omega)) (by rw [size_setCellsN]; exact hlt), hP.stored _ _ _ _ hO hu⟩
  ·exact ⟨C, vs, h1, h2, h3.stored e, h5⟩
theorem own_kept {V : World} {base : Nat} {E : TypeId} {size : Nat} {v : Value} {k : Nat} {xs : List Value} {g m : Nat} (h : w.ownsRow base E size v k xs) (hg : BlkT T m g w) (hne : T ≠ E) (hs : w.heap.size ≤ V.heap.size) (ho : ∀ R, R < w.heap.size → R ≠ g → V.heap[R]? = w.heap[R]?) : V.ownsRow base E size v k xs := by
 have key : ∀ j, v.ownBlock = some j → j < w.heap.size ∧ j ≠ g := fun j hj => by
  rcases h.2 with ⟨h2, _⟩ | ⟨g', cap, cur, h2, _, h3, _⟩
  ·subst h2; cases hj
  ·subst h2
   have : g' = j := Option.some.inj hj
   subst this
   refine ⟨heap_lt h3, fun e => hne ?_⟩
   subst e
   obtain ⟨cs, h1, _⟩ := hg
   rw [h1] at h3
   cases h3
   rfl
 exact own_of_block h hs fun j hj => ho j (key j hj).1 (key j hj).2
theorem own_stored {base : Nat} {E : TypeId} {size : Nat} {v : Value} {k : Nat} {xs : List Value} {g m o : Nat} {vs : List Value} (h : w.ownsRow base E size v k xs) (hg : BlkT T m g w) (hne : T ≠ E) : (w.setCells g o vs).ownsRow base E size v k xs :=
 own_kept h hg hne (by rw [size_setCellsN]; exact Nat.le_refl _) fun _ _ hR => heap_stored hR _ _ _
end
/-- the cells of a book whose sights lie in memory of its own -/
def BkS (N : Nat) (H : Option Addr) (hcap : Nat) (c : Sb) (vs : List Value) (w : World) : Prop := ∃ A k, vs = sbV H hcap A k c ∧ w.ownsRow N 68 4 (.slice A c.sights.length k) c.sights.length (sis c.sights)
/-- and one whose hours do, and that has no sights -/
def BkH (N : Nat) (c : Sb) (vs : List Value) (w : World) : Prop := ∃ A k, vs = sbV A k none 0 c ∧ w.ownsRow N 62 6 (.slice A c.hours.length k) c.hours.length (hrs c.hours)
theorem BkS.stay (N : Nat) (H : Option Addr) (hcap : Nat) (c : Sb) (n : Nat) : StayP 29 n (BkS N H hcap c) :=
 ⟨fun _ _ _ hb ⟨A, k, h1, h2⟩ => ⟨A, k, h1, own_below h2 hb⟩, fun _ _ _ _ hg ⟨A, k, h1, h2⟩ => ⟨A, k, h1, own_stored h2 hg (by decide)⟩⟩
theorem BkH.stay (N : Nat) (c : Sb) (n : Nat) : StayP 29 n (BkH N c) :=
 ⟨fun _ _ _ hb ⟨A, k, h1, h2⟩ => ⟨A, k, h1, own_below h2 hb⟩, fun _ _ _ _ hg ⟨A, k, h1, h2⟩ => ⟨A, k, h1, own_stored h2 hg (by decide)⟩⟩
end Go.Proofs.YtkhmcofmjjmjhaaDoor
namespace Go.Proofs.YtkhmcofmjjmjhaaDoor
set_option linter.unusedSimpArgs false
set_option linter.unusedVariables false
open Go Go.RowKit
attribute [local go_sem high] cell_set_wr
attribute [local go_sem low] cell_wr frozen_wr
attribute [local go_sem] wr_set wr_drew wr_drewN wr_alloc wr_new Rho.c Rho.n Rho.g
theorem okE {b : Sb} (hb : OkB b) : sbE b = 0 := by unfold sbE; rw [ok_iff.2 hb]; rfl
theorem frE_yes {b : Sb} (hb : OkB b) (hr : rtB b = true) {v : Bool} (hv : v = true) : frE b v = 0 := frE_zero.2 ⟨ok_iff.2 hb, hv, hr⟩
theorem hour_is {b : Sb} {h : Nat} (hh : h < b.hours.length) : b.isHour h = true := by
 unfold Sb.isHour
 exact wB_iff.2 ⟨by omega, by omega⟩
theorem atC (T : Option Addr) (c : Nat) (l : List Nat) (hl : l.length ≤ 9223372036854775807) (i : Nat) (W : World) (hW : ArrD W T (nats l)) : Calls Tryd.prog 39 #[.slice T l.length c, .int .i64 i] W fun e w' => e = .returned (.int .i64 (atI (l.map fun (n : Nat) => (n : Int)) i)) ∧ Below W.heap.size W w' := by
 have h := at_any T c (l.map fun (n : Nat) => (n : Int)) i W (by rw [← nats_ints]; exact hW) (by rw [List.length_map]; exact hl)
 rw [List.length_map] at h
 exact h
section
variable (H : Option Addr) (hcap : Nat) (S : Option Addr) (scap : Nat) (b : Sb)
theorem rightC (hb : OkB b) {q : Bool} (hq : rtB b = q) (W : World) (hW : SbAt W H S b) : Calls Tryd.prog 14 #[.agg (sbV H hcap S scap b).toArray] W fun e w' => e = .returned (.tuple #[.bool q, .int .i64 0]) ∧ Below W.heap.size W w' := by
 have h := pRight_any H hcap S scap b W hW (by have := hb.hours; omega) (by have := hb.sights; omega)
 rw [okE hb, ok_iff.2 hb, hq, Bool.true_and] at h
 exact h
theorem loadC (hb : OkB b) (hr : rtB b = true) {h : Nat} (hh : h < b.hours.length) (W : World) (hW : SbAt W H S b) : Calls Tryd.prog 18 #[.agg (sbV H hcap S scap b).toArray, .int .i64 h] W fun e w' => e = .returned (.tuple #[.agg #[.int .i64 (loH b h), .int .i64 (hiH b h)], .int .i64 0]) ∧ Below W.heap.size W w' := by
 have h1 := pLoad_any H hcap S scap b h W hW (by have := hb.hours; omega) (by have := hb.sights; omega)
 have h2 := frE_yes hb hr (hour_is hh)
 have e : loadR b h = (loH b h, hiH b h) := by unfold loadR; rw [if_pos h2, Int.toNat_natCast]
 rw [h2, e] at h1
 dsimp only at h1
 exact h1
theorem safeC (hb : OkB b) (hr : rtB b = true) {h : Nat} (hh : h < b.hours.length) (W : World) (hW : SbAt W H S b) : Calls Tryd.prog 20 #[.agg (sbV H hcap S scap b).toArray, .int .i64 h] W fun e w' => e = .returned (.tuple #[.bool (safB b h), .int .i64 0]) ∧ Below W.heap.size W w' := by
 have h1 := pSafe_any H hcap S scap b h W hW (by have := hb.hours; omega) (by have := hb.sights; omega)
 have h2 := frE_yes hb hr (hour_is hh)
 have e : safeR b h = safB b h := by unfold safeR; rw [if_pos h2, Int.toNat_natCast]
 rw [h2, e] at h1
 exact h1
theorem freeC (hb : OkB b) (hr : rtB b = true) (W : World) (hW : SbAt W H S b) : Calls Tryd.prog 23 #[.agg (sbV H hcap S scap b).toArray] W fun e w' => (∃ T c, e = .returned (.tuple #[.slice T (freK b b.hours.length).length c, .int .i64 0]) ∧ ArrD w' T (nats (freK b b.hours.length))) ∧ Below W.heap.size W w' := by
 have h1 := pFree_any H hcap S scap b W hW (by have := hb.hours; omega) (by have := hb.sights; omega)
 have h2 := frE_yes hb hr (v := true) rfl
 have e : freL b = freK b b.hours.length := by unfold freL; rw [if_pos h2]
 rw [h2, e] at h1
 exact h1
theorem fallsC (hb : OkB b) (hr : rtB b = true) (W : World) (hW : SbAt W H S b) (hT : TabW W) : Calls Tryd.prog 30 #[.agg (sbV H hcap S scap b).toArray] W fun e w' => e = .returned (.tuple #[.agg #[.int .i64 (loO b), .int .i64 (hiO b)], .int .i64 0]) ∧ Below W.heap.size W w' := by
 have h1 := pFalls_any H hcap S scap b W hW hT (by have := hb.hours; omega) (by have := hb.sights; omega)
 have h2 := frE_yes hb hr (v := true) rfl
 have e : falR b = (loO b, hiO b) := by unfold falR; rw [if_pos h2]
 rw [h2, e] at h1
 dsimp only at h1
 exact h1
theorem wrongC (hb : OkB b) (W : World) (hW : SbAt W H S b) : Calls Tryd.prog 32 #[.agg (sbV H hcap S scap b).toArray] W fun e w' => (∃ T c, e = .returned (.tuple #[.slice T (wroB b).length c, .int .i64 0]) ∧ ArrD w' T (nats (wroB b))) ∧ Below W.heap.size W w' := by
 have h := pWrong_any H hcap S scap b W hW (by have := hb.hours; omega) (by have := hb.sights; omega)
 rw [okE hb, if_pos (ok_iff.2 hb)] at h
 exact h
theorem soundC (hb : OkB b) (W : World) (hW : SbAt W H S b) : Calls Tryd.prog 34 #[.agg (sbV H hcap S scap b).toArray] W fun e w' => e = .returned (.bool true) ∧ Below W.heap.size W w' := sound_yes H hcap S scap b hb W hW
end
end Go.Proofs.YtkhmcofmjjmjhaaDoor
namespace Go.Proofs.YtkhmcofmjjmjhaaDoor
set_option linter.unusedSimpArgs false
set_option linter.unusedVariables false
open Go Go.RowKit
attribute [local go_sem high] cell_set_wr
attribute [local go_sem low] cell_wr frozen_wr
attribute [local go_sem] wr_set wr_drew wr_drewN wr_alloc wr_new Rho.c Rho.n Rho.g
/-- a book with other sights in memory -/
structure YoS (H : Option Addr) (hcap : Nat) (b : Sb) (Q : Nat) (w w0 : World) (ds : List Si) (A : Option Addr) (c : Nat) (V : World) : Prop where
 below : Below w.heap.size w V
 size : w0.heap.size ≤ V.heap.size
 row : Row V Q (sbV H hcap A c { b with sights := ds })
 own : V.ownsRow w0.heap.size 68 4 (.slice A ds.length c) ds.length (sis ds)
 other : ∀ R, R < w0.heap.size → R ≠ Q → V.heap[R]? = w0.heap[R]?
theorem YoS.on {H : Option Addr} {hcap : Nat} {b : Sb} {Q : Nat} {w w0 : World} {ds : List Si} {A : Option Addr} {c : Nat} {V V' : World} (h : YoS H hcap b Q w w0 ds A c V) (hQ0 : Q < w0.heap.size) (hb : Below V.heap.size V V') : YoS H hcap b Q w w0 ds A c V' := ⟨h.below.trans (hb.mono h.below.size), Nat.le_trans h.size hb.size, h.row.below hb (Nat.lt_of_lt_of_le hQ0 h.size), own_below h.own hb, fun R hR hne => (hb.block R (Nat.lt_of_lt_of_le hR h.size)).trans (h.other R hR hne)⟩
theorem YoS.snoc {H : Option Addr} {hcap : Nat} {b : Sb} {Q : Nat} {w w0 : World} {ds : List Si} {A : Option Addr} {c : Nat} {V V' : World} (h : YoS H hcap b Q w w0 ds A c V) (hQ : w.heap.size ≤ Q) (hQ0 : Q < w0.heap.size) (s : Si) {A2 : Option Addr} {c2 : Nat}
    (q3 : V'.ownsRow w0.heap.size 68 4 (.slice A2 (ds.length + 1) c2) (ds.length + 1) (sis ds ++ s.cells)) (q4 : V.grownBy V' (Value.slice A ds.length c).ownBlock) :
    YoS H hcap b Q w w0 (ds ++ [s]) A2 c2 (V'.setCell ⟨Q, 8, none⟩ (.slice A2 (ds.length + 1) c2)) ∧ Wr V' Q 8 := by
 have hsz := h.size
 have ho := h.own
 have hlow : Below w0.heap.size V V' := (Below.refl w0.heap.size V).grown q4 hsz (fun k e => ownBlock_le ho k e)
 have hrow := row_of_block h.row (hlow.block Q hQ0)
 have hl1 : (ds ++ [s]).length = ds.length + 1 := by simp
 refine ⟨⟨(h.below.trans (hlow.mono (by omega))).setCell hQ _, by simpa using Nat.le_trans hsz hlow.size, ?_, ?_, fun R hR hne => ?_⟩, (hrow 8 _ rfl).2⟩
 ·have := hrow.set (o := 8) (v := .slice A2 (ds.length + 1) c2) (by simp [sbV])
  rw [← hl1] at this ⊢
  exact this
 ·rw [hl1, sis_snoc]
  refine own_of_block q3 (by simp) fun g hg => ?_
  have hg2 := ownBlock_le q3 g hg
  exact Below.heap_setCell _ _ _ _ (by simp only; omega)
 ·rw [Below.heap_setCell _ _ _ _ (by simpa using hne), hlow.block R hR]
  exact h.other R hR hne
end Go.Proofs.YtkhmcofmjjmjhaaDoor
