/- What a clock tells of what is asked, in all its dials. -/
import Derived.Test.YtnkbcapikenbbaaP2b
import Derived.Test.YtnkbcapikenbbaaP5
import Derived.Test.YtnkbcapikenbbaaD
import Derived.Test.YtnkbcapikenbbaaP6
namespace Go.Proofs.Ytnkbcapikenbbaa
set_option linter.unusedSimpArgs false
set_option linter.unusedVariables false
open Go.RowKit Go.Shelf
attribute [local go_sem] Oper.semAt_some
attribute [local go_sem high] cell_set_wr
attribute [local go_sem low] cell_wr frozen_wr
attribute [local go_sem] wr_set wr_drew wr_drewN wr_alloc wr_new

theorem DBox.lt {w : World} {db : Nat} {set : Int} {A : Option Addr} {n cap : Nat} {x : List Sp} (h : DBox w db set A n cap x) : db < w.heap.size := by
  refine Nat.lt_of_not_le fun hge => ?_
  have h1 := h.c0
  simp [World.cell?, Array.getElem?_eq_none hge] at h1
theorem DBox.put_loop {V : World} {db : Nat} {set : Int} {A : Option Addr} {n cap : Nat} {x : List Sp} (h : DBox V db set A n cap x) {l : Nat} {o : Loop} {o' : Obj} (hl : V.heap[l]? = some (.loop o)) : DBox (V.putObj l o') db set A n cap x := by
  have hne : db ≠ l := fun e => by
    have h1 := h.c0
    subst e
    simp [World.cell?, hl] at h1
  have hk : (V.putObj l o').heap[db]? = V.heap[db]? := World.putObj_heap_other hne
  have k : ∀ o, (V.putObj l o').cell? ⟨db, o, none⟩ = V.cell? ⟨db, o, none⟩ := fun o => World.cell?_of_block (w := V) hk
  exact ⟨(k 0).trans h.c0, (k 1).trans h.c1, (k 2).trans h.c2, (k 3).trans h.c3, (k 4).trans h.c4, (k 5).trans h.c5, (k 6).trans h.c6, (k 7).trans h.c7, fun o => (World.frozen?_of_block (w := V) hk).trans (h.fz o)⟩
theorem Wr.but {w w' : World} {b o rb : Nat} (h : Wr w b o) (hb : But rb w w') (hne : b ≠ rb) : Wr w' b o := by
  have hlt := h.lt
  have hk := hb.block b hlt hne
  unfold Wr at h ⊢
  rw [World.cell?_of_block (w := w) (a := ⟨b, o, none⟩) hk, World.frozen?_of_block (w := w) (a := ⟨b, o, none⟩) hk]
  exact h
/-- may this be asked of a dial? -/
def AskOk (kind ask : Int) : Prop := (kind = 0 ∧ 0 ≤ ask ∧ ask ≤ 4320) ∨ (kind = 1 ∧ 0 ≤ ask ∧ ask ≤ 8638) ∨ (kind = 2 ∧ 0 ≤ ask ∧ ask ≤ 4320)
theorem dTell_any (set : Int) (F : Option Addr) (fl fc : Nat) (f0 f1 f2 : Sp) (kind ask klo khi : Int) (w : World) (hs : 0 ≤ set ∧ set ≤ 4319) (hD : OkD [f0, f1, f2]) (ha : AskOk kind ask) :
    Calls Try.prog 85 #[.agg #[.int .i64 set, .slice F fl fc, .int .i64 f0.lo, .int .i64 f0.hi, .int .i64 f1.lo, .int .i64 f1.hi, .int .i64 f2.lo, .int .i64 f2.hi], .int .i64 kind, .int .i64 ask, .agg #[.int .i64 klo, .int .i64 khi]] w
      fun e w' => e = .returned (.agg #[.int .i64 (tellD set [f0, f1, f2] kind ask ⟨klo, khi⟩).lo, .int .i64 (tellD set [f0, f1, f2] kind ask ⟨klo, khi⟩).hi]) ∧ Below w.heap.size w w' := by
  rcases ha with ⟨rfl, h⟩ | ⟨rfl, h⟩ | ⟨rfl, h⟩
  · exact dTell0_any set F fl fc f0 f1 f2 ask klo khi w hs hD h
  · exact dTell1_any set F fl fc f0 f1 f2 ask klo khi w hs hD h
  · exact dTell2_any set F fl fc f0 f1 f2 ask klo khi w hs hD h

/-- what a clock tells in all its dials -/
def toldR (set : Int) (XS : List (List Sp)) (kind ask : Int) (known : Sp) : Rc := XS.foldl (fun r x => r.add (tellD set x kind ask known)) Rc.zero
theorem toldR_snoc (set : Int) (XS : List (List Sp)) (x : List Sp) (kind ask : Int) (known : Sp) : toldR set (XS ++ [x]) kind ask known = (toldR set XS kind ask known).add (tellD set x kind ask known) := by
  simp [toldR]

set_option maxRecDepth 100000 in
set_option maxHeartbeats 4000000 in
theorem told_any (set : Int) (A : Option Addr) (cap : Nat) (fs : List Fr) (m kind ask klo khi : Int) (w : World) (hA : Arr w w.heap.size A (frosts fs)) (hO : OkFs fs) (hm : 0 ≤ m ∧ m ≤ 4320) (hs : 0 ≤ set ∧ set ≤ 4319) (ha : AskOk kind ask) :
    Calls Try.prog 57 #[.agg #[.int .i64 set, .slice A fs.length cap], .int .i64 m, .int .i64 kind, .int .i64 ask, .agg #[.int .i64 klo, .int .i64 khi]] w fun e w' =>
      e = .returned (.tuple #[.agg #[.int .i64 (toldR set (dialsOf fs m) kind ask ⟨klo, khi⟩).lo, .int .i64 (toldR set (dialsOf fs m) kind ask ⟨klo, khi⟩).hi], .bool (toldR set (dialsOf fs m) kind ask ⟨klo, khi⟩).any]) ∧ Below w.heap.size w w' := by
  have hok := hid (dialsOf_ok fs m hO hm)
  refine (callsIn_wide (n := 5)).1 ?_
  refine callsIn_of_wp_marks Try.func57 rfl trivial ?_ rfl
  simp only [Try.ntmps57, List.size_toArray, List.length_cons, List.length_nil, Nat.reduceAdd, Nat.reduceSub, Array.replicate_succ, Array.replicate_zero, List.push_toArray, List.append_toArray, List.nil_append, List.cons_append]
  gi_wp2_with fail
  obtain ⟨W, hW⟩ : ∃ W, W = (((((w.alloc (.cells #[.int .i64 set, .slice A fs.length cap] 24)).alloc (.cells #[.int .i64 kind] 3)).alloc (.cells #[.int .i64 ask] 3)).alloc
              (.cells #[.int .i64 klo, .int .i64 khi] 27)).alloc (.cells #[.int .i64 0, .int .i64 0] 27)).alloc (.cells #[.int .i64 0, .int .i64 0, .bool false] 96) := ⟨_, rfl⟩
  have hWz : W.heap.size = w.heap.size + 6 := by rw [hW]; simp
  have hWB : Below w.heap.size w W := by rw [hW]; (repeat' (first | (with_reducible exact Below.refl _ _) | (with_reducible assumption) | (with_reducible refine Below.drew ?_) | (with_reducible refine below_drewN ?_ _) | (with_reducible refine Below.setCell ?_ ?_ _) | (with_reducible refine Below.alloc ?_ ?_ _) | go_size | (exact Below.size (by assumption)) | (refine Below.trans ?_ (Below.mono (by assumption) ?_))))
  have x0 : W.cell? ⟨w.heap.size + 1, 0, none⟩ = some (.int .i64 kind) := by rw [hW]; simp [go_sem]
  have x1 : W.cell? ⟨w.heap.size + 1 + 1, 0, none⟩ = some (.int .i64 ask) := by rw [hW]; simp [go_sem]
  have x2 : W.cell? ⟨w.heap.size + 1 + 1 + 1, 0, none⟩ = some (.int .i64 klo) := by rw [hW]; simp [go_sem]
  have x3 : W.cell? ⟨w.heap.size + 1 + 1 + 1, 1, none⟩ = some (.int .i64 khi) := by rw [hW]; simp [go_sem]
  have x4 : Wr W (w.heap.size + 1 + 1 + 1 + 1) 0 ∧ Wr W (w.heap.size + 1 + 1 + 1 + 1) 1 := by rw [hW]; constructor <;> exact ⟨by simp [go_sem], by simp [go_sem]⟩
  have x5 : RBox W (w.heap.size + 1 + 1 + 1 + 1 + 1) Rc.zero := by rw [hW]; exact ⟨by simp [go_sem, Rc.zero], by simp [go_sem, Rc.zero], by simp [go_sem, Rc.zero], fun o => by simp [go_sem]⟩
  rw [← hW]
  clear hW
  refine ⟨trivial, ?_⟩
  refine (callsIn_wide.2 (dials_any set A cap fs m W ((hA.below hWB).more (by omega)) hO hm)).mono ?_
  rintro e w1 ⟨cb, S, rfl, hcb1, hcb2, e0, e1, e2, eS, hb1⟩
  gi_wp2_with fail
  have hz1 := hb1.size
  have hlls : (fs.map fun f => frostsL f m).length = fs.length := by simp
  have hX0 : ∀ V, Below w1.heap.size w1 V → (V.cell? ⟨w.heap.size + 1, 0, none⟩ = some (.int .i64 kind) ∧ V.cell? ⟨w.heap.size + 1 + 1, 0, none⟩ = some (.int .i64 ask) ∧ V.cell? ⟨w.heap.size + 1 + 1 + 1, 0, none⟩ = some (.int .i64 klo) ∧ V.cell? ⟨w.heap.size + 1 + 1 + 1, 1, none⟩ = some (.int .i64 khi) ∧ Wr V (w.heap.size + 1 + 1 + 1 + 1) 0 ∧ Wr V (w.heap.size + 1 + 1 + 1 + 1) 1) := fun V hV => by
    have hv : ∀ b o, b < w.heap.size + 6 → V.cell? ⟨b, o, none⟩ = W.cell? ⟨b, o, none⟩ := fun b o h => (hV.cell (p := ⟨b, o, none⟩) (by simp only; omega)).trans (hb1.cell (p := ⟨b, o, none⟩) (by simp only; omega))
    exact ⟨(hv _ _ (by omega)).trans x0, (hv _ _ (by omega)).trans x1, (hv _ _ (by omega)).trans x2, (hv _ _ (by omega)).trans x3, wr_below (wr_below x4.1 hb1 (by omega)) hV (by omega), wr_below (wr_below x4.2 hb1 (by omega)) hV (by omega)⟩
  refine wpIn_rangeM (gf := 90) (lb := #[.pointer (some ⟨W.heap.size, 0, none⟩), .pointer (some ⟨cb, 0, none⟩)]) (by rw [hWz]; rfl) (enters_of Try.func90 (by kernel_rfl) rfl)
    (dials_seq W.heap.size cb w1.heap.size set A S fs.length cap (fs.map fun f => frostsL f m) w1 hlls hO.1 (frostsL_small fs m hO) rfl ⟨hcb1, hcb2⟩ e0 e1 e2 eS) (Below.refl _ _) hz1 (fun _ => rfl)
    (fun pre V => RBox V (w.heap.size + 1 + 1 + 1 + 1 + 1) (toldR set pre kind ask ⟨klo, khi⟩) ∧ (V.cell? ⟨w.heap.size + 1, 0, none⟩ = some (.int .i64 kind) ∧ V.cell? ⟨w.heap.size + 1 + 1, 0, none⟩ = some (.int .i64 ask) ∧ V.cell? ⟨w.heap.size + 1 + 1 + 1, 0, none⟩ = some (.int .i64 klo) ∧ V.cell? ⟨w.heap.size + 1 + 1 + 1, 1, none⟩ = some (.int .i64 khi) ∧ Wr V (w.heap.size + 1 + 1 + 1 + 1) 0 ∧ Wr V (w.heap.size + 1 + 1 + 1 + 1) 1) ∧ Below w.heap.size w V)
    (fun _ _ _ => False) ?hI (fun _ _ _ _ h _ => h) ?h0
    (fun x a' V => ∃ b, DBox V b set A fs.length cap x ∧ w1.heap.size ≤ b ∧ a' = { tmps := #[.agg #[.int .i64 set, .slice A fs.length cap], .int .i64 m, .int .i64 kind, .int .i64 ask, .agg #[.int .i64 klo, .int .i64 khi], .pointer (some ⟨w.heap.size, 0, none⟩), undef, .pointer (some ⟨w.heap.size + 1, 0, none⟩),
      .pointer (some ⟨w.heap.size + 1 + 1, 0, none⟩), .pointer (some ⟨w.heap.size + 1 + 1 + 1, 0, none⟩), .pointer (some ⟨w.heap.size + 1 + 1 + 1 + 1, 0, none⟩), .bool false, .pointer (some ⟨w.heap.size + 1 + 1 + 1 + 1 + 1, 0, none⟩), .pointer (some ⟨b, 0, none⟩),
      .agg #[.int .i64 set, .slice A fs.length cap], .int .i64 m, .func (.func 90) #[] #[.pointer (some ⟨w.heap.size + 6, 0, none⟩), .pointer (some ⟨cb, 0, none⟩)], dialV set A fs.length cap x, undef, undef, undef, undef, undef, undef, undef, undef, undef, undef], defers := [] })
    ?hAx ?assign ?body ?done (fun _ _ _ _ _ _ _ h _ => h.elim)
  case hI =>
    rintro s X Y ⟨hr, ⟨a0, a1, a2, a3, a4, a5⟩, hb⟩ hxy
    exact ⟨hr.below hxy (by omega), ⟨(hxy.cell (by simp only; omega)).trans a0, (hxy.cell (by simp only; omega)).trans a1, (hxy.cell (by simp only; omega)).trans a2, (hxy.cell (by simp only; omega)).trans a3, wr_below a4 hxy (by omega), wr_below a5 hxy (by omega)⟩, hb.trans (hxy.mono (by omega))⟩
  case h0 => exact ⟨x5.below hb1 (by omega), hX0 _ (Below.refl _ _), hWB.trans (hb1.mono (by omega))⟩
  case hAx =>
    rintro x a' V l o o' hl ho ⟨b, hD, hb, rfl⟩
    exact ⟨b, hD.put_loop ho, hb, rfl⟩
  case assign =>
    rintro l pre x V K ⟨hr, ⟨a0, a1, a2, a3, a4, a5⟩, hb⟩ hzV hK
    unfold dialV
    gi_wp2
    have hba := (Below.refl V.heap.size V).alloc (Nat.le_refl _) (.cells #[.int .i64 set, .slice A fs.length cap, .int .i64 (nth3 x 0).lo, .int .i64 (nth3 x 0).hi, .int .i64 (nth3 x 1).lo, .int .i64 (nth3 x 1).hi, .int .i64 (nth3 x 2).lo, .int .i64 (nth3 x 2).hi] 105)
    refine hK _ _ ((Mid.refl _ _).alloc _) ⟨hr.below hba (by omega), ⟨(hba.cell (by simp only; omega)).trans a0, (hba.cell (by simp only; omega)).trans a1, (hba.cell (by simp only; omega)).trans a2, (hba.cell (by simp only; omega)).trans a3, wr_below a4 hba (by omega), wr_below a5 hba (by omega)⟩, hb.trans (hba.mono (by omega))⟩
      ⟨V.heap.size, ⟨by simp [go_sem], by simp [go_sem], by simp [go_sem], by simp [go_sem], by simp [go_sem], by simp [go_sem], by simp [go_sem], by simp [go_sem], fun k => by simp [go_sem]⟩, hzV, rfl⟩
  case body =>
    rintro l pre x a' V hzV ⟨hr, ⟨a0, a1, a2, a3, a4, a5⟩, hb⟩ ⟨b, hD, hbb, rfl⟩ hpre
    obtain ⟨f0, f1, f2, rfl, hOD⟩ := hok.out x (hpre.subset (by simp))
    have hDb := hD.lt
    obtain ⟨d0, d1, d2, d3, d4, d5, d6, d7, _⟩ := hD
    simp only [show nth3 [f0, f1, f2] 0 = f0 from rfl, show nth3 [f0, f1, f2] 1 = f1 from rfl, show nth3 [f0, f1, f2] 2 = f2 from rfl] at d2 d3 d4 d5 d6 d7
    gi_wp2_with (first
      | (refine ⟨trivial, ?_⟩; gi_at_call 85; refine (callsIn_wide.2 (dTell_any set A fs.length cap f0 f1 f2 kind ask klo khi _ hs hOD ha)).mono ?_; rintro e w2 ⟨rfl, hb2⟩; (first | replace hb2 := Below.un1 hb2 | replace hb2 := Below.un2 hb2 | skip); obtain ⟨hc2, hf2, hl2, hm2, hw2⟩ := bcell hb2; have hz2 := hb2.size; (try simp only [World.size_alloc, World.size_setCell] at hz2); have hr2 := hr.below hb2 (by omega))
      | (refine ⟨trivial, ?_⟩; gi_at_call 68; refine (callsIn_wide.2 (add_any _ _ _ _ _ hr2)).mono ?_; rintro e w3 ⟨⟨v3, rfl⟩, hr3, hbt⟩))
    have hz2 := hb2.size
    have hBt := hbt.below (B := w.heap.size) (by omega) (by omega)
    have hk : ∀ b o, b < w.heap.size + 6 → b ≠ w.heap.size + 1 + 1 + 1 + 1 + 1 → w3.cell? ⟨b, o, none⟩ = V.cell? ⟨b, o, none⟩ := fun b o h h' => (hbt.cell (by omega) h' o).trans (hb2.cell (p := ⟨b, o, none⟩) (by simp only; omega))
    refine ⟨(Mid.of_below hb2).trans (hbt.mid (by omega)), ?_, ⟨(hk _ _ (by omega) (by omega)).trans a0, (hk _ _ (by omega) (by omega)).trans a1, (hk _ _ (by omega) (by omega)).trans a2, (hk _ _ (by omega) (by omega)).trans a3, ?_, ?_⟩, (hb.trans (hb2.mono (by omega))).trans hBt⟩
    · rw [toldR_snoc]; exact hr3
    · exact (wr_below a4 hb2 (by omega)).but hbt (by omega)
    · exact (wr_below a5 hb2 (by omega)).but hbt (by omega)
  case done =>
    rintro D V hD ⟨hr, ⟨a0, a1, a2, a3, a4, a5⟩, hb⟩ hK
    obtain ⟨r0, r1, r2, _⟩ := hr
    gi_wp2
    gi_region
    gi_wp2
    have hDD : dialsL (fs.map fun f => frostsL f m) = dialsOf fs m := rfl
    rw [hDD] at *
    generalize toldR set (dialsOf fs m) kind ask ⟨klo, khi⟩ = T at *
    have hDn : w.heap.size + 1 + 1 + 1 + 1 ≠ D := by omega
    have hDV : D < V.heap.size := (Array.getElem?_eq_some_iff.1 hK).1
    have s0 : ((V.setCell ⟨w.heap.size + 1 + 1 + 1 + 1, 0, none⟩ (.int .i64 T.lo)).setCell ⟨w.heap.size + 1 + 1 + 1 + 1, 1, none⟩ (.int .i64 T.hi)).cell? ⟨w.heap.size + 1 + 1 + 1 + 1, 0, none⟩ = some (.int .i64 T.lo) :=
      (World.cell?_setCell_other _ _ _ _ (fun e => by cases e)).trans (World.cell?_setCell_same' _ _ _ a4.1)
    have s1 : ((V.setCell ⟨w.heap.size + 1 + 1 + 1 + 1, 0, none⟩ (.int .i64 T.lo)).setCell ⟨w.heap.size + 1 + 1 + 1 + 1, 1, none⟩ (.int .i64 T.hi)).cell? ⟨w.heap.size + 1 + 1 + 1 + 1, 1, none⟩ = some (.int .i64 T.hi) :=
      World.cell?_setCell_same' _ _ _ (by rw [World.cell?_setCell_other _ _ _ _ (fun e => by cases e)]; exact a5.1)
    have sB : Below w.heap.size w ((V.setCell ⟨w.heap.size + 1 + 1 + 1 + 1, 0, none⟩ (.int .i64 T.lo)).setCell ⟨w.heap.size + 1 + 1 + 1 + 1, 1, none⟩ (.int .i64 T.hi)) := by (repeat' (first | (with_reducible exact Below.refl _ _) | (with_reducible assumption) | (with_reducible refine Below.drew ?_) | (with_reducible refine below_drewN ?_ _) | (with_reducible refine Below.setCell ?_ ?_ _) | (with_reducible refine Below.alloc ?_ ?_ _) | go_size | (exact Below.size (by assumption)) | (refine Below.trans ?_ (Below.mono (by assumption) ?_))))
    have sD : ((V.setCell ⟨w.heap.size + 1 + 1 + 1 + 1, 0, none⟩ (.int .i64 T.lo)).setCell ⟨w.heap.size + 1 + 1 + 1 + 1, 1, none⟩ (.int .i64 T.hi)).heap[D]? = some (.deferred (some [])) := by
      rw [Below.heap_setCell _ _ _ _ (fun e => hDn e.symm), Below.heap_setCell _ _ _ _ (fun e => hDn e.symm)]; exact hK
    generalize (V.setCell ⟨w.heap.size + 1 + 1 + 1 + 1, 0, none⟩ (.int .i64 T.lo)).setCell ⟨w.heap.size + 1 + 1 + 1 + 1, 1, none⟩ (.int .i64 T.hi) = V2 at *
    refine ⟨by simp, .inl ⟨_, _, rfl, run_takeDeferred (ds := []) sD, ?_⟩⟩
    have u0 : (V2.drew.putObj D (.deferred none)).cell? ⟨w.heap.size + 1 + 1 + 1 + 1, 0, none⟩ = some (.int .i64 T.lo) := (World.cell?_of_block (w := V2) (World.putObj_heap_other hDn)).trans s0
    have u1 : (V2.drew.putObj D (.deferred none)).cell? ⟨w.heap.size + 1 + 1 + 1 + 1, 1, none⟩ = some (.int .i64 T.hi) := (World.cell?_of_block (w := V2) (World.putObj_heap_other hDn)).trans s1
    have uB : Below w.heap.size w (V2.drew.putObj D (.deferred none)) := sB.drew.trans ((Below.refl w.heap.size V2.drew).grown (grownBy_putObj' V2.drew D (.deferred none)) sB.size (fun k e => by cases e; omega))
    generalize V2.drew.putObj D (.deferred none) = V3 at *
    refine ⟨.tuple #[.agg #[.int .i64 T.lo, .int .i64 T.hi], .bool T.any], ?_, rfl, uB⟩
    simp [results, Try.results57, go_sem, u0, u1]
end Go.Proofs.Ytnkbcapikenbbaa
