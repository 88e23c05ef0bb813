/- In how many minutes the clock stands still, in all truths with which a book has a course. -/
import Derived.Test.YtnkbcapikenbbaaP14
namespace Go.Proofs.Ytnkbcapikenbbaa
set_option linter.unusedSimpArgs false
set_option linter.unusedVariables false
open Go.RowKit Go.Shelf
attribute [local go_sem] Oper.semAt_some
attribute [local go_sem high] cell_set_wr
attribute [local go_sem low] cell_wr frozen_wr
attribute [local go_sem] wr_set wr_drew wr_drewN wr_alloc wr_new

theorem mem_coursesL {set : Int} {fs : List Fr} {m : Int} {ls : List Ln} {x : List Sp × List Sp} (h : x ∈ coursesL set fs m ls) : x.1 ∈ dialsOf fs m ∧ courseD set x.1 ls = some x.2 := by
  obtain ⟨y, hy, he⟩ := List.mem_filterMap.1 h
  obtain ⟨s, hs, rfl⟩ := Option.map_eq_some_iff.1 he
  exact ⟨hy, hs⟩
def stopR (set : Int) (XS : List (List Sp × List Sp)) : Rc := XS.foldl (fun r x => r.add (tellD set x.1 2 4320 ⟨0, 4320⟩)) Rc.zero
theorem stopR_snoc (set : Int) (XS : List (List Sp × List Sp)) (x : List Sp × List Sp) : stopR set (XS ++ [x]) = (stopR set XS).add (tellD set x.1 2 4320 ⟨0, 4320⟩) := by simp [stopR]

set_option maxRecDepth 100000 in
set_option maxHeartbeats 4000000 in
theorem stopped_any (set : Int) (A L : Option Addr) (cap lcap : Nat) (fs : List Fr) (ls : List Ln) (w : World) (hO : OkFs fs) (hs : 0 ≤ set ∧ set ≤ 4319) (hl6 : ls.length ≤ 6) (hb : ∀ l ∈ ls, lineB l = true)
    (hA : Arr w w.heap.size A (frosts fs)) (hL : Arr w w.heap.size L (lines ls)) :
    Calls Try.prog 77 #[.agg #[.int .i64 set, .slice A fs.length cap, .slice L ls.length lcap]] w fun e w' =>
      e = .returned (.agg #[.int .i64 (stopR set (coursesL set fs 4320 ls)).lo, .int .i64 (stopR set (coursesL set fs 4320 ls)).hi]) ∧ Below w.heap.size w w' := by
  have hok := hid (dialsOf_ok fs 4320 hO ⟨by omega, by omega⟩)
  refine (callsIn_wide (n := 5)).1 ?_
  refine callsIn_of_wp_marks Try.func77 rfl trivial ?_ rfl
  simp only [Try.ntmps77, List.size_toArray, List.length_cons, List.length_nil, Nat.reduceAdd, Nat.reduceSub, Array.replicate_succ, Array.replicate_zero, List.push_toArray, List.append_toArray, List.nil_append, List.cons_append]
  gi_wp2_with fail
  obtain ⟨W, hW⟩ : ∃ W, W = ((w.alloc (.cells #[.int .i64 set, .slice A fs.length cap, .slice L ls.length lcap] 109)).alloc (.cells #[.int .i64 0, .int .i64 0] 27)).alloc (.cells #[.int .i64 0, .int .i64 0, .bool false] 96) := ⟨_, rfl⟩
  have hWz : W.heap.size = w.heap.size + 3 := by rw [hW]; simp
  have hWB : Below w.heap.size w W := by rw [hW]; (repeat' (first | (with_reducible exact Below.refl _ _) | (with_reducible assumption) | (with_reducible refine Below.drew ?_) | (with_reducible refine below_drewN ?_ _) | (with_reducible refine Below.setCell ?_ ?_ _) | (with_reducible refine Below.alloc ?_ ?_ _) | go_size | (exact Below.size (by assumption)) | (refine Below.trans ?_ (Below.mono (by assumption) ?_))))
  have x4 : Wr W (w.heap.size + 1) 0 ∧ Wr W (w.heap.size + 1) 1 := by rw [hW]; constructor <;> exact ⟨by simp [go_sem], by simp [go_sem]⟩
  have x5 : RBox W (w.heap.size + 1 + 1) Rc.zero := by rw [hW]; exact ⟨by simp [go_sem, Rc.zero], by simp [go_sem, Rc.zero], by simp [go_sem, Rc.zero], fun o => by simp [go_sem]⟩
  rw [← hW]
  clear hW
  refine ⟨trivial, ?_⟩
  refine (callsIn_wide.2 (courses_any set A L fs.length cap ls.length lcap 4320 W)).mono ?_
  rintro e w1 ⟨rfl, hN, hn, hb1⟩
  gi_wp2_with fail
  have hz1 := hb1.size
  refine wpIn_rangeI (gf := 101) (lb := #[.pointer (some ⟨W.heap.size, 0, none⟩), .pointer (some ⟨W.heap.size + 1, 0, none⟩)]) (by rw [hWz]; rfl) (enters_of Try.func101 (by kernel_rfl) rfl)
    (courses_seq W.heap.size set A L cap lcap w.heap.size fs ls 4320 w1 (by omega) hO ⟨by omega, by omega⟩ hs hl6 hb hn hN) (Below.refl _ _) hz1 (fun _ => rfl)
    (fun pre V => RBox V (w.heap.size + 1 + 1) (stopR set pre) ∧ (Wr V (w.heap.size + 1) 0 ∧ Wr V (w.heap.size + 1) 1) ∧ Below w.heap.size w V)
    (fun _ _ _ => False) ?hI (fun _ _ _ _ h _ => h) ?h0 (fun _ _ h => ⟨hA.below h.2.2, hL.below h.2.2⟩)
    (fun x a' V => ∃ b, DBox V b set A fs.length cap x.1 ∧ w1.heap.size ≤ b ∧ a' = { tmps := #[.agg #[.int .i64 set, .slice A fs.length cap, .slice L ls.length lcap], .pointer (some ⟨w.heap.size, 0, none⟩), .pointer (some ⟨w.heap.size + 1, 0, none⟩), .pointer (some ⟨w.heap.size + 1 + 1, 0, none⟩), .pointer (some ⟨b, 0, none⟩), .agg #[.int .i64 set, .slice A fs.length cap, .slice L ls.length lcap], .func (.func 101) #[] #[.pointer (some ⟨w.heap.size + 3, 0, none⟩), .pointer (some ⟨w.heap.size + 3 + 1, 0, none⟩)], dialV set A fs.length cap x.1, spansV x.2, undef, undef, undef, undef, undef, undef], defers := [] })
    ?hAx ?assign ?body ?done (fun _ _ _ _ _ _ _ h _ => h.elim)
  case hI =>
    rintro s X Y ⟨hr, ⟨a4, a5⟩, hb⟩ hxy
    exact ⟨hr.below hxy (by omega), ⟨wr_below a4 hxy (by omega), wr_below a5 hxy (by omega)⟩, hb.trans (hxy.mono (by omega))⟩
  case h0 => exact ⟨x5.below hb1 (by omega), ⟨wr_below x4.1 hb1 (by omega), wr_below x4.2 hb1 (by omega)⟩, hWB.trans (hb1.mono (by omega))⟩
  case hAx =>
    rintro x a' V l o o' hl ho ⟨b, hD, hb, rfl⟩
    exact ⟨b, hD.put_loop ho, hb, rfl⟩
  case assign =>
    rintro l pre x V K ⟨hr, ⟨a4, a5⟩, hb⟩ hzV hK
    unfold dialV
    gi_wp2
    have hba := (Below.refl V.heap.size V).alloc (Nat.le_refl _) (.cells #[.int .i64 set, .slice A fs.length cap, .int .i64 (nth3 x.1 0).lo, .int .i64 (nth3 x.1 0).hi, .int .i64 (nth3 x.1 1).lo, .int .i64 (nth3 x.1 1).hi, .int .i64 (nth3 x.1 2).lo, .int .i64 (nth3 x.1 2).hi] 105)
    refine hK _ _ ((Mid.refl _ _).alloc _) ⟨hr.below hba (by omega), ⟨wr_below a4 hba (by omega), wr_below a5 hba (by omega)⟩, hb.trans (hba.mono (by omega))⟩
      ⟨V.heap.size, ⟨by simp [go_sem], by simp [go_sem], by simp [go_sem], by simp [go_sem], by simp [go_sem], by simp [go_sem], by simp [go_sem], by simp [go_sem], fun k => by simp [go_sem]⟩, hzV, rfl⟩
  case body =>
    rintro l pre x a' V hzV ⟨hr, ⟨a4, a5⟩, hb⟩ ⟨b, hD, hbb, rfl⟩ hpre
    obtain ⟨x1, x2⟩ := x
    obtain ⟨f0, f1, f2, rfl, hOD⟩ := hok.out x1 (mem_coursesL (x := (x1, x2)) (hpre.subset (by simp))).1
    have hDb := hD.lt
    obtain ⟨d0, d1, d2, d3, d4, d5, d6, d7, _⟩ := hD
    simp only [show nth3 [f0, f1, f2] 0 = f0 from rfl, show nth3 [f0, f1, f2] 1 = f1 from rfl, show nth3 [f0, f1, f2] 2 = f2 from rfl] at d2 d3 d4 d5 d6 d7
    gi_wp2_with (first
      | (refine ⟨trivial, ?_⟩; gi_at_call 85; refine (callsIn_wide.2 (dTell_any set A fs.length cap f0 f1 f2 2 4320 0 4320 _ hs hOD (.inr (.inr ⟨rfl, by omega, by omega⟩)))).mono ?_; rintro e w2 ⟨rfl, hb2⟩; (first | replace hb2 := Below.un1 hb2 | replace hb2 := Below.un2 hb2 | skip); obtain ⟨hc2, hf2, hl2, hm2, hw2⟩ := bcell hb2; have hz2 := hb2.size; (try simp only [World.size_alloc, World.size_setCell] at hz2); have hr2 := hr.below hb2 (by omega))
      | (refine ⟨trivial, ?_⟩; gi_at_call 68; refine (callsIn_wide.2 (add_any _ _ _ _ _ hr2)).mono ?_; rintro e w3 ⟨⟨v3, rfl⟩, hr3, hbt⟩))
    have hz2 := hb2.size
    have hBt := hbt.below (B := w.heap.size) (by omega) (by omega)
    have hk : ∀ b o, b < w.heap.size + 3 → b ≠ w.heap.size + 1 + 1 → w3.cell? ⟨b, o, none⟩ = V.cell? ⟨b, o, none⟩ := fun b o h h' => (hbt.cell (by omega) h' o).trans (hb2.cell (p := ⟨b, o, none⟩) (by simp only; omega))
    refine ⟨(Mid.of_below hb2).trans (hbt.mid (by omega)), ?_, ⟨?_, ?_⟩, (hb.trans (hb2.mono (by omega))).trans hBt⟩
    · rw [stopR_snoc]; exact hr3
    · exact (wr_below a4 hb2 (by omega)).but hbt (by omega)
    · exact (wr_below a5 hb2 (by omega)).but hbt (by omega)
  case done =>
    rintro D V hD ⟨hr, ⟨a4, a5⟩, hb⟩ hK
    obtain ⟨r0, r1, r2, _⟩ := hr
    gi_wp2
    generalize stopR set (coursesL set fs 4320 ls) = T at *
    have hDn : w.heap.size + 1 ≠ D := by omega
    have s0 : ((V.setCell ⟨w.heap.size + 1, 0, none⟩ (.int .i64 T.lo)).setCell ⟨w.heap.size + 1, 1, none⟩ (.int .i64 T.hi)).cell? ⟨w.heap.size + 1, 0, none⟩ = some (.int .i64 T.lo) :=
      (World.cell?_setCell_other _ _ _ _ (fun e => by cases e)).trans (World.cell?_setCell_same' _ _ _ a4.1)
    have s1 : ((V.setCell ⟨w.heap.size + 1, 0, none⟩ (.int .i64 T.lo)).setCell ⟨w.heap.size + 1, 1, none⟩ (.int .i64 T.hi)).cell? ⟨w.heap.size + 1, 1, none⟩ = some (.int .i64 T.hi) :=
      World.cell?_setCell_same' _ _ _ (by rw [World.cell?_setCell_other _ _ _ _ (fun e => by cases e)]; exact a5.1)
    have sB : Below w.heap.size w ((V.setCell ⟨w.heap.size + 1, 0, none⟩ (.int .i64 T.lo)).setCell ⟨w.heap.size + 1, 1, none⟩ (.int .i64 T.hi)) := by (repeat' (first | (with_reducible exact Below.refl _ _) | (with_reducible assumption) | (with_reducible refine Below.drew ?_) | (with_reducible refine below_drewN ?_ _) | (with_reducible refine Below.setCell ?_ ?_ _) | (with_reducible refine Below.alloc ?_ ?_ _) | go_size | (exact Below.size (by assumption)) | (refine Below.trans ?_ (Below.mono (by assumption) ?_))))
    have sD : ((V.setCell ⟨w.heap.size + 1, 0, none⟩ (.int .i64 T.lo)).setCell ⟨w.heap.size + 1, 1, none⟩ (.int .i64 T.hi)).heap[D]? = some (.deferred (some [])) := by
      rw [Below.heap_setCell _ _ _ _ (fun e => hDn e.symm), Below.heap_setCell _ _ _ _ (fun e => hDn e.symm)]; exact hK
    generalize (V.setCell ⟨w.heap.size + 1, 0, none⟩ (.int .i64 T.lo)).setCell ⟨w.heap.size + 1, 1, none⟩ (.int .i64 T.hi) = V2 at *
    refine ⟨by simp, .inl ⟨_, _, rfl, run_takeDeferred (ds := []) sD, ?_⟩⟩
    have u0 : (V2.putObj D (.deferred none)).cell? ⟨w.heap.size + 1, 0, none⟩ = some (.int .i64 T.lo) := (World.cell?_of_block (w := V2) (World.putObj_heap_other hDn)).trans s0
    have u1 : (V2.putObj D (.deferred none)).cell? ⟨w.heap.size + 1, 1, none⟩ = some (.int .i64 T.hi) := (World.cell?_of_block (w := V2) (World.putObj_heap_other hDn)).trans s1
    have uB : Below w.heap.size w (V2.putObj D (.deferred none)) := sB.trans ((Below.refl w.heap.size V2).grown (grownBy_putObj' V2 D (.deferred none)) sB.size (fun k e => by cases e; omega))
    generalize V2.putObj D (.deferred none) = V3 at *
    refine ⟨.agg #[.int .i64 T.lo, .int .i64 T.hi], ?_, rfl, uB⟩
    simp [results, Try.results77, go_sem, u0, u1]
end Go.Proofs.Ytnkbcapikenbbaa
