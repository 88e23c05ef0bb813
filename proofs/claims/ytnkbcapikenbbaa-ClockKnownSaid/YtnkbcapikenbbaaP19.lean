/- The first and the last minute of each line in all courses of a book. -/
import Derived.Test.YtnkbcapikenbbaaP18
import Derived.Test.YtnkbcapikenbbaaP14
import Derived.Test.YtnkbcapikenbbaaP6
import Derived.Test.YtnkbcapikenbbaaP15
import Derived.Laws.OwnMore
namespace Go.Proofs.Ytnkbcapikenbbaa
set_option linter.unusedSimpArgs false
set_option linter.unusedVariables false
open Go.RowKit Go.Shelf
attribute [local go_sem] Oper.semAt_some
attribute [local go_sem high] cell_set_wr
attribute [local go_sem low] cell_wr frozen_wr
attribute [local go_sem] wr_set wr_drew wr_drewN wr_alloc wr_new

theorem but_of_below' {rb : Nat} {w w' : World} (h : Below w.heap.size w w') : But rb w w' := ⟨h.os, h.tape, h.output, h.size, fun k hk _ => h.block k hk⟩
theorem info_span1 : (Try.prog.info? 27).map (fun i => (i.zero, i.size, i.bytes)) = some (some (.agg #[.int .i64 0, .int .i64 0]), 2, 16) := by kernel_rfl
/-- what all courses say of a line -/
def accR (XS : List (List Sp × List Sp)) (i : Nat) : Rc := XS.foldl (fun r x => r.add (nth6 x.2 i)) Rc.zero
theorem accR_snoc (XS : List (List Sp × List Sp)) (x : List Sp × List Sp) (i : Nat) : accR (XS ++ [x]) i = (accR XS i).add (nth6 x.2 i) := by simp [accR]
def Rc.sp (r : Rc) : Sp := ⟨r.lo, r.hi⟩
def timesL (XS : List (List Sp × List Sp)) (n : Nat) : List Sp := (List.range n).map fun i => (accR XS i).sp
theorem RBoxO.other {w w' : World} {rb k i : Nat} {r : Rc} (h : RBoxO w rb (i * 3) r) (hb : ButO rb (k * 3) w w') (hne : i ≠ k) : RBoxO w' rb (i * 3) r := by
  obtain ⟨c0, c1, c2, fz⟩ := h
  have hi : i < k ∨ k < i := by omega
  exact ⟨(hb.cell _ (by omega)).trans c0, (hb.cell _ (by omega)).trans c1, (hb.cell _ (by omega)).trans c2, fun o => (hb.fz o).trans (fz o)⟩

set_option maxRecDepth 100000 in
set_option maxHeartbeats 4000000 in
theorem times_any (set : Int) (A L : Option Addr) (cap lcap : Nat) (fs : List Fr) (ls : List Ln) (w : World) (hO : OkFs fs) (hs : 0 ≤ set ∧ set ≤ 4319) (hl6 : ls.length ≤ 6) (hb : ∀ l ∈ ls, lineB l = true)
    (hA : Arr w w.heap.size A (frosts fs)) (hL : Arr w w.heap.size L (lines ls)) :
    Calls Try.prog 75 #[.agg #[.int .i64 set, .slice A fs.length cap, .slice L ls.length lcap]] w fun e w' =>
      (∃ O ocap, e = .returned (.slice O ls.length ocap) ∧ ocap ≤ maxLen ∧ Arr w' w'.heap.size O (spans (timesL (coursesL set fs (untilL ls) ls) ls.length))) ∧ Below w.heap.size w w' := by
  refine (callsIn_wide (n := 5)).1 ?_
  refine callsIn_of_wp_marks Try.func75 rfl trivial ?_ rfl
  simp only [Try.ntmps75, List.size_toArray, List.length_cons, List.length_nil, Nat.reduceAdd, Nat.reduceSub, Array.replicate_succ, Array.replicate_zero, List.push_toArray, List.append_toArray, List.nil_append, List.cons_append]
  gi_wp2_with fail
  obtain ⟨W, hW⟩ : ∃ W, W = (w.alloc (.cells #[.int .i64 set, .slice A fs.length cap, .slice L ls.length lcap] 109)).alloc (.cells #[.int .i64 0, .int .i64 0, .bool false, .int .i64 0, .int .i64 0, .bool false, .int .i64 0, .int .i64 0, .bool false, .int .i64 0, .int .i64 0, .bool false, .int .i64 0, .int .i64 0, .bool false, .int .i64 0, .int .i64 0, .bool false] 133) := ⟨_, rfl⟩
  have hWz : W.heap.size = w.heap.size + 2 := by rw [hW]; simp
  have hWB : Below w.heap.size w W := by rw [hW]; (repeat' (first | (with_reducible exact Below.refl _ _) | (with_reducible assumption) | (with_reducible refine Below.drew ?_) | (with_reducible refine below_drewN ?_ _) | (with_reducible refine Below.setCell ?_ ?_ _) | (with_reducible refine Below.alloc ?_ ?_ _) | go_size | (exact Below.size (by assumption)) | (refine Below.trans ?_ (Below.mono (by assumption) ?_))))
  have x0 : W.cell? ⟨w.heap.size, 0, none⟩ = some (.int .i64 set) := by rw [hW]; simp [go_sem]
  have x1 : W.cell? ⟨w.heap.size, 1, none⟩ = some (.slice A fs.length cap) := by rw [hW]; simp [go_sem]
  have x2 : W.cell? ⟨w.heap.size, 2, none⟩ = some (.slice L ls.length lcap) := by rw [hW]; simp [go_sem]
  have x5 : ∀ i, i < 6 → RBoxO W (w.heap.size + 1) (i * 3) Rc.zero := by
    intro i hi
    have : i = 0 ∨ i = 1 ∨ i = 2 ∨ i = 3 ∨ i = 4 ∨ i = 5 := by omega
    rw [hW]
    rcases this with rfl | rfl | rfl | rfl | rfl | rfl <;> exact ⟨by simp [go_sem, Rc.zero], by simp [go_sem, Rc.zero], by simp [go_sem, Rc.zero], fun o => by simp [go_sem]⟩
  rw [← hW]
  clear hW
  refine wpIn_wide.2 ?_
  have hwz : w.heap.size < W.heap.size := by omega
  go_region_held3 (fun w' => (w'.cell? ⟨w.heap.size, 0, none⟩ = some (.int .i64 set) ∧ w'.cell? ⟨w.heap.size, 1, none⟩ = some (.slice A fs.length cap) ∧ w'.cell? ⟨w.heap.size, 2, none⟩ = some (.slice L ls.length lcap)) ∧ Below W.heap.size W w') (((refine ⟨?_, ?_⟩; (focus (first | (simp [go_sem, wr_set, wr_drew, wr_drewN, wr_alloc, wr_new]; done) | (simp [go_sem, wr_set, wr_drew, wr_drewN, wr_alloc, wr_new, *]; done) | (simp (disch := go_size) [go_sem, wr_set, wr_drew, wr_drewN, wr_alloc, wr_new, *]; done))); (repeat' (first | (with_reducible exact Below.refl _ _) | (with_reducible assumption) | (with_reducible refine Below.drew ?_) | (with_reducible refine below_drewN ?_ _) | (with_reducible refine Below.setCell ?_ ?_ _) | (with_reducible refine Below.alloc ?_ ?_ _) | go_size | (exact Below.size (by assumption)) | (refine Below.trans ?_ (Below.mono (by assumption) ?_)))))))
    (first
      | (go_at_call 96; refine (until_any set A fs.length cap L lcap ls _ ?_ (by omega)).mono ?_; (focus (refine ((hL.below hWB).below ?_).more ?_; (repeat' (first | (with_reducible exact Below.refl _ _) | (with_reducible assumption) | (with_reducible refine Below.drew ?_) | (with_reducible refine below_drewN ?_ _) | (with_reducible refine Below.setCell ?_ ?_ _) | (with_reducible refine Below.alloc ?_ ?_ _) | go_size | (exact Below.size (by assumption)) | (refine Below.trans ?_ (Below.mono (by assumption) ?_)))))); rintro e w2 ⟨rfl, hb2⟩; (first | replace hb2 := Below.un1 hb2 | replace hb2 := Below.un2 hb2 | skip); obtain ⟨hc2, hf2, hl2, hm2, hw2⟩ := bcell hb2; have hz2 := hb2.size; (try simp only [World.size_alloc, World.size_setCell] at hz2))
      | (go_at_call 95; refine (courses_any set A L fs.length cap ls.length lcap (untilL ls) _).mono ?_; rintro e w3 ⟨rfl, hN3, hn3, hb3⟩; (first | replace hb3 := Below.un1 hb3 | replace hb3 := Below.un2 hb3 | skip); obtain ⟨hc3, hf3, hl3, hm3, hw3⟩ := bcell hb3; have hz3 := hb3.size))
  gi_wp2_with fail
  have hH := ‹(_ ∧ _) ∧ Below W.heap.size W w3›
  obtain ⟨⟨y0, y1, y2⟩, hBW⟩ := hH
  have hu := untilL_bd ls hb
  have hz23 := hb3.size
  have hz2 := hb2.size
  rename_i hz2'
  refine wpIn_rangeI (gf := 101) (lb := #[.pointer (some ⟨w2.heap.size, 0, none⟩), .pointer (some ⟨w2.heap.size + 1, 0, none⟩)]) rfl (enters_of Try.func101 (by kernel_rfl) rfl)
    (courses_seq w2.heap.size set A L cap lcap w.heap.size fs ls (untilL ls) w3 (by omega) hO hu hs hl6 hb hn3 hN3) (Below.refl _ _) hz23 (fun _ => rfl)
    (fun pre V => (∀ i, i < ls.length → RBoxO V (w.heap.size + 1) (i * 3) (accR pre i)) ∧ V.cell? ⟨w.heap.size, 2, none⟩ = some (.slice L ls.length lcap) ∧ Below w.heap.size w V)
    (fun _ _ _ => False) ?hI (fun _ _ _ _ h _ => h) ?h0 (fun _ _ h => ⟨hA.below h.2.2, hL.below h.2.2⟩)
    (fun x a' V => ∃ b, (∀ k, k < 6 → V.cell? ⟨b, k * 2, none⟩ = some (.int .i64 (nth6 x.2 k).lo) ∧ V.cell? ⟨b, k * 2 + 1, none⟩ = some (.int .i64 (nth6 x.2 k).hi)) ∧ w3.heap.size ≤ b ∧ a' = { tmps := #[.agg #[.int .i64 set, .slice A fs.length cap, .slice L ls.length lcap], .pointer (some ⟨w.heap.size, 0, none⟩), .slice none 0 0, .pointer (some ⟨w.heap.size + 1, 0, none⟩), undef, .pointer (some ⟨b, 0, none⟩), undef, undef, undef, .agg #[.int .i64 set, .slice A fs.length cap, .slice L ls.length lcap], .agg #[.int .i64 set, .slice A fs.length cap, .slice L ls.length lcap], .int .i64 (untilL ls), .func (.func 101) #[] #[.pointer (some ⟨w2.heap.size, 0, none⟩), .pointer (some ⟨w2.heap.size + 1, 0, none⟩)], dialV set A fs.length cap x.1, spansV x.2, undef, undef, undef, undef, undef, undef, undef, undef, undef, undef, undef, undef, undef, undef, undef, undef, undef, undef, undef, undef, undef, undef, undef, undef, undef, undef, undef, undef, undef, undef, undef], defers := [] })
    ?hAx ?assign ?body ?done (fun _ _ _ _ _ _ _ h _ => h.elim)
  case hI =>
    rintro s X Y ⟨hr, hc, hb⟩ hxy
    exact ⟨fun i hi => (hr i hi).below hxy (by omega), (hxy.cell (by simp only; omega)).trans hc, hb.trans (hxy.mono (by omega))⟩
  case h0 => exact ⟨fun i hi => (x5 i (by omega)).below hBW (by omega), y2, hWB.trans (hBW.mono (by omega))⟩
  case hAx =>
    rintro x a' V l o o' hl ho ⟨b, hD, hb, rfl⟩
    refine ⟨b, fun k hk => ?_, hb, rfl⟩
    have hne : b ≠ l := fun e => by
      have h1 := (hD 0 (by omega)).1
      subst e
      simp [World.cell?, ho] at h1
    have hk' : (V.putObj l o').heap[b]? = V.heap[b]? := World.putObj_heap_other hne
    exact ⟨(World.cell?_of_block (w := V) (a := ⟨b, k * 2, none⟩) hk').trans (hD k hk).1, (World.cell?_of_block (w := V) (a := ⟨b, k * 2 + 1, none⟩) hk').trans (hD k hk).2⟩
  case assign =>
    rintro l pre x V K ⟨hr, hc, hb⟩ hzV hK
    unfold spansV
    gi_wp2
    have hba := (Below.refl V.heap.size V).alloc (Nat.le_refl _) (.cells #[.int .i64 (nth6 x.2 0).lo, .int .i64 (nth6 x.2 0).hi, .int .i64 (nth6 x.2 1).lo, .int .i64 (nth6 x.2 1).hi, .int .i64 (nth6 x.2 2).lo, .int .i64 (nth6 x.2 2).hi, .int .i64 (nth6 x.2 3).lo, .int .i64 (nth6 x.2 3).hi, .int .i64 (nth6 x.2 4).lo, .int .i64 (nth6 x.2 4).hi, .int .i64 (nth6 x.2 5).lo, .int .i64 (nth6 x.2 5).hi] 135)
    refine hK _ _ ((Mid.refl _ _).alloc _) ⟨fun i hi => (hr i hi).below hba (by omega), (hba.cell (by simp only; omega)).trans hc, hb.trans (hba.mono (by omega))⟩ ⟨V.heap.size, fun k hk => ?_, hzV, rfl⟩
    have : k = 0 ∨ k = 1 ∨ k = 2 ∨ k = 3 ∨ k = 4 ∨ k = 5 := by omega
    rcases this with rfl | rfl | rfl | rfl | rfl | rfl <;> exact ⟨by simp [go_sem], by simp [go_sem]⟩
  case body =>
    rintro l pre x a' V hzV ⟨hr, hc, hb⟩ ⟨b, hD, hbb, rfl⟩ hpre
    have hln : (ls.length : Int) ≤ 6 := by omega
    gi_wp2_with fail
    gi_loopw [18] (fun iv wr => ∃ k : Nat, k ≤ ls.length ∧ iv = .int .i64 k ∧ (∀ i, i < ls.length → RBoxO wr (w.heap.size + 1) (i * 3) (if i < k then accR (pre ++ [x]) i else accR pre i)) ∧ But (w.heap.size + 1) V wr) (fun iv _ => ls.length - (intOf iv).toNat)
    case atStart => exact ⟨0, Nat.zero_le _, by simp, fun i hi => by rw [if_neg (by omega)]; exact hr i hi, But.refl _ _⟩
    case round =>
      obtain ⟨k, hk, rfl, hR, hBt⟩ := hrel
      by_cases hlt : k < ls.length
      · have hbV : b < V.heap.size := by
          refine Nat.lt_of_not_le fun hge => ?_
          have h1 := (hD 0 (by omega)).1
          simp [World.cell?, Array.getElem?_eq_none hge] at h1
        have hk6 : (k : Int) < 6 := by omega
        have v0 := (hBt.cell hbV (by omega) (k * 2)).trans (hD k (by omega)).1
        have v1 := (hBt.cell hbV (by omega) (k * 2 + 1)).trans (hD k (by omega)).2
        have hRk := hR k hlt
        rw [if_neg (Nat.lt_irrefl k)] at hRk
        have hbwr : b < wr.heap.size := Nat.lt_of_lt_of_le hbV hBt.size
        have hSS : ∀ X, But (w.heap.size + 1) wr X → (X.cell? ⟨b, k * 2, none⟩ = some (.int .i64 (nth6 x.2 k).lo) ∧ X.cell? ⟨b, k * 2 + 1, none⟩ = some (.int .i64 (nth6 x.2 k).hi)) ∧ But (w.heap.size + 1) wr X := fun X hx =>
          ⟨⟨(hx.cell hbwr (by omega) _).trans v0, (hx.cell hbwr (by omega) _).trans v1⟩, hx⟩
        gi_wp2_with fail
        refine wpIn_region_held_drew (S := (fun X => (X.cell? ⟨b, k * 2, none⟩ = some (.int .i64 (nth6 x.2 k).lo) ∧ X.cell? ⟨b, k * 2 + 1, none⟩ = some (.int .i64 (nth6 x.2 k).hi)) ∧ But (w.heap.size + 1) wr X)) (by kernel_rfl) ?_ (by kernel_rfl) ?_ (fun hHeld => ?_)
        · rintro ⟨_, _, h⟩; exact h
        · exact hSS _ (but_of_below' (Below.refl _ _).drew)
        refine wpAnyH_take (i := 0) (v := ?_) (by simp only [List.getElem?_toArray, List.getElem?_cons_succ, List.getElem?_cons_zero]; rfl) (by kernel_rfl) (by kernel_rfl) (by kernel_rfl) (by exact fun _ _ _ h => h) (Or.inl ⟨by rfl, ?_⟩) (by assumption) ?_; rotate_left 1; (focus (intro w hSw; (try dsimp only at hSw); go_simp; (try (with_reducible rfl)))); (try simp only [Act.put, List.setIfInBounds_toArray, List.set_cons_zero, List.set_cons_succ])
        refine wpAnyH_take (i := 1) (v := ?_) (by simp only [List.getElem?_toArray, List.getElem?_cons_succ, List.getElem?_cons_zero]; rfl) (by kernel_rfl) (by kernel_rfl) (by kernel_rfl) (by exact fun _ _ _ h => h) (Or.inl ⟨by rfl, ?_⟩) (by assumption) ?_; rotate_left 1; (focus (intro w hSw; (try dsimp only at hSw); go_simp; (try (with_reducible rfl)))); (try simp only [Act.put, List.setIfInBounds_toArray, List.set_cons_zero, List.set_cons_succ])
        refine wpAnyH_take (i := 2) (v := ?_) (by simp only [List.getElem?_toArray, List.getElem?_cons_succ, List.getElem?_cons_zero]; rfl) (by kernel_rfl) (by kernel_rfl) (by kernel_rfl) (by exact fun _ _ _ h => h) (Or.inl ⟨by rfl, ?_⟩) (by assumption) ?_; rotate_left 1; (focus (intro w hSw; (try dsimp only at hSw); go_simp; (try (with_reducible rfl)))); (try simp only [Act.put, List.setIfInBounds_toArray, List.set_cons_zero, List.set_cons_succ])
        refine wpAnyH_take (i := 3) (v := ?_) (by simp only [List.getElem?_toArray, List.getElem?_cons_succ, List.getElem?_cons_zero]; rfl) (by kernel_rfl) (by kernel_rfl) (by kernel_rfl) (by exact fun _ _ _ h => h) (Or.inl ⟨by rfl, ?_⟩) (by assumption) ?_; rotate_left 1; (focus (intro w hSw; (try dsimp only at hSw); go_simp; (try (with_reducible rfl)))); (try simp only [Act.put, List.setIfInBounds_toArray, List.set_cons_zero, List.set_cons_succ])
        refine wpAnyH_take (i := 4) (v := ?_) (by simp only [List.getElem?_toArray, List.getElem?_cons_succ, List.getElem?_cons_zero]; rfl) (by kernel_rfl) (by kernel_rfl) (by kernel_rfl) (by exact fun _ _ _ h => h) (Or.inl ⟨by rfl, ?_⟩) (by assumption) ?_; rotate_left 1; (focus (intro w hSw; (try dsimp only at hSw); go_simp; (try (with_reducible rfl)))); (try simp only [Act.put, List.setIfInBounds_toArray, List.set_cons_zero, List.set_cons_succ])
        refine wpAnyH_ready (rs := [5]) (by kernel_rfl) (by simp) ?_; refine AllReadyH.cons (by simp only [List.getElem?_toArray, List.getElem?_cons_succ, List.getElem?_cons_zero]; rfl) (fun K hK => ?_) AllReadyH.nil; go_simp
        have hRd : RBoxO wr.drew (w.heap.size + 1) (k * 3) (accR pre k) := hRk.below ((Below.refl wr.heap.size wr).drew) (hRk.lt)
        refine (add_at (w.heap.size + 1) (k * 3) (accR pre k) _ _ _ hRd).mono ?_
        rintro e w4 ⟨⟨v4, rfl⟩, hR4, hB4⟩
        (try go_wp2_with fail)
        have hB5 : But (w.heap.size + 1) wr w4 := (but_of_below' (Below.refl wr.heap.size wr).drew).trans hB4.but
        refine hK.out _ _ ?_ (fun hHeld => ?_); (focus exact hSS _ hB5); clear hK K; (try simp only [Act.put, List.setIfInBounds_toArray, List.set_cons_zero, List.set_cons_succ])
        refine wpAnyH_done (by kernel_rfl) ?_ _
        gi_wp2
        refine ⟨⟨k + 1, hlt, by go_num, fun i hi => ?_, hBt.trans hB5⟩, by simp [intOf]; omega⟩
        by_cases hik : i = k
        · subst hik
          rw [if_pos (by omega), accR_snoc]
          exact hR4
        · have h := ((hR i hi).below ((Below.refl wr.heap.size wr).drew) (hR i hi).lt).other hB4 hik
          by_cases hlt' : i < k
          · rw [if_pos (by omega)]; rw [if_pos hlt'] at h; exact h
          · rw [if_neg (by omega)]; rw [if_neg hlt'] at h; exact h
      · obtain rfl : k = ls.length := by omega
        gi_wp2
        refine ⟨hBt.mid (by omega), fun i hi => ?_, (hBt.cell (by omega) (by omega) 2).trans hc, hb.trans (hBt.below (by omega) (by omega))⟩
        have h := hR i hi
        rw [if_pos hi] at h
        exact h
  case done =>
    rintro D V hD ⟨hr, hc, hb⟩ hK
    have hln : (ls.length : Int) ≤ 6 := by omega
    obtain ⟨i0, hi0, hz0, hz1, hz2⟩ := info_parts info_span1
    have hDV : D < V.heap.size := (Array.getElem?_eq_some_iff.1 hK).1
    obtain ⟨w5, hrun, hown, hg5⟩ := run_makeSlice_full (P := Try.prog) (w := V) V.heap.size 42 27 i0 _ 2 Try.underlying42 hi0 hz0 hz1 .i64 .i64 ls.length (by omega) (by rw [hz2]; omega) (by unfold maxLen; omega) (Nat.le_refl _)
    have hb5 : Below V.heap.size V w5 := (Below.refl _ _).grown hg5 (Nat.le_refl _) (fun k e => by cases e)
    have hgz : V.heap.size < w5.heap.size := (hown.lt _ rfl).2
    have hW5 : ∀ k, k < ls.length * 2 → Wr w5 V.heap.size k := fun k hk => ⟨by rw [hown.cellAt k hk, List.getElem?_eq_getElem (by rw [hown.1]; exact hk)]; rfl, hown.frozenAt k⟩
    have hR5 : ∀ i, i < ls.length → RBoxO w5 (w.heap.size + 1) (i * 3) (accR (coursesL set fs (untilL ls) ls) i) := fun i hi => (hr i hi).below hb5 (by omega)
    have hK5 : w5.heap[D]? = some (.deferred (some [])) := (hb5.block D hDV).trans hK
    have hB5 : Below w.heap.size w w5 := hb.trans (hb5.mono (by omega))
    clear hown hg5
    gi_wp2_with fail
    gi_loopw [34] (fun iv wr => ∃ k : Nat, k ≤ ls.length ∧ iv = .int .i64 k ∧ (∀ j, j < ls.length * 2 → Wr wr V.heap.size j) ∧ (∀ i, i < k → wr.cell? ⟨V.heap.size, i * 2, none⟩ = some (.int .i64 (accR (coursesL set fs (untilL ls) ls) i).lo) ∧ wr.cell? ⟨V.heap.size, i * 2 + 1, none⟩ = some (.int .i64 (accR (coursesL set fs (untilL ls) ls) i).hi)) ∧ But V.heap.size w5 wr) (fun iv _ => ls.length - (intOf iv).toNat)
    case atStart => exact ⟨0, Nat.zero_le _, by simp, hW5, fun i hi => absurd hi (by omega), But.refl _ _⟩
    case round =>
      obtain ⟨k, hk, rfl, hw, hv, hBt⟩ := hrel
      by_cases hlt : k < ls.length
      · have hRk := hR5 k hlt
        have v0 := (hBt.cell (by omega) (by omega) (k * 3)).trans hRk.c0
        have v1 := (hBt.cell (by omega) (by omega) (k * 3 + 1)).trans hRk.c1
        have q0 := hw (k * 2) (by omega)
        have q1 := hw (k * 2 + 1) (by omega)
        have hk6 : (k : Int) < 6 := by omega
        obtain ⟨T, hT⟩ : ∃ T, T = accR (coursesL set fs (untilL ls) ls) k := ⟨_, rfl⟩
        rw [← hT] at v0 v1
        have HT := hid hT
        clear hT hRk
        gi_wp2
        have n : ∀ {o o' : Nat} {v : Value} {X : World}, o' ≠ o → (X.setCell ⟨V.heap.size, o, none⟩ v).cell? ⟨V.heap.size, o', none⟩ = X.cell? ⟨V.heap.size, o', none⟩ := fun hne => World.cell?_setCell_other _ _ _ _ (fun e => hne (congrArg Addr.off e).symm)
        refine ⟨⟨k + 1, hlt, by go_num, fun j hj => by rw [wr_set, wr_set]; exact hw j hj, fun i hi => ?_, (hBt.set _ _).set _ _⟩, by simp [intOf]; omega⟩
        by_cases hik : i = k
        · subst hik
          exact ⟨by rw [n (by omega), World.cell?_setCell_same' _ _ _ q0.1, HT.out], by rw [World.cell?_setCell_same' _ _ _ (by rw [n (by omega)]; exact q1.1), HT.out]⟩
        · have h := hv i (by omega)
          exact ⟨by rw [n (by omega), n (by omega)]; exact h.1, by rw [n (by omega), n (by omega)]; exact h.2⟩
      · obtain rfl : k = ls.length := by omega
        gi_wp2
        have hDn : V.heap.size ≠ D := by omega
        have sB : Below w.heap.size w wr := hB5.trans (hBt.below (by omega) (by have := hB5.size; omega))
        have sD : wr.heap[D]? = some (.deferred (some [])) := (hBt.block D (by omega) (by omega)).trans hK5
        refine ⟨by simp, .inl ⟨_, _, rfl, run_takeDeferred (ds := []) sD, ?_⟩⟩
        have uB : Below w.heap.size w (wr.putObj D (.deferred none)) := sB.trans ((Below.refl w.heap.size wr).grown (grownBy_putObj' wr D (.deferred none)) sB.size (fun k e => by cases e; omega))
        have uc : ∀ o, (wr.putObj D (.deferred none)).cell? ⟨V.heap.size, o, none⟩ = wr.cell? ⟨V.heap.size, o, none⟩ := fun o => World.cell?_of_block (w := wr) (World.putObj_heap_other hDn)
        refine ⟨.slice (some ⟨V.heap.size, 0, none⟩) ls.length ls.length, by simp [results, Try.results75, go_sem], ⟨_, _, rfl, by unfold maxLen; omega, fun _ => ⟨V.heap.size, 0, rfl, ?_, fun j u hu => ?_⟩⟩, uB⟩
        · have := hBt.size
          simp
          omega
        · rw [Nat.zero_add, uc]
          have hl : (timesL (coursesL set fs (untilL ls) ls) ls.length).length = ls.length := by simp [timesL]
          have hj : j < ls.length * 2 := by
            have := (List.getElem?_eq_some_iff.1 hu).1
            rw [spans_length, hl] at this; omega
          have hj2 : j / 2 < (timesL (coursesL set fs (untilL ls) ls) ls.length).length := by rw [hl]; omega
          have hel : (timesL (coursesL set fs (untilL ls) ls) ls.length)[j / 2] = (accR (coursesL set fs (untilL ls) ls) (j / 2)).sp := by simp [timesL]
          have ha := flat_at Sp.cells 2 (fun _ => rfl) (timesL (coursesL set fs (untilL ls) ls) ls.length) (j / 2) (j % 2) hj2 (by omega)
          rw [show j / 2 * 2 + j % 2 = j from by omega, hel] at ha
          have hu' : spans (timesL (coursesL set fs (untilL ls) ls) ls.length) = (timesL (coursesL set fs (untilL ls) ls) ls.length).flatMap Sp.cells := rfl
          rw [hu', ha] at hu
          have h := hv (j / 2) (by omega)
          have hm : j % 2 = 0 ∨ j % 2 = 1 := by omega
          rcases hm with hm | hm
          · rw [hm] at hu
            simp only [Sp.cells, Rc.sp, List.getElem?_cons_zero, Option.some.injEq] at hu
            subst hu
            rw [show j = j / 2 * 2 from by omega, show j / 2 * 2 / 2 = j / 2 from by omega]
            exact h.1
          · rw [hm] at hu
            simp only [Sp.cells, Rc.sp, List.getElem?_cons_zero, List.getElem?_cons_succ, Option.some.injEq] at hu
            subst hu
            have e : j = j / 2 * 2 + 1 := by omega
            rw [← h.2]
            congr 2

def pTimesR (c : Ck) (ls : List Ln) : List Sp × Int := if falseE c ls = 0 then (timesL (coursesL c.set c.frs (untilL ls) ls) ls.length, 0) else ([], falseE c ls)
theorem timesL_length (XS : List (List Sp × List Sp)) (n : Nat) : (timesL XS n).length = n := by simp [timesL]

set_option maxRecDepth 100000 in
set_option maxHeartbeats 4000000 in
theorem pTimes_any (set : Int) (A L : Option Addr) (cap lcap : Nat) (fs : List Fr) (ls : List Ln) (w : World) (hA : Arr w w.heap.size A (frosts fs)) (hL : Arr w w.heap.size L (lines ls)) (hl : ls.length ≤ 9223372036854775807) :
    Calls Try.prog 27 #[.agg #[.int .i64 set, .slice A fs.length cap], .slice L ls.length lcap] w fun e w' =>
      (∃ O ocap, e = .returned (.tuple #[.slice O (pTimesR ⟨set, fs⟩ ls).1.length ocap, .int .i64 (pTimesR ⟨set, fs⟩ ls).2]) ∧ ocap ≤ maxLen ∧ Arr w' w'.heap.size O (spans (pTimesR ⟨set, fs⟩ ls).1)) ∧ Below w.heap.size w w' := by
  have HR : Hid (pTimesR ⟨set, fs⟩ ls = if falseE ⟨set, fs⟩ ls = 0 then (timesL (coursesL set fs (untilL ls) ls) ls.length, 0) else ([], falseE ⟨set, fs⟩ ls)) := hid rfl
  by_cases he : falseE ⟨set, fs⟩ ls = 0
  · have H1 : Hid (pTimesR ⟨set, fs⟩ ls = (timesL (coursesL set fs (untilL ls) ls) ls.length, 0)) := hid (by rw [HR.out, if_pos he])
    obtain ⟨he', _⟩ := falseE_zero he
    obtain ⟨hok, hbk⟩ := askE_zero he'
    obtain ⟨hO, hs1, hs2⟩ := okFs_of hok
    obtain ⟨hl6, hlb⟩ := book_of hbk
    have HE := hid he
    clear HR hok he he' hbk
    go_enter Try.func27, Try.ntmps27
    go_wp2_with (first
      | (go_at_call 74; refine (refuseFalse_any set A L cap lcap fs ls _ ?_ ?_ hl).mono ?_; (focus (refine (hA.below ?_).more ?_; (repeat' (first | (with_reducible exact Below.refl _ _) | (with_reducible assumption) | (with_reducible refine Below.drew ?_) | (with_reducible refine below_drewN ?_ _) | (with_reducible refine Below.setCell ?_ ?_ _) | (with_reducible refine Below.alloc ?_ ?_ _) | go_size | (exact Below.size (by assumption)) | (refine Below.trans ?_ (Below.mono (by assumption) ?_)))))); (focus (refine (hL.below ?_).more ?_; (repeat' (first | (with_reducible exact Below.refl _ _) | (with_reducible assumption) | (with_reducible refine Below.drew ?_) | (with_reducible refine below_drewN ?_ _) | (with_reducible refine Below.setCell ?_ ?_ _) | (with_reducible refine Below.alloc ?_ ?_ _) | go_size | (exact Below.size (by assumption)) | (refine Below.trans ?_ (Below.mono (by assumption) ?_)))))); rw [HE.out]; rintro e w2 ⟨rfl, hb2⟩; (first | replace hb2 := Below.un1 hb2 | replace hb2 := Below.un2 hb2 | skip); obtain ⟨hc2, hf2, hl2, hm2, hw2⟩ := bcell hb2; have hz2 := hb2.size; (try simp only [World.size_alloc, World.size_setCell] at hz2))
      | (go_at_call 75; refine (times_any set A L cap lcap fs ls _ hO ⟨hs1, hs2⟩ hl6 hlb ?_ ?_).mono ?_; (focus (refine (hA.below ?_).more ?_; (repeat' (first | (with_reducible exact Below.refl _ _) | (with_reducible assumption) | (with_reducible refine Below.drew ?_) | (with_reducible refine below_drewN ?_ _) | (with_reducible refine Below.setCell ?_ ?_ _) | (with_reducible refine Below.alloc ?_ ?_ _) | go_size | (exact Below.size (by assumption)) | (refine Below.trans ?_ (Below.mono (by assumption) ?_)))))); (focus (refine (hL.below ?_).more ?_; (repeat' (first | (with_reducible exact Below.refl _ _) | (with_reducible assumption) | (with_reducible refine Below.drew ?_) | (with_reducible refine below_drewN ?_ _) | (with_reducible refine Below.setCell ?_ ?_ _) | (with_reducible refine Below.alloc ?_ ?_ _) | go_size | (exact Below.size (by assumption)) | (refine Below.trans ?_ (Below.mono (by assumption) ?_)))))); rintro e w4 ⟨⟨O, oc, rfl, hoc, hOA⟩, hb4⟩))
    go_ret2
    refine ⟨⟨O, oc, ?_, hoc, ?_⟩, by (repeat' (first | (with_reducible exact Below.refl _ _) | (with_reducible assumption) | (with_reducible refine Below.drew ?_) | (with_reducible refine below_drewN ?_ _) | (with_reducible refine Below.setCell ?_ ?_ _) | (with_reducible refine Below.alloc ?_ ?_ _) | go_size | (exact Below.size (by assumption)) | (refine Below.trans ?_ (Below.mono (by assumption) ?_))))⟩
    · rw [H1.out, timesL_length]; rfl
    · rw [H1.out]; exact hOA
  · have H1 : Hid (pTimesR ⟨set, fs⟩ ls = ([], falseE ⟨set, fs⟩ ls)) := hid (by rw [HR.out, if_neg he])
    have ht : (falseE ⟨set, fs⟩ ls != 0) = true := by rw [bne_iff_ne]; exact he
    clear HR he
    go_enter Try.func27, Try.ntmps27
    go_wp2_with (go_at_call 74; refine (refuseFalse_any set A L cap lcap fs ls _ ?_ ?_ hl).mono ?_; (focus (refine (hA.below ?_).more ?_; (repeat' (first | (with_reducible exact Below.refl _ _) | (with_reducible assumption) | (with_reducible refine Below.drew ?_) | (with_reducible refine below_drewN ?_ _) | (with_reducible refine Below.setCell ?_ ?_ _) | (with_reducible refine Below.alloc ?_ ?_ _) | go_size | (exact Below.size (by assumption)) | (refine Below.trans ?_ (Below.mono (by assumption) ?_)))))); (focus (refine (hL.below ?_).more ?_; (repeat' (first | (with_reducible exact Below.refl _ _) | (with_reducible assumption) | (with_reducible refine Below.drew ?_) | (with_reducible refine below_drewN ?_ _) | (with_reducible refine Below.setCell ?_ ?_ _) | (with_reducible refine Below.alloc ?_ ?_ _) | go_size | (exact Below.size (by assumption)) | (refine Below.trans ?_ (Below.mono (by assumption) ?_)))))); rintro e w2 ⟨rfl, hb2⟩; (first | replace hb2 := Below.un1 hb2 | replace hb2 := Below.un2 hb2 | skip); obtain ⟨hc2, hf2, hl2, hm2, hw2⟩ := bcell hb2; have hz2 := hb2.size; (try simp only [World.size_alloc, World.size_setCell] at hz2))
    go_ret2
    refine ⟨⟨none, 0, ?_, by unfold maxLen; omega, ?_⟩, by (repeat' (first | (with_reducible exact Below.refl _ _) | (with_reducible assumption) | (with_reducible refine Below.drew ?_) | (with_reducible refine below_drewN ?_ _) | (with_reducible refine Below.setCell ?_ ?_ _) | (with_reducible refine Below.alloc ?_ ?_ _) | go_size | (exact Below.size (by assumption)) | (refine Below.trans ?_ (Below.mono (by assumption) ?_))))⟩
    · rw [H1.out]; rfl
    · rw [H1.out]; exact Arr.nil _ _ _
end Go.Proofs.Ytnkbcapikenbbaa
