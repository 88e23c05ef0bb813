/- fewest: the first one of the shortest lists that will do. -/
import Derived.Test.YtnkbcapikenbbaaP14
import Derived.Deep.RegionLawGrows
namespace Go.Proofs.Ytnkbcapikenbbaa
set_option linter.unusedSimpArgs false
set_option linter.unusedVariables false
open Go.RowKit Go.Shelf
attribute [local go_sem] Oper.semAt_some
attribute [local go_sem] run_store_func
attribute [local go_sem high] cell_set_wr
attribute [local go_sem low] cell_wr frozen_wr
attribute [local go_sem] wr_set wr_drew wr_drewN wr_alloc wr_new

theorem Arr.but {w w' : World} {B rb : Nat} {A : Option Addr} {xs : List Value} (h : Arr w B A xs) (hb : But rb w w') (hB : B ≤ w.heap.size) (hr : ∀ b o, A = some ⟨b, o, none⟩ → b ≠ rb) : Arr w' B A xs := fun hx => by
  obtain ⟨b, o, rfl, hlt, hc⟩ := h hx
  exact ⟨b, o, rfl, hlt, fun j u hu => (hb.cell (by omega) (hr b o rfl) _).trans (hc j u hu)⟩

/-- what the calls of add read: the closure's variables, and the notebook's memory -/
structure WFix (V : World) (fb wb cb ab B n : Nat) (set : Int) (A : Option Addr) (fn cap : Nat) (L : Option Addr) (ln lcap : Nat) (fs : List Fr) (ls : List Ln) : Prop where
  w : V.cell? ⟨wb, 0, none⟩ = some (.func (.func 71) #[noteV set A fn cap L ln lcap] #[])
  n : V.cell? ⟨cb, 0, none⟩ = some (.int .i64 n)
  a : V.cell? ⟨ab, 0, none⟩ = some (.func (.func 97) #[] #[.pointer (some ⟨fb, 0, none⟩), .pointer (some ⟨wb, 0, none⟩), .pointer (some ⟨cb, 0, none⟩), .pointer (some ⟨ab, 0, none⟩)])
  f : Wr V fb 0
  ne : fb ≠ wb ∧ fb ≠ cb ∧ fb ≠ ab ∧ B ≤ fb ∧ wb < V.heap.size ∧ cb < V.heap.size ∧ ab < V.heap.size ∧ fb < V.heap.size
  A : Arr V B A (frosts fs)
  L : Arr V B L (lines ls)
theorem WFix.but {V V' : World} {fb wb cb ab B n : Nat} {set : Int} {A : Option Addr} {fn cap : Nat} {L : Option Addr} {ln lcap : Nat} {fs : List Fr} {ls : List Ln} (h : WFix V fb wb cb ab B n set A fn cap L ln lcap fs ls) (hb : But fb V V') (hw : Wr V' fb 0) :
    WFix V' fb wb cb ab B n set A fn cap L ln lcap fs ls := by
  obtain ⟨h1, h2, h3, h4, h5, h6, h7⟩ := h
  have hs := hb.size
  have hbe := hb.below (B := B) (by omega) (by omega)
  exact ⟨(hb.cell (by omega) (by omega) 0).trans h1, (hb.cell (by omega) (by omega) 0).trans h2, (hb.cell (by omega) (by omega) 0).trans h3, hw, by omega, h6.below hbe, h7.below hbe⟩
/-- the list that a call is given: nil, or one in a block of its own -/
def LForm (V : World) (fb : Nat) (O : Option Addr) (ocap : Nat) (l : List Int) : Prop :=
  (O = none ∧ l = [] ∧ ocap = 0) ∨ (∃ g, O = some ⟨g, 0, none⟩ ∧ g ≠ fb ∧ g < V.heap.size ∧ l.length ≤ ocap ∧ ocap ≤ maxLen ∧ ∀ j u, (ints l)[j]? = some u → V.cell? ⟨g, j, none⟩ = some u)
theorem LForm.but {V V' : World} {fb : Nat} {O : Option Addr} {ocap : Nat} {l : List Int} (h : LForm V fb O ocap l) (hb : But fb V V') : LForm V' fb O ocap l := by
  rcases h with h | ⟨g, rfl, h1, h2, h3, h4, h5⟩
  · exact .inl h
  · exact .inr ⟨g, rfl, h1, Nat.lt_of_lt_of_le h2 hb.size, h3, h4, fun j u hu => (hb.cell h2 h1 j).trans (h5 j u hu)⟩
theorem LForm.arr {V : World} {fb : Nat} {O : Option Addr} {ocap : Nat} {l : List Int} (h : LForm V fb O ocap l) : Arr V V.heap.size O (ints l) := by
  rcases h with ⟨rfl, rfl, _⟩ | ⟨g, rfl, h1, h2, h3, h4, h5⟩
  · exact Arr.nil _ _ _
  · exact fun _ => ⟨g, 0, rfl, h2, fun j u hu => by rw [Nat.zero_add]; exact h5 j u hu⟩
theorem add_zero' (g j : Nat) : Addr.add ⟨g, 0, none⟩ j = ⟨g, j, none⟩ := by unfold Addr.add; split <;> simp_all
theorem own_form2 {w : World} {base : Nat} {e : TypeId} {v : Value} {n : Nat} {xs : List Value} (h : w.ownsRow base e 1 v n xs) (hn0 : 0 < n) :
    ∃ g cap, v = .slice (some ⟨g, 0, none⟩) n cap ∧ base ≤ g ∧ g < w.heap.size ∧ n ≤ cap ∧ cap ≤ maxLen ∧ ∀ j u, xs[j]? = some u → w.cell? ⟨g, j, none⟩ = some u := by
  obtain ⟨hl, h | ⟨g, cap, cur, hv, hg, hh, hn, hm, hc, ht⟩⟩ := h
  · omega
  · refine ⟨g, cap, hv, hg, (Array.getElem?_eq_some_iff.1 hh).1, hn, hm, fun j u hu => ?_⟩
    simp only [World.cell?, hh]
    rw [← ht] at hu
    have hj : j < n * 1 := by
      have := (List.getElem?_eq_some_iff.1 hu).1
      simp only [List.length_take] at this; omega
    rw [List.getElem?_take_of_lt hj] at hu
    simpa using hu
def orElse' {α : Type} (a b : Option α) : Option α := match a with
  | some x => some x
  | none => b
theorem firstOf_orElse {α : Type} (g : Nat → Option α) (i n : Nat) : firstOf g i (n + 1) = orElse' (g i) (firstOf g (i + 1) n) := by
  rw [firstOf]; unfold orElse'; cases g i <;> rfl
/-- what a call of add leaves -/
def AddRet (V : World) (fb : Nat) (r : Option (List Int)) (e : Ending) (V' : World) : Prop :=
  e = .returned (.bool r.isSome) ∧ (∀ l, r = some l → ∃ O ocap, V'.cell? ⟨fb, 0, none⟩ = some (.slice O l.length ocap) ∧ LForm V' fb O ocap l) ∧ Wr V' fb 0 ∧ But fb V V'
theorem But.of_below {rb : Nat} {w w' : World} (h : Below w.heap.size w w') : But rb w w' := ⟨h.os, h.tape, h.output, h.size, fun k hk _ => h.block k hk⟩

set_option maxRecDepth 100000 in
set_option maxHeartbeats 4000000 in
theorem add_calls (fb wb cb ab B n : Nat) (set : Int) (A L : Option Addr) (cap lcap : Nat) (fs : List Fr) (ls : List Ln) (hO : OkFs fs) (hs : 0 ≤ set ∧ set ≤ 4319) (hl6 : ls.length ≤ 6) (hb : ∀ l ∈ ls, lineB l = true) (hn : n ≤ 62) :
    ∀ (more : Nat) (l : List Int) (start : Nat) (O : Option Addr) (ocap : Nat) (V : World), l.length + more ≤ 100 → start ≤ 100 → LForm V fb O ocap l → WFix V fb wb cb ab B n set A fs.length cap L ls.length lcap fs ls →
      Calls Try.prog 97 #[.slice O l.length ocap, .int .i64 start, .int .i64 more, .pointer (some ⟨fb, 0, none⟩), .pointer (some ⟨wb, 0, none⟩), .pointer (some ⟨cb, 0, none⟩), .pointer (some ⟨ab, 0, none⟩)] V
        (AddRet V fb (pickL n (rightD set fs ls) more l start)) := by
  intro more
  induction more with
  | zero =>
    intro l start O ocap V hlm hst hF hW
    obtain ⟨h1, h2, h3, h4, h5, h6, h7⟩ := hW
    unfold noteV at h1
    have HP : Hid (pickL n (rightD set fs ls) 0 l start = if rightD set fs ls l then some l else none) := hid rfl
    have hz := h4.lt
    have hbs : But fb V (V.setCell ⟨fb, 0, none⟩ (.slice O l.length ocap)) := (But.refl fb V).set 0 _
    have hws : Wr (V.setCell ⟨fb, 0, none⟩ (.slice O l.length ocap)) fb 0 := by rw [wr_set]; exact h4
    have hfs : (V.setCell ⟨fb, 0, none⟩ (.slice O l.length ocap)).cell? ⟨fb, 0, none⟩ = some (.slice O l.length ocap) := cell_set_wr h4
    have hFs := hF.but hbs
    have hcs : (V.setCell ⟨fb, 0, none⟩ (.slice O l.length ocap)).cell? ⟨wb, 0, none⟩ = some (.func (.func 71) #[.agg #[.int .i64 set, .slice A fs.length cap, .slice L ls.length lcap]] #[]) := (hbs.cell (by omega) (by omega) 0).trans h1
    have hAs := (h6.below (hbs.below (B := B) (by omega) (by omega))).more (show B ≤ (V.setCell ⟨fb, 0, none⟩ (.slice O l.length ocap)).heap.size by simp; omega)
    have hLs := (h7.below (hbs.below (B := B) (by omega) (by omega))).more (show B ≤ (V.setCell ⟨fb, 0, none⟩ (.slice O l.length ocap)).heap.size by simp; omega)
    go_enter Try.func97, Try.ntmps97
    go_wp2_with fail
    generalize V.setCell ⟨fb, 0, none⟩ (.slice O l.length ocap) = V1 at *
    refine (rightWithout_any set A L O cap lcap ocap fs ls l _ hO hs hl6 hb hAs hLs hFs.arr (by omega)).mono ?_
    rintro e w1 ⟨rfl, hb1⟩
    go_wp2
    go_ret
    refine ⟨ret_bool ?_, fun r hr => ?_, wr_below hws hb1 hws.lt, hbs.and hb1⟩
    · rw [HP.out]; cases rightD set fs ls l <;> rfl
    · rw [HP.out] at hr
      have hrl : l = r := by
        cases hp : rightD set fs ls l
        · rw [hp] at hr; cases hr
        · rw [hp] at hr; simpa using hr
      subst hrl
      exact ⟨O, ocap, (hb1.cell hws.lt).trans hfs, hFs.but (But.of_below hb1)⟩
  | succ more ih =>
    intro l start O ocap V hlm hst hF hW
    have HP : Hid (pickL n (rightD set fs ls) (more + 1) l start = firstOf (fun i => pickL n (rightD set fs ls) more (l ++ [(i : Int)]) (i + 1)) start (n - start)) := hid rfl
    have hm1 : (((more : Int) + 1) == 0) = false := by rw [beq_eq_false_iff_ne]; omega
    have hz := hW.ne
    have hcast : ((more + 1 : Nat) : Int) = (more : Int) + 1 := by omega
    rw [hcast]
    clear hcast
    rcases hF with ⟨rfl, rfl, rfl⟩ | ⟨g, rfl, hg1, hg2, hg3, hg4, hg5⟩
    · rw [List.length_nil]
      go_enter Try.func97, Try.ntmps97
      go_wp2_with fail
      go_loopw [11] (fun iv wr => ∃ i : Nat, start ≤ i ∧ i ≤ 100 ∧ iv = .int .i64 i ∧ Hid (pickL n (rightD set fs ls) (more + 1) ([] : List Int) start = firstOf (fun i => pickL n (rightD set fs ls) more (([] : List Int) ++ [(i : Int)]) (i + 1)) i (n - i)) ∧ Wr wr fb 0 ∧ But fb V wr) (fun iv _ => n - (intOf iv).toNat)
      case atStart => exact ⟨start, Nat.le_refl _, hst, by simp, HP, hW.f, But.refl _ _⟩
      case round =>
        obtain ⟨i, hi0, hi1, rfl, HK, hwf, hbt⟩ := hrel
        have hWr := hW.but hbt hwf
        clear HP
        by_cases hlt : i < n
        · have HK2 := hid (show n - i = (n - (i + 1)) + 1 by omega)
          have hmi : more + 1 ≤ 100 := by omega
          have hiw : IntKind.i64.wrap ((i : Int) + 1) = (i : Int) + 1 := IntWalk.i64_in _ (by omega)
          have hmw : IntKind.i64.wrap (((more + 1 : Nat) : Int) - 1) = (more : Int) := by rw [IntWalk.i64_in _ (by omega)]; omega
          have hmw3 : IntKind.i64.wrap (more : Int) = (more : Int) := IntWalk.i64_in _ (by omega)
          have hmw2 : IntKind.i64.wrap ((more : Int) + 1 - 1) = (more : Int) := by rw [IntWalk.i64_in _ (by omega)]; omega
          obtain ⟨i0, hi0', hz0, hz1, hz2⟩ := info_parts info_int
          have hWr0 := hWr
          obtain ⟨h1, h2, h3, h4, h5, h6, h7⟩ := hWr
          have hSS : ∀ V, But fb wr V → V.cell? ⟨ab, 0, none⟩ = some (.func (.func 97) #[] #[.pointer (some ⟨fb, 0, none⟩), .pointer (some ⟨wb, 0, none⟩), .pointer (some ⟨cb, 0, none⟩), .pointer (some ⟨ab, 0, none⟩)]) ∧ But fb wr V := fun V hb => ⟨(hb.cell (by omega) (by omega) 0).trans h3, hb⟩
          have hba : Below wr.heap.size wr (wr.alloc (.cells #[.int .i64 i] 3)).drew := ((Below.refl _ _).alloc (Nat.le_refl _) _).drew
          go_wp2_with fail
          refine wp_region_held_drew (S := (fun w' => w'.cell? ⟨ab, 0, none⟩ = some (.func (.func 97) #[] #[.pointer (some ⟨fb, 0, none⟩), .pointer (some ⟨wb, 0, none⟩), .pointer (some ⟨cb, 0, none⟩), .pointer (some ⟨ab, 0, none⟩)]) ∧ But fb wr w')) (by kernel_rfl) ?_ (fun hHeld => ?_)
          · exact hSS _ (But.of_below ((Below.refl _ _).drew))
          refine wpAnyH_take (i := 0) (v := ?_) (by simp only [List.getElem?_toArray, List.getElem?_cons_succ, List.getElem?_cons_zero]; rfl) (by kernel_rfl) (by kernel_rfl) (by kernel_rfl) (by exact fun _ _ _ h => h) (Or.inl ⟨by rfl, ?_⟩) (by assumption) ?_; rotate_left 1; (focus (intro w hSw; (try dsimp only at hSw); go_simp; (try (with_reducible rfl)))); (try simp only [Act.put, List.setIfInBounds_toArray, List.set_cons_zero, List.set_cons_succ])
          refine wpAnyH_take (i := 1) (v := ?_) (by simp only [List.getElem?_toArray, List.getElem?_cons_succ, List.getElem?_cons_zero]; rfl) (by kernel_rfl) (by kernel_rfl) (by kernel_rfl) (by exact fun _ _ _ h => h) (Or.inl ⟨by rfl, ?_⟩) (by assumption) ?_; rotate_left 1; (focus (intro w hSw; (try dsimp only at hSw); go_simp; (try (with_reducible rfl)))); (try simp only [Act.put, List.setIfInBounds_toArray, List.set_cons_zero, List.set_cons_succ])
          refine wpAnyH_take (i := 2) (v := ?_) (by simp only [List.getElem?_toArray, List.getElem?_cons_succ, List.getElem?_cons_zero]; rfl) (by kernel_rfl) (by kernel_rfl) (by kernel_rfl) (by exact fun _ _ _ h => h) (Or.inl ⟨by rfl, ?_⟩) (by assumption) ?_; rotate_left 1; (focus (intro w hSw; (try dsimp only at hSw); go_simp; (try (with_reducible rfl)))); (try simp only [Act.put, List.setIfInBounds_toArray, List.set_cons_zero, List.set_cons_succ])
          refine wpAnyH_take (i := 3) (v := ?_) (by simp only [List.getElem?_toArray, List.getElem?_cons_succ, List.getElem?_cons_zero]; rfl) (by kernel_rfl) (by kernel_rfl) (by kernel_rfl) (by exact fun _ _ _ h => h) (Or.inl ⟨by rfl, ?_⟩) (by assumption) ?_; rotate_left 1; (focus (intro w hSw; (try dsimp only at hSw); go_simp; (try (with_reducible rfl)))); (try simp only [Act.put, List.setIfInBounds_toArray, List.set_cons_zero, List.set_cons_succ])
          refine wpAnyH_take (i := 4) (v := ?_) (by simp only [List.getElem?_toArray, List.getElem?_cons_succ, List.getElem?_cons_zero]; rfl) (by kernel_rfl) (by kernel_rfl) (by kernel_rfl) (by exact fun _ _ _ h => h) (Or.inl ⟨by rfl, ?_⟩) (by assumption) ?_; rotate_left 1; (focus (intro w hSw; (try dsimp only at hSw); go_simp; (try (with_reducible rfl)))); (try simp only [Act.put, List.setIfInBounds_toArray, List.set_cons_zero, List.set_cons_succ])
          refine wpAnyH_take (i := 5) (v := ?_) (by simp only [List.getElem?_toArray, List.getElem?_cons_succ, List.getElem?_cons_zero]; rfl) (by kernel_rfl) (by kernel_rfl) (by kernel_rfl) (by exact fun _ _ _ h => h) (Or.inl ⟨by rfl, ?_⟩) (by assumption) ?_; rotate_left 1; (focus (intro w hSw; (try dsimp only at hSw); go_simp; (try (with_reducible rfl)))); (try simp only [Act.put, List.setIfInBounds_toArray, List.set_cons_zero, List.set_cons_succ])
          refine wpAnyH_take (i := 6) (v := ?_) (by simp only [List.getElem?_toArray, List.getElem?_cons_succ, List.getElem?_cons_zero]; rfl) (by kernel_rfl) (by kernel_rfl) (by kernel_rfl) (by exact fun _ _ _ h => h) (Or.inl ⟨by rfl, ?_⟩) (by assumption) ?_; rotate_left 1; (focus (intro w hSw; (try dsimp only at hSw); go_simp; (try (with_reducible rfl)))); (try simp only [Act.put, List.setIfInBounds_toArray, List.set_cons_zero, List.set_cons_succ])
          refine wpAnyH_take (i := 7) (v := ?_) (by simp only [List.getElem?_toArray, List.getElem?_cons_succ, List.getElem?_cons_zero]; rfl) (by kernel_rfl) (by kernel_rfl) (by kernel_rfl) (by exact fun _ _ _ h => h) (Or.inl ⟨by rfl, ?_⟩) (by assumption) ?_; rotate_left 1; (focus (intro w hSw; (try dsimp only at hSw); go_simp; (try (with_reducible rfl)))); (try simp only [Act.put, List.setIfInBounds_toArray, List.set_cons_zero, List.set_cons_succ])
          refine wpAnyH_take (i := 10) (v := ?_) (by simp only [List.getElem?_toArray, List.getElem?_cons_succ, List.getElem?_cons_zero]; rfl) (by kernel_rfl) (by kernel_rfl) (by kernel_rfl) (by exact fun _ _ _ h => h) (Or.inl ⟨by rfl, ?_⟩) (by assumption) ?_; rotate_left 1; (focus (intro w hSw; (try dsimp only at hSw); go_simp; (try (with_reducible rfl)))); (try simp only [Act.put, List.setIfInBounds_toArray, List.set_cons_zero, List.set_cons_succ])
          refine wpAnyH_take (i := 11) (v := ?_) (by simp only [List.getElem?_toArray, List.getElem?_cons_succ, List.getElem?_cons_zero]; rfl) (by kernel_rfl) (by kernel_rfl) (by kernel_rfl) (by exact fun _ _ _ h => h) (Or.inl ⟨by rfl, ?_⟩) (by assumption) ?_; rotate_left 1; (focus (intro w hSw; (try dsimp only at hSw); go_simp; (try (with_reducible rfl)))); (try simp only [Act.put, List.setIfInBounds_toArray, List.set_cons_zero, List.set_cons_succ])
          refine wpAnyH_take (i := 12) (v := ?_) (by simp only [List.getElem?_toArray, List.getElem?_cons_succ, List.getElem?_cons_zero]; rfl) (by kernel_rfl) (by kernel_rfl) (by kernel_rfl) (by exact fun _ _ _ h => h) (Or.inl ⟨by rfl, ?_⟩) (by assumption) ?_; rotate_left 1; (focus (intro w hSw; (try dsimp only at hSw); go_simp; (try (with_reducible rfl)))); (try simp only [Act.put, List.setIfInBounds_toArray, List.set_cons_zero, List.set_cons_succ])
          refine wpAnyH_take (i := 13) (v := ?_) (by simp only [List.getElem?_toArray, List.getElem?_cons_succ, List.getElem?_cons_zero]; rfl) (by kernel_rfl) (by kernel_rfl) (by kernel_rfl) (by exact fun _ _ _ h => h) (Or.inl ⟨by rfl, ?_⟩) (by assumption) ?_; rotate_left 1; (focus (intro w hSw; (try dsimp only at hSw); go_simp; (try (with_reducible rfl)))); (try simp only [Act.put, List.setIfInBounds_toArray, List.set_cons_zero, List.set_cons_succ])
          refine wpAnyH_ready (rs := [8]) (by kernel_rfl) (by simp) ?_; refine AllReadyH.cons (by simp only [List.getElem?_toArray, List.getElem?_cons_succ, List.getElem?_cons_zero]; rfl) (fun K hK => ?_) AllReadyH.nil; go_simp
          refine hK.out _ _ ?_ (fun hHeld => ?_); (focus exact hSS _ (But.of_below hba)); clear hK K; (try simp only [Act.put, List.setIfInBounds_toArray, List.set_cons_zero, List.set_cons_succ])
          refine wpAnyH_ready (rs := [9]) (by kernel_rfl) (by simp) ?_; refine AllReadyH.cons (by simp only [List.getElem?_toArray, List.getElem?_cons_succ, List.getElem?_cons_zero]; rfl) (fun K hK => ?_) AllReadyH.nil
          refine step_append_grows rfl (.tmp 30) (.tmp 32) 47 rfl 3 i0 _ 1 8 Try.underlying47 hi0' hz0 hz1 hz2 rfl (by decide) none 0 0 [] rfl (fun _ => ⟨rfl, rfl⟩) rfl (fun b e => by cases e) ⟨wr.heap.size, 0, none⟩ 1 1 [.int .i64 i] rfl rfl ?_ (by simp [Value.oneCell']) (by omega) (by unfold maxLen; omega) (by omega) ?_
          · intro j u hu
            rw [add_zero']
            have hj : j = 0 := by rcases j with _ | j; rfl; simp at hu
            subst hj
            simp at hu
            subst hu
            simp [go_sem]
          intro v' w' hown hgr
          obtain ⟨g', cap', rfl, hg1', hg2', hg3', hg4', hg5'⟩ := own_form2 hown (by omega)
          have hbw : Below (wr.alloc (.cells #[.int .i64 i] 3)).drew.heap.size (wr.alloc (.cells #[.int .i64 i] 3)).drew w' := (Below.refl _ _).grown hgr (Nat.le_refl _) (fun k e => by cases e)
          have hbr : But fb wr w' := (But.of_below hba).and hbw
          have hgz : (wr.alloc (.cells #[.int .i64 i] 3)).drew.heap.size = wr.heap.size + 1 := (by simp)
          have hgb : wr.heap.size < g' := (by omega)
          have hF' : LForm w' fb (some ⟨g', 0, none⟩) cap' (([] : List Int) ++ [(i : Int)]) := .inr ⟨g', rfl, by omega, hg2', by simpa using hg3', hg4', fun j u hu => hg5' j u (by simpa [ints] using hu)⟩
          have ihc := ih (([] : List Int) ++ [(i : Int)]) (i + 1) (some ⟨g', 0, none⟩) cap' w' (by simp at hlm ⊢; omega) (by omega) hF' (hWr0.but hbr (wr_below (by rw [wr_drew, ]; exact wr_alloc _ hwf) hbw (by simp; omega)))
          simp only [List.length_append, List.length_cons, List.length_nil, Nat.zero_add, Int.natCast_add, Int.natCast_one] at ihc
          refine hK.out _ _ ?_ (fun hHeld => ?_); (focus exact hSS _ hbr); clear hK K; (try simp only [Act.put, List.setIfInBounds_toArray, List.set_cons_zero, List.set_cons_succ])
          refine wpAnyH_ready (rs := [14]) (by kernel_rfl) (by simp) ?_; refine AllReadyH.cons (by simp only [List.getElem?_toArray, List.getElem?_cons_succ, List.getElem?_cons_zero]; rfl) (fun K hK => ?_) AllReadyH.nil; go_simp
          obtain ⟨r, hr⟩ : ∃ r, r = pickL n (rightD set fs ls) more (([] : List Int) ++ [(i : Int)]) (i + 1) := ⟨_, rfl⟩
          rw [← hr] at ihc
          have HN : Hid (pickL n (rightD set fs ls) (more + 1) ([] : List Int) start = orElse' r (firstOf (fun i => pickL n (rightD set fs ls) more (([] : List Int) ++ [(i : Int)]) (i + 1)) (i + 1) (n - (i + 1)))) := hid (by
            rw [HK.out, HK2.out, firstOf_orElse, ← hr])
          clear hr
          refine ihc.mono ?_
          rintro e w2 ⟨rfl, hret, hwf2, hbt2⟩
          (try go_wp2_with fail)
          refine hK.out _ _ ?_ (fun hHeld => ?_); (focus exact hSS _ (hbr.trans hbt2)); clear hK K; (try simp only [Act.put, List.setIfInBounds_toArray, List.set_cons_zero, List.set_cons_succ])
          refine wpAnyH_done (by kernel_rfl) ?_ _
          cases r with
          | some a =>
            go_wp2
            go_ret
            exact ⟨ret_bool (by rw [HN.out]; rfl), fun r hr => hret r (by rw [HN.out] at hr; exact hr), hwf2, (hbt.trans hbr).trans hbt2⟩
          | none =>
            go_wp2
            exact ⟨⟨i + 1, by omega, by omega, by go_num, HN, hwf2, (hbt.trans hbr).trans hbt2⟩, by simp [intOf]; omega⟩
        · have HE : Hid (pickL n (rightD set fs ls) (more + 1) ([] : List Int) start = none) := hid (by rw [HK.out, show n - i = 0 from by omega]; rfl)
          obtain ⟨h1, h2, h3, h4, h5, h6, h7⟩ := hWr
          go_wp2
          go_ret
          exact ⟨ret_bool (by rw [HE.out]; rfl), fun r hr => (by rw [HE.out] at hr; cases hr), hwf, hbt⟩
    · go_enter Try.func97, Try.ntmps97
      go_wp2_with fail
      go_loopw [11] (fun iv wr => ∃ i : Nat, start ≤ i ∧ i ≤ 100 ∧ iv = .int .i64 i ∧ Hid (pickL n (rightD set fs ls) (more + 1) l start = firstOf (fun i => pickL n (rightD set fs ls) more (l ++ [(i : Int)]) (i + 1)) i (n - i)) ∧ Wr wr fb 0 ∧ But fb V wr) (fun iv _ => n - (intOf iv).toNat)
      case atStart => exact ⟨start, Nat.le_refl _, hst, by simp, HP, hW.f, But.refl _ _⟩
      case round =>
        obtain ⟨i, hi0, hi1, rfl, HK, hwf, hbt⟩ := hrel
        have hWr := hW.but hbt hwf
        clear HP
        have hg5r : ∀ j u, (ints l)[j]? = some u → wr.cell? ⟨g, j, none⟩ = some u := fun j u hu => (hbt.cell hg2 hg1 j).trans (hg5 j u hu)
        have hg2r : g < wr.heap.size := Nat.lt_of_lt_of_le hg2 hbt.size
        by_cases hlt : i < n
        · have HK2 := hid (show n - i = (n - (i + 1)) + 1 by omega)
          have hmi : more + 1 ≤ 100 := by omega
          have hiw : IntKind.i64.wrap ((i : Int) + 1) = (i : Int) + 1 := IntWalk.i64_in _ (by omega)
          have hmw : IntKind.i64.wrap (((more + 1 : Nat) : Int) - 1) = (more : Int) := by rw [IntWalk.i64_in _ (by omega)]; omega
          have hmw3 : IntKind.i64.wrap (more : Int) = (more : Int) := IntWalk.i64_in _ (by omega)
          have hmw2 : IntKind.i64.wrap ((more : Int) + 1 - 1) = (more : Int) := by rw [IntWalk.i64_in _ (by omega)]; omega
          obtain ⟨i0, hi0', hz0, hz1, hz2⟩ := info_parts info_int
          have hWr0 := hWr
          obtain ⟨h1, h2, h3, h4, h5, h6, h7⟩ := hWr
          have hSS : ∀ V, But fb wr V → V.cell? ⟨ab, 0, none⟩ = some (.func (.func 97) #[] #[.pointer (some ⟨fb, 0, none⟩), .pointer (some ⟨wb, 0, none⟩), .pointer (some ⟨cb, 0, none⟩), .pointer (some ⟨ab, 0, none⟩)]) ∧ But fb wr V := fun V hb => ⟨(hb.cell (by omega) (by omega) 0).trans h3, hb⟩
          have hba : Below wr.heap.size wr (wr.alloc (.cells #[.int .i64 i] 3)).drew := ((Below.refl _ _).alloc (Nat.le_refl _) _).drew
          go_wp2_with fail
          refine wp_region_held_drew (S := (fun w' => w'.cell? ⟨ab, 0, none⟩ = some (.func (.func 97) #[] #[.pointer (some ⟨fb, 0, none⟩), .pointer (some ⟨wb, 0, none⟩), .pointer (some ⟨cb, 0, none⟩), .pointer (some ⟨ab, 0, none⟩)]) ∧ But fb wr w')) (by kernel_rfl) ?_ (fun hHeld => ?_)
          · exact hSS _ (But.of_below ((Below.refl _ _).drew))
          refine wpAnyH_take (i := 0) (v := ?_) (by simp only [List.getElem?_toArray, List.getElem?_cons_succ, List.getElem?_cons_zero]; rfl) (by kernel_rfl) (by kernel_rfl) (by kernel_rfl) (by exact fun _ _ _ h => h) (Or.inl ⟨by rfl, ?_⟩) (by assumption) ?_; rotate_left 1; (focus (intro w hSw; (try dsimp only at hSw); go_simp; (try (with_reducible rfl)))); (try simp only [Act.put, List.setIfInBounds_toArray, List.set_cons_zero, List.set_cons_succ])
          refine wpAnyH_take (i := 1) (v := ?_) (by simp only [List.getElem?_toArray, List.getElem?_cons_succ, List.getElem?_cons_zero]; rfl) (by kernel_rfl) (by kernel_rfl) (by kernel_rfl) (by exact fun _ _ _ h => h) (Or.inl ⟨by rfl, ?_⟩) (by assumption) ?_; rotate_left 1; (focus (intro w hSw; (try dsimp only at hSw); go_simp; (try (with_reducible rfl)))); (try simp only [Act.put, List.setIfInBounds_toArray, List.set_cons_zero, List.set_cons_succ])
          refine wpAnyH_take (i := 2) (v := ?_) (by simp only [List.getElem?_toArray, List.getElem?_cons_succ, List.getElem?_cons_zero]; rfl) (by kernel_rfl) (by kernel_rfl) (by kernel_rfl) (by exact fun _ _ _ h => h) (Or.inl ⟨by rfl, ?_⟩) (by assumption) ?_; rotate_left 1; (focus (intro w hSw; (try dsimp only at hSw); go_simp; (try (with_reducible rfl)))); (try simp only [Act.put, List.setIfInBounds_toArray, List.set_cons_zero, List.set_cons_succ])
          refine wpAnyH_take (i := 3) (v := ?_) (by simp only [List.getElem?_toArray, List.getElem?_cons_succ, List.getElem?_cons_zero]; rfl) (by kernel_rfl) (by kernel_rfl) (by kernel_rfl) (by exact fun _ _ _ h => h) (Or.inl ⟨by rfl, ?_⟩) (by assumption) ?_; rotate_left 1; (focus (intro w hSw; (try dsimp only at hSw); go_simp; (try (with_reducible rfl)))); (try simp only [Act.put, List.setIfInBounds_toArray, List.set_cons_zero, List.set_cons_succ])
          refine wpAnyH_take (i := 4) (v := ?_) (by simp only [List.getElem?_toArray, List.getElem?_cons_succ, List.getElem?_cons_zero]; rfl) (by kernel_rfl) (by kernel_rfl) (by kernel_rfl) (by exact fun _ _ _ h => h) (Or.inl ⟨by rfl, ?_⟩) (by assumption) ?_; rotate_left 1; (focus (intro w hSw; (try dsimp only at hSw); go_simp; (try (with_reducible rfl)))); (try simp only [Act.put, List.setIfInBounds_toArray, List.set_cons_zero, List.set_cons_succ])
          refine wpAnyH_take (i := 5) (v := ?_) (by simp only [List.getElem?_toArray, List.getElem?_cons_succ, List.getElem?_cons_zero]; rfl) (by kernel_rfl) (by kernel_rfl) (by kernel_rfl) (by exact fun _ _ _ h => h) (Or.inl ⟨by rfl, ?_⟩) (by assumption) ?_; rotate_left 1; (focus (intro w hSw; (try dsimp only at hSw); go_simp; (try (with_reducible rfl)))); (try simp only [Act.put, List.setIfInBounds_toArray, List.set_cons_zero, List.set_cons_succ])
          refine wpAnyH_take (i := 6) (v := ?_) (by simp only [List.getElem?_toArray, List.getElem?_cons_succ, List.getElem?_cons_zero]; rfl) (by kernel_rfl) (by kernel_rfl) (by kernel_rfl) (by exact fun _ _ _ h => h) (Or.inl ⟨by rfl, ?_⟩) (by assumption) ?_; rotate_left 1; (focus (intro w hSw; (try dsimp only at hSw); go_simp; (try (with_reducible rfl)))); (try simp only [Act.put, List.setIfInBounds_toArray, List.set_cons_zero, List.set_cons_succ])
          refine wpAnyH_take (i := 7) (v := ?_) (by simp only [List.getElem?_toArray, List.getElem?_cons_succ, List.getElem?_cons_zero]; rfl) (by kernel_rfl) (by kernel_rfl) (by kernel_rfl) (by exact fun _ _ _ h => h) (Or.inl ⟨by rfl, ?_⟩) (by assumption) ?_; rotate_left 1; (focus (intro w hSw; (try dsimp only at hSw); go_simp; (try (with_reducible rfl)))); (try simp only [Act.put, List.setIfInBounds_toArray, List.set_cons_zero, List.set_cons_succ])
          refine wpAnyH_take (i := 10) (v := ?_) (by simp only [List.getElem?_toArray, List.getElem?_cons_succ, List.getElem?_cons_zero]; rfl) (by kernel_rfl) (by kernel_rfl) (by kernel_rfl) (by exact fun _ _ _ h => h) (Or.inl ⟨by rfl, ?_⟩) (by assumption) ?_; rotate_left 1; (focus (intro w hSw; (try dsimp only at hSw); go_simp; (try (with_reducible rfl)))); (try simp only [Act.put, List.setIfInBounds_toArray, List.set_cons_zero, List.set_cons_succ])
          refine wpAnyH_take (i := 11) (v := ?_) (by simp only [List.getElem?_toArray, List.getElem?_cons_succ, List.getElem?_cons_zero]; rfl) (by kernel_rfl) (by kernel_rfl) (by kernel_rfl) (by exact fun _ _ _ h => h) (Or.inl ⟨by rfl, ?_⟩) (by assumption) ?_; rotate_left 1; (focus (intro w hSw; (try dsimp only at hSw); go_simp; (try (with_reducible rfl)))); (try simp only [Act.put, List.setIfInBounds_toArray, List.set_cons_zero, List.set_cons_succ])
          refine wpAnyH_take (i := 12) (v := ?_) (by simp only [List.getElem?_toArray, List.getElem?_cons_succ, List.getElem?_cons_zero]; rfl) (by kernel_rfl) (by kernel_rfl) (by kernel_rfl) (by exact fun _ _ _ h => h) (Or.inl ⟨by rfl, ?_⟩) (by assumption) ?_; rotate_left 1; (focus (intro w hSw; (try dsimp only at hSw); go_simp; (try (with_reducible rfl)))); (try simp only [Act.put, List.setIfInBounds_toArray, List.set_cons_zero, List.set_cons_succ])
          refine wpAnyH_take (i := 13) (v := ?_) (by simp only [List.getElem?_toArray, List.getElem?_cons_succ, List.getElem?_cons_zero]; rfl) (by kernel_rfl) (by kernel_rfl) (by kernel_rfl) (by exact fun _ _ _ h => h) (Or.inl ⟨by rfl, ?_⟩) (by assumption) ?_; rotate_left 1; (focus (intro w hSw; (try dsimp only at hSw); go_simp; (try (with_reducible rfl)))); (try simp only [Act.put, List.setIfInBounds_toArray, List.set_cons_zero, List.set_cons_succ])
          refine wpAnyH_ready (rs := [8]) (by kernel_rfl) (by simp) ?_; refine AllReadyH.cons (by simp only [List.getElem?_toArray, List.getElem?_cons_succ, List.getElem?_cons_zero]; rfl) (fun K hK => ?_) AllReadyH.nil; go_simp
          refine hK.out _ _ ?_ (fun hHeld => ?_); (focus exact hSS _ (But.of_below hba)); clear hK K; (try simp only [Act.put, List.setIfInBounds_toArray, List.set_cons_zero, List.set_cons_succ])
          refine wpAnyH_ready (rs := [9]) (by kernel_rfl) (by simp) ?_; refine AllReadyH.cons (by simp only [List.getElem?_toArray, List.getElem?_cons_succ, List.getElem?_cons_zero]; rfl) (fun K hK => ?_) AllReadyH.nil
          have hold : ∀ j u, (ints l)[j]? = some u → (wr.alloc (.cells #[.int .i64 i] 3)).drew.cell? ⟨g, j, none⟩ = some u := fun j u hu => (hba.cell (p := ⟨g, j, none⟩) hg2r).trans (hg5r j u hu)
          refine step_append_grows rfl (.tmp 30) (.tmp 32) 47 rfl 3 i0 _ 1 8 Try.underlying47 hi0' hz0 hz1 hz2 rfl (by decide) (some ⟨g, 0, none⟩) l.length l.length (ints l) rfl (fun e => by cases e) (by simp [ints]) (fun b e j u hu => by injection e with e; subst e; rw [add_zero']; exact hold j u hu) ⟨wr.heap.size, 0, none⟩ 1 1 [.int .i64 i] rfl rfl ?_ (by simp [Value.oneCell']) (by omega) (by unfold maxLen; omega) (by omega) ?_
          · intro j u hu
            rw [add_zero']
            have hj : j = 0 := by rcases j with _ | j; rfl; simp at hu
            subst hj
            simp at hu
            subst hu
            simp [go_sem]
          intro v' w' hown hgr
          obtain ⟨g', cap', rfl, hg1', hg2', hg3', hg4', hg5'⟩ := own_form2 hown (by omega)
          have hbw : Below (wr.alloc (.cells #[.int .i64 i] 3)).drew.heap.size (wr.alloc (.cells #[.int .i64 i] 3)).drew w' := (Below.refl _ _).grown hgr (Nat.le_refl _) (fun k e => by cases e)
          have hbr : But fb wr w' := (But.of_below hba).and hbw
          have hgz : (wr.alloc (.cells #[.int .i64 i] 3)).drew.heap.size = wr.heap.size + 1 := (by simp)
          have hgb : wr.heap.size < g' := (by omega)
          have hF' : LForm w' fb (some ⟨g', 0, none⟩) cap' (l ++ [(i : Int)]) := .inr ⟨g', rfl, by omega, hg2', by simpa using hg3', hg4', fun j u hu => hg5' j u (by simpa [ints] using hu)⟩
          have ihc := ih (l ++ [(i : Int)]) (i + 1) (some ⟨g', 0, none⟩) cap' w' (by simp at hlm ⊢; omega) (by omega) hF' (hWr0.but hbr (wr_below (by rw [wr_drew, ]; exact wr_alloc _ hwf) hbw (by simp; omega)))
          simp only [List.length_append, List.length_cons, List.length_nil, Nat.zero_add, Int.natCast_add, Int.natCast_one] at ihc
          refine hK.out _ _ ?_ (fun hHeld => ?_); (focus exact hSS _ hbr); clear hK K; (try simp only [Act.put, List.setIfInBounds_toArray, List.set_cons_zero, List.set_cons_succ])
          refine wpAnyH_ready (rs := [14]) (by kernel_rfl) (by simp) ?_; refine AllReadyH.cons (by simp only [List.getElem?_toArray, List.getElem?_cons_succ, List.getElem?_cons_zero]; rfl) (fun K hK => ?_) AllReadyH.nil; go_simp
          obtain ⟨r, hr⟩ : ∃ r, r = pickL n (rightD set fs ls) more (l ++ [(i : Int)]) (i + 1) := ⟨_, rfl⟩
          rw [← hr] at ihc
          have HN : Hid (pickL n (rightD set fs ls) (more + 1) l start = orElse' r (firstOf (fun i => pickL n (rightD set fs ls) more (l ++ [(i : Int)]) (i + 1)) (i + 1) (n - (i + 1)))) := hid (by
            rw [HK.out, HK2.out, firstOf_orElse, ← hr])
          clear hr
          refine ihc.mono ?_
          rintro e w2 ⟨rfl, hret, hwf2, hbt2⟩
          (try go_wp2_with fail)
          refine hK.out _ _ ?_ (fun hHeld => ?_); (focus exact hSS _ (hbr.trans hbt2)); clear hK K; (try simp only [Act.put, List.setIfInBounds_toArray, List.set_cons_zero, List.set_cons_succ])
          refine wpAnyH_done (by kernel_rfl) ?_ _
          cases r with
          | some a =>
            go_wp2
            go_ret
            exact ⟨ret_bool (by rw [HN.out]; rfl), fun r hr => hret r (by rw [HN.out] at hr; exact hr), hwf2, (hbt.trans hbr).trans hbt2⟩
          | none =>
            go_wp2
            exact ⟨⟨i + 1, by omega, by omega, by go_num, HN, hwf2, (hbt.trans hbr).trans hbt2⟩, by simp [intOf]; omega⟩
        · have HE : Hid (pickL n (rightD set fs ls) (more + 1) l start = none) := hid (by rw [HK.out, show n - i = 0 from by omega]; rfl)
          obtain ⟨h1, h2, h3, h4, h5, h6, h7⟩ := hWr
          go_wp2
          go_ret
          exact ⟨ret_bool (by rw [HE.out]; rfl), fun r hr => (by rw [HE.out] at hr; cases hr), hwf, hbt⟩

set_option maxRecDepth 100000 in
set_option maxHeartbeats 4000000 in
theorem fewest_any (n : Nat) (set : Int) (A L : Option Addr) (cap lcap : Nat) (fs : List Fr) (ls : List Ln) (w : World) (hO : OkFs fs) (hs : 0 ≤ set ∧ set ≤ 4319) (hl6 : ls.length ≤ 6) (hb : ∀ l ∈ ls, lineB l = true) (hn : n ≤ 62)
    (hA : Arr w w.heap.size A (frosts fs)) (hL : Arr w w.heap.size L (lines ls)) :
    Calls Try.prog 79 #[.int .i64 n, .func (.func 71) #[noteV set A fs.length cap L ls.length lcap] #[]] w fun e w' =>
      (∃ O ocap, e = .returned (.slice O ((fewestL n (rightD set fs ls)).getD []).length ocap) ∧ ocap ≤ maxLen ∧ Arr w' w'.heap.size O (ints ((fewestL n (rightD set fs ls)).getD []))) ∧ Below w.heap.size w w' := by
  have HP : Hid (fewestL n (rightD set fs ls) = firstOf (fun more => pickL n (rightD set fs ls) more [] 0) 0 (n + 1)) := hid rfl
  go_enter Try.func79, Try.ntmps79
  go_wp2_with fail
  obtain ⟨W, hW⟩ : ∃ W, W = (((w.alloc (.cells #[.int .i64 n] 3)).alloc (.cells #[.func (.func 71) #[noteV set A fs.length cap L ls.length lcap] #[]] 110)).alloc (.cells #[.slice none 0 0] 47)).alloc
    (.cells #[.func (.func 97) #[] #[.pointer (some ⟨w.heap.size + 1 + 1, 0, none⟩), .pointer (some ⟨w.heap.size + 1, 0, none⟩), .pointer (some ⟨w.heap.size, 0, none⟩), .pointer (some ⟨w.heap.size + 1 + 1 + 1, 0, none⟩)]] 136) := ⟨_, rfl⟩
  have hWz : W.heap.size = w.heap.size + 4 := by rw [hW]; simp
  have hWB : Below w.heap.size w W := by rw [hW]; (repeat' (first | (with_reducible exact Below.refl _ _) | (with_reducible assumption) | (with_reducible refine Below.drew ?_) | (with_reducible refine below_drewN ?_ _) | (with_reducible refine Below.setCell ?_ ?_ _) | (with_reducible refine Below.alloc ?_ ?_ _) | go_size | (exact Below.size (by assumption)) | (refine Below.trans ?_ (Below.mono (by assumption) ?_))))
  have hF : WFix W (w.heap.size + 1 + 1) (w.heap.size + 1) w.heap.size (w.heap.size + 1 + 1 + 1) w.heap.size n set A fs.length cap L ls.length lcap fs ls := by
    refine ⟨?_, ?_, ?_, ?_, by omega, hA.below hWB, hL.below hWB⟩
    all_goals (rw [hW]; first | (simp [go_sem]; done) | exact ⟨by simp [go_sem], by simp [go_sem]⟩)
  rw [← hW]
  clear hW
  go_loopw [11] (fun iv wr => ∃ i : Nat, i ≤ n + 1 ∧ iv = .int .i64 i ∧ Hid (fewestL n (rightD set fs ls) = firstOf (fun more => pickL n (rightD set fs ls) more [] 0) i (n + 1 - i)) ∧ Wr wr (w.heap.size + 1 + 1) 0 ∧ But (w.heap.size + 1 + 1) W wr) (fun iv _ => n + 1 - (intOf iv).toNat)
  case atStart => exact ⟨0, Nat.zero_le _, by simp, HP, hF.f, But.refl _ _⟩
  case round =>
    obtain ⟨i, hi, rfl, HK, hwf, hbt⟩ := hrel
    have hWr := hF.but hbt hwf
    have hbw : Below w.heap.size w wr := hWB.trans (hbt.below (by omega) (by omega))
    clear HP
    by_cases hlt : i < n + 1
    · have HK2 : Hid (n + 1 - i = (n + 1 - (i + 1)) + 1) := hid (by omega)
      have hlt' : (i : Int) < (n : Int) + 1 := by omega
      have hc := add_calls (w.heap.size + 1 + 1) (w.heap.size + 1) w.heap.size (w.heap.size + 1 + 1 + 1) w.heap.size n set A L cap lcap fs ls hO hs hl6 hb hn i [] 0 none 0 wr (by simp; omega) (by omega) (.inl ⟨rfl, rfl, rfl⟩) hWr
      obtain ⟨r, hr⟩ : ∃ r, r = pickL n (rightD set fs ls) i [] 0 := ⟨_, rfl⟩
      rw [← hr] at hc
      have HN : Hid (fewestL n (rightD set fs ls) = orElse' r (firstOf (fun more => pickL n (rightD set fs ls) more [] 0) (i + 1) (n + 1 - (i + 1)))) := hid (by
        rw [HK.out, HK2.out, firstOf_orElse, ← hr])
      clear hr
      simp only [List.length_nil, Int.natCast_zero] at hc
      have h3 := hWr.a
      go_wp2_with fail
      refine hc.mono ?_
      rintro e w2 ⟨rfl, hret, hwf2, hbt2⟩
      cases r with
      | some a =>
        obtain ⟨O, oc, hcell, hform⟩ := hret a rfl
        have hoc : oc ≤ maxLen := by
          rcases hform with ⟨_, _, rfl⟩ | ⟨_, _, _, _, _, h, _⟩
          · unfold maxLen; omega
          · exact h
        go_wp2
        go_ret
        have e : (fewestL n (rightD set fs ls)).getD [] = a := by rw [HN.out]; rfl
        rw [e]
        exact ⟨⟨O, oc, rfl, hoc, hform.arr⟩, hbw.trans (hbt2.below (by omega) (by have := hbw.size; omega))⟩
      | none =>
        go_wp2
        exact ⟨⟨i + 1, by omega, by go_num, HN, hwf2, hbt.trans hbt2⟩, by simp [intOf]; omega⟩
    · have HE : Hid (fewestL n (rightD set fs ls) = none) := hid (by rw [HK.out, show n + 1 - i = 0 from by omega]; rfl)
      have hlt' : ¬ (i : Int) < (n : Int) + 1 := by omega
      go_wp2
      go_ret
      rw [HE.out]
      exact ⟨⟨none, 0, rfl, by unfold maxLen; omega, Arr.nil _ _ _⟩, hbw⟩
end Go.Proofs.Ytnkbcapikenbbaa
