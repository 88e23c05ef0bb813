/- The courses of a book: the iterator that gives each dial by which there is one. -/
import Derived.Test.YtnkbcapikenbbaaN2
import Derived.Test.YtnkbcapikenbbaaJ
import Derived.Test.YtnkbcapikenbbaaP7
import Derived.Scope
namespace Go.Proofs.Ytnkbcapikenbbaa
set_option linter.unusedSimpArgs false
set_option linter.unusedVariables false
open Go.RowKit Go.Shelf
attribute [local go_sem] Oper.semAt_some
attribute [local go_sem high] cell_set_wr
attribute [local go_sem low] cell_wr frozen_wr
attribute [local go_sem] wr_set wr_drew wr_drewN wr_alloc wr_new

def nth6 (x : List Sp) (k : Nat) : Sp := x.getD k zSp
def spansV (x : List Sp) : Value := .agg #[.int .i64 (nth6 x 0).lo, .int .i64 (nth6 x 0).hi, .int .i64 (nth6 x 1).lo, .int .i64 (nth6 x 1).hi, .int .i64 (nth6 x 2).lo, .int .i64 (nth6 x 2).hi,
  .int .i64 (nth6 x 3).lo, .int .i64 (nth6 x 3).hi, .int .i64 (nth6 x 4).lo, .int .i64 (nth6 x 4).hi, .int .i64 (nth6 x 5).lo, .int .i64 (nth6 x 5).hi]

/-- the notebook, and the minute until which frosts matter, in blocks nb and nb + 1 -/
structure NBox (V : World) (nb : Nat) (set : Int) (A : Option Addr) (n cap : Nat) (L : Option Addr) (ln lcap : Nat) (m : Int) : Prop where
  c0 : V.cell? ⟨nb, 0, none⟩ = some (.int .i64 set)
  c1 : V.cell? ⟨nb, 1, none⟩ = some (.slice A n cap)
  c2 : V.cell? ⟨nb, 2, none⟩ = some (.slice L ln lcap)
  u0 : V.cell? ⟨nb + 1, 0, none⟩ = some (.int .i64 m)

/-- what the iterator reads of the notebook, and its yield in block yb -/
structure CFix (V : World) (nb yb l : Nat) (set : Int) (A : Option Addr) (n cap : Nat) (L : Option Addr) (ln lcap : Nat) : Prop where
  c0 : V.cell? ⟨nb, 0, none⟩ = some (.int .i64 set)
  c1 : V.cell? ⟨nb, 1, none⟩ = some (.slice A n cap)
  c2 : V.cell? ⟨nb, 2, none⟩ = some (.slice L ln lcap)
  y : V.cell? ⟨yb, 0, none⟩ = some (.func (.yield l) #[] #[])
theorem CFix.of_cells {V V' : World} {nb yb l : Nat} {set : Int} {A : Option Addr} {n cap : Nat} {L : Option Addr} {ln lcap : Nat} (h : CFix V nb yb l set A n cap L ln lcap)
    (hk : ∀ b o, b = nb ∨ b = yb → V'.cell? ⟨b, o, none⟩ = V.cell? ⟨b, o, none⟩) : CFix V' nb yb l set A n cap L ln lcap :=
  ⟨(hk _ _ (.inl rfl)).trans h.c0, (hk _ _ (.inl rfl)).trans h.c1, (hk _ _ (.inl rfl)).trans h.c2, (hk _ _ (.inr rfl)).trans h.y⟩
theorem CFix.below {V V' : World} {nb yb l B : Nat} {set : Int} {A : Option Addr} {n cap : Nat} {L : Option Addr} {ln lcap : Nat} (h : CFix V nb yb l set A n cap L ln lcap) (hb : Below B V V') (h1 : nb < B) (h2 : yb < B) : CFix V' nb yb l set A n cap L ln lcap :=
  h.of_cells fun b o hc => hb.cell (p := ⟨b, o, none⟩) (by simp only; omega)
/-- what has been given of the dials pre -/
def coursesOf (set : Int) (ls : List Ln) (pre : List (List Sp)) : List (List Sp × List Sp) := pre.filterMap fun x => (courseD set x ls).map fun s => (x, s)
theorem coursesOf_none (set : Int) (ls : List Ln) (pre : List (List Sp)) (x : List Sp) (h : courseD set x ls = none) : coursesOf set ls (pre ++ [x]) = coursesOf set ls pre := by simp [coursesOf, h]
theorem coursesOf_some (set : Int) (ls : List Ln) (pre : List (List Sp)) (x s : List Sp) (h : courseD set x ls = some s) : coursesOf set ls (pre ++ [x]) = coursesOf set ls pre ++ [(x, s)] := by simp [coursesOf, h]
/-- six spans: those that there are, then empty places -/
def padS (S : List Sp) : List Sp := S ++ List.replicate (6 - S.length) zSp
theorem padS_length (S : List Sp) (h : S.length ≤ 6) : (padS S).length = 6 := by simp [padS]; omega
theorem nth6_padS (S : List Sp) (k : Nat) : nth6 (padS S) k = nth6 S k := by
  unfold nth6 padS
  simp only [List.getD_eq_getElem?_getD]
  rcases Nat.lt_or_ge k S.length with h | h
  · rw [List.getElem?_append_left h]
  · rw [List.getElem?_append_right h, List.getElem?_eq_none h, List.getElem?_replicate]
    split <;> rfl
theorem nth6_get (S : List Sp) (k : Nat) (h : k < S.length) : nth6 S k = S[k] := by
  unfold nth6; rw [List.getD_eq_getElem?_getD, List.getElem?_eq_getElem h]; rfl
theorem nth6_set (x : List Sp) (i k : Nat) (f : Sp) (hi : i < x.length) : nth6 (x.set i f) k = if i = k then f else nth6 x k := by
  unfold nth6
  simp only [List.getD_eq_getElem?_getD]
  by_cases h : i = k
  · subst h; simp [hi]
  · simp [h, List.getElem?_set_ne]
theorem padS_snoc (S : List Sp) (s : Sp) (h : S.length < 6) : (padS S).set S.length s = padS (S ++ [s]) := by
  unfold padS
  obtain ⟨d, hd⟩ : ∃ d, 6 - S.length = d + 1 := ⟨5 - S.length, by omega⟩
  rw [List.set_append_right _ _ (Nat.le_refl _), Nat.sub_self, hd, List.replicate_succ, List.set_cons_zero, List.length_append, List.append_assoc]
  rw [show 6 - (S.length + [s].length) = d from by simp only [List.length_cons, List.length_nil]; omega]
  rfl
theorem padS_set (X : List Sp) (j : Nat) (h : j < X.length) (v : Sp) : (padS X).set j v = padS (X.set j v) := by
  unfold padS; rw [List.set_append_left _ _ h, List.length_set]
theorem padS_round (S : List Sp) (j : Nat) (h : j + 1 < S.length) (h6 : S.length ≤ 6) :
    (padS (S.take (j + 1) ++ bwd (S.drop (j + 1)))).set j ⟨(nth6 (padS (S.take (j + 1) ++ bwd (S.drop (j + 1)))) j).lo,
      if (nth6 (padS (S.take (j + 1) ++ bwd (S.drop (j + 1)))) (j + 1)).hi < (nth6 (padS (S.take (j + 1) ++ bwd (S.drop (j + 1)))) j).hi then (nth6 (padS (S.take (j + 1) ++ bwd (S.drop (j + 1)))) (j + 1)).hi
      else (nth6 (padS (S.take (j + 1) ++ bwd (S.drop (j + 1)))) j).hi⟩ = padS (S.take j ++ bwd (S.drop j)) := by
  have hr := bwd_round S j h _ rfl zSp
  have hl : j < (S.take (j + 1) ++ bwd (S.drop (j + 1))).length := by simp [bwd_length]; omega
  generalize S.take (j + 1) ++ bwd (S.drop (j + 1)) = X at *
  rw [padS_set _ _ hl, ← hr]
  simp only [nth6_padS]
  unfold nth6
  rw [show (if (X.getD (j + 1) zSp).hi < (X.getD j zSp).hi then (X.getD (j + 1) zSp).hi else (X.getD j zSp).hi) = min (X.getD j zSp).hi (X.getD (j + 1) zSp).hi from by split <;> omega]
/-- the array of spans in block sb -/
structure SBox (V : World) (sb : Nat) (X : List Sp) : Prop where
  len : X.length = 6
  lo : ∀ k, k < 6 → V.cell? ⟨sb, k * 2, none⟩ = some (.int .i64 (nth6 X k).lo)
  hi : ∀ k, k < 6 → V.cell? ⟨sb, k * 2 + 1, none⟩ = some (.int .i64 (nth6 X k).hi)
  fz : ∀ o, V.frozen? ⟨sb, o, none⟩ = false
theorem SBox.new (V : World) (t : TypeId) : SBox (V.alloc (.cells #[.int .i64 0, .int .i64 0, .int .i64 0, .int .i64 0, .int .i64 0, .int .i64 0, .int .i64 0, .int .i64 0, .int .i64 0, .int .i64 0, .int .i64 0, .int .i64 0] t)) V.heap.size (padS []) := by
  refine ⟨rfl, fun k hk => ?_, fun k hk => ?_, fun o => by simp [go_sem]⟩
  all_goals
    have : k = 0 ∨ k = 1 ∨ k = 2 ∨ k = 3 ∨ k = 4 ∨ k = 5 := by omega
    rcases this with rfl | rfl | rfl | rfl | rfl | rfl <;> simp [go_sem, padS, nth6, zSp]
theorem SBox.below {V V' : World} {sb B : Nat} {X : List Sp} (h : SBox V sb X) (hb : Below B V V') (hs : sb < B) : SBox V' sb X :=
  ⟨h.len, fun k hk => (hb.cell (p := ⟨sb, k * 2, none⟩) hs).trans (h.lo k hk), fun k hk => (hb.cell (p := ⟨sb, k * 2 + 1, none⟩) hs).trans (h.hi k hk), fun o => (hb.frozen (p := ⟨sb, o, none⟩) hs).trans (h.fz o)⟩
theorem SBox.wr {V : World} {sb : Nat} {X : List Sp} (h : SBox V sb X) (k : Nat) (hk : k < 6) : Wr V sb (k * 2) ∧ Wr V sb (k * 2 + 1) := ⟨Wr.of (h.lo k hk) (h.fz _), Wr.of (h.hi k hk) (h.fz _)⟩
theorem SBox.setHi {V : World} {sb : Nat} {X : List Sp} (h : SBox V sb X) (i : Nat) (hi : i < 6) (v : Int) : SBox (V.setCell ⟨sb, i * 2 + 1, none⟩ (.int .i64 v)) sb (X.set i ⟨(nth6 X i).lo, v⟩) := by
  have ho : ∀ k, k ≠ i * 2 + 1 → (V.setCell ⟨sb, i * 2 + 1, none⟩ (.int .i64 v)).cell? ⟨sb, k, none⟩ = V.cell? ⟨sb, k, none⟩ := fun k h1 => World.cell?_setCell_other _ _ _ _ (fun e => h1 (congrArg Addr.off e).symm)
  have hx : i < X.length := by rw [h.len]; exact hi
  refine ⟨by simp [h.len], fun k hk => ?_, fun k hk => ?_, fun o => by rw [World.frozen?_setCell]; exact h.fz o⟩
  · rw [nth6_set _ _ _ _ hx, ho _ (by omega), h.lo k hk]
    split
    · rename_i e; subst e; rfl
    · rfl
  · rw [nth6_set _ _ _ _ hx]
    by_cases e : i = k
    · subst e
      rw [if_pos rfl]
      exact World.cell?_setCell_same' _ _ _ (by rw [h.hi i hi]; rfl)
    · rw [if_neg e, ho _ (by omega), h.hi k hk]
theorem SBox.setLo {V : World} {sb : Nat} {X : List Sp} (h : SBox V sb X) (i : Nat) (hi : i < 6) (v : Int) : SBox (V.setCell ⟨sb, i * 2, none⟩ (.int .i64 v)) sb (X.set i ⟨v, (nth6 X i).hi⟩) := by
  have ho : ∀ k, k ≠ i * 2 → (V.setCell ⟨sb, i * 2, none⟩ (.int .i64 v)).cell? ⟨sb, k, none⟩ = V.cell? ⟨sb, k, none⟩ := fun k h1 => World.cell?_setCell_other _ _ _ _ (fun e => h1 (congrArg Addr.off e).symm)
  have hx : i < X.length := by rw [h.len]; exact hi
  refine ⟨by simp [h.len], fun k hk => ?_, fun k hk => ?_, fun o => by rw [World.frozen?_setCell]; exact h.fz o⟩
  · rw [nth6_set _ _ _ _ hx]
    by_cases e : i = k
    · subst e
      rw [if_pos rfl]
      exact World.cell?_setCell_same' _ _ _ (by rw [h.lo i hi]; rfl)
    · rw [if_neg e, ho _ (by omega), h.lo k hk]
  · rw [nth6_set _ _ _ _ hx, ho _ (by omega), h.hi k hk]
    split
    · rename_i e; subst e; rfl
    · rfl
theorem SBox.set {V : World} {sb : Nat} {X : List Sp} (h : SBox V sb X) (i : Nat) (hi : i < 6) (s : Sp) : SBox ((V.setCell ⟨sb, i * 2, none⟩ (.int .i64 s.lo)).setCell ⟨sb, i * 2 + 1, none⟩ (.int .i64 s.hi)) sb (X.set i s) := by
  have h1 := (h.setLo i hi s.lo).setHi i hi s.hi
  rw [nth6_set _ _ _ _ (by rw [h.len]; exact hi), if_pos rfl, List.set_set] at h1
  exact h1

set_option maxRecDepth 100000 in
set_option maxHeartbeats 4000000 in
theorem courses_seq (nb : Nat) (set : Int) (A L : Option Addr) (cap lcap B : Nat) (fs : List Fr) (ls : List Ln) (m : Int) (w0 : World) (hB : B ≤ w0.heap.size) (hO : OkFs fs) (hm : 0 ≤ m ∧ m ≤ 4320) (hs : 0 ≤ set ∧ set ≤ 4319) (hls : ls.length ≤ 6) (hb : ∀ l ∈ ls, lineB l = true)
    (hn : nb + 1 < w0.heap.size) (hN : NBox w0 nb set A fs.length cap L ls.length lcap m) :
    SeqI Try.prog 101 #[.pointer (some ⟨nb, 0, none⟩), .pointer (some ⟨nb + 1, 0, none⟩)] (fun x => #[dialV set A fs.length cap x.1, spansV x.2]) nb (fun V => Arr V B A (frosts fs) ∧ Arr V B L (lines ls)) (coursesL set fs m ls) w0 := by
  have hok := hid (dialsOf_ok fs m hO hm)
  intro l J Jx W hb0 hl1 hl2 hJ hJx hInv hY hJ0
  obtain ⟨n0, n1, n2, nu⟩ := hN
  have hsz := hb0.size
  have x0 : W.cell? ⟨nb, 0, none⟩ = some (.int .i64 set) := (hb0.cell (by simp only; omega)).trans n0
  have x1 : W.cell? ⟨nb, 1, none⟩ = some (.slice A fs.length cap) := (hb0.cell (by simp only; omega)).trans n1
  have x2 : W.cell? ⟨nb, 2, none⟩ = some (.slice L ls.length lcap) := (hb0.cell (by simp only; omega)).trans n2
  have xu : W.cell? ⟨nb + 1, 0, none⟩ = some (.int .i64 m) := (hb0.cell (by simp only; omega)).trans nu
  have hnW : nb < W.heap.size := by omega
  have hnW1 : nb + 1 < W.heap.size := by omega
  obtain ⟨hAf, hAl⟩ := hInv _ _ hJ0
  show Calls Try.prog 101 #[.func (.yield l) #[] #[], .pointer (some ⟨nb, 0, none⟩), .pointer (some ⟨nb + 1, 0, none⟩)] W _
  refine (callsIn_wide (n := 5)).1 ?_
  refine callsIn_of_wp_marks Try.func101 rfl trivial ?_ rfl
  simp only [Try.ntmps101, List.size_toArray, List.length_cons, List.length_nil, Nat.reduceAdd, Nat.reduceSub, Array.replicate_succ, Array.replicate_zero, List.push_toArray, List.append_toArray, List.nil_append, List.cons_append]
  gi_wp2_with fail
  refine wpIn_wide.2 (wp_scope_straight ((wpIn_wide (n := 5)).1 ?_))
  gi_wp2_with fail
  refine wpIn_label ?_
  rename_i K hK
  refine hK _ _ ?_
  clear hK K
  gi_wp2_with fail
  obtain ⟨W1, hW1⟩ : ∃ W1, W1 = W.alloc (.cells #[.func (.yield l) #[] #[]] 144) := ⟨_, rfl⟩
  have hz1 : W1.heap.size = W.heap.size + 1 := by rw [hW1]; simp
  have hb1 : Below W.heap.size W W1 := by rw [hW1]; (repeat' (first | (with_reducible exact Below.refl _ _) | (with_reducible assumption) | (with_reducible refine Below.drew ?_) | (with_reducible refine below_drewN ?_ _) | (with_reducible refine Below.setCell ?_ ?_ _) | (with_reducible refine Below.alloc ?_ ?_ _) | go_size | (exact Below.size (by assumption)) | (refine Below.trans ?_ (Below.mono (by assumption) ?_))))
  have y0 : W1.cell? ⟨W.heap.size, 0, none⟩ = some (.func (.yield l) #[] #[]) := by rw [hW1]; simp [go_sem]
  rw [← hW1]
  clear hW1
  refine ⟨trivial, ?_⟩
  refine (callsIn_wide.2 (dials_any set A cap fs m W1 ((hAf.below (hb1.mono (by omega))).more (by omega)) hO hm)).mono ?_
  rintro e w1 ⟨cb, S, rfl, hcb1, hcb2, e0, e1, e2, eS, hb2⟩
  gi_wp2_with fail
  have hz2 := hb2.size
  have hlls : (fs.map fun f => frostsL f m).length = fs.length := by simp
  have hX0 : ∀ V, Below w1.heap.size w1 V → CFix V nb W.heap.size l set A fs.length cap L ls.length lcap := fun V hV => by
    have hv : ∀ b o, b < W1.heap.size → V.cell? ⟨b, o, none⟩ = W1.cell? ⟨b, o, none⟩ := fun b o h => (hV.cell (p := ⟨b, o, none⟩) (by simp only; omega)).trans (hb2.cell (p := ⟨b, o, none⟩) (by simp only; omega))
    exact ⟨(hv _ _ (by omega)).trans ((hb1.cell (by simp only; omega)).trans x0), (hv _ _ (by omega)).trans ((hb1.cell (by simp only; omega)).trans x1), (hv _ _ (by omega)).trans ((hb1.cell (by simp only; omega)).trans x2), (hv _ _ (by omega)).trans y0⟩
  refine wpIn_rangeM (gf := 90) (lb := #[.pointer (some ⟨W1.heap.size, 0, none⟩), .pointer (some ⟨cb, 0, none⟩)]) (by rw [hz1]; rfl) (enters_of Try.func90 (by kernel_rfl) rfl)
    (dials_seq W1.heap.size cb w1.heap.size set A S fs.length cap (fs.map fun f => frostsL f m) w1 hlls hO.1 (frostsL_small fs m hO) rfl ⟨hcb1, hcb2⟩ e0 e1 e2 eS) (Below.refl _ _) hz2 (fun _ => rfl)
    (fun pre V => J (coursesOf set ls pre) V ∧ CFix V nb W.heap.size l set A fs.length cap L ls.length lcap)
    (fun j _ V => j = .ret ∧ ∃ pre' y, pre' ++ [y] <+: coursesL set fs m ls ∧ Jx (pre' ++ [y]) V) ?hI ?hIx ?h0
    (fun x a' V => ∃ b, DBox V b set A fs.length cap x ∧ w1.heap.size ≤ b ∧ a' = { tmps := #[Value.func (.yield l) #[] #[], .pointer (some ⟨nb, 0, none⟩), .pointer (some ⟨nb + 1, 0, none⟩), .pointer (some ⟨W.heap.size, 0, none⟩), .pointer (some ⟨b, 0, none⟩), undef, undef, undef, undef, undef, .pointer (some ⟨nb, 0, none⟩), .agg #[.int .i64 set, .slice A fs.length cap], .int .i64 m, .func (.func 90) #[] #[.pointer (some ⟨W.heap.size + 1, 0, none⟩), .pointer (some ⟨cb, 0, none⟩)], dialV set A fs.length cap x, undef, undef, undef, undef, undef, undef, undef, undef, undef, undef, undef, undef, undef, undef, undef, undef, undef, undef, undef, undef, undef, undef, undef, undef, undef, undef, undef, undef, undef, undef, undef, undef, undef, undef, undef, undef, undef, undef, undef, undef, undef, undef, undef, undef, undef, undef, undef, undef, undef, undef, undef, undef, undef, undef, undef, undef, undef, undef, undef], defers := [] })
    ?hAx ?assign ?body ?done ?stop
  case hI =>
    rintro s X Y ⟨hj, hf⟩ hxy
    exact ⟨hJ _ _ _ hj (hxy.mono (by omega)), hf.below hxy (by omega) (by omega)⟩
  case hIx =>
    rintro j s X Y ⟨rfl, pre', y, hp, hj⟩ hxy
    exact ⟨rfl, pre', y, hp, hJx _ _ _ hj (hxy.mono (by omega))⟩
  case h0 => exact ⟨hJ _ _ _ (hJ _ _ _ hJ0 hb1) (hb2.mono (by omega)), hX0 _ (Below.refl _ _)⟩
  case hAx =>
    rintro x a' V l o o' hl ho ⟨b, hD, hb, rfl⟩
    exact ⟨b, hD.put_loop ho, hb, rfl⟩
  case assign =>
    rintro l' pre x V K ⟨hj, hf⟩ hzV hK
    unfold dialV
    gi_wp2
    have hba := (Below.refl V.heap.size V).alloc (Nat.le_refl _) (.cells #[.int .i64 set, .slice A fs.length cap, .int .i64 (nth3 x 0).lo, .int .i64 (nth3 x 0).hi, .int .i64 (nth3 x 1).lo, .int .i64 (nth3 x 1).hi, .int .i64 (nth3 x 2).lo, .int .i64 (nth3 x 2).hi] 105)
    refine hK _ _ ((Mid.refl _ _).alloc _) ⟨hJ _ _ _ hj (hba.mono (by omega)), hf.below hba (by omega) (by omega)⟩
      ⟨V.heap.size, ⟨by simp [go_sem], by simp [go_sem], by simp [go_sem], by simp [go_sem], by simp [go_sem], by simp [go_sem], by simp [go_sem], by simp [go_sem], fun k => by simp [go_sem]⟩, hzV, rfl⟩
  case body =>
    rintro l' pre x a' V hzV ⟨hj, hf⟩ ⟨b, hD, hbb, rfl⟩ hpre
    obtain ⟨f0, f1, f2, rfl, hOD⟩ := hok.out x (hpre.subset (by simp))
    have hDb := hD.lt
    have hf0 := hf
    have hD0 := hD
    obtain ⟨g0, g1, g2, gy⟩ := hf
    obtain ⟨d0, d1, d2, d3, d4, d5, d6, d7, _⟩ := hD
    have hnV : nb < V.heap.size := by omega
    have hln : (ls.length : Int) ≤ 6 := by omega
    have hBV : B ≤ V.heap.size := by omega
    have hAlV := (hInv _ _ hj).2
    gi_wp2
    have hba := (Below.refl V.heap.size V).alloc (Nat.le_refl _) (.cells #[.int .i64 0, .int .i64 0, .int .i64 0, .int .i64 0, .int .i64 0, .int .i64 0, .int .i64 0, .int .i64 0, .int .i64 0, .int .i64 0, .int .i64 0, .int .i64 0] 135)
    have hS0 : SBox (V.alloc (.cells #[.int .i64 0, .int .i64 0, .int .i64 0, .int .i64 0, .int .i64 0, .int .i64 0, .int .i64 0, .int .i64 0, .int .i64 0, .int .i64 0, .int .i64 0, .int .i64 0] 135)) V.heap.size (padS []) := SBox.new V _
    have hzS : V.heap.size < (V.alloc (.cells #[.int .i64 0, .int .i64 0, .int .i64 0, .int .i64 0, .int .i64 0, .int .i64 0, .int .i64 0, .int .i64 0, .int .i64 0, .int .i64 0, .int .i64 0, .int .i64 0] 135)).heap.size := by simp
    generalize V.alloc (.cells #[.int .i64 0, .int .i64 0, .int .i64 0, .int .i64 0, .int .i64 0, .int .i64 0, .int .i64 0, .int .i64 0, .int .i64 0, .int .i64 0, .int .i64 0, .int .i64 0] 135) = Va at *
    have hDs := hD0.below hba hDb
    clear d0 d1 d2 d3 d4 d5 d6 d7 g0 g1 g2 gy
    gi_loopw [6, 18] (fun sv iv wr => ∃ (i : Nat) (prev : Int) (S : List Sp), i ≤ ls.length ∧ iv = .int .i64 i ∧ sv = .int .i64 prev ∧ S.length = i ∧ (0 ≤ prev ∧ prev ≤ 30000) ∧ Hid (fwdD set [f0, f1, f2] 0 ls = (fwdD set [f0, f1, f2] prev (ls.drop i)).map (S ++ ·)) ∧
        SBox wr V.heap.size (padS S) ∧ V.heap.size < wr.heap.size ∧ Below V.heap.size V wr) (fun _ iv _ => ls.length - (intOf iv).toNat)
    case atStart => exact ⟨0, 0, [], Nat.zero_le _, by simp, by simp, rfl, by omega, hid (by simp), hS0, hzS, hba⟩
    case round =>
      obtain ⟨i, prev, S, hi, rfl, rfl, hSl, hpv, HF, hS, hzr, hBr⟩ := hrel
      by_cases hlt : i < ls.length
      · have hi1 : i + 1 ≤ ls.length := hlt
        obtain ⟨lb, lo, rfl, hlb, l0, l1, l2⟩ := (hAlV.below (hBr.mono hBV)).ln hlt
        have HFD := hid (fwdD_drop set [f0, f1, f2] prev ls i hlt)
        have hlok := hb ls[i] (List.getElem_mem hlt)
        generalize ls[i] = x at *
        have hx := hlok
        simp only [lineB, isReadingB, minutesB, Bool.and_eq_true, decide_eq_true_eq] at hx
        obtain ⟨⟨hr1, hr2⟩, hk1, hk2, hk3⟩ := hx
        gi_wp2_with fail
        obtain ⟨wc, hwc⟩ : ∃ wc, wc = wr.alloc (.cells #[.int .i64 x.r, .int .i64 x.k.lo, .int .i64 x.k.hi] 67) := ⟨_, rfl⟩
        have hbc : Below wr.heap.size wr wc := by rw [hwc]; exact (Below.refl _ _).alloc (Nat.le_refl _) _
        have hzc : wr.heap.size < wc.heap.size := by rw [hwc]; simp
        have q0 : wc.cell? ⟨wr.heap.size, 0, none⟩ = some (.int .i64 x.r) := by rw [hwc]; simp [go_sem]
        have q1 : wc.cell? ⟨wr.heap.size, 1, none⟩ = some (.int .i64 x.k.lo) := by rw [hwc]; simp [go_sem]
        have q2 : wc.cell? ⟨wr.heap.size, 2, none⟩ = some (.int .i64 x.k.hi) := by rw [hwc]; simp [go_sem]
        rw [← hwc]
        clear hwc
        have hSc := hS.below hbc hzr
        have hDc := (hD0.below hBr hDb).below hbc (by omega)
        obtain ⟨d0, d1, d2, d3, d4, d5, d6, d7, _⟩ := hDc
        simp only [show nth3 [f0, f1, f2] 0 = f0 from rfl, show nth3 [f0, f1, f2] 1 = f1 from rfl, show nth3 [f0, f1, f2] 2 = f2 from rfl] at d2 d3 d4 d5 d6 d7
        obtain ⟨v0, v1⟩ := hSc.wr i (by omega)
        have hbz : b < wc.heap.size := by omega
        have hsz : V.heap.size < wc.heap.size := by omega
        have hiI : (i : Int) < 6 := by omega
        refine wpIn_region_held_drew (S := (fun w' => (w'.cell? ⟨wr.heap.size, 0, none⟩ = some (.int .i64 x.r) ∧ w'.cell? ⟨wr.heap.size, 1, none⟩ = some (.int .i64 x.k.lo) ∧ w'.cell? ⟨wr.heap.size, 2, none⟩ = some (.int .i64 x.k.hi) ∧
          w'.cell? ⟨b, 0, none⟩ = some (.int .i64 set) ∧ w'.cell? ⟨b, 1, none⟩ = some (.slice A fs.length cap) ∧ w'.cell? ⟨b, 2, none⟩ = some (.int .i64 f0.lo) ∧ w'.cell? ⟨b, 3, none⟩ = some (.int .i64 f0.hi) ∧ w'.cell? ⟨b, 4, none⟩ = some (.int .i64 f1.lo) ∧
          w'.cell? ⟨b, 5, none⟩ = some (.int .i64 f1.hi) ∧ w'.cell? ⟨b, 6, none⟩ = some (.int .i64 f2.lo) ∧ w'.cell? ⟨b, 7, none⟩ = some (.int .i64 f2.hi) ∧ Wr w' V.heap.size (i * 2) ∧ Wr w' V.heap.size (i * 2 + 1)) ∧ Below V.heap.size wc w')) (by kernel_rfl) ?_ (by kernel_rfl) ?_ (fun hHeld => ?_)
        · rintro ⟨_, _, h⟩; exact h
        · (try dsimp only); ((refine ⟨?_, ?_⟩; (focus (first | (simp [go_sem, wr_set, wr_drew, wr_drewN, wr_alloc, wr_new]; done) | (simp [go_sem, wr_set, wr_drew, wr_drewN, wr_alloc, wr_new, *]; done) | (simp (disch := go_size) [go_sem, wr_set, wr_drew, wr_drewN, wr_alloc, wr_new, *]; done))); (repeat' (first | (with_reducible exact Below.refl _ _) | (with_reducible assumption) | (with_reducible refine Below.drew ?_) | (with_reducible refine below_drewN ?_ _) | (with_reducible refine Below.setCell ?_ ?_ _) | (with_reducible refine Below.alloc ?_ ?_ _) | go_size | (exact Below.size (by assumption)) | (refine Below.trans ?_ (Below.mono (by assumption) ?_))))))
        refine wpAnyH_take (i := 0) (v := ?_) (by simp only [List.getElem?_toArray, List.getElem?_cons_succ, List.getElem?_cons_zero]; rfl) (by kernel_rfl) (by kernel_rfl) (by kernel_rfl) (by exact fun _ _ _ h => h) (Or.inl ⟨by rfl, ?_⟩) (by assumption) ?_; rotate_left 1; (focus (intro w hSw; (try dsimp only at hSw); go_simp; (try (with_reducible rfl)))); (try simp only [Act.put, List.setIfInBounds_toArray, List.set_cons_zero, List.set_cons_succ])
        refine wpAnyH_take (i := 1) (v := ?_) (by simp only [List.getElem?_toArray, List.getElem?_cons_succ, List.getElem?_cons_zero]; rfl) (by kernel_rfl) (by kernel_rfl) (by kernel_rfl) (by exact fun _ _ _ h => h) (Or.inl ⟨by rfl, ?_⟩) (by assumption) ?_; rotate_left 1; (focus (intro w hSw; (try dsimp only at hSw); go_simp; (try (with_reducible rfl)))); (try simp only [Act.put, List.setIfInBounds_toArray, List.set_cons_zero, List.set_cons_succ])
        refine wpAnyH_take (i := 2) (v := ?_) (by simp only [List.getElem?_toArray, List.getElem?_cons_succ, List.getElem?_cons_zero]; rfl) (by kernel_rfl) (by kernel_rfl) (by kernel_rfl) (by exact fun _ _ _ h => h) (Or.inl ⟨by rfl, ?_⟩) (by assumption) ?_; rotate_left 1; (focus (intro w hSw; (try dsimp only at hSw); go_simp; (try (with_reducible rfl)))); (try simp only [Act.put, List.setIfInBounds_toArray, List.set_cons_zero, List.set_cons_succ])
        refine wpAnyH_take (i := 3) (v := ?_) (by simp only [List.getElem?_toArray, List.getElem?_cons_succ, List.getElem?_cons_zero]; rfl) (by kernel_rfl) (by kernel_rfl) (by kernel_rfl) (by exact fun _ _ _ h => h) (Or.inl ⟨by rfl, ?_⟩) (by assumption) ?_; rotate_left 1; (focus (intro w hSw; (try dsimp only at hSw); go_simp; (try (with_reducible rfl)))); (try simp only [Act.put, List.setIfInBounds_toArray, List.set_cons_zero, List.set_cons_succ])
        refine wpAnyH_take (i := 4) (v := ?_) (by simp only [List.getElem?_toArray, List.getElem?_cons_succ, List.getElem?_cons_zero]; rfl) (by kernel_rfl) (by kernel_rfl) (by kernel_rfl) (by exact fun _ _ _ h => h) (Or.inl ⟨by rfl, ?_⟩) (by assumption) ?_; rotate_left 1; (focus (intro w hSw; (try dsimp only at hSw); go_simp; (try (with_reducible rfl)))); (try simp only [Act.put, List.setIfInBounds_toArray, List.set_cons_zero, List.set_cons_succ])
        refine wpAnyH_take (i := 5) (v := ?_) (by simp only [List.getElem?_toArray, List.getElem?_cons_succ, List.getElem?_cons_zero]; rfl) (by kernel_rfl) (by kernel_rfl) (by kernel_rfl) (by exact fun _ _ _ h => h) (Or.inl ⟨by rfl, ?_⟩) (by assumption) ?_; rotate_left 1; (focus (intro w hSw; (try dsimp only at hSw); go_simp; (try (with_reducible rfl)))); (try simp only [Act.put, List.setIfInBounds_toArray, List.set_cons_zero, List.set_cons_succ])
        refine wpAnyH_take (i := 6) (v := ?_) (by simp only [List.getElem?_toArray, List.getElem?_cons_succ, List.getElem?_cons_zero]; rfl) (by kernel_rfl) (by kernel_rfl) (by kernel_rfl) (by exact fun _ _ _ h => h) (Or.inl ⟨by rfl, ?_⟩) (by assumption) ?_; rotate_left 1; (focus (intro w hSw; (try dsimp only at hSw); go_simp; (try (with_reducible rfl)))); (try simp only [Act.put, List.setIfInBounds_toArray, List.set_cons_zero, List.set_cons_succ])
        refine wpAnyH_take (i := 7) (v := ?_) (by simp only [List.getElem?_toArray, List.getElem?_cons_succ, List.getElem?_cons_zero]; rfl) (by kernel_rfl) (by kernel_rfl) (by kernel_rfl) (by exact fun _ _ _ h => h) (Or.inl ⟨by rfl, ?_⟩) (by assumption) ?_; rotate_left 1; (focus (intro w hSw; (try dsimp only at hSw); go_simp; (try (with_reducible rfl)))); (try simp only [Act.put, List.setIfInBounds_toArray, List.set_cons_zero, List.set_cons_succ])
        refine wpAnyH_take (i := 10) (v := ?_) (by simp only [List.getElem?_toArray, List.getElem?_cons_succ, List.getElem?_cons_zero]; rfl) (by kernel_rfl) (by kernel_rfl) (by kernel_rfl) (by exact fun _ _ _ h => h) (Or.inl ⟨by rfl, ?_⟩) (by assumption) ?_; rotate_left 1; (focus (intro w hSw; (try dsimp only at hSw); go_simp; (try (with_reducible rfl)))); (try simp only [Act.put, List.setIfInBounds_toArray, List.set_cons_zero, List.set_cons_succ])
        refine wpAnyH_take (i := 11) (v := ?_) (by simp only [List.getElem?_toArray, List.getElem?_cons_succ, List.getElem?_cons_zero]; rfl) (by kernel_rfl) (by kernel_rfl) (by kernel_rfl) (by exact fun _ _ _ h => h) (Or.inl ⟨by rfl, ?_⟩) (by assumption) ?_; rotate_left 1; (focus (intro w hSw; (try dsimp only at hSw); go_simp; (try (with_reducible rfl)))); (try simp only [Act.put, List.setIfInBounds_toArray, List.set_cons_zero, List.set_cons_succ])
        refine wpAnyH_take (i := 12) (v := ?_) (by simp only [List.getElem?_toArray, List.getElem?_cons_succ, List.getElem?_cons_zero]; rfl) (by kernel_rfl) (by kernel_rfl) (by kernel_rfl) (by exact fun _ _ _ h => h) (Or.inl ⟨by rfl, ?_⟩) (by assumption) ?_; rotate_left 1; (focus (intro w hSw; (try dsimp only at hSw); go_simp; (try (with_reducible rfl)))); (try simp only [Act.put, List.setIfInBounds_toArray, List.set_cons_zero, List.set_cons_succ])
        refine wpAnyH_ready (rs := [8]) (by kernel_rfl) (by simp) ?_; refine AllReadyH.cons (by simp only [List.getElem?_toArray, List.getElem?_cons_succ, List.getElem?_cons_zero]; rfl) (fun K hK => ?_) AllReadyH.nil; go_simp
        refine hK.out _ _ ?_ (fun hHeld => ?_); (focus ((try dsimp only); ((refine ⟨?_, ?_⟩; (focus (first | (simp [go_sem, wr_set, wr_drew, wr_drewN, wr_alloc, wr_new]; done) | (simp [go_sem, wr_set, wr_drew, wr_drewN, wr_alloc, wr_new, *]; done) | (simp (disch := go_size) [go_sem, wr_set, wr_drew, wr_drewN, wr_alloc, wr_new, *]; done))); (repeat' (first | (with_reducible exact Below.refl _ _) | (with_reducible assumption) | (with_reducible refine Below.drew ?_) | (with_reducible refine below_drewN ?_ _) | (with_reducible refine Below.setCell ?_ ?_ _) | (with_reducible refine Below.alloc ?_ ?_ _) | go_size | (exact Below.size (by assumption)) | (refine Below.trans ?_ (Below.mono (by assumption) ?_)))))))); clear hK K; (try simp only [Act.put, List.setIfInBounds_toArray, List.set_cons_zero, List.set_cons_succ])
        refine wpAnyH_ready (rs := [9]) (by kernel_rfl) (by simp) ?_; refine AllReadyH.cons (by simp only [List.getElem?_toArray, List.getElem?_cons_succ, List.getElem?_cons_zero]; rfl) (fun K hK => ?_) AllReadyH.nil; go_simp
        go_at_call 93
        refine (greatest_at _ _ _ _ prev _ ?_).mono ?_
        · (first | (simp [go_sem, wr_set, wr_drew, wr_drewN, wr_alloc, wr_new]; done) | (simp [go_sem, wr_set, wr_drew, wr_drewN, wr_alloc, wr_new, *]; done) | (simp (disch := go_size) [go_sem, wr_set, wr_drew, wr_drewN, wr_alloc, wr_new, *]; done))
        rintro e w4 ⟨rfl, rfl⟩
        (try go_wp2_with fail)
        refine hK.out _ _ ?_ (fun hHeld => ?_); (focus ((try dsimp only); ((refine ⟨?_, ?_⟩; (focus (first | (simp [go_sem, wr_set, wr_drew, wr_drewN, wr_alloc, wr_new]; done) | (simp [go_sem, wr_set, wr_drew, wr_drewN, wr_alloc, wr_new, *]; done) | (simp (disch := go_size) [go_sem, wr_set, wr_drew, wr_drewN, wr_alloc, wr_new, *]; done))); (repeat' (first | (with_reducible exact Below.refl _ _) | (with_reducible assumption) | (with_reducible refine Below.drew ?_) | (with_reducible refine below_drewN ?_ _) | (with_reducible refine Below.setCell ?_ ?_ _) | (with_reducible refine Below.alloc ?_ ?_ _) | go_size | (exact Below.size (by assumption)) | (refine Below.trans ?_ (Below.mono (by assumption) ?_)))))))); clear hK K; (try simp only [Act.put, List.setIfInBounds_toArray, List.set_cons_zero, List.set_cons_succ])
        refine wpAnyH_take (i := 13) (v := ?_) (by simp only [List.getElem?_toArray, List.getElem?_cons_succ, List.getElem?_cons_zero]; rfl) (by kernel_rfl) (by kernel_rfl) (by kernel_rfl) (by exact fun _ _ _ h => h) (Or.inl ⟨by rfl, ?_⟩) (by assumption) ?_; rotate_left 1; (focus (intro w hSw; (try dsimp only at hSw); go_simp; (try (with_reducible rfl)))); (try simp only [Act.put, List.setIfInBounds_toArray, List.set_cons_zero, List.set_cons_succ])
        refine wpAnyH_ready (rs := [14]) (by kernel_rfl) (by simp) ?_; refine AllReadyH.cons (by simp only [List.getElem?_toArray, List.getElem?_cons_succ, List.getElem?_cons_zero]; rfl) (fun K hK => ?_) AllReadyH.nil; go_simp
        have HL : Hid (lineD set [f0, f1, f2] prev x = tellD set [f0, f1, f2] 1 x.r ⟨max x.k.lo prev, x.k.hi⟩) := hid rfl
        refine (dTell_any set A fs.length cap f0 f1 f2 1 x.r (max x.k.lo prev) x.k.hi _ hs hOD (.inr (.inl ⟨rfl, hr1, hr2⟩))).mono ?_
        rintro e w5 ⟨rfl, hb5⟩; (first | replace hb5 := Below.un1 hb5 | replace hb5 := Below.un2 hb5 | skip); obtain ⟨hc5, hf5, hl5, hm5, hw5⟩ := bcell hb5; have hz5 := hb5.size; (try simp only [World.size_alloc, World.size_setCell] at hz5)
        rw [← HL.out]
        generalize lineD set [f0, f1, f2] prev x = s at *
        (try go_wp2_with fail)
        refine hK.out _ _ ?_ (fun hHeld => ?_); (focus ((try dsimp only); ((refine ⟨?_, ?_⟩; (focus (first | (simp [go_sem, wr_set, wr_drew, wr_drewN, wr_alloc, wr_new]; done) | (simp [go_sem, wr_set, wr_drew, wr_drewN, wr_alloc, wr_new, *]; done) | (simp (disch := go_size) [go_sem, wr_set, wr_drew, wr_drewN, wr_alloc, wr_new, *]; done))); (repeat' (first | (with_reducible exact Below.refl _ _) | (with_reducible assumption) | (with_reducible refine Below.drew ?_) | (with_reducible refine below_drewN ?_ _) | (with_reducible refine Below.setCell ?_ ?_ _) | (with_reducible refine Below.alloc ?_ ?_ _) | go_size | (exact Below.size (by assumption)) | (refine Below.trans ?_ (Below.mono (by assumption) ?_)))))))); clear hK K; (try simp only [Act.put, List.setIfInBounds_toArray, List.set_cons_zero, List.set_cons_succ])
        refine wpAnyH_take (i := 15) (v := ?_) (by simp only [List.getElem?_toArray, List.getElem?_cons_succ, List.getElem?_cons_zero]; rfl) (by kernel_rfl) (by kernel_rfl) (by kernel_rfl) (by exact fun _ _ _ h => h) (Or.inl ⟨by rfl, ?_⟩) (by assumption) ?_; rotate_left 1; (focus (intro w hSw; (try dsimp only at hSw); go_simp; (try (with_reducible rfl)))); (try simp only [Act.put, List.setIfInBounds_toArray, List.set_cons_zero, List.set_cons_succ])
        refine wpAnyH_ready (rs := [16]) (by kernel_rfl) (by simp) ?_; refine AllReadyH.cons (by simp only [List.getElem?_toArray, List.getElem?_cons_succ, List.getElem?_cons_zero]; rfl) (fun K hK => ?_) AllReadyH.nil; go_simp
        refine hK.out _ _ ?_ (fun hHeld => ?_); (focus ((try dsimp only); ((refine ⟨?_, ?_⟩; (focus (first | (simp [go_sem, wr_set, wr_drew, wr_drewN, wr_alloc, wr_new]; done) | (simp [go_sem, wr_set, wr_drew, wr_drewN, wr_alloc, wr_new, *]; done) | (simp (disch := go_size) [go_sem, wr_set, wr_drew, wr_drewN, wr_alloc, wr_new, *]; done))); (repeat' (first | (with_reducible exact Below.refl _ _) | (with_reducible assumption) | (with_reducible refine Below.drew ?_) | (with_reducible refine below_drewN ?_ _) | (with_reducible refine Below.setCell ?_ ?_ _) | (with_reducible refine Below.alloc ?_ ?_ _) | go_size | (exact Below.size (by assumption)) | (refine Below.trans ?_ (Below.mono (by assumption) ?_)))))))); clear hK K; (try simp only [Act.put, List.setIfInBounds_toArray, List.set_cons_zero, List.set_cons_succ])
        refine wpAnyH_done (by kernel_rfl) ?_ _
        have hb6 : Below wc.heap.size wc w5 := Below.of_allocs hb5
        have hS6 := ((hSc.below hb6 hsz).set i (by omega) s)
        have hB6 : Below V.heap.size V ((w5.setCell ⟨V.heap.size, i * 2, none⟩ (.int .i64 s.lo)).setCell ⟨V.heap.size, i * 2 + 1, none⟩ (.int .i64 s.hi)) :=
          (((hBr.trans (hbc.mono (by omega))).trans (hb6.mono (by omega))).setCell (p := ⟨V.heap.size, i * 2, none⟩) (by simp) _).setCell (p := ⟨V.heap.size, i * 2 + 1, none⟩) (by simp) _
        have hz6 : V.heap.size < ((w5.setCell ⟨V.heap.size, i * 2, none⟩ (.int .i64 s.lo)).setCell ⟨V.heap.size, i * 2 + 1, none⟩ (.int .i64 s.hi)).heap.size := by have := hb6.size; simp; omega
        rw [← hSl, padS_snoc S s (by omega), hSl] at hS6
        generalize (w5.setCell ⟨V.heap.size, i * 2, none⟩ (.int .i64 s.lo)).setCell ⟨V.heap.size, i * 2 + 1, none⟩ (.int .i64 s.hi) = w6 at *
        have hss : nth6 (padS (S ++ [s])) i = s := by rw [nth6_padS, nth6_get _ _ (by simp; omega)]; simp [← hSl]
        have k0 := hS6.lo i (by omega)
        have k1 := hS6.hi i (by omega)
        rw [hss] at k0 k1
        have HSS := hid hss
        clear hss hb5 hb6 hHeld d0 d1 d2 d3 d4 d5 d6 d7 q0 q1 q2 v0 v1 hSc hbc hzc hc5 hf5 hl5 hm5 hw5 hz5
        have hsb : prev ≤ s.lo ∧ s.hi ≤ 4319 := by rw [HL.out]; simp only [tellD]; omega
        clear HL
        by_cases hv : s.hi < s.lo
        · have HN : Hid (courseD set [f0, f1, f2] ls = none) := hid (by unfold courseD; rw [HF.out, HFD.out, if_pos hv]; rfl)
          gi_wp2_with (refine ⟨trivial, ?_⟩; gi_at_call 92; refine (callsIn_wide.2 (isEmpty_any _ _ _)).mono ?_; rintro e w7 ⟨rfl, hb7⟩; (first | replace hb7 := Below.un1 hb7 | replace hb7 := Below.un2 hb7 | skip); obtain ⟨hc7, hf7, hl7, hm7, hw7⟩ := bcell hb7; have hz7 := hb7.size; (try simp only [World.size_alloc, World.size_setCell] at hz7))
          have hB7 : Below V.heap.size V w7 := hB6.trans (hb7.mono (by omega))
          exact ⟨Mid.of_below hB7, by rw [coursesOf_none _ _ _ _ HN.out]; exact hJ _ _ _ hj (hB7.mono (by omega)), hf0.below hB7 (by omega) (by omega)⟩
        · have HN : Hid (fwdD set [f0, f1, f2] 0 ls = (fwdD set [f0, f1, f2] s.lo (ls.drop (i + 1))).map ((S ++ [s]) ++ ·)) := hid (by
            rw [HF.out, HFD.out, if_neg hv, Option.map_map]
            congr 1
            funext r
            simp)
          gi_wp2_with (refine ⟨trivial, ?_⟩; gi_at_call 92; refine (callsIn_wide.2 (isEmpty_any _ _ _)).mono ?_; rintro e w7 ⟨rfl, hb7⟩; (first | replace hb7 := Below.un1 hb7 | replace hb7 := Below.un2 hb7 | skip); obtain ⟨hc7, hf7, hl7, hm7, hw7⟩ := bcell hb7; have hz7 := hb7.size; (try simp only [World.size_alloc, World.size_setCell] at hz7))
          exact ⟨⟨i + 1, s.lo, S ++ [s], hi1, by go_num, rfl, by simp [hSl], by omega, HN, hS6.below hb7 hz6, by omega, hB6.trans (hb7.mono (by omega))⟩, by simp [intOf]; omega⟩
      · obtain rfl : i = ls.length := by omega
        have HC : Hid (courseD set [f0, f1, f2] ls = some (bwd S)) := hid (by unfold courseD; rw [HF.out, List.drop_length]; simp [fwdD])
        have hfr := hf0.below hBr hnV (by omega)
        obtain ⟨g0, g1, g2, gy⟩ := hfr
        gi_wp2
        have hSs : SBox wr V.heap.size (padS (S.take ((ls.length : Int) - 2 + 1).toNat ++ bwd (S.drop ((ls.length : Int) - 2 + 1).toNat))) := by
          rw [bwd_start S _ (by rw [hSl])]; exact hS
        clear hS g0 g1 g2 gy
        gi_loopw [9] (fun iv wz => ∃ (z : Int), iv = .int .i64 z ∧ -2 ≤ z ∧ z + 2 ≤ ls.length ∧ SBox wz V.heap.size (padS (S.take (z + 1).toNat ++ bwd (S.drop (z + 1).toNat))) ∧ V.heap.size < wz.heap.size ∧ Below V.heap.size V wz) (fun iv _ => (intOf iv + 2).toNat)
        case atStart => exact ⟨(ls.length : Int) - 2, rfl, by omega, by omega, hSs, hzr, hBr⟩
        case round =>
          obtain ⟨z, rfl, hz0, hz1, hSz, hzz, hBz⟩ := hrel
          by_cases hzp : 0 ≤ z
          · obtain ⟨j, rfl⟩ := Int.eq_ofNat_of_zero_le hzp
            have hjS : j + 1 < S.length := by omega
            have hj6 : j + 1 < 6 := by omega
            have hjt : ((j : Int) + 1).toNat = j + 1 := by omega
            rw [hjt] at hSz
            have hj6' : (j : Int) + 1 < 6 := by omega
            have hjI : (j : Int) < 6 := by omega
            have hjw : IntKind.i64.wrap ((j : Int) + 1) = (j : Int) + 1 := IntWalk.i64_in _ (by omega)
            have hjn : (0 : Int) ≤ (j : Int) + 1 := by omega
            have k0 := hSz.hi j (by omega)
            have k1 := hSz.hi (j + 1) (by omega)
            have v0 := (hSz.wr j (by omega)).2
            gi_wp2

            refine wpIn_region_held_drew (S := (fun w' => (w'.cell? ⟨V.heap.size, (j + 1) * 2 + 1, none⟩ = some (.int .i64 (nth6 (padS (S.take (j + 1) ++ bwd (S.drop (j + 1)))) (j + 1)).hi) ∧ Wr w' V.heap.size (j * 2 + 1)) ∧ Below V.heap.size wr w')) (by kernel_rfl) ?_ (by kernel_rfl) ?_ (fun hHeld => ?_)
            · rintro ⟨_, _, h⟩; exact h
            · (try dsimp only); ((refine ⟨?_, ?_⟩; (focus (first | (simp [go_sem, wr_set, wr_drew, wr_drewN, wr_alloc, wr_new]; done) | (simp [go_sem, wr_set, wr_drew, wr_drewN, wr_alloc, wr_new, *]; done) | (simp (disch := go_size) [go_sem, wr_set, wr_drew, wr_drewN, wr_alloc, wr_new, *]; done))); (repeat' (first | (with_reducible exact Below.refl _ _) | (with_reducible assumption) | (with_reducible refine Below.drew ?_) | (with_reducible refine below_drewN ?_ _) | (with_reducible refine Below.setCell ?_ ?_ _) | (with_reducible refine Below.alloc ?_ ?_ _) | go_size | (exact Below.size (by assumption)) | (refine Below.trans ?_ (Below.mono (by assumption) ?_))))))
            refine wpAnyH_take (i := 0) (v := ?_) (by simp only [List.getElem?_toArray, List.getElem?_cons_succ, List.getElem?_cons_zero]; rfl) (by kernel_rfl) (by kernel_rfl) (by kernel_rfl) (by exact fun _ _ _ h => h) (Or.inl ⟨by rfl, ?_⟩) (by assumption) ?_; rotate_left 1; (focus (intro w hSw; (try dsimp only at hSw); go_simp; (try (with_reducible rfl)))); (try simp only [Act.put, List.setIfInBounds_toArray, List.set_cons_zero, List.set_cons_succ])
            refine wpAnyH_take (i := 1) (v := ?_) (by simp only [List.getElem?_toArray, List.getElem?_cons_succ, List.getElem?_cons_zero]; rfl) (by kernel_rfl) (by kernel_rfl) (by kernel_rfl) (by exact fun _ _ _ h => h) (Or.inl ⟨by rfl, ?_⟩) (by assumption) ?_; rotate_left 1; (focus (intro w hSw; (try dsimp only at hSw); go_simp; (try (with_reducible rfl)))); (try simp only [Act.put, List.setIfInBounds_toArray, List.set_cons_zero, List.set_cons_succ])
            refine wpAnyH_take (i := 2) (v := ?_) (by simp only [List.getElem?_toArray, List.getElem?_cons_succ, List.getElem?_cons_zero]; rfl) (by kernel_rfl) (by kernel_rfl) (by kernel_rfl) (by exact fun _ _ _ h => h) (Or.inl ⟨by rfl, ?_⟩) (by assumption) ?_; rotate_left 1; (focus (intro w hSw; (try dsimp only at hSw); go_simp; (try (with_reducible rfl)))); (try simp only [Act.put, List.setIfInBounds_toArray, List.set_cons_zero, List.set_cons_succ])
            refine wpAnyH_take (i := 3) (v := ?_) (by simp only [List.getElem?_toArray, List.getElem?_cons_succ, List.getElem?_cons_zero]; rfl) (by kernel_rfl) (by kernel_rfl) (by kernel_rfl) (by exact fun _ _ _ h => h) (Or.inl ⟨by rfl, ?_⟩) (by assumption) ?_; rotate_left 1; (focus (intro w hSw; (try dsimp only at hSw); go_simp; (try (with_reducible rfl)))); (try simp only [Act.put, List.setIfInBounds_toArray, List.set_cons_zero, List.set_cons_succ])
            refine wpAnyH_take (i := 5) (v := ?_) (by simp only [List.getElem?_toArray, List.getElem?_cons_succ, List.getElem?_cons_zero]; rfl) (by kernel_rfl) (by kernel_rfl) (by kernel_rfl) (by exact fun _ _ _ h => h) (Or.inl ⟨by rfl, ?_⟩) (by assumption) ?_; rotate_left 1; (focus (intro w hSw; (try dsimp only at hSw); go_simp; (try (with_reducible rfl)))); (try simp only [Act.put, List.setIfInBounds_toArray, List.set_cons_zero, List.set_cons_succ])
            refine wpAnyH_take (i := 6) (v := ?_) (by simp only [List.getElem?_toArray, List.getElem?_cons_succ, List.getElem?_cons_zero]; rfl) (by kernel_rfl) (by kernel_rfl) (by kernel_rfl) (by exact fun _ _ _ h => h) (Or.inl ⟨by rfl, ?_⟩) (by assumption) ?_; rotate_left 1; (focus (intro w hSw; (try dsimp only at hSw); go_simp; (try (with_reducible rfl)))); (try simp only [Act.put, List.setIfInBounds_toArray, List.set_cons_zero, List.set_cons_succ])
            refine wpAnyH_take (i := 7) (v := ?_) (by simp only [List.getElem?_toArray, List.getElem?_cons_succ, List.getElem?_cons_zero]; rfl) (by kernel_rfl) (by kernel_rfl) (by kernel_rfl) (by exact fun _ _ _ h => h) (Or.inl ⟨by rfl, ?_⟩) (by assumption) ?_; rotate_left 1; (focus (intro w hSw; (try dsimp only at hSw); go_simp; (try (with_reducible rfl)))); (try simp only [Act.put, List.setIfInBounds_toArray, List.set_cons_zero, List.set_cons_succ])
            refine wpAnyH_take (i := 8) (v := ?_) (by simp only [List.getElem?_toArray, List.getElem?_cons_succ, List.getElem?_cons_zero]; rfl) (by kernel_rfl) (by kernel_rfl) (by kernel_rfl) (by exact fun _ _ _ h => h) (Or.inl ⟨by rfl, ?_⟩) (by assumption) ?_; rotate_left 1; (focus (intro w hSw; (try dsimp only at hSw); go_simp; (try (with_reducible rfl)))); (try simp only [Act.put, List.setIfInBounds_toArray, List.set_cons_zero, List.set_cons_succ])
            refine wpAnyH_take (i := 9) (v := ?_) (by simp only [List.getElem?_toArray, List.getElem?_cons_succ, List.getElem?_cons_zero]; rfl) (by kernel_rfl) (by kernel_rfl) (by kernel_rfl) (by exact fun _ _ _ h => h) (Or.inl ⟨by rfl, ?_⟩) (by assumption) ?_; rotate_left 1; (focus (intro w hSw; (try dsimp only at hSw); go_simp; (try (with_reducible rfl)))); (try simp only [Act.put, List.setIfInBounds_toArray, List.set_cons_zero, List.set_cons_succ])
            refine wpAnyH_ready (rs := [4]) (by kernel_rfl) (by simp) ?_; refine AllReadyH.cons (by simp only [List.getElem?_toArray, List.getElem?_cons_succ, List.getElem?_cons_zero]; rfl) (fun K hK => ?_) AllReadyH.nil; go_simp
            refine hK.out _ _ ?_ (fun hHeld => ?_); (focus ((try dsimp only); ((refine ⟨?_, ?_⟩; (focus (first | (simp [go_sem, wr_set, wr_drew, wr_drewN, wr_alloc, wr_new]; done) | (simp [go_sem, wr_set, wr_drew, wr_drewN, wr_alloc, wr_new, *]; done) | (simp (disch := go_size) [go_sem, wr_set, wr_drew, wr_drewN, wr_alloc, wr_new, *]; done))); (repeat' (first | (with_reducible exact Below.refl _ _) | (with_reducible assumption) | (with_reducible refine Below.drew ?_) | (with_reducible refine below_drewN ?_ _) | (with_reducible refine Below.setCell ?_ ?_ _) | (with_reducible refine Below.alloc ?_ ?_ _) | go_size | (exact Below.size (by assumption)) | (refine Below.trans ?_ (Below.mono (by assumption) ?_)))))))); clear hK K; (try simp only [Act.put, List.setIfInBounds_toArray, List.set_cons_zero, List.set_cons_succ])
            refine wpAnyH_ready (rs := [10]) (by kernel_rfl) (by simp) ?_; refine AllReadyH.cons (by simp only [List.getElem?_toArray, List.getElem?_cons_succ, List.getElem?_cons_zero]; rfl) (fun K hK => ?_) AllReadyH.nil; go_simp
            refine hK.out _ _ ?_ (fun hHeld => ?_); (focus ((try dsimp only); ((refine ⟨?_, ?_⟩; (focus (first | (simp [go_sem, wr_set, wr_drew, wr_drewN, wr_alloc, wr_new]; done) | (simp [go_sem, wr_set, wr_drew, wr_drewN, wr_alloc, wr_new, *]; done) | (simp (disch := go_size) [go_sem, wr_set, wr_drew, wr_drewN, wr_alloc, wr_new, *]; done))); (repeat' (first | (with_reducible exact Below.refl _ _) | (with_reducible assumption) | (with_reducible refine Below.drew ?_) | (with_reducible refine below_drewN ?_ _) | (with_reducible refine Below.setCell ?_ ?_ _) | (with_reducible refine Below.alloc ?_ ?_ _) | go_size | (exact Below.size (by assumption)) | (refine Below.trans ?_ (Below.mono (by assumption) ?_)))))))); clear hK K; (try simp only [Act.put, List.setIfInBounds_toArray, List.set_cons_zero, List.set_cons_succ])
            refine wpAnyH_take (i := 11) (v := ?_) (by simp only [List.getElem?_toArray, List.getElem?_cons_succ, List.getElem?_cons_zero]; rfl) (by kernel_rfl) (by kernel_rfl) (by kernel_rfl) (by exact fun _ _ _ h => h) (Or.inl ⟨by rfl, ?_⟩) (by assumption) ?_; rotate_left 1; (focus (intro w hSw; (try dsimp only at hSw); go_simp; (try (with_reducible rfl)))); (try simp only [Act.put, List.setIfInBounds_toArray, List.set_cons_zero, List.set_cons_succ])
            refine wpAnyH_take (i := 12) (v := ?_) (by simp only [List.getElem?_toArray, List.getElem?_cons_succ, List.getElem?_cons_zero]; rfl) (by kernel_rfl) (by kernel_rfl) (by kernel_rfl) (by exact fun _ _ _ h => h) (Or.inl ⟨by rfl, ?_⟩) (by assumption) ?_; rotate_left 1; (focus (intro w hSw; (try dsimp only at hSw); go_simp; (try (with_reducible rfl)))); (try simp only [Act.put, List.setIfInBounds_toArray, List.set_cons_zero, List.set_cons_succ])
            refine wpAnyH_ready (rs := [13]) (by kernel_rfl) (by simp) ?_; refine AllReadyH.cons (by simp only [List.getElem?_toArray, List.getElem?_cons_succ, List.getElem?_cons_zero]; rfl) (fun K hK => ?_) AllReadyH.nil; go_simp
            refine hK.out _ _ ?_ (fun hHeld => ?_); (focus ((try dsimp only); ((refine ⟨?_, ?_⟩; (focus (first | (simp [go_sem, wr_set, wr_drew, wr_drewN, wr_alloc, wr_new]; done) | (simp [go_sem, wr_set, wr_drew, wr_drewN, wr_alloc, wr_new, *]; done) | (simp (disch := go_size) [go_sem, wr_set, wr_drew, wr_drewN, wr_alloc, wr_new, *]; done))); (repeat' (first | (with_reducible exact Below.refl _ _) | (with_reducible assumption) | (with_reducible refine Below.drew ?_) | (with_reducible refine below_drewN ?_ _) | (with_reducible refine Below.setCell ?_ ?_ _) | (with_reducible refine Below.alloc ?_ ?_ _) | go_size | (exact Below.size (by assumption)) | (refine Below.trans ?_ (Below.mono (by assumption) ?_)))))))); clear hK K; (try simp only [Act.put, List.setIfInBounds_toArray, List.set_cons_zero, List.set_cons_succ])
            refine wpAnyH_done (by kernel_rfl) ?_ _
            gi_wp2
            have hjm : ((j : Int) - 1 + 1).toNat = j := by omega
            refine ⟨⟨(j : Int) - 1, rfl, by omega, by omega, ?_, by simp; exact hzz, ?_⟩, by simp [intOf]; omega⟩
            · rw [hjm, ← padS_round S j hjS (by omega)]
              exact (hSz.setHi j (by omega) _).below ((Below.refl (V.heap.size + 1) _).drew) (by omega)
            · exact (hBz.setCell (p := ⟨V.heap.size, j * 2 + 1, none⟩) (by simp) _).drew
          · have hk0 : (z + 1).toNat = 0 := by omega
            rw [hk0, List.take_zero, List.nil_append, List.drop_zero] at hSz
            have hJw := hJ _ _ _ hj (hBz.mono (by omega))
            have hDz := hD0.below hBz hDb
            have hfz := hf0.below hBz hnV (by omega)
            have hsp : coursesOf set ls pre ++ [([f0, f1, f2], bwd S)] <+: coursesL set fs m ls := by
              have h := coursesOf_some set ls pre [f0, f1, f2] (bwd S) HC.out
              rw [← h]
              exact List.IsPrefix.filterMap _ hpre
            obtain ⟨fn, tmps, assign, body, hy, hR⟩ := hY _ _ wr hJw (by have := hBz.size; omega) hsp
            unfold dialV spansV at hy
            simp only [show nth3 [f0, f1, f2] 0 = f0 from rfl, show nth3 [f0, f1, f2] 1 = f1 from rfl, show nth3 [f0, f1, f2] 2 = f2 from rfl] at hy
            have gy := hfz.y
            obtain ⟨d0, d1, d2, d3, d4, d5, d6, d7, _⟩ := hDz
            simp only [show nth3 [f0, f1, f2] 0 = f0 from rfl, show nth3 [f0, f1, f2] 1 = f1 from rfl, show nth3 [f0, f1, f2] 2 = f2 from rfl] at d2 d3 d4 d5 d6 d7
            have s0 := hSz.lo 0 (by omega)
            have s1 := hSz.hi 0 (by omega)
            have s2 := hSz.lo 1 (by omega)
            have s3 := hSz.hi 1 (by omega)
            have s4 := hSz.lo 2 (by omega)
            have s5 := hSz.hi 2 (by omega)
            have s6 := hSz.lo 3 (by omega)
            have s7 := hSz.hi 3 (by omega)
            have s8 := hSz.lo 4 (by omega)
            have s9 := hSz.hi 4 (by omega)
            have s10 := hSz.lo 5 (by omega)
            have s11 := hSz.hi 5 (by omega)
            simp only [nth6_padS, Nat.reduceMul, Nat.reduceAdd, Nat.zero_mul, Nat.zero_add] at s0 s1 s2 s3 s4 s5 s6 s7 s8 s9 s10 s11
            gi_wp2
            refine RoundIn.mono (show RoundIn (Fence.wide.inRound l') 4 _ _ _ _ _ _ _ _ from hR 4) ?_
            rintro e V' (⟨rfl, hJ', hm'⟩ | ⟨rfl, hJ', hm'⟩)
            · gi_wp2
              have hzz := hBz.size
              refine ⟨(Mid.of_below hBz).trans (hm'.mid (by omega) (by omega)), by rw [coursesOf_some _ _ _ _ _ HC.out]; exact hJ', hfz.of_cells fun b o hbo => hm'.cell (p := ⟨b, o, none⟩) ?_ ?_ ?_⟩
              all_goals (simp only; omega)
            · gi_wp2
              have hzz := hBz.size
              exact ⟨(Mid.of_below hBz).trans (hm'.mid (by omega) (by omega)), rfl, _, _, hsp, hJ'⟩
  case done =>
    rintro D V hD ⟨hj, hf⟩ hK
    gi_wp2
    refine ⟨by simp, .inl ⟨_, _, rfl, run_takeDeferred (ds := []) hK, ?_⟩⟩
    have hDV : D < V.heap.size := (Array.getElem?_eq_some_iff.1 hK).1
    have uB : Below W.heap.size V (V.putObj D (.deferred none)) := (Below.refl W.heap.size V).grown (grownBy_putObj' V D (.deferred none)) (by omega) (fun k e => by cases e; omega)
    exact ⟨.tuple #[], by simp [results, Try.results101, go_sem], ⟨_, rfl⟩, .inl (hJ _ _ _ hj uB)⟩
  case stop =>
    rintro D j pre x V hD hp ⟨rfl, pre', y, hp', hj⟩ hK
    gi_wp2
    refine ⟨by simp, .inl ⟨_, _, rfl, run_takeDeferred (ds := []) hK, ?_⟩⟩
    have hDV : D < V.heap.size := (Array.getElem?_eq_some_iff.1 hK).1
    have uB : Below W.heap.size V (V.putObj D (.deferred none)) := (Below.refl W.heap.size V).grown (grownBy_putObj' V D (.deferred none)) (by omega) (fun k e => by cases e; omega)
    exact ⟨.tuple #[], by simp [results, Try.results101, go_sem], ⟨_, rfl⟩, .inr ⟨pre', y, hp', hJx _ _ _ hj uB⟩⟩
end Go.Proofs.Ytnkbcapikenbbaa
