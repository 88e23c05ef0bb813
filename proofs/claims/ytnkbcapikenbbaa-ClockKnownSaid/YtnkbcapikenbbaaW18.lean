/- ClockKnown: the clocks that are none. -/
import Derived.Test.YtnkbcapikenbbaaW17
import Derived.Test.YtnkbcapikenbbaaZ2
namespace Go.Proofs.Ytnkbcapikenbbaa
set_option linter.unusedSimpArgs false
set_option linter.unusedVariables false
open Go.RowKit Go.Shelf
attribute [local go_sem high] cell_set_wr
attribute [local go_sem low] cell_wr frozen_wr
attribute [local go_sem] wr_set wr_drew wr_drewN wr_alloc wr_new

def FC : Array Value := #[.int .i64 50, .int .i64 52, .int .i64 80, .int .i64 81, .int .i64 200, .int .i64 200, .int .i64 210, .int .i64 212]
def ZC : Array Value := #[.int .i64 0, .int .i64 0, .int .i64 0, .int .i64 0, .int .i64 0, .int .i64 0, .int .i64 0, .int .i64 0, .int .i64 0, .int .i64 0, .int .i64 0, .int .i64 0, .int .i64 0, .int .i64 0, .int .i64 0, .int .i64 0]
def sl (G n : Nat) : Value := .slice (some ⟨G, 0, none⟩) n n
def FV (G : Nat) : Value := .agg #[.int .i64 100, .slice (some ⟨G, 0, none⟩) 2 2]
/-- a block from some size on -/
def Blk (N G : Nat) (cs : Array Value) (t : TypeId) (w : World) : Prop := N ≤ G ∧ G < w.heap.size ∧ w.heap[G]? = some (.cells cs t)
theorem Blk.keep {N G : Nat} {cs : Array Value} {t : TypeId} {w w' : World} (h : Blk N G cs t w) (hb : Below w.heap.size w w') : Blk N G cs t w' := ⟨h.1, Nat.lt_of_lt_of_le h.2.1 hb.size, (hb.block G h.2.1).trans h.2.2⟩
theorem Blk.more {N N' G : Nat} {cs : Array Value} {t : TypeId} {w : World} (h : Blk N G cs t w) (hn : N' ≤ N) : Blk N' G cs t w := ⟨Nat.le_trans hn h.1, h.2⟩
theorem blk_new {N : Nat} (w : World) (cs : Array Value) (t : TypeId) (h : N ≤ w.heap.size) : Blk N w.heap.size cs t (w.alloc (.cells cs t)) := ⟨h, by simp, by show (w.heap.push _)[w.heap.size]? = _; simp⟩
theorem blk_zero {N : Nat} (w : World) (cs cs' : Array Value) (t : TypeId) (e : cs = cs') (h : N ≤ w.heap.size) : Blk N w.heap.size cs' t (w.alloc (.cells cs t)) := by
  subst e
  exact blk_new w cs t h
/-- a block's cells, each of which can be written -/
def Row (w : World) (G : Nat) (l : List Value) : Prop := ∀ j u, l[j]? = some u → w.cell? ⟨G, j, none⟩ = some u ∧ Wr w G j
theorem Blk.row {N G : Nat} {cs : Array Value} {t : TypeId} {w : World} (h : Blk N G cs t w) : Row w G cs.toList := fun j u hu => by
  have hc : w.cell? ⟨G, j, none⟩ = some u := by
    simp only [World.cell?, h.2.2]
    simpa using hu
  exact ⟨hc, Wr.of hc (by simp [World.frozen?, h.2.2])⟩
theorem Row.set {w : World} {G o : Nat} {l : List Value} {v : Value} (h : Row w G l) (ho : o < l.length) : Row (w.setCell ⟨G, o, none⟩ v) G (l.set o v) := fun j u hu => by
  rw [List.getElem?_set] at hu
  by_cases e : o = j
  · subst e
    rw [if_pos rfl, if_pos ho] at hu
    cases hu
    obtain ⟨_, hw⟩ := h o l[o] (List.getElem?_eq_getElem ho)
    exact ⟨cell_set_wr hw, by rw [wr_set]; exact hw⟩
  · rw [if_neg e] at hu
    obtain ⟨h1, h2⟩ := h j u hu
    exact ⟨by rw [World.cell?_setCell_other _ _ _ _ (fun e' => e (congrArg Addr.off e'))]; exact h1, by rw [wr_set]; exact h2⟩
theorem Row.other {w : World} {G b o : Nat} {l : List Value} {v : Value} (h : Row w G l) (hb : b ≠ G) : Row (w.setCell ⟨b, o, none⟩ v) G l := fun j u hu => by
  obtain ⟨h1, h2⟩ := h j u hu
  exact ⟨by rw [World.cell?_setCell_other _ _ _ _ (fun e' => hb (congrArg Addr.block e'))]; exact h1, by rw [wr_set]; exact h2⟩
theorem Row.below {w w' : World} {G : Nat} {l : List Value} (h : Row w G l) (hb : Below w.heap.size w w') (hG : G < w.heap.size) : Row w' G l := fun j u hu => by
  obtain ⟨h1, h2⟩ := h j u hu
  exact ⟨(hb.cell (p := ⟨G, j, none⟩) hG).trans h1, wr_below h2 hb hG⟩
theorem Row.arr {w : World} {G : Nat} {l : List Value} (h : Row w G l) (hG : G < w.heap.size) : Arr w w.heap.size (some ⟨G, 0, none⟩) l := fun _ => ⟨G, 0, rfl, hG, fun j u hu => by rw [Nat.zero_add]; exact (h j u hu).1⟩
def YC (M a b c d e : Nat) : Array Value := #[.int .i64 (-1), .slice none 0 0, .int .i64 4320, .slice none 0 0, .int .i64 0, sl M 4, .int .i64 100, sl a 2, .int .i64 100, sl b 2, .int .i64 100, sl c 2, .int .i64 100, sl d 2, .int .i64 100, sl e 2]
def Bad1 (N : Nat) (v : Value) (w : World) : Prop := ∃ Y M a b c d e, v = .slice (some ⟨Y, 0, none⟩) 8 8 ∧ Blk N Y (YC M a b c d e) 24 w ∧ Blk N M ZC 69 w ∧ (Blk N a FC 69 w ∧ Blk N b FC 69 w ∧ Blk N c FC 69 w ∧ Blk N d FC 69 w ∧ Blk N e FC 69 w) ∧ [a, b, c, d, e].Nodup
theorem Bad1.keep {N : Nat} {v : Value} {w w' : World} (h : Bad1 N v w) (hb : Below w.heap.size w w') : Bad1 N v w' := by
  obtain ⟨Y, M, a, b, c, d, e, h0, h1, h2, ⟨h3, h4, h5, h6, h7⟩, h8⟩ := h
  exact ⟨Y, M, a, b, c, d, e, h0, h1.keep hb, h2.keep hb, ⟨h3.keep hb, h4.keep hb, h5.keep hb, h6.keep hb, h7.keep hb⟩, h8⟩
/-- what the steps of the statement leave that builds the clocks -/
def badF (N : Nat) : Nat → Value → World → Prop
  | 0, v, _ => v = .agg #[.int .i64 (-1), .slice none 0 0]
  | 1, v, _ => v = .agg #[.int .i64 4320, .slice none 0 0]
  | 2, v, w => ∃ M, v = sl M 4 ∧ Blk N M ZC 69 w
  | 3, v, w => ∃ M, v = .agg #[.int .i64 0, sl M 4] ∧ Blk N M ZC 69 w
  | 4, v, w => ∃ G, v = FV G ∧ Blk N G FC 69 w
  | 5, v, w => ∃ G, v = FV G ∧ Blk N G FC 69 w
  | 6, v, w => ∃ G, v = FV G ∧ Blk N G FC 69 w
  | 7, v, w => ∃ G, v = FV G ∧ Blk N G FC 69 w
  | 8, v, w => ∃ G, v = FV G ∧ Blk N G FC 69 w
  | 9, v, w => Bad1 N v w
  | _, _, _ => True
theorem badF_stable (N : Nat) : ∀ j v w w', Below w.heap.size w w' → badF N j v w → badF N j v w' := by
  intro j v w w' hb h
  unfold badF at *
  split at h
  case h_3 => obtain ⟨M, e, h⟩ := h; exact ⟨M, e, h.keep hb⟩
  case h_4 => obtain ⟨M, e, h⟩ := h; exact ⟨M, e, h.keep hb⟩
  case h_5 => obtain ⟨M, e, h⟩ := h; exact ⟨M, e, h.keep hb⟩
  case h_6 => obtain ⟨M, e, h⟩ := h; exact ⟨M, e, h.keep hb⟩
  case h_7 => obtain ⟨M, e, h⟩ := h; exact ⟨M, e, h.keep hb⟩
  case h_8 => obtain ⟨M, e, h⟩ := h; exact ⟨M, e, h.keep hb⟩
  case h_9 => obtain ⟨M, e, h⟩ := h; exact ⟨M, e, h.keep hb⟩
  case h_10 => exact h.keep hb
  all_goals exact h
/-- no block serves two clocks -/
def badE (_ : Array Bool) (a : Act) (w : World) : Prop :=
  (∀ i G, 66 ≤ i → i ≤ 70 → a.tmps[i]? = some (FV G) → G < w.heap.size) ∧ ∀ i j G, 66 ≤ i → i ≤ 70 → 66 ≤ j → j ≤ 70 → a.tmps[i]? = some (FV G) → a.tmps[j]? = some (FV G) → i = j
theorem badE_init {L : Array Bool} {a : Act} {w : World} (h1 : a.tmps[66]? = some undef) (h2 : a.tmps[67]? = some undef) (h3 : a.tmps[68]? = some undef) (h4 : a.tmps[69]? = some undef) (h5 : a.tmps[70]? = some undef) : badE L a w := by
  have k : ∀ i G, 66 ≤ i → i ≤ 70 → a.tmps[i]? = some (FV G) → False := fun i G q1 q2 q3 => by
    have hi : i = 66 ∨ i = 67 ∨ i = 68 ∨ i = 69 ∨ i = 70 := by omega
    rcases hi with rfl | rfl | rfl | rfl | rfl
    · rw [h1] at q3; simp [undef, FV] at q3
    · rw [h2] at q3; simp [undef, FV] at q3
    · rw [h3] at q3; simp [undef, FV] at q3
    · rw [h4] at q3; simp [undef, FV] at q3
    · rw [h5] at q3; simp [undef, FV] at q3
  exact ⟨fun i G q1 q2 q3 => (k i G q1 q2 q3).elim, fun i _ G q1 q2 _ _ q3 _ => (k i G q1 q2 q3).elim⟩
theorem put_at {a : Act} {d t : Nat} {v : Value} (hd : d ≠ t) : (a.put (some d) v).tmps[t]? = a.tmps[t]? := by simp [Act.put, Array.getElem?_setIfInBounds_ne hd]
theorem badE_keep {L L' : Array Bool} {a : Act} {w w' : World} {d : Nat} {v : Value} (h : badE L a w) (hb : Below w.heap.size w w') (hd : d < 66 ∨ 70 < d) : badE L' (a.put (some d) v) w' := by
  refine ⟨fun i G h1 h2 h3 => ?_, fun i j G h1 h2 h3 h4 h5 h6 => ?_⟩
  · rw [put_at (by omega)] at h3
    exact Nat.lt_of_lt_of_le (h.1 i G h1 h2 h3) hb.size
  · rw [put_at (by omega)] at h5 h6
    exact h.2 i j G h1 h2 h3 h4 h5 h6
theorem badE_new {L L' : Array Bool} {a : Act} {w w' : World} {j G : Nat} (h : badE L a w) (hb : Below w.heap.size w w') (_ : 66 ≤ j ∧ j ≤ 70) (hG : w.heap.size ≤ G) (hG' : G < w'.heap.size) (hsz : 70 < a.tmps.size) : badE L' (a.put (some j) (FV G)) w' := by
  have hs : (a.put (some j) (FV G)).tmps[j]? = some (FV G) := by
    have : j < a.tmps.size := by omega
    simp [Act.put, this]
  have key : ∀ i G', 66 ≤ i → i ≤ 70 → (a.put (some j) (FV G)).tmps[i]? = some (FV G') → (i = j ∧ G' = G) ∨ (i ≠ j ∧ a.tmps[i]? = some (FV G') ∧ G' < w.heap.size) := fun i G' h1 h2 h3 => by
    by_cases e : i = j
    · subst e
      rw [hs] at h3
      simp [FV] at h3
      exact .inl ⟨rfl, h3.symm⟩
    · rw [put_at (fun e' => e e'.symm)] at h3
      exact .inr ⟨e, h3, h.1 i G' h1 h2 h3⟩
  have hbs := hb.size
  refine ⟨fun i G' h1 h2 h3 => ?_, fun i k G' h1 h2 h3 h4 h5 h6 => ?_⟩
  · rcases key i G' h1 h2 h3 with ⟨_, e⟩ | ⟨_, _, e⟩ <;> omega
  · rcases key i G' h1 h2 h5 with ⟨e1, e2⟩ | ⟨e1, e2, e3⟩
    · rcases key k G' h3 h4 h6 with ⟨f1, f2⟩ | ⟨f1, f2, f3⟩ <;> omega
    · rcases key k G' h3 h4 h6 with ⟨f1, f2⟩ | ⟨f1, f2, f3⟩
      · omega
      · exact h.2 i k G' h1 h2 h3 h4 e2 f2
theorem badE_ne {L : Array Bool} {a : Act} {w : World} {A B C D E : Nat} (h : badE L a w) (h1 : a.tmps[66]? = some (FV A)) (h2 : a.tmps[67]? = some (FV B)) (h3 : a.tmps[68]? = some (FV C)) (h4 : a.tmps[69]? = some (FV D)) (h5 : a.tmps[70]? = some (FV E)) : [A, B, C, D, E].Nodup := by
  have k : ∀ i j G G', 66 ≤ i → i ≤ 70 → 66 ≤ j → j ≤ 70 → i ≠ j → a.tmps[i]? = some (FV G) → a.tmps[j]? = some (FV G') → G ≠ G' := fun i j G G' q1 q2 q3 q4 hn e1 e2 e => hn (h.2 i j G q1 q2 q3 q4 e1 (by rw [e]; exact e2))
  have k12 := k 66 67 _ _ (by omega) (by omega) (by omega) (by omega) (by omega) h1 h2
  have k13 := k 66 68 _ _ (by omega) (by omega) (by omega) (by omega) (by omega) h1 h3
  have k14 := k 66 69 _ _ (by omega) (by omega) (by omega) (by omega) (by omega) h1 h4
  have k15 := k 66 70 _ _ (by omega) (by omega) (by omega) (by omega) (by omega) h1 h5
  have k23 := k 67 68 _ _ (by omega) (by omega) (by omega) (by omega) (by omega) h2 h3
  have k24 := k 67 69 _ _ (by omega) (by omega) (by omega) (by omega) (by omega) h2 h4
  have k25 := k 67 70 _ _ (by omega) (by omega) (by omega) (by omega) (by omega) h2 h5
  have k34 := k 68 69 _ _ (by omega) (by omega) (by omega) (by omega) (by omega) h3 h4
  have k35 := k 68 70 _ _ (by omega) (by omega) (by omega) (by omega) (by omega) h3 h5
  have k45 := k 69 70 _ _ (by omega) (by omega) (by omega) (by omega) (by omega) h4 h5
  simp [k12, k13, k14, k15, k23, k24, k25, k34, k35, k45]

set_option maxRecDepth 100000 in
set_option maxHeartbeats 4000000 in
theorem frosty_new (w : World) :
    Calls Try.prog 53 #[] w fun e w' => (∃ G, e = .returned (FV G) ∧ Blk w.heap.size G FC 69 w') ∧ Below w.heap.size w w' := by
  go_enter Try.func53, Try.ntmps53
  go_wp2_with (first
    | (go_at_call 41; refine (to_any _ _ _).mono ?_; rintro e w1 ⟨rfl, hb1⟩; (first | replace hb1 := Below.un1 hb1 | replace hb1 := Below.un2 hb1 | skip); obtain ⟨hc1, hf1, hl1, hm1, hw1⟩ := bcell hb1; have hz1 := hb1.size; (try simp only [World.size_alloc, World.size_setCell] at hz1); have n1 : w.heap.size < w1.heap.size := (by omega))
    | (go_at_call 47; refine (one_any _ _).mono ?_; rintro e w2 ⟨rfl, hb2⟩; (first | replace hb2 := Below.un1 hb2 | replace hb2 := Below.un2 hb2 | skip); obtain ⟨hc2, hf2, hl2, hm2, hw2⟩ := bcell hb2; have hz2 := hb2.size; (try simp only [World.size_alloc, World.size_setCell] at hz2); have n2 : w.heap.size < w2.heap.size := (by omega)))

  have q0 : Wr w1 w.heap.size 0 := by
    (repeat' (first | (with_reducible assumption) | (refine wr_new rfl ?_; (first | decide | (simp; done))) | (with_reducible refine wr_drew' ?_) | (with_reducible refine wr_drewN' ?_) | (with_reducible refine wr_set' ?_) | (refine wr_below ?_ (by assumption) ?_) | (with_reducible refine wr_alloc _ ?_) | go_size))
  have q1 : Wr w1 w.heap.size 1 := by
    (repeat' (first | (with_reducible assumption) | (refine wr_new rfl ?_; (first | decide | (simp; done))) | (with_reducible refine wr_drew' ?_) | (with_reducible refine wr_drewN' ?_) | (with_reducible refine wr_set' ?_) | (refine wr_below ?_ (by assumption) ?_) | (with_reducible refine wr_alloc _ ?_) | go_size))
  have hB : Below w.heap.size w w1 := by (repeat' (first | (with_reducible exact Below.refl _ _) | (with_reducible assumption) | (with_reducible refine Below.drew ?_) | (with_reducible refine below_drewN ?_ _) | (with_reducible refine Below.setCell ?_ ?_ _) | (with_reducible refine Below.alloc ?_ ?_ _) | go_size | (exact Below.size (by assumption)) | (refine Below.trans ?_ (Below.mono (by assumption) ?_))))
  have hlt : w.heap.size < w1.heap.size := q0.lt
  obtain ⟨W5, hW5⟩ : ∃ W5, W5 = (((w1.setCell ⟨w.heap.size, 0, none⟩ (.int .i64 100)).setCell ⟨w.heap.size, 1, none⟩ (.slice (some ⟨w1.heap.size, 0, none⟩) 2 2)).alloc
    (.cells #[.int .i64 50, .int .i64 52, .int .i64 80, .int .i64 81, .int .i64 200, .int .i64 200, .int .i64 210, .int .i64 212] 69)) := ⟨_, rfl⟩
  have hne : ∀ {o o' : Nat} {v : Value} {X : World}, o' ≠ o → (X.setCell ⟨w.heap.size, o, none⟩ v).cell? ⟨w.heap.size, o', none⟩ = X.cell? ⟨w.heap.size, o', none⟩ := fun hne => World.cell?_setCell_other _ _ _ _ (fun e => hne (congrArg Addr.off e).symm)
  have hs : ((w1.setCell ⟨w.heap.size, 0, none⟩ (.int .i64 100)).setCell ⟨w.heap.size, 1, none⟩ (.slice (some ⟨w1.heap.size, 0, none⟩) 2 2)).heap.size = w1.heap.size := by simp
  have hba := (Below.refl w1.heap.size ((w1.setCell ⟨w.heap.size, 0, none⟩ (.int .i64 100)).setCell ⟨w.heap.size, 1, none⟩ (.slice (some ⟨w1.heap.size, 0, none⟩) 2 2))).alloc (by rw [hs]; exact Nat.le_refl _) (.cells #[.int .i64 50, .int .i64 52, .int .i64 80, .int .i64 81, .int .i64 200, .int .i64 200, .int .i64 210, .int .i64 212] 69)
  have e0 : W5.cell? ⟨w.heap.size, 0, none⟩ = some (.int .i64 100) := by
    rw [hW5, hba.cell (by simp only; omega), hne (by omega)]
    exact World.cell?_setCell_same' _ _ _ q0.1
  have e1 : W5.cell? ⟨w.heap.size, 1, none⟩ = some (.slice (some ⟨w1.heap.size, 0, none⟩) 2 2) := by
    rw [hW5, hba.cell (by simp only; omega)]
    exact World.cell?_setCell_same' _ _ _ (by rw [hne (by omega)]; exact q1.1)
  have eB : Below w.heap.size w W5 := by rw [hW5]; (repeat' (first | (with_reducible exact Below.refl _ _) | (with_reducible assumption) | (with_reducible refine Below.drew ?_) | (with_reducible refine below_drewN ?_ _) | (with_reducible refine Below.setCell ?_ ?_ _) | (with_reducible refine Below.alloc ?_ ?_ _) | go_size | (exact Below.size (by assumption)) | (refine Below.trans ?_ (Below.mono (by assumption) ?_))))
  have eH : W5.heap[w1.heap.size]? = some (.cells FC 69) := by
    have h := (blk_new (N := 0) ((w1.setCell ⟨w.heap.size, 0, none⟩ (.int .i64 100)).setCell ⟨w.heap.size, 1, none⟩ (.slice (some ⟨w1.heap.size, 0, none⟩) 2 2)) FC 69 (Nat.zero_le _)).2.2
    rw [hs] at h
    rw [hW5]
    exact h
  have eZ : w1.heap.size < W5.heap.size := by rw [hW5]; simp
  rw [← hW5]
  clear hW5
  exact bodyPost_ret (v := .agg #[.int .i64 100, .slice (some ⟨w1.heap.size, 0, none⟩) 2 2]) (by simp [results, Try.results53, go_sem, e0, e1]) rfl ⟨⟨_, rfl, by omega, eZ, eH⟩, eB⟩
end Go.Proofs.Ytnkbcapikenbbaa
