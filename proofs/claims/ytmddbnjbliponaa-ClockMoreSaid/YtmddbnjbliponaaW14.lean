/- ClockMore: the walk. -/
import Derived.Test.YtmddbnjbliponaaW9
import Derived.Test.YtmddbnjbliponaaE8
import Derived.Test.YtmddbnjbliponaaZ2
import Derived.Test.YtmddbnjbliponaaTs
namespace Go.Proofs.Ytmddbnjbliponaa
set_option linter.unusedSimpArgs false
set_option linter.unusedVariables false
open Go.RowKit Go.Shelf
attribute [local go_sem high] cell_set_wr
attribute [local go_sem low] cell_wr frozen_wr
attribute [local go_sem] wr_set wr_drew wr_drewN wr_alloc wr_new

/-- where a walk is to stand still -/
def Halt (p : Prop) : Prop := p
theorem Halt.on {p : Prop} (h : Halt p) : p := h
theorem Halt.off {p : Prop} (h : p) : Halt p := h

theorem own_empty (w : World) (n : Nat) (hn : w.heap.size = n) (base : Nat) (hb : base ≤ n) (e : TypeId) (size : Nat) : (w.alloc (.cells #[] e)).ownsRow base e size (.slice (some ⟨n, 0, none⟩) 0 0) 0 [] := by
  subst hn
  exact World.ownsRow_lit w #[] 0 hb (by simp [maxLen]) (by simp)

theorem times_to {set : Int} {A L : Option Addr} {cap lcap nf n : Nat} {fs : List Fr} {ls : List Ln} {l : List Sp} {x : Int} (P : timesR ⟨set, fs⟩ ls = (l, x)) (hn : l.length = n) (hf : fs.length = nf) (hl : ls.length ≤ 9223372036854775807) (W : World) (hA : Arr W W.heap.size A (frosts fs)) (hL : Arr W W.heap.size L (lines ls)) :
    Calls Try.prog 27 #[.agg #[.int .i64 set, .slice A nf cap], .slice L ls.length lcap] W fun e w' => ∃ O oc, e = .returned (.tuple #[.slice O n oc, .int .i64 x]) ∧ Arr w' w'.heap.size O (spans l) ∧ Below W.heap.size W w' := by
  subst hf hn
  have h := pTimes_any set A L cap lcap fs ls W hA hL hl
  rw [pTimes_eq, P] at h
  exact h.mono fun e w' ⟨⟨O, oc, h1, _, h2⟩, h3⟩ => ⟨O, oc, h1, h2, h3⟩
theorem stopped_to {set : Int} {A L : Option Addr} {cap lcap : Nat} {fs : List Fr} {ls : List Ln} {s : Sp} {x : Int} (P : stoppedR ⟨set, fs⟩ ls = (s, x)) (hl : ls.length ≤ 9223372036854775807) (W : World) (hA : Arr W W.heap.size A (frosts fs)) (hL : Arr W W.heap.size L (lines ls)) :
    Calls Try.prog 30 #[.agg #[.int .i64 set, .slice A fs.length cap], .slice L ls.length lcap] W fun e w' => e = .returned (.tuple #[.agg #[.int .i64 s.lo, .int .i64 s.hi], .int .i64 x]) ∧ Below W.heap.size W w' := by
  have h := pStopped_any set A L cap lcap fs ls W hA hL hl
  rw [pStopped_eq, P] at h
  exact h
theorem narrow_b {f : Fr} {v : Int} (h1 : f.b.lo ≤ v) (h2 : v ≤ f.b.hi) (he : f.e.lo ≤ f.e.hi) : Narrow ⟨⟨v, v⟩, f.e⟩ f := ⟨h1, Int.le_refl _, h2, Int.le_refl _, he, Int.le_refl _⟩
theorem narrow_e {f : Fr} {v : Int} (h1 : f.e.lo ≤ v) (h2 : v ≤ f.e.hi) (hb : f.b.lo ≤ f.b.hi) : Narrow ⟨f.b, ⟨v, v⟩⟩ f := ⟨Int.le_refl _, hb, Int.le_refl _, h1, Int.le_refl _, h2⟩

theorem in_sub {s m : Sp} (h : Sub s m) : (decide (m.lo ≤ s.lo) && decide (s.hi ≤ m.hi)) = true := by rw [decide_eq_true h.1, decide_eq_true h.2]; rfl
theorem row_at {w : World} {B n N : Nat} {A : Option Addr} {m : List Sp} (h : Arr w B A (spans m)) (hB : B ≤ N) (hn : m.length = n) :
    ∃ b o, 0 < n → A = some ⟨b, o, none⟩ ∧ b < N ∧ ∀ q (h : q < m.length), w.cell? ⟨b, o + q * 2, none⟩ = some (.int .i64 m[q].lo) ∧ w.cell? ⟨b, o + q * 2 + 1, none⟩ = some (.int .i64 m[q].hi) := by
  rcases Nat.eq_zero_or_pos n with h0 | h0
  · exact ⟨0, 0, fun h' => absurd h' (by omega)⟩
  · obtain ⟨b, o, e, hb, _, _⟩ := h.sp (k := 0) (by omega)
    refine ⟨b, o, fun _ => ⟨e, by omega, fun q hq => ?_⟩⟩
    obtain ⟨b', o', e', _, c0, c1⟩ := h.sp hq
    rw [e] at e'
    simp only [Option.some.injEq, Addr.mk.injEq, and_true] at e'
    obtain ⟨rfl, rfl⟩ := e'
    exact ⟨c0, c1⟩
/-- what the steps of the test in ClockMore's loop leave -/
def moF (p i q : Nat) (g : Int) (SL SM SK AL LV AM1 MV1 AM2 MV2 AK KV : Value) (b1 b2 b3 : Bool) : Nat → Value → World → Prop
  | 0, v, _ => v = .int .i64 p
  | 1, v, _ => v = .int .i64 i
  | 2, v, _ => v = .bool b1
  | 3, v, _ => v = .bool b1
  | 4, v, _ => v = if b1 then SL else undef
  | 5, v, _ => v = if b1 then .int .i64 p else undef
  | 6, v, _ => v = if b1 then AL else undef
  | 7, v, _ => v = if b1 then LV else undef
  | 8, v, _ => v = if b1 then SM else undef
  | 9, v, _ => v = if b1 then .int .i64 p else undef
  | 10, v, _ => v = if b1 then AM1 else undef
  | 11, v, _ => v = if b1 then MV1 else undef
  | 12, v, _ => v = if b1 then .bool true else undef
  | 13, v, _ => v = if b1 then .bool false else undef
  | 14, v, _ => v = .bool false
  | 15, v, _ => v = .bool false
  | 16, v, _ => v = .int .i64 p
  | 17, v, _ => v = .int .i64 i
  | 18, v, _ => v = .bool b2
  | 19, v, _ => v = .bool b2
  | 20, v, _ => v = if b2 then SL else undef
  | 21, v, _ => v = if b2 then .int .i64 p else undef
  | 22, v, _ => v = if b2 then AL else undef
  | 23, v, _ => v = if b2 then LV else undef
  | 24, v, _ => v = if b2 then SM else undef
  | 25, v, _ => v = if b2 then .int .i64 p else undef
  | 26, v, _ => v = if b2 then .int .i64 q else undef
  | 27, v, _ => v = if b2 then AM2 else undef
  | 28, v, _ => v = if b2 then MV2 else undef
  | 29, v, _ => v = if b2 then .bool true else undef
  | 30, v, _ => v = if b2 then .bool false else undef
  | 31, v, _ => v = .bool false
  | 32, v, _ => v = .bool false
  | 33, v, _ => v = .bool false
  | 34, v, _ => v = .int .i64 g
  | 35, v, _ => v = .bool b3
  | 36, v, _ => v = .bool b3
  | 37, v, _ => v = if b3 then SK else undef
  | 38, v, _ => v = if b3 then .int .i64 p else undef
  | 39, v, _ => v = if b3 then AK else undef
  | 40, v, _ => v = if b3 then KV else undef
  | 41, v, _ => v = if b3 then SL else undef
  | 42, v, _ => v = if b3 then .int .i64 p else undef
  | 43, v, _ => v = if b3 then AL else undef
  | 44, v, _ => v = if b3 then LV else undef
  | 45, v, _ => v = if b3 then .bool true else undef
  | 46, v, _ => v = if b3 then .bool false else undef
  | 47, v, _ => v = .bool false
  | _, _, _ => True
theorem moF_stable (p i q : Nat) (g : Int) (SL SM SK AL LV AM1 MV1 AM2 MV2 AK KV : Value) (b1 b2 b3 : Bool) : ∀ j v w w', Below w.heap.size w w' → moF p i q g SL SM SK AL LV AM1 MV1 AM2 MV2 AK KV b1 b2 b3 j v w → moF p i q g SL SM SK AL LV AM1 MV1 AM2 MV2 AK KV b1 b2 b3 j v w' := by
  intro j v w w' _ h
  unfold moF at *
  split at h
  all_goals exact h

set_option maxRecDepth 100000 in
set_option maxHeartbeats 4000000 in
theorem more_any (set n0 n1 n2 : Int) (A L : Option Addr) (cap lcap : Nat) (fs : List Fr) (ls : List Ln) (w : World) (hA : Arr w w.heap.size A (frosts fs)) (hL : Arr w w.heap.size L (lines ls)) (h1 : Ck.ok ⟨set, fs⟩ = true) (h2 : bookB ls = true) :
    Calls Try.prog 9 #[.agg #[.int .i64 set, .slice A fs.length cap], .slice L ls.length lcap, .agg #[.int .i64 n0, .int .i64 n1, .int .i64 n2]] w fun e w' => e = .returned (.bool true) ∧ Below w.heap.size w w' := by
  have HO := hid h1
  have HV := hid h2
  have hll6 : ls.length ≤ 6 := (book_of h2).1
  have hfl3 : fs.length ≤ 3 := (okFs_of h1).1.1
  clear h1 h2
  go_enter Try.func9, Try.ntmps9
  go_wp2_with (first
    | (go_at_call 35; refine (sound_any set A cap fs _ ?_).mono ?_; (focus (refine (hA.below ?_).more ?_; (repeat' (first | (with_reducible exact Below.refl _ _) | (with_reducible assumption) | (with_reducible refine Below.drew ?_) | (with_reducible refine below_drewN ?_ _) | (with_reducible refine Below.setCell ?_ ?_ _) | (with_reducible refine Below.alloc ?_ ?_ _) | go_size | (exact Below.size (by assumption)) | (refine Below.trans ?_ (Below.mono (by assumption) ?_)))))); rw [HO.out]; rintro e w1 ⟨rfl, hb1⟩; (first | replace hb1 := Below.un1 hb1 | replace hb1 := Below.un2 hb1 | skip); obtain ⟨hc1, hf1, hl1, hm1, hw1⟩ := bcell hb1; have hz1 := hb1.size; (try simp only [World.size_alloc, World.size_setCell] at hz1); have n1' : w.heap.size < w1.heap.size := (by omega); have n1'' : w.heap.size + 1 < w1.heap.size := (by omega))
    | (go_at_call 46; refine (valid_any L lcap ls _ ?_ (by omega)).mono ?_; (focus (refine (hL.below ?_).more ?_; (repeat' (first | (with_reducible exact Below.refl _ _) | (with_reducible assumption) | (with_reducible refine Below.drew ?_) | (with_reducible refine below_drewN ?_ _) | (with_reducible refine Below.setCell ?_ ?_ _) | (with_reducible refine Below.alloc ?_ ?_ _) | go_size | (exact Below.size (by assumption)) | (refine Below.trans ?_ (Below.mono (by assumption) ?_)))))); rw [HV.out]; rintro e w3 ⟨rfl, hb3⟩; (first | replace hb3 := Below.un1 hb3 | replace hb3 := Below.un2 hb3 | skip); obtain ⟨hc3, hf3, hl3, hm3, hw3⟩ := bcell hb3; have hz3 := hb3.size; (try simp only [World.size_alloc, World.size_setCell] at hz3); have n3' : w.heap.size < w3.heap.size := (by omega); have n3'' : w.heap.size + 1 < w3.heap.size := (by omega); refine Halt.on ?_))
  have c0 : w3.cell? ⟨w.heap.size, 0, none⟩ = some (.int .i64 set) := by (first | (simp [go_sem, wr_set, wr_drew, wr_drewN, wr_alloc, wr_new]; done) | (simp [go_sem, wr_set, wr_drew, wr_drewN, wr_alloc, wr_new, *]; done) | (simp (disch := go_size) [go_sem, wr_set, wr_drew, wr_drewN, wr_alloc, wr_new, *]; done))
  have c1 : w3.cell? ⟨w.heap.size, 1, none⟩ = some (.slice A fs.length cap) := by (first | (simp [go_sem, wr_set, wr_drew, wr_drewN, wr_alloc, wr_new]; done) | (simp [go_sem, wr_set, wr_drew, wr_drewN, wr_alloc, wr_new, *]; done) | (simp (disch := go_size) [go_sem, wr_set, wr_drew, wr_drewN, wr_alloc, wr_new, *]; done))
  have m0 : w3.cell? ⟨w.heap.size + 1, 0, none⟩ = some (.int .i64 n0) := by (first | (simp [go_sem, wr_set, wr_drew, wr_drewN, wr_alloc, wr_new]; done) | (simp [go_sem, wr_set, wr_drew, wr_drewN, wr_alloc, wr_new, *]; done) | (simp (disch := go_size) [go_sem, wr_set, wr_drew, wr_drewN, wr_alloc, wr_new, *]; done))
  have m1 : w3.cell? ⟨w.heap.size + 1, 1, none⟩ = some (.int .i64 n1) := by (first | (simp [go_sem, wr_set, wr_drew, wr_drewN, wr_alloc, wr_new]; done) | (simp [go_sem, wr_set, wr_drew, wr_drewN, wr_alloc, wr_new, *]; done) | (simp (disch := go_size) [go_sem, wr_set, wr_drew, wr_drewN, wr_alloc, wr_new, *]; done))
  have m2 : w3.cell? ⟨w.heap.size + 1, 2, none⟩ = some (.int .i64 n2) := by (first | (simp [go_sem, wr_set, wr_drew, wr_drewN, wr_alloc, wr_new]; done) | (simp [go_sem, wr_set, wr_drew, wr_drewN, wr_alloc, wr_new, *]; done) | (simp (disch := go_size) [go_sem, wr_set, wr_drew, wr_drewN, wr_alloc, wr_new, *]; done))
  have hB3 : Below w.heap.size w w3 := by (repeat' (first | (with_reducible exact Below.refl _ _) | (with_reducible assumption) | (with_reducible refine Below.drew ?_) | (with_reducible refine below_drewN ?_ _) | (with_reducible refine Below.setCell ?_ ?_ _) | (with_reducible refine Below.alloc ?_ ?_ _) | go_size | (exact Below.size (by assumption)) | (refine Below.trans ?_ (Below.mono (by assumption) ?_))))
  have hA3 := (hA.below hB3).more hB3.size
  have hL3 := (hL.below hB3).more hB3.size
  clear hc1 hf1 hl1 hm1 hw1 hb1 hz1 n1' n1'' hc3 hf3 hl3 hm3 hw3 hb3 hz3
  have hfn : fs.length ≤ 1000 := by omega
  refine Halt.off ?_
  go_wp2_with (first
    | (at_builtin; go_loud (refine wpList_appN rfl _ _ 22 rfl (w3.heap.size + 1) 69 _ 4 32 Try.underlying22 info_frostA rfl (by omega) (.slice (some ⟨w3.heap.size + 1, 0, none⟩) 0 0) 0 [] (by rfl) (own_empty _ _ (by simp) _ (Nat.le_refl _) _ _) w3.heap.size A fs.length cap (frosts fs) (by rfl) (hA3.below (((Below.refl _ _).alloc (Nat.le_refl _) _).alloc (by simp) _)) (frosts_length fs) (frosts_one fs) (by unfold maxLen; omega) (by omega) (by simp) ?_; intro X xcap w5 hx1 hx2 hown5 hg5 hk5; refine Halt.on ?_)))
  have hb5 := (Below.refl (w3.heap.size + 1) _).grown hg5 (by simp) (fun k e => by simp [Value.ownBlock] at e; omega)
  rw [Nat.zero_add, List.nil_append] at hown5
  have hz5 := hb5.size
  simp only [World.size_alloc] at hz5
  have hW5 : ∀ b o, b < w3.heap.size → w5.cell? ⟨b, o, none⟩ = w3.cell? ⟨b, o, none⟩ := fun b o h => (hb5.cell (p := ⟨b, o, none⟩) (by simp only; omega)).trans (by simp [go_sem, h, Nat.ne_of_lt h, Nat.ne_of_lt (Nat.lt_succ_of_lt h)])
  have d0 : w5.cell? ⟨w3.heap.size, 0, none⟩ = some (.int .i64 set) := (hb5.cell (p := ⟨w3.heap.size, 0, none⟩) (by simp only; omega)).trans (by simp [go_sem])
  have d1 : Wr w5 w3.heap.size 1 := wr_below (wr_alloc _ (wr_new rfl (by simp))) hb5 (by omega)
  have e0 := (hW5 _ _ n3').trans c0
  have e1 := (hW5 _ _ n3').trans c1
  have k0 := (hW5 _ _ n3'').trans m0
  have k1 := (hW5 _ _ n3'').trans m1
  have k2 := (hW5 _ _ n3'').trans m2
  have hB5 : Below w3.heap.size w3 w5 := (((Below.refl _ _).alloc (Nat.le_refl _) _).alloc (by simp) _).trans (hb5.mono (by omega))
  clear hb5 hg5 hk5 hW5 hx1
  refine Halt.off ?_
  go_upto_if 40 with (fail)
  obtain ⟨V, hV⟩ : ∃ V, V = w5.setCell ⟨w3.heap.size, 1, none⟩ (.slice X fs.length xcap) := ⟨_, rfl⟩
  have hVz : w3.heap.size + 1 < V.heap.size := by rw [hV]; simp; omega
  have hVB : Below w3.heap.size w3 V := by rw [hV]; exact hB5.setCell (by simp) _
  have hVo : V.ownsRow (w3.heap.size + 1) 69 4 (.slice X fs.length xcap) fs.length (frosts fs) := by rw [hV]; exact own_set hown5 _ _ (by omega) _
  have v0 : V.cell? ⟨w3.heap.size, 0, none⟩ = some (.int .i64 set) := by rw [hV, World.cell?_setCell_other _ _ _ _ (by simp)]; exact d0
  have v1 : V.cell? ⟨w3.heap.size, 1, none⟩ = some (.slice X fs.length xcap) := by rw [hV]; exact cell_set_wr d1
  rw [← hV]
  clear hV hown5 d0 d1 e0 e1 k0 k1 k2 hB5 hz5
  go_cut [8] (fun kv wx => ∃ fs' : List Fr, fs'.length = fs.length ∧ wx.cell? ⟨w3.heap.size, 0, none⟩ = some (.int .i64 set) ∧ wx.cell? ⟨w3.heap.size, 1, none⟩ = some (.slice X fs.length xcap) ∧ Arr wx wx.heap.size X (frosts fs') ∧ Hid (Ck.ok ⟨set, fs'⟩ = true ∧ ∀ tr, InT fs' tr → InT fs tr) ∧ w3.heap.size < wx.heap.size ∧ Below w3.heap.size w3 wx)
  case first =>
    obtain ⟨X', xc', e', _, _, hVX⟩ := own_form hVo
    simp only [Value.slice.injEq] at e'
    obtain ⟨rfl, _, rfl⟩ := e'
    rcases Nat.eq_zero_or_pos fs.length with h0 | h0
    · obtain rfl := List.length_eq_zero_iff.1 h0
      clear h0
      go_wp2_with fail
      go_meet
      exact ⟨[], rfl, v0, v1, hVX, hid ⟨HO.out, fun _ h => h⟩, by omega, hVB⟩
    · have t1 : decide (0 < fs.length) = true := decide_eq_true h0
      obtain ⟨r1, r2⟩ := windI_range n1 fs.length (by omega)
      obtain ⟨j, hj⟩ : ∃ j : Nat, windI n1 fs.length = j := ⟨(windI n1 fs.length).toNat, by omega⟩
      have hjl : j < fs.length := by omega
      have hjI : (j : Int) < fs.length := by omega
      have HJ := hid hj
      clear hj r1 r2
      obtain ⟨fb, fo, rfl, hfb, a0, a1, a2, a3⟩ := hA3.fr hjl
      obtain ⟨xb, xo, rfl, hxbz, _, _, _, _⟩ := hVX.fr hjl
      have hxo : xo = 0 ∧ w3.heap.size + 1 ≤ xb := by
        rcases hVo.2 with ⟨h, _⟩ | ⟨g, cap', cur, h, hb, _⟩
        · simp at h
        · simp only [Value.slice.injEq, Option.some.injEq, Addr.mk.injEq] at h
          obtain ⟨⟨rfl, rfl, _⟩, _⟩ := h
          exact ⟨rfl, hb⟩
      obtain ⟨rfl, hxb⟩ := hxo
      have hxb' : w3.heap.size < xb := by omega
      have hxc : ∀ q, q < 4 → Wr V xb (j * 4 + q) := fun q hq => ⟨by rw [hVo.cellAt _ (by omega), List.getElem?_eq_getElem (by rw [frosts_length]; omega)]; rfl, hVo.frozenAt _⟩
      have x0 := hxc 0 (by omega)
      have x1 := hxc 1 (by omega)
      have x2 := hxc 2 (by omega)
      have x3 := hxc 3 (by omega)
      rw [Nat.add_zero] at x0
      have hf := (okFs_of HO.out).1.2 _ (List.getElem_mem hjl)
      obtain ⟨f, hfe⟩ : ∃ f, fs[j] = f := ⟨_, rfl⟩
      rw [hfe] at a0 a1 a2 a3 hf
      have HF := hid hfe
      obtain ⟨g1, g2, g3, g4, g5, g6, g7⟩ := hf
      have b0 := (hVB.cell (p := ⟨fb, fo + j * 4, none⟩) hfb).trans a0
      have b1 := (hVB.cell (p := ⟨fb, fo + j * 4 + 1, none⟩) hfb).trans a1
      have b2 := (hVB.cell (p := ⟨fb, fo + j * 4 + 2, none⟩) hfb).trans a2
      have b3 := (hVB.cell (p := ⟨fb, fo + j * 4 + 3, none⟩) hfb).trans a3
      have y1 := (hVB.cell (p := ⟨w.heap.size, 1, none⟩) n3').trans c1
      have y2 := (hVB.cell (p := ⟨w.heap.size + 1, 1, none⟩) n3'').trans m1
      have y3 := (hVB.cell (p := ⟨w.heap.size + 1, 2, none⟩) n3'').trans m2
      have HVO := hid hVo
      have HVX := hid hVX
      clear hfe hxc hVo hVX a0 a1 a2 a3 h0 hA3
      by_cases hpar : n2.tmod 2 = 0
      · have t2 : (n2.tmod 2 == 0) = true := by simp [hpar]
        · have HS : Hid (n2.tmod 2 = 0) := hid hpar
          clear hpar
          go_wp2_with (go_at_call 42; refine (wind_any n1 fs.length (by omega) _).mono ?_; rw [HJ.out]; rintro e w9 ⟨rfl, rfl⟩)
          go_region_held3 (fun w' => (w'.cell? ⟨w3.heap.size, 1, none⟩ = some (.slice (some ⟨xb, 0, none⟩) fs.length xcap) ∧ w'.cell? ⟨w.heap.size, 1, none⟩ = some (.slice (some ⟨fb, fo, none⟩) fs.length cap) ∧ w'.cell? ⟨fb, fo + j * 4, none⟩ = some (.int .i64 f.b.lo) ∧ w'.cell? ⟨fb, fo + j * 4 + 1, none⟩ = some (.int .i64 f.b.hi) ∧ w'.cell? ⟨w.heap.size + 1, 2, none⟩ = some (.int .i64 n2) ∧ Wr w' xb (j * 4) ∧ Wr w' xb (j * 4 + 1)) ∧ Below w3.heap.size w3 w') (((refine ⟨?_, ?_⟩; (focus (first | (simp [go_sem, wr_set, wr_drew, wr_drewN, wr_alloc, wr_new]; done) | (simp [go_sem, wr_set, wr_drew, wr_drewN, wr_alloc, wr_new, *]; done) | (simp (disch := go_size) [go_sem, wr_set, wr_drew, wr_drewN, wr_alloc, wr_new, *]; done))); (repeat' (first | (with_reducible exact Below.refl _ _) | (with_reducible assumption) | (with_reducible refine Below.drew ?_) | (with_reducible refine below_drewN ?_ _) | (with_reducible refine Below.setCell ?_ ?_ _) | (with_reducible refine Below.alloc ?_ ?_ _) | go_size | (exact Below.size (by assumption)) | (refine Below.trans ?_ (Below.mono (by assumption) ?_)))))))
            (first
              | (go_at_call 48; refine (some_any _ _ _ _ (by omega) (by omega) (by omega)).mono ?_; rintro e w6 ⟨rfl, hb6⟩; (first | replace hb6 := Below.un1 hb6 | replace hb6 := Below.un2 hb6 | skip); obtain ⟨hc6, hf6, hl6, hm6, hw6⟩ := bcell hb6; have hz6 := hb6.size; (try simp only [World.size_alloc, World.size_setCell] at hz6); have z6 : w3.heap.size < w6.heap.size := (by omega); have z6' : xb < w6.heap.size := (by omega))
              | (go_at_call 47; refine (one_any _ _).mono ?_; rintro e w7 ⟨rfl, hb7⟩; (first | replace hb7 := Below.un1 hb7 | replace hb7 := Below.un2 hb7 | skip); obtain ⟨hc7, hf7, hl7, hm7, hw7⟩ := bcell hb7; have hz7 := hb7.size; (try simp only [World.size_alloc, World.size_setCell] at hz7); have z7 : w3.heap.size < w7.heap.size := (by omega); have z7' : xb < w7.heap.size := (by omega)))
          rename_i hHeld
          obtain ⟨q1, q2⟩ := windI_range (IntKind.i64.wrap (n2.tdiv 2)) (f.b.hi - f.b.lo + 1) (by omega)
          obtain ⟨v, hv⟩ : ∃ v, f.b.lo + windI (IntKind.i64.wrap (n2.tdiv 2)) (f.b.hi - f.b.lo + 1) = v := ⟨_, rfl⟩
          rw [hv] at hHeld ⊢
          have hv1 : f.b.lo ≤ v := by omega
          have hv2 : v ≤ f.b.hi := by omega
          have o9 := ((own_below (own_below HVO.out hb6) hb7).stored (j * 4) (.int .i64 v)).1
          have o9 := (o9.stored (j * 4 + 1) (.int .i64 v)).1
          rw [frosts_setB fs j v v hjl, HF.out] at o9
          have s0 : w7.cell? ⟨w3.heap.size, 0, none⟩ = some (.int .i64 set) := (hc7 _ _ z6).trans ((hc6 _ _ (by omega)).trans v0)
          have HN := hid (show Narrow ⟨⟨v, v⟩, f.e⟩ fs[j] by rw [HF.out]; exact narrow_b hv1 hv2 (by omega))
          have HK := hid (And.intro (ok_narrow HO.out hjl HN.out) (inT_narrow fs j _ hjl HN.out))
          have HH := hid hHeld
          have HO9 := hid o9
          have hz8 : w3.heap.size < w7.heap.size := z7
          clear hv hHeld o9 hc6 hf6 hl6 hm6 hw6 hc7 hf7 hl7 hm7 hw7
          go_wp2_with fail
          go_meet
          obtain ⟨X', xc', e', _, _, hXX⟩ := own_form HO9.out
          simp only [Value.slice.injEq] at e'
          obtain ⟨rfl, _, rfl⟩ := e'
          exact ⟨fs.set j ⟨⟨v, v⟩, f.e⟩, by simp, by rw [World.cell?_setCell_other _ _ _ _ (by simp <;> omega), World.cell?_setCell_other _ _ _ _ (by simp <;> omega)]; exact s0, HH.out.1.1, hXX, HK, by simp only [World.size_setCell]; exact hz8, HH.out.2⟩
      · have t2 : (n2.tmod 2 == 0) = false := by simp [hpar]
        · have HS : Hid (n2.tmod 2 ≠ 0) := hid hpar
          clear hpar
          go_wp2_with (go_at_call 42; refine (wind_any n1 fs.length (by omega) _).mono ?_; rw [HJ.out]; rintro e w9 ⟨rfl, rfl⟩)
          go_region_held3 (fun w' => (w'.cell? ⟨w3.heap.size, 1, none⟩ = some (.slice (some ⟨xb, 0, none⟩) fs.length xcap) ∧ w'.cell? ⟨w.heap.size, 1, none⟩ = some (.slice (some ⟨fb, fo, none⟩) fs.length cap) ∧ w'.cell? ⟨fb, fo + j * 4 + 2, none⟩ = some (.int .i64 f.e.lo) ∧ w'.cell? ⟨fb, fo + j * 4 + 3, none⟩ = some (.int .i64 f.e.hi) ∧ w'.cell? ⟨w.heap.size + 1, 2, none⟩ = some (.int .i64 n2) ∧ Wr w' xb (j * 4 + 2) ∧ Wr w' xb (j * 4 + 3)) ∧ Below w3.heap.size w3 w') (((refine ⟨?_, ?_⟩; (focus (first | (simp [go_sem, wr_set, wr_drew, wr_drewN, wr_alloc, wr_new]; done) | (simp [go_sem, wr_set, wr_drew, wr_drewN, wr_alloc, wr_new, *]; done) | (simp (disch := go_size) [go_sem, wr_set, wr_drew, wr_drewN, wr_alloc, wr_new, *]; done))); (repeat' (first | (with_reducible exact Below.refl _ _) | (with_reducible assumption) | (with_reducible refine Below.drew ?_) | (with_reducible refine below_drewN ?_ _) | (with_reducible refine Below.setCell ?_ ?_ _) | (with_reducible refine Below.alloc ?_ ?_ _) | go_size | (exact Below.size (by assumption)) | (refine Below.trans ?_ (Below.mono (by assumption) ?_)))))))
            (first
              | (go_at_call 48; refine (some_any _ _ _ _ (by omega) (by omega) (by omega)).mono ?_; rintro e w6 ⟨rfl, hb6⟩; (first | replace hb6 := Below.un1 hb6 | replace hb6 := Below.un2 hb6 | skip); obtain ⟨hc6, hf6, hl6, hm6, hw6⟩ := bcell hb6; have hz6 := hb6.size; (try simp only [World.size_alloc, World.size_setCell] at hz6); have z6 : w3.heap.size < w6.heap.size := (by omega); have z6' : xb < w6.heap.size := (by omega))
              | (go_at_call 47; refine (one_any _ _).mono ?_; rintro e w7 ⟨rfl, hb7⟩; (first | replace hb7 := Below.un1 hb7 | replace hb7 := Below.un2 hb7 | skip); obtain ⟨hc7, hf7, hl7, hm7, hw7⟩ := bcell hb7; have hz7 := hb7.size; (try simp only [World.size_alloc, World.size_setCell] at hz7); have z7 : w3.heap.size < w7.heap.size := (by omega); have z7' : xb < w7.heap.size := (by omega)))
          rename_i hHeld
          obtain ⟨q1, q2⟩ := windI_range (IntKind.i64.wrap (n2.tdiv 2)) (f.e.hi - f.e.lo + 1) (by omega)
          obtain ⟨v, hv⟩ : ∃ v, f.e.lo + windI (IntKind.i64.wrap (n2.tdiv 2)) (f.e.hi - f.e.lo + 1) = v := ⟨_, rfl⟩
          rw [hv] at hHeld ⊢
          have hv1 : f.e.lo ≤ v := by omega
          have hv2 : v ≤ f.e.hi := by omega
          have o9 := ((own_below (own_below HVO.out hb6) hb7).stored (j * 4 + 2) (.int .i64 v)).1
          have o9 := (o9.stored (j * 4 + 3) (.int .i64 v)).1
          rw [frosts_setE fs j v v hjl, HF.out] at o9
          have s0 : w7.cell? ⟨w3.heap.size, 0, none⟩ = some (.int .i64 set) := (hc7 _ _ z6).trans ((hc6 _ _ (by omega)).trans v0)
          have HN := hid (show Narrow ⟨f.b, ⟨v, v⟩⟩ fs[j] by rw [HF.out]; exact narrow_e hv1 hv2 (by omega))
          have HK := hid (And.intro (ok_narrow HO.out hjl HN.out) (inT_narrow fs j _ hjl HN.out))
          have HH := hid hHeld
          have HO9 := hid o9
          have hz8 : w3.heap.size < w7.heap.size := z7
          clear hv hHeld o9 hc6 hf6 hl6 hm6 hw6 hc7 hf7 hl7 hm7 hw7
          go_wp2_with fail
          go_meet
          obtain ⟨X', xc', e', _, _, hXX⟩ := own_form HO9.out
          simp only [Value.slice.injEq] at e'
          obtain ⟨rfl, _, rfl⟩ := e'
          exact ⟨fs.set j ⟨f.b, ⟨v, v⟩⟩, by simp, by rw [World.cell?_setCell_other _ _ _ _ (by simp <;> omega), World.cell?_setCell_other _ _ _ _ (by simp <;> omega)]; exact s0, HH.out.1.1, hXX, HK, by simp only [World.size_setCell]; exact hz8, HH.out.2⟩
  case rest =>
    obtain ⟨fs', hfl', x0, x1, hX, HK, hzc, hBc⟩ := hcut
    have c0' := (hBc.cell (p := ⟨w.heap.size, 0, none⟩) n3').trans c0
    have c1' := (hBc.cell (p := ⟨w.heap.size, 1, none⟩) n3').trans c1
    have m0' := (hBc.cell (p := ⟨w.heap.size + 1, 0, none⟩) n3'').trans m0
    have hAc := (hA3.below hBc).more hBc.size
    have hLc := (hL3.below hBc).more hBc.size
    have HFL := hid hfl'
    obtain ⟨i, hi, hil⟩ : ∃ i : Nat, windI n0 ls.length = i ∧ (i < ls.length ∨ ls = []) := by
      rcases Nat.eq_zero_or_pos ls.length with h0 | h0
      · refine ⟨0, ?_, .inr (List.length_eq_zero_iff.1 h0)⟩
        unfold windI; rw [if_pos (by omega)]; rfl
      · obtain ⟨r1, r2⟩ := windI_range n0 ls.length (by omega)
        exact ⟨(windI n0 ls.length).toNat, by omega, .inl (by omega)⟩
    have HI := hid hi
    have hi6 : i ≤ 6 := by
      rcases hil with h | h
      · omega
      · rw [h] at hi
        simp [windI] at hi
        omega
    have HIL := hid hil
    have hzw : w.heap.size < wc.heap.size := by omega
    have hBw : Below w.heap.size w wc := hB3.trans (hBc.mono hB3.size)
    clear hi hil hfl' v0 v1 hVz hVB hVo c0 c1 m0 m1 m2 hA3 hL3
    have hll : (ls.length : Int) ≤ 6 := by omega
    go_wp2_with (first
      | (go_at_call 42; refine (wind_any n0 ls.length (by omega) _).mono ?_; rw [HI.out]; rintro e w9 ⟨rfl, rfl⟩)
      | (go_at_call 49; refine (lawless_any L (some ⟨wc.heap.size, 0, none⟩) lcap 1 ls [(i : Int)] _ ?_ ?_ (by omega) (by simp)).mono ?_; (focus (refine (hLc.below ?_).more ?_; (repeat' (first | (with_reducible exact Below.refl _ _) | (with_reducible assumption) | (with_reducible refine Below.drew ?_) | (with_reducible refine below_drewN ?_ _) | (with_reducible refine Below.setCell ?_ ?_ _) | (with_reducible refine Below.alloc ?_ ?_ _) | go_size | (exact Below.size (by assumption)) | (refine Below.trans ?_ (Below.mono (by assumption) ?_)))))); (focus (refine (arr_new wc #[.int .i64 (i : Int)] _).more ?_; simp)); rintro e w6 ⟨R, rc, rfl, hrc, hR, hb6⟩; (first | replace hb6 := Below.un1 hb6 | replace hb6 := Below.un2 hb6 | skip); obtain ⟨hc6, hf6, hl6, hm6, hw6⟩ := bcell hb6; have hz6 := hb6.size; (try simp only [World.size_alloc] at hz6); refine Halt.on ?_))
    have hb6' : Below wc.heap.size wc w6 := ((Below.refl _ _).alloc (Nat.le_refl _) _).trans (hb6.mono (by simp))
    have x0' := (hb6'.cell (p := ⟨w3.heap.size, 0, none⟩) hzc).trans x0
    have x1' := (hb6'.cell (p := ⟨w3.heap.size, 1, none⟩) hzc).trans x1
    have c0 := (hb6'.cell (p := ⟨w.heap.size, 0, none⟩) hzw).trans c0'
    have c1 := (hb6'.cell (p := ⟨w.heap.size, 1, none⟩) hzw).trans c1'
    have hA6 := (hAc.below hb6').more hb6'.size
    have hL6 := (hLc.below hb6').more hb6'.size
    have hX6 := (hX.below hb6').more hb6'.size
    have hB6 : Below w.heap.size w w6 := hBw.trans (hb6'.mono hBw.size)
    have hzw6 : w.heap.size < w6.heap.size := by have := hb6'.size; omega
    have hz36 : w3.heap.size < w6.heap.size := by have := hb6'.size; omega
    have hlf : (without ls (keepOf [(i : Int)])).length ≤ 6 := Nat.le_trans (without_le _ _) hll6
    clear hc6 hf6 hl6 hm6 hw6 hb6 hz6 hb6' x0 x1 c0' c1' m0' hAc hLc hX hBc hBw hzc hzw hB3 n3' n3'' hrc
    have ML := more_law HO.out HK.out.1 HK.out.2 HV.out i HIL.out
    obtain ⟨few, hfew⟩ : ∃ few, without ls (keepOf [(i : Int)]) = few := ⟨_, rfl⟩
    rw [hfew] at ML hR hlf ⊢
    clear hfew
    rcases ML with ⟨P1, P3, P2⟩ | ⟨l, m, s, t, P1, P2, hl1, hm1, hlm, S1, S2, hst, hlt, hgt, hk⟩
    · have T1 := hid (times_to (A := A) (L := L) (cap := cap) (lcap := lcap) P1 rfl rfl (by omega))
      have T3 := hid (times_to (A := X) (L := L) (cap := xcap) (lcap := lcap) P3 rfl HFL.out (by omega))
      obtain ⟨fm, fe, P2, hfe⟩ : ∃ fm fe, timesR ⟨set, fs⟩ few = (fm, fe) ∧ (fe = 0 ∨ fe = 12) := by
        rcases P2 with ⟨m, P2⟩ | P2
        · exact ⟨_, _, P2, .inl rfl⟩
        · exact ⟨_, _, P2, .inr rfl⟩
      have T2 := hid (times_to (A := A) (L := R) (cap := cap) (lcap := rc) P2 rfl rfl (by omega))
      clear P1 P2 P3
      refine Halt.off ?_
      rcases hfe with rfl | rfl
      all_goals
        go_wp2_with (first
          | (go_at_call 27; ((with_reducible refine (T1.out _ ?_ ?_).mono ?_); (focus (refine (hA6.below ?_).more ?_; (repeat' (first | (with_reducible exact Below.refl _ _) | (with_reducible assumption) | (with_reducible refine Below.drew ?_) | (with_reducible refine below_drewN ?_ _) | (with_reducible refine Below.setCell ?_ ?_ _) | (with_reducible refine Below.alloc ?_ ?_ _) | go_size | (exact Below.size (by assumption)) | (refine Below.trans ?_ (Below.mono (by assumption) ?_)))))); (focus (refine (hL6.below ?_).more ?_; (repeat' (first | (with_reducible exact Below.refl _ _) | (with_reducible assumption) | (with_reducible refine Below.drew ?_) | (with_reducible refine below_drewN ?_ _) | (with_reducible refine Below.setCell ?_ ?_ _) | (with_reducible refine Below.alloc ?_ ?_ _) | go_size | (exact Below.size (by assumption)) | (refine Below.trans ?_ (Below.mono (by assumption) ?_)))))); rintro e w7 ⟨O7, oc7, rfl, hO7, hb7⟩; (first | replace hb7 := Below.un1 hb7 | replace hb7 := Below.un2 hb7 | skip); obtain ⟨hc7, hf7, hl7, hm7, hw7⟩ := bcell hb7; have hz7 := hb7.size; have e7 : w.heap.size < w7.heap.size := (by omega); have e7' : w3.heap.size < w7.heap.size := (by omega)))
          | (go_at_call 27; ((with_reducible refine (T2.out _ ?_ ?_).mono ?_); (focus (refine (hA6.below ?_).more ?_; (repeat' (first | (with_reducible exact Below.refl _ _) | (with_reducible assumption) | (with_reducible refine Below.drew ?_) | (with_reducible refine below_drewN ?_ _) | (with_reducible refine Below.setCell ?_ ?_ _) | (with_reducible refine Below.alloc ?_ ?_ _) | go_size | (exact Below.size (by assumption)) | (refine Below.trans ?_ (Below.mono (by assumption) ?_)))))); (focus (refine (hR.below ?_).more ?_; (repeat' (first | (with_reducible exact Below.refl _ _) | (with_reducible assumption) | (with_reducible refine Below.drew ?_) | (with_reducible refine below_drewN ?_ _) | (with_reducible refine Below.setCell ?_ ?_ _) | (with_reducible refine Below.alloc ?_ ?_ _) | go_size | (exact Below.size (by assumption)) | (refine Below.trans ?_ (Below.mono (by assumption) ?_)))))); rintro e w8 ⟨O8, oc8, rfl, hO8, hb8⟩; (first | replace hb8 := Below.un1 hb8 | replace hb8 := Below.un2 hb8 | skip); obtain ⟨hc8, hf8, hl8, hm8, hw8⟩ := bcell hb8; have hz8 := hb8.size; have e8 : w.heap.size < w8.heap.size := (by omega); have e8' : w3.heap.size < w8.heap.size := (by omega)))
          | (go_at_call 27; ((with_reducible refine (T3.out _ ?_ ?_).mono ?_); (focus (refine (hX6.below ?_).more ?_; (repeat' (first | (with_reducible exact Below.refl _ _) | (with_reducible assumption) | (with_reducible refine Below.drew ?_) | (with_reducible refine below_drewN ?_ _) | (with_reducible refine Below.setCell ?_ ?_ _) | (with_reducible refine Below.alloc ?_ ?_ _) | go_size | (exact Below.size (by assumption)) | (refine Below.trans ?_ (Below.mono (by assumption) ?_)))))); (focus (refine (hL6.below ?_).more ?_; (repeat' (first | (with_reducible exact Below.refl _ _) | (with_reducible assumption) | (with_reducible refine Below.drew ?_) | (with_reducible refine below_drewN ?_ _) | (with_reducible refine Below.setCell ?_ ?_ _) | (with_reducible refine Below.alloc ?_ ?_ _) | go_size | (exact Below.size (by assumption)) | (refine Below.trans ?_ (Below.mono (by assumption) ?_)))))); rintro e w9 ⟨O9, oc9, rfl, hO9, hb9⟩; (first | replace hb9 := Below.un1 hb9 | replace hb9 := Below.un2 hb9 | skip); obtain ⟨hc9, hf9, hl9, hm9, hw9⟩ := bcell hb9; have hz9 := hb9.size; have e9 : w.heap.size < w9.heap.size := (by omega); have e9' : w3.heap.size < w9.heap.size := (by omega)))
          | (go_at_call 22; refine (ticks_any _).mono ?_; rintro e w10 ⟨rfl, hb10⟩; (first | replace hb10 := Below.un1 hb10 | replace hb10 := Below.un2 hb10 | skip); obtain ⟨hc10, hf10, hl10, hm10, hw10⟩ := bcell hb10; have hz10 := hb10.size; (try simp only [World.size_alloc, World.size_setCell] at hz10)))
        go_ret
        exact ⟨rfl, by (repeat' (first | (with_reducible exact Below.refl _ _) | (with_reducible assumption) | (with_reducible refine Below.drew ?_) | (with_reducible refine below_drewN ?_ _) | (with_reducible refine Below.setCell ?_ ?_ _) | (with_reducible refine Below.alloc ?_ ?_ _) | go_size | (exact Below.size (by assumption)) | (refine Below.trans ?_ (Below.mono (by assumption) ?_))))⟩
    · have T1 := hid (times_to (A := A) (L := L) (cap := cap) (lcap := lcap) P1 hl1 rfl (by omega))
      have T2 := hid (times_to (A := A) (L := R) (cap := cap) (lcap := rc) P2 hm1 rfl (by omega))
      have S1 := hid (stopped_to (A := A) (L := L) (cap := cap) (lcap := lcap) S1 (by omega))
      have S2 := hid (stopped_to (A := A) (L := R) (cap := cap) (lcap := rc) S2 (by omega))
      have HIN : Hid ((decide (t.lo ≤ s.lo) && decide (s.hi ≤ t.hi)) = true) := hid (by rw [decide_eq_true hst.1, decide_eq_true hst.2]; rfl)
      obtain ⟨k, g, n3, P3, hkn, hg⟩ : ∃ (k : List Sp) (g : Int) (n3 : Nat), timesR ⟨set, fs'⟩ ls = (k, g) ∧ k.length = n3 ∧ ((g = 0 ∧ n3 = ls.length ∧ ∀ p (h1 : p < k.length) (h2 : p < l.length), Sub k[p] l[p]) ∨ g = 12) := by
        rcases hk with P3 | ⟨k, P3, hkl, hkk⟩
        · exact ⟨[], 12, 0, P3, rfl, .inr rfl⟩
        · exact ⟨k, 0, ls.length, P3, by omega, .inl ⟨rfl, rfl, hkk⟩⟩
      have T3 := hid (times_to (A := X) (L := L) (cap := xcap) (lcap := lcap) P3 hkn HFL.out (by omega))
      have HL1 := hid hl1
      have HM1 := hid hm1
      have HKN := hid hkn
      have HLM := hid hlm
      have HLT := hid hlt
      have HGT := hid hgt
      have HG : Hid (g = 0 → ∀ p (h1 : p < k.length) (h2 : p < l.length), Sub k[p] l[p]) := hid fun h => by
        rcases hg with h' | h'
        · exact h'.2.2
        · rw [h'] at h; cases h
      have hg' : (g = 0 ∧ n3 = ls.length) ∨ g = 12 := by
        rcases hg with h | h
        · exact .inl ⟨h.1, h.2.1⟩
        · exact .inr h
      clear P1 P2 P3 hl1 hm1 hlm hst hlt hgt hk hkn hg
      refine Halt.off ?_
      rcases hg' with ⟨rfl, rfl⟩ | rfl
      · go_wp2_with (first
          | (go_at_call 27; ((with_reducible refine (T1.out _ ?_ ?_).mono ?_); (focus (refine (hA6.below ?_).more ?_; (repeat' (first | (with_reducible exact Below.refl _ _) | (with_reducible assumption) | (with_reducible refine Below.drew ?_) | (with_reducible refine below_drewN ?_ _) | (with_reducible refine Below.setCell ?_ ?_ _) | (with_reducible refine Below.alloc ?_ ?_ _) | go_size | (exact Below.size (by assumption)) | (refine Below.trans ?_ (Below.mono (by assumption) ?_)))))); (focus (refine (hL6.below ?_).more ?_; (repeat' (first | (with_reducible exact Below.refl _ _) | (with_reducible assumption) | (with_reducible refine Below.drew ?_) | (with_reducible refine below_drewN ?_ _) | (with_reducible refine Below.setCell ?_ ?_ _) | (with_reducible refine Below.alloc ?_ ?_ _) | go_size | (exact Below.size (by assumption)) | (refine Below.trans ?_ (Below.mono (by assumption) ?_)))))); rintro e w7 ⟨O7, oc7, rfl, hO7, hb7⟩; (first | replace hb7 := Below.un1 hb7 | replace hb7 := Below.un2 hb7 | skip); obtain ⟨hc7, hf7, hl7, hm7, hw7⟩ := bcell hb7; have hz7 := hb7.size; have e7 : w.heap.size < w7.heap.size := (by omega); have e7' : w3.heap.size < w7.heap.size := (by omega)))
          | (go_at_call 27; ((with_reducible refine (T2.out _ ?_ ?_).mono ?_); (focus (refine (hA6.below ?_).more ?_; (repeat' (first | (with_reducible exact Below.refl _ _) | (with_reducible assumption) | (with_reducible refine Below.drew ?_) | (with_reducible refine below_drewN ?_ _) | (with_reducible refine Below.setCell ?_ ?_ _) | (with_reducible refine Below.alloc ?_ ?_ _) | go_size | (exact Below.size (by assumption)) | (refine Below.trans ?_ (Below.mono (by assumption) ?_)))))); (focus (refine (hR.below ?_).more ?_; (repeat' (first | (with_reducible exact Below.refl _ _) | (with_reducible assumption) | (with_reducible refine Below.drew ?_) | (with_reducible refine below_drewN ?_ _) | (with_reducible refine Below.setCell ?_ ?_ _) | (with_reducible refine Below.alloc ?_ ?_ _) | go_size | (exact Below.size (by assumption)) | (refine Below.trans ?_ (Below.mono (by assumption) ?_)))))); rintro e w8 ⟨O8, oc8, rfl, hO8, hb8⟩; (first | replace hb8 := Below.un1 hb8 | replace hb8 := Below.un2 hb8 | skip); obtain ⟨hc8, hf8, hl8, hm8, hw8⟩ := bcell hb8; have hz8 := hb8.size; have e8 : w.heap.size < w8.heap.size := (by omega); have e8' : w3.heap.size < w8.heap.size := (by omega)))
          | (go_at_call 27; ((with_reducible refine (T3.out _ ?_ ?_).mono ?_); (focus (refine (hX6.below ?_).more ?_; (repeat' (first | (with_reducible exact Below.refl _ _) | (with_reducible assumption) | (with_reducible refine Below.drew ?_) | (with_reducible refine below_drewN ?_ _) | (with_reducible refine Below.setCell ?_ ?_ _) | (with_reducible refine Below.alloc ?_ ?_ _) | go_size | (exact Below.size (by assumption)) | (refine Below.trans ?_ (Below.mono (by assumption) ?_)))))); (focus (refine (hL6.below ?_).more ?_; (repeat' (first | (with_reducible exact Below.refl _ _) | (with_reducible assumption) | (with_reducible refine Below.drew ?_) | (with_reducible refine below_drewN ?_ _) | (with_reducible refine Below.setCell ?_ ?_ _) | (with_reducible refine Below.alloc ?_ ?_ _) | go_size | (exact Below.size (by assumption)) | (refine Below.trans ?_ (Below.mono (by assumption) ?_)))))); rintro e w9 ⟨O9, oc9, rfl, hO9, hb9⟩; (first | replace hb9 := Below.un1 hb9 | replace hb9 := Below.un2 hb9 | skip); obtain ⟨hc9, hf9, hl9, hm9, hw9⟩ := bcell hb9; have hz9 := hb9.size; have e9 : w.heap.size < w9.heap.size := (by omega); have e9' : w3.heap.size < w9.heap.size := (by omega)))
          | (go_at_call 30; ((with_reducible refine (S1.out _ ?_ ?_).mono ?_); (focus (refine (hA6.below ?_).more ?_; (repeat' (first | (with_reducible exact Below.refl _ _) | (with_reducible assumption) | (with_reducible refine Below.drew ?_) | (with_reducible refine below_drewN ?_ _) | (with_reducible refine Below.setCell ?_ ?_ _) | (with_reducible refine Below.alloc ?_ ?_ _) | go_size | (exact Below.size (by assumption)) | (refine Below.trans ?_ (Below.mono (by assumption) ?_)))))); (focus (refine (hL6.below ?_).more ?_; (repeat' (first | (with_reducible exact Below.refl _ _) | (with_reducible assumption) | (with_reducible refine Below.drew ?_) | (with_reducible refine below_drewN ?_ _) | (with_reducible refine Below.setCell ?_ ?_ _) | (with_reducible refine Below.alloc ?_ ?_ _) | go_size | (exact Below.size (by assumption)) | (refine Below.trans ?_ (Below.mono (by assumption) ?_)))))); rintro e w10 ⟨rfl, hb10⟩; (first | replace hb10 := Below.un1 hb10 | replace hb10 := Below.un2 hb10 | skip); obtain ⟨hc10, hf10, hl10, hm10, hw10⟩ := bcell hb10; have hz10 := hb10.size; (try simp only [World.size_alloc, World.size_setCell] at hz10); have e10 : w.heap.size < w10.heap.size := (by omega); have e10' : w3.heap.size < w10.heap.size := (by omega)))
          | (go_at_call 30; ((with_reducible refine (S2.out _ ?_ ?_).mono ?_); (focus (refine (hA6.below ?_).more ?_; (repeat' (first | (with_reducible exact Below.refl _ _) | (with_reducible assumption) | (with_reducible refine Below.drew ?_) | (with_reducible refine below_drewN ?_ _) | (with_reducible refine Below.setCell ?_ ?_ _) | (with_reducible refine Below.alloc ?_ ?_ _) | go_size | (exact Below.size (by assumption)) | (refine Below.trans ?_ (Below.mono (by assumption) ?_)))))); (focus (refine (hR.below ?_).more ?_; (repeat' (first | (with_reducible exact Below.refl _ _) | (with_reducible assumption) | (with_reducible refine Below.drew ?_) | (with_reducible refine below_drewN ?_ _) | (with_reducible refine Below.setCell ?_ ?_ _) | (with_reducible refine Below.alloc ?_ ?_ _) | go_size | (exact Below.size (by assumption)) | (refine Below.trans ?_ (Below.mono (by assumption) ?_)))))); rintro e w11 ⟨rfl, hb11⟩; (first | replace hb11 := Below.un1 hb11 | replace hb11 := Below.un2 hb11 | skip); obtain ⟨hc11, hf11, hl11, hm11, hw11⟩ := bcell hb11; have hz11 := hb11.size; (try simp only [World.size_alloc, World.size_setCell] at hz11); have e11 : w.heap.size < w11.heap.size := (by omega); have e11' : w3.heap.size < w11.heap.size := (by omega)))
          | (go_at_call 40; refine (inside_any _ _ _ _ _).mono ?_; rw [HIN.out]; rintro e w12 ⟨rfl, hb12⟩; (first | replace hb12 := Below.un1 hb12 | replace hb12 := Below.un2 hb12 | skip); obtain ⟨hc12, hf12, hl12, hm12, hw12⟩ := bcell hb12; have hz12 := hb12.size; (try simp only [World.size_alloc, World.size_setCell] at hz12)))
        have B9 : Below w9.heap.size w9 w12 := by (repeat' (first | (with_reducible exact Below.refl _ _) | (with_reducible assumption) | (with_reducible refine Below.drew ?_) | (with_reducible refine below_drewN ?_ _) | (with_reducible refine Below.setCell ?_ ?_ _) | (with_reducible refine Below.alloc ?_ ?_ _) | go_size | (exact Below.size (by assumption)) | (refine Below.trans ?_ (Below.mono (by assumption) ?_))))
        have B8 : Below w8.heap.size w8 w12 := (hb9).trans (B9.mono (by omega))
        have B7 : Below w7.heap.size w7 w12 := (hb8).trans (B8.mono (by omega))
        have hO7' := (hO7.below B7).more B7.size
        have hO8' := (hO8.below B8).more B8.size
        have hO9' := (hO9.below B9).more B9.size
        have hBw : Below w.heap.size w w12 := by (repeat' (first | (with_reducible exact Below.refl _ _) | (with_reducible assumption) | (with_reducible refine Below.drew ?_) | (with_reducible refine below_drewN ?_ _) | (with_reducible refine Below.setCell ?_ ?_ _) | (with_reducible refine Below.alloc ?_ ?_ _) | go_size | (exact Below.size (by assumption)) | (refine Below.trans ?_ (Below.mono (by assumption) ?_))))
        have hzw : w.heap.size ≤ w12.heap.size := by omega
        clear hc7 hf7 hl7 hm7 hw7 hb7 hz7 e7 e7' hc8 hf8 hl8 hm8 hw8 hb8 hz8 e8 e8' hc9 hf9 hl9 hm9 hw9 hb9 hz9 e9 e9' hc10 hf10 hl10 hm10 hw10 hb10 hz10 e10 e10' hc11 hf11 hl11 hm11 hw11 hb11 hz11 e11 e11' hc12 hf12 hl12 hm12 hw12 hb12 hz12 B7 B8 B9 hO7 hO8 hO9 x0' x1' c0 c1 hA6 hL6 hX6 hR
        go_loopw [21] (fun pv wr => ∃ p : Nat, p ≤ ls.length ∧ pv = .int .i64 p ∧ Below w12.heap.size w12 wr) (fun pv _ => ls.length - (intOf pv).toNat)
        case atStart => exact ⟨0, Nat.zero_le _, rfl, Below.refl _ _⟩
        case round =>
          obtain ⟨p, hp, rfl, hBr⟩ := hrel
          obtain ⟨wo, rfl⟩ : ∃ wo : World, wo = wr := ⟨_, rfl⟩
          have hzr := hBr.size
          by_cases hlt : p < ls.length
          · have hpI : (p : Int) < ls.length := by omega
            have hpl : p < l.length := by have := HL1.out; omega
            have hpk : p < k.length := by have := HKN.out; omega
            have hll1 : ls.length ≤ few.length + 1 := by
              have h1 := HLM.out (fun e => by rw [e] at hlt; simp at hlt)
              have h2 := HL1.out
              have h3 := HM1.out
              omega
            obtain ⟨b7, o7, rfl, hb7z, u0, u1⟩ := (hO7'.below hBr).sp hpl
            obtain ⟨x, hx⟩ : ∃ x, l[p] = x := ⟨_, rfl⟩
            rw [hx] at u0 u1
            obtain ⟨b9, o9, rfl, hb9z, v0, v1⟩ := (hO9'.below hBr).sp hpk
            obtain ⟨kx, hkx⟩ : ∃ kx, k[p] = kx := ⟨_, rfl⟩
            rw [hkx] at v0 v1
            have HKL : Hid (Sub kx x) := hid (by rw [← hkx, ← hx]; exact HG.out (by simp) p hpk hpl)
            clear hkx
            obtain ⟨b8, o8, h8⟩ : ∃ b8 o8, 0 < few.length → O8 = some ⟨b8, o8, none⟩ ∧ b8 < wo.heap.size ∧ ∀ q (h : q < m.length), wo.cell? ⟨b8, o8 + q * 2, none⟩ = some (.int .i64 m[q].lo) ∧ wo.cell? ⟨b8, o8 + q * 2 + 1, none⟩ = some (.int .i64 m[q].hi) := row_at (hO8'.below hBr) hBr.size (by rw [HM1.out])
            obtain ⟨q, hq⟩ : ∃ q, q = p - 1 := ⟨_, rfl⟩
            obtain ⟨mv1, hmv1⟩ : ∃ mv, ∀ (h : p < m.length), m[p] = mv := by
              by_cases h : p < m.length
              · exact ⟨m[p], fun _ => rfl⟩
              · exact ⟨⟨0, 0⟩, fun h' => absurd h' h⟩
            obtain ⟨mv2, hmv2⟩ : ∃ mv, ∀ (h : q < m.length), m[q] = mv := by
              by_cases h : q < m.length
              · exact ⟨m[q], fun _ => rfl⟩
              · exact ⟨⟨0, 0⟩, fun h' => absurd h' h⟩
            obtain ⟨b1, hb1⟩ : ∃ b, decide (p < i) = b := ⟨_, rfl⟩
            obtain ⟨b2, hb2⟩ : ∃ b, decide (i < p) = b := ⟨_, rfl⟩
            have hm1 := hid (show b1 = true → O8 = some ⟨b8, o8, none⟩ ∧ (p : Int) < few.length ∧ b8 < wo.heap.size ∧ wo.cell? ⟨b8, o8 + p * 2, none⟩ = some (.int .i64 mv1.lo) ∧ wo.cell? ⟨b8, o8 + p * 2 + 1, none⟩ = some (.int .i64 mv1.hi) ∧ Sub x mv1 from fun h => by
              rw [h] at hb1
              have hpi := of_decide_eq_true hb1
              have hif : i < ls.length := by
                rcases HIL.out with h | h
                · exact h
                · rw [h] at hlt; simp at hlt
              have hm := HM1.out
              have hpm : p < m.length := by omega
              obtain ⟨e, hs, hc⟩ := h8 (by omega)
              obtain ⟨k0, k1⟩ := hc p hpm
              have hsub := HLT.out p hpl hpm hpi
              rw [hmv1 hpm] at k0 k1 hsub
              rw [hx] at hsub
              exact ⟨e, by omega, hs, k0, k1, hsub⟩)
            have hm2 := hid (show b2 = true → ((p : Int) - 1 = q ∧ 0 ≤ (p : Int) - 1) ∧ O8 = some ⟨b8, o8, none⟩ ∧ (q : Int) < few.length ∧ b8 < wo.heap.size ∧ wo.cell? ⟨b8, o8 + q * 2, none⟩ = some (.int .i64 mv2.lo) ∧ wo.cell? ⟨b8, o8 + q * 2 + 1, none⟩ = some (.int .i64 mv2.hi) ∧ Sub x mv2 from fun h => by
              rw [h] at hb2
              have hpi := of_decide_eq_true hb2
              have hm := HM1.out
              have hqm : q < m.length := by omega
              obtain ⟨e, hs, hc⟩ := h8 (by omega)
              obtain ⟨k0, k1⟩ := hc q hqm
              have hpq : q + 1 = p := by omega
              have hsub := HGT.out q (by rw [hpq]; exact hpl) hqm (by omega)
              rw [hmv2 hqm] at k0 k1 hsub
              have hxq : l[q + 1]'(by rw [hpq]; exact hpl) = x := by rw [← hx]; congr 1
              rw [hxq] at hsub
              exact ⟨⟨by omega, by omega⟩, e, by omega, hs, k0, k1, hsub⟩)
            have HB1 := hid hb1
            have HB2 := hid hb2
            clear hb1 hb2 hmv1 hmv2 h8 hx hq
            go_wp2_with fail
            go_cut [253] (fun v wx => v = .bool false ∧ Below wo.heap.size wo wx)
            case first =>
              refine wp_region_any (by kernel_rfl) ?_
              have T0 : Below wo.heap.size wo wo.drew := (Below.refl _ _).drew
              refine lin_any [48] 255 (moF p i q 0 (.slice (some ⟨b7, o7, none⟩) ls.length oc7) (.slice O8 few.length oc8) (.slice (some ⟨b9, o9, none⟩) ls.length oc9) (.pointer (some ⟨b7, o7 + p * 2, none⟩)) (.agg #[.int .i64 x.lo, .int .i64 x.hi]) (.pointer (some ⟨b8, o8 + p * 2, none⟩)) (.agg #[.int .i64 mv1.lo, .int .i64 mv1.hi]) (.pointer (some ⟨b8, o8 + q * 2, none⟩)) (.agg #[.int .i64 mv2.lo, .int .i64 mv2.hi]) (.pointer (some ⟨b9, o9 + p * 2, none⟩)) (.agg #[.int .i64 kx.lo, .int .i64 kx.hi]) b1 b2 true) (fun w' => Below wo.heap.size wo w') (fun w1 w2 => Below w1.heap.size w1 w2)
                [0, 1, 2, 3, 4, 5, 6, 7, 8, 9, 10, 11, 12, 13, 14, 15, 16, 17, 18, 19, 20, 21, 22, 23, 24, 25, 26, 27, 28, 29, 30, 31, 32, 33, 34, 35, 36, 37, 38, 39, 40, 41, 42, 43, 44, 45, 46, 47, 48, 49, 50, 51, 52, 53, 54, 55, 56, 57, 58, 59, 60, 61, 62, 63, 64, 65, 66, 67, 68, 69, 70, 71, 72, 73, 74, 75, 76, 77, 78, 79, 80, 81, 82, 83, 84, 85, 86, 87, 88, 89, 90, 91, 92, 93, 94, 95, 96, 97, 98, 99, 100, 101, 102, 103, 104, 105, 106, 107, 108, 109, 110, 111, 112, 113, 114, 115, 116, 117, 118, 119, 120, 121, 122, 123, 124, 125, 126, 127, 128, 129, 130, 131, 132, 133, 134, 135, 136, 137, 138, 139, 140, 141, 142, 143, 144, 145, 146, 147, 148, 149, 150, 151, 152, 153, 154, 155, 156, 157, 158, 159, 160, 161, 162, 163, 164, 165, 166, 167, 168, 169, 170, 171, 172, 173, 174, 175, 176, 177, 178, 179, 180, 181, 182, 183, 184, 185, 186, 187, 188, 189, 190, 191, 192, 193, 194, 195, 196, 197, 198, 199, 200, 201, 202, 203, 204, 254] #[true, true, true, true, true, true, true, true, true, true, true, true, true, true, true, true, true, true, true, true, true, true, true, true, true, true, true, true, true, true, true, true, true, true, true, true, true, true, true, true, true, true, true, true, true, true, true, true, false] [0, 1, 2, 3, 4, 5, 6, 7, 8, 9, 10, 11, 12, 13, 14, 15, 16, 17, 18, 19, 20, 21, 22, 23, 24, 25, 26, 27, 28, 29, 30, 31, 32, 33, 34, 35, 36, 37, 38, 39, 40, 41, 42, 43, 44, 45, 46, 47] (by kernel_rfl) (by kernel_rfl) (by kernel_rfl) (by kernel_rfl) (by kernel_rfl) (by kernel_rfl) (by kernel_rfl) (by kernel_rfl) (by kernel_rfl) (by kernel_rfl)
                (moF_stable _ _ _ _ _ _ _ _ _ _ _ _ _ _ _ _ _ _) (by rfl) T0 ?_ ?_
              · intro a' w' hd hsz hkn hT
                clear hd
                have r9 := hkn 9 (by decide); have r11 := hkn 11 (by decide); have r13 := hkn 13 (by decide); have r15 := hkn 15 (by decide); have r16 := hkn 16 (by decide); have r21 := hkn 21 (by decide); simp only [Array.getD_eq_getD_getElem?, List.getElem?_toArray, List.getElem?_cons_succ, List.getElem?_cons_zero, Option.getD_some] at r9 r11 r13 r15 r16 r21
                clear hkn
                have f0 : w'.cell? ⟨b7, o7 + p * 2, none⟩ = some (.int .i64 x.lo) := (hT.cell (by simp only; omega)).trans u0
                have f1 : w'.cell? ⟨b7, o7 + p * 2 + 1, none⟩ = some (.int .i64 x.hi) := (hT.cell (by simp only; omega)).trans u1
                have f4 : w'.cell? ⟨b9, o9 + p * 2, none⟩ = some (.int .i64 kx.lo) := (hT.cell (by simp only; omega)).trans v0
                have f5 : w'.cell? ⟨b9, o9 + p * 2 + 1, none⟩ = some (.int .i64 kx.hi) := (hT.cell (by simp only; omega)).trans v1
                refine LinOps.cons (by simp only [List.getElem?_toArray, List.getElem?_cons_succ, List.getElem?_cons_zero]; rfl) (fun hk K hK => ?_) ?_
                · rw [if_pos (wanted_none rfl)]; obtain ⟨ρ, hρ⟩ : ∃ ρ, a'.eval = ρ := ⟨_, rfl⟩; have qc : ∀ v, ρ (.const v) = v := (fun v => (by rw [← hρ]; rfl)); have qf : ∀ f, ρ (.func f) = .func (.func f) #[] #[] := (fun f => (by rw [← hρ]; rfl)); have q21 := eval_of r21; rw [hρ] at q21; refine abs_op ρ hρ ?_; clear hρ; go_simp
                  exact hK.out _ _ _ rfl rfl hT (Below.refl _ _)
                refine LinOps.cons (by simp only [List.getElem?_toArray, List.getElem?_cons_succ, List.getElem?_cons_zero]; rfl) (fun hk K hK => ?_) ?_
                · rw [if_pos (wanted_none rfl)]; obtain ⟨ρ, hρ⟩ : ∃ ρ, a'.eval = ρ := ⟨_, rfl⟩; have qc : ∀ v, ρ (.const v) = v := (fun v => (by rw [← hρ]; rfl)); have qf : ∀ f, ρ (.func f) = .func (.func f) #[] #[] := (fun f => (by rw [← hρ]; rfl)); have q9 := eval_of r9; rw [hρ] at q9; refine abs_op ρ hρ ?_; clear hρ; go_simp
                  exact hK.out _ _ _ rfl rfl hT (Below.refl _ _)
                refine LinOps.cons (by simp only [List.getElem?_toArray, List.getElem?_cons_succ, List.getElem?_cons_zero]; rfl) (fun hk K hK => ?_) ?_
                · (obtain ⟨v, r205, hf⟩ := Known.get (hk 0 (by kernel_rfl) (by simp)) (d := 205) (by kernel_rfl); simp only [moF] at hf; (try subst hf)); (obtain ⟨v, r206, hf⟩ := Known.get (hk 1 (by kernel_rfl) (by simp)) (d := 206) (by kernel_rfl); simp only [moF] at hf; (try subst hf))
                  rw [if_pos (wanted_none rfl)]; obtain ⟨ρ, hρ⟩ : ∃ ρ, a'.eval = ρ := ⟨_, rfl⟩; have qc : ∀ v, ρ (.const v) = v := (fun v => (by rw [← hρ]; rfl)); have qf : ∀ f, ρ (.func f) = .func (.func f) #[] #[] := (fun f => (by rw [← hρ]; rfl)); have q205 := eval_of r205; rw [hρ] at q205; have q206 := eval_of r206; rw [hρ] at q206; refine abs_op ρ hρ ?_; clear hρ; go_simp
                  exact hK.out _ _ _ rfl (by show _ = Value.bool b1; rw [← HB1.out]) hT (Below.refl _ _)
                refine LinOps.cons (by simp only [List.getElem?_toArray, List.getElem?_cons_succ, List.getElem?_cons_zero]; rfl) (fun hk K hK => ?_) ?_
                · (obtain ⟨v, r207, hf⟩ := Known.get (hk 2 (by kernel_rfl) (by simp)) (d := 207) (by kernel_rfl); simp only [moF] at hf; (try subst hf))
                  rw [if_pos (wanted_none rfl)]; obtain ⟨ρ, hρ⟩ : ∃ ρ, a'.eval = ρ := ⟨_, rfl⟩; have qc : ∀ v, ρ (.const v) = v := (fun v => (by rw [← hρ]; rfl)); have qf : ∀ f, ρ (.func f) = .func (.func f) #[] #[] := (fun f => (by rw [← hρ]; rfl)); have q207 := eval_of r207; rw [hρ] at q207; refine abs_op ρ hρ ?_; clear hρ; go_simp
                  exact hK.out _ _ _ rfl rfl hT (Below.refl _ _)
                refine LinOps.cons (by simp only [List.getElem?_toArray, List.getElem?_cons_succ, List.getElem?_cons_zero]; rfl) (fun hk K hK => ?_) ?_
                · (obtain ⟨v, r208, hf⟩ := Known.get (hk 3 (by kernel_rfl) (by simp)) (d := 208) (by kernel_rfl); simp only [moF] at hf; (try subst hf))
                  cases b1
                  · rw [if_neg (wanted_no rfl (by kernel_rfl) r208 rfl)]
                    exact hK.out _ _ _ rfl rfl hT (Below.refl _ _)
                  · rw [if_pos (wanted_yes rfl (by kernel_rfl) r208)]; obtain ⟨ρ, hρ⟩ : ∃ ρ, a'.eval = ρ := ⟨_, rfl⟩; have qc : ∀ v, ρ (.const v) = v := (fun v => (by rw [← hρ]; rfl)); have qf : ∀ f, ρ (.func f) = .func (.func f) #[] #[] := (fun f => (by rw [← hρ]; rfl)); have q11 := eval_of r11; rw [hρ] at q11; refine abs_op ρ hρ ?_; clear hρ; go_simp
                    exact hK.out _ _ _ rfl rfl hT (Below.refl _ _)
                refine LinOps.cons (by simp only [List.getElem?_toArray, List.getElem?_cons_succ, List.getElem?_cons_zero]; rfl) (fun hk K hK => ?_) ?_
                · (obtain ⟨v, r208, hf⟩ := Known.get (hk 3 (by kernel_rfl) (by simp)) (d := 208) (by kernel_rfl); simp only [moF] at hf; (try subst hf))
                  cases b1
                  · rw [if_neg (wanted_no rfl (by kernel_rfl) r208 rfl)]
                    exact hK.out _ _ _ rfl rfl hT (Below.refl _ _)
                  · rw [if_pos (wanted_yes rfl (by kernel_rfl) r208)]; obtain ⟨ρ, hρ⟩ : ∃ ρ, a'.eval = ρ := ⟨_, rfl⟩; have qc : ∀ v, ρ (.const v) = v := (fun v => (by rw [← hρ]; rfl)); have qf : ∀ f, ρ (.func f) = .func (.func f) #[] #[] := (fun f => (by rw [← hρ]; rfl)); have q21 := eval_of r21; rw [hρ] at q21; refine abs_op ρ hρ ?_; clear hρ; go_simp
                    exact hK.out _ _ _ rfl rfl hT (Below.refl _ _)
                refine LinOps.cons (by simp only [List.getElem?_toArray, List.getElem?_cons_succ, List.getElem?_cons_zero]; rfl) (fun hk K hK => ?_) ?_
                · (obtain ⟨v, r208, hf⟩ := Known.get (hk 3 (by kernel_rfl) (by simp)) (d := 208) (by kernel_rfl); simp only [moF] at hf; (try subst hf)); (obtain ⟨v, r209, hf⟩ := Known.get (hk 4 (by kernel_rfl) (by simp)) (d := 209) (by kernel_rfl); simp only [moF] at hf; (try subst hf)); (obtain ⟨v, r210, hf⟩ := Known.get (hk 5 (by kernel_rfl) (by simp)) (d := 210) (by kernel_rfl); simp only [moF] at hf; (try subst hf))
                  cases b1
                  · rw [if_neg (wanted_no rfl (by kernel_rfl) r208 rfl)]
                    exact hK.out _ _ _ rfl rfl hT (Below.refl _ _)
                  · rw [if_pos (wanted_yes rfl (by kernel_rfl) r208)]; obtain ⟨ρ, hρ⟩ : ∃ ρ, a'.eval = ρ := ⟨_, rfl⟩; have qc : ∀ v, ρ (.const v) = v := (fun v => (by rw [← hρ]; rfl)); have qf : ∀ f, ρ (.func f) = .func (.func f) #[] #[] := (fun f => (by rw [← hρ]; rfl)); have q209 := eval_of r209; rw [hρ] at q209; have q210 := eval_of r210; rw [hρ] at q210; refine abs_op ρ hρ ?_; clear hρ; go_simp
                    exact hK.out _ _ _ rfl rfl hT (Below.refl _ _)
                refine LinOps.cons (by simp only [List.getElem?_toArray, List.getElem?_cons_succ, List.getElem?_cons_zero]; rfl) (fun hk K hK => ?_) ?_
                · (obtain ⟨v, r208, hf⟩ := Known.get (hk 3 (by kernel_rfl) (by simp)) (d := 208) (by kernel_rfl); simp only [moF] at hf; (try subst hf)); (obtain ⟨v, r211, hf⟩ := Known.get (hk 6 (by kernel_rfl) (by simp)) (d := 211) (by kernel_rfl); simp only [moF] at hf; (try subst hf))
                  cases b1
                  · rw [if_neg (wanted_no rfl (by kernel_rfl) r208 rfl)]
                    exact hK.out _ _ _ rfl rfl hT (Below.refl _ _)
                  · rw [if_pos (wanted_yes rfl (by kernel_rfl) r208)]; obtain ⟨ρ, hρ⟩ : ∃ ρ, a'.eval = ρ := ⟨_, rfl⟩; have qc : ∀ v, ρ (.const v) = v := (fun v => (by rw [← hρ]; rfl)); have qf : ∀ f, ρ (.func f) = .func (.func f) #[] #[] := (fun f => (by rw [← hρ]; rfl)); have q211 := eval_of r211; rw [hρ] at q211; refine abs_op ρ hρ ?_; clear hρ; go_simp
                    exact hK.out _ _ _ rfl rfl hT (Below.refl _ _)
                refine LinOps.cons (by simp only [List.getElem?_toArray, List.getElem?_cons_succ, List.getElem?_cons_zero]; rfl) (fun hk K hK => ?_) ?_
                · (obtain ⟨v, r208, hf⟩ := Known.get (hk 3 (by kernel_rfl) (by simp)) (d := 208) (by kernel_rfl); simp only [moF] at hf; (try subst hf))
                  cases b1
                  · rw [if_neg (wanted_no rfl (by kernel_rfl) r208 rfl)]
                    exact hK.out _ _ _ rfl rfl hT (Below.refl _ _)
                  · rw [if_pos (wanted_yes rfl (by kernel_rfl) r208)]; obtain ⟨ρ, hρ⟩ : ∃ ρ, a'.eval = ρ := ⟨_, rfl⟩; have qc : ∀ v, ρ (.const v) = v := (fun v => (by rw [← hρ]; rfl)); have qf : ∀ f, ρ (.func f) = .func (.func f) #[] #[] := (fun f => (by rw [← hρ]; rfl)); have q13 := eval_of r13; rw [hρ] at q13; refine abs_op ρ hρ ?_; clear hρ; go_simp
                    exact hK.out _ _ _ rfl rfl hT (Below.refl _ _)
                refine LinOps.cons (by simp only [List.getElem?_toArray, List.getElem?_cons_succ, List.getElem?_cons_zero]; rfl) (fun hk K hK => ?_) ?_
                · (obtain ⟨v, r208, hf⟩ := Known.get (hk 3 (by kernel_rfl) (by simp)) (d := 208) (by kernel_rfl); simp only [moF] at hf; (try subst hf))
                  cases b1
                  · rw [if_neg (wanted_no rfl (by kernel_rfl) r208 rfl)]
                    exact hK.out _ _ _ rfl rfl hT (Below.refl _ _)
                  · rw [if_pos (wanted_yes rfl (by kernel_rfl) r208)]; obtain ⟨ρ, hρ⟩ : ∃ ρ, a'.eval = ρ := ⟨_, rfl⟩; have qc : ∀ v, ρ (.const v) = v := (fun v => (by rw [← hρ]; rfl)); have qf : ∀ f, ρ (.func f) = .func (.func f) #[] #[] := (fun f => (by rw [← hρ]; rfl)); have q21 := eval_of r21; rw [hρ] at q21; refine abs_op ρ hρ ?_; clear hρ; go_simp
                    exact hK.out _ _ _ rfl rfl hT (Below.refl _ _)
                refine LinOps.cons (by simp only [List.getElem?_toArray, List.getElem?_cons_succ, List.getElem?_cons_zero]; rfl) (fun hk K hK => ?_) ?_
                · (obtain ⟨v, r208, hf⟩ := Known.get (hk 3 (by kernel_rfl) (by simp)) (d := 208) (by kernel_rfl); simp only [moF] at hf; (try subst hf)); (obtain ⟨v, r213, hf⟩ := Known.get (hk 8 (by kernel_rfl) (by simp)) (d := 213) (by kernel_rfl); simp only [moF] at hf; (try subst hf)); (obtain ⟨v, r214, hf⟩ := Known.get (hk 9 (by kernel_rfl) (by simp)) (d := 214) (by kernel_rfl); simp only [moF] at hf; (try subst hf))
                  cases b1
                  · rw [if_neg (wanted_no rfl (by kernel_rfl) r208 rfl)]
                    exact hK.out _ _ _ rfl rfl hT (Below.refl _ _)
                  · obtain ⟨e8, hpf, -⟩ := hm1.out rfl
                    rw [e8] at r213
                    rw [if_pos (wanted_yes rfl (by kernel_rfl) r208)]; obtain ⟨ρ, hρ⟩ : ∃ ρ, a'.eval = ρ := ⟨_, rfl⟩; have qc : ∀ v, ρ (.const v) = v := (fun v => (by rw [← hρ]; rfl)); have qf : ∀ f, ρ (.func f) = .func (.func f) #[] #[] := (fun f => (by rw [← hρ]; rfl)); have q213 := eval_of r213; rw [hρ] at q213; have q214 := eval_of r214; rw [hρ] at q214; refine abs_op ρ hρ ?_; clear hρ; go_simp
                    exact hK.out _ _ _ rfl rfl hT (Below.refl _ _)
                refine LinOps.cons (by simp only [List.getElem?_toArray, List.getElem?_cons_succ, List.getElem?_cons_zero]; rfl) (fun hk K hK => ?_) ?_
                · (obtain ⟨v, r208, hf⟩ := Known.get (hk 3 (by kernel_rfl) (by simp)) (d := 208) (by kernel_rfl); simp only [moF] at hf; (try subst hf)); (obtain ⟨v, r215, hf⟩ := Known.get (hk 10 (by kernel_rfl) (by simp)) (d := 215) (by kernel_rfl); simp only [moF] at hf; (try subst hf))
                  cases b1
                  · rw [if_neg (wanted_no rfl (by kernel_rfl) r208 rfl)]
                    exact hK.out _ _ _ rfl rfl hT (Below.refl _ _)
                  · obtain ⟨-, -, hbs, k0, k1, -⟩ := hm1.out rfl
                    have f2 := (hT.cell (p := ⟨b8, o8 + p * 2, none⟩) hbs).trans k0
                    have f3 := (hT.cell (p := ⟨b8, o8 + p * 2 + 1, none⟩) hbs).trans k1
                    rw [if_pos (wanted_yes rfl (by kernel_rfl) r208)]; obtain ⟨ρ, hρ⟩ : ∃ ρ, a'.eval = ρ := ⟨_, rfl⟩; have qc : ∀ v, ρ (.const v) = v := (fun v => (by rw [← hρ]; rfl)); have qf : ∀ f, ρ (.func f) = .func (.func f) #[] #[] := (fun f => (by rw [← hρ]; rfl)); have q215 := eval_of r215; rw [hρ] at q215; refine abs_op ρ hρ ?_; clear hρ; go_simp
                    exact hK.out _ _ _ rfl rfl hT (Below.refl _ _)
                refine LinOps.cons (by simp only [List.getElem?_toArray, List.getElem?_cons_succ, List.getElem?_cons_zero]; rfl) (fun hk K hK => ?_) ?_
                · (obtain ⟨v, r208, hf⟩ := Known.get (hk 3 (by kernel_rfl) (by simp)) (d := 208) (by kernel_rfl); simp only [moF] at hf; (try subst hf)); (obtain ⟨v, r212, hf⟩ := Known.get (hk 7 (by kernel_rfl) (by simp)) (d := 212) (by kernel_rfl); simp only [moF] at hf; (try subst hf)); (obtain ⟨v, r216, hf⟩ := Known.get (hk 11 (by kernel_rfl) (by simp)) (d := 216) (by kernel_rfl); simp only [moF] at hf; (try subst hf))
                  cases b1
                  · rw [if_neg (wanted_no rfl (by kernel_rfl) r208 rfl)]
                    exact hK.out _ _ _ rfl rfl hT (Below.refl _ _)
                  · have hin := (hm1.out rfl).2.2.2.2.2
                    rw [if_pos (wanted_yes rfl (by kernel_rfl) r208)]; obtain ⟨ρ, hρ⟩ : ∃ ρ, a'.eval = ρ := ⟨_, rfl⟩; have qc : ∀ v, ρ (.const v) = v := (fun v => (by rw [← hρ]; rfl)); have qf : ∀ f, ρ (.func f) = .func (.func f) #[] #[] := (fun f => (by rw [← hρ]; rfl)); have q212 := eval_of r212; rw [hρ] at q212; have q216 := eval_of r216; rw [hρ] at q216; refine abs_op ρ hρ ?_; clear hρ; go_simp
                    go_at_call 40; refine (inside_any _ _ _ _ _).mono ?_
                    rw [in_sub hin]
                    rintro e w1 ⟨rfl, h1⟩
                    exact hK.out _ _ _ rfl rfl (hT.trans (h1.mono hT.size)) h1
                refine LinOps.cons (by simp only [List.getElem?_toArray, List.getElem?_cons_succ, List.getElem?_cons_zero]; rfl) (fun hk K hK => ?_) ?_
                · (obtain ⟨v, r208, hf⟩ := Known.get (hk 3 (by kernel_rfl) (by simp)) (d := 208) (by kernel_rfl); simp only [moF] at hf; (try subst hf)); (obtain ⟨v, r217, hf⟩ := Known.get (hk 12 (by kernel_rfl) (by simp)) (d := 217) (by kernel_rfl); simp only [moF] at hf; (try subst hf))
                  cases b1
                  · rw [if_neg (wanted_no rfl (by kernel_rfl) r208 rfl)]
                    exact hK.out _ _ _ rfl rfl hT (Below.refl _ _)
                  · rw [if_pos (wanted_yes rfl (by kernel_rfl) r208)]; obtain ⟨ρ, hρ⟩ : ∃ ρ, a'.eval = ρ := ⟨_, rfl⟩; have qc : ∀ v, ρ (.const v) = v := (fun v => (by rw [← hρ]; rfl)); have qf : ∀ f, ρ (.func f) = .func (.func f) #[] #[] := (fun f => (by rw [← hρ]; rfl)); have q217 := eval_of r217; rw [hρ] at q217; refine abs_op ρ hρ ?_; clear hρ; go_simp
                    exact hK.out _ _ _ rfl rfl hT (Below.refl _ _)
                refine LinOps.cons (by simp only [List.getElem?_toArray, List.getElem?_cons_succ, List.getElem?_cons_zero]; rfl) (fun hk K hK => ?_) ?_
                · (obtain ⟨v, r208, hf⟩ := Known.get (hk 3 (by kernel_rfl) (by simp)) (d := 208) (by kernel_rfl); simp only [moF] at hf; (try subst hf)); (obtain ⟨v, r218, hf⟩ := Known.get (hk 13 (by kernel_rfl) (by simp)) (d := 218) (by kernel_rfl); simp only [moF] at hf; (try subst hf))
                  cases b1
                  all_goals
                    rw [if_pos (wanted_none rfl)]; obtain ⟨ρ, hρ⟩ : ∃ ρ, a'.eval = ρ := ⟨_, rfl⟩; have qc : ∀ v, ρ (.const v) = v := (fun v => (by rw [← hρ]; rfl)); have qf : ∀ f, ρ (.func f) = .func (.func f) #[] #[] := (fun f => (by rw [← hρ]; rfl)); have q208 := eval_of r208; rw [hρ] at q208; have q218 := eval_of r218; rw [hρ] at q218; refine abs_op ρ hρ ?_; clear hρ; go_simp
                    exact hK.out _ _ _ rfl rfl hT (Below.refl _ _)
                refine LinOps.cons (by simp only [List.getElem?_toArray, List.getElem?_cons_succ, List.getElem?_cons_zero]; rfl) (fun hk K hK => ?_) ?_
                · (obtain ⟨v, r219, hf⟩ := Known.get (hk 14 (by kernel_rfl) (by simp)) (d := 219) (by kernel_rfl); simp only [moF] at hf; (try subst hf))
                  rw [if_pos (wanted_none rfl)]; obtain ⟨ρ, hρ⟩ : ∃ ρ, a'.eval = ρ := ⟨_, rfl⟩; have qc : ∀ v, ρ (.const v) = v := (fun v => (by rw [← hρ]; rfl)); have qf : ∀ f, ρ (.func f) = .func (.func f) #[] #[] := (fun f => (by rw [← hρ]; rfl)); have q219 := eval_of r219; rw [hρ] at q219; refine abs_op ρ hρ ?_; clear hρ; go_simp
                  exact hK.out _ _ _ rfl rfl hT (Below.refl _ _)
                refine LinOps.cons (by simp only [List.getElem?_toArray, List.getElem?_cons_succ, List.getElem?_cons_zero]; rfl) (fun hk K hK => ?_) ?_
                · (obtain ⟨v, r220, hf⟩ := Known.get (hk 15 (by kernel_rfl) (by simp)) (d := 220) (by kernel_rfl); simp only [moF] at hf; (try subst hf))
                  rw [if_pos (wanted_yes rfl (by kernel_rfl) r220)]; obtain ⟨ρ, hρ⟩ : ∃ ρ, a'.eval = ρ := ⟨_, rfl⟩; have qc : ∀ v, ρ (.const v) = v := (fun v => (by rw [← hρ]; rfl)); have qf : ∀ f, ρ (.func f) = .func (.func f) #[] #[] := (fun f => (by rw [← hρ]; rfl)); have q21 := eval_of r21; rw [hρ] at q21; refine abs_op ρ hρ ?_; clear hρ; go_simp
                  exact hK.out _ _ _ rfl rfl hT (Below.refl _ _)
                refine LinOps.cons (by simp only [List.getElem?_toArray, List.getElem?_cons_succ, List.getElem?_cons_zero]; rfl) (fun hk K hK => ?_) ?_
                · (obtain ⟨v, r220, hf⟩ := Known.get (hk 15 (by kernel_rfl) (by simp)) (d := 220) (by kernel_rfl); simp only [moF] at hf; (try subst hf))
                  rw [if_pos (wanted_yes rfl (by kernel_rfl) r220)]; obtain ⟨ρ, hρ⟩ : ∃ ρ, a'.eval = ρ := ⟨_, rfl⟩; have qc : ∀ v, ρ (.const v) = v := (fun v => (by rw [← hρ]; rfl)); have qf : ∀ f, ρ (.func f) = .func (.func f) #[] #[] := (fun f => (by rw [← hρ]; rfl)); have q9 := eval_of r9; rw [hρ] at q9; refine abs_op ρ hρ ?_; clear hρ; go_simp
                  exact hK.out _ _ _ rfl rfl hT (Below.refl _ _)
                refine LinOps.cons (by simp only [List.getElem?_toArray, List.getElem?_cons_succ, List.getElem?_cons_zero]; rfl) (fun hk K hK => ?_) ?_
                · (obtain ⟨v, r220, hf⟩ := Known.get (hk 15 (by kernel_rfl) (by simp)) (d := 220) (by kernel_rfl); simp only [moF] at hf; (try subst hf)); (obtain ⟨v, r221, hf⟩ := Known.get (hk 16 (by kernel_rfl) (by simp)) (d := 221) (by kernel_rfl); simp only [moF] at hf; (try subst hf)); (obtain ⟨v, r222, hf⟩ := Known.get (hk 17 (by kernel_rfl) (by simp)) (d := 222) (by kernel_rfl); simp only [moF] at hf; (try subst hf))
                  rw [if_pos (wanted_yes rfl (by kernel_rfl) r220)]; obtain ⟨ρ, hρ⟩ : ∃ ρ, a'.eval = ρ := ⟨_, rfl⟩; have qc : ∀ v, ρ (.const v) = v := (fun v => (by rw [← hρ]; rfl)); have qf : ∀ f, ρ (.func f) = .func (.func f) #[] #[] := (fun f => (by rw [← hρ]; rfl)); have q221 := eval_of r221; rw [hρ] at q221; have q222 := eval_of r222; rw [hρ] at q222; refine abs_op ρ hρ ?_; clear hρ; go_simp
                  exact hK.out _ _ _ rfl (by show _ = Value.bool b2; rw [← HB2.out]) hT (Below.refl _ _)
                refine LinOps.cons (by simp only [List.getElem?_toArray, List.getElem?_cons_succ, List.getElem?_cons_zero]; rfl) (fun hk K hK => ?_) ?_
                · (obtain ⟨v, r220, hf⟩ := Known.get (hk 15 (by kernel_rfl) (by simp)) (d := 220) (by kernel_rfl); simp only [moF] at hf; (try subst hf)); (obtain ⟨v, r223, hf⟩ := Known.get (hk 18 (by kernel_rfl) (by simp)) (d := 223) (by kernel_rfl); simp only [moF] at hf; (try subst hf))
                  rw [if_pos (wanted_yes rfl (by kernel_rfl) r220)]; obtain ⟨ρ, hρ⟩ : ∃ ρ, a'.eval = ρ := ⟨_, rfl⟩; have qc : ∀ v, ρ (.const v) = v := (fun v => (by rw [← hρ]; rfl)); have qf : ∀ f, ρ (.func f) = .func (.func f) #[] #[] := (fun f => (by rw [← hρ]; rfl)); have q223 := eval_of r223; rw [hρ] at q223; refine abs_op ρ hρ ?_; clear hρ; go_simp
                  exact hK.out _ _ _ rfl rfl hT (Below.refl _ _)
                refine LinOps.cons (by simp only [List.getElem?_toArray, List.getElem?_cons_succ, List.getElem?_cons_zero]; rfl) (fun hk K hK => ?_) ?_
                · (obtain ⟨v, r224, hf⟩ := Known.get (hk 19 (by kernel_rfl) (by simp)) (d := 224) (by kernel_rfl); simp only [moF] at hf; (try subst hf))
                  cases b2
                  · rw [if_neg (wanted_no rfl (by kernel_rfl) r224 rfl)]
                    exact hK.out _ _ _ rfl rfl hT (Below.refl _ _)
                  · rw [if_pos (wanted_yes rfl (by kernel_rfl) r224)]; obtain ⟨ρ, hρ⟩ : ∃ ρ, a'.eval = ρ := ⟨_, rfl⟩; have qc : ∀ v, ρ (.const v) = v := (fun v => (by rw [← hρ]; rfl)); have qf : ∀ f, ρ (.func f) = .func (.func f) #[] #[] := (fun f => (by rw [← hρ]; rfl)); have q11 := eval_of r11; rw [hρ] at q11; refine abs_op ρ hρ ?_; clear hρ; go_simp
                    exact hK.out _ _ _ rfl rfl hT (Below.refl _ _)
                refine LinOps.cons (by simp only [List.getElem?_toArray, List.getElem?_cons_succ, List.getElem?_cons_zero]; rfl) (fun hk K hK => ?_) ?_
                · (obtain ⟨v, r224, hf⟩ := Known.get (hk 19 (by kernel_rfl) (by simp)) (d := 224) (by kernel_rfl); simp only [moF] at hf; (try subst hf))
                  cases b2
                  · rw [if_neg (wanted_no rfl (by kernel_rfl) r224 rfl)]
                    exact hK.out _ _ _ rfl rfl hT (Below.refl _ _)
                  · rw [if_pos (wanted_yes rfl (by kernel_rfl) r224)]; obtain ⟨ρ, hρ⟩ : ∃ ρ, a'.eval = ρ := ⟨_, rfl⟩; have qc : ∀ v, ρ (.const v) = v := (fun v => (by rw [← hρ]; rfl)); have qf : ∀ f, ρ (.func f) = .func (.func f) #[] #[] := (fun f => (by rw [← hρ]; rfl)); have q21 := eval_of r21; rw [hρ] at q21; refine abs_op ρ hρ ?_; clear hρ; go_simp
                    exact hK.out _ _ _ rfl rfl hT (Below.refl _ _)
                refine LinOps.cons (by simp only [List.getElem?_toArray, List.getElem?_cons_succ, List.getElem?_cons_zero]; rfl) (fun hk K hK => ?_) ?_
                · (obtain ⟨v, r224, hf⟩ := Known.get (hk 19 (by kernel_rfl) (by simp)) (d := 224) (by kernel_rfl); simp only [moF] at hf; (try subst hf)); (obtain ⟨v, r225, hf⟩ := Known.get (hk 20 (by kernel_rfl) (by simp)) (d := 225) (by kernel_rfl); simp only [moF] at hf; (try subst hf)); (obtain ⟨v, r226, hf⟩ := Known.get (hk 21 (by kernel_rfl) (by simp)) (d := 226) (by kernel_rfl); simp only [moF] at hf; (try subst hf))
                  cases b2
                  · rw [if_neg (wanted_no rfl (by kernel_rfl) r224 rfl)]
                    exact hK.out _ _ _ rfl rfl hT (Below.refl _ _)
                  · rw [if_pos (wanted_yes rfl (by kernel_rfl) r224)]; obtain ⟨ρ, hρ⟩ : ∃ ρ, a'.eval = ρ := ⟨_, rfl⟩; have qc : ∀ v, ρ (.const v) = v := (fun v => (by rw [← hρ]; rfl)); have qf : ∀ f, ρ (.func f) = .func (.func f) #[] #[] := (fun f => (by rw [← hρ]; rfl)); have q225 := eval_of r225; rw [hρ] at q225; have q226 := eval_of r226; rw [hρ] at q226; refine abs_op ρ hρ ?_; clear hρ; go_simp
                    exact hK.out _ _ _ rfl rfl hT (Below.refl _ _)
                refine LinOps.cons (by simp only [List.getElem?_toArray, List.getElem?_cons_succ, List.getElem?_cons_zero]; rfl) (fun hk K hK => ?_) ?_
                · (obtain ⟨v, r224, hf⟩ := Known.get (hk 19 (by kernel_rfl) (by simp)) (d := 224) (by kernel_rfl); simp only [moF] at hf; (try subst hf)); (obtain ⟨v, r227, hf⟩ := Known.get (hk 22 (by kernel_rfl) (by simp)) (d := 227) (by kernel_rfl); simp only [moF] at hf; (try subst hf))
                  cases b2
                  · rw [if_neg (wanted_no rfl (by kernel_rfl) r224 rfl)]
                    exact hK.out _ _ _ rfl rfl hT (Below.refl _ _)
                  · rw [if_pos (wanted_yes rfl (by kernel_rfl) r224)]; obtain ⟨ρ, hρ⟩ : ∃ ρ, a'.eval = ρ := ⟨_, rfl⟩; have qc : ∀ v, ρ (.const v) = v := (fun v => (by rw [← hρ]; rfl)); have qf : ∀ f, ρ (.func f) = .func (.func f) #[] #[] := (fun f => (by rw [← hρ]; rfl)); have q227 := eval_of r227; rw [hρ] at q227; refine abs_op ρ hρ ?_; clear hρ; go_simp
                    exact hK.out _ _ _ rfl rfl hT (Below.refl _ _)
                refine LinOps.cons (by simp only [List.getElem?_toArray, List.getElem?_cons_succ, List.getElem?_cons_zero]; rfl) (fun hk K hK => ?_) ?_
                · (obtain ⟨v, r224, hf⟩ := Known.get (hk 19 (by kernel_rfl) (by simp)) (d := 224) (by kernel_rfl); simp only [moF] at hf; (try subst hf))
                  cases b2
                  · rw [if_neg (wanted_no rfl (by kernel_rfl) r224 rfl)]
                    exact hK.out _ _ _ rfl rfl hT (Below.refl _ _)
                  · rw [if_pos (wanted_yes rfl (by kernel_rfl) r224)]; obtain ⟨ρ, hρ⟩ : ∃ ρ, a'.eval = ρ := ⟨_, rfl⟩; have qc : ∀ v, ρ (.const v) = v := (fun v => (by rw [← hρ]; rfl)); have qf : ∀ f, ρ (.func f) = .func (.func f) #[] #[] := (fun f => (by rw [← hρ]; rfl)); have q13 := eval_of r13; rw [hρ] at q13; refine abs_op ρ hρ ?_; clear hρ; go_simp
                    exact hK.out _ _ _ rfl rfl hT (Below.refl _ _)
                refine LinOps.cons (by simp only [List.getElem?_toArray, List.getElem?_cons_succ, List.getElem?_cons_zero]; rfl) (fun hk K hK => ?_) ?_
                · (obtain ⟨v, r224, hf⟩ := Known.get (hk 19 (by kernel_rfl) (by simp)) (d := 224) (by kernel_rfl); simp only [moF] at hf; (try subst hf))
                  cases b2
                  · rw [if_neg (wanted_no rfl (by kernel_rfl) r224 rfl)]
                    exact hK.out _ _ _ rfl rfl hT (Below.refl _ _)
                  · rw [if_pos (wanted_yes rfl (by kernel_rfl) r224)]; obtain ⟨ρ, hρ⟩ : ∃ ρ, a'.eval = ρ := ⟨_, rfl⟩; have qc : ∀ v, ρ (.const v) = v := (fun v => (by rw [← hρ]; rfl)); have qf : ∀ f, ρ (.func f) = .func (.func f) #[] #[] := (fun f => (by rw [← hρ]; rfl)); have q21 := eval_of r21; rw [hρ] at q21; refine abs_op ρ hρ ?_; clear hρ; go_simp
                    exact hK.out _ _ _ rfl rfl hT (Below.refl _ _)
                refine LinOps.cons (by simp only [List.getElem?_toArray, List.getElem?_cons_succ, List.getElem?_cons_zero]; rfl) (fun hk K hK => ?_) ?_
                · (obtain ⟨v, r224, hf⟩ := Known.get (hk 19 (by kernel_rfl) (by simp)) (d := 224) (by kernel_rfl); simp only [moF] at hf; (try subst hf)); (obtain ⟨v, r230, hf⟩ := Known.get (hk 25 (by kernel_rfl) (by simp)) (d := 230) (by kernel_rfl); simp only [moF] at hf; (try subst hf))
                  cases b2
                  · rw [if_neg (wanted_no rfl (by kernel_rfl) r224 rfl)]
                    exact hK.out _ _ _ rfl rfl hT (Below.refl _ _)
                  · obtain ⟨hq, -⟩ := hm2.out rfl
                    rw [if_pos (wanted_yes rfl (by kernel_rfl) r224)]; obtain ⟨ρ, hρ⟩ : ∃ ρ, a'.eval = ρ := ⟨_, rfl⟩; have qc : ∀ v, ρ (.const v) = v := (fun v => (by rw [← hρ]; rfl)); have qf : ∀ f, ρ (.func f) = .func (.func f) #[] #[] := (fun f => (by rw [← hρ]; rfl)); have q230 := eval_of r230; rw [hρ] at q230; refine abs_op ρ hρ ?_; clear hρ; go_simp
                    exact hK.out _ _ _ rfl (by show _ = Value.int .i64 (q : Int); rw [← hq.1]; first | rfl | (congr 1; exact (IntWalk.i64_in _ (by omega))) | (congr 1; exact (IntWalk.i64_in _ (by omega)).symm)) hT (Below.refl _ _)
                refine LinOps.cons (by simp only [List.getElem?_toArray, List.getElem?_cons_succ, List.getElem?_cons_zero]; rfl) (fun hk K hK => ?_) ?_
                · (obtain ⟨v, r224, hf⟩ := Known.get (hk 19 (by kernel_rfl) (by simp)) (d := 224) (by kernel_rfl); simp only [moF] at hf; (try subst hf)); (obtain ⟨v, r229, hf⟩ := Known.get (hk 24 (by kernel_rfl) (by simp)) (d := 229) (by kernel_rfl); simp only [moF] at hf; (try subst hf)); (obtain ⟨v, r231, hf⟩ := Known.get (hk 26 (by kernel_rfl) (by simp)) (d := 231) (by kernel_rfl); simp only [moF] at hf; (try subst hf))
                  cases b2
                  · rw [if_neg (wanted_no rfl (by kernel_rfl) r224 rfl)]
                    exact hK.out _ _ _ rfl rfl hT (Below.refl _ _)
                  · obtain ⟨-, e8, hpf, -⟩ := hm2.out rfl
                    rw [e8] at r229
                    rw [if_pos (wanted_yes rfl (by kernel_rfl) r224)]; obtain ⟨ρ, hρ⟩ : ∃ ρ, a'.eval = ρ := ⟨_, rfl⟩; have qc : ∀ v, ρ (.const v) = v := (fun v => (by rw [← hρ]; rfl)); have qf : ∀ f, ρ (.func f) = .func (.func f) #[] #[] := (fun f => (by rw [← hρ]; rfl)); have q229 := eval_of r229; rw [hρ] at q229; have q231 := eval_of r231; rw [hρ] at q231; refine abs_op ρ hρ ?_; clear hρ; go_simp
                    exact hK.out _ _ _ rfl rfl hT (Below.refl _ _)
                refine LinOps.cons (by simp only [List.getElem?_toArray, List.getElem?_cons_succ, List.getElem?_cons_zero]; rfl) (fun hk K hK => ?_) ?_
                · (obtain ⟨v, r224, hf⟩ := Known.get (hk 19 (by kernel_rfl) (by simp)) (d := 224) (by kernel_rfl); simp only [moF] at hf; (try subst hf)); (obtain ⟨v, r232, hf⟩ := Known.get (hk 27 (by kernel_rfl) (by simp)) (d := 232) (by kernel_rfl); simp only [moF] at hf; (try subst hf))
                  cases b2
                  · rw [if_neg (wanted_no rfl (by kernel_rfl) r224 rfl)]
                    exact hK.out _ _ _ rfl rfl hT (Below.refl _ _)
                  · obtain ⟨-, -, -, hbs, k0, k1, -⟩ := hm2.out rfl
                    have f2 := (hT.cell (p := ⟨b8, o8 + q * 2, none⟩) hbs).trans k0
                    have f3 := (hT.cell (p := ⟨b8, o8 + q * 2 + 1, none⟩) hbs).trans k1
                    rw [if_pos (wanted_yes rfl (by kernel_rfl) r224)]; obtain ⟨ρ, hρ⟩ : ∃ ρ, a'.eval = ρ := ⟨_, rfl⟩; have qc : ∀ v, ρ (.const v) = v := (fun v => (by rw [← hρ]; rfl)); have qf : ∀ f, ρ (.func f) = .func (.func f) #[] #[] := (fun f => (by rw [← hρ]; rfl)); have q232 := eval_of r232; rw [hρ] at q232; refine abs_op ρ hρ ?_; clear hρ; go_simp
                    exact hK.out _ _ _ rfl rfl hT (Below.refl _ _)
                refine LinOps.cons (by simp only [List.getElem?_toArray, List.getElem?_cons_succ, List.getElem?_cons_zero]; rfl) (fun hk K hK => ?_) ?_
                · (obtain ⟨v, r224, hf⟩ := Known.get (hk 19 (by kernel_rfl) (by simp)) (d := 224) (by kernel_rfl); simp only [moF] at hf; (try subst hf)); (obtain ⟨v, r228, hf⟩ := Known.get (hk 23 (by kernel_rfl) (by simp)) (d := 228) (by kernel_rfl); simp only [moF] at hf; (try subst hf)); (obtain ⟨v, r233, hf⟩ := Known.get (hk 28 (by kernel_rfl) (by simp)) (d := 233) (by kernel_rfl); simp only [moF] at hf; (try subst hf))
                  cases b2
                  · rw [if_neg (wanted_no rfl (by kernel_rfl) r224 rfl)]
                    exact hK.out _ _ _ rfl rfl hT (Below.refl _ _)
                  · have hin := (hm2.out rfl).2.2.2.2.2.2
                    rw [if_pos (wanted_yes rfl (by kernel_rfl) r224)]; obtain ⟨ρ, hρ⟩ : ∃ ρ, a'.eval = ρ := ⟨_, rfl⟩; have qc : ∀ v, ρ (.const v) = v := (fun v => (by rw [← hρ]; rfl)); have qf : ∀ f, ρ (.func f) = .func (.func f) #[] #[] := (fun f => (by rw [← hρ]; rfl)); have q228 := eval_of r228; rw [hρ] at q228; have q233 := eval_of r233; rw [hρ] at q233; refine abs_op ρ hρ ?_; clear hρ; go_simp
                    go_at_call 40; refine (inside_any _ _ _ _ _).mono ?_
                    rw [in_sub hin]
                    rintro e w1 ⟨rfl, h1⟩
                    exact hK.out _ _ _ rfl rfl (hT.trans (h1.mono hT.size)) h1
                refine LinOps.cons (by simp only [List.getElem?_toArray, List.getElem?_cons_succ, List.getElem?_cons_zero]; rfl) (fun hk K hK => ?_) ?_
                · (obtain ⟨v, r224, hf⟩ := Known.get (hk 19 (by kernel_rfl) (by simp)) (d := 224) (by kernel_rfl); simp only [moF] at hf; (try subst hf)); (obtain ⟨v, r234, hf⟩ := Known.get (hk 29 (by kernel_rfl) (by simp)) (d := 234) (by kernel_rfl); simp only [moF] at hf; (try subst hf))
                  cases b2
                  · rw [if_neg (wanted_no rfl (by kernel_rfl) r224 rfl)]
                    exact hK.out _ _ _ rfl rfl hT (Below.refl _ _)
                  · rw [if_pos (wanted_yes rfl (by kernel_rfl) r224)]; obtain ⟨ρ, hρ⟩ : ∃ ρ, a'.eval = ρ := ⟨_, rfl⟩; have qc : ∀ v, ρ (.const v) = v := (fun v => (by rw [← hρ]; rfl)); have qf : ∀ f, ρ (.func f) = .func (.func f) #[] #[] := (fun f => (by rw [← hρ]; rfl)); have q234 := eval_of r234; rw [hρ] at q234; refine abs_op ρ hρ ?_; clear hρ; go_simp
                    exact hK.out _ _ _ rfl rfl hT (Below.refl _ _)
                refine LinOps.cons (by simp only [List.getElem?_toArray, List.getElem?_cons_succ, List.getElem?_cons_zero]; rfl) (fun hk K hK => ?_) ?_
                · (obtain ⟨v, r220, hf⟩ := Known.get (hk 15 (by kernel_rfl) (by simp)) (d := 220) (by kernel_rfl); simp only [moF] at hf; (try subst hf)); (obtain ⟨v, r224, hf⟩ := Known.get (hk 19 (by kernel_rfl) (by simp)) (d := 224) (by kernel_rfl); simp only [moF] at hf; (try subst hf)); (obtain ⟨v, r235, hf⟩ := Known.get (hk 30 (by kernel_rfl) (by simp)) (d := 235) (by kernel_rfl); simp only [moF] at hf; (try subst hf))
                  cases b2
                  all_goals
                    rw [if_pos (wanted_yes rfl (by kernel_rfl) r220)]; obtain ⟨ρ, hρ⟩ : ∃ ρ, a'.eval = ρ := ⟨_, rfl⟩; have qc : ∀ v, ρ (.const v) = v := (fun v => (by rw [← hρ]; rfl)); have qf : ∀ f, ρ (.func f) = .func (.func f) #[] #[] := (fun f => (by rw [← hρ]; rfl)); have q224 := eval_of r224; rw [hρ] at q224; have q235 := eval_of r235; rw [hρ] at q235; refine abs_op ρ hρ ?_; clear hρ; go_simp
                    exact hK.out _ _ _ rfl rfl hT (Below.refl _ _)
                refine LinOps.cons (by simp only [List.getElem?_toArray, List.getElem?_cons_succ, List.getElem?_cons_zero]; rfl) (fun hk K hK => ?_) ?_
                · (obtain ⟨v, r220, hf⟩ := Known.get (hk 15 (by kernel_rfl) (by simp)) (d := 220) (by kernel_rfl); simp only [moF] at hf; (try subst hf)); (obtain ⟨v, r236, hf⟩ := Known.get (hk 31 (by kernel_rfl) (by simp)) (d := 236) (by kernel_rfl); simp only [moF] at hf; (try subst hf))
                  rw [if_pos (wanted_none rfl)]; obtain ⟨ρ, hρ⟩ : ∃ ρ, a'.eval = ρ := ⟨_, rfl⟩; have qc : ∀ v, ρ (.const v) = v := (fun v => (by rw [← hρ]; rfl)); have qf : ∀ f, ρ (.func f) = .func (.func f) #[] #[] := (fun f => (by rw [← hρ]; rfl)); have q220 := eval_of r220; rw [hρ] at q220; have q236 := eval_of r236; rw [hρ] at q236; refine abs_op ρ hρ ?_; clear hρ; go_simp
                  exact hK.out _ _ _ rfl rfl hT (Below.refl _ _)
                refine LinOps.cons (by simp only [List.getElem?_toArray, List.getElem?_cons_succ, List.getElem?_cons_zero]; rfl) (fun hk K hK => ?_) ?_
                · (obtain ⟨v, r237, hf⟩ := Known.get (hk 32 (by kernel_rfl) (by simp)) (d := 237) (by kernel_rfl); simp only [moF] at hf; (try subst hf))
                  rw [if_pos (wanted_none rfl)]; obtain ⟨ρ, hρ⟩ : ∃ ρ, a'.eval = ρ := ⟨_, rfl⟩; have qc : ∀ v, ρ (.const v) = v := (fun v => (by rw [← hρ]; rfl)); have qf : ∀ f, ρ (.func f) = .func (.func f) #[] #[] := (fun f => (by rw [← hρ]; rfl)); have q237 := eval_of r237; rw [hρ] at q237; refine abs_op ρ hρ ?_; clear hρ; go_simp
                  exact hK.out _ _ _ rfl rfl hT (Below.refl _ _)
                refine LinOps.cons (by simp only [List.getElem?_toArray, List.getElem?_cons_succ, List.getElem?_cons_zero]; rfl) (fun hk K hK => ?_) ?_
                · (obtain ⟨v, r238, hf⟩ := Known.get (hk 33 (by kernel_rfl) (by simp)) (d := 238) (by kernel_rfl); simp only [moF] at hf; (try subst hf))
                  rw [if_pos (wanted_yes rfl (by kernel_rfl) r238)]; obtain ⟨ρ, hρ⟩ : ∃ ρ, a'.eval = ρ := ⟨_, rfl⟩; have qc : ∀ v, ρ (.const v) = v := (fun v => (by rw [← hρ]; rfl)); have qf : ∀ f, ρ (.func f) = .func (.func f) #[] #[] := (fun f => (by rw [← hρ]; rfl)); have q16 := eval_of r16; rw [hρ] at q16; refine abs_op ρ hρ ?_; clear hρ; go_simp
                  exact hK.out _ _ _ rfl rfl hT (Below.refl _ _)
                refine LinOps.cons (by simp only [List.getElem?_toArray, List.getElem?_cons_succ, List.getElem?_cons_zero]; rfl) (fun hk K hK => ?_) ?_
                · (obtain ⟨v, r238, hf⟩ := Known.get (hk 33 (by kernel_rfl) (by simp)) (d := 238) (by kernel_rfl); simp only [moF] at hf; (try subst hf)); (obtain ⟨v, r239, hf⟩ := Known.get (hk 34 (by kernel_rfl) (by simp)) (d := 239) (by kernel_rfl); simp only [moF] at hf; (try subst hf))
                  rw [if_pos (wanted_yes rfl (by kernel_rfl) r238)]; obtain ⟨ρ, hρ⟩ : ∃ ρ, a'.eval = ρ := ⟨_, rfl⟩; have qc : ∀ v, ρ (.const v) = v := (fun v => (by rw [← hρ]; rfl)); have qf : ∀ f, ρ (.func f) = .func (.func f) #[] #[] := (fun f => (by rw [← hρ]; rfl)); have q239 := eval_of r239; rw [hρ] at q239; refine abs_op ρ hρ ?_; clear hρ; go_simp
                  exact hK.out _ _ _ rfl rfl hT (Below.refl _ _)
                refine LinOps.cons (by simp only [List.getElem?_toArray, List.getElem?_cons_succ, List.getElem?_cons_zero]; rfl) (fun hk K hK => ?_) ?_
                · (obtain ⟨v, r238, hf⟩ := Known.get (hk 33 (by kernel_rfl) (by simp)) (d := 238) (by kernel_rfl); simp only [moF] at hf; (try subst hf)); (obtain ⟨v, r240, hf⟩ := Known.get (hk 35 (by kernel_rfl) (by simp)) (d := 240) (by kernel_rfl); simp only [moF] at hf; (try subst hf))
                  rw [if_pos (wanted_yes rfl (by kernel_rfl) r238)]; obtain ⟨ρ, hρ⟩ : ∃ ρ, a'.eval = ρ := ⟨_, rfl⟩; have qc : ∀ v, ρ (.const v) = v := (fun v => (by rw [← hρ]; rfl)); have qf : ∀ f, ρ (.func f) = .func (.func f) #[] #[] := (fun f => (by rw [← hρ]; rfl)); have q240 := eval_of r240; rw [hρ] at q240; refine abs_op ρ hρ ?_; clear hρ; go_simp
                  exact hK.out _ _ _ rfl rfl hT (Below.refl _ _)
                refine LinOps.cons (by simp only [List.getElem?_toArray, List.getElem?_cons_succ, List.getElem?_cons_zero]; rfl) (fun hk K hK => ?_) ?_
                · (obtain ⟨v, r241, hf⟩ := Known.get (hk 36 (by kernel_rfl) (by simp)) (d := 241) (by kernel_rfl); simp only [moF] at hf; (try subst hf))
                  rw [if_pos (wanted_yes rfl (by kernel_rfl) r241)]; obtain ⟨ρ, hρ⟩ : ∃ ρ, a'.eval = ρ := ⟨_, rfl⟩; have qc : ∀ v, ρ (.const v) = v := (fun v => (by rw [← hρ]; rfl)); have qf : ∀ f, ρ (.func f) = .func (.func f) #[] #[] := (fun f => (by rw [← hρ]; rfl)); have q15 := eval_of r15; rw [hρ] at q15; refine abs_op ρ hρ ?_; clear hρ; go_simp
                  exact hK.out _ _ _ rfl rfl hT (Below.refl _ _)
                refine LinOps.cons (by simp only [List.getElem?_toArray, List.getElem?_cons_succ, List.getElem?_cons_zero]; rfl) (fun hk K hK => ?_) ?_
                · (obtain ⟨v, r241, hf⟩ := Known.get (hk 36 (by kernel_rfl) (by simp)) (d := 241) (by kernel_rfl); simp only [moF] at hf; (try subst hf))
                  rw [if_pos (wanted_yes rfl (by kernel_rfl) r241)]; obtain ⟨ρ, hρ⟩ : ∃ ρ, a'.eval = ρ := ⟨_, rfl⟩; have qc : ∀ v, ρ (.const v) = v := (fun v => (by rw [← hρ]; rfl)); have qf : ∀ f, ρ (.func f) = .func (.func f) #[] #[] := (fun f => (by rw [← hρ]; rfl)); have q21 := eval_of r21; rw [hρ] at q21; refine abs_op ρ hρ ?_; clear hρ; go_simp
                  exact hK.out _ _ _ rfl rfl hT (Below.refl _ _)
                refine LinOps.cons (by simp only [List.getElem?_toArray, List.getElem?_cons_succ, List.getElem?_cons_zero]; rfl) (fun hk K hK => ?_) ?_
                · (obtain ⟨v, r241, hf⟩ := Known.get (hk 36 (by kernel_rfl) (by simp)) (d := 241) (by kernel_rfl); simp only [moF] at hf; (try subst hf)); (obtain ⟨v, r242, hf⟩ := Known.get (hk 37 (by kernel_rfl) (by simp)) (d := 242) (by kernel_rfl); simp only [moF] at hf; (try subst hf)); (obtain ⟨v, r243, hf⟩ := Known.get (hk 38 (by kernel_rfl) (by simp)) (d := 243) (by kernel_rfl); simp only [moF] at hf; (try subst hf))
                  rw [if_pos (wanted_yes rfl (by kernel_rfl) r241)]; obtain ⟨ρ, hρ⟩ : ∃ ρ, a'.eval = ρ := ⟨_, rfl⟩; have qc : ∀ v, ρ (.const v) = v := (fun v => (by rw [← hρ]; rfl)); have qf : ∀ f, ρ (.func f) = .func (.func f) #[] #[] := (fun f => (by rw [← hρ]; rfl)); have q242 := eval_of r242; rw [hρ] at q242; have q243 := eval_of r243; rw [hρ] at q243; refine abs_op ρ hρ ?_; clear hρ; go_simp
                  exact hK.out _ _ _ rfl rfl hT (Below.refl _ _)
                refine LinOps.cons (by simp only [List.getElem?_toArray, List.getElem?_cons_succ, List.getElem?_cons_zero]; rfl) (fun hk K hK => ?_) ?_
                · (obtain ⟨v, r241, hf⟩ := Known.get (hk 36 (by kernel_rfl) (by simp)) (d := 241) (by kernel_rfl); simp only [moF] at hf; (try subst hf)); (obtain ⟨v, r244, hf⟩ := Known.get (hk 39 (by kernel_rfl) (by simp)) (d := 244) (by kernel_rfl); simp only [moF] at hf; (try subst hf))
                  rw [if_pos (wanted_yes rfl (by kernel_rfl) r241)]; obtain ⟨ρ, hρ⟩ : ∃ ρ, a'.eval = ρ := ⟨_, rfl⟩; have qc : ∀ v, ρ (.const v) = v := (fun v => (by rw [← hρ]; rfl)); have qf : ∀ f, ρ (.func f) = .func (.func f) #[] #[] := (fun f => (by rw [← hρ]; rfl)); have q244 := eval_of r244; rw [hρ] at q244; refine abs_op ρ hρ ?_; clear hρ; go_simp
                  exact hK.out _ _ _ rfl rfl hT (Below.refl _ _)
                refine LinOps.cons (by simp only [List.getElem?_toArray, List.getElem?_cons_succ, List.getElem?_cons_zero]; rfl) (fun hk K hK => ?_) ?_
                · (obtain ⟨v, r241, hf⟩ := Known.get (hk 36 (by kernel_rfl) (by simp)) (d := 241) (by kernel_rfl); simp only [moF] at hf; (try subst hf))
                  rw [if_pos (wanted_yes rfl (by kernel_rfl) r241)]; obtain ⟨ρ, hρ⟩ : ∃ ρ, a'.eval = ρ := ⟨_, rfl⟩; have qc : ∀ v, ρ (.const v) = v := (fun v => (by rw [← hρ]; rfl)); have qf : ∀ f, ρ (.func f) = .func (.func f) #[] #[] := (fun f => (by rw [← hρ]; rfl)); have q11 := eval_of r11; rw [hρ] at q11; refine abs_op ρ hρ ?_; clear hρ; go_simp
                  exact hK.out _ _ _ rfl rfl hT (Below.refl _ _)
                refine LinOps.cons (by simp only [List.getElem?_toArray, List.getElem?_cons_succ, List.getElem?_cons_zero]; rfl) (fun hk K hK => ?_) ?_
                · (obtain ⟨v, r241, hf⟩ := Known.get (hk 36 (by kernel_rfl) (by simp)) (d := 241) (by kernel_rfl); simp only [moF] at hf; (try subst hf))
                  rw [if_pos (wanted_yes rfl (by kernel_rfl) r241)]; obtain ⟨ρ, hρ⟩ : ∃ ρ, a'.eval = ρ := ⟨_, rfl⟩; have qc : ∀ v, ρ (.const v) = v := (fun v => (by rw [← hρ]; rfl)); have qf : ∀ f, ρ (.func f) = .func (.func f) #[] #[] := (fun f => (by rw [← hρ]; rfl)); have q21 := eval_of r21; rw [hρ] at q21; refine abs_op ρ hρ ?_; clear hρ; go_simp
                  exact hK.out _ _ _ rfl rfl hT (Below.refl _ _)
                refine LinOps.cons (by simp only [List.getElem?_toArray, List.getElem?_cons_succ, List.getElem?_cons_zero]; rfl) (fun hk K hK => ?_) ?_
                · (obtain ⟨v, r241, hf⟩ := Known.get (hk 36 (by kernel_rfl) (by simp)) (d := 241) (by kernel_rfl); simp only [moF] at hf; (try subst hf)); (obtain ⟨v, r246, hf⟩ := Known.get (hk 41 (by kernel_rfl) (by simp)) (d := 246) (by kernel_rfl); simp only [moF] at hf; (try subst hf)); (obtain ⟨v, r247, hf⟩ := Known.get (hk 42 (by kernel_rfl) (by simp)) (d := 247) (by kernel_rfl); simp only [moF] at hf; (try subst hf))
                  rw [if_pos (wanted_yes rfl (by kernel_rfl) r241)]; obtain ⟨ρ, hρ⟩ : ∃ ρ, a'.eval = ρ := ⟨_, rfl⟩; have qc : ∀ v, ρ (.const v) = v := (fun v => (by rw [← hρ]; rfl)); have qf : ∀ f, ρ (.func f) = .func (.func f) #[] #[] := (fun f => (by rw [← hρ]; rfl)); have q246 := eval_of r246; rw [hρ] at q246; have q247 := eval_of r247; rw [hρ] at q247; refine abs_op ρ hρ ?_; clear hρ; go_simp
                  exact hK.out _ _ _ rfl rfl hT (Below.refl _ _)
                refine LinOps.cons (by simp only [List.getElem?_toArray, List.getElem?_cons_succ, List.getElem?_cons_zero]; rfl) (fun hk K hK => ?_) ?_
                · (obtain ⟨v, r241, hf⟩ := Known.get (hk 36 (by kernel_rfl) (by simp)) (d := 241) (by kernel_rfl); simp only [moF] at hf; (try subst hf)); (obtain ⟨v, r248, hf⟩ := Known.get (hk 43 (by kernel_rfl) (by simp)) (d := 248) (by kernel_rfl); simp only [moF] at hf; (try subst hf))
                  rw [if_pos (wanted_yes rfl (by kernel_rfl) r241)]; obtain ⟨ρ, hρ⟩ : ∃ ρ, a'.eval = ρ := ⟨_, rfl⟩; have qc : ∀ v, ρ (.const v) = v := (fun v => (by rw [← hρ]; rfl)); have qf : ∀ f, ρ (.func f) = .func (.func f) #[] #[] := (fun f => (by rw [← hρ]; rfl)); have q248 := eval_of r248; rw [hρ] at q248; refine abs_op ρ hρ ?_; clear hρ; go_simp
                  exact hK.out _ _ _ rfl rfl hT (Below.refl _ _)
                refine LinOps.cons (by simp only [List.getElem?_toArray, List.getElem?_cons_succ, List.getElem?_cons_zero]; rfl) (fun hk K hK => ?_) ?_
                · (obtain ⟨v, r241, hf⟩ := Known.get (hk 36 (by kernel_rfl) (by simp)) (d := 241) (by kernel_rfl); simp only [moF] at hf; (try subst hf)); (obtain ⟨v, r245, hf⟩ := Known.get (hk 40 (by kernel_rfl) (by simp)) (d := 245) (by kernel_rfl); simp only [moF] at hf; (try subst hf)); (obtain ⟨v, r249, hf⟩ := Known.get (hk 44 (by kernel_rfl) (by simp)) (d := 249) (by kernel_rfl); simp only [moF] at hf; (try subst hf))
                  rw [if_pos (wanted_yes rfl (by kernel_rfl) r241)]; obtain ⟨ρ, hρ⟩ : ∃ ρ, a'.eval = ρ := ⟨_, rfl⟩; have qc : ∀ v, ρ (.const v) = v := (fun v => (by rw [← hρ]; rfl)); have qf : ∀ f, ρ (.func f) = .func (.func f) #[] #[] := (fun f => (by rw [← hρ]; rfl)); have q245 := eval_of r245; rw [hρ] at q245; have q249 := eval_of r249; rw [hρ] at q249; refine abs_op ρ hρ ?_; clear hρ; go_simp
                  go_at_call 40; refine (inside_any _ _ _ _ _).mono ?_
                  rw [in_sub HKL.out]
                  rintro e w1 ⟨rfl, h1⟩
                  exact hK.out _ _ _ rfl rfl (hT.trans (h1.mono hT.size)) h1
                refine LinOps.cons (by simp only [List.getElem?_toArray, List.getElem?_cons_succ, List.getElem?_cons_zero]; rfl) (fun hk K hK => ?_) ?_
                · (obtain ⟨v, r241, hf⟩ := Known.get (hk 36 (by kernel_rfl) (by simp)) (d := 241) (by kernel_rfl); simp only [moF] at hf; (try subst hf)); (obtain ⟨v, r250, hf⟩ := Known.get (hk 45 (by kernel_rfl) (by simp)) (d := 250) (by kernel_rfl); simp only [moF] at hf; (try subst hf))
                  rw [if_pos (wanted_yes rfl (by kernel_rfl) r241)]; obtain ⟨ρ, hρ⟩ : ∃ ρ, a'.eval = ρ := ⟨_, rfl⟩; have qc : ∀ v, ρ (.const v) = v := (fun v => (by rw [← hρ]; rfl)); have qf : ∀ f, ρ (.func f) = .func (.func f) #[] #[] := (fun f => (by rw [← hρ]; rfl)); have q250 := eval_of r250; rw [hρ] at q250; refine abs_op ρ hρ ?_; clear hρ; go_simp
                  exact hK.out _ _ _ rfl rfl hT (Below.refl _ _)
                refine LinOps.cons (by simp only [List.getElem?_toArray, List.getElem?_cons_succ, List.getElem?_cons_zero]; rfl) (fun hk K hK => ?_) ?_
                · (obtain ⟨v, r238, hf⟩ := Known.get (hk 33 (by kernel_rfl) (by simp)) (d := 238) (by kernel_rfl); simp only [moF] at hf; (try subst hf)); (obtain ⟨v, r241, hf⟩ := Known.get (hk 36 (by kernel_rfl) (by simp)) (d := 241) (by kernel_rfl); simp only [moF] at hf; (try subst hf)); (obtain ⟨v, r251, hf⟩ := Known.get (hk 46 (by kernel_rfl) (by simp)) (d := 251) (by kernel_rfl); simp only [moF] at hf; (try subst hf))
                  rw [if_pos (wanted_yes rfl (by kernel_rfl) r238)]; obtain ⟨ρ, hρ⟩ : ∃ ρ, a'.eval = ρ := ⟨_, rfl⟩; have qc : ∀ v, ρ (.const v) = v := (fun v => (by rw [← hρ]; rfl)); have qf : ∀ f, ρ (.func f) = .func (.func f) #[] #[] := (fun f => (by rw [← hρ]; rfl)); have q241 := eval_of r241; rw [hρ] at q241; have q251 := eval_of r251; rw [hρ] at q251; refine abs_op ρ hρ ?_; clear hρ; go_simp
                  exact hK.out _ _ _ rfl rfl hT (Below.refl _ _)
                exact LinOps.nil
              · intro a' w' hd hsz hkn hT hall
                (obtain ⟨v, r238, hf⟩ := Known.get (hall 33 (by kernel_rfl) ) (d := 238) (by kernel_rfl); simp only [moF] at hf; (try subst hf))
                (obtain ⟨v, r252, hf⟩ := Known.get (hall 47 (by kernel_rfl) ) (d := 252) (by kernel_rfl); simp only [moF] at hf; (try subst hf))
                clear hall
                have hlit := hid (act_lit hd hsz hkn)
                clear hd hkn
                refine wpAny_ready (rs := [48]) (by kernel_rfl) (by simp) ?_; refine AllReady.cons (by simp only [List.getElem?_toArray, List.getElem?_cons_succ, List.getElem?_cons_zero]; rfl) (fun K hK => ?_) AllReady.nil
                rw [if_pos (wanted_none rfl)]; obtain ⟨ρ, hρ⟩ : ∃ ρ, a'.eval = ρ := ⟨_, rfl⟩; have qc : ∀ v, ρ (.const v) = v := (fun v => (by rw [← hρ]; rfl)); have qf : ∀ f, ρ (.func f) = .func (.func f) #[] #[] := (fun f => (by rw [← hρ]; rfl)); have q238 := eval_of r238; rw [hρ] at q238; have q252 := eval_of r252; rw [hρ] at q252; refine abs_op ρ hρ ?_; clear hρ; go_simp
                refine hK _ _ ?_
                clear hK K
                refine wpAny_done (by kernel_rfl) ?_ _
                go_wp2_with fail
                refine Met.intro ?_
                go_step
                (repeat apply Exists.intro)
                refine And.intro ?_ ?_
                rotate_left 1
                (focus (refine (put_lit hlit.out).trans ?_; rfl))
                any_goals exact ⟨rfl, hT⟩
            case rest =>
              obtain ⟨rfl, hbc⟩ := hcut
              have hBc := hBr.trans (hbc.mono hBr.size)
              go_wp2_with fail
              exact ⟨⟨p + 1, hlt, by go_num, hBc⟩, by simp [intOf]; omega⟩
          · obtain rfl : p = ls.length := by omega
            go_wp2_with (go_at_call 22; refine (ticks_any _).mono ?_; rintro e w13 ⟨rfl, hb13⟩; (first | replace hb13 := Below.un1 hb13 | replace hb13 := Below.un2 hb13 | skip); obtain ⟨hc13, hf13, hl13, hm13, hw13⟩ := bcell hb13; have hz13 := hb13.size; (try simp only [World.size_alloc, World.size_setCell] at hz13))
            go_ret
            exact ⟨rfl, (hBw.trans (hBr.mono hzw)).trans (hb13.mono (by have := hBr.size; omega))⟩
      · go_wp2_with (first
          | (go_at_call 27; ((with_reducible refine (T1.out _ ?_ ?_).mono ?_); (focus (refine (hA6.below ?_).more ?_; (repeat' (first | (with_reducible exact Below.refl _ _) | (with_reducible assumption) | (with_reducible refine Below.drew ?_) | (with_reducible refine below_drewN ?_ _) | (with_reducible refine Below.setCell ?_ ?_ _) | (with_reducible refine Below.alloc ?_ ?_ _) | go_size | (exact Below.size (by assumption)) | (refine Below.trans ?_ (Below.mono (by assumption) ?_)))))); (focus (refine (hL6.below ?_).more ?_; (repeat' (first | (with_reducible exact Below.refl _ _) | (with_reducible assumption) | (with_reducible refine Below.drew ?_) | (with_reducible refine below_drewN ?_ _) | (with_reducible refine Below.setCell ?_ ?_ _) | (with_reducible refine Below.alloc ?_ ?_ _) | go_size | (exact Below.size (by assumption)) | (refine Below.trans ?_ (Below.mono (by assumption) ?_)))))); rintro e w7 ⟨O7, oc7, rfl, hO7, hb7⟩; (first | replace hb7 := Below.un1 hb7 | replace hb7 := Below.un2 hb7 | skip); obtain ⟨hc7, hf7, hl7, hm7, hw7⟩ := bcell hb7; have hz7 := hb7.size; have e7 : w.heap.size < w7.heap.size := (by omega); have e7' : w3.heap.size < w7.heap.size := (by omega)))
          | (go_at_call 27; ((with_reducible refine (T2.out _ ?_ ?_).mono ?_); (focus (refine (hA6.below ?_).more ?_; (repeat' (first | (with_reducible exact Below.refl _ _) | (with_reducible assumption) | (with_reducible refine Below.drew ?_) | (with_reducible refine below_drewN ?_ _) | (with_reducible refine Below.setCell ?_ ?_ _) | (with_reducible refine Below.alloc ?_ ?_ _) | go_size | (exact Below.size (by assumption)) | (refine Below.trans ?_ (Below.mono (by assumption) ?_)))))); (focus (refine (hR.below ?_).more ?_; (repeat' (first | (with_reducible exact Below.refl _ _) | (with_reducible assumption) | (with_reducible refine Below.drew ?_) | (with_reducible refine below_drewN ?_ _) | (with_reducible refine Below.setCell ?_ ?_ _) | (with_reducible refine Below.alloc ?_ ?_ _) | go_size | (exact Below.size (by assumption)) | (refine Below.trans ?_ (Below.mono (by assumption) ?_)))))); rintro e w8 ⟨O8, oc8, rfl, hO8, hb8⟩; (first | replace hb8 := Below.un1 hb8 | replace hb8 := Below.un2 hb8 | skip); obtain ⟨hc8, hf8, hl8, hm8, hw8⟩ := bcell hb8; have hz8 := hb8.size; have e8 : w.heap.size < w8.heap.size := (by omega); have e8' : w3.heap.size < w8.heap.size := (by omega)))
          | (go_at_call 27; ((with_reducible refine (T3.out _ ?_ ?_).mono ?_); (focus (refine (hX6.below ?_).more ?_; (repeat' (first | (with_reducible exact Below.refl _ _) | (with_reducible assumption) | (with_reducible refine Below.drew ?_) | (with_reducible refine below_drewN ?_ _) | (with_reducible refine Below.setCell ?_ ?_ _) | (with_reducible refine Below.alloc ?_ ?_ _) | go_size | (exact Below.size (by assumption)) | (refine Below.trans ?_ (Below.mono (by assumption) ?_)))))); (focus (refine (hL6.below ?_).more ?_; (repeat' (first | (with_reducible exact Below.refl _ _) | (with_reducible assumption) | (with_reducible refine Below.drew ?_) | (with_reducible refine below_drewN ?_ _) | (with_reducible refine Below.setCell ?_ ?_ _) | (with_reducible refine Below.alloc ?_ ?_ _) | go_size | (exact Below.size (by assumption)) | (refine Below.trans ?_ (Below.mono (by assumption) ?_)))))); rintro e w9 ⟨O9, oc9, rfl, hO9, hb9⟩; (first | replace hb9 := Below.un1 hb9 | replace hb9 := Below.un2 hb9 | skip); obtain ⟨hc9, hf9, hl9, hm9, hw9⟩ := bcell hb9; have hz9 := hb9.size; have e9 : w.heap.size < w9.heap.size := (by omega); have e9' : w3.heap.size < w9.heap.size := (by omega)))
          | (go_at_call 30; ((with_reducible refine (S1.out _ ?_ ?_).mono ?_); (focus (refine (hA6.below ?_).more ?_; (repeat' (first | (with_reducible exact Below.refl _ _) | (with_reducible assumption) | (with_reducible refine Below.drew ?_) | (with_reducible refine below_drewN ?_ _) | (with_reducible refine Below.setCell ?_ ?_ _) | (with_reducible refine Below.alloc ?_ ?_ _) | go_size | (exact Below.size (by assumption)) | (refine Below.trans ?_ (Below.mono (by assumption) ?_)))))); (focus (refine (hL6.below ?_).more ?_; (repeat' (first | (with_reducible exact Below.refl _ _) | (with_reducible assumption) | (with_reducible refine Below.drew ?_) | (with_reducible refine below_drewN ?_ _) | (with_reducible refine Below.setCell ?_ ?_ _) | (with_reducible refine Below.alloc ?_ ?_ _) | go_size | (exact Below.size (by assumption)) | (refine Below.trans ?_ (Below.mono (by assumption) ?_)))))); rintro e w10 ⟨rfl, hb10⟩; (first | replace hb10 := Below.un1 hb10 | replace hb10 := Below.un2 hb10 | skip); obtain ⟨hc10, hf10, hl10, hm10, hw10⟩ := bcell hb10; have hz10 := hb10.size; (try simp only [World.size_alloc, World.size_setCell] at hz10); have e10 : w.heap.size < w10.heap.size := (by omega); have e10' : w3.heap.size < w10.heap.size := (by omega)))
          | (go_at_call 30; ((with_reducible refine (S2.out _ ?_ ?_).mono ?_); (focus (refine (hA6.below ?_).more ?_; (repeat' (first | (with_reducible exact Below.refl _ _) | (with_reducible assumption) | (with_reducible refine Below.drew ?_) | (with_reducible refine below_drewN ?_ _) | (with_reducible refine Below.setCell ?_ ?_ _) | (with_reducible refine Below.alloc ?_ ?_ _) | go_size | (exact Below.size (by assumption)) | (refine Below.trans ?_ (Below.mono (by assumption) ?_)))))); (focus (refine (hR.below ?_).more ?_; (repeat' (first | (with_reducible exact Below.refl _ _) | (with_reducible assumption) | (with_reducible refine Below.drew ?_) | (with_reducible refine below_drewN ?_ _) | (with_reducible refine Below.setCell ?_ ?_ _) | (with_reducible refine Below.alloc ?_ ?_ _) | go_size | (exact Below.size (by assumption)) | (refine Below.trans ?_ (Below.mono (by assumption) ?_)))))); rintro e w11 ⟨rfl, hb11⟩; (first | replace hb11 := Below.un1 hb11 | replace hb11 := Below.un2 hb11 | skip); obtain ⟨hc11, hf11, hl11, hm11, hw11⟩ := bcell hb11; have hz11 := hb11.size; (try simp only [World.size_alloc, World.size_setCell] at hz11); have e11 : w.heap.size < w11.heap.size := (by omega); have e11' : w3.heap.size < w11.heap.size := (by omega)))
          | (go_at_call 40; refine (inside_any _ _ _ _ _).mono ?_; rw [HIN.out]; rintro e w12 ⟨rfl, hb12⟩; (first | replace hb12 := Below.un1 hb12 | replace hb12 := Below.un2 hb12 | skip); obtain ⟨hc12, hf12, hl12, hm12, hw12⟩ := bcell hb12; have hz12 := hb12.size; (try simp only [World.size_alloc, World.size_setCell] at hz12)))
        have B9 : Below w9.heap.size w9 w12 := by (repeat' (first | (with_reducible exact Below.refl _ _) | (with_reducible assumption) | (with_reducible refine Below.drew ?_) | (with_reducible refine below_drewN ?_ _) | (with_reducible refine Below.setCell ?_ ?_ _) | (with_reducible refine Below.alloc ?_ ?_ _) | go_size | (exact Below.size (by assumption)) | (refine Below.trans ?_ (Below.mono (by assumption) ?_))))
        have B8 : Below w8.heap.size w8 w12 := (hb9).trans (B9.mono (by omega))
        have B7 : Below w7.heap.size w7 w12 := (hb8).trans (B8.mono (by omega))
        have hO7' := (hO7.below B7).more B7.size
        have hO8' := (hO8.below B8).more B8.size
        have hO9' := (hO9.below B9).more B9.size
        have hBw : Below w.heap.size w w12 := by (repeat' (first | (with_reducible exact Below.refl _ _) | (with_reducible assumption) | (with_reducible refine Below.drew ?_) | (with_reducible refine below_drewN ?_ _) | (with_reducible refine Below.setCell ?_ ?_ _) | (with_reducible refine Below.alloc ?_ ?_ _) | go_size | (exact Below.size (by assumption)) | (refine Below.trans ?_ (Below.mono (by assumption) ?_))))
        have hzw : w.heap.size ≤ w12.heap.size := by omega
        clear hc7 hf7 hl7 hm7 hw7 hb7 hz7 e7 e7' hc8 hf8 hl8 hm8 hw8 hb8 hz8 e8 e8' hc9 hf9 hl9 hm9 hw9 hb9 hz9 e9 e9' hc10 hf10 hl10 hm10 hw10 hb10 hz10 e10 e10' hc11 hf11 hl11 hm11 hw11 hb11 hz11 e11 e11' hc12 hf12 hl12 hm12 hw12 hb12 hz12 B7 B8 B9 hO7 hO8 hO9 x0' x1' c0 c1 hA6 hL6 hX6 hR
        go_loopw [21] (fun pv wr => ∃ p : Nat, p ≤ ls.length ∧ pv = .int .i64 p ∧ Below w12.heap.size w12 wr) (fun pv _ => ls.length - (intOf pv).toNat)
        case atStart => exact ⟨0, Nat.zero_le _, rfl, Below.refl _ _⟩
        case round =>
          obtain ⟨p, hp, rfl, hBr⟩ := hrel
          obtain ⟨wo, rfl⟩ : ∃ wo : World, wo = wr := ⟨_, rfl⟩
          have hzr := hBr.size
          by_cases hlt : p < ls.length
          · have hpI : (p : Int) < ls.length := by omega
            have hpl : p < l.length := by have := HL1.out; omega
            have hll1 : ls.length ≤ few.length + 1 := by
              have h1 := HLM.out (fun e => by rw [e] at hlt; simp at hlt)
              have h2 := HL1.out
              have h3 := HM1.out
              omega
            obtain ⟨b7, o7, rfl, hb7z, u0, u1⟩ := (hO7'.below hBr).sp hpl
            obtain ⟨x, hx⟩ : ∃ x, l[p] = x := ⟨_, rfl⟩
            rw [hx] at u0 u1
            obtain ⟨b8, o8, h8⟩ : ∃ b8 o8, 0 < few.length → O8 = some ⟨b8, o8, none⟩ ∧ b8 < wo.heap.size ∧ ∀ q (h : q < m.length), wo.cell? ⟨b8, o8 + q * 2, none⟩ = some (.int .i64 m[q].lo) ∧ wo.cell? ⟨b8, o8 + q * 2 + 1, none⟩ = some (.int .i64 m[q].hi) := row_at (hO8'.below hBr) hBr.size (by rw [HM1.out])
            obtain ⟨q, hq⟩ : ∃ q, q = p - 1 := ⟨_, rfl⟩
            obtain ⟨mv1, hmv1⟩ : ∃ mv, ∀ (h : p < m.length), m[p] = mv := by
              by_cases h : p < m.length
              · exact ⟨m[p], fun _ => rfl⟩
              · exact ⟨⟨0, 0⟩, fun h' => absurd h' h⟩
            obtain ⟨mv2, hmv2⟩ : ∃ mv, ∀ (h : q < m.length), m[q] = mv := by
              by_cases h : q < m.length
              · exact ⟨m[q], fun _ => rfl⟩
              · exact ⟨⟨0, 0⟩, fun h' => absurd h' h⟩
            obtain ⟨b1, hb1⟩ : ∃ b, decide (p < i) = b := ⟨_, rfl⟩
            obtain ⟨b2, hb2⟩ : ∃ b, decide (i < p) = b := ⟨_, rfl⟩
            have hm1 := hid (show b1 = true → O8 = some ⟨b8, o8, none⟩ ∧ (p : Int) < few.length ∧ b8 < wo.heap.size ∧ wo.cell? ⟨b8, o8 + p * 2, none⟩ = some (.int .i64 mv1.lo) ∧ wo.cell? ⟨b8, o8 + p * 2 + 1, none⟩ = some (.int .i64 mv1.hi) ∧ Sub x mv1 from fun h => by
              rw [h] at hb1
              have hpi := of_decide_eq_true hb1
              have hif : i < ls.length := by
                rcases HIL.out with h | h
                · exact h
                · rw [h] at hlt; simp at hlt
              have hm := HM1.out
              have hpm : p < m.length := by omega
              obtain ⟨e, hs, hc⟩ := h8 (by omega)
              obtain ⟨k0, k1⟩ := hc p hpm
              have hsub := HLT.out p hpl hpm hpi
              rw [hmv1 hpm] at k0 k1 hsub
              rw [hx] at hsub
              exact ⟨e, by omega, hs, k0, k1, hsub⟩)
            have hm2 := hid (show b2 = true → ((p : Int) - 1 = q ∧ 0 ≤ (p : Int) - 1) ∧ O8 = some ⟨b8, o8, none⟩ ∧ (q : Int) < few.length ∧ b8 < wo.heap.size ∧ wo.cell? ⟨b8, o8 + q * 2, none⟩ = some (.int .i64 mv2.lo) ∧ wo.cell? ⟨b8, o8 + q * 2 + 1, none⟩ = some (.int .i64 mv2.hi) ∧ Sub x mv2 from fun h => by
              rw [h] at hb2
              have hpi := of_decide_eq_true hb2
              have hm := HM1.out
              have hqm : q < m.length := by omega
              obtain ⟨e, hs, hc⟩ := h8 (by omega)
              obtain ⟨k0, k1⟩ := hc q hqm
              have hpq : q + 1 = p := by omega
              have hsub := HGT.out q (by rw [hpq]; exact hpl) hqm (by omega)
              rw [hmv2 hqm] at k0 k1 hsub
              have hxq : l[q + 1]'(by rw [hpq]; exact hpl) = x := by rw [← hx]; congr 1
              rw [hxq] at hsub
              exact ⟨⟨by omega, by omega⟩, e, by omega, hs, k0, k1, hsub⟩)
            have HB1 := hid hb1
            have HB2 := hid hb2
            clear hb1 hb2 hmv1 hmv2 h8 hx hq
            go_wp2_with fail
            go_cut [253] (fun v wx => v = .bool false ∧ Below wo.heap.size wo wx)
            case first =>
              refine wp_region_any (by kernel_rfl) ?_
              have T0 : Below wo.heap.size wo wo.drew := (Below.refl _ _).drew
              refine lin_any [48] 255 (moF p i q 12 (.slice (some ⟨b7, o7, none⟩) ls.length oc7) (.slice O8 few.length oc8) undef (.pointer (some ⟨b7, o7 + p * 2, none⟩)) (.agg #[.int .i64 x.lo, .int .i64 x.hi]) (.pointer (some ⟨b8, o8 + p * 2, none⟩)) (.agg #[.int .i64 mv1.lo, .int .i64 mv1.hi]) (.pointer (some ⟨b8, o8 + q * 2, none⟩)) (.agg #[.int .i64 mv2.lo, .int .i64 mv2.hi]) undef undef b1 b2 false) (fun w' => Below wo.heap.size wo w') (fun w1 w2 => Below w1.heap.size w1 w2)
                [0, 1, 2, 3, 4, 5, 6, 7, 8, 9, 10, 11, 12, 13, 14, 15, 16, 17, 18, 19, 20, 21, 22, 23, 24, 25, 26, 27, 28, 29, 30, 31, 32, 33, 34, 35, 36, 37, 38, 39, 40, 41, 42, 43, 44, 45, 46, 47, 48, 49, 50, 51, 52, 53, 54, 55, 56, 57, 58, 59, 60, 61, 62, 63, 64, 65, 66, 67, 68, 69, 70, 71, 72, 73, 74, 75, 76, 77, 78, 79, 80, 81, 82, 83, 84, 85, 86, 87, 88, 89, 90, 91, 92, 93, 94, 95, 96, 97, 98, 99, 100, 101, 102, 103, 104, 105, 106, 107, 108, 109, 110, 111, 112, 113, 114, 115, 116, 117, 118, 119, 120, 121, 122, 123, 124, 125, 126, 127, 128, 129, 130, 131, 132, 133, 134, 135, 136, 137, 138, 139, 140, 141, 142, 143, 144, 145, 146, 147, 148, 149, 150, 151, 152, 153, 154, 155, 156, 157, 158, 159, 160, 161, 162, 163, 164, 165, 166, 167, 168, 169, 170, 171, 172, 173, 174, 175, 176, 177, 178, 179, 180, 181, 182, 183, 184, 185, 186, 187, 188, 189, 190, 191, 192, 193, 194, 195, 196, 197, 198, 199, 200, 201, 202, 203, 204, 254] #[true, true, true, true, true, true, true, true, true, true, true, true, true, true, true, true, true, true, true, true, true, true, true, true, true, true, true, true, true, true, true, true, true, true, true, true, true, true, true, true, true, true, true, true, true, true, true, true, false] [0, 1, 2, 3, 4, 5, 6, 7, 8, 9, 10, 11, 12, 13, 14, 15, 16, 17, 18, 19, 20, 21, 22, 23, 24, 25, 26, 27, 28, 29, 30, 31, 32, 33, 34, 35, 36, 37, 38, 39, 40, 41, 42, 43, 44, 45, 46, 47] (by kernel_rfl) (by kernel_rfl) (by kernel_rfl) (by kernel_rfl) (by kernel_rfl) (by kernel_rfl) (by kernel_rfl) (by kernel_rfl) (by kernel_rfl) (by kernel_rfl)
                (moF_stable _ _ _ _ _ _ _ _ _ _ _ _ _ _ _ _ _ _) (by rfl) T0 ?_ ?_
              · intro a' w' hd hsz hkn hT
                clear hd
                have r9 := hkn 9 (by decide); have r11 := hkn 11 (by decide); have r13 := hkn 13 (by decide); have r15 := hkn 15 (by decide); have r16 := hkn 16 (by decide); have r21 := hkn 21 (by decide); simp only [Array.getD_eq_getD_getElem?, List.getElem?_toArray, List.getElem?_cons_succ, List.getElem?_cons_zero, Option.getD_some] at r9 r11 r13 r15 r16 r21
                clear hkn
                have f0 : w'.cell? ⟨b7, o7 + p * 2, none⟩ = some (.int .i64 x.lo) := (hT.cell (by simp only; omega)).trans u0
                have f1 : w'.cell? ⟨b7, o7 + p * 2 + 1, none⟩ = some (.int .i64 x.hi) := (hT.cell (by simp only; omega)).trans u1
                refine LinOps.cons (by simp only [List.getElem?_toArray, List.getElem?_cons_succ, List.getElem?_cons_zero]; rfl) (fun hk K hK => ?_) ?_
                · rw [if_pos (wanted_none rfl)]; obtain ⟨ρ, hρ⟩ : ∃ ρ, a'.eval = ρ := ⟨_, rfl⟩; have qc : ∀ v, ρ (.const v) = v := (fun v => (by rw [← hρ]; rfl)); have qf : ∀ f, ρ (.func f) = .func (.func f) #[] #[] := (fun f => (by rw [← hρ]; rfl)); have q21 := eval_of r21; rw [hρ] at q21; refine abs_op ρ hρ ?_; clear hρ; go_simp
                  exact hK.out _ _ _ rfl rfl hT (Below.refl _ _)
                refine LinOps.cons (by simp only [List.getElem?_toArray, List.getElem?_cons_succ, List.getElem?_cons_zero]; rfl) (fun hk K hK => ?_) ?_
                · rw [if_pos (wanted_none rfl)]; obtain ⟨ρ, hρ⟩ : ∃ ρ, a'.eval = ρ := ⟨_, rfl⟩; have qc : ∀ v, ρ (.const v) = v := (fun v => (by rw [← hρ]; rfl)); have qf : ∀ f, ρ (.func f) = .func (.func f) #[] #[] := (fun f => (by rw [← hρ]; rfl)); have q9 := eval_of r9; rw [hρ] at q9; refine abs_op ρ hρ ?_; clear hρ; go_simp
                  exact hK.out _ _ _ rfl rfl hT (Below.refl _ _)
                refine LinOps.cons (by simp only [List.getElem?_toArray, List.getElem?_cons_succ, List.getElem?_cons_zero]; rfl) (fun hk K hK => ?_) ?_
                · (obtain ⟨v, r205, hf⟩ := Known.get (hk 0 (by kernel_rfl) (by simp)) (d := 205) (by kernel_rfl); simp only [moF] at hf; (try subst hf)); (obtain ⟨v, r206, hf⟩ := Known.get (hk 1 (by kernel_rfl) (by simp)) (d := 206) (by kernel_rfl); simp only [moF] at hf; (try subst hf))
                  rw [if_pos (wanted_none rfl)]; obtain ⟨ρ, hρ⟩ : ∃ ρ, a'.eval = ρ := ⟨_, rfl⟩; have qc : ∀ v, ρ (.const v) = v := (fun v => (by rw [← hρ]; rfl)); have qf : ∀ f, ρ (.func f) = .func (.func f) #[] #[] := (fun f => (by rw [← hρ]; rfl)); have q205 := eval_of r205; rw [hρ] at q205; have q206 := eval_of r206; rw [hρ] at q206; refine abs_op ρ hρ ?_; clear hρ; go_simp
                  exact hK.out _ _ _ rfl (by show _ = Value.bool b1; rw [← HB1.out]) hT (Below.refl _ _)
                refine LinOps.cons (by simp only [List.getElem?_toArray, List.getElem?_cons_succ, List.getElem?_cons_zero]; rfl) (fun hk K hK => ?_) ?_
                · (obtain ⟨v, r207, hf⟩ := Known.get (hk 2 (by kernel_rfl) (by simp)) (d := 207) (by kernel_rfl); simp only [moF] at hf; (try subst hf))
                  rw [if_pos (wanted_none rfl)]; obtain ⟨ρ, hρ⟩ : ∃ ρ, a'.eval = ρ := ⟨_, rfl⟩; have qc : ∀ v, ρ (.const v) = v := (fun v => (by rw [← hρ]; rfl)); have qf : ∀ f, ρ (.func f) = .func (.func f) #[] #[] := (fun f => (by rw [← hρ]; rfl)); have q207 := eval_of r207; rw [hρ] at q207; refine abs_op ρ hρ ?_; clear hρ; go_simp
                  exact hK.out _ _ _ rfl rfl hT (Below.refl _ _)
                refine LinOps.cons (by simp only [List.getElem?_toArray, List.getElem?_cons_succ, List.getElem?_cons_zero]; rfl) (fun hk K hK => ?_) ?_
                · (obtain ⟨v, r208, hf⟩ := Known.get (hk 3 (by kernel_rfl) (by simp)) (d := 208) (by kernel_rfl); simp only [moF] at hf; (try subst hf))
                  cases b1
                  · rw [if_neg (wanted_no rfl (by kernel_rfl) r208 rfl)]
                    exact hK.out _ _ _ rfl rfl hT (Below.refl _ _)
                  · rw [if_pos (wanted_yes rfl (by kernel_rfl) r208)]; obtain ⟨ρ, hρ⟩ : ∃ ρ, a'.eval = ρ := ⟨_, rfl⟩; have qc : ∀ v, ρ (.const v) = v := (fun v => (by rw [← hρ]; rfl)); have qf : ∀ f, ρ (.func f) = .func (.func f) #[] #[] := (fun f => (by rw [← hρ]; rfl)); have q11 := eval_of r11; rw [hρ] at q11; refine abs_op ρ hρ ?_; clear hρ; go_simp
                    exact hK.out _ _ _ rfl rfl hT (Below.refl _ _)
                refine LinOps.cons (by simp only [List.getElem?_toArray, List.getElem?_cons_succ, List.getElem?_cons_zero]; rfl) (fun hk K hK => ?_) ?_
                · (obtain ⟨v, r208, hf⟩ := Known.get (hk 3 (by kernel_rfl) (by simp)) (d := 208) (by kernel_rfl); simp only [moF] at hf; (try subst hf))
                  cases b1
                  · rw [if_neg (wanted_no rfl (by kernel_rfl) r208 rfl)]
                    exact hK.out _ _ _ rfl rfl hT (Below.refl _ _)
                  · rw [if_pos (wanted_yes rfl (by kernel_rfl) r208)]; obtain ⟨ρ, hρ⟩ : ∃ ρ, a'.eval = ρ := ⟨_, rfl⟩; have qc : ∀ v, ρ (.const v) = v := (fun v => (by rw [← hρ]; rfl)); have qf : ∀ f, ρ (.func f) = .func (.func f) #[] #[] := (fun f => (by rw [← hρ]; rfl)); have q21 := eval_of r21; rw [hρ] at q21; refine abs_op ρ hρ ?_; clear hρ; go_simp
                    exact hK.out _ _ _ rfl rfl hT (Below.refl _ _)
                refine LinOps.cons (by simp only [List.getElem?_toArray, List.getElem?_cons_succ, List.getElem?_cons_zero]; rfl) (fun hk K hK => ?_) ?_
                · (obtain ⟨v, r208, hf⟩ := Known.get (hk 3 (by kernel_rfl) (by simp)) (d := 208) (by kernel_rfl); simp only [moF] at hf; (try subst hf)); (obtain ⟨v, r209, hf⟩ := Known.get (hk 4 (by kernel_rfl) (by simp)) (d := 209) (by kernel_rfl); simp only [moF] at hf; (try subst hf)); (obtain ⟨v, r210, hf⟩ := Known.get (hk 5 (by kernel_rfl) (by simp)) (d := 210) (by kernel_rfl); simp only [moF] at hf; (try subst hf))
                  cases b1
                  · rw [if_neg (wanted_no rfl (by kernel_rfl) r208 rfl)]
                    exact hK.out _ _ _ rfl rfl hT (Below.refl _ _)
                  · rw [if_pos (wanted_yes rfl (by kernel_rfl) r208)]; obtain ⟨ρ, hρ⟩ : ∃ ρ, a'.eval = ρ := ⟨_, rfl⟩; have qc : ∀ v, ρ (.const v) = v := (fun v => (by rw [← hρ]; rfl)); have qf : ∀ f, ρ (.func f) = .func (.func f) #[] #[] := (fun f => (by rw [← hρ]; rfl)); have q209 := eval_of r209; rw [hρ] at q209; have q210 := eval_of r210; rw [hρ] at q210; refine abs_op ρ hρ ?_; clear hρ; go_simp
                    exact hK.out _ _ _ rfl rfl hT (Below.refl _ _)
                refine LinOps.cons (by simp only [List.getElem?_toArray, List.getElem?_cons_succ, List.getElem?_cons_zero]; rfl) (fun hk K hK => ?_) ?_
                · (obtain ⟨v, r208, hf⟩ := Known.get (hk 3 (by kernel_rfl) (by simp)) (d := 208) (by kernel_rfl); simp only [moF] at hf; (try subst hf)); (obtain ⟨v, r211, hf⟩ := Known.get (hk 6 (by kernel_rfl) (by simp)) (d := 211) (by kernel_rfl); simp only [moF] at hf; (try subst hf))
                  cases b1
                  · rw [if_neg (wanted_no rfl (by kernel_rfl) r208 rfl)]
                    exact hK.out _ _ _ rfl rfl hT (Below.refl _ _)
                  · rw [if_pos (wanted_yes rfl (by kernel_rfl) r208)]; obtain ⟨ρ, hρ⟩ : ∃ ρ, a'.eval = ρ := ⟨_, rfl⟩; have qc : ∀ v, ρ (.const v) = v := (fun v => (by rw [← hρ]; rfl)); have qf : ∀ f, ρ (.func f) = .func (.func f) #[] #[] := (fun f => (by rw [← hρ]; rfl)); have q211 := eval_of r211; rw [hρ] at q211; refine abs_op ρ hρ ?_; clear hρ; go_simp
                    exact hK.out _ _ _ rfl rfl hT (Below.refl _ _)
                refine LinOps.cons (by simp only [List.getElem?_toArray, List.getElem?_cons_succ, List.getElem?_cons_zero]; rfl) (fun hk K hK => ?_) ?_
                · (obtain ⟨v, r208, hf⟩ := Known.get (hk 3 (by kernel_rfl) (by simp)) (d := 208) (by kernel_rfl); simp only [moF] at hf; (try subst hf))
                  cases b1
                  · rw [if_neg (wanted_no rfl (by kernel_rfl) r208 rfl)]
                    exact hK.out _ _ _ rfl rfl hT (Below.refl _ _)
                  · rw [if_pos (wanted_yes rfl (by kernel_rfl) r208)]; obtain ⟨ρ, hρ⟩ : ∃ ρ, a'.eval = ρ := ⟨_, rfl⟩; have qc : ∀ v, ρ (.const v) = v := (fun v => (by rw [← hρ]; rfl)); have qf : ∀ f, ρ (.func f) = .func (.func f) #[] #[] := (fun f => (by rw [← hρ]; rfl)); have q13 := eval_of r13; rw [hρ] at q13; refine abs_op ρ hρ ?_; clear hρ; go_simp
                    exact hK.out _ _ _ rfl rfl hT (Below.refl _ _)
                refine LinOps.cons (by simp only [List.getElem?_toArray, List.getElem?_cons_succ, List.getElem?_cons_zero]; rfl) (fun hk K hK => ?_) ?_
                · (obtain ⟨v, r208, hf⟩ := Known.get (hk 3 (by kernel_rfl) (by simp)) (d := 208) (by kernel_rfl); simp only [moF] at hf; (try subst hf))
                  cases b1
                  · rw [if_neg (wanted_no rfl (by kernel_rfl) r208 rfl)]
                    exact hK.out _ _ _ rfl rfl hT (Below.refl _ _)
                  · rw [if_pos (wanted_yes rfl (by kernel_rfl) r208)]; obtain ⟨ρ, hρ⟩ : ∃ ρ, a'.eval = ρ := ⟨_, rfl⟩; have qc : ∀ v, ρ (.const v) = v := (fun v => (by rw [← hρ]; rfl)); have qf : ∀ f, ρ (.func f) = .func (.func f) #[] #[] := (fun f => (by rw [← hρ]; rfl)); have q21 := eval_of r21; rw [hρ] at q21; refine abs_op ρ hρ ?_; clear hρ; go_simp
                    exact hK.out _ _ _ rfl rfl hT (Below.refl _ _)
                refine LinOps.cons (by simp only [List.getElem?_toArray, List.getElem?_cons_succ, List.getElem?_cons_zero]; rfl) (fun hk K hK => ?_) ?_
                · (obtain ⟨v, r208, hf⟩ := Known.get (hk 3 (by kernel_rfl) (by simp)) (d := 208) (by kernel_rfl); simp only [moF] at hf; (try subst hf)); (obtain ⟨v, r213, hf⟩ := Known.get (hk 8 (by kernel_rfl) (by simp)) (d := 213) (by kernel_rfl); simp only [moF] at hf; (try subst hf)); (obtain ⟨v, r214, hf⟩ := Known.get (hk 9 (by kernel_rfl) (by simp)) (d := 214) (by kernel_rfl); simp only [moF] at hf; (try subst hf))
                  cases b1
                  · rw [if_neg (wanted_no rfl (by kernel_rfl) r208 rfl)]
                    exact hK.out _ _ _ rfl rfl hT (Below.refl _ _)
                  · obtain ⟨e8, hpf, -⟩ := hm1.out rfl
                    rw [e8] at r213
                    rw [if_pos (wanted_yes rfl (by kernel_rfl) r208)]; obtain ⟨ρ, hρ⟩ : ∃ ρ, a'.eval = ρ := ⟨_, rfl⟩; have qc : ∀ v, ρ (.const v) = v := (fun v => (by rw [← hρ]; rfl)); have qf : ∀ f, ρ (.func f) = .func (.func f) #[] #[] := (fun f => (by rw [← hρ]; rfl)); have q213 := eval_of r213; rw [hρ] at q213; have q214 := eval_of r214; rw [hρ] at q214; refine abs_op ρ hρ ?_; clear hρ; go_simp
                    exact hK.out _ _ _ rfl rfl hT (Below.refl _ _)
                refine LinOps.cons (by simp only [List.getElem?_toArray, List.getElem?_cons_succ, List.getElem?_cons_zero]; rfl) (fun hk K hK => ?_) ?_
                · (obtain ⟨v, r208, hf⟩ := Known.get (hk 3 (by kernel_rfl) (by simp)) (d := 208) (by kernel_rfl); simp only [moF] at hf; (try subst hf)); (obtain ⟨v, r215, hf⟩ := Known.get (hk 10 (by kernel_rfl) (by simp)) (d := 215) (by kernel_rfl); simp only [moF] at hf; (try subst hf))
                  cases b1
                  · rw [if_neg (wanted_no rfl (by kernel_rfl) r208 rfl)]
                    exact hK.out _ _ _ rfl rfl hT (Below.refl _ _)
                  · obtain ⟨-, -, hbs, k0, k1, -⟩ := hm1.out rfl
                    have f2 := (hT.cell (p := ⟨b8, o8 + p * 2, none⟩) hbs).trans k0
                    have f3 := (hT.cell (p := ⟨b8, o8 + p * 2 + 1, none⟩) hbs).trans k1
                    rw [if_pos (wanted_yes rfl (by kernel_rfl) r208)]; obtain ⟨ρ, hρ⟩ : ∃ ρ, a'.eval = ρ := ⟨_, rfl⟩; have qc : ∀ v, ρ (.const v) = v := (fun v => (by rw [← hρ]; rfl)); have qf : ∀ f, ρ (.func f) = .func (.func f) #[] #[] := (fun f => (by rw [← hρ]; rfl)); have q215 := eval_of r215; rw [hρ] at q215; refine abs_op ρ hρ ?_; clear hρ; go_simp
                    exact hK.out _ _ _ rfl rfl hT (Below.refl _ _)
                refine LinOps.cons (by simp only [List.getElem?_toArray, List.getElem?_cons_succ, List.getElem?_cons_zero]; rfl) (fun hk K hK => ?_) ?_
                · (obtain ⟨v, r208, hf⟩ := Known.get (hk 3 (by kernel_rfl) (by simp)) (d := 208) (by kernel_rfl); simp only [moF] at hf; (try subst hf)); (obtain ⟨v, r212, hf⟩ := Known.get (hk 7 (by kernel_rfl) (by simp)) (d := 212) (by kernel_rfl); simp only [moF] at hf; (try subst hf)); (obtain ⟨v, r216, hf⟩ := Known.get (hk 11 (by kernel_rfl) (by simp)) (d := 216) (by kernel_rfl); simp only [moF] at hf; (try subst hf))
                  cases b1
                  · rw [if_neg (wanted_no rfl (by kernel_rfl) r208 rfl)]
                    exact hK.out _ _ _ rfl rfl hT (Below.refl _ _)
                  · have hin := (hm1.out rfl).2.2.2.2.2
                    rw [if_pos (wanted_yes rfl (by kernel_rfl) r208)]; obtain ⟨ρ, hρ⟩ : ∃ ρ, a'.eval = ρ := ⟨_, rfl⟩; have qc : ∀ v, ρ (.const v) = v := (fun v => (by rw [← hρ]; rfl)); have qf : ∀ f, ρ (.func f) = .func (.func f) #[] #[] := (fun f => (by rw [← hρ]; rfl)); have q212 := eval_of r212; rw [hρ] at q212; have q216 := eval_of r216; rw [hρ] at q216; refine abs_op ρ hρ ?_; clear hρ; go_simp
                    go_at_call 40; refine (inside_any _ _ _ _ _).mono ?_
                    rw [in_sub hin]
                    rintro e w1 ⟨rfl, h1⟩
                    exact hK.out _ _ _ rfl rfl (hT.trans (h1.mono hT.size)) h1
                refine LinOps.cons (by simp only [List.getElem?_toArray, List.getElem?_cons_succ, List.getElem?_cons_zero]; rfl) (fun hk K hK => ?_) ?_
                · (obtain ⟨v, r208, hf⟩ := Known.get (hk 3 (by kernel_rfl) (by simp)) (d := 208) (by kernel_rfl); simp only [moF] at hf; (try subst hf)); (obtain ⟨v, r217, hf⟩ := Known.get (hk 12 (by kernel_rfl) (by simp)) (d := 217) (by kernel_rfl); simp only [moF] at hf; (try subst hf))
                  cases b1
                  · rw [if_neg (wanted_no rfl (by kernel_rfl) r208 rfl)]
                    exact hK.out _ _ _ rfl rfl hT (Below.refl _ _)
                  · rw [if_pos (wanted_yes rfl (by kernel_rfl) r208)]; obtain ⟨ρ, hρ⟩ : ∃ ρ, a'.eval = ρ := ⟨_, rfl⟩; have qc : ∀ v, ρ (.const v) = v := (fun v => (by rw [← hρ]; rfl)); have qf : ∀ f, ρ (.func f) = .func (.func f) #[] #[] := (fun f => (by rw [← hρ]; rfl)); have q217 := eval_of r217; rw [hρ] at q217; refine abs_op ρ hρ ?_; clear hρ; go_simp
                    exact hK.out _ _ _ rfl rfl hT (Below.refl _ _)
                refine LinOps.cons (by simp only [List.getElem?_toArray, List.getElem?_cons_succ, List.getElem?_cons_zero]; rfl) (fun hk K hK => ?_) ?_
                · (obtain ⟨v, r208, hf⟩ := Known.get (hk 3 (by kernel_rfl) (by simp)) (d := 208) (by kernel_rfl); simp only [moF] at hf; (try subst hf)); (obtain ⟨v, r218, hf⟩ := Known.get (hk 13 (by kernel_rfl) (by simp)) (d := 218) (by kernel_rfl); simp only [moF] at hf; (try subst hf))
                  cases b1
                  all_goals
                    rw [if_pos (wanted_none rfl)]; obtain ⟨ρ, hρ⟩ : ∃ ρ, a'.eval = ρ := ⟨_, rfl⟩; have qc : ∀ v, ρ (.const v) = v := (fun v => (by rw [← hρ]; rfl)); have qf : ∀ f, ρ (.func f) = .func (.func f) #[] #[] := (fun f => (by rw [← hρ]; rfl)); have q208 := eval_of r208; rw [hρ] at q208; have q218 := eval_of r218; rw [hρ] at q218; refine abs_op ρ hρ ?_; clear hρ; go_simp
                    exact hK.out _ _ _ rfl rfl hT (Below.refl _ _)
                refine LinOps.cons (by simp only [List.getElem?_toArray, List.getElem?_cons_succ, List.getElem?_cons_zero]; rfl) (fun hk K hK => ?_) ?_
                · (obtain ⟨v, r219, hf⟩ := Known.get (hk 14 (by kernel_rfl) (by simp)) (d := 219) (by kernel_rfl); simp only [moF] at hf; (try subst hf))
                  rw [if_pos (wanted_none rfl)]; obtain ⟨ρ, hρ⟩ : ∃ ρ, a'.eval = ρ := ⟨_, rfl⟩; have qc : ∀ v, ρ (.const v) = v := (fun v => (by rw [← hρ]; rfl)); have qf : ∀ f, ρ (.func f) = .func (.func f) #[] #[] := (fun f => (by rw [← hρ]; rfl)); have q219 := eval_of r219; rw [hρ] at q219; refine abs_op ρ hρ ?_; clear hρ; go_simp
                  exact hK.out _ _ _ rfl rfl hT (Below.refl _ _)
                refine LinOps.cons (by simp only [List.getElem?_toArray, List.getElem?_cons_succ, List.getElem?_cons_zero]; rfl) (fun hk K hK => ?_) ?_
                · (obtain ⟨v, r220, hf⟩ := Known.get (hk 15 (by kernel_rfl) (by simp)) (d := 220) (by kernel_rfl); simp only [moF] at hf; (try subst hf))
                  rw [if_pos (wanted_yes rfl (by kernel_rfl) r220)]; obtain ⟨ρ, hρ⟩ : ∃ ρ, a'.eval = ρ := ⟨_, rfl⟩; have qc : ∀ v, ρ (.const v) = v := (fun v => (by rw [← hρ]; rfl)); have qf : ∀ f, ρ (.func f) = .func (.func f) #[] #[] := (fun f => (by rw [← hρ]; rfl)); have q21 := eval_of r21; rw [hρ] at q21; refine abs_op ρ hρ ?_; clear hρ; go_simp
                  exact hK.out _ _ _ rfl rfl hT (Below.refl _ _)
                refine LinOps.cons (by simp only [List.getElem?_toArray, List.getElem?_cons_succ, List.getElem?_cons_zero]; rfl) (fun hk K hK => ?_) ?_
                · (obtain ⟨v, r220, hf⟩ := Known.get (hk 15 (by kernel_rfl) (by simp)) (d := 220) (by kernel_rfl); simp only [moF] at hf; (try subst hf))
                  rw [if_pos (wanted_yes rfl (by kernel_rfl) r220)]; obtain ⟨ρ, hρ⟩ : ∃ ρ, a'.eval = ρ := ⟨_, rfl⟩; have qc : ∀ v, ρ (.const v) = v := (fun v => (by rw [← hρ]; rfl)); have qf : ∀ f, ρ (.func f) = .func (.func f) #[] #[] := (fun f => (by rw [← hρ]; rfl)); have q9 := eval_of r9; rw [hρ] at q9; refine abs_op ρ hρ ?_; clear hρ; go_simp
                  exact hK.out _ _ _ rfl rfl hT (Below.refl _ _)
                refine LinOps.cons (by simp only [List.getElem?_toArray, List.getElem?_cons_succ, List.getElem?_cons_zero]; rfl) (fun hk K hK => ?_) ?_
                · (obtain ⟨v, r220, hf⟩ := Known.get (hk 15 (by kernel_rfl) (by simp)) (d := 220) (by kernel_rfl); simp only [moF] at hf; (try subst hf)); (obtain ⟨v, r221, hf⟩ := Known.get (hk 16 (by kernel_rfl) (by simp)) (d := 221) (by kernel_rfl); simp only [moF] at hf; (try subst hf)); (obtain ⟨v, r222, hf⟩ := Known.get (hk 17 (by kernel_rfl) (by simp)) (d := 222) (by kernel_rfl); simp only [moF] at hf; (try subst hf))
                  rw [if_pos (wanted_yes rfl (by kernel_rfl) r220)]; obtain ⟨ρ, hρ⟩ : ∃ ρ, a'.eval = ρ := ⟨_, rfl⟩; have qc : ∀ v, ρ (.const v) = v := (fun v => (by rw [← hρ]; rfl)); have qf : ∀ f, ρ (.func f) = .func (.func f) #[] #[] := (fun f => (by rw [← hρ]; rfl)); have q221 := eval_of r221; rw [hρ] at q221; have q222 := eval_of r222; rw [hρ] at q222; refine abs_op ρ hρ ?_; clear hρ; go_simp
                  exact hK.out _ _ _ rfl (by show _ = Value.bool b2; rw [← HB2.out]) hT (Below.refl _ _)
                refine LinOps.cons (by simp only [List.getElem?_toArray, List.getElem?_cons_succ, List.getElem?_cons_zero]; rfl) (fun hk K hK => ?_) ?_
                · (obtain ⟨v, r220, hf⟩ := Known.get (hk 15 (by kernel_rfl) (by simp)) (d := 220) (by kernel_rfl); simp only [moF] at hf; (try subst hf)); (obtain ⟨v, r223, hf⟩ := Known.get (hk 18 (by kernel_rfl) (by simp)) (d := 223) (by kernel_rfl); simp only [moF] at hf; (try subst hf))
                  rw [if_pos (wanted_yes rfl (by kernel_rfl) r220)]; obtain ⟨ρ, hρ⟩ : ∃ ρ, a'.eval = ρ := ⟨_, rfl⟩; have qc : ∀ v, ρ (.const v) = v := (fun v => (by rw [← hρ]; rfl)); have qf : ∀ f, ρ (.func f) = .func (.func f) #[] #[] := (fun f => (by rw [← hρ]; rfl)); have q223 := eval_of r223; rw [hρ] at q223; refine abs_op ρ hρ ?_; clear hρ; go_simp
                  exact hK.out _ _ _ rfl rfl hT (Below.refl _ _)
                refine LinOps.cons (by simp only [List.getElem?_toArray, List.getElem?_cons_succ, List.getElem?_cons_zero]; rfl) (fun hk K hK => ?_) ?_
                · (obtain ⟨v, r224, hf⟩ := Known.get (hk 19 (by kernel_rfl) (by simp)) (d := 224) (by kernel_rfl); simp only [moF] at hf; (try subst hf))
                  cases b2
                  · rw [if_neg (wanted_no rfl (by kernel_rfl) r224 rfl)]
                    exact hK.out _ _ _ rfl rfl hT (Below.refl _ _)
                  · rw [if_pos (wanted_yes rfl (by kernel_rfl) r224)]; obtain ⟨ρ, hρ⟩ : ∃ ρ, a'.eval = ρ := ⟨_, rfl⟩; have qc : ∀ v, ρ (.const v) = v := (fun v => (by rw [← hρ]; rfl)); have qf : ∀ f, ρ (.func f) = .func (.func f) #[] #[] := (fun f => (by rw [← hρ]; rfl)); have q11 := eval_of r11; rw [hρ] at q11; refine abs_op ρ hρ ?_; clear hρ; go_simp
                    exact hK.out _ _ _ rfl rfl hT (Below.refl _ _)
                refine LinOps.cons (by simp only [List.getElem?_toArray, List.getElem?_cons_succ, List.getElem?_cons_zero]; rfl) (fun hk K hK => ?_) ?_
                · (obtain ⟨v, r224, hf⟩ := Known.get (hk 19 (by kernel_rfl) (by simp)) (d := 224) (by kernel_rfl); simp only [moF] at hf; (try subst hf))
                  cases b2
                  · rw [if_neg (wanted_no rfl (by kernel_rfl) r224 rfl)]
                    exact hK.out _ _ _ rfl rfl hT (Below.refl _ _)
                  · rw [if_pos (wanted_yes rfl (by kernel_rfl) r224)]; obtain ⟨ρ, hρ⟩ : ∃ ρ, a'.eval = ρ := ⟨_, rfl⟩; have qc : ∀ v, ρ (.const v) = v := (fun v => (by rw [← hρ]; rfl)); have qf : ∀ f, ρ (.func f) = .func (.func f) #[] #[] := (fun f => (by rw [← hρ]; rfl)); have q21 := eval_of r21; rw [hρ] at q21; refine abs_op ρ hρ ?_; clear hρ; go_simp
                    exact hK.out _ _ _ rfl rfl hT (Below.refl _ _)
                refine LinOps.cons (by simp only [List.getElem?_toArray, List.getElem?_cons_succ, List.getElem?_cons_zero]; rfl) (fun hk K hK => ?_) ?_
                · (obtain ⟨v, r224, hf⟩ := Known.get (hk 19 (by kernel_rfl) (by simp)) (d := 224) (by kernel_rfl); simp only [moF] at hf; (try subst hf)); (obtain ⟨v, r225, hf⟩ := Known.get (hk 20 (by kernel_rfl) (by simp)) (d := 225) (by kernel_rfl); simp only [moF] at hf; (try subst hf)); (obtain ⟨v, r226, hf⟩ := Known.get (hk 21 (by kernel_rfl) (by simp)) (d := 226) (by kernel_rfl); simp only [moF] at hf; (try subst hf))
                  cases b2
                  · rw [if_neg (wanted_no rfl (by kernel_rfl) r224 rfl)]
                    exact hK.out _ _ _ rfl rfl hT (Below.refl _ _)
                  · rw [if_pos (wanted_yes rfl (by kernel_rfl) r224)]; obtain ⟨ρ, hρ⟩ : ∃ ρ, a'.eval = ρ := ⟨_, rfl⟩; have qc : ∀ v, ρ (.const v) = v := (fun v => (by rw [← hρ]; rfl)); have qf : ∀ f, ρ (.func f) = .func (.func f) #[] #[] := (fun f => (by rw [← hρ]; rfl)); have q225 := eval_of r225; rw [hρ] at q225; have q226 := eval_of r226; rw [hρ] at q226; refine abs_op ρ hρ ?_; clear hρ; go_simp
                    exact hK.out _ _ _ rfl rfl hT (Below.refl _ _)
                refine LinOps.cons (by simp only [List.getElem?_toArray, List.getElem?_cons_succ, List.getElem?_cons_zero]; rfl) (fun hk K hK => ?_) ?_
                · (obtain ⟨v, r224, hf⟩ := Known.get (hk 19 (by kernel_rfl) (by simp)) (d := 224) (by kernel_rfl); simp only [moF] at hf; (try subst hf)); (obtain ⟨v, r227, hf⟩ := Known.get (hk 22 (by kernel_rfl) (by simp)) (d := 227) (by kernel_rfl); simp only [moF] at hf; (try subst hf))
                  cases b2
                  · rw [if_neg (wanted_no rfl (by kernel_rfl) r224 rfl)]
                    exact hK.out _ _ _ rfl rfl hT (Below.refl _ _)
                  · rw [if_pos (wanted_yes rfl (by kernel_rfl) r224)]; obtain ⟨ρ, hρ⟩ : ∃ ρ, a'.eval = ρ := ⟨_, rfl⟩; have qc : ∀ v, ρ (.const v) = v := (fun v => (by rw [← hρ]; rfl)); have qf : ∀ f, ρ (.func f) = .func (.func f) #[] #[] := (fun f => (by rw [← hρ]; rfl)); have q227 := eval_of r227; rw [hρ] at q227; refine abs_op ρ hρ ?_; clear hρ; go_simp
                    exact hK.out _ _ _ rfl rfl hT (Below.refl _ _)
                refine LinOps.cons (by simp only [List.getElem?_toArray, List.getElem?_cons_succ, List.getElem?_cons_zero]; rfl) (fun hk K hK => ?_) ?_
                · (obtain ⟨v, r224, hf⟩ := Known.get (hk 19 (by kernel_rfl) (by simp)) (d := 224) (by kernel_rfl); simp only [moF] at hf; (try subst hf))
                  cases b2
                  · rw [if_neg (wanted_no rfl (by kernel_rfl) r224 rfl)]
                    exact hK.out _ _ _ rfl rfl hT (Below.refl _ _)
                  · rw [if_pos (wanted_yes rfl (by kernel_rfl) r224)]; obtain ⟨ρ, hρ⟩ : ∃ ρ, a'.eval = ρ := ⟨_, rfl⟩; have qc : ∀ v, ρ (.const v) = v := (fun v => (by rw [← hρ]; rfl)); have qf : ∀ f, ρ (.func f) = .func (.func f) #[] #[] := (fun f => (by rw [← hρ]; rfl)); have q13 := eval_of r13; rw [hρ] at q13; refine abs_op ρ hρ ?_; clear hρ; go_simp
                    exact hK.out _ _ _ rfl rfl hT (Below.refl _ _)
                refine LinOps.cons (by simp only [List.getElem?_toArray, List.getElem?_cons_succ, List.getElem?_cons_zero]; rfl) (fun hk K hK => ?_) ?_
                · (obtain ⟨v, r224, hf⟩ := Known.get (hk 19 (by kernel_rfl) (by simp)) (d := 224) (by kernel_rfl); simp only [moF] at hf; (try subst hf))
                  cases b2
                  · rw [if_neg (wanted_no rfl (by kernel_rfl) r224 rfl)]
                    exact hK.out _ _ _ rfl rfl hT (Below.refl _ _)
                  · rw [if_pos (wanted_yes rfl (by kernel_rfl) r224)]; obtain ⟨ρ, hρ⟩ : ∃ ρ, a'.eval = ρ := ⟨_, rfl⟩; have qc : ∀ v, ρ (.const v) = v := (fun v => (by rw [← hρ]; rfl)); have qf : ∀ f, ρ (.func f) = .func (.func f) #[] #[] := (fun f => (by rw [← hρ]; rfl)); have q21 := eval_of r21; rw [hρ] at q21; refine abs_op ρ hρ ?_; clear hρ; go_simp
                    exact hK.out _ _ _ rfl rfl hT (Below.refl _ _)
                refine LinOps.cons (by simp only [List.getElem?_toArray, List.getElem?_cons_succ, List.getElem?_cons_zero]; rfl) (fun hk K hK => ?_) ?_
                · (obtain ⟨v, r224, hf⟩ := Known.get (hk 19 (by kernel_rfl) (by simp)) (d := 224) (by kernel_rfl); simp only [moF] at hf; (try subst hf)); (obtain ⟨v, r230, hf⟩ := Known.get (hk 25 (by kernel_rfl) (by simp)) (d := 230) (by kernel_rfl); simp only [moF] at hf; (try subst hf))
                  cases b2
                  · rw [if_neg (wanted_no rfl (by kernel_rfl) r224 rfl)]
                    exact hK.out _ _ _ rfl rfl hT (Below.refl _ _)
                  · obtain ⟨hq, -⟩ := hm2.out rfl
                    rw [if_pos (wanted_yes rfl (by kernel_rfl) r224)]; obtain ⟨ρ, hρ⟩ : ∃ ρ, a'.eval = ρ := ⟨_, rfl⟩; have qc : ∀ v, ρ (.const v) = v := (fun v => (by rw [← hρ]; rfl)); have qf : ∀ f, ρ (.func f) = .func (.func f) #[] #[] := (fun f => (by rw [← hρ]; rfl)); have q230 := eval_of r230; rw [hρ] at q230; refine abs_op ρ hρ ?_; clear hρ; go_simp
                    exact hK.out _ _ _ rfl (by show _ = Value.int .i64 (q : Int); rw [← hq.1]; first | rfl | (congr 1; exact (IntWalk.i64_in _ (by omega))) | (congr 1; exact (IntWalk.i64_in _ (by omega)).symm)) hT (Below.refl _ _)
                refine LinOps.cons (by simp only [List.getElem?_toArray, List.getElem?_cons_succ, List.getElem?_cons_zero]; rfl) (fun hk K hK => ?_) ?_
                · (obtain ⟨v, r224, hf⟩ := Known.get (hk 19 (by kernel_rfl) (by simp)) (d := 224) (by kernel_rfl); simp only [moF] at hf; (try subst hf)); (obtain ⟨v, r229, hf⟩ := Known.get (hk 24 (by kernel_rfl) (by simp)) (d := 229) (by kernel_rfl); simp only [moF] at hf; (try subst hf)); (obtain ⟨v, r231, hf⟩ := Known.get (hk 26 (by kernel_rfl) (by simp)) (d := 231) (by kernel_rfl); simp only [moF] at hf; (try subst hf))
                  cases b2
                  · rw [if_neg (wanted_no rfl (by kernel_rfl) r224 rfl)]
                    exact hK.out _ _ _ rfl rfl hT (Below.refl _ _)
                  · obtain ⟨-, e8, hpf, -⟩ := hm2.out rfl
                    rw [e8] at r229
                    rw [if_pos (wanted_yes rfl (by kernel_rfl) r224)]; obtain ⟨ρ, hρ⟩ : ∃ ρ, a'.eval = ρ := ⟨_, rfl⟩; have qc : ∀ v, ρ (.const v) = v := (fun v => (by rw [← hρ]; rfl)); have qf : ∀ f, ρ (.func f) = .func (.func f) #[] #[] := (fun f => (by rw [← hρ]; rfl)); have q229 := eval_of r229; rw [hρ] at q229; have q231 := eval_of r231; rw [hρ] at q231; refine abs_op ρ hρ ?_; clear hρ; go_simp
                    exact hK.out _ _ _ rfl rfl hT (Below.refl _ _)
                refine LinOps.cons (by simp only [List.getElem?_toArray, List.getElem?_cons_succ, List.getElem?_cons_zero]; rfl) (fun hk K hK => ?_) ?_
                · (obtain ⟨v, r224, hf⟩ := Known.get (hk 19 (by kernel_rfl) (by simp)) (d := 224) (by kernel_rfl); simp only [moF] at hf; (try subst hf)); (obtain ⟨v, r232, hf⟩ := Known.get (hk 27 (by kernel_rfl) (by simp)) (d := 232) (by kernel_rfl); simp only [moF] at hf; (try subst hf))
                  cases b2
                  · rw [if_neg (wanted_no rfl (by kernel_rfl) r224 rfl)]
                    exact hK.out _ _ _ rfl rfl hT (Below.refl _ _)
                  · obtain ⟨-, -, -, hbs, k0, k1, -⟩ := hm2.out rfl
                    have f2 := (hT.cell (p := ⟨b8, o8 + q * 2, none⟩) hbs).trans k0
                    have f3 := (hT.cell (p := ⟨b8, o8 + q * 2 + 1, none⟩) hbs).trans k1
                    rw [if_pos (wanted_yes rfl (by kernel_rfl) r224)]; obtain ⟨ρ, hρ⟩ : ∃ ρ, a'.eval = ρ := ⟨_, rfl⟩; have qc : ∀ v, ρ (.const v) = v := (fun v => (by rw [← hρ]; rfl)); have qf : ∀ f, ρ (.func f) = .func (.func f) #[] #[] := (fun f => (by rw [← hρ]; rfl)); have q232 := eval_of r232; rw [hρ] at q232; refine abs_op ρ hρ ?_; clear hρ; go_simp
                    exact hK.out _ _ _ rfl rfl hT (Below.refl _ _)
                refine LinOps.cons (by simp only [List.getElem?_toArray, List.getElem?_cons_succ, List.getElem?_cons_zero]; rfl) (fun hk K hK => ?_) ?_
                · (obtain ⟨v, r224, hf⟩ := Known.get (hk 19 (by kernel_rfl) (by simp)) (d := 224) (by kernel_rfl); simp only [moF] at hf; (try subst hf)); (obtain ⟨v, r228, hf⟩ := Known.get (hk 23 (by kernel_rfl) (by simp)) (d := 228) (by kernel_rfl); simp only [moF] at hf; (try subst hf)); (obtain ⟨v, r233, hf⟩ := Known.get (hk 28 (by kernel_rfl) (by simp)) (d := 233) (by kernel_rfl); simp only [moF] at hf; (try subst hf))
                  cases b2
                  · rw [if_neg (wanted_no rfl (by kernel_rfl) r224 rfl)]
                    exact hK.out _ _ _ rfl rfl hT (Below.refl _ _)
                  · have hin := (hm2.out rfl).2.2.2.2.2.2
                    rw [if_pos (wanted_yes rfl (by kernel_rfl) r224)]; obtain ⟨ρ, hρ⟩ : ∃ ρ, a'.eval = ρ := ⟨_, rfl⟩; have qc : ∀ v, ρ (.const v) = v := (fun v => (by rw [← hρ]; rfl)); have qf : ∀ f, ρ (.func f) = .func (.func f) #[] #[] := (fun f => (by rw [← hρ]; rfl)); have q228 := eval_of r228; rw [hρ] at q228; have q233 := eval_of r233; rw [hρ] at q233; refine abs_op ρ hρ ?_; clear hρ; go_simp
                    go_at_call 40; refine (inside_any _ _ _ _ _).mono ?_
                    rw [in_sub hin]
                    rintro e w1 ⟨rfl, h1⟩
                    exact hK.out _ _ _ rfl rfl (hT.trans (h1.mono hT.size)) h1
                refine LinOps.cons (by simp only [List.getElem?_toArray, List.getElem?_cons_succ, List.getElem?_cons_zero]; rfl) (fun hk K hK => ?_) ?_
                · (obtain ⟨v, r224, hf⟩ := Known.get (hk 19 (by kernel_rfl) (by simp)) (d := 224) (by kernel_rfl); simp only [moF] at hf; (try subst hf)); (obtain ⟨v, r234, hf⟩ := Known.get (hk 29 (by kernel_rfl) (by simp)) (d := 234) (by kernel_rfl); simp only [moF] at hf; (try subst hf))
                  cases b2
                  · rw [if_neg (wanted_no rfl (by kernel_rfl) r224 rfl)]
                    exact hK.out _ _ _ rfl rfl hT (Below.refl _ _)
                  · rw [if_pos (wanted_yes rfl (by kernel_rfl) r224)]; obtain ⟨ρ, hρ⟩ : ∃ ρ, a'.eval = ρ := ⟨_, rfl⟩; have qc : ∀ v, ρ (.const v) = v := (fun v => (by rw [← hρ]; rfl)); have qf : ∀ f, ρ (.func f) = .func (.func f) #[] #[] := (fun f => (by rw [← hρ]; rfl)); have q234 := eval_of r234; rw [hρ] at q234; refine abs_op ρ hρ ?_; clear hρ; go_simp
                    exact hK.out _ _ _ rfl rfl hT (Below.refl _ _)
                refine LinOps.cons (by simp only [List.getElem?_toArray, List.getElem?_cons_succ, List.getElem?_cons_zero]; rfl) (fun hk K hK => ?_) ?_
                · (obtain ⟨v, r220, hf⟩ := Known.get (hk 15 (by kernel_rfl) (by simp)) (d := 220) (by kernel_rfl); simp only [moF] at hf; (try subst hf)); (obtain ⟨v, r224, hf⟩ := Known.get (hk 19 (by kernel_rfl) (by simp)) (d := 224) (by kernel_rfl); simp only [moF] at hf; (try subst hf)); (obtain ⟨v, r235, hf⟩ := Known.get (hk 30 (by kernel_rfl) (by simp)) (d := 235) (by kernel_rfl); simp only [moF] at hf; (try subst hf))
                  cases b2
                  all_goals
                    rw [if_pos (wanted_yes rfl (by kernel_rfl) r220)]; obtain ⟨ρ, hρ⟩ : ∃ ρ, a'.eval = ρ := ⟨_, rfl⟩; have qc : ∀ v, ρ (.const v) = v := (fun v => (by rw [← hρ]; rfl)); have qf : ∀ f, ρ (.func f) = .func (.func f) #[] #[] := (fun f => (by rw [← hρ]; rfl)); have q224 := eval_of r224; rw [hρ] at q224; have q235 := eval_of r235; rw [hρ] at q235; refine abs_op ρ hρ ?_; clear hρ; go_simp
                    exact hK.out _ _ _ rfl rfl hT (Below.refl _ _)
                refine LinOps.cons (by simp only [List.getElem?_toArray, List.getElem?_cons_succ, List.getElem?_cons_zero]; rfl) (fun hk K hK => ?_) ?_
                · (obtain ⟨v, r220, hf⟩ := Known.get (hk 15 (by kernel_rfl) (by simp)) (d := 220) (by kernel_rfl); simp only [moF] at hf; (try subst hf)); (obtain ⟨v, r236, hf⟩ := Known.get (hk 31 (by kernel_rfl) (by simp)) (d := 236) (by kernel_rfl); simp only [moF] at hf; (try subst hf))
                  rw [if_pos (wanted_none rfl)]; obtain ⟨ρ, hρ⟩ : ∃ ρ, a'.eval = ρ := ⟨_, rfl⟩; have qc : ∀ v, ρ (.const v) = v := (fun v => (by rw [← hρ]; rfl)); have qf : ∀ f, ρ (.func f) = .func (.func f) #[] #[] := (fun f => (by rw [← hρ]; rfl)); have q220 := eval_of r220; rw [hρ] at q220; have q236 := eval_of r236; rw [hρ] at q236; refine abs_op ρ hρ ?_; clear hρ; go_simp
                  exact hK.out _ _ _ rfl rfl hT (Below.refl _ _)
                refine LinOps.cons (by simp only [List.getElem?_toArray, List.getElem?_cons_succ, List.getElem?_cons_zero]; rfl) (fun hk K hK => ?_) ?_
                · (obtain ⟨v, r237, hf⟩ := Known.get (hk 32 (by kernel_rfl) (by simp)) (d := 237) (by kernel_rfl); simp only [moF] at hf; (try subst hf))
                  rw [if_pos (wanted_none rfl)]; obtain ⟨ρ, hρ⟩ : ∃ ρ, a'.eval = ρ := ⟨_, rfl⟩; have qc : ∀ v, ρ (.const v) = v := (fun v => (by rw [← hρ]; rfl)); have qf : ∀ f, ρ (.func f) = .func (.func f) #[] #[] := (fun f => (by rw [← hρ]; rfl)); have q237 := eval_of r237; rw [hρ] at q237; refine abs_op ρ hρ ?_; clear hρ; go_simp
                  exact hK.out _ _ _ rfl rfl hT (Below.refl _ _)
                refine LinOps.cons (by simp only [List.getElem?_toArray, List.getElem?_cons_succ, List.getElem?_cons_zero]; rfl) (fun hk K hK => ?_) ?_
                · (obtain ⟨v, r238, hf⟩ := Known.get (hk 33 (by kernel_rfl) (by simp)) (d := 238) (by kernel_rfl); simp only [moF] at hf; (try subst hf))
                  rw [if_pos (wanted_yes rfl (by kernel_rfl) r238)]; obtain ⟨ρ, hρ⟩ : ∃ ρ, a'.eval = ρ := ⟨_, rfl⟩; have qc : ∀ v, ρ (.const v) = v := (fun v => (by rw [← hρ]; rfl)); have qf : ∀ f, ρ (.func f) = .func (.func f) #[] #[] := (fun f => (by rw [← hρ]; rfl)); have q16 := eval_of r16; rw [hρ] at q16; refine abs_op ρ hρ ?_; clear hρ; go_simp
                  exact hK.out _ _ _ rfl rfl hT (Below.refl _ _)
                refine LinOps.cons (by simp only [List.getElem?_toArray, List.getElem?_cons_succ, List.getElem?_cons_zero]; rfl) (fun hk K hK => ?_) ?_
                · (obtain ⟨v, r238, hf⟩ := Known.get (hk 33 (by kernel_rfl) (by simp)) (d := 238) (by kernel_rfl); simp only [moF] at hf; (try subst hf)); (obtain ⟨v, r239, hf⟩ := Known.get (hk 34 (by kernel_rfl) (by simp)) (d := 239) (by kernel_rfl); simp only [moF] at hf; (try subst hf))
                  rw [if_pos (wanted_yes rfl (by kernel_rfl) r238)]; obtain ⟨ρ, hρ⟩ : ∃ ρ, a'.eval = ρ := ⟨_, rfl⟩; have qc : ∀ v, ρ (.const v) = v := (fun v => (by rw [← hρ]; rfl)); have qf : ∀ f, ρ (.func f) = .func (.func f) #[] #[] := (fun f => (by rw [← hρ]; rfl)); have q239 := eval_of r239; rw [hρ] at q239; refine abs_op ρ hρ ?_; clear hρ; go_simp
                  exact hK.out _ _ _ rfl rfl hT (Below.refl _ _)
                refine LinOps.cons (by simp only [List.getElem?_toArray, List.getElem?_cons_succ, List.getElem?_cons_zero]; rfl) (fun hk K hK => ?_) ?_
                · (obtain ⟨v, r238, hf⟩ := Known.get (hk 33 (by kernel_rfl) (by simp)) (d := 238) (by kernel_rfl); simp only [moF] at hf; (try subst hf)); (obtain ⟨v, r240, hf⟩ := Known.get (hk 35 (by kernel_rfl) (by simp)) (d := 240) (by kernel_rfl); simp only [moF] at hf; (try subst hf))
                  rw [if_pos (wanted_yes rfl (by kernel_rfl) r238)]; obtain ⟨ρ, hρ⟩ : ∃ ρ, a'.eval = ρ := ⟨_, rfl⟩; have qc : ∀ v, ρ (.const v) = v := (fun v => (by rw [← hρ]; rfl)); have qf : ∀ f, ρ (.func f) = .func (.func f) #[] #[] := (fun f => (by rw [← hρ]; rfl)); have q240 := eval_of r240; rw [hρ] at q240; refine abs_op ρ hρ ?_; clear hρ; go_simp
                  exact hK.out _ _ _ rfl rfl hT (Below.refl _ _)
                refine LinOps.cons (by simp only [List.getElem?_toArray, List.getElem?_cons_succ, List.getElem?_cons_zero]; rfl) (fun hk K hK => ?_) ?_
                · (obtain ⟨v, r241, hf⟩ := Known.get (hk 36 (by kernel_rfl) (by simp)) (d := 241) (by kernel_rfl); simp only [moF] at hf; (try subst hf))
                  rw [if_neg (wanted_no rfl (by kernel_rfl) r241 rfl)]
                  exact hK.out _ _ _ rfl rfl hT (Below.refl _ _)
                refine LinOps.cons (by simp only [List.getElem?_toArray, List.getElem?_cons_succ, List.getElem?_cons_zero]; rfl) (fun hk K hK => ?_) ?_
                · (obtain ⟨v, r241, hf⟩ := Known.get (hk 36 (by kernel_rfl) (by simp)) (d := 241) (by kernel_rfl); simp only [moF] at hf; (try subst hf))
                  rw [if_neg (wanted_no rfl (by kernel_rfl) r241 rfl)]
                  exact hK.out _ _ _ rfl rfl hT (Below.refl _ _)
                refine LinOps.cons (by simp only [List.getElem?_toArray, List.getElem?_cons_succ, List.getElem?_cons_zero]; rfl) (fun hk K hK => ?_) ?_
                · (obtain ⟨v, r241, hf⟩ := Known.get (hk 36 (by kernel_rfl) (by simp)) (d := 241) (by kernel_rfl); simp only [moF] at hf; (try subst hf))
                  rw [if_neg (wanted_no rfl (by kernel_rfl) r241 rfl)]
                  exact hK.out _ _ _ rfl rfl hT (Below.refl _ _)
                refine LinOps.cons (by simp only [List.getElem?_toArray, List.getElem?_cons_succ, List.getElem?_cons_zero]; rfl) (fun hk K hK => ?_) ?_
                · (obtain ⟨v, r241, hf⟩ := Known.get (hk 36 (by kernel_rfl) (by simp)) (d := 241) (by kernel_rfl); simp only [moF] at hf; (try subst hf))
                  rw [if_neg (wanted_no rfl (by kernel_rfl) r241 rfl)]
                  exact hK.out _ _ _ rfl rfl hT (Below.refl _ _)
                refine LinOps.cons (by simp only [List.getElem?_toArray, List.getElem?_cons_succ, List.getElem?_cons_zero]; rfl) (fun hk K hK => ?_) ?_
                · (obtain ⟨v, r241, hf⟩ := Known.get (hk 36 (by kernel_rfl) (by simp)) (d := 241) (by kernel_rfl); simp only [moF] at hf; (try subst hf))
                  rw [if_neg (wanted_no rfl (by kernel_rfl) r241 rfl)]
                  exact hK.out _ _ _ rfl rfl hT (Below.refl _ _)
                refine LinOps.cons (by simp only [List.getElem?_toArray, List.getElem?_cons_succ, List.getElem?_cons_zero]; rfl) (fun hk K hK => ?_) ?_
                · (obtain ⟨v, r241, hf⟩ := Known.get (hk 36 (by kernel_rfl) (by simp)) (d := 241) (by kernel_rfl); simp only [moF] at hf; (try subst hf))
                  rw [if_neg (wanted_no rfl (by kernel_rfl) r241 rfl)]
                  exact hK.out _ _ _ rfl rfl hT (Below.refl _ _)
                refine LinOps.cons (by simp only [List.getElem?_toArray, List.getElem?_cons_succ, List.getElem?_cons_zero]; rfl) (fun hk K hK => ?_) ?_
                · (obtain ⟨v, r241, hf⟩ := Known.get (hk 36 (by kernel_rfl) (by simp)) (d := 241) (by kernel_rfl); simp only [moF] at hf; (try subst hf))
                  rw [if_neg (wanted_no rfl (by kernel_rfl) r241 rfl)]
                  exact hK.out _ _ _ rfl rfl hT (Below.refl _ _)
                refine LinOps.cons (by simp only [List.getElem?_toArray, List.getElem?_cons_succ, List.getElem?_cons_zero]; rfl) (fun hk K hK => ?_) ?_
                · (obtain ⟨v, r241, hf⟩ := Known.get (hk 36 (by kernel_rfl) (by simp)) (d := 241) (by kernel_rfl); simp only [moF] at hf; (try subst hf))
                  rw [if_neg (wanted_no rfl (by kernel_rfl) r241 rfl)]
                  exact hK.out _ _ _ rfl rfl hT (Below.refl _ _)
                refine LinOps.cons (by simp only [List.getElem?_toArray, List.getElem?_cons_succ, List.getElem?_cons_zero]; rfl) (fun hk K hK => ?_) ?_
                · (obtain ⟨v, r241, hf⟩ := Known.get (hk 36 (by kernel_rfl) (by simp)) (d := 241) (by kernel_rfl); simp only [moF] at hf; (try subst hf))
                  rw [if_neg (wanted_no rfl (by kernel_rfl) r241 rfl)]
                  exact hK.out _ _ _ rfl rfl hT (Below.refl _ _)
                refine LinOps.cons (by simp only [List.getElem?_toArray, List.getElem?_cons_succ, List.getElem?_cons_zero]; rfl) (fun hk K hK => ?_) ?_
                · (obtain ⟨v, r241, hf⟩ := Known.get (hk 36 (by kernel_rfl) (by simp)) (d := 241) (by kernel_rfl); simp only [moF] at hf; (try subst hf))
                  rw [if_neg (wanted_no rfl (by kernel_rfl) r241 rfl)]
                  exact hK.out _ _ _ rfl rfl hT (Below.refl _ _)
                refine LinOps.cons (by simp only [List.getElem?_toArray, List.getElem?_cons_succ, List.getElem?_cons_zero]; rfl) (fun hk K hK => ?_) ?_
                · (obtain ⟨v, r238, hf⟩ := Known.get (hk 33 (by kernel_rfl) (by simp)) (d := 238) (by kernel_rfl); simp only [moF] at hf; (try subst hf)); (obtain ⟨v, r241, hf⟩ := Known.get (hk 36 (by kernel_rfl) (by simp)) (d := 241) (by kernel_rfl); simp only [moF] at hf; (try subst hf)); (obtain ⟨v, r251, hf⟩ := Known.get (hk 46 (by kernel_rfl) (by simp)) (d := 251) (by kernel_rfl); simp only [moF] at hf; (try subst hf))
                  rw [if_pos (wanted_yes rfl (by kernel_rfl) r238)]; obtain ⟨ρ, hρ⟩ : ∃ ρ, a'.eval = ρ := ⟨_, rfl⟩; have qc : ∀ v, ρ (.const v) = v := (fun v => (by rw [← hρ]; rfl)); have qf : ∀ f, ρ (.func f) = .func (.func f) #[] #[] := (fun f => (by rw [← hρ]; rfl)); have q241 := eval_of r241; rw [hρ] at q241; have q251 := eval_of r251; rw [hρ] at q251; refine abs_op ρ hρ ?_; clear hρ; go_simp
                  exact hK.out _ _ _ rfl rfl hT (Below.refl _ _)
                exact LinOps.nil
              · intro a' w' hd hsz hkn hT hall
                (obtain ⟨v, r238, hf⟩ := Known.get (hall 33 (by kernel_rfl) ) (d := 238) (by kernel_rfl); simp only [moF] at hf; (try subst hf))
                (obtain ⟨v, r252, hf⟩ := Known.get (hall 47 (by kernel_rfl) ) (d := 252) (by kernel_rfl); simp only [moF] at hf; (try subst hf))
                clear hall
                have hlit := hid (act_lit hd hsz hkn)
                clear hd hkn
                refine wpAny_ready (rs := [48]) (by kernel_rfl) (by simp) ?_; refine AllReady.cons (by simp only [List.getElem?_toArray, List.getElem?_cons_succ, List.getElem?_cons_zero]; rfl) (fun K hK => ?_) AllReady.nil
                rw [if_pos (wanted_none rfl)]; obtain ⟨ρ, hρ⟩ : ∃ ρ, a'.eval = ρ := ⟨_, rfl⟩; have qc : ∀ v, ρ (.const v) = v := (fun v => (by rw [← hρ]; rfl)); have qf : ∀ f, ρ (.func f) = .func (.func f) #[] #[] := (fun f => (by rw [← hρ]; rfl)); have q238 := eval_of r238; rw [hρ] at q238; have q252 := eval_of r252; rw [hρ] at q252; refine abs_op ρ hρ ?_; clear hρ; go_simp
                refine hK _ _ ?_
                clear hK K
                refine wpAny_done (by kernel_rfl) ?_ _
                go_wp2_with fail
                refine Met.intro ?_
                go_step
                (repeat apply Exists.intro)
                refine And.intro ?_ ?_
                rotate_left 1
                (focus (refine (put_lit hlit.out).trans ?_; rfl))
                any_goals exact ⟨rfl, hT⟩
            case rest =>
              obtain ⟨rfl, hbc⟩ := hcut
              have hBc := hBr.trans (hbc.mono hBr.size)
              go_wp2_with fail
              exact ⟨⟨p + 1, hlt, by go_num, hBc⟩, by simp [intOf]; omega⟩
          · obtain rfl : p = ls.length := by omega
            go_wp2_with (go_at_call 22; refine (ticks_any _).mono ?_; rintro e w13 ⟨rfl, hb13⟩; (first | replace hb13 := Below.un1 hb13 | replace hb13 := Below.un2 hb13 | skip); obtain ⟨hc13, hf13, hl13, hm13, hw13⟩ := bcell hb13; have hz13 := hb13.size; (try simp only [World.size_alloc, World.size_setCell] at hz13))
            go_ret
            exact ⟨rfl, (hBw.trans (hBr.mono hzw)).trans (hb13.mono (by have := hBr.size; omega))⟩
end Go.Proofs.Ytmddbnjbliponaa
