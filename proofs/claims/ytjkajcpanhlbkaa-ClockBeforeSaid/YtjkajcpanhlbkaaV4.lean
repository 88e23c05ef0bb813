/-
  A line that surely was before another one was, and one that was not was not; it is told so just if the minutes that both lines can mean say so, and the other way round no line is before one that surely is before it: for every two clocks and all numbers the law returns true and leaves its arguments as they were.
  Conditions: none of its own.
-/
import Derived.Test.YtjkajcpanhlbkaaW10
import Derived.Test.YtjkajcpanhlbkaaO
namespace Go.Proofs.Ytjkajcpanhlbkaa
set_option linter.unusedSimpArgs false
set_option linter.unusedVariables false
open Go.ChangeShapes Go.WideShapes Go.ChangeAt Go.RowKit

theorem trueFaces_at (set : Int) (fs : List Fr) (bits : List Int) (ho : Ck.ok ⟨set, fs⟩ = true) (k : Nat) (h : k < (trueFaces set fs bits).length) : (trueFaces set fs bits)[k] = showsT ⟨set, fs⟩ (trulyL fs bits) k := by
  have e : (trueFaces set fs bits)[k] = faceAt set (exactF (trulyL fs bits)) k := facesL_get _ _ _ _ h
  rw [e]
  exact face_shows set fs _ (ord_of fs 0 (chk_of ho) _ (truly_inT fs bits (okFs_of ho).1)) k

theorem before_yes {c d : Ck} {r o : Int} {M N : Sp} (hc : c.ok = true) (hd : d.ok = true) (hr : isReadingB r = true) (ho : isReadingB o = true) (hM : pMeansR c r = (M, 0)) (hN : pMeansR d o = (N, 0)) :
    pBeforeR c r d o = if M.hi < N.lo then (2, 0) else if N.hi ≤ M.lo then (0, 0) else (1, 0) := by
  have h1 : checkE c = 0 := by simp [checkE, hc]
  have h2 : askE d (isReadingB r && isReadingB o) = 0 := askE_ok hd (by rw [hr, ho]; rfl)
  unfold pBeforeR
  rw [hM, hN, h1, h2]
  simp

theorem clockBefore_any (set : Int) (A : Option Addr) (cap : Nat) (fs : List Fr) (set2 : Int) (A2 : Option Addr) (cap2 : Nat) (fs2 : List Fr) (Bi : Option Addr) (bcap : Nat) (bits : List Int) (n0 n1 : Int) (w : World) (hA : Arr w w.heap.size A (frosts fs)) (hA2 : Arr w w.heap.size A2 (frosts fs2)) (hBi : Arr w w.heap.size Bi (ints bits)) (hbl : bits.length ≤ 9223372036854775807) :
    Calls Try.prog 11 #[.agg #[.int .i64 set, .slice A fs.length cap], .agg #[.int .i64 set2, .slice A2 fs2.length cap2], .agg #[.int .i64 n0, .int .i64 n1], .slice Bi bits.length bcap] w fun e w' => e = .returned (.bool true) ∧ Below w.heap.size w w' := by
  cases ho : Ck.ok ⟨set, fs⟩
  · exact before_false set A cap fs set2 A2 cap2 fs2 Bi bcap bits n0 n1 w hA hA2 (.inl ho)
  cases ho2 : Ck.ok ⟨set2, fs2⟩
  · exact before_false set A cap fs set2 A2 cap2 fs2 Bi bcap bits n0 n1 w hA hA2 (.inr ⟨ho, ho2⟩)
  obtain ⟨p1, p2⟩ := windI_range n0 4320 (by omega)
  obtain ⟨q1, q2⟩ := windI_range n1 4320 (by omega)
  obtain ⟨a, ha⟩ : ∃ a : Nat, windI n0 4320 = (a : Int) := ⟨(windI n0 4320).toNat, by omega⟩
  obtain ⟨z, hz⟩ : ∃ z : Nat, windI n1 4320 = (z : Int) := ⟨(windI n1 4320).toNat, by omega⟩
  have hT := truly_inT fs bits (okFs_of ho).1
  have hT2 := truly_inT fs2 bits (okFs_of ho2).1
  have h1 := true_means ho hT (z := (a : Int)) (by omega)
  have h2 := true_means ho2 hT2 (z := (z : Int)) (by omega)
  have b1 := shown_bd (fs := fs) (ok_set ho) (ord_of fs 0 (chk_of ho) _ hT) (m := (a : Int)) (by omega)
  have b2 := shown_bd (fs := fs2) (ok_set ho2) (ord_of fs2 0 (chk_of ho2) _ hT2) (m := (z : Int)) (by omega)
  have r1 : isReadingB (showsT ⟨set, fs⟩ (trulyL fs bits) a) = true := by simp [isReadingB, b1.1, b1.2]
  have r2 : isReadingB (showsT ⟨set2, fs2⟩ (trulyL fs2 bits) z) = true := by simp [isReadingB, b2.1, b2.2]
  obtain ⟨M, hM⟩ : ∃ M, pMeansR ⟨set, fs⟩ (showsT ⟨set, fs⟩ (trulyL fs bits) a) = (M, 0) := ⟨_, Prod.ext rfl h1.1⟩
  obtain ⟨N, hN⟩ : ∃ N, pMeansR ⟨set2, fs2⟩ (showsT ⟨set2, fs2⟩ (trulyL fs2 bits) z) = (N, 0) := ⟨_, Prod.ext rfl h2.1⟩
  have hB := before_yes ho ho2 r1 r2 hM hN
  have hK := before_yes ho2 ho r2 r1 hN hM
  rw [hM] at h1
  rw [hN] at h2
  simp only at h1 h2
  refine before_core set A cap fs set2 A2 cap2 fs2 Bi bcap bits n0 n1 w hA hA2 hBi hbl ho ho2 a z (hid ha) (hid hz) (by omega) (by omega) _ _ (hid fun h => trueFaces_at set fs bits ho a h) (hid fun h => trueFaces_at set2 fs2 bits ho2 z h)
    M N (if M.hi < N.lo then 2 else if N.hi ≤ M.lo then 0 else 1) (if N.hi < M.lo then 2 else if M.hi ≤ N.lo then 0 else 1) (hid hM) (hid hN) (hid ?_) (hid ?_) ?_
  · rw [hB]; split
    · rfl
    · split <;> rfl
  · rw [hK]; split
    · rfl
    · split <;> rfl
  · by_cases c1 : M.hi < N.lo
    · exact .inl ⟨by rw [if_pos c1], by rw [if_neg (by omega), if_pos (by omega)], by omega, c1, by omega⟩
    · by_cases c2 : N.hi ≤ M.lo
      · exact .inr (.inr ⟨by rw [if_neg c1, if_pos c2], by omega, by omega, c2⟩)
      · exact .inr (.inl ⟨by rw [if_neg c1, if_neg c2], by omega, by omega⟩)

theorem Try.own : ownKnob Try.prog.godebug = none := by kernel_rfl
theorem Try.laidOut : laidOutB Try.prog = true := by kernel_rfl

set_option maxRecDepth 100000 in
theorem clockBefore_lifted (os : Os) (started : os.Started) (H : Type) (enc : TypeId × Value → H) :
    ReturnsInHanded {} Try.checked os 11 .any (Rows.clockBeforeSpec.pre6 enc Try.prog Try.f11 Rows.clockBeforeRow.domain false) (Rows.clockBeforeSpec.post enc Try.prog Try.f11 false true false false) := by
  refine returnsInHanded_of_change (C := Try.checked) Try.own started (by kernel_rfl) Try.func11
    (ChangeSpec.witness6 (enc := enc) (C := Try.checked) false ⟨#[], #[.agg #[.int .i64 0, .slice none 0 0], .agg #[.int .i64 0, .slice none 0 0], .agg #[.int .i64 0, .int .i64 0], .slice none 0 0], []⟩ 8 (by kernel_rfl) (by kernel_rfl) (by kernel_rfl) (by kernel_rfl)) ?_
  intro W base args ds gs before hval0 hW hcnd _
  have hval : ∀ (j : Nat) t v, Try.f11.params[j]? = some t → args[j]? = some v → Value.okWide Try.prog W .any base t v := hval0
  have hW' := hW
  obtain ⟨p, q, hA0, hV, rfl, hfz, hnd⟩ := hW
  have hA : DataW.TrodAll enc Try.prog W 0 (fun _ => true) true Try.f11.params.toList args.toList ds p := hA0
  rw [Try.params11] at hA hval
  obtain ⟨v0, v1, v2, v3, d0, d1, d2, d3, p0, p1, p2, p3, rfl, rfl, rfl, h0, h1, h2, h3⟩ := trodAll_four hA
  obtain ⟨rfl, rfl⟩ := trodVars_none hV
  obtain ⟨set, A, cap, fs, rfl, hfs⟩ := open_clock (hval 0 24 v0 rfl rfl) h0
  obtain ⟨set2, A2, cap2, fs2, rfl, hfs2⟩ := open_clock (hval 1 24 v1 rfl rfl) h1
  obtain ⟨n0, n1, rfl⟩ := open_two (hval 2 35 v2 rfl rfl) h2
  obtain ⟨Bi, bcap, bits, rfl, hlen, hbs⟩ := open_bits (hval 3 47 v3 rfl rfl) h3
  clear hA0 hval0
  simp only [List.append_nil] at hW'
  have hlt : ∀ x ∈ p0 ++ (p1 ++ (p2 ++ p3)), x.block < W.heap.size := fun x hx => by simpa using hW'.lt x (by simpa using hx)
  refine (clockBefore_any set A cap fs set2 A2 cap2 fs2 Bi bcap bits n0 n1 W hfs hfs2 hbs (by unfold maxLen at hlen; omega)).mono fun e W' ⟨he, hw⟩ => ?_
  subst he
  have k0 := Below.trod Try.laidOut (by kernel_rfl) (of_decide_eq_true (by kernel_rfl)) h0 hw (fun x hx => hlt x (by simp [hx]))
  have k1 := Below.trod Try.laidOut (by kernel_rfl) (of_decide_eq_true (by kernel_rfl)) h1 hw (fun x hx => hlt x (by simp [hx]))
  have k2 := Below.trod Try.laidOut (by kernel_rfl) (of_decide_eq_true (by kernel_rfl)) h2 hw (fun x hx => hlt x (by simp [hx]))
  have k3 := Below.trod Try.laidOut (by kernel_rfl) (of_decide_eq_true (by kernel_rfl)) h3 hw (fun x hx => hlt x (by simp [hx]))
  have k012 := trodAll_mk4 k0 k1 k2 k3
  exact ⟨_, rfl, _, _, _, [], p0 ++ (p1 ++ (p2 ++ p3)), [], hW', trodAll_mk1 (shut_bool Try.underlying4 _), k012, rfl, hw.frame _, fun h => by cases h⟩

theorem clockBefore_holds : Rows.ClockBeforeSaid :=
  OpenClaim.holds_of_wide 11 Try.f11 rfl rfl rfl rfl rfl rfl rfl ⟨rfl, rfl, rfl, rfl, rfl⟩ rfl rfl rfl rfl rfl (by kernel_rfl) Try.func11 (by kernel_rfl)
    (of_decide_eq_true (by kernel_rfl)) (by unfold Func.isWrapper; first | (rw [if_pos (by decide +kernel)]; kernel_rfl) | (rw [if_neg (by decide +kernel)]; exact ⟨rfl, rfl⟩))
    (fun os started H enc _ => clockBefore_lifted os started H enc)
end Go.Proofs.Ytjkajcpanhlbkaa
