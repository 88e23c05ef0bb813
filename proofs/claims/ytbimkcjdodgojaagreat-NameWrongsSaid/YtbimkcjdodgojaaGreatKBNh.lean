/- Name: how far apart two names are. -/
import Derived.Test.YtbimkcjdodgojaaGreatKBNd
import Derived.Test.YtbimkcjdodgojaaGreatKBRw
import Derived.Lib.SliceRun
import Derived.Lib.SlBuf
import Derived.Lib.ConvBytes
namespace Go.Proofs.YtbimkcjdodgojaaGreat
set_option linter.unusedSimpArgs false
set_option linter.unusedVariables false
open Go.RowKit
attribute [local go_sem high] cell_set_wr
attribute [local go_sem low] cell_wr frozen_wr
attribute [local go_sem] wr_set wr_drew wr_drewN wr_alloc wr_new Rho.c Rho.n Rho.g
def standsB (g : ByteArray) (c : UInt8) : Bool := decide (0 ≤ Lib.indexByte g.data.toList c)
def alikeB (l : List ByteArray) (a b : UInt8) : Bool := (a == b) || l.any fun g => standsB g a && standsB g b
theorem toU8 (c : UInt8) : ((c.toNat : Int)).toNat.toUInt8 = c := by simp
theorem stands_any (g : ByteArray) (c : UInt8) (w : World) : Calls Tryz.prog 91 #[.string g, .int .u8 c.toNat] w fun e w' => e = .returned (.int .i64 (Lib.indexByte g.data.toList c)) ∧ w = w' := by
 have := indexByte_any g c.toNat w
 rw [toU8] at this
 exact this
set_option maxRecDepth 100000 in
theorem isMute_any (A : Option Addr) (n cap : Nat) (m : ByteArray) (sl : Int) (c : UInt8) (w : World) : Calls Tryz.prog 109 #[.agg #[.slice A n cap, .string m, .int .i64 sl], .int .u8 c.toNat] w fun e w' => e = .returned (.bool (standsB m c)) ∧ Below w.heap.size w w' := by
 refine enterE Tryz.func109 rfl Tryz.ntmps109 (by simp) (fun a hE => ?_); simp only [envOf, Nat.zero_add, Nat.reduceAdd] at hE
 refine Ks ?_
 refine Rs 2 fun Q' K hK => ?_
 refine M1 hE 0 fun K' J ρ q0 => ?_; go_simp
 refine Ln hE J fun _ Eb => ?_; clear J K' hE a q0
 refine M0 fun K' J ρ => ?_; go_simp;
 refine Ln Eb J fun _ Ea => ?_; clear J K' Eb
 refine Ld [1, 2] Ea hK fun a hE => ?_; clear hK K Q' Ea
 obtain ⟨B, hBe⟩ : ∃ B, B = w.heap.size := ⟨_, rfl⟩; rw [← hBe] at hE; refine world_cut (fun wt => Below w.heap.size w wt ∧ Cells wt B [.slice A n cap, .string m, .int .i64 sl]) ⟨(Below.refl _ _).alloc (Nat.le_refl _) _, by rw [hBe]; exact cells_new _ _ _⟩ (fun w1 hCut => ?_); obtain ⟨hbw1, hCB⟩ := hCut; clear hBe
 refine Ks ?_
 have nB := hCB.1; have cB1 := hCB.2 1 _ rfl
 refine Rs 7 fun Q' K hK => ?_
 refine M1 hE 2 fun K' J ρ q2 => ?_; go_simp
 refine Ln hE J fun _ Eb => ?_; clear J K' hE a q2
 refine M1 Eb 5 fun K' J ρ q5 => ?_; go_simp
 refine Ln Eb J fun _ Ea => ?_; clear J K' Eb q5
 refine M1 Ea 6 fun K' J ρ q6 => ?_; go_simp
 refine Ln Ea J fun _ Eb => ?_; clear J K' Ea q6
 refine M1 Eb 1 fun K' J ρ q1 => ?_; go_simp
 refine Ln Eb J fun _ Ea => ?_; clear J K' Eb q1
 refine M2 Ea 7 8 fun K' J ρ q7 q8 => ?_; go_simp; (try go_bits); (try clear q7 q8)
 go_at_call 91; refine (stands_any m c _).mono ?_; rintro e w2 ⟨rfl, rfl⟩
 (try clear r7 r8)
 refine Ln Ea J fun _ Eb => ?_; clear J K' Ea
 refine M1 Eb 9 fun K' J ρ q9 => ?_; go_simp; (try go_bits)
 refine Ln Eb J fun _ Ea => ?_; clear J K' Eb q9
 refine M1 Ea 10 fun K' J ρ q10 => ?_; go_simp
 refine Ln Ea J fun _ Eb => ?_; clear J K' Ea q10
 refine Ld [4] Eb hK fun a hE => ?_; clear hK K Q' Eb
 refine Ks ?_
 exact ret_one hE rfl rfl ⟨rfl, hbw1⟩
set_option maxRecDepth 100000 in
set_option maxHeartbeats 1000000 in
theorem alike_any (A : Option Addr) (cap : Nat) (l : List ByteArray) (m : ByteArray) (sl : Int) (ca cb : UInt8) (w : World) (hA : Arr w w.heap.size A (txts l)) (hl : l.length ≤ 9223372036854775807) : Calls Tryz.prog 98 #[.agg #[.slice A l.length cap, .string m, .int .i64 sl], .int .u8 ca.toNat, .int .u8 cb.toNat] w fun e w' => e = .returned (.bool (alikeB l ca cb)) ∧ Below w.heap.size w w' := by
 refine enterE Tryz.func98 rfl Tryz.ntmps98 (by simp) (fun a hE => ?_); simp only [envOf, Nat.zero_add, Nat.reduceAdd] at hE
 refine Ks ?_
 refine Rs 2 fun Q' K hK => ?_
 refine M1 hE 0 fun K' J ρ q0 => ?_; go_simp
 refine Ln hE J fun _ Eb => ?_; clear J K' hE a q0
 refine M0 fun K' J ρ => ?_; go_simp;
 refine Ln Eb J fun _ Ea => ?_; clear J K' Eb
 refine Ld [1, 2, 3] Ea hK fun a hE => ?_; clear hK K Q' Ea
 obtain ⟨B, hBe⟩ : ∃ B, B = w.heap.size := ⟨_, rfl⟩; rw [← hBe] at hE; refine world_cut (fun wt => Below w.heap.size w wt ∧ Cells wt B [.slice A l.length cap, .string m, .int .i64 sl]) ⟨(Below.refl _ _).alloc (Nat.le_refl _) _, by rw [hBe]; exact cells_new _ _ _⟩ (fun w1 hCut => ?_); obtain ⟨hbw1, hCB⟩ := hCut; clear hBe
 refine Ks ?_
 refine Rs 3 fun Q' K hK => ?_
 refine M1 hE 1 fun K' J ρ q1 => ?_; go_simp
 refine Ln hE J fun _ Eb => ?_; clear J K' hE a q1
 refine M1 Eb 2 fun K' J ρ q2 => ?_; go_simp
 refine Ln Eb J fun _ Ea => ?_; clear J K' Eb q2
 refine M2 Ea 9 10 fun K' J ρ q9 q10 => ?_; go_simp; (try go_bits)
 refine Ln Ea J fun _ Eb => ?_; clear J K' Ea q9 q10
 refine Ld [1, 2, 3, 11] Eb hK fun a hE => ?_; clear hK K Q' Eb
 replace hE := hE.turn 11 (v' := .bool (ca == cb)) rfl (by
  congr 1; rw [Bool.eq_iff_iff]; simp [← UInt8.toNat_inj]; constructor <;> intro h <;> omega)
 refine Ks ?_
 refine cond_part hE (t := 11) rfl (fun h => ?_) (fun h => ?_)
 ·refine Ks ?_
  refine Rs 1 fun Q' K hK => ?_
  refine M0 fun K' J ρ => ?_; go_simp;
  refine Ln hE J fun _ Eb => ?_; clear J K' hE a
  refine Ld [6] Eb hK fun a hE => ?_; clear hK K Q' Eb
  refine Ks ?_
  refine ret_one hE rfl rfl ⟨ret_bool ?_, hbw1⟩
  unfold alikeB
  rw [h]; rfl
 ·have HS : Hid (alikeB l ca cb = l.any fun g => standsB g ca && standsB g cb) := hid (by unfold alikeB; rw [h]; rfl)
  clear h
  refine Ks ?_
  obtain ⟨nB, cB0⟩ := hCB.c1
  refine Rs 5 fun Q' K hK => ?_
  refine M1 hE 3 fun K' J ρ q3 => ?_; go_simp
  refine Ln hE J fun _ Eb => ?_; clear J K' hE a q3
  refine M1 Eb 12 fun K' J ρ q12 => ?_; go_simp
  refine Ln Eb J fun _ Ea => ?_; clear J K' Eb q12
  refine M1 Ea 13 fun K' J ρ q13 => ?_; go_simp
  refine Ln Ea J fun _ Eb => ?_; clear J K' Ea q13
  refine M1 Eb 14 fun K' J ρ q14 => ?_; go_simp; (try go_bits)
  refine Ln Eb J fun _ Ea => ?_; clear J K' Eb q14
  refine M0 fun K' J ρ => ?_; go_simp;
  refine Ln Ea J fun _ Eb => ?_; clear J K' Ea
  refine Ld [1, 2, 14, 15, 16] Eb hK fun a hE => ?_; clear hK K Q' Eb
  refine Ks ?_
  have hA1 := (hA.below hbw1).more hbw1.size
  refine loop_st (fun (k : Nat) a w' => k ≤ l.length ∧ Fits 31 [(1, .int .u8 ca.toNat), (2, .int .u8 cb.toNat), (14, .slice A l.length cap), (15, .int .i64 l.length), (16, .int .i64 k)] a ∧ w1 = w' ∧ ∀ i (h : i < l.length), i < k → (standsB l[i] ca && standsB l[i] cb) = false) (fun k => l.length - k) 0 ?_ (fun k a w' hI => ?_)
  ·exact ⟨Nat.zero_le _, by simpa using hE, rfl, fun i _ hi => absurd hi (Nat.not_lt_zero i)⟩
  clear hE
  obtain ⟨hk, hE, rfl, hN⟩ := hI
  have HN := hid hN
  clear hN
  refine Ks ?_
  refine Rs 1 fun Q' K hK => ?_
  refine M2 hE 16 15 fun K' J ρ q16 q15 => ?_; go_simp; (try go_bits)
  refine Ln hE J fun _ Eb => ?_; clear J K' hE a q16 q15
  refine Ld [1, 2, 14, 15, 16, 17] Eb hK fun a hE => ?_; clear hK K Q' Eb
  refine Ks ?_
  refine cond_part hE (t := 17) rfl (fun h => ?_) (fun h => ?_)
  ·have hlt : k < l.length := of_decide_eq_true h
   clear h
   have hltI : (k : Int) < l.length := by omega
   obtain ⟨bg, o, rfl, hb, hc⟩ := hA1.txt hlt
   obtain ⟨g, hg⟩ : ∃ g, l[k] = g := ⟨_, rfl⟩
   have HGk := hid hg
   rw [hg] at hc
   clear hg
   refine Ks ?_
   refine Rs 3 fun Q' K hK => ?_
   refine M2 hE 14 16 fun K' J ρ q14 q16 => ?_; go_simp; (try go_bits)
   refine Ln hE J fun _ Eb => ?_; clear J K' hE a q14 q16
   refine M1 Eb 18 fun K' J ρ q18 => ?_; go_simp
   refine Ln Eb J fun _ Ea => ?_; clear J K' Eb q18
   refine M1 Ea 19 fun K' J ρ q19 => ?_; go_simp
   refine Ln Ea J fun _ Eb => ?_; clear J K' Ea q19
   refine Ld [1, 2, 8, 14, 15, 16] Eb hK fun a hE => ?_; clear hK K Q' Eb
   refine Ks ?_
   refine Rs 10 fun Q' K hK => ?_
   refine M1 hE 8 fun K' J ρ q8 => ?_; go_simp
   refine Ln hE J fun _ Eb => ?_; clear J K' hE a q8
   refine M1 Eb 1 fun K' J ρ q1 => ?_; go_simp
   refine Ln Eb J fun _ Ea => ?_; clear J K' Eb q1
   refine M2 Ea 20 21 fun K' J ρ q20 q21 => ?_; go_simp; (try go_bits); (try clear q20 q21)
   go_at_call 91; refine (stands_any g ca _).mono ?_; rintro e w2 ⟨rfl, rfl⟩
   (try clear r20 r21)
   refine Ln Ea J fun _ Eb => ?_; clear J K' Ea
   refine M1 Eb 22 fun K' J ρ q22 => ?_; go_simp; (try go_bits)
   refine Ln Eb J fun _ Ea => ?_; clear J K' Eb q22
   replace Ea := Ea.turn 23 (v' := .bool (standsB g ca)) rfl (by rfl)
   refine M1 Ea 23 fun K' J ρ q23 => ?_; go_simp
   refine Ln Ea J fun _ Eb => ?_; clear J K' Ea q23
   replace Eb := Eb.turn 24 (v' := .bool (standsB g ca)) rfl (by rfl)
   refine Lm Eb 25 24 ?_ (fun hx K' J => ?_) (fun _ Ea => ?_); rotate_left 1
   ·have hx0 := hx; (try simp only [beq_iff_eq, Bool.and_eq_true, Bool.beq_true, Bool.beq_false, Bool.not_eq_true', beq_eq_false_iff_ne] at hx); have r8 := Eb.at 8 rfl; clear hx0
    refine o1 r8 fun ρ q8 => ?_; go_simp;
    refine put_eq J ?_; rfl
   clear Eb
   refine Lm Ea 26 24 ?_ (fun hx K' J => ?_) (fun _ Eb => ?_); rotate_left 1
   ·have hx0 := hx; (try simp only [beq_iff_eq, Bool.and_eq_true, Bool.beq_true, Bool.beq_false, Bool.not_eq_true', beq_eq_false_iff_ne] at hx); have r2 := Ea.at 2 rfl; clear hx0
    refine o1 r2 fun ρ q2 => ?_; go_simp;
    refine put_eq J ?_; rfl
   clear Ea
   refine Lm Eb 27 24 ?_ (fun hx K' J => ?_) (fun _ Ea => ?_); rotate_left 1
   ·have hx0 := hx; (try simp only [beq_iff_eq, Bool.and_eq_true, Bool.beq_true, Bool.beq_false, Bool.not_eq_true', beq_eq_false_iff_ne] at hx); have r25 := Eb.at 25 rfl; have r26 := Eb.at 26 rfl; (try simp only [hx0, may_true] at r25); (try simp only [hx0, may_true] at r26); clear hx0
    refine o2 r25 r26 fun ρ q25 q26 => ?_; go_simp; (try go_bits);
    go_at_call 91; refine (stands_any g cb _).mono ?_; rintro e w2 ⟨rfl, rfl⟩; refine put_eq J ?_; rfl
   clear Eb
   refine Lm Ea 28 24 ?_ (fun hx K' J => ?_) (fun _ Eb => ?_); rotate_left 1
   ·have hx0 := hx; (try simp only [beq_iff_eq, Bool.and_eq_true, Bool.beq_true, Bool.beq_false, Bool.not_eq_true', beq_eq_false_iff_ne] at hx); have r27 := Ea.at 27 rfl; (try simp only [hx0, may_true] at r27); clear hx0
    refine o1 r27 fun ρ q27 => ?_; go_simp; (try go_bits);
    refine put_eq J ?_; rfl
   clear Ea
   refine M2 Eb 24 28 fun K' J ρ q24 q28 => ?_; go_simp; (try go_bits)
   refine Ln Eb J fun _ Ea => ?_; clear J K' Eb q24 q28
   replace Ea := Ea.turn 29 (v' := .bool (standsB g ca && standsB g cb)) rfl (by (show _ = Value.bool (standsB g ca && decide (0 ≤ Lib.indexByte g.data.toList cb)); cases standsB g ca <;> simp))
   refine Ld [1, 2, 14, 15, 16, 29] Ea hK fun a hE => ?_; clear hK K Q' Ea
   refine Ks ?_
   refine cond_part hE (t := 29) rfl (fun h => ?_) (fun h => ?_)
   ·refine Ks ?_
    refine Rs 1 fun Q' K hK => ?_
    refine M0 fun K' J ρ => ?_; go_simp;
    refine Ln hE J fun _ Eb => ?_; clear J K' hE a
    refine Ld [6] Eb hK fun a hE => ?_; clear hK K Q' Eb
    refine Ks ?_
    refine ret_one hE rfl rfl ⟨ret_bool ?_, hbw1⟩
    rw [HS.out, Eq.comm, List.any_eq_true]
    exact ⟨l[k], List.getElem_mem hlt, by rw [HGk.out]; exact h⟩
   ·refine Ks ?_
    refine Rs 2 fun Q' K hK => ?_
    refine M1 hE 16 fun K' J ρ q16 => ?_; go_simp; (try go_bits); (try simp (disch := omega) only [IntWalk.i64_in])
    refine Ln hE J fun _ Eb => ?_; clear J K' hE a q16
    refine M1 Eb 30 fun K' J ρ q30 => ?_; go_simp
    refine Ln Eb J fun _ Ea => ?_; clear J K' Eb q30
    refine Ld [1, 2, 14, 15, 16] Ea hK fun a hE => ?_; clear hK K Q' Ea
    refine Ks ?_
    refine ⟨k + 1, ⟨hlt, by simpa using hE, rfl, fun i hi hik => ?_⟩, by omega⟩
    rcases Nat.lt_or_ge i k with h1 | h1
    ·exact HN.out i hi h1
    ·obtain rfl : i = k := by omega
     rw [HGk.out]; exact h
  ·have hkk : k = l.length := by have := of_decide_eq_false h; omega
   clear h
   refine Ks ?_
   refine Rs 1 fun Q' K hK => ?_
   refine M0 fun K' J ρ => ?_; go_simp;
   refine Ln hE J fun _ Eb => ?_; clear J K' hE a
   refine Ld [6] Eb hK fun a hE => ?_; clear hK K Q' Eb
   refine Ks ?_
   refine ret_one hE rfl rfl ⟨ret_bool ?_, hbw1⟩
   rw [HS.out, Eq.comm, List.any_eq_false]
   intro g hg
   obtain ⟨i, hi, rfl⟩ := List.getElem_of_mem hg
   rw [HN.out i hi (by omega)]; simp
def bytes (l : List UInt8) : List Value := l.map fun c => .int .u8 c.toNat
theorem bytes_length (l : List UInt8) : (bytes l).length = l.length := by simp [bytes]
theorem bytes_at {l : List UInt8} {k : Nat} (h : k < l.length) : (bytes l)[k]? = some (.int .u8 l[k].toNat) := by simp [bytes, h]
def muteF (A : Option Addr) (n cap : Nat) (m : ByteArray) (sl : Int) : Value := .func (.func 109) #[.agg #[.slice A n cap, .string m, .int .i64 sl]] #[]
def idxB (m : ByteArray) (l : List UInt8) : Int := match l.findIdx? (standsB m) with
 | some i => i
 | none => -1
theorem idx_none {m : ByteArray} {l : List UInt8} (h : ∀ i (hi : i < l.length), standsB m l[i] = false) : idxB m l = -1 := by
 unfold idxB
 rw [List.findIdx?_eq_none_iff.2 fun x hx => by
  obtain ⟨i, hi, rfl⟩ := List.getElem_of_mem hx
  exact h i hi]
theorem idx_some {m : ByteArray} {l : List UInt8} {k : Nat} (hk : k < l.length) (h1 : standsB m l[k] = true) (h : ∀ i (hi : i < l.length), i < k → standsB m l[i] = false) : idxB m l = k := by
 unfold idxB
 rw [List.findIdx?_eq_some_iff_getElem.2 ⟨hk, h1, fun j hj => by simpa using h j (by omega) hj⟩]
set_option maxRecDepth 100000 in
theorem indexFunc_any (A : Option Addr) (n cap : Nat) (m : ByteArray) (sl : Int) (D : Option Addr) (dc : Nat) (l : List UInt8) (w : World) (hD : Arr w w.heap.size D (bytes l)) (hl : l.length ≤ 9223372036854775807) : Calls Tryz.prog 114 #[.slice D l.length dc, muteF A n cap m sl] w fun e w' => e = .returned (.int .i64 (idxB m l)) ∧ Below w.heap.size w w' := by
 refine enterE Tryz.func114 rfl Tryz.ntmps114 (by simp) (fun a hE => ?_); simp only [envOf, Nat.zero_add, Nat.reduceAdd] at hE
 refine Ks ?_
 refine Rs 1 fun Q' K hK => ?_
 refine M0 fun K' J ρ => ?_; go_simp;
 refine Ln hE J fun _ Eb => ?_; clear J K' hE a
 refine Ld [0, 1] Eb hK fun a hE => ?_; clear hK K Q' Eb
 refine Ks ?_
 refine Rs 3 fun Q' K hK => ?_
 refine M1 hE 0 fun K' J ρ q0 => ?_; go_simp
 refine Ln hE J fun _ Eb => ?_; clear J K' hE a q0
 refine M1 Eb 6 fun K' J ρ q6 => ?_; go_simp; (try go_bits)
 refine Ln Eb J fun _ Ea => ?_; clear J K' Eb q6
 refine M0 fun K' J ρ => ?_; go_simp;
 refine Ln Ea J fun _ Eb => ?_; clear J K' Ea
 refine Ld [0, 1, 7, 8] Eb hK fun a hE => ?_; clear hK K Q' Eb
 refine Ks ?_
 refine loop_st (fun (k : Nat) a w' => k ≤ l.length ∧ Fits 19 [(0, .slice D l.length dc), (1, muteF A n cap m sl), (7, .int .i64 l.length), (8, .int .i64 k)] a ∧ Below w.heap.size w w' ∧ ∀ i (h : i < l.length), i < k → standsB m l[i] = false) (fun k => l.length - k) 0 ?_ (fun k a w' hI => ?_)
 ·exact ⟨Nat.zero_le _, by simpa using hE, Below.refl _ _, fun i _ hi => absurd hi (Nat.not_lt_zero i)⟩
 clear hE
 obtain ⟨hk, hE, hB, hN⟩ := hI
 have HN := hid hN
 clear hN
 refine Ks ?_
 refine Rs 1 fun Q' K hK => ?_
 refine M2 hE 8 7 fun K' J ρ q8 q7 => ?_; go_simp; (try go_bits)
 refine Ln hE J fun _ Eb => ?_; clear J K' hE a q8 q7
 refine Ld [0, 1, 7, 8, 9] Eb hK fun a hE => ?_; clear hK K Q' Eb
 refine Ks ?_
 refine cond_part hE (t := 9) rfl (fun h => ?_) (fun h => ?_)
 ·have hlt : k < l.length := of_decide_eq_true h
  clear h
  have hltI : (k : Int) < l.length := by omega
  obtain ⟨bg, o, rfl, hb, hc⟩ := (hD.below hB) (fun e => by have := bytes_length l; rw [e] at this; simp at this; omega)
  have hck := hc k _ (bytes_at hlt)
  have hbw : bg < w'.heap.size := Nat.lt_of_lt_of_le hb hB.size
  clear hc
  refine Ks ?_
  refine Rs 2 fun Q' K hK => ?_
  refine M1 hE 8 fun K' J ρ q8 => ?_; go_simp
  refine Ln hE J fun _ Eb => ?_; clear J K' hE a q8
  refine M1 Eb 10 fun K' J ρ q10 => ?_; go_simp
  refine Ln Eb J fun _ Ea => ?_; clear J K' Eb q10
  refine Ld [0, 1, 5, 7, 8] Ea hK fun a hE => ?_; clear hK K Q' Ea
  refine Ks ?_
  simp only [muteF] at hE
  refine Rs 6 fun Q' K hK => ?_
  refine M1 hE 1 fun K' J ρ q1 => ?_; go_simp
  refine Ln hE J fun _ Eb => ?_; clear J K' hE a q1
  refine M1 Eb 0 fun K' J ρ q0 => ?_; go_simp
  refine Ln Eb J fun _ Ea => ?_; clear J K' Eb q0
  refine M1 Ea 5 fun K' J ρ q5 => ?_; go_simp
  refine Ln Ea J fun _ Eb => ?_; clear J K' Ea q5
  refine M2 Eb 12 13 fun K' J ρ q12 q13 => ?_; go_simp; (try go_bits)
  refine Ln Eb J fun _ Ea => ?_; clear J K' Eb q12 q13
  refine M1 Ea 14 fun K' J ρ q14 => ?_; go_simp
  refine Ln Ea J fun _ Eb => ?_; clear J K' Ea q14
  refine M2 Eb 11 15 fun K' J ρ q11 q15 => ?_; go_simp; (try go_bits); (try clear q11 q15)
  go_at_call 109; refine (isMute_any A n cap m sl l[k] _).mono ?_; rintro e w2 ⟨rfl, h2⟩
  (try clear r11 r15)
  refine Ln Eb J fun _ Ea => ?_; clear J K' Eb
  refine Ld [0, 1, 5, 7, 8, 16] Ea hK fun a hE => ?_; clear hK K Q' Ea
  have hB2 := hB.trans (h2.mono hB.size)
  refine Ks ?_
  refine cond_part hE (t := 16) rfl (fun h => ?_) (fun h => ?_)
  ·refine Ks ?_
   refine Rs 2 fun Q' K hK => ?_
   refine M1 hE 5 fun K' J ρ q5 => ?_; go_simp
   refine Ln hE J fun _ Eb => ?_; clear J K' hE a q5
   refine M1 Eb 17 fun K' J ρ q17 => ?_; go_simp
   refine Ln Eb J fun _ Ea => ?_; clear J K' Eb q17
   refine Ld [4] Ea hK fun a hE => ?_; clear hK K Q' Ea
   refine Ks ?_
   refine ret_one hE rfl rfl ⟨?_, hB2⟩
   rw [idx_some hlt h HN.out]
  ·refine Ks ?_
   refine Rs 2 fun Q' K hK => ?_
   refine M1 hE 8 fun K' J ρ q8 => ?_; go_simp; (try go_bits); (try simp (disch := omega) only [IntWalk.i64_in])
   refine Ln hE J fun _ Eb => ?_; clear J K' hE a q8
   refine M1 Eb 18 fun K' J ρ q18 => ?_; go_simp
   refine Ln Eb J fun _ Ea => ?_; clear J K' Eb q18
   refine Ld [0, 1, 7, 8] Ea hK fun a hE => ?_; clear hK K Q' Ea
   refine Ks ?_
   refine ⟨k + 1, ⟨hlt, by simpa [muteF] using hE, hB2, fun i hi hik => ?_⟩, by omega⟩
   rcases Nat.lt_or_ge i k with h1 | h1
   ·exact HN.out i hi h1
   ·obtain rfl : i = k := by omega
    exact h
 ·have hkk : k = l.length := by have := of_decide_eq_false h; omega
  clear h
  refine Ks ?_
  refine Rs 1 fun Q' K hK => ?_
  refine M0 fun K' J ρ => ?_; go_simp;
  refine Ln hE J fun _ Eb => ?_; clear J K' hE a
  refine Ld [4] Eb hK fun a hE => ?_; clear hK K Q' Eb
  refine Ks ?_
  refine ret_one hE rfl rfl ⟨?_, hB⟩
  rw [idx_none fun i hi => HN.out i hi (by omega)]
/-- what is left when the letters that are not heard are taken out -/
def keptL (m : ByteArray) (l : List UInt8) : List UInt8 := l.filter fun c => !standsB m c
theorem kept_snoc (m : ByteArray) (l : List UInt8) (k : Nat) (h : k < l.length) : keptL m (l.take (k + 1)) = keptL m (l.take k) ++ (if standsB m l[k] = true then [] else [l[k]]) := by
 unfold keptL
 rw [List.take_succ_eq_append_getElem h, List.filter_append]
 by_cases hs : standsB m l[k] = true
 ·rw [if_pos hs]; simp [hs]
 ·rw [if_neg hs]; simp [hs]
theorem kept_le (m : ByteArray) (l : List UInt8) (k : Nat) : (keptL m (l.take k)).length ≤ k := by
 have h1 := List.length_filter_le (fun c => !standsB m c) (l.take k)
 have h2 := List.length_take_le k l
 unfold keptL; omega
theorem kept_all {m : ByteArray} {l : List UInt8} (h : ∀ c ∈ l, standsB m c = false) : keptL m l = l := by
 unfold keptL
 rw [List.filter_eq_self]
 intro c hc
 rw [h c hc]; rfl
theorem idx_cases (m : ByteArray) (l : List UInt8) : (idxB m l = -1 ∧ keptL m l = l) ∨ ∃ k, k < l.length ∧ idxB m l = k ∧ keptL m (l.take (k + 1)) = l.take k := by
 unfold idxB
 cases hf : l.findIdx? (standsB m) with
 | none =>
  rw [List.findIdx?_eq_none_iff] at hf
  exact .inl ⟨rfl, kept_all fun c hc => by simpa using hf c hc⟩
 | some k =>
  obtain ⟨hk, h1, h2⟩ := List.findIdx?_eq_some_iff_getElem.1 hf
  refine .inr ⟨k, hk, rfl, ?_⟩
  rw [kept_snoc m l k hk, h1, if_pos rfl, List.append_nil]
  refine kept_all fun c hc => ?_
  obtain ⟨i, hi, rfl⟩ := List.getElem_of_mem hc
  have hi' : i < k := by simp at hi; omega
  rw [List.getElem_take]
  simpa using h2 i hi'
/-- the bytes as they stand while some are taken out: the kept ones in front, the rest not yet looked at -/
def Part (w : World) (G : Nat) (l : List UInt8) (f : List UInt8) (j : Nat) : Prop := G < w.heap.size ∧ ∃ cs : List Value, cs.length = l.length ∧ Row w G cs ∧ (∀ t, t < f.length → cs[t]? = (bytes f)[t]?) ∧ ∀ t, j ≤ t → cs[t]? = (bytes l)[t]?
theorem Part.below {w w' : World} {G : Nat} {l f : List UInt8} {j : Nat} (h : Part w G l f j) (hb : Below w.heap.size w w') : Part w' G l f j := by
 obtain ⟨h1, cs, h2, h3, h4, h5⟩ := h
 exact ⟨Nat.lt_of_lt_of_le h1 hb.size, cs, h2, h3.below hb h1, h4, h5⟩
theorem size_setCellsN (b : Nat) : ∀ (vs : List Value) (o : Nat) (w : World), (w.setCells b o vs).heap.size = w.heap.size
 | [], _, _ => rfl
 | v :: r, o, w => by unfold World.setCells; rw [size_setCellsN b r (o + 1)]; simp
theorem Part.store {w : World} {G : Nat} {l f : List UInt8} {j : Nat} (h : Part w G l f j) (hj : j < l.length) (hf : f.length ≤ j) : Part (w.setCell ⟨G, f.length, none⟩ (.int .u8 l[j].toNat)) G l (f ++ [l[j]]) (j + 1) := by
 obtain ⟨h1, cs, h2, h3, h4, h5⟩ := h
 refine ⟨by simpa using h1, cs.set f.length (.int .u8 l[j].toNat), by simpa using h2, h3.set (by omega), fun t ht => ?_, fun t ht => ?_⟩
 ·rw [List.getElem?_set]
  by_cases e : f.length = t
  ·subst e
   rw [if_pos rfl, if_pos (by omega)]
   simp [bytes]
  ·rw [if_neg e]
   have ht' : t < f.length := by simp at ht; omega
   rw [h4 t ht']
   simp [bytes, List.getElem?_append_left, ht']
 ·rw [List.getElem?_set, if_neg (by omega)]
  exact h5 t (by omega)
set_option maxRecDepth 100000 in
set_option maxHeartbeats 1000000 in
theorem deleteFunc_any (A : Option Addr) (n cap : Nat) (m : ByteArray) (sl : Int) (G dc N : Nat) (l : List UInt8) (w : World) (hG : N ≤ G ∧ G < w.heap.size) (hR : Row w G (bytes l)) (hl : l.length ≤ 9223372036854775807) (hdc : l.length ≤ dc) : Calls Tryz.prog 108 #[.slice (some ⟨G, 0, none⟩) l.length dc, muteF A n cap m sl] w fun e w' => (∃ D c, e = .returned (.slice D (keptL m l).length c) ∧ Arr w' w'.heap.size D (bytes (keptL m l))) ∧ Below N w w' := by
 refine enterE Tryz.func108 rfl Tryz.ntmps108 (by simp) (fun a hE => ?_); simp only [envOf, Nat.zero_add, Nat.reduceAdd] at hE
 refine Ks ?_
 refine Rs 1 fun Q' K hK => ?_
 refine M0 fun K' J ρ => ?_; go_simp;
 refine Ln hE J fun _ Eb => ?_; clear J K' hE a
 refine Ld [0, 1] Eb hK fun a hE => ?_; clear hK K Q' Eb
 refine Ks ?_
 have hAr : Arr w w.heap.size (some ⟨G, 0, none⟩) (bytes l) := hR.arr hG.2
 have hNw : N ≤ w.heap.size := by omega
 refine Rs 4 fun Q' K hK => ?_
 refine M1 hE 0 fun K' J ρ q0 => ?_; go_simp
 refine Ln hE J fun _ Eb => ?_; clear J K' hE a q0
 refine M1 Eb 1 fun K' J ρ q1 => ?_; go_simp
 refine Ln Eb J fun _ Ea => ?_; clear J K' Eb q1
 refine M2 Ea 8 9 fun K' J ρ q8 q9 => ?_; go_simp; (try go_bits); (try clear q8 q9)
 go_at_call 114; refine (indexFunc_any A n cap m sl _ dc l _ hAr hl).mono ?_; rintro e w1 ⟨rfl, h1⟩
 (try clear r8 r9)
 refine Ln Ea J fun _ Eb => ?_; clear J K' Ea
 refine M1 Eb 10 fun K' J ρ q10 => ?_; go_simp
 refine Ln Eb J fun _ Ea => ?_; clear J K' Eb q10
 refine Ld [0, 1, 5] Ea hK fun a hE => ?_; clear hK K Q' Ea
 refine Ks ?_
 rcases idx_cases m l with ⟨hi, hk⟩ | ⟨k, hk, hi, hk1⟩
 ·rw [hi] at hE
  refine Rs 2 fun Q' K hK => ?_
  refine M1 hE 5 fun K' J ρ q5 => ?_; go_simp
  refine Ln hE J fun _ Eb => ?_; clear J K' hE a q5
  refine M1 Eb 11 fun K' J ρ q11 => ?_; go_simp; (try go_bits)
  refine Ln Eb J fun _ Ea => ?_; clear J K' Eb q11
  refine Ld [0, 12] Ea hK fun a hE => ?_; clear hK K Q' Ea
  refine Ks ?_
  refine cond_yes hE (t := 12) rfl ?_
  refine Ks ?_
  refine Rs 2 fun Q' K hK => ?_
  refine M1 hE 0 fun K' J ρ q0 => ?_; go_simp
  refine Ln hE J fun _ Eb => ?_; clear J K' hE a q0
  refine M1 Eb 13 fun K' J ρ q13 => ?_; go_simp
  refine Ln Eb J fun _ Ea => ?_; clear J K' Eb q13
  refine Ld [4] Ea hK fun a hE => ?_; clear hK K Q' Ea
  refine Ks ?_
  rw [hk]
  exact ret_one hE rfl rfl ⟨⟨_, _, rfl, (hAr.below h1).more h1.size⟩, h1.mono (by omega)⟩
 ·rw [hi] at hE
  have HK := hid hk1
  clear hk1 hi
  refine Rs 2 fun Q' K hK => ?_
  refine M1 hE 5 fun K' J ρ q5 => ?_; go_simp
  refine Ln hE J fun _ Eb => ?_; clear J K' hE a q5
  refine M1 Eb 11 fun K' J ρ q11 => ?_; go_simp; (try go_bits)
  refine Ln Eb J fun _ Ea => ?_; clear J K' Eb q11
  refine Ld [0, 1, 5, 12] Ea hK fun a hE => ?_; clear hK K Q' Ea
  refine Ks ?_
  refine cond_no hE (t := 12) rfl ?_
  refine Ks ?_
  refine Rs 3 fun Q' K hK => ?_
  refine M1 hE 5 fun K' J ρ q5 => ?_; go_simp
  refine Ln hE J fun _ Eb => ?_; clear J K' hE a q5
  refine M1 Eb 14 fun K' J ρ q14 => ?_; go_simp; (try go_bits); (try simp (disch := omega) only [IntWalk.i64_in])
  refine Ln Eb J fun _ Ea => ?_; clear J K' Eb q14
  refine M1 Ea 15 fun K' J ρ q15 => ?_; go_simp
  refine Ln Ea J fun _ Eb => ?_; clear J K' Ea q15
  refine Ld [0, 1, 5, 6] Eb hK fun a hE => ?_; clear hK K Q' Eb
  refine Ks ?_
  refine loop_st (fun (j : Nat) a w' => k < j ∧ j ≤ l.length ∧ Fits 42 [(0, .slice (some ⟨G, 0, none⟩) l.length dc), (1, muteF A n cap m sl), (5, .int .i64 (keptL m (l.take j)).length), (6, .int .i64 j)] a ∧ Below N w w' ∧ Part w' G l (keptL m (l.take j)) j ∧ (keptL m (l.take j)).length < j) (fun j => l.length - j) (k + 1) ?_ (fun j a w' hI => ?_)
  ·have hlk : (l.take k).length = k := by simp; omega
   refine ⟨by omega, by omega, ?_, h1.mono (by omega), ⟨Nat.lt_of_lt_of_le hG.2 h1.size, bytes l, bytes_length l, hR.below h1 hG.2, fun t ht => ?_, fun t _ => rfl⟩, ?_⟩
   ·rw [HK.out, hlk]; simpa using hE
   ·rw [HK.out] at ht ⊢
    have ht' : t < k := by simp at ht; omega
    simp [bytes, List.getElem?_take_of_lt ht']
   ·rw [HK.out, hlk]; omega
  clear hE
  obtain ⟨hkj, hj, hE, hB, hP, hij⟩ := hI
  obtain ⟨f, hf⟩ : ∃ f, keptL m (l.take j) = f := ⟨_, rfl⟩
  rw [hf] at hE hP hij
  have HF := hid hf
  clear hf
  have nG : G < w'.heap.size := hP.1
  refine Ks ?_
  refine Rs 4 fun Q' K hK => ?_
  refine M1 hE 6 fun K' J ρ q6 => ?_; go_simp
  refine Ln hE J fun _ Eb => ?_; clear J K' hE a q6
  refine M1 Eb 0 fun K' J ρ q0 => ?_; go_simp
  refine Ln Eb J fun _ Ea => ?_; clear J K' Eb q0
  refine M1 Ea 17 fun K' J ρ q17 => ?_; go_simp; (try go_bits)
  refine Ln Ea J fun _ Eb => ?_; clear J K' Ea q17
  refine M2 Eb 16 18 fun K' J ρ q16 q18 => ?_; go_simp; (try go_bits)
  refine Ln Eb J fun _ Ea => ?_; clear J K' Eb q16 q18
  refine Ld [0, 1, 5, 6, 19] Ea hK fun a hE => ?_; clear hK K Q' Ea
  refine Ks ?_
  refine cond_part hE (t := 19) rfl (fun h => ?_) (fun h => ?_)
  ·have hlt : j < l.length := of_decide_eq_true h
   clear h
   have hltI : (j : Int) < l.length := by omega
   have cj : w'.cell? ⟨G, j, none⟩ = some (.int .u8 l[j].toNat) := by
    obtain ⟨_, cs, h2, h3, _, h5⟩ := hP
    exact (h3 j _ ((h5 j (Nat.le_refl _)).trans (bytes_at hlt))).1
   refine Ks ?_
   refine Rs 5 fun Q' K hK => ?_
   refine M1 hE 0 fun K' J ρ q0 => ?_; go_simp
   refine Ln hE J fun _ Eb => ?_; clear J K' hE a q0
   refine M1 Eb 6 fun K' J ρ q6 => ?_; go_simp
   refine Ln Eb J fun _ Ea => ?_; clear J K' Eb q6
   refine M2 Ea 22 23 fun K' J ρ q22 q23 => ?_; go_simp; (try go_bits)
   refine Ln Ea J fun _ Eb => ?_; clear J K' Ea q22 q23
   refine M1 Eb 24 fun K' J ρ q24 => ?_; go_simp
   refine Ln Eb J fun _ Ea => ?_; clear J K' Eb q24
   refine M1 Ea 25 fun K' J ρ q25 => ?_; go_simp
   refine Ln Ea J fun _ Eb => ?_; clear J K' Ea q25
   refine Ld [0, 1, 5, 6, 7] Eb hK fun a hE => ?_; clear hK K Q' Eb
   refine Ks ?_
   simp only [muteF] at hE
   refine Rs 4 fun Q' K hK => ?_
   refine M1 hE 1 fun K' J ρ q1 => ?_; go_simp
   refine Ln hE J fun _ Eb => ?_; clear J K' hE a q1
   refine M1 Eb 7 fun K' J ρ q7 => ?_; go_simp
   refine Ln Eb J fun _ Ea => ?_; clear J K' Eb q7
   refine M2 Ea 26 27 fun K' J ρ q26 q27 => ?_; go_simp; (try go_bits); (try clear q26 q27)
   go_at_call 109; refine (isMute_any A n cap m sl l[j] _).mono ?_; rintro e w2 ⟨rfl, h2⟩
   (try clear r26 r27)
   refine Ln Ea J fun _ Eb => ?_; clear J K' Ea
   refine M1 Eb 28 fun K' J ρ q28 => ?_; go_simp; (try go_bits); (try simp (disch := omega) only [IntWalk.i64_in])
   refine Ln Eb J fun _ Ea => ?_; clear J K' Eb q28
   refine Ld [0, 1, 5, 6, 7, 29] Ea hK fun a hE => ?_; clear hK K Q' Ea
   clear cj nG
   replace hP := hP.below h2
   have hB2 := hB.trans (h2.mono (Nat.le_trans hNw hB.size))
   have hsn := kept_snoc m l j hlt
   rw [HF.out] at hsn
   refine Ks ?_
   refine cond_part hE (t := 29) rfl (fun h => ?_) (fun h => ?_)
   ·have hs : standsB m l[j] = false := by simpa using h
    rw [hs, if_neg (by simp)] at hsn
    have HS := hid hsn
    clear hsn hs h
    have g0 : Wr w2 G f.length := by
     obtain ⟨_, cs, q2, q3, _, _⟩ := hP
     exact (q3 f.length cs[f.length] (List.getElem?_eq_getElem (by omega))).2
    have hfl : (f.length : Int) < l.length := by omega
    refine Ks ?_
    refine Rs 5 fun Q' K hK => ?_
    refine M1 hE 0 fun K' J ρ q0 => ?_; go_simp
    refine Ln hE J fun _ Eb => ?_; clear J K' hE a q0
    refine M1 Eb 5 fun K' J ρ q5 => ?_; go_simp
    refine Ln Eb J fun _ Ea => ?_; clear J K' Eb q5
    refine M1 Ea 7 fun K' J ρ q7 => ?_; go_simp
    refine Ln Ea J fun _ Eb => ?_; clear J K' Ea q7
    refine M2 Eb 30 31 fun K' J ρ q30 q31 => ?_; go_simp; (try go_bits)
    refine Ln Eb J fun _ Ea => ?_; clear J K' Eb q30 q31
    refine M2 Ea 33 32 fun K' J ρ q33 q32 => ?_; go_simp; (try clear q33 q32)
    refine late_skip Ea J (fun _ Eb => ?_); clear J K'; clear Ea
    refine Ld [0, 1, 5, 6] Eb hK fun a hE => ?_; clear hK K Q' Eb
    refine Ks ?_
    refine Rs 3 fun Q' K hK => ?_
    refine M1 hE 5 fun K' J ρ q5 => ?_; go_simp
    refine Ln hE J fun _ Eb => ?_; clear J K' hE a q5
    refine M1 Eb 34 fun K' J ρ q34 => ?_; go_simp; (try go_bits); (try simp (disch := omega) only [IntWalk.i64_in])
    refine Ln Eb J fun _ Ea => ?_; clear J K' Eb q34
    refine M1 Ea 35 fun K' J ρ q35 => ?_; go_simp
    refine Ln Ea J fun _ Eb => ?_; clear J K' Ea q35
    refine Ld [0, 1, 5, 6] Eb hK fun a hE => ?_; clear hK K Q' Eb
    refine Ks ?_
    refine Rs 3 fun Q' K hK => ?_
    refine M1 hE 6 fun K' J ρ q6 => ?_; go_simp
    refine Ln hE J fun _ Eb => ?_; clear J K' hE a q6
    refine M1 Eb 20 fun K' J ρ q20 => ?_; go_simp; (try go_bits); (try simp (disch := omega) only [IntWalk.i64_in])
    refine Ln Eb J fun _ Ea => ?_; clear J K' Eb q20
    refine M1 Ea 21 fun K' J ρ q21 => ?_; go_simp
    refine Ln Ea J fun _ Eb => ?_; clear J K' Ea q21
    refine Ld [0, 1, 5, 6] Eb hK fun a hE => ?_; clear hK K Q' Eb
    refine Ks ?_
    refine ⟨j + 1, ⟨by omega, hlt, ?_, hB2.setCell hG.1 _, ?_, ?_⟩, by omega⟩
    ·rw [HS.out]; simpa [muteF] using hE
    ·rw [HS.out]; exact hP.store hlt (by omega)
    ·rw [HS.out]; simp; omega
   ·have hs : standsB m l[j] = true := by simpa using h
    rw [hs, if_pos rfl, List.append_nil] at hsn
    have HS := hid hsn
    clear hsn hs h
    refine Ks ?_
    refine Rs 3 fun Q' K hK => ?_
    refine M1 hE 6 fun K' J ρ q6 => ?_; go_simp
    refine Ln hE J fun _ Eb => ?_; clear J K' hE a q6
    refine M1 Eb 20 fun K' J ρ q20 => ?_; go_simp; (try go_bits); (try simp (disch := omega) only [IntWalk.i64_in])
    refine Ln Eb J fun _ Ea => ?_; clear J K' Eb q20
    refine M1 Ea 21 fun K' J ρ q21 => ?_; go_simp
    refine Ln Ea J fun _ Eb => ?_; clear J K' Ea q21
    refine Ld [0, 1, 5, 6] Eb hK fun a hE => ?_; clear hK K Q' Eb
    refine Ks ?_
    refine ⟨j + 1, ⟨by omega, hlt, ?_, hB2, ?_, ?_⟩, by omega⟩
    ·rw [HS.out]; simpa [muteF] using hE
    ·rw [HS.out]
     obtain ⟨q1, cs, q2, q3, q4, q5⟩ := hP
     exact ⟨q1, cs, q2, q3, q4, fun t ht => q5 t (by omega)⟩
    ·rw [HS.out]; omega
  ·have hjl : j = l.length := by have := of_decide_eq_false h; omega
   clear h
   subst hjl
   rw [List.take_length] at HF
   have hRow : ∀ t, t < l.length → Wr w' G t := fun t ht => by
    obtain ⟨_, cs, q2, q3, _, _⟩ := hP
    exact (q3 t cs[t] (List.getElem?_eq_getElem (by omega))).2
   have hclr : ∀ c, (Builtin.clear_ #[135] 0 #[.slice (some ⟨G, f.length, none⟩) (l.length - f.length) c]).run Tryz.prog w' = .ok (.tuple #[]) (w'.setCells G f.length (List.replicate (l.length - f.length) (.int .u8 0))) := fun c =>
    Lib.run_clear_slice w' 135 5 0 (.int .u8 0) Tryz.underlying135 (fun w => by kernel_rfl) rfl rfl G f.length _ c (by omega) (fun j hj => (hRow _ (by omega)).1) (fun j hj => (hRow _ (by omega)).2)
   have hfl : (f.length : Int) < l.length := by omega
   have hfl2 : f.length ≤ l.length := by omega
   have hdf : ¬ dc = f.length := by omega
   refine Ks ?_
   refine Rs 4 fun Q' K hK => ?_
   refine M1 hE 0 fun K' J ρ q0 => ?_; go_simp
   refine Ln hE J fun _ Eb => ?_; clear J K' hE a q0
   refine M1 Eb 5 fun K' J ρ q5 => ?_; go_simp
   refine Ln Eb J fun _ Ea => ?_; clear J K' Eb q5
   refine M2 Ea 36 37 fun K' J ρ q36 q37 => ?_; go_simp; (try go_bits)
   refine Ln Ea J fun _ Eb => ?_; clear J K' Ea q36 q37
   refine M1 Eb 38 fun K' J ρ q38 => ?_; go_simp; (try go_bits); (try clear q38)
   refine late_skip Eb J (fun _ Ea => ?_); clear J K'; clear Eb
   refine Ld [0, 5] Ea hK fun a hE => ?_; clear hK K Q' Ea
   refine world_cut (fun wt => Below N w wt ∧ Arr wt wt.heap.size (some ⟨G, 0, none⟩) (bytes f)) ⟨Lib.below_setCells G hG.1 _ _ hB, fun _ => ⟨G, 0, rfl, ?_, fun t u hu => ?_⟩⟩ (fun w2 hC => ?_)
   ·rw [size_setCellsN]; exact nG
   ·have ht : t < f.length := by
     have := (List.getElem?_eq_some_iff.1 hu).1
     simpa [bytes] using this
    rw [Nat.zero_add, World.cell?_setCells_out _ _ _ _ _ (fun _ _ => .inl ht)]
    obtain ⟨_, cs, q2, q3, q4, _⟩ := hP
    exact (q3 t u ((q4 t ht).trans hu)).1
   obtain ⟨hB2, hA2⟩ := hC
   clear hclr hRow
   refine Ks ?_
   have hfd : f.length ≤ dc := by omega
   refine Rs 4 fun Q' K hK => ?_
   refine M1 hE 0 fun K' J ρ q0 => ?_; go_simp
   refine Ln hE J fun _ Eb => ?_; clear J K' hE a q0
   refine M1 Eb 5 fun K' J ρ q5 => ?_; go_simp
   refine Ln Eb J fun _ Ea => ?_; clear J K' Eb q5
   refine M2 Ea 39 40 fun K' J ρ q39 q40 => ?_; go_simp; (try go_bits)
   refine Ln Ea J fun _ Eb => ?_; clear J K' Ea q39 q40
   refine M1 Eb 41 fun K' J ρ q41 => ?_; go_simp
   refine Ln Eb J fun _ Ea => ?_; clear J K' Eb q41
   refine Ld [4] Ea hK fun a hE => ?_; clear hK K Q' Ea
   refine Ks ?_
   have HF' := HF.out
   rw [HF']
   exact ret_one hE rfl rfl ⟨⟨_, _, rfl, hA2⟩, hB2⟩
theorem conv_bytes (s : ByteArray) (w : World) : ∃ W C, (convert 9 135 (.string s)).run Tryz.prog w = .ok (.slice (some ⟨w.heap.size, 0, none⟩) s.size C) W ∧ Below w.heap.size w W ∧ w.heap.size < W.heap.size ∧ Row W w.heap.size (bytes s.data.toList) ∧ s.data.toList.length ≤ C := by
 refine ⟨_, _, Lib.run_convert_string_bytes w 9 135 5 s Tryz.underlying9 Tryz.underlying135 Tryz.underlying5, ?_, ?_, fun j u hu => ?_, ?_⟩
 ·refine ⟨?_, ?_, ?_, ?_, fun j hj => Lib.bytesWorld_at_old w _ s j hj⟩
  ·rfl
  ·rfl
  ·rfl
  ·rw [Lib.bytesWorld_size]; omega
 ·rw [Lib.bytesWorld_size]; omega
 ·have hj : j < s.size := by
   have := (List.getElem?_eq_some_iff.1 hu).1
   simpa [bytes] using this
  have hc := Lib.bytesWorld_cell w 5 s j hj
  have hu' : u = .int .u8 (s.data.toList.getD j 0).toNat := by
   rw [bytes_at (by simpa using hj)] at hu
   cases hu
   rw [List.getD_eq_getElem?_getD, List.getElem?_eq_getElem (by simpa using hj)]; rfl
  subst hu'
  refine ⟨hc, Wr.of hc ?_⟩
  have hsz : (Lib.bytesCells w 5 s).size ≥ s.size := by
   unfold Lib.bytesCells
   simp
  simp only [World.frozen?, Lib.bytesWorld_at_new]
  have h1 : ¬ (Lib.bytesCells w 5 s).size ≤ j := by omega
  simp [h1]
 ·have := grownCap_ge w s.size 0 5
  simpa using this
set_option maxRecDepth 100000 in
theorem heard_any (A : Option Addr) (n cap : Nat) (m : ByteArray) (sl : Int) (s : ByteArray) (w : World) (hs : s.size ≤ 9223372036854775807) : Calls Tryz.prog 97 #[.agg #[.slice A n cap, .string m, .int .i64 sl], .string s] w fun e w' => (∃ D c, e = .returned (.slice D (keptL m s.data.toList).length c) ∧ Arr w' w'.heap.size D (bytes (keptL m s.data.toList))) ∧ Below w.heap.size w w' := by
 refine enterE Tryz.func97 rfl Tryz.ntmps97 (by simp) (fun a hE => ?_); simp only [envOf, Nat.zero_add, Nat.reduceAdd] at hE
 refine Ks ?_
 refine Rs 2 fun Q' K hK => ?_
 refine M1 hE 0 fun K' J ρ q0 => ?_; go_simp
 refine Ln hE J fun _ Eb => ?_; clear J K' hE a q0
 refine M0 fun K' J ρ => ?_; go_simp;
 refine Ln Eb J fun _ Ea => ?_; clear J K' Eb
 refine Ld [1, 2] Ea hK fun a hE => ?_; clear hK K Q' Ea
 obtain ⟨B, hBe⟩ : ∃ B, B = w.heap.size := ⟨_, rfl⟩; rw [← hBe] at hE; refine world_cut (fun wt => Below w.heap.size w wt ∧ Cells wt B [.slice A n cap, .string m, .int .i64 sl]) ⟨(Below.refl _ _).alloc (Nat.le_refl _) _, by rw [hBe]; exact cells_new _ _ _⟩ (fun w1 hCut => ?_); obtain ⟨hbw1, hCB⟩ := hCut; clear hBe
 obtain ⟨W, C, hconv, hW, hz, hR, hC⟩ := conv_bytes s w1
 have hlen : s.data.toList.length = s.size := by simp
 have hD := deleteFunc_any A n cap m sl w1.heap.size C w1.heap.size s.data.toList W ⟨Nat.le_refl _, hz⟩ hR (by rw [hlen]; exact hs) hC
 rw [hlen] at hD
 have HD := hid hD
 have HL := hid hlen
 clear hD hlen hR hC
 have hCW := hCB.below hW
 have nW := hCW.1
 have d0 := hCW.2 0 _ rfl
 have d1 := hCW.2 1 _ rfl
 have d2 := hCW.2 2 _ rfl
 clear hCW
 refine Ks ?_
 refine Rs 6 fun Q' K hK => ?_
 refine M1 hE 1 fun K' J ρ q1 => ?_; go_simp
 refine Ln hE J fun _ Eb => ?_; clear J K' hE a q1
 refine M1 Eb 5 fun K' J ρ q5 => ?_; go_simp; (try go_bits); (try simp (disch := omega) only [IntWalk.i64_in])
 refine Ln Eb J fun _ Ea => ?_; clear J K' Eb q5
 refine M1 Ea 2 fun K' J ρ q2 => ?_; go_simp
 refine Ln Ea J fun _ Eb => ?_; clear J K' Ea q2
 refine M1 Eb 7 fun K' J ρ q7 => ?_; go_simp
 refine Ln Eb J fun _ Ea => ?_; clear J K' Eb q7
 refine M2 Ea 6 8 fun K' J ρ q6 q8 => ?_; go_simp; (try go_bits); (try clear q6 q8)
 go_at_call 108; refine (HD.out).mono ?_; rintro e w2 ⟨⟨D, c, rfl, hA2⟩, h2⟩
 (try clear r6 r8)
 refine Ln Ea J fun _ Eb => ?_; clear J K' Ea
 refine M1 Eb 9 fun K' J ρ q9 => ?_; go_simp
 refine Ln Eb J fun _ Ea => ?_; clear J K' Eb q9
 refine Ld [4] Ea hK fun a hE => ?_; clear hK K Q' Ea
 refine Ks ?_
 exact ret_one hE rfl rfl ⟨⟨_, _, rfl, hA2⟩, hbw1.trans ((hW.trans h2).mono hbw1.size)⟩
/-- at how many of the first places two names differ -/
def diffN (x y : List UInt8) : Nat → Nat
 | 0 => 0
 | k + 1 => diffN x y k + (if x.getD k 0 == y.getD k 0 then 0 else 1)
theorem diffN_le (x y : List UInt8) : ∀ k, diffN x y k ≤ k
 | 0 => Nat.le_refl _
 | k + 1 => by have := diffN_le x y k; unfold diffN; split <;> omega
def allB (al : List ByteArray) (x y : List UInt8) : Bool := (List.range x.length).all fun i => alikeB al (x.getD i 0) (y.getD i 0)
def apR (al : List ByteArray) (sl : Int) (x y : List UInt8) : Int × Bool :=
 if x.length = y.length ∧ allB al x y = true ∧ (diffN x y x.length : Int) ≤ sl then ((diffN x y x.length : Int), true) else (0, false)
theorem getD_at {l : List UInt8} {k : Nat} (h : k < l.length) : l.getD k 0 = l[k] := by
 rw [List.getD_eq_getElem?_getD, List.getElem?_eq_getElem h]; rfl
theorem Arr.byte {w : World} {B : Nat} {A : Option Addr} {l : List UInt8} (h : Arr w B A (bytes l)) {k : Nat} (hk : k < l.length) :
    ∃ b o, A = some ⟨b, o, none⟩ ∧ b < B ∧ w.cell? ⟨b, o + k, none⟩ = some (.int .u8 (l.getD k 0).toNat) := by
 obtain ⟨b, o, hA, hlt, hc⟩ := h (fun e => by have := bytes_length l; rw [e] at this; simp at this; omega)
 exact ⟨b, o, hA, hlt, by rw [getD_at hk]; exact hc k _ (bytes_at hk)⟩
set_option maxRecDepth 100000 in
set_option maxHeartbeats 2000000 in
theorem apart_any (A : Option Addr) (cap : Nat) (l : List ByteArray) (m : ByteArray) (sl : Int) (s t : ByteArray) (w : World) (hA : Arr w w.heap.size A (txts l)) (hl : l.length ≤ 9223372036854775807) (hs : s.size ≤ 9223372036854775807) (ht : t.size ≤ 9223372036854775807) : Calls Tryz.prog 78 #[.agg #[.slice A l.length cap, .string m, .int .i64 sl], .string s, .string t] w fun e w' => e = .returned (.tuple #[.int .i64 (apR l sl (keptL m s.data.toList) (keptL m t.data.toList)).1, .bool (apR l sl (keptL m s.data.toList) (keptL m t.data.toList)).2]) ∧ Below w.heap.size w w' := by
 obtain ⟨x, hx⟩ : ∃ x, keptL m s.data.toList = x := ⟨_, rfl⟩
 obtain ⟨y, hy⟩ : ∃ y, keptL m t.data.toList = y := ⟨_, rfl⟩
 have hxl : x.length ≤ 9223372036854775807 := by
  rw [← hx]; have := List.length_filter_le (fun c => !standsB m c) s.data.toList; have h2 : s.data.toList.length = s.size := by simp
  unfold keptL; omega
 have hyl : y.length ≤ 9223372036854775807 := by
  rw [← hy]; have := List.length_filter_le (fun c => !standsB m c) t.data.toList; have h2 : t.data.toList.length = t.size := by simp
  unfold keptL; omega
 rw [hx, hy]
 have HX := hid hx
 have HY := hid hy
 clear hx hy
 refine enterE Tryz.func78 rfl Tryz.ntmps78 (by simp) (fun a hE => ?_); simp only [envOf, Nat.zero_add, Nat.reduceAdd] at hE
 refine Ks ?_
 refine Rs 3 fun Q' K hK => ?_
 refine M1 hE 0 fun K' J ρ q0 => ?_; go_simp
 refine Ln hE J fun _ Eb => ?_; clear J K' hE a q0
 refine M0 fun K' J ρ => ?_; go_simp;
 refine Ln Eb J fun _ Ea => ?_; clear J K' Eb
 refine M0 fun K' J ρ => ?_; go_simp;
 refine Ln Ea J fun _ Eb => ?_; clear J K' Ea
 refine Ld [1, 2, 3] Eb hK fun a hE => ?_; clear hK K Q' Eb
 obtain ⟨B, hBe⟩ : ∃ B, B = w.heap.size := ⟨_, rfl⟩; rw [← hBe] at hE; refine world_cut (fun wt => Below w.heap.size w wt ∧ Cells wt B [.slice A l.length cap, .string m, .int .i64 sl]) ⟨(Below.refl _ _).alloc (Nat.le_refl _) _, by rw [hBe]; exact cells_new _ _ _⟩ (fun w1 hCut => ?_); obtain ⟨hbw1, hCB⟩ := hCut; clear hBe
 refine Ks ?_
 obtain ⟨nB, cB0, cB1, cB2⟩ := hCB.c3
 refine Rd [] (fun wt => Below w1.heap.size w1 wt) (fun w1 w2 => Below w1.heap.size w1 w2) [(0, some 12), (1, some 13), (2, some 14), (3, some 15), (4, some 16), (5, some 17), (6, some 8), (7, some 9)] [12, 13, 14, 15, 16, 17, 8, 9] #[true, true, true, true, true, true, true, true] [3] hE ((Below.refl _ _).drew) fun Q' K hK => ?_
 refine SeqOps.val ?_ (Sp fun ax wx hS hT' hd K' J => ?_) ?_; rotate_left 1
 ·have r3 := hS.at 3 (by decide) (hE.at 3 rfl); obtain ⟨_, _, _, _, _, _⟩ := bT hT'
  refine o1 r3 fun ρ q3 => ?_; go_simp;
  exact Jo J hT'
 refine SeqOps.val ?_ (Sp fun ax wx hS hT' hd K' J => ?_) ?_; rotate_left 1
 ·have r1 := hS.at 1 (by decide) (hE.at 1 rfl); obtain ⟨_, _, _, _, _, _⟩ := bT hT'
  refine o1 r1 fun ρ q1 => ?_; go_simp;
  exact Jo J hT'
 refine SeqOps.say (fun v wt => ∃ D c, v = .slice D x.length c ∧ Arr wt wt.heap.size D (bytes x)) (fun _ _ _ hR ⟨D, c, e, h⟩ => ⟨D, c, e, (h.below hR).more hR.size⟩) (Sp fun ax wx hS hT' hd K' J => ?_) ?_
 ·have r12 := Tv hd 1 0 12; have r13 := Tv hd 0 1 13; obtain ⟨_, _, _, _, _, _⟩ := bT hT'
  refine o2 r12 r13 fun ρ q12 q13 => ?_; go_simp; (try go_bits);
  go_at_call 97; refine (heard_any A _ cap m sl s _ hs).mono ?_; rw [HX.out]; rintro e u1 ⟨⟨D, c, rfl, hD⟩, g1⟩
  exact J.out _ _ _ rfl ⟨D, c, rfl, hD⟩ (hT'.trans (g1.mono hT'.size)) g1
 refine SeqOps.val ?_ (Sp fun ax wx hS hT' hd K' J => ?_) ?_; rotate_left 1
 ·have r3 := hS.at 3 (by decide) (hE.at 3 rfl); obtain ⟨_, _, _, _, _, _⟩ := bT hT'
  refine o1 r3 fun ρ q3 => ?_; go_simp;
  exact Jo J hT'
 refine SeqOps.val ?_ (Sp fun ax wx hS hT' hd K' J => ?_) ?_; rotate_left 1
 ·have r2 := hS.at 2 (by decide) (hE.at 2 rfl); obtain ⟨_, _, _, _, _, _⟩ := bT hT'
  refine o1 r2 fun ρ q2 => ?_; go_simp;
  exact Jo J hT'
 refine SeqOps.say (fun v wt => ∃ D c, v = .slice D y.length c ∧ Arr wt wt.heap.size D (bytes y)) (fun _ _ _ hR ⟨D, c, e, h⟩ => ⟨D, c, e, (h.below hR).more hR.size⟩) (Sp fun ax wx hS hT' hd K' J => ?_) ?_
 ·have r15 := Tv hd 1 3 15; have r16 := Tv hd 0 4 16; obtain ⟨_, _, _, _, _, _⟩ := bT hT'
  refine o2 r15 r16 fun ρ q15 q16 => ?_; go_simp; (try go_bits);
  go_at_call 97; refine (heard_any A _ cap m sl t _ ht).mono ?_; rw [HY.out]; rintro e u1 ⟨⟨D, c, rfl, hD⟩, g1⟩
  exact J.out _ _ _ rfl ⟨D, c, rfl, hD⟩ (hT'.trans (g1.mono hT'.size)) g1
 refine SeqOps.say (fun v wt => ∃ D c, v = .slice D x.length c ∧ Arr wt wt.heap.size D (bytes x)) (fun _ _ _ hR ⟨D, c, e, h⟩ => ⟨D, c, e, (h.below hR).more hR.size⟩) (Sp fun ax wx hS hT' hd K' J => ?_) ?_
 ·obtain ⟨v14, r14, h14⟩ := Tg hd 3 2 14; obtain ⟨D, c, rfl, hD⟩ := h14; obtain ⟨_, _, _, _, _, _⟩ := bT hT'
  refine o1 r14 fun ρ q14 => ?_; go_simp;
  exact J.out _ _ _ rfl ⟨D, c, rfl, hD⟩ hT' (Below.refl _ _)
 refine SeqOps.say (fun v wt => ∃ D c, v = .slice D y.length c ∧ Arr wt wt.heap.size D (bytes y)) (fun _ _ _ hR ⟨D, c, e, h⟩ => ⟨D, c, e, (h.below hR).more hR.size⟩) (Sp fun ax wx hS hT' hd K' J => ?_) ?_
 ·obtain ⟨v17, r17, h17⟩ := Tg hd 1 5 17; obtain ⟨D2, c2, rfl, hD2⟩ := h17; obtain ⟨_, _, _, _, _, _⟩ := bT hT'
  refine o1 r17 fun ρ q17 => ?_; go_simp;
  exact J.out _ _ _ rfl ⟨D2, c2, rfl, hD2⟩ hT' (Below.refl _ _)
 refine SeqOps.nil ?_
 intro w2 hBl; (repeat refine Ek ?_); (refine fun v h => ?_; obtain ⟨D, c, rfl, hD⟩ := h); (repeat refine Ek ?_); (refine fun v h => ?_; obtain ⟨D2, c2, rfl, hD2⟩ := h); (refine fun v h => ?_; obtain ⟨X, xc, rfl, hX⟩ := h); (refine fun v h => ?_; obtain ⟨Y, yc, rfl, hY⟩ := h);
 refine fun ax hEx => ?_
 simp only [lk, pick, Nat.reduceEqDiff, ↓reduceIte] at hEx
 refine Ld [3, 8, 9] hEx hK fun a hE => ?_; clear hK K Q' hEx
 clear hD hD2 nB cB0 cB1 cB2 HX HY
 have hb2 := hbw1.trans (hBl.mono hbw1.size)
 replace hCB := hCB.below hBl
 have hA2 := (hA.below hb2).more hb2.size
 clear hBl hbw1 hA
 refine Ks ?_
 refine Rs 5 fun Q' K hK => ?_
 refine M1 hE 8 fun K' J ρ q8 => ?_; go_simp
 refine Ln hE J fun _ Eb => ?_; clear J K' hE a q8
 refine M1 Eb 18 fun K' J ρ q18 => ?_; go_simp; (try go_bits)
 refine Ln Eb J fun _ Ea => ?_; clear J K' Eb q18
 refine M1 Ea 9 fun K' J ρ q9 => ?_; go_simp
 refine Ln Ea J fun _ Eb => ?_; clear J K' Ea q9
 refine M1 Eb 20 fun K' J ρ q20 => ?_; go_simp; (try go_bits)
 refine Ln Eb J fun _ Ea => ?_; clear J K' Eb q20
 refine M2 Ea 19 21 fun K' J ρ q19 q21 => ?_; go_simp; (try go_bits)
 refine Ln Ea J fun _ Eb => ?_; clear J K' Ea q19 q21
 refine Ld [3, 8, 9, 22] Eb hK fun a hE => ?_; clear hK K Q' Eb
 refine Ks ?_
 refine cond_part hE (t := 22) rfl (fun h => ?_) (fun h => ?_)
 ·refine Ks ?_
  refine Rs 2 fun Q' K hK => ?_
  refine M0 fun K' J ρ => ?_; go_simp;
  refine Ln hE J fun _ Eb => ?_; clear J K' hE a
  refine M0 fun K' J ρ => ?_; go_simp;
  refine Ln Eb J fun _ Ea => ?_; clear J K' Eb
  refine Ld [6, 7] Ea hK fun a hE => ?_; clear hK K Q' Ea
  refine Ks ?_
  have h' : ¬ (x.length : Int) = y.length := by simpa using h
  have hne : ¬ x.length = y.length := by omega
  have e : apR l sl x y = (0, false) := by unfold apR; rw [if_neg (fun q => hne q.1)]
  refine ret_two hE rfl rfl rfl ⟨?_, hb2⟩
  rw [e]
 ·have h' : (x.length : Int) = y.length := by simpa using h
  have hlen : x.length = y.length := by omega
  clear h'
  clear h
  have HL := hid hlen
  have hlt0 : ∀ k, k < x.length → k < y.length := fun k hk => by omega
  clear hlen
  refine Ks ?_
  refine Rs 1 fun Q' K hK => ?_
  refine M0 fun K' J ρ => ?_; go_simp;
  refine Ln hE J fun _ Eb => ?_; clear J K' hE a
  refine Ld [3, 8, 9, 10] Eb hK fun a hE => ?_; clear hK K Q' Eb
  refine Ks ?_
  refine Rs 3 fun Q' K hK => ?_
  refine M1 hE 8 fun K' J ρ q8 => ?_; go_simp
  refine Ln hE J fun _ Eb => ?_; clear J K' hE a q8
  refine M1 Eb 23 fun K' J ρ q23 => ?_; go_simp; (try go_bits)
  refine Ln Eb J fun _ Ea => ?_; clear J K' Eb q23
  refine M0 fun K' J ρ => ?_; go_simp;
  refine Ln Ea J fun _ Eb => ?_; clear J K' Ea
  refine Ld [3, 8, 9, 10, 24, 25] Eb hK fun a hE => ?_; clear hK K Q' Eb
  refine Ks ?_
  refine loop_st (fun (k : Nat) a w' => k ≤ x.length ∧ Fits 57 [(3, .pointer (some ⟨B, 0, none⟩)), (8, .slice X x.length xc), (9, .slice Y y.length yc), (10, .int .i64 (diffN x y k)), (24, .int .i64 x.length), (25, .int .i64 k)] a ∧ Below w2.heap.size w2 w' ∧ ∀ i, i < k → alikeB l (x.getD i 0) (y.getD i 0) = true) (fun k => x.length - k) 0 ?_ (fun k a w' hI => ?_)
  ·exact ⟨Nat.zero_le _, by simpa [diffN] using hE, Below.refl _ _, fun i hi => absurd hi (Nat.not_lt_zero i)⟩
  clear hE
  obtain ⟨hk, hE, hBr, hN⟩ := hI
  have HN := hid hN
  clear hN
  refine Ks ?_
  refine Rs 1 fun Q' K hK => ?_
  refine M2 hE 25 24 fun K' J ρ q25 q24 => ?_; go_simp; (try go_bits)
  refine Ln hE J fun _ Eb => ?_; clear J K' hE a q25 q24
  refine Ld [3, 8, 9, 10, 24, 25, 26] Eb hK fun a hE => ?_; clear hK K Q' Eb
  refine Ks ?_
  refine cond_part hE (t := 26) rfl (fun h => ?_) (fun h => ?_)
  ·have hlt : k < x.length := of_decide_eq_true h
   clear h
   have hltI : (k : Int) < x.length := by omega
   have hltY : (k : Int) < y.length := by have := hlt0 k hlt; omega
   obtain ⟨bx, ox, rfl, hbx, hcx⟩ := (hX.below hBr).byte hlt
   obtain ⟨by_, oy, rfl, hby, hcy⟩ := (hY.below hBr).byte (hlt0 k hlt)
   have nx : bx < w'.heap.size := Nat.lt_of_lt_of_le hbx hBr.size
   have ny : by_ < w'.heap.size := Nat.lt_of_lt_of_le hby hBr.size
   have hCr := hCB.below hBr
   have nr := hCr.1
   have d0 := hCr.2 0 _ rfl
   have d1 := hCr.2 1 _ rfl
   have d2 := hCr.2 2 _ rfl
   clear hCr
   obtain ⟨ca, hca⟩ : ∃ ca, x.getD k 0 = ca := ⟨_, rfl⟩
   obtain ⟨cb, hcb⟩ : ∃ cb, y.getD k 0 = cb := ⟨_, rfl⟩
   rw [hca] at hcx
   rw [hcb] at hcy
   have HA := hid hca
   have HB := hid hcb
   clear hca hcb
   have hAr := (hA2.below hBr).more hBr.size
   refine Ks ?_
   refine Rs 2 fun Q' K hK => ?_
   refine M1 hE 25 fun K' J ρ q25 => ?_; go_simp
   refine Ln hE J fun _ Eb => ?_; clear J K' hE a q25
   refine M1 Eb 27 fun K' J ρ q27 => ?_; go_simp
   refine Ln Eb J fun _ Ea => ?_; clear J K' Eb q27
   refine Ld [3, 8, 9, 10, 11, 24, 25] Ea hK fun a hE => ?_; clear hK K Q' Ea
   refine Ks ?_
   refine Rd [] (fun wt => Below w'.heap.size w' wt) (fun w1 w2 => Below w1.heap.size w1 w2) [(0, some 28), (1, some 29), (2, some 30), (3, some 31), (4, some 32), (5, some 33), (6, some 34), (7, some 35), (8, some 36), (9, some 37), (10, some 38)] [28, 29, 30, 31, 32, 33, 34, 35, 36, 37, 38] #[true, true, true, true, true, true, true, true, true, true, true] [3, 8, 9, 10, 11, 24, 25] hE ((Below.refl _ _).drew) fun Q' K hK => ?_
   refine SeqOps.val ?_ (Sp fun ax wx hS hT' hd K' J => ?_) ?_; rotate_left 1
   ·have r3 := hS.at 3 (by decide) (hE.at 3 rfl); obtain ⟨_, _, _, _, _, _⟩ := bT hT'
    refine o1 r3 fun ρ q3 => ?_; go_simp;
    exact Jo J hT'
   refine SeqOps.val ?_ (Sp fun ax wx hS hT' hd K' J => ?_) ?_; rotate_left 1
   ·have r8 := hS.at 8 (by decide) (hE.at 8 rfl); obtain ⟨_, _, _, _, _, _⟩ := bT hT'
    refine o1 r8 fun ρ q8 => ?_; go_simp;
    exact Jo J hT'
   refine SeqOps.val ?_ (Sp fun ax wx hS hT' hd K' J => ?_) ?_; rotate_left 1
   ·have r11 := hS.at 11 (by decide) (hE.at 11 rfl); obtain ⟨_, _, _, _, _, _⟩ := bT hT'
    refine o1 r11 fun ρ q11 => ?_; go_simp;
    exact Jo J hT'
   refine SeqOps.val ?_ (Sp fun ax wx hS hT' hd K' J => ?_) ?_; rotate_left 1
   ·have r29 := Tv hd 1 1 29; have r30 := Tv hd 0 2 30; obtain ⟨_, _, _, _, _, _⟩ := bT hT'
    refine o2 r29 r30 fun ρ q29 q30 => ?_; go_simp; (try go_bits);
    exact Jo J hT'
   refine SeqOps.val ?_ (Sp fun ax wx hS hT' hd K' J => ?_) ?_; rotate_left 1
   ·have r31 := Tv hd 0 3 31; obtain ⟨_, _, _, _, _, _⟩ := bT hT'
    refine o1 r31 fun ρ q31 => ?_; go_simp;
    exact Jo J hT'
   refine SeqOps.val ?_ (Sp fun ax wx hS hT' hd K' J => ?_) ?_; rotate_left 1
   ·have r9 := hS.at 9 (by decide) (hE.at 9 rfl); obtain ⟨_, _, _, _, _, _⟩ := bT hT'
    refine o1 r9 fun ρ q9 => ?_; go_simp;
    exact Jo J hT'
   refine SeqOps.val ?_ (Sp fun ax wx hS hT' hd K' J => ?_) ?_; rotate_left 1
   ·have r11 := hS.at 11 (by decide) (hE.at 11 rfl); obtain ⟨_, _, _, _, _, _⟩ := bT hT'
    refine o1 r11 fun ρ q11 => ?_; go_simp;
    exact Jo J hT'
   refine SeqOps.val ?_ (Sp fun ax wx hS hT' hd K' J => ?_) ?_; rotate_left 1
   ·have r33 := Tv hd 1 5 33; have r34 := Tv hd 0 6 34; obtain ⟨_, _, _, _, _, _⟩ := bT hT'
    refine o2 r33 r34 fun ρ q33 q34 => ?_; go_simp; (try go_bits);
    exact Jo J hT'
   refine SeqOps.val ?_ (Sp fun ax wx hS hT' hd K' J => ?_) ?_; rotate_left 1
   ·have r35 := Tv hd 0 7 35; obtain ⟨_, _, _, _, _, _⟩ := bT hT'
    refine o1 r35 fun ρ q35 => ?_; go_simp;
    exact Jo J hT'
   refine SeqOps.val ?_ (Sp fun ax wx hS hT' hd K' J => ?_) ?_; rotate_left 1
   ·have r28 := Tv hd 8 0 28; have r32 := Tv hd 4 4 32; have r36 := Tv hd 0 8 36; obtain ⟨_, _, _, _, _, _⟩ := bT hT'
    refine o3 r28 r32 r36 fun ρ q28 q32 q36 => ?_; go_simp; (try go_bits);
    go_at_call 98; refine (alike_any A cap l m sl ca cb _ ((hAr.below hT').more hT'.size) hl).mono ?_; rintro e u1 ⟨rfl, g1⟩
    refine J.out _ _ _ rfl ?_ (hT'.trans (g1.mono hT'.size)) g1; rfl
   refine SeqOps.val ?_ (Sp fun ax wx hS hT' hd K' J => ?_) ?_; rotate_left 1
   ·have r37 := Tv hd 0 9 37; obtain ⟨_, _, _, _, _, _⟩ := bT hT'
    refine o1 r37 fun ρ q37 => ?_; go_simp; (try go_bits); (try simp (disch := omega) only [IntWalk.i64_in]);
    exact Jo J hT'
   refine SeqOps.nil ?_
   intro w3 hBl; (repeat refine Ek ?_)
   refine fun ax hEx => ?_
   simp only [lk, pick, Nat.reduceEqDiff, ↓reduceIte] at hEx
   refine Ld [3, 8, 9, 10, 11, 24, 25, 38] hEx hK fun a hE => ?_; clear hK K Q' hEx
   have hB3 := hBr.trans (hBl.mono hBr.size)
   refine Ks ?_
   refine cond_part hE (t := 38) rfl (fun h => ?_) (fun h => ?_)
   ·refine Ks ?_
    refine Rs 2 fun Q' K hK => ?_
    refine M0 fun K' J ρ => ?_; go_simp;
    refine Ln hE J fun _ Eb => ?_; clear J K' hE a
    refine M0 fun K' J ρ => ?_; go_simp;
    refine Ln Eb J fun _ Ea => ?_; clear J K' Eb
    refine Ld [6, 7] Ea hK fun a hE => ?_; clear hK K Q' Ea
    refine Ks ?_
    have e : apR l sl x y = (0, false) := by
     unfold apR
     rw [if_neg]
     rintro ⟨_, q, _⟩
     have := List.all_eq_true.1 q k (List.mem_range.2 hlt)
     rw [HA.out, HB.out] at this
     rw [this] at h; cases h
    refine ret_two hE rfl rfl rfl ⟨?_, hb2.trans (hB3.mono hb2.size)⟩
    rw [e]
   ·have hal : alikeB l ca cb = true := by simpa using h
    clear h
    have cx3 := (hBl.cell (p := ⟨bx, ox + k, none⟩) nx).trans hcx
    have cy3 := (hBl.cell (p := ⟨by_, oy + k, none⟩) ny).trans hcy
    have nx3 := Nat.lt_of_lt_of_le nx hBl.size
    have ny3 := Nat.lt_of_lt_of_le ny hBl.size
    clear hBl hcx hcy nx ny hbx hby d0 d1 d2 nr hAr
    refine Ks ?_
    refine Rd [] (fun wt => Below w3.heap.size w3 wt) (fun w1 w2 => Below w1.heap.size w1 w2) [(0, some 39), (1, some 40), (2, some 41), (3, some 42), (4, some 43), (5, some 44), (6, some 45), (7, some 46), (8, some 47)] [39, 40, 41, 42, 43, 44, 45, 46, 47] #[true, true, true, true, true, true, true, true, true] [3, 8, 9, 10, 24, 25] hE ((Below.refl _ _).drew) fun Q' K hK => ?_
    refine SeqOps.val ?_ (Sp fun ax wx hS hT' hd K' J => ?_) ?_; rotate_left 1
    ·have r8 := hS.at 8 (by decide) (hE.at 8 rfl); obtain ⟨_, _, _, _, _, _⟩ := bT hT'
     refine o1 r8 fun ρ q8 => ?_; go_simp;
     exact Jo J hT'
    refine SeqOps.val ?_ (Sp fun ax wx hS hT' hd K' J => ?_) ?_; rotate_left 1
    ·have r11 := hS.at 11 (by decide) (hE.at 11 rfl); obtain ⟨_, _, _, _, _, _⟩ := bT hT'
     refine o1 r11 fun ρ q11 => ?_; go_simp;
     exact Jo J hT'
    refine SeqOps.val ?_ (Sp fun ax wx hS hT' hd K' J => ?_) ?_; rotate_left 1
    ·have r39 := Tv hd 1 0 39; have r40 := Tv hd 0 1 40; obtain ⟨_, _, _, _, _, _⟩ := bT hT'
     refine o2 r39 r40 fun ρ q39 q40 => ?_; go_simp; (try go_bits);
     exact Jo J hT'
    refine SeqOps.val ?_ (Sp fun ax wx hS hT' hd K' J => ?_) ?_; rotate_left 1
    ·have r41 := Tv hd 0 2 41; obtain ⟨_, _, _, _, _, _⟩ := bT hT'
     refine o1 r41 fun ρ q41 => ?_; go_simp;
     exact Jo J hT'
    refine SeqOps.val ?_ (Sp fun ax wx hS hT' hd K' J => ?_) ?_; rotate_left 1
    ·have r9 := hS.at 9 (by decide) (hE.at 9 rfl); obtain ⟨_, _, _, _, _, _⟩ := bT hT'
     refine o1 r9 fun ρ q9 => ?_; go_simp;
     exact Jo J hT'
    refine SeqOps.val ?_ (Sp fun ax wx hS hT' hd K' J => ?_) ?_; rotate_left 1
    ·have r11 := hS.at 11 (by decide) (hE.at 11 rfl); obtain ⟨_, _, _, _, _, _⟩ := bT hT'
     refine o1 r11 fun ρ q11 => ?_; go_simp;
     exact Jo J hT'
    refine SeqOps.val ?_ (Sp fun ax wx hS hT' hd K' J => ?_) ?_; rotate_left 1
    ·have r43 := Tv hd 1 4 43; have r44 := Tv hd 0 5 44; obtain ⟨_, _, _, _, _, _⟩ := bT hT'
     refine o2 r43 r44 fun ρ q43 q44 => ?_; go_simp; (try go_bits);
     exact Jo J hT'
    refine SeqOps.val ?_ (Sp fun ax wx hS hT' hd K' J => ?_) ?_; rotate_left 1
    ·have r45 := Tv hd 0 6 45; obtain ⟨_, _, _, _, _, _⟩ := bT hT'
     refine o1 r45 fun ρ q45 => ?_; go_simp;
     exact Jo J hT'
    refine SeqOps.val ?_ (Sp fun ax wx hS hT' hd K' J => ?_) ?_; rotate_left 1
    ·have r42 := Tv hd 4 3 42; have r46 := Tv hd 0 7 46; obtain ⟨_, _, _, _, _, _⟩ := bT hT'
     refine o2 r42 r46 fun ρ q42 q46 => ?_; go_simp; (try go_bits);
     exact Jo J hT'
    refine SeqOps.nil ?_
    intro w4 hBl; (repeat refine Ek ?_)
    refine fun ax hEx => ?_
    simp only [lk, pick, Nat.reduceEqDiff, ↓reduceIte] at hEx
    refine Ld [3, 8, 9, 10, 24, 25, 47] hEx hK fun a hE => ?_; clear hK K Q' hEx
    have hB4 := hB3.trans (hBl.mono hB3.size)
    replace hE := hE.turn 47 (v' := .bool (!(ca == cb))) rfl (by
     congr 1; rw [Bool.eq_iff_iff]; simp [← UInt8.toNat_inj]; constructor <;> intro h <;> omega)
    have hall : ∀ i, i < k + 1 → alikeB l (x.getD i 0) (y.getD i 0) = true := fun i hi => by
     rcases Nat.lt_or_ge i k with h1 | h1
     ·exact HN.out i h1
     ·obtain rfl : i = k := by omega
      rw [HA.out, HB.out]; exact hal
    have hdn : diffN x y (k + 1) = diffN x y k + (if ca == cb then 0 else 1) := by
     show diffN x y k + _ = _
     rw [HA.out, HB.out]
    have hdl := diffN_le x y k
    have HH := hid hall
    have HD := hid hdn
    clear hall hdn cx3 cy3 nx3 ny3 hB3 hal
    refine Ks ?_
    refine cond_part hE (t := 47) rfl (fun h => ?_) (fun h => ?_)
    ·have he : (ca == cb) = false := by simpa using h
     clear h
     refine Ks ?_
     refine Rs 3 fun Q' K hK => ?_
     refine M1 hE 10 fun K' J ρ q10 => ?_; go_simp
     refine Ln hE J fun _ Eb => ?_; clear J K' hE a q10
     refine M1 Eb 48 fun K' J ρ q48 => ?_; go_simp; (try go_bits); (try simp (disch := omega) only [IntWalk.i64_in])
     refine Ln Eb J fun _ Ea => ?_; clear J K' Eb q48
     refine M1 Ea 49 fun K' J ρ q49 => ?_; go_simp
     refine Ln Ea J fun _ Eb => ?_; clear J K' Ea q49
     refine Ld [3, 8, 9, 10, 24, 25] Eb hK fun a hE => ?_; clear hK K Q' Eb
     refine Ks ?_
     refine Rs 2 fun Q' K hK => ?_
     refine M1 hE 25 fun K' J ρ q25 => ?_; go_simp; (try go_bits); (try simp (disch := omega) only [IntWalk.i64_in])
     refine Ln hE J fun _ Eb => ?_; clear J K' hE a q25
     refine M1 Eb 50 fun K' J ρ q50 => ?_; go_simp
     refine Ln Eb J fun _ Ea => ?_; clear J K' Eb q50
     refine Ld [3, 8, 9, 10, 24, 25] Ea hK fun a hE => ?_; clear hK K Q' Ea
     refine Ks ?_
     refine ⟨k + 1, ⟨hlt, ?_, hB4, HH.out⟩, by omega⟩
     rw [HD.out, he]; simpa using hE
    ·have he : (ca == cb) = true := by simpa using h
     clear h
     refine Ks ?_
     refine Rs 2 fun Q' K hK => ?_
     refine M1 hE 25 fun K' J ρ q25 => ?_; go_simp; (try go_bits); (try simp (disch := omega) only [IntWalk.i64_in])
     refine Ln hE J fun _ Eb => ?_; clear J K' hE a q25
     refine M1 Eb 50 fun K' J ρ q50 => ?_; go_simp
     refine Ln Eb J fun _ Ea => ?_; clear J K' Eb q50
     refine Ld [3, 8, 9, 10, 24, 25] Ea hK fun a hE => ?_; clear hK K Q' Ea
     refine Ks ?_
     refine ⟨k + 1, ⟨hlt, ?_, hB4, HH.out⟩, by omega⟩
     rw [HD.out, he]; simpa using hE
  ·have hkx : k = x.length := by have := of_decide_eq_false h; omega
   clear h
   have hall : allB l x y = true := List.all_eq_true.2 fun i hi => HN.out i (by have := List.mem_range.1 hi; omega)
   have HA := hid hall
   clear hall
   have hbr := hb2.trans (hBr.mono hb2.size)
   have hCr := hCB.below hBr
   have nr := hCr.1
   have d2 := hCr.2 2 _ rfl
   clear hCr
   subst hkx
   refine Ks ?_
   refine Rs 5 fun Q' K hK => ?_
   refine M1 hE 10 fun K' J ρ q10 => ?_; go_simp
   refine Ln hE J fun _ Eb => ?_; clear J K' hE a q10
   refine M1 Eb 3 fun K' J ρ q3 => ?_; go_simp
   refine Ln Eb J fun _ Ea => ?_; clear J K' Eb q3
   refine M1 Ea 52 fun K' J ρ q52 => ?_; go_simp
   refine Ln Ea J fun _ Eb => ?_; clear J K' Ea q52
   refine M1 Eb 53 fun K' J ρ q53 => ?_; go_simp
   refine Ln Eb J fun _ Ea => ?_; clear J K' Eb q53
   refine M2 Ea 51 54 fun K' J ρ q51 q54 => ?_; go_simp; (try go_bits)
   refine Ln Ea J fun _ Eb => ?_; clear J K' Ea q51 q54
   refine Ld [10, 55] Eb hK fun a hE => ?_; clear hK K Q' Eb
   refine Ks ?_
   refine cond_part hE (t := 55) rfl (fun h => ?_) (fun h => ?_)
   ·have hgt : ¬ (diffN x y x.length : Int) ≤ sl := by have := of_decide_eq_true h; omega
    refine Ks ?_
    refine Rs 2 fun Q' K hK => ?_
    refine M0 fun K' J ρ => ?_; go_simp;
    refine Ln hE J fun _ Eb => ?_; clear J K' hE a
    refine M0 fun K' J ρ => ?_; go_simp;
    refine Ln Eb J fun _ Ea => ?_; clear J K' Eb
    refine Ld [6, 7] Ea hK fun a hE => ?_; clear hK K Q' Ea
    refine Ks ?_
    have e : apR l sl x y = (0, false) := by unfold apR; rw [if_neg (fun q => hgt q.2.2)]
    refine ret_two hE rfl rfl rfl ⟨?_, hbr⟩
    rw [e]
   ·have hle : (diffN x y x.length : Int) ≤ sl := by have := of_decide_eq_false h; omega
    refine Ks ?_
    refine Rs 3 fun Q' K hK => ?_
    refine M1 hE 10 fun K' J ρ q10 => ?_; go_simp
    refine Ln hE J fun _ Eb => ?_; clear J K' hE a q10
    refine M1 Eb 56 fun K' J ρ q56 => ?_; go_simp
    refine Ln Eb J fun _ Ea => ?_; clear J K' Eb q56
    refine M0 fun K' J ρ => ?_; go_simp;
    refine Ln Ea J fun _ Eb => ?_; clear J K' Ea
    refine Ld [6, 7] Eb hK fun a hE => ?_; clear hK K Q' Eb
    refine Ks ?_
    have e : apR l sl x y = ((diffN x y x.length : Int), true) := by unfold apR; rw [if_pos ⟨HL.out, HA.out, hle⟩]
    refine ret_two hE rfl rfl rfl ⟨?_, hbr⟩
    rw [e]
end Go.Proofs.YtbimkcjdodgojaaGreat
