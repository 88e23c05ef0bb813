/- Slope: how often the slope can let go from an hour on: two closures that call each other. -/
import Derived.Test.YtkhmcofmjjmjhaaDoorKLSy

namespace Go.Proofs.YtkhmcofmjjmjhaaDoor
set_option linter.unusedSimpArgs false
set_option linter.unusedVariables false
open Go Go.RowKit
attribute [local go_sem high] cell_set_wr
attribute [local go_sem low] cell_wr frozen_wr
attribute [local go_sem] wr_set wr_drew wr_drewN wr_alloc wr_new Rho.c Rho.n Rho.g
attribute [local go_sem] run_store_func
section
variable (H : Option Addr) (hcap : Nat) (S : Option Addr) (scap : Nat) (b : Sb) (P : Option Addr) (pcap : Nat) (A : Option Addr) (c : Nat) (xs : List Hp) (f : Nat → Bool) (B Cc Kn Fr Wi Mb : Nat)
/-- what the closures read -/
structure LtS (w V : World) : Prop where
 below : Below w.heap.size w V
 cb : Cells V B (bkV H hcap S scap b P xs.length pcap)
 cc : Cells V Cc [.slice A xs.length c]
 ck : Cells V Kn [.map (some Mb)]
 cf : Cells V Fr [.func (.func 121) #[] #[.pointer (some ⟨B, 0, none⟩), .pointer (some ⟨Kn, 0, none⟩), .pointer (some ⟨Wi, 0, none⟩)]]
 cw : Cells V Wi [.func (.func 119) #[] #[.pointer (some ⟨Cc, 0, none⟩), .pointer (some ⟨Fr, 0, none⟩), .pointer (some ⟨B, 0, none⟩)]]
 hp : HpsAt V P xs
 cr : ArrD V A (crV (crsF xs f))
 memo : Memo V Mb (oS xs f)
 mb : w.heap.size ≤ Mb
variable {H hcap S scap b P pcap A c xs f B Cc Kn Fr Wi Mb}
theorem LtS.on {w V V' : World} (h : LtS H hcap S scap b P pcap A c xs f B Cc Kn Fr Wi Mb w V) (hk : Below V.heap.size V V') : LtS H hcap S scap b P pcap A c xs f B Cc Kn Fr Wi Mb w V' :=
 ⟨h.below.trans (hk.mono h.below.size), h.cb.below hk, h.cc.below hk, h.ck.below hk, h.cf.below hk, h.cw.below hk, h.hp.below hk, h.cr.below hk, h.memo.of_block (hk.block _ h.memo.lt), h.mb⟩
theorem LtS.step {w V V' : World} (h : LtS H hcap S scap b P pcap A c xs f B Cc Kn Fr Wi Mb w V) (hk : KeepX (fun q => q = Mb) V V') (hm : Memo V' Mb (oS xs f)) : LtS H hcap S scap b P pcap A c xs f B Cc Kn Fr Wi Mb w V' := by
 obtain ⟨es, ck, hM⟩ := h.memo.map; have k := KeepC.of_map hM hk; exact ⟨KeepX.from h.below hk (fun q hq => by rw [hq]; exact h.mb), h.cb.c k, h.cc.c k, h.ck.c k, h.cf.c k, h.cw.c k, h.hp.c k, h.cr.c k, hm, h.mb⟩
/-- the answer of both closures -/
def LtQ (H : Option Addr) (hcap : Nat) (S : Option Addr) (scap : Nat) (b : Sb) (P : Option Addr) (pcap : Nat) (A : Option Addr) (c : Nat) (xs : List Hp) (f : Nat → Bool) (B Cc Kn Fr Wi Mb : Nat) (w V : World) (r : Nat) (e : Ending) (V' : World) : Prop := e = .returned (.int .u64 r) ∧ KeepX (fun q => q = Mb) V V' ∧ LtS H hcap S scap b P pcap A c xs f B Cc Kn Fr Wi Mb w V'
theorem u64_nat (q : Nat) (h : q < 1048576) : IntKind.u64.wrap (q : Int) = q := by
 simp [IntKind.wrap, IntKind.bits, IntKind.signed]; omega
theorem or_nat (s n : Nat) (hs : s < 1048576) (hn : n < 1048576) : bits .or .u64 (s : Int) (n : Int) = ((s ||| n : Nat) : Int) := by
 have h1 : s ||| n < 2 ^ 20 := Nat.or_lt_two_pow (by simpa using hs) (by simpa using hn)
 have e : ∀ m : Nat, (BitVec.ofInt 64 (m : Int)) = BitVec.ofNat 64 m := fun m => by
  apply BitVec.eq_of_toNat_eq
  simp [BitVec.toNat_ofInt, BitVec.toNat_ofNat]
  try omega
 have h2 : bits .or .u64 (s : Int) (n : Int) = IntKind.u64.wrap (((BitVec.ofInt 64 (s : Int)) ||| (BitVec.ofInt 64 (n : Int))).toNat : Int) := rfl; rw [h2, e, e, BitVec.toNat_or, BitVec.toNat_ofNat, BitVec.toNat_ofNat, Nat.mod_eq_of_lt (a := s) (Nat.lt_trans hs (by decide)), Nat.mod_eq_of_lt (a := n) (Nat.lt_trans hn (by decide))]
 generalize s ||| n = q at h1
 exact u64_nat q (by simpa using h1)
theorem wi_or (p q : Nat) (hp : p < 8192) (hq : q < 8192) : bits .or .u64 (p : Int) (IntKind.u64.wrap ((q : Int) * 2)) = ((p ||| q <<< 1 : Nat) : Int) := by
 have e : (q : Int) * 2 = ((q * 2 : Nat) : Int) := by omega
 rw [e, u64_nat _ (by omega), or_nat _ _ (by omega) (by omega), Nat.shiftLeft_eq]
set_option maxRecDepth 100000 in
set_option maxHeartbeats 2000000 in
theorem with_step (w : World) (hn : xs.length ≤ 12) (h : Nat) (hh : h < xs.length)
    (hF : ∀ (l : Nat) (V : World), LtS H hcap S scap b P pcap A c xs f B Cc Kn Fr Wi Mb w V → (h + 1 < xs.length → atF xs f (h + 1) l = true) → Calls Tryd.prog 121 #[.agg (if h + 1 = xs.length then #[.int .i64 xs.length, .int .i64 0] else #[.int .i64 ((h + 1 : Nat) : Int), .int .i64 l]), .pointer (some ⟨B, 0, none⟩), .pointer (some ⟨Kn, 0, none⟩), .pointer (some ⟨Wi, 0, none⟩)] V (LtQ H hcap S scap b P pcap A c xs f B Cc Kn Fr Wi Mb w V (oS xs f (h + 1) l)))
    (m : Nat) (hm : m < 2000) (V : World) (hS : LtS H hcap S scap b P pcap A c xs f B Cc Kn Fr Wi Mb w V) :
    Calls Tryd.prog 119 #[.int .i64 h, .int .i64 m, .pointer (some ⟨Cc, 0, none⟩), .pointer (some ⟨Fr, 0, none⟩), .pointer (some ⟨B, 0, none⟩)] V (LtQ H hcap S scap b P pcap A c xs f B Cc Kn Fr Wi Mb w V (wS xs f h m)) := by
 have hhI : (h : Int) < xs.length := by omega
 have hmI : (m : Int) < 2000 := by omega
 have hn9 : (xs.length : Int) ≤ 9223372036854775807 := by omega
 have HF := hid hF; have HBE := hid fun (l : Nat) (W : World) => behind_any H hcap S scap b P xs.length pcap h l hh (by omega) W; have HWS := hid (wS_eq xs f hh m); have HAT := hid (atF_succ xs f h hh); have HCR := hid (crsF_at xs f h hh (by rw [crsF_length]; exact hh)); have HL1 := hid (oS_lt xs f (h + 1) m hn); have HL2 := hid (oS_lt xs f (h + 1) 0 hn); have hstN : stF xs[h] (atF xs f h) m = true → atF xs f (h + 1) m = true := fun h1 => by rw [HAT.out]; exact nxF_iff.2 (.inl h1)
 have hfaN : faF xs[h] (atF xs f h) m = true → atF xs f (h + 1) 0 = true := fun h1 => by rw [HAT.out]; exact nxF_iff.2 (.inr ⟨rfl, m, hm, h1⟩)
 have HSTN := hid hstN; have HFAN := hid hfaN; clear hF hstN hfaN
 have hcr : ∀ W : World, LtS H hcap S scap b P pcap A c xs f B Cc Kn Fr Wi Mb w W → ∃ bx ox, A = some ⟨bx, ox, none⟩ ∧ bx < W.heap.size ∧ W.cell? ⟨bx, ox + h * 4000 + m, none⟩ = some (.bool (stF xs[h] (atF xs f h) m)) ∧ W.cell? ⟨bx, ox + h * 4000 + 2000 + m, none⟩ = some (.bool (faF xs[h] (atF xs f h) m)) := fun W hW => by
  obtain ⟨bx, ox, e, h1, h2⟩ := ArrD.range (f := fun p : (Nat → Bool) × (Nat → Bool) => bls2 p.1 p.2) (m := 4000) (fun _ => bls2_length _ _) (by omega) hW.cr (k := h) (by rw [crsF_length]; exact hh); rw [HCR.out] at h2; refine ⟨bx, ox, e, h1, h2 m _ ?_, ?_⟩
  ·rw [bls2, List.getElem?_append_left (by rw [bls_length]; exact hm), bls_at _ hm]
  ·have := h2 (2000 + m) _ (bls2_at1 _ _ hm); rw [← Nat.add_assoc] at this; exact this
 have HCELL := hid hcr; clear hcr; obtain ⟨st, hst⟩ : ∃ st, stF xs[h] (atF xs f h) m = st := ⟨_, rfl⟩; obtain ⟨fa, hfa⟩ : ∃ fa, faF xs[h] (atF xs f h) m = fa := ⟨_, rfl⟩; rw [hst, hfa] at HWS HCELL; rw [hst] at HSTN; rw [hfa] at HFAN; clear hst hfa; obtain ⟨p, hp⟩ : ∃ p, oS xs f (h + 1) m = p := ⟨_, rfl⟩; obtain ⟨q, hq⟩ : ∃ q, oS xs f (h + 1) 0 = q := ⟨_, rfl⟩; have HFm := hid fun (V : World) hV hx => HF.out m V hV hx; have HF0 := hid fun (V : World) hV hx => HF.out 0 V hV hx; rw [hp] at HWS HL1 HFm; rw [hq] at HWS HL2 HF0; clear hp hq HF HAT; rw [HWS.out]; obtain ⟨bx, ox, hAe, hbx, c1, c2⟩ := HCELL.out V hS; have cc0 := hS.cc.2 0 _ rfl; have nCc := hS.cc.1; refine En Tryd.func119 Tryd.ntmps119 fun a hE => ?_; refine Ks ?_; refine Rs 1 fun Q' K hK => ?_; refine M0 fun K' J ρ => ?_; go_simp; refine Ln hE J fun _ Eb => ?_; clear J K' hE a; refine Ld [0, 1, 2, 3, 4] Eb hK fun a hE => ?_; clear hK K Q' Eb; refine Ks ?_; refine Rs 2 fun Q' K hK => ?_; refine M0 fun K' J ρ => ?_; go_simp; refine Ln hE J fun _ Eb => ?_; clear J K' hE a; refine M0 fun K' J ρ => ?_; go_simp; refine Ln Eb J fun _ Ea => ?_; clear J K' Eb; refine Ld [0, 1, 2, 3, 4, 8, 9] Ea hK fun a hE => ?_; clear hK K Q' Ea; refine Ks ?_; refine Rs 7 fun Q' K hK => ?_; refine M1 hE 2 fun K' J ρ q2 => ?_; go_simp; refine Ln hE J fun _ Eb => ?_; clear J K' hE a q2; refine M1 Eb 0 fun K' J ρ q0 => ?_; go_simp; refine Ln Eb J fun _ Ea => ?_; clear J K' Eb q0; refine M1 Ea 1 fun K' J ρ q1 => ?_; go_simp; refine Ln Ea J fun _ Eb => ?_; clear J K' Ea q1
 refine M2 Eb 10 11 fun K' J ρ q10 q11 => ?_; go_simp; (try go_bits); refine Ln Eb J fun _ Ea => ?_; clear J K' Eb q10 q11; refine M1 Ea 13 fun K' J ρ q13 => ?_; go_simp; refine Ln Ea J fun _ Eb => ?_; clear J K' Ea q13; refine M2 Eb 14 12 fun K' J ρ q14 q12 => ?_; go_simp; (try go_bits); refine Ln Eb J fun _ Ea => ?_; clear J K' Eb q14 q12; refine M1 Ea 15 fun K' J ρ q15 => ?_; go_simp; refine Ln Ea J fun _ Eb => ?_; clear J K' Ea q15; refine Ld [0, 1, 2, 3, 4, 8, 9, 16] Eb hK fun a hE => ?_; clear hK K Q' Eb
 cases hst : st
 ·rw [hst] at hE; obtain ⟨by', oy, hAe2, hby, d1, d2⟩ := HCELL.out V hS; have cc1 := (hS).cc.2 0 _ rfl; have nCc1 := (hS).cc.1; refine Ks ?_; refine cond_no hE (t := 16) rfl ?_; refine Ks ?_; refine Rs 7 fun Q' K hK => ?_; refine M1 hE 2 fun K' J ρ q2 => ?_; go_simp; refine Ln hE J fun _ Eb => ?_; clear J K' hE a q2; refine M1 Eb 0 fun K' J ρ q0 => ?_; go_simp; refine Ln Eb J fun _ Ea => ?_; clear J K' Eb q0; refine M1 Ea 1 fun K' J ρ q1 => ?_; go_simp; refine Ln Ea J fun _ Eb => ?_; clear J K' Ea q1; refine M2 Eb 23 24 fun K' J ρ q23 q24 => ?_; go_simp; (try go_bits); refine Ln Eb J fun _ Ea => ?_; clear J K' Eb q23 q24; refine M1 Ea 26 fun K' J ρ q26 => ?_; go_simp; refine Ln Ea J fun _ Eb => ?_; clear J K' Ea q26; refine M2 Eb 27 25 fun K' J ρ q27 q25 => ?_; go_simp; (try go_bits); refine Ln Eb J fun _ Ea => ?_; clear J K' Eb q27 q25; refine M1 Ea 28 fun K' J ρ q28 => ?_; go_simp; refine Ln Ea J fun _ Eb => ?_; clear J K' Ea q28; refine Ld [0, 3, 4, 8, 9, 29] Eb hK fun a hE => ?_; clear hK K Q' Eb
  cases hfa : fa
  ·rw [hfa] at hE; refine Ks ?_; refine cond_no hE (t := 29) rfl ?_; refine Ks ?_; refine Rs 5 fun Q' K hK => ?_; refine M1 hE 8 fun K' J ρ q8 => ?_; go_simp; refine Ln hE J fun _ Eb => ?_; clear J K' hE a q8; refine M1 Eb 9 fun K' J ρ q9 => ?_; go_simp; refine Ln Eb J fun _ Ea => ?_; clear J K' Eb q9; refine M1 Ea 36 fun K' J ρ q36 => ?_; go_simp; (try go_bits); (try simp (disch := omega) only [IntWalk.i64_in]); refine Ln Ea J fun _ Eb => ?_; clear J K' Ea q36; refine M2 Eb 35 37 fun K' J ρ q35 q37 => ?_; go_simp; (try go_bits); refine Ln Eb J fun _ Ea => ?_; clear J K' Eb q35 q37; refine M1 Ea 38 fun K' J ρ q38 => ?_; go_simp; refine Ln Ea J fun _ Eb => ?_; clear J K' Ea q38; refine Ld [7] Eb hK fun a hE => ?_; clear hK K Q' Eb; refine Ks ?_; refine ret_one hE rfl rfl ⟨?_, KeepX.refl _ _, hS⟩; exact congrArg (fun z => Ending.returned (Value.int IntKind.u64 z)) (by simpa using or_nat 0 0 (by decide) (by decide))
  ·rw [hfa] at hE; rw [hfa] at HFAN; have cfb := (hS).cf.2 0 _ rfl; have nFrb := (hS).cf.1; have hCBb := (hS).cb; refine Ks ?_; refine cond_yes hE (t := 29) rfl ?_; refine Ks ?_; refine Rd [4, 5] (fun wt => Below V.heap.size V wt) (fun w1 w2 => Below w1.heap.size w1 w2) [(0, some 30), (1, some 31), (2, some 32), (3, some 33)] [30, 31, 32, 33] #[true, true, true, true, false, false] [8, 9] hE ((Below.refl _ _).drew) fun Q' K hK => ?_; refine SeqOps.val ?_ (Sp fun ax wx hS hT' hd K' J => ?_) ?_; rotate_left 1
   ·have r3 := Ta hS hE 3; obtain ⟨_, _, _, _, _, _⟩ := bT hT'; refine o1 r3 fun ρ q3 => ?_; go_simp; exact Jo J hT'
   refine SeqOps.val ?_ (Sp fun ax wx hS hT' hd K' J => ?_) ?_; rotate_left 1
   ·have r4 := Ta hS hE 4; obtain ⟨_, _, _, _, _, _⟩ := bT hT'; refine wp_load_mid 85 (.tmp 4) rfl B 0 (eval_of r4) (bkV H hcap S scap b P xs.length pcap) _ (fun j u hu => by rw [Nat.zero_add]; exact (hCBb.below hT').2 j u hu) Tryd.underlying85 rfl (by kernel_rfl) ?_; refine J.out _ _ _ rfl ?_ hT' (Below.refl _ _); rfl
   refine SeqOps.val ?_ (Sp fun ax wx hS hT' hd K' J => ?_) ?_; rotate_left 1
   ·have r0 := Ta hS hE 0; refine o1 r0 fun ρ q0 => ?_; go_simp; exact Jo J hT'
   refine SeqOps.val ?_ (Sp fun ax wx hS hT' hd K' J => ?_) ?_; rotate_left 1
   ·have r31 := Tv hd 1 1 31; have r32 := Tv hd 0 2 32; obtain ⟨_, _, _, _, _, _⟩ := bT hT'; refine o2 r31 r32 fun ρ q31 q32 => ?_; go_simp; (try go_bits); go_at_call 120; refine (HBE.out 0 _).mono ?_; rintro e g1 ⟨rfl, k1⟩; refine J.out _ _ _ rfl ?_ (hT'.trans (k1.mono hT'.size)) k1; rfl
   refine SeqOps.nil ?_
   intro w6 hBn; (repeat refine Ek ?_)
   refine fun anx hEnx => ?_; simp only [lk, pick, Nat.reduceEqDiff, ↓reduceIte] at hEnx; refine M2 hEnx 30 33 fun K' J ρ q30 q33 => ?_; go_simp; (try go_bits); (try clear q30 q33); go_at_call 121; refine (HF0.out _ ((hS).on hBn) (fun _ => HFAN.out rfl)).mono ?_; rintro e w7 ⟨rfl, hK7, hS7⟩; (try clear r30 r33); refine Ln hEnx J fun an_1 hEn_1 => ?_; clear J K' hEnx; refine M1 hEn_1 34 fun K' J ρ q34 => ?_; go_simp; (try clear q34); refine Ln hEn_1 J fun an_2 hEn_2 => ?_; clear J K' hEn_1; refine Ld [8, 9] hEn_2 hK fun a hE => ?_; clear hK K Q' hEn_2; have hKK := ((KeepX.of_below hBn).trans hK7); refine Ks ?_; refine Rs 5 fun Q' K hK => ?_; refine M1 hE 8 fun K' J ρ q8 => ?_; go_simp; refine Ln hE J fun _ Eb => ?_; clear J K' hE a q8; refine M1 Eb 9 fun K' J ρ q9 => ?_; go_simp; refine Ln Eb J fun _ Ea => ?_; clear J K' Eb q9; refine M1 Ea 36 fun K' J ρ q36 => ?_; go_simp; (try go_bits); (try simp (disch := omega) only [IntWalk.i64_in]); refine Ln Ea J fun _ Eb => ?_; clear J K' Ea q36; refine M2 Eb 35 37 fun K' J ρ q35 q37 => ?_; go_simp; (try go_bits); refine Ln Eb J fun _ Ea => ?_; clear J K' Eb q35 q37; refine M1 Ea 38 fun K' J ρ q38 => ?_; go_simp; refine Ln Ea J fun _ Eb => ?_; clear J K' Ea q38; refine Ld [7] Eb hK fun a hE => ?_; clear hK K Q' Eb; refine Ks ?_; refine ret_one hE rfl rfl ⟨?_, hKK, hS7⟩; exact congrArg (fun z => Ending.returned (Value.int IntKind.u64 z)) (by simpa using wi_or 0 q (by decide) HL2.out)
 ·rw [hst] at hE; rw [hst] at HSTN; have cfa := hS.cf.2 0 _ rfl; have nFra := hS.cf.1; have hCBa := hS.cb; refine Ks ?_; refine cond_yes hE (t := 16) rfl ?_; refine Ks ?_; refine Rd [5, 6] (fun wt => Below V.heap.size V wt) (fun w1 w2 => Below w1.heap.size w1 w2) [(0, some 17), (1, some 18), (2, some 19), (3, some 20), (4, some 21)] [17, 18, 19, 20, 21] #[true, true, true, true, true, false, false] [0, 1, 2, 3, 4, 8, 9] hE ((Below.refl _ _).drew) fun Q' K hK => ?_; refine SeqOps.val ?_ (Sp fun ax wx hS hT' hd K' J => ?_) ?_; rotate_left 1
  ·have r3 := Ta hS hE 3; obtain ⟨_, _, _, _, _, _⟩ := bT hT'; refine o1 r3 fun ρ q3 => ?_; go_simp; exact Jo J hT'
  refine SeqOps.val ?_ (Sp fun ax wx hS hT' hd K' J => ?_) ?_; rotate_left 1
  ·have r4 := Ta hS hE 4; obtain ⟨_, _, _, _, _, _⟩ := bT hT'; refine wp_load_mid 85 (.tmp 4) rfl B 0 (eval_of r4) (bkV H hcap S scap b P xs.length pcap) _ (fun j u hu => by rw [Nat.zero_add]; exact (hCBa.below hT').2 j u hu) Tryd.underlying85 rfl (by kernel_rfl) ?_; refine J.out _ _ _ rfl ?_ hT' (Below.refl _ _); rfl
  refine SeqOps.val ?_ (Sp fun ax wx hS hT' hd K' J => ?_) ?_; rotate_left 1
  ·have r0 := Ta hS hE 0; refine o1 r0 fun ρ q0 => ?_; go_simp; exact Jo J hT'
  refine SeqOps.val ?_ (Sp fun ax wx hS hT' hd K' J => ?_) ?_; rotate_left 1
  ·have r1 := Ta hS hE 1; refine o1 r1 fun ρ q1 => ?_; go_simp; exact Jo J hT'
  refine SeqOps.val ?_ (Sp fun ax wx hS hT' hd K' J => ?_) ?_; rotate_left 1
  ·have r18 := Tv hd 2 1 18; have r19 := Tv hd 1 2 19; have r20 := Tv hd 0 3 20; obtain ⟨_, _, _, _, _, _⟩ := bT hT'; refine o3 r18 r19 r20 fun ρ q18 q19 q20 => ?_; go_simp; (try go_bits); go_at_call 120; refine (HBE.out m _).mono ?_; rintro e g1 ⟨rfl, k1⟩; refine J.out _ _ _ rfl ?_ (hT'.trans (k1.mono hT'.size)) k1; rfl
  refine SeqOps.nil ?_
  intro w4 hBm; (repeat refine Ek ?_)
  refine fun amx hEmx => ?_; simp only [lk, pick, Nat.reduceEqDiff, ↓reduceIte] at hEmx; refine M2 hEmx 17 21 fun K' J ρ q17 q21 => ?_; go_simp; (try go_bits); (try clear q17 q21); go_at_call 121; refine (HFm.out _ (hS.on hBm) (fun _ => HSTN.out rfl)).mono ?_; rintro e w5 ⟨rfl, hK5, hS5⟩; (try clear r17 r21); refine Ln hEmx J fun am_1 hEm_1 => ?_; clear J K' hEmx; refine M1 hEm_1 22 fun K' J ρ q22 => ?_; go_simp; (try clear q22); refine Ln hEm_1 J fun am_2 hEm_2 => ?_; clear J K' hEm_1; refine Ld [0, 1, 2, 3, 4, 8, 9] hEm_2 hK fun a hE => ?_; clear hK K Q' hEm_2; have hK5' := (KeepX.of_below (M := fun q => q = Mb) hBm).trans hK5; clear c1 c2 hbx cc0 nCc hAe cfa nFra hBm; obtain ⟨by', oy, hAe2, hby, d1, d2⟩ := HCELL.out w5 hS5; have cc1 := (hS5).cc.2 0 _ rfl; have nCc1 := (hS5).cc.1; refine Ks ?_; refine Rs 7 fun Q' K hK => ?_; refine M1 hE 2 fun K' J ρ q2 => ?_; go_simp; refine Ln hE J fun _ Eb => ?_; clear J K' hE a q2; refine M1 Eb 0 fun K' J ρ q0 => ?_; go_simp; refine Ln Eb J fun _ Ea => ?_; clear J K' Eb q0; refine M1 Ea 1 fun K' J ρ q1 => ?_; go_simp; refine Ln Ea J fun _ Eb => ?_; clear J K' Ea q1; refine M2 Eb 23 24 fun K' J ρ q23 q24 => ?_; go_simp; (try go_bits); refine Ln Eb J fun _ Ea => ?_; clear J K' Eb q23 q24; refine M1 Ea 26 fun K' J ρ q26 => ?_; go_simp; refine Ln Ea J fun _ Eb => ?_; clear J K' Ea q26; refine M2 Eb 27 25 fun K' J ρ q27 q25 => ?_; go_simp; (try go_bits); refine Ln Eb J fun _ Ea => ?_; clear J K' Eb q27 q25; refine M1 Ea 28 fun K' J ρ q28 => ?_; go_simp
  refine Ln Ea J fun _ Eb => ?_; clear J K' Ea q28; refine Ld [0, 3, 4, 8, 9, 29] Eb hK fun a hE => ?_; clear hK K Q' Eb
  cases hfa : fa
  ·rw [hfa] at hE; refine Ks ?_; refine cond_no hE (t := 29) rfl ?_; refine Ks ?_; refine Rs 5 fun Q' K hK => ?_; refine M1 hE 8 fun K' J ρ q8 => ?_; go_simp; refine Ln hE J fun _ Eb => ?_; clear J K' hE a q8; refine M1 Eb 9 fun K' J ρ q9 => ?_; go_simp; refine Ln Eb J fun _ Ea => ?_; clear J K' Eb q9; refine M1 Ea 36 fun K' J ρ q36 => ?_; go_simp; (try go_bits); (try simp (disch := omega) only [IntWalk.i64_in]); refine Ln Ea J fun _ Eb => ?_; clear J K' Ea q36; refine M2 Eb 35 37 fun K' J ρ q35 q37 => ?_; go_simp; (try go_bits); refine Ln Eb J fun _ Ea => ?_; clear J K' Eb q35 q37; refine M1 Ea 38 fun K' J ρ q38 => ?_; go_simp; refine Ln Ea J fun _ Eb => ?_; clear J K' Ea q38; refine Ld [7] Eb hK fun a hE => ?_; clear hK K Q' Eb; refine Ks ?_; refine ret_one hE rfl rfl ⟨?_, hK5', hS5⟩; exact congrArg (fun z => Ending.returned (Value.int IntKind.u64 z)) (by simpa using or_nat p 0 (by have := HL1.out; omega) (by decide))
  ·rw [hfa] at hE; rw [hfa] at HFAN; have cfb := (hS5).cf.2 0 _ rfl; have nFrb := (hS5).cf.1; have hCBb := (hS5).cb; refine Ks ?_; refine cond_yes hE (t := 29) rfl ?_; refine Ks ?_; refine Rd [4, 5] (fun wt => Below w5.heap.size w5 wt) (fun w1 w2 => Below w1.heap.size w1 w2) [(0, some 30), (1, some 31), (2, some 32), (3, some 33)] [30, 31, 32, 33] #[true, true, true, true, false, false] [8, 9] hE ((Below.refl _ _).drew) fun Q' K hK => ?_; refine SeqOps.val ?_ (Sp fun ax wx hS hT' hd K' J => ?_) ?_; rotate_left 1
   ·have r3 := Ta hS hE 3; obtain ⟨_, _, _, _, _, _⟩ := bT hT'; refine o1 r3 fun ρ q3 => ?_; go_simp; exact Jo J hT'
   refine SeqOps.val ?_ (Sp fun ax wx hS hT' hd K' J => ?_) ?_; rotate_left 1
   ·have r4 := Ta hS hE 4; obtain ⟨_, _, _, _, _, _⟩ := bT hT'; refine wp_load_mid 85 (.tmp 4) rfl B 0 (eval_of r4) (bkV H hcap S scap b P xs.length pcap) _ (fun j u hu => by rw [Nat.zero_add]; exact (hCBb.below hT').2 j u hu) Tryd.underlying85 rfl (by kernel_rfl) ?_; refine J.out _ _ _ rfl ?_ hT' (Below.refl _ _); rfl
   refine SeqOps.val ?_ (Sp fun ax wx hS hT' hd K' J => ?_) ?_; rotate_left 1
   ·have r0 := Ta hS hE 0; refine o1 r0 fun ρ q0 => ?_; go_simp; exact Jo J hT'
   refine SeqOps.val ?_ (Sp fun ax wx hS hT' hd K' J => ?_) ?_; rotate_left 1
   ·have r31 := Tv hd 1 1 31; have r32 := Tv hd 0 2 32; obtain ⟨_, _, _, _, _, _⟩ := bT hT'; refine o2 r31 r32 fun ρ q31 q32 => ?_; go_simp; (try go_bits); go_at_call 120; refine (HBE.out 0 _).mono ?_; rintro e g1 ⟨rfl, k1⟩; refine J.out _ _ _ rfl ?_ (hT'.trans (k1.mono hT'.size)) k1; rfl
   refine SeqOps.nil ?_
   intro w6 hBn; (repeat refine Ek ?_)
   refine fun anx hEnx => ?_; simp only [lk, pick, Nat.reduceEqDiff, ↓reduceIte] at hEnx; refine M2 hEnx 30 33 fun K' J ρ q30 q33 => ?_; go_simp; (try go_bits); (try clear q30 q33); go_at_call 121; refine (HF0.out _ ((hS5).on hBn) (fun _ => HFAN.out rfl)).mono ?_; rintro e w7 ⟨rfl, hK7, hS7⟩; (try clear r30 r33); refine Ln hEnx J fun an_1 hEn_1 => ?_; clear J K' hEnx; refine M1 hEn_1 34 fun K' J ρ q34 => ?_; go_simp; (try clear q34); refine Ln hEn_1 J fun an_2 hEn_2 => ?_; clear J K' hEn_1; refine Ld [8, 9] hEn_2 hK fun a hE => ?_; clear hK K Q' hEn_2; have hKK := (hK5').trans ((KeepX.of_below hBn).trans hK7); refine Ks ?_; refine Rs 5 fun Q' K hK => ?_; refine M1 hE 8 fun K' J ρ q8 => ?_; go_simp; refine Ln hE J fun _ Eb => ?_; clear J K' hE a q8; refine M1 Eb 9 fun K' J ρ q9 => ?_; go_simp; refine Ln Eb J fun _ Ea => ?_; clear J K' Eb q9; refine M1 Ea 36 fun K' J ρ q36 => ?_; go_simp; (try go_bits); (try simp (disch := omega) only [IntWalk.i64_in]); refine Ln Ea J fun _ Eb => ?_; clear J K' Ea q36; refine M2 Eb 35 37 fun K' J ρ q35 q37 => ?_; go_simp; (try go_bits); refine Ln Eb J fun _ Ea => ?_; clear J K' Eb q35 q37; refine M1 Ea 38 fun K' J ρ q38 => ?_; go_simp; refine Ln Ea J fun _ Eb => ?_; clear J K' Ea q38; refine Ld [7] Eb hK fun a hE => ?_; clear hK K Q' Eb; refine Ks ?_; refine ret_one hE rfl rfl ⟨?_, hKK, hS7⟩; exact congrArg (fun z => Ending.returned (Value.int IntKind.u64 z)) (by simpa using wi_or p q HL1.out HL2.out)
theorem grown_keep {V V' : World} {Mb : Nat} (h : V.grownBy V' (some Mb)) : KeepX (fun q => q = Mb) V V' := ⟨h.os, h.tape, h.output, h.size, fun k hk hne => h.block k hk (fun e => hne (by cases e; rfl))⟩
set_option maxRecDepth 100000 in
set_option maxHeartbeats 2000000 in
theorem from_over (w : World) (hn : xs.length ≤ 12) (V : World) (hS : LtS H hcap S scap b P pcap A c xs f B Cc Kn Fr Wi Mb w V) :
    Calls Tryd.prog 121 #[.agg #[.int .i64 xs.length, .int .i64 0], .pointer (some ⟨B, 0, none⟩), .pointer (some ⟨Kn, 0, none⟩), .pointer (some ⟨Wi, 0, none⟩)] V (LtQ H hcap S scap b P pcap A c xs f B Cc Kn Fr Wi Mb w V 1) := by
 have HO := hid fun (W : World) => over_any H hcap S scap b P xs.length pcap W; refine En Tryd.func121 Tryd.ntmps121 fun a hE => ?_; refine Ks ?_; refine Rs 2 fun Q' K hK => ?_; refine M1 hE 0 fun K' J ρ q0 => ?_; go_simp; refine Ln hE J fun _ Eb => ?_; clear J K' hE a q0; refine M0 fun K' J ρ => ?_; go_simp; refine Ln Eb J fun _ Ea => ?_; clear J K' Eb; refine Ld [1, 2, 3, 4] Ea hK fun a hE => ?_; clear hK K Q' Ea; obtain ⟨Q, hQe⟩ : ∃ B, B = V.heap.size := ⟨_, rfl⟩; rw [← hQe] at hE; refine world_cut (fun wt => Below V.heap.size V wt ∧ Cells wt Q [.int .i64 xs.length, .int .i64 0]) ⟨(Below.refl _ _).alloc (Nat.le_refl _) _, by rw [hQe]; exact cells_new _ _ _⟩ (fun w1 hCut => ?_); obtain ⟨hbw1, hCQ⟩ := hCut; clear hQe; have hCBb := hS.cb.below hbw1; obtain ⟨nQ, cQ0, cQ1⟩ := hCQ.c2; refine Ks ?_; refine Rd [] (fun wt => Below w1.heap.size w1 wt) (fun w1 w2 => Below w1.heap.size w1 w2) [(0, some 13), (1, some 14), (2, some 15), (3, some 16)] [13, 14, 15, 16] #[true, true, true, true] [1, 2, 3, 4] hE ((Below.refl _ _).drew) fun Q' K hK => ?_; refine SeqOps.val ?_ (Sp fun ax wx hS hT' hd K' J => ?_) ?_; rotate_left 1
 ·have r4 := Ta hS hE 4; obtain ⟨_, _, _, _, _, _⟩ := bT hT'; refine o1 r4 fun ρ q4 => ?_; go_simp; exact Jo J hT'
 refine SeqOps.val ?_ (Sp fun ax wx hS hT' hd K' J => ?_) ?_; rotate_left 1
 ·have r1 := Ta hS hE 1; obtain ⟨_, _, _, _, _, _⟩ := bT hT'; refine wp_load_mid 85 (.tmp 1) rfl B 0 (eval_of r1) (bkV H hcap S scap b P xs.length pcap) _ (fun j u hu => by rw [Nat.zero_add]; exact (hCBb.below hT').2 j u hu) Tryd.underlying85 rfl (by kernel_rfl) ?_; refine J.out _ _ _ rfl ?_ hT' (Below.refl _ _); rfl
 refine SeqOps.val ?_ (Sp fun ax wx hS hT' hd K' J => ?_) ?_; rotate_left 1
 ·have r14 := Tv hd 0 1 14; obtain ⟨_, _, _, _, _, _⟩ := bT hT'; refine o1 r14 fun ρ q14 => ?_; go_simp; (try go_bits); go_at_call 122; refine (HO.out _).mono ?_; rintro e g1 ⟨rfl, k1⟩; refine J.out _ _ _ rfl ?_ (hT'.trans (k1.mono hT'.size)) k1; rfl
 refine SeqOps.val ?_ (Sp fun ax wx hS hT' hd K' J => ?_) ?_; rotate_left 1
 ·have r13 := Tv hd 2 0 13; have r15 := Tv hd 0 2 15; refine o2 r13 r15 fun ρ q13 q15 => ?_; go_simp; (try go_bits); exact Jo J hT'
 refine SeqOps.nil ?_
 intro w2 hBm; (repeat refine Ek ?_)
 refine fun amx hEmx => ?_; simp only [lk, pick, Nat.reduceEqDiff, ↓reduceIte] at hEmx; refine Ld [1, 2, 3, 4, 16] hEmx hK fun a hE => ?_; clear hK K Q' hEmx; have hbw2 := hbw1.trans (hBm.mono hbw1.size); replace hCQ := hCQ.below hBm; clear nQ cQ0 cQ1; obtain ⟨nQ, cQ0, cQ1⟩ := hCQ.c2; replace hE := hE.turn 16 (v' := .bool true) rfl (by first | rfl | simp); refine Ks ?_; refine cond_yes hE (t := 16) rfl ?_; refine Ks ?_; refine Rs 1 fun Q' K hK => ?_; refine M0 fun K' J ρ => ?_; go_simp; refine Ln hE J fun _ Eb => ?_; clear J K' hE a; refine Ld [5] Eb hK fun a hE => ?_; clear hK K Q' Eb; refine Ks ?_; exact ret_one hE rfl rfl ⟨rfl, .of_below hbw2, hS.on hbw2⟩
end
end Go.Proofs.YtkhmcofmjjmjhaaDoor
