/- Slope: the outlook of a book. -/
import Derived.Test.YtkhmcofmjjmjhaaDoorKTSz
import Derived.Test.YtkhmcofmjjmjhaaDoorKTSk

namespace Go.Proofs.YtkhmcofmjjmjhaaDoor
set_option linter.unusedSimpArgs false
set_option linter.unusedVariables false
open Go Go.RowKit
attribute [local go_sem high] cell_set_wr
attribute [local go_sem low] cell_wr frozen_wr
attribute [local go_sem] wr_set wr_drew wr_drewN wr_alloc wr_new Rho.c Rho.n Rho.g
attribute [local go_sem] run_store_func
theorem HpAt.c {V V' : World} {S G : Option Addr} {x : Hp} (h : HpAt V S G x) (hk : KeepC V V') : HpAt V' S G x := ⟨h.1.c hk, h.2.c hk⟩
theorem LtS.keepC {H : Option Addr} {hcap : Nat} {S : Option Addr} {scap : Nat} {b : Sb} {P : Option Addr} {pcap : Nat} {A : Option Addr} {c : Nat} {xs : List Hp} {f : Nat → Bool} {B Cc Kn Fr Wi Mb : Nat} {w V V' : World} (h : LtS H hcap S scap b P pcap A c xs f B Cc Kn Fr Wi Mb w V) (hk : KeepX (fun q => q = Mb) V V') : KeepC V V' := by
 obtain ⟨es, ck, hM⟩ := h.memo.map
 exact KeepC.of_map hM hk
section
variable {H : Option Addr} {hcap : Nat} {S : Option Addr} {scap : Nat} {b : Sb} {P : Option Addr} {pcap : Nat} {A : Option Addr} {c : Nat} {xs : List Hp} {f : Nat → Bool} {B Cc Kn Fr Wi Mb : Nat}
set_option maxRecDepth 100000 in
set_option maxHeartbeats 2000000 in
theorem from_step (w : World) (hn : xs.length ≤ 12) (h : Nat) (hh : h < xs.length) (hok : HpOk b xs[h]) (hse : 0 ≤ b.sl.settle ∧ b.sl.settle ≤ 30) (hfit : Fit (atF xs f h) (300 + 95 * h))
    (hW : ∀ (m : Nat) (V : World), m < 2000 → LtS H hcap S scap b P pcap A c xs f B Cc Kn Fr Wi Mb w V → Calls Tryd.prog 119 #[.int .i64 h, .int .i64 m, .pointer (some ⟨Cc, 0, none⟩), .pointer (some ⟨Fr, 0, none⟩), .pointer (some ⟨B, 0, none⟩)] V (LtQ H hcap S scap b P pcap A c xs f B Cc Kn Fr Wi Mb w V (wS xs f h m)))
    (l : Nat) (hl : atF xs f h l = true) (V : World) (hS : LtS H hcap S scap b P pcap A c xs f B Cc Kn Fr Wi Mb w V) :
    Calls Tryd.prog 121 #[.agg #[.int .i64 h, .int .i64 l], .pointer (some ⟨B, 0, none⟩), .pointer (some ⟨Kn, 0, none⟩), .pointer (some ⟨Wi, 0, none⟩)] V (LtQ H hcap S scap b P pcap A c xs f B Cc Kn Fr Wi Mb w V (oS xs f h l)) := by
 have hl2 : l ≤ 300 + 95 * h := hfit l hl
 have hl3 : l ≤ 1440 := by omega
 have hhI : (h : Int) < xs.length := by omega
 have HNE : Hid (¬ (h : Int) = xs.length) := hid (by omega)
 have hn9 : (xs.length : Int) ≤ 9223372036854775807 := by omega
 have HO := hid fun (W : World) => over_any H hcap S scap b P xs.length pcap W
 have HW := hid hW
 have HOS := hid (oS_eq xs f hh l)
 have HOL := hid (oS_lt xs f h l hn)
 have HWL := hid fun m => wS_lt xs f h m hn
 have hsm : Small [xs[h]] := fun y hy => by
  rw [List.mem_singleton.1 hy]
  exact ⟨hok.small, by rw [hok.sl]; exact hse.1⟩
 have HLN := hid fun (n : Int) (hn : n ∈ xs[h].brings) => loN_eq hsm (l := l) hn
 have HSM := hid hok.small
 have hbl := hok.brings
 have HSE : Hid (0 ≤ xs[h].sl.settle ∧ xs[h].sl.settle ≤ 30) := hid (by rw [hok.sl]; exact hse)
 clear hW hok hse hfit hl hsm
 refine enterE Tryd.func121 rfl Tryd.ntmps121 (by simp) (fun a hE => ?_); simp only [envOf, Nat.zero_add, Nat.reduceAdd] at hE
 refine Ks ?_
 refine Rs 2 fun Q' K hK => ?_
 refine M1 hE 0 fun K' J ρ q0 => ?_; go_simp
 refine Ln hE J fun _ Eb => ?_; clear J K' hE a q0
 refine M0 fun K' J ρ => ?_; go_simp;
 refine Ln Eb J fun _ Ea => ?_; clear J K' Eb
 refine Ld [1, 2, 3, 4] Ea hK fun a hE => ?_; clear hK K Q' Ea
 obtain ⟨Q, hQe⟩ : ∃ B, B = V.heap.size := ⟨_, rfl⟩; rw [← hQe] at hE; refine world_cut (fun wt => Below V.heap.size V wt ∧ Cells wt Q [.int .i64 h, .int .i64 l]) ⟨(Below.refl _ _).alloc (Nat.le_refl _) _, by rw [hQe]; exact cells_new _ _ _⟩ (fun w1 hCut => ?_); obtain ⟨hbw1, hCQ⟩ := hCut; clear hQe
 have hCBb := hS.cb.below hbw1
 obtain ⟨nQ, cQ0, cQ1⟩ := hCQ.c2
 refine Ks ?_
 refine Rd [] (fun wt => Below w1.heap.size w1 wt) (fun w1 w2 => Below w1.heap.size w1 w2) [(0, some 13), (1, some 14), (2, some 15), (3, some 16)] [13, 14, 15, 16] #[true, true, true, true] [1, 2, 3, 4] hE ((Below.refl _ _).drew) fun Q' K hK => ?_
 refine SeqOps.val ?_ (Sp fun ax wx hS hT' hd K' J => ?_) ?_; rotate_left 1
 ·have r4 := hS.at 4 (by decide) (hE.at 4 rfl); obtain ⟨_, _, _, _, _, _⟩ := bT hT'
  refine o1 r4 fun ρ q4 => ?_; go_simp;
  exact Jo J hT'
 refine SeqOps.val ?_ (Sp fun ax wx hS hT' hd K' J => ?_) ?_; rotate_left 1
 ·have r1 := hS.at 1 (by decide) (hE.at 1 rfl); obtain ⟨_, _, _, _, _, _⟩ := bT hT'
  refine wp_load_mid 85 (.tmp 1) rfl B 0 (eval_of r1) (bkV H hcap S scap b P xs.length pcap) _ (fun j u hu => by rw [Nat.zero_add]; exact (hCBb.below hT').2 j u hu) Tryd.underlying85 rfl (by kernel_rfl) ?_
  refine J.out _ _ _ rfl ?_ hT' (Below.refl _ _); rfl
 refine SeqOps.val ?_ (Sp fun ax wx hS hT' hd K' J => ?_) ?_; rotate_left 1
 ·have r14 := Tv hd 0 1 14; obtain ⟨_, _, _, _, _, _⟩ := bT hT'
  refine o1 r14 fun ρ q14 => ?_; go_simp; (try go_bits);
  go_at_call 122; refine (HO.out _).mono ?_; rintro e g1 ⟨rfl, k1⟩
  refine J.out _ _ _ rfl ?_ (hT'.trans (k1.mono hT'.size)) k1; rfl
 refine SeqOps.val ?_ (Sp fun ax wx hS hT' hd K' J => ?_) ?_; rotate_left 1
 ·have r13 := Tv hd 2 0 13; have r15 := Tv hd 0 2 15; obtain ⟨_, _, _, _, _, _⟩ := bT hT'
  refine o2 r13 r15 fun ρ q13 q15 => ?_; go_simp; (try go_bits);
  rw [if_neg HNE.out]; refine J.out _ _ _ rfl ?_ hT' (Below.refl _ _); rfl
 refine SeqOps.nil ?_
 intro w2 hBm; (repeat refine Ek ?_)
 refine fun amx hEmx => ?_
 simp only [lk, pick, Nat.reduceEqDiff, ↓reduceIte] at hEmx
 refine Ld [1, 2, 3, 4, 16] hEmx hK fun a hE => ?_; clear hK K Q' hEmx
 have hbw2 := hbw1.trans (hBm.mono hbw1.size)
 replace hCQ := hCQ.below hBm
 clear nQ cQ0 cQ1
 obtain ⟨nQ, cQ0, cQ1⟩ := hCQ.c2
 have hS2 := hS.on hbw2
 have ck0 := hS2.ck.2 0 _ rfl
 have nKn := hS2.ck.1
 obtain ⟨cv, ok, hlook, hcv⟩ := hS2.memo.lookup h l (by omega) (by omega)
 have HCV := hid hcv
 clear hcv
 refine Ks ?_
 refine cond_no hE (t := 16) rfl ?_
 refine Ks ?_
 refine Rs 8 fun Q' K hK => ?_
 refine M1 hE 2 fun K' J ρ q2 => ?_; go_simp
 refine Ln hE J fun _ Eb => ?_; clear J K' hE a q2
 refine M1 Eb 4 fun K' J ρ q4 => ?_; go_simp
 refine Ln Eb J fun _ Ea => ?_; clear J K' Eb q4
 refine M2 Ea 18 19 fun K' J ρ q18 q19 => ?_; go_simp
 refine Ln Ea J fun _ Eb => ?_; clear J K' Ea q18 q19
 refine M1 Eb 20 fun K' J ρ q20 => ?_; go_simp
 refine Ln Eb J fun _ Ea => ?_; clear J K' Eb q20
 refine M1 Ea 17 fun K' J ρ q17 => ?_; go_simp
 refine Ln Ea J fun _ Eb => ?_; clear J K' Ea q17
 refine M1 Eb 17 fun K' J ρ q17 => ?_; go_simp
 refine Ln Eb J fun _ Ea => ?_; clear J K' Eb q17
 refine M1 Ea 21 fun K' J ρ q21 => ?_; go_simp
 refine Ln Ea J fun _ Eb => ?_; clear J K' Ea q21
 refine M1 Eb 22 fun K' J ρ q22 => ?_; go_simp
 refine Ln Eb J fun _ Ea => ?_; clear J K' Eb q22
 refine Ld [1, 2, 3, 4, 6, 7] Ea hK fun a hE => ?_; clear hK K Q' Ea
 clear hlook
 cases hv : ok
 ·rw [hv] at hE
  have cb9 := hS2.cb.2 9 _ rfl
  have nB := hS2.cb.1
  obtain ⟨bx, ox, S', sc, G, gc, hPe, hbx, hrx, hMx⟩ := hS2.hp h hh
  obtain ⟨x, hx⟩ : ∃ x, xs[h] = x := ⟨_, rfl⟩
  rw [hx] at hrx hMx HOS HLN HSM hbl HSE
  clear hx hv HCV
  have hPs := hPe
  subst hPe
  refine Ks ?_
  refine Rs 1 fun Q' K hK => ?_
  refine M1 hE 7 fun K' J ρ q7 => ?_; go_simp
  refine Ln hE J fun _ Eb => ?_; clear J K' hE a q7
  replace Eb := Eb.turn 23 (v' := .bool false) rfl (by (first | rfl | simp))
  refine Ld [1, 2, 3, 4, 6, 23] Eb hK fun a hE => ?_; clear hK K Q' Eb
  refine Ks ?_
  refine cond_no hE (t := 23) rfl ?_
  refine Ks ?_
  refine Rs 1 fun Q' K hK => ?_
  refine M0 fun K' J ρ => ?_; go_simp;
  refine Ln hE J fun _ Eb => ?_; clear J K' hE a
  refine Ld [1, 2, 3, 4, 8] Eb hK fun a hE => ?_; clear hK K Q' Eb
  refine Ks ?_
  refine Rs 8 fun Q' K hK => ?_
  refine M1 hE 1 fun K' J ρ q1 => ?_; go_simp
  refine Ln hE J fun _ Eb => ?_; clear J K' hE a q1
  refine M1 Eb 25 fun K' J ρ q25 => ?_; go_simp
  refine Ln Eb J fun _ Ea => ?_; clear J K' Eb q25
  refine M1 Ea 4 fun K' J ρ q4 => ?_; go_simp
  refine Ln Ea J fun _ Eb => ?_; clear J K' Ea q4
  refine M1 Eb 27 fun K' J ρ q27 => ?_; go_simp
  refine Ln Eb J fun _ Ea => ?_; clear J K' Eb q27
  refine M2 Ea 26 28 fun K' J ρ q26 q28 => ?_; go_simp; (try go_bits)
  refine Ln Ea J fun _ Eb => ?_; clear J K' Ea q26 q28
  refine Lp fun K' J => ?_
  have r29 := Eb.at 29 rfl
  refine wp_load_mid 113 (.tmp 29) rfl bx (ox + h * 13) (eval_of r29) (hpV S' sc G gc x) _ hrx Tryd.underlying113 rfl (by kernel_rfl) ?_
  (try clear r29)
  refine Ln Eb J fun _ Ea => ?_; clear J K' Eb
  refine M0 fun K' J ρ => ?_; go_simp;
  refine Ln Ea J fun _ Eb => ?_; clear J K' Ea
  refine Lp fun K' J => ?_
  have r9 := Eb.at 9 rfl; have r30 := Eb.at 30 rfl
  refine wp_store_mid 113 (.tmp 9) (.tmp 30) rfl w2.heap.size 0 (hpV S' sc G gc x).toArray (eval_of r9) (eval_of r30) (there_row (row_new w2 _ _) (Nat.le_of_eq rfl)) (by kernel_rfl) (by kernel_rfl) ?_
  (try clear r9 r30)
  refine late_skip Eb J (fun _ Ea => ?_); clear J K'; clear Eb
  refine Ld [2, 3, 4, 8, 9] Ea hK fun a hE => ?_; clear hK K Q' Ea
  obtain ⟨Hq, hHq⟩ : ∃ B, B = w2.heap.size := ⟨_, rfl⟩
  rw [← hHq] at hE
  refine world_cut (fun wt => Below w2.heap.size w2 wt ∧ Cells wt Hq (hpV S' sc G gc x)) (by rw [hHq]; exact boxed_new w2 #[.int .i64 0, .int .i64 0, .int .i64 0, .int .i64 0, .int .i64 0, .int .i64 0, .int .i64 0, .int .i64 0, .int .i64 0, .int .i64 0, .int .i64 0, .slice none 0 0, .slice none 0 0] 113 (hpV S' sc G gc x) rfl) (fun w3 hCut => ?_)
  obtain ⟨h3, hCH⟩ := hCut
  have hS3 := hS2.on h3
  have hMx3 := hMx.below h3
  have e12 := hCH.2 12 _ rfl
  clear hHq hrx hMx
  have hbw3 := hbw2.trans (h3.mono hbw2.size)
  replace hCQ := hCQ.below h3
  clear nQ cQ0 cQ1
  obtain ⟨nQ, cQ0, cQ1⟩ := hCQ.c2
  refine Ks ?_
  refine Rs 4 fun Q' K hK => ?_
  refine M1 hE 9 fun K' J ρ q9 => ?_; go_simp
  refine Ln hE J fun _ Eb => ?_; clear J K' hE a q9
  refine M1 Eb 31 fun K' J ρ q31 => ?_; go_simp
  refine Ln Eb J fun _ Ea => ?_; clear J K' Eb q31
  refine M1 Ea 32 fun K' J ρ q32 => ?_; go_simp; (try go_bits)
  refine Ln Ea J fun _ Eb => ?_; clear J K' Ea q32
  refine M0 fun K' J ρ => ?_; go_simp;
  refine Ln Eb J fun _ Ea => ?_; clear J K' Eb
  refine Ld [2, 3, 4, 8, 9, 32, 33, 34] Ea hK fun a hE => ?_; clear hK K Q' Ea
  refine Ks ?_
  have hQ3 := hCQ
  have hK3 : KeepX (fun q => q = Mb) V w3 := .of_below hbw3
  clear nQ cQ0 cQ1 e12 nB cb9 ck0 nKn hCQ
  refine loop_st (fun (k : Nat) a w' => k ≤ x.brings.length ∧ Fits 55 [(2, .pointer (some ⟨Kn, 0, none⟩)), (3, .pointer (some ⟨Wi, 0, none⟩)), (4, .pointer (some ⟨Q, 0, none⟩)), (8, .int .u64 ((x.brings.take k).foldl (fun acc n => acc ||| wS xs f h (loN x l n)) 0 : Nat)), (9, .pointer (some ⟨Hq, 0, none⟩)), (32, .slice G x.brings.length gc), (33, .int .i64 x.brings.length), (34, .int .i64 k)] a ∧ KeepX (fun q => q = Mb) V w' ∧ LtS H hcap S scap b (some ⟨bx, ox, none⟩) pcap A c xs f B Cc Kn Fr Wi Mb w w' ∧ Cells w' Q [.int .i64 h, .int .i64 l] ∧ Cells w' Hq (hpV S' sc G gc x) ∧ HpAt w' S' G x ∧ (x.brings.take k).foldl (fun acc n => acc ||| wS xs f h (loN x l n)) 0 < 16384) (fun k => x.brings.length - k) 0 ⟨Nat.zero_le _, by simpa using hE, hK3, hS3, hQ3, hCH, hMx3, by simp⟩ (fun k a wr hI => ?_)
  clear hE hS3 hMx3 hQ3 hCH hK3
  obtain ⟨hk, hE, hK, hSr, hCQ, hCH, hMx, hacc⟩ := hI
  have nQ := hCQ.1
  have cQ0 := hCQ.2 0 _ rfl
  have cQ1 := hCQ.2 1 _ rfl
  by_cases hlt : k < x.brings.length
  ·have hltI : (k : Int) < x.brings.length := by omega
   have hb9 : (x.brings.length : Int) ≤ 9223372036854775807 := by omega
   obtain ⟨bg, og, hGe, hbg, g0⟩ := hMx.2.int hlt
   have HST : Hid ((x.brings.take (k + 1)).foldl (fun acc n => acc ||| wS xs f h (loN x l n)) 0 = (x.brings.take k).foldl (fun acc n => acc ||| wS xs f h (loN x l n)) 0 ||| wS xs f h (loN x l x.brings[k])) := hid (by
    rw [List.take_succ_eq_append_getElem hlt, List.foldl_append]; rfl)
   have hsm := HSM.out _ (List.getElem_mem hlt)
   have hln := HLN.out _ (List.getElem_mem hlt)
   obtain ⟨n, hne⟩ : ∃ n, x.brings[k] = n := ⟨_, rfl⟩
   rw [hne] at g0 HST hsm hln
   clear hne
   obtain ⟨m, hm⟩ : ∃ m, loN x l n = m := ⟨_, rfl⟩
   rw [hm] at HST hln
   clear hm
   have hs12 := HSE.out
   have hm2 : m < 2000 := by omega
   have HLo := hid (fun (W : World) => load_any S' sc G gc x l n W ⟨by omega, by omega⟩ ⟨by omega, by omega⟩ HSE.out)
   rw [← hln] at HLo
   obtain ⟨ac, hac⟩ : ∃ ac, (x.brings.take k).foldl (fun acc n => acc ||| wS xs f h (loN x l n)) 0 = ac := ⟨_, rfl⟩
   rw [hac] at hE hacc HST
   obtain ⟨wv, hwv⟩ : ∃ wv, wS xs f h m = wv := ⟨_, rfl⟩
   have HWm := hid fun (V : World) hV => HW.out m V hm2 hV
   have hwl := HWL.out m
   rw [hwv] at HWm HST hwl
   clear hac hwv hln hsm hs12
   have cw0 := hSr.cw.2 0 _ rfl
   have nWi := hSr.cw.1
   have HGC := hid hGe
   subst hGe
   refine Ks ?_
   refine Rs 1 fun Q' K hK => ?_
   refine M2 hE 34 33 fun K' J ρ q34 q33 => ?_; go_simp; (try go_bits)
   refine Ln hE J fun _ Eb => ?_; clear J K' hE a q34 q33
   replace Eb := Eb.turn 35 (v' := .bool true) rfl (by (first | (simp; done) | (simp; omega)))
   refine Ld [2, 3, 4, 8, 9, 32, 33, 34, 35] Eb hK fun a hE => ?_; clear hK K Q' Eb
   refine Ks ?_
   refine cond_yes hE (t := 35) rfl ?_
   refine Ks ?_
   refine Rs 3 fun Q' K hK => ?_
   refine M2 hE 32 34 fun K' J ρ q32 q34 => ?_; go_simp; (try go_bits)
   refine Ln hE J fun _ Eb => ?_; clear J K' hE a q32 q34
   refine M1 Eb 36 fun K' J ρ q36 => ?_; go_simp
   refine Ln Eb J fun _ Ea => ?_; clear J K' Eb q36
   refine M1 Ea 37 fun K' J ρ q37 => ?_; go_simp
   refine Ln Ea J fun _ Eb => ?_; clear J K' Ea q37
   refine Ld [2, 3, 4, 8, 9, 11, 32, 33, 34] Eb hK fun a hE => ?_; clear hK K Q' Eb
   refine Ks ?_
   refine Rd [8, 9] (fun wt => Below wr.heap.size wr wt) (fun w1 w2 => Below w1.heap.size w1 w2) [(0, some 38), (1, some 39), (2, some 40), (3, some 41), (4, some 42), (5, some 43), (6, some 44), (7, some 45)] [38, 39, 40, 41, 42, 43, 44, 45] #[true, true, true, true, true, true, true, true, false, false] [2, 3, 4, 8, 9, 12, 32, 33, 34] hE ((Below.refl _ _).drew) fun Q' K hK => ?_
   refine SeqOps.val ?_ (Sp fun ax wx hS hT' hd K' J => ?_) ?_; rotate_left 1
   ·have r3 := hS.at 3 (by decide) (hE.at 3 rfl); obtain ⟨_, _, _, _, _, _⟩ := bT hT'
    refine o1 r3 fun ρ q3 => ?_; go_simp;
    exact Jo J hT'
   refine SeqOps.val ?_ (Sp fun ax wx hS hT' hd K' J => ?_) ?_; rotate_left 1
   ·have r4 := hS.at 4 (by decide) (hE.at 4 rfl); obtain ⟨_, _, _, _, _, _⟩ := bT hT'
    refine o1 r4 fun ρ q4 => ?_; go_simp;
    exact Jo J hT'
   refine SeqOps.val ?_ (Sp fun ax wx hS hT' hd K' J => ?_) ?_; rotate_left 1
   ·have r39 := Tv hd 0 1 39; obtain ⟨_, _, _, _, _, _⟩ := bT hT'
    refine o1 r39 fun ρ q39 => ?_; go_simp;
    exact Jo J hT'
   refine SeqOps.val ?_ (Sp fun ax wx hS hT' hd K' J => ?_) ?_; rotate_left 1
   ·have r9 := hS.at 9 (by decide) (hE.at 9 rfl); obtain ⟨_, _, _, _, _, _⟩ := bT hT'
    refine wp_load_mid 113 (.tmp 9) rfl Hq 0 (eval_of r9) (hpV S' sc (some ⟨bg, og, none⟩) gc x) _ (fun j u hu => by rw [Nat.zero_add]; exact (hCH.below hT').2 j u hu) Tryd.underlying113 rfl (by kernel_rfl) ?_
    refine J.out _ _ _ rfl ?_ hT' (Below.refl _ _); rfl
   refine SeqOps.val ?_ (Sp fun ax wx hS hT' hd K' J => ?_) ?_; rotate_left 1
   ·have r4 := hS.at 4 (by decide) (hE.at 4 rfl); obtain ⟨_, _, _, _, _, _⟩ := bT hT'
    refine o1 r4 fun ρ q4 => ?_; go_simp;
    exact Jo J hT'
   refine SeqOps.val ?_ (Sp fun ax wx hS hT' hd K' J => ?_) ?_; rotate_left 1
   ·have r42 := Tv hd 0 4 42; obtain ⟨_, _, _, _, _, _⟩ := bT hT'
    refine o1 r42 fun ρ q42 => ?_; go_simp;
    exact Jo J hT'
   refine SeqOps.val ?_ (Sp fun ax wx hS hT' hd K' J => ?_) ?_; rotate_left 1
   ·have r11 := hS.at 11 (by decide) (hE.at 11 rfl); obtain ⟨_, _, _, _, _, _⟩ := bT hT'
    refine o1 r11 fun ρ q11 => ?_; go_simp;
    exact Jo J hT'
   refine SeqOps.val ?_ (Sp fun ax wx hS hT' hd K' J => ?_) ?_; rotate_left 1
   ·have r41 := Tv hd 3 3 41; have r43 := Tv hd 1 5 43; have r44 := Tv hd 0 6 44; obtain ⟨_, _, _, _, _, _⟩ := bT hT'
    refine o3 r41 r43 r44 fun ρ q41 q43 q44 => ?_; go_simp; (try go_bits);
    go_at_call 123; refine (HLo.out _).mono ?_; rintro e g1 ⟨rfl, k1⟩
    refine J.out _ _ _ rfl ?_ (hT'.trans (k1.mono hT'.size)) k1; rfl
   refine SeqOps.nil ?_
   intro w4 hBn; (repeat refine Ek ?_)
   refine fun anx hEnx => ?_
   simp only [lk, pick, Nat.reduceEqDiff, ↓reduceIte] at hEnx
   refine M3 hEnx 38 40 45 fun K' J ρ q38 q40 q45 => ?_; go_simp; (try go_bits); (try clear q38 q40 q45)
   go_at_call 119; refine (HWm.out _ (hSr.on hBn)).mono ?_; rintro e w5 ⟨rfl, hK5, hS5⟩
   (try clear r38 r40 r45)
   refine Ln hEnx J fun an_1 hEn_1 => ?_; clear J K' hEnx
   refine M1 hEn_1 46 fun K' J ρ q46 => ?_; go_simp; (try clear q46)
   refine Ln hEn_1 J fun an_2 hEn_2 => ?_; clear J K' hEn_1
   refine Ld [2, 3, 4, 8, 9, 12, 32, 33, 34] hEn_2 hK fun a hE => ?_; clear hK K Q' hEn_2
   have hKm : KeepX (fun q => q = Mb) wr w5 := (KeepX.of_below hBn).trans hK5
   have hKc := hSr.keepC hKm
   refine Ks ?_
   refine Rs 4 fun Q' K hK => ?_
   refine M1 hE 8 fun K' J ρ q8 => ?_; go_simp
   refine Ln hE J fun _ Eb => ?_; clear J K' hE a q8
   refine M1 Eb 12 fun K' J ρ q12 => ?_; go_simp
   refine Ln Eb J fun _ Ea => ?_; clear J K' Eb q12
   refine M2 Ea 47 48 fun K' J ρ q47 q48 => ?_; go_simp; (try go_bits)
   refine Ln Ea J fun _ Eb => ?_; clear J K' Ea q47 q48
   refine M1 Eb 49 fun K' J ρ q49 => ?_; go_simp
   refine Ln Eb J fun _ Ea => ?_; clear J K' Eb q49
   refine Ld [2, 3, 4, 8, 9, 32, 33, 34] Ea hK fun a hE => ?_; clear hK K Q' Ea
   refine Ks ?_
   refine Rs 2 fun Q' K hK => ?_
   refine M1 hE 34 fun K' J ρ q34 => ?_; go_simp; (try go_bits); (try simp (disch := omega) only [IntWalk.i64_in])
   refine Ln hE J fun _ Eb => ?_; clear J K' hE a q34
   refine M1 Eb 50 fun K' J ρ q50 => ?_; go_simp
   refine Ln Eb J fun _ Ea => ?_; clear J K' Eb q50
   refine Ld [2, 3, 4, 8, 9, 32, 33, 34] Ea hK fun a hE => ?_; clear hK K Q' Ea
   refine Ks ?_
   exact ⟨k + 1, ⟨hlt, by rw [HST.out, ← or_nat _ _ (by omega) (by omega)]; simpa using hE, hK.trans hKm, hS5, hCQ.c hKc, hCH.c hKc, hMx.c hKc, by rw [HST.out]; exact Nat.or_lt_two_pow (n := 14) hacc hwl⟩, by omega⟩
  ·have hke : k = x.brings.length := by omega
   subst hke
   rw [List.take_length, ← HOS.out] at hE
   have ck0 := hSr.ck.2 0 _ rfl
   have nKn := hSr.ck.1
   obtain ⟨w9, hrun, hm9, hg9⟩ := hSr.memo.store (hr := h) (l := l) (by omega) (by omega) (by have := HOL.out; omega)
   have hK9 := grown_keep hg9
   refine Ks ?_
   refine Rs 1 fun Q' K hK => ?_
   refine M2 hE 34 33 fun K' J ρ q34 q33 => ?_; go_simp; (try go_bits)
   refine Ln hE J fun _ Eb => ?_; clear J K' hE a q34 q33
   replace Eb := Eb.turn 35 (v' := .bool false) rfl (by simp)
   refine Ld [2, 3, 4, 8, 9, 32, 33, 34, 35] Eb hK fun a hE => ?_; clear hK K Q' Eb
   refine Ks ?_
   refine cond_no hE (t := 35) rfl ?_
   refine Ks ?_
   refine Rs 4 fun Q' K hK => ?_
   refine M1 hE 2 fun K' J ρ q2 => ?_; go_simp
   refine Ln hE J fun _ Eb => ?_; clear J K' hE a q2
   refine M1 Eb 4 fun K' J ρ q4 => ?_; go_simp
   refine Ln Eb J fun _ Ea => ?_; clear J K' Eb q4
   refine M1 Ea 8 fun K' J ρ q8 => ?_; go_simp
   refine Ln Ea J fun _ Eb => ?_; clear J K' Ea q8
   refine M3 Eb 51 52 53 fun K' J ρ q51 q52 q53 => ?_; go_simp; (try clear q51 q52 q53)
   refine late_skip Eb J (fun _ Ea => ?_); clear J K'; clear Eb
   refine Ld [8] Ea hK fun a hE => ?_; clear hK K Q' Ea
   refine Ks ?_
   refine Rs 2 fun Q' K hK => ?_
   refine M1 hE 8 fun K' J ρ q8 => ?_; go_simp
   refine Ln hE J fun _ Eb => ?_; clear J K' hE a q8
   refine M1 Eb 54 fun K' J ρ q54 => ?_; go_simp
   refine Ln Eb J fun _ Ea => ?_; clear J K' Eb q54
   refine Ld [5] Ea hK fun a hE => ?_; clear hK K Q' Ea
   refine Ks ?_
   exact ret_one hE rfl rfl ⟨rfl, hK.trans hK9, hSr.step hK9 hm9⟩
 ·rw [hv] at hE
  have hc := HCV.out hv
  rw [hc] at hE
  refine Ks ?_
  refine Rs 1 fun Q' K hK => ?_
  refine M1 hE 7 fun K' J ρ q7 => ?_; go_simp
  refine Ln hE J fun _ Eb => ?_; clear J K' hE a q7
  replace Eb := Eb.turn 23 (v' := .bool true) rfl (by (first | rfl | simp))
  refine Ld [1, 2, 3, 4, 6, 23] Eb hK fun a hE => ?_; clear hK K Q' Eb
  refine Ks ?_
  refine cond_yes hE (t := 23) rfl ?_
  refine Ks ?_
  refine Rs 2 fun Q' K hK => ?_
  refine M1 hE 6 fun K' J ρ q6 => ?_; go_simp
  refine Ln hE J fun _ Eb => ?_; clear J K' hE a q6
  refine M1 Eb 24 fun K' J ρ q24 => ?_; go_simp
  refine Ln Eb J fun _ Ea => ?_; clear J K' Eb q24
  refine Ld [5] Ea hK fun a hE => ?_; clear hK K Q' Ea
  refine Ks ?_
  exact ret_one hE rfl rfl ⟨rfl, .of_below hbw2, hS2⟩
end
section
variable {H : Option Addr} {hcap : Nat} {S : Option Addr} {scap : Nat} {b : Sb} {P : Option Addr} {pcap : Nat} {A : Option Addr} {c : Nat} {B Cc Kn Fr Wi Mb : Nat}
/-- both closures, from the last hour back -/
theorem later_all (hb : OkB b) (w : World) : ∀ (r h : Nat), h + r = (hpsOf b).length → 
    (∀ (l : Nat) (V : World), LtS H hcap S scap b P pcap A c (hpsOf b) (f0 b) B Cc Kn Fr Wi Mb w V → (h < (hpsOf b).length → atF (hpsOf b) (f0 b) h l = true) → Calls Tryd.prog 121 #[.agg (if h = (hpsOf b).length then #[.int .i64 (hpsOf b).length, .int .i64 0] else #[.int .i64 h, .int .i64 l]), .pointer (some ⟨B, 0, none⟩), .pointer (some ⟨Kn, 0, none⟩), .pointer (some ⟨Wi, 0, none⟩)] V (LtQ H hcap S scap b P pcap A c (hpsOf b) (f0 b) B Cc Kn Fr Wi Mb w V (oS (hpsOf b) (f0 b) h l))) ∧
    (h < (hpsOf b).length → ∀ (m : Nat) (V : World), m < 2000 → LtS H hcap S scap b P pcap A c (hpsOf b) (f0 b) B Cc Kn Fr Wi Mb w V → Calls Tryd.prog 119 #[.int .i64 h, .int .i64 m, .pointer (some ⟨Cc, 0, none⟩), .pointer (some ⟨Fr, 0, none⟩), .pointer (some ⟨B, 0, none⟩)] V (LtQ H hcap S scap b P pcap A c (hpsOf b) (f0 b) B Cc Kn Fr Wi Mb w V (wS (hpsOf b) (f0 b) h m)))
 | 0, h, he => by
  have h12 : (hpsOf b).length ≤ 12 := by rw [hpsOf_length]; exact hb.hours.2
  refine ⟨fun l V hS _ => ?_, fun h1 => by omega⟩
  rw [if_pos (by omega), oS_end _ _ (by omega)]
  exact from_over w h12 V hS
 | r + 1, h, he => by
  have h12 : (hpsOf b).length ≤ 12 := by rw [hpsOf_length]; exact hb.hours.2
  have hh : h < (hpsOf b).length := by omega
  have ih := later_all hb w r (h + 1) (by omega)
  have hW := with_step (H := H) (hcap := hcap) (S := S) (scap := scap) (b := b) (P := P) (pcap := pcap) (A := A) (c := c) (B := B) (Cc := Cc) (Kn := Kn) (Fr := Fr) (Wi := Wi) (Mb := Mb) w h12 h hh ih.1
  refine ⟨fun l V hS hl => ?_, fun _ m V h1 h2 => hW m h1 V h2⟩
  rw [if_neg (by omega)]
  exact from_step w h12 h hh (hps_ok hb hh) hb.settle (at_fit _ _ 300 h (by omega) (f0_fit hb) (small_of hb)) (fun m V h1 h2 => hW m h1 V h2) l (hl hh) V hS
variable (H hcap S scap b P pcap A c)
set_option maxRecDepth 100000 in
set_option maxHeartbeats 1000000 in
theorem later_any (xs : List Hp) (f : Nat → Bool) (w : World) (hP : HpsAt w P xs) (hA : ArrD w A (crV (crsF xs f))) : Calls Tryd.prog 101 #[.agg (bkV H hcap S scap b P xs.length pcap).toArray, .slice A xs.length c] w fun e w' => ∃ B Cc Kn Fr Wi Mb, e = .returned (.func (.func 119) #[] #[.pointer (some ⟨Cc, 0, none⟩), .pointer (some ⟨Fr, 0, none⟩), .pointer (some ⟨B, 0, none⟩)]) ∧ LtS H hcap S scap b P pcap A c xs f B Cc Kn Fr Wi Mb w w' ∧ ∀ g, g = B ∨ g = Cc ∨ g = Kn ∨ g = Fr ∨ g = Wi ∨ g = Mb → w.heap.size ≤ g ∧ g < w'.heap.size := by
 refine enterE Tryd.func101 rfl Tryd.ntmps101 (by simp) (fun a hE => ?_); simp only [envOf, Nat.zero_add, Nat.reduceAdd] at hE
 refine Ks ?_
 refine Rs 3 fun Q' K hK => ?_
 refine M1 hE 0 fun K' J ρ q0 => ?_; go_simp
 refine Ln hE J fun _ Eb => ?_; clear J K' hE a q0
 refine M1 Eb 1 fun K' J ρ q1 => ?_; go_simp
 refine Ln Eb J fun _ Ea => ?_; clear J K' Eb q1
 refine M0 fun K' J ρ => ?_; go_simp;
 refine Ln Ea J fun _ Eb => ?_; clear J K' Ea
 refine Ld [2, 3] Eb hK fun a hE => ?_; clear hK K Q' Eb
 obtain ⟨B, hB⟩ : ∃ B, B = w.heap.size := ⟨_, rfl⟩
 obtain ⟨Cc, hC⟩ : ∃ B, B = w.heap.size + 1 := ⟨_, rfl⟩
 rw [← hC, ← hB] at hE
 refine world_cut (fun wt => Below w.heap.size w wt ∧ Cells wt B (bkV H hcap S scap b P xs.length pcap) ∧ Cells wt Cc [.slice A xs.length c]) (by rw [hB, hC]; exact cells_two w _ _ _ _) (fun w1 hCut => ?_)
 obtain ⟨hbw1, hCB, hCC⟩ := hCut
 have hgB : w.heap.size ≤ B := by omega
 have hgC : w.heap.size ≤ Cc := by omega
 clear hB hC
 refine Ks ?_
 refine Rs 3 fun Q' K hK => ?_
 refine M0 fun K' J ρ => ?_; go_simp;
 refine Ln hE J fun _ Eb => ?_; clear J K' hE a
 refine M0 fun K' J ρ => ?_; go_simp;
 refine Ln Eb J fun _ Ea => ?_; clear J K' Eb
 refine M2 Ea 5 8 fun K' J ρ q5 q8 => ?_; go_simp; (try clear q5 q8)
 refine late_skip Ea J (fun _ Eb => ?_); clear J K'; clear Ea
 refine Ld [2, 3, 5] Eb hK fun a hE => ?_; clear hK K Q' Eb
 obtain ⟨Mb, hMb⟩ : ∃ B, B = w1.heap.size := ⟨_, rfl⟩
 obtain ⟨Kn, hKn⟩ : ∃ B, B = w1.heap.size + 1 := ⟨_, rfl⟩
 rw [← hKn] at hE
 refine world_cut (fun wt => Below w1.heap.size w1 wt ∧ Memo wt Mb (oS xs f) ∧ Cells wt Kn [.map (some Mb)]) ?_ (fun w2 hCut => ?_)
 ·have q1 : Below (w1.alloc (.map #[] 0)).heap.size (w1.alloc (.map #[] 0)) ((w1.alloc (.map #[] 0)).alloc (.cells #[.map (some w1.heap.size)] 157)) := (Below.refl _ _).alloc (Nat.le_refl _) _
  have q2 := cells_new (w1.alloc (.map #[] 0)) #[.map (some w1.heap.size)] 157
  rw [World.size_alloc] at q2
  rw [hMb, hKn]
  exact ⟨((Below.refl _ _).alloc (Nat.le_refl _) _).trans (q1.mono (by simp)), (Memo.made w1 _).of_block (q1.block _ (by simp)), q2⟩
 obtain ⟨h2, hMe, hCK⟩ := hCut
 have hsM := hbw1.size
 have hgM : w.heap.size ≤ Mb := by omega
 have hgK : w.heap.size ≤ Kn := by omega
 have hCB2 := hCB.below h2
 have hCC2 := hCC.below h2
 clear hMb hKn
 have hbw2 := hbw1.trans (h2.mono hbw1.size)
 refine Ks ?_
 refine Rs 1 fun Q' K hK => ?_
 refine M0 fun K' J ρ => ?_; go_simp;
 refine Ln hE J fun _ Eb => ?_; clear J K' hE a
 refine Ld [2, 3, 5, 6] Eb hK fun a hE => ?_; clear hK K Q' Eb
 obtain ⟨Fr, hFre⟩ : ∃ B, B = w2.heap.size := ⟨_, rfl⟩; have hnFr : w2.heap.size ≤ Fr := Nat.le_of_eq hFre.symm; rw [← hFre] at hE; refine world_cut (fun wt => Below w2.heap.size w2 wt ∧ Fr < wt.heap.size ∧ Row wt Fr [.nilFunc]) ⟨(Below.refl _ _).alloc (Nat.le_refl _) _, by rw [hFre]; simp, by rw [hFre]; exact row_new _ _ _⟩ (fun w3 hCut => ?_); obtain ⟨hbw3, hlFr, hRFr⟩ := hCut; clear hFre
 have h3 := hbw3
 have hbw3 := hbw2.trans (h3.mono hbw2.size)
 refine Ks ?_
 refine Rs 3 fun Q' K hK => ?_
 refine M3 hE 3 6 2 fun K' J ρ q3 q6 q2 => ?_; go_simp
 refine Ln hE J fun _ Eb => ?_; clear J K' hE a q3 q6 q2
 refine M0 fun K' J ρ => ?_; go_simp;
 refine Ln Eb J fun _ Ea => ?_; clear J K' Eb
 refine M2 Ea 7 9 fun K' J ρ q7 q9 => ?_; go_simp; (try clear q7 q9)
 refine late_skip Ea J (fun _ Eb => ?_); clear J K'; clear Ea
 refine Ld [2, 5, 6, 7] Eb hK fun a hE => ?_; clear hK K Q' Eb
 obtain ⟨Wi, hWi⟩ : ∃ B, B = w3.heap.size := ⟨_, rfl⟩
 rw [← hWi] at hE
 refine world_cut (fun wt => Below w3.heap.size w3 wt ∧ Cells wt Wi [.func (.func 119) #[] #[.pointer (some ⟨Cc, 0, none⟩), .pointer (some ⟨Fr, 0, none⟩), .pointer (some ⟨B, 0, none⟩)]]) ?_ (fun w4 hCut => ?_)
 ·rw [hWi]; exact ⟨(Below.refl _ _).alloc (Nat.le_refl _) _, cells_new w3 _ _⟩
 obtain ⟨h4, hCW⟩ := hCut
 have hRF4 := hRFr.below h4 hlFr
 have hlF4 := Nat.lt_of_lt_of_le hlFr h4.size
 have hz0 := (hRF4 0 _ rfl).1
 have hzw := (hRF4 0 _ rfl).2
 have hFW : Fr < Wi := by omega
 have hgF : w.heap.size ≤ Fr := by have := hbw2.size; omega
 clear hWi
 have hbw4 := hbw3.trans (h4.mono hbw3.size)
 refine Ks ?_
 refine Rs 2 fun Q' K hK => ?_
 refine M3 hE 2 5 7 fun K' J ρ q2 q5 q7 => ?_; go_simp
 refine Ln hE J fun _ Eb => ?_; clear J K' hE a q2 q5 q7
 refine M2 Eb 6 10 fun K' J ρ q6 q10 => ?_; go_simp; (try clear q6 q10)
 refine late_skip Eb J (fun _ Ea => ?_); clear J K'; clear Eb
 refine Ld [7] Ea hK fun a hE => ?_; clear hK K Q' Ea
 have hst : ∀ {G : Nat} {l : List Value}, G ≠ Fr → Cells w4 G l → Cells (w4.setCell ⟨Fr, 0, none⟩ (.func (.func 121) #[] #[.pointer (some ⟨B, 0, none⟩), .pointer (some ⟨Kn, 0, none⟩), .pointer (some ⟨Wi, 0, none⟩)])) G l := fun hne hc => ⟨by simpa using hc.1, fun j u hu => by rw [World.cell?_setCell_other _ _ _ _ (by intro e'; have := congrArg Addr.block e'; simp only at this; exact hne this.symm)]; exact hc.2 j u hu⟩
 have hs3 := h3.size
 have hlB := hCB2.1
 have hlC := hCC2.1
 have hlK := hCK.1
 have hlM := hMe.lt
 have h24 := h3.trans (h4.mono h3.size)
 have hb5 : Below w.heap.size w (w4.setCell ⟨Fr, 0, none⟩ (.func (.func 121) #[] #[.pointer (some ⟨B, 0, none⟩), .pointer (some ⟨Kn, 0, none⟩), .pointer (some ⟨Wi, 0, none⟩)])) := hbw4.setCell (by simp only; have := hbw2.size; omega) _
 refine world_cut (fun wt => LtS H hcap S scap b P pcap A c xs f B Cc Kn Fr Wi Mb w wt) ⟨hb5, hst (by omega) (hCB2.below h24), hst (by omega) (hCC2.below h24), hst (by omega) (hCK.below h24), row_cells (hRF4.set (by simp)) (by simpa using hlF4), hst (by omega) hCW, hP.below hb5, hA.below hb5, (hMe.of_block (h24.block _ hlM)).of_block (Below.heap_setCell _ _ _ _ (by simp only; omega)), hgM⟩ (fun w5 hS5 => ?_)
 have e0 := hS5.cw.2 0 _ rfl
 have hb5' := hS5.below
 refine Ks ?_
 refine Rs 2 fun Q' K hK => ?_
 refine M1 hE 7 fun K' J ρ q7 => ?_; go_simp
 refine Ln hE J fun _ Eb => ?_; clear J K' hE a q7
 refine M1 Eb 11 fun K' J ρ q11 => ?_; go_simp
 refine Ln Eb J fun _ Ea => ?_; clear J K' Eb q11
 refine Ld [4] Ea hK fun a hE => ?_; clear hK K Q' Ea
 refine Ks ?_
 refine ret_one hE rfl rfl ⟨B, Cc, Kn, Fr, Wi, Mb, rfl, hS5, ?_⟩
 rintro g (rfl | rfl | rfl | rfl | rfl | rfl)
 ·exact ⟨hgB, hS5.cb.1⟩
 ·exact ⟨hgC, hS5.cc.1⟩
 ·exact ⟨hgK, hS5.ck.1⟩
 ·exact ⟨hgF, hS5.cf.1⟩
 ·exact ⟨by omega, hS5.cw.1⟩
 ·exact ⟨hgM, hS5.memo.lt⟩
end
/-- the loads of an hour, as the outlook has them -/
def ouL (xs : List Hp) (f : Nat → Bool) (h : Nat) (m : Nat) : Bool := match xs.drop h with
 | x :: _ => (stF x (atF xs f h) m || faF x (atF xs f h) m) && !(wS xs f h m == 0)
 | [] => false
theorem ouL_eq (xs : List Hp) (f : Nat → Bool) {h : Nat} (hh : h < xs.length) (m : Nat) : ouL xs f h m = ((stF xs[h] (atF xs f h) m || faF xs[h] (atF xs f h) m) && !(wS xs f h m == 0)) := by
 unfold ouL
 rw [List.drop_eq_getElem_cons hh]
theorem ouL_out (b : Sb) {h : Nat} (hh : h < (hpsOf b).length) : ouL (hpsOf b) (f0 b) h = outB b h := funext fun m => by
 unfold outB ouF
 rw [ouL_eq _ _ hh, List.drop_eq_getElem_cons hh]
 simp only
 unfold wS
 rw [List.drop_eq_getElem_cons hh]
 simp only
 rw [atF_succ _ _ h hh]
/-- all of them -/
def ouA (xs : List Hp) (f : Nat → Bool) (k : Nat) : List (Nat → Bool) := (List.range k).map (ouL xs f)
theorem ouA_succ (xs : List Hp) (f : Nat → Bool) (k : Nat) : ouA xs f (k + 1) = ouA xs f k ++ [ouL xs f k] := by simp [ouA, List.range_succ]
def ldV (ls : List (Nat → Bool)) : List Value := ls.flatMap bls
theorem ldV_snoc (ls : List (Nat → Bool)) (g : Nat → Bool) : ldV (ls ++ [g]) = ldV ls ++ bls g := by simp [ldV]
/-- how often, of the first loads -/
def ofN (xs : List Hp) (f : Nat → Bool) (k : Nat) : Nat := (List.range k).foldl (fun acc m => acc ||| (if ouL xs f 0 m then wS xs f 0 m else 0)) 0
theorem ofN_succ (xs : List Hp) (f : Nat → Bool) (k : Nat) : ofN xs f (k + 1) = ofN xs f k ||| (if ouL xs f 0 k then wS xs f 0 k else 0) := by
 unfold ofN
 rw [List.range_succ, List.foldl_append]
 rfl
theorem ofN_lt (xs : List Hp) (f : Nat → Bool) (hx : xs.length ≤ 12) : ∀ k, ofN xs f k < 16384
 | 0 => (by decide : (0 : Nat) < 16384)
 | k + 1 => by
  rw [ofN_succ]
  refine Nat.or_lt_two_pow (n := 14) (ofN_lt xs f hx k) ?_
  split
  ·exact wS_lt xs f 0 k hx
  ·decide
theorem ofN_all {b : Sb} (hb : OkB b) : ofN (hpsOf b) (f0 b) 2000 = oftN b := by
 have hl : 0 < (hpsOf b).length := by rw [hpsOf_length]; exact hb.hours.1
 have h1 := ouL_out b hl
 unfold ofN oftN
 cases hx : hpsOf b with
 | nil => rw [hx] at hl; exact absurd hl (by simp)
 | cons x xs =>
  unfold allF
  rw [hx] at h1
  rw [h1]
  unfold outB wS
  rw [hx]
  simp only [List.drop_zero]
  rw [show atF (x :: xs) (f0 b) (0 + 1) = nxF x (f0 b) by cases xs <;> rfl]
  rfl
section
variable {H : Option Addr} {hcap : Nat} {S : Option Addr} {scap : Nat} {b : Sb} {P : Option Addr} {pcap : Nat} {A : Option Addr} {c : Nat} {xs : List Hp} {f : Nat → Bool} {B Cc Kn Fr Wi Mb : Nat}
set_option maxRecDepth 100000 in
set_option maxHeartbeats 1000000 in
theorem goes_any (w : World) (h Wv Iv : Nat) (hW : ∀ (m : Nat) (V : World), m < 2000 → LtS H hcap S scap b P pcap A c xs f B Cc Kn Fr Wi Mb w V → Calls Tryd.prog 119 #[.int .i64 h, .int .i64 m, .pointer (some ⟨Cc, 0, none⟩), .pointer (some ⟨Fr, 0, none⟩), .pointer (some ⟨B, 0, none⟩)] V (LtQ H hcap S scap b P pcap A c xs f B Cc Kn Fr Wi Mb w V (wS xs f h m)))
    (m : Nat) (hm : m < 2000) (V : World) (hS : LtS H hcap S scap b P pcap A c xs f B Cc Kn Fr Wi Mb w V) (h1 : Cells V Wv [.func (.func 119) #[] #[.pointer (some ⟨Cc, 0, none⟩), .pointer (some ⟨Fr, 0, none⟩), .pointer (some ⟨B, 0, none⟩)]]) (h2 : Cells V Iv [.int .i64 h]) :
    Calls Tryd.prog 102 #[.int .i64 m, .pointer (some ⟨Wv, 0, none⟩), .pointer (some ⟨Iv, 0, none⟩)] V fun e V' => e = .returned (.bool (!(wS xs f h m == 0))) ∧ KeepX (fun q => q = Mb) V V' ∧ LtS H hcap S scap b P pcap A c xs f B Cc Kn Fr Wi Mb w V' := by
 have HWm := hid (hW m V hm hS)
 obtain ⟨r, hr⟩ : ∃ r, wS xs f h m = r := ⟨_, rfl⟩
 rw [hr] at HWm ⊢
 have c1 := h1.2 0 _ rfl
 have c2 := h2.2 0 _ rfl
 clear hW hr
 refine enterE Tryd.func102 rfl Tryd.ntmps102 (by simp) (fun a hE => ?_); simp only [envOf, Nat.zero_add, Nat.reduceAdd] at hE
 refine Ks ?_
 refine Rs 1 fun Q' K hK => ?_
 refine M0 fun K' J ρ => ?_; go_simp;
 refine Ln hE J fun _ Eb => ?_; clear J K' hE a
 refine Ld [0, 1, 2] Eb hK fun a hE => ?_; clear hK K Q' Eb
 refine Ks ?_
 refine Rs 6 fun Q' K hK => ?_
 refine M1 hE 1 fun K' J ρ q1 => ?_; go_simp
 refine Ln hE J fun _ Eb => ?_; clear J K' hE a q1
 refine M1 Eb 2 fun K' J ρ q2 => ?_; go_simp
 refine Ln Eb J fun _ Ea => ?_; clear J K' Eb q2
 refine M1 Ea 0 fun K' J ρ q0 => ?_; go_simp
 refine Ln Ea J fun _ Eb => ?_; clear J K' Ea q0
 refine M3 Eb 5 6 7 fun K' J ρ q5 q6 q7 => ?_; go_simp; (try go_bits); (try clear q5 q6 q7)
 go_at_call 119; refine HWm.out.mono ?_; rintro e w5 ⟨rfl, hK5, hS5⟩
 (try clear r5 r6 r7)
 refine Ln Eb J fun _ Ea => ?_; clear J K' Eb
 refine M1 Ea 8 fun K' J ρ q8 => ?_; go_simp; (try go_bits)
 refine Ln Ea J fun _ Eb => ?_; clear J K' Ea q8
 refine M1 Eb 9 fun K' J ρ q9 => ?_; go_simp
 refine Ln Eb J fun _ Ea => ?_; clear J K' Eb q9
 refine Ld [4] Ea hK fun a hE => ?_; clear hK K Q' Ea
 refine Ks ?_
 refine ret_one hE rfl rfl ⟨?_, hK5, hS5⟩
 congr 2
 cases r with
 | zero => simp
 | succ r => simp; omega
theorem goes_pred (w V0 : World) (h Wv Iv : Nat) (hW : ∀ (m : Nat) (V : World), m < 2000 → LtS H hcap S scap b P pcap A c xs f B Cc Kn Fr Wi Mb w V → Calls Tryd.prog 119 #[.int .i64 h, .int .i64 m, .pointer (some ⟨Cc, 0, none⟩), .pointer (some ⟨Fr, 0, none⟩), .pointer (some ⟨B, 0, none⟩)] V (LtQ H hcap S scap b P pcap A c xs f B Cc Kn Fr Wi Mb w V (wS xs f h m)))
    (hS : LtS H hcap S scap b P pcap A c xs f B Cc Kn Fr Wi Mb w V0) (h1 : Cells V0 Wv [.func (.func 119) #[] #[.pointer (some ⟨Cc, 0, none⟩), .pointer (some ⟨Fr, 0, none⟩), .pointer (some ⟨B, 0, none⟩)]]) (h2 : Cells V0 Iv [.int .i64 h]) :
    PredF (fun q => q = Mb) (fun W => KeepX (fun q => q = Mb) V0 W ∧ Memo W Mb (oS xs f)) V0.heap.size 102 #[] #[.pointer (some ⟨Wv, 0, none⟩), .pointer (some ⟨Iv, 0, none⟩)] (fun m => !(wS xs f h m == 0)) where
 enter := fun args w => by kernel_rfl
 calls := fun k W hk _ hJ => by
  have hK := hS.keepC hJ.1
  refine (goes_any w h Wv Iv hW k hk W (hS.step hJ.1 hJ.2) (h1.c hK) (h2.c hK)).mono ?_
  rintro e w' ⟨q1, q2, q3⟩
  exact ⟨q1, q2, hJ.1.trans q2, q3.memo⟩
theorem those_goes (w V0 : World) (h Wv Iv : Nat) (g : Nat → Bool) (hW : ∀ (m : Nat) (V : World), m < 2000 → LtS H hcap S scap b P pcap A c xs f B Cc Kn Fr Wi Mb w V → Calls Tryd.prog 119 #[.int .i64 h, .int .i64 m, .pointer (some ⟨Cc, 0, none⟩), .pointer (some ⟨Fr, 0, none⟩), .pointer (some ⟨B, 0, none⟩)] V (LtQ H hcap S scap b P pcap A c xs f B Cc Kn Fr Wi Mb w V (wS xs f h m)))
    (hS : LtS H hcap S scap b P pcap A c xs f B Cc Kn Fr Wi Mb w V0) (h1 : Cells V0 Wv [.func (.func 119) #[] #[.pointer (some ⟨Cc, 0, none⟩), .pointer (some ⟨Fr, 0, none⟩), .pointer (some ⟨B, 0, none⟩)]]) (h2 : Cells V0 Iv [.int .i64 h]) :
    Calls Tryd.prog 104 #[.agg (bls g).toArray, .func (.func 102) #[] #[.pointer (some ⟨Wv, 0, none⟩), .pointer (some ⟨Iv, 0, none⟩)]] V0 fun e V' => e = .returned (.agg (bls fun i => g i && !(wS xs f h i == 0)).toArray) ∧ KeepX (fun q => q = Mb) V0 V' ∧ LtS H hcap S scap b P pcap A c xs f B Cc Kn Fr Wi Mb w V' :=
 (those_any (fun q => q = Mb) (fun W => KeepX (fun q => q = Mb) V0 W ∧ Memo W Mb (oS xs f)) _ _ _ g (fun m => !(wS xs f h m == 0)) V0 ⟨.refl _ _, hS.memo⟩ (fun q hq => by rw [hq]; exact hS.memo.lt) (fun W W' hJ _ hB => ⟨hJ.1.own rfl hB, hJ.2.of_block ((hB.block _ hS.memo.lt))⟩) (hid (goes_pred w V0 h Wv Iv hW hS h1 h2))).mono fun _ _ ⟨q1, q2, q3⟩ => ⟨q1, q2, hS.step q2 q3.2⟩
end
end Go.Proofs.YtkhmcofmjjmjhaaDoor
