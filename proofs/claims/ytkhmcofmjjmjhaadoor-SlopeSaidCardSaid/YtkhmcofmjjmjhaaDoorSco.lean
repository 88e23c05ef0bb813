/- Slope: the law SlopeSaid. -/
import Derived.Test.YtkhmcofmjjmjhaaDoorScp
import Derived.Test.YtkhmcofmjjmjhaaDoorScn
namespace Go.Proofs.YtkhmcofmjjmjhaaDoor
set_option linter.unusedSimpArgs false
set_option linter.unusedVariables false
open Go Go.RowKit
attribute [local go_sem high] cell_set_wr
attribute [local go_sem low] cell_wr frozen_wr
attribute [local go_sem] wr_set wr_drew wr_drewN wr_alloc wr_new Rho.c Rho.n Rho.g

section
variable (H : Option Addr) (hcap : Nat) (S : Option Addr) (scap : Nat) (b : Sb)
set_option maxRecDepth 100000 in
set_option maxHeartbeats 4000000 in
theorem said_fin (hb : OkB b) (h5 : b.sights.length ≤ 5) (hr : rtB b = true) {h : Nat} (hh : h < b.hours.length) (B Z : Nat) (w V : World) (hTw : TabW w) (hbV : Below w.heap.size w V) (hM : SbAt V H S b) (hCB : Cells V B (sbV H hcap S scap b)) (hCZ : Cells V Z [.int .i64 (loH b h), .int .i64 (hiH b h)]) (a : Act) (hE : Fits 208 [(2, .pointer (some ⟨B, 0, none⟩)), (5, .int .i64 h), (6, .pointer (some ⟨Z, 0, none⟩))] a) :
    (cr 15 (bodyOf Tryd.f8)).wp Tryd.prog (bodyPost Tryd.prog Tryd.f8 fun e w' => e = .returned (.bool true) ∧ Below w.heap.size w w') a V := by
 obtain ⟨hlo, hhi⟩ := said_to hb hr hh
 have m1 : rtB (withS b (poS h (min 2000 ((hiH b h : Int) + 1)) 2000)) = false := said_more hb h5 hr hh (by omega) (by omega)
 have m2 : rtB (withS b (poS h 0 (max 0 ((loH b h : Int) - 1)))) = true → loH b h = 0 := fun hc => by
  refine Nat.eq_zero_of_not_pos fun hp => ?_
  rw [said_less hb h5 hr hh (lo := 0) (by omega) (by omega)] at hc
  cases hc
 have o1 : OkB (withS b (poS h (min 2000 ((hiH b h : Int) + 1)) 2000)) := said_ok hb hh h5 (by omega)
 have o2 : OkB (withS b (poS h 0 (max 0 ((loH b h : Int) - 1)))) := said_ok hb hh h5 (by omega)
 obtain ⟨lo, e1⟩ : ∃ lo, loH b h = lo := ⟨_, rfl⟩
 obtain ⟨hi, e2⟩ : ∃ hi, hiH b h = hi := ⟨_, rfl⟩
 rw [e1] at m2 o2 hlo hCZ
 rw [e2] at m1 o1 hlo hhi hCZ
 have P1 := hid fun (W : World) => pole_any h (min 2000 ((hi : Int) + 1)) 2000 W
 have P2 := hid fun (W : World) => pole_any h 0 (max 0 ((lo : Int) - 1)) W
 obtain ⟨x1, hx1⟩ : ∃ x, poS h (min 2000 ((hi : Int) + 1)) 2000 = x := ⟨_, rfl⟩
 obtain ⟨x2, hx2⟩ : ∃ x, poS h 0 (max 0 ((lo : Int) - 1)) = x := ⟨_, rfl⟩
 rw [hx1] at P1 m1 o1
 rw [hx2] at P2 m2 o2
 obtain ⟨q, hq⟩ : ∃ q, rtB (withS b x2) = q := ⟨_, rfl⟩
 rw [hq] at m2
 have W1 := hid fun (W : World) hW => with_any H hcap S scap b (by omega) x1 W hW
 have W2 := hid fun (W : World) hW => with_any H hcap S scap b (by omega) x2 W hW
 have R1 := hid fun (A : Option Addr) (c : Nat) (W : World) hW => rightC H hcap A c (withS b x1) o1 m1 W hW
 have R2 := hid fun (A : Option Addr) (c : Nat) (W : World) hW => rightC H hcap A c (withS b x2) o2 hq W hW
 have HQ := hid m2
 clear hb h5 hr hh m1 m2 o1 o2 e1 e2 hx1 hx2 hq
 have nZ := hCZ.1; have cZ0 := hCZ.2 0 _ rfl; have cZ1 := hCZ.2 1 _ rfl
 refine wp_seq ?_; refine Ks ?_
 refine Rd [13] (fun wt => Below V.heap.size V wt) (fun w1 w2 => Below w1.heap.size w1 w2) [(0, some 158), (1, some 159), (2, some 160), (3, some 161), (4, some 162), (5, some 163), (6, some 164), (7, some 165), (8, some 166), (9, some 157), (10, some 167), (11, some 168), (12, some 19)] [158, 159, 160, 161, 162, 163, 164, 165, 166, 157, 167, 168, 19] #[true, true, true, true, true, true, true, true, true, true, true, true, true, false] [2, 5, 6, 20] hE ((Below.refl _ _).drew) fun Q' K hK => ?_
 refine SeqOps.val ?_ (Sp fun ax wx hS hT' hd K' J => ?_) ?_; rotate_left 1
 ·have r2 := hS.at 2 (by decide) (hE.at 2 rfl); obtain ⟨hcT, hfT, hlT, hmT, hwT, hzT⟩ := bT hT'
  refine wp_load_mid 29 (.tmp 2) rfl B 0 (eval_of r2) (sbV H hcap S scap b) _ (fun j u hu => by rw [Nat.zero_add]; exact (hCB.below hT').2 j u hu) Tryd.underlying29 rfl (by kernel_rfl) ?_
  refine J.out _ _ _ rfl ?_ hT' (Below.refl _ _); rfl
 refine SeqOps.val ?_ (Sp fun ax wx hS hT' hd K' J => ?_) ?_; rotate_left 1
 ·have r5 := hS.at 5 (by decide) (hE.at 5 rfl); obtain ⟨hcT, hfT, hlT, hmT, hwT, hzT⟩ := bT hT'
  refine Go.Proofs.YtkhmcofmjjmjhaaDoor.o1 r5 fun ρ q5 => ?_; go_simp;
  exact Jo J hT'
 refine SeqOps.val ?_ (Sp fun ax wx hS hT' hd K' J => ?_) ?_; rotate_left 1
 ·have r6 := hS.at 6 (by decide) (hE.at 6 rfl); obtain ⟨hcT, hfT, hlT, hmT, hwT, hzT⟩ := bT hT'
  refine Go.Proofs.YtkhmcofmjjmjhaaDoor.o1 r6 fun ρ q6 => ?_; go_simp;
  exact Jo J hT'
 refine SeqOps.val ?_ (Sp fun ax wx hS hT' hd K' J => ?_) ?_; rotate_left 1
 ·have r160 := Tv hd 0 2 160; obtain ⟨hcT, hfT, hlT, hmT, hwT, hzT⟩ := bT hT'
  refine Go.Proofs.YtkhmcofmjjmjhaaDoor.o1 r160 fun ρ q160 => ?_; go_simp;
  exact Jo J hT'
 refine SeqOps.val ?_ (Sp fun ax wx hS hT' hd K' J => ?_) ?_; rotate_left 1
 ·have r161 := Tv hd 0 3 161; obtain ⟨hcT, hfT, hlT, hmT, hwT, hzT⟩ := bT hT'
  refine Go.Proofs.YtkhmcofmjjmjhaaDoor.o1 r161 fun ρ q161 => ?_; go_simp; (try go_bits); (try simp (disch := omega) only [IntWalk.i64_in]);
  exact Jo J hT'
 refine SeqOps.val ?_ (Sp fun ax wx hS hT' hd K' J => ?_) ?_; rotate_left 1
 ·have r162 := Tv hd 0 4 162; obtain ⟨hcT, hfT, hlT, hmT, hwT, hzT⟩ := bT hT'
  refine Go.Proofs.YtkhmcofmjjmjhaaDoor.o1 r162 fun ρ q162 => ?_; go_simp; (try go_bits);
  exact Jo J hT'
 refine SeqOps.val ?_ (Sp fun ax wx hS hT' hd K' J => ?_) ?_; rotate_left 1
 ·have r159 := Tv hd 4 1 159; have r163 := Tv hd 0 5 163; obtain ⟨hcT, hfT, hlT, hmT, hwT, hzT⟩ := bT hT'
  refine Go.Proofs.YtkhmcofmjjmjhaaDoor.o2 r159 r163 fun ρ q159 q163 => ?_; go_simp; (try go_bits);
  go_at_call 46; refine (P1.out _).mono ?_; rintro e g1 ⟨rfl, k1⟩
  refine J.out _ _ _ rfl ?_ (hT'.trans (k1.mono hT'.size)) k1; rfl
 refine SeqOps.say (fun v wt => ∃ A c, v = .agg (sbV H hcap A c (withS b x1)).toArray ∧ SbAt wt H A (withS b x1)) (fun _ _ _ hR ⟨A, c, e, h⟩ => ⟨A, c, e, h.below hR⟩) (Sp fun ax wx hS hT' hd K' J => ?_) ?_
 ·have r158 := Tv hd 6 0 158; have r164 := Tv hd 0 6 164; obtain ⟨hcT, hfT, hlT, hmT, hwT, hzT⟩ := bT hT'
  refine Go.Proofs.YtkhmcofmjjmjhaaDoor.o2 r158 r164 fun ρ q158 q164 => ?_; go_simp; (try go_bits);
  go_at_call 45; refine (W1.out _ (hM.below hT')).mono ?_; rintro e g1 ⟨⟨A, c, rfl, hA⟩, k1⟩
  exact J.out _ _ _ rfl ⟨A, c, rfl, hA⟩ (hT'.trans (k1.mono hT'.size)) k1
 refine SeqOps.val ?_ (Sp fun ax wx hS hT' hd K' J => ?_) ?_; rotate_left 1
 ·obtain ⟨v165, r165, h165⟩ := Tg hd 0 7 165; obtain ⟨A9, c9, rfl, hA9⟩ := h165; obtain ⟨hcT, hfT, hlT, hmT, hwT, hzT⟩ := bT hT'
  refine Go.Proofs.YtkhmcofmjjmjhaaDoor.o1 r165 fun ρ q165 => ?_; go_simp; (try go_bits);
  go_at_call 14; refine (R1.out A9 c9 _ hA9).mono ?_; rintro e g1 ⟨rfl, k1⟩
  refine J.out _ _ _ rfl ?_ (hT'.trans (k1.mono hT'.size)) k1; rfl
 refine SeqOps.val ?_ (Sp fun ax wx hS hT' hd K' J => ?_) ?_; rotate_left 1
 ·have r166 := Tv hd 0 8 166; obtain ⟨hcT, hfT, hlT, hmT, hwT, hzT⟩ := bT hT'
  refine Go.Proofs.YtkhmcofmjjmjhaaDoor.o1 r166 fun ρ q166 => ?_; go_simp;
  exact Jo J hT'
 refine SeqOps.val ?_ (Sp fun ax wx hS hT' hd K' J => ?_) ?_; rotate_left 1
 ·have r157 := Tv hd 0 9 157; obtain ⟨hcT, hfT, hlT, hmT, hwT, hzT⟩ := bT hT'
  refine Go.Proofs.YtkhmcofmjjmjhaaDoor.o1 r157 fun ρ q157 => ?_; go_simp;
  exact Jo J hT'
 refine SeqOps.val ?_ (Sp fun ax wx hS hT' hd K' J => ?_) ?_; rotate_left 1
 ·have r157 := Tv hd 1 9 157; obtain ⟨hcT, hfT, hlT, hmT, hwT, hzT⟩ := bT hT'
  refine Go.Proofs.YtkhmcofmjjmjhaaDoor.o1 r157 fun ρ q157 => ?_; go_simp;
  exact Jo J hT'
 refine SeqOps.val ?_ (Sp fun ax wx hS hT' hd K' J => ?_) ?_; rotate_left 1
 ·have r167 := Tv hd 1 10 167; obtain ⟨hcT, hfT, hlT, hmT, hwT, hzT⟩ := bT hT'
  refine Go.Proofs.YtkhmcofmjjmjhaaDoor.o1 r167 fun ρ q167 => ?_; go_simp;
  exact Jo J hT'
 refine SeqOps.nil ?_
 intro v1 hBm; (repeat refine Ek ?_); (refine fun v h => ?_; obtain ⟨A9, c9, rfl, hA9⟩ := h); (repeat refine Ek ?_)
 refine fun amx hEmx => ?_
 simp only [lk, pick, Nat.reduceEqDiff, ↓reduceIte] at hEmx
 refine Go.Proofs.YtkhmcofmjjmjhaaDoor.M1 hEmx 168 fun K' J ρ q168 => ?_; go_simp; (try clear q168)
 refine Ln hEmx J fun am_1 hEm_1 => ?_; clear J K' hEmx
 refine late_done [2, 5, 6, 19, 20] hEm_1 hK (fun a hE => ?_); clear hK K Q' hEm_1; simp only [lk, pick, Nat.reduceEqDiff, ↓reduceIte] at hE
 have hbv1 := hbV.trans (hBm.mono hbV.size)
 replace hCZ := hCZ.below hBm
 clear nZ cZ0 cZ1
 have nZ := hCZ.1; have cZ0 := hCZ.2 0 _ rfl; have cZ1 := hCZ.2 1 _ rfl
 replace hM := hM.below hBm
 replace hCB := hCB.below hBm
 refine Ks ?_
 refine Rd [13] (fun wt => Below v1.heap.size v1 wt) (fun w1 w2 => Below w1.heap.size w1 w2) [(0, some 170), (1, some 171), (2, some 172), (3, some 173), (4, some 174), (5, some 175), (6, some 176), (7, some 177), (8, some 178), (9, some 169), (10, some 179), (11, some 180), (12, some 21)] [170, 171, 172, 173, 174, 175, 176, 177, 178, 169, 179, 180, 21] #[true, true, true, true, true, true, true, true, true, true, true, true, true, false] [6, 19, 20, 22] hE ((Below.refl _ _).drew) fun Q' K hK => ?_
 refine SeqOps.val ?_ (Sp fun ax wx hS hT' hd K' J => ?_) ?_; rotate_left 1
 ·have r2 := hS.at 2 (by decide) (hE.at 2 rfl); obtain ⟨hcT, hfT, hlT, hmT, hwT, hzT⟩ := bT hT'
  refine wp_load_mid 29 (.tmp 2) rfl B 0 (eval_of r2) (sbV H hcap S scap b) _ (fun j u hu => by rw [Nat.zero_add]; exact (hCB.below hT').2 j u hu) Tryd.underlying29 rfl (by kernel_rfl) ?_
  refine J.out _ _ _ rfl ?_ hT' (Below.refl _ _); rfl
 refine SeqOps.val ?_ (Sp fun ax wx hS hT' hd K' J => ?_) ?_; rotate_left 1
 ·have r5 := hS.at 5 (by decide) (hE.at 5 rfl); obtain ⟨hcT, hfT, hlT, hmT, hwT, hzT⟩ := bT hT'
  refine Go.Proofs.YtkhmcofmjjmjhaaDoor.o1 r5 fun ρ q5 => ?_; go_simp;
  exact Jo J hT'
 refine SeqOps.val ?_ (Sp fun ax wx hS hT' hd K' J => ?_) ?_; rotate_left 1
 ·have r6 := hS.at 6 (by decide) (hE.at 6 rfl); obtain ⟨hcT, hfT, hlT, hmT, hwT, hzT⟩ := bT hT'
  refine Go.Proofs.YtkhmcofmjjmjhaaDoor.o1 r6 fun ρ q6 => ?_; go_simp;
  exact Jo J hT'
 refine SeqOps.val ?_ (Sp fun ax wx hS hT' hd K' J => ?_) ?_; rotate_left 1
 ·have r172 := Tv hd 0 2 172; obtain ⟨hcT, hfT, hlT, hmT, hwT, hzT⟩ := bT hT'
  refine Go.Proofs.YtkhmcofmjjmjhaaDoor.o1 r172 fun ρ q172 => ?_; go_simp;
  exact Jo J hT'
 refine SeqOps.val ?_ (Sp fun ax wx hS hT' hd K' J => ?_) ?_; rotate_left 1
 ·have r173 := Tv hd 0 3 173; obtain ⟨hcT, hfT, hlT, hmT, hwT, hzT⟩ := bT hT'
  refine Go.Proofs.YtkhmcofmjjmjhaaDoor.o1 r173 fun ρ q173 => ?_; go_simp; (try go_bits); (try simp (disch := omega) only [IntWalk.i64_in]);
  exact Jo J hT'
 refine SeqOps.val ?_ (Sp fun ax wx hS hT' hd K' J => ?_) ?_; rotate_left 1
 ·have r174 := Tv hd 0 4 174; obtain ⟨hcT, hfT, hlT, hmT, hwT, hzT⟩ := bT hT'
  refine Go.Proofs.YtkhmcofmjjmjhaaDoor.o1 r174 fun ρ q174 => ?_; go_simp; (try go_bits);
  exact Jo J hT'
 refine SeqOps.val ?_ (Sp fun ax wx hS hT' hd K' J => ?_) ?_; rotate_left 1
 ·have r171 := Tv hd 4 1 171; have r175 := Tv hd 0 5 175; obtain ⟨hcT, hfT, hlT, hmT, hwT, hzT⟩ := bT hT'
  refine Go.Proofs.YtkhmcofmjjmjhaaDoor.o2 r171 r175 fun ρ q171 q175 => ?_; go_simp; (try go_bits);
  go_at_call 46; refine (P2.out _).mono ?_; rintro e g1 ⟨rfl, k1⟩
  refine J.out _ _ _ rfl ?_ (hT'.trans (k1.mono hT'.size)) k1; rfl
 refine SeqOps.say (fun v wt => ∃ A c, v = .agg (sbV H hcap A c (withS b x2)).toArray ∧ SbAt wt H A (withS b x2)) (fun _ _ _ hR ⟨A, c, e, h⟩ => ⟨A, c, e, h.below hR⟩) (Sp fun ax wx hS hT' hd K' J => ?_) ?_
 ·have r170 := Tv hd 6 0 170; have r176 := Tv hd 0 6 176; obtain ⟨hcT, hfT, hlT, hmT, hwT, hzT⟩ := bT hT'
  refine Go.Proofs.YtkhmcofmjjmjhaaDoor.o2 r170 r176 fun ρ q170 q176 => ?_; go_simp; (try go_bits);
  go_at_call 45; refine (W2.out _ (hM.below hT')).mono ?_; rintro e g1 ⟨⟨A, c, rfl, hA⟩, k1⟩
  exact J.out _ _ _ rfl ⟨A, c, rfl, hA⟩ (hT'.trans (k1.mono hT'.size)) k1
 refine SeqOps.val ?_ (Sp fun ax wx hS hT' hd K' J => ?_) ?_; rotate_left 1
 ·obtain ⟨v177, r177, h177⟩ := Tg hd 0 7 177; obtain ⟨A9, c9, rfl, hA9⟩ := h177; obtain ⟨hcT, hfT, hlT, hmT, hwT, hzT⟩ := bT hT'
  refine Go.Proofs.YtkhmcofmjjmjhaaDoor.o1 r177 fun ρ q177 => ?_; go_simp; (try go_bits);
  go_at_call 14; refine (R2.out A9 c9 _ hA9).mono ?_; rintro e g1 ⟨rfl, k1⟩
  refine J.out _ _ _ rfl ?_ (hT'.trans (k1.mono hT'.size)) k1; rfl
 refine SeqOps.val ?_ (Sp fun ax wx hS hT' hd K' J => ?_) ?_; rotate_left 1
 ·have r178 := Tv hd 0 8 178; obtain ⟨hcT, hfT, hlT, hmT, hwT, hzT⟩ := bT hT'
  refine Go.Proofs.YtkhmcofmjjmjhaaDoor.o1 r178 fun ρ q178 => ?_; go_simp;
  exact Jo J hT'
 refine SeqOps.val ?_ (Sp fun ax wx hS hT' hd K' J => ?_) ?_; rotate_left 1
 ·have r169 := Tv hd 0 9 169; obtain ⟨hcT, hfT, hlT, hmT, hwT, hzT⟩ := bT hT'
  refine Go.Proofs.YtkhmcofmjjmjhaaDoor.o1 r169 fun ρ q169 => ?_; go_simp;
  exact Jo J hT'
 refine SeqOps.val ?_ (Sp fun ax wx hS hT' hd K' J => ?_) ?_; rotate_left 1
 ·have r169 := Tv hd 1 9 169; obtain ⟨hcT, hfT, hlT, hmT, hwT, hzT⟩ := bT hT'
  refine Go.Proofs.YtkhmcofmjjmjhaaDoor.o1 r169 fun ρ q169 => ?_; go_simp;
  exact Jo J hT'
 refine SeqOps.val ?_ (Sp fun ax wx hS hT' hd K' J => ?_) ?_; rotate_left 1
 ·have r179 := Tv hd 1 10 179; obtain ⟨hcT, hfT, hlT, hmT, hwT, hzT⟩ := bT hT'
  refine Go.Proofs.YtkhmcofmjjmjhaaDoor.o1 r179 fun ρ q179 => ?_; go_simp;
  exact Jo J hT'
 refine SeqOps.nil ?_
 intro v2 hBn; (repeat refine Ek ?_); (refine fun v h => ?_; obtain ⟨A9, c9, rfl, hA9⟩ := h); (repeat refine Ek ?_)
 refine fun anx hEnx => ?_
 simp only [lk, pick, Nat.reduceEqDiff, ↓reduceIte] at hEnx
 refine Go.Proofs.YtkhmcofmjjmjhaaDoor.M1 hEnx 180 fun K' J ρ q180 => ?_; go_simp; (try clear q180)
 refine Ln hEnx J fun an_1 hEn_1 => ?_; clear J K' hEnx
 refine late_done [6, 19, 20, 21, 22] hEn_1 hK (fun a hE => ?_); clear hK K Q' hEn_1; simp only [lk, pick, Nat.reduceEqDiff, ↓reduceIte] at hE
 have hbv2 := hbv1.trans (hBn.mono hbv1.size)
 replace hCZ := hCZ.below hBn
 clear nZ cZ0 cZ1
 have nZ := hCZ.1; have cZ0 := hCZ.2 0 _ rfl; have cZ1 := hCZ.2 1 _ rfl
 replace hM := hM.below hBn
 replace hCB := hCB.below hBn
 have hTv := hTw.below hbv2
 cases hqv : q
 ·rw [hqv] at hE
  refine Ks ?_
  refine Rs 28 fun Q' K hK => ?_
  refine Go.Proofs.YtkhmcofmjjmjhaaDoor.M1 hE 20 fun K' J ρ q20 => ?_; go_simp; (try clear q20)
  refine Ln hE J fun _ Eb => ?_; clear J K' hE a
  refine Go.Proofs.YtkhmcofmjjmjhaaDoor.M1 Eb 181 fun K' J ρ q181 => ?_; go_simp; (try go_bits); (try clear q181)
  refine Ln Eb J fun _ Ea => ?_; clear J K' Eb
  refine Go.Proofs.YtkhmcofmjjmjhaaDoor.M1 Ea 182 fun K' J ρ q182 => ?_; go_simp; (try clear q182)
  refine Ln Ea J fun _ Eb => ?_; clear J K' Ea
  refine N1 Eb 183 22 fun K' J ρ q22 => ?_; go_simp; (try clear q22)
  refine Ln Eb J fun _ Ea => ?_; clear J K' Eb
  refine N1 Ea 183 184 fun K' J ρ q184 => ?_; go_simp; (try go_bits); (try clear q184)
  refine Ln Ea J fun _ Eb => ?_; clear J K' Ea
  refine Go.Proofs.YtkhmcofmjjmjhaaDoor.M2 Eb 183 185 fun K' J ρ q183 q185 => ?_; go_simp; (try go_bits); (try clear q183 q185)
  refine Ln Eb J fun _ Ea => ?_; clear J K' Eb
  refine Go.Proofs.YtkhmcofmjjmjhaaDoor.M1 Ea 186 fun K' J ρ q186 => ?_; go_simp; (try clear q186)
  refine Ln Ea J fun _ Eb => ?_; clear J K' Ea
  refine N1 Eb 187 19 fun K' J ρ q19 => ?_; go_simp; (try clear q19)
  refine Ln Eb J fun _ Ea => ?_; clear J K' Eb
  refine N1 Ea 187 188 fun K' J ρ q188 => ?_; go_simp; (try go_bits); (try simp (disch := omega) only [IntWalk.i64_in]); (try clear q188)
  refine Ln Ea J fun _ Eb => ?_; clear J K' Ea
  refine N1 Eb 187 189 fun K' J ρ q189 => ?_; go_simp; (try clear q189)
  refine Ln Eb J fun _ Ea => ?_; clear J K' Eb
  refine Lno Ea 190 ?_
  refine Lu Ea fun _ Eb => ?_
  refine Lno Eb 190 ?_
  refine Lu Eb fun _ Ea => ?_
  refine Lno Ea 190 ?_
  refine Lu Ea fun _ Eb => ?_
  refine N2 Eb 187 190 193 fun K' J ρ q190 q193 => ?_; go_simp; (try go_bits); (try clear q190 q193)
  refine Ln Eb J fun _ Ea => ?_; clear J K' Eb
  refine Go.Proofs.YtkhmcofmjjmjhaaDoor.M2 Ea 187 194 fun K' J ρ q187 q194 => ?_; go_simp; (try go_bits); (try clear q187 q194)
  refine Ln Ea J fun _ Eb => ?_; clear J K' Ea
  refine Go.Proofs.YtkhmcofmjjmjhaaDoor.M1 Eb 195 fun K' J ρ q195 => ?_; go_simp; (try clear q195)
  refine Ln Eb J fun _ Ea => ?_; clear J K' Eb
  refine N1 Ea 196 21 fun K' J ρ q21 => ?_; go_simp; (try clear q21)
  refine Ln Ea J fun _ Eb => ?_; clear J K' Ea
  refine N1 Eb 196 197 fun K' J ρ q197 => ?_; go_simp; (try go_bits); (try simp (disch := omega) only [IntWalk.i64_in]); (try clear q197)
  refine Ln Eb J fun _ Ea => ?_; clear J K' Eb
  refine N1 Ea 196 198 fun K' J ρ q198 => ?_; go_simp; (try clear q198)
  refine Ln Ea J fun _ Eb => ?_; clear J K' Ea
  refine Lno Eb 199 ?_
  refine Lu Eb fun _ Ea => ?_
  refine Lno Ea 199 ?_
  refine Lu Ea fun _ Eb => ?_
  refine Lno Eb 199 ?_
  refine Lu Eb fun _ Ea => ?_
  refine N2 Ea 196 199 202 fun K' J ρ q199 q202 => ?_; go_simp; (try go_bits); (try clear q199 q202)
  refine Ln Ea J fun _ Eb => ?_; clear J K' Ea
  refine Go.Proofs.YtkhmcofmjjmjhaaDoor.M2 Eb 196 203 fun K' J ρ q196 q203 => ?_; go_simp; (try go_bits); (try clear q196 q203)
  refine Ln Eb J fun _ Ea => ?_; clear J K' Eb
  refine Go.Proofs.YtkhmcofmjjmjhaaDoor.M1 Ea 204 fun K' J ρ q204 => ?_; go_simp; (try clear q204)
  refine Ln Ea J fun _ Eb => ?_; clear J K' Ea
  refine Ly Eb 205 fun K' J => ?_
  refine o0 fun ρ => ?_; go_simp; (try go_bits);
  go_at_call 22; refine (snowed_any _ hTv).mono ?_; rintro e w9 ⟨rfl, k9⟩
  refine Ln Eb J fun _ Ea => ?_; clear J K' Eb
  refine Go.Proofs.YtkhmcofmjjmjhaaDoor.M2 Ea 205 206 fun K' J ρ q205 q206 => ?_; go_simp; (try go_bits); (try clear q205 q206)
  refine Ln Ea J fun _ Eb => ?_; clear J K' Ea
  refine Go.Proofs.YtkhmcofmjjmjhaaDoor.M1 Eb 207 fun K' J ρ q207 => ?_; go_simp; (try clear q207)
  refine Ln Eb J fun _ Ea => ?_; clear J K' Eb
  refine late_done [4] Ea hK (fun a hE => ?_); clear hK K Q' Ea; simp only [lk, pick, Nat.reduceEqDiff, ↓reduceIte] at hE
  refine Ks ?_
  exact ret_one hE rfl rfl ⟨rfl, hbv2.trans (k9.mono hbv2.size)⟩
 ·have hl0 : lo = 0 := HQ.out hqv
  rw [hqv] at hE
  refine Ks ?_
  refine Rs 28 fun Q' K hK => ?_
  refine Go.Proofs.YtkhmcofmjjmjhaaDoor.M1 hE 20 fun K' J ρ q20 => ?_; go_simp; (try clear q20)
  refine Ln hE J fun _ Eb => ?_; clear J K' hE a
  refine Go.Proofs.YtkhmcofmjjmjhaaDoor.M1 Eb 181 fun K' J ρ q181 => ?_; go_simp; (try go_bits); (try clear q181)
  refine Ln Eb J fun _ Ea => ?_; clear J K' Eb
  refine Go.Proofs.YtkhmcofmjjmjhaaDoor.M1 Ea 182 fun K' J ρ q182 => ?_; go_simp; (try clear q182)
  refine Ln Ea J fun _ Eb => ?_; clear J K' Ea
  refine N1 Eb 183 22 fun K' J ρ q22 => ?_; go_simp; (try clear q22)
  refine Ln Eb J fun _ Ea => ?_; clear J K' Eb
  refine N1 Ea 183 184 fun K' J ρ q184 => ?_; go_simp; (try go_bits); (try clear q184)
  refine Ln Ea J fun _ Eb => ?_; clear J K' Ea
  refine Go.Proofs.YtkhmcofmjjmjhaaDoor.M2 Eb 183 185 fun K' J ρ q183 q185 => ?_; go_simp; (try go_bits); (try clear q183 q185)
  refine Ln Eb J fun _ Ea => ?_; clear J K' Eb
  refine Go.Proofs.YtkhmcofmjjmjhaaDoor.M1 Ea 186 fun K' J ρ q186 => ?_; go_simp; (try clear q186)
  refine Ln Ea J fun _ Eb => ?_; clear J K' Ea
  refine N1 Eb 187 19 fun K' J ρ q19 => ?_; go_simp; (try clear q19)
  refine Ln Eb J fun _ Ea => ?_; clear J K' Eb
  refine N1 Ea 187 188 fun K' J ρ q188 => ?_; go_simp; (try go_bits); (try simp (disch := omega) only [IntWalk.i64_in]); (try clear q188)
  refine Ln Ea J fun _ Eb => ?_; clear J K' Ea
  refine N1 Eb 187 189 fun K' J ρ q189 => ?_; go_simp; (try clear q189)
  refine Ln Eb J fun _ Ea => ?_; clear J K' Eb
  refine Lno Ea 190 ?_
  refine Lu Ea fun _ Eb => ?_
  refine Lno Eb 190 ?_
  refine Lu Eb fun _ Ea => ?_
  refine Lno Ea 190 ?_
  refine Lu Ea fun _ Eb => ?_
  refine N2 Eb 187 190 193 fun K' J ρ q190 q193 => ?_; go_simp; (try go_bits); (try clear q190 q193)
  refine Ln Eb J fun _ Ea => ?_; clear J K' Eb
  refine Go.Proofs.YtkhmcofmjjmjhaaDoor.M2 Ea 187 194 fun K' J ρ q187 q194 => ?_; go_simp; (try go_bits); (try clear q187 q194)
  refine Ln Ea J fun _ Eb => ?_; clear J K' Ea
  refine Go.Proofs.YtkhmcofmjjmjhaaDoor.M1 Eb 195 fun K' J ρ q195 => ?_; go_simp; (try clear q195)
  refine Ln Eb J fun _ Ea => ?_; clear J K' Eb
  refine N1 Ea 196 21 fun K' J ρ q21 => ?_; go_simp; (try clear q21)
  refine Ln Ea J fun _ Eb => ?_; clear J K' Ea
  refine N1 Eb 196 197 fun K' J ρ q197 => ?_; go_simp; (try go_bits); (try simp (disch := omega) only [IntWalk.i64_in]); (try clear q197)
  refine Ln Eb J fun _ Ea => ?_; clear J K' Eb
  refine N1 Ea 196 198 fun K' J ρ q198 => ?_; go_simp; (try clear q198)
  refine Ln Ea J fun _ Eb => ?_; clear J K' Ea
  refine N1 Eb 199 6 fun K' J ρ q6 => ?_; go_simp; (try clear q6)
  refine Ln Eb J fun _ Ea => ?_; clear J K' Eb
  refine N1 Ea 199 200 fun K' J ρ q200 => ?_; go_simp; (try clear q200)
  refine Ln Ea J fun _ Eb => ?_; clear J K' Ea
  refine N1 Eb 199 201 fun K' J ρ q201 => ?_; go_simp; (try go_bits); (try clear q201)
  refine Ln Eb J fun _ Ea => ?_; clear J K' Eb
  replace Ea := Ea.turn 202 (v' := .bool true) rfl (by (simp [hl0]))
  refine N2 Ea 196 199 202 fun K' J ρ q199 q202 => ?_; go_simp; (try go_bits); (try clear q199 q202)
  refine Ln Ea J fun _ Eb => ?_; clear J K' Ea
  refine Go.Proofs.YtkhmcofmjjmjhaaDoor.M2 Eb 196 203 fun K' J ρ q196 q203 => ?_; go_simp; (try go_bits); (try clear q196 q203)
  refine Ln Eb J fun _ Ea => ?_; clear J K' Eb
  refine Go.Proofs.YtkhmcofmjjmjhaaDoor.M1 Ea 204 fun K' J ρ q204 => ?_; go_simp; (try clear q204)
  refine Ln Ea J fun _ Eb => ?_; clear J K' Ea
  refine Ly Eb 205 fun K' J => ?_
  refine o0 fun ρ => ?_; go_simp; (try go_bits);
  go_at_call 22; refine (snowed_any _ hTv).mono ?_; rintro e w9 ⟨rfl, k9⟩
  refine Ln Eb J fun _ Ea => ?_; clear J K' Eb
  refine Go.Proofs.YtkhmcofmjjmjhaaDoor.M2 Ea 205 206 fun K' J ρ q205 q206 => ?_; go_simp; (try go_bits); (try clear q205 q206)
  refine Ln Ea J fun _ Eb => ?_; clear J K' Ea
  refine Go.Proofs.YtkhmcofmjjmjhaaDoor.M1 Eb 207 fun K' J ρ q207 => ?_; go_simp; (try clear q207)
  refine Ln Eb J fun _ Ea => ?_; clear J K' Eb
  refine late_done [4] Ea hK (fun a hE => ?_); clear hK K Q' Ea; simp only [lk, pick, Nat.reduceEqDiff, ↓reduceIte] at hE
  refine Ks ?_
  exact ret_one hE rfl rfl ⟨rfl, hbv2.trans (k9.mono hbv2.size)⟩
set_option maxRecDepth 100000 in
set_option maxHeartbeats 4000000 in
theorem said_end (hb : OkB b) (h5 : b.sights.length ≤ 5) (hr : rtB b = true) {h : Nat} (hh : h < b.hours.length) {m : Nat} (hm : m = loH b h ∨ m = hiH b h) (B Z : Nat) (w V : World) (hTw : TabW w) (hbV : Below w.heap.size w V) (hM : SbAt V H S b) (hCB : Cells V B (sbV H hcap S scap b)) (hCZ : Cells V Z [.int .i64 (loH b h), .int .i64 (hiH b h)]) (a : Act) (hE : Fits 208 [(2, .pointer (some ⟨B, 0, none⟩)), (5, .int .i64 h), (6, .pointer (some ⟨Z, 0, none⟩)), (10, .int .i64 m)] a) :
    (cr 10 (bodyOf Tryd.f8)).wp Tryd.prog (bodyPost Tryd.prog Tryd.f8 fun e w' => e = .returned (.bool true) ∧ Below w.heap.size w w') a V := by
 obtain ⟨hlo, hhi⟩ := said_to hb hr hh
 have HF := hid fun (V : World) => said_fin H hcap S scap b hb h5 hr hh B Z w V hTw
 have m1 := said_stays hb h5 hr hh hm
 have m2 := said_falls hb h5 hh (m := m) (by omega)
 have m3 := said_could hb h5 hr hh
 have o1 : OkB (withS b (poS h m m)) := said_ok hb hh h5 (by omega)
 have o2 : OkB (withS b ⟨h, true, m, m⟩) := said_ok hb hh h5 (by omega)
 have o3 : OkB (withS b (feS h)) := said_ok hb hh h5 (by omega)
 have P1 := hid fun (W : World) => pole_any h m m W
 have P2 := hid fun (W : World) => fell_any h W
 have W2 : Hid (∀ W, SbAt W H S b → Calls Tryd.prog 45 #[.agg (sbV H hcap S scap b).toArray, .agg #[.int .i64 h, .bool true, .int .i64 m, .int .i64 m]] W fun e w' => (∃ A' c', e = .returned (.agg (sbV H hcap A' c' (withS b ⟨h, true, m, m⟩)).toArray) ∧ SbAt w' H A' (withS b ⟨h, true, m, m⟩)) ∧ Below W.heap.size W w') := hid fun W hW => with_any H hcap S scap b (by omega) ⟨h, true, m, m⟩ W hW
 have SF := hid fun (W : World) hW => safeC H hcap S scap b hb hr hh W hW
 obtain ⟨x1, hx1⟩ : ∃ x, poS h m m = x := ⟨_, rfl⟩
 obtain ⟨x2, hx2⟩ : ∃ x : Si, ⟨h, true, m, m⟩ = x := ⟨_, rfl⟩
 obtain ⟨x3, hx3⟩ : ∃ x, feS h = x := ⟨_, rfl⟩
 rw [hx1] at P1 m1 o1
 rw [hx2] at W2 m1 m2 o2
 rw [hx3] at P2 m3 o3
 obtain ⟨q1, hq1⟩ : ∃ q, rtB (withS b x1) = q := ⟨_, rfl⟩
 obtain ⟨q2, hq2⟩ : ∃ q, rtB (withS b x2) = q := ⟨_, rfl⟩
 obtain ⟨q3, hq3⟩ : ∃ q, rtB (withS b x3) = q := ⟨_, rfl⟩
 obtain ⟨sf, hsf⟩ : ∃ q, safB b h = q := ⟨_, rfl⟩
 rw [hq1, hq2] at m1
 rw [hq2] at m2
 rw [hq3, hsf] at m3
 rw [hsf] at SF
 have W1 := hid fun (W : World) hW => with_any H hcap S scap b (by omega) x1 W hW
 have W3 := hid fun (W : World) hW => with_any H hcap S scap b (by omega) x3 W hW
 have R1 := hid fun (A : Option Addr) (c : Nat) (W : World) hW => rightC H hcap A c (withS b x1) o1 hq1 W hW
 have R2 := hid fun (A : Option Addr) (c : Nat) (W : World) hW => rightC H hcap A c (withS b x2) o2 hq2 W hW
 have R3 := hid fun (A : Option Addr) (c : Nat) (W : World) hW => rightC H hcap A c (withS b x3) o3 hq3 W hW
 have M1 := hid m1
 have M2 := hid m2
 have M3 := hid m3
 clear hb h5 hr hh m1 m2 m3 o1 o2 o3 hx1 hx2 hx3 hq1 hq2 hq3 hsf hlo hhi hm
 refine wp_seq ?_; refine Ks ?_
 refine Rd [11] (fun wt => Below V.heap.size V wt) (fun w1 w2 => Below w1.heap.size w1 w2) [(0, some 86), (1, some 87), (2, some 88), (3, some 89), (4, some 90), (5, some 91), (6, some 92), (7, some 85), (8, some 93), (9, some 94), (10, some 11)] [86, 87, 88, 89, 90, 91, 92, 85, 93, 94, 11] #[true, true, true, true, true, true, true, true, true, true, true, false] [2, 5, 6, 10, 12] hE ((Below.refl _ _).drew) fun Q' K hK => ?_
 refine SeqOps.val ?_ (Sp fun ax wx hS hT' hd K' J => ?_) ?_; rotate_left 1
 ·have r2 := hS.at 2 (by decide) (hE.at 2 rfl); obtain ⟨hcT, hfT, hlT, hmT, hwT, hzT⟩ := bT hT'
  refine wp_load_mid 29 (.tmp 2) rfl B 0 (eval_of r2) (sbV H hcap S scap b) _ (fun j u hu => by rw [Nat.zero_add]; exact (hCB.below hT').2 j u hu) Tryd.underlying29 rfl (by kernel_rfl) ?_
  refine J.out _ _ _ rfl ?_ hT' (Below.refl _ _); rfl
 refine SeqOps.val ?_ (Sp fun ax wx hS hT' hd K' J => ?_) ?_; rotate_left 1
 ·have r5 := hS.at 5 (by decide) (hE.at 5 rfl); obtain ⟨hcT, hfT, hlT, hmT, hwT, hzT⟩ := bT hT'
  refine Go.Proofs.YtkhmcofmjjmjhaaDoor.o1 r5 fun ρ q5 => ?_; go_simp;
  exact Jo J hT'
 refine SeqOps.val ?_ (Sp fun ax wx hS hT' hd K' J => ?_) ?_; rotate_left 1
 ·have r10 := hS.at 10 (by decide) (hE.at 10 rfl); obtain ⟨hcT, hfT, hlT, hmT, hwT, hzT⟩ := bT hT'
  refine Go.Proofs.YtkhmcofmjjmjhaaDoor.o1 r10 fun ρ q10 => ?_; go_simp;
  exact Jo J hT'
 refine SeqOps.val ?_ (Sp fun ax wx hS hT' hd K' J => ?_) ?_; rotate_left 1
 ·have r10 := hS.at 10 (by decide) (hE.at 10 rfl); obtain ⟨hcT, hfT, hlT, hmT, hwT, hzT⟩ := bT hT'
  refine Go.Proofs.YtkhmcofmjjmjhaaDoor.o1 r10 fun ρ q10 => ?_; go_simp;
  exact Jo J hT'
 refine SeqOps.val ?_ (Sp fun ax wx hS hT' hd K' J => ?_) ?_; rotate_left 1
 ·have r87 := Tv hd 2 1 87; have r88 := Tv hd 1 2 88; have r89 := Tv hd 0 3 89; obtain ⟨hcT, hfT, hlT, hmT, hwT, hzT⟩ := bT hT'
  refine Go.Proofs.YtkhmcofmjjmjhaaDoor.o3 r87 r88 r89 fun ρ q87 q88 q89 => ?_; go_simp; (try go_bits);
  go_at_call 46; refine (P1.out _).mono ?_; rintro e g1 ⟨rfl, k1⟩
  refine J.out _ _ _ rfl ?_ (hT'.trans (k1.mono hT'.size)) k1; rfl
 refine SeqOps.say (fun v wt => ∃ A c, v = .agg (sbV H hcap A c (withS b x1)).toArray ∧ SbAt wt H A (withS b x1)) (fun _ _ _ hR ⟨A, c, e, h⟩ => ⟨A, c, e, h.below hR⟩) (Sp fun ax wx hS hT' hd K' J => ?_) ?_
 ·have r86 := Tv hd 4 0 86; have r90 := Tv hd 0 4 90; obtain ⟨hcT, hfT, hlT, hmT, hwT, hzT⟩ := bT hT'
  refine Go.Proofs.YtkhmcofmjjmjhaaDoor.o2 r86 r90 fun ρ q86 q90 => ?_; go_simp; (try go_bits);
  go_at_call 45; refine (W1.out _ (hM.below hT')).mono ?_; rintro e g1 ⟨⟨A, c, rfl, hA⟩, k1⟩
  exact J.out _ _ _ rfl ⟨A, c, rfl, hA⟩ (hT'.trans (k1.mono hT'.size)) k1
 refine SeqOps.val ?_ (Sp fun ax wx hS hT' hd K' J => ?_) ?_; rotate_left 1
 ·obtain ⟨v91, r91, h91⟩ := Tg hd 0 5 91; obtain ⟨A9, c9, rfl, hA9⟩ := h91; obtain ⟨hcT, hfT, hlT, hmT, hwT, hzT⟩ := bT hT'
  refine Go.Proofs.YtkhmcofmjjmjhaaDoor.o1 r91 fun ρ q91 => ?_; go_simp; (try go_bits);
  go_at_call 14; refine (R1.out A9 c9 _ hA9).mono ?_; rintro e g1 ⟨rfl, k1⟩
  refine J.out _ _ _ rfl ?_ (hT'.trans (k1.mono hT'.size)) k1; rfl
 refine SeqOps.val ?_ (Sp fun ax wx hS hT' hd K' J => ?_) ?_; rotate_left 1
 ·have r92 := Tv hd 0 6 92; obtain ⟨hcT, hfT, hlT, hmT, hwT, hzT⟩ := bT hT'
  refine Go.Proofs.YtkhmcofmjjmjhaaDoor.o1 r92 fun ρ q92 => ?_; go_simp;
  exact Jo J hT'
 refine SeqOps.val ?_ (Sp fun ax wx hS hT' hd K' J => ?_) ?_; rotate_left 1
 ·have r85 := Tv hd 0 7 85; obtain ⟨hcT, hfT, hlT, hmT, hwT, hzT⟩ := bT hT'
  refine Go.Proofs.YtkhmcofmjjmjhaaDoor.o1 r85 fun ρ q85 => ?_; go_simp;
  exact Jo J hT'
 refine SeqOps.val ?_ (Sp fun ax wx hS hT' hd K' J => ?_) ?_; rotate_left 1
 ·have r85 := Tv hd 1 7 85; obtain ⟨hcT, hfT, hlT, hmT, hwT, hzT⟩ := bT hT'
  refine Go.Proofs.YtkhmcofmjjmjhaaDoor.o1 r85 fun ρ q85 => ?_; go_simp;
  exact Jo J hT'
 refine SeqOps.val ?_ (Sp fun ax wx hS hT' hd K' J => ?_) ?_; rotate_left 1
 ·have r93 := Tv hd 1 8 93; obtain ⟨hcT, hfT, hlT, hmT, hwT, hzT⟩ := bT hT'
  refine Go.Proofs.YtkhmcofmjjmjhaaDoor.o1 r93 fun ρ q93 => ?_; go_simp;
  exact Jo J hT'
 refine SeqOps.nil ?_
 intro v1 hBm; (repeat refine Ek ?_); (refine fun v h => ?_; obtain ⟨A9, c9, rfl, hA9⟩ := h); (repeat refine Ek ?_)
 refine fun amx hEmx => ?_
 simp only [lk, pick, Nat.reduceEqDiff, ↓reduceIte] at hEmx
 refine Go.Proofs.YtkhmcofmjjmjhaaDoor.M1 hEmx 94 fun K' J ρ q94 => ?_; go_simp; (try clear q94)
 refine Ln hEmx J fun am_1 hEm_1 => ?_; clear J K' hEmx
 refine late_done [2, 5, 6, 10, 11, 12] hEm_1 hK (fun a hE => ?_); clear hK K Q' hEm_1; simp only [lk, pick, Nat.reduceEqDiff, ↓reduceIte] at hE
 have hbv1 := hbV.trans (hBm.mono hbV.size)
 replace hM := hM.below hBm
 replace hCB := hCB.below hBm
 replace hCZ := hCZ.below hBm
 refine Ks ?_
 refine Rd [11] (fun wt => Below v1.heap.size v1 wt) (fun w1 w2 => Below w1.heap.size w1 w2) [(0, some 96), (1, some 97), (2, some 98), (3, some 99), (4, some 100), (5, some 101), (6, some 102), (7, some 95), (8, some 103), (9, some 104), (10, some 13)] [96, 97, 98, 99, 100, 101, 102, 95, 103, 104, 13] #[true, true, true, true, true, true, true, true, true, true, true, false] [2, 5, 6, 10, 11, 12, 14] hE ((Below.refl _ _).drew) fun Q' K hK => ?_
 refine SeqOps.val ?_ (Sp fun ax wx hS hT' hd K' J => ?_) ?_; rotate_left 1
 ·have r2 := hS.at 2 (by decide) (hE.at 2 rfl); obtain ⟨hcT, hfT, hlT, hmT, hwT, hzT⟩ := bT hT'
  refine wp_load_mid 29 (.tmp 2) rfl B 0 (eval_of r2) (sbV H hcap S scap b) _ (fun j u hu => by rw [Nat.zero_add]; exact (hCB.below hT').2 j u hu) Tryd.underlying29 rfl (by kernel_rfl) ?_
  refine J.out _ _ _ rfl ?_ hT' (Below.refl _ _); rfl
 refine SeqOps.val ?_ (Sp fun ax wx hS hT' hd K' J => ?_) ?_; rotate_left 1
 ·have r5 := hS.at 5 (by decide) (hE.at 5 rfl); obtain ⟨hcT, hfT, hlT, hmT, hwT, hzT⟩ := bT hT'
  refine Go.Proofs.YtkhmcofmjjmjhaaDoor.o1 r5 fun ρ q5 => ?_; go_simp;
  exact Jo J hT'
 refine SeqOps.val ?_ (Sp fun ax wx hS hT' hd K' J => ?_) ?_; rotate_left 1
 ·have r10 := hS.at 10 (by decide) (hE.at 10 rfl); obtain ⟨hcT, hfT, hlT, hmT, hwT, hzT⟩ := bT hT'
  refine Go.Proofs.YtkhmcofmjjmjhaaDoor.o1 r10 fun ρ q10 => ?_; go_simp;
  exact Jo J hT'
 refine SeqOps.val ?_ (Sp fun ax wx hS hT' hd K' J => ?_) ?_; rotate_left 1
 ·have r98 := Tv hd 0 2 98; obtain ⟨hcT, hfT, hlT, hmT, hwT, hzT⟩ := bT hT'
  refine Go.Proofs.YtkhmcofmjjmjhaaDoor.o1 r98 fun ρ q98 => ?_; go_simp; (try go_bits);
  go_at_call 43; refine (one_any m _).mono ?_; rintro e g1 ⟨rfl, k1⟩
  refine J.out _ _ _ rfl ?_ (hT'.trans (k1.mono hT'.size)) k1; rfl
 refine SeqOps.val ?_ (Sp fun ax wx hS hT' hd K' J => ?_) ?_; rotate_left 1
 ·have r97 := Tv hd 2 1 97; have r99 := Tv hd 0 3 99; obtain ⟨hcT, hfT, hlT, hmT, hwT, hzT⟩ := bT hT'
  refine Go.Proofs.YtkhmcofmjjmjhaaDoor.o2 r97 r99 fun ρ q97 q99 => ?_; go_simp;
  exact Jo J hT'
 refine SeqOps.say (fun v wt => ∃ A c, v = .agg (sbV H hcap A c (withS b x2)).toArray ∧ SbAt wt H A (withS b x2)) (fun _ _ _ hR ⟨A, c, e, h⟩ => ⟨A, c, e, h.below hR⟩) (Sp fun ax wx hS hT' hd K' J => ?_) ?_
 ·have r96 := Tv hd 4 0 96; have r100 := Tv hd 0 4 100; obtain ⟨hcT, hfT, hlT, hmT, hwT, hzT⟩ := bT hT'
  refine Go.Proofs.YtkhmcofmjjmjhaaDoor.o2 r96 r100 fun ρ q96 q100 => ?_; go_simp; (try go_bits);
  go_at_call 45; refine (W2.out _ (hM.below hT')).mono ?_; rintro e g1 ⟨⟨A, c, rfl, hA⟩, k1⟩
  exact J.out _ _ _ rfl ⟨A, c, rfl, hA⟩ (hT'.trans (k1.mono hT'.size)) k1
 refine SeqOps.val ?_ (Sp fun ax wx hS hT' hd K' J => ?_) ?_; rotate_left 1
 ·obtain ⟨v101, r101, h101⟩ := Tg hd 0 5 101; obtain ⟨A9, c9, rfl, hA9⟩ := h101; obtain ⟨hcT, hfT, hlT, hmT, hwT, hzT⟩ := bT hT'
  refine Go.Proofs.YtkhmcofmjjmjhaaDoor.o1 r101 fun ρ q101 => ?_; go_simp; (try go_bits);
  go_at_call 14; refine (R2.out A9 c9 _ hA9).mono ?_; rintro e g1 ⟨rfl, k1⟩
  refine J.out _ _ _ rfl ?_ (hT'.trans (k1.mono hT'.size)) k1; rfl
 refine SeqOps.val ?_ (Sp fun ax wx hS hT' hd K' J => ?_) ?_; rotate_left 1
 ·have r102 := Tv hd 0 6 102; obtain ⟨hcT, hfT, hlT, hmT, hwT, hzT⟩ := bT hT'
  refine Go.Proofs.YtkhmcofmjjmjhaaDoor.o1 r102 fun ρ q102 => ?_; go_simp;
  exact Jo J hT'
 refine SeqOps.val ?_ (Sp fun ax wx hS hT' hd K' J => ?_) ?_; rotate_left 1
 ·have r95 := Tv hd 0 7 95; obtain ⟨hcT, hfT, hlT, hmT, hwT, hzT⟩ := bT hT'
  refine Go.Proofs.YtkhmcofmjjmjhaaDoor.o1 r95 fun ρ q95 => ?_; go_simp;
  exact Jo J hT'
 refine SeqOps.val ?_ (Sp fun ax wx hS hT' hd K' J => ?_) ?_; rotate_left 1
 ·have r95 := Tv hd 1 7 95; obtain ⟨hcT, hfT, hlT, hmT, hwT, hzT⟩ := bT hT'
  refine Go.Proofs.YtkhmcofmjjmjhaaDoor.o1 r95 fun ρ q95 => ?_; go_simp;
  exact Jo J hT'
 refine SeqOps.val ?_ (Sp fun ax wx hS hT' hd K' J => ?_) ?_; rotate_left 1
 ·have r103 := Tv hd 1 8 103; obtain ⟨hcT, hfT, hlT, hmT, hwT, hzT⟩ := bT hT'
  refine Go.Proofs.YtkhmcofmjjmjhaaDoor.o1 r103 fun ρ q103 => ?_; go_simp;
  exact Jo J hT'
 refine SeqOps.nil ?_
 intro v2 hBn; (repeat refine Ek ?_); (refine fun v h => ?_; obtain ⟨A9, c9, rfl, hA9⟩ := h); (repeat refine Ek ?_)
 refine fun anx hEnx => ?_
 simp only [lk, pick, Nat.reduceEqDiff, ↓reduceIte] at hEnx
 refine Go.Proofs.YtkhmcofmjjmjhaaDoor.M1 hEnx 104 fun K' J ρ q104 => ?_; go_simp; (try clear q104)
 refine Ln hEnx J fun an_1 hEn_1 => ?_; clear J K' hEnx
 refine late_done [2, 5, 6, 10, 11, 12, 13, 14] hEn_1 hK (fun a hE => ?_); clear hK K Q' hEn_1; simp only [lk, pick, Nat.reduceEqDiff, ↓reduceIte] at hE
 have hbv2 := hbv1.trans (hBn.mono hbv1.size)
 replace hM := hM.below hBn
 replace hCB := hCB.below hBn
 replace hCZ := hCZ.below hBn
 refine Ks ?_
 refine Rs 8 fun Q' K hK => ?_
 refine Lp fun K' J => ?_
 have r2 := hE.at 2 rfl
 refine wp_load_mid 29 (.tmp 2) rfl B 0 (eval_of r2) (sbV H hcap S scap b) _ (fun j u hu => by rw [Nat.zero_add]; exact hCB.2 j u hu) Tryd.underlying29 rfl (by kernel_rfl) ?_
 (try clear r2)
 refine Ln hE J fun _ Eb => ?_; clear J K' hE a
 refine Go.Proofs.YtkhmcofmjjmjhaaDoor.M1 Eb 5 fun K' J ρ q5 => ?_; go_simp; (try clear q5)
 refine Ln Eb J fun _ Ea => ?_; clear J K' Eb
 refine Go.Proofs.YtkhmcofmjjmjhaaDoor.M2 Ea 106 107 fun K' J ρ q106 q107 => ?_; go_simp; (try go_bits); (try clear q106 q107)
 go_at_call 20; refine (SF.out _ hM).mono ?_; rintro e v3 ⟨rfl, h3⟩
 (try clear r106 r107)
 refine Ln Ea J fun _ Eb => ?_; clear J K' Ea
 refine Go.Proofs.YtkhmcofmjjmjhaaDoor.M1 Eb 108 fun K' J ρ q108 => ?_; go_simp; (try clear q108)
 refine Ln Eb J fun _ Ea => ?_; clear J K' Eb
 refine Go.Proofs.YtkhmcofmjjmjhaaDoor.M1 Ea 105 fun K' J ρ q105 => ?_; go_simp; (try clear q105)
 refine Ln Ea J fun _ Eb => ?_; clear J K' Ea
 refine Go.Proofs.YtkhmcofmjjmjhaaDoor.M1 Eb 105 fun K' J ρ q105 => ?_; go_simp; (try clear q105)
 refine Ln Eb J fun _ Ea => ?_; clear J K' Eb
 refine Go.Proofs.YtkhmcofmjjmjhaaDoor.M1 Ea 109 fun K' J ρ q109 => ?_; go_simp; (try clear q109)
 refine Ln Ea J fun _ Eb => ?_; clear J K' Ea
 refine Go.Proofs.YtkhmcofmjjmjhaaDoor.M1 Eb 110 fun K' J ρ q110 => ?_; go_simp; (try clear q110)
 refine Ln Eb J fun _ Ea => ?_; clear J K' Eb
 refine late_done [2, 5, 6, 10, 11, 12, 13, 14, 15, 16] Ea hK (fun a hE => ?_); clear hK K Q' Ea; simp only [lk, pick, Nat.reduceEqDiff, ↓reduceIte] at hE
 have hbv3 := hbv2.trans (h3.mono hbv2.size)
 replace hM := hM.below h3
 replace hCB := hCB.below h3
 replace hCZ := hCZ.below h3
 refine Ks ?_
 refine Rd [9] (fun wt => Below v3.heap.size v3 wt) (fun w1 w2 => Below w1.heap.size w1 w2) [(0, some 112), (1, some 113), (2, some 114), (3, some 115), (4, some 116), (5, some 111), (6, some 117), (7, some 118), (8, some 17)] [112, 113, 114, 115, 116, 111, 117, 118, 17] #[true, true, true, true, true, true, true, true, true, false] [2, 5, 6, 10, 11, 12, 13, 14, 15, 16, 18] hE ((Below.refl _ _).drew) fun Q' K hK => ?_
 refine SeqOps.val ?_ (Sp fun ax wx hS hT' hd K' J => ?_) ?_; rotate_left 1
 ·have r2 := hS.at 2 (by decide) (hE.at 2 rfl); obtain ⟨hcT, hfT, hlT, hmT, hwT, hzT⟩ := bT hT'
  refine wp_load_mid 29 (.tmp 2) rfl B 0 (eval_of r2) (sbV H hcap S scap b) _ (fun j u hu => by rw [Nat.zero_add]; exact (hCB.below hT').2 j u hu) Tryd.underlying29 rfl (by kernel_rfl) ?_
  refine J.out _ _ _ rfl ?_ hT' (Below.refl _ _); rfl
 refine SeqOps.val ?_ (Sp fun ax wx hS hT' hd K' J => ?_) ?_; rotate_left 1
 ·have r5 := hS.at 5 (by decide) (hE.at 5 rfl); obtain ⟨hcT, hfT, hlT, hmT, hwT, hzT⟩ := bT hT'
  refine Go.Proofs.YtkhmcofmjjmjhaaDoor.o1 r5 fun ρ q5 => ?_; go_simp;
  exact Jo J hT'
 refine SeqOps.val ?_ (Sp fun ax wx hS hT' hd K' J => ?_) ?_; rotate_left 1
 ·have r113 := Tv hd 0 1 113; obtain ⟨hcT, hfT, hlT, hmT, hwT, hzT⟩ := bT hT'
  refine Go.Proofs.YtkhmcofmjjmjhaaDoor.o1 r113 fun ρ q113 => ?_; go_simp; (try go_bits);
  go_at_call 47; refine (P2.out _).mono ?_; rintro e g1 ⟨rfl, k1⟩
  refine J.out _ _ _ rfl ?_ (hT'.trans (k1.mono hT'.size)) k1; rfl
 refine SeqOps.say (fun v wt => ∃ A c, v = .agg (sbV H hcap A c (withS b x3)).toArray ∧ SbAt wt H A (withS b x3)) (fun _ _ _ hR ⟨A, c, e, h⟩ => ⟨A, c, e, h.below hR⟩) (Sp fun ax wx hS hT' hd K' J => ?_) ?_
 ·have r112 := Tv hd 2 0 112; have r114 := Tv hd 0 2 114; obtain ⟨hcT, hfT, hlT, hmT, hwT, hzT⟩ := bT hT'
  refine Go.Proofs.YtkhmcofmjjmjhaaDoor.o2 r112 r114 fun ρ q112 q114 => ?_; go_simp; (try go_bits);
  go_at_call 45; refine (W3.out _ (hM.below hT')).mono ?_; rintro e g1 ⟨⟨A, c, rfl, hA⟩, k1⟩
  exact J.out _ _ _ rfl ⟨A, c, rfl, hA⟩ (hT'.trans (k1.mono hT'.size)) k1
 refine SeqOps.val ?_ (Sp fun ax wx hS hT' hd K' J => ?_) ?_; rotate_left 1
 ·obtain ⟨v115, r115, h115⟩ := Tg hd 0 3 115; obtain ⟨A9, c9, rfl, hA9⟩ := h115; obtain ⟨hcT, hfT, hlT, hmT, hwT, hzT⟩ := bT hT'
  refine Go.Proofs.YtkhmcofmjjmjhaaDoor.o1 r115 fun ρ q115 => ?_; go_simp; (try go_bits);
  go_at_call 14; refine (R3.out A9 c9 _ hA9).mono ?_; rintro e g1 ⟨rfl, k1⟩
  refine J.out _ _ _ rfl ?_ (hT'.trans (k1.mono hT'.size)) k1; rfl
 refine SeqOps.val ?_ (Sp fun ax wx hS hT' hd K' J => ?_) ?_; rotate_left 1
 ·have r116 := Tv hd 0 4 116; obtain ⟨hcT, hfT, hlT, hmT, hwT, hzT⟩ := bT hT'
  refine Go.Proofs.YtkhmcofmjjmjhaaDoor.o1 r116 fun ρ q116 => ?_; go_simp;
  exact Jo J hT'
 refine SeqOps.val ?_ (Sp fun ax wx hS hT' hd K' J => ?_) ?_; rotate_left 1
 ·have r111 := Tv hd 0 5 111; obtain ⟨hcT, hfT, hlT, hmT, hwT, hzT⟩ := bT hT'
  refine Go.Proofs.YtkhmcofmjjmjhaaDoor.o1 r111 fun ρ q111 => ?_; go_simp;
  exact Jo J hT'
 refine SeqOps.val ?_ (Sp fun ax wx hS hT' hd K' J => ?_) ?_; rotate_left 1
 ·have r111 := Tv hd 1 5 111; obtain ⟨hcT, hfT, hlT, hmT, hwT, hzT⟩ := bT hT'
  refine Go.Proofs.YtkhmcofmjjmjhaaDoor.o1 r111 fun ρ q111 => ?_; go_simp;
  exact Jo J hT'
 refine SeqOps.val ?_ (Sp fun ax wx hS hT' hd K' J => ?_) ?_; rotate_left 1
 ·have r117 := Tv hd 1 6 117; obtain ⟨hcT, hfT, hlT, hmT, hwT, hzT⟩ := bT hT'
  refine Go.Proofs.YtkhmcofmjjmjhaaDoor.o1 r117 fun ρ q117 => ?_; go_simp;
  exact Jo J hT'
 refine SeqOps.nil ?_
 intro v4 hBo; (repeat refine Ek ?_); (refine fun v h => ?_; obtain ⟨A9, c9, rfl, hA9⟩ := h); (repeat refine Ek ?_)
 refine fun aox hEox => ?_
 simp only [lk, pick, Nat.reduceEqDiff, ↓reduceIte] at hEox
 refine Go.Proofs.YtkhmcofmjjmjhaaDoor.M1 hEox 118 fun K' J ρ q118 => ?_; go_simp; (try clear q118)
 refine Ln hEox J fun ao_1 hEo_1 => ?_; clear J K' hEox
 refine late_done [2, 5, 6, 10, 11, 12, 13, 14, 15, 16, 17, 18] hEo_1 hK (fun a hE => ?_); clear hK K Q' hEo_1; simp only [lk, pick, Nat.reduceEqDiff, ↓reduceIte] at hE
 have hbv4 := hbv3.trans (hBo.mono hbv3.size)
 replace hM := hM.below hBo
 replace hCB := hCB.below hBo
 replace hCZ := hCZ.below hBo
 have nB := hCB.1; have cB4 := hCB.2 4 _ rfl
 cases h1 : q1
 ·rw [h1] at hE
  have h2 : q2 = true := by
   rcases M1.out with h | h
   ·rw [h1] at h; cases h
   ·exact h
  rw [h2] at hE
  have hhold := M2.out h2
  cases h3 : sf
  ·rw [h3] at hE
   refine Ks ?_
   refine Rs 38 fun Q' K hK => ?_
   refine Go.Proofs.YtkhmcofmjjmjhaaDoor.M1 hE 12 fun K' J ρ q12 => ?_; go_simp; (try clear q12)
   refine Ln hE J fun _ Eb => ?_; clear J K' hE a
   refine Go.Proofs.YtkhmcofmjjmjhaaDoor.M1 Eb 119 fun K' J ρ q119 => ?_; go_simp; (try go_bits); (try clear q119)
   refine Ln Eb J fun _ Ea => ?_; clear J K' Eb
   refine Go.Proofs.YtkhmcofmjjmjhaaDoor.M1 Ea 120 fun K' J ρ q120 => ?_; go_simp; (try clear q120)
   refine Ln Ea J fun _ Eb => ?_; clear J K' Ea
   refine N1 Eb 121 14 fun K' J ρ q14 => ?_; go_simp; (try clear q14)
   refine Ln Eb J fun _ Ea => ?_; clear J K' Eb
   refine N1 Ea 121 122 fun K' J ρ q122 => ?_; go_simp; (try go_bits); (try clear q122)
   refine Ln Ea J fun _ Eb => ?_; clear J K' Ea
   refine Go.Proofs.YtkhmcofmjjmjhaaDoor.M2 Eb 121 123 fun K' J ρ q121 q123 => ?_; go_simp; (try go_bits); (try clear q121 q123)
   refine Ln Eb J fun _ Ea => ?_; clear J K' Eb
   refine Go.Proofs.YtkhmcofmjjmjhaaDoor.M1 Ea 124 fun K' J ρ q124 => ?_; go_simp; (try clear q124)
   refine Ln Ea J fun _ Eb => ?_; clear J K' Ea
   refine N1 Eb 125 16 fun K' J ρ q16 => ?_; go_simp; (try clear q16)
   refine Ln Eb J fun _ Ea => ?_; clear J K' Eb
   refine N1 Ea 125 126 fun K' J ρ q126 => ?_; go_simp; (try go_bits); (try clear q126)
   refine Ln Ea J fun _ Eb => ?_; clear J K' Ea
   refine Go.Proofs.YtkhmcofmjjmjhaaDoor.M2 Eb 125 127 fun K' J ρ q125 q127 => ?_; go_simp; (try go_bits); (try clear q125 q127)
   refine Ln Eb J fun _ Ea => ?_; clear J K' Eb
   refine Go.Proofs.YtkhmcofmjjmjhaaDoor.M1 Ea 128 fun K' J ρ q128 => ?_; go_simp; (try clear q128)
   refine Ln Ea J fun _ Eb => ?_; clear J K' Ea
   refine N1 Eb 129 18 fun K' J ρ q18 => ?_; go_simp; (try clear q18)
   refine Ln Eb J fun _ Ea => ?_; clear J K' Eb
   refine N1 Ea 129 130 fun K' J ρ q130 => ?_; go_simp; (try go_bits); (try clear q130)
   refine Ln Ea J fun _ Eb => ?_; clear J K' Ea
   refine Go.Proofs.YtkhmcofmjjmjhaaDoor.M2 Eb 129 131 fun K' J ρ q129 q131 => ?_; go_simp; (try go_bits); (try clear q129 q131)
   refine Ln Eb J fun _ Ea => ?_; clear J K' Eb
   refine Go.Proofs.YtkhmcofmjjmjhaaDoor.M1 Ea 132 fun K' J ρ q132 => ?_; go_simp; (try clear q132)
   refine Ln Ea J fun _ Eb => ?_; clear J K' Ea
   refine N1 Eb 133 11 fun K' J ρ q11 => ?_; go_simp; (try clear q11)
   refine Ln Eb J fun _ Ea => ?_; clear J K' Eb
   refine N1 Ea 133 134 fun K' J ρ q134 => ?_; go_simp; (try go_bits); (try simp (disch := omega) only [IntWalk.i64_in]); (try clear q134)
   refine Ln Ea J fun _ Eb => ?_; clear J K' Ea
   refine N1 Eb 133 135 fun K' J ρ q135 => ?_; go_simp; (try clear q135)
   refine Ln Eb J fun _ Ea => ?_; clear J K' Eb
   refine N1 Ea 136 13 fun K' J ρ q13 => ?_; go_simp; (try clear q13)
   refine Ln Ea J fun _ Eb => ?_; clear J K' Ea
   refine N1 Eb 136 137 fun K' J ρ q137 => ?_; go_simp; (try go_bits); (try simp (disch := omega) only [IntWalk.i64_in]); (try clear q137)
   refine Ln Eb J fun _ Ea => ?_; clear J K' Eb
   refine N2 Ea 133 136 138 fun K' J ρ q136 q138 => ?_; go_simp; (try go_bits); (try clear q136 q138)
   refine Ln Ea J fun _ Eb => ?_; clear J K' Ea
   refine Go.Proofs.YtkhmcofmjjmjhaaDoor.M2 Eb 133 139 fun K' J ρ q133 q139 => ?_; go_simp; (try go_bits); (try clear q133 q139)
   refine Ln Eb J fun _ Ea => ?_; clear J K' Eb
   refine Go.Proofs.YtkhmcofmjjmjhaaDoor.M1 Ea 140 fun K' J ρ q140 => ?_; go_simp; (try clear q140)
   refine Ln Ea J fun _ Eb => ?_; clear J K' Ea
   refine N1 Eb 141 13 fun K' J ρ q13 => ?_; go_simp; (try clear q13)
   refine Ln Eb J fun _ Ea => ?_; clear J K' Eb
   refine N1 Ea 141 142 fun K' J ρ q142 => ?_; go_simp; (try clear q142)
   refine Ln Ea J fun _ Eb => ?_; clear J K' Ea
   refine N1 Eb 143 10 fun K' J ρ q10 => ?_; go_simp; (try clear q10)
   refine Ln Eb J fun _ Ea => ?_; clear J K' Eb
   refine N1 Ea 143 2 fun K' J ρ q2 => ?_; go_simp; (try clear q2)
   refine Ln Ea J fun _ Eb => ?_; clear J K' Ea
   refine N1 Eb 143 145 fun K' J ρ q145 => ?_; go_simp; (try clear q145)
   refine Ln Eb J fun _ Ea => ?_; clear J K' Eb
   refine N1 Ea 143 146 fun K' J ρ q146 => ?_; go_simp; (try clear q146)
   refine Ln Ea J fun _ Eb => ?_; clear J K' Ea
   refine N2 Eb 143 144 147 fun K' J ρ q144 q147 => ?_; go_simp; (try go_bits); (try clear q144 q147)
   refine Ln Eb J fun _ Ea => ?_; clear J K' Eb
   replace Ea := Ea.turn 148 (v' := .bool false) rfl (by (simp; omega))
   refine N2 Ea 141 143 148 fun K' J ρ q143 q148 => ?_; go_simp; (try go_bits); (try clear q143 q148)
   refine Ln Ea J fun _ Eb => ?_; clear J K' Ea
   refine Go.Proofs.YtkhmcofmjjmjhaaDoor.M2 Eb 141 149 fun K' J ρ q141 q149 => ?_; go_simp; (try go_bits); (try clear q141 q149)
   refine Ln Eb J fun _ Ea => ?_; clear J K' Eb
   refine Go.Proofs.YtkhmcofmjjmjhaaDoor.M1 Ea 150 fun K' J ρ q150 => ?_; go_simp; (try clear q150)
   refine Ln Ea J fun _ Eb => ?_; clear J K' Ea
   refine N1 Eb 151 15 fun K' J ρ q15 => ?_; go_simp; (try clear q15)
   refine Ln Eb J fun _ Ea => ?_; clear J K' Eb
   refine N1 Ea 151 152 fun K' J ρ q152 => ?_; go_simp; (try clear q152)
   refine Ln Ea J fun _ Eb => ?_; clear J K' Ea
   refine Lno Eb 153 ?_
   refine Lu Eb fun _ Ea => ?_
   refine N2 Ea 151 153 154 fun K' J ρ q153 q154 => ?_; go_simp; (try go_bits); (try clear q153 q154)
   refine Ln Ea J fun _ Eb => ?_; clear J K' Ea
   refine Go.Proofs.YtkhmcofmjjmjhaaDoor.M2 Eb 151 155 fun K' J ρ q151 q155 => ?_; go_simp; (try go_bits); (try clear q151 q155)
   refine Ln Eb J fun _ Ea => ?_; clear J K' Eb
   replace Ea := Ea.turn 156 (v' := .bool false) rfl (by (first | rfl | simp))
   refine late_done [2, 5, 6, 156] Ea hK (fun a hE => ?_); clear hK K Q' Ea; simp only [lk, pick, Nat.reduceEqDiff, ↓reduceIte] at hE
   refine cond_no hE (t := 156) rfl ?_
   refine wp_skip ?_
   exact HF.out _ hbv4 hM hCB hCZ _ (fits_init [(156, .bool false)] hE)
  ·rw [h3] at hE
   have h4 : q3 = false := by
    cases h4 : q3
    ·rfl
    ·have h5 := M3.out h4
     rw [h3] at h5; cases h5
   rw [h4] at hE
   refine Ks ?_
   refine Rs 38 fun Q' K hK => ?_
   refine Go.Proofs.YtkhmcofmjjmjhaaDoor.M1 hE 12 fun K' J ρ q12 => ?_; go_simp; (try clear q12)
   refine Ln hE J fun _ Eb => ?_; clear J K' hE a
   refine Go.Proofs.YtkhmcofmjjmjhaaDoor.M1 Eb 119 fun K' J ρ q119 => ?_; go_simp; (try go_bits); (try clear q119)
   refine Ln Eb J fun _ Ea => ?_; clear J K' Eb
   refine Go.Proofs.YtkhmcofmjjmjhaaDoor.M1 Ea 120 fun K' J ρ q120 => ?_; go_simp; (try clear q120)
   refine Ln Ea J fun _ Eb => ?_; clear J K' Ea
   refine N1 Eb 121 14 fun K' J ρ q14 => ?_; go_simp; (try clear q14)
   refine Ln Eb J fun _ Ea => ?_; clear J K' Eb
   refine N1 Ea 121 122 fun K' J ρ q122 => ?_; go_simp; (try go_bits); (try clear q122)
   refine Ln Ea J fun _ Eb => ?_; clear J K' Ea
   refine Go.Proofs.YtkhmcofmjjmjhaaDoor.M2 Eb 121 123 fun K' J ρ q121 q123 => ?_; go_simp; (try go_bits); (try clear q121 q123)
   refine Ln Eb J fun _ Ea => ?_; clear J K' Eb
   refine Go.Proofs.YtkhmcofmjjmjhaaDoor.M1 Ea 124 fun K' J ρ q124 => ?_; go_simp; (try clear q124)
   refine Ln Ea J fun _ Eb => ?_; clear J K' Ea
   refine N1 Eb 125 16 fun K' J ρ q16 => ?_; go_simp; (try clear q16)
   refine Ln Eb J fun _ Ea => ?_; clear J K' Eb
   refine N1 Ea 125 126 fun K' J ρ q126 => ?_; go_simp; (try go_bits); (try clear q126)
   refine Ln Ea J fun _ Eb => ?_; clear J K' Ea
   refine Go.Proofs.YtkhmcofmjjmjhaaDoor.M2 Eb 125 127 fun K' J ρ q125 q127 => ?_; go_simp; (try go_bits); (try clear q125 q127)
   refine Ln Eb J fun _ Ea => ?_; clear J K' Eb
   refine Go.Proofs.YtkhmcofmjjmjhaaDoor.M1 Ea 128 fun K' J ρ q128 => ?_; go_simp; (try clear q128)
   refine Ln Ea J fun _ Eb => ?_; clear J K' Ea
   refine N1 Eb 129 18 fun K' J ρ q18 => ?_; go_simp; (try clear q18)
   refine Ln Eb J fun _ Ea => ?_; clear J K' Eb
   refine N1 Ea 129 130 fun K' J ρ q130 => ?_; go_simp; (try go_bits); (try clear q130)
   refine Ln Ea J fun _ Eb => ?_; clear J K' Ea
   refine Go.Proofs.YtkhmcofmjjmjhaaDoor.M2 Eb 129 131 fun K' J ρ q129 q131 => ?_; go_simp; (try go_bits); (try clear q129 q131)
   refine Ln Eb J fun _ Ea => ?_; clear J K' Eb
   refine Go.Proofs.YtkhmcofmjjmjhaaDoor.M1 Ea 132 fun K' J ρ q132 => ?_; go_simp; (try clear q132)
   refine Ln Ea J fun _ Eb => ?_; clear J K' Ea
   refine N1 Eb 133 11 fun K' J ρ q11 => ?_; go_simp; (try clear q11)
   refine Ln Eb J fun _ Ea => ?_; clear J K' Eb
   refine N1 Ea 133 134 fun K' J ρ q134 => ?_; go_simp; (try go_bits); (try simp (disch := omega) only [IntWalk.i64_in]); (try clear q134)
   refine Ln Ea J fun _ Eb => ?_; clear J K' Ea
   refine N1 Eb 133 135 fun K' J ρ q135 => ?_; go_simp; (try clear q135)
   refine Ln Eb J fun _ Ea => ?_; clear J K' Eb
   refine N1 Ea 136 13 fun K' J ρ q13 => ?_; go_simp; (try clear q13)
   refine Ln Ea J fun _ Eb => ?_; clear J K' Ea
   refine N1 Eb 136 137 fun K' J ρ q137 => ?_; go_simp; (try go_bits); (try simp (disch := omega) only [IntWalk.i64_in]); (try clear q137)
   refine Ln Eb J fun _ Ea => ?_; clear J K' Eb
   refine N2 Ea 133 136 138 fun K' J ρ q136 q138 => ?_; go_simp; (try go_bits); (try clear q136 q138)
   refine Ln Ea J fun _ Eb => ?_; clear J K' Ea
   refine Go.Proofs.YtkhmcofmjjmjhaaDoor.M2 Eb 133 139 fun K' J ρ q133 q139 => ?_; go_simp; (try go_bits); (try clear q133 q139)
   refine Ln Eb J fun _ Ea => ?_; clear J K' Eb
   refine Go.Proofs.YtkhmcofmjjmjhaaDoor.M1 Ea 140 fun K' J ρ q140 => ?_; go_simp; (try clear q140)
   refine Ln Ea J fun _ Eb => ?_; clear J K' Ea
   refine N1 Eb 141 13 fun K' J ρ q13 => ?_; go_simp; (try clear q13)
   refine Ln Eb J fun _ Ea => ?_; clear J K' Eb
   refine N1 Ea 141 142 fun K' J ρ q142 => ?_; go_simp; (try clear q142)
   refine Ln Ea J fun _ Eb => ?_; clear J K' Ea
   refine N1 Eb 143 10 fun K' J ρ q10 => ?_; go_simp; (try clear q10)
   refine Ln Eb J fun _ Ea => ?_; clear J K' Eb
   refine N1 Ea 143 2 fun K' J ρ q2 => ?_; go_simp; (try clear q2)
   refine Ln Ea J fun _ Eb => ?_; clear J K' Ea
   refine N1 Eb 143 145 fun K' J ρ q145 => ?_; go_simp; (try clear q145)
   refine Ln Eb J fun _ Ea => ?_; clear J K' Eb
   refine N1 Ea 143 146 fun K' J ρ q146 => ?_; go_simp; (try clear q146)
   refine Ln Ea J fun _ Eb => ?_; clear J K' Ea
   refine N2 Eb 143 144 147 fun K' J ρ q144 q147 => ?_; go_simp; (try go_bits); (try clear q144 q147)
   refine Ln Eb J fun _ Ea => ?_; clear J K' Eb
   replace Ea := Ea.turn 148 (v' := .bool false) rfl (by (simp; omega))
   refine N2 Ea 141 143 148 fun K' J ρ q143 q148 => ?_; go_simp; (try go_bits); (try clear q143 q148)
   refine Ln Ea J fun _ Eb => ?_; clear J K' Ea
   refine Go.Proofs.YtkhmcofmjjmjhaaDoor.M2 Eb 141 149 fun K' J ρ q141 q149 => ?_; go_simp; (try go_bits); (try clear q141 q149)
   refine Ln Eb J fun _ Ea => ?_; clear J K' Eb
   refine Go.Proofs.YtkhmcofmjjmjhaaDoor.M1 Ea 150 fun K' J ρ q150 => ?_; go_simp; (try clear q150)
   refine Ln Ea J fun _ Eb => ?_; clear J K' Ea
   refine N1 Eb 151 15 fun K' J ρ q15 => ?_; go_simp; (try clear q15)
   refine Ln Eb J fun _ Ea => ?_; clear J K' Eb
   refine N1 Ea 151 152 fun K' J ρ q152 => ?_; go_simp; (try clear q152)
   refine Ln Ea J fun _ Eb => ?_; clear J K' Ea
   refine N1 Eb 153 17 fun K' J ρ q17 => ?_; go_simp; (try clear q17)
   refine Ln Eb J fun _ Ea => ?_; clear J K' Eb
   refine N2 Ea 151 153 154 fun K' J ρ q153 q154 => ?_; go_simp; (try go_bits); (try clear q153 q154)
   refine Ln Ea J fun _ Eb => ?_; clear J K' Ea
   refine Go.Proofs.YtkhmcofmjjmjhaaDoor.M2 Eb 151 155 fun K' J ρ q151 q155 => ?_; go_simp; (try go_bits); (try clear q151 q155)
   refine Ln Eb J fun _ Ea => ?_; clear J K' Eb
   replace Ea := Ea.turn 156 (v' := .bool false) rfl (by (first | rfl | simp))
   refine late_done [2, 5, 6, 156] Ea hK (fun a hE => ?_); clear hK K Q' Ea; simp only [lk, pick, Nat.reduceEqDiff, ↓reduceIte] at hE
   refine cond_no hE (t := 156) rfl ?_
   refine wp_skip ?_
   exact HF.out _ hbv4 hM hCB hCZ _ (fits_init [(156, .bool false)] hE)
 ·rw [h1] at hE
  cases h2 : q2
  ·rw [h2] at hE
   cases h3 : sf
   ·rw [h3] at hE
    refine Ks ?_
    refine Rs 38 fun Q' K hK => ?_
    refine Go.Proofs.YtkhmcofmjjmjhaaDoor.M1 hE 12 fun K' J ρ q12 => ?_; go_simp; (try clear q12)
    refine Ln hE J fun _ Eb => ?_; clear J K' hE a
    refine Go.Proofs.YtkhmcofmjjmjhaaDoor.M1 Eb 119 fun K' J ρ q119 => ?_; go_simp; (try go_bits); (try clear q119)
    refine Ln Eb J fun _ Ea => ?_; clear J K' Eb
    refine Go.Proofs.YtkhmcofmjjmjhaaDoor.M1 Ea 120 fun K' J ρ q120 => ?_; go_simp; (try clear q120)
    refine Ln Ea J fun _ Eb => ?_; clear J K' Ea
    refine N1 Eb 121 14 fun K' J ρ q14 => ?_; go_simp; (try clear q14)
    refine Ln Eb J fun _ Ea => ?_; clear J K' Eb
    refine N1 Ea 121 122 fun K' J ρ q122 => ?_; go_simp; (try go_bits); (try clear q122)
    refine Ln Ea J fun _ Eb => ?_; clear J K' Ea
    refine Go.Proofs.YtkhmcofmjjmjhaaDoor.M2 Eb 121 123 fun K' J ρ q121 q123 => ?_; go_simp; (try go_bits); (try clear q121 q123)
    refine Ln Eb J fun _ Ea => ?_; clear J K' Eb
    refine Go.Proofs.YtkhmcofmjjmjhaaDoor.M1 Ea 124 fun K' J ρ q124 => ?_; go_simp; (try clear q124)
    refine Ln Ea J fun _ Eb => ?_; clear J K' Ea
    refine N1 Eb 125 16 fun K' J ρ q16 => ?_; go_simp; (try clear q16)
    refine Ln Eb J fun _ Ea => ?_; clear J K' Eb
    refine N1 Ea 125 126 fun K' J ρ q126 => ?_; go_simp; (try go_bits); (try clear q126)
    refine Ln Ea J fun _ Eb => ?_; clear J K' Ea
    refine Go.Proofs.YtkhmcofmjjmjhaaDoor.M2 Eb 125 127 fun K' J ρ q125 q127 => ?_; go_simp; (try go_bits); (try clear q125 q127)
    refine Ln Eb J fun _ Ea => ?_; clear J K' Eb
    refine Go.Proofs.YtkhmcofmjjmjhaaDoor.M1 Ea 128 fun K' J ρ q128 => ?_; go_simp; (try clear q128)
    refine Ln Ea J fun _ Eb => ?_; clear J K' Ea
    refine N1 Eb 129 18 fun K' J ρ q18 => ?_; go_simp; (try clear q18)
    refine Ln Eb J fun _ Ea => ?_; clear J K' Eb
    refine N1 Ea 129 130 fun K' J ρ q130 => ?_; go_simp; (try go_bits); (try clear q130)
    refine Ln Ea J fun _ Eb => ?_; clear J K' Ea
    refine Go.Proofs.YtkhmcofmjjmjhaaDoor.M2 Eb 129 131 fun K' J ρ q129 q131 => ?_; go_simp; (try go_bits); (try clear q129 q131)
    refine Ln Eb J fun _ Ea => ?_; clear J K' Eb
    refine Go.Proofs.YtkhmcofmjjmjhaaDoor.M1 Ea 132 fun K' J ρ q132 => ?_; go_simp; (try clear q132)
    refine Ln Ea J fun _ Eb => ?_; clear J K' Ea
    refine N1 Eb 133 11 fun K' J ρ q11 => ?_; go_simp; (try clear q11)
    refine Ln Eb J fun _ Ea => ?_; clear J K' Eb
    refine N1 Ea 133 134 fun K' J ρ q134 => ?_; go_simp; (try go_bits); (try simp (disch := omega) only [IntWalk.i64_in]); (try clear q134)
    refine Ln Ea J fun _ Eb => ?_; clear J K' Ea
    refine N1 Eb 133 135 fun K' J ρ q135 => ?_; go_simp; (try clear q135)
    refine Ln Eb J fun _ Ea => ?_; clear J K' Eb
    refine Lno Ea 136 ?_
    refine Lu Ea fun _ Eb => ?_
    refine Lno Eb 136 ?_
    refine Lu Eb fun _ Ea => ?_
    refine N2 Ea 133 136 138 fun K' J ρ q136 q138 => ?_; go_simp; (try go_bits); (try clear q136 q138)
    refine Ln Ea J fun _ Eb => ?_; clear J K' Ea
    refine Go.Proofs.YtkhmcofmjjmjhaaDoor.M2 Eb 133 139 fun K' J ρ q133 q139 => ?_; go_simp; (try go_bits); (try clear q133 q139)
    refine Ln Eb J fun _ Ea => ?_; clear J K' Eb
    refine Go.Proofs.YtkhmcofmjjmjhaaDoor.M1 Ea 140 fun K' J ρ q140 => ?_; go_simp; (try clear q140)
    refine Ln Ea J fun _ Eb => ?_; clear J K' Ea
    refine N1 Eb 141 13 fun K' J ρ q13 => ?_; go_simp; (try clear q13)
    refine Ln Eb J fun _ Ea => ?_; clear J K' Eb
    refine N1 Ea 141 142 fun K' J ρ q142 => ?_; go_simp; (try clear q142)
    refine Ln Ea J fun _ Eb => ?_; clear J K' Ea
    refine Lno Eb 143 ?_
    refine Lu Eb fun _ Ea => ?_
    refine Lno Ea 143 ?_
    refine Lu Ea fun _ Eb => ?_
    refine Lno Eb 143 ?_
    refine Lu Eb fun _ Ea => ?_
    refine Lno Ea 143 ?_
    refine Lu Ea fun _ Eb => ?_
    refine Lno Eb 143 ?_
    refine Lu Eb fun _ Ea => ?_
    refine N2 Ea 141 143 148 fun K' J ρ q143 q148 => ?_; go_simp; (try go_bits); (try clear q143 q148)
    refine Ln Ea J fun _ Eb => ?_; clear J K' Ea
    refine Go.Proofs.YtkhmcofmjjmjhaaDoor.M2 Eb 141 149 fun K' J ρ q141 q149 => ?_; go_simp; (try go_bits); (try clear q141 q149)
    refine Ln Eb J fun _ Ea => ?_; clear J K' Eb
    refine Go.Proofs.YtkhmcofmjjmjhaaDoor.M1 Ea 150 fun K' J ρ q150 => ?_; go_simp; (try clear q150)
    refine Ln Ea J fun _ Eb => ?_; clear J K' Ea
    refine N1 Eb 151 15 fun K' J ρ q15 => ?_; go_simp; (try clear q15)
    refine Ln Eb J fun _ Ea => ?_; clear J K' Eb
    refine N1 Ea 151 152 fun K' J ρ q152 => ?_; go_simp; (try clear q152)
    refine Ln Ea J fun _ Eb => ?_; clear J K' Ea
    refine Lno Eb 153 ?_
    refine Lu Eb fun _ Ea => ?_
    refine N2 Ea 151 153 154 fun K' J ρ q153 q154 => ?_; go_simp; (try go_bits); (try clear q153 q154)
    refine Ln Ea J fun _ Eb => ?_; clear J K' Ea
    refine Go.Proofs.YtkhmcofmjjmjhaaDoor.M2 Eb 151 155 fun K' J ρ q151 q155 => ?_; go_simp; (try go_bits); (try clear q151 q155)
    refine Ln Eb J fun _ Ea => ?_; clear J K' Eb
    replace Ea := Ea.turn 156 (v' := .bool false) rfl (by (first | rfl | simp))
    refine late_done [2, 5, 6, 156] Ea hK (fun a hE => ?_); clear hK K Q' Ea; simp only [lk, pick, Nat.reduceEqDiff, ↓reduceIte] at hE
    refine cond_no hE (t := 156) rfl ?_
    refine wp_skip ?_
    exact HF.out _ hbv4 hM hCB hCZ _ (fits_init [(156, .bool false)] hE)
   ·rw [h3] at hE
    have h4 : q3 = false := by
     cases h4 : q3
     ·rfl
     ·have h5 := M3.out h4
      rw [h3] at h5; cases h5
    rw [h4] at hE
    refine Ks ?_
    refine Rs 38 fun Q' K hK => ?_
    refine Go.Proofs.YtkhmcofmjjmjhaaDoor.M1 hE 12 fun K' J ρ q12 => ?_; go_simp; (try clear q12)
    refine Ln hE J fun _ Eb => ?_; clear J K' hE a
    refine Go.Proofs.YtkhmcofmjjmjhaaDoor.M1 Eb 119 fun K' J ρ q119 => ?_; go_simp; (try go_bits); (try clear q119)
    refine Ln Eb J fun _ Ea => ?_; clear J K' Eb
    refine Go.Proofs.YtkhmcofmjjmjhaaDoor.M1 Ea 120 fun K' J ρ q120 => ?_; go_simp; (try clear q120)
    refine Ln Ea J fun _ Eb => ?_; clear J K' Ea
    refine N1 Eb 121 14 fun K' J ρ q14 => ?_; go_simp; (try clear q14)
    refine Ln Eb J fun _ Ea => ?_; clear J K' Eb
    refine N1 Ea 121 122 fun K' J ρ q122 => ?_; go_simp; (try go_bits); (try clear q122)
    refine Ln Ea J fun _ Eb => ?_; clear J K' Ea
    refine Go.Proofs.YtkhmcofmjjmjhaaDoor.M2 Eb 121 123 fun K' J ρ q121 q123 => ?_; go_simp; (try go_bits); (try clear q121 q123)
    refine Ln Eb J fun _ Ea => ?_; clear J K' Eb
    refine Go.Proofs.YtkhmcofmjjmjhaaDoor.M1 Ea 124 fun K' J ρ q124 => ?_; go_simp; (try clear q124)
    refine Ln Ea J fun _ Eb => ?_; clear J K' Ea
    refine N1 Eb 125 16 fun K' J ρ q16 => ?_; go_simp; (try clear q16)
    refine Ln Eb J fun _ Ea => ?_; clear J K' Eb
    refine N1 Ea 125 126 fun K' J ρ q126 => ?_; go_simp; (try go_bits); (try clear q126)
    refine Ln Ea J fun _ Eb => ?_; clear J K' Ea
    refine Go.Proofs.YtkhmcofmjjmjhaaDoor.M2 Eb 125 127 fun K' J ρ q125 q127 => ?_; go_simp; (try go_bits); (try clear q125 q127)
    refine Ln Eb J fun _ Ea => ?_; clear J K' Eb
    refine Go.Proofs.YtkhmcofmjjmjhaaDoor.M1 Ea 128 fun K' J ρ q128 => ?_; go_simp; (try clear q128)
    refine Ln Ea J fun _ Eb => ?_; clear J K' Ea
    refine N1 Eb 129 18 fun K' J ρ q18 => ?_; go_simp; (try clear q18)
    refine Ln Eb J fun _ Ea => ?_; clear J K' Eb
    refine N1 Ea 129 130 fun K' J ρ q130 => ?_; go_simp; (try go_bits); (try clear q130)
    refine Ln Ea J fun _ Eb => ?_; clear J K' Ea
    refine Go.Proofs.YtkhmcofmjjmjhaaDoor.M2 Eb 129 131 fun K' J ρ q129 q131 => ?_; go_simp; (try go_bits); (try clear q129 q131)
    refine Ln Eb J fun _ Ea => ?_; clear J K' Eb
    refine Go.Proofs.YtkhmcofmjjmjhaaDoor.M1 Ea 132 fun K' J ρ q132 => ?_; go_simp; (try clear q132)
    refine Ln Ea J fun _ Eb => ?_; clear J K' Ea
    refine N1 Eb 133 11 fun K' J ρ q11 => ?_; go_simp; (try clear q11)
    refine Ln Eb J fun _ Ea => ?_; clear J K' Eb
    refine N1 Ea 133 134 fun K' J ρ q134 => ?_; go_simp; (try go_bits); (try simp (disch := omega) only [IntWalk.i64_in]); (try clear q134)
    refine Ln Ea J fun _ Eb => ?_; clear J K' Ea
    refine N1 Eb 133 135 fun K' J ρ q135 => ?_; go_simp; (try clear q135)
    refine Ln Eb J fun _ Ea => ?_; clear J K' Eb
    refine Lno Ea 136 ?_
    refine Lu Ea fun _ Eb => ?_
    refine Lno Eb 136 ?_
    refine Lu Eb fun _ Ea => ?_
    refine N2 Ea 133 136 138 fun K' J ρ q136 q138 => ?_; go_simp; (try go_bits); (try clear q136 q138)
    refine Ln Ea J fun _ Eb => ?_; clear J K' Ea
    refine Go.Proofs.YtkhmcofmjjmjhaaDoor.M2 Eb 133 139 fun K' J ρ q133 q139 => ?_; go_simp; (try go_bits); (try clear q133 q139)
    refine Ln Eb J fun _ Ea => ?_; clear J K' Eb
    refine Go.Proofs.YtkhmcofmjjmjhaaDoor.M1 Ea 140 fun K' J ρ q140 => ?_; go_simp; (try clear q140)
    refine Ln Ea J fun _ Eb => ?_; clear J K' Ea
    refine N1 Eb 141 13 fun K' J ρ q13 => ?_; go_simp; (try clear q13)
    refine Ln Eb J fun _ Ea => ?_; clear J K' Eb
    refine N1 Ea 141 142 fun K' J ρ q142 => ?_; go_simp; (try clear q142)
    refine Ln Ea J fun _ Eb => ?_; clear J K' Ea
    refine Lno Eb 143 ?_
    refine Lu Eb fun _ Ea => ?_
    refine Lno Ea 143 ?_
    refine Lu Ea fun _ Eb => ?_
    refine Lno Eb 143 ?_
    refine Lu Eb fun _ Ea => ?_
    refine Lno Ea 143 ?_
    refine Lu Ea fun _ Eb => ?_
    refine Lno Eb 143 ?_
    refine Lu Eb fun _ Ea => ?_
    refine N2 Ea 141 143 148 fun K' J ρ q143 q148 => ?_; go_simp; (try go_bits); (try clear q143 q148)
    refine Ln Ea J fun _ Eb => ?_; clear J K' Ea
    refine Go.Proofs.YtkhmcofmjjmjhaaDoor.M2 Eb 141 149 fun K' J ρ q141 q149 => ?_; go_simp; (try go_bits); (try clear q141 q149)
    refine Ln Eb J fun _ Ea => ?_; clear J K' Eb
    refine Go.Proofs.YtkhmcofmjjmjhaaDoor.M1 Ea 150 fun K' J ρ q150 => ?_; go_simp; (try clear q150)
    refine Ln Ea J fun _ Eb => ?_; clear J K' Ea
    refine N1 Eb 151 15 fun K' J ρ q15 => ?_; go_simp; (try clear q15)
    refine Ln Eb J fun _ Ea => ?_; clear J K' Eb
    refine N1 Ea 151 152 fun K' J ρ q152 => ?_; go_simp; (try clear q152)
    refine Ln Ea J fun _ Eb => ?_; clear J K' Ea
    refine N1 Eb 153 17 fun K' J ρ q17 => ?_; go_simp; (try clear q17)
    refine Ln Eb J fun _ Ea => ?_; clear J K' Eb
    refine N2 Ea 151 153 154 fun K' J ρ q153 q154 => ?_; go_simp; (try go_bits); (try clear q153 q154)
    refine Ln Ea J fun _ Eb => ?_; clear J K' Ea
    refine Go.Proofs.YtkhmcofmjjmjhaaDoor.M2 Eb 151 155 fun K' J ρ q151 q155 => ?_; go_simp; (try go_bits); (try clear q151 q155)
    refine Ln Eb J fun _ Ea => ?_; clear J K' Eb
    replace Ea := Ea.turn 156 (v' := .bool false) rfl (by (first | rfl | simp))
    refine late_done [2, 5, 6, 156] Ea hK (fun a hE => ?_); clear hK K Q' Ea; simp only [lk, pick, Nat.reduceEqDiff, ↓reduceIte] at hE
    refine cond_no hE (t := 156) rfl ?_
    refine wp_skip ?_
    exact HF.out _ hbv4 hM hCB hCZ _ (fits_init [(156, .bool false)] hE)
  ·rw [h2] at hE
   have hhold := M2.out h2
   cases h3 : sf
   ·rw [h3] at hE
    refine Ks ?_
    refine Rs 38 fun Q' K hK => ?_
    refine Go.Proofs.YtkhmcofmjjmjhaaDoor.M1 hE 12 fun K' J ρ q12 => ?_; go_simp; (try clear q12)
    refine Ln hE J fun _ Eb => ?_; clear J K' hE a
    refine Go.Proofs.YtkhmcofmjjmjhaaDoor.M1 Eb 119 fun K' J ρ q119 => ?_; go_simp; (try go_bits); (try clear q119)
    refine Ln Eb J fun _ Ea => ?_; clear J K' Eb
    refine Go.Proofs.YtkhmcofmjjmjhaaDoor.M1 Ea 120 fun K' J ρ q120 => ?_; go_simp; (try clear q120)
    refine Ln Ea J fun _ Eb => ?_; clear J K' Ea
    refine N1 Eb 121 14 fun K' J ρ q14 => ?_; go_simp; (try clear q14)
    refine Ln Eb J fun _ Ea => ?_; clear J K' Eb
    refine N1 Ea 121 122 fun K' J ρ q122 => ?_; go_simp; (try go_bits); (try clear q122)
    refine Ln Ea J fun _ Eb => ?_; clear J K' Ea
    refine Go.Proofs.YtkhmcofmjjmjhaaDoor.M2 Eb 121 123 fun K' J ρ q121 q123 => ?_; go_simp; (try go_bits); (try clear q121 q123)
    refine Ln Eb J fun _ Ea => ?_; clear J K' Eb
    refine Go.Proofs.YtkhmcofmjjmjhaaDoor.M1 Ea 124 fun K' J ρ q124 => ?_; go_simp; (try clear q124)
    refine Ln Ea J fun _ Eb => ?_; clear J K' Ea
    refine N1 Eb 125 16 fun K' J ρ q16 => ?_; go_simp; (try clear q16)
    refine Ln Eb J fun _ Ea => ?_; clear J K' Eb
    refine N1 Ea 125 126 fun K' J ρ q126 => ?_; go_simp; (try go_bits); (try clear q126)
    refine Ln Ea J fun _ Eb => ?_; clear J K' Ea
    refine Go.Proofs.YtkhmcofmjjmjhaaDoor.M2 Eb 125 127 fun K' J ρ q125 q127 => ?_; go_simp; (try go_bits); (try clear q125 q127)
    refine Ln Eb J fun _ Ea => ?_; clear J K' Eb
    refine Go.Proofs.YtkhmcofmjjmjhaaDoor.M1 Ea 128 fun K' J ρ q128 => ?_; go_simp; (try clear q128)
    refine Ln Ea J fun _ Eb => ?_; clear J K' Ea
    refine N1 Eb 129 18 fun K' J ρ q18 => ?_; go_simp; (try clear q18)
    refine Ln Eb J fun _ Ea => ?_; clear J K' Eb
    refine N1 Ea 129 130 fun K' J ρ q130 => ?_; go_simp; (try go_bits); (try clear q130)
    refine Ln Ea J fun _ Eb => ?_; clear J K' Ea
    refine Go.Proofs.YtkhmcofmjjmjhaaDoor.M2 Eb 129 131 fun K' J ρ q129 q131 => ?_; go_simp; (try go_bits); (try clear q129 q131)
    refine Ln Eb J fun _ Ea => ?_; clear J K' Eb
    refine Go.Proofs.YtkhmcofmjjmjhaaDoor.M1 Ea 132 fun K' J ρ q132 => ?_; go_simp; (try clear q132)
    refine Ln Ea J fun _ Eb => ?_; clear J K' Ea
    refine N1 Eb 133 11 fun K' J ρ q11 => ?_; go_simp; (try clear q11)
    refine Ln Eb J fun _ Ea => ?_; clear J K' Eb
    refine N1 Ea 133 134 fun K' J ρ q134 => ?_; go_simp; (try go_bits); (try simp (disch := omega) only [IntWalk.i64_in]); (try clear q134)
    refine Ln Ea J fun _ Eb => ?_; clear J K' Ea
    refine N1 Eb 133 135 fun K' J ρ q135 => ?_; go_simp; (try clear q135)
    refine Ln Eb J fun _ Ea => ?_; clear J K' Eb
    refine Lno Ea 136 ?_
    refine Lu Ea fun _ Eb => ?_
    refine Lno Eb 136 ?_
    refine Lu Eb fun _ Ea => ?_
    refine N2 Ea 133 136 138 fun K' J ρ q136 q138 => ?_; go_simp; (try go_bits); (try clear q136 q138)
    refine Ln Ea J fun _ Eb => ?_; clear J K' Ea
    refine Go.Proofs.YtkhmcofmjjmjhaaDoor.M2 Eb 133 139 fun K' J ρ q133 q139 => ?_; go_simp; (try go_bits); (try clear q133 q139)
    refine Ln Eb J fun _ Ea => ?_; clear J K' Eb
    refine Go.Proofs.YtkhmcofmjjmjhaaDoor.M1 Ea 140 fun K' J ρ q140 => ?_; go_simp; (try clear q140)
    refine Ln Ea J fun _ Eb => ?_; clear J K' Ea
    refine N1 Eb 141 13 fun K' J ρ q13 => ?_; go_simp; (try clear q13)
    refine Ln Eb J fun _ Ea => ?_; clear J K' Eb
    refine N1 Ea 141 142 fun K' J ρ q142 => ?_; go_simp; (try clear q142)
    refine Ln Ea J fun _ Eb => ?_; clear J K' Ea
    refine N1 Eb 143 10 fun K' J ρ q10 => ?_; go_simp; (try clear q10)
    refine Ln Eb J fun _ Ea => ?_; clear J K' Eb
    refine N1 Ea 143 2 fun K' J ρ q2 => ?_; go_simp; (try clear q2)
    refine Ln Ea J fun _ Eb => ?_; clear J K' Ea
    refine N1 Eb 143 145 fun K' J ρ q145 => ?_; go_simp; (try clear q145)
    refine Ln Eb J fun _ Ea => ?_; clear J K' Eb
    refine N1 Ea 143 146 fun K' J ρ q146 => ?_; go_simp; (try clear q146)
    refine Ln Ea J fun _ Eb => ?_; clear J K' Ea
    refine N2 Eb 143 144 147 fun K' J ρ q144 q147 => ?_; go_simp; (try go_bits); (try clear q144 q147)
    refine Ln Eb J fun _ Ea => ?_; clear J K' Eb
    replace Ea := Ea.turn 148 (v' := .bool false) rfl (by (simp; omega))
    refine N2 Ea 141 143 148 fun K' J ρ q143 q148 => ?_; go_simp; (try go_bits); (try clear q143 q148)
    refine Ln Ea J fun _ Eb => ?_; clear J K' Ea
    refine Go.Proofs.YtkhmcofmjjmjhaaDoor.M2 Eb 141 149 fun K' J ρ q141 q149 => ?_; go_simp; (try go_bits); (try clear q141 q149)
    refine Ln Eb J fun _ Ea => ?_; clear J K' Eb
    refine Go.Proofs.YtkhmcofmjjmjhaaDoor.M1 Ea 150 fun K' J ρ q150 => ?_; go_simp; (try clear q150)
    refine Ln Ea J fun _ Eb => ?_; clear J K' Ea
    refine N1 Eb 151 15 fun K' J ρ q15 => ?_; go_simp; (try clear q15)
    refine Ln Eb J fun _ Ea => ?_; clear J K' Eb
    refine N1 Ea 151 152 fun K' J ρ q152 => ?_; go_simp; (try clear q152)
    refine Ln Ea J fun _ Eb => ?_; clear J K' Ea
    refine Lno Eb 153 ?_
    refine Lu Eb fun _ Ea => ?_
    refine N2 Ea 151 153 154 fun K' J ρ q153 q154 => ?_; go_simp; (try go_bits); (try clear q153 q154)
    refine Ln Ea J fun _ Eb => ?_; clear J K' Ea
    refine Go.Proofs.YtkhmcofmjjmjhaaDoor.M2 Eb 151 155 fun K' J ρ q151 q155 => ?_; go_simp; (try go_bits); (try clear q151 q155)
    refine Ln Eb J fun _ Ea => ?_; clear J K' Eb
    replace Ea := Ea.turn 156 (v' := .bool false) rfl (by (first | rfl | simp))
    refine late_done [2, 5, 6, 156] Ea hK (fun a hE => ?_); clear hK K Q' Ea; simp only [lk, pick, Nat.reduceEqDiff, ↓reduceIte] at hE
    refine cond_no hE (t := 156) rfl ?_
    refine wp_skip ?_
    exact HF.out _ hbv4 hM hCB hCZ _ (fits_init [(156, .bool false)] hE)
   ·rw [h3] at hE
    have h4 : q3 = false := by
     cases h4 : q3
     ·rfl
     ·have h5 := M3.out h4
      rw [h3] at h5; cases h5
    rw [h4] at hE
    refine Ks ?_
    refine Rs 38 fun Q' K hK => ?_
    refine Go.Proofs.YtkhmcofmjjmjhaaDoor.M1 hE 12 fun K' J ρ q12 => ?_; go_simp; (try clear q12)
    refine Ln hE J fun _ Eb => ?_; clear J K' hE a
    refine Go.Proofs.YtkhmcofmjjmjhaaDoor.M1 Eb 119 fun K' J ρ q119 => ?_; go_simp; (try go_bits); (try clear q119)
    refine Ln Eb J fun _ Ea => ?_; clear J K' Eb
    refine Go.Proofs.YtkhmcofmjjmjhaaDoor.M1 Ea 120 fun K' J ρ q120 => ?_; go_simp; (try clear q120)
    refine Ln Ea J fun _ Eb => ?_; clear J K' Ea
    refine N1 Eb 121 14 fun K' J ρ q14 => ?_; go_simp; (try clear q14)
    refine Ln Eb J fun _ Ea => ?_; clear J K' Eb
    refine N1 Ea 121 122 fun K' J ρ q122 => ?_; go_simp; (try go_bits); (try clear q122)
    refine Ln Ea J fun _ Eb => ?_; clear J K' Ea
    refine Go.Proofs.YtkhmcofmjjmjhaaDoor.M2 Eb 121 123 fun K' J ρ q121 q123 => ?_; go_simp; (try go_bits); (try clear q121 q123)
    refine Ln Eb J fun _ Ea => ?_; clear J K' Eb
    refine Go.Proofs.YtkhmcofmjjmjhaaDoor.M1 Ea 124 fun K' J ρ q124 => ?_; go_simp; (try clear q124)
    refine Ln Ea J fun _ Eb => ?_; clear J K' Ea
    refine N1 Eb 125 16 fun K' J ρ q16 => ?_; go_simp; (try clear q16)
    refine Ln Eb J fun _ Ea => ?_; clear J K' Eb
    refine N1 Ea 125 126 fun K' J ρ q126 => ?_; go_simp; (try go_bits); (try clear q126)
    refine Ln Ea J fun _ Eb => ?_; clear J K' Ea
    refine Go.Proofs.YtkhmcofmjjmjhaaDoor.M2 Eb 125 127 fun K' J ρ q125 q127 => ?_; go_simp; (try go_bits); (try clear q125 q127)
    refine Ln Eb J fun _ Ea => ?_; clear J K' Eb
    refine Go.Proofs.YtkhmcofmjjmjhaaDoor.M1 Ea 128 fun K' J ρ q128 => ?_; go_simp; (try clear q128)
    refine Ln Ea J fun _ Eb => ?_; clear J K' Ea
    refine N1 Eb 129 18 fun K' J ρ q18 => ?_; go_simp; (try clear q18)
    refine Ln Eb J fun _ Ea => ?_; clear J K' Eb
    refine N1 Ea 129 130 fun K' J ρ q130 => ?_; go_simp; (try go_bits); (try clear q130)
    refine Ln Ea J fun _ Eb => ?_; clear J K' Ea
    refine Go.Proofs.YtkhmcofmjjmjhaaDoor.M2 Eb 129 131 fun K' J ρ q129 q131 => ?_; go_simp; (try go_bits); (try clear q129 q131)
    refine Ln Eb J fun _ Ea => ?_; clear J K' Eb
    refine Go.Proofs.YtkhmcofmjjmjhaaDoor.M1 Ea 132 fun K' J ρ q132 => ?_; go_simp; (try clear q132)
    refine Ln Ea J fun _ Eb => ?_; clear J K' Ea
    refine N1 Eb 133 11 fun K' J ρ q11 => ?_; go_simp; (try clear q11)
    refine Ln Eb J fun _ Ea => ?_; clear J K' Eb
    refine N1 Ea 133 134 fun K' J ρ q134 => ?_; go_simp; (try go_bits); (try simp (disch := omega) only [IntWalk.i64_in]); (try clear q134)
    refine Ln Ea J fun _ Eb => ?_; clear J K' Ea
    refine N1 Eb 133 135 fun K' J ρ q135 => ?_; go_simp; (try clear q135)
    refine Ln Eb J fun _ Ea => ?_; clear J K' Eb
    refine Lno Ea 136 ?_
    refine Lu Ea fun _ Eb => ?_
    refine Lno Eb 136 ?_
    refine Lu Eb fun _ Ea => ?_
    refine N2 Ea 133 136 138 fun K' J ρ q136 q138 => ?_; go_simp; (try go_bits); (try clear q136 q138)
    refine Ln Ea J fun _ Eb => ?_; clear J K' Ea
    refine Go.Proofs.YtkhmcofmjjmjhaaDoor.M2 Eb 133 139 fun K' J ρ q133 q139 => ?_; go_simp; (try go_bits); (try clear q133 q139)
    refine Ln Eb J fun _ Ea => ?_; clear J K' Eb
    refine Go.Proofs.YtkhmcofmjjmjhaaDoor.M1 Ea 140 fun K' J ρ q140 => ?_; go_simp; (try clear q140)
    refine Ln Ea J fun _ Eb => ?_; clear J K' Ea
    refine N1 Eb 141 13 fun K' J ρ q13 => ?_; go_simp; (try clear q13)
    refine Ln Eb J fun _ Ea => ?_; clear J K' Eb
    refine N1 Ea 141 142 fun K' J ρ q142 => ?_; go_simp; (try clear q142)
    refine Ln Ea J fun _ Eb => ?_; clear J K' Ea
    refine N1 Eb 143 10 fun K' J ρ q10 => ?_; go_simp; (try clear q10)
    refine Ln Eb J fun _ Ea => ?_; clear J K' Eb
    refine N1 Ea 143 2 fun K' J ρ q2 => ?_; go_simp; (try clear q2)
    refine Ln Ea J fun _ Eb => ?_; clear J K' Ea
    refine N1 Eb 143 145 fun K' J ρ q145 => ?_; go_simp; (try clear q145)
    refine Ln Eb J fun _ Ea => ?_; clear J K' Eb
    refine N1 Ea 143 146 fun K' J ρ q146 => ?_; go_simp; (try clear q146)
    refine Ln Ea J fun _ Eb => ?_; clear J K' Ea
    refine N2 Eb 143 144 147 fun K' J ρ q144 q147 => ?_; go_simp; (try go_bits); (try clear q144 q147)
    refine Ln Eb J fun _ Ea => ?_; clear J K' Eb
    replace Ea := Ea.turn 148 (v' := .bool false) rfl (by (simp; omega))
    refine N2 Ea 141 143 148 fun K' J ρ q143 q148 => ?_; go_simp; (try go_bits); (try clear q143 q148)
    refine Ln Ea J fun _ Eb => ?_; clear J K' Ea
    refine Go.Proofs.YtkhmcofmjjmjhaaDoor.M2 Eb 141 149 fun K' J ρ q141 q149 => ?_; go_simp; (try go_bits); (try clear q141 q149)
    refine Ln Eb J fun _ Ea => ?_; clear J K' Eb
    refine Go.Proofs.YtkhmcofmjjmjhaaDoor.M1 Ea 150 fun K' J ρ q150 => ?_; go_simp; (try clear q150)
    refine Ln Ea J fun _ Eb => ?_; clear J K' Ea
    refine N1 Eb 151 15 fun K' J ρ q15 => ?_; go_simp; (try clear q15)
    refine Ln Eb J fun _ Ea => ?_; clear J K' Eb
    refine N1 Ea 151 152 fun K' J ρ q152 => ?_; go_simp; (try clear q152)
    refine Ln Ea J fun _ Eb => ?_; clear J K' Ea
    refine N1 Eb 153 17 fun K' J ρ q17 => ?_; go_simp; (try clear q17)
    refine Ln Eb J fun _ Ea => ?_; clear J K' Eb
    refine N2 Ea 151 153 154 fun K' J ρ q153 q154 => ?_; go_simp; (try go_bits); (try clear q153 q154)
    refine Ln Ea J fun _ Eb => ?_; clear J K' Ea
    refine Go.Proofs.YtkhmcofmjjmjhaaDoor.M2 Eb 151 155 fun K' J ρ q151 q155 => ?_; go_simp; (try go_bits); (try clear q151 q155)
    refine Ln Eb J fun _ Ea => ?_; clear J K' Eb
    replace Ea := Ea.turn 156 (v' := .bool false) rfl (by (first | rfl | simp))
    refine late_done [2, 5, 6, 156] Ea hK (fun a hE => ?_); clear hK K Q' Ea; simp only [lk, pick, Nat.reduceEqDiff, ↓reduceIte] at hE
    refine cond_no hE (t := 156) rfl ?_
    refine wp_skip ?_
    exact HF.out _ hbv4 hM hCB hCZ _ (fits_init [(156, .bool false)] hE)
set_option maxRecDepth 100000 in
set_option maxHeartbeats 4000000 in
theorem said_bad (ho : b.ok = false) (n0 n1 : Int) (w : World) (hTw : TabW w) (hM : SbAt w H S b) (hh : b.hours.length ≤ 9223372036854775807) (hss : b.sights.length ≤ 9223372036854775807) : Calls Tryd.prog 8 #[.agg (sbV H hcap S scap b).toArray, .agg #[.int .i64 n0, .int .i64 n1]] w fun e w' => e = .returned (.bool true) ∧ Below w.heap.size w w' := by
 have C2 : Hid (∀ W, SbAt W H S b → Calls Tryd.prog 34 #[.agg (sbV H hcap S scap b).toArray] W fun e w' => e = .returned (.bool false) ∧ Below W.heap.size W w') := hid fun W hW => by
  have h := sound_any H hcap S scap b W hW hh hss
  rw [ho] at h
  exact h
 clear ho hh hss
 refine enterE Tryd.func8 rfl Tryd.ntmps8 (by simp) (fun a hE => ?_); simp only [envOf, Nat.zero_add, Nat.reduceAdd] at hE
 refine Ks ?_
 refine Rs 3 fun Q' K hK => ?_
 refine Go.Proofs.YtkhmcofmjjmjhaaDoor.M1 hE 0 fun K' J ρ q0 => ?_; go_simp; (try clear q0)
 refine Ln hE J fun _ Eb => ?_; clear J K' hE a
 refine Go.Proofs.YtkhmcofmjjmjhaaDoor.M1 Eb 1 fun K' J ρ q1 => ?_; go_simp; (try clear q1)
 refine Ln Eb J fun _ Ea => ?_; clear J K' Eb
 refine M0 fun K' J ρ => ?_; go_simp;
 refine Ln Ea J fun _ Eb => ?_; clear J K' Ea
 refine late_done [2, 3] Eb hK (fun a hE => ?_); clear hK K Q' Eb; simp only [lk, pick, Nat.reduceEqDiff, ↓reduceIte] at hE
 obtain ⟨B, hB⟩ : ∃ B, B = w.heap.size := ⟨_, rfl⟩
 obtain ⟨X, hX⟩ : ∃ B, B = w.heap.size + 1 := ⟨_, rfl⟩
 rw [← hX, ← hB] at hE
 refine world_cut (fun wt => Below w.heap.size w wt ∧ Cells wt B (sbV H hcap S scap b) ∧ Cells wt X [.int .i64 n0, .int .i64 n1]) (by rw [hB, hX]; exact cells_two w _ _ _ _) (fun w1 hC => ?_)
 obtain ⟨hbw1, hCB, hCX⟩ := hC
 replace hM := hM.below hbw1
 have hTw0 := hTw
 replace hTw := hTw.below hbw1
 clear hB hX
 have nB := hCB.1; have cB7 := hCB.2 7 _ rfl; have cB8 := hCB.2 8 _ rfl
 have nX := hCX.1; have cX0 := hCX.2 0 _ rfl; have cX1 := hCX.2 1 _ rfl
 refine Ks ?_
 refine Rs 9 fun Q' K hK => ?_
 refine Lp fun K' J => ?_
 have r2 := hE.at 2 rfl
 refine wp_load_mid 29 (.tmp 2) rfl B 0 (eval_of r2) (sbV H hcap S scap b) _ (fun j u hu => by rw [Nat.zero_add]; exact hCB.2 j u hu) Tryd.underlying29 rfl (by kernel_rfl) ?_
 (try clear r2)
 refine Ln hE J fun _ Eb => ?_; clear J K' hE a
 refine Go.Proofs.YtkhmcofmjjmjhaaDoor.M1 Eb 23 fun K' J ρ q23 => ?_; go_simp; (try go_bits); (try clear q23)
 go_at_call 34; refine (C2.out _ hM).mono ?_; rintro e w2 ⟨rfl, h2⟩
 (try clear r23)
 refine Ln Eb J fun _ Ea => ?_; clear J K' Eb
 refine Go.Proofs.YtkhmcofmjjmjhaaDoor.M1 Ea 24 fun K' J ρ q24 => ?_; go_simp; (try go_bits); (try simp (disch := omega) only [IntWalk.i64_in]); (try clear q24)
 refine Ln Ea J fun _ Eb => ?_; clear J K' Ea
 refine Go.Proofs.YtkhmcofmjjmjhaaDoor.M1 Eb 25 fun K' J ρ q25 => ?_; go_simp; (try clear q25)
 refine Ln Eb J fun _ Ea => ?_; clear J K' Eb
 refine Lno Ea 26 ?_
 refine Lu Ea fun _ Eb => ?_
 refine Lno Eb 26 ?_
 refine Lu Eb fun _ Ea => ?_
 refine Lno Ea 26 ?_
 refine Lu Ea fun _ Eb => ?_
 refine Lno Eb 26 ?_
 refine Lu Eb fun _ Ea => ?_
 refine Go.Proofs.YtkhmcofmjjmjhaaDoor.M2 Ea 26 30 fun K' J ρ q26 q30 => ?_; go_simp; (try go_bits); (try clear q26 q30)
 refine Ln Ea J fun _ Eb => ?_; clear J K' Ea
 replace Eb := Eb.turn 31 (v' := .bool true) rfl (by (first | rfl | simp))
 refine late_done [2, 3, 31] Eb hK (fun a hE => ?_); clear hK K Q' Eb; simp only [lk, pick, Nat.reduceEqDiff, ↓reduceIte] at hE
 have hbw2 := hbw1.trans (h2.mono hbw1.size)
 replace hCB := hCB.below h2
 clear nB cB7 cB8
 have nB := hCB.1; have cB7 := hCB.2 7 _ rfl; have cB8 := hCB.2 8 _ rfl
 replace hCX := hCX.below h2
 clear nX cX0 cX1
 have nX := hCX.1; have cX0 := hCX.2 0 _ rfl; have cX1 := hCX.2 1 _ rfl
 replace hM := hM.below h2
 replace hTw := hTw.below h2
 refine Ks ?_
 refine cond_yes hE (t := 31) rfl ?_
 refine Ks ?_
 refine Rs 2 fun Q' K hK => ?_
 refine M0 fun K' J ρ => ?_; go_simp; (try go_bits);
 go_at_call 22; refine (snowed_any _ hTw).mono ?_; rintro e w9 ⟨rfl, k9⟩
 refine Ln hE J fun _ Eb => ?_; clear J K' hE a
 refine Go.Proofs.YtkhmcofmjjmjhaaDoor.M1 Eb 32 fun K' J ρ q32 => ?_; go_simp; (try clear q32)
 refine Ln Eb J fun _ Ea => ?_; clear J K' Eb
 refine late_done [4] Ea hK (fun a hE => ?_); clear hK K Q' Ea; simp only [lk, pick, Nat.reduceEqDiff, ↓reduceIte] at hE
 refine Ks ?_
 exact ret_one hE rfl rfl ⟨rfl, hbw2.trans (k9.mono hbw2.size)⟩
set_option maxRecDepth 100000 in
set_option maxHeartbeats 4000000 in
theorem said_six (hb : OkB b) (h6 : b.sights.length = 6) (n0 n1 : Int) (w : World) (hTw : TabW w) (hM : SbAt w H S b) : Calls Tryd.prog 8 #[.agg (sbV H hcap S scap b).toArray, .agg #[.int .i64 n0, .int .i64 n1]] w fun e w' => e = .returned (.bool true) ∧ Below w.heap.size w w' := by
 have C2 := hid fun (W : World) hW => soundC H hcap S scap b hb W hW
 have h6I : (b.sights.length : Int) = 6 := by omega
 clear hb
 refine enterE Tryd.func8 rfl Tryd.ntmps8 (by simp) (fun a hE => ?_); simp only [envOf, Nat.zero_add, Nat.reduceAdd] at hE
 refine Ks ?_
 refine Rs 3 fun Q' K hK => ?_
 refine Go.Proofs.YtkhmcofmjjmjhaaDoor.M1 hE 0 fun K' J ρ q0 => ?_; go_simp; (try clear q0)
 refine Ln hE J fun _ Eb => ?_; clear J K' hE a
 refine Go.Proofs.YtkhmcofmjjmjhaaDoor.M1 Eb 1 fun K' J ρ q1 => ?_; go_simp; (try clear q1)
 refine Ln Eb J fun _ Ea => ?_; clear J K' Eb
 refine M0 fun K' J ρ => ?_; go_simp;
 refine Ln Ea J fun _ Eb => ?_; clear J K' Ea
 refine late_done [2, 3] Eb hK (fun a hE => ?_); clear hK K Q' Eb; simp only [lk, pick, Nat.reduceEqDiff, ↓reduceIte] at hE
 obtain ⟨B, hB⟩ : ∃ B, B = w.heap.size := ⟨_, rfl⟩
 obtain ⟨X, hX⟩ : ∃ B, B = w.heap.size + 1 := ⟨_, rfl⟩
 rw [← hX, ← hB] at hE
 refine world_cut (fun wt => Below w.heap.size w wt ∧ Cells wt B (sbV H hcap S scap b) ∧ Cells wt X [.int .i64 n0, .int .i64 n1]) (by rw [hB, hX]; exact cells_two w _ _ _ _) (fun w1 hC => ?_)
 obtain ⟨hbw1, hCB, hCX⟩ := hC
 replace hM := hM.below hbw1
 have hTw0 := hTw
 replace hTw := hTw.below hbw1
 clear hB hX
 have nB := hCB.1; have cB7 := hCB.2 7 _ rfl; have cB8 := hCB.2 8 _ rfl
 have nX := hCX.1; have cX0 := hCX.2 0 _ rfl; have cX1 := hCX.2 1 _ rfl
 refine Ks ?_
 refine Rs 9 fun Q' K hK => ?_
 refine Lp fun K' J => ?_
 have r2 := hE.at 2 rfl
 refine wp_load_mid 29 (.tmp 2) rfl B 0 (eval_of r2) (sbV H hcap S scap b) _ (fun j u hu => by rw [Nat.zero_add]; exact hCB.2 j u hu) Tryd.underlying29 rfl (by kernel_rfl) ?_
 (try clear r2)
 refine Ln hE J fun _ Eb => ?_; clear J K' hE a
 refine Go.Proofs.YtkhmcofmjjmjhaaDoor.M1 Eb 23 fun K' J ρ q23 => ?_; go_simp; (try go_bits); (try clear q23)
 go_at_call 34; refine (C2.out _ hM).mono ?_; rintro e w2 ⟨rfl, h2⟩
 have cB8 := hCB.below h2 |>.2 8 _ rfl
 (try clear r23)
 refine Ln Eb J fun _ Ea => ?_; clear J K' Eb
 refine Go.Proofs.YtkhmcofmjjmjhaaDoor.M1 Ea 24 fun K' J ρ q24 => ?_; go_simp; (try go_bits); (try simp (disch := omega) only [IntWalk.i64_in]); (try clear q24)
 refine Ln Ea J fun _ Eb => ?_; clear J K' Ea
 refine Go.Proofs.YtkhmcofmjjmjhaaDoor.M1 Eb 25 fun K' J ρ q25 => ?_; go_simp; (try clear q25)
 refine Ln Eb J fun _ Ea => ?_; clear J K' Eb
 refine N1 Ea 26 2 fun K' J ρ q2 => ?_; go_simp; (try clear q2)
 refine Ln Ea J fun _ Eb => ?_; clear J K' Ea
 refine N1 Eb 26 27 fun K' J ρ q27 => ?_; go_simp; (try clear q27)
 refine Ln Eb J fun _ Ea => ?_; clear J K' Eb
 refine N1 Ea 26 28 fun K' J ρ q28 => ?_; go_simp; (try go_bits); (try clear q28)
 refine Ln Ea J fun _ Eb => ?_; clear J K' Ea
 refine N1 Eb 26 29 fun K' J ρ q29 => ?_; go_simp; (try go_bits); (try clear q29)
 refine Ln Eb J fun _ Ea => ?_; clear J K' Eb
 replace Ea := Ea.turn 30 (v' := .bool true) rfl (by (simp [h6]))
 refine Go.Proofs.YtkhmcofmjjmjhaaDoor.M2 Ea 26 30 fun K' J ρ q26 q30 => ?_; go_simp; (try go_bits); (try clear q26 q30)
 refine Ln Ea J fun _ Eb => ?_; clear J K' Ea
 replace Eb := Eb.turn 31 (v' := .bool true) rfl (by (first | rfl | simp))
 refine late_done [2, 3, 31] Eb hK (fun a hE => ?_); clear hK K Q' Eb; simp only [lk, pick, Nat.reduceEqDiff, ↓reduceIte] at hE
 have hbw2 := hbw1.trans (h2.mono hbw1.size)
 replace hCB := hCB.below h2
 clear nB cB7 cB8
 have nB := hCB.1; have cB7 := hCB.2 7 _ rfl; have cB8 := hCB.2 8 _ rfl
 replace hCX := hCX.below h2
 clear nX cX0 cX1
 have nX := hCX.1; have cX0 := hCX.2 0 _ rfl; have cX1 := hCX.2 1 _ rfl
 replace hM := hM.below h2
 replace hTw := hTw.below h2
 refine Ks ?_
 refine cond_yes hE (t := 31) rfl ?_
 refine Ks ?_
 refine Rs 2 fun Q' K hK => ?_
 refine M0 fun K' J ρ => ?_; go_simp; (try go_bits);
 go_at_call 22; refine (snowed_any _ hTw).mono ?_; rintro e w9 ⟨rfl, k9⟩
 refine Ln hE J fun _ Eb => ?_; clear J K' hE a
 refine Go.Proofs.YtkhmcofmjjmjhaaDoor.M1 Eb 32 fun K' J ρ q32 => ?_; go_simp; (try clear q32)
 refine Ln Eb J fun _ Ea => ?_; clear J K' Eb
 refine late_done [4] Ea hK (fun a hE => ?_); clear hK K Q' Ea; simp only [lk, pick, Nat.reduceEqDiff, ↓reduceIte] at hE
 refine Ks ?_
 exact ret_one hE rfl rfl ⟨rfl, hbw2.trans (k9.mono hbw2.size)⟩
set_option maxRecDepth 100000 in
set_option maxHeartbeats 4000000 in
theorem said_not (hb : OkB b) (h5 : b.sights.length ≤ 5) (hr : rtB b = false) (n0 n1 : Int) (w : World) (hTw : TabW w) (hM : SbAt w H S b) : Calls Tryd.prog 8 #[.agg (sbV H hcap S scap b).toArray, .agg #[.int .i64 n0, .int .i64 n1]] w fun e w' => e = .returned (.bool true) ∧ Below w.heap.size w w' := by
 have C2 := hid fun (W : World) hW => soundC H hcap S scap b hb W hW
 have h12 := hb.hours
 obtain ⟨hw1, hw2⟩ := windI_range n0 b.hours.length (by omega)
 obtain ⟨h, hh0⟩ : ∃ h : Nat, windI n0 b.hours.length = h := ⟨(windI n0 b.hours.length).toNat, by omega⟩
 have hh : h < b.hours.length := by omega
 have HS := hid hh0
 have HW64 : Hid ((b.hours.length : Int) ≤ 9223372036854775807) := hid (by omega)
 have h6I : ¬ b.sights.length = 6 := by omega
 have C4 := hid fun (W : World) hW => loadN H hcap S scap b hb hr hh W hW
 have C5 := hid fun (W : World) hW => rightC H hcap S scap b hb hr W hW
 clear hb h12 hh hw1 hw2 hh0 hr h5
 refine enterE Tryd.func8 rfl Tryd.ntmps8 (by simp) (fun a hE => ?_); simp only [envOf, Nat.zero_add, Nat.reduceAdd] at hE
 refine Ks ?_
 refine Rs 3 fun Q' K hK => ?_
 refine Go.Proofs.YtkhmcofmjjmjhaaDoor.M1 hE 0 fun K' J ρ q0 => ?_; go_simp; (try clear q0)
 refine Ln hE J fun _ Eb => ?_; clear J K' hE a
 refine Go.Proofs.YtkhmcofmjjmjhaaDoor.M1 Eb 1 fun K' J ρ q1 => ?_; go_simp; (try clear q1)
 refine Ln Eb J fun _ Ea => ?_; clear J K' Eb
 refine M0 fun K' J ρ => ?_; go_simp;
 refine Ln Ea J fun _ Eb => ?_; clear J K' Ea
 refine late_done [2, 3] Eb hK (fun a hE => ?_); clear hK K Q' Eb; simp only [lk, pick, Nat.reduceEqDiff, ↓reduceIte] at hE
 obtain ⟨B, hB⟩ : ∃ B, B = w.heap.size := ⟨_, rfl⟩
 obtain ⟨X, hX⟩ : ∃ B, B = w.heap.size + 1 := ⟨_, rfl⟩
 rw [← hX, ← hB] at hE
 refine world_cut (fun wt => Below w.heap.size w wt ∧ Cells wt B (sbV H hcap S scap b) ∧ Cells wt X [.int .i64 n0, .int .i64 n1]) (by rw [hB, hX]; exact cells_two w _ _ _ _) (fun w1 hC => ?_)
 obtain ⟨hbw1, hCB, hCX⟩ := hC
 replace hM := hM.below hbw1
 have hTw0 := hTw
 replace hTw := hTw.below hbw1
 clear hB hX
 have nB := hCB.1; have cB7 := hCB.2 7 _ rfl; have cB8 := hCB.2 8 _ rfl
 have nX := hCX.1; have cX0 := hCX.2 0 _ rfl; have cX1 := hCX.2 1 _ rfl
 refine Ks ?_
 refine Rs 9 fun Q' K hK => ?_
 refine Lp fun K' J => ?_
 have r2 := hE.at 2 rfl
 refine wp_load_mid 29 (.tmp 2) rfl B 0 (eval_of r2) (sbV H hcap S scap b) _ (fun j u hu => by rw [Nat.zero_add]; exact hCB.2 j u hu) Tryd.underlying29 rfl (by kernel_rfl) ?_
 (try clear r2)
 refine Ln hE J fun _ Eb => ?_; clear J K' hE a
 refine Go.Proofs.YtkhmcofmjjmjhaaDoor.M1 Eb 23 fun K' J ρ q23 => ?_; go_simp; (try go_bits); (try clear q23)
 go_at_call 34; refine (C2.out _ hM).mono ?_; rintro e w2 ⟨rfl, h2⟩
 have cB8 := hCB.below h2 |>.2 8 _ rfl
 (try clear r23)
 refine Ln Eb J fun _ Ea => ?_; clear J K' Eb
 refine Go.Proofs.YtkhmcofmjjmjhaaDoor.M1 Ea 24 fun K' J ρ q24 => ?_; go_simp; (try go_bits); (try simp (disch := omega) only [IntWalk.i64_in]); (try clear q24)
 refine Ln Ea J fun _ Eb => ?_; clear J K' Ea
 refine Go.Proofs.YtkhmcofmjjmjhaaDoor.M1 Eb 25 fun K' J ρ q25 => ?_; go_simp; (try clear q25)
 refine Ln Eb J fun _ Ea => ?_; clear J K' Eb
 refine N1 Ea 26 2 fun K' J ρ q2 => ?_; go_simp; (try clear q2)
 refine Ln Ea J fun _ Eb => ?_; clear J K' Ea
 refine N1 Eb 26 27 fun K' J ρ q27 => ?_; go_simp; (try clear q27)
 refine Ln Eb J fun _ Ea => ?_; clear J K' Eb
 refine N1 Ea 26 28 fun K' J ρ q28 => ?_; go_simp; (try go_bits); (try clear q28)
 refine Ln Ea J fun _ Eb => ?_; clear J K' Ea
 refine N1 Eb 26 29 fun K' J ρ q29 => ?_; go_simp; (try go_bits); (try clear q29)
 refine Ln Eb J fun _ Ea => ?_; clear J K' Eb
 replace Ea := Ea.turn 30 (v' := .bool false) rfl (by (simp; omega))
 refine Go.Proofs.YtkhmcofmjjmjhaaDoor.M2 Ea 26 30 fun K' J ρ q26 q30 => ?_; go_simp; (try go_bits); (try clear q26 q30)
 refine Ln Ea J fun _ Eb => ?_; clear J K' Ea
 replace Eb := Eb.turn 31 (v' := .bool false) rfl (by (first | rfl | simp))
 refine late_done [2, 3, 31] Eb hK (fun a hE => ?_); clear hK K Q' Eb; simp only [lk, pick, Nat.reduceEqDiff, ↓reduceIte] at hE
 have hbw2 := hbw1.trans (h2.mono hbw1.size)
 replace hCB := hCB.below h2
 clear nB cB7 cB8
 have nB := hCB.1; have cB7 := hCB.2 7 _ rfl; have cB8 := hCB.2 8 _ rfl
 replace hCX := hCX.below h2
 clear nX cX0 cX1
 have nX := hCX.1; have cX0 := hCX.2 0 _ rfl; have cX1 := hCX.2 1 _ rfl
 replace hM := hM.below h2
 replace hTw := hTw.below h2
 refine Ks ?_
 refine cond_no hE (t := 31) rfl ?_
 refine Ks ?_
 refine Rs 7 fun Q' K hK => ?_
 refine Go.Proofs.YtkhmcofmjjmjhaaDoor.M1 hE 3 fun K' J ρ q3 => ?_; go_simp; (try go_bits); (try clear q3)
 refine Ln hE J fun _ Eb => ?_; clear J K' hE a
 refine Go.Proofs.YtkhmcofmjjmjhaaDoor.M1 Eb 33 fun K' J ρ q33 => ?_; go_simp; (try clear q33)
 refine Ln Eb J fun _ Ea => ?_; clear J K' Eb
 refine Go.Proofs.YtkhmcofmjjmjhaaDoor.M1 Ea 2 fun K' J ρ q2 => ?_; go_simp; (try clear q2)
 refine Ln Ea J fun _ Eb => ?_; clear J K' Ea
 refine Go.Proofs.YtkhmcofmjjmjhaaDoor.M1 Eb 35 fun K' J ρ q35 => ?_; go_simp; (try clear q35)
 refine Ln Eb J fun _ Ea => ?_; clear J K' Eb
 refine Go.Proofs.YtkhmcofmjjmjhaaDoor.M1 Ea 36 fun K' J ρ q36 => ?_; go_simp; (try go_bits); (try clear q36)
 refine Ln Ea J fun _ Eb => ?_; clear J K' Ea
 refine Go.Proofs.YtkhmcofmjjmjhaaDoor.M2 Eb 34 37 fun K' J ρ q34 q37 => ?_; go_simp; (try go_bits); (try clear q34 q37)
 go_at_call 40; refine (wind_any n0 _ HW64.out _).mono ?_; rw [HS.out]; rintro e g1 ⟨rfl, rfl⟩
 (try clear r34 r37)
 refine Ln Eb J fun _ Ea => ?_; clear J K' Eb
 refine Go.Proofs.YtkhmcofmjjmjhaaDoor.M1 Ea 38 fun K' J ρ q38 => ?_; go_simp; (try clear q38)
 refine Ln Ea J fun _ Eb => ?_; clear J K' Ea
 refine late_done [2, 3, 5] Eb hK (fun a hE => ?_); clear hK K Q' Eb; simp only [lk, pick, Nat.reduceEqDiff, ↓reduceIte] at hE
 refine Ks ?_
 refine Rs 9 fun Q' K hK => ?_
 refine Lp fun K' J => ?_
 have r2 := hE.at 2 rfl
 refine wp_load_mid 29 (.tmp 2) rfl B 0 (eval_of r2) (sbV H hcap S scap b) _ (fun j u hu => by rw [Nat.zero_add]; exact hCB.2 j u hu) Tryd.underlying29 rfl (by kernel_rfl) ?_
 (try clear r2)
 refine Ln hE J fun _ Eb => ?_; clear J K' hE a
 refine Go.Proofs.YtkhmcofmjjmjhaaDoor.M1 Eb 5 fun K' J ρ q5 => ?_; go_simp; (try clear q5)
 refine Ln Eb J fun _ Ea => ?_; clear J K' Eb
 refine Go.Proofs.YtkhmcofmjjmjhaaDoor.M2 Ea 40 41 fun K' J ρ q40 q41 => ?_; go_simp; (try go_bits); (try clear q40 q41)
 go_at_call 18; refine (C4.out _ hM).mono ?_; rintro e w3 ⟨rfl, h3⟩
 (try clear r40 r41)
 refine Ln Ea J fun _ Eb => ?_; clear J K' Ea
 refine Go.Proofs.YtkhmcofmjjmjhaaDoor.M1 Eb 42 fun K' J ρ q42 => ?_; go_simp; (try clear q42)
 refine Ln Eb J fun _ Ea => ?_; clear J K' Eb
 refine Go.Proofs.YtkhmcofmjjmjhaaDoor.M1 Ea 39 fun K' J ρ q39 => ?_; go_simp; (try clear q39)
 refine Ln Ea J fun _ Eb => ?_; clear J K' Ea
 refine Go.Proofs.YtkhmcofmjjmjhaaDoor.M1 Eb 39 fun K' J ρ q39 => ?_; go_simp; (try clear q39)
 refine Ln Eb J fun _ Ea => ?_; clear J K' Eb
 refine M0 fun K' J ρ => ?_; go_simp;
 refine Ln Ea J fun _ Eb => ?_; clear J K' Ea
 refine Go.Proofs.YtkhmcofmjjmjhaaDoor.M2 Eb 6 43 fun K' J ρ q6 q43 => ?_; go_simp; (try clear q6 q43)
 refine late_skip Eb J (fun _ Ea => ?_); clear J K'; clear Eb
 refine Go.Proofs.YtkhmcofmjjmjhaaDoor.M1 Ea 44 fun K' J ρ q44 => ?_; go_simp; (try clear q44)
 refine Ln Ea J fun _ Eb => ?_; clear J K' Ea
 refine late_done [2, 3, 5, 6, 7] Eb hK (fun a hE => ?_); clear hK K Q' Eb; simp only [lk, pick, Nat.reduceEqDiff, ↓reduceIte] at hE
 replace hM := hM.below h3
 replace hTw := hTw.below h3
 replace hCB := hCB.below h3
 replace hCX := hCX.below h3
 have hb3 := hbw2.trans (h3.mono hbw2.size)
 obtain ⟨Z, hZe⟩ : ∃ B, B = w3.heap.size := ⟨_, rfl⟩; rw [← hZe] at hE; refine world_cut (fun wt => Below w3.heap.size w3 wt ∧ Cells wt Z [.int .i64 0, .int .i64 0]) ⟨(Below.refl _ _).alloc (Nat.le_refl _) _, by rw [hZe]; exact cells_new _ _ _⟩ (fun w4 hCut => ?_); obtain ⟨hbw4, hCZ⟩ := hCut; clear hZe
 replace hM := hM.below hbw4
 replace hTw := hTw.below hbw4
 replace hCB := hCB.below hbw4
 replace hCX := hCX.below hbw4
 have hb4 := hb3.trans (hbw4.mono hb3.size)
 clear nB cB7 cB8 nX cX0 cX1
 clear hbw4
 refine Ks ?_
 refine Rs 7 fun Q' K hK => ?_
 refine Lp fun K' J => ?_
 have r2 := hE.at 2 rfl
 refine wp_load_mid 29 (.tmp 2) rfl B 0 (eval_of r2) (sbV H hcap S scap b) _ (fun j u hu => by rw [Nat.zero_add]; exact hCB.2 j u hu) Tryd.underlying29 rfl (by kernel_rfl) ?_
 (try clear r2)
 refine Ln hE J fun _ Eb => ?_; clear J K' hE a
 refine Go.Proofs.YtkhmcofmjjmjhaaDoor.M1 Eb 46 fun K' J ρ q46 => ?_; go_simp; (try go_bits); (try clear q46)
 go_at_call 14; refine (C5.out _ hM).mono ?_; rintro e w5 ⟨rfl, h5'⟩
 (try clear r46)
 refine Ln Eb J fun _ Ea => ?_; clear J K' Eb
 refine Go.Proofs.YtkhmcofmjjmjhaaDoor.M1 Ea 47 fun K' J ρ q47 => ?_; go_simp; (try clear q47)
 refine Ln Ea J fun _ Eb => ?_; clear J K' Ea
 refine Go.Proofs.YtkhmcofmjjmjhaaDoor.M1 Eb 45 fun K' J ρ q45 => ?_; go_simp; (try clear q45)
 refine Ln Eb J fun _ Ea => ?_; clear J K' Eb
 refine Go.Proofs.YtkhmcofmjjmjhaaDoor.M1 Ea 45 fun K' J ρ q45 => ?_; go_simp; (try clear q45)
 refine Ln Ea J fun _ Eb => ?_; clear J K' Ea
 refine Go.Proofs.YtkhmcofmjjmjhaaDoor.M1 Eb 48 fun K' J ρ q48 => ?_; go_simp; (try clear q48)
 refine Ln Eb J fun _ Ea => ?_; clear J K' Eb
 refine Go.Proofs.YtkhmcofmjjmjhaaDoor.M1 Ea 49 fun K' J ρ q49 => ?_; go_simp; (try clear q49)
 refine Ln Ea J fun _ Eb => ?_; clear J K' Ea
 refine late_done [2, 3, 5, 6, 7, 8, 9] Eb hK (fun a hE => ?_); clear hK K Q' Eb; simp only [lk, pick, Nat.reduceEqDiff, ↓reduceIte] at hE
 replace hCB := hCB.below h5'
 replace hCX := hCX.below h5'
 replace hCZ := hCZ.below h5'
 have hbw5 := hb4.trans (h5'.mono hb4.size)
 replace hM := hM.below h5'
 replace hTw := hTw.below h5'
 have nX := hCX.1; have cX1 := hCX.2 1 _ rfl
 have nZ := hCZ.1; have cZ0 := hCZ.2 0 _ rfl; have cZ1 := hCZ.2 1 _ rfl
 refine Ks ?_
 refine Rd [] (fun wt => Below w5.heap.size w5 wt) (fun w1 w2 => Below w1.heap.size w1 w2) [(0, some 50), (1, some 51), (2, some 52), (3, some 53), (4, some 54), (5, some 55), (6, some 56), (7, some 57), (8, some 58), (9, some 59), (10, some 60), (11, some 61), (12, some 62), (13, some 63), (14, some 64), (15, some 65), (16, some 66), (17, some 67), (18, some 68), (19, some 69), (20, some 70)] [50, 51, 52, 53, 54, 55, 56, 57, 58, 59, 60, 61, 62, 63, 64, 65, 66, 67, 68, 69, 70] #[true, true, true, true, true, true, true, true, true, true, true, true, true, true, true, true, true, true, true, true, true] [2, 3, 5, 6, 8] hE ((Below.refl _ _).drew) fun Q' K hK => ?_
 refine SeqOps.val ?_ (Sp fun ax wx hS hT' hd K' J => ?_) ?_; rotate_left 1
 ·have r9 := hS.at 9 (by decide) (hE.at 9 rfl); obtain ⟨hcT, hfT, hlT, hmT, hwT, hzT⟩ := bT hT'
  refine Go.Proofs.YtkhmcofmjjmjhaaDoor.o1 r9 fun ρ q9 => ?_; go_simp;
  exact Jo J hT'
 refine SeqOps.val ?_ (Sp fun ax wx hS hT' hd K' J => ?_) ?_; rotate_left 1
 ·have r50 := Tv hd 0 0 50; obtain ⟨hcT, hfT, hlT, hmT, hwT, hzT⟩ := bT hT'
  refine Go.Proofs.YtkhmcofmjjmjhaaDoor.o1 r50 fun ρ q50 => ?_; go_simp; (try go_bits);
  exact Jo J hT'
 refine SeqOps.val ?_ (Sp fun ax wx hS hT' hd K' J => ?_) ?_; rotate_left 1
 ·have r51 := Tv hd 0 1 51; obtain ⟨hcT, hfT, hlT, hmT, hwT, hzT⟩ := bT hT'
  refine Go.Proofs.YtkhmcofmjjmjhaaDoor.o1 r51 fun ρ q51 => ?_; go_simp;
  exact Jo J hT'
 refine SeqOps.val ?_ (Sy 0 52 fun ax wx hS hT' hd K' J => ?_) ?_; rotate_left 1
 ·have r7 := hS.at 7 (by decide) (hE.at 7 rfl); obtain ⟨hcT, hfT, hlT, hmT, hwT, hzT⟩ := bT hT'
  refine Go.Proofs.YtkhmcofmjjmjhaaDoor.o1 r7 fun ρ q7 => ?_; go_simp;
  exact Jo J hT'
 refine SeqOps.val ?_ (Sy 1 52 fun ax wx hS hT' hd K' J => ?_) ?_; rotate_left 1
 ·have r53 := Tv hd 0 3 53; obtain ⟨hcT, hfT, hlT, hmT, hwT, hzT⟩ := bT hT'
  refine Go.Proofs.YtkhmcofmjjmjhaaDoor.o1 r53 fun ρ q53 => ?_; go_simp; (try go_bits);
  exact Jo J hT'
 refine SeqOps.val ?_ (Sy 2 52 fun ax wx hS hT' hd K' J => ?_) ?_; rotate_left 1
 ·have r8 := hS.at 8 (by decide) (hE.at 8 rfl); obtain ⟨hcT, hfT, hlT, hmT, hwT, hzT⟩ := bT hT'
  refine Go.Proofs.YtkhmcofmjjmjhaaDoor.o1 r8 fun ρ q8 => ?_; go_simp;
  exact Jo J hT'
 refine SeqOps.val ?_ (Sy 3 52 fun ax wx hS hT' hd K' J => ?_) ?_; rotate_left 1
 ·have r54 := Tv hd 1 4 54; have r55 := Tv hd 0 5 55; obtain ⟨hcT, hfT, hlT, hmT, hwT, hzT⟩ := bT hT'
  refine Go.Proofs.YtkhmcofmjjmjhaaDoor.o2 r54 r55 fun ρ q54 q55 => ?_; go_simp; (try go_bits);
  exact Jo J hT'
 refine SeqOps.val ?_ (Sp fun ax wx hS hT' hd K' J => ?_) ?_; rotate_left 1
 ·have r52 := Tv hd 4 2 52; have r56 := Tv hd 0 6 56; obtain ⟨hcT, hfT, hlT, hmT, hwT, hzT⟩ := bT hT'
  refine Go.Proofs.YtkhmcofmjjmjhaaDoor.o2 r52 r56 fun ρ q52 q56 => ?_; go_simp; (try go_bits);
  exact Jo J hT'
 refine SeqOps.val ?_ (Sp fun ax wx hS hT' hd K' J => ?_) ?_; rotate_left 1
 ·have r57 := Tv hd 0 7 57; obtain ⟨hcT, hfT, hlT, hmT, hwT, hzT⟩ := bT hT'
  refine Go.Proofs.YtkhmcofmjjmjhaaDoor.o1 r57 fun ρ q57 => ?_; go_simp;
  exact Jo J hT'
 refine SeqOps.val ?_ (Sy 0 58 fun ax wx hS hT' hd K' J => ?_) ?_; rotate_left 1
 ·have r7 := hS.at 7 (by decide) (hE.at 7 rfl); obtain ⟨hcT, hfT, hlT, hmT, hwT, hzT⟩ := bT hT'
  refine Go.Proofs.YtkhmcofmjjmjhaaDoor.o1 r7 fun ρ q7 => ?_; go_simp;
  exact Jo J hT'
 refine SeqOps.val ?_ (Sy 1 58 fun ax wx hS hT' hd K' J => ?_) ?_; rotate_left 1
 ·have r59 := Tv hd 0 9 59; obtain ⟨hcT, hfT, hlT, hmT, hwT, hzT⟩ := bT hT'
  refine Go.Proofs.YtkhmcofmjjmjhaaDoor.o1 r59 fun ρ q59 => ?_; go_simp; (try go_bits);
  exact Jo J hT'
 refine SeqOps.val ?_ (Sy 2 58 fun ax wx hS hT' hd K' J => ?_) ?_; rotate_left 1
 ·have r60 := Tv hd 0 10 60; obtain ⟨hcT, hfT, hlT, hmT, hwT, hzT⟩ := bT hT'
  refine Go.Proofs.YtkhmcofmjjmjhaaDoor.o1 r60 fun ρ q60 => ?_; go_simp;
  exact Jo J hT'
 refine SeqOps.val ?_ (Sy 0 61 fun ax wx hS hT' hd K' J => ?_) ?_; rotate_left 1
 ·have r7 := hS.at 7 (by decide) (hE.at 7 rfl); obtain ⟨hcT, hfT, hlT, hmT, hwT, hzT⟩ := bT hT'
  refine Go.Proofs.YtkhmcofmjjmjhaaDoor.o1 r7 fun ρ q7 => ?_; go_simp;
  exact Jo J hT'
 refine SeqOps.val ?_ (Sy 1 61 fun ax wx hS hT' hd K' J => ?_) ?_; rotate_left 1
 ·have r62 := Tv hd 0 12 62; obtain ⟨hcT, hfT, hlT, hmT, hwT, hzT⟩ := bT hT'
  refine Go.Proofs.YtkhmcofmjjmjhaaDoor.o1 r62 fun ρ q62 => ?_; go_simp; (try go_bits);
  exact Jo J hT'
 refine SeqOps.val ?_ (Sy 2 61 fun ax wx hS hT' hd K' J => ?_) ?_; rotate_left 1
 ·have r63 := Tv hd 0 13 63; obtain ⟨hcT, hfT, hlT, hmT, hwT, hzT⟩ := bT hT'
  refine Go.Proofs.YtkhmcofmjjmjhaaDoor.o1 r63 fun ρ q63 => ?_; go_simp;
  exact Jo J hT'
 refine SeqOps.val ?_ (Sy 0 64 fun ax wx hS hT' hd K' J => ?_) ?_; rotate_left 1
 ·have r6 := hS.at 6 (by decide) (hE.at 6 rfl); obtain ⟨hcT, hfT, hlT, hmT, hwT, hzT⟩ := bT hT'
  refine Go.Proofs.YtkhmcofmjjmjhaaDoor.o1 r6 fun ρ q6 => ?_; go_simp;
  exact Jo J hT'
 refine SeqOps.val ?_ (Sy 1 64 fun ax wx hS hT' hd K' J => ?_) ?_; rotate_left 1
 ·obtain ⟨hcT, hfT, hlT, hmT, hwT, hzT⟩ := bT hT'
  refine o0 fun ρ => ?_; go_simp; (try go_bits);
  go_at_call 43; refine (one_any 0 _).mono ?_; rintro e g1 ⟨rfl, k1⟩
  refine J.out _ _ _ rfl ?_ (hT'.trans (k1.mono hT'.size)) k1; rfl
 refine SeqOps.val ?_ (Sy 2 64 fun ax wx hS hT' hd K' J => ?_) ?_; rotate_left 1
 ·have r65 := Tv hd 1 15 65; have r66 := Tv hd 0 16 66; obtain ⟨hcT, hfT, hlT, hmT, hwT, hzT⟩ := bT hT'
  refine Go.Proofs.YtkhmcofmjjmjhaaDoor.o2 r65 r66 fun ρ q65 q66 => ?_; go_simp; (try go_bits);
  exact Jo J hT'
 refine SeqOps.val ?_ (Sy 6 61 fun ax wx hS hT' hd K' J => ?_) ?_; rotate_left 1
 ·have r64 := Tv hd 3 14 64; have r67 := Tv hd 0 17 67; obtain ⟨hcT, hfT, hlT, hmT, hwT, hzT⟩ := bT hT'
  refine Go.Proofs.YtkhmcofmjjmjhaaDoor.o2 r64 r67 fun ρ q64 q67 => ?_; go_simp; (try go_bits);
  exact Jo J hT'
 refine SeqOps.val ?_ (Sy 10 58 fun ax wx hS hT' hd K' J => ?_) ?_; rotate_left 1
 ·have r61 := Tv hd 7 11 61; have r68 := Tv hd 0 18 68; obtain ⟨hcT, hfT, hlT, hmT, hwT, hzT⟩ := bT hT'
  refine Go.Proofs.YtkhmcofmjjmjhaaDoor.o2 r61 r68 fun ρ q61 q68 => ?_; go_simp; (try go_bits);
  exact Jo J hT'
 refine SeqOps.val ?_ (Sp fun ax wx hS hT' hd K' J => ?_) ?_; rotate_left 1
 ·have r58 := Tv hd 11 8 58; have r69 := Tv hd 0 19 69; obtain ⟨hcT, hfT, hlT, hmT, hwT, hzT⟩ := bT hT'
  refine Go.Proofs.YtkhmcofmjjmjhaaDoor.o2 r58 r69 fun ρ q58 q69 => ?_; go_simp; (try go_bits);
  exact Jo J hT'
 refine SeqOps.nil ?_
 intro v6 hBm; (repeat refine Ek ?_)
 refine fun amx hEmx => ?_
 simp only [lk, pick, Nat.reduceEqDiff, ↓reduceIte] at hEmx
 refine late_done [2, 3, 5, 6, 8, 70] hEmx hK (fun a hE => ?_); clear hK K Q' hEmx; simp only [lk, pick, Nat.reduceEqDiff, ↓reduceIte] at hE
 have hbv6 := hbw5.trans (hBm.mono hbw5.size)
 replace hCX := hCX.below hBm
 clear nX cX1
 have nX := hCX.1; have cX1 := hCX.2 1 _ rfl
 replace hCZ := hCZ.below hBm
 clear nZ cZ0 cZ1
 have nZ := hCZ.1; have cZ0 := hCZ.2 0 _ rfl; have cZ1 := hCZ.2 1 _ rfl
 replace hM := hM.below hBm
 replace hTw := hTw.below hBm
 replace hCB := hCB.below hBm
 replace hE := hE.turn 70 (v' := .bool false) rfl (by first | rfl | simp)
 refine Ks ?_
 refine cond_no hE (t := 70) rfl ?_
 refine Ks ?_
 refine Rs 2 fun Q' K hK => ?_
 refine Go.Proofs.YtkhmcofmjjmjhaaDoor.M1 hE 8 fun K' J ρ q8 => ?_; go_simp; (try clear q8)
 refine Ln hE J fun _ Eb => ?_; clear J K' hE a
 refine Go.Proofs.YtkhmcofmjjmjhaaDoor.M1 Eb 71 fun K' J ρ q71 => ?_; go_simp; (try go_bits); (try simp (disch := omega) only [IntWalk.i64_in]); (try clear q71)
 refine Ln Eb J fun _ Ea => ?_; clear J K' Eb
 replace Ea := Ea.turn 72 (v' := .bool true) rfl (by (first | rfl | simp))
 refine late_done [2, 3, 5, 6, 72] Ea hK (fun a hE => ?_); clear hK K Q' Ea; simp only [lk, pick, Nat.reduceEqDiff, ↓reduceIte] at hE
 refine Ks ?_
 refine cond_yes hE (t := 72) rfl ?_
 refine Ks ?_
 refine Rs 2 fun Q' K hK => ?_
 refine M0 fun K' J ρ => ?_; go_simp; (try go_bits);
 go_at_call 22; refine (snowed_any _ hTw).mono ?_; rintro e w9 ⟨rfl, k9⟩
 refine Ln hE J fun _ Eb => ?_; clear J K' hE a
 refine Go.Proofs.YtkhmcofmjjmjhaaDoor.M1 Eb 73 fun K' J ρ q73 => ?_; go_simp; (try clear q73)
 refine Ln Eb J fun _ Ea => ?_; clear J K' Eb
 refine late_done [4] Ea hK (fun a hE => ?_); clear hK K Q' Ea; simp only [lk, pick, Nat.reduceEqDiff, ↓reduceIte] at hE
 refine Ks ?_
 exact ret_one hE rfl rfl ⟨rfl, hbv6.trans (k9.mono hbv6.size)⟩
set_option maxRecDepth 100000 in
set_option maxHeartbeats 4000000 in
theorem said_yes (hb : OkB b) (h5 : b.sights.length ≤ 5) (hr : rtB b = true) (n0 n1 : Int) (w : World) (hTw : TabW w) (hM : SbAt w H S b) : Calls Tryd.prog 8 #[.agg (sbV H hcap S scap b).toArray, .agg #[.int .i64 n0, .int .i64 n1]] w fun e w' => e = .returned (.bool true) ∧ Below w.heap.size w w' := by
 have C2 := hid fun (W : World) hW => soundC H hcap S scap b hb W hW
 have h12 := hb.hours
 obtain ⟨hw1, hw2⟩ := windI_range n0 b.hours.length (by omega)
 obtain ⟨h, hh0⟩ : ∃ h : Nat, windI n0 b.hours.length = h := ⟨(windI n0 b.hours.length).toNat, by omega⟩
 have hh : h < b.hours.length := by omega
 have HS := hid hh0
 have HW64 : Hid ((b.hours.length : Int) ≤ 9223372036854775807) := hid (by omega)
 have h6I : ¬ b.sights.length = 6 := by omega
 obtain ⟨hlo, hhi⟩ := said_to hb hr hh
 have C4 := hid fun (W : World) hW => loadC H hcap S scap b hb hr hh W hW
 have C5 := hid fun (W : World) hW => rightC H hcap S scap b hb hr W hW
 have C10 := hid fun (W : World) => spa_yes (lo := (loH b h : Int)) (hi := (hiH b h : Int)) (a := 0) (z := 2000) (by omega) W
 have HL := hid fun (B Z : Nat) (V : World) => said_end H hcap S scap b hb h5 hr hh (m := loH b h) (.inl rfl) B Z w V hTw
 have HH := hid fun (B Z : Nat) (V : World) => said_end H hcap S scap b hb h5 hr hh (m := hiH b h) (.inr rfl) B Z w V hTw
 obtain ⟨lo, e1⟩ : ∃ lo, loH b h = lo := ⟨_, rfl⟩
 obtain ⟨hi, e2⟩ : ∃ hi, hiH b h = hi := ⟨_, rfl⟩
 rw [e1, e2] at C4 C10 HL HH
 clear hb h12 hh hw1 hw2 hh0 hr h5 e1 e2 hlo hhi
 refine enterE Tryd.func8 rfl Tryd.ntmps8 (by simp) (fun a hE => ?_); simp only [envOf, Nat.zero_add, Nat.reduceAdd] at hE
 refine Ks ?_
 refine Rs 3 fun Q' K hK => ?_
 refine Go.Proofs.YtkhmcofmjjmjhaaDoor.M1 hE 0 fun K' J ρ q0 => ?_; go_simp; (try clear q0)
 refine Ln hE J fun _ Eb => ?_; clear J K' hE a
 refine Go.Proofs.YtkhmcofmjjmjhaaDoor.M1 Eb 1 fun K' J ρ q1 => ?_; go_simp; (try clear q1)
 refine Ln Eb J fun _ Ea => ?_; clear J K' Eb
 refine M0 fun K' J ρ => ?_; go_simp;
 refine Ln Ea J fun _ Eb => ?_; clear J K' Ea
 refine late_done [2, 3] Eb hK (fun a hE => ?_); clear hK K Q' Eb; simp only [lk, pick, Nat.reduceEqDiff, ↓reduceIte] at hE
 obtain ⟨B, hB⟩ : ∃ B, B = w.heap.size := ⟨_, rfl⟩
 obtain ⟨X, hX⟩ : ∃ B, B = w.heap.size + 1 := ⟨_, rfl⟩
 rw [← hX, ← hB] at hE
 refine world_cut (fun wt => Below w.heap.size w wt ∧ Cells wt B (sbV H hcap S scap b) ∧ Cells wt X [.int .i64 n0, .int .i64 n1]) (by rw [hB, hX]; exact cells_two w _ _ _ _) (fun w1 hC => ?_)
 obtain ⟨hbw1, hCB, hCX⟩ := hC
 replace hM := hM.below hbw1
 have hTw0 := hTw
 replace hTw := hTw.below hbw1
 clear hB hX
 have nB := hCB.1; have cB7 := hCB.2 7 _ rfl; have cB8 := hCB.2 8 _ rfl
 have nX := hCX.1; have cX0 := hCX.2 0 _ rfl; have cX1 := hCX.2 1 _ rfl
 refine Ks ?_
 refine Rs 9 fun Q' K hK => ?_
 refine Lp fun K' J => ?_
 have r2 := hE.at 2 rfl
 refine wp_load_mid 29 (.tmp 2) rfl B 0 (eval_of r2) (sbV H hcap S scap b) _ (fun j u hu => by rw [Nat.zero_add]; exact hCB.2 j u hu) Tryd.underlying29 rfl (by kernel_rfl) ?_
 (try clear r2)
 refine Ln hE J fun _ Eb => ?_; clear J K' hE a
 refine Go.Proofs.YtkhmcofmjjmjhaaDoor.M1 Eb 23 fun K' J ρ q23 => ?_; go_simp; (try go_bits); (try clear q23)
 go_at_call 34; refine (C2.out _ hM).mono ?_; rintro e w2 ⟨rfl, h2⟩
 have cB8 := hCB.below h2 |>.2 8 _ rfl
 (try clear r23)
 refine Ln Eb J fun _ Ea => ?_; clear J K' Eb
 refine Go.Proofs.YtkhmcofmjjmjhaaDoor.M1 Ea 24 fun K' J ρ q24 => ?_; go_simp; (try go_bits); (try simp (disch := omega) only [IntWalk.i64_in]); (try clear q24)
 refine Ln Ea J fun _ Eb => ?_; clear J K' Ea
 refine Go.Proofs.YtkhmcofmjjmjhaaDoor.M1 Eb 25 fun K' J ρ q25 => ?_; go_simp; (try clear q25)
 refine Ln Eb J fun _ Ea => ?_; clear J K' Eb
 refine N1 Ea 26 2 fun K' J ρ q2 => ?_; go_simp; (try clear q2)
 refine Ln Ea J fun _ Eb => ?_; clear J K' Ea
 refine N1 Eb 26 27 fun K' J ρ q27 => ?_; go_simp; (try clear q27)
 refine Ln Eb J fun _ Ea => ?_; clear J K' Eb
 refine N1 Ea 26 28 fun K' J ρ q28 => ?_; go_simp; (try go_bits); (try clear q28)
 refine Ln Ea J fun _ Eb => ?_; clear J K' Ea
 refine N1 Eb 26 29 fun K' J ρ q29 => ?_; go_simp; (try go_bits); (try clear q29)
 refine Ln Eb J fun _ Ea => ?_; clear J K' Eb
 replace Ea := Ea.turn 30 (v' := .bool false) rfl (by (simp; omega))
 refine Go.Proofs.YtkhmcofmjjmjhaaDoor.M2 Ea 26 30 fun K' J ρ q26 q30 => ?_; go_simp; (try go_bits); (try clear q26 q30)
 refine Ln Ea J fun _ Eb => ?_; clear J K' Ea
 replace Eb := Eb.turn 31 (v' := .bool false) rfl (by (first | rfl | simp))
 refine late_done [2, 3, 31] Eb hK (fun a hE => ?_); clear hK K Q' Eb; simp only [lk, pick, Nat.reduceEqDiff, ↓reduceIte] at hE
 have hbw2 := hbw1.trans (h2.mono hbw1.size)
 replace hCB := hCB.below h2
 clear nB cB7 cB8
 have nB := hCB.1; have cB7 := hCB.2 7 _ rfl; have cB8 := hCB.2 8 _ rfl
 replace hCX := hCX.below h2
 clear nX cX0 cX1
 have nX := hCX.1; have cX0 := hCX.2 0 _ rfl; have cX1 := hCX.2 1 _ rfl
 replace hM := hM.below h2
 replace hTw := hTw.below h2
 refine Ks ?_
 refine cond_no hE (t := 31) rfl ?_
 refine Ks ?_
 refine Rs 7 fun Q' K hK => ?_
 refine Go.Proofs.YtkhmcofmjjmjhaaDoor.M1 hE 3 fun K' J ρ q3 => ?_; go_simp; (try go_bits); (try clear q3)
 refine Ln hE J fun _ Eb => ?_; clear J K' hE a
 refine Go.Proofs.YtkhmcofmjjmjhaaDoor.M1 Eb 33 fun K' J ρ q33 => ?_; go_simp; (try clear q33)
 refine Ln Eb J fun _ Ea => ?_; clear J K' Eb
 refine Go.Proofs.YtkhmcofmjjmjhaaDoor.M1 Ea 2 fun K' J ρ q2 => ?_; go_simp; (try clear q2)
 refine Ln Ea J fun _ Eb => ?_; clear J K' Ea
 refine Go.Proofs.YtkhmcofmjjmjhaaDoor.M1 Eb 35 fun K' J ρ q35 => ?_; go_simp; (try clear q35)
 refine Ln Eb J fun _ Ea => ?_; clear J K' Eb
 refine Go.Proofs.YtkhmcofmjjmjhaaDoor.M1 Ea 36 fun K' J ρ q36 => ?_; go_simp; (try go_bits); (try clear q36)
 refine Ln Ea J fun _ Eb => ?_; clear J K' Ea
 refine Go.Proofs.YtkhmcofmjjmjhaaDoor.M2 Eb 34 37 fun K' J ρ q34 q37 => ?_; go_simp; (try go_bits); (try clear q34 q37)
 go_at_call 40; refine (wind_any n0 _ HW64.out _).mono ?_; rw [HS.out]; rintro e g1 ⟨rfl, rfl⟩
 (try clear r34 r37)
 refine Ln Eb J fun _ Ea => ?_; clear J K' Eb
 refine Go.Proofs.YtkhmcofmjjmjhaaDoor.M1 Ea 38 fun K' J ρ q38 => ?_; go_simp; (try clear q38)
 refine Ln Ea J fun _ Eb => ?_; clear J K' Ea
 refine late_done [2, 3, 5] Eb hK (fun a hE => ?_); clear hK K Q' Eb; simp only [lk, pick, Nat.reduceEqDiff, ↓reduceIte] at hE
 refine Ks ?_
 refine Rs 9 fun Q' K hK => ?_
 refine Lp fun K' J => ?_
 have r2 := hE.at 2 rfl
 refine wp_load_mid 29 (.tmp 2) rfl B 0 (eval_of r2) (sbV H hcap S scap b) _ (fun j u hu => by rw [Nat.zero_add]; exact hCB.2 j u hu) Tryd.underlying29 rfl (by kernel_rfl) ?_
 (try clear r2)
 refine Ln hE J fun _ Eb => ?_; clear J K' hE a
 refine Go.Proofs.YtkhmcofmjjmjhaaDoor.M1 Eb 5 fun K' J ρ q5 => ?_; go_simp; (try clear q5)
 refine Ln Eb J fun _ Ea => ?_; clear J K' Eb
 refine Go.Proofs.YtkhmcofmjjmjhaaDoor.M2 Ea 40 41 fun K' J ρ q40 q41 => ?_; go_simp; (try go_bits); (try clear q40 q41)
 go_at_call 18; refine (C4.out _ hM).mono ?_; rintro e w3 ⟨rfl, h3⟩
 (try clear r40 r41)
 refine Ln Ea J fun _ Eb => ?_; clear J K' Ea
 refine Go.Proofs.YtkhmcofmjjmjhaaDoor.M1 Eb 42 fun K' J ρ q42 => ?_; go_simp; (try clear q42)
 refine Ln Eb J fun _ Ea => ?_; clear J K' Eb
 refine Go.Proofs.YtkhmcofmjjmjhaaDoor.M1 Ea 39 fun K' J ρ q39 => ?_; go_simp; (try clear q39)
 refine Ln Ea J fun _ Eb => ?_; clear J K' Ea
 refine Go.Proofs.YtkhmcofmjjmjhaaDoor.M1 Eb 39 fun K' J ρ q39 => ?_; go_simp; (try clear q39)
 refine Ln Eb J fun _ Ea => ?_; clear J K' Eb
 refine M0 fun K' J ρ => ?_; go_simp;
 refine Ln Ea J fun _ Eb => ?_; clear J K' Ea
 refine Go.Proofs.YtkhmcofmjjmjhaaDoor.M2 Eb 6 43 fun K' J ρ q6 q43 => ?_; go_simp; (try clear q6 q43)
 refine late_skip Eb J (fun _ Ea => ?_); clear J K'; clear Eb
 refine Go.Proofs.YtkhmcofmjjmjhaaDoor.M1 Ea 44 fun K' J ρ q44 => ?_; go_simp; (try clear q44)
 refine Ln Ea J fun _ Eb => ?_; clear J K' Ea
 refine late_done [2, 3, 5, 6, 7] Eb hK (fun a hE => ?_); clear hK K Q' Eb; simp only [lk, pick, Nat.reduceEqDiff, ↓reduceIte] at hE
 replace hM := hM.below h3
 replace hTw := hTw.below h3
 replace hCB := hCB.below h3
 replace hCX := hCX.below h3
 have hb3 := hbw2.trans (h3.mono hbw2.size)
 obtain ⟨Z, hZe⟩ : ∃ B, B = w3.heap.size := ⟨_, rfl⟩; rw [← hZe] at hE; refine world_cut (fun wt => Below w3.heap.size w3 wt ∧ Cells wt Z [.int .i64 lo, .int .i64 hi]) ⟨(Below.refl _ _).alloc (Nat.le_refl _) _, by rw [hZe]; exact cells_new _ _ _⟩ (fun w4 hCut => ?_); obtain ⟨hbw4, hCZ⟩ := hCut; clear hZe
 replace hM := hM.below hbw4
 replace hTw := hTw.below hbw4
 replace hCB := hCB.below hbw4
 replace hCX := hCX.below hbw4
 have hb4 := hb3.trans (hbw4.mono hb3.size)
 clear nB cB7 cB8 nX cX0 cX1
 clear hbw4
 refine Ks ?_
 refine Rs 7 fun Q' K hK => ?_
 refine Lp fun K' J => ?_
 have r2 := hE.at 2 rfl
 refine wp_load_mid 29 (.tmp 2) rfl B 0 (eval_of r2) (sbV H hcap S scap b) _ (fun j u hu => by rw [Nat.zero_add]; exact hCB.2 j u hu) Tryd.underlying29 rfl (by kernel_rfl) ?_
 (try clear r2)
 refine Ln hE J fun _ Eb => ?_; clear J K' hE a
 refine Go.Proofs.YtkhmcofmjjmjhaaDoor.M1 Eb 46 fun K' J ρ q46 => ?_; go_simp; (try go_bits); (try clear q46)
 go_at_call 14; refine (C5.out _ hM).mono ?_; rintro e w5 ⟨rfl, h5'⟩
 (try clear r46)
 refine Ln Eb J fun _ Ea => ?_; clear J K' Eb
 refine Go.Proofs.YtkhmcofmjjmjhaaDoor.M1 Ea 47 fun K' J ρ q47 => ?_; go_simp; (try clear q47)
 refine Ln Ea J fun _ Eb => ?_; clear J K' Ea
 refine Go.Proofs.YtkhmcofmjjmjhaaDoor.M1 Eb 45 fun K' J ρ q45 => ?_; go_simp; (try clear q45)
 refine Ln Eb J fun _ Ea => ?_; clear J K' Eb
 refine Go.Proofs.YtkhmcofmjjmjhaaDoor.M1 Ea 45 fun K' J ρ q45 => ?_; go_simp; (try clear q45)
 refine Ln Ea J fun _ Eb => ?_; clear J K' Ea
 refine Go.Proofs.YtkhmcofmjjmjhaaDoor.M1 Eb 48 fun K' J ρ q48 => ?_; go_simp; (try clear q48)
 refine Ln Eb J fun _ Ea => ?_; clear J K' Eb
 refine Go.Proofs.YtkhmcofmjjmjhaaDoor.M1 Ea 49 fun K' J ρ q49 => ?_; go_simp; (try clear q49)
 refine Ln Ea J fun _ Eb => ?_; clear J K' Ea
 refine late_done [2, 3, 5, 6, 7, 8, 9] Eb hK (fun a hE => ?_); clear hK K Q' Eb; simp only [lk, pick, Nat.reduceEqDiff, ↓reduceIte] at hE
 replace hCB := hCB.below h5'
 replace hCX := hCX.below h5'
 replace hCZ := hCZ.below h5'
 have hbw5 := hb4.trans (h5'.mono hb4.size)
 replace hM := hM.below h5'
 replace hTw := hTw.below h5'
 have nX := hCX.1; have cX1 := hCX.2 1 _ rfl
 have nZ := hCZ.1; have cZ0 := hCZ.2 0 _ rfl; have cZ1 := hCZ.2 1 _ rfl
 refine Ks ?_
 refine Rd [] (fun wt => Below w5.heap.size w5 wt) (fun w1 w2 => Below w1.heap.size w1 w2) [(0, some 50), (1, some 51), (2, some 52), (3, some 53), (4, some 54), (5, some 55), (6, some 56), (7, some 57), (8, some 58), (9, some 59), (10, some 60), (11, some 61), (12, some 62), (13, some 63), (14, some 64), (15, some 65), (16, some 66), (17, some 67), (18, some 68), (19, some 69), (20, some 70)] [50, 51, 52, 53, 54, 55, 56, 57, 58, 59, 60, 61, 62, 63, 64, 65, 66, 67, 68, 69, 70] #[true, true, true, true, true, true, true, true, true, true, true, true, true, true, true, true, true, true, true, true, true] [2, 3, 5, 6, 8] hE ((Below.refl _ _).drew) fun Q' K hK => ?_
 refine SeqOps.val ?_ (Sp fun ax wx hS hT' hd K' J => ?_) ?_; rotate_left 1
 ·have r9 := hS.at 9 (by decide) (hE.at 9 rfl); obtain ⟨hcT, hfT, hlT, hmT, hwT, hzT⟩ := bT hT'
  refine Go.Proofs.YtkhmcofmjjmjhaaDoor.o1 r9 fun ρ q9 => ?_; go_simp;
  exact Jo J hT'
 refine SeqOps.val ?_ (Sp fun ax wx hS hT' hd K' J => ?_) ?_; rotate_left 1
 ·have r50 := Tv hd 0 0 50; obtain ⟨hcT, hfT, hlT, hmT, hwT, hzT⟩ := bT hT'
  refine Go.Proofs.YtkhmcofmjjmjhaaDoor.o1 r50 fun ρ q50 => ?_; go_simp; (try go_bits);
  exact Jo J hT'
 refine SeqOps.val ?_ (Sp fun ax wx hS hT' hd K' J => ?_) ?_; rotate_left 1
 ·have r51 := Tv hd 0 1 51; obtain ⟨hcT, hfT, hlT, hmT, hwT, hzT⟩ := bT hT'
  refine Go.Proofs.YtkhmcofmjjmjhaaDoor.o1 r51 fun ρ q51 => ?_; go_simp;
  exact Jo J hT'
 refine SeqOps.val ?_ (Sy 0 52 fun ax wx hS hT' hd K' J => ?_) ?_; rotate_left 1
 ·have r7 := hS.at 7 (by decide) (hE.at 7 rfl); obtain ⟨hcT, hfT, hlT, hmT, hwT, hzT⟩ := bT hT'
  refine Go.Proofs.YtkhmcofmjjmjhaaDoor.o1 r7 fun ρ q7 => ?_; go_simp;
  exact Jo J hT'
 refine SeqOps.val ?_ (Sy 1 52 fun ax wx hS hT' hd K' J => ?_) ?_; rotate_left 1
 ·have r53 := Tv hd 0 3 53; obtain ⟨hcT, hfT, hlT, hmT, hwT, hzT⟩ := bT hT'
  refine Go.Proofs.YtkhmcofmjjmjhaaDoor.o1 r53 fun ρ q53 => ?_; go_simp; (try go_bits);
  exact Jo J hT'
 refine SeqOps.val ?_ (Sy 2 52 fun ax wx hS hT' hd K' J => ?_) ?_; rotate_left 1
 ·have r8 := hS.at 8 (by decide) (hE.at 8 rfl); obtain ⟨hcT, hfT, hlT, hmT, hwT, hzT⟩ := bT hT'
  refine Go.Proofs.YtkhmcofmjjmjhaaDoor.o1 r8 fun ρ q8 => ?_; go_simp;
  exact Jo J hT'
 refine SeqOps.val ?_ (Sy 3 52 fun ax wx hS hT' hd K' J => ?_) ?_; rotate_left 1
 ·have r54 := Tv hd 1 4 54; have r55 := Tv hd 0 5 55; obtain ⟨hcT, hfT, hlT, hmT, hwT, hzT⟩ := bT hT'
  refine Go.Proofs.YtkhmcofmjjmjhaaDoor.o2 r54 r55 fun ρ q54 q55 => ?_; go_simp; (try go_bits);
  exact Jo J hT'
 refine SeqOps.val ?_ (Sp fun ax wx hS hT' hd K' J => ?_) ?_; rotate_left 1
 ·have r52 := Tv hd 4 2 52; have r56 := Tv hd 0 6 56; obtain ⟨hcT, hfT, hlT, hmT, hwT, hzT⟩ := bT hT'
  refine Go.Proofs.YtkhmcofmjjmjhaaDoor.o2 r52 r56 fun ρ q52 q56 => ?_; go_simp; (try go_bits);
  exact Jo J hT'
 refine SeqOps.val ?_ (Sp fun ax wx hS hT' hd K' J => ?_) ?_; rotate_left 1
 ·have r57 := Tv hd 0 7 57; obtain ⟨hcT, hfT, hlT, hmT, hwT, hzT⟩ := bT hT'
  refine Go.Proofs.YtkhmcofmjjmjhaaDoor.o1 r57 fun ρ q57 => ?_; go_simp;
  exact Jo J hT'
 refine SeqOps.val ?_ (Sy 0 58 fun ax wx hS hT' hd K' J => ?_) ?_; rotate_left 1
 ·have r7 := hS.at 7 (by decide) (hE.at 7 rfl); obtain ⟨hcT, hfT, hlT, hmT, hwT, hzT⟩ := bT hT'
  refine Go.Proofs.YtkhmcofmjjmjhaaDoor.o1 r7 fun ρ q7 => ?_; go_simp;
  exact Jo J hT'
 refine SeqOps.val ?_ (Sy 1 58 fun ax wx hS hT' hd K' J => ?_) ?_; rotate_left 1
 ·have r59 := Tv hd 0 9 59; obtain ⟨hcT, hfT, hlT, hmT, hwT, hzT⟩ := bT hT'
  refine Go.Proofs.YtkhmcofmjjmjhaaDoor.o1 r59 fun ρ q59 => ?_; go_simp; (try go_bits);
  exact Jo J hT'
 refine SeqOps.val ?_ (Sy 2 58 fun ax wx hS hT' hd K' J => ?_) ?_; rotate_left 1
 ·have r60 := Tv hd 0 10 60; obtain ⟨hcT, hfT, hlT, hmT, hwT, hzT⟩ := bT hT'
  refine Go.Proofs.YtkhmcofmjjmjhaaDoor.o1 r60 fun ρ q60 => ?_; go_simp;
  exact Jo J hT'
 refine SeqOps.val _ (StepOk.no (by (first | (simp only [List.getElem?_toArray, List.getElem?_cons_succ, List.getElem?_cons_zero]; rfl) | rfl)) rfl (e := 61) 0 rfl rfl (by kernel_rfl) (by kernel_rfl) (fun w => Below.refl _ _)) ?_
 refine SeqOps.val _ (StepOk.no (by (first | (simp only [List.getElem?_toArray, List.getElem?_cons_succ, List.getElem?_cons_zero]; rfl) | rfl)) rfl (e := 61) 1 rfl rfl (by kernel_rfl) (by kernel_rfl) (fun w => Below.refl _ _)) ?_
 refine SeqOps.val _ (StepOk.no (by (first | (simp only [List.getElem?_toArray, List.getElem?_cons_succ, List.getElem?_cons_zero]; rfl) | rfl)) rfl (e := 61) 2 rfl rfl (by kernel_rfl) (by kernel_rfl) (fun w => Below.refl _ _)) ?_
 refine SeqOps.val _ (StepOk.un (by (first | (simp only [List.getElem?_toArray, List.getElem?_cons_succ, List.getElem?_cons_zero]; rfl) | rfl)) rfl (e := 64) 0 rfl (by kernel_rfl) (by kernel_rfl) (fun w => Below.refl _ _)) ?_
 refine SeqOps.val _ (StepOk.un (by (first | (simp only [List.getElem?_toArray, List.getElem?_cons_succ, List.getElem?_cons_zero]; rfl) | rfl)) rfl (e := 64) 1 rfl (by kernel_rfl) (by kernel_rfl) (fun w => Below.refl _ _)) ?_
 refine SeqOps.val _ (StepOk.un (by (first | (simp only [List.getElem?_toArray, List.getElem?_cons_succ, List.getElem?_cons_zero]; rfl) | rfl)) rfl (e := 64) 2 rfl (by kernel_rfl) (by kernel_rfl) (fun w => Below.refl _ _)) ?_
 refine SeqOps.val _ (StepOk.no (by (first | (simp only [List.getElem?_toArray, List.getElem?_cons_succ, List.getElem?_cons_zero]; rfl) | rfl)) rfl (e := 61) 6 rfl rfl (by kernel_rfl) (by kernel_rfl) (fun w => Below.refl _ _)) ?_
 refine SeqOps.val ?_ (Sy 10 58 fun ax wx hS hT' hd K' J => ?_) ?_; rotate_left 1
 ·have r61 := Tv hd 7 11 61; have r68 := Tv hd 0 18 68; obtain ⟨hcT, hfT, hlT, hmT, hwT, hzT⟩ := bT hT'
  refine Go.Proofs.YtkhmcofmjjmjhaaDoor.o2 r61 r68 fun ρ q61 q68 => ?_; go_simp; (try go_bits);
  exact Jo J hT'
 refine SeqOps.val ?_ (Sp fun ax wx hS hT' hd K' J => ?_) ?_; rotate_left 1
 ·have r58 := Tv hd 11 8 58; have r69 := Tv hd 0 19 69; obtain ⟨hcT, hfT, hlT, hmT, hwT, hzT⟩ := bT hT'
  refine Go.Proofs.YtkhmcofmjjmjhaaDoor.o2 r58 r69 fun ρ q58 q69 => ?_; go_simp; (try go_bits);
  exact Jo J hT'
 refine SeqOps.nil ?_
 intro v6 hBm; (repeat refine Ek ?_)
 refine fun amx hEmx => ?_
 simp only [lk, pick, Nat.reduceEqDiff, ↓reduceIte] at hEmx
 refine late_done [2, 3, 5, 6, 8, 70] hEmx hK (fun a hE => ?_); clear hK K Q' hEmx; simp only [lk, pick, Nat.reduceEqDiff, ↓reduceIte] at hE
 have hbv6 := hbw5.trans (hBm.mono hbw5.size)
 replace hCX := hCX.below hBm
 clear nX cX1
 have nX := hCX.1; have cX1 := hCX.2 1 _ rfl
 replace hCZ := hCZ.below hBm
 clear nZ cZ0 cZ1
 have nZ := hCZ.1; have cZ0 := hCZ.2 0 _ rfl; have cZ1 := hCZ.2 1 _ rfl
 replace hM := hM.below hBm
 replace hTw := hTw.below hBm
 replace hCB := hCB.below hBm
 replace hE := hE.turn 70 (v' := .bool false) rfl (by first | rfl | simp)
 refine Ks ?_
 refine cond_no hE (t := 70) rfl ?_
 refine Ks ?_
 refine Rs 2 fun Q' K hK => ?_
 refine Go.Proofs.YtkhmcofmjjmjhaaDoor.M1 hE 8 fun K' J ρ q8 => ?_; go_simp; (try clear q8)
 refine Ln hE J fun _ Eb => ?_; clear J K' hE a
 refine Go.Proofs.YtkhmcofmjjmjhaaDoor.M1 Eb 71 fun K' J ρ q71 => ?_; go_simp; (try go_bits); (try simp (disch := omega) only [IntWalk.i64_in]); (try clear q71)
 refine Ln Eb J fun _ Ea => ?_; clear J K' Eb
 replace Ea := Ea.turn 72 (v' := .bool false) rfl (by (first | rfl | simp))
 refine late_done [2, 3, 5, 6, 72] Ea hK (fun a hE => ?_); clear hK K Q' Ea; simp only [lk, pick, Nat.reduceEqDiff, ↓reduceIte] at hE
 refine Ks ?_
 refine cond_no hE (t := 72) rfl ?_
 refine Ks ?_
 refine Rs 3 fun Q' K hK => ?_
 refine Go.Proofs.YtkhmcofmjjmjhaaDoor.M1 hE 6 fun K' J ρ q6 => ?_; go_simp; (try clear q6)
 refine Ln hE J fun _ Eb => ?_; clear J K' hE a
 refine Go.Proofs.YtkhmcofmjjmjhaaDoor.M1 Eb 74 fun K' J ρ q74 => ?_; go_simp; (try go_bits); (try clear q74)
 go_at_call 44; refine (C10.out _).mono ?_; rintro e w7 ⟨rfl, h7⟩
 (try clear r74)
 refine Ln Eb J fun _ Ea => ?_; clear J K' Eb
 refine Go.Proofs.YtkhmcofmjjmjhaaDoor.M1 Ea 75 fun K' J ρ q75 => ?_; go_simp; (try go_bits); (try simp (disch := omega) only [IntWalk.i64_in]); (try clear q75)
 refine Ln Ea J fun _ Eb => ?_; clear J K' Ea
 replace Eb := Eb.turn 76 (v' := .bool false) rfl (by (first | rfl | simp))
 refine late_done [2, 3, 5, 6, 76] Eb hK (fun a hE => ?_); clear hK K Q' Eb; simp only [lk, pick, Nat.reduceEqDiff, ↓reduceIte] at hE
 have hbw7 := hbv6.trans (h7.mono hbv6.size)
 replace hCX := hCX.below h7
 clear nX cX1
 have nX := hCX.1; have cX1 := hCX.2 1 _ rfl
 replace hCZ := hCZ.below h7
 clear nZ cZ0 cZ1
 have nZ := hCZ.1; have cZ0 := hCZ.2 0 _ rfl; have cZ1 := hCZ.2 1 _ rfl
 replace hM := hM.below h7
 replace hTw := hTw.below h7
 replace hCB := hCB.below h7
 refine Ks ?_
 refine cond_no hE (t := 76) rfl ?_
 refine Ks ?_
 refine Rs 3 fun Q' K hK => ?_
 refine Go.Proofs.YtkhmcofmjjmjhaaDoor.M1 hE 6 fun K' J ρ q6 => ?_; go_simp; (try clear q6)
 refine Ln hE J fun _ Eb => ?_; clear J K' hE a
 refine Go.Proofs.YtkhmcofmjjmjhaaDoor.M1 Eb 77 fun K' J ρ q77 => ?_; go_simp; (try clear q77)
 refine Ln Eb J fun _ Ea => ?_; clear J K' Eb
 refine Go.Proofs.YtkhmcofmjjmjhaaDoor.M1 Ea 78 fun K' J ρ q78 => ?_; go_simp; (try clear q78)
 refine Ln Ea J fun _ Eb => ?_; clear J K' Ea
 refine late_done [2, 3, 5, 6, 10] Eb hK (fun a hE => ?_); clear hK K Q' Eb; simp only [lk, pick, Nat.reduceEqDiff, ↓reduceIte] at hE
 refine Ks ?_
 refine Rs 4 fun Q' K hK => ?_
 refine Go.Proofs.YtkhmcofmjjmjhaaDoor.M1 hE 3 fun K' J ρ q3 => ?_; go_simp; (try go_bits); (try clear q3)
 refine Ln hE J fun _ Eb => ?_; clear J K' hE a
 refine Go.Proofs.YtkhmcofmjjmjhaaDoor.M1 Eb 79 fun K' J ρ q79 => ?_; go_simp; (try clear q79)
 refine Ln Eb J fun _ Ea => ?_; clear J K' Eb
 refine Go.Proofs.YtkhmcofmjjmjhaaDoor.M1 Ea 80 fun K' J ρ q80 => ?_; go_simp; (try go_bits); (try simp (disch := omega) only [IntWalk.i64_in]); (try clear q80)
 refine Ln Ea J fun _ Eb => ?_; clear J K' Ea
 refine Go.Proofs.YtkhmcofmjjmjhaaDoor.M1 Eb 81 fun K' J ρ q81 => ?_; go_simp; (try go_bits); (try clear q81)
 refine Ln Eb J fun _ Ea => ?_; clear J K' Eb
 replace Ea := Ea.turn 82 (v' := .bool (decide (n1.tmod 2 = 0))) rfl (by (first | rfl | simp))
 refine late_done [2, 5, 6, 10, 82] Ea hK (fun a hE => ?_); clear hK K Q' Ea; simp only [lk, pick, Nat.reduceEqDiff, ↓reduceIte] at hE
 by_cases hm2 : n1.tmod 2 = 0
 ·have e2 : decide (n1.tmod 2 = 0) = true := decide_eq_true hm2
  rw [e2] at hE
  refine Ks ?_
  refine cond_yes hE (t := 82) rfl ?_
  refine Ks ?_
  refine Rs 3 fun Q' K hK => ?_
  refine Go.Proofs.YtkhmcofmjjmjhaaDoor.M1 hE 6 fun K' J ρ q6 => ?_; go_simp; (try clear q6)
  refine Ln hE J fun _ Eb => ?_; clear J K' hE a
  refine Go.Proofs.YtkhmcofmjjmjhaaDoor.M1 Eb 83 fun K' J ρ q83 => ?_; go_simp; (try clear q83)
  refine Ln Eb J fun _ Ea => ?_; clear J K' Eb
  refine Go.Proofs.YtkhmcofmjjmjhaaDoor.M1 Ea 84 fun K' J ρ q84 => ?_; go_simp; (try clear q84)
  refine Ln Ea J fun _ Eb => ?_; clear J K' Ea
  refine late_done [2, 5, 6, 10] Eb hK (fun a hE => ?_); clear hK K Q' Eb; simp only [lk, pick, Nat.reduceEqDiff, ↓reduceIte] at hE
  exact HH.out B Z _ hbw7 hM hCB hCZ _ hE
 ·have e2 : decide (n1.tmod 2 = 0) = false := decide_eq_false hm2
  rw [e2] at hE
  refine cond_no hE (t := 82) rfl ?_
  refine wp_skip ?_
  exact HL.out B Z _ hbw7 hM hCB hCZ _ (fits_init [(82, .bool false)] hE)
theorem SlopeSaid_any (n0 n1 : Int) (w : World) (hTw : TabW w) (hM : SbAt w H S b) (hh : b.hours.length ≤ 9223372036854775807) (hss : b.sights.length ≤ 9223372036854775807) : Calls Tryd.prog 8 #[.agg (sbV H hcap S scap b).toArray, .agg #[.int .i64 n0, .int .i64 n1]] w fun e w' => e = .returned (.bool true) ∧ Below w.heap.size w w' := by
 cases ho : b.ok
 ·exact said_bad H hcap S scap b ho n0 n1 w hTw hM hh hss
 ·have hb := ok_iff.1 ho
  by_cases h6 : b.sights.length = 6
  ·exact said_six H hcap S scap b hb h6 n0 n1 w hTw hM
  ·have h5 : b.sights.length ≤ 5 := by have := hb.sights; omega
   cases hr : rtB b
   ·exact said_not H hcap S scap b hb h5 hr n0 n1 w hTw hM
   ·exact said_yes H hcap S scap b hb h5 hr n0 n1 w hTw hM
end
end Go.Proofs.YtkhmcofmjjmjhaaDoor
