/- Name: the law of ears, walked. -/
import Derived.Test.YtbimkcjdodgojaaNcm
import Derived.Test.YtbimkcjdodgojaaNcr
import Derived.Test.YtbimkcjdodgojaaNbh
import Derived.Test.YtbimkcjdodgojaaNbf
namespace Go.Proofs.Ytbimkcjdodgojaa
set_option linter.unusedSimpArgs false
set_option linter.unusedVariables false
open Go Go.RowKit
attribute [local go_sem high] cell_set_wr
attribute [local go_sem low] cell_wr frozen_wr
attribute [local go_sem] wr_set wr_drew wr_drewN wr_alloc wr_new Rho.c Rho.n Rho.g

theorem near_comm (e : Ear) (s t : ByteArray) : pNearR e s t = pNearR e t s := by
 unfold pNearR
 rw [ap_comm, Bool.and_comm]
theorem near_self {e : Ear} {s : ByteArray} (h : e.ok = true) (hs : nameB s.data.toList = true) : pNearR e s s = (0, 0) := by
 have hsl : 0 ≤ e.slips := by
  unfold Ear.ok at h
  simp only [Bool.and_eq_true, decide_eq_true_eq] at h
  exact h.2.2.1
 unfold pNearR
 rw [h, hs, ap_self _ hsl]
 rfl
theorem near_ok {e : Ear} {s t : ByteArray} (h : e.ok = true) (hs : nameB s.data.toList = true) (ht : nameB t.data.toList = true) : pNearR e s t = if (apR e.alike e.slips (keptL e.mute s.data.toList) (keptL e.mute t.data.toList)).2 then ((apR e.alike e.slips (keptL e.mute s.data.toList) (keptL e.mute t.data.toList)).1, 0) else (0, 4) := by
 unfold pNearR
 rw [h, hs, ht]
 rfl
theorem near_wider {e x : Ear} (hm : x.mute = e.mute) (hs : e.slips ≤ x.slips) (ha : ∀ a b, alikeB e.alike a b = true → alikeB x.alike a b = true) (hx : x.ok = true) {s t : ByteArray} {n : Int} (h : pNearR e s t = (n, 0)) : pNearR x s t = (n, 0) := by
 unfold pNearR at h ⊢
 rw [hx, if_pos rfl, hm]
 split at h
 ·split at h
  ·rename_i hn
   rw [if_pos hn]
   split at h
   ·rename_i hap
    have := ap_wider (sl' := x.slips) (l' := x.alike) hs ha hap
    rw [this, hap, if_pos rfl]
    exact h
   ·simp at h
  ·simp at h
 ·simp at h
theorem ok_more {l : List ByteArray} {mu : ByteArray} {sl : Int} (h : Ear.ok ⟨l, mu, sl⟩ = true) : Ear.ok ⟨l, mu, min 3 (sl + 1)⟩ = true := by
 unfold Ear.ok at h ⊢
 simp only [Bool.and_eq_true, decide_eq_true_eq] at h ⊢
 obtain ⟨h1, h2, h3, h4⟩ := h
 exact ⟨h1, h2, by omega, by omega⟩
theorem ok_one {g0 g1 : ByteArray} {rest : List ByteArray} {mu : ByteArray} {sl : Int} (h : Ear.ok ⟨g0 :: g1 :: rest, mu, sl⟩ = true) (h4 : g0.size + g1.size ≤ 4) : Ear.ok ⟨(g0 ++ g1) :: rest, mu, sl⟩ = true := by
 unfold Ear.ok at h ⊢
 simp only [Bool.and_eq_true] at h ⊢
 refine ⟨h.1, ?_, h.2.2⟩
 have hg := h.2.1
 try simp only at hg ⊢
 unfold groupsB at hg ⊢
 simp only [Bool.and_eq_true, Bool.not_eq_true', decide_eq_false_iff_not, List.all_cons, List.length_cons] at hg ⊢
 obtain ⟨q1, ⟨q2, q3, q4⟩, q5⟩ := hg
 refine ⟨by omega, ⟨?_, q4⟩, ?_⟩
 ·unfold groupB at q2 ⊢
  simp only [Bool.and_eq_true, decide_eq_true_eq, ByteArray.size_append] at q2 ⊢
  omega
 ·have : flatT ((g0 ++ g1) :: rest) = flatT (g0 :: g1 :: rest) := by
   unfold flatT
   simp only [List.flatMap_cons, ByteArray.toList_data_append, List.append_assoc]
  rw [this]
  exact q5
section
variable (A : Option Addr) (cap : Nat) (l : List ByteArray) (mu : ByteArray) (sl : Int) (one other : ByteArray)
set_option maxRecDepth 100000 in
set_option maxHeartbeats 4000000 in
theorem ears_bad (hbad : (Ear.ok ⟨l, mu, sl⟩ && (nameB one.data.toList && nameB other.data.toList)) = false) (T : Option Addr) (tc : Nat) (ns : List Int) (w : World) (hA : Arr w w.heap.size A (txts l)) (hcap : l.length ≤ cap) (hl : l.length ≤ 9223372036854775807) (hmu : mu.size ≤ 9223372036854775807) (h1 : one.size ≤ 9223372036854775807) (h2 : other.size ≤ 9223372036854775807) : Calls Try.prog 5 #[.agg #[.slice A l.length cap, .string mu, .int .i64 sl], .string one, .string other, .slice T ns.length tc] w fun e w' => e = .returned (.bool true) ∧ Below w.heap.size w w' := by
 obtain ⟨u, hu⟩ : ∃ u, Ear.ok ⟨l, mu, sl⟩ = u := ⟨_, rfl⟩
 obtain ⟨n1, hn1⟩ : ∃ u, nameB one.data.toList = u := ⟨_, rfl⟩
 obtain ⟨n2, hn2⟩ : ∃ u, nameB other.data.toList = u := ⟨_, rfl⟩
 have C1 : Hid (∀ W, Arr W W.heap.size A (txts l) → Calls Try.prog 26 #[.agg #[.slice A l.length cap, .string mu, .int .i64 sl]] W fun e w' => e = .returned (.bool u) ∧ Below W.heap.size W w') := hid fun W hW => by
  have h := lheard_any A cap l mu sl W hW hcap hl hmu
  rw [hu] at h
  exact h
 have C2 := hid fun W => rNames_any one W h1
 have C3 := hid fun W => rNames_any other W h2
 have C4 : Hid (∃ f : Int, (f = 20 ∨ f = 21) ∧ ∀ W, Arr W W.heap.size A (txts l) → Calls Try.prog 11 #[.agg #[.slice A l.length cap, .string mu, .int .i64 sl], .string one, .string other] W fun e w' => e = .returned (.tuple #[.int .i64 0, .int .i64 f]) ∧ Below W.heap.size W w') := hid (by
  have hp : pNearR ⟨l, mu, sl⟩ one other = (0, if u = true then 21 else 20) := by
   unfold pNearR
   rw [hu] at hbad ⊢
   cases u
   ·rfl
   ·rw [Bool.true_and] at hbad
    rw [if_pos rfl, if_neg (by rw [hbad]; simp), if_pos rfl]
  refine ⟨if u = true then 21 else 20, by cases u <;> simp, fun W hW => ?_⟩
  have h := pNear_any A cap l mu sl one other W hW hcap hl hmu h1 h2
  rw [hp] at h
  exact h)
 rw [hn1] at C2
 rw [hn2] at C3
 rw [hu, hn1, hn2] at hbad
 obtain ⟨f, hf, C5⟩ := C4.out
 have C6 := hid C5
 clear C5 C4 hu hn1 hn2
 refine enterE Try.func5 rfl Try.ntmps5 (by simp) (fun a hE => ?_); simp only [envOf, Nat.zero_add, Nat.reduceAdd] at hE
 refine Ks ?_
 refine Rs 2 fun Q' K hK => ?_
 refine M1 hE 0 fun K' J ρ q0 => ?_; go_simp; (try clear q0)
 refine Ln hE J fun _ Eb => ?_; clear J K' hE a
 refine M0 fun K' J ρ => ?_; go_simp;
 refine Ln Eb J fun _ Ea => ?_; clear J K' Eb
 refine late_done [1, 2, 4] Ea hK (fun a hE => ?_); clear hK K Q' Ea; simp only [lk, pick, Nat.reduceEqDiff, ↓reduceIte] at hE
 obtain ⟨B, hBe⟩ : ∃ B, B = w.heap.size := ⟨_, rfl⟩; rw [← hBe] at hE; refine world_cut (fun wt => Below w.heap.size w wt ∧ Cells wt B [.slice A l.length cap, .string mu, .int .i64 sl]) ⟨(Below.refl _ _).alloc (Nat.le_refl _) _, by rw [hBe]; exact cells_new _ _ _⟩ (fun w1 hCut => ?_); obtain ⟨hbw1, hCB⟩ := hCut; clear hBe
 have hA1 := (hA.below hbw1).more hbw1.size
 have nB := hCB.1; have cB0 := hCB.2 0 _ rfl; have cB1 := hCB.2 1 _ rfl; have cB2 := hCB.2 2 _ rfl
 refine Ks ?_
 cases u
 ·skip
  refine Rs 13 fun Q' K hK => ?_
  refine M1 hE 4 fun K' J ρ q4 => ?_; go_simp; (try clear q4)
  refine Ln hE J fun _ Eb => ?_; clear J K' hE a
  refine M1 Eb 22 fun K' J ρ q22 => ?_; go_simp; (try go_bits); (try clear q22)
  go_at_call 26; refine (C1.out _ hA1).mono ?_; rintro e w2 ⟨rfl, g2⟩
  (try clear r22)
  refine Ln Eb J fun _ Ea => ?_; clear J K' Eb
  refine M1 Ea 23 fun K' J ρ q23 => ?_; go_simp; (try go_bits); (try simp (disch := omega) only [IntWalk.i64_in]); (try clear q23)
  refine Ln Ea J fun _ Eb => ?_; clear J K' Ea
  replace Eb := Eb.turn 24 (v' := .bool true) rfl (by (first | rfl | simp))
  refine M1 Eb 24 fun K' J ρ q24 => ?_; go_simp; (try clear q24)
  refine Ln Eb J fun _ Ea => ?_; clear J K' Eb
  refine Lno Ea 25 ?_
  refine Lu Ea fun _ Eb => ?_
  refine Lno Eb 25 ?_
  refine Lu Eb fun _ Ea => ?_
  refine Lno Ea 25 ?_
  refine Lu Ea fun _ Eb => ?_
  refine M2 Eb 25 28 fun K' J ρ q25 q28 => ?_; go_simp; (try go_bits); (try clear q25 q28)
  refine Ln Eb J fun _ Ea => ?_; clear J K' Eb
  refine M1 Ea 29 fun K' J ρ q29 => ?_; go_simp; (try clear q29)
  refine Ln Ea J fun _ Eb => ?_; clear J K' Ea
  refine Lno Eb 30 ?_
  refine Lu Eb fun _ Ea => ?_
  refine Lno Ea 30 ?_
  refine Lu Ea fun _ Eb => ?_
  refine Lno Eb 30 ?_
  refine Lu Eb fun _ Ea => ?_
  refine M2 Ea 30 33 fun K' J ρ q30 q33 => ?_; go_simp; (try go_bits); (try clear q30 q33)
  refine Ln Ea J fun _ Eb => ?_; clear J K' Ea
  refine late_done [1, 2, 4, 34] Eb hK (fun a hE => ?_); clear hK K Q' Eb; simp only [lk, pick, Nat.reduceEqDiff, ↓reduceIte] at hE
  have hb2 := hbw1.trans (g2.mono hbw1.size)
  have hA2 := (hA1.below g2).more g2.size
  replace hCB := hCB.below g2
  clear nB cB0 cB1 cB2
  have nB := hCB.1; have cB0 := hCB.2 0 _ rfl; have cB1 := hCB.2 1 _ rfl; have cB2 := hCB.2 2 _ rfl
  refine Ks ?_
  refine cond_yes hE (t := 34) rfl ?_
  refine Ks ?_
  refine Rs 9 fun Q' K hK => ?_
  refine M1 hE 4 fun K' J ρ q4 => ?_; go_simp; (try clear q4)
  refine Ln hE J fun _ Eb => ?_; clear J K' hE a
  refine M1 Eb 1 fun K' J ρ q1 => ?_; go_simp; (try clear q1)
  refine Ln Eb J fun _ Ea => ?_; clear J K' Eb
  refine M1 Ea 2 fun K' J ρ q2 => ?_; go_simp; (try clear q2)
  refine Ln Ea J fun _ Eb => ?_; clear J K' Ea
  refine M3 Eb 36 37 38 fun K' J ρ q36 q37 q38 => ?_; go_simp; (try go_bits); (try clear q36 q37 q38)
  go_at_call 11; refine (C6.out _ hA2).mono ?_; rintro e w3 ⟨rfl, g3⟩
  (try clear r36 r37 r38)
  refine Ln Eb J fun _ Ea => ?_; clear J K' Eb
  refine M1 Ea 39 fun K' J ρ q39 => ?_; go_simp; (try clear q39)
  refine Ln Ea J fun _ Eb => ?_; clear J K' Ea
  refine M1 Eb 35 fun K' J ρ q35 => ?_; go_simp; (try clear q35)
  refine Ln Eb J fun _ Ea => ?_; clear J K' Eb
  refine M1 Ea 35 fun K' J ρ q35 => ?_; go_simp; (try clear q35)
  refine Ln Ea J fun _ Eb => ?_; clear J K' Ea
  refine M1 Eb 40 fun K' J ρ q40 => ?_; go_simp; (try clear q40)
  refine Ln Eb J fun _ Ea => ?_; clear J K' Eb
  refine M1 Ea 41 fun K' J ρ q41 => ?_; go_simp; (try clear q41)
  refine Ln Ea J fun _ Eb => ?_; clear J K' Ea
  refine late_done [9, 10] Eb hK (fun a hE => ?_); clear hK K Q' Eb; simp only [lk, pick, Nat.reduceEqDiff, ↓reduceIte] at hE
  refine Ks ?_
  rcases hf with rfl | rfl
  ·skip
   refine Rs 14 fun Q' K hK => ?_
   refine M1 hE 9 fun K' J ρ q9 => ?_; go_simp; (try clear q9)
   refine Ln hE J fun _ Eb => ?_; clear J K' hE a
   refine M1 Eb 42 fun K' J ρ q42 => ?_; go_simp; (try go_bits); (try clear q42)
   refine Ln Eb J fun _ Ea => ?_; clear J K' Eb
   replace Ea := Ea.turn 43 (v' := .bool true) rfl (by (first | rfl | simp))
   refine M1 Ea 43 fun K' J ρ q43 => ?_; go_simp; (try clear q43)
   refine Ln Ea J fun _ Eb => ?_; clear J K' Ea
   refine N1 Eb 44 10 fun K' J ρ q10 => ?_; go_simp; (try clear q10)
   refine Ln Eb J fun _ Ea => ?_; clear J K' Eb
   refine N1 Ea 44 45 fun K' J ρ q45 => ?_; go_simp; (try go_bits); (try clear q45)
   refine Ln Ea J fun _ Eb => ?_; clear J K' Ea
   replace Eb := Eb.turn 46 (v' := .bool true) rfl (by (first | rfl | simp))
   refine N1 Eb 44 46 fun K' J ρ q46 => ?_; go_simp; (try clear q46)
   refine Ln Eb J fun _ Ea => ?_; clear J K' Eb
   refine Lno Ea 47 ?_
   refine Lu Ea fun _ Eb => ?_
   refine Lno Eb 47 ?_
   refine Lu Eb fun _ Ea => ?_
   refine N2 Ea 44 47 49 fun K' J ρ q47 q49 => ?_; go_simp; (try go_bits); (try clear q47 q49)
   refine Ln Ea J fun _ Eb => ?_; clear J K' Ea
   refine M2 Eb 44 50 fun K' J ρ q44 q50 => ?_; go_simp; (try go_bits); (try clear q44 q50)
   refine Ln Eb J fun _ Ea => ?_; clear J K' Eb
   replace Ea := Ea.turn 51 (v' := .bool true) rfl (by (first | rfl | simp))
   refine M1 Ea 51 fun K' J ρ q51 => ?_; go_simp; (try clear q51)
   refine Ln Ea J fun _ Eb => ?_; clear J K' Ea
   refine Ly Eb 52 fun K' J => ?_
   refine o0 fun ρ => ?_; go_simp; (try go_bits);
   go_at_call 15; refine (written_any _).mono ?_; rintro e w4 ⟨rfl, g4⟩
   refine Ln Eb J fun _ Ea => ?_; clear J K' Eb
   refine M2 Ea 52 53 fun K' J ρ q52 q53 => ?_; go_simp; (try go_bits); (try clear q52 q53)
   refine Ln Ea J fun _ Eb => ?_; clear J K' Ea
   refine M1 Eb 54 fun K' J ρ q54 => ?_; go_simp; (try clear q54)
   refine Ln Eb J fun _ Ea => ?_; clear J K' Eb
   refine late_done [8] Ea hK (fun a hE => ?_); clear hK K Q' Ea; simp only [lk, pick, Nat.reduceEqDiff, ↓reduceIte] at hE
   refine Ks ?_
   exact ret_one hE rfl rfl ⟨rfl, hb2.trans ((g3.trans (g4.mono g3.size)).mono hb2.size)⟩
  ·skip
   refine Rs 14 fun Q' K hK => ?_
   refine M1 hE 9 fun K' J ρ q9 => ?_; go_simp; (try clear q9)
   refine Ln hE J fun _ Eb => ?_; clear J K' hE a
   refine M1 Eb 42 fun K' J ρ q42 => ?_; go_simp; (try go_bits); (try clear q42)
   refine Ln Eb J fun _ Ea => ?_; clear J K' Eb
   replace Ea := Ea.turn 43 (v' := .bool true) rfl (by (first | rfl | simp))
   refine M1 Ea 43 fun K' J ρ q43 => ?_; go_simp; (try clear q43)
   refine Ln Ea J fun _ Eb => ?_; clear J K' Ea
   refine N1 Eb 44 10 fun K' J ρ q10 => ?_; go_simp; (try clear q10)
   refine Ln Eb J fun _ Ea => ?_; clear J K' Eb
   refine N1 Ea 44 45 fun K' J ρ q45 => ?_; go_simp; (try go_bits); (try clear q45)
   refine Ln Ea J fun _ Eb => ?_; clear J K' Ea
   replace Eb := Eb.turn 46 (v' := .bool false) rfl (by (first | rfl | simp))
   refine N1 Eb 44 46 fun K' J ρ q46 => ?_; go_simp; (try clear q46)
   refine Ln Eb J fun _ Ea => ?_; clear J K' Eb
   refine N1 Ea 47 10 fun K' J ρ q10 => ?_; go_simp; (try clear q10)
   refine Ln Ea J fun _ Eb => ?_; clear J K' Ea
   refine N1 Eb 47 48 fun K' J ρ q48 => ?_; go_simp; (try go_bits); (try clear q48)
   refine Ln Eb J fun _ Ea => ?_; clear J K' Eb
   replace Ea := Ea.turn 49 (v' := .bool true) rfl (by (first | rfl | simp))
   refine N2 Ea 44 47 49 fun K' J ρ q47 q49 => ?_; go_simp; (try go_bits); (try clear q47 q49)
   refine Ln Ea J fun _ Eb => ?_; clear J K' Ea
   refine M2 Eb 44 50 fun K' J ρ q44 q50 => ?_; go_simp; (try go_bits); (try clear q44 q50)
   refine Ln Eb J fun _ Ea => ?_; clear J K' Eb
   replace Ea := Ea.turn 51 (v' := .bool true) rfl (by (first | rfl | simp))
   refine M1 Ea 51 fun K' J ρ q51 => ?_; go_simp; (try clear q51)
   refine Ln Ea J fun _ Eb => ?_; clear J K' Ea
   refine Ly Eb 52 fun K' J => ?_
   refine o0 fun ρ => ?_; go_simp; (try go_bits);
   go_at_call 15; refine (written_any _).mono ?_; rintro e w4 ⟨rfl, g4⟩
   refine Ln Eb J fun _ Ea => ?_; clear J K' Eb
   refine M2 Ea 52 53 fun K' J ρ q52 q53 => ?_; go_simp; (try go_bits); (try clear q52 q53)
   refine Ln Ea J fun _ Eb => ?_; clear J K' Ea
   refine M1 Eb 54 fun K' J ρ q54 => ?_; go_simp; (try clear q54)
   refine Ln Eb J fun _ Ea => ?_; clear J K' Eb
   refine late_done [8] Ea hK (fun a hE => ?_); clear hK K Q' Ea; simp only [lk, pick, Nat.reduceEqDiff, ↓reduceIte] at hE
   refine Ks ?_
   exact ret_one hE rfl rfl ⟨rfl, hb2.trans ((g3.trans (g4.mono g3.size)).mono hb2.size)⟩
 ·cases n1
  ·skip
   refine Rs 13 fun Q' K hK => ?_
   refine M1 hE 4 fun K' J ρ q4 => ?_; go_simp; (try clear q4)
   refine Ln hE J fun _ Eb => ?_; clear J K' hE a
   refine M1 Eb 22 fun K' J ρ q22 => ?_; go_simp; (try go_bits); (try clear q22)
   go_at_call 26; refine (C1.out _ hA1).mono ?_; rintro e w2 ⟨rfl, g2⟩
   (try clear r22)
   refine Ln Eb J fun _ Ea => ?_; clear J K' Eb
   refine M1 Ea 23 fun K' J ρ q23 => ?_; go_simp; (try go_bits); (try simp (disch := omega) only [IntWalk.i64_in]); (try clear q23)
   refine Ln Ea J fun _ Eb => ?_; clear J K' Ea
   replace Eb := Eb.turn 24 (v' := .bool false) rfl (by (first | rfl | simp))
   refine M1 Eb 24 fun K' J ρ q24 => ?_; go_simp; (try clear q24)
   refine Ln Eb J fun _ Ea => ?_; clear J K' Eb
   refine N1 Ea 25 1 fun K' J ρ q1 => ?_; go_simp; (try clear q1)
   refine Ln Ea J fun _ Eb => ?_; clear J K' Ea
   refine N1 Eb 25 26 fun K' J ρ q26 => ?_; go_simp; (try go_bits); (try clear q26)
   go_at_call 27; refine (C2.out _).mono ?_; rintro e g1 ⟨rfl, rfl⟩
   (try clear r26)
   refine Ln Eb J fun _ Ea => ?_; clear J K' Eb
   refine N1 Ea 25 27 fun K' J ρ q27 => ?_; go_simp; (try go_bits); (try simp (disch := omega) only [IntWalk.i64_in]); (try clear q27)
   refine Ln Ea J fun _ Eb => ?_; clear J K' Ea
   replace Eb := Eb.turn 28 (v' := .bool true) rfl (by (first | rfl | simp))
   refine M2 Eb 25 28 fun K' J ρ q25 q28 => ?_; go_simp; (try go_bits); (try clear q25 q28)
   refine Ln Eb J fun _ Ea => ?_; clear J K' Eb
   refine M1 Ea 29 fun K' J ρ q29 => ?_; go_simp; (try clear q29)
   refine Ln Ea J fun _ Eb => ?_; clear J K' Ea
   refine Lno Eb 30 ?_
   refine Lu Eb fun _ Ea => ?_
   refine Lno Ea 30 ?_
   refine Lu Ea fun _ Eb => ?_
   refine Lno Eb 30 ?_
   refine Lu Eb fun _ Ea => ?_
   refine M2 Ea 30 33 fun K' J ρ q30 q33 => ?_; go_simp; (try go_bits); (try clear q30 q33)
   refine Ln Ea J fun _ Eb => ?_; clear J K' Ea
   refine late_done [1, 2, 4, 34] Eb hK (fun a hE => ?_); clear hK K Q' Eb; simp only [lk, pick, Nat.reduceEqDiff, ↓reduceIte] at hE
   have hb2 := hbw1.trans (g2.mono hbw1.size)
   have hA2 := (hA1.below g2).more g2.size
   replace hCB := hCB.below g2
   clear nB cB0 cB1 cB2
   have nB := hCB.1; have cB0 := hCB.2 0 _ rfl; have cB1 := hCB.2 1 _ rfl; have cB2 := hCB.2 2 _ rfl
   refine Ks ?_
   refine cond_yes hE (t := 34) rfl ?_
   refine Ks ?_
   refine Rs 9 fun Q' K hK => ?_
   refine M1 hE 4 fun K' J ρ q4 => ?_; go_simp; (try clear q4)
   refine Ln hE J fun _ Eb => ?_; clear J K' hE a
   refine M1 Eb 1 fun K' J ρ q1 => ?_; go_simp; (try clear q1)
   refine Ln Eb J fun _ Ea => ?_; clear J K' Eb
   refine M1 Ea 2 fun K' J ρ q2 => ?_; go_simp; (try clear q2)
   refine Ln Ea J fun _ Eb => ?_; clear J K' Ea
   refine M3 Eb 36 37 38 fun K' J ρ q36 q37 q38 => ?_; go_simp; (try go_bits); (try clear q36 q37 q38)
   go_at_call 11; refine (C6.out _ hA2).mono ?_; rintro e w3 ⟨rfl, g3⟩
   (try clear r36 r37 r38)
   refine Ln Eb J fun _ Ea => ?_; clear J K' Eb
   refine M1 Ea 39 fun K' J ρ q39 => ?_; go_simp; (try clear q39)
   refine Ln Ea J fun _ Eb => ?_; clear J K' Ea
   refine M1 Eb 35 fun K' J ρ q35 => ?_; go_simp; (try clear q35)
   refine Ln Eb J fun _ Ea => ?_; clear J K' Eb
   refine M1 Ea 35 fun K' J ρ q35 => ?_; go_simp; (try clear q35)
   refine Ln Ea J fun _ Eb => ?_; clear J K' Ea
   refine M1 Eb 40 fun K' J ρ q40 => ?_; go_simp; (try clear q40)
   refine Ln Eb J fun _ Ea => ?_; clear J K' Eb
   refine M1 Ea 41 fun K' J ρ q41 => ?_; go_simp; (try clear q41)
   refine Ln Ea J fun _ Eb => ?_; clear J K' Ea
   refine late_done [9, 10] Eb hK (fun a hE => ?_); clear hK K Q' Eb; simp only [lk, pick, Nat.reduceEqDiff, ↓reduceIte] at hE
   refine Ks ?_
   rcases hf with rfl | rfl
   ·skip
    refine Rs 14 fun Q' K hK => ?_
    refine M1 hE 9 fun K' J ρ q9 => ?_; go_simp; (try clear q9)
    refine Ln hE J fun _ Eb => ?_; clear J K' hE a
    refine M1 Eb 42 fun K' J ρ q42 => ?_; go_simp; (try go_bits); (try clear q42)
    refine Ln Eb J fun _ Ea => ?_; clear J K' Eb
    replace Ea := Ea.turn 43 (v' := .bool true) rfl (by (first | rfl | simp))
    refine M1 Ea 43 fun K' J ρ q43 => ?_; go_simp; (try clear q43)
    refine Ln Ea J fun _ Eb => ?_; clear J K' Ea
    refine N1 Eb 44 10 fun K' J ρ q10 => ?_; go_simp; (try clear q10)
    refine Ln Eb J fun _ Ea => ?_; clear J K' Eb
    refine N1 Ea 44 45 fun K' J ρ q45 => ?_; go_simp; (try go_bits); (try clear q45)
    refine Ln Ea J fun _ Eb => ?_; clear J K' Ea
    replace Eb := Eb.turn 46 (v' := .bool true) rfl (by (first | rfl | simp))
    refine N1 Eb 44 46 fun K' J ρ q46 => ?_; go_simp; (try clear q46)
    refine Ln Eb J fun _ Ea => ?_; clear J K' Eb
    refine Lno Ea 47 ?_
    refine Lu Ea fun _ Eb => ?_
    refine Lno Eb 47 ?_
    refine Lu Eb fun _ Ea => ?_
    refine N2 Ea 44 47 49 fun K' J ρ q47 q49 => ?_; go_simp; (try go_bits); (try clear q47 q49)
    refine Ln Ea J fun _ Eb => ?_; clear J K' Ea
    refine M2 Eb 44 50 fun K' J ρ q44 q50 => ?_; go_simp; (try go_bits); (try clear q44 q50)
    refine Ln Eb J fun _ Ea => ?_; clear J K' Eb
    replace Ea := Ea.turn 51 (v' := .bool true) rfl (by (first | rfl | simp))
    refine M1 Ea 51 fun K' J ρ q51 => ?_; go_simp; (try clear q51)
    refine Ln Ea J fun _ Eb => ?_; clear J K' Ea
    refine Ly Eb 52 fun K' J => ?_
    refine o0 fun ρ => ?_; go_simp; (try go_bits);
    go_at_call 15; refine (written_any _).mono ?_; rintro e w4 ⟨rfl, g4⟩
    refine Ln Eb J fun _ Ea => ?_; clear J K' Eb
    refine M2 Ea 52 53 fun K' J ρ q52 q53 => ?_; go_simp; (try go_bits); (try clear q52 q53)
    refine Ln Ea J fun _ Eb => ?_; clear J K' Ea
    refine M1 Eb 54 fun K' J ρ q54 => ?_; go_simp; (try clear q54)
    refine Ln Eb J fun _ Ea => ?_; clear J K' Eb
    refine late_done [8] Ea hK (fun a hE => ?_); clear hK K Q' Ea; simp only [lk, pick, Nat.reduceEqDiff, ↓reduceIte] at hE
    refine Ks ?_
    exact ret_one hE rfl rfl ⟨rfl, hb2.trans ((g3.trans (g4.mono g3.size)).mono hb2.size)⟩
   ·skip
    refine Rs 14 fun Q' K hK => ?_
    refine M1 hE 9 fun K' J ρ q9 => ?_; go_simp; (try clear q9)
    refine Ln hE J fun _ Eb => ?_; clear J K' hE a
    refine M1 Eb 42 fun K' J ρ q42 => ?_; go_simp; (try go_bits); (try clear q42)
    refine Ln Eb J fun _ Ea => ?_; clear J K' Eb
    replace Ea := Ea.turn 43 (v' := .bool true) rfl (by (first | rfl | simp))
    refine M1 Ea 43 fun K' J ρ q43 => ?_; go_simp; (try clear q43)
    refine Ln Ea J fun _ Eb => ?_; clear J K' Ea
    refine N1 Eb 44 10 fun K' J ρ q10 => ?_; go_simp; (try clear q10)
    refine Ln Eb J fun _ Ea => ?_; clear J K' Eb
    refine N1 Ea 44 45 fun K' J ρ q45 => ?_; go_simp; (try go_bits); (try clear q45)
    refine Ln Ea J fun _ Eb => ?_; clear J K' Ea
    replace Eb := Eb.turn 46 (v' := .bool false) rfl (by (first | rfl | simp))
    refine N1 Eb 44 46 fun K' J ρ q46 => ?_; go_simp; (try clear q46)
    refine Ln Eb J fun _ Ea => ?_; clear J K' Eb
    refine N1 Ea 47 10 fun K' J ρ q10 => ?_; go_simp; (try clear q10)
    refine Ln Ea J fun _ Eb => ?_; clear J K' Ea
    refine N1 Eb 47 48 fun K' J ρ q48 => ?_; go_simp; (try go_bits); (try clear q48)
    refine Ln Eb J fun _ Ea => ?_; clear J K' Eb
    replace Ea := Ea.turn 49 (v' := .bool true) rfl (by (first | rfl | simp))
    refine N2 Ea 44 47 49 fun K' J ρ q47 q49 => ?_; go_simp; (try go_bits); (try clear q47 q49)
    refine Ln Ea J fun _ Eb => ?_; clear J K' Ea
    refine M2 Eb 44 50 fun K' J ρ q44 q50 => ?_; go_simp; (try go_bits); (try clear q44 q50)
    refine Ln Eb J fun _ Ea => ?_; clear J K' Eb
    replace Ea := Ea.turn 51 (v' := .bool true) rfl (by (first | rfl | simp))
    refine M1 Ea 51 fun K' J ρ q51 => ?_; go_simp; (try clear q51)
    refine Ln Ea J fun _ Eb => ?_; clear J K' Ea
    refine Ly Eb 52 fun K' J => ?_
    refine o0 fun ρ => ?_; go_simp; (try go_bits);
    go_at_call 15; refine (written_any _).mono ?_; rintro e w4 ⟨rfl, g4⟩
    refine Ln Eb J fun _ Ea => ?_; clear J K' Eb
    refine M2 Ea 52 53 fun K' J ρ q52 q53 => ?_; go_simp; (try go_bits); (try clear q52 q53)
    refine Ln Ea J fun _ Eb => ?_; clear J K' Ea
    refine M1 Eb 54 fun K' J ρ q54 => ?_; go_simp; (try clear q54)
    refine Ln Eb J fun _ Ea => ?_; clear J K' Eb
    refine late_done [8] Ea hK (fun a hE => ?_); clear hK K Q' Ea; simp only [lk, pick, Nat.reduceEqDiff, ↓reduceIte] at hE
    refine Ks ?_
    exact ret_one hE rfl rfl ⟨rfl, hb2.trans ((g3.trans (g4.mono g3.size)).mono hb2.size)⟩
  ·cases n2
   ·skip
    refine Rs 13 fun Q' K hK => ?_
    refine M1 hE 4 fun K' J ρ q4 => ?_; go_simp; (try clear q4)
    refine Ln hE J fun _ Eb => ?_; clear J K' hE a
    refine M1 Eb 22 fun K' J ρ q22 => ?_; go_simp; (try go_bits); (try clear q22)
    go_at_call 26; refine (C1.out _ hA1).mono ?_; rintro e w2 ⟨rfl, g2⟩
    (try clear r22)
    refine Ln Eb J fun _ Ea => ?_; clear J K' Eb
    refine M1 Ea 23 fun K' J ρ q23 => ?_; go_simp; (try go_bits); (try simp (disch := omega) only [IntWalk.i64_in]); (try clear q23)
    refine Ln Ea J fun _ Eb => ?_; clear J K' Ea
    replace Eb := Eb.turn 24 (v' := .bool false) rfl (by (first | rfl | simp))
    refine M1 Eb 24 fun K' J ρ q24 => ?_; go_simp; (try clear q24)
    refine Ln Eb J fun _ Ea => ?_; clear J K' Eb
    refine N1 Ea 25 1 fun K' J ρ q1 => ?_; go_simp; (try clear q1)
    refine Ln Ea J fun _ Eb => ?_; clear J K' Ea
    refine N1 Eb 25 26 fun K' J ρ q26 => ?_; go_simp; (try go_bits); (try clear q26)
    go_at_call 27; refine (C2.out _).mono ?_; rintro e g1 ⟨rfl, rfl⟩
    (try clear r26)
    refine Ln Eb J fun _ Ea => ?_; clear J K' Eb
    refine N1 Ea 25 27 fun K' J ρ q27 => ?_; go_simp; (try go_bits); (try simp (disch := omega) only [IntWalk.i64_in]); (try clear q27)
    refine Ln Ea J fun _ Eb => ?_; clear J K' Ea
    replace Eb := Eb.turn 28 (v' := .bool false) rfl (by (first | rfl | simp))
    refine M2 Eb 25 28 fun K' J ρ q25 q28 => ?_; go_simp; (try go_bits); (try clear q25 q28)
    refine Ln Eb J fun _ Ea => ?_; clear J K' Eb
    refine M1 Ea 29 fun K' J ρ q29 => ?_; go_simp; (try clear q29)
    refine Ln Ea J fun _ Eb => ?_; clear J K' Ea
    refine N1 Eb 30 2 fun K' J ρ q2 => ?_; go_simp; (try clear q2)
    refine Ln Eb J fun _ Ea => ?_; clear J K' Eb
    refine N1 Ea 30 31 fun K' J ρ q31 => ?_; go_simp; (try go_bits); (try clear q31)
    go_at_call 27; refine (C3.out _).mono ?_; rintro e g1 ⟨rfl, rfl⟩
    (try clear r31)
    refine Ln Ea J fun _ Eb => ?_; clear J K' Ea
    refine N1 Eb 30 32 fun K' J ρ q32 => ?_; go_simp; (try go_bits); (try simp (disch := omega) only [IntWalk.i64_in]); (try clear q32)
    refine Ln Eb J fun _ Ea => ?_; clear J K' Eb
    replace Ea := Ea.turn 33 (v' := .bool true) rfl (by (first | rfl | simp))
    refine M2 Ea 30 33 fun K' J ρ q30 q33 => ?_; go_simp; (try go_bits); (try clear q30 q33)
    refine Ln Ea J fun _ Eb => ?_; clear J K' Ea
    refine late_done [1, 2, 4, 34] Eb hK (fun a hE => ?_); clear hK K Q' Eb; simp only [lk, pick, Nat.reduceEqDiff, ↓reduceIte] at hE
    have hb2 := hbw1.trans (g2.mono hbw1.size)
    have hA2 := (hA1.below g2).more g2.size
    replace hCB := hCB.below g2
    clear nB cB0 cB1 cB2
    have nB := hCB.1; have cB0 := hCB.2 0 _ rfl; have cB1 := hCB.2 1 _ rfl; have cB2 := hCB.2 2 _ rfl
    refine Ks ?_
    refine cond_yes hE (t := 34) rfl ?_
    refine Ks ?_
    refine Rs 9 fun Q' K hK => ?_
    refine M1 hE 4 fun K' J ρ q4 => ?_; go_simp; (try clear q4)
    refine Ln hE J fun _ Eb => ?_; clear J K' hE a
    refine M1 Eb 1 fun K' J ρ q1 => ?_; go_simp; (try clear q1)
    refine Ln Eb J fun _ Ea => ?_; clear J K' Eb
    refine M1 Ea 2 fun K' J ρ q2 => ?_; go_simp; (try clear q2)
    refine Ln Ea J fun _ Eb => ?_; clear J K' Ea
    refine M3 Eb 36 37 38 fun K' J ρ q36 q37 q38 => ?_; go_simp; (try go_bits); (try clear q36 q37 q38)
    go_at_call 11; refine (C6.out _ hA2).mono ?_; rintro e w3 ⟨rfl, g3⟩
    (try clear r36 r37 r38)
    refine Ln Eb J fun _ Ea => ?_; clear J K' Eb
    refine M1 Ea 39 fun K' J ρ q39 => ?_; go_simp; (try clear q39)
    refine Ln Ea J fun _ Eb => ?_; clear J K' Ea
    refine M1 Eb 35 fun K' J ρ q35 => ?_; go_simp; (try clear q35)
    refine Ln Eb J fun _ Ea => ?_; clear J K' Eb
    refine M1 Ea 35 fun K' J ρ q35 => ?_; go_simp; (try clear q35)
    refine Ln Ea J fun _ Eb => ?_; clear J K' Ea
    refine M1 Eb 40 fun K' J ρ q40 => ?_; go_simp; (try clear q40)
    refine Ln Eb J fun _ Ea => ?_; clear J K' Eb
    refine M1 Ea 41 fun K' J ρ q41 => ?_; go_simp; (try clear q41)
    refine Ln Ea J fun _ Eb => ?_; clear J K' Ea
    refine late_done [9, 10] Eb hK (fun a hE => ?_); clear hK K Q' Eb; simp only [lk, pick, Nat.reduceEqDiff, ↓reduceIte] at hE
    refine Ks ?_
    rcases hf with rfl | rfl
    ·skip
     refine Rs 14 fun Q' K hK => ?_
     refine M1 hE 9 fun K' J ρ q9 => ?_; go_simp; (try clear q9)
     refine Ln hE J fun _ Eb => ?_; clear J K' hE a
     refine M1 Eb 42 fun K' J ρ q42 => ?_; go_simp; (try go_bits); (try clear q42)
     refine Ln Eb J fun _ Ea => ?_; clear J K' Eb
     replace Ea := Ea.turn 43 (v' := .bool true) rfl (by (first | rfl | simp))
     refine M1 Ea 43 fun K' J ρ q43 => ?_; go_simp; (try clear q43)
     refine Ln Ea J fun _ Eb => ?_; clear J K' Ea
     refine N1 Eb 44 10 fun K' J ρ q10 => ?_; go_simp; (try clear q10)
     refine Ln Eb J fun _ Ea => ?_; clear J K' Eb
     refine N1 Ea 44 45 fun K' J ρ q45 => ?_; go_simp; (try go_bits); (try clear q45)
     refine Ln Ea J fun _ Eb => ?_; clear J K' Ea
     replace Eb := Eb.turn 46 (v' := .bool true) rfl (by (first | rfl | simp))
     refine N1 Eb 44 46 fun K' J ρ q46 => ?_; go_simp; (try clear q46)
     refine Ln Eb J fun _ Ea => ?_; clear J K' Eb
     refine Lno Ea 47 ?_
     refine Lu Ea fun _ Eb => ?_
     refine Lno Eb 47 ?_
     refine Lu Eb fun _ Ea => ?_
     refine N2 Ea 44 47 49 fun K' J ρ q47 q49 => ?_; go_simp; (try go_bits); (try clear q47 q49)
     refine Ln Ea J fun _ Eb => ?_; clear J K' Ea
     refine M2 Eb 44 50 fun K' J ρ q44 q50 => ?_; go_simp; (try go_bits); (try clear q44 q50)
     refine Ln Eb J fun _ Ea => ?_; clear J K' Eb
     replace Ea := Ea.turn 51 (v' := .bool true) rfl (by (first | rfl | simp))
     refine M1 Ea 51 fun K' J ρ q51 => ?_; go_simp; (try clear q51)
     refine Ln Ea J fun _ Eb => ?_; clear J K' Ea
     refine Ly Eb 52 fun K' J => ?_
     refine o0 fun ρ => ?_; go_simp; (try go_bits);
     go_at_call 15; refine (written_any _).mono ?_; rintro e w4 ⟨rfl, g4⟩
     refine Ln Eb J fun _ Ea => ?_; clear J K' Eb
     refine M2 Ea 52 53 fun K' J ρ q52 q53 => ?_; go_simp; (try go_bits); (try clear q52 q53)
     refine Ln Ea J fun _ Eb => ?_; clear J K' Ea
     refine M1 Eb 54 fun K' J ρ q54 => ?_; go_simp; (try clear q54)
     refine Ln Eb J fun _ Ea => ?_; clear J K' Eb
     refine late_done [8] Ea hK (fun a hE => ?_); clear hK K Q' Ea; simp only [lk, pick, Nat.reduceEqDiff, ↓reduceIte] at hE
     refine Ks ?_
     exact ret_one hE rfl rfl ⟨rfl, hb2.trans ((g3.trans (g4.mono g3.size)).mono hb2.size)⟩
    ·skip
     refine Rs 14 fun Q' K hK => ?_
     refine M1 hE 9 fun K' J ρ q9 => ?_; go_simp; (try clear q9)
     refine Ln hE J fun _ Eb => ?_; clear J K' hE a
     refine M1 Eb 42 fun K' J ρ q42 => ?_; go_simp; (try go_bits); (try clear q42)
     refine Ln Eb J fun _ Ea => ?_; clear J K' Eb
     replace Ea := Ea.turn 43 (v' := .bool true) rfl (by (first | rfl | simp))
     refine M1 Ea 43 fun K' J ρ q43 => ?_; go_simp; (try clear q43)
     refine Ln Ea J fun _ Eb => ?_; clear J K' Ea
     refine N1 Eb 44 10 fun K' J ρ q10 => ?_; go_simp; (try clear q10)
     refine Ln Eb J fun _ Ea => ?_; clear J K' Eb
     refine N1 Ea 44 45 fun K' J ρ q45 => ?_; go_simp; (try go_bits); (try clear q45)
     refine Ln Ea J fun _ Eb => ?_; clear J K' Ea
     replace Eb := Eb.turn 46 (v' := .bool false) rfl (by (first | rfl | simp))
     refine N1 Eb 44 46 fun K' J ρ q46 => ?_; go_simp; (try clear q46)
     refine Ln Eb J fun _ Ea => ?_; clear J K' Eb
     refine N1 Ea 47 10 fun K' J ρ q10 => ?_; go_simp; (try clear q10)
     refine Ln Ea J fun _ Eb => ?_; clear J K' Ea
     refine N1 Eb 47 48 fun K' J ρ q48 => ?_; go_simp; (try go_bits); (try clear q48)
     refine Ln Eb J fun _ Ea => ?_; clear J K' Eb
     replace Ea := Ea.turn 49 (v' := .bool true) rfl (by (first | rfl | simp))
     refine N2 Ea 44 47 49 fun K' J ρ q47 q49 => ?_; go_simp; (try go_bits); (try clear q47 q49)
     refine Ln Ea J fun _ Eb => ?_; clear J K' Ea
     refine M2 Eb 44 50 fun K' J ρ q44 q50 => ?_; go_simp; (try go_bits); (try clear q44 q50)
     refine Ln Eb J fun _ Ea => ?_; clear J K' Eb
     replace Ea := Ea.turn 51 (v' := .bool true) rfl (by (first | rfl | simp))
     refine M1 Ea 51 fun K' J ρ q51 => ?_; go_simp; (try clear q51)
     refine Ln Ea J fun _ Eb => ?_; clear J K' Ea
     refine Ly Eb 52 fun K' J => ?_
     refine o0 fun ρ => ?_; go_simp; (try go_bits);
     go_at_call 15; refine (written_any _).mono ?_; rintro e w4 ⟨rfl, g4⟩
     refine Ln Eb J fun _ Ea => ?_; clear J K' Eb
     refine M2 Ea 52 53 fun K' J ρ q52 q53 => ?_; go_simp; (try go_bits); (try clear q52 q53)
     refine Ln Ea J fun _ Eb => ?_; clear J K' Ea
     refine M1 Eb 54 fun K' J ρ q54 => ?_; go_simp; (try clear q54)
     refine Ln Eb J fun _ Ea => ?_; clear J K' Eb
     refine late_done [8] Ea hK (fun a hE => ?_); clear hK K Q' Ea; simp only [lk, pick, Nat.reduceEqDiff, ↓reduceIte] at hE
     refine Ks ?_
     exact ret_one hE rfl rfl ⟨rfl, hb2.trans ((g3.trans (g4.mono g3.size)).mono hb2.size)⟩
   ·cases hbad
set_option maxRecDepth 100000 in
set_option maxHeartbeats 2000000 in
theorem ears_end (l' : List ByteArray) (A' : Option Addr) (cap' : Nat) (sl' n f : Int) (X : Nat) (w V : World) (hb : Below w.heap.size w V) (hCX : Cells V X [.slice A' l'.length cap', .string mu, .int .i64 sl']) (hA : Arr V V.heap.size A' (txts l')) (hcap : l'.length ≤ cap') (hl : l'.length ≤ 9223372036854775807) (hmu : mu.size ≤ 9223372036854775807) (h1 : one.size ≤ 9223372036854775807) (h2 : other.size ≤ 9223372036854775807)
    (HF : Hid (f = 0 → pNearR ⟨l', mu, sl'⟩ one other = (n, 0))) (a : Act) (hE : Fits 185 [(1, .string one), (2, .string other), (11, .int .i64 n), (12, .int .i64 f), (19, .pointer (some ⟨X, 0, none⟩))] a) :
    (cr 10 (bodyOf Try.f5)).wp Try.prog (bodyPost Try.prog Try.f5 fun e w' => e = .returned (.bool true) ∧ Below w.heap.size w w') a V := by
 have C := hid (pNear_any A' cap' l' mu sl' one other V hA hcap hl hmu h1 h2)
 obtain ⟨P, hP⟩ : ∃ P, pNearR ⟨l', mu, sl'⟩ one other = P := ⟨_, rfl⟩
 rw [hP] at C HF
 clear hP
 have nX := hCX.1; have cX0 := hCX.2 0 _ rfl; have cX1 := hCX.2 1 _ rfl; have cX2 := hCX.2 2 _ rfl
 refine wp_seq ?_; refine Ks ?_
 refine Rs 9 fun Q' K hK => ?_
 refine M1 hE 19 fun K' J ρ q19 => ?_; go_simp; (try clear q19)
 refine Ln hE J fun _ Eb => ?_; clear J K' hE a
 refine M1 Eb 1 fun K' J ρ q1 => ?_; go_simp; (try clear q1)
 refine Ln Eb J fun _ Ea => ?_; clear J K' Eb
 refine M1 Ea 2 fun K' J ρ q2 => ?_; go_simp; (try clear q2)
 refine Ln Ea J fun _ Eb => ?_; clear J K' Ea
 refine M3 Eb 165 166 167 fun K' J ρ q165 q166 q167 => ?_; go_simp; (try go_bits); (try clear q165 q166 q167)
 go_at_call 11; refine (C.out).mono ?_; rintro e w2 ⟨rfl, g2⟩
 (try clear r165 r166 r167)
 refine Ln Eb J fun _ Ea => ?_; clear J K' Eb
 refine M1 Ea 168 fun K' J ρ q168 => ?_; go_simp; (try clear q168)
 refine Ln Ea J fun _ Eb => ?_; clear J K' Ea
 refine M1 Eb 164 fun K' J ρ q164 => ?_; go_simp; (try clear q164)
 refine Ln Eb J fun _ Ea => ?_; clear J K' Eb
 refine M1 Ea 164 fun K' J ρ q164 => ?_; go_simp; (try clear q164)
 refine Ln Ea J fun _ Eb => ?_; clear J K' Ea
 refine M1 Eb 169 fun K' J ρ q169 => ?_; go_simp; (try clear q169)
 refine Ln Eb J fun _ Ea => ?_; clear J K' Eb
 refine M1 Ea 170 fun K' J ρ q170 => ?_; go_simp; (try clear q170)
 refine Ln Ea J fun _ Eb => ?_; clear J K' Ea
 refine late_done [11, 12, 20, 21] Eb hK (fun a hE => ?_); clear hK K Q' Eb; simp only [lk, pick, Nat.reduceEqDiff, ↓reduceIte] at hE
 refine Ks ?_
 by_cases hf : f = 0
 ·have hPe := HF.out hf
  subst hf
  rw [hPe] at hE
  refine Rs 15 fun Q' K hK => ?_
  refine M1 hE 12 fun K' J ρ q12 => ?_; go_simp; (try clear q12)
  refine Ln hE J fun _ Eb => ?_; clear J K' hE a
  refine M1 Eb 171 fun K' J ρ q171 => ?_; go_simp; (try go_bits); (try clear q171)
  refine Ln Eb J fun _ Ea => ?_; clear J K' Eb
  replace Ea := Ea.turn 172 (v' := .bool false) rfl (by (first | rfl | simp))
  refine M1 Ea 172 fun K' J ρ q172 => ?_; go_simp; (try clear q172)
  refine Ln Ea J fun _ Eb => ?_; clear J K' Ea
  refine N1 Eb 173 21 fun K' J ρ q21 => ?_; go_simp; (try clear q21)
  refine Ln Eb J fun _ Ea => ?_; clear J K' Eb
  refine N1 Ea 173 174 fun K' J ρ q174 => ?_; go_simp; (try go_bits); (try clear q174)
  refine Ln Ea J fun _ Eb => ?_; clear J K' Ea
  replace Eb := Eb.turn 175 (v' := .bool true) rfl (by (first | rfl | simp))
  refine N1 Eb 173 175 fun K' J ρ q175 => ?_; go_simp; (try clear q175)
  refine Ln Eb J fun _ Ea => ?_; clear J K' Eb
  refine N1 Ea 176 20 fun K' J ρ q20 => ?_; go_simp; (try clear q20)
  refine Ln Ea J fun _ Eb => ?_; clear J K' Ea
  refine N1 Eb 176 11 fun K' J ρ q11 => ?_; go_simp; (try clear q11)
  refine Ln Eb J fun _ Ea => ?_; clear J K' Eb
  refine N2 Ea 176 177 178 fun K' J ρ q177 q178 => ?_; go_simp; (try go_bits); (try clear q177 q178)
  refine Ln Ea J fun _ Eb => ?_; clear J K' Ea
  replace Eb := Eb.turn 179 (v' := .bool true) rfl (by (first | rfl | simp))
  refine N2 Eb 173 176 179 fun K' J ρ q176 q179 => ?_; go_simp; (try go_bits); (try clear q176 q179)
  refine Ln Eb J fun _ Ea => ?_; clear J K' Eb
  refine M2 Ea 173 180 fun K' J ρ q173 q180 => ?_; go_simp; (try go_bits); (try clear q173 q180)
  refine Ln Ea J fun _ Eb => ?_; clear J K' Ea
  replace Eb := Eb.turn 181 (v' := .bool true) rfl (by (first | rfl | simp))
  refine M1 Eb 181 fun K' J ρ q181 => ?_; go_simp; (try clear q181)
  refine Ln Eb J fun _ Ea => ?_; clear J K' Eb
  refine Ly Ea 182 fun K' J => ?_
  refine o0 fun ρ => ?_; go_simp; (try go_bits);
  go_at_call 15; refine (written_any _).mono ?_; rintro e w3 ⟨rfl, g3⟩
  refine Ln Ea J fun _ Eb => ?_; clear J K' Ea
  refine M2 Eb 182 183 fun K' J ρ q182 q183 => ?_; go_simp; (try go_bits); (try clear q182 q183)
  refine Ln Eb J fun _ Ea => ?_; clear J K' Eb
  refine M1 Ea 184 fun K' J ρ q184 => ?_; go_simp; (try clear q184)
  refine Ln Ea J fun _ Eb => ?_; clear J K' Ea
  refine late_done [8] Eb hK (fun a hE => ?_); clear hK K Q' Eb; simp only [lk, pick, Nat.reduceEqDiff, ↓reduceIte] at hE
  refine Ks ?_
  exact ret_one hE rfl rfl ⟨rfl, hb.trans ((g2.trans (g3.mono g2.size)).mono hb.size)⟩
 ·skip
  refine Rs 15 fun Q' K hK => ?_
  refine M1 hE 12 fun K' J ρ q12 => ?_; go_simp; (try clear q12)
  refine Ln hE J fun _ Eb => ?_; clear J K' hE a
  refine M1 Eb 171 fun K' J ρ q171 => ?_; go_simp; (try go_bits); (try clear q171)
  refine Ln Eb J fun _ Ea => ?_; clear J K' Eb
  replace Ea := Ea.turn 172 (v' := .bool true) rfl (by (simp [hf]))
  refine M1 Ea 172 fun K' J ρ q172 => ?_; go_simp; (try clear q172)
  refine Ln Ea J fun _ Eb => ?_; clear J K' Ea
  refine Lno Eb 173 ?_
  refine Lu Eb fun _ Ea => ?_
  refine Lno Ea 173 ?_
  refine Lu Ea fun _ Eb => ?_
  refine Lno Eb 173 ?_
  refine Lu Eb fun _ Ea => ?_
  refine Lun Ea 176 ?_
  refine Lu Ea fun _ Eb => ?_
  refine Lun Eb 176 ?_
  refine Lu Eb fun _ Ea => ?_
  refine Lun Ea 176 ?_
  refine Lu Ea fun _ Eb => ?_
  refine Lno Eb 173 ?_
  refine Lu Eb fun _ Ea => ?_
  refine M2 Ea 173 180 fun K' J ρ q173 q180 => ?_; go_simp; (try go_bits); (try clear q173 q180)
  refine Ln Ea J fun _ Eb => ?_; clear J K' Ea
  replace Eb := Eb.turn 181 (v' := .bool true) rfl (by (first | rfl | simp))
  refine M1 Eb 181 fun K' J ρ q181 => ?_; go_simp; (try clear q181)
  refine Ln Eb J fun _ Ea => ?_; clear J K' Eb
  refine Ly Ea 182 fun K' J => ?_
  refine o0 fun ρ => ?_; go_simp; (try go_bits);
  go_at_call 15; refine (written_any _).mono ?_; rintro e w3 ⟨rfl, g3⟩
  refine Ln Ea J fun _ Eb => ?_; clear J K' Ea
  refine M2 Eb 182 183 fun K' J ρ q182 q183 => ?_; go_simp; (try go_bits); (try clear q182 q183)
  refine Ln Eb J fun _ Ea => ?_; clear J K' Eb
  refine M1 Ea 184 fun K' J ρ q184 => ?_; go_simp; (try clear q184)
  refine Ln Ea J fun _ Eb => ?_; clear J K' Ea
  refine late_done [8] Eb hK (fun a hE => ?_); clear hK K Q' Eb; simp only [lk, pick, Nat.reduceEqDiff, ↓reduceIte] at hE
  refine Ks ?_
  exact ret_one hE rfl rfl ⟨rfl, hb.trans ((g2.trans (g3.mono g2.size)).mono hb.size)⟩
theorem txts_drop (l : List ByteArray) (b o : Nat) (w : World) (B : Nat) (k : Nat) (h : Arr w B (some ⟨b, o, none⟩) (txts l)) : Arr w B (some ⟨b, o + k, none⟩) (txts (l.drop k)) := fun hx => by
 have hne : txts l ≠ [] := fun e => hx (by unfold txts at e ⊢; rw [List.map_eq_nil_iff] at e; rw [e]; simp)
 obtain ⟨b', o', e, h1, h2⟩ := h hne
 cases e
 refine ⟨b, o + k, rfl, h1, fun j u hu => ?_⟩
 rw [Nat.add_assoc]
 refine h2 (k + j) u ?_
 unfold txts at hu ⊢
 rw [List.getElem?_map, List.getElem?_drop] at hu
 rw [List.getElem?_map]
 exact hu
theorem own_first (w : World) (cs : Array Value) (hc : cs.size = 1) {N : Nat} (hN : N ≤ w.heap.size) : (w.alloc (.cells cs 9)).ownsRow N 9 1 (.slice (some ⟨w.heap.size, 0, none⟩) 1 1) 1 cs.toList :=
 ⟨by simp [hc], .inr ⟨w.heap.size, 1, cs, rfl, hN, by show (w.heap.push _)[w.heap.size]? = _; simp, Nat.le_refl _, by simp [maxLen], by simp [hc], by rw [List.take_of_length_le (by simp [hc])]⟩⟩
set_option maxRecDepth 100000 in
set_option maxHeartbeats 4000000 in
theorem ears_mid (hok : Ear.ok ⟨l, mu, sl⟩ = true) (hcap : l.length ≤ cap) (h1 : one.size ≤ 9223372036854775807) (h2 : other.size ≤ 9223372036854775807) (n f : Int) (HF : Hid (f = 0 → pNearR ⟨l, mu, sl⟩ one other = (n, 0))) (B : Nat) (w V : World) (hb : Below w.heap.size w V) (hCB : Cells V B [.slice A l.length cap, .string mu, .int .i64 sl]) (hA : Arr V V.heap.size A (txts l)) (a : Act)
    (hE : Fits 185 [(1, .string one), (2, .string other), (4, .pointer (some ⟨B, 0, none⟩)), (11, .int .i64 n), (12, .int .i64 f)] a) :
    (cr 7 (bodyOf Try.f5)).wp Try.prog (bodyPost Try.prog Try.f5 fun e w' => e = .returned (.bool true) ∧ Below w.heap.size w w') a V := by
 obtain ⟨p1, p2, p3, p4, p5⟩ := ear_lens hok
 have hmu : mu.size ≤ 9223372036854775807 := by omega
 have HOK := hid hok
 clear hok
 have nB := hCB.1; have cB0 := hCB.2 0 _ rfl; have cB1 := hCB.2 1 _ rfl; have cB2 := hCB.2 2 _ rfl
 refine wp_seq ?_; refine Ks ?_
 refine Rs 3 fun Q' K hK => ?_
 refine M1 hE 4 fun K' J ρ q4 => ?_; go_simp; (try clear q4)
 refine Ln hE J fun _ Eb => ?_; clear J K' hE a
 refine M0 fun K' J ρ => ?_; go_simp;
 refine Ln Eb J fun _ Ea => ?_; clear J K' Eb
 refine M2 Ea 19 125 fun K' J ρ q19 q125 => ?_; go_simp; (try clear q19 q125)
 refine late_skip Ea J (fun _ Eb => ?_); clear J K'; clear Ea
 refine late_done [1, 2, 4, 11, 12, 19] Eb hK (fun a hE => ?_); clear hK K Q' Eb; simp only [lk, pick, Nat.reduceEqDiff, ↓reduceIte] at hE
 obtain ⟨X, hXe⟩ : ∃ B, B = V.heap.size := ⟨_, rfl⟩; have hnX : V.heap.size ≤ X := Nat.le_of_eq hXe.symm; rw [← hXe] at hE; refine world_cut (fun wt => Below V.heap.size V wt ∧ X < wt.heap.size ∧ Row wt X [.slice A l.length cap, .string mu, .int .i64 sl]) ⟨(Below.refl _ _).alloc (Nat.le_refl _) _, by rw [hXe]; simp, by rw [hXe]; exact row_new _ _ _⟩ (fun w3 hCut => ?_); obtain ⟨hbw3, hlX, hRX⟩ := hCut; clear hXe
 have hb3 := hb.trans (hbw3.mono hb.size)
 have hCB0 := hCB
 replace hCB := hCB.below hbw3
 have hBX : B ≠ X := by have := nB; omega
 have hXw : w.heap.size ≤ X := Nat.le_trans hb.size hnX
 have hA0 := hA
 replace hA := (hA.below hbw3).more hbw3.size
 clear nB cB0 cB1 cB2
 have nB := hCB.1
 have cB2 := hCB.2 2 _ rfl
 have y2 := (hRX 2 _ rfl).2
 refine Ks ?_
 refine Rs 6 fun Q' K hK => ?_
 refine M1 hE 4 fun K' J ρ q4 => ?_; go_simp; (try clear q4)
 refine Ln hE J fun _ Eb => ?_; clear J K' hE a
 refine M1 Eb 126 fun K' J ρ q126 => ?_; go_simp; (try clear q126)
 refine Ln Eb J fun _ Ea => ?_; clear J K' Eb
 refine M1 Ea 127 fun K' J ρ q127 => ?_; go_simp; (try go_bits); (try simp (disch := omega) only [IntWalk.i64_in]); (try clear q127)
 refine Ln Ea J fun _ Eb => ?_; clear J K' Ea
 refine M1 Eb 128 fun K' J ρ q128 => ?_; go_simp; (try go_bits); (try clear q128)
 refine Ln Eb J fun _ Ea => ?_; clear J K' Eb
 replace Ea := Ea.turn 129 (v' := .int .i64 (min 3 (sl + 1))) rfl (by (first | rfl | (congr 1; omega) | (simp; omega)))
 refine M1 Ea 19 fun K' J ρ q19 => ?_; go_simp; (try clear q19)
 refine Ln Ea J fun _ Eb => ?_; clear J K' Ea
 refine M2 Eb 130 129 fun K' J ρ q130 q129 => ?_; go_simp; (try clear q130 q129)
 refine late_skip Eb J (fun _ Ea => ?_); clear J K'; clear Eb
 refine late_done [1, 2, 4, 11, 12, 19] Ea hK (fun a hE => ?_); clear hK K Q' Ea; simp only [lk, pick, Nat.reduceEqDiff, ↓reduceIte] at hE
 refine world_cut (fun wt => Below V.heap.size V wt ∧ X < wt.heap.size ∧ Row wt X [.slice A l.length cap, .string mu, .int .i64 (min 3 (sl + 1))]) ⟨hbw3.setCell hnX _, by simp; omega, hRX.set (o := 2) (by simp)⟩ (fun w4 hC => ?_)
 obtain ⟨hbV, hlX4, hRX4⟩ := hC
 have hb4 := hb.trans (hbV.mono hb.size)
 have hA4 := (hA0.below hbV).more hbV.size
 have hCB4 := hCB0.below hbV
 clear nB cB2 y2 hRX hlX hbw3 hb3 hCB hA
 have nB := hCB4.1
 have cB0 := hCB4.2 0 _ rfl
 refine Ks ?_
 have HMORE : Hid (f = 0 → pNearR ⟨l, mu, min 3 (sl + 1)⟩ one other = (n, 0)) := hid fun hf => near_wider (e := ⟨l, mu, sl⟩) (x := ⟨l, mu, min 3 (sl + 1)⟩) rfl (by show sl ≤ min 3 (sl + 1); omega) (fun _ _ h => h) (ok_more HOK.out) (HF.out hf)
 by_cases hlen : 1 < l.length
 ·have hlenI : (1 : Int) < l.length := by omega
  have hlen0 : 0 < l.length := by omega
  have h2I : (2 : Int) ≤ l.length := by omega
  obtain ⟨b, o, rfl, hbb, c0⟩ := hA4.txt (k := 0) (by omega)
  obtain ⟨b', o', e, _, c1⟩ := hA4.txt (k := 1) (by omega)
  cases e
  rw [Nat.add_zero] at c0
  have hle : l = l[0] :: l[1] :: l.drop 2 := by
   match l, hlen with
   | x :: y :: r, _ => rfl
  have hs0 := p2 0 (by omega)
  have hs1 := p2 1 (by omega)
  obtain ⟨g0, hg0⟩ : ∃ g, l[0] = g := ⟨_, rfl⟩
  obtain ⟨g1, hg1⟩ : ∃ g, l[1] = g := ⟨_, rfl⟩
  rw [hg0] at c0 hs0
  rw [hg1] at c1 hs1
  rw [hg0, hg1] at hle
  have HLE := hid hle
  clear hle hg0 hg1
  by_cases h4 : g0.size + g1.size ≤ 4
  ·have h4I : (g0.size : Int) + g1.size ≤ 4 := by omega
   refine Rd [] (fun wt => Below w4.heap.size w4 wt) (fun w1 w2 => Below w1.heap.size w1 w2) [(0, some 131), (1, some 132), (2, some 133), (3, some 134), (4, some 135), (5, some 136), (6, some 137), (7, some 138), (8, some 139), (9, some 140), (10, some 141), (11, some 142), (12, some 143), (13, some 144), (14, some 145), (15, some 146), (16, some 147), (17, some 148)] [131, 132, 133, 134, 135, 136, 137, 138, 139, 140, 141, 142, 143, 144, 145, 146, 147, 148] #[true, true, true, true, true, true, true, true, true, true, true, true, true, true, true, true, true, true] [1, 2, 4, 11, 12, 19] hE ((Below.refl _ _).drew) fun Q' K hK => ?_
   refine SeqOps.val ?_ (Sp fun ax wx hS hT' hd K' J => ?_) ?_; rotate_left 1
   ·have r4 := hS.at 4 (by decide) (hE.at 4 rfl); obtain ⟨hcT, hfT, hlT, hmT, hwT, hzT⟩ := bT hT'
    refine o1 r4 fun ρ q4 => ?_; go_simp;
    exact Jo J hT'
   refine SeqOps.val ?_ (Sp fun ax wx hS hT' hd K' J => ?_) ?_; rotate_left 1
   ·have r131 := Tv hd 0 0 131; obtain ⟨hcT, hfT, hlT, hmT, hwT, hzT⟩ := bT hT'
    refine o1 r131 fun ρ q131 => ?_; go_simp;
    exact Jo J hT'
   refine SeqOps.val ?_ (Sp fun ax wx hS hT' hd K' J => ?_) ?_; rotate_left 1
   ·have r132 := Tv hd 0 1 132; obtain ⟨hcT, hfT, hlT, hmT, hwT, hzT⟩ := bT hT'
    refine o1 r132 fun ρ q132 => ?_; go_simp; (try go_bits);
    exact Jo J hT'
   refine SeqOps.say (fun v _ => v = .bool true) (fun _ _ _ _ h => h) (Sp fun ax wx hS hT' hd K' J => ?_) ?_
   ·have r133 := Tv hd 0 2 133; obtain ⟨hcT, hfT, hlT, hmT, hwT, hzT⟩ := bT hT'
    refine o1 r133 fun ρ q133 => ?_; go_simp; (try go_bits);
    exact J.out _ _ _ rfl (by first | (simp; done) | (simp; omega)) hT' (Below.refl _ _)
   refine SeqOps.val ?_ (Sp fun ax wx hS hT' hd K' J => ?_) ?_; rotate_left 1
   ·obtain ⟨v134, r134, h134⟩ := Tg hd 0 3 134; obtain rfl := h134; obtain ⟨hcT, hfT, hlT, hmT, hwT, hzT⟩ := bT hT'
    refine o1 r134 fun ρ q134 => ?_; go_simp;
    exact Jo J hT'
   refine SeqOps.val ?_ (Sy 0 135 fun ax wx hS hT' hd K' J => ?_) ?_; rotate_left 1
   ·have r4 := hS.at 4 (by decide) (hE.at 4 rfl); obtain ⟨hcT, hfT, hlT, hmT, hwT, hzT⟩ := bT hT'
    refine o1 r4 fun ρ q4 => ?_; go_simp;
    exact Jo J hT'
   refine SeqOps.val ?_ (Sy 1 135 fun ax wx hS hT' hd K' J => ?_) ?_; rotate_left 1
   ·have r136 := Tv hd 0 5 136; obtain ⟨hcT, hfT, hlT, hmT, hwT, hzT⟩ := bT hT'
    refine o1 r136 fun ρ q136 => ?_; go_simp;
    exact Jo J hT'
   refine SeqOps.val ?_ (Sy 2 135 fun ax wx hS hT' hd K' J => ?_) ?_; rotate_left 1
   ·have r137 := Tv hd 0 6 137; obtain ⟨hcT, hfT, hlT, hmT, hwT, hzT⟩ := bT hT'
    refine o1 r137 fun ρ q137 => ?_; go_simp; (try go_bits);
    exact Jo J hT'
   refine SeqOps.val ?_ (Sy 3 135 fun ax wx hS hT' hd K' J => ?_) ?_; rotate_left 1
   ·have r138 := Tv hd 0 7 138; obtain ⟨hcT, hfT, hlT, hmT, hwT, hzT⟩ := bT hT'
    refine o1 r138 fun ρ q138 => ?_; go_simp;
    exact Jo J hT'
   refine SeqOps.val ?_ (Sy 4 135 fun ax wx hS hT' hd K' J => ?_) ?_; rotate_left 1
   ·have r139 := Tv hd 0 8 139; obtain ⟨hcT, hfT, hlT, hmT, hwT, hzT⟩ := bT hT'
    refine o1 r139 fun ρ q139 => ?_; go_simp; (try go_bits);
    exact Jo J hT'
   refine SeqOps.val ?_ (Sy 5 135 fun ax wx hS hT' hd K' J => ?_) ?_; rotate_left 1
   ·have r4 := hS.at 4 (by decide) (hE.at 4 rfl); obtain ⟨hcT, hfT, hlT, hmT, hwT, hzT⟩ := bT hT'
    refine o1 r4 fun ρ q4 => ?_; go_simp;
    exact Jo J hT'
   refine SeqOps.val ?_ (Sy 6 135 fun ax wx hS hT' hd K' J => ?_) ?_; rotate_left 1
   ·have r141 := Tv hd 0 10 141; obtain ⟨hcT, hfT, hlT, hmT, hwT, hzT⟩ := bT hT'
    refine o1 r141 fun ρ q141 => ?_; go_simp;
    exact Jo J hT'
   refine SeqOps.val ?_ (Sy 7 135 fun ax wx hS hT' hd K' J => ?_) ?_; rotate_left 1
   ·have r142 := Tv hd 0 11 142; obtain ⟨hcT, hfT, hlT, hmT, hwT, hzT⟩ := bT hT'
    refine o1 r142 fun ρ q142 => ?_; go_simp; (try go_bits);
    exact Jo J hT'
   refine SeqOps.val ?_ (Sy 8 135 fun ax wx hS hT' hd K' J => ?_) ?_; rotate_left 1
   ·have r143 := Tv hd 0 12 143; obtain ⟨hcT, hfT, hlT, hmT, hwT, hzT⟩ := bT hT'
    refine o1 r143 fun ρ q143 => ?_; go_simp;
    exact Jo J hT'
   refine SeqOps.val ?_ (Sy 9 135 fun ax wx hS hT' hd K' J => ?_) ?_; rotate_left 1
   ·have r144 := Tv hd 0 13 144; obtain ⟨hcT, hfT, hlT, hmT, hwT, hzT⟩ := bT hT'
    refine o1 r144 fun ρ q144 => ?_; go_simp; (try go_bits);
    exact Jo J hT'
   refine SeqOps.val ?_ (Sy 10 135 fun ax wx hS hT' hd K' J => ?_) ?_; rotate_left 1
   ·have r140 := Tv hd 5 9 140; have r145 := Tv hd 0 14 145; obtain ⟨hcT, hfT, hlT, hmT, hwT, hzT⟩ := bT hT'
    refine o2 r140 r145 fun ρ q140 q145 => ?_; go_simp; (try go_bits); (try simp (disch := omega) only [IntWalk.i64_in]);
    exact Jo J hT'
   refine SeqOps.say (fun v _ => v = .bool true) (fun _ _ _ _ h => h) (Sy 11 135 fun ax wx hS hT' hd K' J => ?_) ?_
   ·have r146 := Tv hd 0 15 146; obtain ⟨hcT, hfT, hlT, hmT, hwT, hzT⟩ := bT hT'
    refine o1 r146 fun ρ q146 => ?_; go_simp; (try go_bits);
    exact J.out _ _ _ rfl (by first | (simp; done) | (simp; omega)) hT' (Below.refl _ _)
   refine SeqOps.val ?_ (Sp fun ax wx hS hT' hd K' J => ?_) ?_; rotate_left 1
   ·have r135 := Tv hd 12 4 135; obtain ⟨v147, r147, h147⟩ := Tg hd 0 16 147; obtain rfl := h147; obtain ⟨hcT, hfT, hlT, hmT, hwT, hzT⟩ := bT hT'
    refine o2 r135 r147 fun ρ q135 q147 => ?_; go_simp; (try go_bits);
    exact Jo J hT'
   refine SeqOps.nil ?_
   intro w5 hBl; (repeat refine Ek ?_)
   refine fun ax hEx => ?_
   simp only [lk, pick, Nat.reduceEqDiff, ↓reduceIte] at hEx
   refine late_done [1, 2, 4, 11, 12, 19, 148] hEx hK (fun a hE => ?_); clear hK K Q' hEx; simp only [lk, pick, Nat.reduceEqDiff, ↓reduceIte] at hE
   have c0' := (hBl.cell (p := ⟨b, o, none⟩) hbb).trans c0
   have c1' := (hBl.cell (p := ⟨b, o + 1, none⟩) hbb).trans c1
   have nb5 : b < w5.heap.size := Nat.lt_of_lt_of_le hbb hBl.size
   have hRX5 := hRX4.below hBl hlX4
   have hlX5 := Nat.lt_of_lt_of_le hlX4 hBl.size
   have hCB5 := hCB4.below hBl
   have hA5 := (hA4.below hBl).more hBl.size
   have hb5 := hb4.trans (hBl.mono hb4.size)
   clear c0 c1 nB cB0 hRX4 hlX4 hCB4 hA4 hBl
   have nB := hCB5.1
   have cB0 := hCB5.2 0 _ rfl
   have hwf : w.heap.size ≤ w5.heap.size := hb5.size
   refine Ks ?_
   refine cond_yes hE (t := 148) rfl ?_
   refine Ks ?_
   have HONE : Hid (f = 0 → pNearR ⟨(g0 ++ g1) :: l.drop 2, mu, min 3 (sl + 1)⟩ one other = (n, 0)) := hid fun hf => by
    have hok2 : Ear.ok ⟨g0 :: g1 :: l.drop 2, mu, min 3 (sl + 1)⟩ = true := by rw [← HLE.out]; exact ok_more HOK.out
    refine near_wider (e := ⟨l, mu, sl⟩) (x := ⟨(g0 ++ g1) :: l.drop 2, mu, min 3 (sl + 1)⟩) rfl (by show sl ≤ min 3 (sl + 1); omega) (fun a b h => ?_) (ok_one hok2 h4) (HF.out hf)
    have h' : alikeB l a b = true := h
    rw [HLE.out] at h'
    exact alike_one g0 g1 _ a b h'
   have hdl : (l.drop 2).length = l.length - 2 := by simp
   have HDL := hid hdl
   have hcat : ¬ 9223372036854775807 < g0.size + g1.size := by omega
   by_cases hc2 : cap = 2
   ·have hl2 : l.length = 2 := by omega
    have hd0 : l.drop 2 = [] := List.eq_nil_of_length_eq_zero (by omega)
    have HD0 := hid hd0
    clear hdl hd0
    refine Rd [13, 14, 15] (fun wt => Below w5.heap.size w5 wt) (fun w1 w2 => Below w1.heap.size w1 w2) [(0, some 149), (1, some 150), (2, some 151), (3, some 152), (4, some 153), (5, some 154), (6, some 155), (7, some 156), (8, some 157), (9, some 158), (10, some 159), (11, some 160), (12, some 161)] [149, 150, 151, 152, 153, 154, 155, 156, 157, 158, 159, 160, 161] #[true, true, true, true, true, true, true, true, true, true, true, true, true, false, false, false] [1, 2, 11, 12, 19] hE ((Below.refl _ _).drew) fun Q' K hK => ?_
    refine SeqOps.val ?_ (Sp fun ax wx hS hT' hd K' J => ?_) ?_; rotate_left 1
    ·have r4 := hS.at 4 (by decide) (hE.at 4 rfl); obtain ⟨hcT, hfT, hlT, hmT, hwT, hzT⟩ := bT hT'
     refine o1 r4 fun ρ q4 => ?_; go_simp;
     exact Jo J hT'
    refine SeqOps.val ?_ (Sp fun ax wx hS hT' hd K' J => ?_) ?_; rotate_left 1
    ·have r149 := Tv hd 0 0 149; obtain ⟨hcT, hfT, hlT, hmT, hwT, hzT⟩ := bT hT'
     refine o1 r149 fun ρ q149 => ?_; go_simp;
     exact Jo J hT'
    refine SeqOps.val ?_ (Sp fun ax wx hS hT' hd K' J => ?_) ?_; rotate_left 1
    ·have r150 := Tv hd 0 1 150; obtain ⟨hcT, hfT, hlT, hmT, hwT, hzT⟩ := bT hT'
     refine o1 r150 fun ρ q150 => ?_; go_simp; (try go_bits);
     exact Jo J hT'
    refine SeqOps.val ?_ (Sp fun ax wx hS hT' hd K' J => ?_) ?_; rotate_left 1
    ·have r151 := Tv hd 0 2 151; obtain ⟨hcT, hfT, hlT, hmT, hwT, hzT⟩ := bT hT'
     refine o1 r151 fun ρ q151 => ?_; go_simp;
     exact Jo J hT'
    refine SeqOps.val ?_ (Sp fun ax wx hS hT' hd K' J => ?_) ?_; rotate_left 1
    ·have r4 := hS.at 4 (by decide) (hE.at 4 rfl); obtain ⟨hcT, hfT, hlT, hmT, hwT, hzT⟩ := bT hT'
     refine o1 r4 fun ρ q4 => ?_; go_simp;
     exact Jo J hT'
    refine SeqOps.val ?_ (Sp fun ax wx hS hT' hd K' J => ?_) ?_; rotate_left 1
    ·have r153 := Tv hd 0 4 153; obtain ⟨hcT, hfT, hlT, hmT, hwT, hzT⟩ := bT hT'
     refine o1 r153 fun ρ q153 => ?_; go_simp;
     exact Jo J hT'
    refine SeqOps.val ?_ (Sp fun ax wx hS hT' hd K' J => ?_) ?_; rotate_left 1
    ·have r154 := Tv hd 0 5 154; obtain ⟨hcT, hfT, hlT, hmT, hwT, hzT⟩ := bT hT'
     refine o1 r154 fun ρ q154 => ?_; go_simp; (try go_bits);
     exact Jo J hT'
    refine SeqOps.val ?_ (Sp fun ax wx hS hT' hd K' J => ?_) ?_; rotate_left 1
    ·have r155 := Tv hd 0 6 155; obtain ⟨hcT, hfT, hlT, hmT, hwT, hzT⟩ := bT hT'
     refine o1 r155 fun ρ q155 => ?_; go_simp;
     exact Jo J hT'
    refine SeqOps.val ?_ (Sp fun ax wx hS hT' hd K' J => ?_) ?_; rotate_left 1
    ·have r152 := Tv hd 4 3 152; have r156 := Tv hd 0 7 156; obtain ⟨hcT, hfT, hlT, hmT, hwT, hzT⟩ := bT hT'
     refine o2 r152 r156 fun ρ q152 q156 => ?_; go_simp; (try go_bits); (try simp (disch := omega) only [IntWalk.i64_in]);
     exact Jo J hT'
    refine SeqOps.say (fun v wt => ∃ G, v = .slice (some ⟨G, 0, none⟩) 1 1 ∧ wt.ownsRow w5.heap.size 9 1 (.slice (some ⟨G, 0, none⟩) 1 1) 1 [.string (g0 ++ g1)]) (fun _ _ _ hR ⟨G, e, h⟩ => ⟨G, e, own_below h hR⟩) (Sp fun ax wx hS hT' hd K' J => ?_) ?_
    ·have r157 := Tv hd 0 8 157; obtain ⟨hcT, hfT, hlT, hmT, hwT, hzT⟩ := bT hT'
     refine o1 r157 fun ρ q157 => ?_; go_simp;
     exact J.out _ _ _ rfl ⟨_, rfl, own_first wx _ rfl hT'.size⟩ (hT'.trans (((Below.refl _ _).alloc (Nat.le_refl _) _).mono hT'.size)) ((Below.refl _ _).alloc (Nat.le_refl _) _)
    refine SeqOps.val ?_ (Sp fun ax wx hS hT' hd K' J => ?_) ?_; rotate_left 1
    ·have r4 := hS.at 4 (by decide) (hE.at 4 rfl); obtain ⟨hcT, hfT, hlT, hmT, hwT, hzT⟩ := bT hT'
     refine o1 r4 fun ρ q4 => ?_; go_simp;
     exact Jo J hT'
    refine SeqOps.val ?_ (Sp fun ax wx hS hT' hd K' J => ?_) ?_; rotate_left 1
    ·have r159 := Tv hd 0 10 159; obtain ⟨hcT, hfT, hlT, hmT, hwT, hzT⟩ := bT hT'
     refine o1 r159 fun ρ q159 => ?_; go_simp;
     exact Jo J hT'
    refine SeqOps.val ?_ (Sp fun ax wx hS hT' hd K' J => ?_) ?_; rotate_left 1
    ·have r160 := Tv hd 0 11 160; obtain ⟨hcT, hfT, hlT, hmT, hwT, hzT⟩ := bT hT'
     refine o1 r160 fun ρ q160 => ?_; go_simp; (try go_bits);
     exact Jo J hT'
    refine SeqOps.nil ?_
    intro w6 hBl; (repeat refine Ek ?_); (refine fun v h => ?_; obtain ⟨G, rfl, hG⟩ := h); (repeat refine Ek ?_)
    refine fun ax hEx => ?_
    simp only [lk, pick, Nat.reduceEqDiff, ↓reduceIte] at hEx
    refine Lp fun K' J => ?_
    have r158 := hEx.at 158 rfl; have r161 := hEx.at 161 rfl
    refine wp_appN (.tmp 158) (.tmp 161) 22 rfl w5.heap.size 9 (.string ⟨#[]⟩) 1 16 Try.underlying22 (by kernel_rfl) rfl (by decide) (.slice (some ⟨G, 0, none⟩) 1 1) 1 [.string (g0 ++ g1)] (eval_of r158) hG w6.heap.size _ 0 _ [] (eval_of r161) (Arr.nil _ _ _) rfl (by intro u hu; cases hu) (by simp only [maxLen]; omega) (by omega) (by have := hBl.size; omega) (fun A2 c2 w7 q1 q2 q3 q4 q5 => ?_)
    have hlow : Below w5.heap.size w6 w7 := (Below.refl w5.heap.size w6).grown q4 (by have := hBl.size; omega) (fun k e => ownBlock_le hG k e)
    have hRX7 := row_of_block (row_of_block hRX5 (hBl.block X hlX5)) (hlow.block X hlX5)
    have y0 := (hRX7 0 _ rfl).2
    (try clear r158 r161)
    refine Ln hEx J fun _ Eb => ?_; clear J K' hEx
    refine M1 Eb 19 fun K' J ρ q19 => ?_; go_simp; (try clear q19)
    refine Ln Eb J fun _ Ea => ?_; clear J K' Eb
    refine M2 Ea 163 162 fun K' J ρ q163 q162 => ?_; go_simp; (try clear q163 q162)
    refine late_skip Ea J (fun _ Eb => ?_); clear J K'; clear Ea
    refine late_done [1, 2, 11, 12, 19] Eb hK (fun a hE => ?_); clear hK K Q' Eb; simp only [lk, pick, Nat.reduceEqDiff, ↓reduceIte] at hE
    refine world_cut (fun wt => Below w.heap.size w wt ∧ Cells wt X [.slice A2 (1 + 0) c2, .string mu, .int .i64 (min 3 (sl + 1))] ∧ Arr wt wt.heap.size A2 (txts ((g0 ++ g1) :: l.drop 2))) ⟨?_, ?_, ?_⟩ (fun w8 hC => ?_)
    ·exact (hb5.trans ((hBl.mono hwf).trans (hlow.mono hwf))).setCell hXw _
    ·exact row_cells (hRX7.set (o := 0) (by simp)) (by have := hBl.size; have := hlow.size; simp; omega)
    ·obtain ⟨A3, c3, hv, _, _, ha3⟩ := own_form q3
     rw [Value.slice.injEq] at hv
     obtain ⟨rfl, _, rfl⟩ := hv
     have ha4 : Arr w7 w7.heap.size A2 (txts ((g0 ++ g1) :: l.drop 2)) := by rw [HD0.out]; exact ha3
     obtain ⟨b3, o3, rfl, _, _⟩ := ha4 (by simp [txts])
     have hb3X : w5.heap.size ≤ b3 := ownBlock_le q3 b3 rfl
     have hsz : (w7.setCell ⟨X, 0, none⟩ (.slice (some ⟨b3, o3, none⟩) (1 + 0) c2)).heap.size = w7.heap.size := by simp
     intro hx
     obtain ⟨b4, o4, e, k1, k2⟩ := ha4 hx
     cases e
     refine ⟨b3, o3, rfl, by rw [hsz]; exact k1, fun j u hu => ?_⟩
     rw [World.cell?_setCell_other _ _ _ _ (by intro e; have := congrArg Addr.block e; simp only at this; omega)]
     exact k2 j u hu
    obtain ⟨hb8, hCX8, hA8⟩ := hC
    have hl' : ((g0 ++ g1) :: l.drop 2).length = 1 + 0 := by rw [HD0.out]; rfl
    rw [← hl'] at hCX8
    refine KsE ?_
    exact ears_end mu one other ((g0 ++ g1) :: l.drop 2) A2 c2 (min 3 (sl + 1)) n f X w w8 hb8 hCX8 hA8 (by rw [hl']; exact q1) (by rw [hl']; omega) hmu h1 h2 HONE _ (hE.keep [1, 2, 11, 12, 19])
   ·clear hdl
    refine Rd [13, 14, 15] (fun wt => Below w5.heap.size w5 wt) (fun w1 w2 => Below w1.heap.size w1 w2) [(0, some 149), (1, some 150), (2, some 151), (3, some 152), (4, some 153), (5, some 154), (6, some 155), (7, some 156), (8, some 157), (9, some 158), (10, some 159), (11, some 160), (12, some 161)] [149, 150, 151, 152, 153, 154, 155, 156, 157, 158, 159, 160, 161] #[true, true, true, true, true, true, true, true, true, true, true, true, true, false, false, false] [1, 2, 11, 12, 19] hE ((Below.refl _ _).drew) fun Q' K hK => ?_
    refine SeqOps.val ?_ (Sp fun ax wx hS hT' hd K' J => ?_) ?_; rotate_left 1
    ·have r4 := hS.at 4 (by decide) (hE.at 4 rfl); obtain ⟨hcT, hfT, hlT, hmT, hwT, hzT⟩ := bT hT'
     refine o1 r4 fun ρ q4 => ?_; go_simp;
     exact Jo J hT'
    refine SeqOps.val ?_ (Sp fun ax wx hS hT' hd K' J => ?_) ?_; rotate_left 1
    ·have r149 := Tv hd 0 0 149; obtain ⟨hcT, hfT, hlT, hmT, hwT, hzT⟩ := bT hT'
     refine o1 r149 fun ρ q149 => ?_; go_simp;
     exact Jo J hT'
    refine SeqOps.val ?_ (Sp fun ax wx hS hT' hd K' J => ?_) ?_; rotate_left 1
    ·have r150 := Tv hd 0 1 150; obtain ⟨hcT, hfT, hlT, hmT, hwT, hzT⟩ := bT hT'
     refine o1 r150 fun ρ q150 => ?_; go_simp; (try go_bits);
     exact Jo J hT'
    refine SeqOps.val ?_ (Sp fun ax wx hS hT' hd K' J => ?_) ?_; rotate_left 1
    ·have r151 := Tv hd 0 2 151; obtain ⟨hcT, hfT, hlT, hmT, hwT, hzT⟩ := bT hT'
     refine o1 r151 fun ρ q151 => ?_; go_simp;
     exact Jo J hT'
    refine SeqOps.val ?_ (Sp fun ax wx hS hT' hd K' J => ?_) ?_; rotate_left 1
    ·have r4 := hS.at 4 (by decide) (hE.at 4 rfl); obtain ⟨hcT, hfT, hlT, hmT, hwT, hzT⟩ := bT hT'
     refine o1 r4 fun ρ q4 => ?_; go_simp;
     exact Jo J hT'
    refine SeqOps.val ?_ (Sp fun ax wx hS hT' hd K' J => ?_) ?_; rotate_left 1
    ·have r153 := Tv hd 0 4 153; obtain ⟨hcT, hfT, hlT, hmT, hwT, hzT⟩ := bT hT'
     refine o1 r153 fun ρ q153 => ?_; go_simp;
     exact Jo J hT'
    refine SeqOps.val ?_ (Sp fun ax wx hS hT' hd K' J => ?_) ?_; rotate_left 1
    ·have r154 := Tv hd 0 5 154; obtain ⟨hcT, hfT, hlT, hmT, hwT, hzT⟩ := bT hT'
     refine o1 r154 fun ρ q154 => ?_; go_simp; (try go_bits);
     exact Jo J hT'
    refine SeqOps.val ?_ (Sp fun ax wx hS hT' hd K' J => ?_) ?_; rotate_left 1
    ·have r155 := Tv hd 0 6 155; obtain ⟨hcT, hfT, hlT, hmT, hwT, hzT⟩ := bT hT'
     refine o1 r155 fun ρ q155 => ?_; go_simp;
     exact Jo J hT'
    refine SeqOps.val ?_ (Sp fun ax wx hS hT' hd K' J => ?_) ?_; rotate_left 1
    ·have r152 := Tv hd 4 3 152; have r156 := Tv hd 0 7 156; obtain ⟨hcT, hfT, hlT, hmT, hwT, hzT⟩ := bT hT'
     refine o2 r152 r156 fun ρ q152 q156 => ?_; go_simp; (try go_bits); (try simp (disch := omega) only [IntWalk.i64_in]);
     exact Jo J hT'
    refine SeqOps.say (fun v wt => ∃ G, v = .slice (some ⟨G, 0, none⟩) 1 1 ∧ wt.ownsRow w5.heap.size 9 1 (.slice (some ⟨G, 0, none⟩) 1 1) 1 [.string (g0 ++ g1)]) (fun _ _ _ hR ⟨G, e, h⟩ => ⟨G, e, own_below h hR⟩) (Sp fun ax wx hS hT' hd K' J => ?_) ?_
    ·have r157 := Tv hd 0 8 157; obtain ⟨hcT, hfT, hlT, hmT, hwT, hzT⟩ := bT hT'
     refine o1 r157 fun ρ q157 => ?_; go_simp;
     exact J.out _ _ _ rfl ⟨_, rfl, own_first wx _ rfl hT'.size⟩ (hT'.trans (((Below.refl _ _).alloc (Nat.le_refl _) _).mono hT'.size)) ((Below.refl _ _).alloc (Nat.le_refl _) _)
    refine SeqOps.val ?_ (Sp fun ax wx hS hT' hd K' J => ?_) ?_; rotate_left 1
    ·have r4 := hS.at 4 (by decide) (hE.at 4 rfl); obtain ⟨hcT, hfT, hlT, hmT, hwT, hzT⟩ := bT hT'
     refine o1 r4 fun ρ q4 => ?_; go_simp;
     exact Jo J hT'
    refine SeqOps.val ?_ (Sp fun ax wx hS hT' hd K' J => ?_) ?_; rotate_left 1
    ·have r159 := Tv hd 0 10 159; obtain ⟨hcT, hfT, hlT, hmT, hwT, hzT⟩ := bT hT'
     refine o1 r159 fun ρ q159 => ?_; go_simp;
     exact Jo J hT'
    refine SeqOps.val ?_ (Sp fun ax wx hS hT' hd K' J => ?_) ?_; rotate_left 1
    ·have r160 := Tv hd 0 11 160; obtain ⟨hcT, hfT, hlT, hmT, hwT, hzT⟩ := bT hT'
     refine o1 r160 fun ρ q160 => ?_; go_simp; (try go_bits);
     exact Jo J hT'
    refine SeqOps.nil ?_
    intro w6 hBl; (repeat refine Ek ?_); (refine fun v h => ?_; obtain ⟨G, rfl, hG⟩ := h); (repeat refine Ek ?_)
    refine fun ax hEx => ?_
    simp only [lk, pick, Nat.reduceEqDiff, ↓reduceIte] at hEx
    refine Lp fun K' J => ?_
    have r158 := hEx.at 158 rfl; have r161 := hEx.at 161 rfl
    refine wp_appN (.tmp 158) (.tmp 161) 22 rfl w5.heap.size 9 (.string ⟨#[]⟩) 1 16 Try.underlying22 (by kernel_rfl) rfl (by decide) (.slice (some ⟨G, 0, none⟩) 1 1) 1 [.string (g0 ++ g1)] (eval_of r158) hG w6.heap.size _ (l.length - 2) _ (txts (l.drop 2)) (eval_of r161) (txts_drop l b o _ _ 2 ((hA5.below hBl).more hBl.size)) (by simp [txts]) (by intro u hu; unfold txts at hu; obtain ⟨x, _, rfl⟩ := List.mem_map.1 hu; rfl) (by simp only [maxLen]; omega) (by omega) (by have := hBl.size; omega) (fun A2 c2 w7 q1 q2 q3 q4 q5 => ?_)
    have hlow : Below w5.heap.size w6 w7 := (Below.refl w5.heap.size w6).grown q4 (by have := hBl.size; omega) (fun k e => ownBlock_le hG k e)
    have hRX7 := row_of_block (row_of_block hRX5 (hBl.block X hlX5)) (hlow.block X hlX5)
    have y0 := (hRX7 0 _ rfl).2
    (try clear r158 r161)
    refine Ln hEx J fun _ Eb => ?_; clear J K' hEx
    refine M1 Eb 19 fun K' J ρ q19 => ?_; go_simp; (try clear q19)
    refine Ln Eb J fun _ Ea => ?_; clear J K' Eb
    refine M2 Ea 163 162 fun K' J ρ q163 q162 => ?_; go_simp; (try clear q163 q162)
    refine late_skip Ea J (fun _ Eb => ?_); clear J K'; clear Ea
    refine late_done [1, 2, 11, 12, 19] Eb hK (fun a hE => ?_); clear hK K Q' Eb; simp only [lk, pick, Nat.reduceEqDiff, ↓reduceIte] at hE
    refine world_cut (fun wt => Below w.heap.size w wt ∧ Cells wt X [.slice A2 (1 + (l.length - 2)) c2, .string mu, .int .i64 (min 3 (sl + 1))] ∧ Arr wt wt.heap.size A2 (txts ((g0 ++ g1) :: l.drop 2))) ⟨?_, ?_, ?_⟩ (fun w8 hC => ?_)
    ·exact (hb5.trans ((hBl.mono hwf).trans (hlow.mono hwf))).setCell hXw _
    ·exact row_cells (hRX7.set (o := 0) (by simp)) (by have := hBl.size; have := hlow.size; simp; omega)
    ·obtain ⟨A3, c3, hv, _, _, ha3⟩ := own_form q3
     rw [Value.slice.injEq] at hv
     obtain ⟨rfl, _, rfl⟩ := hv
     have ha4 : Arr w7 w7.heap.size A2 (txts ((g0 ++ g1) :: l.drop 2)) := ha3
     obtain ⟨b3, o3, rfl, _, _⟩ := ha4 (by simp [txts])
     have hb3X : w5.heap.size ≤ b3 := ownBlock_le q3 b3 rfl
     have hsz : (w7.setCell ⟨X, 0, none⟩ (.slice (some ⟨b3, o3, none⟩) (1 + (l.length - 2)) c2)).heap.size = w7.heap.size := by simp
     intro hx
     obtain ⟨b4, o4, e, k1, k2⟩ := ha4 hx
     cases e
     refine ⟨b3, o3, rfl, by rw [hsz]; exact k1, fun j u hu => ?_⟩
     rw [World.cell?_setCell_other _ _ _ _ (by intro e; have := congrArg Addr.block e; simp only at this; omega)]
     exact k2 j u hu
    obtain ⟨hb8, hCX8, hA8⟩ := hC
    have hl' : ((g0 ++ g1) :: l.drop 2).length = 1 + (l.length - 2) := by simp; omega
    rw [← hl'] at hCX8
    refine KsE ?_
    exact ears_end mu one other ((g0 ++ g1) :: l.drop 2) A2 c2 (min 3 (sl + 1)) n f X w w8 hb8 hCX8 hA8 (by rw [hl']; exact q1) (by rw [hl']; omega) hmu h1 h2 HONE _ (hE.keep [1, 2, 11, 12, 19])
  ·have h4I : ¬ (g0.size : Int) + g1.size ≤ 4 := by omega
   refine Rd [] (fun wt => Below w4.heap.size w4 wt) (fun w1 w2 => Below w1.heap.size w1 w2) [(0, some 131), (1, some 132), (2, some 133), (3, some 134), (4, some 135), (5, some 136), (6, some 137), (7, some 138), (8, some 139), (9, some 140), (10, some 141), (11, some 142), (12, some 143), (13, some 144), (14, some 145), (15, some 146), (16, some 147), (17, some 148)] [131, 132, 133, 134, 135, 136, 137, 138, 139, 140, 141, 142, 143, 144, 145, 146, 147, 148] #[true, true, true, true, true, true, true, true, true, true, true, true, true, true, true, true, true, true] [1, 2, 4, 11, 12, 19] hE ((Below.refl _ _).drew) fun Q' K hK => ?_
   refine SeqOps.val ?_ (Sp fun ax wx hS hT' hd K' J => ?_) ?_; rotate_left 1
   ·have r4 := hS.at 4 (by decide) (hE.at 4 rfl); obtain ⟨hcT, hfT, hlT, hmT, hwT, hzT⟩ := bT hT'
    refine o1 r4 fun ρ q4 => ?_; go_simp;
    exact Jo J hT'
   refine SeqOps.val ?_ (Sp fun ax wx hS hT' hd K' J => ?_) ?_; rotate_left 1
   ·have r131 := Tv hd 0 0 131; obtain ⟨hcT, hfT, hlT, hmT, hwT, hzT⟩ := bT hT'
    refine o1 r131 fun ρ q131 => ?_; go_simp;
    exact Jo J hT'
   refine SeqOps.val ?_ (Sp fun ax wx hS hT' hd K' J => ?_) ?_; rotate_left 1
   ·have r132 := Tv hd 0 1 132; obtain ⟨hcT, hfT, hlT, hmT, hwT, hzT⟩ := bT hT'
    refine o1 r132 fun ρ q132 => ?_; go_simp; (try go_bits);
    exact Jo J hT'
   refine SeqOps.say (fun v _ => v = .bool true) (fun _ _ _ _ h => h) (Sp fun ax wx hS hT' hd K' J => ?_) ?_
   ·have r133 := Tv hd 0 2 133; obtain ⟨hcT, hfT, hlT, hmT, hwT, hzT⟩ := bT hT'
    refine o1 r133 fun ρ q133 => ?_; go_simp; (try go_bits);
    exact J.out _ _ _ rfl (by first | (simp; done) | (simp; omega)) hT' (Below.refl _ _)
   refine SeqOps.val ?_ (Sp fun ax wx hS hT' hd K' J => ?_) ?_; rotate_left 1
   ·obtain ⟨v134, r134, h134⟩ := Tg hd 0 3 134; obtain rfl := h134; obtain ⟨hcT, hfT, hlT, hmT, hwT, hzT⟩ := bT hT'
    refine o1 r134 fun ρ q134 => ?_; go_simp;
    exact Jo J hT'
   refine SeqOps.val ?_ (Sy 0 135 fun ax wx hS hT' hd K' J => ?_) ?_; rotate_left 1
   ·have r4 := hS.at 4 (by decide) (hE.at 4 rfl); obtain ⟨hcT, hfT, hlT, hmT, hwT, hzT⟩ := bT hT'
    refine o1 r4 fun ρ q4 => ?_; go_simp;
    exact Jo J hT'
   refine SeqOps.val ?_ (Sy 1 135 fun ax wx hS hT' hd K' J => ?_) ?_; rotate_left 1
   ·have r136 := Tv hd 0 5 136; obtain ⟨hcT, hfT, hlT, hmT, hwT, hzT⟩ := bT hT'
    refine o1 r136 fun ρ q136 => ?_; go_simp;
    exact Jo J hT'
   refine SeqOps.val ?_ (Sy 2 135 fun ax wx hS hT' hd K' J => ?_) ?_; rotate_left 1
   ·have r137 := Tv hd 0 6 137; obtain ⟨hcT, hfT, hlT, hmT, hwT, hzT⟩ := bT hT'
    refine o1 r137 fun ρ q137 => ?_; go_simp; (try go_bits);
    exact Jo J hT'
   refine SeqOps.val ?_ (Sy 3 135 fun ax wx hS hT' hd K' J => ?_) ?_; rotate_left 1
   ·have r138 := Tv hd 0 7 138; obtain ⟨hcT, hfT, hlT, hmT, hwT, hzT⟩ := bT hT'
    refine o1 r138 fun ρ q138 => ?_; go_simp;
    exact Jo J hT'
   refine SeqOps.val ?_ (Sy 4 135 fun ax wx hS hT' hd K' J => ?_) ?_; rotate_left 1
   ·have r139 := Tv hd 0 8 139; obtain ⟨hcT, hfT, hlT, hmT, hwT, hzT⟩ := bT hT'
    refine o1 r139 fun ρ q139 => ?_; go_simp; (try go_bits);
    exact Jo J hT'
   refine SeqOps.val ?_ (Sy 5 135 fun ax wx hS hT' hd K' J => ?_) ?_; rotate_left 1
   ·have r4 := hS.at 4 (by decide) (hE.at 4 rfl); obtain ⟨hcT, hfT, hlT, hmT, hwT, hzT⟩ := bT hT'
    refine o1 r4 fun ρ q4 => ?_; go_simp;
    exact Jo J hT'
   refine SeqOps.val ?_ (Sy 6 135 fun ax wx hS hT' hd K' J => ?_) ?_; rotate_left 1
   ·have r141 := Tv hd 0 10 141; obtain ⟨hcT, hfT, hlT, hmT, hwT, hzT⟩ := bT hT'
    refine o1 r141 fun ρ q141 => ?_; go_simp;
    exact Jo J hT'
   refine SeqOps.val ?_ (Sy 7 135 fun ax wx hS hT' hd K' J => ?_) ?_; rotate_left 1
   ·have r142 := Tv hd 0 11 142; obtain ⟨hcT, hfT, hlT, hmT, hwT, hzT⟩ := bT hT'
    refine o1 r142 fun ρ q142 => ?_; go_simp; (try go_bits);
    exact Jo J hT'
   refine SeqOps.val ?_ (Sy 8 135 fun ax wx hS hT' hd K' J => ?_) ?_; rotate_left 1
   ·have r143 := Tv hd 0 12 143; obtain ⟨hcT, hfT, hlT, hmT, hwT, hzT⟩ := bT hT'
    refine o1 r143 fun ρ q143 => ?_; go_simp;
    exact Jo J hT'
   refine SeqOps.val ?_ (Sy 9 135 fun ax wx hS hT' hd K' J => ?_) ?_; rotate_left 1
   ·have r144 := Tv hd 0 13 144; obtain ⟨hcT, hfT, hlT, hmT, hwT, hzT⟩ := bT hT'
    refine o1 r144 fun ρ q144 => ?_; go_simp; (try go_bits);
    exact Jo J hT'
   refine SeqOps.val ?_ (Sy 10 135 fun ax wx hS hT' hd K' J => ?_) ?_; rotate_left 1
   ·have r140 := Tv hd 5 9 140; have r145 := Tv hd 0 14 145; obtain ⟨hcT, hfT, hlT, hmT, hwT, hzT⟩ := bT hT'
    refine o2 r140 r145 fun ρ q140 q145 => ?_; go_simp; (try go_bits); (try simp (disch := omega) only [IntWalk.i64_in]);
    exact Jo J hT'
   refine SeqOps.say (fun v _ => v = .bool false) (fun _ _ _ _ h => h) (Sy 11 135 fun ax wx hS hT' hd K' J => ?_) ?_
   ·have r146 := Tv hd 0 15 146; obtain ⟨hcT, hfT, hlT, hmT, hwT, hzT⟩ := bT hT'
    refine o1 r146 fun ρ q146 => ?_; go_simp; (try go_bits);
    exact J.out _ _ _ rfl (by first | (simp; done) | (simp; omega)) hT' (Below.refl _ _)
   refine SeqOps.val ?_ (Sp fun ax wx hS hT' hd K' J => ?_) ?_; rotate_left 1
   ·have r135 := Tv hd 12 4 135; obtain ⟨v147, r147, h147⟩ := Tg hd 0 16 147; obtain rfl := h147; obtain ⟨hcT, hfT, hlT, hmT, hwT, hzT⟩ := bT hT'
    refine o2 r135 r147 fun ρ q135 q147 => ?_; go_simp; (try go_bits);
    exact Jo J hT'
   refine SeqOps.nil ?_
   intro w5 hBl; (repeat refine Ek ?_)
   refine fun ax hEx => ?_
   simp only [lk, pick, Nat.reduceEqDiff, ↓reduceIte] at hEx
   refine late_done [1, 2, 4, 11, 12, 19, 148] hEx hK (fun a hE => ?_); clear hK K Q' hEx; simp only [lk, pick, Nat.reduceEqDiff, ↓reduceIte] at hE
   refine Ks ?_
   refine cond_no hE (t := 148) rfl ?_
   refine wp_skip ?_
   refine KsE ?_
   exact ears_end mu one other l _ cap (min 3 (sl + 1)) n f X w w5 (hb4.trans (hBl.mono hb4.size)) (row_cells (hRX4.below hBl hlX4) (Nat.lt_of_lt_of_le hlX4 hBl.size)) ((hA4.below hBl).more hBl.size) hcap (by omega) hmu h1 h2 HMORE _ (hE.keep [1, 2, 11, 12, 19])
 ·have hlenI : ¬ (1 : Int) < l.length := by omega
  refine Rd [] (fun wt => Below w4.heap.size w4 wt) (fun w1 w2 => Below w1.heap.size w1 w2) [(0, some 131), (1, some 132), (2, some 133), (3, some 134), (4, some 135), (5, some 136), (6, some 137), (7, some 138), (8, some 139), (9, some 140), (10, some 141), (11, some 142), (12, some 143), (13, some 144), (14, some 145), (15, some 146), (16, some 147), (17, some 148)] [131, 132, 133, 134, 135, 136, 137, 138, 139, 140, 141, 142, 143, 144, 145, 146, 147, 148] #[true, true, true, true, true, true, true, true, true, true, true, true, true, true, true, true, true, true] [1, 2, 4, 11, 12, 19] hE ((Below.refl _ _).drew) fun Q' K hK => ?_
  refine SeqOps.val ?_ (Sp fun ax wx hS hT' hd K' J => ?_) ?_; rotate_left 1
  ·have r4 := hS.at 4 (by decide) (hE.at 4 rfl); obtain ⟨hcT, hfT, hlT, hmT, hwT, hzT⟩ := bT hT'
   refine o1 r4 fun ρ q4 => ?_; go_simp;
   exact Jo J hT'
  refine SeqOps.val ?_ (Sp fun ax wx hS hT' hd K' J => ?_) ?_; rotate_left 1
  ·have r131 := Tv hd 0 0 131; obtain ⟨hcT, hfT, hlT, hmT, hwT, hzT⟩ := bT hT'
   refine o1 r131 fun ρ q131 => ?_; go_simp;
   exact Jo J hT'
  refine SeqOps.val ?_ (Sp fun ax wx hS hT' hd K' J => ?_) ?_; rotate_left 1
  ·have r132 := Tv hd 0 1 132; obtain ⟨hcT, hfT, hlT, hmT, hwT, hzT⟩ := bT hT'
   refine o1 r132 fun ρ q132 => ?_; go_simp; (try go_bits);
   exact Jo J hT'
  refine SeqOps.say (fun v _ => v = .bool false) (fun _ _ _ _ h => h) (Sp fun ax wx hS hT' hd K' J => ?_) ?_
  ·have r133 := Tv hd 0 2 133; obtain ⟨hcT, hfT, hlT, hmT, hwT, hzT⟩ := bT hT'
   refine o1 r133 fun ρ q133 => ?_; go_simp; (try go_bits);
   exact J.out _ _ _ rfl (by first | (simp; done) | (simp; omega)) hT' (Below.refl _ _)
  refine SeqOps.val ?_ (Sp fun ax wx hS hT' hd K' J => ?_) ?_; rotate_left 1
  ·obtain ⟨v134, r134, h134⟩ := Tg hd 0 3 134; obtain rfl := h134; obtain ⟨hcT, hfT, hlT, hmT, hwT, hzT⟩ := bT hT'
   refine o1 r134 fun ρ q134 => ?_; go_simp;
   exact Jo J hT'
  refine SeqOps.val _ (StepOk.no (by (first | (simp only [List.getElem?_toArray, List.getElem?_cons_succ, List.getElem?_cons_zero]; rfl) | rfl)) rfl (e := 135) 0 rfl rfl (by kernel_rfl) (by kernel_rfl) (fun w => Below.refl _ _)) ?_
  refine SeqOps.val _ (StepOk.no (by (first | (simp only [List.getElem?_toArray, List.getElem?_cons_succ, List.getElem?_cons_zero]; rfl) | rfl)) rfl (e := 135) 1 rfl rfl (by kernel_rfl) (by kernel_rfl) (fun w => Below.refl _ _)) ?_
  refine SeqOps.val _ (StepOk.no (by (first | (simp only [List.getElem?_toArray, List.getElem?_cons_succ, List.getElem?_cons_zero]; rfl) | rfl)) rfl (e := 135) 2 rfl rfl (by kernel_rfl) (by kernel_rfl) (fun w => Below.refl _ _)) ?_
  refine SeqOps.val _ (StepOk.no (by (first | (simp only [List.getElem?_toArray, List.getElem?_cons_succ, List.getElem?_cons_zero]; rfl) | rfl)) rfl (e := 135) 3 rfl rfl (by kernel_rfl) (by kernel_rfl) (fun w => Below.refl _ _)) ?_
  refine SeqOps.val _ (StepOk.no (by (first | (simp only [List.getElem?_toArray, List.getElem?_cons_succ, List.getElem?_cons_zero]; rfl) | rfl)) rfl (e := 135) 4 rfl rfl (by kernel_rfl) (by kernel_rfl) (fun w => Below.refl _ _)) ?_
  refine SeqOps.val _ (StepOk.no (by (first | (simp only [List.getElem?_toArray, List.getElem?_cons_succ, List.getElem?_cons_zero]; rfl) | rfl)) rfl (e := 135) 5 rfl rfl (by kernel_rfl) (by kernel_rfl) (fun w => Below.refl _ _)) ?_
  refine SeqOps.val _ (StepOk.no (by (first | (simp only [List.getElem?_toArray, List.getElem?_cons_succ, List.getElem?_cons_zero]; rfl) | rfl)) rfl (e := 135) 6 rfl rfl (by kernel_rfl) (by kernel_rfl) (fun w => Below.refl _ _)) ?_
  refine SeqOps.val _ (StepOk.no (by (first | (simp only [List.getElem?_toArray, List.getElem?_cons_succ, List.getElem?_cons_zero]; rfl) | rfl)) rfl (e := 135) 7 rfl rfl (by kernel_rfl) (by kernel_rfl) (fun w => Below.refl _ _)) ?_
  refine SeqOps.val _ (StepOk.no (by (first | (simp only [List.getElem?_toArray, List.getElem?_cons_succ, List.getElem?_cons_zero]; rfl) | rfl)) rfl (e := 135) 8 rfl rfl (by kernel_rfl) (by kernel_rfl) (fun w => Below.refl _ _)) ?_
  refine SeqOps.val _ (StepOk.no (by (first | (simp only [List.getElem?_toArray, List.getElem?_cons_succ, List.getElem?_cons_zero]; rfl) | rfl)) rfl (e := 135) 9 rfl rfl (by kernel_rfl) (by kernel_rfl) (fun w => Below.refl _ _)) ?_
  refine SeqOps.val _ (StepOk.no (by (first | (simp only [List.getElem?_toArray, List.getElem?_cons_succ, List.getElem?_cons_zero]; rfl) | rfl)) rfl (e := 135) 10 rfl rfl (by kernel_rfl) (by kernel_rfl) (fun w => Below.refl _ _)) ?_
  refine SeqOps.val _ (StepOk.no (by (first | (simp only [List.getElem?_toArray, List.getElem?_cons_succ, List.getElem?_cons_zero]; rfl) | rfl)) rfl (e := 135) 11 rfl rfl (by kernel_rfl) (by kernel_rfl) (fun w => Below.refl _ _)) ?_
  refine SeqOps.val ?_ (Sp fun ax wx hS hT' hd K' J => ?_) ?_; rotate_left 1
  ·have r135 := Tv hd 12 4 135; have r147 := Tv hd 0 16 147; obtain ⟨hcT, hfT, hlT, hmT, hwT, hzT⟩ := bT hT'
   refine o2 r135 r147 fun ρ q135 q147 => ?_; go_simp; (try go_bits);
   exact Jo J hT'
  refine SeqOps.nil ?_
  intro w5 hBl; (repeat refine Ek ?_)
  refine fun ax hEx => ?_
  simp only [lk, pick, Nat.reduceEqDiff, ↓reduceIte] at hEx
  refine late_done [1, 2, 4, 11, 12, 19, 148] hEx hK (fun a hE => ?_); clear hK K Q' hEx; simp only [lk, pick, Nat.reduceEqDiff, ↓reduceIte] at hE
  refine Ks ?_
  refine cond_no hE (t := 148) rfl ?_
  refine wp_skip ?_
  refine KsE ?_
  exact ears_end mu one other l _ cap (min 3 (sl + 1)) n f X w w5 (hb4.trans (hBl.mono hb4.size)) (row_cells (hRX4.below hBl hlX4) (Nat.lt_of_lt_of_le hlX4 hBl.size)) ((hA4.below hBl).more hBl.size) hcap (by omega) hmu h1 h2 HMORE _ (hE.keep [1, 2, 11, 12, 19])
set_option maxRecDepth 100000 in
set_option maxHeartbeats 4000000 in
theorem ears_good (hok : Ear.ok ⟨l, mu, sl⟩ = true) (hn1 : nameB one.data.toList = true) (hn2 : nameB other.data.toList = true) (T : Option Addr) (tc : Nat) (ns : List Int) (w : World) (hA : Arr w w.heap.size A (txts l)) (hcap : l.length ≤ cap) (hl : l.length ≤ 9223372036854775807) (hmu : mu.size ≤ 9223372036854775807) (h1 : one.size ≤ 9223372036854775807) (h2 : other.size ≤ 9223372036854775807) (hT : Arr w w.heap.size T (ints ns)) (hns : ns.length ≤ 9223372036854775807) : Calls Try.prog 5 #[.agg #[.slice A l.length cap, .string mu, .int .i64 sl], .string one, .string other, .slice T ns.length tc] w fun e w' => e = .returned (.bool true) ∧ Below w.heap.size w w' := by
 obtain ⟨p1, p2, p3, p4, p5⟩ := ear_lens hok
 have p6 := name_short hn1
 have C1 : Hid (∀ W, Arr W W.heap.size A (txts l) → Calls Try.prog 26 #[.agg #[.slice A l.length cap, .string mu, .int .i64 sl]] W fun e w' => e = .returned (.bool true) ∧ Below W.heap.size W w') := hid fun W hW => by
  have h := lheard_any A cap l mu sl W hW hcap hl hmu
  rw [hok] at h
  exact h
 have C2 := hid fun W => rNames_any one W h1
 have C3 := hid fun W => rNames_any other W h2
 rw [hn1] at C2
 rw [hn2] at C3
 obtain ⟨n, f, hPe, hf⟩ : ∃ n f : Int, pNearR ⟨l, mu, sl⟩ one other = (n, f) ∧ (f = 0 ∨ (f = 4 ∧ n = 0)) := by
  rw [near_ok hok hn1 hn2]
  split
  ·exact ⟨_, _, rfl, .inl rfl⟩
  ·exact ⟨_, _, rfl, .inr ⟨rfl, rfl⟩⟩
 have near : ∀ (s t : ByteArray) (x y : Int), s.size ≤ 9223372036854775807 → t.size ≤ 9223372036854775807 → pNearR ⟨l, mu, sl⟩ s t = (x, y) → ∀ W, Arr W W.heap.size A (txts l) → Calls Try.prog 11 #[.agg #[.slice A l.length cap, .string mu, .int .i64 sl], .string s, .string t] W fun e w' => e = .returned (.tuple #[.int .i64 x, .int .i64 y]) ∧ Below W.heap.size W w' := fun s t x y hs ht hp W hW => by
  have h := pNear_any A cap l mu sl s t W hW hcap hl hmu hs ht
  rw [hp] at h
  exact h
 have C4 := hid (near one other n f h1 h2 hPe)
 have C5 := hid (near other one n f h2 h1 (by rw [near_comm]; exact hPe))
 have C6 := hid (near one one 0 0 h1 h1 (near_self hok hn1))
 have C7 : Hid (∀ W, Arr W W.heap.size A (txts l) → Arr W W.heap.size T (ints ns) → Calls Try.prog 28 #[.agg #[.slice A l.length cap, .string mu, .int .i64 sl], .string one, .slice T ns.length tc] W fun e w' => (∃ o : ByteArray, e = .returned (.string o) ∧ o.size ≤ 12 ∧ nameB o.data.toList = true ∧ (apR l sl (keptL mu one.data.toList) (keptL mu o.data.toList)).2 = true) ∧ Below W.heap.size W w') := hid fun W hW hTW => misheard_any A cap l mu sl one T tc ns W hW p1 p2 p3 ⟨p4, p5⟩ hTW hns hn1 p6
 have C8 : Hid (∀ o : ByteArray, o.size ≤ 12 → nameB o.data.toList = true → (apR l sl (keptL mu one.data.toList) (keptL mu o.data.toList)).2 = true → ∃ k : Int, (0 ≤ k ∧ k ≤ sl) ∧ ∀ W, Arr W W.heap.size A (txts l) → Calls Try.prog 11 #[.agg #[.slice A l.length cap, .string mu, .int .i64 sl], .string one, .string o] W fun e w' => e = .returned (.tuple #[.int .i64 k, .int .i64 0]) ∧ Below W.heap.size W w') := hid fun o h12 hno hap => by
  have hp : pNearR ⟨l, mu, sl⟩ one o = ((apR l sl (keptL mu one.data.toList) (keptL mu o.data.toList)).1, 0) := by
   rw [near_ok hok hn1 hno]
   exact if_pos hap
  exact ⟨_, ap_range l p4 _ _, near one o _ _ h1 (by omega) hp⟩
 have HPE := hid hPe
 have HOK := hid hok
 have HF := hid hf
 clear near hPe hok hf hn1 hn2 p1 p2 p3
 refine enterE Try.func5 rfl Try.ntmps5 (by simp) (fun a hE => ?_); simp only [envOf, Nat.zero_add, Nat.reduceAdd] at hE
 refine Ks ?_
 refine Rs 2 fun Q' K hK => ?_
 refine M1 hE 0 fun K' J ρ q0 => ?_; go_simp; (try clear q0)
 refine Ln hE J fun _ Eb => ?_; clear J K' hE a
 refine M0 fun K' J ρ => ?_; go_simp;
 refine Ln Eb J fun _ Ea => ?_; clear J K' Eb
 refine late_done [1, 2, 3, 4] Ea hK (fun a hE => ?_); clear hK K Q' Ea; simp only [lk, pick, Nat.reduceEqDiff, ↓reduceIte] at hE
 obtain ⟨B, hBe⟩ : ∃ B, B = w.heap.size := ⟨_, rfl⟩; rw [← hBe] at hE; refine world_cut (fun wt => Below w.heap.size w wt ∧ Cells wt B [.slice A l.length cap, .string mu, .int .i64 sl]) ⟨(Below.refl _ _).alloc (Nat.le_refl _) _, by rw [hBe]; exact cells_new _ _ _⟩ (fun w1 hCut => ?_); obtain ⟨hbw1, hCB⟩ := hCut; clear hBe
 have hb1 := hbw1
 have hA1 := (hA.below hbw1).more hbw1.size
 clear hbw1
 have nB := hCB.1; have cB0 := hCB.2 0 _ rfl; have cB1 := hCB.2 1 _ rfl; have cB2 := hCB.2 2 _ rfl
 refine Ks ?_
 refine Rs 13 fun Q' K hK => ?_
 refine M1 hE 4 fun K' J ρ q4 => ?_; go_simp; (try clear q4)
 refine Ln hE J fun _ Eb => ?_; clear J K' hE a
 refine M1 Eb 22 fun K' J ρ q22 => ?_; go_simp; (try go_bits); (try clear q22)
 go_at_call 26; refine (C1.out _ hA1).mono ?_; rintro e w2 ⟨rfl, g2⟩
 (try clear r22)
 refine Ln Eb J fun _ Ea => ?_; clear J K' Eb
 refine M1 Ea 23 fun K' J ρ q23 => ?_; go_simp; (try go_bits); (try simp (disch := omega) only [IntWalk.i64_in]); (try clear q23)
 refine Ln Ea J fun _ Eb => ?_; clear J K' Ea
 replace Eb := Eb.turn 24 (v' := .bool false) rfl (by (first | rfl | simp))
 refine M1 Eb 24 fun K' J ρ q24 => ?_; go_simp; (try clear q24)
 refine Ln Eb J fun _ Ea => ?_; clear J K' Eb
 refine N1 Ea 25 1 fun K' J ρ q1 => ?_; go_simp; (try clear q1)
 refine Ln Ea J fun _ Eb => ?_; clear J K' Ea
 refine N1 Eb 25 26 fun K' J ρ q26 => ?_; go_simp; (try go_bits); (try clear q26)
 go_at_call 27; refine (C2.out _).mono ?_; rintro e g1 ⟨rfl, rfl⟩
 (try clear r26)
 refine Ln Eb J fun _ Ea => ?_; clear J K' Eb
 refine N1 Ea 25 27 fun K' J ρ q27 => ?_; go_simp; (try go_bits); (try simp (disch := omega) only [IntWalk.i64_in]); (try clear q27)
 refine Ln Ea J fun _ Eb => ?_; clear J K' Ea
 replace Eb := Eb.turn 28 (v' := .bool false) rfl (by (first | rfl | simp))
 refine M2 Eb 25 28 fun K' J ρ q25 q28 => ?_; go_simp; (try go_bits); (try clear q25 q28)
 refine Ln Eb J fun _ Ea => ?_; clear J K' Eb
 refine M1 Ea 29 fun K' J ρ q29 => ?_; go_simp; (try clear q29)
 refine Ln Ea J fun _ Eb => ?_; clear J K' Ea
 refine N1 Eb 30 2 fun K' J ρ q2 => ?_; go_simp; (try clear q2)
 refine Ln Eb J fun _ Ea => ?_; clear J K' Eb
 refine N1 Ea 30 31 fun K' J ρ q31 => ?_; go_simp; (try go_bits); (try clear q31)
 go_at_call 27; refine (C3.out _).mono ?_; rintro e g1 ⟨rfl, rfl⟩
 (try clear r31)
 refine Ln Ea J fun _ Eb => ?_; clear J K' Ea
 refine N1 Eb 30 32 fun K' J ρ q32 => ?_; go_simp; (try go_bits); (try simp (disch := omega) only [IntWalk.i64_in]); (try clear q32)
 refine Ln Eb J fun _ Ea => ?_; clear J K' Eb
 replace Ea := Ea.turn 33 (v' := .bool false) rfl (by (first | rfl | simp))
 refine M2 Ea 30 33 fun K' J ρ q30 q33 => ?_; go_simp; (try go_bits); (try clear q30 q33)
 refine Ln Ea J fun _ Eb => ?_; clear J K' Ea
 refine late_done [1, 2, 3, 4, 34] Eb hK (fun a hE => ?_); clear hK K Q' Eb; simp only [lk, pick, Nat.reduceEqDiff, ↓reduceIte] at hE
 have hb2 := hb1.trans (g2.mono hb1.size)
 replace hA1 := (hA1.below g2).more g2.size
 have hA2 := hA1
 replace hCB := hCB.below g2
 clear nB cB0 cB1 cB2 g2 hA1
 have nB := hCB.1; have cB0 := hCB.2 0 _ rfl; have cB1 := hCB.2 1 _ rfl; have cB2 := hCB.2 2 _ rfl
 refine Ks ?_
 refine cond_no hE (t := 34) rfl ?_
 refine Ks ?_
 refine Rs 9 fun Q' K hK => ?_
 refine M1 hE 4 fun K' J ρ q4 => ?_; go_simp; (try clear q4)
 refine Ln hE J fun _ Eb => ?_; clear J K' hE a
 refine M1 Eb 1 fun K' J ρ q1 => ?_; go_simp; (try clear q1)
 refine Ln Eb J fun _ Ea => ?_; clear J K' Eb
 refine M1 Ea 2 fun K' J ρ q2 => ?_; go_simp; (try clear q2)
 refine Ln Ea J fun _ Eb => ?_; clear J K' Ea
 refine M3 Eb 56 57 58 fun K' J ρ q56 q57 q58 => ?_; go_simp; (try go_bits); (try clear q56 q57 q58)
 go_at_call 11; refine (C4.out _ hA2).mono ?_; rintro e w3 ⟨rfl, g3⟩
 (try clear r56 r57 r58)
 refine Ln Eb J fun _ Ea => ?_; clear J K' Eb
 refine M1 Ea 59 fun K' J ρ q59 => ?_; go_simp; (try clear q59)
 refine Ln Ea J fun _ Eb => ?_; clear J K' Ea
 refine M1 Eb 55 fun K' J ρ q55 => ?_; go_simp; (try clear q55)
 refine Ln Eb J fun _ Ea => ?_; clear J K' Eb
 refine M1 Ea 55 fun K' J ρ q55 => ?_; go_simp; (try clear q55)
 refine Ln Ea J fun _ Eb => ?_; clear J K' Ea
 refine M1 Eb 60 fun K' J ρ q60 => ?_; go_simp; (try clear q60)
 refine Ln Eb J fun _ Ea => ?_; clear J K' Eb
 refine M1 Ea 61 fun K' J ρ q61 => ?_; go_simp; (try clear q61)
 refine Ln Ea J fun _ Eb => ?_; clear J K' Ea
 refine late_done [1, 2, 3, 4, 11, 12] Eb hK (fun a hE => ?_); clear hK K Q' Eb; simp only [lk, pick, Nat.reduceEqDiff, ↓reduceIte] at hE
 have hb3 := hb2.trans (g3.mono hb2.size)
 replace hA2 := (hA2.below g3).more g3.size
 have hA3 := hA2
 replace hCB := hCB.below g3
 clear nB cB0 cB1 cB2 g3 hA2
 have nB := hCB.1; have cB0 := hCB.2 0 _ rfl; have cB1 := hCB.2 1 _ rfl; have cB2 := hCB.2 2 _ rfl
 refine Ks ?_
 refine Rs 9 fun Q' K hK => ?_
 refine M1 hE 4 fun K' J ρ q4 => ?_; go_simp; (try clear q4)
 refine Ln hE J fun _ Eb => ?_; clear J K' hE a
 refine M1 Eb 2 fun K' J ρ q2 => ?_; go_simp; (try clear q2)
 refine Ln Eb J fun _ Ea => ?_; clear J K' Eb
 refine M1 Ea 1 fun K' J ρ q1 => ?_; go_simp; (try clear q1)
 refine Ln Ea J fun _ Eb => ?_; clear J K' Ea
 refine M3 Eb 63 64 65 fun K' J ρ q63 q64 q65 => ?_; go_simp; (try go_bits); (try clear q63 q64 q65)
 go_at_call 11; refine (C5.out _ hA3).mono ?_; rintro e w4 ⟨rfl, g4⟩
 (try clear r63 r64 r65)
 refine Ln Eb J fun _ Ea => ?_; clear J K' Eb
 refine M1 Ea 66 fun K' J ρ q66 => ?_; go_simp; (try clear q66)
 refine Ln Ea J fun _ Eb => ?_; clear J K' Ea
 refine M1 Eb 62 fun K' J ρ q62 => ?_; go_simp; (try clear q62)
 refine Ln Eb J fun _ Ea => ?_; clear J K' Eb
 refine M1 Ea 62 fun K' J ρ q62 => ?_; go_simp; (try clear q62)
 refine Ln Ea J fun _ Eb => ?_; clear J K' Ea
 refine M1 Eb 67 fun K' J ρ q67 => ?_; go_simp; (try clear q67)
 refine Ln Eb J fun _ Ea => ?_; clear J K' Eb
 refine M1 Ea 68 fun K' J ρ q68 => ?_; go_simp; (try clear q68)
 refine Ln Ea J fun _ Eb => ?_; clear J K' Ea
 refine late_done [1, 2, 3, 4, 11, 12, 13, 14] Eb hK (fun a hE => ?_); clear hK K Q' Eb; simp only [lk, pick, Nat.reduceEqDiff, ↓reduceIte] at hE
 have hb4 := hb3.trans (g4.mono hb3.size)
 replace hA3 := (hA3.below g4).more g4.size
 have hA4 := hA3
 replace hCB := hCB.below g4
 clear nB cB0 cB1 cB2 g4 hA3
 have nB := hCB.1; have cB0 := hCB.2 0 _ rfl; have cB1 := hCB.2 1 _ rfl; have cB2 := hCB.2 2 _ rfl
 refine Ks ?_
 refine Rs 9 fun Q' K hK => ?_
 refine M1 hE 4 fun K' J ρ q4 => ?_; go_simp; (try clear q4)
 refine Ln hE J fun _ Eb => ?_; clear J K' hE a
 refine M1 Eb 1 fun K' J ρ q1 => ?_; go_simp; (try clear q1)
 refine Ln Eb J fun _ Ea => ?_; clear J K' Eb
 refine M1 Ea 1 fun K' J ρ q1 => ?_; go_simp; (try clear q1)
 refine Ln Ea J fun _ Eb => ?_; clear J K' Ea
 refine M3 Eb 70 71 72 fun K' J ρ q70 q71 q72 => ?_; go_simp; (try go_bits); (try clear q70 q71 q72)
 go_at_call 11; refine (C6.out _ hA4).mono ?_; rintro e w5 ⟨rfl, g5⟩
 (try clear r70 r71 r72)
 refine Ln Eb J fun _ Ea => ?_; clear J K' Eb
 refine M1 Ea 73 fun K' J ρ q73 => ?_; go_simp; (try clear q73)
 refine Ln Ea J fun _ Eb => ?_; clear J K' Ea
 refine M1 Eb 69 fun K' J ρ q69 => ?_; go_simp; (try clear q69)
 refine Ln Eb J fun _ Ea => ?_; clear J K' Eb
 refine M1 Ea 69 fun K' J ρ q69 => ?_; go_simp; (try clear q69)
 refine Ln Ea J fun _ Eb => ?_; clear J K' Ea
 refine M1 Eb 74 fun K' J ρ q74 => ?_; go_simp; (try clear q74)
 refine Ln Eb J fun _ Ea => ?_; clear J K' Eb
 refine M1 Ea 75 fun K' J ρ q75 => ?_; go_simp; (try clear q75)
 refine Ln Ea J fun _ Eb => ?_; clear J K' Ea
 refine late_done [1, 2, 3, 4, 11, 12, 13, 14, 15, 16] Eb hK (fun a hE => ?_); clear hK K Q' Eb; simp only [lk, pick, Nat.reduceEqDiff, ↓reduceIte] at hE
 have hb5 := hb4.trans (g5.mono hb4.size)
 replace hA4 := (hA4.below g5).more g5.size
 have hA5 := hA4
 replace hCB := hCB.below g5
 clear nB cB0 cB1 cB2 g5 hA4
 have nB := hCB.1; have cB0 := hCB.2 0 _ rfl; have cB1 := hCB.2 1 _ rfl; have cB2 := hCB.2 2 _ rfl
 refine Ks ?_
 have hT5 := (hT.below hb5).more hb5.size
 refine Rd [11] (fun wt => Below w5.heap.size w5 wt) (fun w1 w2 => Below w1.heap.size w1 w2) [(0, some 77), (1, some 78), (2, some 79), (3, some 80), (4, some 81), (5, some 82), (6, some 83), (7, some 76), (8, some 84), (9, some 85), (10, some 17)] [77, 78, 79, 80, 81, 82, 83, 76, 84, 85, 17] #[true, true, true, true, true, true, true, true, true, true, true, false] [1, 2, 4, 11, 12, 13, 14, 15, 16, 18] hE ((Below.refl _ _).drew) fun Q' K hK => ?_
 refine SeqOps.val ?_ (Sp fun ax wx hS hT' hd K' J => ?_) ?_; rotate_left 1
 ·have r4 := hS.at 4 (by decide) (hE.at 4 rfl); obtain ⟨hcT, hfT, hlT, hmT, hwT, hzT⟩ := bT hT'
  refine o1 r4 fun ρ q4 => ?_; go_simp;
  exact Jo J hT'
 refine SeqOps.val ?_ (Sp fun ax wx hS hT' hd K' J => ?_) ?_; rotate_left 1
 ·have r1 := hS.at 1 (by decide) (hE.at 1 rfl); obtain ⟨hcT, hfT, hlT, hmT, hwT, hzT⟩ := bT hT'
  refine o1 r1 fun ρ q1 => ?_; go_simp;
  exact Jo J hT'
 refine SeqOps.val ?_ (Sp fun ax wx hS hT' hd K' J => ?_) ?_; rotate_left 1
 ·have r4 := hS.at 4 (by decide) (hE.at 4 rfl); obtain ⟨hcT, hfT, hlT, hmT, hwT, hzT⟩ := bT hT'
  refine o1 r4 fun ρ q4 => ?_; go_simp;
  exact Jo J hT'
 refine SeqOps.val ?_ (Sp fun ax wx hS hT' hd K' J => ?_) ?_; rotate_left 1
 ·have r1 := hS.at 1 (by decide) (hE.at 1 rfl); obtain ⟨hcT, hfT, hlT, hmT, hwT, hzT⟩ := bT hT'
  refine o1 r1 fun ρ q1 => ?_; go_simp;
  exact Jo J hT'
 refine SeqOps.val ?_ (Sp fun ax wx hS hT' hd K' J => ?_) ?_; rotate_left 1
 ·have r3 := hS.at 3 (by decide) (hE.at 3 rfl); obtain ⟨hcT, hfT, hlT, hmT, hwT, hzT⟩ := bT hT'
  refine o1 r3 fun ρ q3 => ?_; go_simp;
  exact Jo J hT'
 refine SeqOps.say (fun v _ => ∃ o : ByteArray, v = .string o ∧ o.size ≤ 12 ∧ nameB o.data.toList = true ∧ (apR l sl (keptL mu one.data.toList) (keptL mu o.data.toList)).2 = true) (fun _ _ _ _ h => h) (Sp fun ax wx hS hT' hd K' J => ?_) ?_
 ·have r79 := Tv hd 2 2 79; have r80 := Tv hd 1 3 80; have r81 := Tv hd 0 4 81; obtain ⟨hcT, hfT, hlT, hmT, hwT, hzT⟩ := bT hT'
  refine Go.Proofs.Ytbimkcjdodgojaa.o3 r79 r80 r81 fun ρ q79 q80 q81 => ?_; go_simp; (try go_bits);
  go_at_call 28; refine (C7.out _ ((hA5.below hT').more hT'.size) ((hT5.below hT').more hT'.size)).mono ?_; rintro e g1 ⟨⟨o, rfl, q1, q2, q3⟩, k1⟩
  exact J.out _ _ _ rfl ⟨o, rfl, q1, q2, q3⟩ (hT'.trans (k1.mono hT'.size)) k1
 refine SeqOps.say (fun v _ => ∃ k : Int, v = .tuple #[.int .i64 k, .int .i64 0] ∧ 0 ≤ k ∧ k ≤ sl) (fun _ _ _ _ h => h) (Sp fun ax wx hS hT' hd K' J => ?_) ?_
 ·have r77 := Tv hd 5 0 77; have r78 := Tv hd 4 1 78; obtain ⟨v82, r82, h82⟩ := Tg hd 0 5 82; obtain ⟨o, rfl, q1, q2, q3⟩ := h82; obtain ⟨hcT, hfT, hlT, hmT, hwT, hzT⟩ := bT hT'
  refine Go.Proofs.Ytbimkcjdodgojaa.o3 r77 r78 r82 fun ρ q77 q78 q82 => ?_; go_simp; (try go_bits);
  obtain ⟨k, ⟨k0, k1⟩, hkc⟩ := C8.out o q1 q2 q3
  go_at_call 11; refine (hkc _ ((hA5.below hT').more hT'.size)).mono ?_; rintro e g1 ⟨rfl, k2⟩
  exact J.out _ _ _ rfl ⟨k, rfl, k0, k1⟩ (hT'.trans (k2.mono hT'.size)) k2
 refine SeqOps.say (fun v _ => ∃ k : Int, v = .tuple #[.int .i64 k, .int .i64 0] ∧ 0 ≤ k ∧ k ≤ sl) (fun _ _ _ _ h => h) (Sp fun ax wx hS hT' hd K' J => ?_) ?_
 ·obtain ⟨v83, r83, h83⟩ := Tg hd 0 6 83; obtain ⟨k, rfl, k0, k1⟩ := h83; obtain ⟨hcT, hfT, hlT, hmT, hwT, hzT⟩ := bT hT'
  refine o1 r83 fun ρ q83 => ?_; go_simp;
  exact J.out _ _ _ rfl ⟨k, rfl, k0, k1⟩ hT' (Below.refl _ _)
 refine SeqOps.say (fun v _ => ∃ k : Int, v = .int .i64 k ∧ 0 ≤ k ∧ k ≤ sl) (fun _ _ _ _ h => h) (Sp fun ax wx hS hT' hd K' J => ?_) ?_
 ·obtain ⟨v76, r76, h76⟩ := Tg hd 0 7 76; obtain ⟨k, rfl, k0, k1⟩ := h76; obtain ⟨hcT, hfT, hlT, hmT, hwT, hzT⟩ := bT hT'
  refine o1 r76 fun ρ q76 => ?_; go_simp;
  exact J.out _ _ _ rfl ⟨k, rfl, k0, k1⟩ hT' (Below.refl _ _)
 refine SeqOps.val ?_ (Sp fun ax wx hS hT' hd K' J => ?_) ?_; rotate_left 1
 ·obtain ⟨v76, r76, h76⟩ := Tg hd 1 7 76; obtain ⟨k, rfl, k0, k1⟩ := h76; obtain ⟨hcT, hfT, hlT, hmT, hwT, hzT⟩ := bT hT'
  refine o1 r76 fun ρ q76 => ?_; go_simp;
  exact Jo J hT'
 refine SeqOps.say (fun v _ => ∃ k : Int, v = .int .i64 k ∧ 0 ≤ k ∧ k ≤ sl) (fun _ _ _ _ h => h) (Sp fun ax wx hS hT' hd K' J => ?_) ?_
 ·obtain ⟨v84, r84, h84⟩ := Tg hd 1 8 84; obtain ⟨k, rfl, k0, k1⟩ := h84; obtain ⟨hcT, hfT, hlT, hmT, hwT, hzT⟩ := bT hT'
  refine o1 r84 fun ρ q84 => ?_; go_simp;
  exact J.out _ _ _ rfl ⟨k, rfl, k0, k1⟩ hT' (Below.refl _ _)
 refine SeqOps.nil ?_
 intro w7 hBl; (repeat refine Ek ?_); (refine fun v h => ?_; obtain ⟨o, rfl, q1, q2, q3⟩ := h); (refine fun v h => ?_; obtain ⟨k, rfl, k0, k1⟩ := h); (refine fun v h => ?_; obtain ⟨k, rfl, k0, k1⟩ := h); (refine fun v h => ?_; obtain ⟨k, rfl, k0, k1⟩ := h); (repeat refine Ek ?_); (refine fun v h => ?_; obtain ⟨k, rfl, k0, k1⟩ := h);
 refine fun ax hEx => ?_
 simp only [lk, pick, Nat.reduceEqDiff, ↓reduceIte] at hEx
 refine M1 hEx 85 fun K' J ρ q85 => ?_; go_simp; (try clear q85)
 refine Ln hEx J fun _ Eb => ?_; clear J K' hEx
 refine late_done [1, 2, 4, 11, 12, 13, 14, 15, 16, 17, 18] Eb hK (fun a hE => ?_); clear hK K Q' Eb; simp only [lk, pick, Nat.reduceEqDiff, ↓reduceIte] at hE
 have hb7 := hb5.trans (hBl.mono hb5.size)
 have hA7 := (hA5.below hBl).more hBl.size
 replace hCB := hCB.below hBl
 clear nB cB0 cB1 cB2 hA5 hT5
 have nB := hCB.1; have cB2 := hCB.2 2 _ rfl
 refine Ks ?_
 rcases HF.out with rfl | ⟨rfl, rfl⟩
 ·skip
  refine Rs 39 fun Q' K hK => ?_
  refine M1 hE 11 fun K' J ρ q11 => ?_; go_simp; (try clear q11)
  refine Ln hE J fun _ Eb => ?_; clear J K' hE a
  refine M1 Eb 13 fun K' J ρ q13 => ?_; go_simp; (try clear q13)
  refine Ln Eb J fun _ Ea => ?_; clear J K' Eb
  refine M2 Ea 86 87 fun K' J ρ q86 q87 => ?_; go_simp; (try go_bits); (try clear q86 q87)
  refine Ln Ea J fun _ Eb => ?_; clear J K' Ea
  replace Eb := Eb.turn 88 (v' := .bool false) rfl (by (first | rfl | simp))
  refine M1 Eb 88 fun K' J ρ q88 => ?_; go_simp; (try clear q88)
  refine Ln Eb J fun _ Ea => ?_; clear J K' Eb
  refine N1 Ea 89 12 fun K' J ρ q12 => ?_; go_simp; (try clear q12)
  refine Ln Ea J fun _ Eb => ?_; clear J K' Ea
  refine N1 Eb 89 14 fun K' J ρ q14 => ?_; go_simp; (try clear q14)
  refine Ln Eb J fun _ Ea => ?_; clear J K' Eb
  refine N2 Ea 89 90 91 fun K' J ρ q90 q91 => ?_; go_simp; (try go_bits); (try clear q90 q91)
  refine Ln Ea J fun _ Eb => ?_; clear J K' Ea
  replace Eb := Eb.turn 92 (v' := .bool false) rfl (by (first | rfl | simp))
  refine M2 Eb 89 92 fun K' J ρ q89 q92 => ?_; go_simp; (try go_bits); (try clear q89 q92)
  refine Ln Eb J fun _ Ea => ?_; clear J K' Eb
  refine M1 Ea 93 fun K' J ρ q93 => ?_; go_simp; (try clear q93)
  refine Ln Ea J fun _ Eb => ?_; clear J K' Ea
  refine N1 Eb 94 16 fun K' J ρ q16 => ?_; go_simp; (try clear q16)
  refine Ln Eb J fun _ Ea => ?_; clear J K' Eb
  refine N1 Ea 94 95 fun K' J ρ q95 => ?_; go_simp; (try go_bits); (try clear q95)
  refine Ln Ea J fun _ Eb => ?_; clear J K' Ea
  replace Eb := Eb.turn 96 (v' := .bool false) rfl (by (first | rfl | simp))
  refine M2 Eb 94 96 fun K' J ρ q94 q96 => ?_; go_simp; (try go_bits); (try clear q94 q96)
  refine Ln Eb J fun _ Ea => ?_; clear J K' Eb
  refine M1 Ea 97 fun K' J ρ q97 => ?_; go_simp; (try clear q97)
  refine Ln Ea J fun _ Eb => ?_; clear J K' Ea
  refine N1 Eb 98 15 fun K' J ρ q15 => ?_; go_simp; (try clear q15)
  refine Ln Eb J fun _ Ea => ?_; clear J K' Eb
  refine N1 Ea 98 99 fun K' J ρ q99 => ?_; go_simp; (try go_bits); (try clear q99)
  refine Ln Ea J fun _ Eb => ?_; clear J K' Ea
  replace Eb := Eb.turn 100 (v' := .bool false) rfl (by (first | rfl | simp))
  refine M2 Eb 98 100 fun K' J ρ q98 q100 => ?_; go_simp; (try go_bits); (try clear q98 q100)
  refine Ln Eb J fun _ Ea => ?_; clear J K' Eb
  refine M1 Ea 101 fun K' J ρ q101 => ?_; go_simp; (try clear q101)
  refine Ln Ea J fun _ Eb => ?_; clear J K' Ea
  refine N1 Eb 102 18 fun K' J ρ q18 => ?_; go_simp; (try clear q18)
  refine Ln Eb J fun _ Ea => ?_; clear J K' Eb
  refine N1 Ea 102 103 fun K' J ρ q103 => ?_; go_simp; (try go_bits); (try clear q103)
  refine Ln Ea J fun _ Eb => ?_; clear J K' Ea
  replace Eb := Eb.turn 104 (v' := .bool false) rfl (by (first | rfl | simp))
  refine M2 Eb 102 104 fun K' J ρ q102 q104 => ?_; go_simp; (try go_bits); (try clear q102 q104)
  refine Ln Eb J fun _ Ea => ?_; clear J K' Eb
  refine M1 Ea 105 fun K' J ρ q105 => ?_; go_simp; (try clear q105)
  refine Ln Ea J fun _ Eb => ?_; clear J K' Ea
  refine N1 Eb 106 17 fun K' J ρ q17 => ?_; go_simp; (try clear q17)
  refine Ln Eb J fun _ Ea => ?_; clear J K' Eb
  refine N1 Ea 106 4 fun K' J ρ q4 => ?_; go_simp; (try clear q4)
  refine Ln Ea J fun _ Eb => ?_; clear J K' Ea
  refine N1 Eb 106 108 fun K' J ρ q108 => ?_; go_simp; (try clear q108)
  refine Ln Eb J fun _ Ea => ?_; clear J K' Eb
  refine N2 Ea 106 107 109 fun K' J ρ q107 q109 => ?_; go_simp; (try go_bits); (try clear q107 q109)
  go_at_call 25; refine (between_any _ _ _ _).mono ?_; rintro e g1 ⟨rfl, rfl⟩
  (try clear r107 r109)
  refine Ln Ea J fun _ Eb => ?_; clear J K' Ea
  refine N1 Eb 106 110 fun K' J ρ q110 => ?_; go_simp; (try go_bits); (try simp (disch := omega) only [IntWalk.i64_in]); (try clear q110)
  refine Ln Eb J fun _ Ea => ?_; clear J K' Eb
  replace Ea := Ea.turn 111 (v' := .bool false) rfl (by (first | (simp; done) | (simp; omega)))
  refine M2 Ea 106 111 fun K' J ρ q106 q111 => ?_; go_simp; (try go_bits); (try clear q106 q111)
  refine Ln Ea J fun _ Eb => ?_; clear J K' Ea
  refine M1 Eb 112 fun K' J ρ q112 => ?_; go_simp; (try clear q112)
  refine Ln Eb J fun _ Ea => ?_; clear J K' Eb
  refine N1 Ea 113 12 fun K' J ρ q12 => ?_; go_simp; (try clear q12)
  refine Ln Ea J fun _ Eb => ?_; clear J K' Ea
  refine N1 Eb 113 114 fun K' J ρ q114 => ?_; go_simp; (try go_bits); (try clear q114)
  refine Ln Eb J fun _ Ea => ?_; clear J K' Eb
  replace Ea := Ea.turn 115 (v' := .bool false) rfl (by (first | rfl | simp))
  refine N1 Ea 113 115 fun K' J ρ q115 => ?_; go_simp; (try clear q115)
  refine Ln Ea J fun _ Eb => ?_; clear J K' Ea
  refine Lno Eb 116 ?_
  refine Lu Eb fun _ Ea => ?_
  refine Lno Ea 116 ?_
  refine Lu Ea fun _ Eb => ?_
  refine Lno Eb 116 ?_
  refine Lu Eb fun _ Ea => ?_
  refine Lun Ea 119 ?_
  refine Lu Ea fun _ Eb => ?_
  refine Lun Eb 119 ?_
  refine Lu Eb fun _ Ea => ?_
  refine Lno Ea 116 ?_
  refine Lu Ea fun _ Eb => ?_
  refine N2 Eb 113 116 122 fun K' J ρ q116 q122 => ?_; go_simp; (try go_bits); (try clear q116 q122)
  refine Ln Eb J fun _ Ea => ?_; clear J K' Eb
  replace Ea := Ea.turn 123 (v' := .bool false) rfl (by (first | rfl | simp))
  refine M2 Ea 113 123 fun K' J ρ q113 q123 => ?_; go_simp; (try go_bits); (try clear q113 q123)
  refine Ln Ea J fun _ Eb => ?_; clear J K' Ea
  refine late_done [1, 2, 4, 11, 12, 124] Eb hK (fun a hE => ?_); clear hK K Q' Eb; simp only [lk, pick, Nat.reduceEqDiff, ↓reduceIte] at hE
  refine Ks ?_
  refine cond_no hE (t := 124) rfl ?_
  refine wp_skip ?_
  refine KsE ?_
  exact ears_mid A cap l mu sl one other HOK.out hcap h1 h2 n 0 (hid fun _ => HPE.out) B w w7 hb7 hCB hA7 _ (hE.keep [1, 2, 4, 11, 12])
 ·skip
  refine Rs 39 fun Q' K hK => ?_
  refine M1 hE 11 fun K' J ρ q11 => ?_; go_simp; (try clear q11)
  refine Ln hE J fun _ Eb => ?_; clear J K' hE a
  refine M1 Eb 13 fun K' J ρ q13 => ?_; go_simp; (try clear q13)
  refine Ln Eb J fun _ Ea => ?_; clear J K' Eb
  refine M2 Ea 86 87 fun K' J ρ q86 q87 => ?_; go_simp; (try go_bits); (try clear q86 q87)
  refine Ln Ea J fun _ Eb => ?_; clear J K' Ea
  replace Eb := Eb.turn 88 (v' := .bool false) rfl (by (first | rfl | simp))
  refine M1 Eb 88 fun K' J ρ q88 => ?_; go_simp; (try clear q88)
  refine Ln Eb J fun _ Ea => ?_; clear J K' Eb
  refine N1 Ea 89 12 fun K' J ρ q12 => ?_; go_simp; (try clear q12)
  refine Ln Ea J fun _ Eb => ?_; clear J K' Ea
  refine N1 Eb 89 14 fun K' J ρ q14 => ?_; go_simp; (try clear q14)
  refine Ln Eb J fun _ Ea => ?_; clear J K' Eb
  refine N2 Ea 89 90 91 fun K' J ρ q90 q91 => ?_; go_simp; (try go_bits); (try clear q90 q91)
  refine Ln Ea J fun _ Eb => ?_; clear J K' Ea
  replace Eb := Eb.turn 92 (v' := .bool false) rfl (by (first | rfl | simp))
  refine M2 Eb 89 92 fun K' J ρ q89 q92 => ?_; go_simp; (try go_bits); (try clear q89 q92)
  refine Ln Eb J fun _ Ea => ?_; clear J K' Eb
  refine M1 Ea 93 fun K' J ρ q93 => ?_; go_simp; (try clear q93)
  refine Ln Ea J fun _ Eb => ?_; clear J K' Ea
  refine N1 Eb 94 16 fun K' J ρ q16 => ?_; go_simp; (try clear q16)
  refine Ln Eb J fun _ Ea => ?_; clear J K' Eb
  refine N1 Ea 94 95 fun K' J ρ q95 => ?_; go_simp; (try go_bits); (try clear q95)
  refine Ln Ea J fun _ Eb => ?_; clear J K' Ea
  replace Eb := Eb.turn 96 (v' := .bool false) rfl (by (first | rfl | simp))
  refine M2 Eb 94 96 fun K' J ρ q94 q96 => ?_; go_simp; (try go_bits); (try clear q94 q96)
  refine Ln Eb J fun _ Ea => ?_; clear J K' Eb
  refine M1 Ea 97 fun K' J ρ q97 => ?_; go_simp; (try clear q97)
  refine Ln Ea J fun _ Eb => ?_; clear J K' Ea
  refine N1 Eb 98 15 fun K' J ρ q15 => ?_; go_simp; (try clear q15)
  refine Ln Eb J fun _ Ea => ?_; clear J K' Eb
  refine N1 Ea 98 99 fun K' J ρ q99 => ?_; go_simp; (try go_bits); (try clear q99)
  refine Ln Ea J fun _ Eb => ?_; clear J K' Ea
  replace Eb := Eb.turn 100 (v' := .bool false) rfl (by (first | rfl | simp))
  refine M2 Eb 98 100 fun K' J ρ q98 q100 => ?_; go_simp; (try go_bits); (try clear q98 q100)
  refine Ln Eb J fun _ Ea => ?_; clear J K' Eb
  refine M1 Ea 101 fun K' J ρ q101 => ?_; go_simp; (try clear q101)
  refine Ln Ea J fun _ Eb => ?_; clear J K' Ea
  refine N1 Eb 102 18 fun K' J ρ q18 => ?_; go_simp; (try clear q18)
  refine Ln Eb J fun _ Ea => ?_; clear J K' Eb
  refine N1 Ea 102 103 fun K' J ρ q103 => ?_; go_simp; (try go_bits); (try clear q103)
  refine Ln Ea J fun _ Eb => ?_; clear J K' Ea
  replace Eb := Eb.turn 104 (v' := .bool false) rfl (by (first | rfl | simp))
  refine M2 Eb 102 104 fun K' J ρ q102 q104 => ?_; go_simp; (try go_bits); (try clear q102 q104)
  refine Ln Eb J fun _ Ea => ?_; clear J K' Eb
  refine M1 Ea 105 fun K' J ρ q105 => ?_; go_simp; (try clear q105)
  refine Ln Ea J fun _ Eb => ?_; clear J K' Ea
  refine N1 Eb 106 17 fun K' J ρ q17 => ?_; go_simp; (try clear q17)
  refine Ln Eb J fun _ Ea => ?_; clear J K' Eb
  refine N1 Ea 106 4 fun K' J ρ q4 => ?_; go_simp; (try clear q4)
  refine Ln Ea J fun _ Eb => ?_; clear J K' Ea
  refine N1 Eb 106 108 fun K' J ρ q108 => ?_; go_simp; (try clear q108)
  refine Ln Eb J fun _ Ea => ?_; clear J K' Eb
  refine N2 Ea 106 107 109 fun K' J ρ q107 q109 => ?_; go_simp; (try go_bits); (try clear q107 q109)
  go_at_call 25; refine (between_any _ _ _ _).mono ?_; rintro e g1 ⟨rfl, rfl⟩
  (try clear r107 r109)
  refine Ln Ea J fun _ Eb => ?_; clear J K' Ea
  refine N1 Eb 106 110 fun K' J ρ q110 => ?_; go_simp; (try go_bits); (try simp (disch := omega) only [IntWalk.i64_in]); (try clear q110)
  refine Ln Eb J fun _ Ea => ?_; clear J K' Eb
  replace Ea := Ea.turn 111 (v' := .bool false) rfl (by (first | (simp; done) | (simp; omega)))
  refine M2 Ea 106 111 fun K' J ρ q106 q111 => ?_; go_simp; (try go_bits); (try clear q106 q111)
  refine Ln Ea J fun _ Eb => ?_; clear J K' Ea
  refine M1 Eb 112 fun K' J ρ q112 => ?_; go_simp; (try clear q112)
  refine Ln Eb J fun _ Ea => ?_; clear J K' Eb
  refine N1 Ea 113 12 fun K' J ρ q12 => ?_; go_simp; (try clear q12)
  refine Ln Ea J fun _ Eb => ?_; clear J K' Ea
  refine N1 Eb 113 114 fun K' J ρ q114 => ?_; go_simp; (try go_bits); (try clear q114)
  refine Ln Eb J fun _ Ea => ?_; clear J K' Eb
  replace Ea := Ea.turn 115 (v' := .bool true) rfl (by (first | rfl | simp))
  refine N1 Ea 113 115 fun K' J ρ q115 => ?_; go_simp; (try clear q115)
  refine Ln Ea J fun _ Eb => ?_; clear J K' Ea
  refine N1 Eb 116 12 fun K' J ρ q12 => ?_; go_simp; (try clear q12)
  refine Ln Eb J fun _ Ea => ?_; clear J K' Eb
  refine N1 Ea 116 117 fun K' J ρ q117 => ?_; go_simp; (try go_bits); (try clear q117)
  refine Ln Ea J fun _ Eb => ?_; clear J K' Ea
  replace Eb := Eb.turn 118 (v' := .bool false) rfl (by (first | rfl | simp))
  refine N1 Eb 116 118 fun K' J ρ q118 => ?_; go_simp; (try clear q118)
  refine Ln Eb J fun _ Ea => ?_; clear J K' Eb
  refine N1 Ea 119 11 fun K' J ρ q11 => ?_; go_simp; (try clear q11)
  refine Ln Ea J fun _ Eb => ?_; clear J K' Ea
  refine N1 Eb 119 120 fun K' J ρ q120 => ?_; go_simp; (try go_bits); (try clear q120)
  refine Ln Eb J fun _ Ea => ?_; clear J K' Eb
  replace Ea := Ea.turn 121 (v' := .bool false) rfl (by (first | rfl | simp))
  refine N2 Ea 116 119 121 fun K' J ρ q119 q121 => ?_; go_simp; (try go_bits); (try clear q119 q121)
  refine Ln Ea J fun _ Eb => ?_; clear J K' Ea
  refine N2 Eb 113 116 122 fun K' J ρ q116 q122 => ?_; go_simp; (try go_bits); (try clear q116 q122)
  refine Ln Eb J fun _ Ea => ?_; clear J K' Eb
  replace Ea := Ea.turn 123 (v' := .bool false) rfl (by (first | rfl | simp))
  refine M2 Ea 113 123 fun K' J ρ q113 q123 => ?_; go_simp; (try go_bits); (try clear q113 q123)
  refine Ln Ea J fun _ Eb => ?_; clear J K' Ea
  refine late_done [1, 2, 4, 11, 12, 124] Eb hK (fun a hE => ?_); clear hK K Q' Eb; simp only [lk, pick, Nat.reduceEqDiff, ↓reduceIte] at hE
  refine Ks ?_
  refine cond_no hE (t := 124) rfl ?_
  refine wp_skip ?_
  refine KsE ?_
  exact ears_mid A cap l mu sl one other HOK.out hcap h1 h2 0 4 (hid fun e => by cases e) B w w7 hb7 hCB hA7 _ (hE.keep [1, 2, 4, 11, 12])
theorem ears_any (T : Option Addr) (tc : Nat) (ns : List Int) (w : World) (hA : Arr w w.heap.size A (txts l)) (hcap : l.length ≤ cap) (hl : l.length ≤ 9223372036854775807) (hmu : mu.size ≤ 9223372036854775807) (h1 : one.size ≤ 9223372036854775807) (h2 : other.size ≤ 9223372036854775807) (hT : Arr w w.heap.size T (ints ns)) (hns : ns.length ≤ 9223372036854775807) : Calls Try.prog 5 #[.agg #[.slice A l.length cap, .string mu, .int .i64 sl], .string one, .string other, .slice T ns.length tc] w fun e w' => e = .returned (.bool true) ∧ Below w.heap.size w w' := by
 cases hok : Ear.ok ⟨l, mu, sl⟩
 ·exact ears_bad A cap l mu sl one other (by rw [hok]; rfl) T tc ns w hA hcap hl hmu h1 h2
 ·cases hn1 : nameB one.data.toList
  ·exact ears_bad A cap l mu sl one other (by rw [hok, hn1]; rfl) T tc ns w hA hcap hl hmu h1 h2
  ·cases hn2 : nameB other.data.toList
   ·exact ears_bad A cap l mu sl one other (by rw [hok, hn1, hn2]; rfl) T tc ns w hA hcap hl hmu h1 h2
   ·exact ears_good A cap l mu sl one other hok hn1 hn2 T tc ns w hA hcap hl hmu h1 h2 hT hns
end
end Go.Proofs.Ytbimkcjdodgojaa
