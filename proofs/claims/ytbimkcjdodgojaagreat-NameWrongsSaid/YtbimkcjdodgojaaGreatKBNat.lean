/- Name: what is told of all truths that were counted. -/
import Derived.Test.YtbimkcjdodgojaaGreatKBNah
import Derived.Test.YtbimkcjdodgojaaGreatKBNl
import Derived.Maps.Own
import Derived.Maps.OwnOps
import Derived.Maps.Views
import Derived.Maps.RangeWalk
import Derived.DeepKeys4
import Derived.WideKeyEntry
import Derived.Deep.MidRow
namespace Go.Proofs.YtbimkcjdodgojaaGreat
set_option linter.unusedSimpArgs false
set_option linter.unusedVariables false
open Go Go.RowKit Go.WideMaps Go.Maps Go.ChangeMaps
open Go.WideElems (Fit rd rg pl rd_val elemAt entry_then_store)
theorem k_laid : laidOutB Tryz.prog = true := by kernel_rfl
theorem k_row : (115 : TypeId) < Tryz.prog.types.size := of_decide_eq_true (by kernel_rfl)
theorem k_wide : (match Tryz.prog.underlying 115 with | some (.array _ _) | some (.struct _) => true | _ => false) = true := by kernel_rfl
theorem k_size : ∃ m, Tryz.prog.types.size = m + 1 := ⟨Tryz.prog.types.size - 1, by kernel_rfl⟩
theorem k_cells : Tryz.prog.cellsOf 115 = 2 := by kernel_rfl
theorem k_cell : Tryz.prog.cellsOf 3 = 1 := by kernel_rfl
theorem k_type : Tryz.prog.keyType 115 = true := by kernel_rfl
theorem k_at : Tryz.prog.keyTypeAt 2 115 = true := by kernel_rfl
set_option maxRecDepth 100000 in
theorem k_law0 : KeyLaw Tryz.prog 115 := deep_law_laid k_laid (m := 2) (by omega) k_row k_at k_wide
theorem k_law : Maps.Keyed Tryz.prog 115 := .of_law k_law0
theorem k_lits (a b : Int) (wa : (Lit.int .i64 a).wf = true) (wb : (Lit.int .i64 b).wf = true) : ∃ l, keyOf Tryz.prog 115 (.agg #[.int .i64 a, .int .i64 b]) = some l := by
 obtain ⟨m, hs⟩ : ∃ m, Tryz.prog.types.size = m + 1 := k_size
 have hc := k_cells
 have h1 := k_cell
 have hk := k_type
 have hf : (Value.agg #[.int .i64 a, .int .i64 b]).formed Tryz.prog 115 = true := by simp [Value.formed, Tryz.underlying115, hc]
 have hl : Tryz.prog.keyLits (Tryz.prog.types.size + 1) 115 [.int .i64 a, .int .i64 b] = some [.int .i64 a, .int .i64 b] := by
  rw [hs]
  have hi : ∀ (n : Nat) (x : Int), (Lit.int .i64 x).wf = true → Tryz.prog.keyLits (n + 1) 3 [.int .i64 x] = some [.int .i64 x] := fun n x hx => by
   unfold Program.keyLits
   simp only [Tryz.underlying3]
   simp [hx]
  unfold Program.keyLits
  simp only [Tryz.underlying115, hc]
  simp [hi, wa, wb, h1]
 refine ⟨.string (keyBytes [.int .i64 a, .int .i64 b]), ?_⟩
 unfold keyOf
 rw [Tryz.underlying115]
 simp only [hk, hf, Bool.and_self, if_true]
 simp only [Value.cells]
 rw [hl]
 rfl
abbrev mval (l o : Int) : Value := .agg #[.int .i64 l, .int .i64 o]
def WfI (a : Int) : Prop := (Lit.int .i64 a).wf = true
theorem wf_int (a : Int) (h : -9223372036854775808 ≤ a ∧ a ≤ 9223372036854775807) : WfI a := by
 obtain ⟨h1, h2⟩ := h
 unfold WfI Lit.wf
 simp [IntKind.min, IntKind.max, IntKind.bits, IntKind.signed]; omega
/-- block b of w is a map of at most n entries, that holds so many of each -/
def Tal (w : World) (b n : Nat) (cnt : Int → Int → Int) : Prop :=
 ∃ D : DataW Unit, w.ownsMap Tryz.prog 115 (plainElem Tryz.prog 3) b n D ∧ Maps.IsMap D ∧
  ∀ l o kl, keyOf Tryz.prog 115 (mval l o) = some kl → D.atKey kl (.lit (.int .i64 0)) = .lit (.int .i64 (cnt l o))
theorem Tal.of_block {w w' : World} {b n : Nat} {cnt : Int → Int → Int} (h : Tal w b n cnt) (hb : w'.heap[b]? = w.heap[b]?) : Tal w' b n cnt := by
 obtain ⟨D, ⟨es, c, h1, h2, h3, h4⟩, r⟩ := h
 exact ⟨D, ⟨es, c, hb.trans h1, h2, h3, h4⟩, r⟩
theorem Tal.lt {w : World} {b n : Nat} {cnt : Int → Int → Int} (h : Tal w b n cnt) : b < w.heap.size := by
 obtain ⟨D, h, _⟩ := h
 exact h.lt
theorem Tal.made (w : World) : Tal (w.alloc (.map #[] 0)) w.heap.size 0 (fun _ _ => 0) :=
 ⟨.map [], World.ownsMap_made _ _ _ _, Maps.isMap_empty, fun l o kl _ => by simp [DataW.atKey]⟩
theorem k_zero (w : World) : (zeroValue 3).run Tryz.prog w = .ok (.int .i64 0) w := by kernel_rfl
theorem Tal.lookup {w : World} {b n : Nat} {cnt : Int → Int → Int} (h : Tal w b n cnt) (l o : Int) (hl : WfI l) (ho : WfI o) :
    (Instr.lookup 73 (.map (some b)) (mval l o) false).run Tryz.prog w = .ok (.int .i64 (cnt l o)) w := by
 obtain ⟨D, hown, _, hD⟩ := h
 obtain ⟨kl, hk⟩ := k_lits l o hl ho
 obtain ⟨c, hr, hv, _⟩ := hown.lookup_int k_law Tryz.underlying73 Tryz.underlying3 (k_zero w) hk
 rw [hr]
 rw [hD l o kl hk] at hv
 simp only [DataW.lit.injEq, Lit.int.injEq, true_and] at hv
 rw [hv]
def updc (cnt : Int → Int → Int) (l o c : Int) : Int → Int → Int := fun l' o' => if l' = l ∧ o' = o then c else cnt l' o'
theorem entry_old {wx : World} {b : Nat} {es : Array MapEntry} {clock : Nat} (hb : wx.heap[b]? = some (.map es clock)) (hkeys : ∀ e ∈ es.toList, ∃ l, keyOf Tryz.prog 115 e.key = some l) {key : Value} {kl : Lit} (hkey : keyOf Tryz.prog 115 key = some kl)
    {e0 : MapEntry} (he : e0 ∈ es.toList) (hk : e0.key = key) (hu : ∀ e ∈ es.toList, e.key = key → e = e0) :
    (Instr.mapEntry 73 (.map (some b)) key).run Tryz.prog wx = .ok (.tuple #[e0.val, goInt e0.born]) (setBlock wx b (.map es clock)) := by
 have K := k_law0
 rcases K.find wx hkey es.toList hkeys with ⟨_, h2⟩ | ⟨j, e1, h1, h2, h3⟩
 ·exact absurd hk (h2 e0 he)
 ·obtain rfl := hu e1 (List.mem_of_getElem? h2) h3
  have hj : es[j]? = some e1 := by simpa using h2
  have hsame : es.modify j (fun e => { e with key := key }) = es := by
   apply Array.ext'
   rw [Array.toList_modify, modify_eq_set _ _ _ _ h2]
   have : ({ e1 with key := key } : MapEntry) = e1 := by rw [← h3]
   rw [this]
   exact WideElems.set_self _ _ _ h2
  simp [Instr.mapEntry, run_underlying Tryz.underlying73, MapKept.run_getObj_map hb, K.check wx false hkey, h1, hj, h3, K.stays wx hkey, hsame, MapKept.run_setObj_map _ hb, Result.andThen, setBlock]
theorem setBlock_at {w : World} {b : Nat} {es : Array MapEntry} {c : Nat} {X Y : Obj} (hb : w.heap[b]? = some (.map es c)) (h : setBlock w b X = setBlock w b Y) : X = Y := by
 have h1 : (setBlock w b X).heap[b]? = some X := heap_setBlock_same hb X
 have h2 : (setBlock w b Y).heap[b]? = some Y := heap_setBlock_same hb Y
 rw [h, h2] at h1
 exact (Option.some.inj h1).symm
theorem setBlock_grown {w : World} {b : Nat} {es : Array MapEntry} {c : Nat} (X : Obj) (hb : w.heap[b]? = some (.map es c)) : w.grownBy (setBlock w b X) (some b) := ⟨rfl, rfl, rfl, by simp [setBlock], fun i _ hi => heap_setBlock_other hb _ (fun e => hi (by rw [e]))⟩
theorem goInt_inj {a b : Nat} (h : goInt a = goInt b) : a = b := by
 simp [goInt] at h; omega
theorem Tal.put {w' : World} {b n : Nat} {cnt : Int → Int → Int} {D : DataW Unit} {l o c : Int} {kl : Lit} (hk : keyOf Tryz.prog 115 (mval l o) = some kl) (hm : Maps.IsMap D) (hD : ∀ l o kl, keyOf Tryz.prog 115 (mval l o) = some kl → D.atKey kl (.lit (.int .i64 0)) = .lit (.int .i64 (cnt l o)))
    (hown : w'.ownsMap Tryz.prog 115 (plainElem Tryz.prog 3) b n (D.put kl (.lit (.int .i64 c)))) : Tal w' b n (updc cnt l o c) := ⟨_, hown, hm.put _ _, fun l' o' kg hkg => by
 unfold updc
 by_cases e : l' = l ∧ o' = o
 ·obtain ⟨rfl, rfl⟩ := e
  have : kg = kl := by rw [hk] at hkg; cases hkg; rfl
  rw [this, Maps.atKey_put_same hm (k_law.key hk)]
  simp
 ·have hne : kg ≠ kl := fun e' => e (by
   have := k_law.inj hkg (e' ▸ hk)
   simpa [mval] using this)
  rw [Maps.atKey_put_other hne, hD l' o' kg hkg, if_neg e]⟩
theorem updc_same (cnt : Int → Int → Int) (l o : Int) : updc cnt l o (cnt l o) = cnt := by
 funext l' o'
 unfold updc
 split
 ·rename_i h; rw [h.1, h.2]
 ·rfl
/-- 'm[k]++': the entry, then what is stored in it -/
theorem Tal.entry {w : World} {b n : Nat} {cnt : Int → Int → Int} (h : Tal w b n cnt) (hn : n < maxLen) (l o : Int) (hl : WfI l) (ho : WfI o) : ∃ (st : Nat) (O1 : Obj),
    (∀ wx : World, wx.heap[b]? = w.heap[b]? ∨ wx.heap[b]? = some O1 → (Instr.mapEntry 73 (.map (some b)) (mval l o)).run Tryz.prog wx = .ok (.tuple #[.int .i64 (cnt l o), goInt st]) (setBlock wx b O1) ∧ wx.grownBy (setBlock wx b O1) (some b) ∧ (setBlock wx b O1).heap[b]? = some O1) ∧
    (∀ wx : World, wx.heap[b]? = some O1 → Tal wx b (n + 1) cnt) ∧
    (∀ (wx : World) (c : Int), wx.heap[b]? = some O1 → WfI c → ∃ w', (Instr.entryStore 73 (.map (some b)) (goInt st) (.int .i64 c)).run Tryz.prog wx = .ok () w' ∧ Tal w' b (n + 1) (updc cnt l o c) ∧ wx.grownBy w' (some b)) := by
 have hlook := h.lookup l o hl ho
 have h' := h
 obtain ⟨D, hown, hm, hD⟩ := h
 have hown' := hown
 obtain ⟨es, clock, hb, F, hs, hDe⟩ := hown
 obtain ⟨kl, hk⟩ := k_lits l o hl ho
 obtain ⟨v0, st, es1, c1, hrun, hv0, hst⟩ := entry_then_store k_law0 Tryz.underlying73 k_zero hb F hk
 have hkeys := F.keys
 have huniq : ∀ x ∈ es.toList, ∀ y ∈ es.toList, x.key = y.key → x = y := fun x hx y hy e => entry_eq_of_key (List.pairwise_map.1 F.stamped.2.2) hx hy e
 have store : ∀ (wx : World) (c : Int), wx.heap[b]? = some (.map es1 c1) → WfI c → ∃ w', (Instr.entryStore 73 (.map (some b)) (goInt st) (.int .i64 c)).run Tryz.prog wx = .ok () w' ∧ Tal w' b (n + 1) (updc cnt l o c) ∧ wx.grownBy w' (some b) := fun wx c hwx hc => by
  obtain ⟨es', c', h1, h2⟩ := hst wx (.int .i64 c) hwx
  obtain ⟨w', h3, h4, _⟩ := hown'.update k_law Tryz.underlying73 hn hk (plainElem_int Tryz.underlying3 hc)
  rw [h2] at h3
  obtain rfl : setBlock w b (.map es' c') = w' := by simpa using h3
  refine ⟨_, h1, Tal.put hk hm hD ?_, setBlock_grown _ hwx⟩
  obtain ⟨es2, c2, g1, g2⟩ := h4
  exact ⟨es2, c2, (heap_setBlock_same hwx _).trans ((heap_setBlock_same hb _).symm.trans g1), g2⟩
 rcases hv0 with ⟨e0, he0, hke, rfl⟩ | ⟨hnone, rfl⟩
 ·have hold := entry_old hb hkeys hk he0 hke (fun e he hek => huniq e he e0 he0 (hek.trans hke.symm))
  rw [hrun] at hold
  simp only [Result.ok.injEq, Value.tuple.injEq] at hold
  have hst' : st = e0.born := goInt_inj (by simpa using hold.1)
  have hO := setBlock_at hb hold.2
  have hval : e0.val = .int .i64 (cnt l o) := by
   rcases Maps.fit_look false k_law Tryz.underlying73 (k_zero w) hb F hk with ⟨_, hno, _⟩ | ⟨e2, y, he2, hk2, hr2, _⟩
   ·exact absurd hke (hno e0 he0)
   ·have := huniq e2 he2 e0 he0 (hk2.trans hke.symm)
    subst this
    simp only [Bool.false_eq_true, if_false] at hr2
    rw [hlook] at hr2
    simpa using hr2.symm
  refine ⟨st, .map es1 c1, fun wx hwx => ?_, fun wx hwx => ?_, store⟩
  ·have hwx' : wx.heap[b]? = some (.map es clock) := by
    rcases hwx with h | h
    ·exact h.trans hb
    ·rw [h, hO]
   have := entry_old hwx' hkeys hk he0 hke (fun e he hek => huniq e he e0 he0 (hek.trans hke.symm))
   rw [hO, hst', ← hval]
   exact ⟨this, setBlock_grown _ hwx', heap_setBlock_same hwx' _⟩
  ·have hwx' : wx.heap[b]? = w.heap[b]? := by rw [hwx, hO, hb]
   obtain ⟨D', g1, g2⟩ := h'.of_block hwx'
   exact ⟨D', g1.mono (Nat.le_succ _), g2⟩
 ·have hnew : ∀ wx : World, wx.heap[b]? = some (.map es clock) → (Instr.mapEntry 73 (.map (some b)) (mval l o)).run Tryz.prog wx = .ok (.tuple #[.int .i64 0, goInt clock]) (setBlock wx b (.map (es.push ⟨mval l o, .int .i64 0, clock⟩) (clock + 1))) := fun wx hwx => by
   rcases k_law0.find wx hk es.toList hkeys with ⟨h1, _⟩ | ⟨j, e1, _, h2, h3⟩
   ·simp [Instr.mapEntry, run_underlying Tryz.underlying73, MapKept.run_getObj_map hwx, k_law0.check wx false hk, h1, k_zero, MapKept.run_setObj_map _ hwx, Result.andThen, setBlock]
   ·exact absurd h3 (hnone e1 (List.mem_of_getElem? h2))
  have hold := hnew w hb
  rw [hrun] at hold
  simp only [Result.ok.injEq, Value.tuple.injEq] at hold
  have hst' : st = clock := goInt_inj (by simpa using hold.1)
  have hO := setBlock_at hb hold.2
  have hval : (Value.int .i64 0) = .int .i64 (cnt l o) := by
   rcases Maps.fit_look false k_law Tryz.underlying73 (k_zero w) hb F hk with ⟨hr2, _⟩ | ⟨e2, y, he2, hk2, _⟩
   ·simp only [Bool.false_eq_true, if_false] at hr2
    rw [hlook] at hr2
    simpa using hr2.symm
   ·exact absurd hk2 (hnone e2 he2)
  have hc0 : cnt l o = 0 := by simpa using hval.symm
  refine ⟨st, .map es1 c1, fun wx hwx => ?_, fun wx hwx => ?_, store⟩
  ·rw [hO, hst', ← hval]
   rcases hwx with h | h
   ·have hwx' := h.trans hb
    exact ⟨hnew wx hwx', setBlock_grown _ hwx', heap_setBlock_same hwx' _⟩
   ·rw [hO] at h
    refine ⟨?_, setBlock_grown _ h, heap_setBlock_same h _⟩
    exact entry_old (e0 := ⟨mval l o, .int .i64 0, clock⟩) h (fun e he => by
     rw [Array.toList_push, List.mem_append, List.mem_singleton] at he
     rcases he with he | rfl
     ·exact hkeys e he
     ·exact ⟨kl, hk⟩) hk (by simp) rfl (fun e he hek => by
     rw [Array.toList_push, List.mem_append, List.mem_singleton] at he
     rcases he with he | rfl
     ·exact absurd hek (hnone e he)
     ·rfl)
  ·obtain ⟨w', h3, h4, _⟩ := hown'.update k_law Tryz.underlying73 hn hk (plainElem_int (a := 0) Tryz.underlying3 (by decide))
   have hupd : (Instr.mapUpdate 73 (.map (some b)) (mval l o) (.int .i64 0)).run Tryz.prog w = .ok () (setBlock w b (.map (es.push ⟨mval l o, .int .i64 0, clock⟩) (clock + 1))) := by
    rcases k_law0.find w hk es.toList hkeys with ⟨h1, _⟩ | ⟨j, e1, _, h2, h3⟩
    ·simp [Instr.mapUpdate, run_underlying Tryz.underlying73, MapKept.run_getObj_map hb, k_law0.check w false hk, h1, MapKept.run_setObj_map _ hb, Result.andThen, setBlock]
    ·exact absurd h3 (hnone e1 (List.mem_of_getElem? h2))
   rw [hupd] at h3
   obtain rfl := (by simpa using h3 : setBlock w b (.map (es.push ⟨mval l o, .int .i64 0, clock⟩) (clock + 1)) = w')
   have h5 := Tal.put hk hm hD h4
   have h6 : updc cnt l o 0 = cnt := by
    have := updc_same cnt l o
    rwa [hc0] at this
   rw [h6] at h5
   refine h5.of_block ?_
   rw [hwx, hO]
   have := heap_setBlock_same hb (Obj.map (es.push ⟨mval l o, .int .i64 0, clock⟩) (clock + 1))
   first | exact this.symm | (rw [this])
end Go.Proofs.YtbimkcjdodgojaaGreat
namespace Go.Proofs.YtbimkcjdodgojaaGreat
set_option linter.unusedSimpArgs false
set_option linter.unusedVariables false
open Go Go.RowKit
attribute [local go_sem high] cell_set_wr
attribute [local go_sem low] cell_wr frozen_wr
attribute [local go_sem] wr_set wr_drew wr_drewN wr_alloc wr_new Rho.c Rho.n Rho.g
section
variable (A : Option Addr) (cap : Nat) (L : Option Addr) (lcap : Nat) (b : Bk) (u0 u1 u2 u3 u4 u5 u6 u7 u8 : Value) (T : Option Addr) (n c Mb : Nat)
/-- a tally's cells -/
def talV : List Value := [.slice A b.ear.alike.length cap, .string b.ear.mute, .int .i64 b.ear.slips, .slice L b.lines.length lcap, .int .i64 b.lo, .int .i64 b.hi, .int .i64 b.lost, u0, u1, u2, u3, u4, u5, u6, u7, u8, .slice T n c, .map (some Mb)]
set_option maxRecDepth 100000 in
theorem tTruths_any (w : World) : Calls Tryz.prog 44 #[.agg (talV A cap L lcap b u0 u1 u2 u3 u4 u5 u6 u7 u8 T n c Mb).toArray] w fun e w' => e = .returned (.int .i64 n) ∧ Below w.heap.size w w' := by
 simp only [talV]
 refine enterE Tryz.func44 rfl Tryz.ntmps44 (by simp) (fun a hE => ?_); simp only [envOf, Nat.zero_add, Nat.reduceAdd] at hE
 refine Ks ?_
 refine Rs 2 fun Q' K hK => ?_
 refine M1 hE 0 fun K' J ρ q0 => ?_; go_simp
 refine Ln hE J fun _ Eb => ?_; clear J K' hE a q0
 refine M0 fun K' J ρ => ?_; go_simp;
 refine Ln Eb J fun _ Ea => ?_; clear J K' Eb
 refine Ld [1] Ea hK fun a hE => ?_; clear hK K Q' Ea
 obtain ⟨B, hBe⟩ : ∃ B, B = w.heap.size := ⟨_, rfl⟩; rw [← hBe] at hE; refine world_cut (fun wt => Below w.heap.size w wt ∧ Cells wt B [.slice A b.ear.alike.length cap, .string b.ear.mute, .int .i64 b.ear.slips, .slice L b.lines.length lcap, .int .i64 b.lo, .int .i64 b.hi, .int .i64 b.lost, u0, u1, u2, u3, u4, u5, u6, u7, u8, .slice T n c, .map (some Mb)]) ⟨(Below.refl _ _).alloc (Nat.le_refl _) _, by rw [hBe]; exact cells_new _ _ _⟩ (fun w1 hCut => ?_); obtain ⟨hbw1, hCB⟩ := hCut; clear hBe
 have nB := hCB.1; have cB16 := hCB.2 16 _ rfl
 refine Ks ?_
 refine Rs 4 fun Q' K hK => ?_
 refine M1 hE 1 fun K' J ρ q1 => ?_; go_simp
 refine Ln hE J fun _ Eb => ?_; clear J K' hE a q1
 refine M1 Eb 3 fun K' J ρ q3 => ?_; go_simp
 refine Ln Eb J fun _ Ea => ?_; clear J K' Eb q3
 refine M1 Ea 4 fun K' J ρ q4 => ?_; go_simp; (try go_bits)
 refine Ln Ea J fun _ Eb => ?_; clear J K' Ea q4
 refine M1 Eb 5 fun K' J ρ q5 => ?_; go_simp
 refine Ln Eb J fun _ Ea => ?_; clear J K' Eb q5
 refine Ld [2] Ea hK fun a hE => ?_; clear hK K Q' Ea
 refine Ks ?_
 exact ret_one hE rfl rfl ⟨rfl, hbw1⟩
/-- in how many truths two lines are a pair -/
def kindP (x n : Int) : Int := if x = n then 2 else if x = 0 then 0 else 1
set_option maxRecDepth 100000 in
set_option maxHeartbeats 1000000 in
theorem kind_any (cnt : Int → Int → Int) (k : Nat) (x y : Int) (w : World) (hT : Tal w Mb k cnt) (hx : WfI x) (hy : WfI y) : Calls Tryz.prog 51 #[.agg (talV A cap L lcap b u0 u1 u2 u3 u4 u5 u6 u7 u8 T n c Mb).toArray, .int .i64 x, .int .i64 y] w fun e w' => e = .returned (.int .i64 (kindP (cnt x y) n)) ∧ Below w.heap.size w w' := by
 have HTr := hid (tTruths_any A cap L lcap b u0 u1 u2 u3 u4 u5 u6 u7 u8 T n c Mb)
 simp only [talV] at HTr ⊢
 refine enterE Tryz.func51 rfl Tryz.ntmps51 (by simp) (fun a hE => ?_); simp only [envOf, Nat.zero_add, Nat.reduceAdd] at hE
 refine Ks ?_
 refine Rs 2 fun Q' K hK => ?_
 refine M1 hE 0 fun K' J ρ q0 => ?_; go_simp
 refine Ln hE J fun _ Eb => ?_; clear J K' hE a q0
 refine M0 fun K' J ρ => ?_; go_simp;
 refine Ln Eb J fun _ Ea => ?_; clear J K' Eb
 refine Ld [1, 2, 3] Ea hK fun a hE => ?_; clear hK K Q' Ea
 obtain ⟨B, hBe⟩ : ∃ B, B = w.heap.size := ⟨_, rfl⟩; rw [← hBe] at hE; refine world_cut (fun wt => Below w.heap.size w wt ∧ Cells wt B [.slice A b.ear.alike.length cap, .string b.ear.mute, .int .i64 b.ear.slips, .slice L b.lines.length lcap, .int .i64 b.lo, .int .i64 b.hi, .int .i64 b.lost, u0, u1, u2, u3, u4, u5, u6, u7, u8, .slice T n c, .map (some Mb)]) ⟨(Below.refl _ _).alloc (Nat.le_refl _) _, by rw [hBe]; exact cells_new _ _ _⟩ (fun w1 hCut => ?_); obtain ⟨hbw1, hCB⟩ := hCut; clear hBe
 have hlk := (hT.of_block (hbw1.block Mb hT.lt)).lookup x y hx hy
 obtain ⟨q, hq⟩ : ∃ q, cnt x y = q := ⟨_, rfl⟩
 rw [hq] at hlk ⊢
 have nB := hCB.1; have cB17 := hCB.2 17 _ rfl
 refine Ks ?_
 refine Rs 6 fun Q' K hK => ?_
 refine M1 hE 3 fun K' J ρ q3 => ?_; go_simp
 refine Ln hE J fun _ Eb => ?_; clear J K' hE a q3
 refine M1 Eb 7 fun K' J ρ q7 => ?_; go_simp
 refine Ln Eb J fun _ Ea => ?_; clear J K' Eb q7
 refine M1 Ea 1 fun K' J ρ q1 => ?_; go_simp
 refine Ln Ea J fun _ Eb => ?_; clear J K' Ea q1
 refine M1 Eb 2 fun K' J ρ q2 => ?_; go_simp
 refine Ln Eb J fun _ Ea => ?_; clear J K' Eb q2
 refine M2 Ea 9 10 fun K' J ρ q9 q10 => ?_; go_simp
 refine Ln Ea J fun _ Eb => ?_; clear J K' Ea q9 q10
 refine M2 Eb 8 11 fun K' J ρ q8 q11 => ?_; go_simp
 refine Ln Eb J fun _ Ea => ?_; clear J K' Eb q8 q11
 refine Ld [3, 12] Ea hK fun a hE => ?_; clear hK K Q' Ea
 clear hlk hq
 refine Ks ?_
 refine Rs 4 fun Q' K hK => ?_
 refine Lp fun K' J => ?_
 have r3 := hE.at 3 rfl
 refine wp_load_mid 75 (.tmp 3) rfl B 0 (eval_of r3) [.slice A b.ear.alike.length cap, .string b.ear.mute, .int .i64 b.ear.slips, .slice L b.lines.length lcap, .int .i64 b.lo, .int .i64 b.hi, .int .i64 b.lost, u0, u1, u2, u3, u4, u5, u6, u7, u8, .slice T n c, .map (some Mb)] _ (fun j u hu => by rw [Nat.zero_add]; exact hCB.2 j u hu) Tryz.underlying75 rfl (by kernel_rfl) ?_
 (try clear r3)
 refine Ln hE J fun _ Eb => ?_; clear J K' hE a
 refine M1 Eb 14 fun K' J ρ q14 => ?_; go_simp; (try go_bits); (try clear q14)
 go_at_call 44; refine (HTr.out _).mono ?_; rintro e w2 ⟨rfl, h2⟩
 (try clear r14)
 refine Ln Eb J fun _ Ea => ?_; clear J K' Eb
 refine M2 Ea 12 15 fun K' J ρ q12 q15 => ?_; go_simp; (try go_bits)
 refine Ln Ea J fun _ Eb => ?_; clear J K' Ea q12 q15
 refine M1 Eb 16 fun K' J ρ q16 => ?_; go_simp
 refine Ln Eb J fun _ Ea => ?_; clear J K' Eb q16
 refine Ld [12, 13] Ea hK fun a hE => ?_; clear hK K Q' Ea
 have hb2 := hbw1.trans (h2.mono hbw1.size)
 refine Ks ?_
 refine cond_part hE (t := 13) rfl (fun h => ?_) (fun h => ?_)
 ·have hh : q = n := by simpa using h
  refine Ks ?_
  refine Rs 1 fun Q' K hK => ?_
  refine M0 fun K' J ρ => ?_; go_simp;
  refine Ln hE J fun _ Eb => ?_; clear J K' hE a
  refine Ld [6] Eb hK fun a hE => ?_; clear hK K Q' Eb
  refine Ks ?_
  exact ret_one hE rfl rfl ⟨ret_int (by unfold kindP; rw [if_pos hh]), hb2⟩
 ·have hh : ¬ q = n := by simpa using h
  clear h
  refine Ks ?_
  refine Rs 2 fun Q' K hK => ?_
  refine M1 hE 12 fun K' J ρ q12 => ?_; go_simp; (try go_bits)
  refine Ln hE J fun _ Eb => ?_; clear J K' hE a q12
  refine M1 Eb 18 fun K' J ρ q18 => ?_; go_simp
  refine Ln Eb J fun _ Ea => ?_; clear J K' Eb q18
  refine Ld [12, 17] Ea hK fun a hE => ?_; clear hK K Q' Ea
  refine Ks ?_
  refine cond_part hE (t := 17) rfl (fun h => ?_) (fun h => ?_)
  ·have h0 : q = 0 := by simpa using h
   refine Ks ?_
   refine Rs 1 fun Q' K hK => ?_
   refine M0 fun K' J ρ => ?_; go_simp;
   refine Ln hE J fun _ Eb => ?_; clear J K' hE a
   refine Ld [6] Eb hK fun a hE => ?_; clear hK K Q' Eb
   refine Ks ?_
   exact ret_one hE rfl rfl ⟨ret_int (by unfold kindP; rw [if_neg hh, if_pos h0]), hb2⟩
  ·have h0 : ¬ q = 0 := by simpa using h
   refine Ks ?_
   refine Rs 1 fun Q' K hK => ?_
   refine M0 fun K' J ρ => ?_; go_simp;
   refine Ln hE J fun _ Eb => ?_; clear J K' hE a
   refine Ld [6] Eb hK fun a hE => ?_; clear hK K Q' Eb
   refine Ks ?_
   exact ret_one hE rfl rfl ⟨ret_int (by unfold kindP; rw [if_neg hh, if_neg h0]), hb2⟩
end
end Go.Proofs.YtbimkcjdodgojaaGreat
