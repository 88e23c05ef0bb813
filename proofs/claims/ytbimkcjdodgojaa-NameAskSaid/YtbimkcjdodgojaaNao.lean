/- Name: a map from lines and others to counts, that the call itself has made. -/
import Derived.Test.YtbimkcjdodgojaaNah
import Derived.Maps.Own
import Derived.Maps.OwnOps
import Derived.Maps.Views
import Derived.Maps.RangeWalk
import Derived.DeepKeys4
import Derived.WideKeyEntry
namespace Go.Proofs.Ytbimkcjdodgojaa
set_option linter.unusedSimpArgs false
set_option linter.unusedVariables false
open Go Go.RowKit Go.WideMaps Go.Maps Go.ChangeMaps
open Go.WideElems (Fit rd rg pl rd_val elemAt entry_then_store)

theorem k_laid : laidOutB Try.prog = true := by kernel_rfl
theorem k_row : (143 : TypeId) < Try.prog.types.size := of_decide_eq_true (by kernel_rfl)
theorem k_wide : (match Try.prog.underlying 143 with | some (.array _ _) | some (.struct _) => true | _ => false) = true := by kernel_rfl
theorem k_size : ∃ m, Try.prog.types.size = m + 1 := ⟨Try.prog.types.size - 1, by kernel_rfl⟩
theorem k_cells : Try.prog.cellsOf 143 = 2 := by kernel_rfl
theorem k_cell : Try.prog.cellsOf 3 = 1 := by kernel_rfl
theorem k_type : Try.prog.keyType 143 = true := by kernel_rfl
theorem k_at : Try.prog.keyTypeAt 2 143 = true := by kernel_rfl
set_option maxRecDepth 100000 in
theorem k_law0 : KeyLaw Try.prog 143 := deep_law_laid k_laid (m := 2) (by omega) k_row k_at k_wide
theorem k_law : Maps.Keyed Try.prog 143 := .of_law k_law0
theorem k_lits (a b : Int) (wa : (Lit.int .i64 a).wf = true) (wb : (Lit.int .i64 b).wf = true) : ∃ l, keyOf Try.prog 143 (.agg #[.int .i64 a, .int .i64 b]) = some l := by
 obtain ⟨m, hs⟩ : ∃ m, Try.prog.types.size = m + 1 := k_size
 have hc := k_cells
 have h1 := k_cell
 have hk := k_type
 have hf : (Value.agg #[.int .i64 a, .int .i64 b]).formed Try.prog 143 = true := by simp [Value.formed, Try.underlying143, hc]
 have hl : Try.prog.keyLits (Try.prog.types.size + 1) 143 [.int .i64 a, .int .i64 b] = some [.int .i64 a, .int .i64 b] := by
  rw [hs]
  have hi : ∀ (n : Nat) (x : Int), (Lit.int .i64 x).wf = true → Try.prog.keyLits (n + 1) 3 [.int .i64 x] = some [.int .i64 x] := fun n x hx => by
   unfold Program.keyLits
   simp only [Try.underlying3]
   simp [hx]
  unfold Program.keyLits
  simp only [Try.underlying143, hc]
  simp [hi, wa, wb, h1]
 refine ⟨.string (keyBytes [.int .i64 a, .int .i64 b]), ?_⟩
 unfold keyOf
 rw [Try.underlying143]
 simp only [hk, hf, Bool.and_self, if_true]
 simp only [Value.cells]
 rw [hl]
 rfl
abbrev mval (l o : Int) : Value := .agg #[.int .i64 l, .int .i64 o]
def WfI (a : Int) : Prop := (Lit.int .i64 a).wf = true
theorem wf_int (a : Int) (h : -9223372036854775808 ≤ a ∧ a ≤ 9223372036854775807) : WfI a := by
 obtain ⟨h1, h2⟩ := h
 unfold WfI Lit.wf
 simp [IntKind.min, IntKind.max, IntKind.bits, IntKind.signed]; omega
/-- block b of w is a map of at most n entries, that holds so many of each -/
def Tal (w : World) (b n : Nat) (cnt : Int → Int → Int) : Prop :=
 ∃ D : DataW Unit, w.ownsMap Try.prog 143 (plainElem Try.prog 3) b n D ∧ Maps.IsMap D ∧
  ∀ l o kl, keyOf Try.prog 143 (mval l o) = some kl → D.atKey kl (.lit (.int .i64 0)) = .lit (.int .i64 (cnt l o))
theorem Tal.of_block {w w' : World} {b n : Nat} {cnt : Int → Int → Int} (h : Tal w b n cnt) (hb : w'.heap[b]? = w.heap[b]?) : Tal w' b n cnt := by
 obtain ⟨D, ⟨es, c, h1, h2, h3, h4⟩, r⟩ := h
 exact ⟨D, ⟨es, c, hb.trans h1, h2, h3, h4⟩, r⟩
theorem Tal.lt {w : World} {b n : Nat} {cnt : Int → Int → Int} (h : Tal w b n cnt) : b < w.heap.size := by
 obtain ⟨D, h, _⟩ := h
 exact h.lt
theorem Tal.made (w : World) : Tal (w.alloc (.map #[] 0)) w.heap.size 0 (fun _ _ => 0) :=
 ⟨.map [], World.ownsMap_made _ _ _ _, Maps.isMap_empty, fun l o kl _ => by simp [DataW.atKey]⟩
theorem k_zero (w : World) : (zeroValue 3).run Try.prog w = .ok (.int .i64 0) w := by kernel_rfl
theorem Tal.lookup {w : World} {b n : Nat} {cnt : Int → Int → Int} (h : Tal w b n cnt) (l o : Int) (hl : WfI l) (ho : WfI o) :
    (Instr.lookup 101 (.map (some b)) (mval l o) false).run Try.prog w = .ok (.int .i64 (cnt l o)) w := by
 obtain ⟨D, hown, _, hD⟩ := h
 obtain ⟨kl, hk⟩ := k_lits l o hl ho
 obtain ⟨c, hr, hv, _⟩ := hown.lookup_int k_law Try.underlying101 Try.underlying3 (k_zero w) hk
 rw [hr]
 rw [hD l o kl hk] at hv
 simp only [DataW.lit.injEq, Lit.int.injEq, true_and] at hv
 rw [hv]
def updc (cnt : Int → Int → Int) (l o c : Int) : Int → Int → Int := fun l' o' => if l' = l ∧ o' = o then c else cnt l' o'
theorem entry_old {wx : World} {b : Nat} {es : Array MapEntry} {clock : Nat} (hb : wx.heap[b]? = some (.map es clock)) (hkeys : ∀ e ∈ es.toList, ∃ l, keyOf Try.prog 143 e.key = some l) {key : Value} {kl : Lit} (hkey : keyOf Try.prog 143 key = some kl)
    {e0 : MapEntry} (he : e0 ∈ es.toList) (hk : e0.key = key) (hu : ∀ e ∈ es.toList, e.key = key → e = e0) :
    (Instr.mapEntry 101 (.map (some b)) key).run Try.prog wx = .ok (.tuple #[e0.val, goInt e0.born]) (setBlock wx b (.map es clock)) := by
 have K := k_law0
 rcases K.find wx hkey es.toList hkeys with ⟨_, h2⟩ | ⟨j, e1, h1, h2, h3⟩
 ·exact absurd hk (h2 e0 he)
 ·obtain rfl := hu e1 (List.mem_of_getElem? h2) h3
  have hj : es[j]? = some e1 := by simpa using h2
  have hsame : es.modify j (fun e => { e with key := key }) = es := by
   apply Array.ext'
   rw [Array.toList_modify, modify_eq_set _ _ _ _ h2]
   have : ({ e1 with key := key } : MapEntry) = e1 := by rw [← h3]
   rw [this]
   exact WideElems.set_self _ _ _ h2
  simp [Instr.mapEntry, run_underlying Try.underlying101, MapKept.run_getObj_map hb, K.check wx false hkey, h1, hj, h3, K.stays wx hkey, hsame, MapKept.run_setObj_map _ hb, Result.andThen, setBlock]
theorem setBlock_at {w : World} {b : Nat} {es : Array MapEntry} {c : Nat} {X Y : Obj} (hb : w.heap[b]? = some (.map es c)) (h : setBlock w b X = setBlock w b Y) : X = Y := by
 have h1 : (setBlock w b X).heap[b]? = some X := heap_setBlock_same hb X
 have h2 : (setBlock w b Y).heap[b]? = some Y := heap_setBlock_same hb Y
 rw [h, h2] at h1
 exact (Option.some.inj h1).symm
theorem setBlock_grown {w : World} {b : Nat} {es : Array MapEntry} {c : Nat} (X : Obj) (hb : w.heap[b]? = some (.map es c)) : w.grownBy (setBlock w b X) (some b) := ⟨rfl, rfl, rfl, by simp [setBlock], fun i _ hi => heap_setBlock_other hb _ (fun e => hi (by rw [e]))⟩
theorem goInt_inj {a b : Nat} (h : goInt a = goInt b) : a = b := by
 simp [goInt] at h; omega
theorem Tal.put {w' : World} {b n : Nat} {cnt : Int → Int → Int} {D : DataW Unit} {l o c : Int} {kl : Lit} (hk : keyOf Try.prog 143 (mval l o) = some kl) (hm : Maps.IsMap D) (hD : ∀ l o kl, keyOf Try.prog 143 (mval l o) = some kl → D.atKey kl (.lit (.int .i64 0)) = .lit (.int .i64 (cnt l o)))
    (hown : w'.ownsMap Try.prog 143 (plainElem Try.prog 3) b n (D.put kl (.lit (.int .i64 c)))) : Tal w' b n (updc cnt l o c) := ⟨_, hown, hm.put _ _, fun l' o' kg hkg => by
 unfold updc
 by_cases e : l' = l ∧ o' = o
 ·obtain ⟨rfl, rfl⟩ := e
  have : kg = kl := by rw [hk] at hkg; cases hkg; rfl
  rw [this, Maps.atKey_put_same hm (k_law.key hk)]
  simp
 ·have hne : kg ≠ kl := fun e' => e (by
   have := k_law.inj hkg (e' ▸ hk)
   simpa [mval] using this)
  rw [Maps.atKey_put_other hne, hD l' o' kg hkg, if_neg e]⟩
theorem updc_same (cnt : Int → Int → Int) (l o : Int) : updc cnt l o (cnt l o) = cnt := by
 funext l' o'
 unfold updc
 split
 ·rename_i h; rw [h.1, h.2]
 ·rfl
/-- 'm[k]++': the entry, then what is stored in it -/
theorem Tal.entry {w : World} {b n : Nat} {cnt : Int → Int → Int} (h : Tal w b n cnt) (hn : n < maxLen) (l o : Int) (hl : WfI l) (ho : WfI o) : ∃ (st : Nat) (O1 : Obj),
    (∀ wx : World, wx.heap[b]? = w.heap[b]? ∨ wx.heap[b]? = some O1 → (Instr.mapEntry 101 (.map (some b)) (mval l o)).run Try.prog wx = .ok (.tuple #[.int .i64 (cnt l o), goInt st]) (setBlock wx b O1) ∧ wx.grownBy (setBlock wx b O1) (some b) ∧ (setBlock wx b O1).heap[b]? = some O1) ∧
    (∀ wx : World, wx.heap[b]? = some O1 → Tal wx b (n + 1) cnt) ∧
    (∀ (wx : World) (c : Int), wx.heap[b]? = some O1 → WfI c → ∃ w', (Instr.entryStore 101 (.map (some b)) (goInt st) (.int .i64 c)).run Try.prog wx = .ok () w' ∧ Tal w' b (n + 1) (updc cnt l o c) ∧ wx.grownBy w' (some b)) := by
 have hlook := h.lookup l o hl ho
 have h' := h
 obtain ⟨D, hown, hm, hD⟩ := h
 have hown' := hown
 obtain ⟨es, clock, hb, F, hs, hDe⟩ := hown
 obtain ⟨kl, hk⟩ := k_lits l o hl ho
 obtain ⟨v0, st, es1, c1, hrun, hv0, hst⟩ := entry_then_store k_law0 Try.underlying101 k_zero hb F hk
 have hkeys := F.keys
 have huniq : ∀ x ∈ es.toList, ∀ y ∈ es.toList, x.key = y.key → x = y := fun x hx y hy e => entry_eq_of_key (List.pairwise_map.1 F.stamped.2.2) hx hy e
 have store : ∀ (wx : World) (c : Int), wx.heap[b]? = some (.map es1 c1) → WfI c → ∃ w', (Instr.entryStore 101 (.map (some b)) (goInt st) (.int .i64 c)).run Try.prog wx = .ok () w' ∧ Tal w' b (n + 1) (updc cnt l o c) ∧ wx.grownBy w' (some b) := fun wx c hwx hc => by
  obtain ⟨es', c', h1, h2⟩ := hst wx (.int .i64 c) hwx
  obtain ⟨w', h3, h4, _⟩ := hown'.update k_law Try.underlying101 hn hk (plainElem_int Try.underlying3 hc)
  rw [h2] at h3
  obtain rfl : setBlock w b (.map es' c') = w' := by simpa using h3
  refine ⟨_, h1, Tal.put hk hm hD ?_, setBlock_grown _ hwx⟩
  obtain ⟨es2, c2, g1, g2⟩ := h4
  exact ⟨es2, c2, (heap_setBlock_same hwx _).trans ((heap_setBlock_same hb _).symm.trans g1), g2⟩
 rcases hv0 with ⟨e0, he0, hke, rfl⟩ | ⟨hnone, rfl⟩
 ·have hold := entry_old hb hkeys hk he0 hke (fun e he hek => huniq e he e0 he0 (hek.trans hke.symm))
  rw [hrun] at hold
  simp only [Result.ok.injEq, Value.tuple.injEq] at hold
  have hst' : st = e0.born := goInt_inj (by simpa using hold.1)
  have hO := setBlock_at hb hold.2
  have hval : e0.val = .int .i64 (cnt l o) := by
   rcases Maps.fit_look false k_law Try.underlying101 (k_zero w) hb F hk with ⟨_, hno, _⟩ | ⟨e2, y, he2, hk2, hr2, _⟩
   ·exact absurd hke (hno e0 he0)
   ·have := huniq e2 he2 e0 he0 (hk2.trans hke.symm)
    subst this
    simp only [Bool.false_eq_true, if_false] at hr2
    rw [hlook] at hr2
    simpa using hr2.symm
  refine ⟨st, .map es1 c1, fun wx hwx => ?_, fun wx hwx => ?_, store⟩
  ·have hwx' : wx.heap[b]? = some (.map es clock) := by
    rcases hwx with h | h
    ·exact h.trans hb
    ·rw [h, hO]
   have := entry_old hwx' hkeys hk he0 hke (fun e he hek => huniq e he e0 he0 (hek.trans hke.symm))
   rw [hO, hst', ← hval]
   exact ⟨this, setBlock_grown _ hwx', heap_setBlock_same hwx' _⟩
  ·have hwx' : wx.heap[b]? = w.heap[b]? := by rw [hwx, hO, hb]
   obtain ⟨D', g1, g2⟩ := h'.of_block hwx'
   exact ⟨D', g1.mono (Nat.le_succ _), g2⟩
 ·have hnew : ∀ wx : World, wx.heap[b]? = some (.map es clock) → (Instr.mapEntry 101 (.map (some b)) (mval l o)).run Try.prog wx = .ok (.tuple #[.int .i64 0, goInt clock]) (setBlock wx b (.map (es.push ⟨mval l o, .int .i64 0, clock⟩) (clock + 1))) := fun wx hwx => by
   rcases k_law0.find wx hk es.toList hkeys with ⟨h1, _⟩ | ⟨j, e1, _, h2, h3⟩
   ·simp [Instr.mapEntry, run_underlying Try.underlying101, MapKept.run_getObj_map hwx, k_law0.check wx false hk, h1, k_zero, MapKept.run_setObj_map _ hwx, Result.andThen, setBlock]
   ·exact absurd h3 (hnone e1 (List.mem_of_getElem? h2))
  have hold := hnew w hb
  rw [hrun] at hold
  simp only [Result.ok.injEq, Value.tuple.injEq] at hold
  have hst' : st = clock := goInt_inj (by simpa using hold.1)
  have hO := setBlock_at hb hold.2
  have hval : (Value.int .i64 0) = .int .i64 (cnt l o) := by
   rcases Maps.fit_look false k_law Try.underlying101 (k_zero w) hb F hk with ⟨hr2, _⟩ | ⟨e2, y, he2, hk2, _⟩
   ·simp only [Bool.false_eq_true, if_false] at hr2
    rw [hlook] at hr2
    simpa using hr2.symm
   ·exact absurd hk2 (hnone e2 he2)
  have hc0 : cnt l o = 0 := by simpa using hval.symm
  refine ⟨st, .map es1 c1, fun wx hwx => ?_, fun wx hwx => ?_, store⟩
  ·rw [hO, hst', ← hval]
   rcases hwx with h | h
   ·have hwx' := h.trans hb
    exact ⟨hnew wx hwx', setBlock_grown _ hwx', heap_setBlock_same hwx' _⟩
   ·rw [hO] at h
    refine ⟨?_, setBlock_grown _ h, heap_setBlock_same h _⟩
    exact entry_old (e0 := ⟨mval l o, .int .i64 0, clock⟩) h (fun e he => by
     rw [Array.toList_push, List.mem_append, List.mem_singleton] at he
     rcases he with he | rfl
     ·exact hkeys e he
     ·exact ⟨kl, hk⟩) hk (by simp) rfl (fun e he hek => by
     rw [Array.toList_push, List.mem_append, List.mem_singleton] at he
     rcases he with he | rfl
     ·exact absurd hek (hnone e he)
     ·rfl)
  ·obtain ⟨w', h3, h4, _⟩ := hown'.update k_law Try.underlying101 hn hk (plainElem_int (a := 0) Try.underlying3 (by decide))
   have hupd : (Instr.mapUpdate 101 (.map (some b)) (mval l o) (.int .i64 0)).run Try.prog w = .ok () (setBlock w b (.map (es.push ⟨mval l o, .int .i64 0, clock⟩) (clock + 1))) := by
    rcases k_law0.find w hk es.toList hkeys with ⟨h1, _⟩ | ⟨j, e1, _, h2, h3⟩
    ·simp [Instr.mapUpdate, run_underlying Try.underlying101, MapKept.run_getObj_map hb, k_law0.check w false hk, h1, MapKept.run_setObj_map _ hb, Result.andThen, setBlock]
    ·exact absurd h3 (hnone e1 (List.mem_of_getElem? h2))
   rw [hupd] at h3
   obtain rfl := (by simpa using h3 : setBlock w b (.map (es.push ⟨mval l o, .int .i64 0, clock⟩) (clock + 1)) = w')
   have h5 := Tal.put hk hm hD h4
   have h6 : updc cnt l o 0 = cnt := by
    have := updc_same cnt l o
    rwa [hc0] at this
   rw [h6] at h5
   refine h5.of_block ?_
   rw [hwx, hO]
   have := heap_setBlock_same hb (Obj.map (es.push ⟨mval l o, .int .i64 0, clock⟩) (clock + 1))
   first | exact this.symm | (rw [this])
end Go.Proofs.Ytbimkcjdodgojaa
