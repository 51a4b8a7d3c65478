/-
  The queue gone over from its end: the iterator's contract.
-/
import Derived.RangeFuncNested
import Derived.RangeFuncBound
import Derived.RangeFuncCalls
import Derived.RangeFuncLeaves
import Derived.Shelf.Abstract
import Derived.Shelf.RegionOpen
import Derived.WalkKit
import Derived.OwnWalkIn
import Derived.TacticsInMore
import Derived.LoopNIn
import Derived.LoopIn
import Derived.Test.YtdhompiapklnaaaD4
namespace Go.Proofs.Ytdhompiapklnaaa
open Go.RowKit Go.Shelf
attribute [local go_sem] Oper.semAt_some

theorem at_loadIn {F : Fence} {n : Nat} {P : Program} {ops : Array Oper} {Q : Exit → Act → World → Prop} {rest : List Oper} {dst : Option Tmp} {t ty : TypeId} {x : Operand} {pos : String} {aft : Array Edge} {g : Option (Nat × Bool)} {a : Act} {w : World}
    (h : wpListIn F n P ops Q (⟨dst, .load t x, ty, pos, aft, g⟩ :: rest) a w) : wpListIn F n P ops Q (⟨dst, .load t x, ty, pos, aft, g⟩ :: rest) a w := h
theorem at_storeIn {F : Fence} {n : Nat} {P : Program} {ops : Array Oper} {Q : Exit → Act → World → Prop} {rest : List Oper} {dst : Option Tmp} {t ty : TypeId} {x y : Operand} {pos : String} {aft : Array Edge} {g : Option (Nat × Bool)} {a : Act} {w : World}
    (h : wpListIn F n P ops Q (⟨dst, .store t x y, ty, pos, aft, g⟩ :: rest) a w) : wpListIn F n P ops Q (⟨dst, .store t x y, ty, pos, aft, g⟩ :: rest) a w := h

theorem wpListIn_load_mid {F : Fence} {n : Nat} {P : Program} {ops : Array Oper} {rest : List Oper} {op : Oper} {a : Act} {w : World} {Q : Exit → Act → World → Prop} (hgd : op.guard = none) (ty : TypeId) (x : Operand) (ho : op.op = .load ty x)
    (b o : Nat) (hx : a.eval x = .pointer (some ⟨b, o, none⟩)) (cs : List Value) (d : TypeDesc) (hc : w.rangeAt b o cs)
    (hu : P.underlying ty = some d) (hd : d.isRow = true) (hi : (P.info? ty).map (·.size) = some cs.length)
    (h : wpListIn F n P ops Q rest (a.put op.dst (.agg cs.toArray)) w) : wpListIn F n P ops Q (op :: rest) a w := by
  refine wpListIn_plain hgd fun K hK' => ?_
  unfold Oper.wpIn
  refine ⟨?_, ?_⟩
  · simp [Oper.about, ho]
  · rw [Oper.semAt_plain F _ _ (by rw [ho]; intro c hc'; cases hc')]
    have hrun := run_loadAt_mid (P := P) w b o ty cs d hc hu hd hi
    simp only [execOp, ho, hx, Sem.run_bind, hrun, Result.andThen_ok, Sem.run_pure, Oper.uponIn_value]
    exact hK' _ _ h
theorem wpListIn_store_mid {F : Fence} {n : Nat} {P : Program} {ops : Array Oper} {rest : List Oper} {op : Oper} {a : Act} {w : World} {Q : Exit → Act → World → Prop} (hgd : op.guard = none) (ty : TypeId) (x y : Operand) (ho : op.op = .store ty x y)
    (b o : Nat) (cells : List Value) (hx : a.eval x = .pointer (some ⟨b, o, none⟩)) (hy : a.eval y = .agg cells.toArray)
    (ht : w.there b o cells.length) (hi : (P.info? ty).map (·.size) = some cells.length) (h1 : ∀ v ∈ cells, v.oneCell' = true)
    (h : wpListIn F n P ops Q rest (a.put op.dst undef) (w.setCells b o cells)) : wpListIn F n P ops Q (op :: rest) a w := by
  refine wpListIn_plain hgd fun K hK' => ?_
  unfold Oper.wpIn
  refine ⟨?_, ?_⟩
  · simp [Oper.about, ho]
  · rw [Oper.semAt_plain F _ _ (by rw [ho]; intro c hc'; cases hc')]
    have hrun := run_storeAt_mid (P := P) w b o ty cells.toArray (by simpa using ht) (by simpa using hi) (all_oneCell_toArray h1)
    simp only [execOp, ho, hx, hy, Sem.run_bind, hrun, Result.andThen_ok, Sem.run_pure, Oper.uponIn_skip]
    exact hK' _ _ h
theorem there_new (w : World) (t : TypeId) (c : Array Value) (m : Nat) (hm : m ≤ c.size) : (w.alloc (.cells c t)).there w.heap.size 0 m := by
  intro j hj
  simp only [Nat.zero_add]
  have hb := Blk.new w t c
  refine ⟨?_, hb.frozen j⟩
  rw [hb.cell j]
  have : j < c.size := by omega
  simp [this]
theorem wpListIn_store_new {F : Fence} {m : Nat} {P : Program} {ops : Array Oper} {rest : List Oper} {op : Oper} {a : Act} {Q : Exit → Act → World → Prop} (w : World) (hgd : op.guard = none) (ty : TypeId) (x y : Operand) (ho : op.op = .store ty x y)
    (n : Nat) (c : Array Value) (t : TypeId) (cells : List Value) (hx : a.eval x = .pointer (some ⟨n, 0, none⟩)) (hy : a.eval y = .agg cells.toArray) (hn : n = w.heap.size)
    (hc : c.size = cells.length) (hi : (P.info? ty).map (·.size) = some cells.length) (h1 : ∀ v ∈ cells, v.oneCell' = true)
    (h : wpListIn F m P ops Q rest (a.put op.dst undef) (w.alloc (.cells cells.toArray t))) : wpListIn F m P ops Q (op :: rest) a (w.alloc (.cells c t)) := by
  subst hn
  refine wpListIn_store_mid hgd ty x y ho w.heap.size 0 cells hx hy (there_new w t c _ (by omega)) hi h1 ?_
  rw [setCells_new w c t cells hc]
  exact h

/-- What the iterator hands over at place x: the place, and the write. -/
def encQ (q : List (Int × List Value)) (x : Fin q.length) : Array Value := #[.int .i64 (x.1 : Int), .agg (put1 (q.getD x.1 (0, []))).toArray]

theorem fromEnd_any (A : Option Addr) (n c : Nat) (w : World) :
    Calls Try.prog 66 #[.slice A n c] w fun e w' => e = .returned (.func (.func 70) #[] #[.pointer (some ⟨w.heap.size, 0, none⟩)]) ∧ w' = w.alloc (.cells #[.slice A n c] 71) := by
  go_enter Try.func66, Try.ntmps66
  go_wp2
  go_ret
  exact ⟨rfl, rfl⟩

/-- Where a write of the queue lies, below n₀. -/
def Qs (n₀ : Nat) (w : World) (A : Option Addr) (q : List (Int × List Value)) : Prop := 0 < q.length → ∃ g, A = some ⟨g, 0, none⟩ ∧ g < n₀ ∧ ∀ j, j < q.length → w.rangeAt g (j * 65) (put1 (q.getD j (0, [])))
theorem Qs.below {n₀ : Nat} {w w' : World} {A : Option Addr} {q : List (Int × List Value)} (h : Qs n₀ w A q) (hb : Below n₀ w w') : Qs n₀ w' A q := fun hq => by
  obtain ⟨g, hA, hg, hr⟩ := h hq
  exact ⟨g, hA, hg, fun j hj i v hi => (hb.cell (p := ⟨g, j * 65 + i, none⟩) hg).trans (hr j hj i v hi)⟩

set_option maxRecDepth 100000 in
set_option maxHeartbeats 2000000 in
theorem iter_in (l Bs n₀ : Nat) (A : Option Addr) (c n : Nat) (q : List (Int × List Value)) (hnq : n = q.length) (hq : q.length ≤ 1000000) (hb : ∀ e ∈ q, B64 e.2) (hBs : Bs < n₀) (J Jx : List (Fin q.length) → World → Prop)
    (hY : ∀ pre x W, J pre W → pre.length < q.length → YieldAt Fence.wide (5 - 1) Try.prog l (encQ q x) W fun e W' =>
      (e = .returned (.bool true) ∧ J (pre ++ [x]) W' ∧ Below n₀ W W') ∨ (e = .returned (.bool false) ∧ Jx (pre ++ [x]) W'))
    (W : World) (hBc : W.cell? ⟨Bs, 0, none⟩ = some (.slice A n c)) (hQ : Qs n₀ W A q) (h0 : J [] W) :
    CallsIn Fence.wide 5 Try.prog 70 #[.func (.yield l) #[] #[], .pointer (some ⟨Bs, 0, none⟩)] W fun e W' => (∃ v, e = .returned v) ∧
      ((∃ ys, (∀ i : Fin q.length, i ∈ ys) ∧ J ys W') ∨ (∃ pre, (∀ ini x, pre = ini ++ [x] → ∀ i : Fin q.length, x.1 < i.1 → i ∈ ini) ∧ Jx pre W')) := by
  have HY := Lib.hid hY
  have HB := Lib.hid hb
  have HN := Lib.hid hnq
  have hn : n ≤ 1000000 := by omega
  clear hY hb hnq
  refine callsIn_of_wp Try.func70 rfl trivial ?_ rfl
  simp only [Try.ntmps70, List.size_toArray, List.length_cons, List.length_nil, Nat.reduceAdd, Nat.reduceSub, Array.replicate_succ, Array.replicate_zero, List.push_toArray, List.append_toArray, List.nil_append, List.cons_append]
  gi_wp2
  gi_loopw [3] (fun i wr => ∃ (m : Nat) (pre : List (Fin q.length)), m ≤ n ∧ i = .int .i64 ((m : Int) - 1) ∧ pre.length + m = n ∧ (∀ i : Fin q.length, m ≤ i.1 → i ∈ pre) ∧ J pre wr ∧ Below n₀ W wr)
    (fun i _ => (intOf i + 1).toNat)
  case atStart => exact ⟨n, [], Nat.le_refl _, rfl, by simp, fun i hi => absurd i.2 (by have := HN.out; omega), h0, Below.refl _ _⟩
  case round =>
    obtain ⟨m, pre, hm, rfl, hl, hin, hJs, hnx⟩ := hrel
    have hBr := (hnx.cell (p := ⟨Bs, 0, none⟩) hBs).trans hBc
    have HIN := Lib.hid hin
    have HL := Lib.hid hl
    clear hin hl
    cases m with
    | zero =>
      rw [show ((0 : Nat) : Int) - 1 = -1 by omega]
      gi_wp2
      go_end0
      exact ⟨⟨_, rfl⟩, .inl ⟨pre, fun i => HIN.out i (Nat.zero_le _), hJs⟩⟩
    | succ j =>
      rw [show ((j + 1 : Nat) : Int) - 1 = (j : Int) by omega]
      have hjq : j < q.length := by have := HN.out; omega
      obtain ⟨g, rfl, hg, hr⟩ := (hQ.below hnx) (by omega)
      have hR := Lib.hid (hr j hjq)
      obtain ⟨fn, tmps, assign, body, hy, hRo⟩ := HY.out pre ⟨j, hjq⟩ wr hJs (by have := HL.out; have := HN.out; omega)
      have hRO := Lib.hid hRo
      have e' : q.getD j (0, []) = q[j] := by simp [List.getD, hjq]
      have hbe : B64 (q.getD j (0, [])).2 := by rw [e']; exact HB.out _ (List.getElem_mem hjq)
      have hi86 := Lib.hid (show (Try.prog.info? 86).map (·.size) = some (put1 (q.getD j (0, []))).length by rw [put1_len hbe]; exact Try.i86)
      have hjn : j < n := by omega
      simp only [encQ] at hy
      clear hr hRo e' hbe
      generalize put1 (q.getD j (0, [])) = P at *
      gi_wp2_with ((with_reducible refine at_loadIn (t := 86) ?_); refine wpListIn_load_mid rfl 86 _ rfl g (j * 65) rfl P _ hR.out Try.underlying86 rfl hi86.out ?_)
      refine hRO.out.mono ?_
      rintro e W3 (⟨rfl, hJ3, hk3⟩ | ⟨rfl, hJx3⟩)
      · gi_wp2
        go_roundw
        case rel =>
          refine ⟨j, pre ++ [⟨j, hjq⟩], by omega, rfl, by have := HL.out; simp; omega, fun i hi => ?_, hJ3, hnx.trans hk3⟩
          by_cases e : i.1 = j
          · exact List.mem_append.2 (.inr (by simp [Fin.ext_iff, e]))
          · exact List.mem_append.2 (.inl (HIN.out i (by omega)))
        case measure => simp [intOf]
      · gi_wp2
        refine bodyPost_ret (results_none rfl _ _ _) rfl ?_
        refine ⟨⟨_, rfl⟩, .inr ⟨_, fun ini x e i hi => ?_, hJx3⟩⟩
        obtain ⟨rfl, e5⟩ := List.append_inj' e rfl
        obtain rfl : (⟨j, hjq⟩ : Fin q.length) = x := by simpa using e5
        exact HIN.out i hi

/-- All writes have come; or, the body having left, all behind the last one that came. -/
theorem iter_stops (Bs n₀ : Nat) (A : Option Addr) (c : Nat) (q : List (Int × List Value)) (hq : q.length ≤ 1000000) (hb : ∀ e ∈ q, B64 e.2) (hBs : Bs < n₀) (w : World) (hn : n₀ ≤ w.heap.size)
    (hBc : w.cell? ⟨Bs, 0, none⟩ = some (.slice A q.length c)) (hQ : Qs n₀ w A q) :
    SeqStopsK Fence.wide 5 Try.prog 70 #[.pointer (some ⟨Bs, 0, none⟩)] (encQ q) (Below n₀) (fun ys => ∀ i : Fin q.length, i ∈ ys)
      (fun pre => ∀ ini x, pre = ini ++ [x] → ∀ i : Fin q.length, x.1 < i.1 → i ∈ ini) q.length w := fun l J Jx W hW _ _ hY h0 =>
  iter_in l Bs n₀ A c q.length q rfl hq hb hBs J Jx hY W ((hW.cell (p := ⟨Bs, 0, none⟩) (by show Bs < _; omega)).trans hBc) (hQ.below (hW.mono hn)) h0

end Go.Proofs.Ytdhompiapklnaaa
