/-
  Several texts in one: L1, L2, L1c, L3.
-/
import Derived.Test.YtiipglmbfgmbbaaGreatDoorChecked
import Derived.Test.YtiipglmbfgmbbaaGreatDoorPkA
import Derived.Shelf.Abstract
import Derived.Shelf.RegionOpen
import Derived.OwnWalkIn
import Derived.TacticsInMore
import Derived.LoopNIn
import Derived.LoopIn
import Derived.RegionIn
import Derived.Lib.Hide
import Derived.WalkMore
import Derived.ScopeJumps
namespace Go.Proofs.YtiipglmbfgmbbaaGreatDoor
open Go.RowKit Go.Shelf
attribute [local go_sem] Oper.semAt_some

/-- A text of bytes. -/
abbrev tx (l : List UInt8) : Value := .string ⟨l.toArray⟩
/-- The byte at a place. -/
def bt (l : List UInt8) (i : Nat) : Int := ((l.getD i 0).toNat : Int)
theorem bt_of {l : List UInt8} {i : Nat} (h : i < l.length) : (((⟨l.toArray⟩ : ByteArray)[i]'(by simpa [ByteArray.size] using h)).toNat : Int) = bt l i := by
  have e : ((⟨l.toArray⟩ : ByteArray)[i]'(by simpa [ByteArray.size] using h)) = l[i] := rfl
  rw [e]
  simp [bt, List.getD, h]
theorem bt0 (l : List UInt8) (i : Nat) : 0 ≤ bt l i := by unfold bt; omega
theorem bt1 (l : List UInt8) (i : Nat) : bt l i ≤ 255 := by unfold bt; have := (l.getD i 0).toNat_lt; omega
/-- What is handed on in the round k. -/
def byE (l : List UInt8) (at_ : Nat) (k : Nat) : Array Value := #[.int .i64 ((at_ + k : Nat) : Int), .int .u8 (bt l (at_ + k))]

theorem from_any (l : List UInt8) (p : Int) (w : World) : Calls Tryz.prog 88 #[tx l, .int .i64 p] w fun e w' => e = .returned (.func (.func 124) #[] #[.pointer (some ⟨w.heap.size + 1, 0, none⟩), .pointer (some ⟨w.heap.size, 0, none⟩)]) ∧ w' = (w.alloc (.cells #[tx l] 9)).alloc (.cells #[.int .i64 p] 3) := by
  go_enter Tryz.func88, Tryz.ntmps88
  go_wp2
  go_ret
  exact ⟨rfl, rfl⟩

set_option maxRecDepth 100000 in
set_option maxHeartbeats 4000000 in
theorem from1_mem (d : Nat) (hd : 1 ≤ d) (l : List UInt8) (p : Nat) (hl : l.length ≤ 1000000) (hp : p ≤ 1000000) (n₀ m : Nat) (w : World) (hn0 : n₀ ≤ m) (hm : Blk w m 9 #[tx l]) (hm1 : Blk w (m + 1) 3 #[.int .i64 (p : Int)]) :
    SeqMem Fence.wide d Tryz.prog 124 #[.pointer (some ⟨m + 1, 0, none⟩), .pointer (some ⟨m, 0, none⟩)] (byE l p) (l.length - p) n₀ m w := fun lb J Jx W hW hJ hJx hY h0 => by
  have hmW : Blk W m 9 #[tx l] := hm.below hW hm.lt
  have hmW1 : Blk W (m + 1) 3 #[.int .i64 (p : Int)] := hm1.below hW hm1.lt
  refine callsIn_of_wp Tryz.func124 rfl trivial ?_ rfl
  simp only [Tryz.ntmps124, List.size_toArray, List.length_cons, List.length_nil, Nat.reduceAdd, Nat.reduceSub, Array.replicate_succ, Array.replicate_zero, List.push_toArray, List.append_toArray, List.nil_append, List.cons_append]
  have c0 : W.cell? ⟨m, 0, none⟩ = some (tx l) := hmW.cell 0
  have c1 : W.cell? ⟨m + 1, 0, none⟩ = some (.int .i64 (p : Int)) := hmW1.cell 0
  gi_wp2
  clear c0 c1
  gi_loopw [4] (fun v wr => ∃ k : Nat, k ≤ l.length - p ∧ v = .int .i64 ((p + k : Nat) : Int) ∧ J k wr ∧ Blk wr m 9 #[tx l]) (fun v _ => l.length - (intOf v).toNat)
  case atStart => exact ⟨0, Nat.zero_le _, rfl, h0, hmW⟩
  case round =>
    obtain ⟨k, hk, rfl, hJk, hmr⟩ := hrel
    have c0 : wr.cell? ⟨m, 0, none⟩ = some (.string ⟨l.toArray⟩) := hmr.cell 0
    by_cases hlt : k < l.length - p
    · obtain ⟨fn, tmps, assign, body, hy, hR⟩ := hY k wr hJk hlt
      unfold byE at hy
      have q0 : p + k < l.length := by omega
      have e0 := bt_of q0
      have k0 : (0 : Int) ≤ ((p + k : Nat) : Int) := by omega
      have k1 : ((p + k : Nat) : Int) < (l.length : Int) := by omega
      have k2 : ((p + k : Nat) : Int) < 9000000 := by omega
      rw [← e0] at hy
      clear e0
      generalize hq : p + k = q at *
      gi_wp2
      refine hR.mono ?_
      rintro e W3 (⟨rfl, hJ3, hk3⟩ | ⟨rfl, hJx3⟩)
      · gi_wp2
        go_roundw
        case rel => exact ⟨k + 1, by omega, by rw [← hq]; go_num, hJ3, (hk3.high m (Nat.le_refl _) hmr.lt).trans hmr⟩
        case measure => simp [intOf]; omega
      · gi_wp2
        refine bodyPost_ret (results_none rfl _ _ _) rfl ?_
        exact ⟨⟨_, rfl⟩, .inr ⟨k, hlt, hJx3⟩⟩
    · obtain rfl : k = l.length - p := by omega
      have k1 : ¬ (((p + (l.length - p) : Nat) : Int) < (l.length : Int)) := by omega
      gi_wp2
      go_end0
      exact ⟨⟨_, rfl⟩, .inl hJk⟩
end Go.Proofs.YtiipglmbfgmbbaaGreatDoor

namespace Go.Proofs.YtiipglmbfgmbbaaGreatDoor
open Go.RowKit Go.Shelf

def capB (b : Int) : Int := if 97 ≤ b ∧ b ≤ 122 then b - 32 else b
def letB (b : Int) : Bool := (decide (65 ≤ capB b) && decide (capB b ≤ 90)) || (b == 95)
def digB (b : Int) : Bool := decide (48 ≤ b) && decide (b ≤ 57)
def innB (b : Int) : Bool := letB b || digB b
def plnB (b : Int) : Bool := decide (32 ≤ b) && decide (b ≤ 126)

theorem capital_any (b : Int) (h0 : 0 ≤ b) (h1 : b ≤ 255) (w : World) : Calls Tryz.prog 126 #[.int .u8 b] w fun e w' => e = .returned (.int .u8 (capB b)) ∧ w' = w := by
  unfold capB
  by_cases ha : 97 ≤ b
  · have d1 : decide (97 ≤ b) = true := decide_eq_true ha
    by_cases hb : b ≤ 122
    · have d2 : decide (b ≤ 122) = true := decide_eq_true hb
      rw [if_pos ⟨ha, hb⟩]
      go_enter Tryz.func126, Tryz.ntmps126
      go_wp2
      go_ret
      exact ⟨congrArg (fun x => Ending.returned (Value.int .u8 x)) (by omega), rfl⟩
    · have d2 : decide (b ≤ 122) = false := decide_eq_false hb
      rw [if_neg (fun h => hb h.2)]
      go_enter Tryz.func126, Tryz.ntmps126
      go_wp2
      go_ret
      exact ⟨rfl, rfl⟩
  · have d1 : decide (97 ≤ b) = false := decide_eq_false ha
    rw [if_neg (fun h => ha h.1)]
    go_enter Tryz.func126, Tryz.ntmps126
    go_wp2
    go_ret
    exact ⟨rfl, rfl⟩
theorem capB_in {b : Int} (h0 : 0 ≤ b) (h1 : b ≤ 255) : 0 ≤ capB b ∧ capB b ≤ 255 := by unfold capB; split <;> omega
theorem letter_any (b : Int) (h0 : 0 ≤ b) (h1 : b ≤ 255) (w : World) : Calls Tryz.prog 90 #[.int .u8 b] w fun e w' => e = .returned (.bool (letB b)) ∧ w' = w := by
  have C := Lib.hid (capital_any b h0 h1)
  unfold letB
  obtain ⟨c0, c1⟩ := capB_in h0 h1
  generalize capB b = c at *
  by_cases ha : 65 ≤ c
  · have d1 : decide (65 ≤ c) = true := decide_eq_true ha
    go_enter Tryz.func90, Tryz.ntmps90
    go_wp2_with (go_at_call 126; refine (C.out _).mono ?_; rintro e w' ⟨rfl, rfl⟩)
    all_goals
      go_ret
      exact ⟨by first | (rw [d1]; simp; done) | simp_all, rfl⟩
  · have d1 : decide (65 ≤ c) = false := decide_eq_false ha
    go_enter Tryz.func90, Tryz.ntmps90
    go_wp2_with (go_at_call 126; refine (C.out _).mono ?_; rintro e w' ⟨rfl, rfl⟩)
    all_goals
      go_ret
      exact ⟨by first | (rw [d1]; simp; done) | simp_all, rfl⟩
theorem digit_any (b : Int) (h0 : 0 ≤ b) (h1 : b ≤ 255) (w : World) : Calls Tryz.prog 92 #[.int .u8 b] w fun e w' => e = .returned (.bool (digB b)) ∧ w' = w := by
  unfold digB
  by_cases ha : 48 ≤ b
  · have d1 : decide (48 ≤ b) = true := decide_eq_true ha
    go_enter Tryz.func92, Tryz.ntmps92
    go_wp2
    go_ret
    exact ⟨by simp [d1], rfl⟩
  · have d1 : decide (48 ≤ b) = false := decide_eq_false ha
    go_enter Tryz.func92, Tryz.ntmps92
    go_wp2
    go_ret
    exact ⟨by simp [d1], rfl⟩
theorem plain_any (b : Int) (h0 : 0 ≤ b) (h1 : b ≤ 255) (w : World) : Calls Tryz.prog 100 #[.int .u8 b] w fun e w' => e = .returned (.bool (plnB b)) ∧ w' = w := by
  unfold plnB
  by_cases ha : 32 ≤ b
  · have d1 : decide (32 ≤ b) = true := decide_eq_true ha
    go_enter Tryz.func100, Tryz.ntmps100
    go_wp2
    go_ret
    exact ⟨by simp [d1], rfl⟩
  · have d1 : decide (32 ≤ b) = false := decide_eq_false ha
    go_enter Tryz.func100, Tryz.ntmps100
    go_wp2
    go_ret
    exact ⟨by simp [d1], rfl⟩
theorem inner_any (b : Int) (h0 : 0 ≤ b) (h1 : b ≤ 255) (w : World) : Calls Tryz.prog 127 #[.int .u8 b] w fun e w' => e = .returned (.bool (innB b)) ∧ w' = w := by
  have L := Lib.hid (letter_any b h0 h1)
  have D := Lib.hid (digit_any b h0 h1)
  unfold innB
  generalize letB b = x at *
  generalize digB b = y at *
  cases x <;> (
    go_enter Tryz.func127, Tryz.ntmps127
    go_wp2_with (first | (go_at_call 90; refine (L.out _).mono ?_; rintro e w' ⟨rfl, rfl⟩) | (go_at_call 92; refine (D.out _).mono ?_; rintro e w' ⟨rfl, rfl⟩))
    go_ret
    exact ⟨by first | rfl | trivial, rfl⟩)
end Go.Proofs.YtiipglmbfgmbbaaGreatDoor

namespace Go.Proofs.YtiipglmbfgmbbaaGreatDoor
open Go.RowKit Go.Shelf
attribute [local go_sem] Oper.semAt_some

set_option maxRecDepth 100000 in
set_option maxHeartbeats 4000000 in
theorem from1_need (d : Nat) (hd : 1 ≤ d) (l : List UInt8) (p : Nat) (hl : l.length ≤ 1000000) (hp : p ≤ 1000000) (m : Nat) (w : World) (hm1 : Blk w (m + 1) 3 #[.int .i64 (p : Int)]) :
    SeqNeed Fence.wide d Tryz.prog 124 #[.pointer (some ⟨m + 1, 0, none⟩), .pointer (some ⟨m, 0, none⟩)] (byE l p) (l.length - p) (fun W => Blk W m 9 #[tx l]) w := fun lb J Jx W hW hN hJ hJx hY h0 => by
  have hmW : Blk W m 9 #[tx l] := hN _ _ h0
  have hmW1 : Blk W (m + 1) 3 #[.int .i64 (p : Int)] := hm1.below hW hm1.lt
  refine callsIn_of_wp Tryz.func124 rfl trivial ?_ rfl
  simp only [Tryz.ntmps124, List.size_toArray, List.length_cons, List.length_nil, Nat.reduceAdd, Nat.reduceSub, Array.replicate_succ, Array.replicate_zero, List.push_toArray, List.append_toArray, List.nil_append, List.cons_append]
  have c0 : W.cell? ⟨m, 0, none⟩ = some (tx l) := hmW.cell 0
  have c1 : W.cell? ⟨m + 1, 0, none⟩ = some (.int .i64 (p : Int)) := hmW1.cell 0
  gi_wp2
  clear c0 c1
  gi_loopw [4] (fun v wr => ∃ k : Nat, k ≤ l.length - p ∧ v = .int .i64 ((p + k : Nat) : Int) ∧ J k wr) (fun v _ => l.length - (intOf v).toNat)
  case atStart => exact ⟨0, Nat.zero_le _, rfl, h0⟩
  case round =>
    obtain ⟨k, hk, rfl, hJk⟩ := hrel
    have hmr : Blk wr m 9 #[tx l] := hN _ _ hJk
    have c0 : wr.cell? ⟨m, 0, none⟩ = some (.string ⟨l.toArray⟩) := hmr.cell 0
    by_cases hlt : k < l.length - p
    · obtain ⟨fn, tmps, assign, body, hy, hR⟩ := hY k wr hJk hlt
      unfold byE at hy
      have q0 : p + k < l.length := by omega
      have e0 := bt_of q0
      have k0 : (0 : Int) ≤ ((p + k : Nat) : Int) := by omega
      have k1 : ((p + k : Nat) : Int) < (l.length : Int) := by omega
      have k2 : ((p + k : Nat) : Int) < 9000000 := by omega
      rw [← e0] at hy
      clear e0
      generalize hq : p + k = q at *
      gi_wp2
      refine hR.mono ?_
      rintro e W3 (⟨rfl, hJ3⟩ | ⟨rfl, hJx3⟩)
      · gi_wp2
        go_roundw
        case rel => exact ⟨k + 1, by omega, by rw [← hq]; go_num, hJ3⟩
        case measure => simp [intOf]; omega
      · gi_wp2
        refine bodyPost_ret (results_none rfl _ _ _) rfl ?_
        exact ⟨⟨_, rfl⟩, .inr ⟨k, hlt, hJx3⟩⟩
    · obtain rfl : k = l.length - p := by omega
      have k1 : ¬ (((p + (l.length - p) : Nat) : Int) < (l.length : Int)) := by omega
      gi_wp2
      go_end0
      exact ⟨⟨_, rfl⟩, .inl hJk⟩
end Go.Proofs.YtiipglmbfgmbbaaGreatDoor

namespace Go.Proofs.YtiipglmbfgmbbaaGreatDoor
open Go.RowKit Go.Shelf
attribute [local go_sem] Oper.semAt_some

/-- How many bytes of a kind a text has from a place on. -/
def runN (q : Int → Bool) : List UInt8 → Nat
  | [] => 0
  | b :: r => if q (b.toNat : Int) then runN q r + 1 else 0
def runE (q : Int → Bool) (l : List UInt8) (p : Nat) : Nat := p + runN q (l.drop p)
theorem runN_le (q : Int → Bool) : ∀ l : List UInt8, runN q l ≤ l.length
  | [] => Nat.le_refl _
  | b :: r => by have := runN_le q r; unfold runN; split <;> simp <;> omega
theorem runE_le {q : Int → Bool} {l : List UInt8} {p : Nat} (h : p ≤ l.length) : p ≤ runE q l p ∧ runE q l p ≤ l.length := by
  have := runN_le q (l.drop p)
  rw [List.length_drop] at this
  unfold runE
  omega
theorem runN_at (q : Int → Bool) : ∀ (l : List UInt8) (k : Nat), k ≤ l.length → (∀ j, j < k → q (bt l j) = true) → (k = l.length ∨ q (bt l k) = false) → runN q l = k
  | [], k, h, _, _ => by simp at h; subst h; rfl
  | b :: r, 0, _, _, h => by
    rcases h with h | h
    · simp at h
    · have : q (b.toNat : Int) = false := h
      unfold runN
      rw [this]
      rfl
  | b :: r, k + 1, hk, ha, h => by
    have h0 : q (b.toNat : Int) = true := ha 0 (by omega)
    unfold runN
    rw [if_pos h0, runN_at q r k (by simpa using hk) (fun j hj => ha (j + 1) (by omega)) (by
      rcases h with h | h
      · exact .inl (by simpa using h)
      · exact .inr h)]
theorem bt_drop (l : List UInt8) (p k : Nat) : bt (l.drop p) k = bt l (p + k) := by simp [bt, List.getD, List.getElem?_drop]
theorem runE_at {q : Int → Bool} {l : List UInt8} {p k : Nat} (h : p + k ≤ l.length) (ha : ∀ j, j < k → q (bt l (p + j)) = true) (he : p + k = l.length ∨ q (bt l (p + k)) = false) : runE q l p = p + k := by
  unfold runE
  rw [runN_at q (l.drop p) k (by rw [List.length_drop]; omega) (fun j hj => by rw [bt_drop]; exact ha j hj) (by
    rcases he with he | he
    · exact .inl (by rw [List.length_drop]; omega)
    · exact .inr (by rw [bt_drop]; exact he))]

theorem Blk.fresh {w : World} {t : TypeId} {cs : Array Value} {n : Nat} (h : n = w.heap.size) : Blk (w.alloc (.cells cs t)) n t cs := by subst h; exact Blk.new w t cs
/-- The block for the rounds' deferred calls is shut. -/
theorem below_shut {B D : Nat} (W : World) (o : Obj) (h : B ≤ D) : Below B W (W.putObj D o) := below_putObj W o h
theorem Blk.put {W : World} {g D : Nat} {t : TypeId} {cs : Array Value} (h : Blk W g t cs) (o : Obj) (hne : g ≠ D) : Blk (W.putObj D o) g t cs := (World.putObj_heap_other hne).trans h
theorem Blk.putR {W : World} {g D : Nat} {t : TypeId} {cs : Array Value} {o : Obj} (h : Blk W g t cs) (hD : W.heap[D]? = some o) (ho : o.isCells = false) (o' : Obj) : Blk (W.putObj D o') g t cs := by
  refine h.put o' fun e => ?_
  subst e
  unfold Blk at h
  rw [h] at hD
  injection hD with hD
  subst hD
  cases ho
theorem resT {fn : Func} {p : Tmp} {ty : TypeId} (h : fn.results = #[.cell p ty]) (tmps : Array Value) (w : World) (g : Nat) (i : Int)
    (hp : tmps.getD p undef = .pointer (some ⟨g, 0, none⟩)) (ht : ty = 3) (hg : Blk w g 3 #[.int .i64 i]) : (results fn tmps).run Tryz.prog w = .ok (.int .i64 i) w := by
  have d0 : w.cell? ⟨g, 0, none⟩ = some (.int .i64 i) := hg.cell 0
  have hp' : tmps[p]?.getD undef = .pointer (some ⟨g, 0, none⟩) := by simpa using hp
  subst ht
  simp [results, h, hp', go_sem, d0]

set_option maxRecDepth 100000 in
set_option maxHeartbeats 4000000 in
theorem run54_any (l : List UInt8) (p : Nat) (hl : l.length ≤ 1000000) (hp : p ≤ l.length) (w : World) :
    Calls Tryz.prog 99 #[tx l, .int .i64 (p : Int), .func (.func 127) #[] #[]] w fun e w' => e = .returned (.int .i64 (runE innB l p : Nat)) ∧ Below w.heap.size w w' := by
  have HF := Lib.hid (fun k W => inner_any (bt l k) (bt0 l k) (bt1 l k) W)
  have HS := Lib.hid (fun k (h : p + k ≤ l.length) (ha : ∀ j, j < k → innB (bt l (p + j)) = true) he => runE_at (q := innB) h ha he)
  generalize runE innB l p = R at *
  refine (callsIn_wide (n := 9)).1 ?_
  refine callsIn_of_wp_marks Tryz.func99 rfl trivial ?_ rfl
  simp only [Tryz.ntmps99, List.size_toArray, List.length_cons, List.length_nil, Nat.reduceAdd, Nat.reduceSub, Array.replicate_succ, Array.replicate_zero, List.push_toArray, List.append_toArray, List.nil_append, List.cons_append]
  gi_wp2_with (refine ⟨trivial, ?_⟩; gi_at_call 88; refine (callsIn_wide.2 (from_any _ _ _)).mono ?_; rintro e w' ⟨rfl, rfl⟩)
  obtain ⟨g, hg⟩ : ∃ g, w.heap.size = g := ⟨_, rfl⟩
  obtain ⟨W0, hW0⟩ : ∃ W0, ((((w.alloc (.cells #[.func (.func 127) #[] #[]] 129)).alloc (.cells #[.int .i64 0] 3)).alloc (.cells #[tx l] 9)).alloc (.cells #[.int .i64 (p : Int)] 3)) = W0 := ⟨_, rfl⟩
  have b0 : Blk W0 g 129 #[.func (.func 127) #[] #[]] := by rw [← hW0, ← hg]; exact (((Blk.new _ _ _).alloc _).alloc _).alloc _
  have b1 : Blk W0 (g + 1) 3 #[.int .i64 0] := by rw [← hW0, ← hg]; exact ((Blk.fresh (by simp)).alloc _).alloc _
  have b2 : Blk W0 (g + 2) 9 #[tx l] := by rw [← hW0, ← hg]; exact (Blk.fresh (by simp)).alloc _
  have b3 : Blk W0 (g + 2 + 1) 3 #[.int .i64 (p : Int)] := by rw [← hW0, ← hg]; exact Blk.fresh (by simp)
  have hb0 : Below g w W0 := by rw [← hW0, ← hg]; exact ((((Below.refl _ _).alloc (Nat.le_refl _) _).alloc (by simp) _).alloc (by simp; omega) _).alloc (by simp; omega) _
  have hs0 : W0.heap.size = g + 4 := by rw [← hW0, ← hg]; simp
  rw [hW0]
  rw [hg]
  clear hW0
  refine wpIn_rangeFunc_mem rfl (by omega) (gf := 124) (lb := #[.pointer (some ⟨g + 2 + 1, 0, none⟩), .pointer (some ⟨g + 2, 0, none⟩)]) rfl trivial (enters_of Tryz.func124 (by kernel_rfl) rfl)
    (from1_mem 8 (by omega) l p hl (by omega) g (g + 2) W0 (by omega) b2 b3) (by omega) (by omega) (fun _ => rfl)
    (fun k W => Hid (∀ j, j < k → innB (bt l (p + j)) = true) ∧ Blk W g 129 #[.func (.func 127) #[] #[]] ∧ Blk W (g + 1) 3 #[.int .i64 0] ∧ Below g w W)
    (fun c k W => c = .ret ∧ Hid (∀ j, j < k → innB (bt l (p + j)) = true) ∧ innB (bt l (p + k)) = false ∧ Blk W (g + 1) 3 #[.int .i64 ((p + k : Nat) : Int)] ∧ Below g w W)
    (fun k X Y hs hb => ⟨hs.1, hs.2.1.below hb (by omega), hs.2.2.1.below hb (by omega), hs.2.2.2.trans (hb.mono (by omega))⟩)
    (fun _ _ _ _ hs hb => ⟨hs.1, hs.2.1, hs.2.2.1, hs.2.2.2.1.below hb (by omega), hs.2.2.2.2.trans (hb.mono (by omega))⟩) ⟨Lib.hid (fun j hj => absurd hj (by omega)), b0, b1, hb0⟩
    (fun k a _ => a = { tmps := #[tx l, .int .i64 (p : Int), .func (.func 127) #[] #[], undef, undef, .pointer (some ⟨g, 0, none⟩), .pointer (some ⟨g + 1, 0, none⟩), .int .i64 ((p + k : Nat) : Int), .int .u8 (bt l (p + k)), tx l, .int .i64 (p : Int), .func (.func 124) #[] #[.pointer (some ⟨g + 1 + 1 + 1, 0, none⟩), .pointer (some ⟨g + 1 + 1, 0, none⟩)], .int .i64 ((p + k : Nat) : Int), .int .u8 (bt l (p + k)), undef, undef, undef, undef, undef, undef, undef], defers := [] })
    (fun k a X r o o' hs hr ho => hs) ?assign ?body ?done ?stop
  case assign =>
    intro lb k W hI hsz hk
    simp only [byE]
    gi_wp2
    exact ⟨Fixed.refl _ _ _, hI, rfl⟩
  case body =>
    rintro lb k a1 W ⟨i0, i1, i2, i3⟩ rfl hsz hk
    have e0 : W.cell? ⟨g, 0, none⟩ = some (.func (.func 127) #[] #[]) := i1.cell 0
    have e1 : W.cell? ⟨g + 1, 0, none⟩ = some (.int .i64 0) := i2.cell 0
    have f1 : W.frozen? ⟨g + 1, 0, none⟩ = false := i2.frozen 0
    have H1 := Lib.hid (HF.out (p + k))
    cases hq : innB (bt l (p + k)) with
    | true =>
      rw [hq] at H1
      gi_wp2_with (refine ⟨trivial, ?_⟩; gi_at_call 127; refine (callsIn_wide.2 (H1.out _)).mono ?_; rintro e w' ⟨rfl, rfl⟩)
      refine ⟨Fixed.refl _ _ _, Lib.hid (fun j hj => ?_), i1, i2, i3⟩
      by_cases hjk : j = k
      · subst hjk; exact hq
      · exact i0.out j (by omega)
    | false =>
      rw [hq] at H1
      gi_wp2_with (refine ⟨trivial, ?_⟩; gi_at_call 127; refine (callsIn_wide.2 (H1.out _)).mono ?_; rintro e w' ⟨rfl, rfl⟩)
      exact ⟨⟨(Below.refl _ _).setCell (p := ⟨g + 1, 0, none⟩) (by simp) _, fun j hj _ => Below.heap_setCell _ _ _ _ (by simp; omega)⟩, rfl, i0, hq, i2.set_ 0 _, i3.setCell (p := ⟨g + 1, 0, none⟩) (by simp) _⟩
  case done =>
    rintro D W hD ⟨i0, i1, i2, i3⟩ hK
    have e1 : W.cell? ⟨g + 1, 0, none⟩ = some (.int .i64 0) := i2.cell 0
    have f1 : W.frozen? ⟨g + 1, 0, none⟩ = false := i2.frozen 0
    have hR := HS.out (l.length - p) (by omega) i0.out (.inl (by omega))
    gi_wp2
    have r1 : Blk (W.setCell ⟨g + 1, 0, none⟩ (.int .i64 (l.length : Int))) (g + 1) 3 #[.int .i64 (l.length : Int)] := i2.set_ 0 _
    have r2 : Below g w (W.setCell ⟨g + 1, 0, none⟩ (.int .i64 (l.length : Int))) := i3.setCell (p := ⟨g + 1, 0, none⟩) (by simp) _
    have r3 : (W.setCell ⟨g + 1, 0, none⟩ (.int .i64 (l.length : Int))).heap[D]? = some (.deferred (some [])) := (Below.heap_setCell _ _ _ _ (by simp; omega)).trans hK
    generalize W.setCell ⟨g + 1, 0, none⟩ (.int .i64 (l.length : Int)) = W5 at *
    refine ⟨by simp, .inl ⟨_, _, rfl, run_takeDeferred r3, ?_⟩⟩
    exact ⟨_, resT rfl _ _ (g + 1) _ rfl rfl (r1.putR r3 rfl _), by rw [hR, show p + (l.length - p) = l.length by omega], by rw [hg]; exact r2.trans (below_shut _ (.deferred none) (by omega))⟩
  case stop =>
    rintro D c k W hD hk ⟨rfl, i0, hq, i2, i3⟩ hK
    have hR := HS.out k (by omega) i0.out (.inr hq)
    gi_wp2
    refine ⟨by simp, .inl ⟨_, _, rfl, run_takeDeferred hK, ?_⟩⟩
    exact ⟨_, resT rfl _ _ (g + 1) _ rfl rfl (i2.putR hK rfl _), by rw [hR], by rw [hg]; exact i3.trans (below_shut _ (.deferred none) (by omega))⟩

set_option maxRecDepth 100000 in
set_option maxHeartbeats 4000000 in
theorem run69_any (l : List UInt8) (p : Nat) (hl : l.length ≤ 1000000) (hp : p ≤ l.length) (w : World) :
    Calls Tryz.prog 99 #[tx l, .int .i64 (p : Int), .func (.func 92) #[] #[]] w fun e w' => e = .returned (.int .i64 (runE digB l p : Nat)) ∧ Below w.heap.size w w' := by
  have HF := Lib.hid (fun k W => digit_any (bt l k) (bt0 l k) (bt1 l k) W)
  have HS := Lib.hid (fun k (h : p + k ≤ l.length) (ha : ∀ j, j < k → digB (bt l (p + j)) = true) he => runE_at (q := digB) h ha he)
  generalize runE digB l p = R at *
  refine (callsIn_wide (n := 9)).1 ?_
  refine callsIn_of_wp_marks Tryz.func99 rfl trivial ?_ rfl
  simp only [Tryz.ntmps99, List.size_toArray, List.length_cons, List.length_nil, Nat.reduceAdd, Nat.reduceSub, Array.replicate_succ, Array.replicate_zero, List.push_toArray, List.append_toArray, List.nil_append, List.cons_append]
  gi_wp2_with (refine ⟨trivial, ?_⟩; gi_at_call 88; refine (callsIn_wide.2 (from_any _ _ _)).mono ?_; rintro e w' ⟨rfl, rfl⟩)
  obtain ⟨g, hg⟩ : ∃ g, w.heap.size = g := ⟨_, rfl⟩
  obtain ⟨W0, hW0⟩ : ∃ W0, ((((w.alloc (.cells #[.func (.func 92) #[] #[]] 129)).alloc (.cells #[.int .i64 0] 3)).alloc (.cells #[tx l] 9)).alloc (.cells #[.int .i64 (p : Int)] 3)) = W0 := ⟨_, rfl⟩
  have b0 : Blk W0 g 129 #[.func (.func 92) #[] #[]] := by rw [← hW0, ← hg]; exact (((Blk.new _ _ _).alloc _).alloc _).alloc _
  have b1 : Blk W0 (g + 1) 3 #[.int .i64 0] := by rw [← hW0, ← hg]; exact ((Blk.fresh (by simp)).alloc _).alloc _
  have b2 : Blk W0 (g + 2) 9 #[tx l] := by rw [← hW0, ← hg]; exact (Blk.fresh (by simp)).alloc _
  have b3 : Blk W0 (g + 2 + 1) 3 #[.int .i64 (p : Int)] := by rw [← hW0, ← hg]; exact Blk.fresh (by simp)
  have hb0 : Below g w W0 := by rw [← hW0, ← hg]; exact ((((Below.refl _ _).alloc (Nat.le_refl _) _).alloc (by simp) _).alloc (by simp; omega) _).alloc (by simp; omega) _
  have hs0 : W0.heap.size = g + 4 := by rw [← hW0, ← hg]; simp
  rw [hW0]
  rw [hg]
  clear hW0
  refine wpIn_rangeFunc_mem rfl (by omega) (gf := 124) (lb := #[.pointer (some ⟨g + 2 + 1, 0, none⟩), .pointer (some ⟨g + 2, 0, none⟩)]) rfl trivial (enters_of Tryz.func124 (by kernel_rfl) rfl)
    (from1_mem 8 (by omega) l p hl (by omega) g (g + 2) W0 (by omega) b2 b3) (by omega) (by omega) (fun _ => rfl)
    (fun k W => Hid (∀ j, j < k → digB (bt l (p + j)) = true) ∧ Blk W g 129 #[.func (.func 92) #[] #[]] ∧ Blk W (g + 1) 3 #[.int .i64 0] ∧ Below g w W)
    (fun c k W => c = .ret ∧ Hid (∀ j, j < k → digB (bt l (p + j)) = true) ∧ digB (bt l (p + k)) = false ∧ Blk W (g + 1) 3 #[.int .i64 ((p + k : Nat) : Int)] ∧ Below g w W)
    (fun k X Y hs hb => ⟨hs.1, hs.2.1.below hb (by omega), hs.2.2.1.below hb (by omega), hs.2.2.2.trans (hb.mono (by omega))⟩)
    (fun _ _ _ _ hs hb => ⟨hs.1, hs.2.1, hs.2.2.1, hs.2.2.2.1.below hb (by omega), hs.2.2.2.2.trans (hb.mono (by omega))⟩) ⟨Lib.hid (fun j hj => absurd hj (by omega)), b0, b1, hb0⟩
    (fun k a _ => a = { tmps := #[tx l, .int .i64 (p : Int), .func (.func 92) #[] #[], undef, undef, .pointer (some ⟨g, 0, none⟩), .pointer (some ⟨g + 1, 0, none⟩), .int .i64 ((p + k : Nat) : Int), .int .u8 (bt l (p + k)), tx l, .int .i64 (p : Int), .func (.func 124) #[] #[.pointer (some ⟨g + 1 + 1 + 1, 0, none⟩), .pointer (some ⟨g + 1 + 1, 0, none⟩)], .int .i64 ((p + k : Nat) : Int), .int .u8 (bt l (p + k)), undef, undef, undef, undef, undef, undef, undef], defers := [] })
    (fun k a X r o o' hs hr ho => hs) ?assign ?body ?done ?stop
  case assign =>
    intro lb k W hI hsz hk
    simp only [byE]
    gi_wp2
    exact ⟨Fixed.refl _ _ _, hI, rfl⟩
  case body =>
    rintro lb k a1 W ⟨i0, i1, i2, i3⟩ rfl hsz hk
    have e0 : W.cell? ⟨g, 0, none⟩ = some (.func (.func 92) #[] #[]) := i1.cell 0
    have e1 : W.cell? ⟨g + 1, 0, none⟩ = some (.int .i64 0) := i2.cell 0
    have f1 : W.frozen? ⟨g + 1, 0, none⟩ = false := i2.frozen 0
    have H1 := Lib.hid (HF.out (p + k))
    cases hq : digB (bt l (p + k)) with
    | true =>
      rw [hq] at H1
      gi_wp2_with (refine ⟨trivial, ?_⟩; gi_at_call 92; refine (callsIn_wide.2 (H1.out _)).mono ?_; rintro e w' ⟨rfl, rfl⟩)
      refine ⟨Fixed.refl _ _ _, Lib.hid (fun j hj => ?_), i1, i2, i3⟩
      by_cases hjk : j = k
      · subst hjk; exact hq
      · exact i0.out j (by omega)
    | false =>
      rw [hq] at H1
      gi_wp2_with (refine ⟨trivial, ?_⟩; gi_at_call 92; refine (callsIn_wide.2 (H1.out _)).mono ?_; rintro e w' ⟨rfl, rfl⟩)
      exact ⟨⟨(Below.refl _ _).setCell (p := ⟨g + 1, 0, none⟩) (by simp) _, fun j hj _ => Below.heap_setCell _ _ _ _ (by simp; omega)⟩, rfl, i0, hq, i2.set_ 0 _, i3.setCell (p := ⟨g + 1, 0, none⟩) (by simp) _⟩
  case done =>
    rintro D W hD ⟨i0, i1, i2, i3⟩ hK
    have e1 : W.cell? ⟨g + 1, 0, none⟩ = some (.int .i64 0) := i2.cell 0
    have f1 : W.frozen? ⟨g + 1, 0, none⟩ = false := i2.frozen 0
    have hR := HS.out (l.length - p) (by omega) i0.out (.inl (by omega))
    gi_wp2
    have r1 : Blk (W.setCell ⟨g + 1, 0, none⟩ (.int .i64 (l.length : Int))) (g + 1) 3 #[.int .i64 (l.length : Int)] := i2.set_ 0 _
    have r2 : Below g w (W.setCell ⟨g + 1, 0, none⟩ (.int .i64 (l.length : Int))) := i3.setCell (p := ⟨g + 1, 0, none⟩) (by simp) _
    have r3 : (W.setCell ⟨g + 1, 0, none⟩ (.int .i64 (l.length : Int))).heap[D]? = some (.deferred (some [])) := (Below.heap_setCell _ _ _ _ (by simp; omega)).trans hK
    generalize W.setCell ⟨g + 1, 0, none⟩ (.int .i64 (l.length : Int)) = W5 at *
    refine ⟨by simp, .inl ⟨_, _, rfl, run_takeDeferred r3, ?_⟩⟩
    exact ⟨_, resT rfl _ _ (g + 1) _ rfl rfl (r1.putR r3 rfl _), by rw [hR, show p + (l.length - p) = l.length by omega], by rw [hg]; exact r2.trans (below_shut _ (.deferred none) (by omega))⟩
  case stop =>
    rintro D c k W hD hk ⟨rfl, i0, hq, i2, i3⟩ hK
    have hR := HS.out k (by omega) i0.out (.inr hq)
    gi_wp2
    refine ⟨by simp, .inl ⟨_, _, rfl, run_takeDeferred hK, ?_⟩⟩
    exact ⟨_, resT rfl _ _ (g + 1) _ rfl rfl (i2.putR hK rfl _), by rw [hR], by rw [hg]; exact i3.trans (below_shut _ (.deferred none) (by omega))⟩

set_option maxRecDepth 100000 in
set_option maxHeartbeats 4000000 in
theorem run47_any (l : List UInt8) (p : Nat) (hl : l.length ≤ 1000000) (hp : p ≤ l.length) (w : World) :
    Calls Tryz.prog 99 #[tx l, .int .i64 (p : Int), .func (.func 100) #[] #[]] w fun e w' => e = .returned (.int .i64 (runE plnB l p : Nat)) ∧ Below w.heap.size w w' := by
  have HF := Lib.hid (fun k W => plain_any (bt l k) (bt0 l k) (bt1 l k) W)
  have HS := Lib.hid (fun k (h : p + k ≤ l.length) (ha : ∀ j, j < k → plnB (bt l (p + j)) = true) he => runE_at (q := plnB) h ha he)
  generalize runE plnB l p = R at *
  refine (callsIn_wide (n := 9)).1 ?_
  refine callsIn_of_wp_marks Tryz.func99 rfl trivial ?_ rfl
  simp only [Tryz.ntmps99, List.size_toArray, List.length_cons, List.length_nil, Nat.reduceAdd, Nat.reduceSub, Array.replicate_succ, Array.replicate_zero, List.push_toArray, List.append_toArray, List.nil_append, List.cons_append]
  gi_wp2_with (refine ⟨trivial, ?_⟩; gi_at_call 88; refine (callsIn_wide.2 (from_any _ _ _)).mono ?_; rintro e w' ⟨rfl, rfl⟩)
  obtain ⟨g, hg⟩ : ∃ g, w.heap.size = g := ⟨_, rfl⟩
  obtain ⟨W0, hW0⟩ : ∃ W0, ((((w.alloc (.cells #[.func (.func 100) #[] #[]] 129)).alloc (.cells #[.int .i64 0] 3)).alloc (.cells #[tx l] 9)).alloc (.cells #[.int .i64 (p : Int)] 3)) = W0 := ⟨_, rfl⟩
  have b0 : Blk W0 g 129 #[.func (.func 100) #[] #[]] := by rw [← hW0, ← hg]; exact (((Blk.new _ _ _).alloc _).alloc _).alloc _
  have b1 : Blk W0 (g + 1) 3 #[.int .i64 0] := by rw [← hW0, ← hg]; exact ((Blk.fresh (by simp)).alloc _).alloc _
  have b2 : Blk W0 (g + 2) 9 #[tx l] := by rw [← hW0, ← hg]; exact (Blk.fresh (by simp)).alloc _
  have b3 : Blk W0 (g + 2 + 1) 3 #[.int .i64 (p : Int)] := by rw [← hW0, ← hg]; exact Blk.fresh (by simp)
  have hb0 : Below g w W0 := by rw [← hW0, ← hg]; exact ((((Below.refl _ _).alloc (Nat.le_refl _) _).alloc (by simp) _).alloc (by simp; omega) _).alloc (by simp; omega) _
  have hs0 : W0.heap.size = g + 4 := by rw [← hW0, ← hg]; simp
  rw [hW0]
  rw [hg]
  clear hW0
  refine wpIn_rangeFunc_mem rfl (by omega) (gf := 124) (lb := #[.pointer (some ⟨g + 2 + 1, 0, none⟩), .pointer (some ⟨g + 2, 0, none⟩)]) rfl trivial (enters_of Tryz.func124 (by kernel_rfl) rfl)
    (from1_mem 8 (by omega) l p hl (by omega) g (g + 2) W0 (by omega) b2 b3) (by omega) (by omega) (fun _ => rfl)
    (fun k W => Hid (∀ j, j < k → plnB (bt l (p + j)) = true) ∧ Blk W g 129 #[.func (.func 100) #[] #[]] ∧ Blk W (g + 1) 3 #[.int .i64 0] ∧ Below g w W)
    (fun c k W => c = .ret ∧ Hid (∀ j, j < k → plnB (bt l (p + j)) = true) ∧ plnB (bt l (p + k)) = false ∧ Blk W (g + 1) 3 #[.int .i64 ((p + k : Nat) : Int)] ∧ Below g w W)
    (fun k X Y hs hb => ⟨hs.1, hs.2.1.below hb (by omega), hs.2.2.1.below hb (by omega), hs.2.2.2.trans (hb.mono (by omega))⟩)
    (fun _ _ _ _ hs hb => ⟨hs.1, hs.2.1, hs.2.2.1, hs.2.2.2.1.below hb (by omega), hs.2.2.2.2.trans (hb.mono (by omega))⟩) ⟨Lib.hid (fun j hj => absurd hj (by omega)), b0, b1, hb0⟩
    (fun k a _ => a = { tmps := #[tx l, .int .i64 (p : Int), .func (.func 100) #[] #[], undef, undef, .pointer (some ⟨g, 0, none⟩), .pointer (some ⟨g + 1, 0, none⟩), .int .i64 ((p + k : Nat) : Int), .int .u8 (bt l (p + k)), tx l, .int .i64 (p : Int), .func (.func 124) #[] #[.pointer (some ⟨g + 1 + 1 + 1, 0, none⟩), .pointer (some ⟨g + 1 + 1, 0, none⟩)], .int .i64 ((p + k : Nat) : Int), .int .u8 (bt l (p + k)), undef, undef, undef, undef, undef, undef, undef], defers := [] })
    (fun k a X r o o' hs hr ho => hs) ?assign ?body ?done ?stop
  case assign =>
    intro lb k W hI hsz hk
    simp only [byE]
    gi_wp2
    exact ⟨Fixed.refl _ _ _, hI, rfl⟩
  case body =>
    rintro lb k a1 W ⟨i0, i1, i2, i3⟩ rfl hsz hk
    have e0 : W.cell? ⟨g, 0, none⟩ = some (.func (.func 100) #[] #[]) := i1.cell 0
    have e1 : W.cell? ⟨g + 1, 0, none⟩ = some (.int .i64 0) := i2.cell 0
    have f1 : W.frozen? ⟨g + 1, 0, none⟩ = false := i2.frozen 0
    have H1 := Lib.hid (HF.out (p + k))
    cases hq : plnB (bt l (p + k)) with
    | true =>
      rw [hq] at H1
      gi_wp2_with (refine ⟨trivial, ?_⟩; gi_at_call 100; refine (callsIn_wide.2 (H1.out _)).mono ?_; rintro e w' ⟨rfl, rfl⟩)
      refine ⟨Fixed.refl _ _ _, Lib.hid (fun j hj => ?_), i1, i2, i3⟩
      by_cases hjk : j = k
      · subst hjk; exact hq
      · exact i0.out j (by omega)
    | false =>
      rw [hq] at H1
      gi_wp2_with (refine ⟨trivial, ?_⟩; gi_at_call 100; refine (callsIn_wide.2 (H1.out _)).mono ?_; rintro e w' ⟨rfl, rfl⟩)
      exact ⟨⟨(Below.refl _ _).setCell (p := ⟨g + 1, 0, none⟩) (by simp) _, fun j hj _ => Below.heap_setCell _ _ _ _ (by simp; omega)⟩, rfl, i0, hq, i2.set_ 0 _, i3.setCell (p := ⟨g + 1, 0, none⟩) (by simp) _⟩
  case done =>
    rintro D W hD ⟨i0, i1, i2, i3⟩ hK
    have e1 : W.cell? ⟨g + 1, 0, none⟩ = some (.int .i64 0) := i2.cell 0
    have f1 : W.frozen? ⟨g + 1, 0, none⟩ = false := i2.frozen 0
    have hR := HS.out (l.length - p) (by omega) i0.out (.inl (by omega))
    gi_wp2
    have r1 : Blk (W.setCell ⟨g + 1, 0, none⟩ (.int .i64 (l.length : Int))) (g + 1) 3 #[.int .i64 (l.length : Int)] := i2.set_ 0 _
    have r2 : Below g w (W.setCell ⟨g + 1, 0, none⟩ (.int .i64 (l.length : Int))) := i3.setCell (p := ⟨g + 1, 0, none⟩) (by simp) _
    have r3 : (W.setCell ⟨g + 1, 0, none⟩ (.int .i64 (l.length : Int))).heap[D]? = some (.deferred (some [])) := (Below.heap_setCell _ _ _ _ (by simp; omega)).trans hK
    generalize W.setCell ⟨g + 1, 0, none⟩ (.int .i64 (l.length : Int)) = W5 at *
    refine ⟨by simp, .inl ⟨_, _, rfl, run_takeDeferred r3, ?_⟩⟩
    exact ⟨_, resT rfl _ _ (g + 1) _ rfl rfl (r1.putR r3 rfl _), by rw [hR, show p + (l.length - p) = l.length by omega], by rw [hg]; exact r2.trans (below_shut _ (.deferred none) (by omega))⟩
  case stop =>
    rintro D c k W hD hk ⟨rfl, i0, hq, i2, i3⟩ hK
    have hR := HS.out k (by omega) i0.out (.inr hq)
    gi_wp2
    refine ⟨by simp, .inl ⟨_, _, rfl, run_takeDeferred hK, ?_⟩⟩
    exact ⟨_, resT rfl _ _ (g + 1) _ rfl rfl (i2.putR hK rfl _), by rw [hR], by rw [hg]; exact i3.trans (below_shut _ (.deferred none) (by omega))⟩

end Go.Proofs.YtiipglmbfgmbbaaGreatDoor
