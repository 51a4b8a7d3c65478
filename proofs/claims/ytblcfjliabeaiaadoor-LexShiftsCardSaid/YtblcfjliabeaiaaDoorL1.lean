/-
  The bytes of a text from a place on, gone over by a function: what its iterator comes to.
-/
import Derived.Test.YtblcfjliabeaiaaDoorChecked
import Derived.Test.YtblcfjliabeaiaaDoorVW
import Derived.Test.YtblcfjliabeaiaaDoorR0
import Derived.Shelf.Abstract
import Derived.Shelf.RegionOpen
import Derived.OwnWalkIn
import Derived.TacticsInMore
import Derived.LoopNIn
import Derived.LoopIn
import Derived.RegionIn
namespace Go.Proofs.YtblcfjliabeaiaaDoor
open Go.RowKit Go.Shelf
attribute [local go_sem] Oper.semAt_some

/-- A text of bytes. -/
abbrev tx (l : List UInt8) : Value := .string ⟨l.toArray⟩
/-- The byte at a place. -/
def bt (l : List UInt8) (i : Nat) : Int := ((l.getD i 0).toNat : Int)
theorem bt_of {l : List UInt8} {i : Nat} (h : i < l.length) : (((⟨l.toArray⟩ : ByteArray)[i]'(by simpa [ByteArray.size] using h)).toNat : Int) = bt l i := by
  have e : ((⟨l.toArray⟩ : ByteArray)[i]'(by simpa [ByteArray.size] using h)) = l[i] := rfl
  rw [e]
  simp [bt, List.getD, h]
theorem bt0 (l : List UInt8) (i : Nat) : 0 ≤ bt l i := by unfold bt; omega
theorem bt1 (l : List UInt8) (i : Nat) : bt l i ≤ 255 := by unfold bt; have := (l.getD i 0).toNat_lt; omega
/-- What is handed on in the round k. -/
def byE (l : List UInt8) (at_ : Nat) (k : Nat) : Array Value := #[.int .i64 ((at_ + k : Nat) : Int), .int .u8 (bt l (at_ + k))]

theorem from_any (l : List UInt8) (p : Int) (w : World) : Calls Tryd.prog 65 #[tx l, .int .i64 p] w fun e w' => e = .returned (.func (.func 79) #[] #[.pointer (some ⟨w.heap.size + 1, 0, none⟩), .pointer (some ⟨w.heap.size, 0, none⟩)]) ∧ w' = (w.alloc (.cells #[tx l] 9)).alloc (.cells #[.int .i64 p] 3) := by
  go_enter Tryd.func65, Tryd.ntmps65
  go_wp2
  go_ret
  exact ⟨rfl, rfl⟩

set_option maxRecDepth 100000 in
set_option maxHeartbeats 4000000 in
theorem from1_mem (d : Nat) (hd : 1 ≤ d) (l : List UInt8) (p : Nat) (hl : l.length ≤ 1000000) (hp : p ≤ 1000000) (n₀ m : Nat) (w : World) (hn0 : n₀ ≤ m) (hm : Blk w m 9 #[tx l]) (hm1 : Blk w (m + 1) 3 #[.int .i64 (p : Int)]) :
    SeqMem Fence.wide d Tryd.prog 79 #[.pointer (some ⟨m + 1, 0, none⟩), .pointer (some ⟨m, 0, none⟩)] (byE l p) (l.length - p) n₀ m w := fun lb J Jx W hW hJ hJx hY h0 => by
  have hmW : Blk W m 9 #[tx l] := hm.below hW hm.lt
  have hmW1 : Blk W (m + 1) 3 #[.int .i64 (p : Int)] := hm1.below hW hm1.lt
  refine callsIn_of_wp Tryd.func79 rfl trivial ?_ rfl
  simp only [Tryd.ntmps79, List.size_toArray, List.length_cons, List.length_nil, Nat.reduceAdd, Nat.reduceSub, Array.replicate_succ, Array.replicate_zero, List.push_toArray, List.append_toArray, List.nil_append, List.cons_append]
  have c0 : W.cell? ⟨m, 0, none⟩ = some (tx l) := hmW.cell 0
  have c1 : W.cell? ⟨m + 1, 0, none⟩ = some (.int .i64 (p : Int)) := hmW1.cell 0
  gi_wp2
  clear c0 c1
  gi_loopw [4] (fun v wr => ∃ k : Nat, k ≤ l.length - p ∧ v = .int .i64 ((p + k : Nat) : Int) ∧ J k wr ∧ Blk wr m 9 #[tx l]) (fun v _ => l.length - (intOf v).toNat)
  case atStart => exact ⟨0, Nat.zero_le _, rfl, h0, hmW⟩
  case round =>
    obtain ⟨k, hk, rfl, hJk, hmr⟩ := hrel
    have c0 : wr.cell? ⟨m, 0, none⟩ = some (.string ⟨l.toArray⟩) := hmr.cell 0
    by_cases hlt : k < l.length - p
    · obtain ⟨fn, tmps, assign, body, hy, hR⟩ := hY k wr hJk hlt
      unfold byE at hy
      have q0 : p + k < l.length := by omega
      have e0 := bt_of q0
      have k0 : (0 : Int) ≤ ((p + k : Nat) : Int) := by omega
      have k1 : ((p + k : Nat) : Int) < (l.length : Int) := by omega
      have k2 : ((p + k : Nat) : Int) < 9000000 := by omega
      rw [← e0] at hy
      clear e0
      generalize hq : p + k = q at *
      gi_wp2
      refine hR.mono ?_
      rintro e W3 (⟨rfl, hJ3, hk3⟩ | ⟨rfl, hJx3⟩)
      · gi_wp2
        go_roundw
        case rel => exact ⟨k + 1, by omega, by rw [← hq]; go_num, hJ3, (hk3.high m (Nat.le_refl _) hmr.lt).trans hmr⟩
        case measure => simp [intOf]; omega
      · gi_wp2
        refine bodyPost_ret (results_none rfl _ _ _) rfl ?_
        exact ⟨⟨_, rfl⟩, .inr ⟨k, hlt, hJx3⟩⟩
    · obtain rfl : k = l.length - p := by omega
      have k1 : ¬ (((p + (l.length - p) : Nat) : Int) < (l.length : Int)) := by omega
      gi_wp2
      go_end0
      exact ⟨⟨_, rfl⟩, .inl hJk⟩
end Go.Proofs.YtblcfjliabeaiaaDoor
