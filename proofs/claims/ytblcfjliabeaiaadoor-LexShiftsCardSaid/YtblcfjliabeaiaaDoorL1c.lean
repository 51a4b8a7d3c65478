/-
  The bytes of a text from a place on, gone over by a function, where a round does what it likes.
-/
import Derived.Test.YtblcfjliabeaiaaDoorL1
import Derived.Test.YtblcfjliabeaiaaDoorR4
namespace Go.Proofs.YtblcfjliabeaiaaDoor
open Go.RowKit Go.Shelf
attribute [local go_sem] Oper.semAt_some

set_option maxRecDepth 100000 in
set_option maxHeartbeats 4000000 in
theorem from1_need (d : Nat) (hd : 1 ≤ d) (l : List UInt8) (p : Nat) (hl : l.length ≤ 1000000) (hp : p ≤ 1000000) (m : Nat) (w : World) (hm1 : Blk w (m + 1) 3 #[.int .i64 (p : Int)]) :
    SeqNeed Fence.wide d Tryd.prog 79 #[.pointer (some ⟨m + 1, 0, none⟩), .pointer (some ⟨m, 0, none⟩)] (byE l p) (l.length - p) (fun W => Blk W m 9 #[tx l]) w := fun lb J Jx W hW hN hJ hJx hY h0 => by
  have hmW : Blk W m 9 #[tx l] := hN _ _ h0
  have hmW1 : Blk W (m + 1) 3 #[.int .i64 (p : Int)] := hm1.below hW hm1.lt
  refine callsIn_of_wp Tryd.func79 rfl trivial ?_ rfl
  simp only [Tryd.ntmps79, List.size_toArray, List.length_cons, List.length_nil, Nat.reduceAdd, Nat.reduceSub, Array.replicate_succ, Array.replicate_zero, List.push_toArray, List.append_toArray, List.nil_append, List.cons_append]
  have c0 : W.cell? ⟨m, 0, none⟩ = some (tx l) := hmW.cell 0
  have c1 : W.cell? ⟨m + 1, 0, none⟩ = some (.int .i64 (p : Int)) := hmW1.cell 0
  gi_wp2
  clear c0 c1
  gi_loopw [4] (fun v wr => ∃ k : Nat, k ≤ l.length - p ∧ v = .int .i64 ((p + k : Nat) : Int) ∧ J k wr) (fun v _ => l.length - (intOf v).toNat)
  case atStart => exact ⟨0, Nat.zero_le _, rfl, h0⟩
  case round =>
    obtain ⟨k, hk, rfl, hJk⟩ := hrel
    have hmr : Blk wr m 9 #[tx l] := hN _ _ hJk
    have c0 : wr.cell? ⟨m, 0, none⟩ = some (.string ⟨l.toArray⟩) := hmr.cell 0
    by_cases hlt : k < l.length - p
    · obtain ⟨fn, tmps, assign, body, hy, hR⟩ := hY k wr hJk hlt
      unfold byE at hy
      have q0 : p + k < l.length := by omega
      have e0 := bt_of q0
      have k0 : (0 : Int) ≤ ((p + k : Nat) : Int) := by omega
      have k1 : ((p + k : Nat) : Int) < (l.length : Int) := by omega
      have k2 : ((p + k : Nat) : Int) < 9000000 := by omega
      rw [← e0] at hy
      clear e0
      generalize hq : p + k = q at *
      gi_wp2
      refine hR.mono ?_
      rintro e W3 (⟨rfl, hJ3⟩ | ⟨rfl, hJx3⟩)
      · gi_wp2
        go_roundw
        case rel => exact ⟨k + 1, by omega, by rw [← hq]; go_num, hJ3⟩
        case measure => simp [intOf]; omega
      · gi_wp2
        refine bodyPost_ret (results_none rfl _ _ _) rfl ?_
        exact ⟨⟨_, rfl⟩, .inr ⟨k, hlt, hJx3⟩⟩
    · obtain rfl : k = l.length - p := by omega
      have k1 : ¬ (((p + (l.length - p) : Nat) : Int) < (l.length : Int)) := by omega
      gi_wp2
      go_end0
      exact ⟨⟨_, rfl⟩, .inl hJk⟩
end Go.Proofs.YtblcfjliabeaiaaDoor
