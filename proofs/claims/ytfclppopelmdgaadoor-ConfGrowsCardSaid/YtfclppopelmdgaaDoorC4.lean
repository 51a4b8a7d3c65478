/-
  The numbers of a set, gone over by a function: what its iterator comes to.
-/
import Derived.Test.YtfclppopelmdgaaDoorC3
import Derived.Test.YtfclppopelmdgaaDoorR2
import Derived.Test.YtfclppopelmdgaaDoorRW
import Derived.Shelf.Abstract
import Derived.OwnWalkIn
import Derived.TacticsInMore
import Derived.LoopNIn
import Derived.LoopIn
import Derived.RegionIn
namespace Go.Proofs.YtfclppopelmdgaaDoor
open Go.RowKit Go.Shelf
attribute [local go_sem] Oper.semAt_some

/-- What is handed on in the round k. -/
def rwE (G : Nat) (k : Nat) : Array Value := #[.int .i64 ((row G).getD k 0)]
theorem row_get : ∀ G : Fin 32, ∀ k : Fin 5, k.val < pop G.val → 1 ≤ (row G.val).getD k.val 0 ∧ (row G.val).getD k.val 0 ≤ 5 := by decide +kernel

theorem numbers_any (G : Nat) (w : World) : Calls Tryd.prog 46 #[.int .u8 (G : Int)] w fun e w' => e = .returned (.func (.func 52) #[] #[.pointer (some ⟨w.heap.size, 0, none⟩)]) ∧ w' = w.alloc (.cells #[.int .u8 (G : Int)] 65) := by
  go_enter Tryd.func46, Tryd.ntmps46
  go_wp2
  go_ret
  exact ⟨rfl, rfl⟩

theorem trail_left (G k : Nat) (h : G < 32) (hk : k < pop G) (w : World) : Calls Tryd.prog 53 #[.int .u8 (lf G k : Int)] w fun e w' => e = .returned (.int .i64 ((row G).getD k 0 - 1)) ∧ w = w' := by
  have hk5 : k < 5 := Nat.lt_of_lt_of_le hk (pop_le5 ⟨G, h⟩)
  refine (trail_any (lf G k) (lf_lt G h k) w).mono ?_
  rintro e w' ⟨rfl, rfl⟩
  exact ⟨ret_int (ntz_left ⟨G, h⟩ ⟨k, hk5⟩ hk), rfl⟩

set_option maxRecDepth 100000 in
set_option maxHeartbeats 4000000 in
theorem numbers1_mem (d : Nat) (hd : 1 ≤ d) (G : Nat) (hG : G < 32) (n₀ m : Nat) (w : World) (hn0 : n₀ ≤ m) (hm : Blk w m 65 #[.int .u8 (G : Int)]) :
    SeqMem Fence.wide d Tryd.prog 52 #[.pointer (some ⟨m, 0, none⟩)] (rwE G) (pop G) n₀ m w := fun l J Jx W hW hJ hJx hY h0 => by
  have hmlt : m < w.heap.size := hm.lt
  have hmW : Blk W m 65 #[.int .u8 (G : Int)] := hm.below hW hmlt
  have P5 : pop G ≤ 5 := pop_le5 ⟨G, hG⟩
  have TL := Lib.hid (fun k hk w => trail_left G k hG hk w)
  have RG := Lib.hid (fun k (hk : k < pop G) => row_get ⟨G, hG⟩ ⟨k, by omega⟩ hk)
  have LP := Lib.hid (fun k (hk : k < pop G) => lf_pos ⟨G, hG⟩ ⟨k, by omega⟩ hk)
  have LE : Hid (lf G (pop G) = 0) := Lib.hid (lf_end ⟨G, hG⟩)
  have LS := Lib.hid (fun k (h : lf G k ≠ 0) => lf_step ⟨lf G k, lf_lt G hG k⟩ h)
  refine callsIn_of_wp Tryd.func52 rfl trivial ?_ rfl
  simp only [Tryd.ntmps52, List.size_toArray, List.length_cons, List.length_nil, Nat.reduceAdd, Nat.reduceSub, Array.replicate_succ, Array.replicate_zero, List.push_toArray, List.append_toArray, List.nil_append, List.cons_append]
  have c0 : W.cell? ⟨m, 0, none⟩ = some (.int .u8 (G : Int)) := hmW.cell 0
  have X0 : Hid (lf G 0 = G) := Lib.hid rfl
  have XS : Hid (∀ k, lf G (k + 1) = Nat.land (lf G k) (lf G k - 1)) := Lib.hid (fun _ => rfl)
  gi_wp2
  gi_loopw [3] (fun v wr => ∃ k : Nat, k ≤ pop G ∧ v = .int .u8 (lf G k : Int) ∧ J k wr) (fun v _ => (intOf v).toNat)
  case atStart => exact ⟨0, Nat.zero_le _, by rw [X0.out], h0⟩
  case round =>
    obtain ⟨k, hk, rfl, hJk⟩ := hrel
    by_cases hlt : k < pop G
    · obtain ⟨y1, y5⟩ := RG.out k hlt
      have hp := LP.out k hlt
      have T := Lib.hid (TL.out k hlt)
      have S := LS.out k hp
      have xs1 := XS.out k
      obtain ⟨fn, tmps, assign, body, hy, hR⟩ := hY k wr hJk hlt
      unfold rwE at hy
      try simp only at y1 y5 hp S
      obtain ⟨y, hyy⟩ : ∃ y, (row G).getD k 0 = y + 1 := ⟨_, (Int.sub_add_cancel _ 1).symm⟩
      rw [hyy] at hy y1 y5 T
      rw [show y + 1 - 1 = y by omega] at T
      rw [← xs1] at S
      have XL := Lib.hid (lf_lt G hG k)
      have XM : Hid (lf G (k + 1) < lf G k) := Lib.hid (by rw [xs1]; exact Nat.lt_of_le_of_lt Nat.and_le_right (by omega))
      have xne : ((lf G k : Int) != 0) = true := by simp; omega
      clear hyy xs1
      generalize lf G k = x at *
      have X1 := Lib.hid S
      clear S
      have x0 : (0 : Int) ≤ (x : Int) := by omega
      have x3 : (x : Int) < 32 := by have := XL.out; omega
      gi_wp2_with (refine ⟨trivial, ?_⟩; gi_at_call 53; refine (callsIn_wide.2 (T.out _)).mono ?_; rintro e w5 ⟨rfl, rfl⟩)
      refine hR.mono ?_
      rintro e W3 (⟨rfl, hJ3, hk3⟩ | ⟨rfl, hJx3⟩)
      · gi_wp2
        refine ⟨⟨k + 1, hlt, by rw [X1.out], hJ3⟩, ?_⟩
        rw [X1.out]
        have := XM.out
        simp only [intOf, Int.toNat_natCast]
        exact this
      · gi_wp2
        refine bodyPost_ret (results_none rfl _ _ _) rfl ?_
        exact ⟨⟨_, rfl⟩, .inr ⟨k, hlt, hJx3⟩⟩
    · obtain rfl : k = pop G := by omega
      rw [LE.out]
      gi_wp2
      go_end0
      exact ⟨⟨_, rfl⟩, .inl hJk⟩
set_option maxRecDepth 100000 in
set_option maxHeartbeats 4000000 in
theorem numbers1_free (d : Nat) (hd : 1 ≤ d) (G : Nat) (hG : G < 32) (m : Nat) (w : World) (hm : Blk w m 65 #[.int .u8 (G : Int)]) :
    SeqFree Fence.wide d Tryd.prog 52 #[.pointer (some ⟨m, 0, none⟩)] (rwE G) (pop G) w := fun l J Jx W hW hY h0 => by
  have hmlt : m < w.heap.size := hm.lt
  have hmW : Blk W m 65 #[.int .u8 (G : Int)] := hm.below hW hmlt
  have P5 : pop G ≤ 5 := pop_le5 ⟨G, hG⟩
  have TL := Lib.hid (fun k hk w => trail_left G k hG hk w)
  have RG := Lib.hid (fun k (hk : k < pop G) => row_get ⟨G, hG⟩ ⟨k, by omega⟩ hk)
  have LP := Lib.hid (fun k (hk : k < pop G) => lf_pos ⟨G, hG⟩ ⟨k, by omega⟩ hk)
  have LE : Hid (lf G (pop G) = 0) := Lib.hid (lf_end ⟨G, hG⟩)
  have LS := Lib.hid (fun k (h : lf G k ≠ 0) => lf_step ⟨lf G k, lf_lt G hG k⟩ h)
  refine callsIn_of_wp Tryd.func52 rfl trivial ?_ rfl
  simp only [Tryd.ntmps52, List.size_toArray, List.length_cons, List.length_nil, Nat.reduceAdd, Nat.reduceSub, Array.replicate_succ, Array.replicate_zero, List.push_toArray, List.append_toArray, List.nil_append, List.cons_append]
  have c0 : W.cell? ⟨m, 0, none⟩ = some (.int .u8 (G : Int)) := hmW.cell 0
  have X0 : Hid (lf G 0 = G) := Lib.hid rfl
  have XS : Hid (∀ k, lf G (k + 1) = Nat.land (lf G k) (lf G k - 1)) := Lib.hid (fun _ => rfl)
  gi_wp2
  gi_loopw [3] (fun v wr => ∃ k : Nat, k ≤ pop G ∧ v = .int .u8 (lf G k : Int) ∧ J k wr) (fun v _ => (intOf v).toNat)
  case atStart => exact ⟨0, Nat.zero_le _, by rw [X0.out], h0⟩
  case round =>
    obtain ⟨k, hk, rfl, hJk⟩ := hrel
    by_cases hlt : k < pop G
    · obtain ⟨y1, y5⟩ := RG.out k hlt
      have hp := LP.out k hlt
      have T := Lib.hid (TL.out k hlt)
      have S := LS.out k hp
      have xs1 := XS.out k
      obtain ⟨fn, tmps, assign, body, hy, hR⟩ := hY k wr hJk hlt
      unfold rwE at hy
      try simp only at y1 y5 hp S
      obtain ⟨y, hyy⟩ : ∃ y, (row G).getD k 0 = y + 1 := ⟨_, (Int.sub_add_cancel _ 1).symm⟩
      rw [hyy] at hy y1 y5 T
      rw [show y + 1 - 1 = y by omega] at T
      rw [← xs1] at S
      have XL := Lib.hid (lf_lt G hG k)
      have XM : Hid (lf G (k + 1) < lf G k) := Lib.hid (by rw [xs1]; exact Nat.lt_of_le_of_lt Nat.and_le_right (by omega))
      have xne : ((lf G k : Int) != 0) = true := by simp; omega
      clear hyy xs1
      generalize lf G k = x at *
      have X1 := Lib.hid S
      clear S
      have x0 : (0 : Int) ≤ (x : Int) := by omega
      have x3 : (x : Int) < 32 := by have := XL.out; omega
      gi_wp2_with (refine ⟨trivial, ?_⟩; gi_at_call 53; refine (callsIn_wide.2 (T.out _)).mono ?_; rintro e w5 ⟨rfl, rfl⟩)
      refine hR.mono ?_
      rintro e W3 (⟨rfl, hJ3⟩ | ⟨rfl, hJx3⟩)
      · gi_wp2
        refine ⟨⟨k + 1, hlt, by rw [X1.out], hJ3⟩, ?_⟩
        rw [X1.out]
        have := XM.out
        simp only [intOf, Int.toNat_natCast]
        exact this
      · gi_wp2
        refine bodyPost_ret (results_none rfl _ _ _) rfl ?_
        exact ⟨⟨_, rfl⟩, .inr ⟨k, hlt, hJx3⟩⟩
    · obtain rfl : k = pop G := by omega
      rw [LE.out]
      gi_wp2
      go_end0
      exact ⟨⟨_, rfl⟩, .inl hJk⟩
end Go.Proofs.YtfclppopelmdgaaDoor
