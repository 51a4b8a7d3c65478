/-
  The spots of a log, gone over by a function: what its iterator comes to.
-/
import Derived.Test.YtmgaihdepglahaaM7
import Derived.Test.YtmgaihdepglahaaR0
import Derived.Shelf.Abstract
import Derived.Shelf.RegionOpen
import Derived.WalkKit
import Derived.OwnWalkIn
import Derived.TacticsInMore
import Derived.LoopNIn
import Derived.LoopIn
import Derived.RegionIn
namespace Go.Proofs.Ytmgaihdepglahaa
open Go.RowKit Go.Shelf
attribute [local go_sem] Oper.semAt_some

/-- What is handed on in the round k. -/
def spE (bi bt : Int) (es : List En) (k : Nat) : Array Value := #[.int .i64 (k : Int), .agg #[.int .u64 (spI bi k), .int .u64 (spT bt es k)]]

theorem spots_any (a b c : Value) (w : World) : Calls Try.prog 62 #[.agg #[a, b, c]] w fun e w' => e = .returned (.func (.func 75) #[] #[.pointer (some ⟨w.heap.size, 0, none⟩)]) ∧ w' = w.alloc (.cells #[a, b, c] 81) := by
  go_enter Try.func62, Try.ntmps62
  go_wp2
  go_ret
  exact ⟨rfl, rfl⟩

set_option maxRecDepth 100000 in
set_option maxHeartbeats 4000000 in
theorem spots1_mem (d : Nat) (hd : 1 ≤ d) (bi bt : Int) (A : Option Addr) (n c : Nat) (es : List En) (n₀ m : Nat) (w : World) (hn : n ≤ 1000000) (hn0 : n₀ ≤ m) (hi0 : 0 ≤ bi) (hi1 : bi < 18446744073709551616)
    (hm : Blk w m 81 #[.int .u64 bi, .int .u64 bt, .slice A n c]) (he : Es w n₀ A n es) :
    SeqMem Fence.wide d Try.prog 75 #[.pointer (some ⟨m, 0, none⟩)] (spE bi bt es) (n + 1) n₀ m w := fun l J Jx W hW hJ hJx hY h0 => by
  have hmlt : m < w.heap.size := hm.lt
  have hmW : Blk W m 81 #[.int .u64 bi, .int .u64 bt, .slice A n c] := hm.below hW hmlt
  have heW : Es W n₀ A n es := he.below (hW.mono (by omega))
  refine callsIn_of_wp Try.func75 rfl trivial ?_ rfl
  simp only [Try.ntmps75, List.size_toArray, List.length_cons, List.length_nil, Nat.reduceAdd, Nat.reduceSub, Array.replicate_succ, Array.replicate_zero, List.push_toArray, List.append_toArray, List.nil_append, List.cons_append]
  have c0 : W.cell? ⟨m, 0, none⟩ = some (.int .u64 bi) := hmW.cell 0
  have c1 : W.cell? ⟨m, 1, none⟩ = some (.int .u64 bt) := hmW.cell 1
  have c2 : W.cell? ⟨m, 2, none⟩ = some (.slice A n c) := hmW.cell 2
  obtain ⟨W1, hW1⟩ : ∃ W1, W.alloc (.cells #[.int .u64 bi, .int .u64 bt] 24) = W1 := ⟨_, rfl⟩
  have hb1 : Below W.heap.size W W1 := by rw [← hW1]; exact (Below.refl _ _).alloc (Nat.le_refl _) _
  have hs1 : W1.heap.size = W.heap.size + 1 := by rw [← hW1]; simp
  have hJ0 : J 0 W1 := hJ _ _ _ h0 hb1
  obtain ⟨fn, tmps, assign, body, hy, hR⟩ := hY 0 W1 hJ0 (by omega)
  rw [show spE bi bt es 0 = #[.int .i64 0, .agg #[.int .u64 bi, .int .u64 bt]] by unfold spE; rw [spI_zero bi hi0 hi1]; rfl] at hy
  subst hW1
  gi_wp2
  generalize hW1 : W.alloc (.cells #[.int .u64 bi, .int .u64 bt] 24) = W1 at *
  have hbp : Blk W1 W.heap.size 24 #[.int .u64 bi, .int .u64 bt] := by rw [← hW1]; exact Blk.new W 24 _
  have hm1 : Blk W1 m 81 #[.int .u64 bi, .int .u64 bt, .slice A n c] := hmW.below hb1 (by have := hW.size; omega)
  have he1 : Es W1 n₀ A n es := heW.below (hb1.mono (by have := hW.size; omega))
  have hmS : m < W.heap.size := hmW.lt
  generalize W.heap.size = p at *
  refine hR.mono ?_
  rintro e W2 (⟨rfl, hJ2, hk2⟩ | ⟨rfl, hJx2⟩)
  rotate_left
  · gi_wp2
    refine bodyPost_ret (results_none rfl _ _ _) rfl ?_
    exact ⟨⟨_, rfl⟩, .inr ⟨0, by omega, hJx2⟩⟩
  have hbp2 : Blk W2 p 24 #[.int .u64 (spI bi 0), .int .u64 (spT bt es 0)] := by rw [spI_zero bi hi0 hi1]; exact (hk2.high p (by omega) hbp.lt).trans hbp
  have hm2 : Blk W2 m 81 #[.int .u64 bi, .int .u64 bt, .slice A n c] := (hk2.high m (Nat.le_refl _) hm1.lt).trans hm1
  have he2 : Es W2 n₀ A n es := he1.below hk2.low
  have d2 : W2.cell? ⟨m, 2, none⟩ = some (.slice A n c) := hm2.cell 2
  clear hb1 hW1 hJ0 hy hR
  gi_wp2
  gi_loopw [17] (fun i wr => ∃ k : Nat, k ≤ n ∧ i = .int .i64 (k : Int) ∧ J (k + 1) wr ∧ Blk wr p 24 #[.int .u64 (spI bi k), .int .u64 (spT bt es k)] ∧ Es wr n₀ A n es) (fun i _ => n - (intOf i).toNat)
  case atStart => exact ⟨0, Nat.zero_le _, rfl, hJ2, hbp2, he2⟩
  case round =>
    obtain ⟨k, hk, rfl, hJk, hbk, hek⟩ := hrel
    by_cases hlt : k < n
    · obtain ⟨b, o, x, hA, hb, hx, hxo, hxc⟩ := hek.at_ hlt
      obtain ⟨x0, x1, x2⟩ := rng3 hxc
      have hxt : x.t = spT bt es (k + 1) := congrArg En.t hx
      subst hA
      obtain ⟨xt, xk, xA, xn, xc, xd⟩ := x
      simp only at x0 x1 x2 hxt
      have p0 : wr.cell? ⟨p, 0, none⟩ = some (.int .u64 (spI bi k)) := hbk.cell 0
      have p1 : wr.cell? ⟨p, 1, none⟩ = some (.int .u64 (spT bt es k)) := hbk.cell 1
      have f0 : wr.frozen? ⟨p, 0, none⟩ = false := hbk.frozen 0
      have f1 : wr.frozen? ⟨p, 1, none⟩ = false := hbk.frozen 1
      have k0 : (0 : Int) ≤ (k : Int) := by omega
      have hpl := hbk.lt
      gi_wp2_with fail
      gi_region
      have ew : IntKind.u64.wrap (spI bi k + 1) = spI bi (k + 1) := by rw [IntKind.wrap_u64]; exact spI_succ bi k
      rw [ew]
      have HB : Below p wr (((wr.setCell ⟨p, 0, none⟩ (.int .u64 (spI bi (k + 1)))).setCell ⟨p, 1, none⟩ (.int .u64 (spT bt es (k + 1)))).alloc (.cells #[.int .u64 (spT bt es (k + 1)), .int .i64 xk, .slice xA xn xc] 54)).drew :=
        ((((Below.refl _ _).setCell (p := ⟨p, 0, none⟩) (Nat.le_refl _) _).setCell (p := ⟨p, 1, none⟩) (Nat.le_refl _) _).alloc (by simp [World.setCell]; omega) _).drew
      have HP : Blk (((wr.setCell ⟨p, 0, none⟩ (.int .u64 (spI bi (k + 1)))).setCell ⟨p, 1, none⟩ (.int .u64 (spT bt es (k + 1)))).alloc (.cells #[.int .u64 (spT bt es (k + 1)), .int .i64 xk, .slice xA xn xc] 54)).drew p 24 #[.int .u64 (spI bi (k + 1)), .int .u64 (spT bt es (k + 1))] :=
        (((hbk.set_ 0 _).set_ 1 _).alloc _).drewN 1
      generalize (((wr.setCell ⟨p, 0, none⟩ (.int .u64 (spI bi (k + 1)))).setCell ⟨p, 1, none⟩ (.int .u64 (spT bt es (k + 1)))).alloc (.cells #[.int .u64 (spT bt es (k + 1)), .int .i64 xk, .slice xA xn xc] 54)).drew = wx at *
      have hJx1 : J (k + 1) wx := hJ _ _ _ hJk HB
      have hex : Es wx n₀ (some ⟨b, o, none⟩) n es := hek.below (HB.mono (by omega))
      obtain ⟨fn2, tmps2, assign2, body2, hy2, hR2⟩ := hY (k + 1) wx hJx1 (by omega)
      rw [show spE bi bt es (k + 1) = #[.int .i64 ((k : Int) + 1), .agg #[.int .u64 (spI bi (k + 1)), .int .u64 (spT bt es (k + 1))]] from rfl] at hy2
      have q0 : wx.cell? ⟨p, 0, none⟩ = some (.int .u64 (spI bi (k + 1))) := HP.cell 0
      have q1 : wx.cell? ⟨p, 1, none⟩ = some (.int .u64 (spT bt es (k + 1))) := HP.cell 1
      clear x0 x1 x2 p0 p1 f0 f1 hxc hek hbk hJk
      gi_wp2
      refine hR2.mono ?_
      rintro e W3 (⟨rfl, hJ3, hk3⟩ | ⟨rfl, hJx3⟩)
      · gi_wp2
        go_roundw
        case rel => exact ⟨k + 1, by omega, by go_num, hJ3, (hk3.high p (by omega) HP.lt).trans HP, hex.below hk3.low⟩
        case measure => simp [intOf]; omega
      · gi_wp2
        refine bodyPost_ret (results_none rfl _ _ _) rfl ?_
        exact ⟨⟨_, rfl⟩, .inr ⟨k + 1, by omega, hJx3⟩⟩
    · obtain rfl : k = n := by omega
      gi_wp2
      go_end0
      exact ⟨⟨_, rfl⟩, .inl hJk⟩

end Go.Proofs.Ytmgaihdepglahaa
