/-
  What is deferred: a panic becomes an answer.
-/
import Derived.Test.YtiipglmbfgmbbaaGreatDoorP42
import Derived.Defers
import Derived.Recover
namespace Go.Proofs.YtiipglmbfgmbbaaGreatDoor
open Go.RowKit Go.Shelf
attribute [local go_sem] Oper.semAt_some

theorem setCell_only (w : World) (g k : Nat) (v : Value) : Only g w (w.setCell ⟨g, k, none⟩ v) := ⟨rfl, rfl, rfl, by simp, fun j hj => Below.heap_setCell _ _ _ _ hj⟩
theorem ta_nil (w : World) : (Instr.typeAssert .nilIface 20 26 true).run Tryz.prog w = .ok (.tuple #[.agg #[.int .i64 0, .int .i64 0], .bool false]) w := by kernel_rfl
theorem ta_spot (a b : Int) (w : World) : (Instr.typeAssert (.iface 26 (.agg #[.int .i64 a, .int .i64 b])) 20 26 true).run Tryz.prog w = .ok (.tuple #[.agg #[.int .i64 a, .int .i64 b], .bool true]) w := by kernel_rfl
set_option maxRecDepth 100000 in
theorem catch_idle (p s : Addr) (w : World) :
    CallsD Tryz.prog 47 #[.pointer (some p), .pointer (some s)] .returning w fun e u' w' => e = .returned (.tuple #[]) ∧ u' = .returning ∧ Below w.heap.size w w' := by
  refine callsD_of_wpS Tryz.func47 rfl fun c₀ cs hu => ?_
  apply wpS_seq
  apply wpS_region
  simp [wpOpsS, go_sem, recoverD, hu, Tryz.ntmps47, Exit.thenS, ta_nil]
  apply wpS_seq
  apply wpS_region
  simp [wpOpsS, go_sem, Exit.thenS]
  refine wpS_cond (t := false) (by simp [Act.eval, Array.replicate]) ?_
  simp only [Bool.false_eq_true, if_false]
  refine wpS_of_wp (wp_skip ?_)
  cases c₀
  simp_all [bodyPostS, results, Tryz.results47, Exit.thenS]
  exact (Below.refl _ _).alloc (Nat.le_refl _) _
/-- Where a panic was, the answer tells its spot, and nothing else. -/
structure Ct (bl bs : Nat) (w w' : World) (er : Int) (at' : Int) : Prop where
  l : Blk w' bl 23 #[.slice none 0 0]
  s : Blk w' bs 26 #[.int .i64 er, .int .i64 at']
  os : w'.os = w.os
  tape : w'.tape = w.tape
  output : w'.output = w.output
  size : w.heap.size ≤ w'.heap.size
  block : ∀ j, j < w.heap.size → j ≠ bl → j ≠ bs → w'.heap[j]? = w.heap[j]?
theorem wp_act {P : Program} {c : Code} {Q : Exit → Act → World → Prop} {a a' : Act} {w : World} (h : a = a') (k : c.wp P Q a' w) : c.wp P Q a w := h ▸ k
set_option maxRecDepth 100000 in
set_option maxHeartbeats 1000000 in
theorem catch_panic (bl bs : Nat) (er at' : Int) (w : World) (hne : bl ≠ bs) (v1 v2 v3 : Value) (hl : Blk w bl 23 #[v1]) (hs : Blk w bs 26 #[v2, v3]) :
    CallsD Tryz.prog 47 #[.pointer (some ⟨bl, 0, none⟩), .pointer (some ⟨bs, 0, none⟩)] (.panicking [{ v := .iface 26 (.agg #[.int .i64 er, .int .i64 at']), recovered := false }]) w fun e u' w' =>
      e = .returned (.tuple #[]) ∧ u' = .panicking [{ v := .iface 26 (.agg #[.int .i64 er, .int .i64 at']), recovered := true }] ∧ Ct bl bs w w' er at' := by
  refine callsD_of_wpS Tryz.func47 rfl fun c₀ cs hu => ?_
  apply wpS_seq
  apply wpS_region
  simp [wpOpsS, go_sem, recoverD, hu, Tryz.ntmps47, Exit.thenS, ta_spot]
  apply wpS_seq
  apply wpS_region
  simp [wpOpsS, go_sem, Exit.thenS]
  refine wpS_cond (t := true) (by simp [Act.eval, Array.replicate]) ?_
  simp only [if_true]
  refine wpS_of_wp ?_
  have hbl := hl.lt
  have hbs := hs.lt
  have AL : Below w.heap.size w (w.alloc (.cells #[.int .i64 er, .int .i64 at'] 26)).drew := ((Below.refl _ _).alloc (Nat.le_refl _) _).trans (below_drewN' _ _ 1)
  have K0 : Hid (Blk (w.alloc (.cells #[.int .i64 er, .int .i64 at'] 26)).drew w.heap.size 26 #[.int .i64 er, .int .i64 at']) := Lib.hid (Blk.new _ _ _)
  have L0 := Lib.hid (hl.below AL hbl)
  have S0 := Lib.hid (hs.below AL hbs)
  obtain ⟨k, hk⟩ : ∃ k, w.heap.size = k := ⟨_, rfl⟩
  rw [hk] at K0
  simp only [hk]
  refine wp_act (a' := { tmps := #[.pointer (some ⟨bl, 0, none⟩), .pointer (some ⟨bs, 0, none⟩), .pointer (some ⟨k, 0, none⟩), .bool true, .tuple #[.agg #[.int .i64 er, .int .i64 at'], .bool true], .iface 26 (.agg #[.int .i64 er, .int .i64 at']), .tuple #[.agg #[.int .i64 er, .int .i64 at'], .bool true], .agg #[.int .i64 er, .int .i64 at'], .bool true, .bool true, undef], defers := [] }) (by simp [Array.replicate]) ?_
  refine wp_region_held_drew (S := fun w' => w'.cell? ⟨k, 0, none⟩ = some (.int .i64 er) ∧ w'.cell? ⟨k, 1, none⟩ = some (.int .i64 at')) (by kernel_rfl) ⟨K0.out.cell 0, K0.out.cell 1⟩ (fun hHeld => ?_)
  have AL1 := Lib.hid AL
  clear AL
  generalize (w.alloc (.cells #[.int .i64 er, .int .i64 at'] 26)).drew = w1 at *
  refine take_d (i := 0) (d := 10) (v := ?vv) rfl rfl (by kernel_rfl) (by kernel_rfl) (by kernel_rfl) (fun _ _ _ h => h) (Or.inl ⟨by kernel_rfl, ?vvh⟩) hHeld ?vvn
  case vvh => (intro w hSw; (try dsimp only at hSw); go_split_ands; go_simp; (try exact rfl))
  try simp only [Act.put, List.setIfInBounds_toArray, List.set_cons_zero, List.set_cons_succ]
  refine wpAnyH_ready (rs := [1]) (by kernel_rfl) (by simp) ?_
  refine AllReadyH.cons rfl (fun K' hK => ?_) AllReadyH.nil
  have f1 : w1.frozen? ⟨bl, 0, none⟩ = false := L0.out.frozen 0
  have f2 : w1.cell? ⟨bl, 0, none⟩ = some v1 := L0.out.cell 0
  go_simp
  clear f1 f2
  have L1 : Hid (Blk (w1.setCell ⟨bl, 0, none⟩ (.slice none 0 0)) bl 23 #[.slice none 0 0]) := Lib.hid (L0.out.set_ 0 _)
  have S1 : Hid (Blk (w1.setCell ⟨bl, 0, none⟩ (.slice none 0 0)) bs 26 #[v2, v3]) := Lib.hid (Blk.far S0.out (p := ⟨bl, 0, none⟩) (Ne.symm hne) _)
  have K1 : Hid (Blk (w1.setCell ⟨bl, 0, none⟩ (.slice none 0 0)) k 26 #[.int .i64 er, .int .i64 at']) := Lib.hid (Blk.far K0.out (p := ⟨bl, 0, none⟩) (by show k ≠ bl; omega) _)
  have O1 := Lib.hid (setCell_only w1 bl 0 (.slice none 0 0))
  generalize w1.setCell ⟨bl, 0, none⟩ (.slice none 0 0) = w2 at *
  refine hK.out _ _ ⟨K1.out.cell 0, K1.out.cell 1⟩ (fun hHeld => ?_)
  clear hK K'
  try simp only [Act.put, List.setIfInBounds_toArray, List.set_cons_zero, List.set_cons_succ]
  refine wpAnyH_ready (rs := [2]) (by kernel_rfl) (by simp) ?_
  refine AllReadyH.cons rfl (fun K' hK => ?_) AllReadyH.nil
  refine wp_store_none rfl 26 _ _ rfl bs #[v2, v3] 26 [.int .i64 er, .int .i64 at'] rfl rfl S1.out rfl Tryz.i26' (by simp [Value.oneCell']) ?_
  intro w3 hb3 ho3
  have L3 := ho3.keep L1.out hne
  have K3 := ho3.keep K1.out (by show k ≠ bs; omega)
  refine hK.out _ _ ⟨K3.cell 0, K3.cell 1⟩ (fun hHeld => ?_)
  clear hK K'
  try simp only [Act.put, List.setIfInBounds_toArray, List.set_cons_zero, List.set_cons_succ]
  refine wpAnyH_done (by kernel_rfl) ?_ _
  have a1 := AL1.out
  have o1 := O1.out
  have hsz : w3.heap.size = w2.heap.size := ho3.size
  have hsz2 : w2.heap.size = w1.heap.size := o1.size
  have b1 := o1.below (base := 0) (Nat.zero_le _)
  have b3 := ho3.below (base := 0) (Nat.zero_le _)
  simp [bodyPostS, results, Tryz.results47]
  exact ⟨L3, hb3, by rw [b3.os, b1.os, a1.os], by rw [b3.tape, b1.tape, a1.tape], by rw [b3.output, b1.output, a1.output], by rw [hsz, hsz2]; exact a1.size, fun j hj h1 h2 => by rw [ho3.block j h2, o1.block j h1, a1.block j hj]⟩
end Go.Proofs.YtiipglmbfgmbbaaGreatDoor
