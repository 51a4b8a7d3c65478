/-
  Append of one row of writes onto another, nil let in.
-/
import Derived.Test.YtdhompiapklnaaaE9
import Derived.Laws.OwnMore
namespace Go.Proofs.Ytdhompiapklnaaa
open Go.RowKit

theorem wp_app75 {o : Oper} {a : Act} {K : Act → World → Prop} {Q : Exit → Act → World → Prop} {w : World} (s x : Operand) (ho : o.op = .call { callee := .builtin .append, args := #[s, x], argTypes := #[30, 30] })
    (base base2 : Nat) (v : Value) (l1 l2 : List (List Value)) (hs : a.eval s = v) (own1 : Own w base 75 65 v l1) (hv : v ≠ .slice none 0 0) (u : Value) (hx : a.eval x = u) (own2 : Own w base2 75 65 u l2) (one2 : ∀ b ∈ l2, ∀ z ∈ b, z.oneCell' = true)
    (len : l1.length + l2.length ≤ 2000000) (hbase : base ≤ w.heap.size)
    (h : ∀ g c w', Own w' base 75 65 (.slice (some ⟨g, 0, none⟩) (l1.length + l2.length) c) (l1 ++ l2) → w.grownBy w' v.ownBlock → K (a.put o.dst (.slice (some ⟨g, 0, none⟩) (l1.length + l2.length) c)) w') : o.wp Try.prog a w K Q := by
  obtain ⟨i0, hi, hz0, hz1, hz2⟩ := info_parts (show (Try.prog.info? 75).map (fun i => (i.zero, i.size, i.bytes)) = some (some (.agg (Value.int .i64 0 :: Z0).toArray), 65, 72) by kernel_rfl)
  have pp : Parts 65 (l1 ++ l2) := fun b hb => by
    rcases List.mem_append.1 hb with hb | hb
    · exact own1.2 b hb
    · exact own2.2 b hb
  rcases own2.form with ⟨rfl, rfl⟩ | ⟨g, c, cur, rfl, _, hb, _, _, _, ht⟩
  · have hrun := run_append_owned_none (P := Try.prog) (w := w) base 30 o.type 75 i0 65 Try.underlying30 hi v _ _ own1.1
    rcases own1.form with ⟨e, _⟩ | ⟨g, c, cur, rfl, _, _, _, _, _, _⟩
    · exact absurd e hv
    · have hk := h g c w (by simpa using own1) ⟨rfl, rfl, rfl, Nat.le_refl _, fun _ _ _ => rfl⟩
      unfold Oper.wp
      simp [execOp, ho, resolve, invoke, builtin, hs, hx, hrun, Result.andThen]
      exact (show K (a.put o.dst (.slice (some ⟨g, 0, none⟩) l1.length c)) w by simpa using hk)
  · refine wp_append_own w s x 30 ho base 75 i0 _ 65 72 Try.underlying30 hi hz0 hz1 hz2 (by rfl) (by decide) v l1.length l1.flatten hs own1.1 ⟨g, 0, none⟩ l2.length c l2.flatten hx (by rw [own2.2.len]) ?_ ?_ (by unfold maxLen; omega) (by omega) hbase ?_
    · intro j z hj
      exact own2.1.cells (g := g) rfl j z hj
    · intro z hz
      obtain ⟨b, hb, hzb⟩ := List.mem_flatten.1 hz
      exact one2 b hb z hzb
    · intro v' w' hown hg hn
      rcases hown.2 with ⟨e, _⟩ | ⟨g', cap, cur', rfl, _⟩
      · exact absurd (hn.1 e).1 hv
      · exact h g' cap w' ⟨by rw [List.length_append, List.flatten_append]; exact hown, pp⟩ hg

theorem wp_buildN30 {o : Oper} {a : Act} {w : World} {K : Act → World → Prop} {Q : Exit → Act → World → Prop} (ho : o.op = .buildSlice 30 0 #[])
    (h : K (a.put o.dst (.slice (some ⟨w.heap.size, 0, none⟩) 0 0)) (w.alloc (.cells #[] 75))) : o.wp Try.prog a w K Q := by
  obtain ⟨i0, hi, _⟩ := info_parts (show (Try.prog.info? 75).map (fun i => (i.zero, i.size, i.bytes)) = some (some (.agg (Value.int .i64 0 :: Z0).toArray), 65, 72) by kernel_rfl)
  have hr : (Instr.buildSlice 30 0 #[]).run Try.prog w = .ok (.slice (some ⟨w.heap.size, 0, none⟩) 0 0) (w.alloc (.cells #[] 75)) := by
    simp [Instr.buildSlice, run_underlying Try.underlying30, sizeOf, typeInfo, hi, Instr.fill, newRow, (show Array.range 0 = #[] from by decide)]
  unfold Oper.wp execOp
  simp only [ho, List.map_toArray, List.map_nil, Sem.run_bind, hr, Result.andThen_ok, Sem.run_pure]
  exact h
theorem own_new30 (w : World) {base : Nat} (hb : base ≤ w.heap.size) : Own (w.alloc (.cells #[] 75)) base 75 65 (.slice (some ⟨w.heap.size, 0, none⟩) 0 0) [] :=
  ⟨World.ownsRow_made w #[] 0 hb (Nat.zero_le _) rfl, fun _ h => by cases h⟩
theorem own_one30 (w : World) {base : Nat} (hb : base ≤ w.heap.size) (X : List Value) (hX : X.length = 65) : Own (w.alloc (.cells X.toArray 75)) base 75 65 (.slice (some ⟨w.heap.size, 0, none⟩) 1 1) [X] :=
  ⟨by
    have := World.ownsRow_lit (size := 65) (e := 75) w X.toArray 1 hb (by decide) (by simp [hX])
    simpa using this, fun b h => by
    rw [List.mem_singleton.1 h]; exact hX⟩

end Go.Proofs.Ytdhompiapklnaaa
