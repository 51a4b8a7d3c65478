/-
  The document's Decode.
-/
import Derived.Test.YtndkoefchlclkaaW6
import Derived.Test.YtndkoefchlclkaaSays
namespace Go.Proofs.Ytndkoefchlclkaa
open Go.RowKit
attribute [local go_sem ↓] eqV neV eqG

/-- What is answered, nothing, and a value, in blocks of their own; bytes that were there. -/
structure DV (w0 : World) (A : Option Addr) (N : Nat) (zs : List Int) (K n : Int) (s : ByteArray) (w : World) : Prop where
  out : Blk w w0.heap.size 23 #[.int .i64 0, .int .i64 0, .string { data := #[] }]
  non : Blk w (w0.heap.size + 1) 23 #[.int .i64 0, .int .i64 0, .string { data := #[] }]
  val : Blk w (w0.heap.size + 1 + 1) 23 #[.int .i64 K, .int .i64 n, .string s]
  bel : Below w0.heap.size w0 w
  bytes : By w w0.heap.size A N zs
theorem le_two (w : World) : w.heap.size ≤ w.heap.size + 1 + 1 := by omega
section
variable {w0 w w' : World} {A : Option Addr} {N : Nat} {zs : List Int} {K n : Int} {s : ByteArray}
theorem DV.size (h : DV w0 A N zs K n s w) : w0.heap.size + 1 + 1 + 1 ≤ w.heap.size := h.val.lt
theorem DV.at_ (h : DV w0 A N zs K n s w) (hb : Below (w0.heap.size + 1 + 1 + 1) w w') : DV w0 A N zs K n s w' :=
  ⟨h.out.below hb (by omega), h.non.below hb (by omega), h.val.below hb (by omega), h.bel.trans (hb.mono (by omega)), h.bytes.below (hb.mono (by omega))⟩
theorem DV.on (h : DV w0 A N zs K n s w) (hb : Below w.heap.size w w') : DV w0 A N zs K n s w' := h.at_ (hb.mono h.size)
theorem DV.grow (h : DV w0 A N zs K n s w) {o : Obj} {row : Option Nat} (hg : (w.alloc o).grownBy w' row) (hr : ∀ k, row = some k → w0.heap.size + 1 + 1 + 1 ≤ k) : DV w0 A N zs K n s w' :=
  h.at_ (((Below.refl _ w).alloc h.size o).grown hg (by have := h.size; simp; omega) hr)
theorem DV.set1 (h : DV w0 A N zs K n s w) (m : Int) : DV w0 A N zs K m s (w.setCell ⟨w0.heap.size + 1 + 1, 1, none⟩ (.int .i64 m)) :=
  ⟨h.out.far (by simp; omega) _, h.non.far (by simp) _, h.val.set_ 1 (.int .i64 m), h.bel.setCell (le_two _) _, h.bytes.setCell (le_two _) _⟩
theorem DV.set2 (h : DV w0 A N zs K n s w) (t : ByteArray) : DV w0 A N zs K n t (w.setCell ⟨w0.heap.size + 1 + 1, 2, none⟩ (.string t)) :=
  ⟨h.out.far (by simp; omega) _, h.non.far (by simp) _, h.val.set_ 2 (.string t), h.bel.setCell (le_two _) _, h.bytes.setCell (le_two _) _⟩
theorem DV.outs (h : DV w0 A N zs K n s w) : w.cell? ⟨w0.heap.size, 0, none⟩ = some (.int .i64 0) ∧ w.cell? ⟨w0.heap.size, 1, none⟩ = some (.int .i64 0) ∧ w.cell? ⟨w0.heap.size, 2, none⟩ = some (.string { data := #[] }) ∧ w.frozen? ⟨w0.heap.size, 0, none⟩ = false ∧ w.frozen? ⟨w0.heap.size, 1, none⟩ = false ∧ w.frozen? ⟨w0.heap.size, 2, none⟩ = false :=
  ⟨h.out.cell 0, h.out.cell 1, h.out.cell 2, h.out.frozen 0, h.out.frozen 1, h.out.frozen 2⟩
theorem DV.nons (h : DV w0 A N zs K n s w) : w.cell? ⟨w0.heap.size + 1, 0, none⟩ = some (.int .i64 0) ∧ w.cell? ⟨w0.heap.size + 1, 1, none⟩ = some (.int .i64 0) ∧ w.cell? ⟨w0.heap.size + 1, 2, none⟩ = some (.string { data := #[] }) := ⟨h.non.cell 0, h.non.cell 1, h.non.cell 2⟩
theorem DV.vals (h : DV w0 A N zs K n s w) : w.cell? ⟨w0.heap.size + 1 + 1, 0, none⟩ = some (.int .i64 K) ∧ w.cell? ⟨w0.heap.size + 1 + 1, 1, none⟩ = some (.int .i64 n) ∧ w.cell? ⟨w0.heap.size + 1 + 1, 2, none⟩ = some (.string s) ∧ w.frozen? ⟨w0.heap.size + 1 + 1, 1, none⟩ = false ∧ w.frozen? ⟨w0.heap.size + 1 + 1, 2, none⟩ = false :=
  ⟨h.val.cell 0, h.val.cell 1, h.val.cell 2, h.val.frozen 1, h.val.frozen 2⟩
end
theorem By.addr {w : World} {B : Nat} {A : Option Addr} {n : Nat} {zs : List Int} (h : By w B A n zs) (hn : 0 < n) : ∃ b o, A = some ⟨b, o, none⟩ ∧ b < B := by
  obtain ⟨b, o, e, hb, _⟩ := h.2.2 hn
  exact ⟨b, o, e, hb⟩
theorem By.cell {w : World} {B b o n : Nat} {zs : List Int} (h : By w B (some ⟨b, o, none⟩) n zs) (j : Nat) (hj : j < n) : w.cell? ⟨b, o + j, none⟩ = some (.int .u8 (zs.getD j 0)) := by
  obtain ⟨b', o', e, _, hc⟩ := h.2.2 (by omega)
  injection e with e
  injection e with e1 e2
  subst e1 e2
  exact hc j hj

set_option maxRecDepth 100000 in
set_option maxHeartbeats 2000000 in
theorem rdec_none (A : Option Addr) (c : Nat) (w : World) : Calls Try.prog 32 #[.slice A 0 c] w (DR w (0, 0, E0, 0, 7)) := by
  have i3 := Lib.hid i23
  have G : Hid (Blk ((w.alloc (.cells #[.int .i64 0, .int .i64 0, .string { data := #[] }] 23)).alloc (.cells #[.int .i64 0, .int .i64 0, .string { data := #[] }] 23)) w.heap.size 23 #[.int .i64 0, .int .i64 0, .string { data := #[] }]) := (Blk.new _ _ _).alloc _
  have N : Hid (Blk ((w.alloc (.cells #[.int .i64 0, .int .i64 0, .string { data := #[] }] 23)).alloc (.cells #[.int .i64 0, .int .i64 0, .string { data := #[] }] 23)) (w.heap.size + 1) 23 #[.int .i64 0, .int .i64 0, .string { data := #[] }]) := Blk.fresh (by simp)
  have B : Hid (Below w.heap.size w ((w.alloc (.cells #[.int .i64 0, .int .i64 0, .string { data := #[] }] 23)).alloc (.cells #[.int .i64 0, .int .i64 0, .string { data := #[] }] 23))) := ((Below.refl _ w).alloc (Nat.le_refl _) _).alloc (by simp) _
  go_enter Try.func32, Try.ntmps32
  go_upto_region 2 with (fail)
  generalize (w.alloc (.cells #[.int .i64 0, .int .i64 0, .string { data := #[] }] 23)).alloc (.cells #[.int .i64 0, .int .i64 0, .string { data := #[] }] 23) = W0 at *
  have g0 : _ = some (Value.int .i64 0) := G.out.cell 0
  have g1 : _ = some (Value.int .i64 0) := G.out.cell 1
  have g2 : _ = some (Value.string { data := #[] }) := G.out.cell 2
  have q0 := G.out.frozen 0
  have q1 := G.out.frozen 1
  have q2 := G.out.frozen 2
  have m0 : _ = some (Value.int .i64 0) := N.out.cell 0
  have m1 : _ = some (Value.int .i64 0) := N.out.cell 1
  have m2 : _ = some (Value.string { data := #[] }) := N.out.cell 2
  go_wp2
  exact bodyPost_ret (ret_cell_two (p := 2) (u := 3) (v := 4) (ty := 23) rfl _ _ w.heap.size 23 #[.int .i64 0, .int .i64 0, .string E0] _ rfl (((G.out.set_ 0 (.int .i64 0)).set_ 1 (.int .i64 0)).set_ 2 (.string E0)) Try.underlying23 rfl i3.out) rfl ⟨rfl, ((B.out.setCell (Nat.le_refl _) _).setCell (Nat.le_refl _) _).setCell (Nat.le_refl _) _⟩

set_option maxRecDepth 100000 in
set_option maxHeartbeats 2000000 in
theorem rdec_null (b o N c : Nat) (r : List Int) (w : World) (h : By w w.heap.size (some ⟨b, o, none⟩) N (1 :: r)) (hnc : N ≤ c) (hN : N ≤ 100000) : Calls Try.prog 32 #[.slice (some ⟨b, o, none⟩) N c] w (DR w (1, 0, E0, 1, 0)) := by
  have i3 := Lib.hid i23
  have hl := h.1
  simp only [List.length_cons] at hl
  have hN0 : 0 < N := by omega
  have hbnd := h.2.1
  have HNC := Lib.hid hnc
  have h0 : Hid ((((w.alloc (.cells #[.int .i64 0, .int .i64 0, .string { data := #[] }] 23)).alloc (.cells #[.int .i64 0, .int .i64 0, .string { data := #[] }] 23))).cell? ⟨b, o, none⟩ = some (.int .u8 (1))) := ((h.alloc (Nat.le_refl _) _).alloc (by simp) _).cell 0 hN0
  have T0 : DV w (some ⟨b, o, none⟩) N (1 :: r) (1) 0 { data := #[] } (((w.alloc (.cells #[.int .i64 0, .int .i64 0, .string { data := #[] }] 23)).alloc (.cells #[.int .i64 0, .int .i64 0, .string { data := #[] }] 23)).alloc (.cells #[.int .i64 (1), .int .i64 0, .string { data := #[] }] 23)) :=
    ⟨((Blk.new _ _ _).alloc _).alloc _, (Blk.fresh (by simp)).alloc _, Blk.fresh (by simp), (((Below.refl _ w).alloc (Nat.le_refl _) _).alloc (by simp) _).alloc (by simp; omega) _, ((h.alloc (Nat.le_refl _) _).alloc (by simp) _).alloc (by simp; omega) _⟩
  have HL := Lib.hid hl
  have HBN := Lib.hid hbnd
  clear h hl hbnd
  go_enter Try.func32, Try.ntmps32
  go_upto_region 2 with (fail)
  have h0' := h0.out
  clear h0
  go_upto_region 5 with (fail)
  clear h0'
  generalize (((w.alloc (.cells #[.int .i64 0, .int .i64 0, .string { data := #[] }] 23)).alloc (.cells #[.int .i64 0, .int .i64 0, .string { data := #[] }] 23)).alloc (.cells #[.int .i64 (1), .int .i64 0, .string { data := #[] }] 23)) = W0 at *
  obtain ⟨g0, g1, g2, q0, q1, q2⟩ := T0.outs
  obtain ⟨v0, v1, v2, f1, f2⟩ := T0.vals
  go_wp2
  exact bodyPost_ret (ret_cell_two (p := 2) (u := 3) (v := 4) (ty := 23) rfl _ _ w.heap.size 23 #[.int .i64 1, .int .i64 0, .string E0] _ rfl (((T0.out.set_ 0 (.int .i64 1)).set_ 1 (.int .i64 0)).set_ 2 (.string E0)) Try.underlying23 rfl i3.out) rfl ⟨rfl, (((T0.bel.setCell (Nat.le_refl _) _).setCell (Nat.le_refl _) _).setCell (Nat.le_refl _) _)⟩

set_option maxRecDepth 100000 in
set_option maxHeartbeats 2000000 in
theorem rdec_bool0 (b o N c : Nat)  (w : World) (h : By w w.heap.size (some ⟨b, o, none⟩) N ([2])) (hnc : N ≤ c) (hN : N ≤ 100000) : Calls Try.prog 32 #[.slice (some ⟨b, o, none⟩) N c] w (DR w (0, 0, E0, 0, 7)) := by
  have i3 := Lib.hid i23
  have hl := h.1
  simp only [List.length_cons] at hl
  have hN0 : 0 < N := by omega
  have hbnd := h.2.1
  have HNC := Lib.hid hnc
  have hN2 : (N : Int) < 2 := by simp at hl; omega
  have h0 : Hid ((((w.alloc (.cells #[.int .i64 0, .int .i64 0, .string { data := #[] }] 23)).alloc (.cells #[.int .i64 0, .int .i64 0, .string { data := #[] }] 23))).cell? ⟨b, o, none⟩ = some (.int .u8 (2))) := ((h.alloc (Nat.le_refl _) _).alloc (by simp) _).cell 0 hN0
  have T0 : DV w (some ⟨b, o, none⟩) N ([2]) (2) 0 { data := #[] } (((w.alloc (.cells #[.int .i64 0, .int .i64 0, .string { data := #[] }] 23)).alloc (.cells #[.int .i64 0, .int .i64 0, .string { data := #[] }] 23)).alloc (.cells #[.int .i64 (2), .int .i64 0, .string { data := #[] }] 23)) :=
    ⟨((Blk.new _ _ _).alloc _).alloc _, (Blk.fresh (by simp)).alloc _, Blk.fresh (by simp), (((Below.refl _ w).alloc (Nat.le_refl _) _).alloc (by simp) _).alloc (by simp; omega) _, ((h.alloc (Nat.le_refl _) _).alloc (by simp) _).alloc (by simp; omega) _⟩
  have HL := Lib.hid hl
  have HBN := Lib.hid hbnd
  clear h hl hbnd
  go_enter Try.func32, Try.ntmps32
  go_upto_region 2 with (fail)
  have h0' := h0.out
  clear h0
  go_upto_region 5 with (fail)
  clear h0'
  generalize (((w.alloc (.cells #[.int .i64 0, .int .i64 0, .string { data := #[] }] 23)).alloc (.cells #[.int .i64 0, .int .i64 0, .string { data := #[] }] 23)).alloc (.cells #[.int .i64 (2), .int .i64 0, .string { data := #[] }] 23)) = W0 at *
  obtain ⟨g0, g1, g2, q0, q1, q2⟩ := T0.outs
  obtain ⟨m0, m1, m2⟩ := T0.nons
  obtain ⟨v0, v1, v2, f1, f2⟩ := T0.vals
  go_wp2
  exact bodyPost_ret (ret_cell_two (p := 2) (u := 3) (v := 4) (ty := 23) rfl _ _ w.heap.size 23 #[.int .i64 0, .int .i64 0, .string E0] _ rfl (((T0.out.set_ 0 (.int .i64 0)).set_ 1 (.int .i64 0)).set_ 2 (.string E0)) Try.underlying23 rfl i3.out) rfl ⟨rfl, (((T0.bel.setCell (Nat.le_refl _) _).setCell (Nat.le_refl _) _).setCell (Nat.le_refl _) _)⟩

set_option maxRecDepth 100000 in
set_option maxHeartbeats 2000000 in
theorem rdec_bool_no (b o N c : Nat) (z : Int) (hz : 1 < z) (r : List Int) (w : World) (h : By w w.heap.size (some ⟨b, o, none⟩) N (2 :: z :: r)) (hnc : N ≤ c) (hN : N ≤ 100000) : Calls Try.prog 32 #[.slice (some ⟨b, o, none⟩) N c] w (DR w (0, 0, E0, 0, 150)) := by
  have i3 := Lib.hid i23
  have hl := h.1
  simp only [List.length_cons] at hl
  have hN0 : 0 < N := by omega
  have hbnd := h.2.1
  have HNC := Lib.hid hnc
  have hN2 : ¬ (N : Int) < 2 := by omega
  have h0 : Hid ((((w.alloc (.cells #[.int .i64 0, .int .i64 0, .string { data := #[] }] 23)).alloc (.cells #[.int .i64 0, .int .i64 0, .string { data := #[] }] 23))).cell? ⟨b, o, none⟩ = some (.int .u8 (2))) := ((h.alloc (Nat.le_refl _) _).alloc (by simp) _).cell 0 hN0
  have T0 : DV w (some ⟨b, o, none⟩) N (2 :: z :: r) (2) 0 { data := #[] } (((w.alloc (.cells #[.int .i64 0, .int .i64 0, .string { data := #[] }] 23)).alloc (.cells #[.int .i64 0, .int .i64 0, .string { data := #[] }] 23)).alloc (.cells #[.int .i64 (2), .int .i64 0, .string { data := #[] }] 23)) :=
    ⟨((Blk.new _ _ _).alloc _).alloc _, (Blk.fresh (by simp)).alloc _, Blk.fresh (by simp), (((Below.refl _ w).alloc (Nat.le_refl _) _).alloc (by simp) _).alloc (by simp; omega) _, ((h.alloc (Nat.le_refl _) _).alloc (by simp) _).alloc (by simp; omega) _⟩
  have HL := Lib.hid hl
  have HBN := Lib.hid hbnd
  clear h hl hbnd
  go_enter Try.func32, Try.ntmps32
  go_upto_region 2 with (fail)
  have h0' := h0.out
  clear h0
  go_upto_region 5 with (fail)
  clear h0'
  generalize (((w.alloc (.cells #[.int .i64 0, .int .i64 0, .string { data := #[] }] 23)).alloc (.cells #[.int .i64 0, .int .i64 0, .string { data := #[] }] 23)).alloc (.cells #[.int .i64 (2), .int .i64 0, .string { data := #[] }] 23)) = W0 at *
  have h1 : _ = some (Value.int .u8 z) := T0.bytes.cell 1 (by omega)
  obtain ⟨g0, g1, g2, q0, q1, q2⟩ := T0.outs
  obtain ⟨m0, m1, m2⟩ := T0.nons
  obtain ⟨v0, v1, v2, f1, f2⟩ := T0.vals
  go_wp2
  exact bodyPost_ret (ret_cell_two (p := 2) (u := 3) (v := 4) (ty := 23) rfl _ _ w.heap.size 23 #[.int .i64 0, .int .i64 0, .string E0] _ rfl (((T0.out.set_ 0 (.int .i64 0)).set_ 1 (.int .i64 0)).set_ 2 (.string E0)) Try.underlying23 rfl i3.out) rfl ⟨rfl, (((T0.bel.setCell (Nat.le_refl _) _).setCell (Nat.le_refl _) _).setCell (Nat.le_refl _) _)⟩

set_option maxRecDepth 100000 in
set_option maxHeartbeats 2000000 in
theorem rdec_bool_0 (b o N c : Nat) (r : List Int) (w : World) (h : By w w.heap.size (some ⟨b, o, none⟩) N (2 :: 0 :: r)) (hnc : N ≤ c) (hN : N ≤ 100000) : Calls Try.prog 32 #[.slice (some ⟨b, o, none⟩) N c] w (DR w (2, 0, E0, 2, 0)) := by
  have i3 := Lib.hid i23
  have hl := h.1
  simp only [List.length_cons] at hl
  have hN0 : 0 < N := by omega
  have hbnd := h.2.1
  have HNC := Lib.hid hnc
  have hN2 : ¬ (N : Int) < 2 := by omega
  have h0 : Hid ((((w.alloc (.cells #[.int .i64 0, .int .i64 0, .string { data := #[] }] 23)).alloc (.cells #[.int .i64 0, .int .i64 0, .string { data := #[] }] 23))).cell? ⟨b, o, none⟩ = some (.int .u8 (2))) := ((h.alloc (Nat.le_refl _) _).alloc (by simp) _).cell 0 hN0
  have T0 : DV w (some ⟨b, o, none⟩) N (2 :: 0 :: r) (2) 0 { data := #[] } (((w.alloc (.cells #[.int .i64 0, .int .i64 0, .string { data := #[] }] 23)).alloc (.cells #[.int .i64 0, .int .i64 0, .string { data := #[] }] 23)).alloc (.cells #[.int .i64 (2), .int .i64 0, .string { data := #[] }] 23)) :=
    ⟨((Blk.new _ _ _).alloc _).alloc _, (Blk.fresh (by simp)).alloc _, Blk.fresh (by simp), (((Below.refl _ w).alloc (Nat.le_refl _) _).alloc (by simp) _).alloc (by simp; omega) _, ((h.alloc (Nat.le_refl _) _).alloc (by simp) _).alloc (by simp; omega) _⟩
  have HL := Lib.hid hl
  have HBN := Lib.hid hbnd
  clear h hl hbnd
  go_enter Try.func32, Try.ntmps32
  go_upto_region 2 with (fail)
  have h0' := h0.out
  clear h0
  go_upto_region 5 with (fail)
  clear h0'
  generalize (((w.alloc (.cells #[.int .i64 0, .int .i64 0, .string { data := #[] }] 23)).alloc (.cells #[.int .i64 0, .int .i64 0, .string { data := #[] }] 23)).alloc (.cells #[.int .i64 (2), .int .i64 0, .string { data := #[] }] 23)) = W0 at *
  have h1 : _ = some (Value.int .u8 0) := T0.bytes.cell 1 (by omega)
  obtain ⟨v0, v1, v2, f1, f2⟩ := T0.vals
  go_upto_region 14 with (fail)
  have T1 := T0.set1 0
  clear h1 v0 v1 v2 f1 f2
  generalize W0.setCell ⟨w.heap.size + 1 + 1, 1, none⟩ (.int .i64 0) = W1 at *
  obtain ⟨g0, g1, g2, q0, q1, q2⟩ := T1.outs
  obtain ⟨v0, v1, v2, f1, f2⟩ := T1.vals
  go_wp2
  exact bodyPost_ret (ret_cell_two (p := 2) (u := 3) (v := 4) (ty := 23) rfl _ _ w.heap.size 23 #[.int .i64 2, .int .i64 0, .string E0] _ rfl (((T1.out.set_ 0 (.int .i64 2)).set_ 1 (.int .i64 0)).set_ 2 (.string E0)) Try.underlying23 rfl i3.out) rfl ⟨rfl, (((T1.bel.setCell (Nat.le_refl _) _).setCell (Nat.le_refl _) _).setCell (Nat.le_refl _) _)⟩

set_option maxRecDepth 100000 in
set_option maxHeartbeats 2000000 in
theorem rdec_bool_1 (b o N c : Nat) (r : List Int) (w : World) (h : By w w.heap.size (some ⟨b, o, none⟩) N (2 :: 1 :: r)) (hnc : N ≤ c) (hN : N ≤ 100000) : Calls Try.prog 32 #[.slice (some ⟨b, o, none⟩) N c] w (DR w (2, 1, E0, 2, 0)) := by
  have i3 := Lib.hid i23
  have hl := h.1
  simp only [List.length_cons] at hl
  have hN0 : 0 < N := by omega
  have hbnd := h.2.1
  have HNC := Lib.hid hnc
  have hN2 : ¬ (N : Int) < 2 := by omega
  have h0 : Hid ((((w.alloc (.cells #[.int .i64 0, .int .i64 0, .string { data := #[] }] 23)).alloc (.cells #[.int .i64 0, .int .i64 0, .string { data := #[] }] 23))).cell? ⟨b, o, none⟩ = some (.int .u8 (2))) := ((h.alloc (Nat.le_refl _) _).alloc (by simp) _).cell 0 hN0
  have T0 : DV w (some ⟨b, o, none⟩) N (2 :: 1 :: r) (2) 0 { data := #[] } (((w.alloc (.cells #[.int .i64 0, .int .i64 0, .string { data := #[] }] 23)).alloc (.cells #[.int .i64 0, .int .i64 0, .string { data := #[] }] 23)).alloc (.cells #[.int .i64 (2), .int .i64 0, .string { data := #[] }] 23)) :=
    ⟨((Blk.new _ _ _).alloc _).alloc _, (Blk.fresh (by simp)).alloc _, Blk.fresh (by simp), (((Below.refl _ w).alloc (Nat.le_refl _) _).alloc (by simp) _).alloc (by simp; omega) _, ((h.alloc (Nat.le_refl _) _).alloc (by simp) _).alloc (by simp; omega) _⟩
  have HL := Lib.hid hl
  have HBN := Lib.hid hbnd
  clear h hl hbnd
  go_enter Try.func32, Try.ntmps32
  go_upto_region 2 with (fail)
  have h0' := h0.out
  clear h0
  go_upto_region 5 with (fail)
  clear h0'
  generalize (((w.alloc (.cells #[.int .i64 0, .int .i64 0, .string { data := #[] }] 23)).alloc (.cells #[.int .i64 0, .int .i64 0, .string { data := #[] }] 23)).alloc (.cells #[.int .i64 (2), .int .i64 0, .string { data := #[] }] 23)) = W0 at *
  have h1 : _ = some (Value.int .u8 1) := T0.bytes.cell 1 (by omega)
  obtain ⟨v0, v1, v2, f1, f2⟩ := T0.vals
  go_upto_region 14 with (fail)
  have T1 := T0.set1 1
  clear h1 v0 v1 v2 f1 f2
  generalize W0.setCell ⟨w.heap.size + 1 + 1, 1, none⟩ (.int .i64 1) = W1 at *
  obtain ⟨g0, g1, g2, q0, q1, q2⟩ := T1.outs
  obtain ⟨v0, v1, v2, f1, f2⟩ := T1.vals
  go_wp2
  exact bodyPost_ret (ret_cell_two (p := 2) (u := 3) (v := 4) (ty := 23) rfl _ _ w.heap.size 23 #[.int .i64 2, .int .i64 1, .string E0] _ rfl (((T1.out.set_ 0 (.int .i64 2)).set_ 1 (.int .i64 1)).set_ 2 (.string E0)) Try.underlying23 rfl i3.out) rfl ⟨rfl, (((T1.bel.setCell (Nat.le_refl _) _).setCell (Nat.le_refl _) _).setCell (Nat.le_refl _) _)⟩

set_option maxRecDepth 100000 in
set_option maxHeartbeats 2000000 in
theorem rdec_int_no (b o N c : Nat) (r : List Int) (hr : r.length < 8) (w : World) (h : By w w.heap.size (some ⟨b, o, none⟩) N (3 :: r)) (hnc : N ≤ c) (hN : N ≤ 100000) : Calls Try.prog 32 #[.slice (some ⟨b, o, none⟩) N c] w (DR w (0, 0, E0, 0, 7)) := by
  have i3 := Lib.hid i23
  have hl := h.1
  simp only [List.length_cons] at hl
  have hN0 : 0 < N := by omega
  have hbnd := h.2.1
  have HNC := Lib.hid hnc
  have hN9 : (N : Int) < 9 := by omega
  clear hr
  have h0 : Hid ((((w.alloc (.cells #[.int .i64 0, .int .i64 0, .string { data := #[] }] 23)).alloc (.cells #[.int .i64 0, .int .i64 0, .string { data := #[] }] 23))).cell? ⟨b, o, none⟩ = some (.int .u8 (3))) := ((h.alloc (Nat.le_refl _) _).alloc (by simp) _).cell 0 hN0
  have T0 : DV w (some ⟨b, o, none⟩) N (3 :: r) (3) 0 { data := #[] } (((w.alloc (.cells #[.int .i64 0, .int .i64 0, .string { data := #[] }] 23)).alloc (.cells #[.int .i64 0, .int .i64 0, .string { data := #[] }] 23)).alloc (.cells #[.int .i64 (3), .int .i64 0, .string { data := #[] }] 23)) :=
    ⟨((Blk.new _ _ _).alloc _).alloc _, (Blk.fresh (by simp)).alloc _, Blk.fresh (by simp), (((Below.refl _ w).alloc (Nat.le_refl _) _).alloc (by simp) _).alloc (by simp; omega) _, ((h.alloc (Nat.le_refl _) _).alloc (by simp) _).alloc (by simp; omega) _⟩
  have HL := Lib.hid hl
  have HBN := Lib.hid hbnd
  clear h hl hbnd
  go_enter Try.func32, Try.ntmps32
  go_upto_region 2 with (fail)
  have h0' := h0.out
  clear h0
  go_upto_region 5 with (fail)
  clear h0'
  generalize (((w.alloc (.cells #[.int .i64 0, .int .i64 0, .string { data := #[] }] 23)).alloc (.cells #[.int .i64 0, .int .i64 0, .string { data := #[] }] 23)).alloc (.cells #[.int .i64 (3), .int .i64 0, .string { data := #[] }] 23)) = W0 at *
  obtain ⟨g0, g1, g2, q0, q1, q2⟩ := T0.outs
  obtain ⟨m0, m1, m2⟩ := T0.nons
  obtain ⟨v0, v1, v2, f1, f2⟩ := T0.vals
  go_wp2
  exact bodyPost_ret (ret_cell_two (p := 2) (u := 3) (v := 4) (ty := 23) rfl _ _ w.heap.size 23 #[.int .i64 0, .int .i64 0, .string E0] _ rfl (((T0.out.set_ 0 (.int .i64 0)).set_ 1 (.int .i64 0)).set_ 2 (.string E0)) Try.underlying23 rfl i3.out) rfl ⟨rfl, (((T0.bel.setCell (Nat.le_refl _) _).setCell (Nat.le_refl _) _).setCell (Nat.le_refl _) _)⟩

set_option maxRecDepth 100000 in
set_option maxHeartbeats 2000000 in
theorem rdec_int (b o N c : Nat) (r : List Int) (hr : 8 ≤ r.length) (w : World) (h : By w w.heap.size (some ⟨b, o, none⟩) N (3 :: r)) (hnc : N ≤ c) (hN : N ≤ 100000) : Calls Try.prog 32 #[.slice (some ⟨b, o, none⟩) N c] w (DR w (3, sg64 (num (r.take 8)), E0, 9, 0)) := by
  have i3 := Lib.hid i23
  have hl := h.1
  simp only [List.length_cons] at hl
  have hN0 : 0 < N := by omega
  have hbnd := h.2.1
  have HNC := Lib.hid hnc
  have hN9 : ¬ (N : Int) < 9 := by omega
  have hc9 : (9 : Int) ≤ (c : Int) := by omega
  have hx : IntKind.i64.wrap (IntKind.u64.wrap (num (r.take 8) + 9223372036854775808)) = sg64 (num (r.take 8)) := by have := num_range (r.take 8); unfold sg64; rw [IntKind.wrap_i64, IntKind.wrap_u64]; omega
  obtain ⟨X, HX⟩ : ∃ X, Hid (num (r.take 8) = X) := ⟨_, rfl⟩
  rw [HX.out] at hx ⊢
  clear hr
  have h0 : Hid ((((w.alloc (.cells #[.int .i64 0, .int .i64 0, .string { data := #[] }] 23)).alloc (.cells #[.int .i64 0, .int .i64 0, .string { data := #[] }] 23))).cell? ⟨b, o, none⟩ = some (.int .u8 (3))) := ((h.alloc (Nat.le_refl _) _).alloc (by simp) _).cell 0 hN0
  have T0 : DV w (some ⟨b, o, none⟩) N (3 :: r) (3) 0 { data := #[] } (((w.alloc (.cells #[.int .i64 0, .int .i64 0, .string { data := #[] }] 23)).alloc (.cells #[.int .i64 0, .int .i64 0, .string { data := #[] }] 23)).alloc (.cells #[.int .i64 (3), .int .i64 0, .string { data := #[] }] 23)) :=
    ⟨((Blk.new _ _ _).alloc _).alloc _, (Blk.fresh (by simp)).alloc _, Blk.fresh (by simp), (((Below.refl _ w).alloc (Nat.le_refl _) _).alloc (by simp) _).alloc (by simp; omega) _, ((h.alloc (Nat.le_refl _) _).alloc (by simp) _).alloc (by simp; omega) _⟩
  have HL := Lib.hid hl
  have HBN := Lib.hid hbnd
  clear h hl hbnd
  go_enter Try.func32, Try.ntmps32
  go_upto_region 2 with (fail)
  have h0' := h0.out
  clear h0
  go_upto_region 5 with (fail)
  clear h0'
  generalize (((w.alloc (.cells #[.int .i64 0, .int .i64 0, .string { data := #[] }] 23)).alloc (.cells #[.int .i64 0, .int .i64 0, .string { data := #[] }] 23)).alloc (.cells #[.int .i64 (3), .int .i64 0, .string { data := #[] }] 23)) = W0 at *
  obtain ⟨g0, g1, g2, q0, q1, q2⟩ := T0.outs
  obtain ⟨m0, m1, m2⟩ := T0.nons
  obtain ⟨v0, v1, v2, f1, f2⟩ := T0.vals
  have HY := Lib.hid (show By W0 w.heap.size (some ⟨b, o + 1, none⟩) 8 (r.take 8) by
    have := By.cut (c := c) T0.bytes (k := 1) (m := 8) (by omega) (by omega) hnc
    rw [if_neg (by omega)] at this
    simpa [Addr.add] using this)
  go_wp2_with fail
  refine (refnum_any _ 8 (c - 1) (r.take 8) W0 w.heap.size HY.out (by omega)).mono ?_
  rw [HX.out]
  rintro e W1 ⟨rfl, rfl⟩
  go_upto_region 19 with (fail)
  have T1 := T0.set1 (sg64 X)
  clear g0 g1 g2 q0 q1 q2 m0 m1 m2 v0 v1 v2 f1 f2
  generalize W0.setCell ⟨w.heap.size + 1 + 1, 1, none⟩ (.int .i64 (sg64 X)) = W1 at *
  obtain ⟨g0, g1, g2, q0, q1, q2⟩ := T1.outs
  obtain ⟨v0, v1, v2, f1, f2⟩ := T1.vals
  go_wp2
  exact bodyPost_ret (ret_cell_two (p := 2) (u := 3) (v := 4) (ty := 23) rfl _ _ w.heap.size 23 #[.int .i64 3, .int .i64 (sg64 X), .string E0] _ rfl (((T1.out.set_ 0 (.int .i64 3)).set_ 1 (.int .i64 (sg64 X))).set_ 2 (.string E0)) Try.underlying23 rfl i3.out) rfl ⟨rfl, (((T1.bel.setCell (Nat.le_refl _) _).setCell (Nat.le_refl _) _).setCell (Nat.le_refl _) _)⟩

set_option maxRecDepth 100000 in
set_option maxHeartbeats 2000000 in
theorem rdec_else (b o N c : Nat) (z : Int) (z1 : (z == 1) = false) (z2 : (z == 2) = false) (z3 : (z == 3) = false) (z4 : (z == 4) = false) (r : List Int) (w : World) (h : By w w.heap.size (some ⟨b, o, none⟩) N (z :: r)) (hnc : N ≤ c) (hN : N ≤ 100000) : Calls Try.prog 32 #[.slice (some ⟨b, o, none⟩) N c] w (DR w (0, 0, E0, 0, 150)) := by
  have i3 := Lib.hid i23
  have hl := h.1
  simp only [List.length_cons] at hl
  have hN0 : 0 < N := by omega
  have hbnd := h.2.1
  have HNC := Lib.hid hnc
  have hz0 : 0 ≤ z ∧ z ≤ 255 := hbnd 0
  have h0 : Hid ((((w.alloc (.cells #[.int .i64 0, .int .i64 0, .string { data := #[] }] 23)).alloc (.cells #[.int .i64 0, .int .i64 0, .string { data := #[] }] 23))).cell? ⟨b, o, none⟩ = some (.int .u8 (z))) := ((h.alloc (Nat.le_refl _) _).alloc (by simp) _).cell 0 hN0
  have T0 : DV w (some ⟨b, o, none⟩) N (z :: r) (z) 0 { data := #[] } (((w.alloc (.cells #[.int .i64 0, .int .i64 0, .string { data := #[] }] 23)).alloc (.cells #[.int .i64 0, .int .i64 0, .string { data := #[] }] 23)).alloc (.cells #[.int .i64 (z), .int .i64 0, .string { data := #[] }] 23)) :=
    ⟨((Blk.new _ _ _).alloc _).alloc _, (Blk.fresh (by simp)).alloc _, Blk.fresh (by simp), (((Below.refl _ w).alloc (Nat.le_refl _) _).alloc (by simp) _).alloc (by simp; omega) _, ((h.alloc (Nat.le_refl _) _).alloc (by simp) _).alloc (by simp; omega) _⟩
  have HL := Lib.hid hl
  have HBN := Lib.hid hbnd
  clear h hl hbnd
  go_enter Try.func32, Try.ntmps32
  go_upto_region 2 with (fail)
  have h0' := h0.out
  clear h0
  go_upto_region 5 with (fail)
  clear h0'
  generalize (((w.alloc (.cells #[.int .i64 0, .int .i64 0, .string { data := #[] }] 23)).alloc (.cells #[.int .i64 0, .int .i64 0, .string { data := #[] }] 23)).alloc (.cells #[.int .i64 (z), .int .i64 0, .string { data := #[] }] 23)) = W0 at *
  obtain ⟨g0, g1, g2, q0, q1, q2⟩ := T0.outs
  obtain ⟨m0, m1, m2⟩ := T0.nons
  obtain ⟨v0, v1, v2, f1, f2⟩ := T0.vals
  go_wp2
  exact bodyPost_ret (ret_cell_two (p := 2) (u := 3) (v := 4) (ty := 23) rfl _ _ w.heap.size 23 #[.int .i64 0, .int .i64 0, .string E0] _ rfl (((T0.out.set_ 0 (.int .i64 0)).set_ 1 (.int .i64 0)).set_ 2 (.string E0)) Try.underlying23 rfl i3.out) rfl ⟨rfl, (((T0.bel.setCell (Nat.le_refl _) _).setCell (Nat.le_refl _) _).setCell (Nat.le_refl _) _)⟩

end Go.Proofs.Ytndkoefchlclkaa
