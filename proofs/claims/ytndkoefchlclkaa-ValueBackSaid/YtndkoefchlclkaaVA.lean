/-
  The program's Reckon: its ways out.
-/
import Derived.Test.YtndkoefchlclkaaV9
import Derived.Test.YtndkoefchlclkaaV5
namespace Go.Proofs.Ytndkoefchlclkaa
open Go.RowKit
attribute [local go_sem ↓] eqV neV eqG

/-- What a call of Reckon answers: a value without a text, an error. -/
def Told3 (w0 : World) (K n er : Int) (e : Ending) (w : World) : Prop := e = .returned (.tuple #[.agg #[.int .i64 K, .int .i64 n, .string E0], .int .i64 er]) ∧ Below w0.heap.size w0 w
/-- The reckoners, in a block of their own. -/
def RB (w : World) (g a b : Nat) : Prop := Blk w g 71 (rks a b).toArray ∧ Blk w a 70 #[.func (.func 76) #[] #[]] ∧ Blk w b 70 #[.func (.func 77) #[] #[]]
theorem RB.below {w w' : World} {g a b : Nat} (h : RB w g a b) (hb : Below w.heap.size w w') : RB w' g a b := ⟨h.1.below hb h.1.lt, h.2.1.below hb h.2.1.lt, h.2.2.below hb h.2.2.lt⟩
theorem three_one {k n : Int} {s : ByteArray} : ∀ v ∈ [Value.int .i64 k, .int .i64 n, .string s], v.oneCell' = true := fun v hv => by
  simp only [List.mem_cons, List.not_mem_nil, or_false] at hv
  rcases hv with rfl | rfl | rfl <;> rfl
theorem V3.three {w : World} {k n : Int} {s : ByteArray} {k' n' : Int} {s' : ByteArray} {W : World} (hW : W = ((w.alloc (.cells #[.int .i64 k, .int .i64 n, .string s] 23)).alloc (.cells #[.int .i64 k', .int .i64 n', .string s'] 23)).alloc (.cells #[.int .i64 0, .int .i64 0, .string { data := #[] }] 23)) :
    Hid (V3 W w.heap.size k n s) ∧ Hid (V3 W (w.heap.size + 1) k' n' s') ∧ Hid (w.heap.size < W.heap.size) ∧ Hid (w.heap.size + 1 < W.heap.size) ∧ Hid (Below w.heap.size w W) ∧ Hid (Blk W (w.heap.size + 1 + 1) 23 #[.int .i64 0, .int .i64 0, .string { data := #[] }]) := by
  subst hW
  obtain ⟨A1, A2, Z1, Z2, B0⟩ := V3.two (w := w) (k := k) (n := n) (s := s) (k' := k') (n' := n') (s' := s') rfl
  obtain ⟨A1, A2, Z1, Z2, B0⟩ := V3.on A1 A2 Z1 Z2 B0 ((Below.refl _ _).alloc (Nat.le_refl _) (.cells #[.int .i64 0, .int .i64 0, .string { data := #[] }] 23))
  exact ⟨A1, A2, Z1, Z2, B0, Blk.fresh (by simp)⟩
theorem le2 (w : World) : w.heap.size ≤ w.heap.size + 1 + 1 := by omega
theorem reckons_yes (k n : Int) (s : ByteArray) (h : k = 1 ∨ k = 3) (w : World) : Calls Try.prog 47 #[.agg #[.int .i64 k, .int .i64 n, .string s]] w fun e w' => e = .returned (.bool true) ∧ Below w.heap.size w w' := by
  have := reckons_any k n s w
  rwa [decide_eq_true h] at this
theorem reckons_no (k n : Int) (s : ByteArray) (h : ¬ (k = 1 ∨ k = 3)) (w : World) : Calls Try.prog 47 #[.agg #[.int .i64 k, .int .i64 n, .string s]] w fun e w' => e = .returned (.bool false) ∧ Below w.heap.size w w' := by
  have := reckons_any k n s w
  rwa [decide_eq_false h] at this

set_option maxRecDepth 100000 in
set_option maxHeartbeats 2000000 in
theorem reck_err (op : Int) (k n : Int) (s : ByteArray) (k' n' : Int) (s' : ByteArray) (w : World) (h : askd op 6 k n s k' n' s' ≠ 0) : Calls Try.prog 23 #[.int .i64 op, .agg #[.int .i64 k, .int .i64 n, .string s], .agg #[.int .i64 k', .int .i64 n', .string s']] w (Told3 w 0 0 (askd op 6 k n s k' n' s')) := by
  obtain ⟨A1, A2, Z1, Z2, B0, G0⟩ := V3.three (w := w) (k := k) (n := n) (s := s) (k' := k') (n' := n') (s' := s') rfl
  have HC := Lib.hid (fun w => asked_any op 6 k n s k' n' s' w)
  have i3 := Lib.hid i23
  have hne : (askd op 6 k n s k' n' s' != 0) = true := by simp [h]
  clear h
  unfold Told3
  generalize askd op 6 k n s k' n' s' = er at *
  go_enter Try.func23, Try.ntmps23
  go_upto_region 1 with (fail)
  generalize ((w.alloc (.cells #[.int .i64 k, .int .i64 n, .string s] 23)).alloc (.cells #[.int .i64 k', .int .i64 n', .string s'] 23)).alloc (.cells #[.int .i64 0, .int .i64 0, .string { data := #[] }] 23) = W0 at *
  go_wp2_with fail
  refine (reckoners_any _).mono ?_
  rintro e w1 ⟨⟨cs, rfl, fa, fb, rfl, h1, h2⟩, hb⟩
  have R1 : Hid (RB (w1.alloc (.cells (rks fa fb).toArray 71)) w1.heap.size fa fb) := ⟨Blk.new _ _ _, h1.alloc _, h2.alloc _⟩
  have G1 := Lib.hid ((G0.out.below hb G0.out.lt).alloc (.cells (rks fa fb).toArray 71))
  obtain ⟨A1, A2, Z1, Z2, B0⟩ := V3.on A1 A2 Z1 Z2 B0 (hb.alloc hb.size (.cells (rks fa fb).toArray 71))
  clear hb h1 h2 G0
  unfold rks at *
  go_upto_region 2 with (fail)
  generalize w1.alloc (.cells #[.nilFunc, .func (.func 72) #[] #[], .func (.func 73) #[] #[], .func (.func 74) #[] #[], .func (.func 84) #[] #[.pointer (some ⟨fa, 0, none⟩)], .func (.func 84) #[] #[.pointer (some ⟨fb, 0, none⟩)]] 71) = W1 at *
  generalize w1.heap.size = gt at *
  have c0 := A1.out.1
  have c1 := A1.out.2.1
  have c2 := A1.out.2.2
  have d0 := A2.out.1
  have d1 := A2.out.2.1
  have d2 := A2.out.2.2
  go_wp2_with fail
  refine (HC.out _).mono ?_
  rintro e w3 ⟨rfl, hb⟩
  have R2 := Lib.hid (R1.out.below hb)
  have G2 := Lib.hid (G1.out.below hb G1.out.lt)
  obtain ⟨A1, A2, Z1, Z2, B0⟩ := V3.on A1 A2 Z1 Z2 B0 hb
  clear hb c0 c1 c2 d0 d1 d2 R1 HC G1
  have g0 : _ = some (Value.int .i64 0) := G2.out.cell 0
  have g1 : _ = some (Value.int .i64 0) := G2.out.cell 1
  have g2 : _ = some (Value.string { data := #[] }) := G2.out.cell 2
  have q0 := G2.out.frozen 0
  have q1 := G2.out.frozen 1
  have q2 := G2.out.frozen 2
  go_wp2
  exact bodyPost_ret (ret_cell_tmp (p := 6) (u := 7) (ty := 23) rfl _ _ (w.heap.size + 1 + 1) 23 #[.int .i64 0, .int .i64 0, .string E0] _ rfl (((G2.out.set_ 0 (.int .i64 0)).set_ 1 (.int .i64 0)).set_ 2 (.string E0)) Try.underlying23 rfl i3.out) rfl ⟨rfl, (((B0.out.setCell (le2 w) _).setCell (le2 w) _).setCell (le2 w) _)⟩

set_option maxRecDepth 100000 in
set_option maxHeartbeats 2000000 in
theorem reck_type1 (op : Int) (k n : Int) (s : ByteArray) (k' n' : Int) (s' : ByteArray) (w : World) (hz : askd op 6 k n s k' n' s' = 0) (hk : ¬ (k = 1 ∨ k = 3)) : Calls Try.prog 23 #[.int .i64 op, .agg #[.int .i64 k, .int .i64 n, .string s], .agg #[.int .i64 k', .int .i64 n', .string s']] w (Told3 w 0 0 153) := by
  obtain ⟨A1, A2, Z1, Z2, B0, G0⟩ := V3.three (w := w) (k := k) (n := n) (s := s) (k' := k') (n' := n') (s' := s') rfl
  have HC := Lib.hid (fun w => asked_any op 6 k n s k' n' s' w)
  have i3 := Lib.hid i23
  rw [hz] at HC
  clear hz
  unfold Told3
  have HR := Lib.hid (fun w => reckons_no k n s hk w)
  clear hk
  go_enter Try.func23, Try.ntmps23
  go_upto_region 1 with (fail)
  generalize ((w.alloc (.cells #[.int .i64 k, .int .i64 n, .string s] 23)).alloc (.cells #[.int .i64 k', .int .i64 n', .string s'] 23)).alloc (.cells #[.int .i64 0, .int .i64 0, .string { data := #[] }] 23) = W0 at *
  go_wp2_with fail
  refine (reckoners_any _).mono ?_
  rintro e w1 ⟨⟨cs, rfl, fa, fb, rfl, h1, h2⟩, hb⟩
  have R1 : Hid (RB (w1.alloc (.cells (rks fa fb).toArray 71)) w1.heap.size fa fb) := ⟨Blk.new _ _ _, h1.alloc _, h2.alloc _⟩
  have G1 := Lib.hid ((G0.out.below hb G0.out.lt).alloc (.cells (rks fa fb).toArray 71))
  obtain ⟨A1, A2, Z1, Z2, B0⟩ := V3.on A1 A2 Z1 Z2 B0 (hb.alloc hb.size (.cells (rks fa fb).toArray 71))
  clear hb h1 h2 G0
  unfold rks at *
  go_upto_region 2 with (fail)
  generalize w1.alloc (.cells #[.nilFunc, .func (.func 72) #[] #[], .func (.func 73) #[] #[], .func (.func 74) #[] #[], .func (.func 84) #[] #[.pointer (some ⟨fa, 0, none⟩)], .func (.func 84) #[] #[.pointer (some ⟨fb, 0, none⟩)]] 71) = W1 at *
  generalize w1.heap.size = gt at *
  have c0 := A1.out.1
  have c1 := A1.out.2.1
  have c2 := A1.out.2.2
  have d0 := A2.out.1
  have d1 := A2.out.2.1
  have d2 := A2.out.2.2
  go_wp2_with fail
  refine (HC.out _).mono ?_
  rintro e w3 ⟨rfl, hb⟩
  have R2 := Lib.hid (R1.out.below hb)
  have G2 := Lib.hid (G1.out.below hb G1.out.lt)
  obtain ⟨A1, A2, Z1, Z2, B0⟩ := V3.on A1 A2 Z1 Z2 B0 hb
  clear hb c0 c1 c2 d0 d1 d2 R1 HC G1
  go_upto_region 5 with (fail)
  have c0 := A1.out.1
  have c1 := A1.out.2.1
  have c2 := A1.out.2.2
  have d0 := A2.out.1
  have d1 := A2.out.2.1
  have d2 := A2.out.2.2
  go_wp2_with fail
  refine (HR.out _).mono ?_
  rintro e w4 ⟨rfl, hb⟩
  have G2 := Lib.hid (G2.out.below hb G2.out.lt)
  have R2 := Lib.hid (R2.out.below hb)
  obtain ⟨A1, A2, Z1, Z2, B0⟩ := V3.on A1 A2 Z1 Z2 B0 hb
  clear hb c0 c1 c2 d0 d1 d2
  have g0 : _ = some (Value.int .i64 0) := G2.out.cell 0
  have g1 : _ = some (Value.int .i64 0) := G2.out.cell 1
  have g2 : _ = some (Value.string { data := #[] }) := G2.out.cell 2
  have q0 := G2.out.frozen 0
  have q1 := G2.out.frozen 1
  have q2 := G2.out.frozen 2
  go_wp2
  exact bodyPost_ret (ret_cell_tmp (p := 6) (u := 7) (ty := 23) rfl _ _ (w.heap.size + 1 + 1) 23 #[.int .i64 0, .int .i64 0, .string E0] _ rfl (((G2.out.set_ 0 (.int .i64 0)).set_ 1 (.int .i64 0)).set_ 2 (.string E0)) Try.underlying23 rfl i3.out) rfl ⟨rfl, (((B0.out.setCell (le2 w) _).setCell (le2 w) _).setCell (le2 w) _)⟩

set_option maxRecDepth 100000 in
set_option maxHeartbeats 2000000 in
theorem reck_type2 (op : Int) (k n : Int) (s : ByteArray) (k' n' : Int) (s' : ByteArray) (w : World) (hz : askd op 6 k n s k' n' s' = 0) (hk : k = 1 ∨ k = 3) (hk' : ¬ (k' = 1 ∨ k' = 3)) : Calls Try.prog 23 #[.int .i64 op, .agg #[.int .i64 k, .int .i64 n, .string s], .agg #[.int .i64 k', .int .i64 n', .string s']] w (Told3 w 0 0 153) := by
  obtain ⟨A1, A2, Z1, Z2, B0, G0⟩ := V3.three (w := w) (k := k) (n := n) (s := s) (k' := k') (n' := n') (s' := s') rfl
  have HC := Lib.hid (fun w => asked_any op 6 k n s k' n' s' w)
  have i3 := Lib.hid i23
  rw [hz] at HC
  clear hz
  unfold Told3
  have HR := Lib.hid (fun w => reckons_yes k n s hk w)
  have HR' := Lib.hid (fun w => reckons_no k' n' s' hk' w)
  clear hk hk'
  go_enter Try.func23, Try.ntmps23
  go_upto_region 1 with (fail)
  generalize ((w.alloc (.cells #[.int .i64 k, .int .i64 n, .string s] 23)).alloc (.cells #[.int .i64 k', .int .i64 n', .string s'] 23)).alloc (.cells #[.int .i64 0, .int .i64 0, .string { data := #[] }] 23) = W0 at *
  go_wp2_with fail
  refine (reckoners_any _).mono ?_
  rintro e w1 ⟨⟨cs, rfl, fa, fb, rfl, h1, h2⟩, hb⟩
  have R1 : Hid (RB (w1.alloc (.cells (rks fa fb).toArray 71)) w1.heap.size fa fb) := ⟨Blk.new _ _ _, h1.alloc _, h2.alloc _⟩
  have G1 := Lib.hid ((G0.out.below hb G0.out.lt).alloc (.cells (rks fa fb).toArray 71))
  obtain ⟨A1, A2, Z1, Z2, B0⟩ := V3.on A1 A2 Z1 Z2 B0 (hb.alloc hb.size (.cells (rks fa fb).toArray 71))
  clear hb h1 h2 G0
  unfold rks at *
  go_upto_region 2 with (fail)
  generalize w1.alloc (.cells #[.nilFunc, .func (.func 72) #[] #[], .func (.func 73) #[] #[], .func (.func 74) #[] #[], .func (.func 84) #[] #[.pointer (some ⟨fa, 0, none⟩)], .func (.func 84) #[] #[.pointer (some ⟨fb, 0, none⟩)]] 71) = W1 at *
  generalize w1.heap.size = gt at *
  have c0 := A1.out.1
  have c1 := A1.out.2.1
  have c2 := A1.out.2.2
  have d0 := A2.out.1
  have d1 := A2.out.2.1
  have d2 := A2.out.2.2
  go_wp2_with fail
  refine (HC.out _).mono ?_
  rintro e w3 ⟨rfl, hb⟩
  have R2 := Lib.hid (R1.out.below hb)
  have G2 := Lib.hid (G1.out.below hb G1.out.lt)
  obtain ⟨A1, A2, Z1, Z2, B0⟩ := V3.on A1 A2 Z1 Z2 B0 hb
  clear hb c0 c1 c2 d0 d1 d2 R1 HC G1
  go_upto_region 5 with (fail)
  have c0 := A1.out.1
  have c1 := A1.out.2.1
  have c2 := A1.out.2.2
  have d0 := A2.out.1
  have d1 := A2.out.2.1
  have d2 := A2.out.2.2
  go_wp2_with fail
  refine (HR.out _).mono ?_
  rintro e w4 ⟨rfl, hb⟩
  have G2 := Lib.hid (G2.out.below hb G2.out.lt)
  have R2 := Lib.hid (R2.out.below hb)
  obtain ⟨A1, A2, Z1, Z2, B0⟩ := V3.on A1 A2 Z1 Z2 B0 hb
  clear hb c0 c1 c2 d0 d1 d2
  have c0 := A1.out.1
  have c1 := A1.out.2.1
  have c2 := A1.out.2.2
  have d0 := A2.out.1
  have d1 := A2.out.2.1
  have d2 := A2.out.2.2
  go_wp2_with fail
  refine (HR'.out _).mono ?_
  rintro e w5 ⟨rfl, hb⟩
  have G2 := Lib.hid (G2.out.below hb G2.out.lt)
  have R2 := Lib.hid (R2.out.below hb)
  obtain ⟨A1, A2, Z1, Z2, B0⟩ := V3.on A1 A2 Z1 Z2 B0 hb
  clear hb c0 c1 c2 d0 d1 d2
  have g0 : _ = some (Value.int .i64 0) := G2.out.cell 0
  have g1 : _ = some (Value.int .i64 0) := G2.out.cell 1
  have g2 : _ = some (Value.string { data := #[] }) := G2.out.cell 2
  have q0 := G2.out.frozen 0
  have q1 := G2.out.frozen 1
  have q2 := G2.out.frozen 2
  go_wp2
  exact bodyPost_ret (ret_cell_tmp (p := 6) (u := 7) (ty := 23) rfl _ _ (w.heap.size + 1 + 1) 23 #[.int .i64 0, .int .i64 0, .string E0] _ rfl (((G2.out.set_ 0 (.int .i64 0)).set_ 1 (.int .i64 0)).set_ 2 (.string E0)) Try.underlying23 rfl i3.out) rfl ⟨rfl, (((B0.out.setCell (le2 w) _).setCell (le2 w) _).setCell (le2 w) _)⟩

theorem V3.dd {w w' : World} (hb : Below w.drew.heap.size w.drew w') : Below w.heap.size w w' := (Below.refl _ w).drew.trans (hb.mono (by simp))

set_option maxRecDepth 100000 in
set_option maxHeartbeats 2000000 in
theorem reck_null1 (op : Int) (k n : Int) (s : ByteArray) (k' n' : Int) (s' : ByteArray) (w : World) (hz : askd op 6 k n s k' n' s' = 0) (hk : k = 1 ∨ k = 3) (hk' : k' = 1 ∨ k' = 3) (hd : Eqv k n s 1 0 E0 = true) : Calls Try.prog 23 #[.int .i64 op, .agg #[.int .i64 k, .int .i64 n, .string s], .agg #[.int .i64 k', .int .i64 n', .string s']] w (Told3 w 1 0 0) := by
  obtain ⟨A1, A2, Z1, Z2, B0, G0⟩ := V3.three (w := w) (k := k) (n := n) (s := s) (k' := k') (n' := n') (s' := s') rfl
  have HC := Lib.hid (fun w => asked_any op 6 k n s k' n' s' w)
  have i3 := Lib.hid i23
  rw [hz] at HC
  clear hz
  unfold Told3
  have HR := Lib.hid (fun w => reckons_yes k n s hk w)
  have HR' := Lib.hid (fun w => reckons_yes k' n' s' hk' w)
  clear hk hk'
  go_enter Try.func23, Try.ntmps23
  go_upto_region 1 with (fail)
  generalize ((w.alloc (.cells #[.int .i64 k, .int .i64 n, .string s] 23)).alloc (.cells #[.int .i64 k', .int .i64 n', .string s'] 23)).alloc (.cells #[.int .i64 0, .int .i64 0, .string { data := #[] }] 23) = W0 at *
  go_wp2_with fail
  refine (reckoners_any _).mono ?_
  rintro e w1 ⟨⟨cs, rfl, fa, fb, rfl, h1, h2⟩, hb⟩
  have R1 : Hid (RB (w1.alloc (.cells (rks fa fb).toArray 71)) w1.heap.size fa fb) := ⟨Blk.new _ _ _, h1.alloc _, h2.alloc _⟩
  have G1 := Lib.hid ((G0.out.below hb G0.out.lt).alloc (.cells (rks fa fb).toArray 71))
  obtain ⟨A1, A2, Z1, Z2, B0⟩ := V3.on A1 A2 Z1 Z2 B0 (hb.alloc hb.size (.cells (rks fa fb).toArray 71))
  clear hb h1 h2 G0
  unfold rks at *
  go_upto_region 2 with (fail)
  generalize w1.alloc (.cells #[.nilFunc, .func (.func 72) #[] #[], .func (.func 73) #[] #[], .func (.func 74) #[] #[], .func (.func 84) #[] #[.pointer (some ⟨fa, 0, none⟩)], .func (.func 84) #[] #[.pointer (some ⟨fb, 0, none⟩)]] 71) = W1 at *
  generalize w1.heap.size = gt at *
  have c0 := A1.out.1
  have c1 := A1.out.2.1
  have c2 := A1.out.2.2
  have d0 := A2.out.1
  have d1 := A2.out.2.1
  have d2 := A2.out.2.2
  go_wp2_with fail
  refine (HC.out _).mono ?_
  rintro e w3 ⟨rfl, hb⟩
  have R2 := Lib.hid (R1.out.below hb)
  have G2 := Lib.hid (G1.out.below hb G1.out.lt)
  obtain ⟨A1, A2, Z1, Z2, B0⟩ := V3.on A1 A2 Z1 Z2 B0 hb
  clear hb c0 c1 c2 d0 d1 d2 R1 HC G1
  go_upto_region 5 with (fail)
  have c0 := A1.out.1
  have c1 := A1.out.2.1
  have c2 := A1.out.2.2
  have d0 := A2.out.1
  have d1 := A2.out.2.1
  have d2 := A2.out.2.2
  go_wp2_with fail
  refine (HR.out _).mono ?_
  rintro e w4 ⟨rfl, hb⟩
  have G2 := Lib.hid (G2.out.below hb G2.out.lt)
  have R2 := Lib.hid (R2.out.below hb)
  obtain ⟨A1, A2, Z1, Z2, B0⟩ := V3.on A1 A2 Z1 Z2 B0 hb
  clear hb c0 c1 c2 d0 d1 d2
  have c0 := A1.out.1
  have c1 := A1.out.2.1
  have c2 := A1.out.2.2
  have d0 := A2.out.1
  have d1 := A2.out.2.1
  have d2 := A2.out.2.2
  go_wp2_with fail
  refine (HR'.out _).mono ?_
  rintro e w5 ⟨rfl, hb⟩
  have G2 := Lib.hid (G2.out.below hb G2.out.lt)
  have R2 := Lib.hid (R2.out.below hb)
  obtain ⟨A1, A2, Z1, Z2, B0⟩ := V3.on A1 A2 Z1 Z2 B0 hb
  clear hb c0 c1 c2 d0 d1 d2
  go_upto_region 7 with (fail)
  have hS0 : w5.drew.cell? ⟨w.heap.size, 0, none⟩ = some (.int .i64 k) ∧ w5.drew.cell? ⟨w.heap.size, 1, none⟩ = some (.int .i64 n) ∧ w5.drew.cell? ⟨w.heap.size, 2, none⟩ = some (.string s) ∧ w5.drew.cell? ⟨w.heap.size + 1, 0, none⟩ = some (.int .i64 k') ∧ w5.drew.cell? ⟨w.heap.size + 1, 1, none⟩ = some (.int .i64 n') ∧ w5.drew.cell? ⟨w.heap.size + 1, 2, none⟩ = some (.string s') := V3.six (V3.drew A1.out) (V3.drew A2.out)
  refine wp_region_noPanic ?_
  refine wp_region_held_drew (S := fun w' => w'.cell? ⟨w.heap.size, 0, none⟩ = some (.int .i64 k) ∧ w'.cell? ⟨w.heap.size, 1, none⟩ = some (.int .i64 n) ∧ w'.cell? ⟨w.heap.size, 2, none⟩ = some (.string s) ∧ w'.cell? ⟨w.heap.size + 1, 0, none⟩ = some (.int .i64 k') ∧ w'.cell? ⟨w.heap.size + 1, 1, none⟩ = some (.int .i64 n') ∧ w'.cell? ⟨w.heap.size + 1, 2, none⟩ = some (.string s')) (by kernel_rfl) hS0 (fun hHeld => ?_)
  clear hS0
  refine take_d (i := 0) (d := 32) (v := .agg #[.int .i64 k, .int .i64 n, .string s]) rfl rfl (by kernel_rfl) (by kernel_rfl) (by kernel_rfl) (fun _ _ _ h => h) (Or.inl ⟨by kernel_rfl, ?hy⟩) hHeld ?_
  case hy => (intro w hSw; (try dsimp only at hSw); go_split_ands; go_simp)
  try simp only [Act.put, List.setIfInBounds_toArray, List.set_cons_zero, List.set_cons_succ]
  refine wpAnyH_ready (rs := [1]) (by kernel_rfl) (by simp) ?_
  refine AllReadyH.cons rfl (fun K hK => ?_) AllReadyH.nil
  go_simp
  refine (null_any _).mono ?_
  rintro e w6 ⟨rfl, hb1⟩
  refine hK.out _ _ (V3.six (V3.nx A1.out Z1.out hb1) (V3.nx A2.out Z2.out hb1)) (fun hHeld => ?_)
  clear hK K
  try simp only [Act.put, List.setIfInBounds_toArray, List.set_cons_zero, List.set_cons_succ]
  refine take_d (i := 2) (d := 34) (v := .bool true) rfl rfl (by kernel_rfl) (by kernel_rfl) (by kernel_rfl) (fun _ _ _ h => h) (Or.inl ⟨by kernel_rfl, ?hy⟩) hHeld ?_
  case hy => (intro w hSw; (try dsimp only at hSw); go_split_ands; go_simp)
  try simp only [Act.put, List.setIfInBounds_toArray, List.set_cons_zero, List.set_cons_succ]
  refine take_d (i := 3) (d := 35) (v := .bool true) rfl rfl (by kernel_rfl) (by kernel_rfl) (by kernel_rfl) (fun _ _ _ h => h) (Or.inl ⟨by kernel_rfl, ?hy⟩) hHeld ?_
  case hy => (intro w hSw; (try dsimp only at hSw); go_split_ands; go_simp)
  try simp only [Act.put, List.setIfInBounds_toArray, List.set_cons_zero, List.set_cons_succ]
  refine take_d (i := 4) (d := 36) (v := undef) rfl rfl (by kernel_rfl) (by kernel_rfl) (by kernel_rfl) (fun _ _ _ h => h) (Or.inr ⟨by kernel_rfl, rfl⟩) hHeld ?_
  try simp only [Act.put, List.setIfInBounds_toArray, List.set_cons_zero, List.set_cons_succ]
  refine take_d (i := 5) (d := 37) (v := undef) rfl rfl (by kernel_rfl) (by kernel_rfl) (by kernel_rfl) (fun _ _ _ h => h) (Or.inr ⟨by kernel_rfl, rfl⟩) hHeld ?_
  try simp only [Act.put, List.setIfInBounds_toArray, List.set_cons_zero, List.set_cons_succ]
  refine take_d (i := 6) (d := 38) (v := undef) rfl rfl (by kernel_rfl) (by kernel_rfl) (by kernel_rfl) (fun _ _ _ h => h) (Or.inr ⟨by kernel_rfl, rfl⟩) hHeld ?_
  try simp only [Act.put, List.setIfInBounds_toArray, List.set_cons_zero, List.set_cons_succ]
  refine take_d (i := 7) (d := 39) (v := .bool true) rfl rfl (by kernel_rfl) (by kernel_rfl) (by kernel_rfl) (fun _ _ _ h => h) (Or.inl ⟨by kernel_rfl, ?hy⟩) hHeld ?_
  case hy => (intro w hSw; (try dsimp only at hSw); go_split_ands; go_simp)
  try simp only [Act.put, List.setIfInBounds_toArray, List.set_cons_zero, List.set_cons_succ]
  refine wpAnyH_ready (rs := [8]) (by kernel_rfl) (by simp) ?_
  refine AllReadyH.cons rfl (fun K hK => ?_) AllReadyH.nil
  go_simp
  refine hK.out _ _ (V3.six (V3.nx A1.out Z1.out hb1) (V3.nx A2.out Z2.out hb1)) (fun hHeld => ?_)
  clear hK K
  try simp only [Act.put, List.setIfInBounds_toArray, List.set_cons_zero, List.set_cons_succ]
  refine wpAnyH_done (by kernel_rfl) ?_ _
  have hb3 : Below w5.heap.size w5 w6 := V3.dd hb1
  have G3 := Lib.hid (G2.out.below hb3 G2.out.lt)
  have B4 := Lib.hid (B0.out.trans (hb3.mono B0.out.size))
  clear hb1 hb3 hHeld
  refine NoPanic.normal ?_
  go_wp2_with fail
  refine (null_any _).mono ?_
  rintro e w8 ⟨rfl, hb⟩
  have G4 := Lib.hid (G3.out.below hb G3.out.lt)
  have B5 := Lib.hid (B4.out.trans (hb.mono B4.out.size))
  clear hb
  have g0 : _ = some (Value.int .i64 0) := G4.out.cell 0
  have g1 : _ = some (Value.int .i64 0) := G4.out.cell 1
  have g2 : _ = some (Value.string { data := #[] }) := G4.out.cell 2
  have q0 := G4.out.frozen 0
  have q1 := G4.out.frozen 1
  have q2 := G4.out.frozen 2
  go_wp2
  exact bodyPost_ret (ret_cell_tmp (p := 6) (u := 7) (ty := 23) rfl _ _ (w.heap.size + 1 + 1) 23 #[.int .i64 1, .int .i64 0, .string E0] _ rfl (((G4.out.set_ 0 (.int .i64 1)).set_ 1 (.int .i64 0)).set_ 2 (.string E0)) Try.underlying23 rfl i3.out) rfl ⟨rfl, (((B5.out.setCell (le2 w) _).setCell (le2 w) _).setCell (le2 w) _)⟩

set_option maxRecDepth 100000 in
set_option maxHeartbeats 2000000 in
theorem reck_null2 (op : Int) (k n : Int) (s : ByteArray) (k' n' : Int) (s' : ByteArray) (w : World) (hz : askd op 6 k n s k' n' s' = 0) (hk : k = 1 ∨ k = 3) (hk' : k' = 1 ∨ k' = 3) (hd : Eqv k n s 1 0 E0 = false) (hd' : Eqv k' n' s' 1 0 E0 = true) : Calls Try.prog 23 #[.int .i64 op, .agg #[.int .i64 k, .int .i64 n, .string s], .agg #[.int .i64 k', .int .i64 n', .string s']] w (Told3 w 1 0 0) := by
  obtain ⟨A1, A2, Z1, Z2, B0, G0⟩ := V3.three (w := w) (k := k) (n := n) (s := s) (k' := k') (n' := n') (s' := s') rfl
  have HC := Lib.hid (fun w => asked_any op 6 k n s k' n' s' w)
  have i3 := Lib.hid i23
  rw [hz] at HC
  clear hz
  unfold Told3
  have HR := Lib.hid (fun w => reckons_yes k n s hk w)
  have HR' := Lib.hid (fun w => reckons_yes k' n' s' hk' w)
  clear hk hk'
  go_enter Try.func23, Try.ntmps23
  go_upto_region 1 with (fail)
  generalize ((w.alloc (.cells #[.int .i64 k, .int .i64 n, .string s] 23)).alloc (.cells #[.int .i64 k', .int .i64 n', .string s'] 23)).alloc (.cells #[.int .i64 0, .int .i64 0, .string { data := #[] }] 23) = W0 at *
  go_wp2_with fail
  refine (reckoners_any _).mono ?_
  rintro e w1 ⟨⟨cs, rfl, fa, fb, rfl, h1, h2⟩, hb⟩
  have R1 : Hid (RB (w1.alloc (.cells (rks fa fb).toArray 71)) w1.heap.size fa fb) := ⟨Blk.new _ _ _, h1.alloc _, h2.alloc _⟩
  have G1 := Lib.hid ((G0.out.below hb G0.out.lt).alloc (.cells (rks fa fb).toArray 71))
  obtain ⟨A1, A2, Z1, Z2, B0⟩ := V3.on A1 A2 Z1 Z2 B0 (hb.alloc hb.size (.cells (rks fa fb).toArray 71))
  clear hb h1 h2 G0
  unfold rks at *
  go_upto_region 2 with (fail)
  generalize w1.alloc (.cells #[.nilFunc, .func (.func 72) #[] #[], .func (.func 73) #[] #[], .func (.func 74) #[] #[], .func (.func 84) #[] #[.pointer (some ⟨fa, 0, none⟩)], .func (.func 84) #[] #[.pointer (some ⟨fb, 0, none⟩)]] 71) = W1 at *
  generalize w1.heap.size = gt at *
  have c0 := A1.out.1
  have c1 := A1.out.2.1
  have c2 := A1.out.2.2
  have d0 := A2.out.1
  have d1 := A2.out.2.1
  have d2 := A2.out.2.2
  go_wp2_with fail
  refine (HC.out _).mono ?_
  rintro e w3 ⟨rfl, hb⟩
  have R2 := Lib.hid (R1.out.below hb)
  have G2 := Lib.hid (G1.out.below hb G1.out.lt)
  obtain ⟨A1, A2, Z1, Z2, B0⟩ := V3.on A1 A2 Z1 Z2 B0 hb
  clear hb c0 c1 c2 d0 d1 d2 R1 HC G1
  go_upto_region 5 with (fail)
  have c0 := A1.out.1
  have c1 := A1.out.2.1
  have c2 := A1.out.2.2
  have d0 := A2.out.1
  have d1 := A2.out.2.1
  have d2 := A2.out.2.2
  go_wp2_with fail
  refine (HR.out _).mono ?_
  rintro e w4 ⟨rfl, hb⟩
  have G2 := Lib.hid (G2.out.below hb G2.out.lt)
  have R2 := Lib.hid (R2.out.below hb)
  obtain ⟨A1, A2, Z1, Z2, B0⟩ := V3.on A1 A2 Z1 Z2 B0 hb
  clear hb c0 c1 c2 d0 d1 d2
  have c0 := A1.out.1
  have c1 := A1.out.2.1
  have c2 := A1.out.2.2
  have d0 := A2.out.1
  have d1 := A2.out.2.1
  have d2 := A2.out.2.2
  go_wp2_with fail
  refine (HR'.out _).mono ?_
  rintro e w5 ⟨rfl, hb⟩
  have G2 := Lib.hid (G2.out.below hb G2.out.lt)
  have R2 := Lib.hid (R2.out.below hb)
  obtain ⟨A1, A2, Z1, Z2, B0⟩ := V3.on A1 A2 Z1 Z2 B0 hb
  clear hb c0 c1 c2 d0 d1 d2
  go_upto_region 7 with (fail)
  have c0 := A1.out.1
  have c1 := A1.out.2.1
  have c2 := A1.out.2.2
  have d0 := A2.out.1
  have d1 := A2.out.2.1
  have d2 := A2.out.2.2
  go_region_held3 (fun w' => w'.cell? ⟨w.heap.size, 0, none⟩ = some (.int .i64 k) ∧ w'.cell? ⟨w.heap.size, 1, none⟩ = some (.int .i64 n) ∧ w'.cell? ⟨w.heap.size, 2, none⟩ = some (.string s) ∧ w'.cell? ⟨w.heap.size + 1, 0, none⟩ = some (.int .i64 k') ∧ w'.cell? ⟨w.heap.size + 1, 1, none⟩ = some (.int .i64 n') ∧ w'.cell? ⟨w.heap.size + 1, 2, none⟩ = some (.string s'))
    (first | with_reducible exact V3.six (V3.drew A1.out) (V3.drew A2.out) | with_reducible exact V3.six (V3.nx A1.out Z1.out hb1) (V3.nx A2.out Z2.out hb1) | with_reducible exact V3.six ((V3.nx A1.out Z1.out hb1).below hb2 (V3.zz Z1 hb1)) ((V3.nx A2.out Z2.out hb1).below hb2 (V3.zz Z2 hb1)))
    (first | (go_at_call 15; with_reducible refine (null_any w5.drew).mono ?_; rintro e w6 ⟨rfl, hb1⟩) | (go_at_call 15; refine (null_any _).mono ?_; rintro e w7 ⟨rfl, hb2⟩))
  have hb3 : Below w5.heap.size w5 w7 := (V3.dd hb1).trans (hb2.mono (V3.dd hb1).size)
  have G3 := Lib.hid (G2.out.below hb3 G2.out.lt)
  have R3 := Lib.hid (R2.out.below hb3)
  obtain ⟨A1, A2, Z1, Z2, B4⟩ := V3.on A1 A2 Z1 Z2 B0 hb3
  clear hb1 hb2 hb3 R2 G2 B0 c0 c1 c2 d0 d1 d2
  go_wp2_with fail
  refine (null_any _).mono ?_
  rintro e w8 ⟨rfl, hb⟩
  have G4 := Lib.hid (G3.out.below hb G3.out.lt)
  have B5 := Lib.hid (B4.out.trans (hb.mono B4.out.size))
  clear hb
  have g0 : _ = some (Value.int .i64 0) := G4.out.cell 0
  have g1 : _ = some (Value.int .i64 0) := G4.out.cell 1
  have g2 : _ = some (Value.string { data := #[] }) := G4.out.cell 2
  have q0 := G4.out.frozen 0
  have q1 := G4.out.frozen 1
  have q2 := G4.out.frozen 2
  go_wp2
  exact bodyPost_ret (ret_cell_tmp (p := 6) (u := 7) (ty := 23) rfl _ _ (w.heap.size + 1 + 1) 23 #[.int .i64 1, .int .i64 0, .string E0] _ rfl (((G4.out.set_ 0 (.int .i64 1)).set_ 1 (.int .i64 0)).set_ 2 (.string E0)) Try.underlying23 rfl i3.out) rfl ⟨rfl, (((B5.out.setCell (le2 w) _).setCell (le2 w) _).setCell (le2 w) _)⟩


end Go.Proofs.Ytndkoefchlclkaa
