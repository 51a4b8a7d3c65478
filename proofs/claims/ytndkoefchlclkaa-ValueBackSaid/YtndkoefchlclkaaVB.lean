/-
  The program's Reckon: its five ops.
-/
import Derived.Test.YtndkoefchlclkaaVA
namespace Go.Proofs.Ytndkoefchlclkaa
open Go.RowKit
attribute [local go_sem ↓] eqV neV eqG

theorem three_no (n : Int) (s : ByteArray) : Eqv 3 n s 1 0 E0 = false := eqv_no _ _ _ _ _ _ (fun e => absurd e.1 (by decide))
theorem reckons_3 (n : Int) (s : ByteArray) (w : World) : Calls Try.prog 47 #[.agg #[.int .i64 3, .int .i64 n, .string s]] w fun e w' => e = .returned (.bool true) ∧ Below w.heap.size w w' := reckons_yes 3 n s (.inr rfl) w
theorem V3.num {w' : World} {g g' : Nat} {k n : Int} {s : ByteArray} {k' n' : Int} {s' : ByteArray} {P : Prop} (h1 : V3 w' g k n s) (h2 : V3 w' g' k' n' s') (h : P) : w'.cell? ⟨g, 1, none⟩ = some (.int .i64 n) ∧ w'.cell? ⟨g', 1, none⟩ = some (.int .i64 n') ∧ P := ⟨h1.2.1, h2.2.1, h⟩

set_option maxRecDepth 100000 in
set_option maxHeartbeats 2000000 in
theorem reck_op1_ok (n : Int) (s : ByteArray) (n' : Int) (s' : ByteArray) (w : World) (hz : askd 1 6 3 n s 3 n' s' = 0) (v : Int) (HK : ∀ w' : World, Calls Try.prog 72 #[.int .i64 n, .int .i64 n'] w' (Rk v 0 w')) : Calls Try.prog 23 #[.int .i64 1, .agg #[.int .i64 3, .int .i64 n, .string s], .agg #[.int .i64 3, .int .i64 n', .string s']] w (Told3 w 3 v 0) := by
  obtain ⟨A1, A2, Z1, Z2, B0, G0⟩ := V3.three (w := w) (k := 3) (n := n) (s := s) (k' := 3) (n' := n') (s' := s') rfl
  have HC := Lib.hid (fun w => asked_any 1 6 3 n s 3 n' s' w)
  have i3 := Lib.hid i23
  rw [hz] at HC
  clear hz
  unfold Told3
  have HR := Lib.hid (fun w => reckons_3 n s w)
  have HR' := Lib.hid (fun w => reckons_3 n' s' w)
  have hd := three_no n s
  have hd' := three_no n' s'
  have HK := Lib.hid HK
  unfold Rk at HK
  go_enter Try.func23, Try.ntmps23
  go_upto_region 1 with (fail)
  generalize ((w.alloc (.cells #[.int .i64 3, .int .i64 n, .string s] 23)).alloc (.cells #[.int .i64 3, .int .i64 n', .string s'] 23)).alloc (.cells #[.int .i64 0, .int .i64 0, .string { data := #[] }] 23) = W0 at *
  go_wp2_with fail
  refine (reckoners_any _).mono ?_
  rintro e w1 ⟨⟨cs, rfl, fa, fb, rfl, h1, h2⟩, hb⟩
  have R1 : Hid (RB (w1.alloc (.cells (rks fa fb).toArray 71)) w1.heap.size fa fb) := ⟨Blk.new _ _ _, h1.alloc _, h2.alloc _⟩
  have G1 := Lib.hid ((G0.out.below hb G0.out.lt).alloc (.cells (rks fa fb).toArray 71))
  obtain ⟨A1, A2, Z1, Z2, B0⟩ := V3.on A1 A2 Z1 Z2 B0 (hb.alloc hb.size (.cells (rks fa fb).toArray 71))
  clear hb h1 h2 G0
  unfold rks at *
  go_upto_region 2 with (fail)
  generalize w1.alloc (.cells #[.nilFunc, .func (.func 72) #[] #[], .func (.func 73) #[] #[], .func (.func 74) #[] #[], .func (.func 84) #[] #[.pointer (some ⟨fa, 0, none⟩)], .func (.func 84) #[] #[.pointer (some ⟨fb, 0, none⟩)]] 71) = W1 at *
  generalize w1.heap.size = gt at *
  have c0 := A1.out.1
  have c1 := A1.out.2.1
  have c2 := A1.out.2.2
  have d0 := A2.out.1
  have d1 := A2.out.2.1
  have d2 := A2.out.2.2
  go_wp2_with fail
  refine (HC.out _).mono ?_
  rintro e w3 ⟨rfl, hb⟩
  have R2 := Lib.hid (R1.out.below hb)
  have G2 := Lib.hid (G1.out.below hb G1.out.lt)
  obtain ⟨A1, A2, Z1, Z2, B0⟩ := V3.on A1 A2 Z1 Z2 B0 hb
  clear hb c0 c1 c2 d0 d1 d2 R1 HC G1
  go_upto_region 5 with (fail)
  have c0 := A1.out.1
  have c1 := A1.out.2.1
  have c2 := A1.out.2.2
  have d0 := A2.out.1
  have d1 := A2.out.2.1
  have d2 := A2.out.2.2
  go_wp2_with fail
  refine (HR.out _).mono ?_
  rintro e w4 ⟨rfl, hb⟩
  have G2 := Lib.hid (G2.out.below hb G2.out.lt)
  have R2 := Lib.hid (R2.out.below hb)
  obtain ⟨A1, A2, Z1, Z2, B0⟩ := V3.on A1 A2 Z1 Z2 B0 hb
  clear hb c0 c1 c2 d0 d1 d2
  have c0 := A1.out.1
  have c1 := A1.out.2.1
  have c2 := A1.out.2.2
  have d0 := A2.out.1
  have d1 := A2.out.2.1
  have d2 := A2.out.2.2
  go_wp2_with fail
  refine (HR'.out _).mono ?_
  rintro e w5 ⟨rfl, hb⟩
  have G2 := Lib.hid (G2.out.below hb G2.out.lt)
  have R2 := Lib.hid (R2.out.below hb)
  obtain ⟨A1, A2, Z1, Z2, B0⟩ := V3.on A1 A2 Z1 Z2 B0 hb
  clear hb c0 c1 c2 d0 d1 d2
  go_upto_region 7 with (fail)
  have c0 := A1.out.1
  have c1 := A1.out.2.1
  have c2 := A1.out.2.2
  have d0 := A2.out.1
  have d1 := A2.out.2.1
  have d2 := A2.out.2.2
  go_region_held3 (fun w' => w'.cell? ⟨w.heap.size, 0, none⟩ = some (.int .i64 3) ∧ w'.cell? ⟨w.heap.size, 1, none⟩ = some (.int .i64 n) ∧ w'.cell? ⟨w.heap.size, 2, none⟩ = some (.string s) ∧ w'.cell? ⟨w.heap.size + 1, 0, none⟩ = some (.int .i64 3) ∧ w'.cell? ⟨w.heap.size + 1, 1, none⟩ = some (.int .i64 n') ∧ w'.cell? ⟨w.heap.size + 1, 2, none⟩ = some (.string s'))
    (first | with_reducible exact V3.six (V3.drew A1.out) (V3.drew A2.out) | with_reducible exact V3.six (V3.nx A1.out Z1.out hb1) (V3.nx A2.out Z2.out hb1) | with_reducible exact V3.six ((V3.nx A1.out Z1.out hb1).below hb2 (V3.zz Z1 hb1)) ((V3.nx A2.out Z2.out hb1).below hb2 (V3.zz Z2 hb1)))
    (first | (go_at_call 15; with_reducible refine (null_any w5.drew).mono ?_; rintro e w6 ⟨rfl, hb1⟩) | (go_at_call 15; refine (null_any _).mono ?_; rintro e w7 ⟨rfl, hb2⟩))
  have hb3 : Below w5.heap.size w5 w7 := (V3.dd hb1).trans (hb2.mono (V3.dd hb1).size)
  have G3 := Lib.hid (G2.out.below hb3 G2.out.lt)
  have R3 := Lib.hid (R2.out.below hb3)
  obtain ⟨A1, A2, Z1, Z2, B4⟩ := V3.on A1 A2 Z1 Z2 B0 hb3
  clear hb1 hb2 hb3 R2 G2 B0 c0 c1 c2 d0 d1 d2
  have tk : Hid (∀ w', Below w7.heap.size w7 w' → w'.cell? ⟨gt, 1, none⟩ = some (.func (.func 72) #[] #[])) := fun w' hb => (R3.out.below hb).1.cell 1
  go_upto_region 9 with (fail)
  have c1 := A1.out.2.1
  have d1 := A2.out.2.1
  have tc := tk.out w7 (Below.refl _ _)
  go_region_held3 (fun w' => w'.cell? ⟨w.heap.size, 1, none⟩ = some (.int .i64 n) ∧ w'.cell? ⟨w.heap.size + 1, 1, none⟩ = some (.int .i64 n') ∧ w'.cell? ⟨gt, 1, none⟩ = some (.func (.func 72) #[] #[]))
    (first | with_reducible exact V3.num (V3.drew A1.out) (V3.drew A2.out) (tk.out _ (Below.refl _ _).drew))
    (first | (go_at_call 72; refine (HK.out _).mono ?_; rintro e w8 ⟨rfl, rfl⟩))
  have B5 : Hid (Below w.heap.size w w7.drew) := B4.out.drew
  have G5 : Hid (Blk w7.drew (w.heap.size + 1 + 1) 23 #[.int .i64 0, .int .i64 0, .string { data := #[] }]) := G3.out
  clear G3 B4 tk tc c1 d1 HK
  generalize w7.drew = W7 at *
  go_wp2_with fail
  refine (int_any _ _).mono ?_
  rintro e w9 ⟨rfl, hb⟩
  have G6 := Lib.hid (G5.out.below hb G5.out.lt)
  have B6 := Lib.hid (B5.out.trans (hb.mono B5.out.size))
  clear hb G5 B5
  have g0 : _ = some (Value.int .i64 0) := G6.out.cell 0
  have g1 : _ = some (Value.int .i64 0) := G6.out.cell 1
  have g2 : _ = some (Value.string { data := #[] }) := G6.out.cell 2
  have q0 := G6.out.frozen 0
  have q1 := G6.out.frozen 1
  have q2 := G6.out.frozen 2
  go_wp2
  exact bodyPost_ret (ret_cell_tmp (p := 6) (u := 7) (ty := 23) rfl _ _ (w.heap.size + 1 + 1) 23 #[.int .i64 3, .int .i64 v, .string E0] _ rfl (((G6.out.set_ 0 (.int .i64 3)).set_ 1 (.int .i64 v)).set_ 2 (.string E0)) Try.underlying23 rfl i3.out) rfl ⟨rfl, (((B6.out.setCell (le2 w) _).setCell (le2 w) _).setCell (le2 w) _)⟩

set_option maxRecDepth 100000 in
set_option maxHeartbeats 2000000 in
theorem reck_op1_no (n : Int) (s : ByteArray) (n' : Int) (s' : ByteArray) (w : World) (hz : askd 1 6 3 n s 3 n' s' = 0) (er : Int) (hne : (er != 0) = true) (HK : ∀ w' : World, Calls Try.prog 72 #[.int .i64 n, .int .i64 n'] w' (Rk 0 er w')) : Calls Try.prog 23 #[.int .i64 1, .agg #[.int .i64 3, .int .i64 n, .string s], .agg #[.int .i64 3, .int .i64 n', .string s']] w (Told3 w 0 0 er) := by
  obtain ⟨A1, A2, Z1, Z2, B0, G0⟩ := V3.three (w := w) (k := 3) (n := n) (s := s) (k' := 3) (n' := n') (s' := s') rfl
  have HC := Lib.hid (fun w => asked_any 1 6 3 n s 3 n' s' w)
  have i3 := Lib.hid i23
  rw [hz] at HC
  clear hz
  unfold Told3
  have HR := Lib.hid (fun w => reckons_3 n s w)
  have HR' := Lib.hid (fun w => reckons_3 n' s' w)
  have hd := three_no n s
  have hd' := three_no n' s'
  have HK := Lib.hid HK
  unfold Rk at HK
  go_enter Try.func23, Try.ntmps23
  go_upto_region 1 with (fail)
  generalize ((w.alloc (.cells #[.int .i64 3, .int .i64 n, .string s] 23)).alloc (.cells #[.int .i64 3, .int .i64 n', .string s'] 23)).alloc (.cells #[.int .i64 0, .int .i64 0, .string { data := #[] }] 23) = W0 at *
  go_wp2_with fail
  refine (reckoners_any _).mono ?_
  rintro e w1 ⟨⟨cs, rfl, fa, fb, rfl, h1, h2⟩, hb⟩
  have R1 : Hid (RB (w1.alloc (.cells (rks fa fb).toArray 71)) w1.heap.size fa fb) := ⟨Blk.new _ _ _, h1.alloc _, h2.alloc _⟩
  have G1 := Lib.hid ((G0.out.below hb G0.out.lt).alloc (.cells (rks fa fb).toArray 71))
  obtain ⟨A1, A2, Z1, Z2, B0⟩ := V3.on A1 A2 Z1 Z2 B0 (hb.alloc hb.size (.cells (rks fa fb).toArray 71))
  clear hb h1 h2 G0
  unfold rks at *
  go_upto_region 2 with (fail)
  generalize w1.alloc (.cells #[.nilFunc, .func (.func 72) #[] #[], .func (.func 73) #[] #[], .func (.func 74) #[] #[], .func (.func 84) #[] #[.pointer (some ⟨fa, 0, none⟩)], .func (.func 84) #[] #[.pointer (some ⟨fb, 0, none⟩)]] 71) = W1 at *
  generalize w1.heap.size = gt at *
  have c0 := A1.out.1
  have c1 := A1.out.2.1
  have c2 := A1.out.2.2
  have d0 := A2.out.1
  have d1 := A2.out.2.1
  have d2 := A2.out.2.2
  go_wp2_with fail
  refine (HC.out _).mono ?_
  rintro e w3 ⟨rfl, hb⟩
  have R2 := Lib.hid (R1.out.below hb)
  have G2 := Lib.hid (G1.out.below hb G1.out.lt)
  obtain ⟨A1, A2, Z1, Z2, B0⟩ := V3.on A1 A2 Z1 Z2 B0 hb
  clear hb c0 c1 c2 d0 d1 d2 R1 HC G1
  go_upto_region 5 with (fail)
  have c0 := A1.out.1
  have c1 := A1.out.2.1
  have c2 := A1.out.2.2
  have d0 := A2.out.1
  have d1 := A2.out.2.1
  have d2 := A2.out.2.2
  go_wp2_with fail
  refine (HR.out _).mono ?_
  rintro e w4 ⟨rfl, hb⟩
  have G2 := Lib.hid (G2.out.below hb G2.out.lt)
  have R2 := Lib.hid (R2.out.below hb)
  obtain ⟨A1, A2, Z1, Z2, B0⟩ := V3.on A1 A2 Z1 Z2 B0 hb
  clear hb c0 c1 c2 d0 d1 d2
  have c0 := A1.out.1
  have c1 := A1.out.2.1
  have c2 := A1.out.2.2
  have d0 := A2.out.1
  have d1 := A2.out.2.1
  have d2 := A2.out.2.2
  go_wp2_with fail
  refine (HR'.out _).mono ?_
  rintro e w5 ⟨rfl, hb⟩
  have G2 := Lib.hid (G2.out.below hb G2.out.lt)
  have R2 := Lib.hid (R2.out.below hb)
  obtain ⟨A1, A2, Z1, Z2, B0⟩ := V3.on A1 A2 Z1 Z2 B0 hb
  clear hb c0 c1 c2 d0 d1 d2
  go_upto_region 7 with (fail)
  have c0 := A1.out.1
  have c1 := A1.out.2.1
  have c2 := A1.out.2.2
  have d0 := A2.out.1
  have d1 := A2.out.2.1
  have d2 := A2.out.2.2
  go_region_held3 (fun w' => w'.cell? ⟨w.heap.size, 0, none⟩ = some (.int .i64 3) ∧ w'.cell? ⟨w.heap.size, 1, none⟩ = some (.int .i64 n) ∧ w'.cell? ⟨w.heap.size, 2, none⟩ = some (.string s) ∧ w'.cell? ⟨w.heap.size + 1, 0, none⟩ = some (.int .i64 3) ∧ w'.cell? ⟨w.heap.size + 1, 1, none⟩ = some (.int .i64 n') ∧ w'.cell? ⟨w.heap.size + 1, 2, none⟩ = some (.string s'))
    (first | with_reducible exact V3.six (V3.drew A1.out) (V3.drew A2.out) | with_reducible exact V3.six (V3.nx A1.out Z1.out hb1) (V3.nx A2.out Z2.out hb1) | with_reducible exact V3.six ((V3.nx A1.out Z1.out hb1).below hb2 (V3.zz Z1 hb1)) ((V3.nx A2.out Z2.out hb1).below hb2 (V3.zz Z2 hb1)))
    (first | (go_at_call 15; with_reducible refine (null_any w5.drew).mono ?_; rintro e w6 ⟨rfl, hb1⟩) | (go_at_call 15; refine (null_any _).mono ?_; rintro e w7 ⟨rfl, hb2⟩))
  have hb3 : Below w5.heap.size w5 w7 := (V3.dd hb1).trans (hb2.mono (V3.dd hb1).size)
  have G3 := Lib.hid (G2.out.below hb3 G2.out.lt)
  have R3 := Lib.hid (R2.out.below hb3)
  obtain ⟨A1, A2, Z1, Z2, B4⟩ := V3.on A1 A2 Z1 Z2 B0 hb3
  clear hb1 hb2 hb3 R2 G2 B0 c0 c1 c2 d0 d1 d2
  have tk : Hid (∀ w', Below w7.heap.size w7 w' → w'.cell? ⟨gt, 1, none⟩ = some (.func (.func 72) #[] #[])) := fun w' hb => (R3.out.below hb).1.cell 1
  go_upto_region 9 with (fail)
  have c1 := A1.out.2.1
  have d1 := A2.out.2.1
  have tc := tk.out w7 (Below.refl _ _)
  go_region_held3 (fun w' => w'.cell? ⟨w.heap.size, 1, none⟩ = some (.int .i64 n) ∧ w'.cell? ⟨w.heap.size + 1, 1, none⟩ = some (.int .i64 n') ∧ w'.cell? ⟨gt, 1, none⟩ = some (.func (.func 72) #[] #[]))
    (first | with_reducible exact V3.num (V3.drew A1.out) (V3.drew A2.out) (tk.out _ (Below.refl _ _).drew))
    (first | (go_at_call 72; refine (HK.out _).mono ?_; rintro e w8 ⟨rfl, rfl⟩))
  have B5 : Hid (Below w.heap.size w w7.drew) := B4.out.drew
  have G5 : Hid (Blk w7.drew (w.heap.size + 1 + 1) 23 #[.int .i64 0, .int .i64 0, .string { data := #[] }]) := G3.out
  clear G3 B4 tk tc c1 d1 HK
  generalize w7.drew = W7 at *
  have g0 : _ = some (Value.int .i64 0) := G5.out.cell 0
  have g1 : _ = some (Value.int .i64 0) := G5.out.cell 1
  have g2 : _ = some (Value.string { data := #[] }) := G5.out.cell 2
  have q0 := G5.out.frozen 0
  have q1 := G5.out.frozen 1
  have q2 := G5.out.frozen 2
  go_wp2
  exact bodyPost_ret (ret_cell_tmp (p := 6) (u := 7) (ty := 23) rfl _ _ (w.heap.size + 1 + 1) 23 #[.int .i64 0, .int .i64 0, .string E0] _ rfl (((G5.out.set_ 0 (.int .i64 0)).set_ 1 (.int .i64 0)).set_ 2 (.string E0)) Try.underlying23 rfl i3.out) rfl ⟨rfl, (((B5.out.setCell (le2 w) _).setCell (le2 w) _).setCell (le2 w) _)⟩

set_option maxRecDepth 100000 in
set_option maxHeartbeats 2000000 in
theorem reck_op2_ok (n : Int) (s : ByteArray) (n' : Int) (s' : ByteArray) (w : World) (hz : askd 2 6 3 n s 3 n' s' = 0) (v : Int) (HK : ∀ w' : World, Calls Try.prog 73 #[.int .i64 n, .int .i64 n'] w' (Rk v 0 w')) : Calls Try.prog 23 #[.int .i64 2, .agg #[.int .i64 3, .int .i64 n, .string s], .agg #[.int .i64 3, .int .i64 n', .string s']] w (Told3 w 3 v 0) := by
  obtain ⟨A1, A2, Z1, Z2, B0, G0⟩ := V3.three (w := w) (k := 3) (n := n) (s := s) (k' := 3) (n' := n') (s' := s') rfl
  have HC := Lib.hid (fun w => asked_any 2 6 3 n s 3 n' s' w)
  have i3 := Lib.hid i23
  rw [hz] at HC
  clear hz
  unfold Told3
  have HR := Lib.hid (fun w => reckons_3 n s w)
  have HR' := Lib.hid (fun w => reckons_3 n' s' w)
  have hd := three_no n s
  have hd' := three_no n' s'
  have HK := Lib.hid HK
  unfold Rk at HK
  go_enter Try.func23, Try.ntmps23
  go_upto_region 1 with (fail)
  generalize ((w.alloc (.cells #[.int .i64 3, .int .i64 n, .string s] 23)).alloc (.cells #[.int .i64 3, .int .i64 n', .string s'] 23)).alloc (.cells #[.int .i64 0, .int .i64 0, .string { data := #[] }] 23) = W0 at *
  go_wp2_with fail
  refine (reckoners_any _).mono ?_
  rintro e w1 ⟨⟨cs, rfl, fa, fb, rfl, h1, h2⟩, hb⟩
  have R1 : Hid (RB (w1.alloc (.cells (rks fa fb).toArray 71)) w1.heap.size fa fb) := ⟨Blk.new _ _ _, h1.alloc _, h2.alloc _⟩
  have G1 := Lib.hid ((G0.out.below hb G0.out.lt).alloc (.cells (rks fa fb).toArray 71))
  obtain ⟨A1, A2, Z1, Z2, B0⟩ := V3.on A1 A2 Z1 Z2 B0 (hb.alloc hb.size (.cells (rks fa fb).toArray 71))
  clear hb h1 h2 G0
  unfold rks at *
  go_upto_region 2 with (fail)
  generalize w1.alloc (.cells #[.nilFunc, .func (.func 72) #[] #[], .func (.func 73) #[] #[], .func (.func 74) #[] #[], .func (.func 84) #[] #[.pointer (some ⟨fa, 0, none⟩)], .func (.func 84) #[] #[.pointer (some ⟨fb, 0, none⟩)]] 71) = W1 at *
  generalize w1.heap.size = gt at *
  have c0 := A1.out.1
  have c1 := A1.out.2.1
  have c2 := A1.out.2.2
  have d0 := A2.out.1
  have d1 := A2.out.2.1
  have d2 := A2.out.2.2
  go_wp2_with fail
  refine (HC.out _).mono ?_
  rintro e w3 ⟨rfl, hb⟩
  have R2 := Lib.hid (R1.out.below hb)
  have G2 := Lib.hid (G1.out.below hb G1.out.lt)
  obtain ⟨A1, A2, Z1, Z2, B0⟩ := V3.on A1 A2 Z1 Z2 B0 hb
  clear hb c0 c1 c2 d0 d1 d2 R1 HC G1
  go_upto_region 5 with (fail)
  have c0 := A1.out.1
  have c1 := A1.out.2.1
  have c2 := A1.out.2.2
  have d0 := A2.out.1
  have d1 := A2.out.2.1
  have d2 := A2.out.2.2
  go_wp2_with fail
  refine (HR.out _).mono ?_
  rintro e w4 ⟨rfl, hb⟩
  have G2 := Lib.hid (G2.out.below hb G2.out.lt)
  have R2 := Lib.hid (R2.out.below hb)
  obtain ⟨A1, A2, Z1, Z2, B0⟩ := V3.on A1 A2 Z1 Z2 B0 hb
  clear hb c0 c1 c2 d0 d1 d2
  have c0 := A1.out.1
  have c1 := A1.out.2.1
  have c2 := A1.out.2.2
  have d0 := A2.out.1
  have d1 := A2.out.2.1
  have d2 := A2.out.2.2
  go_wp2_with fail
  refine (HR'.out _).mono ?_
  rintro e w5 ⟨rfl, hb⟩
  have G2 := Lib.hid (G2.out.below hb G2.out.lt)
  have R2 := Lib.hid (R2.out.below hb)
  obtain ⟨A1, A2, Z1, Z2, B0⟩ := V3.on A1 A2 Z1 Z2 B0 hb
  clear hb c0 c1 c2 d0 d1 d2
  go_upto_region 7 with (fail)
  have c0 := A1.out.1
  have c1 := A1.out.2.1
  have c2 := A1.out.2.2
  have d0 := A2.out.1
  have d1 := A2.out.2.1
  have d2 := A2.out.2.2
  go_region_held3 (fun w' => w'.cell? ⟨w.heap.size, 0, none⟩ = some (.int .i64 3) ∧ w'.cell? ⟨w.heap.size, 1, none⟩ = some (.int .i64 n) ∧ w'.cell? ⟨w.heap.size, 2, none⟩ = some (.string s) ∧ w'.cell? ⟨w.heap.size + 1, 0, none⟩ = some (.int .i64 3) ∧ w'.cell? ⟨w.heap.size + 1, 1, none⟩ = some (.int .i64 n') ∧ w'.cell? ⟨w.heap.size + 1, 2, none⟩ = some (.string s'))
    (first | with_reducible exact V3.six (V3.drew A1.out) (V3.drew A2.out) | with_reducible exact V3.six (V3.nx A1.out Z1.out hb1) (V3.nx A2.out Z2.out hb1) | with_reducible exact V3.six ((V3.nx A1.out Z1.out hb1).below hb2 (V3.zz Z1 hb1)) ((V3.nx A2.out Z2.out hb1).below hb2 (V3.zz Z2 hb1)))
    (first | (go_at_call 15; with_reducible refine (null_any w5.drew).mono ?_; rintro e w6 ⟨rfl, hb1⟩) | (go_at_call 15; refine (null_any _).mono ?_; rintro e w7 ⟨rfl, hb2⟩))
  have hb3 : Below w5.heap.size w5 w7 := (V3.dd hb1).trans (hb2.mono (V3.dd hb1).size)
  have G3 := Lib.hid (G2.out.below hb3 G2.out.lt)
  have R3 := Lib.hid (R2.out.below hb3)
  obtain ⟨A1, A2, Z1, Z2, B4⟩ := V3.on A1 A2 Z1 Z2 B0 hb3
  clear hb1 hb2 hb3 R2 G2 B0 c0 c1 c2 d0 d1 d2
  have tk : Hid (∀ w', Below w7.heap.size w7 w' → w'.cell? ⟨gt, 2, none⟩ = some (.func (.func 73) #[] #[])) := fun w' hb => (R3.out.below hb).1.cell 2
  go_upto_region 9 with (fail)
  have c1 := A1.out.2.1
  have d1 := A2.out.2.1
  have tc := tk.out w7 (Below.refl _ _)
  go_region_held3 (fun w' => w'.cell? ⟨w.heap.size, 1, none⟩ = some (.int .i64 n) ∧ w'.cell? ⟨w.heap.size + 1, 1, none⟩ = some (.int .i64 n') ∧ w'.cell? ⟨gt, 2, none⟩ = some (.func (.func 73) #[] #[]))
    (first | with_reducible exact V3.num (V3.drew A1.out) (V3.drew A2.out) (tk.out _ (Below.refl _ _).drew))
    (first | (go_at_call 73; refine (HK.out _).mono ?_; rintro e w8 ⟨rfl, rfl⟩))
  have B5 : Hid (Below w.heap.size w w7.drew) := B4.out.drew
  have G5 : Hid (Blk w7.drew (w.heap.size + 1 + 1) 23 #[.int .i64 0, .int .i64 0, .string { data := #[] }]) := G3.out
  clear G3 B4 tk tc c1 d1 HK
  generalize w7.drew = W7 at *
  go_wp2_with fail
  refine (int_any _ _).mono ?_
  rintro e w9 ⟨rfl, hb⟩
  have G6 := Lib.hid (G5.out.below hb G5.out.lt)
  have B6 := Lib.hid (B5.out.trans (hb.mono B5.out.size))
  clear hb G5 B5
  have g0 : _ = some (Value.int .i64 0) := G6.out.cell 0
  have g1 : _ = some (Value.int .i64 0) := G6.out.cell 1
  have g2 : _ = some (Value.string { data := #[] }) := G6.out.cell 2
  have q0 := G6.out.frozen 0
  have q1 := G6.out.frozen 1
  have q2 := G6.out.frozen 2
  go_wp2
  exact bodyPost_ret (ret_cell_tmp (p := 6) (u := 7) (ty := 23) rfl _ _ (w.heap.size + 1 + 1) 23 #[.int .i64 3, .int .i64 v, .string E0] _ rfl (((G6.out.set_ 0 (.int .i64 3)).set_ 1 (.int .i64 v)).set_ 2 (.string E0)) Try.underlying23 rfl i3.out) rfl ⟨rfl, (((B6.out.setCell (le2 w) _).setCell (le2 w) _).setCell (le2 w) _)⟩

set_option maxRecDepth 100000 in
set_option maxHeartbeats 2000000 in
theorem reck_op2_no (n : Int) (s : ByteArray) (n' : Int) (s' : ByteArray) (w : World) (hz : askd 2 6 3 n s 3 n' s' = 0) (er : Int) (hne : (er != 0) = true) (HK : ∀ w' : World, Calls Try.prog 73 #[.int .i64 n, .int .i64 n'] w' (Rk 0 er w')) : Calls Try.prog 23 #[.int .i64 2, .agg #[.int .i64 3, .int .i64 n, .string s], .agg #[.int .i64 3, .int .i64 n', .string s']] w (Told3 w 0 0 er) := by
  obtain ⟨A1, A2, Z1, Z2, B0, G0⟩ := V3.three (w := w) (k := 3) (n := n) (s := s) (k' := 3) (n' := n') (s' := s') rfl
  have HC := Lib.hid (fun w => asked_any 2 6 3 n s 3 n' s' w)
  have i3 := Lib.hid i23
  rw [hz] at HC
  clear hz
  unfold Told3
  have HR := Lib.hid (fun w => reckons_3 n s w)
  have HR' := Lib.hid (fun w => reckons_3 n' s' w)
  have hd := three_no n s
  have hd' := three_no n' s'
  have HK := Lib.hid HK
  unfold Rk at HK
  go_enter Try.func23, Try.ntmps23
  go_upto_region 1 with (fail)
  generalize ((w.alloc (.cells #[.int .i64 3, .int .i64 n, .string s] 23)).alloc (.cells #[.int .i64 3, .int .i64 n', .string s'] 23)).alloc (.cells #[.int .i64 0, .int .i64 0, .string { data := #[] }] 23) = W0 at *
  go_wp2_with fail
  refine (reckoners_any _).mono ?_
  rintro e w1 ⟨⟨cs, rfl, fa, fb, rfl, h1, h2⟩, hb⟩
  have R1 : Hid (RB (w1.alloc (.cells (rks fa fb).toArray 71)) w1.heap.size fa fb) := ⟨Blk.new _ _ _, h1.alloc _, h2.alloc _⟩
  have G1 := Lib.hid ((G0.out.below hb G0.out.lt).alloc (.cells (rks fa fb).toArray 71))
  obtain ⟨A1, A2, Z1, Z2, B0⟩ := V3.on A1 A2 Z1 Z2 B0 (hb.alloc hb.size (.cells (rks fa fb).toArray 71))
  clear hb h1 h2 G0
  unfold rks at *
  go_upto_region 2 with (fail)
  generalize w1.alloc (.cells #[.nilFunc, .func (.func 72) #[] #[], .func (.func 73) #[] #[], .func (.func 74) #[] #[], .func (.func 84) #[] #[.pointer (some ⟨fa, 0, none⟩)], .func (.func 84) #[] #[.pointer (some ⟨fb, 0, none⟩)]] 71) = W1 at *
  generalize w1.heap.size = gt at *
  have c0 := A1.out.1
  have c1 := A1.out.2.1
  have c2 := A1.out.2.2
  have d0 := A2.out.1
  have d1 := A2.out.2.1
  have d2 := A2.out.2.2
  go_wp2_with fail
  refine (HC.out _).mono ?_
  rintro e w3 ⟨rfl, hb⟩
  have R2 := Lib.hid (R1.out.below hb)
  have G2 := Lib.hid (G1.out.below hb G1.out.lt)
  obtain ⟨A1, A2, Z1, Z2, B0⟩ := V3.on A1 A2 Z1 Z2 B0 hb
  clear hb c0 c1 c2 d0 d1 d2 R1 HC G1
  go_upto_region 5 with (fail)
  have c0 := A1.out.1
  have c1 := A1.out.2.1
  have c2 := A1.out.2.2
  have d0 := A2.out.1
  have d1 := A2.out.2.1
  have d2 := A2.out.2.2
  go_wp2_with fail
  refine (HR.out _).mono ?_
  rintro e w4 ⟨rfl, hb⟩
  have G2 := Lib.hid (G2.out.below hb G2.out.lt)
  have R2 := Lib.hid (R2.out.below hb)
  obtain ⟨A1, A2, Z1, Z2, B0⟩ := V3.on A1 A2 Z1 Z2 B0 hb
  clear hb c0 c1 c2 d0 d1 d2
  have c0 := A1.out.1
  have c1 := A1.out.2.1
  have c2 := A1.out.2.2
  have d0 := A2.out.1
  have d1 := A2.out.2.1
  have d2 := A2.out.2.2
  go_wp2_with fail
  refine (HR'.out _).mono ?_
  rintro e w5 ⟨rfl, hb⟩
  have G2 := Lib.hid (G2.out.below hb G2.out.lt)
  have R2 := Lib.hid (R2.out.below hb)
  obtain ⟨A1, A2, Z1, Z2, B0⟩ := V3.on A1 A2 Z1 Z2 B0 hb
  clear hb c0 c1 c2 d0 d1 d2
  go_upto_region 7 with (fail)
  have c0 := A1.out.1
  have c1 := A1.out.2.1
  have c2 := A1.out.2.2
  have d0 := A2.out.1
  have d1 := A2.out.2.1
  have d2 := A2.out.2.2
  go_region_held3 (fun w' => w'.cell? ⟨w.heap.size, 0, none⟩ = some (.int .i64 3) ∧ w'.cell? ⟨w.heap.size, 1, none⟩ = some (.int .i64 n) ∧ w'.cell? ⟨w.heap.size, 2, none⟩ = some (.string s) ∧ w'.cell? ⟨w.heap.size + 1, 0, none⟩ = some (.int .i64 3) ∧ w'.cell? ⟨w.heap.size + 1, 1, none⟩ = some (.int .i64 n') ∧ w'.cell? ⟨w.heap.size + 1, 2, none⟩ = some (.string s'))
    (first | with_reducible exact V3.six (V3.drew A1.out) (V3.drew A2.out) | with_reducible exact V3.six (V3.nx A1.out Z1.out hb1) (V3.nx A2.out Z2.out hb1) | with_reducible exact V3.six ((V3.nx A1.out Z1.out hb1).below hb2 (V3.zz Z1 hb1)) ((V3.nx A2.out Z2.out hb1).below hb2 (V3.zz Z2 hb1)))
    (first | (go_at_call 15; with_reducible refine (null_any w5.drew).mono ?_; rintro e w6 ⟨rfl, hb1⟩) | (go_at_call 15; refine (null_any _).mono ?_; rintro e w7 ⟨rfl, hb2⟩))
  have hb3 : Below w5.heap.size w5 w7 := (V3.dd hb1).trans (hb2.mono (V3.dd hb1).size)
  have G3 := Lib.hid (G2.out.below hb3 G2.out.lt)
  have R3 := Lib.hid (R2.out.below hb3)
  obtain ⟨A1, A2, Z1, Z2, B4⟩ := V3.on A1 A2 Z1 Z2 B0 hb3
  clear hb1 hb2 hb3 R2 G2 B0 c0 c1 c2 d0 d1 d2
  have tk : Hid (∀ w', Below w7.heap.size w7 w' → w'.cell? ⟨gt, 2, none⟩ = some (.func (.func 73) #[] #[])) := fun w' hb => (R3.out.below hb).1.cell 2
  go_upto_region 9 with (fail)
  have c1 := A1.out.2.1
  have d1 := A2.out.2.1
  have tc := tk.out w7 (Below.refl _ _)
  go_region_held3 (fun w' => w'.cell? ⟨w.heap.size, 1, none⟩ = some (.int .i64 n) ∧ w'.cell? ⟨w.heap.size + 1, 1, none⟩ = some (.int .i64 n') ∧ w'.cell? ⟨gt, 2, none⟩ = some (.func (.func 73) #[] #[]))
    (first | with_reducible exact V3.num (V3.drew A1.out) (V3.drew A2.out) (tk.out _ (Below.refl _ _).drew))
    (first | (go_at_call 73; refine (HK.out _).mono ?_; rintro e w8 ⟨rfl, rfl⟩))
  have B5 : Hid (Below w.heap.size w w7.drew) := B4.out.drew
  have G5 : Hid (Blk w7.drew (w.heap.size + 1 + 1) 23 #[.int .i64 0, .int .i64 0, .string { data := #[] }]) := G3.out
  clear G3 B4 tk tc c1 d1 HK
  generalize w7.drew = W7 at *
  have g0 : _ = some (Value.int .i64 0) := G5.out.cell 0
  have g1 : _ = some (Value.int .i64 0) := G5.out.cell 1
  have g2 : _ = some (Value.string { data := #[] }) := G5.out.cell 2
  have q0 := G5.out.frozen 0
  have q1 := G5.out.frozen 1
  have q2 := G5.out.frozen 2
  go_wp2
  exact bodyPost_ret (ret_cell_tmp (p := 6) (u := 7) (ty := 23) rfl _ _ (w.heap.size + 1 + 1) 23 #[.int .i64 0, .int .i64 0, .string E0] _ rfl (((G5.out.set_ 0 (.int .i64 0)).set_ 1 (.int .i64 0)).set_ 2 (.string E0)) Try.underlying23 rfl i3.out) rfl ⟨rfl, (((B5.out.setCell (le2 w) _).setCell (le2 w) _).setCell (le2 w) _)⟩

set_option maxRecDepth 100000 in
set_option maxHeartbeats 2000000 in
theorem reck_op3_ok (n : Int) (s : ByteArray) (n' : Int) (s' : ByteArray) (w : World) (hz : askd 3 6 3 n s 3 n' s' = 0) (v : Int) (HK : ∀ w' : World, Calls Try.prog 74 #[.int .i64 n, .int .i64 n'] w' (Rk v 0 w')) : Calls Try.prog 23 #[.int .i64 3, .agg #[.int .i64 3, .int .i64 n, .string s], .agg #[.int .i64 3, .int .i64 n', .string s']] w (Told3 w 3 v 0) := by
  obtain ⟨A1, A2, Z1, Z2, B0, G0⟩ := V3.three (w := w) (k := 3) (n := n) (s := s) (k' := 3) (n' := n') (s' := s') rfl
  have HC := Lib.hid (fun w => asked_any 3 6 3 n s 3 n' s' w)
  have i3 := Lib.hid i23
  rw [hz] at HC
  clear hz
  unfold Told3
  have HR := Lib.hid (fun w => reckons_3 n s w)
  have HR' := Lib.hid (fun w => reckons_3 n' s' w)
  have hd := three_no n s
  have hd' := three_no n' s'
  have HK := Lib.hid HK
  unfold Rk at HK
  go_enter Try.func23, Try.ntmps23
  go_upto_region 1 with (fail)
  generalize ((w.alloc (.cells #[.int .i64 3, .int .i64 n, .string s] 23)).alloc (.cells #[.int .i64 3, .int .i64 n', .string s'] 23)).alloc (.cells #[.int .i64 0, .int .i64 0, .string { data := #[] }] 23) = W0 at *
  go_wp2_with fail
  refine (reckoners_any _).mono ?_
  rintro e w1 ⟨⟨cs, rfl, fa, fb, rfl, h1, h2⟩, hb⟩
  have R1 : Hid (RB (w1.alloc (.cells (rks fa fb).toArray 71)) w1.heap.size fa fb) := ⟨Blk.new _ _ _, h1.alloc _, h2.alloc _⟩
  have G1 := Lib.hid ((G0.out.below hb G0.out.lt).alloc (.cells (rks fa fb).toArray 71))
  obtain ⟨A1, A2, Z1, Z2, B0⟩ := V3.on A1 A2 Z1 Z2 B0 (hb.alloc hb.size (.cells (rks fa fb).toArray 71))
  clear hb h1 h2 G0
  unfold rks at *
  go_upto_region 2 with (fail)
  generalize w1.alloc (.cells #[.nilFunc, .func (.func 72) #[] #[], .func (.func 73) #[] #[], .func (.func 74) #[] #[], .func (.func 84) #[] #[.pointer (some ⟨fa, 0, none⟩)], .func (.func 84) #[] #[.pointer (some ⟨fb, 0, none⟩)]] 71) = W1 at *
  generalize w1.heap.size = gt at *
  have c0 := A1.out.1
  have c1 := A1.out.2.1
  have c2 := A1.out.2.2
  have d0 := A2.out.1
  have d1 := A2.out.2.1
  have d2 := A2.out.2.2
  go_wp2_with fail
  refine (HC.out _).mono ?_
  rintro e w3 ⟨rfl, hb⟩
  have R2 := Lib.hid (R1.out.below hb)
  have G2 := Lib.hid (G1.out.below hb G1.out.lt)
  obtain ⟨A1, A2, Z1, Z2, B0⟩ := V3.on A1 A2 Z1 Z2 B0 hb
  clear hb c0 c1 c2 d0 d1 d2 R1 HC G1
  go_upto_region 5 with (fail)
  have c0 := A1.out.1
  have c1 := A1.out.2.1
  have c2 := A1.out.2.2
  have d0 := A2.out.1
  have d1 := A2.out.2.1
  have d2 := A2.out.2.2
  go_wp2_with fail
  refine (HR.out _).mono ?_
  rintro e w4 ⟨rfl, hb⟩
  have G2 := Lib.hid (G2.out.below hb G2.out.lt)
  have R2 := Lib.hid (R2.out.below hb)
  obtain ⟨A1, A2, Z1, Z2, B0⟩ := V3.on A1 A2 Z1 Z2 B0 hb
  clear hb c0 c1 c2 d0 d1 d2
  have c0 := A1.out.1
  have c1 := A1.out.2.1
  have c2 := A1.out.2.2
  have d0 := A2.out.1
  have d1 := A2.out.2.1
  have d2 := A2.out.2.2
  go_wp2_with fail
  refine (HR'.out _).mono ?_
  rintro e w5 ⟨rfl, hb⟩
  have G2 := Lib.hid (G2.out.below hb G2.out.lt)
  have R2 := Lib.hid (R2.out.below hb)
  obtain ⟨A1, A2, Z1, Z2, B0⟩ := V3.on A1 A2 Z1 Z2 B0 hb
  clear hb c0 c1 c2 d0 d1 d2
  go_upto_region 7 with (fail)
  have c0 := A1.out.1
  have c1 := A1.out.2.1
  have c2 := A1.out.2.2
  have d0 := A2.out.1
  have d1 := A2.out.2.1
  have d2 := A2.out.2.2
  go_region_held3 (fun w' => w'.cell? ⟨w.heap.size, 0, none⟩ = some (.int .i64 3) ∧ w'.cell? ⟨w.heap.size, 1, none⟩ = some (.int .i64 n) ∧ w'.cell? ⟨w.heap.size, 2, none⟩ = some (.string s) ∧ w'.cell? ⟨w.heap.size + 1, 0, none⟩ = some (.int .i64 3) ∧ w'.cell? ⟨w.heap.size + 1, 1, none⟩ = some (.int .i64 n') ∧ w'.cell? ⟨w.heap.size + 1, 2, none⟩ = some (.string s'))
    (first | with_reducible exact V3.six (V3.drew A1.out) (V3.drew A2.out) | with_reducible exact V3.six (V3.nx A1.out Z1.out hb1) (V3.nx A2.out Z2.out hb1) | with_reducible exact V3.six ((V3.nx A1.out Z1.out hb1).below hb2 (V3.zz Z1 hb1)) ((V3.nx A2.out Z2.out hb1).below hb2 (V3.zz Z2 hb1)))
    (first | (go_at_call 15; with_reducible refine (null_any w5.drew).mono ?_; rintro e w6 ⟨rfl, hb1⟩) | (go_at_call 15; refine (null_any _).mono ?_; rintro e w7 ⟨rfl, hb2⟩))
  have hb3 : Below w5.heap.size w5 w7 := (V3.dd hb1).trans (hb2.mono (V3.dd hb1).size)
  have G3 := Lib.hid (G2.out.below hb3 G2.out.lt)
  have R3 := Lib.hid (R2.out.below hb3)
  obtain ⟨A1, A2, Z1, Z2, B4⟩ := V3.on A1 A2 Z1 Z2 B0 hb3
  clear hb1 hb2 hb3 R2 G2 B0 c0 c1 c2 d0 d1 d2
  have tk : Hid (∀ w', Below w7.heap.size w7 w' → w'.cell? ⟨gt, 3, none⟩ = some (.func (.func 74) #[] #[])) := fun w' hb => (R3.out.below hb).1.cell 3
  go_upto_region 9 with (fail)
  have c1 := A1.out.2.1
  have d1 := A2.out.2.1
  have tc := tk.out w7 (Below.refl _ _)
  go_region_held3 (fun w' => w'.cell? ⟨w.heap.size, 1, none⟩ = some (.int .i64 n) ∧ w'.cell? ⟨w.heap.size + 1, 1, none⟩ = some (.int .i64 n') ∧ w'.cell? ⟨gt, 3, none⟩ = some (.func (.func 74) #[] #[]))
    (first | with_reducible exact V3.num (V3.drew A1.out) (V3.drew A2.out) (tk.out _ (Below.refl _ _).drew))
    (first | (go_at_call 74; refine (HK.out _).mono ?_; rintro e w8 ⟨rfl, rfl⟩))
  have B5 : Hid (Below w.heap.size w w7.drew) := B4.out.drew
  have G5 : Hid (Blk w7.drew (w.heap.size + 1 + 1) 23 #[.int .i64 0, .int .i64 0, .string { data := #[] }]) := G3.out
  clear G3 B4 tk tc c1 d1 HK
  generalize w7.drew = W7 at *
  go_wp2_with fail
  refine (int_any _ _).mono ?_
  rintro e w9 ⟨rfl, hb⟩
  have G6 := Lib.hid (G5.out.below hb G5.out.lt)
  have B6 := Lib.hid (B5.out.trans (hb.mono B5.out.size))
  clear hb G5 B5
  have g0 : _ = some (Value.int .i64 0) := G6.out.cell 0
  have g1 : _ = some (Value.int .i64 0) := G6.out.cell 1
  have g2 : _ = some (Value.string { data := #[] }) := G6.out.cell 2
  have q0 := G6.out.frozen 0
  have q1 := G6.out.frozen 1
  have q2 := G6.out.frozen 2
  go_wp2
  exact bodyPost_ret (ret_cell_tmp (p := 6) (u := 7) (ty := 23) rfl _ _ (w.heap.size + 1 + 1) 23 #[.int .i64 3, .int .i64 v, .string E0] _ rfl (((G6.out.set_ 0 (.int .i64 3)).set_ 1 (.int .i64 v)).set_ 2 (.string E0)) Try.underlying23 rfl i3.out) rfl ⟨rfl, (((B6.out.setCell (le2 w) _).setCell (le2 w) _).setCell (le2 w) _)⟩

set_option maxRecDepth 100000 in
set_option maxHeartbeats 2000000 in
theorem reck_op3_no (n : Int) (s : ByteArray) (n' : Int) (s' : ByteArray) (w : World) (hz : askd 3 6 3 n s 3 n' s' = 0) (er : Int) (hne : (er != 0) = true) (HK : ∀ w' : World, Calls Try.prog 74 #[.int .i64 n, .int .i64 n'] w' (Rk 0 er w')) : Calls Try.prog 23 #[.int .i64 3, .agg #[.int .i64 3, .int .i64 n, .string s], .agg #[.int .i64 3, .int .i64 n', .string s']] w (Told3 w 0 0 er) := by
  obtain ⟨A1, A2, Z1, Z2, B0, G0⟩ := V3.three (w := w) (k := 3) (n := n) (s := s) (k' := 3) (n' := n') (s' := s') rfl
  have HC := Lib.hid (fun w => asked_any 3 6 3 n s 3 n' s' w)
  have i3 := Lib.hid i23
  rw [hz] at HC
  clear hz
  unfold Told3
  have HR := Lib.hid (fun w => reckons_3 n s w)
  have HR' := Lib.hid (fun w => reckons_3 n' s' w)
  have hd := three_no n s
  have hd' := three_no n' s'
  have HK := Lib.hid HK
  unfold Rk at HK
  go_enter Try.func23, Try.ntmps23
  go_upto_region 1 with (fail)
  generalize ((w.alloc (.cells #[.int .i64 3, .int .i64 n, .string s] 23)).alloc (.cells #[.int .i64 3, .int .i64 n', .string s'] 23)).alloc (.cells #[.int .i64 0, .int .i64 0, .string { data := #[] }] 23) = W0 at *
  go_wp2_with fail
  refine (reckoners_any _).mono ?_
  rintro e w1 ⟨⟨cs, rfl, fa, fb, rfl, h1, h2⟩, hb⟩
  have R1 : Hid (RB (w1.alloc (.cells (rks fa fb).toArray 71)) w1.heap.size fa fb) := ⟨Blk.new _ _ _, h1.alloc _, h2.alloc _⟩
  have G1 := Lib.hid ((G0.out.below hb G0.out.lt).alloc (.cells (rks fa fb).toArray 71))
  obtain ⟨A1, A2, Z1, Z2, B0⟩ := V3.on A1 A2 Z1 Z2 B0 (hb.alloc hb.size (.cells (rks fa fb).toArray 71))
  clear hb h1 h2 G0
  unfold rks at *
  go_upto_region 2 with (fail)
  generalize w1.alloc (.cells #[.nilFunc, .func (.func 72) #[] #[], .func (.func 73) #[] #[], .func (.func 74) #[] #[], .func (.func 84) #[] #[.pointer (some ⟨fa, 0, none⟩)], .func (.func 84) #[] #[.pointer (some ⟨fb, 0, none⟩)]] 71) = W1 at *
  generalize w1.heap.size = gt at *
  have c0 := A1.out.1
  have c1 := A1.out.2.1
  have c2 := A1.out.2.2
  have d0 := A2.out.1
  have d1 := A2.out.2.1
  have d2 := A2.out.2.2
  go_wp2_with fail
  refine (HC.out _).mono ?_
  rintro e w3 ⟨rfl, hb⟩
  have R2 := Lib.hid (R1.out.below hb)
  have G2 := Lib.hid (G1.out.below hb G1.out.lt)
  obtain ⟨A1, A2, Z1, Z2, B0⟩ := V3.on A1 A2 Z1 Z2 B0 hb
  clear hb c0 c1 c2 d0 d1 d2 R1 HC G1
  go_upto_region 5 with (fail)
  have c0 := A1.out.1
  have c1 := A1.out.2.1
  have c2 := A1.out.2.2
  have d0 := A2.out.1
  have d1 := A2.out.2.1
  have d2 := A2.out.2.2
  go_wp2_with fail
  refine (HR.out _).mono ?_
  rintro e w4 ⟨rfl, hb⟩
  have G2 := Lib.hid (G2.out.below hb G2.out.lt)
  have R2 := Lib.hid (R2.out.below hb)
  obtain ⟨A1, A2, Z1, Z2, B0⟩ := V3.on A1 A2 Z1 Z2 B0 hb
  clear hb c0 c1 c2 d0 d1 d2
  have c0 := A1.out.1
  have c1 := A1.out.2.1
  have c2 := A1.out.2.2
  have d0 := A2.out.1
  have d1 := A2.out.2.1
  have d2 := A2.out.2.2
  go_wp2_with fail
  refine (HR'.out _).mono ?_
  rintro e w5 ⟨rfl, hb⟩
  have G2 := Lib.hid (G2.out.below hb G2.out.lt)
  have R2 := Lib.hid (R2.out.below hb)
  obtain ⟨A1, A2, Z1, Z2, B0⟩ := V3.on A1 A2 Z1 Z2 B0 hb
  clear hb c0 c1 c2 d0 d1 d2
  go_upto_region 7 with (fail)
  have c0 := A1.out.1
  have c1 := A1.out.2.1
  have c2 := A1.out.2.2
  have d0 := A2.out.1
  have d1 := A2.out.2.1
  have d2 := A2.out.2.2
  go_region_held3 (fun w' => w'.cell? ⟨w.heap.size, 0, none⟩ = some (.int .i64 3) ∧ w'.cell? ⟨w.heap.size, 1, none⟩ = some (.int .i64 n) ∧ w'.cell? ⟨w.heap.size, 2, none⟩ = some (.string s) ∧ w'.cell? ⟨w.heap.size + 1, 0, none⟩ = some (.int .i64 3) ∧ w'.cell? ⟨w.heap.size + 1, 1, none⟩ = some (.int .i64 n') ∧ w'.cell? ⟨w.heap.size + 1, 2, none⟩ = some (.string s'))
    (first | with_reducible exact V3.six (V3.drew A1.out) (V3.drew A2.out) | with_reducible exact V3.six (V3.nx A1.out Z1.out hb1) (V3.nx A2.out Z2.out hb1) | with_reducible exact V3.six ((V3.nx A1.out Z1.out hb1).below hb2 (V3.zz Z1 hb1)) ((V3.nx A2.out Z2.out hb1).below hb2 (V3.zz Z2 hb1)))
    (first | (go_at_call 15; with_reducible refine (null_any w5.drew).mono ?_; rintro e w6 ⟨rfl, hb1⟩) | (go_at_call 15; refine (null_any _).mono ?_; rintro e w7 ⟨rfl, hb2⟩))
  have hb3 : Below w5.heap.size w5 w7 := (V3.dd hb1).trans (hb2.mono (V3.dd hb1).size)
  have G3 := Lib.hid (G2.out.below hb3 G2.out.lt)
  have R3 := Lib.hid (R2.out.below hb3)
  obtain ⟨A1, A2, Z1, Z2, B4⟩ := V3.on A1 A2 Z1 Z2 B0 hb3
  clear hb1 hb2 hb3 R2 G2 B0 c0 c1 c2 d0 d1 d2
  have tk : Hid (∀ w', Below w7.heap.size w7 w' → w'.cell? ⟨gt, 3, none⟩ = some (.func (.func 74) #[] #[])) := fun w' hb => (R3.out.below hb).1.cell 3
  go_upto_region 9 with (fail)
  have c1 := A1.out.2.1
  have d1 := A2.out.2.1
  have tc := tk.out w7 (Below.refl _ _)
  go_region_held3 (fun w' => w'.cell? ⟨w.heap.size, 1, none⟩ = some (.int .i64 n) ∧ w'.cell? ⟨w.heap.size + 1, 1, none⟩ = some (.int .i64 n') ∧ w'.cell? ⟨gt, 3, none⟩ = some (.func (.func 74) #[] #[]))
    (first | with_reducible exact V3.num (V3.drew A1.out) (V3.drew A2.out) (tk.out _ (Below.refl _ _).drew))
    (first | (go_at_call 74; refine (HK.out _).mono ?_; rintro e w8 ⟨rfl, rfl⟩))
  have B5 : Hid (Below w.heap.size w w7.drew) := B4.out.drew
  have G5 : Hid (Blk w7.drew (w.heap.size + 1 + 1) 23 #[.int .i64 0, .int .i64 0, .string { data := #[] }]) := G3.out
  clear G3 B4 tk tc c1 d1 HK
  generalize w7.drew = W7 at *
  have g0 : _ = some (Value.int .i64 0) := G5.out.cell 0
  have g1 : _ = some (Value.int .i64 0) := G5.out.cell 1
  have g2 : _ = some (Value.string { data := #[] }) := G5.out.cell 2
  have q0 := G5.out.frozen 0
  have q1 := G5.out.frozen 1
  have q2 := G5.out.frozen 2
  go_wp2
  exact bodyPost_ret (ret_cell_tmp (p := 6) (u := 7) (ty := 23) rfl _ _ (w.heap.size + 1 + 1) 23 #[.int .i64 0, .int .i64 0, .string E0] _ rfl (((G5.out.set_ 0 (.int .i64 0)).set_ 1 (.int .i64 0)).set_ 2 (.string E0)) Try.underlying23 rfl i3.out) rfl ⟨rfl, (((B5.out.setCell (le2 w) _).setCell (le2 w) _).setCell (le2 w) _)⟩

set_option maxRecDepth 100000 in
set_option maxHeartbeats 2000000 in
theorem reck_op4_ok (n : Int) (s : ByteArray) (n' : Int) (s' : ByteArray) (w : World) (hz : askd 4 6 3 n s 3 n' s' = 0) (v : Int) (HK : ∀ (c : Nat) (w' : World), Blk w' c 70 #[.func (.func 76) #[] #[]] → Calls Try.prog 84 #[.int .i64 n, .int .i64 n', .pointer (some ⟨c, 0, none⟩)] w' (Rk v 0 w')) : Calls Try.prog 23 #[.int .i64 4, .agg #[.int .i64 3, .int .i64 n, .string s], .agg #[.int .i64 3, .int .i64 n', .string s']] w (Told3 w 3 v 0) := by
  obtain ⟨A1, A2, Z1, Z2, B0, G0⟩ := V3.three (w := w) (k := 3) (n := n) (s := s) (k' := 3) (n' := n') (s' := s') rfl
  have HC := Lib.hid (fun w => asked_any 4 6 3 n s 3 n' s' w)
  have i3 := Lib.hid i23
  rw [hz] at HC
  clear hz
  unfold Told3
  have HR := Lib.hid (fun w => reckons_3 n s w)
  have HR' := Lib.hid (fun w => reckons_3 n' s' w)
  have hd := three_no n s
  have hd' := three_no n' s'
  have HK := Lib.hid HK
  unfold Rk at HK
  go_enter Try.func23, Try.ntmps23
  go_upto_region 1 with (fail)
  generalize ((w.alloc (.cells #[.int .i64 3, .int .i64 n, .string s] 23)).alloc (.cells #[.int .i64 3, .int .i64 n', .string s'] 23)).alloc (.cells #[.int .i64 0, .int .i64 0, .string { data := #[] }] 23) = W0 at *
  go_wp2_with fail
  refine (reckoners_any _).mono ?_
  rintro e w1 ⟨⟨cs, rfl, fa, fb, rfl, h1, h2⟩, hb⟩
  have R1 : Hid (RB (w1.alloc (.cells (rks fa fb).toArray 71)) w1.heap.size fa fb) := ⟨Blk.new _ _ _, h1.alloc _, h2.alloc _⟩
  have G1 := Lib.hid ((G0.out.below hb G0.out.lt).alloc (.cells (rks fa fb).toArray 71))
  obtain ⟨A1, A2, Z1, Z2, B0⟩ := V3.on A1 A2 Z1 Z2 B0 (hb.alloc hb.size (.cells (rks fa fb).toArray 71))
  clear hb h1 h2 G0
  unfold rks at *
  go_upto_region 2 with (fail)
  generalize w1.alloc (.cells #[.nilFunc, .func (.func 72) #[] #[], .func (.func 73) #[] #[], .func (.func 74) #[] #[], .func (.func 84) #[] #[.pointer (some ⟨fa, 0, none⟩)], .func (.func 84) #[] #[.pointer (some ⟨fb, 0, none⟩)]] 71) = W1 at *
  generalize w1.heap.size = gt at *
  have c0 := A1.out.1
  have c1 := A1.out.2.1
  have c2 := A1.out.2.2
  have d0 := A2.out.1
  have d1 := A2.out.2.1
  have d2 := A2.out.2.2
  go_wp2_with fail
  refine (HC.out _).mono ?_
  rintro e w3 ⟨rfl, hb⟩
  have R2 := Lib.hid (R1.out.below hb)
  have G2 := Lib.hid (G1.out.below hb G1.out.lt)
  obtain ⟨A1, A2, Z1, Z2, B0⟩ := V3.on A1 A2 Z1 Z2 B0 hb
  clear hb c0 c1 c2 d0 d1 d2 R1 HC G1
  go_upto_region 5 with (fail)
  have c0 := A1.out.1
  have c1 := A1.out.2.1
  have c2 := A1.out.2.2
  have d0 := A2.out.1
  have d1 := A2.out.2.1
  have d2 := A2.out.2.2
  go_wp2_with fail
  refine (HR.out _).mono ?_
  rintro e w4 ⟨rfl, hb⟩
  have G2 := Lib.hid (G2.out.below hb G2.out.lt)
  have R2 := Lib.hid (R2.out.below hb)
  obtain ⟨A1, A2, Z1, Z2, B0⟩ := V3.on A1 A2 Z1 Z2 B0 hb
  clear hb c0 c1 c2 d0 d1 d2
  have c0 := A1.out.1
  have c1 := A1.out.2.1
  have c2 := A1.out.2.2
  have d0 := A2.out.1
  have d1 := A2.out.2.1
  have d2 := A2.out.2.2
  go_wp2_with fail
  refine (HR'.out _).mono ?_
  rintro e w5 ⟨rfl, hb⟩
  have G2 := Lib.hid (G2.out.below hb G2.out.lt)
  have R2 := Lib.hid (R2.out.below hb)
  obtain ⟨A1, A2, Z1, Z2, B0⟩ := V3.on A1 A2 Z1 Z2 B0 hb
  clear hb c0 c1 c2 d0 d1 d2
  go_upto_region 7 with (fail)
  have c0 := A1.out.1
  have c1 := A1.out.2.1
  have c2 := A1.out.2.2
  have d0 := A2.out.1
  have d1 := A2.out.2.1
  have d2 := A2.out.2.2
  go_region_held3 (fun w' => w'.cell? ⟨w.heap.size, 0, none⟩ = some (.int .i64 3) ∧ w'.cell? ⟨w.heap.size, 1, none⟩ = some (.int .i64 n) ∧ w'.cell? ⟨w.heap.size, 2, none⟩ = some (.string s) ∧ w'.cell? ⟨w.heap.size + 1, 0, none⟩ = some (.int .i64 3) ∧ w'.cell? ⟨w.heap.size + 1, 1, none⟩ = some (.int .i64 n') ∧ w'.cell? ⟨w.heap.size + 1, 2, none⟩ = some (.string s'))
    (first | with_reducible exact V3.six (V3.drew A1.out) (V3.drew A2.out) | with_reducible exact V3.six (V3.nx A1.out Z1.out hb1) (V3.nx A2.out Z2.out hb1) | with_reducible exact V3.six ((V3.nx A1.out Z1.out hb1).below hb2 (V3.zz Z1 hb1)) ((V3.nx A2.out Z2.out hb1).below hb2 (V3.zz Z2 hb1)))
    (first | (go_at_call 15; with_reducible refine (null_any w5.drew).mono ?_; rintro e w6 ⟨rfl, hb1⟩) | (go_at_call 15; refine (null_any _).mono ?_; rintro e w7 ⟨rfl, hb2⟩))
  have hb3 : Below w5.heap.size w5 w7 := (V3.dd hb1).trans (hb2.mono (V3.dd hb1).size)
  have G3 := Lib.hid (G2.out.below hb3 G2.out.lt)
  have R3 := Lib.hid (R2.out.below hb3)
  obtain ⟨A1, A2, Z1, Z2, B4⟩ := V3.on A1 A2 Z1 Z2 B0 hb3
  clear hb1 hb2 hb3 R2 G2 B0 c0 c1 c2 d0 d1 d2
  have tk : Hid (∀ w', Below w7.heap.size w7 w' → w'.cell? ⟨gt, 4, none⟩ = some (.func (.func 84) #[] #[.pointer (some ⟨fa, 0, none⟩)])) := fun w' hb => (R3.out.below hb).1.cell 4
  go_upto_region 9 with (fail)
  have c1 := A1.out.2.1
  have d1 := A2.out.2.1
  have tc := tk.out w7 (Below.refl _ _)
  go_region_held3 (fun w' => w'.cell? ⟨w.heap.size, 1, none⟩ = some (.int .i64 n) ∧ w'.cell? ⟨w.heap.size + 1, 1, none⟩ = some (.int .i64 n') ∧ w'.cell? ⟨gt, 4, none⟩ = some (.func (.func 84) #[] #[.pointer (some ⟨fa, 0, none⟩)]))
    (first | with_reducible exact V3.num (V3.drew A1.out) (V3.drew A2.out) (tk.out _ (Below.refl _ _).drew))
    (first | (go_at_call 84; refine (HK.out _ _ (R3.out.below (Below.refl _ _).drew).2.1).mono ?_; rintro e w8 ⟨rfl, rfl⟩))
  have B5 : Hid (Below w.heap.size w w7.drew) := B4.out.drew
  have G5 : Hid (Blk w7.drew (w.heap.size + 1 + 1) 23 #[.int .i64 0, .int .i64 0, .string { data := #[] }]) := G3.out
  clear G3 B4 tk tc c1 d1 HK
  generalize w7.drew = W7 at *
  go_wp2_with fail
  refine (int_any _ _).mono ?_
  rintro e w9 ⟨rfl, hb⟩
  have G6 := Lib.hid (G5.out.below hb G5.out.lt)
  have B6 := Lib.hid (B5.out.trans (hb.mono B5.out.size))
  clear hb G5 B5
  have g0 : _ = some (Value.int .i64 0) := G6.out.cell 0
  have g1 : _ = some (Value.int .i64 0) := G6.out.cell 1
  have g2 : _ = some (Value.string { data := #[] }) := G6.out.cell 2
  have q0 := G6.out.frozen 0
  have q1 := G6.out.frozen 1
  have q2 := G6.out.frozen 2
  go_wp2
  exact bodyPost_ret (ret_cell_tmp (p := 6) (u := 7) (ty := 23) rfl _ _ (w.heap.size + 1 + 1) 23 #[.int .i64 3, .int .i64 v, .string E0] _ rfl (((G6.out.set_ 0 (.int .i64 3)).set_ 1 (.int .i64 v)).set_ 2 (.string E0)) Try.underlying23 rfl i3.out) rfl ⟨rfl, (((B6.out.setCell (le2 w) _).setCell (le2 w) _).setCell (le2 w) _)⟩

set_option maxRecDepth 100000 in
set_option maxHeartbeats 2000000 in
theorem reck_op4_no (n : Int) (s : ByteArray) (n' : Int) (s' : ByteArray) (w : World) (hz : askd 4 6 3 n s 3 n' s' = 0) (er : Int) (hne : (er != 0) = true) (HK : ∀ (c : Nat) (w' : World), Blk w' c 70 #[.func (.func 76) #[] #[]] → Calls Try.prog 84 #[.int .i64 n, .int .i64 n', .pointer (some ⟨c, 0, none⟩)] w' (Rk 0 er w')) : Calls Try.prog 23 #[.int .i64 4, .agg #[.int .i64 3, .int .i64 n, .string s], .agg #[.int .i64 3, .int .i64 n', .string s']] w (Told3 w 0 0 er) := by
  obtain ⟨A1, A2, Z1, Z2, B0, G0⟩ := V3.three (w := w) (k := 3) (n := n) (s := s) (k' := 3) (n' := n') (s' := s') rfl
  have HC := Lib.hid (fun w => asked_any 4 6 3 n s 3 n' s' w)
  have i3 := Lib.hid i23
  rw [hz] at HC
  clear hz
  unfold Told3
  have HR := Lib.hid (fun w => reckons_3 n s w)
  have HR' := Lib.hid (fun w => reckons_3 n' s' w)
  have hd := three_no n s
  have hd' := three_no n' s'
  have HK := Lib.hid HK
  unfold Rk at HK
  go_enter Try.func23, Try.ntmps23
  go_upto_region 1 with (fail)
  generalize ((w.alloc (.cells #[.int .i64 3, .int .i64 n, .string s] 23)).alloc (.cells #[.int .i64 3, .int .i64 n', .string s'] 23)).alloc (.cells #[.int .i64 0, .int .i64 0, .string { data := #[] }] 23) = W0 at *
  go_wp2_with fail
  refine (reckoners_any _).mono ?_
  rintro e w1 ⟨⟨cs, rfl, fa, fb, rfl, h1, h2⟩, hb⟩
  have R1 : Hid (RB (w1.alloc (.cells (rks fa fb).toArray 71)) w1.heap.size fa fb) := ⟨Blk.new _ _ _, h1.alloc _, h2.alloc _⟩
  have G1 := Lib.hid ((G0.out.below hb G0.out.lt).alloc (.cells (rks fa fb).toArray 71))
  obtain ⟨A1, A2, Z1, Z2, B0⟩ := V3.on A1 A2 Z1 Z2 B0 (hb.alloc hb.size (.cells (rks fa fb).toArray 71))
  clear hb h1 h2 G0
  unfold rks at *
  go_upto_region 2 with (fail)
  generalize w1.alloc (.cells #[.nilFunc, .func (.func 72) #[] #[], .func (.func 73) #[] #[], .func (.func 74) #[] #[], .func (.func 84) #[] #[.pointer (some ⟨fa, 0, none⟩)], .func (.func 84) #[] #[.pointer (some ⟨fb, 0, none⟩)]] 71) = W1 at *
  generalize w1.heap.size = gt at *
  have c0 := A1.out.1
  have c1 := A1.out.2.1
  have c2 := A1.out.2.2
  have d0 := A2.out.1
  have d1 := A2.out.2.1
  have d2 := A2.out.2.2
  go_wp2_with fail
  refine (HC.out _).mono ?_
  rintro e w3 ⟨rfl, hb⟩
  have R2 := Lib.hid (R1.out.below hb)
  have G2 := Lib.hid (G1.out.below hb G1.out.lt)
  obtain ⟨A1, A2, Z1, Z2, B0⟩ := V3.on A1 A2 Z1 Z2 B0 hb
  clear hb c0 c1 c2 d0 d1 d2 R1 HC G1
  go_upto_region 5 with (fail)
  have c0 := A1.out.1
  have c1 := A1.out.2.1
  have c2 := A1.out.2.2
  have d0 := A2.out.1
  have d1 := A2.out.2.1
  have d2 := A2.out.2.2
  go_wp2_with fail
  refine (HR.out _).mono ?_
  rintro e w4 ⟨rfl, hb⟩
  have G2 := Lib.hid (G2.out.below hb G2.out.lt)
  have R2 := Lib.hid (R2.out.below hb)
  obtain ⟨A1, A2, Z1, Z2, B0⟩ := V3.on A1 A2 Z1 Z2 B0 hb
  clear hb c0 c1 c2 d0 d1 d2
  have c0 := A1.out.1
  have c1 := A1.out.2.1
  have c2 := A1.out.2.2
  have d0 := A2.out.1
  have d1 := A2.out.2.1
  have d2 := A2.out.2.2
  go_wp2_with fail
  refine (HR'.out _).mono ?_
  rintro e w5 ⟨rfl, hb⟩
  have G2 := Lib.hid (G2.out.below hb G2.out.lt)
  have R2 := Lib.hid (R2.out.below hb)
  obtain ⟨A1, A2, Z1, Z2, B0⟩ := V3.on A1 A2 Z1 Z2 B0 hb
  clear hb c0 c1 c2 d0 d1 d2
  go_upto_region 7 with (fail)
  have c0 := A1.out.1
  have c1 := A1.out.2.1
  have c2 := A1.out.2.2
  have d0 := A2.out.1
  have d1 := A2.out.2.1
  have d2 := A2.out.2.2
  go_region_held3 (fun w' => w'.cell? ⟨w.heap.size, 0, none⟩ = some (.int .i64 3) ∧ w'.cell? ⟨w.heap.size, 1, none⟩ = some (.int .i64 n) ∧ w'.cell? ⟨w.heap.size, 2, none⟩ = some (.string s) ∧ w'.cell? ⟨w.heap.size + 1, 0, none⟩ = some (.int .i64 3) ∧ w'.cell? ⟨w.heap.size + 1, 1, none⟩ = some (.int .i64 n') ∧ w'.cell? ⟨w.heap.size + 1, 2, none⟩ = some (.string s'))
    (first | with_reducible exact V3.six (V3.drew A1.out) (V3.drew A2.out) | with_reducible exact V3.six (V3.nx A1.out Z1.out hb1) (V3.nx A2.out Z2.out hb1) | with_reducible exact V3.six ((V3.nx A1.out Z1.out hb1).below hb2 (V3.zz Z1 hb1)) ((V3.nx A2.out Z2.out hb1).below hb2 (V3.zz Z2 hb1)))
    (first | (go_at_call 15; with_reducible refine (null_any w5.drew).mono ?_; rintro e w6 ⟨rfl, hb1⟩) | (go_at_call 15; refine (null_any _).mono ?_; rintro e w7 ⟨rfl, hb2⟩))
  have hb3 : Below w5.heap.size w5 w7 := (V3.dd hb1).trans (hb2.mono (V3.dd hb1).size)
  have G3 := Lib.hid (G2.out.below hb3 G2.out.lt)
  have R3 := Lib.hid (R2.out.below hb3)
  obtain ⟨A1, A2, Z1, Z2, B4⟩ := V3.on A1 A2 Z1 Z2 B0 hb3
  clear hb1 hb2 hb3 R2 G2 B0 c0 c1 c2 d0 d1 d2
  have tk : Hid (∀ w', Below w7.heap.size w7 w' → w'.cell? ⟨gt, 4, none⟩ = some (.func (.func 84) #[] #[.pointer (some ⟨fa, 0, none⟩)])) := fun w' hb => (R3.out.below hb).1.cell 4
  go_upto_region 9 with (fail)
  have c1 := A1.out.2.1
  have d1 := A2.out.2.1
  have tc := tk.out w7 (Below.refl _ _)
  go_region_held3 (fun w' => w'.cell? ⟨w.heap.size, 1, none⟩ = some (.int .i64 n) ∧ w'.cell? ⟨w.heap.size + 1, 1, none⟩ = some (.int .i64 n') ∧ w'.cell? ⟨gt, 4, none⟩ = some (.func (.func 84) #[] #[.pointer (some ⟨fa, 0, none⟩)]))
    (first | with_reducible exact V3.num (V3.drew A1.out) (V3.drew A2.out) (tk.out _ (Below.refl _ _).drew))
    (first | (go_at_call 84; refine (HK.out _ _ (R3.out.below (Below.refl _ _).drew).2.1).mono ?_; rintro e w8 ⟨rfl, rfl⟩))
  have B5 : Hid (Below w.heap.size w w7.drew) := B4.out.drew
  have G5 : Hid (Blk w7.drew (w.heap.size + 1 + 1) 23 #[.int .i64 0, .int .i64 0, .string { data := #[] }]) := G3.out
  clear G3 B4 tk tc c1 d1 HK
  generalize w7.drew = W7 at *
  have g0 : _ = some (Value.int .i64 0) := G5.out.cell 0
  have g1 : _ = some (Value.int .i64 0) := G5.out.cell 1
  have g2 : _ = some (Value.string { data := #[] }) := G5.out.cell 2
  have q0 := G5.out.frozen 0
  have q1 := G5.out.frozen 1
  have q2 := G5.out.frozen 2
  go_wp2
  exact bodyPost_ret (ret_cell_tmp (p := 6) (u := 7) (ty := 23) rfl _ _ (w.heap.size + 1 + 1) 23 #[.int .i64 0, .int .i64 0, .string E0] _ rfl (((G5.out.set_ 0 (.int .i64 0)).set_ 1 (.int .i64 0)).set_ 2 (.string E0)) Try.underlying23 rfl i3.out) rfl ⟨rfl, (((B5.out.setCell (le2 w) _).setCell (le2 w) _).setCell (le2 w) _)⟩

set_option maxRecDepth 100000 in
set_option maxHeartbeats 2000000 in
theorem reck_op5_ok (n : Int) (s : ByteArray) (n' : Int) (s' : ByteArray) (w : World) (hz : askd 5 6 3 n s 3 n' s' = 0) (v : Int) (HK : ∀ (c : Nat) (w' : World), Blk w' c 70 #[.func (.func 77) #[] #[]] → Calls Try.prog 84 #[.int .i64 n, .int .i64 n', .pointer (some ⟨c, 0, none⟩)] w' (Rk v 0 w')) : Calls Try.prog 23 #[.int .i64 5, .agg #[.int .i64 3, .int .i64 n, .string s], .agg #[.int .i64 3, .int .i64 n', .string s']] w (Told3 w 3 v 0) := by
  obtain ⟨A1, A2, Z1, Z2, B0, G0⟩ := V3.three (w := w) (k := 3) (n := n) (s := s) (k' := 3) (n' := n') (s' := s') rfl
  have HC := Lib.hid (fun w => asked_any 5 6 3 n s 3 n' s' w)
  have i3 := Lib.hid i23
  rw [hz] at HC
  clear hz
  unfold Told3
  have HR := Lib.hid (fun w => reckons_3 n s w)
  have HR' := Lib.hid (fun w => reckons_3 n' s' w)
  have hd := three_no n s
  have hd' := three_no n' s'
  have HK := Lib.hid HK
  unfold Rk at HK
  go_enter Try.func23, Try.ntmps23
  go_upto_region 1 with (fail)
  generalize ((w.alloc (.cells #[.int .i64 3, .int .i64 n, .string s] 23)).alloc (.cells #[.int .i64 3, .int .i64 n', .string s'] 23)).alloc (.cells #[.int .i64 0, .int .i64 0, .string { data := #[] }] 23) = W0 at *
  go_wp2_with fail
  refine (reckoners_any _).mono ?_
  rintro e w1 ⟨⟨cs, rfl, fa, fb, rfl, h1, h2⟩, hb⟩
  have R1 : Hid (RB (w1.alloc (.cells (rks fa fb).toArray 71)) w1.heap.size fa fb) := ⟨Blk.new _ _ _, h1.alloc _, h2.alloc _⟩
  have G1 := Lib.hid ((G0.out.below hb G0.out.lt).alloc (.cells (rks fa fb).toArray 71))
  obtain ⟨A1, A2, Z1, Z2, B0⟩ := V3.on A1 A2 Z1 Z2 B0 (hb.alloc hb.size (.cells (rks fa fb).toArray 71))
  clear hb h1 h2 G0
  unfold rks at *
  go_upto_region 2 with (fail)
  generalize w1.alloc (.cells #[.nilFunc, .func (.func 72) #[] #[], .func (.func 73) #[] #[], .func (.func 74) #[] #[], .func (.func 84) #[] #[.pointer (some ⟨fa, 0, none⟩)], .func (.func 84) #[] #[.pointer (some ⟨fb, 0, none⟩)]] 71) = W1 at *
  generalize w1.heap.size = gt at *
  have c0 := A1.out.1
  have c1 := A1.out.2.1
  have c2 := A1.out.2.2
  have d0 := A2.out.1
  have d1 := A2.out.2.1
  have d2 := A2.out.2.2
  go_wp2_with fail
  refine (HC.out _).mono ?_
  rintro e w3 ⟨rfl, hb⟩
  have R2 := Lib.hid (R1.out.below hb)
  have G2 := Lib.hid (G1.out.below hb G1.out.lt)
  obtain ⟨A1, A2, Z1, Z2, B0⟩ := V3.on A1 A2 Z1 Z2 B0 hb
  clear hb c0 c1 c2 d0 d1 d2 R1 HC G1
  go_upto_region 5 with (fail)
  have c0 := A1.out.1
  have c1 := A1.out.2.1
  have c2 := A1.out.2.2
  have d0 := A2.out.1
  have d1 := A2.out.2.1
  have d2 := A2.out.2.2
  go_wp2_with fail
  refine (HR.out _).mono ?_
  rintro e w4 ⟨rfl, hb⟩
  have G2 := Lib.hid (G2.out.below hb G2.out.lt)
  have R2 := Lib.hid (R2.out.below hb)
  obtain ⟨A1, A2, Z1, Z2, B0⟩ := V3.on A1 A2 Z1 Z2 B0 hb
  clear hb c0 c1 c2 d0 d1 d2
  have c0 := A1.out.1
  have c1 := A1.out.2.1
  have c2 := A1.out.2.2
  have d0 := A2.out.1
  have d1 := A2.out.2.1
  have d2 := A2.out.2.2
  go_wp2_with fail
  refine (HR'.out _).mono ?_
  rintro e w5 ⟨rfl, hb⟩
  have G2 := Lib.hid (G2.out.below hb G2.out.lt)
  have R2 := Lib.hid (R2.out.below hb)
  obtain ⟨A1, A2, Z1, Z2, B0⟩ := V3.on A1 A2 Z1 Z2 B0 hb
  clear hb c0 c1 c2 d0 d1 d2
  go_upto_region 7 with (fail)
  have c0 := A1.out.1
  have c1 := A1.out.2.1
  have c2 := A1.out.2.2
  have d0 := A2.out.1
  have d1 := A2.out.2.1
  have d2 := A2.out.2.2
  go_region_held3 (fun w' => w'.cell? ⟨w.heap.size, 0, none⟩ = some (.int .i64 3) ∧ w'.cell? ⟨w.heap.size, 1, none⟩ = some (.int .i64 n) ∧ w'.cell? ⟨w.heap.size, 2, none⟩ = some (.string s) ∧ w'.cell? ⟨w.heap.size + 1, 0, none⟩ = some (.int .i64 3) ∧ w'.cell? ⟨w.heap.size + 1, 1, none⟩ = some (.int .i64 n') ∧ w'.cell? ⟨w.heap.size + 1, 2, none⟩ = some (.string s'))
    (first | with_reducible exact V3.six (V3.drew A1.out) (V3.drew A2.out) | with_reducible exact V3.six (V3.nx A1.out Z1.out hb1) (V3.nx A2.out Z2.out hb1) | with_reducible exact V3.six ((V3.nx A1.out Z1.out hb1).below hb2 (V3.zz Z1 hb1)) ((V3.nx A2.out Z2.out hb1).below hb2 (V3.zz Z2 hb1)))
    (first | (go_at_call 15; with_reducible refine (null_any w5.drew).mono ?_; rintro e w6 ⟨rfl, hb1⟩) | (go_at_call 15; refine (null_any _).mono ?_; rintro e w7 ⟨rfl, hb2⟩))
  have hb3 : Below w5.heap.size w5 w7 := (V3.dd hb1).trans (hb2.mono (V3.dd hb1).size)
  have G3 := Lib.hid (G2.out.below hb3 G2.out.lt)
  have R3 := Lib.hid (R2.out.below hb3)
  obtain ⟨A1, A2, Z1, Z2, B4⟩ := V3.on A1 A2 Z1 Z2 B0 hb3
  clear hb1 hb2 hb3 R2 G2 B0 c0 c1 c2 d0 d1 d2
  have tk : Hid (∀ w', Below w7.heap.size w7 w' → w'.cell? ⟨gt, 5, none⟩ = some (.func (.func 84) #[] #[.pointer (some ⟨fb, 0, none⟩)])) := fun w' hb => (R3.out.below hb).1.cell 5
  go_upto_region 9 with (fail)
  have c1 := A1.out.2.1
  have d1 := A2.out.2.1
  have tc := tk.out w7 (Below.refl _ _)
  go_region_held3 (fun w' => w'.cell? ⟨w.heap.size, 1, none⟩ = some (.int .i64 n) ∧ w'.cell? ⟨w.heap.size + 1, 1, none⟩ = some (.int .i64 n') ∧ w'.cell? ⟨gt, 5, none⟩ = some (.func (.func 84) #[] #[.pointer (some ⟨fb, 0, none⟩)]))
    (first | with_reducible exact V3.num (V3.drew A1.out) (V3.drew A2.out) (tk.out _ (Below.refl _ _).drew))
    (first | (go_at_call 84; refine (HK.out _ _ (R3.out.below (Below.refl _ _).drew).2.2).mono ?_; rintro e w8 ⟨rfl, rfl⟩))
  have B5 : Hid (Below w.heap.size w w7.drew) := B4.out.drew
  have G5 : Hid (Blk w7.drew (w.heap.size + 1 + 1) 23 #[.int .i64 0, .int .i64 0, .string { data := #[] }]) := G3.out
  clear G3 B4 tk tc c1 d1 HK
  generalize w7.drew = W7 at *
  go_wp2_with fail
  refine (int_any _ _).mono ?_
  rintro e w9 ⟨rfl, hb⟩
  have G6 := Lib.hid (G5.out.below hb G5.out.lt)
  have B6 := Lib.hid (B5.out.trans (hb.mono B5.out.size))
  clear hb G5 B5
  have g0 : _ = some (Value.int .i64 0) := G6.out.cell 0
  have g1 : _ = some (Value.int .i64 0) := G6.out.cell 1
  have g2 : _ = some (Value.string { data := #[] }) := G6.out.cell 2
  have q0 := G6.out.frozen 0
  have q1 := G6.out.frozen 1
  have q2 := G6.out.frozen 2
  go_wp2
  exact bodyPost_ret (ret_cell_tmp (p := 6) (u := 7) (ty := 23) rfl _ _ (w.heap.size + 1 + 1) 23 #[.int .i64 3, .int .i64 v, .string E0] _ rfl (((G6.out.set_ 0 (.int .i64 3)).set_ 1 (.int .i64 v)).set_ 2 (.string E0)) Try.underlying23 rfl i3.out) rfl ⟨rfl, (((B6.out.setCell (le2 w) _).setCell (le2 w) _).setCell (le2 w) _)⟩

set_option maxRecDepth 100000 in
set_option maxHeartbeats 2000000 in
theorem reck_op5_no (n : Int) (s : ByteArray) (n' : Int) (s' : ByteArray) (w : World) (hz : askd 5 6 3 n s 3 n' s' = 0) (er : Int) (hne : (er != 0) = true) (HK : ∀ (c : Nat) (w' : World), Blk w' c 70 #[.func (.func 77) #[] #[]] → Calls Try.prog 84 #[.int .i64 n, .int .i64 n', .pointer (some ⟨c, 0, none⟩)] w' (Rk 0 er w')) : Calls Try.prog 23 #[.int .i64 5, .agg #[.int .i64 3, .int .i64 n, .string s], .agg #[.int .i64 3, .int .i64 n', .string s']] w (Told3 w 0 0 er) := by
  obtain ⟨A1, A2, Z1, Z2, B0, G0⟩ := V3.three (w := w) (k := 3) (n := n) (s := s) (k' := 3) (n' := n') (s' := s') rfl
  have HC := Lib.hid (fun w => asked_any 5 6 3 n s 3 n' s' w)
  have i3 := Lib.hid i23
  rw [hz] at HC
  clear hz
  unfold Told3
  have HR := Lib.hid (fun w => reckons_3 n s w)
  have HR' := Lib.hid (fun w => reckons_3 n' s' w)
  have hd := three_no n s
  have hd' := three_no n' s'
  have HK := Lib.hid HK
  unfold Rk at HK
  go_enter Try.func23, Try.ntmps23
  go_upto_region 1 with (fail)
  generalize ((w.alloc (.cells #[.int .i64 3, .int .i64 n, .string s] 23)).alloc (.cells #[.int .i64 3, .int .i64 n', .string s'] 23)).alloc (.cells #[.int .i64 0, .int .i64 0, .string { data := #[] }] 23) = W0 at *
  go_wp2_with fail
  refine (reckoners_any _).mono ?_
  rintro e w1 ⟨⟨cs, rfl, fa, fb, rfl, h1, h2⟩, hb⟩
  have R1 : Hid (RB (w1.alloc (.cells (rks fa fb).toArray 71)) w1.heap.size fa fb) := ⟨Blk.new _ _ _, h1.alloc _, h2.alloc _⟩
  have G1 := Lib.hid ((G0.out.below hb G0.out.lt).alloc (.cells (rks fa fb).toArray 71))
  obtain ⟨A1, A2, Z1, Z2, B0⟩ := V3.on A1 A2 Z1 Z2 B0 (hb.alloc hb.size (.cells (rks fa fb).toArray 71))
  clear hb h1 h2 G0
  unfold rks at *
  go_upto_region 2 with (fail)
  generalize w1.alloc (.cells #[.nilFunc, .func (.func 72) #[] #[], .func (.func 73) #[] #[], .func (.func 74) #[] #[], .func (.func 84) #[] #[.pointer (some ⟨fa, 0, none⟩)], .func (.func 84) #[] #[.pointer (some ⟨fb, 0, none⟩)]] 71) = W1 at *
  generalize w1.heap.size = gt at *
  have c0 := A1.out.1
  have c1 := A1.out.2.1
  have c2 := A1.out.2.2
  have d0 := A2.out.1
  have d1 := A2.out.2.1
  have d2 := A2.out.2.2
  go_wp2_with fail
  refine (HC.out _).mono ?_
  rintro e w3 ⟨rfl, hb⟩
  have R2 := Lib.hid (R1.out.below hb)
  have G2 := Lib.hid (G1.out.below hb G1.out.lt)
  obtain ⟨A1, A2, Z1, Z2, B0⟩ := V3.on A1 A2 Z1 Z2 B0 hb
  clear hb c0 c1 c2 d0 d1 d2 R1 HC G1
  go_upto_region 5 with (fail)
  have c0 := A1.out.1
  have c1 := A1.out.2.1
  have c2 := A1.out.2.2
  have d0 := A2.out.1
  have d1 := A2.out.2.1
  have d2 := A2.out.2.2
  go_wp2_with fail
  refine (HR.out _).mono ?_
  rintro e w4 ⟨rfl, hb⟩
  have G2 := Lib.hid (G2.out.below hb G2.out.lt)
  have R2 := Lib.hid (R2.out.below hb)
  obtain ⟨A1, A2, Z1, Z2, B0⟩ := V3.on A1 A2 Z1 Z2 B0 hb
  clear hb c0 c1 c2 d0 d1 d2
  have c0 := A1.out.1
  have c1 := A1.out.2.1
  have c2 := A1.out.2.2
  have d0 := A2.out.1
  have d1 := A2.out.2.1
  have d2 := A2.out.2.2
  go_wp2_with fail
  refine (HR'.out _).mono ?_
  rintro e w5 ⟨rfl, hb⟩
  have G2 := Lib.hid (G2.out.below hb G2.out.lt)
  have R2 := Lib.hid (R2.out.below hb)
  obtain ⟨A1, A2, Z1, Z2, B0⟩ := V3.on A1 A2 Z1 Z2 B0 hb
  clear hb c0 c1 c2 d0 d1 d2
  go_upto_region 7 with (fail)
  have c0 := A1.out.1
  have c1 := A1.out.2.1
  have c2 := A1.out.2.2
  have d0 := A2.out.1
  have d1 := A2.out.2.1
  have d2 := A2.out.2.2
  go_region_held3 (fun w' => w'.cell? ⟨w.heap.size, 0, none⟩ = some (.int .i64 3) ∧ w'.cell? ⟨w.heap.size, 1, none⟩ = some (.int .i64 n) ∧ w'.cell? ⟨w.heap.size, 2, none⟩ = some (.string s) ∧ w'.cell? ⟨w.heap.size + 1, 0, none⟩ = some (.int .i64 3) ∧ w'.cell? ⟨w.heap.size + 1, 1, none⟩ = some (.int .i64 n') ∧ w'.cell? ⟨w.heap.size + 1, 2, none⟩ = some (.string s'))
    (first | with_reducible exact V3.six (V3.drew A1.out) (V3.drew A2.out) | with_reducible exact V3.six (V3.nx A1.out Z1.out hb1) (V3.nx A2.out Z2.out hb1) | with_reducible exact V3.six ((V3.nx A1.out Z1.out hb1).below hb2 (V3.zz Z1 hb1)) ((V3.nx A2.out Z2.out hb1).below hb2 (V3.zz Z2 hb1)))
    (first | (go_at_call 15; with_reducible refine (null_any w5.drew).mono ?_; rintro e w6 ⟨rfl, hb1⟩) | (go_at_call 15; refine (null_any _).mono ?_; rintro e w7 ⟨rfl, hb2⟩))
  have hb3 : Below w5.heap.size w5 w7 := (V3.dd hb1).trans (hb2.mono (V3.dd hb1).size)
  have G3 := Lib.hid (G2.out.below hb3 G2.out.lt)
  have R3 := Lib.hid (R2.out.below hb3)
  obtain ⟨A1, A2, Z1, Z2, B4⟩ := V3.on A1 A2 Z1 Z2 B0 hb3
  clear hb1 hb2 hb3 R2 G2 B0 c0 c1 c2 d0 d1 d2
  have tk : Hid (∀ w', Below w7.heap.size w7 w' → w'.cell? ⟨gt, 5, none⟩ = some (.func (.func 84) #[] #[.pointer (some ⟨fb, 0, none⟩)])) := fun w' hb => (R3.out.below hb).1.cell 5
  go_upto_region 9 with (fail)
  have c1 := A1.out.2.1
  have d1 := A2.out.2.1
  have tc := tk.out w7 (Below.refl _ _)
  go_region_held3 (fun w' => w'.cell? ⟨w.heap.size, 1, none⟩ = some (.int .i64 n) ∧ w'.cell? ⟨w.heap.size + 1, 1, none⟩ = some (.int .i64 n') ∧ w'.cell? ⟨gt, 5, none⟩ = some (.func (.func 84) #[] #[.pointer (some ⟨fb, 0, none⟩)]))
    (first | with_reducible exact V3.num (V3.drew A1.out) (V3.drew A2.out) (tk.out _ (Below.refl _ _).drew))
    (first | (go_at_call 84; refine (HK.out _ _ (R3.out.below (Below.refl _ _).drew).2.2).mono ?_; rintro e w8 ⟨rfl, rfl⟩))
  have B5 : Hid (Below w.heap.size w w7.drew) := B4.out.drew
  have G5 : Hid (Blk w7.drew (w.heap.size + 1 + 1) 23 #[.int .i64 0, .int .i64 0, .string { data := #[] }]) := G3.out
  clear G3 B4 tk tc c1 d1 HK
  generalize w7.drew = W7 at *
  have g0 : _ = some (Value.int .i64 0) := G5.out.cell 0
  have g1 : _ = some (Value.int .i64 0) := G5.out.cell 1
  have g2 : _ = some (Value.string { data := #[] }) := G5.out.cell 2
  have q0 := G5.out.frozen 0
  have q1 := G5.out.frozen 1
  have q2 := G5.out.frozen 2
  go_wp2
  exact bodyPost_ret (ret_cell_tmp (p := 6) (u := 7) (ty := 23) rfl _ _ (w.heap.size + 1 + 1) 23 #[.int .i64 0, .int .i64 0, .string E0] _ rfl (((G5.out.set_ 0 (.int .i64 0)).set_ 1 (.int .i64 0)).set_ 2 (.string E0)) Try.underlying23 rfl i3.out) rfl ⟨rfl, (((B5.out.setCell (le2 w) _).setCell (le2 w) _).setCell (le2 w) _)⟩


end Go.Proofs.Ytndkoefchlclkaa
