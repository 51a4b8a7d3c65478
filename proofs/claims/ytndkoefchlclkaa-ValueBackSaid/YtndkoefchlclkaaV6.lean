/-
  The program's Test: its six ops.
-/
import Derived.Test.YtndkoefchlclkaaV5
namespace Go.Proofs.Ytndkoefchlclkaa
open Go.RowKit
attribute [local go_sem ↓] eqV neV eqG

theorem V3.sev {w' : World} {g g' : Nat} {k n : Int} {s : ByteArray} {k' n' : Int} {s' : ByteArray} {P : Prop} (h1 : V3 w' g k n s) (h2 : V3 w' g' k' n' s') (h : P) : w'.cell? ⟨g, 0, none⟩ = some (.int .i64 k) ∧ w'.cell? ⟨g, 1, none⟩ = some (.int .i64 n) ∧ w'.cell? ⟨g, 2, none⟩ = some (.string s) ∧ w'.cell? ⟨g', 0, none⟩ = some (.int .i64 k') ∧ w'.cell? ⟨g', 1, none⟩ = some (.int .i64 n') ∧ w'.cell? ⟨g', 2, none⟩ = some (.string s') ∧ P :=
  ⟨h1.1, h1.2.1, h1.2.2, h2.1, h2.2.1, h2.2.2, h⟩
theorem V3.dd {w w' : World} (hb : Below w.drew.heap.size w.drew w') : Below w.heap.size w w' := (Below.refl _ w).drew.trans (hb.mono (by simp))

set_option maxRecDepth 100000 in
set_option maxHeartbeats 2000000 in
theorem test_op1 (k n : Int) (s : ByteArray) (n' : Int) (s' : ByteArray) (w : World) (hz : askd 1 7 k n s k n' s' = 0) (hd : Eqv k n s 1 0 E0 = false) (hd' : Eqv k n' s' 1 0 E0 = false) (hk : (k == 2) = false) : Calls Try.prog 21 #[.int .i64 1, .agg #[.int .i64 k, .int .i64 n, .string s], .agg #[.int .i64 k, .int .i64 n', .string s']] w (Told w (b2i (cmpV k n s k n' s' == 0)) 0) := by
  obtain ⟨A1, A2, Z1, Z2, B0⟩ := V3.two (w := w) (k := k) (n := n) (s := s) (k' := k) (n' := n') (s' := s') rfl
  have HC := Lib.hid (fun w => asked_any 1 7 k n s k n' s' w)
  rw [hz] at HC
  clear hz
  unfold Told
  go_enter Try.func21, Try.ntmps21
  go_upto_region 1 with (fail)
  generalize (w.alloc (.cells #[.int .i64 k, .int .i64 n, .string s] 23)).alloc (.cells #[.int .i64 k, .int .i64 n', .string s'] 23) = W0 at *
  go_wp2_with fail
  refine (testers_any _).mono ?_
  rintro e w1 ⟨⟨cs, rfl, b, rfl, h1, h2, h3, h4, h5, h6⟩, hb⟩
  have T1 : Hid (TB (w1.alloc (.cells #[.nilFunc, isF (b 1), isNotF (b 2), isF (b 3), isNotF (b 4), isF (b 5), isNotF (b 6)] 64)) w1.heap.size b) := ⟨Blk.new _ _ _, h1.alloc _, h2.alloc _, h3.alloc _, h4.alloc _, h5.alloc _, h6.alloc _⟩
  obtain ⟨A1, A2, Z1, Z2, B0⟩ := V3.on A1 A2 Z1 Z2 B0 (hb.alloc hb.size (.cells #[.nilFunc, isF (b 1), isNotF (b 2), isF (b 3), isNotF (b 4), isF (b 5), isNotF (b 6)] 64))
  clear hb h1 h2 h3 h4 h5 h6
  unfold isF isNotF at *
  go_upto_region 2 with (fail)
  generalize w1.alloc (.cells #[.nilFunc, .func (.func 69) #[] #[.pointer (some ⟨b 1, 0, none⟩)], .func (.func 71) #[] #[.pointer (some ⟨b 2, 0, none⟩)], .func (.func 69) #[] #[.pointer (some ⟨b 3, 0, none⟩)], .func (.func 71) #[] #[.pointer (some ⟨b 4, 0, none⟩)], .func (.func 69) #[] #[.pointer (some ⟨b 5, 0, none⟩)], .func (.func 71) #[] #[.pointer (some ⟨b 6, 0, none⟩)]] 64) = W1 at *
  generalize w1.heap.size = gt at *
  have c0 := A1.out.1
  have c1 := A1.out.2.1
  have c2 := A1.out.2.2
  have d0 := A2.out.1
  have d1 := A2.out.2.1
  have d2 := A2.out.2.2
  go_wp2_with fail
  refine (HC.out _).mono ?_
  rintro e w3 ⟨rfl, hb⟩
  have T2 := Lib.hid (T1.out.below hb)
  obtain ⟨A1, A2, Z1, Z2, B0⟩ := V3.on A1 A2 Z1 Z2 B0 hb
  clear hb c0 c1 c2 d0 d1 d2 T1 HC
  go_upto_region 5 with (fail)
  have c0 := A1.out.1
  have c1 := A1.out.2.1
  have c2 := A1.out.2.2
  have d0 := A2.out.1
  have d1 := A2.out.2.1
  have d2 := A2.out.2.2
  go_region_held3 (fun w' => w'.cell? ⟨w.heap.size, 0, none⟩ = some (.int .i64 k) ∧ w'.cell? ⟨w.heap.size, 1, none⟩ = some (.int .i64 n) ∧ w'.cell? ⟨w.heap.size, 2, none⟩ = some (.string s) ∧ w'.cell? ⟨w.heap.size + 1, 0, none⟩ = some (.int .i64 k) ∧ w'.cell? ⟨w.heap.size + 1, 1, none⟩ = some (.int .i64 n') ∧ w'.cell? ⟨w.heap.size + 1, 2, none⟩ = some (.string s'))
    (first | with_reducible exact V3.six (V3.drew A1.out) (V3.drew A2.out) | with_reducible exact V3.six (V3.nx A1.out Z1.out hb1) (V3.nx A2.out Z2.out hb1) | with_reducible exact V3.six ((V3.nx A1.out Z1.out hb1).below hb2 (V3.zz Z1 hb1)) ((V3.nx A2.out Z2.out hb1).below hb2 (V3.zz Z2 hb1)))
    (first | (go_at_call 15; with_reducible refine (null_any w3.drew).mono ?_; rintro e w4 ⟨rfl, hb1⟩) | (go_at_call 15; refine (null_any _).mono ?_; rintro e w5 ⟨rfl, hb2⟩))
  have hb3 : Below w3.heap.size w3 w5 := ((Below.refl _ w3).drew.trans (hb1.mono (by simp))).trans (hb2.mono (by have := hb1.size; simpa using this))
  have T3 := Lib.hid (T2.out.below hb3)
  obtain ⟨A1, A2, Z1, Z2, B0⟩ := V3.on A1 A2 Z1 Z2 B0 hb3
  clear hb1 hb2 hb3 T2 c0 c1 c2 d0 d1 d2
  have c0 := A1.out.1
  have c1 := A1.out.2.1
  have c2 := A1.out.2.2
  have d0 := A2.out.1
  have d1 := A2.out.2.1
  have d2 := A2.out.2.2
  have X := Lib.hid T3.out.1
  have tk : Hid (∀ w', Below w5.heap.size w5 w' → w'.cell? ⟨gt, 1, none⟩ = some (.func (.func 69) #[] #[.pointer (some ⟨b 1, 0, none⟩)])) := fun w' hb => (T3.out.below hb).1.cell 1
  have tc := tk.out w5 (Below.refl _ _)
  go_upto_region 10 with (fail)
  go_region_held3 (fun w' => w'.cell? ⟨w.heap.size, 0, none⟩ = some (.int .i64 k) ∧ w'.cell? ⟨w.heap.size, 1, none⟩ = some (.int .i64 n) ∧ w'.cell? ⟨w.heap.size, 2, none⟩ = some (.string s) ∧ w'.cell? ⟨w.heap.size + 1, 0, none⟩ = some (.int .i64 k) ∧ w'.cell? ⟨w.heap.size + 1, 1, none⟩ = some (.int .i64 n') ∧ w'.cell? ⟨w.heap.size + 1, 2, none⟩ = some (.string s') ∧ w'.cell? ⟨gt, 1, none⟩ = some (.func (.func 69) #[] #[.pointer (some ⟨b 1, 0, none⟩)]))
    (first | with_reducible exact V3.sev (V3.drew A1.out) (V3.drew A2.out) (tk.out _ (Below.refl _ _).drew) | with_reducible exact V3.sev (V3.nx A1.out Z1.out hb1) (V3.nx A2.out Z2.out hb1) (tk.out _ (V3.dd hb1)))
    (first | (go_at_call 19; refine (compare_any _ _ _ _ _ _ _).mono ?_; rintro e w6 ⟨rfl, hb1⟩) | (go_at_call 69; refine (isc_any _ _ _ _ (T3.out.below (V3.dd hb1)).2.1).mono ?_; rintro e w7 ⟨rfl, rfl⟩) | (go_at_call 45; refine (truthOf_any _ _).mono ?_; rintro e w8 ⟨rfl, rfl⟩))
  have B1 := Lib.hid (B0.out.trans ((V3.dd hb1).mono B0.out.size))
  clear hb1 c0 c1 c2 d0 d1 d2 tc tk X
  go_wp2
  exact bodyPost_ret (v := .tuple #[.int .i64 (b2i (cmpV k n s k n' s' == 0)), .int .i64 0]) (by simp [results, Try.results21, go_sem]) rfl ⟨rfl, B1.out⟩

set_option maxRecDepth 100000 in
set_option maxHeartbeats 2000000 in
theorem test_op1b (n : Int) (s : ByteArray) (n' : Int) (s' : ByteArray) (w : World) (hz : askd 1 7 2 n s 2 n' s' = 0) (hd : Eqv 2 n s 1 0 E0 = false) (hd' : Eqv 2 n' s' 1 0 E0 = false) : Calls Try.prog 21 #[.int .i64 1, .agg #[.int .i64 2, .int .i64 n, .string s], .agg #[.int .i64 2, .int .i64 n', .string s']] w (Told w (b2i (cmpV 2 n s 2 n' s' == 0)) 0) := by
  obtain ⟨A1, A2, Z1, Z2, B0⟩ := V3.two (w := w) (k := 2) (n := n) (s := s) (k' := 2) (n' := n') (s' := s') rfl
  have HC := Lib.hid (fun w => asked_any 1 7 2 n s 2 n' s' w)
  rw [hz] at HC
  clear hz
  unfold Told
  go_enter Try.func21, Try.ntmps21
  go_upto_region 1 with (fail)
  generalize (w.alloc (.cells #[.int .i64 2, .int .i64 n, .string s] 23)).alloc (.cells #[.int .i64 2, .int .i64 n', .string s'] 23) = W0 at *
  go_wp2_with fail
  refine (testers_any _).mono ?_
  rintro e w1 ⟨⟨cs, rfl, b, rfl, h1, h2, h3, h4, h5, h6⟩, hb⟩
  have T1 : Hid (TB (w1.alloc (.cells #[.nilFunc, isF (b 1), isNotF (b 2), isF (b 3), isNotF (b 4), isF (b 5), isNotF (b 6)] 64)) w1.heap.size b) := ⟨Blk.new _ _ _, h1.alloc _, h2.alloc _, h3.alloc _, h4.alloc _, h5.alloc _, h6.alloc _⟩
  obtain ⟨A1, A2, Z1, Z2, B0⟩ := V3.on A1 A2 Z1 Z2 B0 (hb.alloc hb.size (.cells #[.nilFunc, isF (b 1), isNotF (b 2), isF (b 3), isNotF (b 4), isF (b 5), isNotF (b 6)] 64))
  clear hb h1 h2 h3 h4 h5 h6
  unfold isF isNotF at *
  go_upto_region 2 with (fail)
  generalize w1.alloc (.cells #[.nilFunc, .func (.func 69) #[] #[.pointer (some ⟨b 1, 0, none⟩)], .func (.func 71) #[] #[.pointer (some ⟨b 2, 0, none⟩)], .func (.func 69) #[] #[.pointer (some ⟨b 3, 0, none⟩)], .func (.func 71) #[] #[.pointer (some ⟨b 4, 0, none⟩)], .func (.func 69) #[] #[.pointer (some ⟨b 5, 0, none⟩)], .func (.func 71) #[] #[.pointer (some ⟨b 6, 0, none⟩)]] 64) = W1 at *
  generalize w1.heap.size = gt at *
  have c0 := A1.out.1
  have c1 := A1.out.2.1
  have c2 := A1.out.2.2
  have d0 := A2.out.1
  have d1 := A2.out.2.1
  have d2 := A2.out.2.2
  go_wp2_with fail
  refine (HC.out _).mono ?_
  rintro e w3 ⟨rfl, hb⟩
  have T2 := Lib.hid (T1.out.below hb)
  obtain ⟨A1, A2, Z1, Z2, B0⟩ := V3.on A1 A2 Z1 Z2 B0 hb
  clear hb c0 c1 c2 d0 d1 d2 T1 HC
  go_upto_region 5 with (fail)
  have c0 := A1.out.1
  have c1 := A1.out.2.1
  have c2 := A1.out.2.2
  have d0 := A2.out.1
  have d1 := A2.out.2.1
  have d2 := A2.out.2.2
  go_region_held3 (fun w' => w'.cell? ⟨w.heap.size, 0, none⟩ = some (.int .i64 2) ∧ w'.cell? ⟨w.heap.size, 1, none⟩ = some (.int .i64 n) ∧ w'.cell? ⟨w.heap.size, 2, none⟩ = some (.string s) ∧ w'.cell? ⟨w.heap.size + 1, 0, none⟩ = some (.int .i64 2) ∧ w'.cell? ⟨w.heap.size + 1, 1, none⟩ = some (.int .i64 n') ∧ w'.cell? ⟨w.heap.size + 1, 2, none⟩ = some (.string s'))
    (first | with_reducible exact V3.six (V3.drew A1.out) (V3.drew A2.out) | with_reducible exact V3.six (V3.nx A1.out Z1.out hb1) (V3.nx A2.out Z2.out hb1) | with_reducible exact V3.six ((V3.nx A1.out Z1.out hb1).below hb2 (V3.zz Z1 hb1)) ((V3.nx A2.out Z2.out hb1).below hb2 (V3.zz Z2 hb1)))
    (first | (go_at_call 15; with_reducible refine (null_any w3.drew).mono ?_; rintro e w4 ⟨rfl, hb1⟩) | (go_at_call 15; refine (null_any _).mono ?_; rintro e w5 ⟨rfl, hb2⟩))
  have hb3 : Below w3.heap.size w3 w5 := ((Below.refl _ w3).drew.trans (hb1.mono (by simp))).trans (hb2.mono (by have := hb1.size; simpa using this))
  have T3 := Lib.hid (T2.out.below hb3)
  obtain ⟨A1, A2, Z1, Z2, B0⟩ := V3.on A1 A2 Z1 Z2 B0 hb3
  clear hb1 hb2 hb3 T2 c0 c1 c2 d0 d1 d2
  have c0 := A1.out.1
  have c1 := A1.out.2.1
  have c2 := A1.out.2.2
  have d0 := A2.out.1
  have d1 := A2.out.2.1
  have d2 := A2.out.2.2
  have X := Lib.hid T3.out.1
  have tk : Hid (∀ w', Below w5.heap.size w5 w' → w'.cell? ⟨gt, 1, none⟩ = some (.func (.func 69) #[] #[.pointer (some ⟨b 1, 0, none⟩)])) := fun w' hb => (T3.out.below hb).1.cell 1
  have tc := tk.out w5 (Below.refl _ _)
  go_upto_region 10 with (fail)
  go_region_held3 (fun w' => w'.cell? ⟨w.heap.size, 0, none⟩ = some (.int .i64 2) ∧ w'.cell? ⟨w.heap.size, 1, none⟩ = some (.int .i64 n) ∧ w'.cell? ⟨w.heap.size, 2, none⟩ = some (.string s) ∧ w'.cell? ⟨w.heap.size + 1, 0, none⟩ = some (.int .i64 2) ∧ w'.cell? ⟨w.heap.size + 1, 1, none⟩ = some (.int .i64 n') ∧ w'.cell? ⟨w.heap.size + 1, 2, none⟩ = some (.string s') ∧ w'.cell? ⟨gt, 1, none⟩ = some (.func (.func 69) #[] #[.pointer (some ⟨b 1, 0, none⟩)]))
    (first | with_reducible exact V3.sev (V3.drew A1.out) (V3.drew A2.out) (tk.out _ (Below.refl _ _).drew) | with_reducible exact V3.sev (V3.nx A1.out Z1.out hb1) (V3.nx A2.out Z2.out hb1) (tk.out _ (V3.dd hb1)))
    (first | (go_at_call 19; refine (compare_any _ _ _ _ _ _ _).mono ?_; rintro e w6 ⟨rfl, hb1⟩) | (go_at_call 69; refine (isc_any _ _ _ _ (T3.out.below (V3.dd hb1)).2.1).mono ?_; rintro e w7 ⟨rfl, rfl⟩) | (go_at_call 45; refine (truthOf_any _ _).mono ?_; rintro e w8 ⟨rfl, rfl⟩))
  have B1 := Lib.hid (B0.out.trans ((V3.dd hb1).mono B0.out.size))
  clear hb1 c0 c1 c2 d0 d1 d2 tc tk X
  go_wp2
  exact bodyPost_ret (v := .tuple #[.int .i64 (b2i (cmpV 2 n s 2 n' s' == 0)), .int .i64 0]) (by simp [results, Try.results21, go_sem]) rfl ⟨rfl, B1.out⟩

set_option maxRecDepth 100000 in
set_option maxHeartbeats 2000000 in
theorem test_op2 (k n : Int) (s : ByteArray) (n' : Int) (s' : ByteArray) (w : World) (hz : askd 2 7 k n s k n' s' = 0) (hd : Eqv k n s 1 0 E0 = false) (hd' : Eqv k n' s' 1 0 E0 = false) (hk : (k == 2) = false) : Calls Try.prog 21 #[.int .i64 2, .agg #[.int .i64 k, .int .i64 n, .string s], .agg #[.int .i64 k, .int .i64 n', .string s']] w (Told w (b2i (cmpV k n s k n' s' != 0)) 0) := by
  obtain ⟨A1, A2, Z1, Z2, B0⟩ := V3.two (w := w) (k := k) (n := n) (s := s) (k' := k) (n' := n') (s' := s') rfl
  have HC := Lib.hid (fun w => asked_any 2 7 k n s k n' s' w)
  rw [hz] at HC
  clear hz
  unfold Told
  go_enter Try.func21, Try.ntmps21
  go_upto_region 1 with (fail)
  generalize (w.alloc (.cells #[.int .i64 k, .int .i64 n, .string s] 23)).alloc (.cells #[.int .i64 k, .int .i64 n', .string s'] 23) = W0 at *
  go_wp2_with fail
  refine (testers_any _).mono ?_
  rintro e w1 ⟨⟨cs, rfl, b, rfl, h1, h2, h3, h4, h5, h6⟩, hb⟩
  have T1 : Hid (TB (w1.alloc (.cells #[.nilFunc, isF (b 1), isNotF (b 2), isF (b 3), isNotF (b 4), isF (b 5), isNotF (b 6)] 64)) w1.heap.size b) := ⟨Blk.new _ _ _, h1.alloc _, h2.alloc _, h3.alloc _, h4.alloc _, h5.alloc _, h6.alloc _⟩
  obtain ⟨A1, A2, Z1, Z2, B0⟩ := V3.on A1 A2 Z1 Z2 B0 (hb.alloc hb.size (.cells #[.nilFunc, isF (b 1), isNotF (b 2), isF (b 3), isNotF (b 4), isF (b 5), isNotF (b 6)] 64))
  clear hb h1 h2 h3 h4 h5 h6
  unfold isF isNotF at *
  go_upto_region 2 with (fail)
  generalize w1.alloc (.cells #[.nilFunc, .func (.func 69) #[] #[.pointer (some ⟨b 1, 0, none⟩)], .func (.func 71) #[] #[.pointer (some ⟨b 2, 0, none⟩)], .func (.func 69) #[] #[.pointer (some ⟨b 3, 0, none⟩)], .func (.func 71) #[] #[.pointer (some ⟨b 4, 0, none⟩)], .func (.func 69) #[] #[.pointer (some ⟨b 5, 0, none⟩)], .func (.func 71) #[] #[.pointer (some ⟨b 6, 0, none⟩)]] 64) = W1 at *
  generalize w1.heap.size = gt at *
  have c0 := A1.out.1
  have c1 := A1.out.2.1
  have c2 := A1.out.2.2
  have d0 := A2.out.1
  have d1 := A2.out.2.1
  have d2 := A2.out.2.2
  go_wp2_with fail
  refine (HC.out _).mono ?_
  rintro e w3 ⟨rfl, hb⟩
  have T2 := Lib.hid (T1.out.below hb)
  obtain ⟨A1, A2, Z1, Z2, B0⟩ := V3.on A1 A2 Z1 Z2 B0 hb
  clear hb c0 c1 c2 d0 d1 d2 T1 HC
  go_upto_region 5 with (fail)
  have c0 := A1.out.1
  have c1 := A1.out.2.1
  have c2 := A1.out.2.2
  have d0 := A2.out.1
  have d1 := A2.out.2.1
  have d2 := A2.out.2.2
  go_region_held3 (fun w' => w'.cell? ⟨w.heap.size, 0, none⟩ = some (.int .i64 k) ∧ w'.cell? ⟨w.heap.size, 1, none⟩ = some (.int .i64 n) ∧ w'.cell? ⟨w.heap.size, 2, none⟩ = some (.string s) ∧ w'.cell? ⟨w.heap.size + 1, 0, none⟩ = some (.int .i64 k) ∧ w'.cell? ⟨w.heap.size + 1, 1, none⟩ = some (.int .i64 n') ∧ w'.cell? ⟨w.heap.size + 1, 2, none⟩ = some (.string s'))
    (first | with_reducible exact V3.six (V3.drew A1.out) (V3.drew A2.out) | with_reducible exact V3.six (V3.nx A1.out Z1.out hb1) (V3.nx A2.out Z2.out hb1) | with_reducible exact V3.six ((V3.nx A1.out Z1.out hb1).below hb2 (V3.zz Z1 hb1)) ((V3.nx A2.out Z2.out hb1).below hb2 (V3.zz Z2 hb1)))
    (first | (go_at_call 15; with_reducible refine (null_any w3.drew).mono ?_; rintro e w4 ⟨rfl, hb1⟩) | (go_at_call 15; refine (null_any _).mono ?_; rintro e w5 ⟨rfl, hb2⟩))
  have hb3 : Below w3.heap.size w3 w5 := ((Below.refl _ w3).drew.trans (hb1.mono (by simp))).trans (hb2.mono (by have := hb1.size; simpa using this))
  have T3 := Lib.hid (T2.out.below hb3)
  obtain ⟨A1, A2, Z1, Z2, B0⟩ := V3.on A1 A2 Z1 Z2 B0 hb3
  clear hb1 hb2 hb3 T2 c0 c1 c2 d0 d1 d2
  have c0 := A1.out.1
  have c1 := A1.out.2.1
  have c2 := A1.out.2.2
  have d0 := A2.out.1
  have d1 := A2.out.2.1
  have d2 := A2.out.2.2
  have X := Lib.hid T3.out.1
  have tk : Hid (∀ w', Below w5.heap.size w5 w' → w'.cell? ⟨gt, 2, none⟩ = some (.func (.func 71) #[] #[.pointer (some ⟨b 2, 0, none⟩)])) := fun w' hb => (T3.out.below hb).1.cell 2
  have tc := tk.out w5 (Below.refl _ _)
  go_upto_region 10 with (fail)
  go_region_held3 (fun w' => w'.cell? ⟨w.heap.size, 0, none⟩ = some (.int .i64 k) ∧ w'.cell? ⟨w.heap.size, 1, none⟩ = some (.int .i64 n) ∧ w'.cell? ⟨w.heap.size, 2, none⟩ = some (.string s) ∧ w'.cell? ⟨w.heap.size + 1, 0, none⟩ = some (.int .i64 k) ∧ w'.cell? ⟨w.heap.size + 1, 1, none⟩ = some (.int .i64 n') ∧ w'.cell? ⟨w.heap.size + 1, 2, none⟩ = some (.string s') ∧ w'.cell? ⟨gt, 2, none⟩ = some (.func (.func 71) #[] #[.pointer (some ⟨b 2, 0, none⟩)]))
    (first | with_reducible exact V3.sev (V3.drew A1.out) (V3.drew A2.out) (tk.out _ (Below.refl _ _).drew) | with_reducible exact V3.sev (V3.nx A1.out Z1.out hb1) (V3.nx A2.out Z2.out hb1) (tk.out _ (V3.dd hb1)))
    (first | (go_at_call 19; refine (compare_any _ _ _ _ _ _ _).mono ?_; rintro e w6 ⟨rfl, hb1⟩) | (go_at_call 71; refine (isNotc_any _ _ _ _ (T3.out.below (V3.dd hb1)).2.2.1).mono ?_; rintro e w7 ⟨rfl, rfl⟩) | (go_at_call 45; refine (truthOf_any _ _).mono ?_; rintro e w8 ⟨rfl, rfl⟩))
  have B1 := Lib.hid (B0.out.trans ((V3.dd hb1).mono B0.out.size))
  clear hb1 c0 c1 c2 d0 d1 d2 tc tk X
  go_wp2
  exact bodyPost_ret (v := .tuple #[.int .i64 (b2i (cmpV k n s k n' s' != 0)), .int .i64 0]) (by simp [results, Try.results21, go_sem]) rfl ⟨rfl, B1.out⟩

set_option maxRecDepth 100000 in
set_option maxHeartbeats 2000000 in
theorem test_op2b (n : Int) (s : ByteArray) (n' : Int) (s' : ByteArray) (w : World) (hz : askd 2 7 2 n s 2 n' s' = 0) (hd : Eqv 2 n s 1 0 E0 = false) (hd' : Eqv 2 n' s' 1 0 E0 = false) : Calls Try.prog 21 #[.int .i64 2, .agg #[.int .i64 2, .int .i64 n, .string s], .agg #[.int .i64 2, .int .i64 n', .string s']] w (Told w (b2i (cmpV 2 n s 2 n' s' != 0)) 0) := by
  obtain ⟨A1, A2, Z1, Z2, B0⟩ := V3.two (w := w) (k := 2) (n := n) (s := s) (k' := 2) (n' := n') (s' := s') rfl
  have HC := Lib.hid (fun w => asked_any 2 7 2 n s 2 n' s' w)
  rw [hz] at HC
  clear hz
  unfold Told
  go_enter Try.func21, Try.ntmps21
  go_upto_region 1 with (fail)
  generalize (w.alloc (.cells #[.int .i64 2, .int .i64 n, .string s] 23)).alloc (.cells #[.int .i64 2, .int .i64 n', .string s'] 23) = W0 at *
  go_wp2_with fail
  refine (testers_any _).mono ?_
  rintro e w1 ⟨⟨cs, rfl, b, rfl, h1, h2, h3, h4, h5, h6⟩, hb⟩
  have T1 : Hid (TB (w1.alloc (.cells #[.nilFunc, isF (b 1), isNotF (b 2), isF (b 3), isNotF (b 4), isF (b 5), isNotF (b 6)] 64)) w1.heap.size b) := ⟨Blk.new _ _ _, h1.alloc _, h2.alloc _, h3.alloc _, h4.alloc _, h5.alloc _, h6.alloc _⟩
  obtain ⟨A1, A2, Z1, Z2, B0⟩ := V3.on A1 A2 Z1 Z2 B0 (hb.alloc hb.size (.cells #[.nilFunc, isF (b 1), isNotF (b 2), isF (b 3), isNotF (b 4), isF (b 5), isNotF (b 6)] 64))
  clear hb h1 h2 h3 h4 h5 h6
  unfold isF isNotF at *
  go_upto_region 2 with (fail)
  generalize w1.alloc (.cells #[.nilFunc, .func (.func 69) #[] #[.pointer (some ⟨b 1, 0, none⟩)], .func (.func 71) #[] #[.pointer (some ⟨b 2, 0, none⟩)], .func (.func 69) #[] #[.pointer (some ⟨b 3, 0, none⟩)], .func (.func 71) #[] #[.pointer (some ⟨b 4, 0, none⟩)], .func (.func 69) #[] #[.pointer (some ⟨b 5, 0, none⟩)], .func (.func 71) #[] #[.pointer (some ⟨b 6, 0, none⟩)]] 64) = W1 at *
  generalize w1.heap.size = gt at *
  have c0 := A1.out.1
  have c1 := A1.out.2.1
  have c2 := A1.out.2.2
  have d0 := A2.out.1
  have d1 := A2.out.2.1
  have d2 := A2.out.2.2
  go_wp2_with fail
  refine (HC.out _).mono ?_
  rintro e w3 ⟨rfl, hb⟩
  have T2 := Lib.hid (T1.out.below hb)
  obtain ⟨A1, A2, Z1, Z2, B0⟩ := V3.on A1 A2 Z1 Z2 B0 hb
  clear hb c0 c1 c2 d0 d1 d2 T1 HC
  go_upto_region 5 with (fail)
  have c0 := A1.out.1
  have c1 := A1.out.2.1
  have c2 := A1.out.2.2
  have d0 := A2.out.1
  have d1 := A2.out.2.1
  have d2 := A2.out.2.2
  go_region_held3 (fun w' => w'.cell? ⟨w.heap.size, 0, none⟩ = some (.int .i64 2) ∧ w'.cell? ⟨w.heap.size, 1, none⟩ = some (.int .i64 n) ∧ w'.cell? ⟨w.heap.size, 2, none⟩ = some (.string s) ∧ w'.cell? ⟨w.heap.size + 1, 0, none⟩ = some (.int .i64 2) ∧ w'.cell? ⟨w.heap.size + 1, 1, none⟩ = some (.int .i64 n') ∧ w'.cell? ⟨w.heap.size + 1, 2, none⟩ = some (.string s'))
    (first | with_reducible exact V3.six (V3.drew A1.out) (V3.drew A2.out) | with_reducible exact V3.six (V3.nx A1.out Z1.out hb1) (V3.nx A2.out Z2.out hb1) | with_reducible exact V3.six ((V3.nx A1.out Z1.out hb1).below hb2 (V3.zz Z1 hb1)) ((V3.nx A2.out Z2.out hb1).below hb2 (V3.zz Z2 hb1)))
    (first | (go_at_call 15; with_reducible refine (null_any w3.drew).mono ?_; rintro e w4 ⟨rfl, hb1⟩) | (go_at_call 15; refine (null_any _).mono ?_; rintro e w5 ⟨rfl, hb2⟩))
  have hb3 : Below w3.heap.size w3 w5 := ((Below.refl _ w3).drew.trans (hb1.mono (by simp))).trans (hb2.mono (by have := hb1.size; simpa using this))
  have T3 := Lib.hid (T2.out.below hb3)
  obtain ⟨A1, A2, Z1, Z2, B0⟩ := V3.on A1 A2 Z1 Z2 B0 hb3
  clear hb1 hb2 hb3 T2 c0 c1 c2 d0 d1 d2
  have c0 := A1.out.1
  have c1 := A1.out.2.1
  have c2 := A1.out.2.2
  have d0 := A2.out.1
  have d1 := A2.out.2.1
  have d2 := A2.out.2.2
  have X := Lib.hid T3.out.1
  have tk : Hid (∀ w', Below w5.heap.size w5 w' → w'.cell? ⟨gt, 2, none⟩ = some (.func (.func 71) #[] #[.pointer (some ⟨b 2, 0, none⟩)])) := fun w' hb => (T3.out.below hb).1.cell 2
  have tc := tk.out w5 (Below.refl _ _)
  go_upto_region 10 with (fail)
  go_region_held3 (fun w' => w'.cell? ⟨w.heap.size, 0, none⟩ = some (.int .i64 2) ∧ w'.cell? ⟨w.heap.size, 1, none⟩ = some (.int .i64 n) ∧ w'.cell? ⟨w.heap.size, 2, none⟩ = some (.string s) ∧ w'.cell? ⟨w.heap.size + 1, 0, none⟩ = some (.int .i64 2) ∧ w'.cell? ⟨w.heap.size + 1, 1, none⟩ = some (.int .i64 n') ∧ w'.cell? ⟨w.heap.size + 1, 2, none⟩ = some (.string s') ∧ w'.cell? ⟨gt, 2, none⟩ = some (.func (.func 71) #[] #[.pointer (some ⟨b 2, 0, none⟩)]))
    (first | with_reducible exact V3.sev (V3.drew A1.out) (V3.drew A2.out) (tk.out _ (Below.refl _ _).drew) | with_reducible exact V3.sev (V3.nx A1.out Z1.out hb1) (V3.nx A2.out Z2.out hb1) (tk.out _ (V3.dd hb1)))
    (first | (go_at_call 19; refine (compare_any _ _ _ _ _ _ _).mono ?_; rintro e w6 ⟨rfl, hb1⟩) | (go_at_call 71; refine (isNotc_any _ _ _ _ (T3.out.below (V3.dd hb1)).2.2.1).mono ?_; rintro e w7 ⟨rfl, rfl⟩) | (go_at_call 45; refine (truthOf_any _ _).mono ?_; rintro e w8 ⟨rfl, rfl⟩))
  have B1 := Lib.hid (B0.out.trans ((V3.dd hb1).mono B0.out.size))
  clear hb1 c0 c1 c2 d0 d1 d2 tc tk X
  go_wp2
  exact bodyPost_ret (v := .tuple #[.int .i64 (b2i (cmpV 2 n s 2 n' s' != 0)), .int .i64 0]) (by simp [results, Try.results21, go_sem]) rfl ⟨rfl, B1.out⟩

set_option maxRecDepth 100000 in
set_option maxHeartbeats 2000000 in
theorem test_op3 (k n : Int) (s : ByteArray) (n' : Int) (s' : ByteArray) (w : World) (hz : askd 3 7 k n s k n' s' = 0) (hd : Eqv k n s 1 0 E0 = false) (hd' : Eqv k n' s' 1 0 E0 = false) (hk : (k == 2) = false) : Calls Try.prog 21 #[.int .i64 3, .agg #[.int .i64 k, .int .i64 n, .string s], .agg #[.int .i64 k, .int .i64 n', .string s']] w (Told w (b2i (cmpV k n s k n' s' == (-1))) 0) := by
  obtain ⟨A1, A2, Z1, Z2, B0⟩ := V3.two (w := w) (k := k) (n := n) (s := s) (k' := k) (n' := n') (s' := s') rfl
  have HC := Lib.hid (fun w => asked_any 3 7 k n s k n' s' w)
  rw [hz] at HC
  clear hz
  unfold Told
  go_enter Try.func21, Try.ntmps21
  go_upto_region 1 with (fail)
  generalize (w.alloc (.cells #[.int .i64 k, .int .i64 n, .string s] 23)).alloc (.cells #[.int .i64 k, .int .i64 n', .string s'] 23) = W0 at *
  go_wp2_with fail
  refine (testers_any _).mono ?_
  rintro e w1 ⟨⟨cs, rfl, b, rfl, h1, h2, h3, h4, h5, h6⟩, hb⟩
  have T1 : Hid (TB (w1.alloc (.cells #[.nilFunc, isF (b 1), isNotF (b 2), isF (b 3), isNotF (b 4), isF (b 5), isNotF (b 6)] 64)) w1.heap.size b) := ⟨Blk.new _ _ _, h1.alloc _, h2.alloc _, h3.alloc _, h4.alloc _, h5.alloc _, h6.alloc _⟩
  obtain ⟨A1, A2, Z1, Z2, B0⟩ := V3.on A1 A2 Z1 Z2 B0 (hb.alloc hb.size (.cells #[.nilFunc, isF (b 1), isNotF (b 2), isF (b 3), isNotF (b 4), isF (b 5), isNotF (b 6)] 64))
  clear hb h1 h2 h3 h4 h5 h6
  unfold isF isNotF at *
  go_upto_region 2 with (fail)
  generalize w1.alloc (.cells #[.nilFunc, .func (.func 69) #[] #[.pointer (some ⟨b 1, 0, none⟩)], .func (.func 71) #[] #[.pointer (some ⟨b 2, 0, none⟩)], .func (.func 69) #[] #[.pointer (some ⟨b 3, 0, none⟩)], .func (.func 71) #[] #[.pointer (some ⟨b 4, 0, none⟩)], .func (.func 69) #[] #[.pointer (some ⟨b 5, 0, none⟩)], .func (.func 71) #[] #[.pointer (some ⟨b 6, 0, none⟩)]] 64) = W1 at *
  generalize w1.heap.size = gt at *
  have c0 := A1.out.1
  have c1 := A1.out.2.1
  have c2 := A1.out.2.2
  have d0 := A2.out.1
  have d1 := A2.out.2.1
  have d2 := A2.out.2.2
  go_wp2_with fail
  refine (HC.out _).mono ?_
  rintro e w3 ⟨rfl, hb⟩
  have T2 := Lib.hid (T1.out.below hb)
  obtain ⟨A1, A2, Z1, Z2, B0⟩ := V3.on A1 A2 Z1 Z2 B0 hb
  clear hb c0 c1 c2 d0 d1 d2 T1 HC
  go_upto_region 5 with (fail)
  have c0 := A1.out.1
  have c1 := A1.out.2.1
  have c2 := A1.out.2.2
  have d0 := A2.out.1
  have d1 := A2.out.2.1
  have d2 := A2.out.2.2
  go_region_held3 (fun w' => w'.cell? ⟨w.heap.size, 0, none⟩ = some (.int .i64 k) ∧ w'.cell? ⟨w.heap.size, 1, none⟩ = some (.int .i64 n) ∧ w'.cell? ⟨w.heap.size, 2, none⟩ = some (.string s) ∧ w'.cell? ⟨w.heap.size + 1, 0, none⟩ = some (.int .i64 k) ∧ w'.cell? ⟨w.heap.size + 1, 1, none⟩ = some (.int .i64 n') ∧ w'.cell? ⟨w.heap.size + 1, 2, none⟩ = some (.string s'))
    (first | with_reducible exact V3.six (V3.drew A1.out) (V3.drew A2.out) | with_reducible exact V3.six (V3.nx A1.out Z1.out hb1) (V3.nx A2.out Z2.out hb1) | with_reducible exact V3.six ((V3.nx A1.out Z1.out hb1).below hb2 (V3.zz Z1 hb1)) ((V3.nx A2.out Z2.out hb1).below hb2 (V3.zz Z2 hb1)))
    (first | (go_at_call 15; with_reducible refine (null_any w3.drew).mono ?_; rintro e w4 ⟨rfl, hb1⟩) | (go_at_call 15; refine (null_any _).mono ?_; rintro e w5 ⟨rfl, hb2⟩))
  have hb3 : Below w3.heap.size w3 w5 := ((Below.refl _ w3).drew.trans (hb1.mono (by simp))).trans (hb2.mono (by have := hb1.size; simpa using this))
  have T3 := Lib.hid (T2.out.below hb3)
  obtain ⟨A1, A2, Z1, Z2, B0⟩ := V3.on A1 A2 Z1 Z2 B0 hb3
  clear hb1 hb2 hb3 T2 c0 c1 c2 d0 d1 d2
  have c0 := A1.out.1
  have c1 := A1.out.2.1
  have c2 := A1.out.2.2
  have d0 := A2.out.1
  have d1 := A2.out.2.1
  have d2 := A2.out.2.2
  have X := Lib.hid T3.out.1
  have tk : Hid (∀ w', Below w5.heap.size w5 w' → w'.cell? ⟨gt, 3, none⟩ = some (.func (.func 69) #[] #[.pointer (some ⟨b 3, 0, none⟩)])) := fun w' hb => (T3.out.below hb).1.cell 3
  have tc := tk.out w5 (Below.refl _ _)
  go_upto_region 10 with (fail)
  go_region_held3 (fun w' => w'.cell? ⟨w.heap.size, 0, none⟩ = some (.int .i64 k) ∧ w'.cell? ⟨w.heap.size, 1, none⟩ = some (.int .i64 n) ∧ w'.cell? ⟨w.heap.size, 2, none⟩ = some (.string s) ∧ w'.cell? ⟨w.heap.size + 1, 0, none⟩ = some (.int .i64 k) ∧ w'.cell? ⟨w.heap.size + 1, 1, none⟩ = some (.int .i64 n') ∧ w'.cell? ⟨w.heap.size + 1, 2, none⟩ = some (.string s') ∧ w'.cell? ⟨gt, 3, none⟩ = some (.func (.func 69) #[] #[.pointer (some ⟨b 3, 0, none⟩)]))
    (first | with_reducible exact V3.sev (V3.drew A1.out) (V3.drew A2.out) (tk.out _ (Below.refl _ _).drew) | with_reducible exact V3.sev (V3.nx A1.out Z1.out hb1) (V3.nx A2.out Z2.out hb1) (tk.out _ (V3.dd hb1)))
    (first | (go_at_call 19; refine (compare_any _ _ _ _ _ _ _).mono ?_; rintro e w6 ⟨rfl, hb1⟩) | (go_at_call 69; refine (isc_any _ _ _ _ (T3.out.below (V3.dd hb1)).2.2.2.1).mono ?_; rintro e w7 ⟨rfl, rfl⟩) | (go_at_call 45; refine (truthOf_any _ _).mono ?_; rintro e w8 ⟨rfl, rfl⟩))
  have B1 := Lib.hid (B0.out.trans ((V3.dd hb1).mono B0.out.size))
  clear hb1 c0 c1 c2 d0 d1 d2 tc tk X
  go_wp2
  exact bodyPost_ret (v := .tuple #[.int .i64 (b2i (cmpV k n s k n' s' == (-1))), .int .i64 0]) (by simp [results, Try.results21, go_sem]) rfl ⟨rfl, B1.out⟩

set_option maxRecDepth 100000 in
set_option maxHeartbeats 2000000 in
theorem test_op4 (k n : Int) (s : ByteArray) (n' : Int) (s' : ByteArray) (w : World) (hz : askd 4 7 k n s k n' s' = 0) (hd : Eqv k n s 1 0 E0 = false) (hd' : Eqv k n' s' 1 0 E0 = false) (hk : (k == 2) = false) : Calls Try.prog 21 #[.int .i64 4, .agg #[.int .i64 k, .int .i64 n, .string s], .agg #[.int .i64 k, .int .i64 n', .string s']] w (Told w (b2i (cmpV k n s k n' s' != 1)) 0) := by
  obtain ⟨A1, A2, Z1, Z2, B0⟩ := V3.two (w := w) (k := k) (n := n) (s := s) (k' := k) (n' := n') (s' := s') rfl
  have HC := Lib.hid (fun w => asked_any 4 7 k n s k n' s' w)
  rw [hz] at HC
  clear hz
  unfold Told
  go_enter Try.func21, Try.ntmps21
  go_upto_region 1 with (fail)
  generalize (w.alloc (.cells #[.int .i64 k, .int .i64 n, .string s] 23)).alloc (.cells #[.int .i64 k, .int .i64 n', .string s'] 23) = W0 at *
  go_wp2_with fail
  refine (testers_any _).mono ?_
  rintro e w1 ⟨⟨cs, rfl, b, rfl, h1, h2, h3, h4, h5, h6⟩, hb⟩
  have T1 : Hid (TB (w1.alloc (.cells #[.nilFunc, isF (b 1), isNotF (b 2), isF (b 3), isNotF (b 4), isF (b 5), isNotF (b 6)] 64)) w1.heap.size b) := ⟨Blk.new _ _ _, h1.alloc _, h2.alloc _, h3.alloc _, h4.alloc _, h5.alloc _, h6.alloc _⟩
  obtain ⟨A1, A2, Z1, Z2, B0⟩ := V3.on A1 A2 Z1 Z2 B0 (hb.alloc hb.size (.cells #[.nilFunc, isF (b 1), isNotF (b 2), isF (b 3), isNotF (b 4), isF (b 5), isNotF (b 6)] 64))
  clear hb h1 h2 h3 h4 h5 h6
  unfold isF isNotF at *
  go_upto_region 2 with (fail)
  generalize w1.alloc (.cells #[.nilFunc, .func (.func 69) #[] #[.pointer (some ⟨b 1, 0, none⟩)], .func (.func 71) #[] #[.pointer (some ⟨b 2, 0, none⟩)], .func (.func 69) #[] #[.pointer (some ⟨b 3, 0, none⟩)], .func (.func 71) #[] #[.pointer (some ⟨b 4, 0, none⟩)], .func (.func 69) #[] #[.pointer (some ⟨b 5, 0, none⟩)], .func (.func 71) #[] #[.pointer (some ⟨b 6, 0, none⟩)]] 64) = W1 at *
  generalize w1.heap.size = gt at *
  have c0 := A1.out.1
  have c1 := A1.out.2.1
  have c2 := A1.out.2.2
  have d0 := A2.out.1
  have d1 := A2.out.2.1
  have d2 := A2.out.2.2
  go_wp2_with fail
  refine (HC.out _).mono ?_
  rintro e w3 ⟨rfl, hb⟩
  have T2 := Lib.hid (T1.out.below hb)
  obtain ⟨A1, A2, Z1, Z2, B0⟩ := V3.on A1 A2 Z1 Z2 B0 hb
  clear hb c0 c1 c2 d0 d1 d2 T1 HC
  go_upto_region 5 with (fail)
  have c0 := A1.out.1
  have c1 := A1.out.2.1
  have c2 := A1.out.2.2
  have d0 := A2.out.1
  have d1 := A2.out.2.1
  have d2 := A2.out.2.2
  go_region_held3 (fun w' => w'.cell? ⟨w.heap.size, 0, none⟩ = some (.int .i64 k) ∧ w'.cell? ⟨w.heap.size, 1, none⟩ = some (.int .i64 n) ∧ w'.cell? ⟨w.heap.size, 2, none⟩ = some (.string s) ∧ w'.cell? ⟨w.heap.size + 1, 0, none⟩ = some (.int .i64 k) ∧ w'.cell? ⟨w.heap.size + 1, 1, none⟩ = some (.int .i64 n') ∧ w'.cell? ⟨w.heap.size + 1, 2, none⟩ = some (.string s'))
    (first | with_reducible exact V3.six (V3.drew A1.out) (V3.drew A2.out) | with_reducible exact V3.six (V3.nx A1.out Z1.out hb1) (V3.nx A2.out Z2.out hb1) | with_reducible exact V3.six ((V3.nx A1.out Z1.out hb1).below hb2 (V3.zz Z1 hb1)) ((V3.nx A2.out Z2.out hb1).below hb2 (V3.zz Z2 hb1)))
    (first | (go_at_call 15; with_reducible refine (null_any w3.drew).mono ?_; rintro e w4 ⟨rfl, hb1⟩) | (go_at_call 15; refine (null_any _).mono ?_; rintro e w5 ⟨rfl, hb2⟩))
  have hb3 : Below w3.heap.size w3 w5 := ((Below.refl _ w3).drew.trans (hb1.mono (by simp))).trans (hb2.mono (by have := hb1.size; simpa using this))
  have T3 := Lib.hid (T2.out.below hb3)
  obtain ⟨A1, A2, Z1, Z2, B0⟩ := V3.on A1 A2 Z1 Z2 B0 hb3
  clear hb1 hb2 hb3 T2 c0 c1 c2 d0 d1 d2
  have c0 := A1.out.1
  have c1 := A1.out.2.1
  have c2 := A1.out.2.2
  have d0 := A2.out.1
  have d1 := A2.out.2.1
  have d2 := A2.out.2.2
  have X := Lib.hid T3.out.1
  have tk : Hid (∀ w', Below w5.heap.size w5 w' → w'.cell? ⟨gt, 4, none⟩ = some (.func (.func 71) #[] #[.pointer (some ⟨b 4, 0, none⟩)])) := fun w' hb => (T3.out.below hb).1.cell 4
  have tc := tk.out w5 (Below.refl _ _)
  go_upto_region 10 with (fail)
  go_region_held3 (fun w' => w'.cell? ⟨w.heap.size, 0, none⟩ = some (.int .i64 k) ∧ w'.cell? ⟨w.heap.size, 1, none⟩ = some (.int .i64 n) ∧ w'.cell? ⟨w.heap.size, 2, none⟩ = some (.string s) ∧ w'.cell? ⟨w.heap.size + 1, 0, none⟩ = some (.int .i64 k) ∧ w'.cell? ⟨w.heap.size + 1, 1, none⟩ = some (.int .i64 n') ∧ w'.cell? ⟨w.heap.size + 1, 2, none⟩ = some (.string s') ∧ w'.cell? ⟨gt, 4, none⟩ = some (.func (.func 71) #[] #[.pointer (some ⟨b 4, 0, none⟩)]))
    (first | with_reducible exact V3.sev (V3.drew A1.out) (V3.drew A2.out) (tk.out _ (Below.refl _ _).drew) | with_reducible exact V3.sev (V3.nx A1.out Z1.out hb1) (V3.nx A2.out Z2.out hb1) (tk.out _ (V3.dd hb1)))
    (first | (go_at_call 19; refine (compare_any _ _ _ _ _ _ _).mono ?_; rintro e w6 ⟨rfl, hb1⟩) | (go_at_call 71; refine (isNotc_any _ _ _ _ (T3.out.below (V3.dd hb1)).2.2.2.2.1).mono ?_; rintro e w7 ⟨rfl, rfl⟩) | (go_at_call 45; refine (truthOf_any _ _).mono ?_; rintro e w8 ⟨rfl, rfl⟩))
  have B1 := Lib.hid (B0.out.trans ((V3.dd hb1).mono B0.out.size))
  clear hb1 c0 c1 c2 d0 d1 d2 tc tk X
  go_wp2
  exact bodyPost_ret (v := .tuple #[.int .i64 (b2i (cmpV k n s k n' s' != 1)), .int .i64 0]) (by simp [results, Try.results21, go_sem]) rfl ⟨rfl, B1.out⟩

set_option maxRecDepth 100000 in
set_option maxHeartbeats 2000000 in
theorem test_op5 (k n : Int) (s : ByteArray) (n' : Int) (s' : ByteArray) (w : World) (hz : askd 5 7 k n s k n' s' = 0) (hd : Eqv k n s 1 0 E0 = false) (hd' : Eqv k n' s' 1 0 E0 = false) (hk : (k == 2) = false) : Calls Try.prog 21 #[.int .i64 5, .agg #[.int .i64 k, .int .i64 n, .string s], .agg #[.int .i64 k, .int .i64 n', .string s']] w (Told w (b2i (cmpV k n s k n' s' == 1)) 0) := by
  obtain ⟨A1, A2, Z1, Z2, B0⟩ := V3.two (w := w) (k := k) (n := n) (s := s) (k' := k) (n' := n') (s' := s') rfl
  have HC := Lib.hid (fun w => asked_any 5 7 k n s k n' s' w)
  rw [hz] at HC
  clear hz
  unfold Told
  go_enter Try.func21, Try.ntmps21
  go_upto_region 1 with (fail)
  generalize (w.alloc (.cells #[.int .i64 k, .int .i64 n, .string s] 23)).alloc (.cells #[.int .i64 k, .int .i64 n', .string s'] 23) = W0 at *
  go_wp2_with fail
  refine (testers_any _).mono ?_
  rintro e w1 ⟨⟨cs, rfl, b, rfl, h1, h2, h3, h4, h5, h6⟩, hb⟩
  have T1 : Hid (TB (w1.alloc (.cells #[.nilFunc, isF (b 1), isNotF (b 2), isF (b 3), isNotF (b 4), isF (b 5), isNotF (b 6)] 64)) w1.heap.size b) := ⟨Blk.new _ _ _, h1.alloc _, h2.alloc _, h3.alloc _, h4.alloc _, h5.alloc _, h6.alloc _⟩
  obtain ⟨A1, A2, Z1, Z2, B0⟩ := V3.on A1 A2 Z1 Z2 B0 (hb.alloc hb.size (.cells #[.nilFunc, isF (b 1), isNotF (b 2), isF (b 3), isNotF (b 4), isF (b 5), isNotF (b 6)] 64))
  clear hb h1 h2 h3 h4 h5 h6
  unfold isF isNotF at *
  go_upto_region 2 with (fail)
  generalize w1.alloc (.cells #[.nilFunc, .func (.func 69) #[] #[.pointer (some ⟨b 1, 0, none⟩)], .func (.func 71) #[] #[.pointer (some ⟨b 2, 0, none⟩)], .func (.func 69) #[] #[.pointer (some ⟨b 3, 0, none⟩)], .func (.func 71) #[] #[.pointer (some ⟨b 4, 0, none⟩)], .func (.func 69) #[] #[.pointer (some ⟨b 5, 0, none⟩)], .func (.func 71) #[] #[.pointer (some ⟨b 6, 0, none⟩)]] 64) = W1 at *
  generalize w1.heap.size = gt at *
  have c0 := A1.out.1
  have c1 := A1.out.2.1
  have c2 := A1.out.2.2
  have d0 := A2.out.1
  have d1 := A2.out.2.1
  have d2 := A2.out.2.2
  go_wp2_with fail
  refine (HC.out _).mono ?_
  rintro e w3 ⟨rfl, hb⟩
  have T2 := Lib.hid (T1.out.below hb)
  obtain ⟨A1, A2, Z1, Z2, B0⟩ := V3.on A1 A2 Z1 Z2 B0 hb
  clear hb c0 c1 c2 d0 d1 d2 T1 HC
  go_upto_region 5 with (fail)
  have c0 := A1.out.1
  have c1 := A1.out.2.1
  have c2 := A1.out.2.2
  have d0 := A2.out.1
  have d1 := A2.out.2.1
  have d2 := A2.out.2.2
  go_region_held3 (fun w' => w'.cell? ⟨w.heap.size, 0, none⟩ = some (.int .i64 k) ∧ w'.cell? ⟨w.heap.size, 1, none⟩ = some (.int .i64 n) ∧ w'.cell? ⟨w.heap.size, 2, none⟩ = some (.string s) ∧ w'.cell? ⟨w.heap.size + 1, 0, none⟩ = some (.int .i64 k) ∧ w'.cell? ⟨w.heap.size + 1, 1, none⟩ = some (.int .i64 n') ∧ w'.cell? ⟨w.heap.size + 1, 2, none⟩ = some (.string s'))
    (first | with_reducible exact V3.six (V3.drew A1.out) (V3.drew A2.out) | with_reducible exact V3.six (V3.nx A1.out Z1.out hb1) (V3.nx A2.out Z2.out hb1) | with_reducible exact V3.six ((V3.nx A1.out Z1.out hb1).below hb2 (V3.zz Z1 hb1)) ((V3.nx A2.out Z2.out hb1).below hb2 (V3.zz Z2 hb1)))
    (first | (go_at_call 15; with_reducible refine (null_any w3.drew).mono ?_; rintro e w4 ⟨rfl, hb1⟩) | (go_at_call 15; refine (null_any _).mono ?_; rintro e w5 ⟨rfl, hb2⟩))
  have hb3 : Below w3.heap.size w3 w5 := ((Below.refl _ w3).drew.trans (hb1.mono (by simp))).trans (hb2.mono (by have := hb1.size; simpa using this))
  have T3 := Lib.hid (T2.out.below hb3)
  obtain ⟨A1, A2, Z1, Z2, B0⟩ := V3.on A1 A2 Z1 Z2 B0 hb3
  clear hb1 hb2 hb3 T2 c0 c1 c2 d0 d1 d2
  have c0 := A1.out.1
  have c1 := A1.out.2.1
  have c2 := A1.out.2.2
  have d0 := A2.out.1
  have d1 := A2.out.2.1
  have d2 := A2.out.2.2
  have X := Lib.hid T3.out.1
  have tk : Hid (∀ w', Below w5.heap.size w5 w' → w'.cell? ⟨gt, 5, none⟩ = some (.func (.func 69) #[] #[.pointer (some ⟨b 5, 0, none⟩)])) := fun w' hb => (T3.out.below hb).1.cell 5
  have tc := tk.out w5 (Below.refl _ _)
  go_upto_region 10 with (fail)
  go_region_held3 (fun w' => w'.cell? ⟨w.heap.size, 0, none⟩ = some (.int .i64 k) ∧ w'.cell? ⟨w.heap.size, 1, none⟩ = some (.int .i64 n) ∧ w'.cell? ⟨w.heap.size, 2, none⟩ = some (.string s) ∧ w'.cell? ⟨w.heap.size + 1, 0, none⟩ = some (.int .i64 k) ∧ w'.cell? ⟨w.heap.size + 1, 1, none⟩ = some (.int .i64 n') ∧ w'.cell? ⟨w.heap.size + 1, 2, none⟩ = some (.string s') ∧ w'.cell? ⟨gt, 5, none⟩ = some (.func (.func 69) #[] #[.pointer (some ⟨b 5, 0, none⟩)]))
    (first | with_reducible exact V3.sev (V3.drew A1.out) (V3.drew A2.out) (tk.out _ (Below.refl _ _).drew) | with_reducible exact V3.sev (V3.nx A1.out Z1.out hb1) (V3.nx A2.out Z2.out hb1) (tk.out _ (V3.dd hb1)))
    (first | (go_at_call 19; refine (compare_any _ _ _ _ _ _ _).mono ?_; rintro e w6 ⟨rfl, hb1⟩) | (go_at_call 69; refine (isc_any _ _ _ _ (T3.out.below (V3.dd hb1)).2.2.2.2.2.1).mono ?_; rintro e w7 ⟨rfl, rfl⟩) | (go_at_call 45; refine (truthOf_any _ _).mono ?_; rintro e w8 ⟨rfl, rfl⟩))
  have B1 := Lib.hid (B0.out.trans ((V3.dd hb1).mono B0.out.size))
  clear hb1 c0 c1 c2 d0 d1 d2 tc tk X
  go_wp2
  exact bodyPost_ret (v := .tuple #[.int .i64 (b2i (cmpV k n s k n' s' == 1)), .int .i64 0]) (by simp [results, Try.results21, go_sem]) rfl ⟨rfl, B1.out⟩

set_option maxRecDepth 100000 in
set_option maxHeartbeats 2000000 in
theorem test_op6 (k n : Int) (s : ByteArray) (n' : Int) (s' : ByteArray) (w : World) (hz : askd 6 7 k n s k n' s' = 0) (hd : Eqv k n s 1 0 E0 = false) (hd' : Eqv k n' s' 1 0 E0 = false) (hk : (k == 2) = false) : Calls Try.prog 21 #[.int .i64 6, .agg #[.int .i64 k, .int .i64 n, .string s], .agg #[.int .i64 k, .int .i64 n', .string s']] w (Told w (b2i (cmpV k n s k n' s' != (-1))) 0) := by
  obtain ⟨A1, A2, Z1, Z2, B0⟩ := V3.two (w := w) (k := k) (n := n) (s := s) (k' := k) (n' := n') (s' := s') rfl
  have HC := Lib.hid (fun w => asked_any 6 7 k n s k n' s' w)
  rw [hz] at HC
  clear hz
  unfold Told
  go_enter Try.func21, Try.ntmps21
  go_upto_region 1 with (fail)
  generalize (w.alloc (.cells #[.int .i64 k, .int .i64 n, .string s] 23)).alloc (.cells #[.int .i64 k, .int .i64 n', .string s'] 23) = W0 at *
  go_wp2_with fail
  refine (testers_any _).mono ?_
  rintro e w1 ⟨⟨cs, rfl, b, rfl, h1, h2, h3, h4, h5, h6⟩, hb⟩
  have T1 : Hid (TB (w1.alloc (.cells #[.nilFunc, isF (b 1), isNotF (b 2), isF (b 3), isNotF (b 4), isF (b 5), isNotF (b 6)] 64)) w1.heap.size b) := ⟨Blk.new _ _ _, h1.alloc _, h2.alloc _, h3.alloc _, h4.alloc _, h5.alloc _, h6.alloc _⟩
  obtain ⟨A1, A2, Z1, Z2, B0⟩ := V3.on A1 A2 Z1 Z2 B0 (hb.alloc hb.size (.cells #[.nilFunc, isF (b 1), isNotF (b 2), isF (b 3), isNotF (b 4), isF (b 5), isNotF (b 6)] 64))
  clear hb h1 h2 h3 h4 h5 h6
  unfold isF isNotF at *
  go_upto_region 2 with (fail)
  generalize w1.alloc (.cells #[.nilFunc, .func (.func 69) #[] #[.pointer (some ⟨b 1, 0, none⟩)], .func (.func 71) #[] #[.pointer (some ⟨b 2, 0, none⟩)], .func (.func 69) #[] #[.pointer (some ⟨b 3, 0, none⟩)], .func (.func 71) #[] #[.pointer (some ⟨b 4, 0, none⟩)], .func (.func 69) #[] #[.pointer (some ⟨b 5, 0, none⟩)], .func (.func 71) #[] #[.pointer (some ⟨b 6, 0, none⟩)]] 64) = W1 at *
  generalize w1.heap.size = gt at *
  have c0 := A1.out.1
  have c1 := A1.out.2.1
  have c2 := A1.out.2.2
  have d0 := A2.out.1
  have d1 := A2.out.2.1
  have d2 := A2.out.2.2
  go_wp2_with fail
  refine (HC.out _).mono ?_
  rintro e w3 ⟨rfl, hb⟩
  have T2 := Lib.hid (T1.out.below hb)
  obtain ⟨A1, A2, Z1, Z2, B0⟩ := V3.on A1 A2 Z1 Z2 B0 hb
  clear hb c0 c1 c2 d0 d1 d2 T1 HC
  go_upto_region 5 with (fail)
  have c0 := A1.out.1
  have c1 := A1.out.2.1
  have c2 := A1.out.2.2
  have d0 := A2.out.1
  have d1 := A2.out.2.1
  have d2 := A2.out.2.2
  go_region_held3 (fun w' => w'.cell? ⟨w.heap.size, 0, none⟩ = some (.int .i64 k) ∧ w'.cell? ⟨w.heap.size, 1, none⟩ = some (.int .i64 n) ∧ w'.cell? ⟨w.heap.size, 2, none⟩ = some (.string s) ∧ w'.cell? ⟨w.heap.size + 1, 0, none⟩ = some (.int .i64 k) ∧ w'.cell? ⟨w.heap.size + 1, 1, none⟩ = some (.int .i64 n') ∧ w'.cell? ⟨w.heap.size + 1, 2, none⟩ = some (.string s'))
    (first | with_reducible exact V3.six (V3.drew A1.out) (V3.drew A2.out) | with_reducible exact V3.six (V3.nx A1.out Z1.out hb1) (V3.nx A2.out Z2.out hb1) | with_reducible exact V3.six ((V3.nx A1.out Z1.out hb1).below hb2 (V3.zz Z1 hb1)) ((V3.nx A2.out Z2.out hb1).below hb2 (V3.zz Z2 hb1)))
    (first | (go_at_call 15; with_reducible refine (null_any w3.drew).mono ?_; rintro e w4 ⟨rfl, hb1⟩) | (go_at_call 15; refine (null_any _).mono ?_; rintro e w5 ⟨rfl, hb2⟩))
  have hb3 : Below w3.heap.size w3 w5 := ((Below.refl _ w3).drew.trans (hb1.mono (by simp))).trans (hb2.mono (by have := hb1.size; simpa using this))
  have T3 := Lib.hid (T2.out.below hb3)
  obtain ⟨A1, A2, Z1, Z2, B0⟩ := V3.on A1 A2 Z1 Z2 B0 hb3
  clear hb1 hb2 hb3 T2 c0 c1 c2 d0 d1 d2
  have c0 := A1.out.1
  have c1 := A1.out.2.1
  have c2 := A1.out.2.2
  have d0 := A2.out.1
  have d1 := A2.out.2.1
  have d2 := A2.out.2.2
  have X := Lib.hid T3.out.1
  have tk : Hid (∀ w', Below w5.heap.size w5 w' → w'.cell? ⟨gt, 6, none⟩ = some (.func (.func 71) #[] #[.pointer (some ⟨b 6, 0, none⟩)])) := fun w' hb => (T3.out.below hb).1.cell 6
  have tc := tk.out w5 (Below.refl _ _)
  go_upto_region 10 with (fail)
  go_region_held3 (fun w' => w'.cell? ⟨w.heap.size, 0, none⟩ = some (.int .i64 k) ∧ w'.cell? ⟨w.heap.size, 1, none⟩ = some (.int .i64 n) ∧ w'.cell? ⟨w.heap.size, 2, none⟩ = some (.string s) ∧ w'.cell? ⟨w.heap.size + 1, 0, none⟩ = some (.int .i64 k) ∧ w'.cell? ⟨w.heap.size + 1, 1, none⟩ = some (.int .i64 n') ∧ w'.cell? ⟨w.heap.size + 1, 2, none⟩ = some (.string s') ∧ w'.cell? ⟨gt, 6, none⟩ = some (.func (.func 71) #[] #[.pointer (some ⟨b 6, 0, none⟩)]))
    (first | with_reducible exact V3.sev (V3.drew A1.out) (V3.drew A2.out) (tk.out _ (Below.refl _ _).drew) | with_reducible exact V3.sev (V3.nx A1.out Z1.out hb1) (V3.nx A2.out Z2.out hb1) (tk.out _ (V3.dd hb1)))
    (first | (go_at_call 19; refine (compare_any _ _ _ _ _ _ _).mono ?_; rintro e w6 ⟨rfl, hb1⟩) | (go_at_call 71; refine (isNotc_any _ _ _ _ (T3.out.below (V3.dd hb1)).2.2.2.2.2.2).mono ?_; rintro e w7 ⟨rfl, rfl⟩) | (go_at_call 45; refine (truthOf_any _ _).mono ?_; rintro e w8 ⟨rfl, rfl⟩))
  have B1 := Lib.hid (B0.out.trans ((V3.dd hb1).mono B0.out.size))
  clear hb1 c0 c1 c2 d0 d1 d2 tc tk X
  go_wp2
  exact bodyPost_ret (v := .tuple #[.int .i64 (b2i (cmpV k n s k n' s' != (-1))), .int .i64 0]) (by simp [results, Try.results21, go_sem]) rfl ⟨rfl, B1.out⟩


end Go.Proofs.Ytndkoefchlclkaa
