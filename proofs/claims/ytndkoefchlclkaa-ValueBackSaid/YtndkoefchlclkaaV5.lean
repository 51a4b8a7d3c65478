/-
  What goes ahead of an op; the program's Test.
-/
import Derived.Test.YtndkoefchlclkaaV4
namespace Go.Proofs.Ytndkoefchlclkaa
open Go.RowKit
attribute [local go_sem ↓] eqV neV eqG

/-- The error that goes ahead of what an op says. -/
def askd (op en : Int) (k n : Int) (s : ByteArray) (k' n' : Int) (s' : ByteArray) : Int := if op < 1 ∨ en ≤ op then 2 else if Rt k n s = true then chk k' n' s' else 150

theorem V3.two {w : World} {k n : Int} {s : ByteArray} {k' n' : Int} {s' : ByteArray} {W : World} (hW : W = (w.alloc (.cells #[.int .i64 k, .int .i64 n, .string s] 23)).alloc (.cells #[.int .i64 k', .int .i64 n', .string s'] 23)) :
    Hid (V3 W w.heap.size k n s) ∧ Hid (V3 W (w.heap.size + 1) k' n' s') ∧ Hid (w.heap.size < W.heap.size) ∧ Hid (w.heap.size + 1 < W.heap.size) ∧ Hid (Below w.heap.size w W) := by
  subst hW
  exact ⟨(V3.box rfl).below ((Below.refl _ _).alloc (Nat.le_refl _) _) (by simp), V3.box (by simp), show _ < _ by simp; omega, show _ < _ by simp, two_boxes k n s k' n' s' w⟩

/-- Two values and what lies below, handed on to a later world. -/
theorem V3.on {w0 w w' : World} {g g' : Nat} {k n : Int} {s : ByteArray} {k' n' : Int} {s' : ByteArray} (h1 : Hid (V3 w g k n s)) (h2 : Hid (V3 w g' k' n' s')) (z1 : Hid (g < w.heap.size)) (z2 : Hid (g' < w.heap.size)) (hB : Hid (Below w0.heap.size w0 w)) (hb : Below w.heap.size w w') :
    Hid (V3 w' g k n s) ∧ Hid (V3 w' g' k' n' s') ∧ Hid (g < w'.heap.size) ∧ Hid (g' < w'.heap.size) ∧ Hid (Below w0.heap.size w0 w') :=
  ⟨h1.out.below hb z1.out, h2.out.below hb z2.out, Nat.lt_of_lt_of_le z1.out hb.size, Nat.lt_of_lt_of_le z2.out hb.size, hB.out.trans (hb.mono hB.out.size)⟩

set_option maxHeartbeats 1000000 in
theorem asked_any (op en : Int) (k n : Int) (s : ByteArray) (k' n' : Int) (s' : ByteArray) (w : World) : Calls Try.prog 44 #[.int .i64 op, .int .i64 en, .agg #[.int .i64 k, .int .i64 n, .string s], .agg #[.int .i64 k', .int .i64 n', .string s']] w fun e w' => e = .returned (.int .i64 (askd op en k n s k' n' s')) ∧ Below w.heap.size w w' := by
  obtain ⟨A1, A2, Z1, Z2, B0⟩ := V3.two (w := w) (k := k) (n := n) (s := s) (k' := k') (n' := n') (s' := s') rfl
  by_cases h1 : op < 1
  · rw [show askd op en k n s k' n' s' = 2 from if_pos (.inl h1)]
    go_enter Try.func44, Try.ntmps44
    go_wp2
    go_ret
    exact ⟨rfl, B0.out⟩
  · by_cases h2 : en ≤ op
    · rw [show askd op en k n s k' n' s' = 2 from if_pos (.inr h2)]
      go_enter Try.func44, Try.ntmps44
      go_wp2
      go_ret
      exact ⟨rfl, B0.out⟩
    · have h3 : askd op en k n s k' n' s' = if Rt k n s = true then chk k' n' s' else 150 := if_neg (by omega)
      have HC := Lib.hid (fun w => check_any k n s w)
      cases hR : Rt k n s with
      | true =>
        rw [h3, if_pos hR]
        rw [show chk k n s = 0 from if_pos hR] at HC
        clear hR h3
        go_enter Try.func44, Try.ntmps44
        go_upto_region 1 with (fail)
        generalize (w.alloc (.cells #[.int .i64 k, .int .i64 n, .string s] 23)).alloc (.cells #[.int .i64 k', .int .i64 n', .string s'] 23) = W0 at *
        have c0 := A1.out.1
        have c1 := A1.out.2.1
        have c2 := A1.out.2.2
        go_wp2_with fail
        refine (HC.out _).mono ?_
        rintro e w1 ⟨rfl, hb⟩
        obtain ⟨A1, A2, Z1, Z2, B0⟩ := V3.on A1 A2 Z1 Z2 B0 hb
        have d0 := A2.out.1
        have d1 := A2.out.2.1
        have d2 := A2.out.2.2
        clear hb c0 c1 c2
        go_wp2_with fail
        refine (check_any _ _ _ _).mono ?_
        rintro e w2 ⟨rfl, hb⟩
        have B2 := Lib.hid (B0.out.trans (hb.mono B0.out.size))
        clear hb
        go_wp2
        go_ret
        exact ⟨rfl, B2.out⟩
      | false =>
        rw [h3, if_neg (by rw [hR]; decide)]
        rw [show chk k n s = 150 from if_neg (by rw [hR]; decide)] at HC
        clear hR h3
        go_enter Try.func44, Try.ntmps44
        go_upto_region 1 with (fail)
        generalize (w.alloc (.cells #[.int .i64 k, .int .i64 n, .string s] 23)).alloc (.cells #[.int .i64 k', .int .i64 n', .string s'] 23) = W0 at *
        have c0 := A1.out.1
        have c1 := A1.out.2.1
        have c2 := A1.out.2.2
        go_wp2_with fail
        refine (HC.out _).mono ?_
        rintro e w1 ⟨rfl, hb⟩
        have B2 := Lib.hid (B0.out.trans (hb.mono B0.out.size))
        clear hb
        go_wp2
        go_ret
        exact ⟨rfl, B2.out⟩

/-- What a call of a test answers. -/
def Told (w0 : World) (t er : Int) (e : Ending) (w : World) : Prop := e = .returned (.tuple #[.int .i64 t, .int .i64 er]) ∧ Below w0.heap.size w0 w

/-- The testers, in a block of their own. -/
def TB (w : World) (g : Nat) (b : Nat → Nat) : Prop := Blk w g 64 #[.nilFunc, isF (b 1), isNotF (b 2), isF (b 3), isNotF (b 4), isF (b 5), isNotF (b 6)] ∧
  Blk w (b 1) 3 #[.int .i64 0] ∧ Blk w (b 2) 3 #[.int .i64 0] ∧ Blk w (b 3) 3 #[.int .i64 (-1)] ∧ Blk w (b 4) 3 #[.int .i64 1] ∧ Blk w (b 5) 3 #[.int .i64 1] ∧ Blk w (b 6) 3 #[.int .i64 (-1)]
theorem TB.below {w w' : World} {g : Nat} {b : Nat → Nat} (h : TB w g b) (hb : Below w.heap.size w w') : TB w' g b := by
  obtain ⟨h0, h1, h2, h3, h4, h5, h6⟩ := h
  exact ⟨h0.below hb h0.lt, h1.below hb h1.lt, h2.below hb h2.lt, h3.below hb h3.lt, h4.below hb h4.lt, h5.below hb h5.lt, h6.below hb h6.lt⟩

/-- Six cells. -/
theorem V3.six {w' : World} {g g' : Nat} {k n : Int} {s : ByteArray} {k' n' : Int} {s' : ByteArray} (h1 : V3 w' g k n s) (h2 : V3 w' g' k' n' s') : w'.cell? ⟨g, 0, none⟩ = some (.int .i64 k) ∧ w'.cell? ⟨g, 1, none⟩ = some (.int .i64 n) ∧ w'.cell? ⟨g, 2, none⟩ = some (.string s) ∧ w'.cell? ⟨g', 0, none⟩ = some (.int .i64 k') ∧ w'.cell? ⟨g', 1, none⟩ = some (.int .i64 n') ∧ w'.cell? ⟨g', 2, none⟩ = some (.string s') :=
  ⟨h1.1, h1.2.1, h1.2.2, h2.1, h2.2.1, h2.2.2⟩
theorem V3.zz {g : Nat} {w w' : World} (hg : Hid (g < w.heap.size)) (hb : Below w.drew.heap.size w.drew w') : g < w'.heap.size := Nat.lt_of_lt_of_le hg.out (Nat.le_trans (by simp) hb.size)

set_option maxRecDepth 100000 in
set_option maxHeartbeats 2000000 in
theorem test_err (op : Int) (k n : Int) (s : ByteArray) (k' n' : Int) (s' : ByteArray) (w : World) (h : askd op 7 k n s k' n' s' ≠ 0) : Calls Try.prog 21 #[.int .i64 op, .agg #[.int .i64 k, .int .i64 n, .string s], .agg #[.int .i64 k', .int .i64 n', .string s']] w (Told w 0 (askd op 7 k n s k' n' s')) := by
  obtain ⟨A1, A2, Z1, Z2, B0⟩ := V3.two (w := w) (k := k) (n := n) (s := s) (k' := k') (n' := n') (s' := s') rfl
  have HC := Lib.hid (fun w => asked_any op 7 k n s k' n' s' w)
  have hne : (askd op 7 k n s k' n' s' != 0) = true := by simp [h]
  clear h
  unfold Told
  generalize askd op 7 k n s k' n' s' = er at *
  go_enter Try.func21, Try.ntmps21
  go_upto_region 1 with (fail)
  generalize (w.alloc (.cells #[.int .i64 k, .int .i64 n, .string s] 23)).alloc (.cells #[.int .i64 k', .int .i64 n', .string s'] 23) = W0 at *
  go_wp2_with fail
  refine (testers_any _).mono ?_
  rintro e w1 ⟨⟨cs, rfl, b, rfl, h1, h2, h3, h4, h5, h6⟩, hb⟩
  have T1 : Hid (TB (w1.alloc (.cells #[.nilFunc, isF (b 1), isNotF (b 2), isF (b 3), isNotF (b 4), isF (b 5), isNotF (b 6)] 64)) w1.heap.size b) := ⟨Blk.new _ _ _, h1.alloc _, h2.alloc _, h3.alloc _, h4.alloc _, h5.alloc _, h6.alloc _⟩
  obtain ⟨A1, A2, Z1, Z2, B0⟩ := V3.on A1 A2 Z1 Z2 B0 (hb.alloc hb.size (.cells #[.nilFunc, isF (b 1), isNotF (b 2), isF (b 3), isNotF (b 4), isF (b 5), isNotF (b 6)] 64))
  clear hb h1 h2 h3 h4 h5 h6
  unfold isF isNotF at *
  go_upto_region 2 with (fail)
  generalize w1.alloc (.cells #[.nilFunc, .func (.func 69) #[] #[.pointer (some ⟨b 1, 0, none⟩)], .func (.func 71) #[] #[.pointer (some ⟨b 2, 0, none⟩)], .func (.func 69) #[] #[.pointer (some ⟨b 3, 0, none⟩)], .func (.func 71) #[] #[.pointer (some ⟨b 4, 0, none⟩)], .func (.func 69) #[] #[.pointer (some ⟨b 5, 0, none⟩)], .func (.func 71) #[] #[.pointer (some ⟨b 6, 0, none⟩)]] 64) = W1 at *
  generalize w1.heap.size = gt at *
  have c0 := A1.out.1
  have c1 := A1.out.2.1
  have c2 := A1.out.2.2
  have d0 := A2.out.1
  have d1 := A2.out.2.1
  have d2 := A2.out.2.2
  go_wp2_with fail
  refine (HC.out _).mono ?_
  rintro e w3 ⟨rfl, hb⟩
  have T2 := Lib.hid (T1.out.below hb)
  obtain ⟨A1, A2, Z1, Z2, B0⟩ := V3.on A1 A2 Z1 Z2 B0 hb
  clear hb c0 c1 c2 d0 d1 d2 T1 HC
  go_wp2
  exact bodyPost_ret (v := .tuple #[.int .i64 0, .int .i64 er]) (by simp [results, Try.results21, go_sem]) rfl ⟨rfl, B0.out⟩

set_option maxRecDepth 100000 in
set_option maxHeartbeats 2000000 in
theorem test_null1 (op : Int) (k n : Int) (s : ByteArray) (k' n' : Int) (s' : ByteArray) (w : World) (hz : askd op 7 k n s k' n' s' = 0) (hd : Eqv k n s 1 0 E0 = true) : Calls Try.prog 21 #[.int .i64 op, .agg #[.int .i64 k, .int .i64 n, .string s], .agg #[.int .i64 k', .int .i64 n', .string s']] w (Told w 2 0) := by
  obtain ⟨A1, A2, Z1, Z2, B0⟩ := V3.two (w := w) (k := k) (n := n) (s := s) (k' := k') (n' := n') (s' := s') rfl
  have HC := Lib.hid (fun w => asked_any op 7 k n s k' n' s' w)
  rw [hz] at HC
  clear hz
  unfold Told
  go_enter Try.func21, Try.ntmps21
  go_upto_region 1 with (fail)
  generalize (w.alloc (.cells #[.int .i64 k, .int .i64 n, .string s] 23)).alloc (.cells #[.int .i64 k', .int .i64 n', .string s'] 23) = W0 at *
  go_wp2_with fail
  refine (testers_any _).mono ?_
  rintro e w1 ⟨⟨cs, rfl, b, rfl, h1, h2, h3, h4, h5, h6⟩, hb⟩
  have T1 : Hid (TB (w1.alloc (.cells #[.nilFunc, isF (b 1), isNotF (b 2), isF (b 3), isNotF (b 4), isF (b 5), isNotF (b 6)] 64)) w1.heap.size b) := ⟨Blk.new _ _ _, h1.alloc _, h2.alloc _, h3.alloc _, h4.alloc _, h5.alloc _, h6.alloc _⟩
  obtain ⟨A1, A2, Z1, Z2, B0⟩ := V3.on A1 A2 Z1 Z2 B0 (hb.alloc hb.size (.cells #[.nilFunc, isF (b 1), isNotF (b 2), isF (b 3), isNotF (b 4), isF (b 5), isNotF (b 6)] 64))
  clear hb h1 h2 h3 h4 h5 h6
  unfold isF isNotF at *
  go_upto_region 2 with (fail)
  generalize w1.alloc (.cells #[.nilFunc, .func (.func 69) #[] #[.pointer (some ⟨b 1, 0, none⟩)], .func (.func 71) #[] #[.pointer (some ⟨b 2, 0, none⟩)], .func (.func 69) #[] #[.pointer (some ⟨b 3, 0, none⟩)], .func (.func 71) #[] #[.pointer (some ⟨b 4, 0, none⟩)], .func (.func 69) #[] #[.pointer (some ⟨b 5, 0, none⟩)], .func (.func 71) #[] #[.pointer (some ⟨b 6, 0, none⟩)]] 64) = W1 at *
  generalize w1.heap.size = gt at *
  have c0 := A1.out.1
  have c1 := A1.out.2.1
  have c2 := A1.out.2.2
  have d0 := A2.out.1
  have d1 := A2.out.2.1
  have d2 := A2.out.2.2
  go_wp2_with fail
  refine (HC.out _).mono ?_
  rintro e w3 ⟨rfl, hb⟩
  have T2 := Lib.hid (T1.out.below hb)
  obtain ⟨A1, A2, Z1, Z2, B0⟩ := V3.on A1 A2 Z1 Z2 B0 hb
  clear hb c0 c1 c2 d0 d1 d2 T1 HC
  go_upto_region 5 with (fail)
  have hS0 : w3.drew.cell? ⟨w.heap.size, 0, none⟩ = some (.int .i64 k) ∧ w3.drew.cell? ⟨w.heap.size, 1, none⟩ = some (.int .i64 n) ∧ w3.drew.cell? ⟨w.heap.size, 2, none⟩ = some (.string s) ∧ w3.drew.cell? ⟨w.heap.size + 1, 0, none⟩ = some (.int .i64 k') ∧ w3.drew.cell? ⟨w.heap.size + 1, 1, none⟩ = some (.int .i64 n') ∧ w3.drew.cell? ⟨w.heap.size + 1, 2, none⟩ = some (.string s') := V3.six (V3.drew A1.out) (V3.drew A2.out)
  refine wp_region_noPanic ?_
  refine wp_region_held_drew (S := fun w' => w'.cell? ⟨w.heap.size, 0, none⟩ = some (.int .i64 k) ∧ w'.cell? ⟨w.heap.size, 1, none⟩ = some (.int .i64 n) ∧ w'.cell? ⟨w.heap.size, 2, none⟩ = some (.string s) ∧ w'.cell? ⟨w.heap.size + 1, 0, none⟩ = some (.int .i64 k') ∧ w'.cell? ⟨w.heap.size + 1, 1, none⟩ = some (.int .i64 n') ∧ w'.cell? ⟨w.heap.size + 1, 2, none⟩ = some (.string s')) (by kernel_rfl) hS0 (fun hHeld => ?_)
  clear hS0
  refine take_d (i := 0) (d := 20) (v := .agg #[.int .i64 k, .int .i64 n, .string s]) rfl rfl (by kernel_rfl) (by kernel_rfl) (by kernel_rfl) (fun _ _ _ h => h) (Or.inl ⟨by kernel_rfl, ?hy⟩) hHeld ?_
  case hy => (intro w hSw; (try dsimp only at hSw); go_split_ands; go_simp)
  try simp only [Act.put, List.setIfInBounds_toArray, List.set_cons_zero, List.set_cons_succ]
  refine wpAnyH_ready (rs := [1]) (by kernel_rfl) (by simp) ?_
  refine AllReadyH.cons rfl (fun K hK => ?_) AllReadyH.nil
  go_simp
  refine (null_any _).mono ?_
  rintro e w4 ⟨rfl, hb1⟩
  refine hK.out _ _ (V3.six (V3.nx A1.out Z1.out hb1) (V3.nx A2.out Z2.out hb1)) (fun hHeld => ?_)
  clear hK K
  try simp only [Act.put, List.setIfInBounds_toArray, List.set_cons_zero, List.set_cons_succ]
  refine take_d (i := 2) (d := 22) (v := .bool true) rfl rfl (by kernel_rfl) (by kernel_rfl) (by kernel_rfl) (fun _ _ _ h => h) (Or.inl ⟨by kernel_rfl, ?hy⟩) hHeld ?_
  case hy => (intro w hSw; (try dsimp only at hSw); go_split_ands; go_simp)
  try simp only [Act.put, List.setIfInBounds_toArray, List.set_cons_zero, List.set_cons_succ]
  refine take_d (i := 3) (d := 23) (v := .bool true) rfl rfl (by kernel_rfl) (by kernel_rfl) (by kernel_rfl) (fun _ _ _ h => h) (Or.inl ⟨by kernel_rfl, ?hy⟩) hHeld ?_
  case hy => (intro w hSw; (try dsimp only at hSw); go_split_ands; go_simp)
  try simp only [Act.put, List.setIfInBounds_toArray, List.set_cons_zero, List.set_cons_succ]
  refine take_d (i := 4) (d := 24) (v := undef) rfl rfl (by kernel_rfl) (by kernel_rfl) (by kernel_rfl) (fun _ _ _ h => h) (Or.inr ⟨by kernel_rfl, rfl⟩) hHeld ?_
  try simp only [Act.put, List.setIfInBounds_toArray, List.set_cons_zero, List.set_cons_succ]
  refine take_d (i := 5) (d := 25) (v := undef) rfl rfl (by kernel_rfl) (by kernel_rfl) (by kernel_rfl) (fun _ _ _ h => h) (Or.inr ⟨by kernel_rfl, rfl⟩) hHeld ?_
  try simp only [Act.put, List.setIfInBounds_toArray, List.set_cons_zero, List.set_cons_succ]
  refine take_d (i := 6) (d := 26) (v := undef) rfl rfl (by kernel_rfl) (by kernel_rfl) (by kernel_rfl) (fun _ _ _ h => h) (Or.inr ⟨by kernel_rfl, rfl⟩) hHeld ?_
  try simp only [Act.put, List.setIfInBounds_toArray, List.set_cons_zero, List.set_cons_succ]
  refine take_d (i := 7) (d := 27) (v := .bool true) rfl rfl (by kernel_rfl) (by kernel_rfl) (by kernel_rfl) (fun _ _ _ h => h) (Or.inl ⟨by kernel_rfl, ?hy⟩) hHeld ?_
  case hy => (intro w hSw; (try dsimp only at hSw); go_split_ands; go_simp)
  try simp only [Act.put, List.setIfInBounds_toArray, List.set_cons_zero, List.set_cons_succ]
  refine wpAnyH_ready (rs := [8]) (by kernel_rfl) (by simp) ?_
  refine AllReadyH.cons rfl (fun K hK => ?_) AllReadyH.nil
  go_simp
  refine hK.out _ _ (V3.six (V3.nx A1.out Z1.out hb1) (V3.nx A2.out Z2.out hb1)) (fun hHeld => ?_)
  clear hK K
  try simp only [Act.put, List.setIfInBounds_toArray, List.set_cons_zero, List.set_cons_succ]
  refine wpAnyH_done (by kernel_rfl) ?_ _
  have B4 := Lib.hid (B0.out.drew.trans (hb1.mono (by have := B0.out.size; simpa using this)))
  clear hb1 hHeld
  refine NoPanic.normal ?_
  go_wp2
  exact bodyPost_ret (v := .tuple #[.int .i64 2, .int .i64 0]) (by simp [results, Try.results21, go_sem]) rfl ⟨rfl, B4.out⟩

set_option maxRecDepth 100000 in
set_option maxHeartbeats 2000000 in
theorem test_null2 (op : Int) (k n : Int) (s : ByteArray) (k' n' : Int) (s' : ByteArray) (w : World) (hz : askd op 7 k n s k' n' s' = 0) (hd : Eqv k n s 1 0 E0 = false) (hd' : Eqv k' n' s' 1 0 E0 = true) : Calls Try.prog 21 #[.int .i64 op, .agg #[.int .i64 k, .int .i64 n, .string s], .agg #[.int .i64 k', .int .i64 n', .string s']] w (Told w 2 0) := by
  obtain ⟨A1, A2, Z1, Z2, B0⟩ := V3.two (w := w) (k := k) (n := n) (s := s) (k' := k') (n' := n') (s' := s') rfl
  have HC := Lib.hid (fun w => asked_any op 7 k n s k' n' s' w)
  rw [hz] at HC
  clear hz
  unfold Told
  go_enter Try.func21, Try.ntmps21
  go_upto_region 1 with (fail)
  generalize (w.alloc (.cells #[.int .i64 k, .int .i64 n, .string s] 23)).alloc (.cells #[.int .i64 k', .int .i64 n', .string s'] 23) = W0 at *
  go_wp2_with fail
  refine (testers_any _).mono ?_
  rintro e w1 ⟨⟨cs, rfl, b, rfl, h1, h2, h3, h4, h5, h6⟩, hb⟩
  have T1 : Hid (TB (w1.alloc (.cells #[.nilFunc, isF (b 1), isNotF (b 2), isF (b 3), isNotF (b 4), isF (b 5), isNotF (b 6)] 64)) w1.heap.size b) := ⟨Blk.new _ _ _, h1.alloc _, h2.alloc _, h3.alloc _, h4.alloc _, h5.alloc _, h6.alloc _⟩
  obtain ⟨A1, A2, Z1, Z2, B0⟩ := V3.on A1 A2 Z1 Z2 B0 (hb.alloc hb.size (.cells #[.nilFunc, isF (b 1), isNotF (b 2), isF (b 3), isNotF (b 4), isF (b 5), isNotF (b 6)] 64))
  clear hb h1 h2 h3 h4 h5 h6
  unfold isF isNotF at *
  go_upto_region 2 with (fail)
  generalize w1.alloc (.cells #[.nilFunc, .func (.func 69) #[] #[.pointer (some ⟨b 1, 0, none⟩)], .func (.func 71) #[] #[.pointer (some ⟨b 2, 0, none⟩)], .func (.func 69) #[] #[.pointer (some ⟨b 3, 0, none⟩)], .func (.func 71) #[] #[.pointer (some ⟨b 4, 0, none⟩)], .func (.func 69) #[] #[.pointer (some ⟨b 5, 0, none⟩)], .func (.func 71) #[] #[.pointer (some ⟨b 6, 0, none⟩)]] 64) = W1 at *
  generalize w1.heap.size = gt at *
  have c0 := A1.out.1
  have c1 := A1.out.2.1
  have c2 := A1.out.2.2
  have d0 := A2.out.1
  have d1 := A2.out.2.1
  have d2 := A2.out.2.2
  go_wp2_with fail
  refine (HC.out _).mono ?_
  rintro e w3 ⟨rfl, hb⟩
  have T2 := Lib.hid (T1.out.below hb)
  obtain ⟨A1, A2, Z1, Z2, B0⟩ := V3.on A1 A2 Z1 Z2 B0 hb
  clear hb c0 c1 c2 d0 d1 d2 T1 HC
  go_upto_region 5 with (fail)
  have c0 := A1.out.1
  have c1 := A1.out.2.1
  have c2 := A1.out.2.2
  have d0 := A2.out.1
  have d1 := A2.out.2.1
  have d2 := A2.out.2.2
  go_region_held3 (fun w' => w'.cell? ⟨w.heap.size, 0, none⟩ = some (.int .i64 k) ∧ w'.cell? ⟨w.heap.size, 1, none⟩ = some (.int .i64 n) ∧ w'.cell? ⟨w.heap.size, 2, none⟩ = some (.string s) ∧ w'.cell? ⟨w.heap.size + 1, 0, none⟩ = some (.int .i64 k') ∧ w'.cell? ⟨w.heap.size + 1, 1, none⟩ = some (.int .i64 n') ∧ w'.cell? ⟨w.heap.size + 1, 2, none⟩ = some (.string s'))
    (first | with_reducible exact V3.six (V3.drew A1.out) (V3.drew A2.out) | with_reducible exact V3.six (V3.nx A1.out Z1.out hb1) (V3.nx A2.out Z2.out hb1) | with_reducible exact V3.six ((V3.nx A1.out Z1.out hb1).below hb2 (V3.zz Z1 hb1)) ((V3.nx A2.out Z2.out hb1).below hb2 (V3.zz Z2 hb1)))
    (first | (go_at_call 15; with_reducible refine (null_any w3.drew).mono ?_; rintro e w4 ⟨rfl, hb1⟩) | (go_at_call 15; refine (null_any _).mono ?_; rintro e w5 ⟨rfl, hb2⟩))
  have hb3 : Below w3.heap.size w3 w5 := ((Below.refl _ w3).drew.trans (hb1.mono (by simp))).trans (hb2.mono (by have := hb1.size; simpa using this))
  have T3 := Lib.hid (T2.out.below hb3)
  obtain ⟨A1, A2, Z1, Z2, B0⟩ := V3.on A1 A2 Z1 Z2 B0 hb3
  clear hb1 hb2 hb3 T2 c0 c1 c2 d0 d1 d2
  go_wp2
  exact bodyPost_ret (v := .tuple #[.int .i64 2, .int .i64 0]) (by simp [results, Try.results21, go_sem]) rfl ⟨rfl, B0.out⟩

set_option maxRecDepth 100000 in
set_option maxHeartbeats 2000000 in
theorem test_type1 (op : Int) (k n : Int) (s : ByteArray) (k' n' : Int) (s' : ByteArray) (w : World) (hz : askd op 7 k n s k' n' s' = 0) (hd : Eqv k n s 1 0 E0 = false) (hd' : Eqv k' n' s' 1 0 E0 = false) (hk : (k != k') = true) : Calls Try.prog 21 #[.int .i64 op, .agg #[.int .i64 k, .int .i64 n, .string s], .agg #[.int .i64 k', .int .i64 n', .string s']] w (Told w 0 153) := by
  obtain ⟨A1, A2, Z1, Z2, B0⟩ := V3.two (w := w) (k := k) (n := n) (s := s) (k' := k') (n' := n') (s' := s') rfl
  have HC := Lib.hid (fun w => asked_any op 7 k n s k' n' s' w)
  rw [hz] at HC
  clear hz
  unfold Told
  go_enter Try.func21, Try.ntmps21
  go_upto_region 1 with (fail)
  generalize (w.alloc (.cells #[.int .i64 k, .int .i64 n, .string s] 23)).alloc (.cells #[.int .i64 k', .int .i64 n', .string s'] 23) = W0 at *
  go_wp2_with fail
  refine (testers_any _).mono ?_
  rintro e w1 ⟨⟨cs, rfl, b, rfl, h1, h2, h3, h4, h5, h6⟩, hb⟩
  have T1 : Hid (TB (w1.alloc (.cells #[.nilFunc, isF (b 1), isNotF (b 2), isF (b 3), isNotF (b 4), isF (b 5), isNotF (b 6)] 64)) w1.heap.size b) := ⟨Blk.new _ _ _, h1.alloc _, h2.alloc _, h3.alloc _, h4.alloc _, h5.alloc _, h6.alloc _⟩
  obtain ⟨A1, A2, Z1, Z2, B0⟩ := V3.on A1 A2 Z1 Z2 B0 (hb.alloc hb.size (.cells #[.nilFunc, isF (b 1), isNotF (b 2), isF (b 3), isNotF (b 4), isF (b 5), isNotF (b 6)] 64))
  clear hb h1 h2 h3 h4 h5 h6
  unfold isF isNotF at *
  go_upto_region 2 with (fail)
  generalize w1.alloc (.cells #[.nilFunc, .func (.func 69) #[] #[.pointer (some ⟨b 1, 0, none⟩)], .func (.func 71) #[] #[.pointer (some ⟨b 2, 0, none⟩)], .func (.func 69) #[] #[.pointer (some ⟨b 3, 0, none⟩)], .func (.func 71) #[] #[.pointer (some ⟨b 4, 0, none⟩)], .func (.func 69) #[] #[.pointer (some ⟨b 5, 0, none⟩)], .func (.func 71) #[] #[.pointer (some ⟨b 6, 0, none⟩)]] 64) = W1 at *
  generalize w1.heap.size = gt at *
  have c0 := A1.out.1
  have c1 := A1.out.2.1
  have c2 := A1.out.2.2
  have d0 := A2.out.1
  have d1 := A2.out.2.1
  have d2 := A2.out.2.2
  go_wp2_with fail
  refine (HC.out _).mono ?_
  rintro e w3 ⟨rfl, hb⟩
  have T2 := Lib.hid (T1.out.below hb)
  obtain ⟨A1, A2, Z1, Z2, B0⟩ := V3.on A1 A2 Z1 Z2 B0 hb
  clear hb c0 c1 c2 d0 d1 d2 T1 HC
  go_upto_region 5 with (fail)
  have c0 := A1.out.1
  have c1 := A1.out.2.1
  have c2 := A1.out.2.2
  have d0 := A2.out.1
  have d1 := A2.out.2.1
  have d2 := A2.out.2.2
  go_region_held3 (fun w' => w'.cell? ⟨w.heap.size, 0, none⟩ = some (.int .i64 k) ∧ w'.cell? ⟨w.heap.size, 1, none⟩ = some (.int .i64 n) ∧ w'.cell? ⟨w.heap.size, 2, none⟩ = some (.string s) ∧ w'.cell? ⟨w.heap.size + 1, 0, none⟩ = some (.int .i64 k') ∧ w'.cell? ⟨w.heap.size + 1, 1, none⟩ = some (.int .i64 n') ∧ w'.cell? ⟨w.heap.size + 1, 2, none⟩ = some (.string s'))
    (first | with_reducible exact V3.six (V3.drew A1.out) (V3.drew A2.out) | with_reducible exact V3.six (V3.nx A1.out Z1.out hb1) (V3.nx A2.out Z2.out hb1) | with_reducible exact V3.six ((V3.nx A1.out Z1.out hb1).below hb2 (V3.zz Z1 hb1)) ((V3.nx A2.out Z2.out hb1).below hb2 (V3.zz Z2 hb1)))
    (first | (go_at_call 15; with_reducible refine (null_any w3.drew).mono ?_; rintro e w4 ⟨rfl, hb1⟩) | (go_at_call 15; refine (null_any _).mono ?_; rintro e w5 ⟨rfl, hb2⟩))
  have hb3 : Below w3.heap.size w3 w5 := ((Below.refl _ w3).drew.trans (hb1.mono (by simp))).trans (hb2.mono (by have := hb1.size; simpa using this))
  have T3 := Lib.hid (T2.out.below hb3)
  obtain ⟨A1, A2, Z1, Z2, B0⟩ := V3.on A1 A2 Z1 Z2 B0 hb3
  clear hb1 hb2 hb3 T2 c0 c1 c2 d0 d1 d2
  have c0 := A1.out.1
  have c1 := A1.out.2.1
  have c2 := A1.out.2.2
  have d0 := A2.out.1
  have d1 := A2.out.2.1
  have d2 := A2.out.2.2
  go_wp2
  exact bodyPost_ret (v := .tuple #[.int .i64 0, .int .i64 153]) (by simp [results, Try.results21, go_sem]) rfl ⟨rfl, B0.out⟩

set_option maxRecDepth 100000 in
set_option maxHeartbeats 2000000 in
theorem test_type2 (op : Int) (n : Int) (s : ByteArray) (n' : Int) (s' : ByteArray) (w : World) (hz : askd op 7 2 n s 2 n' s' = 0) (hd : Eqv 2 n s 1 0 E0 = false) (hd' : Eqv 2 n' s' 1 0 E0 = false) (o1 : (op != 1) = true) (o2 : (op != 2) = true) : Calls Try.prog 21 #[.int .i64 op, .agg #[.int .i64 2, .int .i64 n, .string s], .agg #[.int .i64 2, .int .i64 n', .string s']] w (Told w 0 153) := by
  obtain ⟨A1, A2, Z1, Z2, B0⟩ := V3.two (w := w) (k := 2) (n := n) (s := s) (k' := 2) (n' := n') (s' := s') rfl
  have HC := Lib.hid (fun w => asked_any op 7 2 n s 2 n' s' w)
  rw [hz] at HC
  clear hz
  unfold Told
  go_enter Try.func21, Try.ntmps21
  go_upto_region 1 with (fail)
  generalize (w.alloc (.cells #[.int .i64 2, .int .i64 n, .string s] 23)).alloc (.cells #[.int .i64 2, .int .i64 n', .string s'] 23) = W0 at *
  go_wp2_with fail
  refine (testers_any _).mono ?_
  rintro e w1 ⟨⟨cs, rfl, b, rfl, h1, h2, h3, h4, h5, h6⟩, hb⟩
  have T1 : Hid (TB (w1.alloc (.cells #[.nilFunc, isF (b 1), isNotF (b 2), isF (b 3), isNotF (b 4), isF (b 5), isNotF (b 6)] 64)) w1.heap.size b) := ⟨Blk.new _ _ _, h1.alloc _, h2.alloc _, h3.alloc _, h4.alloc _, h5.alloc _, h6.alloc _⟩
  obtain ⟨A1, A2, Z1, Z2, B0⟩ := V3.on A1 A2 Z1 Z2 B0 (hb.alloc hb.size (.cells #[.nilFunc, isF (b 1), isNotF (b 2), isF (b 3), isNotF (b 4), isF (b 5), isNotF (b 6)] 64))
  clear hb h1 h2 h3 h4 h5 h6
  unfold isF isNotF at *
  go_upto_region 2 with (fail)
  generalize w1.alloc (.cells #[.nilFunc, .func (.func 69) #[] #[.pointer (some ⟨b 1, 0, none⟩)], .func (.func 71) #[] #[.pointer (some ⟨b 2, 0, none⟩)], .func (.func 69) #[] #[.pointer (some ⟨b 3, 0, none⟩)], .func (.func 71) #[] #[.pointer (some ⟨b 4, 0, none⟩)], .func (.func 69) #[] #[.pointer (some ⟨b 5, 0, none⟩)], .func (.func 71) #[] #[.pointer (some ⟨b 6, 0, none⟩)]] 64) = W1 at *
  generalize w1.heap.size = gt at *
  have c0 := A1.out.1
  have c1 := A1.out.2.1
  have c2 := A1.out.2.2
  have d0 := A2.out.1
  have d1 := A2.out.2.1
  have d2 := A2.out.2.2
  go_wp2_with fail
  refine (HC.out _).mono ?_
  rintro e w3 ⟨rfl, hb⟩
  have T2 := Lib.hid (T1.out.below hb)
  obtain ⟨A1, A2, Z1, Z2, B0⟩ := V3.on A1 A2 Z1 Z2 B0 hb
  clear hb c0 c1 c2 d0 d1 d2 T1 HC
  go_upto_region 5 with (fail)
  have c0 := A1.out.1
  have c1 := A1.out.2.1
  have c2 := A1.out.2.2
  have d0 := A2.out.1
  have d1 := A2.out.2.1
  have d2 := A2.out.2.2
  go_region_held3 (fun w' => w'.cell? ⟨w.heap.size, 0, none⟩ = some (.int .i64 2) ∧ w'.cell? ⟨w.heap.size, 1, none⟩ = some (.int .i64 n) ∧ w'.cell? ⟨w.heap.size, 2, none⟩ = some (.string s) ∧ w'.cell? ⟨w.heap.size + 1, 0, none⟩ = some (.int .i64 2) ∧ w'.cell? ⟨w.heap.size + 1, 1, none⟩ = some (.int .i64 n') ∧ w'.cell? ⟨w.heap.size + 1, 2, none⟩ = some (.string s'))
    (first | with_reducible exact V3.six (V3.drew A1.out) (V3.drew A2.out) | with_reducible exact V3.six (V3.nx A1.out Z1.out hb1) (V3.nx A2.out Z2.out hb1) | with_reducible exact V3.six ((V3.nx A1.out Z1.out hb1).below hb2 (V3.zz Z1 hb1)) ((V3.nx A2.out Z2.out hb1).below hb2 (V3.zz Z2 hb1)))
    (first | (go_at_call 15; with_reducible refine (null_any w3.drew).mono ?_; rintro e w4 ⟨rfl, hb1⟩) | (go_at_call 15; refine (null_any _).mono ?_; rintro e w5 ⟨rfl, hb2⟩))
  have hb3 : Below w3.heap.size w3 w5 := ((Below.refl _ w3).drew.trans (hb1.mono (by simp))).trans (hb2.mono (by have := hb1.size; simpa using this))
  have T3 := Lib.hid (T2.out.below hb3)
  obtain ⟨A1, A2, Z1, Z2, B0⟩ := V3.on A1 A2 Z1 Z2 B0 hb3
  clear hb1 hb2 hb3 T2 c0 c1 c2 d0 d1 d2
  have c0 := A1.out.1
  have c1 := A1.out.2.1
  have c2 := A1.out.2.2
  have d0 := A2.out.1
  have d1 := A2.out.2.1
  have d2 := A2.out.2.2
  go_wp2
  exact bodyPost_ret (v := .tuple #[.int .i64 0, .int .i64 153]) (by simp [results, Try.results21, go_sem]) rfl ⟨rfl, B0.out⟩


end Go.Proofs.Ytndkoefchlclkaa
