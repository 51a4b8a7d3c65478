/-
  Which values may be: the document's Right, the program's Check.
-/
import Derived.Test.YtndkoefchlclkaaV0
import Derived.Deep.RegionWith
namespace Go.Proofs.Ytndkoefchlclkaa
open Go.RowKit
attribute [local go_sem ↓] eqV neV eqG

/-- May the value be? -/
def Rt (k n : Int) (s : ByteArray) : Bool :=
  decide ((k = 1 ∧ n = 0 ∧ s = E0) ∨ (k = 2 ∧ (n = 0 ∨ n = 1) ∧ s = E0) ∨ (k = 3 ∧ s = E0) ∨ (k = 4 ∧ n = 0 ∧ s.size ≤ 64))

/-- A value in a block of its own. -/
def V3 (w : World) (g : Nat) (k n : Int) (s : ByteArray) : Prop := w.cell? ⟨g, 0, none⟩ = some (.int .i64 k) ∧ w.cell? ⟨g, 1, none⟩ = some (.int .i64 n) ∧ w.cell? ⟨g, 2, none⟩ = some (.string s)
theorem V3.box {w : World} {g : Nat} {k n : Int} {s : ByteArray} (hg : g = w.heap.size) : V3 (w.alloc (.cells #[.int .i64 k, .int .i64 n, .string s] 23)) g k n s :=
  have h : Blk (w.alloc (.cells #[.int .i64 k, .int .i64 n, .string s] 23)) g 23 #[.int .i64 k, .int .i64 n, .string s] := Blk.fresh hg
  ⟨h.cell 0, h.cell 1, h.cell 2⟩
theorem V3.below {w w' : World} {B g : Nat} {k n : Int} {s : ByteArray} (h : V3 w g k n s) (hb : Below B w w') (hg : g < B) : V3 w' g k n s :=
  ⟨(hb.cell (p := ⟨g, 0, none⟩) hg).trans h.1, (hb.cell (p := ⟨g, 1, none⟩) hg).trans h.2.1, (hb.cell (p := ⟨g, 2, none⟩) hg).trans h.2.2⟩
theorem V3.cells {w : World} {g : Nat} {k n : Int} {s : ByteArray} (h : V3 w g k n s) : w.cell? ⟨g, 0, none⟩ = some (.int .i64 k) ∧ w.cell? ⟨g, 1, none⟩ = some (.int .i64 n) ∧ w.cell? ⟨g, 2, none⟩ = some (.string s) := h
theorem V3.drew {w : World} {g : Nat} {k n : Int} {s : ByteArray} (h : V3 w g k n s) : V3 w.drew g k n s := h
theorem V3.nx {w w' : World} {g : Nat} {k n : Int} {s : ByteArray} (h : V3 w g k n s) (hg : g < w.heap.size) (hb : Below w.drew.heap.size w.drew w') : V3 w' g k n s := V3.below (w := w.drew) h hb hg
theorem V3.drewN {w : World} {g : Nat} {k n : Int} {s : ByteArray} (h : V3 w g k n s) (j : Nat) : V3 (w.drewN j) g k n s := h

theorem emp (s : ByteArray) : s.toList.isEmpty = decide (s = E0) := by
  rw [← same_str, show E0.toList = [] by rw [ByteArray.toList_eq]; rfl]
  cases s.toList with
  | nil => rfl
  | cons a l => rfl
theorem size_le (s : ByteArray) : s.toList.length = s.size := by rw [ByteArray.toList_eq]; rfl

/-- Number i is taken first; its slot is told. -/
theorem take_d {P : Program} {ops : Array Oper} {Q : Exit → Act → World → Prop} {md : Region.Mode} {S : World → Prop} {i : Nat} {d : Tmp} {oi : Oper} {v : Value} {fuel : Nat} {listed : Array Bool} {a : Act} {w : World} (hi : ops[i]? = some oi) (hd : oi.dst = some d)
    (hs : Region.noSelect ops = true) (hf : Region.free md ops listed i = true) (hr : (Region.ready md ops listed).contains i = true)
    (hQ : ∀ c a w, Q (.panic c) (a.put (some d) v) w → Q (.panic c) a w) (hy : YieldsIf P ops S oi v a) (hS : S w)
    (h : wpAnyH P md ops Q S fuel (listed.setIfInBounds i true) (a.put (some d) v) w) : wpAnyH P md ops Q S (fuel + 1) listed a w :=
  wpAnyH_take hi hs hf hr (by rw [hd]; exact hQ) hy hS (by rw [hd]; exact h)

theorem right_any (k n : Int) (s : ByteArray) (w : World) : Calls Try.prog 13 #[.agg #[.int .i64 k, .int .i64 n, .string s]] w fun e w' => e = .returned (.bool (Rt k n s)) ∧ Below w.heap.size w w' := by
  have hE := emp s
  have hb : Below w.heap.size w (w.alloc (.cells #[.int .i64 k, .int .i64 n, .string s] 23)) := (Below.refl _ w).alloc (Nat.le_refl _) _
  have HB := Lib.hid hb
  clear hb
  have hs : (s.size : Int) ≤ 64 ↔ s.size ≤ 64 := by omega
  by_cases h1 : k = 1
  · subst h1
    by_cases h2 : n = 0
    · subst h2
      go_enter Try.func13, Try.ntmps13
      go_wp2
      go_ret
      exact ⟨ret_bool (by simp [Rt]), HB.out⟩
    · have h2' : (n == 0) = false := by simp [h2]
      go_enter Try.func13, Try.ntmps13
      go_wp2
      go_ret
      exact ⟨ret_bool (by simp [Rt, h2]), HB.out⟩
  · have h1' : (k == 1) = false := by simp [h1]
    by_cases h2 : k = 2
    · subst h2
      by_cases h3 : n = 0 ∨ n = 1
      · rcases h3 with rfl | rfl
        all_goals
          go_enter Try.func13, Try.ntmps13
          go_wp2
          go_ret
          exact ⟨ret_bool (by simp [Rt]), HB.out⟩
      · have h3' : (if 0 ≤ n then decide (n ≤ 1) else false) = false := by split <;> simp <;> omega
        by_cases h4 : 0 ≤ n
        · have h5 : ¬ n ≤ 1 := by omega
          go_enter Try.func13, Try.ntmps13
          go_wp2
          go_ret
          exact ⟨ret_bool (by simp [Rt]; omega), HB.out⟩
        · go_enter Try.func13, Try.ntmps13
          go_wp2
          go_ret
          exact ⟨ret_bool (by simp [Rt]; omega), HB.out⟩
    · have h2' : (k == 2) = false := by simp [h2]
      by_cases h3 : k = 3
      · subst h3
        go_enter Try.func13, Try.ntmps13
        go_wp2
        go_ret
        exact ⟨ret_bool (by simp [Rt]), HB.out⟩
      · have h3' : (k == 3) = false := by simp [h3]
        by_cases h4 : k = 4
        · subst h4
          by_cases h5 : n = 0
          · subst h5
            go_enter Try.func13, Try.ntmps13
            go_wp2
            go_ret
            exact ⟨ret_bool (by simp [Rt]), HB.out⟩
          · have h5' : (n == 0) = false := by simp [h5]
            go_enter Try.func13, Try.ntmps13
            go_wp2
            go_ret
            exact ⟨ret_bool (by simp [Rt, h5]), HB.out⟩
        · have h4' : (k == 4) = false := by simp [h4]
          go_enter Try.func13, Try.ntmps13
          go_wp2
          go_ret
          exact ⟨ret_bool (by simp [Rt, h1, h2, h3, h4]), HB.out⟩

theorem rt_eq (k n : Int) (s : ByteArray) : Rt k n s = (Eqv k n s 1 0 E0 || (Eqv k n s 2 (b2i (n == 1)) E0 || (Eqv k n s 3 n E0 || (Eqv k n s 4 0 s && decide (s.size ≤ 64))))) := by
  unfold Rt Eqv b2i
  rw [Bool.eq_iff_iff]
  simp only [decide_eq_true_iff, Bool.or_eq_true, Bool.and_eq_true]
  by_cases h : n = 1
  · subst h
    by_cases hs : s = E0 <;> simp [hs] <;> omega
  · have h' : (n == 1) = false := by simp [h]
    rw [h']
    by_cases hs : s = E0 <;> simp [hs, h] <;> omega

theorem V3.keepN {w0 w w' : World} {g : Nat} {k n : Int} {s : ByteArray} {B : Nat} (h : Hid (V3 w g k n s)) (hg : Hid (g < w.heap.size)) (h0 : Hid (Below B w0 w)) (hB : B ≤ w.heap.size) (hb : Below w.drew.heap.size w.drew w') : Hid (V3 w' g k n s) ∧ Hid (g < w'.heap.size) ∧ Hid (Below B w0 w') :=
  ⟨V3.nx h.out hg.out hb, Nat.lt_of_lt_of_le hg.out (Nat.le_trans (by simp) hb.size), (h0.out.drew).trans (hb.mono hB)⟩

/-- What Check answers. -/
def chk (k n : Int) (s : ByteArray) : Int := if Rt k n s = true then 0 else 150
theorem chk_eq (k n : Int) (s : ByteArray) : chk k n s = if (Eqv k n s 1 0 E0 || (Eqv k n s 2 (b2i (n == 1)) E0 || (Eqv k n s 3 n E0 || (Eqv k n s 4 0 s && decide (s.size ≤ 64))))) = true then 0 else 150 := by unfold chk; rw [rt_eq]

theorem check_any (k n : Int) (s : ByteArray) (w : World) : Calls Try.prog 14 #[.agg #[.int .i64 k, .int .i64 n, .string s]] w fun e w' => e = .returned (.int .i64 (chk k n s)) ∧ Below w.heap.size w w' := by
  have v0 : V3 (w.alloc (.cells #[.int .i64 k, .int .i64 n, .string s] 23)) w.heap.size k n s := V3.box rfl
  have b0 : Below w.heap.size w (w.alloc (.cells #[.int .i64 k, .int .i64 n, .string s] 23)) := (Below.refl _ w).alloc (Nat.le_refl _) _
  have z0 : w.heap.size < (w.alloc (.cells #[.int .i64 k, .int .i64 n, .string s] 23)).heap.size := by simp
  have V0 := Lib.hid v0
  have B0 := Lib.hid b0
  have Z0 := Lib.hid z0
  have hrt := Lib.hid (chk_eq k n s)
  clear v0 b0 z0
  generalize chk k n s = R at *
  go_enter Try.func14, Try.ntmps14
  go_upto_region 1 with (fail)
  generalize w.alloc (.cells #[.int .i64 k, .int .i64 n, .string s] 23) = W0 at *
  have c0 := V0.out.1
  have c1 := V0.out.2.1
  have c2 := V0.out.2.2
  go_region_held3 (fun w' => w'.cell? ⟨w.heap.size, 0, none⟩ = some (.int .i64 k) ∧ w'.cell? ⟨w.heap.size, 1, none⟩ = some (.int .i64 n) ∧ w'.cell? ⟨w.heap.size, 2, none⟩ = some (.string s))
    (first | with_reducible exact (V3.drew V0.out).cells | with_reducible exact (V3.nx V0.out Z0.out hb1).cells)
    (first | (go_at_call 15; refine (null_any _).mono ?_; rintro e w1 ⟨rfl, hb1⟩))
  obtain ⟨V1, Z1, B1⟩ := V3.keepN V0 Z0 B0 (Nat.le_of_lt Z0.out) hb1
  clear hb1 V0 Z0 B0 c0 c1 c2
  generalize Eqv k n s 1 0 E0 = d1 at *
  cases d1 with
  | true =>
    go_wp2
    go_ret
    exact ⟨ret_int hrt.out.symm, B1.out⟩
  | false =>
    have c0 := V1.out.1
    have c1 := V1.out.2.1
    have c2 := V1.out.2.2
    generalize W0.heap.size = q0 at *
    go_upto_region 1 with (fail)
    go_region_held3 (fun w' => w'.cell? ⟨w.heap.size, 0, none⟩ = some (.int .i64 k) ∧ w'.cell? ⟨w.heap.size, 1, none⟩ = some (.int .i64 n) ∧ w'.cell? ⟨w.heap.size, 2, none⟩ = some (.string s))
      (first | with_reducible exact (V3.drew V1.out).cells | with_reducible exact (V3.nx V1.out Z1.out hb2).cells)
      (first | (go_at_call 18; refine (bool_any _ _).mono ?_; rintro e w2 ⟨rfl, hb2⟩))
    obtain ⟨V2, Z2, B2⟩ := V3.keepN V1 Z1 B1 (by have := Z1.out; omega) hb2
    clear hb2 V1 Z1 B1 c0 c1 c2
    generalize Eqv k n s 2 (b2i (n == 1)) E0 = d2 at *
    cases d2 with
    | true =>
      go_wp2
      go_ret
      exact ⟨ret_int hrt.out.symm, B2.out⟩
    | false =>
      have c0 := V2.out.1
      have c1 := V2.out.2.1
      have c2 := V2.out.2.2
      generalize w1.heap.size = q1 at *
      go_upto_region 1 with (fail)
      go_region_held3 (fun w' => w'.cell? ⟨w.heap.size, 0, none⟩ = some (.int .i64 k) ∧ w'.cell? ⟨w.heap.size, 1, none⟩ = some (.int .i64 n) ∧ w'.cell? ⟨w.heap.size, 2, none⟩ = some (.string s))
        (first | with_reducible exact (V3.drew V2.out).cells | with_reducible exact (V3.nx V2.out Z2.out hb3).cells)
        (first | (go_at_call 16; refine (int_any _ _).mono ?_; rintro e w3 ⟨rfl, hb3⟩))
      obtain ⟨V3_, Z3, B3⟩ := V3.keepN V2 Z2 B2 (by have := Z2.out; omega) hb3
      clear hb3 V2 Z2 B2 c0 c1 c2
      generalize Eqv k n s 3 n E0 = d3 at *
      cases d3 with
      | true =>
        go_wp2
        go_ret
        exact ⟨ret_int hrt.out.symm, B3.out⟩
      | false =>
        have c0 := V3_.out.1
        have c1 := V3_.out.2.1
        have c2 := V3_.out.2.2
        generalize w2.heap.size = q2 at *
        go_upto_region 1 with (fail)
        cases hd4 : Eqv k n s 4 0 s with
        | true =>
          go_region_held3 (fun w' => w'.cell? ⟨w.heap.size, 0, none⟩ = some (.int .i64 k) ∧ w'.cell? ⟨w.heap.size, 1, none⟩ = some (.int .i64 n) ∧ w'.cell? ⟨w.heap.size, 2, none⟩ = some (.string s))
            (first | with_reducible exact (V3.drew V3_.out).cells | with_reducible exact (V3.nx V3_.out Z3.out hb4).cells)
            (first | (go_at_call 17; refine (text_any _ _).mono ?_; rintro e w4 ⟨rfl, hb4⟩))
          obtain ⟨V4, Z4, B4⟩ := V3.keepN V3_ Z3 B3 (by have := Z3.out; omega) hb4
          clear hb4 V3_ Z3 B3 c0 c1 c2
          rw [hd4] at hrt
          by_cases hs : s.size ≤ 64
          · go_wp2
            go_ret
            exact ⟨ret_int (hrt.out.trans (by simp [hs])).symm, B4.out⟩
          · go_wp2
            go_ret
            exact ⟨ret_int (hrt.out.trans (by simp [hs])).symm, B4.out⟩
        | false =>
          have hS0 : w3.drew.cell? ⟨w.heap.size, 0, none⟩ = some (.int .i64 k) ∧ w3.drew.cell? ⟨w.heap.size, 1, none⟩ = some (.int .i64 n) ∧ w3.drew.cell? ⟨w.heap.size, 2, none⟩ = some (.string s) := V3_.out.cells
          refine wp_region_noPanic ?_
          refine wp_region_held_drew (S := fun w' => w'.cell? ⟨w.heap.size, 0, none⟩ = some (.int .i64 k) ∧ w'.cell? ⟨w.heap.size, 1, none⟩ = some (.int .i64 n) ∧ w'.cell? ⟨w.heap.size, 2, none⟩ = some (.string s)) (by kernel_rfl) hS0 (fun hHeld => ?_)
          clear hS0 c0 c1 c2
          refine take_d (i := 0) (d := 19) (v := .agg #[.int .i64 k, .int .i64 n, .string s]) rfl rfl (by kernel_rfl) (by kernel_rfl) (by kernel_rfl) (fun _ _ _ h => h) (Or.inl ⟨by kernel_rfl, ?hy⟩) hHeld ?_
          case hy => (intro w hSw; (try dsimp only at hSw); go_split_ands; go_simp)
          try simp only [Act.put, List.setIfInBounds_toArray, List.set_cons_zero, List.set_cons_succ]
          refine take_d (i := 1) (d := 20) (v := .pointer (some ⟨w.heap.size, 2, none⟩)) rfl rfl (by kernel_rfl) (by kernel_rfl) (by kernel_rfl) (fun _ _ _ h => h) (Or.inl ⟨by kernel_rfl, ?hy⟩) hHeld ?_
          case hy => (intro w hSw; (try dsimp only at hSw); go_split_ands; go_simp)
          try simp only [Act.put, List.setIfInBounds_toArray, List.set_cons_zero, List.set_cons_succ]
          refine take_d (i := 2) (d := 21) (v := .string s) rfl rfl (by kernel_rfl) (by kernel_rfl) (by kernel_rfl) (fun _ _ _ h => h) (Or.inl ⟨by kernel_rfl, ?hy⟩) hHeld ?_
          case hy => (intro w hSw; (try dsimp only at hSw); go_split_ands; go_simp)
          try simp only [Act.put, List.setIfInBounds_toArray, List.set_cons_zero, List.set_cons_succ]
          refine wpAnyH_ready (rs := [3]) (by kernel_rfl) (by simp) ?_
          refine AllReadyH.cons rfl (fun K hK => ?_) AllReadyH.nil
          go_simp
          refine (text_any _ _).mono ?_
          rintro e w4 ⟨rfl, hb4⟩
          refine hK.out _ _ ((V3.nx V3_.out Z3.out hb4).cells) (fun hHeld => ?_)
          clear hK K
          try simp only [Act.put, List.setIfInBounds_toArray, List.set_cons_zero, List.set_cons_succ]
          refine take_d (i := 4) (d := 23) (v := .bool false) rfl rfl (by kernel_rfl) (by kernel_rfl) (by kernel_rfl) (fun _ _ _ h => h) (Or.inl ⟨by kernel_rfl, ?hy⟩) hHeld ?_
          case hy => (intro w hSw; (try dsimp only at hSw); go_split_ands; go_simp)
          try simp only [Act.put, List.setIfInBounds_toArray, List.set_cons_zero, List.set_cons_succ]
          refine take_d (i := 5) (d := 24) (v := .bool false) rfl rfl (by kernel_rfl) (by kernel_rfl) (by kernel_rfl) (fun _ _ _ h => h) (Or.inl ⟨by kernel_rfl, ?hy⟩) hHeld ?_
          case hy => (intro w hSw; (try dsimp only at hSw); go_split_ands; go_simp)
          try simp only [Act.put, List.setIfInBounds_toArray, List.set_cons_zero, List.set_cons_succ]
          refine take_d (i := 6) (d := 25) (v := undef) rfl rfl (by kernel_rfl) (by kernel_rfl) (by kernel_rfl) (fun _ _ _ h => h) (Or.inr ⟨by kernel_rfl, rfl⟩) hHeld ?_
          try simp only [Act.put, List.setIfInBounds_toArray, List.set_cons_zero, List.set_cons_succ]
          refine take_d (i := 7) (d := 26) (v := undef) rfl rfl (by kernel_rfl) (by kernel_rfl) (by kernel_rfl) (fun _ _ _ h => h) (Or.inr ⟨by kernel_rfl, rfl⟩) hHeld ?_
          try simp only [Act.put, List.setIfInBounds_toArray, List.set_cons_zero, List.set_cons_succ]
          refine take_d (i := 8) (d := 27) (v := undef) rfl rfl (by kernel_rfl) (by kernel_rfl) (by kernel_rfl) (fun _ _ _ h => h) (Or.inr ⟨by kernel_rfl, rfl⟩) hHeld ?_
          try simp only [Act.put, List.setIfInBounds_toArray, List.set_cons_zero, List.set_cons_succ]
          refine take_d (i := 9) (d := 28) (v := undef) rfl rfl (by kernel_rfl) (by kernel_rfl) (by kernel_rfl) (fun _ _ _ h => h) (Or.inr ⟨by kernel_rfl, rfl⟩) hHeld ?_
          try simp only [Act.put, List.setIfInBounds_toArray, List.set_cons_zero, List.set_cons_succ]
          refine take_d (i := 10) (d := 29) (v := .bool false) rfl rfl (by kernel_rfl) (by kernel_rfl) (by kernel_rfl) (fun _ _ _ h => h) (Or.inl ⟨by kernel_rfl, ?hy⟩) hHeld ?_
          case hy => (intro w hSw; (try dsimp only at hSw); go_split_ands; go_simp)
          try simp only [Act.put, List.setIfInBounds_toArray, List.set_cons_zero, List.set_cons_succ]
          refine wpAnyH_ready (rs := [11]) (by kernel_rfl) (by simp) ?_
          refine AllReadyH.cons rfl (fun K hK => ?_) AllReadyH.nil
          go_simp
          refine hK.out _ _ ((V3.nx V3_.out Z3.out hb4).cells) (fun hHeld => ?_)
          clear hK K
          try simp only [Act.put, List.setIfInBounds_toArray, List.set_cons_zero, List.set_cons_succ]
          refine wpAnyH_done (by kernel_rfl) ?_ _
          obtain ⟨V4, Z4, B4⟩ := V3.keepN V3_ Z3 B3 (by have := Z3.out; omega) hb4
          rw [hd4] at hrt
          clear hb4 V3_ Z3 B3 hHeld
          refine NoPanic.normal ?_
          go_wp2
          go_ret
          exact ⟨ret_int hrt.out.symm, B4.out⟩

end Go.Proofs.Ytndkoefchlclkaa
