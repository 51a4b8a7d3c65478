/-
  The document's order of values; what is more than is gone through; the testers.
-/
import Derived.Test.YtndkoefchlclkaaV3
import Derived.Test.YtndkoefchlclkaaVW
namespace Go.Proofs.Ytndkoefchlclkaa
open Go.RowKit
attribute [local go_sem ↓] eqV neV eqG

theorem eqv_no (k n : Int) (s : ByteArray) (k' n' : Int) (s' : ByteArray) (h : ¬ (k = k' ∧ n = n' ∧ s = s')) : Eqv k n s k' n' s' = false := decide_eq_false h

theorem two_boxes (k n : Int) (s : ByteArray) (k' n' : Int) (s' : ByteArray) (w : World) : Below w.heap.size w ((w.alloc (.cells #[.int .i64 k, .int .i64 n, .string s] 23)).alloc (.cells #[.int .i64 k', .int .i64 n', .string s'] 23)) := ((Below.refl _ w).alloc (Nat.le_refl _) _).alloc (by simp) _

set_option maxHeartbeats 1000000 in
theorem refcompare_any (k n : Int) (s : ByteArray) (k' n' : Int) (s' : ByteArray) (w : World) : Calls Try.prog 20 #[.agg #[.int .i64 k, .int .i64 n, .string s], .agg #[.int .i64 k', .int .i64 n', .string s']] w fun e w' => e = .returned (.int .i64 (cmpV k n s k' n' s')) ∧ Below w.heap.size w w' := by
  have HB := Lib.hid (two_boxes k n s k' n' s' w)
  rcases cmp3_three k k' with ⟨rfl, hk⟩ | ⟨h, hk⟩ | ⟨h, hk⟩
  · rcases cmp3_three n n' with ⟨rfl, hn⟩ | ⟨h, hn⟩ | ⟨h, hn⟩
    · rcases cmpS_three s s' with ⟨rfl, hs, l1, l2⟩ | ⟨h, hs, l1, l2⟩ | ⟨h, hs, l1, l2⟩
      · rw [show cmpV k n s k n s = 0 by unfold cmpV; rw [hk, hn, hs]; rfl]
        have hE : Eqv k n s k n s = true := by simp [Eqv]
        go_enter Try.func20, Try.ntmps20
        go_wp2
        go_ret
        exact ⟨rfl, HB.out⟩
      · rw [show cmpV k n s k n s' = -1 by unfold cmpV; rw [hk, hn, hs]; rfl]
        have hE := eqv_no k n s k n s' (fun e => h e.2.2)
        clear hk hn hs h
        go_enter Try.func20, Try.ntmps20
        go_wp2
        go_ret
        exact ⟨rfl, HB.out⟩
      · rw [show cmpV k n s k n s' = 1 by unfold cmpV; rw [hk, hn, hs]; rfl]
        have hE := eqv_no k n s k n s' (fun e => h e.2.2)
        clear hk hn hs h
        go_enter Try.func20, Try.ntmps20
        go_wp2
        go_ret
        exact ⟨rfl, HB.out⟩
    · rw [show cmpV k n s k n' s' = -1 by unfold cmpV; rw [hk, hn]; rfl]
      have hE := eqv_no k n s k n' s' (fun e => by omega)
      clear hk hn
      go_enter Try.func20, Try.ntmps20
      go_wp2
      go_ret
      exact ⟨rfl, HB.out⟩
    · rw [show cmpV k n s k n' s' = 1 by unfold cmpV; rw [hk, hn]; rfl]
      have hE := eqv_no k n s k n' s' (fun e => by omega)
      have h1 : ¬ n < n' := by omega
      have h2 : (n == n') = false := by simp; omega
      clear hk hn
      go_enter Try.func20, Try.ntmps20
      go_wp2
      go_ret
      exact ⟨rfl, HB.out⟩
  · rw [show cmpV k n s k' n' s' = -1 by unfold cmpV; rw [hk]; rfl]
    have hE := eqv_no k n s k' n' s' (fun e => by omega)
    clear hk
    go_enter Try.func20, Try.ntmps20
    go_wp2
    go_ret
    exact ⟨rfl, HB.out⟩
  · rw [show cmpV k n s k' n' s' = 1 by unfold cmpV; rw [hk]; rfl]
    have hE := eqv_no k n s k' n' s' (fun e => by omega)
    have h1 : ¬ k < k' := by omega
    have h2 : (k == k') = false := by simp; omega
    clear hk
    go_enter Try.func20, Try.ntmps20
    go_wp2
    go_ret
    exact ⟨rfl, HB.out⟩

def isF (b : Nat) : Value := .func (.func 69) #[] #[.pointer (some ⟨b, 0, none⟩)]
def isNotF (b : Nat) : Value := .func (.func 71) #[] #[.pointer (some ⟨b, 0, none⟩)]

theorem is_any (v : Int) (w : World) : Calls Try.prog 68 #[.int .i64 v] w fun e w' => e = .returned (isF w.heap.size) ∧ Blk w' w.heap.size 3 #[.int .i64 v] ∧ Below w.heap.size w w' := by
  go_enter Try.func68, Try.ntmps68
  go_wp2
  go_ret
  exact ⟨rfl, Blk.new _ _ _, (Below.refl _ _).alloc (Nat.le_refl _) _⟩
theorem isNot_any (v : Int) (w : World) : Calls Try.prog 70 #[.int .i64 v] w fun e w' => e = .returned (isNotF w.heap.size) ∧ Blk w' w.heap.size 3 #[.int .i64 v] ∧ Below w.heap.size w w' := by
  go_enter Try.func70, Try.ntmps70
  go_wp2
  go_ret
  exact ⟨rfl, Blk.new _ _ _, (Below.refl _ _).alloc (Nat.le_refl _) _⟩
theorem isc_any (o v : Int) (b : Nat) (w : World) (h : Blk w b 3 #[.int .i64 v]) : Calls Try.prog 69 #[.int .i64 o, .pointer (some ⟨b, 0, none⟩)] w fun e w' => e = .returned (.bool (o == v)) ∧ w = w' := by
  have c0 : w.cell? ⟨b, 0, none⟩ = some (.int .i64 v) := h.cell 0
  clear h
  go_enter Try.func69, Try.ntmps69
  go_wp2
  go_ret
  exact ⟨rfl, rfl⟩
theorem isNotc_any (o v : Int) (b : Nat) (w : World) (h : Blk w b 3 #[.int .i64 v]) : Calls Try.prog 71 #[.int .i64 o, .pointer (some ⟨b, 0, none⟩)] w fun e w' => e = .returned (.bool (o != v)) ∧ w = w' := by
  have c0 : w.cell? ⟨b, 0, none⟩ = some (.int .i64 v) := h.cell 0
  clear h
  go_enter Try.func71, Try.ntmps71
  go_wp2
  go_ret
  exact ⟨rfl, rfl⟩

/-- The testers, each with its number. -/
def Tst (w : World) (cs : Array Value) : Prop := ∃ b : Nat → Nat, cs = #[.nilFunc, isF (b 1), isNotF (b 2), isF (b 3), isNotF (b 4), isF (b 5), isNotF (b 6)] ∧
  Blk w (b 1) 3 #[.int .i64 0] ∧ Blk w (b 2) 3 #[.int .i64 0] ∧ Blk w (b 3) 3 #[.int .i64 (-1)] ∧ Blk w (b 4) 3 #[.int .i64 1] ∧ Blk w (b 5) 3 #[.int .i64 1] ∧ Blk w (b 6) 3 #[.int .i64 (-1)]

theorem built64 (a b c d e f : Nat) : Try.prog.built 64 [(1, isF a), (2, isNotF b), (3, isF c), (4, isNotF d), (5, isF e), (6, isNotF f)] = some #[.nilFunc, isF a, isNotF b, isF c, isNotF d, isF e, isNotF f] := by kernel_rfl

theorem wpList_built64 {ops : Array Oper} {rest : List Oper} {o : Oper} {a : Act} {w : World} {Q : Exit → Act → World → Prop} (b1 b2 b3 b4 b5 b6 : Nat) (hg : o.guard = none) (x1 x2 x3 x4 x5 x6 : Operand) (ho : o.op = .build 64 #[(1, x1), (2, x2), (3, x3), (4, x4), (5, x5), (6, x6)])
    (h1 : a.eval x1 = isF b1) (h2 : a.eval x2 = isNotF b2) (h3 : a.eval x3 = isF b3) (h4 : a.eval x4 = isNotF b4) (h5 : a.eval x5 = isF b5) (h6 : a.eval x6 = isNotF b6)
    (h : wpList Try.prog ops Q rest (a.put o.dst (.agg [.nilFunc, isF b1, isNotF b2, isF b3, isNotF b4, isF b5, isNotF b6].toArray)) w) : wpList Try.prog ops Q (o :: rest) a w := by
  have e : Try.prog.built 64 ((#[(1, x1), (2, x2), (3, x3), (4, x4), (5, x5), (6, x6)] : Array (Nat × Operand)).map fun (i, x) => (i, a.eval x)).toList = some [.nilFunc, isF b1, isNotF b2, isF b3, isNotF b4, isF b5, isNotF b6].toArray := by
    simp only [List.map_toArray, List.map_cons, List.map_nil, h1, h2, h3, h4, h5, h6]
    exact built64 _ _ _ _ _ _
  refine wpList_build hg 64 _ ho ?_ ?_
  · rw [e]; rfl
  · rw [e]; exact h

theorem ne_t {w : World} {g q : Nat} {a b : Array Value} (h : Blk w g 64 a) (h' : Blk w q 3 b) : q ≠ g := fun e => by
  subst e
  have := h.symm.trans h'
  injection this with this
  injection this with _ this
  cases this
theorem funs_one {a b c d e f : Nat} : ∀ v ∈ [Value.nilFunc, isF a, isNotF b, isF c, isNotF d, isF e, isNotF f], v.oneCell' = true := fun v hv => by
  simp only [List.mem_cons, List.not_mem_nil, or_false] at hv
  rcases hv with rfl | rfl | rfl | rfl | rfl | rfl | rfl <;> rfl

set_option maxRecDepth 100000 in
set_option maxHeartbeats 2000000 in
theorem testers_any (w : World) : Calls Try.prog 43 #[] w fun e w' => (∃ cs, e = .returned (.agg cs) ∧ Tst w' cs) ∧ Below w.heap.size w w' := by
  have t0 : Hid (Blk (w.alloc (.cells #[.nilFunc, .nilFunc, .nilFunc, .nilFunc, .nilFunc, .nilFunc, .nilFunc] 64)) w.heap.size 64 #[.nilFunc, .nilFunc, .nilFunc, .nilFunc, .nilFunc, .nilFunc, .nilFunc]) := Blk.new _ _ _
  have b0 : Hid (Below w.heap.size w (w.alloc (.cells #[.nilFunc, .nilFunc, .nilFunc, .nilFunc, .nilFunc, .nilFunc, .nilFunc] 64))) := (Below.refl _ w).alloc (Nat.le_refl _) _
  have i64 : (Try.prog.info? 64).map (·.size) = some 7 := by kernel_rfl
  have I64 := Lib.hid i64
  clear i64
  go_enter Try.func43, Try.ntmps43
  go_upto_region 3 with (fail)
  generalize w.alloc (.cells #[.nilFunc, .nilFunc, .nilFunc, .nilFunc, .nilFunc, .nilFunc, .nilFunc] 64) = w0 at *
  go_wp2_with fail
  refine (is_any _ _).mono ?_
  rintro e w1 ⟨rfl, h1, hb⟩
  have K1 := Lib.hid h1
  have t1 := Lib.hid (t0.out.below hb t0.out.lt)
  have b1 := Lib.hid (b0.out.trans (hb.mono b0.out.size))
  clear hb h1 t0 b0
  generalize w0.heap.size = q1 at *
  go_wp2_with fail
  refine (isNot_any _ _).mono ?_
  rintro e w2 ⟨rfl, h2, hb⟩
  have K2 := Lib.hid h2
  have t2 := Lib.hid (t1.out.below hb t1.out.lt)
  have b2 := Lib.hid (b1.out.trans (hb.mono b1.out.size))
  have K1 := Lib.hid (K1.out.below hb K1.out.lt)
  clear hb h2 t1 b1
  generalize w1.heap.size = q2 at *
  go_wp2_with fail
  refine (is_any _ _).mono ?_
  rintro e w3 ⟨rfl, h3, hb⟩
  have K3 := Lib.hid h3
  have t3 := Lib.hid (t2.out.below hb t2.out.lt)
  have b3 := Lib.hid (b2.out.trans (hb.mono b2.out.size))
  have K1 := Lib.hid (K1.out.below hb K1.out.lt)
  have K2 := Lib.hid (K2.out.below hb K2.out.lt)
  clear hb h3 t2 b2
  generalize w2.heap.size = q3 at *
  go_wp2_with fail
  refine (isNot_any _ _).mono ?_
  rintro e w4 ⟨rfl, h4, hb⟩
  have K4 := Lib.hid h4
  have t4 := Lib.hid (t3.out.below hb t3.out.lt)
  have b4 := Lib.hid (b3.out.trans (hb.mono b3.out.size))
  have K1 := Lib.hid (K1.out.below hb K1.out.lt)
  have K2 := Lib.hid (K2.out.below hb K2.out.lt)
  have K3 := Lib.hid (K3.out.below hb K3.out.lt)
  clear hb h4 t3 b3
  generalize w3.heap.size = q4 at *
  go_wp2_with fail
  refine (is_any _ _).mono ?_
  rintro e w5 ⟨rfl, h5, hb⟩
  have K5 := Lib.hid h5
  have t5 := Lib.hid (t4.out.below hb t4.out.lt)
  have b5 := Lib.hid (b4.out.trans (hb.mono b4.out.size))
  have K1 := Lib.hid (K1.out.below hb K1.out.lt)
  have K2 := Lib.hid (K2.out.below hb K2.out.lt)
  have K3 := Lib.hid (K3.out.below hb K3.out.lt)
  have K4 := Lib.hid (K4.out.below hb K4.out.lt)
  clear hb h5 t4 b4
  generalize w4.heap.size = q5 at *
  go_wp2_with fail
  refine (isNot_any _ _).mono ?_
  rintro e w6 ⟨rfl, h6, hb⟩
  have K6 := Lib.hid h6
  have t6 := Lib.hid (t5.out.below hb t5.out.lt)
  have b6 := Lib.hid (b5.out.trans (hb.mono b5.out.size))
  have K1 := Lib.hid (K1.out.below hb K1.out.lt)
  have K2 := Lib.hid (K2.out.below hb K2.out.lt)
  have K3 := Lib.hid (K3.out.below hb K3.out.lt)
  have K4 := Lib.hid (K4.out.below hb K4.out.lt)
  have K5 := Lib.hid (K5.out.below hb K5.out.lt)
  clear hb h6 t5 b5
  generalize w5.heap.size = q6 at *
  dsimp only
  rename_i K6 hK6
  refine hK6 _ _ ?_
  refine wpList_built64 q1 q2 q3 q4 q5 q6 rfl _ _ _ _ _ _ rfl rfl rfl rfl rfl rfl rfl ?_
  refine wpList_store_blk _ rfl 64 _ _ rfl w.heap.size _ 64 [.nilFunc, isF q1, isNotF q2, isF q3, isNotF q4, isF q5, isNotF q6] rfl rfl t6.out rfl I64.out funs_one ?_
  intro w7 hb7 ho7
  try simp only [Act.put, List.setIfInBounds_toArray, List.set_cons_zero, List.set_cons_succ]
  go_wp2
  exact bodyPost_ret (results_cell_row rfl _ _ w.heap.size 64 _ (0, 0) _ rfl hb7 Try.underlying64 rfl I64.out) rfl ⟨⟨_, rfl, fun i => if i = 1 then q1 else if i = 2 then q2 else if i = 3 then q3 else if i = 4 then q4 else if i = 5 then q5 else q6, rfl, ho7.keep K1.out (ne_t t6.out K1.out), ho7.keep K2.out (ne_t t6.out K2.out), ho7.keep K3.out (ne_t t6.out K3.out), ho7.keep K4.out (ne_t t6.out K4.out), ho7.keep K5.out (ne_t t6.out K5.out), ho7.keep K6.out (ne_t t6.out K6.out)⟩, b6.out.trans (ho7.below (Nat.le_refl _))⟩

end Go.Proofs.Ytndkoefchlclkaa
