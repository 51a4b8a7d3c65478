/-
  The reckoners.
-/
import Derived.Test.YtndkoefchlclkaaV8
import Derived.Test.YtndkoefchlclkaaVW
import Derived.Laws.EntriesVeiled
namespace Go.Proofs.Ytndkoefchlclkaa
open Go.RowKit

/-- A reckoner's answer: a number, an error. -/
def Rk (v er : Int) (w : World) (e : Ending) (w' : World) : Prop := e = .returned (.tuple #[.int .i64 v, .int .i64 er]) ∧ w = w'

theorem nbz_any (f : FuncId) (w : World) : Calls Try.prog 75 #[.func (.func f) #[] #[]] w fun e w' => e = .returned (.func (.func 84) #[] #[.pointer (some ⟨w.heap.size, 0, none⟩)]) ∧ Blk w' w.heap.size 70 #[.func (.func f) #[] #[]] ∧ Below w.heap.size w w' := by
  go_enter Try.func75, Try.ntmps75
  go_wp2
  go_ret
  exact ⟨rfl, Blk.new _ _ _, (Below.refl _ _).alloc (Nat.le_refl _) _⟩
theorem zero_any (f : FuncId) (a : Int) (c : Nat) (w : World) (_h : Blk w c 70 #[.func (.func f) #[] #[]]) : Calls Try.prog 84 #[.int .i64 a, .int .i64 0, .pointer (some ⟨c, 0, none⟩)] w (Rk 0 152 w) := by
  go_enter Try.func84, Try.ntmps84
  go_wp2
  go_ret2
  exact ⟨rfl, rfl⟩
theorem quo_any (a b : Int) (c : Nat) (ha : I64 a) (hb : I64 b) (h0 : b ≠ 0) (w : World) (h : Blk w c 70 #[.func (.func 76) #[] #[]]) : Calls Try.prog 84 #[.int .i64 a, .int .i64 b, .pointer (some ⟨c, 0, none⟩)] w (Rk (ovN (a.tdiv b)) (ovE (a.tdiv b)) w) := by
  have c0 : w.cell? ⟨c, 0, none⟩ = some (.func (.func 76) #[] #[]) := h.cell 0
  have HD := Lib.hid (div_any a b ha hb h0 w)
  have h0' : (b == 0) = false := by simp [h0]
  clear h h0 ha hb
  unfold Rk
  generalize ovN (a.tdiv b) = v at *
  generalize ovE (a.tdiv b) = er at *
  go_enter Try.func84, Try.ntmps84
  go_wp2_with fail
  refine HD.out.mono ?_
  rintro e w' ⟨rfl, rfl⟩
  go_wp2
  go_ret2
  exact ⟨rfl, rfl⟩
theorem rest_any (a b : Int) (c : Nat) (h0 : b ≠ 0) (w : World) (h : Blk w c 70 #[.func (.func 77) #[] #[]]) : Calls Try.prog 84 #[.int .i64 a, .int .i64 b, .pointer (some ⟨c, 0, none⟩)] w (Rk (a.tmod b) 0 w) := by
  have c0 : w.cell? ⟨c, 0, none⟩ = some (.func (.func 77) #[] #[]) := h.cell 0
  have HD := Lib.hid (rem_any a b h0 w)
  have h0' : (b == 0) = false := by simp [h0]
  clear h h0
  unfold Rk
  generalize a.tmod b = v at *
  go_enter Try.func84, Try.ntmps84
  go_wp2_with fail
  refine HD.out.mono ?_
  rintro e w' ⟨rfl, rfl⟩
  go_wp2
  go_ret2
  exact ⟨rfl, rfl⟩

theorem reckons_any (k n : Int) (s : ByteArray) (w : World) : Calls Try.prog 47 #[.agg #[.int .i64 k, .int .i64 n, .string s]] w fun e w' => e = .returned (.bool (decide (k = 1 ∨ k = 3))) ∧ Below w.heap.size w w' := by
  have hb : Hid (Below w.heap.size w (w.alloc (.cells #[.int .i64 k, .int .i64 n, .string s] 23))) := (Below.refl _ _).alloc (Nat.le_refl _) _
  by_cases h1 : k = 1
  · subst h1
    go_enter Try.func47, Try.ntmps47
    go_wp2
    go_ret
    exact ⟨rfl, hb.out⟩
  · have h1' : (k == 1) = false := by simp [h1]
    by_cases h3 : k = 3
    · subst h3
      go_enter Try.func47, Try.ntmps47
      go_wp2
      go_ret
      exact ⟨rfl, hb.out⟩
    · have h3' : (k == 3) = false := by simp [h3]
      rw [show decide (k = 1 ∨ k = 3) = false from decide_eq_false (by omega)]
      clear h1 h3
      go_enter Try.func47, Try.ntmps47
      go_wp2
      go_ret
      exact ⟨rfl, hb.out⟩

theorem built71 (a b : Nat) : Try.prog.built 71 [(1, .func (.func 72) #[] #[]), (2, .func (.func 73) #[] #[]), (3, .func (.func 74) #[] #[]), (4, .func (.func 84) #[] #[.pointer (some ⟨a, 0, none⟩)]), (5, .func (.func 84) #[] #[.pointer (some ⟨b, 0, none⟩)])] = some #[.nilFunc, .func (.func 72) #[] #[], .func (.func 73) #[] #[], .func (.func 74) #[] #[], .func (.func 84) #[] #[.pointer (some ⟨a, 0, none⟩)], .func (.func 84) #[] #[.pointer (some ⟨b, 0, none⟩)]] := by kernel_rfl
/-- The reckoners' cells. -/
def rks (a b : Nat) : List Value := [.nilFunc, .func (.func 72) #[] #[], .func (.func 73) #[] #[], .func (.func 74) #[] #[], .func (.func 84) #[] #[.pointer (some ⟨a, 0, none⟩)], .func (.func 84) #[] #[.pointer (some ⟨b, 0, none⟩)]]
theorem rks_one {a b : Nat} : ∀ v ∈ rks a b, v.oneCell' = true := fun v hv => by
  simp only [rks, List.mem_cons, List.not_mem_nil, or_false] at hv
  rcases hv with rfl | rfl | rfl | rfl | rfl | rfl <;> rfl
theorem wpList_built71 {ops : Array Oper} {rest : List Oper} {o : Oper} {a : Act} {w : World} {Q : Exit → Act → World → Prop} (b1 b2 : Nat) (hg : o.guard = none) (x4 x5 : Operand) (ho : o.op = .build 71 #[(1, .func 72), (2, .func 73), (3, .func 74), (4, x4), (5, x5)])
    (h4 : a.eval x4 = .func (.func 84) #[] #[.pointer (some ⟨b1, 0, none⟩)]) (h5 : a.eval x5 = .func (.func 84) #[] #[.pointer (some ⟨b2, 0, none⟩)])
    (h : wpList Try.prog ops Q rest (a.put o.dst (.agg (rks b1 b2).toArray)) w) : wpList Try.prog ops Q (o :: rest) a w := by
  have e : Try.prog.built 71 ((#[(1, .func 72), (2, .func 73), (3, .func 74), (4, x4), (5, x5)] : Array (Nat × Operand)).map fun (i, x) => (i, a.eval x)).toList = some (rks b1 b2).toArray := by
    simp only [List.map_toArray, List.map_cons, List.map_nil, h4, h5]
    exact built71 _ _
  refine wpList_build hg 71 _ ho ?_ ?_
  · rw [e]; rfl
  · rw [e]; exact h

/-- The reckoners' values. -/
def Rks (w : World) (cs : Array Value) : Prop := ∃ a b : Nat, cs = (rks a b).toArray ∧ Blk w a 70 #[.func (.func 76) #[] #[]] ∧ Blk w b 70 #[.func (.func 77) #[] #[]]
theorem ne_u {w : World} {g q : Nat} {a b : Array Value} (h : Blk w g 71 a) (h' : Blk w q 70 b) : q ≠ g := fun e => by
  subst e
  have := h.symm.trans h'
  injection this with this
  injection this with _ this
  cases this

set_option maxRecDepth 100000 in
set_option maxHeartbeats 2000000 in
theorem reckoners_any (w : World) : Calls Try.prog 46 #[] w fun e w' => (∃ cs, e = .returned (.agg cs) ∧ Rks w' cs) ∧ Below w.heap.size w w' := by
  have t0 : Hid (Blk (w.alloc (.cells #[.nilFunc, .nilFunc, .nilFunc, .nilFunc, .nilFunc, .nilFunc] 71)) w.heap.size 71 #[.nilFunc, .nilFunc, .nilFunc, .nilFunc, .nilFunc, .nilFunc]) := Blk.new _ _ _
  have b0 : Hid (Below w.heap.size w (w.alloc (.cells #[.nilFunc, .nilFunc, .nilFunc, .nilFunc, .nilFunc, .nilFunc] 71))) := (Below.refl _ w).alloc (Nat.le_refl _) _
  have i71 : (Try.prog.info? 71).map (·.size) = some 6 := by kernel_rfl
  have I71 := Lib.hid i71
  clear i71
  go_enter Try.func46, Try.ntmps46
  go_upto_region 1 with (fail)
  generalize w.alloc (.cells #[.nilFunc, .nilFunc, .nilFunc, .nilFunc, .nilFunc, .nilFunc] 71) = w0 at *
  go_wp2_with fail
  refine (nbz_any _ _).mono ?_
  rintro e w1 ⟨rfl, h1, hb⟩
  have K1 := Lib.hid h1
  have t1 := Lib.hid (t0.out.below hb t0.out.lt)
  have b1 := Lib.hid (b0.out.trans (hb.mono b0.out.size))
  clear hb h1 t0 b0
  generalize w0.heap.size = q1 at *
  go_wp2_with fail
  refine (nbz_any _ _).mono ?_
  rintro e w2 ⟨rfl, h2, hb⟩
  have K2 := Lib.hid h2
  have t2 := Lib.hid (t1.out.below hb t1.out.lt)
  have b2 := Lib.hid (b1.out.trans (hb.mono b1.out.size))
  have K1 := Lib.hid (K1.out.below hb K1.out.lt)
  clear hb h2 t1 b1
  generalize w1.heap.size = q2 at *
  dsimp only
  rename_i K6 hK6
  refine hK6 _ _ ?_
  refine wpList_built71 q1 q2 rfl _ _ rfl rfl rfl ?_
  refine wpList_store_blk _ rfl 71 _ _ rfl w.heap.size _ 71 (rks q1 q2) rfl rfl t2.out rfl I71.out rks_one ?_
  intro w7 hb7 ho7
  try simp only [Act.put, List.setIfInBounds_toArray, List.set_cons_zero, List.set_cons_succ]
  go_wp2
  exact bodyPost_ret (results_cell_row rfl _ _ w.heap.size 71 _ (0, 0) _ rfl hb7 Try.underlying71 rfl I71.out) rfl ⟨⟨_, rfl, q1, q2, rfl, ho7.keep K1.out (ne_u t2.out K1.out), ho7.keep K2.out (ne_u t2.out K2.out)⟩, b2.out.trans (ho7.below (Nat.le_refl _))⟩

end Go.Proofs.Ytndkoefchlclkaa
