/-
  Several texts in one: P0, P5.
-/
import Derived.Test.YtiipglmbfgmbbaaGreatDoorPkC
import Derived.MapKept
import Derived.Maps.Own
import Derived.Test.YtiipglmbfgmbbaaGreatDoorPkE
namespace Go.Proofs.YtiipglmbfgmbbaaGreatDoor
open Go.RowKit Go.Shelf
attribute [local go_sem] Oper.semAt_some

/-- The ops: the text; the rank, the kind and the number of each. -/
def opsL : List (List UInt8 × Nat × Nat × Nat) := [([79, 82], 1, 6, 0), ([65, 78, 68], 2, 5, 0), ([61], 3, 7, 1), ([60, 62], 3, 7, 2), ([60], 3, 7, 3), ([60, 61], 3, 7, 4), ([62], 3, 7, 5), ([62, 61], 3, 7, 6), ([43], 4, 8, 1), ([45], 4, 8, 2), ([42], 5, 8, 3), ([47], 5, 8, 4), ([37], 5, 8, 5)]
def opV (x : Nat × Nat × Nat) : Value := .agg #[.int .i64 (x.1 : Int), .int .i64 (x.2.1 : Int), .int .i64 (x.2.2 : Int)]
/-- The op that a text is; noughts, if none. -/
def opF (u : List UInt8) : Nat × Nat × Nat := match opsL.find? (fun x => x.1 == u) with
  | some x => x.2
  | none => (0, 0, 0)
def opE : List (List UInt8 × Nat × Nat × Nat) → Nat → List MapEntry
  | [], _ => []
  | x :: r, n => ⟨tx x.1, opV x.2, n⟩ :: opE r (n + 1)
theorem sameNow_tx (a b : List UInt8) : Instr.sameNow .string (tx a) (tx b) = some (a == b) := by
  obtain ⟨r, hr, hiff⟩ := MapKept.sameNow_of_keys (a := tx a) (b := tx b) (show MapKept.IsKey .string (tx a) from trivial) (show MapKept.IsKey .string (tx b) from trivial)
  -- ⟨r, hr, hiff⟩
  rw [hr]
  cases r with
  | true =>
    have := hiff.1 rfl
    injection this with h
    have h2 : a = b := by simpa using congrArg (fun x => x.data.toList) h
    simp [h2]
  | false =>
    have : ¬ a = b := fun e => by
      have := hiff.2 (by rw [e])
      cases this
    simp [this]
theorem find_opE (u : List UInt8) : ∀ (l : List (List UInt8 × Nat × Nat × Nat)) (n i : Nat), ∃ r, Instr.findNow .string (tx u) (opE l n) i = some r ∧ r.map (·.2) = (l.find? (fun x => x.1 == u)).map (fun x => opV x.2)
  | [], _, _ => ⟨none, rfl, rfl⟩
  | x :: r, n, i => by
    unfold opE Instr.findNow
    simp only [sameNow_tx]
    by_cases h : (x.1 == u) = true
    · have h' : (u == x.1) = true := by rw [beq_iff_eq] at h ⊢; exact h.symm
      have e : (x :: r).find? (fun x => x.1 == u) = some x := by rw [List.find?_cons]; simp only [h]
      rw [h', e]
      exact ⟨_, rfl, rfl⟩
    · have h' : (u == x.1) = false := by
        rw [beq_eq_false_iff_ne]
        intro e
        apply h
        rw [e]
        exact beq_self_eq_true _
      have e : (x :: r).find? (fun x => x.1 == u) = r.find? (fun x => x.1 == u) := by rw [List.find?_cons]; simp only [Bool.not_eq_true] at h; simp only [h]
      rw [h', e]
      exact find_opE u r (n + 1) (i + 1)
/-- The block of the table of ops. -/
def Mo (w : World) (m : Nat) : Prop := w.heap[m]? = some (.map (opE opsL 0).toArray 13)
/-- What is looked up in it. -/
theorem look_op {w : World} {m : Nat} (h : Mo w m) (u : List UInt8) : (Instr.lookup 72 (.map (some m)) (tx u) false).run Tryz.prog w = .ok (opV (opF u)) w := by
  obtain ⟨r, h1, h2⟩ := find_opE u opsL 0 0
  have hz : (zeroValue 111).run Tryz.prog w = .ok (opV (0, 0, 0)) w := by kernel_rfl
  have hk : MapKept.IsKey .string (tx u) := trivial
  unfold opF
  cases r with
  | none =>
    have : opsL.find? (fun x => x.1 == u) = none := by
      cases hf : opsL.find? (fun x => x.1 == u) with
      | none => rfl
      | some y => rw [hf] at h2; cases h2
    rw [this]
    simp [Instr.lookup, run_underlying Tryz.underlying72, MapKept.run_getObj_map h, MapKept.run_checkKey Tryz.underlying9 hk, MapKept.run_findKey Tryz.underlying9 h1, hz, Result.andThen]
  | some x =>
    cases hf : opsL.find? (fun x => x.1 == u) with
    | none => rw [hf] at h2; cases h2
    | some y =>
      rw [hf] at h2
      have e : x.2 = opV y.2 := by simpa using h2
      simp [Instr.lookup, run_underlying Tryz.underlying72, MapKept.run_getObj_map h, MapKept.run_checkKey Tryz.underlying9 hk, MapKept.run_findKey Tryz.underlying9 h1, hz, Result.andThen, e]
/-- One more entry. -/
theorem wpList_insert72 {w : World} {ops : Array Oper} {rest : List Oper} {o : Oper} {a : Act} {Q : Exit → Act → World → Prop} (hg : o.guard = none) (m x v : Operand) (hop : o.op = .insert 72 m x v)
    (g : Nat) (es : Array MapEntry) (k : Nat) (u : List UInt8) (y : Value) (hm : a.eval m = .map (some g)) (hx : a.eval x = tx u) (hv : a.eval v = y) (hb : w.heap[g]? = some (.map es k)) (hf : Instr.findNow .string (tx u) es.toList 0 = some none)
    (h : ∀ w', w'.heap[g]? = some (.map (es.push ⟨tx u, y, k⟩) (k + 1)) → Below g w w' → wpList Tryz.prog ops Q rest (a.put o.dst undef) w') : wpList Tryz.prog ops Q (o :: rest) a w := by
  refine wpList_plain hg fun K' hK' => ?_
  have hk : MapKept.IsKey .string (tx u) := trivial
  have hrun : (Instr.mapUpdate 72 (.map (some g)) (tx u) y).run Tryz.prog w = .ok () { w with heap := w.heap.setIfInBounds g (.map (es.push ⟨tx u, y, k⟩) (k + 1)) } := by
    simp [Instr.mapUpdate, run_underlying Tryz.underlying72, MapKept.run_getObj_map hb, MapKept.run_checkKey Tryz.underlying9 hk, MapKept.run_findKey Tryz.underlying9 hf, MapKept.run_setObj_map _ hb, Result.andThen]
  unfold Oper.wp
  simp [execOp, hop, hm, hx, hv, hrun, Result.andThen]
  refine hK' _ _ (h _ (MapKept.heap_set hb).1 ⟨rfl, rfl, rfl, by simp, fun j hj => (MapKept.heap_set hb).2 j (by omega)⟩)
set_option maxRecDepth 100000 in
set_option maxHeartbeats 4000000 in
theorem ops_any (w : World) : Calls Tryz.prog 27 #[] w fun e w' => e = .returned (.map (some w.heap.size)) ∧ Mo w' w.heap.size ∧ Below w.heap.size w w' := by
  obtain ⟨g, hg⟩ : ∃ g, w.heap.size = g := ⟨_, rfl⟩
  have MK : ∀ W : World, (Instr.makeMap 72 none).run Tryz.prog W = .ok (.map (some W.heap.size)) (W.alloc (.map #[] 0)) := fun _ => rfl
  have HB : Hid ((w.alloc (.map #[] 0)).heap[g]? = some (.map #[] 0)) := Lib.hid (by rw [← hg]; exact Array.getElem?_push_size)
  have HL : Hid (Below g w (w.alloc (.map #[] 0))) := Lib.hid (by rw [← hg]; exact (Below.refl _ _).alloc (Nat.le_refl _) _)
  go_enter Tryz.func27, Tryz.ntmps27
  go_wp2_with (refine wpList_insert72 rfl _ _ _ rfl g _ _ _ _ (by rw [← hg]; rfl) rfl rfl HB.out (by kernel_rfl) ?_; intro w' hb hl; replace HL := Lib.hid (HL.out.trans hl); replace HB := Lib.hid hb; clear hb hl)
  go_ret
  rw [hg]
  exact ⟨rfl, by unfold Mo; rw [HB.out]; rfl, HL.out⟩
end Go.Proofs.YtiipglmbfgmbbaaGreatDoor

namespace Go.Proofs.YtiipglmbfgmbbaaGreatDoor
open Go.RowKit Go.Shelf
attribute [local go_sem] Oper.semAt_some

/-- The op that stands next, and whether it is of that rank; then it is read. -/
def opX (L : List Tk) (E r : Nat) (rank : Nat) : (Nat × Nat × Nat) × Bool := (opF (tokAt L E r).text, decide ((opF (tokAt L E r).text).1 = rank) && ((tokAt L E r).kind == 1 || (tokAt L E r).kind == 5))
theorem isB_self (t : Tk) : isB t t.text = (t.kind == 1 || t.kind == 5) := by unfold isB; simp
theorem Tryz.i111 : (Tryz.prog.info? 111).map (·.size) = some 3 := by kernel_rfl
set_option maxRecDepth 100000 in
set_option maxHeartbeats 8000000 in
theorem op_any (rank m : Nat) (w : World) (base q c E r o : Nat) (A : Option Addr) (L : List Tk) (V : Value) (h : Pt w base q A c L E (.map (some m)) V r o) (hM : Mo w m) (hm : m < base) (hmq : m ≠ q) :
    Calls Tryz.prog 162 #[.pointer (some ⟨q, 0, none⟩), .int .i64 (rank : Int)] w fun e w' => e = .returned (.tuple #[opV (opX L E r rank).1, .bool (opX L E r rank).2]) ∧ Pt w' base q A c L E (.map (some m)) V (if (opX L E r rank).2 = true then r + 1 else r) o ∧ Fq w.heap.size q w w' := by
  obtain ⟨g, hg⟩ : ∃ g, w.heap.size = g := ⟨_, rfl⟩
  have b0 : Hid (Blk (w.alloc (.cells #[.int .i64 0, .int .i64 0, .int .i64 0] 111)) g 111 #[.int .i64 0, .int .i64 0, .int .i64 0]) := Lib.hid (by rw [← hg]; exact Blk.new _ _ _)
  have h0 : Hid (Below g w (w.alloc (.cells #[.int .i64 0, .int .i64 0, .int .i64 0] 111))) := Lib.hid (by rw [← hg]; exact (Below.refl _ _).alloc (Nat.le_refl _) _)
  have P1 := h.on (h0.out.mono (by omega))
  have NX := next_any _ base q c E r o A L _ V P1
  have PH := Lib.hid P1
  have hle := h.le
  have hlt0 := h.lt
  have hrd := h.rd
  have hmy := h.many
  have MH : Hid (∀ W, (∀ j, j < base → j ≠ q → W.heap[j]? = w.heap[j]?) → Mo W m) := Lib.hid (fun W hb => (hb m hm hmq).trans hM)
  have FD := Lib.hid (fun W (hP : Pt W base q A c L E (.map (some m)) V r o) => found_any (tokAt L E r).text W base q c E r o A L _ V hP)
  have IS := isB_self (tokAt L E r)
  unfold opX
  simp only
  obtain ⟨t, ht⟩ : ∃ t, tokAt L E r = t := ⟨_, rfl⟩
  rw [ht] at NX FD IS ⊢
  obtain ⟨⟨x1, x2, x3⟩, hx⟩ : ∃ x, opF t.text = x := ⟨_, rfl⟩
  have LK : ∀ W, Mo W m → (Instr.lookup 72 (.map (some m)) (tx t.text) false).run Tryz.prog W = .ok (.agg #[.int .i64 (x1 : Int), .int .i64 (x2 : Int), .int .i64 (x3 : Int)]) W := fun W hW => by rw [look_op hW, hx]; rfl
  have FL := field50_1t t
  have NH : Hid (Calls Tryz.prog 110 #[.pointer (some ⟨q, 0, none⟩)] (w.alloc (.cells #[.int .i64 0, .int .i64 0, .int .i64 0] 111)) fun e w' => e = .returned (.agg #[.int .i64 t.kind, tx t.text, .int .i64 t.num, .int .i64 (t.at_ : Int), .int .i64 (t.to_ : Int)]) ∧ Below (w.alloc (.cells #[.int .i64 0, .int .i64 0, .int .i64 0] 111)).heap.size (w.alloc (.cells #[.int .i64 0, .int .i64 0, .int .i64 0] 111)) w') := Lib.hid NX
  have hz : (w.alloc (.cells #[.int .i64 0, .int .i64 0, .int .i64 0] 111)).heap.size = g + 1 := by simp [hg]
  rw [hx]
  simp only
  obtain ⟨bb, hbb⟩ : ∃ b, (t.kind == 1 || t.kind == 5) = b := ⟨_, rfl⟩
  rw [hbb] at IS ⊢
  rw [IS] at FD
  have LKH := Lib.hid LK
  obtain ⟨YB, hYB⟩ : ∃ y, (decide (x1 = rank) && bb) = y := ⟨_, rfl⟩
  rw [hYB]
  have YH := Lib.hid hYB
  clear NX h P1 hx ht IS hbb hM LK hYB
  go_enter Tryz.func162, Tryz.ntmps162
  go_upto_region 1 with fail
  generalize w.alloc (.cells #[.int .i64 0, .int .i64 0, .int .i64 0] 111) = w1 at *
  go_upto_region 2 with (go_at_call 110; refine NH.out.mono ?_; rintro e w2 ⟨rfl, hb⟩; have P2 := Lib.hid (PH.out.on hb); have B2 : Hid (Blk w2 g 111 #[.int .i64 0, .int .i64 0, .int .i64 0]) := Lib.hid (b0.out.below hb b0.out.lt); have H2 := Lib.hid (h0.out.trans (hb.mono (by omega))); clear hb)
  have LK2 := LKH.out w2 (MH.out _ (fun j hj _ => H2.out.block j (by omega)))
  have xm : w2.cell? ⟨q, 3, none⟩ = some (.map (some m)) := P2.out.blk.cell 3
  go_upto_region 3 with fail
  have AL : Below w2.heap.size w2 (w2.alloc (.cells #[.int .i64 (x1 : Int), .int .i64 (x2 : Int), .int .i64 (x3 : Int)] 111)) := (Below.refl _ _).alloc (Nat.le_refl _) _
  have P5 := Lib.hid (P2.out.on AL)
  have F5 : Hid (Fq g q w (w2.alloc (.cells #[.int .i64 (x1 : Int), .int .i64 (x2 : Int), .int .i64 (x3 : Int)] 111)).drew) := Lib.hid (Fq.of ((H2.out.trans (AL.mono (by have := H2.out.size; omega))).trans (below_drewN' g _ 1)) (Nat.le_refl _))
  have B5 : Hid (Blk (w2.alloc (.cells #[.int .i64 (x1 : Int), .int .i64 (x2 : Int), .int .i64 (x3 : Int)] 111)).drew g 111 #[.int .i64 0, .int .i64 0, .int .i64 0]) := Lib.hid (B2.out.alloc _)
  have K5 : Hid (Blk (w2.alloc (.cells #[.int .i64 (x1 : Int), .int .i64 (x2 : Int), .int .i64 (x3 : Int)] 111)).drew w2.heap.size 111 #[.int .i64 (x1 : Int), .int .i64 (x2 : Int), .int .i64 (x3 : Int)]) := Lib.hid (Blk.new _ _ _)
  replace P5 : Hid (Pt (w2.alloc (.cells #[.int .i64 (x1 : Int), .int .i64 (x2 : Int), .int .i64 (x3 : Int)] 111)).drew base q A c L E (.map (some m)) V r o) := Lib.hid (P5.out.on ⟨rfl, rfl, rfl, Nat.le_refl _, fun _ _ => rfl⟩)
  have hgk : g < w2.heap.size := B2.out.lt
  have hqk : q < w2.heap.size := P2.out.blk.lt
  clear AL P2 H2 B2 LK2 xm
  generalize w2.heap.size = k at *
  generalize w2.alloc (.cells #[.int .i64 (x1 : Int), .int .i64 (x2 : Int), .int .i64 (x3 : Int)] 111) = w4 at *
  by_cases hrk : x1 = rank
  · have e1 : ((x1 : Int) == (rank : Int)) = true := by simp; omega
    obtain rfl : bb = YB := by have := YH.out; rw [decide_eq_true hrk, Bool.true_and] at this; exact this
    clear hrk
    cases bb with
    | false =>
      have FH := Lib.hid (FD.out _ P5.out)
      refine wp_region_noPanic ?_
      refine wp_region_held_drew (S := fun w' => w'.cell? ⟨k, 0, none⟩ = some (.int .i64 (x1 : Int)) ∧ w'.cell? ⟨k, 1, none⟩ = some (.int .i64 (x2 : Int)) ∧ w'.cell? ⟨k, 2, none⟩ = some (.int .i64 (x3 : Int))) (by kernel_rfl) ⟨K5.out.cell 0, K5.out.cell 1, K5.out.cell 2⟩ (fun hHeld => ?_)
      refine take_d (i := 0) (d := 19) (v := ?ob19) rfl rfl (by kernel_rfl) (by kernel_rfl) (by kernel_rfl) (fun _ _ _ h => h) (Or.inl ⟨by kernel_rfl, ?ob19h⟩) hHeld ?ob19n
      case ob19h => (intro w hSw; (try dsimp only at hSw); go_split_ands; go_simp; (try exact rfl))
      try simp only [Act.put, List.setIfInBounds_toArray, List.set_cons_zero, List.set_cons_succ]
      refine take_d (i := 1) (d := 20) (v := ?ob20) rfl rfl (by kernel_rfl) (by kernel_rfl) (by kernel_rfl) (fun _ _ _ h => h) (Or.inl ⟨by kernel_rfl, ?ob20h⟩) hHeld ?ob20n
      case ob20h => (intro w hSw; (try dsimp only at hSw); go_split_ands; go_simp; (try exact rfl))
      try simp only [Act.put, List.setIfInBounds_toArray, List.set_cons_zero, List.set_cons_succ]
      refine take_d (i := 2) (d := 21) (v := ?ob21) rfl rfl (by kernel_rfl) (by kernel_rfl) (by kernel_rfl) (fun _ _ _ h => h) (Or.inl ⟨by kernel_rfl, ?ob21h⟩) hHeld ?ob21n
      case ob21h => (intro w hSw; (try dsimp only at hSw); go_split_ands; go_simp; (try exact rfl))
      try simp only [Act.put, List.setIfInBounds_toArray, List.set_cons_zero, List.set_cons_succ]
      refine take_d (i := 3) (d := 22) (v := ?ob22) rfl rfl (by kernel_rfl) (by kernel_rfl) (by kernel_rfl) (fun _ _ _ h => h) (Or.inl ⟨by kernel_rfl, ?ob22h⟩) hHeld ?ob22n
      case ob22h => (intro w hSw; (try dsimp only at hSw); go_split_ands; go_simp; (try exact rfl))
      try simp only [Act.put, List.setIfInBounds_toArray, List.set_cons_zero, List.set_cons_succ]
      refine take_d (i := 4) (d := 23) (v := ?ob23) rfl rfl (by kernel_rfl) (by kernel_rfl) (by kernel_rfl) (fun _ _ _ h => h) (Or.inl ⟨by kernel_rfl, ?ob23h⟩) hHeld ?ob23n
      case ob23h => (intro w hSw; (try dsimp only at hSw); go_split_ands; go_simp; (try exact rfl))
      try simp only [Act.put, List.setIfInBounds_toArray, List.set_cons_zero, List.set_cons_succ]
      refine take_d (i := 5) (d := 24) (v := ?ob24) rfl rfl (by kernel_rfl) (by kernel_rfl) (by kernel_rfl) (fun _ _ _ h => h) (Or.inl ⟨by kernel_rfl, ?ob24h⟩) hHeld ?ob24n
      case ob24h => (intro w hSw; (try dsimp only at hSw); go_split_ands; go_simp; (try exact rfl))
      try simp only [Act.put, List.setIfInBounds_toArray, List.set_cons_zero, List.set_cons_succ]
      refine take_d (i := 6) (d := 25) (v := ?ob25) rfl rfl (by kernel_rfl) (by kernel_rfl) (by kernel_rfl) (fun _ _ _ h => h) (Or.inl ⟨by kernel_rfl, ?ob25h⟩) hHeld ?ob25n
      case ob25h => (intro w hSw; (try dsimp only at hSw); go_split_ands; go_simp; (try exact rfl))
      try simp only [Act.put, List.setIfInBounds_toArray, List.set_cons_zero, List.set_cons_succ]
      refine take_d (i := 7) (d := 26) (v := ?ob26) rfl rfl (by kernel_rfl) (by kernel_rfl) (by kernel_rfl) (fun _ _ _ h => h) (Or.inl ⟨by kernel_rfl, ?ob26h⟩) hHeld ?ob26n
      case ob26h => (intro w hSw; (try dsimp only at hSw); go_split_ands; go_simp; (try exact rfl))
      try simp only [Act.put, List.setIfInBounds_toArray, List.set_cons_zero, List.set_cons_succ]
      refine take_d (i := 8) (d := 27) (v := ?ob27) rfl rfl (by kernel_rfl) (by kernel_rfl) (by kernel_rfl) (fun _ _ _ h => h) (Or.inl ⟨by kernel_rfl, ?ob27h⟩) hHeld ?ob27n
      case ob27h => (intro w hSw; (try dsimp only at hSw); go_split_ands; go_simp; (try exact rfl))
      try simp only [Act.put, List.setIfInBounds_toArray, List.set_cons_zero, List.set_cons_succ]
      refine take_d (i := 9) (d := 28) (v := ?ob28) rfl rfl (by kernel_rfl) (by kernel_rfl) (by kernel_rfl) (fun _ _ _ h => h) (Or.inl ⟨by kernel_rfl, ?ob28h⟩) hHeld ?ob28n
      case ob28h => (intro w hSw; (try dsimp only at hSw); go_split_ands; go_simp; (try exact rfl))
      try simp only [Act.put, List.setIfInBounds_toArray, List.set_cons_zero, List.set_cons_succ]
      refine wpAnyH_ready (rs := [10]) (by kernel_rfl) (by simp) ?_
      refine AllReadyH.cons rfl (fun K hK => ?_) AllReadyH.nil
      go_simp
      refine FH.out.mono ?_
      rintro e w7 ⟨rfl, hP, hF⟩
      have P7 := Lib.hid hP
      have F7 := Lib.hid (F5.out.trans (hF.mono (by have := B5.out.lt; omega)))
      have B7 : Hid (Blk w7 g 111 #[.int .i64 0, .int .i64 0, .int .i64 0]) := Lib.hid ((hF.block g B5.out.lt (by omega)).trans B5.out)
      have K7 : Hid (Blk w7 k 111 #[.int .i64 (x1 : Int), .int .i64 (x2 : Int), .int .i64 (x3 : Int)]) := Lib.hid ((hF.block k K5.out.lt (by omega)).trans K5.out)
      clear hP hF
      refine hK.out _ _ (⟨K7.out.cell 0, K7.out.cell 1, K7.out.cell 2⟩) (fun hHeld => ?_)
      clear hK K
      try simp only [Act.put, List.setIfInBounds_toArray, List.set_cons_zero, List.set_cons_succ]
      refine take_d (i := 11) (d := 30) (v := ?ob30) rfl rfl (by kernel_rfl) (by kernel_rfl) (by kernel_rfl) (fun _ _ _ h => h) (Or.inl ⟨by kernel_rfl, ?ob30h⟩) hHeld ?ob30n
      case ob30h => (intro w hSw; (try dsimp only at hSw); go_split_ands; go_simp; (try exact rfl))
      try simp only [Act.put, List.setIfInBounds_toArray, List.set_cons_zero, List.set_cons_succ]
      refine wpAnyH_ready (rs := [12]) (by kernel_rfl) (by simp) ?_
      refine AllReadyH.cons rfl (fun K hK => ?_) AllReadyH.nil
      refine wp_store_none rfl 111 _ _ rfl g #[.int .i64 0, .int .i64 0, .int .i64 0] 111 [.int .i64 (x1 : Int), .int .i64 (x2 : Int), .int .i64 (x3 : Int)] rfl rfl B7.out rfl Tryz.i111 (by simp [Value.oneCell']) ?_
      intro w8 hb8 ho8
      have X8 := Lib.hid hb8
      have P8 := Lib.hid (P7.out.keep (ho8.below (by have := P7.out.le; omega)))
      have H8 := Lib.hid (F7.out.trans (Fq.of (q := q) (ho8.below (Nat.le_refl g)) (Nat.le_refl g)))
      have K8 : Hid (Blk w8 k 111 #[.int .i64 (x1 : Int), .int .i64 (x2 : Int), .int .i64 (x3 : Int)]) := Lib.hid (ho8.keep K7.out (by omega))
      refine hK.out _ _ ⟨K8.out.cell 0, K8.out.cell 1, K8.out.cell 2⟩ (fun hHeld => ?_)
      clear hK K hb8 ho8
      try simp only [Act.put, List.setIfInBounds_toArray, List.set_cons_zero, List.set_cons_succ]
      refine take_d (i := 13) (d := 5) (v := ?ob5) rfl rfl (by kernel_rfl) (by kernel_rfl) (by kernel_rfl) (fun _ _ _ h => h) (Or.inl ⟨by kernel_rfl, ?ob5h⟩) hHeld ?ob5n
      case ob5h => (intro w hSw; (try dsimp only at hSw); go_split_ands; go_simp; (try exact rfl))
      try simp only [Act.put, List.setIfInBounds_toArray, List.set_cons_zero, List.set_cons_succ]
      refine wpAnyH_done (by kernel_rfl) ?_ _
      refine NoPanic.normal ?_
      go_wp2_with fail
      exact bodyPost_ret (ret_cell_tmp rfl _ _ g 111 _ _ rfl X8.out Tryz.underlying111 rfl Tryz.i111) rfl ⟨rfl, P8.out, by first | exact H8.out | (rw [hg]; exact H8.out)⟩
    | true =>
      have FH := Lib.hid (FD.out _ P5.out)
      refine wp_region_noPanic ?_
      refine wp_region_held_drew (S := fun w' => w'.cell? ⟨k, 0, none⟩ = some (.int .i64 (x1 : Int)) ∧ w'.cell? ⟨k, 1, none⟩ = some (.int .i64 (x2 : Int)) ∧ w'.cell? ⟨k, 2, none⟩ = some (.int .i64 (x3 : Int))) (by kernel_rfl) ⟨K5.out.cell 0, K5.out.cell 1, K5.out.cell 2⟩ (fun hHeld => ?_)
      refine take_d (i := 0) (d := 19) (v := ?oc19) rfl rfl (by kernel_rfl) (by kernel_rfl) (by kernel_rfl) (fun _ _ _ h => h) (Or.inl ⟨by kernel_rfl, ?oc19h⟩) hHeld ?oc19n
      case oc19h => (intro w hSw; (try dsimp only at hSw); go_split_ands; go_simp; (try exact rfl))
      try simp only [Act.put, List.setIfInBounds_toArray, List.set_cons_zero, List.set_cons_succ]
      refine take_d (i := 1) (d := 20) (v := ?oc20) rfl rfl (by kernel_rfl) (by kernel_rfl) (by kernel_rfl) (fun _ _ _ h => h) (Or.inl ⟨by kernel_rfl, ?oc20h⟩) hHeld ?oc20n
      case oc20h => (intro w hSw; (try dsimp only at hSw); go_split_ands; go_simp; (try exact rfl))
      try simp only [Act.put, List.setIfInBounds_toArray, List.set_cons_zero, List.set_cons_succ]
      refine take_d (i := 2) (d := 21) (v := ?oc21) rfl rfl (by kernel_rfl) (by kernel_rfl) (by kernel_rfl) (fun _ _ _ h => h) (Or.inl ⟨by kernel_rfl, ?oc21h⟩) hHeld ?oc21n
      case oc21h => (intro w hSw; (try dsimp only at hSw); go_split_ands; go_simp; (try exact rfl))
      try simp only [Act.put, List.setIfInBounds_toArray, List.set_cons_zero, List.set_cons_succ]
      refine take_d (i := 3) (d := 22) (v := ?oc22) rfl rfl (by kernel_rfl) (by kernel_rfl) (by kernel_rfl) (fun _ _ _ h => h) (Or.inl ⟨by kernel_rfl, ?oc22h⟩) hHeld ?oc22n
      case oc22h => (intro w hSw; (try dsimp only at hSw); go_split_ands; go_simp; (try exact rfl))
      try simp only [Act.put, List.setIfInBounds_toArray, List.set_cons_zero, List.set_cons_succ]
      refine take_d (i := 4) (d := 23) (v := ?oc23) rfl rfl (by kernel_rfl) (by kernel_rfl) (by kernel_rfl) (fun _ _ _ h => h) (Or.inl ⟨by kernel_rfl, ?oc23h⟩) hHeld ?oc23n
      case oc23h => (intro w hSw; (try dsimp only at hSw); go_split_ands; go_simp; (try exact rfl))
      try simp only [Act.put, List.setIfInBounds_toArray, List.set_cons_zero, List.set_cons_succ]
      refine take_d (i := 5) (d := 24) (v := ?oc24) rfl rfl (by kernel_rfl) (by kernel_rfl) (by kernel_rfl) (fun _ _ _ h => h) (Or.inl ⟨by kernel_rfl, ?oc24h⟩) hHeld ?oc24n
      case oc24h => (intro w hSw; (try dsimp only at hSw); go_split_ands; go_simp; (try exact rfl))
      try simp only [Act.put, List.setIfInBounds_toArray, List.set_cons_zero, List.set_cons_succ]
      refine take_d (i := 6) (d := 25) (v := ?oc25) rfl rfl (by kernel_rfl) (by kernel_rfl) (by kernel_rfl) (fun _ _ _ h => h) (Or.inl ⟨by kernel_rfl, ?oc25h⟩) hHeld ?oc25n
      case oc25h => (intro w hSw; (try dsimp only at hSw); go_split_ands; go_simp; (try exact rfl))
      try simp only [Act.put, List.setIfInBounds_toArray, List.set_cons_zero, List.set_cons_succ]
      refine take_d (i := 7) (d := 26) (v := ?oc26) rfl rfl (by kernel_rfl) (by kernel_rfl) (by kernel_rfl) (fun _ _ _ h => h) (Or.inl ⟨by kernel_rfl, ?oc26h⟩) hHeld ?oc26n
      case oc26h => (intro w hSw; (try dsimp only at hSw); go_split_ands; go_simp; (try exact rfl))
      try simp only [Act.put, List.setIfInBounds_toArray, List.set_cons_zero, List.set_cons_succ]
      refine take_d (i := 8) (d := 27) (v := ?oc27) rfl rfl (by kernel_rfl) (by kernel_rfl) (by kernel_rfl) (fun _ _ _ h => h) (Or.inl ⟨by kernel_rfl, ?oc27h⟩) hHeld ?oc27n
      case oc27h => (intro w hSw; (try dsimp only at hSw); go_split_ands; go_simp; (try exact rfl))
      try simp only [Act.put, List.setIfInBounds_toArray, List.set_cons_zero, List.set_cons_succ]
      refine take_d (i := 9) (d := 28) (v := ?oc28) rfl rfl (by kernel_rfl) (by kernel_rfl) (by kernel_rfl) (fun _ _ _ h => h) (Or.inl ⟨by kernel_rfl, ?oc28h⟩) hHeld ?oc28n
      case oc28h => (intro w hSw; (try dsimp only at hSw); go_split_ands; go_simp; (try exact rfl))
      try simp only [Act.put, List.setIfInBounds_toArray, List.set_cons_zero, List.set_cons_succ]
      refine wpAnyH_ready (rs := [10]) (by kernel_rfl) (by simp) ?_
      refine AllReadyH.cons rfl (fun K hK => ?_) AllReadyH.nil
      go_simp
      refine FH.out.mono ?_
      rintro e w7 ⟨rfl, hP, hF⟩
      have P7 := Lib.hid hP
      have F7 := Lib.hid (F5.out.trans (hF.mono (by have := B5.out.lt; omega)))
      have B7 : Hid (Blk w7 g 111 #[.int .i64 0, .int .i64 0, .int .i64 0]) := Lib.hid ((hF.block g B5.out.lt (by omega)).trans B5.out)
      have K7 : Hid (Blk w7 k 111 #[.int .i64 (x1 : Int), .int .i64 (x2 : Int), .int .i64 (x3 : Int)]) := Lib.hid ((hF.block k K5.out.lt (by omega)).trans K5.out)
      clear hP hF
      refine hK.out _ _ (⟨K7.out.cell 0, K7.out.cell 1, K7.out.cell 2⟩) (fun hHeld => ?_)
      clear hK K
      try simp only [Act.put, List.setIfInBounds_toArray, List.set_cons_zero, List.set_cons_succ]
      refine take_d (i := 11) (d := 30) (v := ?oc30) rfl rfl (by kernel_rfl) (by kernel_rfl) (by kernel_rfl) (fun _ _ _ h => h) (Or.inl ⟨by kernel_rfl, ?oc30h⟩) hHeld ?oc30n
      case oc30h => (intro w hSw; (try dsimp only at hSw); go_split_ands; go_simp; (try exact rfl))
      try simp only [Act.put, List.setIfInBounds_toArray, List.set_cons_zero, List.set_cons_succ]
      refine wpAnyH_ready (rs := [12]) (by kernel_rfl) (by simp) ?_
      refine AllReadyH.cons rfl (fun K hK => ?_) AllReadyH.nil
      refine wp_store_none rfl 111 _ _ rfl g #[.int .i64 0, .int .i64 0, .int .i64 0] 111 [.int .i64 (x1 : Int), .int .i64 (x2 : Int), .int .i64 (x3 : Int)] rfl rfl B7.out rfl Tryz.i111 (by simp [Value.oneCell']) ?_
      intro w8 hb8 ho8
      have X8 := Lib.hid hb8
      have P8 := Lib.hid (P7.out.keep (ho8.below (by have := P7.out.le; omega)))
      have H8 := Lib.hid (F7.out.trans (Fq.of (q := q) (ho8.below (Nat.le_refl g)) (Nat.le_refl g)))
      have K8 : Hid (Blk w8 k 111 #[.int .i64 (x1 : Int), .int .i64 (x2 : Int), .int .i64 (x3 : Int)]) := Lib.hid (ho8.keep K7.out (by omega))
      refine hK.out _ _ ⟨K8.out.cell 0, K8.out.cell 1, K8.out.cell 2⟩ (fun hHeld => ?_)
      clear hK K hb8 ho8
      try simp only [Act.put, List.setIfInBounds_toArray, List.set_cons_zero, List.set_cons_succ]
      refine take_d (i := 13) (d := 5) (v := ?oc5) rfl rfl (by kernel_rfl) (by kernel_rfl) (by kernel_rfl) (fun _ _ _ h => h) (Or.inl ⟨by kernel_rfl, ?oc5h⟩) hHeld ?oc5n
      case oc5h => (intro w hSw; (try dsimp only at hSw); go_split_ands; go_simp; (try exact rfl))
      try simp only [Act.put, List.setIfInBounds_toArray, List.set_cons_zero, List.set_cons_succ]
      refine wpAnyH_done (by kernel_rfl) ?_ _
      refine NoPanic.normal ?_
      go_wp2_with fail
      exact bodyPost_ret (ret_cell_tmp rfl _ _ g 111 _ _ rfl X8.out Tryz.underlying111 rfl Tryz.i111) rfl ⟨rfl, P8.out, by first | exact H8.out | (rw [hg]; exact H8.out)⟩
  · have e1 : ((x1 : Int) == (rank : Int)) = false := by simp; omega
    obtain rfl : false = YB := by have := YH.out; rw [decide_eq_false hrk, Bool.false_and] at this; exact this
    clear hrk
    refine wp_region_noPanic ?_
    refine wp_region_held_drew (S := fun w' => w'.cell? ⟨k, 0, none⟩ = some (.int .i64 (x1 : Int)) ∧ w'.cell? ⟨k, 1, none⟩ = some (.int .i64 (x2 : Int)) ∧ w'.cell? ⟨k, 2, none⟩ = some (.int .i64 (x3 : Int))) (by kernel_rfl) ⟨K5.out.cell 0, K5.out.cell 1, K5.out.cell 2⟩ (fun hHeld => ?_)
    refine take_d (i := 0) (d := 19) (v := ?oa19) rfl rfl (by kernel_rfl) (by kernel_rfl) (by kernel_rfl) (fun _ _ _ h => h) (Or.inl ⟨by kernel_rfl, ?oa19h⟩) hHeld ?oa19n
    case oa19h => (intro w hSw; (try dsimp only at hSw); go_split_ands; go_simp; (try exact rfl))
    try simp only [Act.put, List.setIfInBounds_toArray, List.set_cons_zero, List.set_cons_succ]
    refine take_d (i := 1) (d := 20) (v := ?oa20) rfl rfl (by kernel_rfl) (by kernel_rfl) (by kernel_rfl) (fun _ _ _ h => h) (Or.inl ⟨by kernel_rfl, ?oa20h⟩) hHeld ?oa20n
    case oa20h => (intro w hSw; (try dsimp only at hSw); go_split_ands; go_simp; (try exact rfl))
    try simp only [Act.put, List.setIfInBounds_toArray, List.set_cons_zero, List.set_cons_succ]
    refine take_d (i := 2) (d := 21) (v := ?oa21) rfl rfl (by kernel_rfl) (by kernel_rfl) (by kernel_rfl) (fun _ _ _ h => h) (Or.inl ⟨by kernel_rfl, ?oa21h⟩) hHeld ?oa21n
    case oa21h => (intro w hSw; (try dsimp only at hSw); go_split_ands; go_simp; (try exact rfl))
    try simp only [Act.put, List.setIfInBounds_toArray, List.set_cons_zero, List.set_cons_succ]
    refine take_d (i := 3) (d := 22) (v := ?oa22) rfl rfl (by kernel_rfl) (by kernel_rfl) (by kernel_rfl) (fun _ _ _ h => h) (Or.inl ⟨by kernel_rfl, ?oa22h⟩) hHeld ?oa22n
    case oa22h => (intro w hSw; (try dsimp only at hSw); go_split_ands; go_simp; (try exact rfl))
    try simp only [Act.put, List.setIfInBounds_toArray, List.set_cons_zero, List.set_cons_succ]
    refine take_d (i := 4) (d := 23) (v := ?oa23) rfl rfl (by kernel_rfl) (by kernel_rfl) (by kernel_rfl) (fun _ _ _ h => h) (Or.inl ⟨by kernel_rfl, ?oa23h⟩) hHeld ?oa23n
    case oa23h => (intro w hSw; (try dsimp only at hSw); go_split_ands; go_simp; (try exact rfl))
    try simp only [Act.put, List.setIfInBounds_toArray, List.set_cons_zero, List.set_cons_succ]
    refine take_d (i := 5) (d := 24) (v := ?oa24) rfl rfl (by kernel_rfl) (by kernel_rfl) (by kernel_rfl) (fun _ _ _ h => h) (Or.inl ⟨by kernel_rfl, ?oa24h⟩) hHeld ?oa24n
    case oa24h => (intro w hSw; (try dsimp only at hSw); go_split_ands; go_simp; (try exact rfl))
    try simp only [Act.put, List.setIfInBounds_toArray, List.set_cons_zero, List.set_cons_succ]
    refine take_d (i := 6) (d := 25) (v := undef) rfl rfl (by kernel_rfl) (by kernel_rfl) (by kernel_rfl) (fun _ _ _ h => h) (Or.inr ⟨by kernel_rfl, rfl⟩) hHeld ?_
    try simp only [Act.put, List.setIfInBounds_toArray, List.set_cons_zero, List.set_cons_succ]
    refine take_d (i := 7) (d := 26) (v := undef) rfl rfl (by kernel_rfl) (by kernel_rfl) (by kernel_rfl) (fun _ _ _ h => h) (Or.inr ⟨by kernel_rfl, rfl⟩) hHeld ?_
    try simp only [Act.put, List.setIfInBounds_toArray, List.set_cons_zero, List.set_cons_succ]
    refine take_d (i := 8) (d := 27) (v := undef) rfl rfl (by kernel_rfl) (by kernel_rfl) (by kernel_rfl) (fun _ _ _ h => h) (Or.inr ⟨by kernel_rfl, rfl⟩) hHeld ?_
    try simp only [Act.put, List.setIfInBounds_toArray, List.set_cons_zero, List.set_cons_succ]
    refine take_d (i := 9) (d := 28) (v := undef) rfl rfl (by kernel_rfl) (by kernel_rfl) (by kernel_rfl) (fun _ _ _ h => h) (Or.inr ⟨by kernel_rfl, rfl⟩) hHeld ?_
    try simp only [Act.put, List.setIfInBounds_toArray, List.set_cons_zero, List.set_cons_succ]
    refine take_d (i := 10) (d := 29) (v := undef) rfl rfl (by kernel_rfl) (by kernel_rfl) (by kernel_rfl) (fun _ _ _ h => h) (Or.inr ⟨by kernel_rfl, rfl⟩) hHeld ?_
    try simp only [Act.put, List.setIfInBounds_toArray, List.set_cons_zero, List.set_cons_succ]
    refine take_d (i := 11) (d := 30) (v := ?oa30) rfl rfl (by kernel_rfl) (by kernel_rfl) (by kernel_rfl) (fun _ _ _ h => h) (Or.inl ⟨by kernel_rfl, ?oa30h⟩) hHeld ?oa30n
    case oa30h => (intro w hSw; (try dsimp only at hSw); go_split_ands; go_simp; (try exact rfl))
    try simp only [Act.put, List.setIfInBounds_toArray, List.set_cons_zero, List.set_cons_succ]
    refine wpAnyH_ready (rs := [12]) (by kernel_rfl) (by simp) ?_
    refine AllReadyH.cons rfl (fun K hK => ?_) AllReadyH.nil
    refine wp_store_none rfl 111 _ _ rfl g #[.int .i64 0, .int .i64 0, .int .i64 0] 111 [.int .i64 (x1 : Int), .int .i64 (x2 : Int), .int .i64 (x3 : Int)] rfl rfl B5.out rfl Tryz.i111 (by simp [Value.oneCell']) ?_
    intro w8 hb8 ho8
    have X8 := Lib.hid hb8
    have P8 := Lib.hid (P5.out.keep (ho8.below (by have := P5.out.le; omega)))
    have H8 := Lib.hid (F5.out.trans (Fq.of (q := q) (ho8.below (Nat.le_refl g)) (Nat.le_refl g)))
    have K8 : Hid (Blk w8 k 111 #[.int .i64 (x1 : Int), .int .i64 (x2 : Int), .int .i64 (x3 : Int)]) := Lib.hid (ho8.keep K5.out (by omega))
    refine hK.out _ _ ⟨K8.out.cell 0, K8.out.cell 1, K8.out.cell 2⟩ (fun hHeld => ?_)
    clear hK K hb8 ho8
    try simp only [Act.put, List.setIfInBounds_toArray, List.set_cons_zero, List.set_cons_succ]
    refine take_d (i := 13) (d := 5) (v := ?oa5) rfl rfl (by kernel_rfl) (by kernel_rfl) (by kernel_rfl) (fun _ _ _ h => h) (Or.inl ⟨by kernel_rfl, ?oa5h⟩) hHeld ?oa5n
    case oa5h => (intro w hSw; (try dsimp only at hSw); go_split_ands; go_simp; (try exact rfl))
    try simp only [Act.put, List.setIfInBounds_toArray, List.set_cons_zero, List.set_cons_succ]
    refine wpAnyH_done (by kernel_rfl) ?_ _
    refine NoPanic.normal ?_
    go_wp2_with fail
    exact bodyPost_ret (ret_cell_tmp rfl _ _ g 111 _ _ rfl X8.out Tryz.underlying111 rfl Tryz.i111) rfl ⟨rfl, P8.out, by first | exact H8.out | (rw [hg]; exact H8.out)⟩
end Go.Proofs.YtiipglmbfgmbbaaGreatDoor
