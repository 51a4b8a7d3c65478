/-
  The document's Bytes, of members that may be.
-/
import Derived.Test.YtfclppopelmdgaaDoorD1
namespace Go.Proofs.YtfclppopelmdgaaDoor
open Go.RowKit
attribute [local go_sem ↓] field27

theorem makeB (n : Nat) (hn : n ≤ 140737488355400) (W : World) : (Instr.makeSlice 48 (.int .i64 (n : Int)) (.int .i64 (n : Int))).run Tryd.prog W = .ok (.slice (some ⟨W.heap.size, 0, none⟩) n n) (W.alloc (.cells (madeCells #[.int .u8 0] n) 5)) := by
  obtain ⟨i0, hi, hz0, hz1, hz2⟩ := info_parts Tryd.info5
  have h := run_make (P := Tryd.prog) W 48 5 i0 (.int .u8 0) Tryd.underlying48 hi hz0 .i64 .i64 n n (by omega) (by omega) (by rw [hz2]; omega) (by omega)
  simp only [Int.toNat_natCast, hz1, Nat.mul_one] at h
  exact h
theorem makeI (n : Nat) (hn : n ≤ 10000000) (W : World) : (Instr.makeSlice 23 (.int .i64 (n : Int)) (.int .i64 (n : Int))).run Tryd.prog W = .ok (.slice (some ⟨W.heap.size, 0, none⟩) n n) (W.alloc (.cells (madeCells #[.int .i64 0] n) 3)) := by
  obtain ⟨i0, hi, hz0, hz1, hz2⟩ := info_parts Tryd.info3
  have h := run_make (P := Tryd.prog) W 23 3 i0 (.int .i64 0) Tryd.underlying23 hi hz0 .i64 .i64 n n (by omega) (by omega) (by rw [hz2]; omega) (by omega)
  simpa [hz1, Value.cells] using h
/-- The bytes when so many are written. -/
def bcs (n : Nat) (xs : List Int) (k : Nat) : List Int := (n : Int) :: (xs.take k ++ List.replicate (n - k) 0)
def BZ (l : List Int) : Array Value := (l.map (Value.int .u8)).toArray
theorem made_one (v : Value) (n : Nat) : madeCells #[v] n = (List.replicate n v).toArray := by
  apply Array.ext
  · simp [madeCells]
  · intro i h1 h2
    simp [madeCells, Nat.mod_one]
theorem bcs_zero (n : Nat) (xs : List Int) (_hn : n ≤ 5) : (madeCells #[.int .u8 0] (n + 1)).setIfInBounds 0 (.int .u8 (n : Int)) = BZ (bcs n xs 0) := by
  unfold bcs BZ
  rw [made_one, List.setIfInBounds_toArray, List.replicate_succ, List.set_cons_zero, List.take_zero, List.nil_append, List.map_cons, List.map_replicate, Nat.sub_zero]
theorem set_mid {α : Type} (l : List α) (z x : α) (m k : Nat) (h : l.length = k) : (l ++ List.replicate (m + 1) z).set k x = l ++ x :: List.replicate m z := by
  rw [List.set_append_right _ _ (by omega), h, Nat.sub_self]
  rfl
theorem bcs_succ {n : Nat} {xs : List Int} (hn : xs.length = n) {k : Nat} (hk : k < n) : (BZ (bcs n xs k)).setIfInBounds (k + 1) (.int .u8 (xs.getD k 0)) = BZ (bcs n xs (k + 1)) := by
  unfold BZ bcs
  rw [List.setIfInBounds_toArray, ← List.map_set]
  congr 2
  rw [List.set_cons_succ, show n - k = (n - (k + 1)) + 1 by omega, set_mid _ _ _ _ _ (by rw [List.length_take]; omega), List.take_succ_eq_append_getElem (by omega : k < xs.length), List.append_assoc]
  have e : xs.getD k 0 = xs[k]'(by omega) := by simp [List.getD, show k < xs.length by omega]
  rw [e]
  rfl
theorem bcs_end {n : Nat} {xs : List Int} (hn : xs.length = n) : bcs n xs n = (n : Int) :: xs := by
  unfold bcs
  rw [List.take_of_length_le (by omega), Nat.sub_self]
  simp
theorem bcs_size (n : Nat) (xs : List Int) (hn : xs.length = n) (k : Nat) (hk : k ≤ n) : (BZ (bcs n xs k)).size = n + 1 := by
  unfold BZ bcs
  simp
  omega
theorem encL_right {xs : List Int} (h : grp xs ≠ 0) : encL xs = (xs.length : Int) :: xs ∧ xs.length ≤ 5 ∧ ∀ j, 0 ≤ xs.getD j 0 ∧ xs.getD j 0 ≤ 5 := by
  have hx := of_grp h
  have hp : pop (grp xs) = xs.length := by unfold pop; rw [← hx]
  unfold encL
  rw [if_neg h, hp, ← hx]
  refine ⟨rfl, by rw [← hp]; exact pop_le _, fun j => ?_⟩
  by_cases hj : j < xs.length
  · have hm : xs.getD j 0 ∈ xs := by simp [List.getD, hj]
    rw [hx] at hm
    have hr := inG_range (mem_row.1 hm)
    rw [← hx] at hr
    omega
  · simp [List.getD, List.getElem?_eq_none (by omega : xs.length ≤ j)]
attribute [local go_sem ↓] makeB

set_option maxRecDepth 100000 in
set_option maxHeartbeats 4000000 in
theorem refbytes_any (A : Option Addr) (n c B : Nat) (xs : List Int) (w : World) (h : Is w B A n xs) (hB : B ≤ w.heap.size) (hr : grp xs ≠ 0) :
    Calls Tryd.prog 32 #[.agg #[.slice A n c]] w fun e w' => (∃ A' n' c', e = .returned (.slice A' n' c') ∧ By w' w'.heap.size A' n' (encL xs) ∧ n' ≤ 6) ∧ Below w.heap.size w w' := by
  obtain ⟨e1, e2, e3⟩ := encL_right hr
  rw [e1]
  have hl := h.1
  rw [hl] at e2 ⊢
  have HL := Lib.hid hl
  have H := Lib.hid (fun W (hW : Below w.heap.size w W) => (h.below (hW.mono hB)).2)
  have HX := Lib.hid e3
  have hn0 : (0 : Int) ≤ (n : Int) := by omega
  have hn5 : (n : Int) ≤ 5 := by omega
  obtain ⟨n1, hn1⟩ : ∃ n1, n1 = n + 1 := ⟨_, rfl⟩
  have mk : ∀ W : World, (Instr.makeSlice 48 (.int .i64 (1 + (n : Int))) (.int .i64 (1 + (n : Int)))).run Tryd.prog W = .ok (.slice (some ⟨W.heap.size, 0, none⟩) (n + 1) (n + 1)) (W.alloc (.cells (madeCells #[.int .u8 0] (n + 1)) 5)) := fun W => by
    have := makeB (n + 1) (by omega) W
    rw [show ((n + 1 : Nat) : Int) = 1 + (n : Int) by omega] at this
    exact this
  have HB : Hid (Below w.heap.size w ((w.alloc (.cells #[.slice A n c] 27)).alloc (.cells (BZ (bcs n xs 0)) 5))) := Lib.hid (((Below.refl _ _).alloc (Nat.le_refl _) _).alloc (by simp) _)
  have B0 : Hid (Blk ((w.alloc (.cells #[.slice A n c] 27)).alloc (.cells (BZ (bcs n xs 0)) 5)) w.heap.size 27 #[.slice A n c]) := Lib.hid ((Blk.new _ _ _).alloc _)
  have B1 : Hid (Blk ((w.alloc (.cells #[.slice A n c] 27)).alloc (.cells (BZ (bcs n xs 0)) 5)) (w.heap.size + 1) 5 (BZ (bcs n xs 0))) := Lib.hid (Blk.fresh (by simp))
  clear h hl e1 e3 hr
  go_enter Tryd.func32, Tryd.ntmps32
  go_upto_region 2 with (fail)
  have b1 : Blk ((w.alloc (.cells #[.slice A n c] 27)).alloc (.cells (madeCells #[.int .u8 0] (n + 1)) 5)) (w.heap.size + 1) 5 (madeCells #[.int .u8 0] (n + 1)) := Blk.fresh (by simp)
  have b0 : Blk ((w.alloc (.cells #[.slice A n c] 27)).alloc (.cells (madeCells #[.int .u8 0] (n + 1)) 5)) w.heap.size 27 #[.slice A n c] := (Blk.new _ _ _).alloc _
  have BZ0 := bcs_zero n xs (by omega)
  have x0 : ((w.alloc (.cells #[.slice A n c] 27)).alloc (.cells (madeCells #[.int .u8 0] (n + 1)) 5)).cell? ⟨w.heap.size, 0, none⟩ = some (.slice A n c) := b0.cell 0
  have x1 : ∃ v, ((w.alloc (.cells #[.slice A n c] 27)).alloc (.cells (madeCells #[.int .u8 0] (n + 1)) 5)).cell? ⟨w.heap.size + 1, 0, none⟩ = some v := by
    rw [b1.cell]
    have hs := congrArg Array.size BZ0
    rw [Array.size_setIfInBounds, bcs_size n xs HL.out 0 (Nat.zero_le _)] at hs
    exact ⟨_, Array.getElem?_eq_getElem (by omega)⟩
  obtain ⟨v0, x1⟩ := x1
  have f1 : ((w.alloc (.cells #[.slice A n c] 27)).alloc (.cells (madeCells #[.int .u8 0] (n + 1)) 5)).frozen? ⟨w.heap.size + 1, 0, none⟩ = false := b1.frozen 0
  have C0 : Blk (((w.alloc (.cells #[.slice A n c] 27)).alloc (.cells (madeCells #[.int .u8 0] (n + 1)) 5)).setCell ⟨w.heap.size + 1, 0, none⟩ (.int .u8 (n : Int))) w.heap.size 27 #[.slice A n c] := b0.far (by simp) _
  have C1 : Blk (((w.alloc (.cells #[.slice A n c] 27)).alloc (.cells (madeCells #[.int .u8 0] (n + 1)) 5)).setCell ⟨w.heap.size + 1, 0, none⟩ (.int .u8 (n : Int))) (w.heap.size + 1) 5 (BZ (bcs n xs 0)) := by rw [← BZ0]; exact b1.set_ 0 _
  have CB : Below w.heap.size w (((w.alloc (.cells #[.slice A n c] 27)).alloc (.cells (madeCells #[.int .u8 0] (n + 1)) 5)).setCell ⟨w.heap.size + 1, 0, none⟩ (.int .u8 (n : Int))) := (((Below.refl _ _).alloc (Nat.le_refl _) _).alloc (by simp) _).setCell (p := ⟨w.heap.size + 1, 0, none⟩) (by simp) _
  generalize (w.alloc (.cells #[.slice A n c] 27)).alloc (.cells (madeCells #[.int .u8 0] (n + 1)) 5) = W1 at *
  clear b0 b1 BZ0 mk HB B0 B1
  have hc0 : Hid True := Lib.hid trivial
  go_upto_region 3 with (fail)
  generalize W1.setCell ⟨w.heap.size + 1, 0, none⟩ (.int .u8 (n : Int)) = W2 at *
  have I0 := Lib.hid C0
  have I1 := Lib.hid C1
  have I2 := Lib.hid CB
  have x2 : W2.cell? ⟨w.heap.size, 0, none⟩ = some (.slice A n c) := C0.cell 0
  clear C0 C1 CB x0 x1 f1
  go_wp2
  go_loopw [20] (fun i wr => ∃ k : Nat, k ≤ n ∧ i = .int .i64 (k : Int) ∧ Hid (Blk wr (w.heap.size + 1) 5 (BZ (bcs n xs k))) ∧ Hid (Below w.heap.size w wr)) (fun i _ => n - (intOf i).toNat)
  case atStart => exact ⟨0, Nat.zero_le _, rfl, I1, I2⟩
  case round =>
    obtain ⟨k, hk, rfl, J1, JB⟩ := hrel
    by_cases hlt : k < n
    · obtain ⟨b, o, rfl, hb, hc⟩ := H.out _ JB.out (by omega)
      have c1 := hc k hlt
      have k0 : (0 : Int) ≤ (k : Int) := by omega
      obtain ⟨z0, z5⟩ := HX.out k
      have SU := Lib.hid (bcs_succ HL.out hlt)
      have d1 : ∃ v, wr.cell? ⟨w.heap.size + 1, 1 + k, none⟩ = some v := by
        rw [J1.out.cell]
        exact ⟨_, Array.getElem?_eq_getElem (by rw [bcs_size n xs HL.out k (by omega)]; omega)⟩
      obtain ⟨vv, d1⟩ := d1
      have e1 : wr.frozen? ⟨w.heap.size + 1, 1 + k, none⟩ = false := J1.out.frozen _
      clear hc
      generalize xs.getD k 0 = z at *
      have z255 : z ≤ 255 := by omega
      go_wp2
      go_roundw
      case rel =>
        refine ⟨k + 1, by omega, by go_num, Lib.hid ?_, Lib.hid (JB.out.setCell (p := ⟨w.heap.size + 1, 1 + k, none⟩) (by simp) _)⟩
        rw [← SU.out, Nat.add_comm k 1]
        exact J1.out.set_ (1 + k) _
      case measure => simp [intOf]; omega
    · obtain rfl : k = n := by omega
      go_wp2
      go_ret
      refine ⟨⟨_, k + 1, _, rfl, ?_, by omega⟩, JB.out⟩
      have h1 := J1.out
      rw [bcs_end HL.out] at h1
      refine (By.of_blk (n := k + 1) h1 (fun j => ?_) (by simp; exact HL.out)).more h1.lt
      cases j with
      | zero => simp; omega
      | succ j => have := HX.out j; simp only [List.getD_cons_succ]; omega
end Go.Proofs.YtfclppopelmdgaaDoor
