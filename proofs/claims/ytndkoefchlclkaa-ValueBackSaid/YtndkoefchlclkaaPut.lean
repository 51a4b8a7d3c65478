/-
  What Put16, Put32 and Put64 answer: the bytes, and behind them those of the number, in memory of their own.
-/
import Derived.Test.YtndkoefchlclkaaClone
import Derived.Laws.CopyOwn
namespace Go.Proofs.Ytndkoefchlclkaa
open Go.RowKit

/-- The bytes of a number, the highest first. -/
def be (s : Nat) (x : Int) : List Int := (List.range s).map fun i => (x / ((256 ^ (s - 1 - i) : Nat) : Int)) % 256
theorem be_len (s : Nat) (x : Int) : (be s x).length = s := by simp [be]
theorem be_bs (s : Nat) (x : Int) : Bs (be s x) := fun j => by
  unfold be List.getD
  rw [List.getElem?_map]
  cases (List.range s)[j]? with
  | none => simp
  | some i => simp only [Option.map_some, Option.getD_some]; omega
theorem Bs.append {xs ys : List Int} (h : Bs xs) (h' : Bs ys) : Bs (xs ++ ys) := fun j => by
  unfold List.getD
  rw [List.getElem?_append]
  split
  · exact h j
  · exact h' _

/-- The row as the loop has filled it. -/
def rowL (zs : List Int) (x : Int) (s j : Nat) : List Value := (zs ++ (be s x).take j ++ List.replicate (s - j) 0).map (Value.int .u8)
def rowA (zs : List Int) (x : Int) (s j : Nat) : Array Value := (rowL zs x s j).toArray
theorem rowA_full (zs : List Int) (x : Int) (s : Nat) : rowA zs x s s = ((zs ++ be s x).map (Value.int .u8)).toArray := by
  unfold rowA rowL
  rw [List.take_of_length_le (by rw [be_len]; exact Nat.le_refl _)]
  simp
theorem rowA_step (zs : List Int) (x : Int) (s j n : Nat) (hn : zs.length = n) (hj : j < s) (v : Int) (hv : v = (x / ((256 ^ (s - 1 - j) : Nat) : Int)) % 256) :
    (rowA zs x s j).setIfInBounds (n + j) (.int .u8 v) = rowA zs x s (j + 1) := by
  subst hn hv
  unfold rowA rowL
  have e1 : (be s x).take (j + 1) = (be s x).take j ++ [(x / ((256 ^ (s - 1 - j) : Nat) : Int)) % 256] := by
    rw [List.take_succ_eq_append_getElem (by rw [be_len]; exact hj)]
    simp [be]
  have e2 : List.replicate (s - j) (0 : Int) = 0 :: List.replicate (s - (j + 1)) 0 := by
    rw [← List.replicate_succ]; congr 1; omega
  rw [e1, e2]
  have hl : ((be s x).take j).length = j := by rw [List.length_take, be_len]; omega
  generalize (be s x).take j = L at hl
  generalize (x / ((256 ^ (s - 1 - j) : Nat) : Int)) % 256 = u
  subst hl
  simp only [List.setIfInBounds_toArray, List.map_append, List.map_cons, List.append_assoc, List.map_nil]
  congr 1
  rw [List.set_append_right _ _ (by simp), List.set_append_right _ _ (by simp)]
  simp
theorem rowA_at (zs : List Int) (x : Int) (s j n : Nat) (hn : zs.length = n) (hj : j < s) : (rowA zs x s j)[n + j]? = some (.int .u8 0) := by
  subst hn
  have hl : ((be s x).take j).length = j := by rw [List.length_take, be_len]; omega
  unfold rowA rowL
  generalize (be s x).take j = L at hl
  subst hl
  simp only [List.getElem?_toArray, List.getElem?_map, List.append_assoc]
  rw [List.getElem?_append_right (by omega), List.getElem?_append_right (by omega), List.getElem?_replicate, if_pos (by omega)]
  rfl

theorem makeB (n : Nat) (hn : n ≤ 140737488355400) (W : World) : (Instr.makeSlice 44 (.int .i64 (n : Int)) (.int .i64 (n : Int))).run Try.prog W = .ok (.slice (some ⟨W.heap.size, 0, none⟩) n n) (W.alloc (.cells (madeCells #[.int .u8 0] n) 5)) := by
  obtain ⟨i0, hi, hz0, hz1, hz2⟩ := info_parts Try.info5
  have h := run_make (P := Try.prog) W 44 5 i0 (.int .u8 0) Try.underlying44 hi hz0 .i64 .i64 n n (by omega) (by omega) (by rw [hz2]; omega) (by omega)
  simp only [Int.toNat_natCast, hz1, Nat.mul_one] at h
  exact h

theorem src_of {w : World} {B : Nat} {A : Option Addr} {n : Nat} {zs : List Int} (h : By w B A n zs) (o : Obj) :
    Hid (0 < (zs.map (Value.int .u8)).length → ∃ ad, A = some ad ∧ ∀ j v, (zs.map (Value.int .u8))[j]? = some v → (w.alloc o).cell? (ad.add j) = some v) := by
  intro hp
  obtain ⟨b, o', rfl, _, hc⟩ := h.2.2 (by rw [List.length_map, h.1] at hp; exact hp)
  refine ⟨_, rfl, fun j v hj => ?_⟩
  have hjn : j < n := by
    have := (List.getElem?_eq_some_iff.1 hj).1
    rw [List.length_map, h.1] at this
    exact this
  refine Lib.cell?_alloc_some _ ?_
  have e : (⟨b, o', none⟩ : Addr).add j = ⟨b, o' + j, none⟩ := by by_cases h0 : j = 0 <;> simp [Addr.add, h0]
  rw [e, hc j hjn, ← hj]
  have := h.1
  simp [List.getD, List.getElem?_eq_getElem (show j < zs.length by omega)]

theorem made_row (w : World) (n : Nat) : Hid ((w.alloc (.cells (madeCells #[.int .u8 0] n) 5)).heap[w.heap.size]? = some (.cells (List.replicate n (.int .u8 0)).toArray 5 (0, 0))) := by
  have e : (madeCells #[Value.int .u8 0] n) = (List.replicate n (.int .u8 0)).toArray := by rw [← toList_madeCells_one]
  rw [e]
  exact heap_alloc_new w _
theorem rowA_zero (zs : List Int) (x : Int) (s n : Nat) (hn : zs.length = n) : rowA zs x s 0 = (splice (List.replicate (n + s) (Value.int .u8 0)) 0 (zs.map (Value.int .u8))).toArray := by
  subst hn
  simp [rowA, rowL, splice]

theorem pow_256 (a : Nat) : (2 : Int) ^ (8 * a) = ((256 ^ a : Nat) : Int) := by
  rw [show (256 : Nat) = 2 ^ 8 from rfl, ← Nat.pow_mul, Int.natCast_pow]
  rfl

/-- What a put leaves. -/
def Putted (w : World) (n s : Nat) (zs : List Int) (x : Int) (e : Ending) (w' : World) : Prop :=
  e = .returned (.slice (some ⟨w.heap.size, 0, none⟩) (n + s) (n + s)) ∧ Blk w' w.heap.size 5 ((zs ++ be s x).map (Value.int .u8)).toArray ∧ Below w.heap.size w w'



set_option maxRecDepth 100000 in set_option maxHeartbeats 400000 in
theorem put64_any (A : Option Addr) (n c : Nat) (zs : List Int) (x : Int) (w : World) (B : Nat) (h : By w B A n zs) (hn : n ≤ 140737488355328) (_hx : 0 ≤ x ∧ x < 18446744073709551616) :
    Calls Try.prog 81 #[.slice A n c, .int .u64 x, .int .i64 8] w (Putted w n 8 zs x) := by
  have hmk := makeB (n + 8) (by omega)
  rw [show (((n + 8 : Nat)) : Int) = (n : Int) + 8 by omega] at hmk
  have hsz : (Try.prog.info? 5).map (·.size) = some 1 := by kernel_rfl
  have hl := Lib.hid h.1
  have H := Lib.hid h
  have hld := Lib.hid (show ((zs.map (Value.int .u8))).length = Nat.min n (n + 8) by rw [List.length_map, h.1]; exact (Nat.min_eq_left (by omega)).symm)
  have hsrc := src_of h (.cells (madeCells #[.int .u8 0] (n + 8)) 5)
  have ha1 : Hid ((w.alloc (.cells (madeCells #[.int .u8 0] (n + 8)) 5)).heap[w.heap.size]? = some (.cells (List.replicate (n + 8) (.int .u8 0)).toArray 5 (0, 0))) := made_row w (n + 8)
  have ha4 : Hid (0 + (zs.map (Value.int .u8)).length ≤ (List.replicate (n + 8) (Value.int .u8 0)).length) := show _ ≤ _ by rw [List.length_map, h.1, List.length_replicate]; omega
  have ha6 : Hid (Below w.heap.size w (w.alloc (.cells (madeCells #[.int .u8 0] (n + 8)) 5))) := (Below.refl _ _).alloc (Nat.le_refl _) _
  clear h
  go_enter Try.func81, Try.ntmps81
  go_wp2_with (with_reducible refine wpList_copy_splice rfl (.tmp 14) (.tmp 15) 44 44 rfl 5 Try.underlying44 hsz (some ⟨w.heap.size, 0, none⟩) A (n + 8) (n + 8) n c rfl rfl w.heap.size 0 (List.replicate (n + 8) (.int .u8 0)) 5 ha1.out (zs.map (Value.int .u8)) hld.out (fun hp => ⟨rfl, hsrc.out hp⟩) ha4.out (ints_oneCell _ _) w.heap.size w ha6.out (Nat.le_refl _) ?_; intro w2 HG hB2)
  have G0 : Hid (Blk w2 w.heap.size 5 (rowA zs x 8 0)) := by rw [rowA_zero zs x 8 n hl.out]; exact HG.out
  clear HG ha1 ha4 ha6 hsrc hld hmk
  go_loopw [18] (fun i wr => ∃ j : Nat, j ≤ 8 ∧ i = .int .i64 j ∧ Blk wr w.heap.size 5 (rowA zs x 8 j) ∧ Below w.heap.size w wr) (fun i _ => 8 - (intOf i).toNat)
  case atStart => exact ⟨0, Nat.zero_le _, rfl, G0.out, hB2⟩
  case round =>
    obtain ⟨j, hj, rfl, hblk, hbel⟩ := hrel
    by_cases hlt : j < 8
    · have hcell : wr.cell? ⟨w.heap.size, n + j, none⟩ = some (.int .u8 0) := (hblk.cell _).trans (rowA_at zs x 8 j n hl.out hlt)
      have hfr := hblk.frozen (n + j)
      have HB := Lib.hid hblk
      clear hblk G0 hB2
      go_wp2
      go_roundw
      case rel =>
        refine ⟨j + 1, by omega, by go_num, ?_, hbel.setCell (Nat.le_refl _) _⟩
        have := HB.out.set_ (n + j) (.int .u8 (x / 2 ^ (8 * (7 - j)) % 256))
        rwa [rowA_step zs x 8 j n hl.out hlt _ (by rw [pow_256])] at this
      case measure => simp [intOf]; omega
    · have hj2 : j = 8 := by omega
      subst hj2
      have HB := Lib.hid hblk
      clear hblk G0 hB2
      go_wp2
      go_ret
      exact ⟨rfl, by have := HB.out; rwa [rowA_full] at this, hbel⟩

theorem Put64_any (A : Option Addr) (n c : Nat) (zs : List Int) (x : Int) (w : World) (B : Nat) (h : By w B A n zs) (hn : n ≤ 140737488355328) (hx : 0 ≤ x ∧ x < 18446744073709551616) :
    Calls Try.prog 60 #[.slice A n c, .int .u64 x] w (Putted w n 8 zs x) := by
  go_enter Try.func60, Try.ntmps60
  go_wp2_with (go_at_call 81; refine (put64_any A n c zs x w B h hn hx).mono ?_; rintro e w' ⟨rfl, hb, hbel⟩)
  go_ret
  exact ⟨rfl, hb, hbel⟩

end Go.Proofs.Ytndkoefchlclkaa
