/-
  What the document's High and Both answer.
-/
import Derived.Test.YtndkoefchlclkaaCounts
import Derived.Test.YtndkoefchlclkaaOrder
import Derived.Test.YtndkoefchlclkaaTells
namespace Go.Proofs.Ytndkoefchlclkaa
open Go.RowKit

/-- The row as High has filled it from its end. -/
def rowH (x s t : Nat) : List Int := List.replicate (s - t) 0 ++ (be s (x : Int)).drop (s - t)
theorem rowH_len (x s t : Nat) (h : t ≤ s) : (rowH x s t).length = s := by
  simp only [rowH, List.length_append, List.length_replicate, List.length_drop, be_len]
  omega
theorem be_at (s x i : Nat) (h : i < s) : (be s (x : Int)).getD i 0 = ((x / 256 ^ (s - 1 - i) % 256 : Nat) : Int) := by
  simp only [be, List.getD, List.getElem?_map, List.getElem?_range h, Option.map_some, Option.getD_some]
  rw [Int.natCast_emod, Int.natCast_ediv]
  rfl
theorem rowH_step (x s t : Nat) (h : t < s) : (rowH x s t).set (s - 1 - t) ((x / 256 ^ t % 256 : Nat) : Int) = rowH x s (t + 1) := by
  unfold rowH
  have e1 : List.replicate (s - t) (0 : Int) = List.replicate (s - (t + 1)) 0 ++ [0] := by
    rw [← List.replicate_succ']; congr 1; omega
  have hd : s - (t + 1) < (be s (x : Int)).length := by rw [be_len]; omega
  have e2 : (be s (x : Int)).drop (s - (t + 1)) = ((x / 256 ^ t % 256 : Nat) : Int) :: (be s (x : Int)).drop (s - t) := by
    rw [List.drop_eq_getElem_cons hd]
    have := be_at s x (s - (t + 1)) (by omega)
    simp only [List.getD, List.getElem?_eq_getElem hd, Option.getD_some] at this
    rw [this, show s - 1 - (s - (t + 1)) = t by omega, show s - (t + 1) + 1 = s - t by omega]
  rw [e1, e2, List.append_assoc, List.set_append_right _ _ (by simp; omega)]
  simp only [List.length_replicate]
  rw [show s - 1 - t - (s - (t + 1)) = 0 by omega]
  rfl
theorem rowH_zero (x s : Nat) : rowH x s 0 = List.replicate s 0 := by
  unfold rowH
  rw [Nat.sub_zero, List.drop_of_length_le (by rw [be_len]; exact Nat.le_refl _), List.append_nil]
theorem rowH_full (x s : Nat) : rowH x s s = be s (x : Int) := by simp [rowH]
theorem rowH_bs (x s t : Nat) : Bs (rowH x s t) := by
  refine Bs.append (fun j => ?_) ((be_bs s x).drop _)
  simp only [List.getD, List.getElem?_replicate]
  split <;> simp

/-- A block of bytes. -/
def Row8 (w : World) (g : Nat) (zs : List Int) : Prop := Blk w g 5 (zs.map (Value.int .u8)).toArray
theorem Row8.store {w : World} {g : Nat} {zs : List Int} (h : Row8 w g zs) (t : Nat) (v : Int) : Row8 (w.setCell ⟨g, t, none⟩ (.int .u8 v)) g (zs.set t v) := by
  have := Blk.set_ h t (.int .u8 v)
  unfold Row8
  rw [List.map_set]
  simpa using this

set_option maxHeartbeats 1000000 in
theorem high_any (x s : Nat) (w : World) (hx : x < 18446744073709551616) (hs : s ≤ 8) :
    Calls Try.prog 63 #[.int .u64 x, .int .i64 s] w fun e w' => e = .returned (.slice (some ⟨w.heap.size, 0, none⟩) s s) ∧ Row8 w' w.heap.size (be s (x : Int)) ∧ Below w.heap.size w w' := by
  have hmk := makeB s (by omega)
  have hr0 := Lib.hid (show Row8 (w.alloc (.cells (madeCells #[.int .u8 0] s) 5)) w.heap.size (rowH x s 0) by
    rw [rowH_zero]
    have := (made_row w s).out
    unfold Row8 Blk
    rw [List.map_replicate]
    exact this)
  have hb0 : Below w.heap.size w (w.alloc (.cells (madeCells #[.int .u8 0] s) 5)) := (Below.refl _ _).alloc (Nat.le_refl _) _
  go_enter Try.func63, Try.ntmps63
  go_wp2_with fail
  go_loopw [0, 6] (fun v i wr => ∃ t : Nat, t ≤ s ∧ v = .int .u64 ((x / 256 ^ t : Nat) : Int) ∧ i = .int .i64 ((s : Int) - 1 - t) ∧ Row8 wr w.heap.size (rowH x s t) ∧ Below w.heap.size w wr) (fun _ i _ => (intOf i + 1).toNat)
  case atStart => exact ⟨0, Nat.zero_le _, by simp, by simp, hr0.out, hb0⟩
  case round =>
    clear hr0 hb0 hmk
    obtain ⟨t, ht, rfl, rfl, hrow, hb⟩ := hrel
    by_cases hlt : t < s
    · have hcell : wr.cell? ⟨w.heap.size, s - 1 - t, none⟩ = some (.int .u8 ((rowH x s t).getD (s - 1 - t) 0)) := by
        have hl := rowH_len x s t ht
        rw [Blk.cell hrow (s - 1 - t)]
        simp [List.getD, List.getElem?_eq_getElem (show s - 1 - t < (rowH x s t).length by omega)]
      have hfr := Blk.frozen hrow (s - 1 - t)
      have hst := Lib.hid (hrow.store (s - 1 - t) ((x / 256 ^ t % 256 : Nat) : Int))
      rw [rowH_step x s t hlt] at hst
      have hY : x / 256 ^ t < 18446744073709551616 := Nat.lt_of_le_of_lt (Nat.div_le_self _ _) hx
      have hdv := Lib.hid (show x / 256 ^ t / 256 = x / 256 ^ (t + 1) by rw [Nat.div_div_eq_div_mul, Nat.pow_succ])
      generalize x / 256 ^ t = Y at *
      generalize (rowH x s t).getD (s - 1 - t) 0 = z at *
      have hu : s - 1 - t ≤ 7 := by omega
      have hus : s - 1 - t < s := by omega
      have hpos : (0 : Int) ≤ (s : Int) - 1 - t := by omega
      have ei : (s : Int) - 1 - t = ((s - 1 - t : Nat) : Int) := by omega
      have HT := Lib.hid (show (s - 1 - t) + t + 1 = s by omega)
      clear hrow
      rw [ei]
      clear ei hpos
      generalize s - 1 - t = u at *
      go_wp2
      go_roundw
      case rel =>
        refine ⟨t + 1, by omega, ?_, ?_, ?_, hb.setCell (Nat.le_refl _) _⟩
        · rw [← hdv.out]; go_num
        · have := HT.out; go_num
        · have := hst.out
          rwa [Int.natCast_emod] at this
      case measure => simp [intOf]
    · have hts : t = s := by omega
      subst hts
      rw [rowH_full] at hrow
      have HR := Lib.hid hrow
      clear hrow
      go_wp2
      go_ret
      exact ⟨rfl, HR.out, hb⟩

theorem makeC (n : Nat) (hn : n ≤ 140737488355400) (W : World) : (Instr.makeSlice 44 (.int .i64 0) (.int .i64 (n : Int))).run Try.prog W = .ok (.slice (some ⟨W.heap.size, 0, none⟩) 0 n) (W.alloc (.cells (madeCells #[.int .u8 0] n) 5)) := by
  obtain ⟨i0, hi, hz0, hz1, hz2⟩ := info_parts Try.info5
  have h := run_make (P := Try.prog) W 44 5 i0 (.int .u8 0) Try.underlying44 hi hz0 .i64 .i64 0 n (by omega) (by omega) (by rw [hz2]; omega) (by omega)
  simp only [Int.toNat_natCast, hz1, Nat.mul_one] at h
  exact h

set_option maxHeartbeats 1000000 in
theorem both_any (A : Option Addr) (n c : Nat) (xs : List Int) (A' : Option Addr) (m d : Nat) (ys : List Int) (w : World) (B : Nat) (hx : By w B A n xs) (hc : A = none → c = 0) (hy : By w B A' m ys) (hd : A' = none → d = 0) (hB : B ≤ w.heap.size) (hn : n ≤ 100000) (hm : m ≤ 100000) :
    Calls Try.prog 62 #[.slice A n c, .slice A' m d] w (Cloned w (n + m) (xs ++ ys)) := by
  have hmk := makeC (n + m) (by omega)
  rw [show ((n + m : Nat) : Int) = (n : Int) + m by omega] at hmk
  have ho0 : Own (w.alloc (.cells (madeCells #[.int .u8 0] (n + m)) 5)) w.heap.size (some ⟨w.heap.size, 0, none⟩) 0 (n + m) [] := ⟨World.ownsRow_made w _ _ (Nat.le_refl _) (by unfold maxLen; omega) (by rw [size_madeCells, Nat.mul_one]), fun j => by simp⟩
  have hx0 := hx.alloc hB (.cells (madeCells #[.int .u8 0] (n + m)) 5)
  have hy0 := hy.alloc hB (.cells (madeCells #[.int .u8 0] (n + m)) 5)
  have hb0 : Below w.heap.size w (w.alloc (.cells (madeCells #[.int .u8 0] (n + m)) 5)) := (Below.refl _ _).alloc (Nat.le_refl _) _
  have HO := Lib.hid ho0
  have HX := Lib.hid hx0
  have HY := Lib.hid hy0
  have HB := Lib.hid hb0
  clear ho0 hx0 hy0 hb0 hx hy
  go_enter Try.func62, Try.ntmps62
  go_wp2_with (first
    | (at_builtin; refine append_by rfl (.tmp 12) (.tmp 13) rfl w.heap.size (some ⟨w.heap.size, 0, none⟩) 0 (n + m) [] rfl HO.out B A n c xs rfl HX.out hc (by omega) (by simp) ?_; intro A1 c1 w1 ho1 hg1; have hB1 : Below w.heap.size w w1 := HB.out.grown hg1 (by simp) (fun k hk => Nat.le_of_eq (Option.some.inj hk)); have hY1 : By w1 B A' m ys := HY.out.below (((Below.refl _ _).grown hg1 (by simp) (fun k hk => Nat.le_of_eq (Option.some.inj hk)) : Below w.heap.size _ w1).mono hB); have ho1' : Own w1 w.heap.size A1 n c1 xs := (by simpa using ho1); have hs1 := hB1.size; clear ho1 hg1)
    | (at_builtin; refine append_by rfl (.tmp 14) (.tmp 15) rfl w.heap.size A1 n c1 xs rfl ho1' B A' m d ys rfl hY1 hd (by omega) hs1 ?_; intro A2 c2 w2 ho2 hg2))
  go_ret
  have hlo := ho1'.1.lt
  exact ⟨A2, c2, rfl, ho2, hB1.grown hg2 hs1 (fun k hk => (hlo k hk).1)⟩

end Go.Proofs.Ytndkoefchlclkaa
