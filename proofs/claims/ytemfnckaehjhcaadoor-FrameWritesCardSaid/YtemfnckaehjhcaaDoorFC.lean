/-
  Two rows of bytes side by side in memory of their own; the seal.
-/
import Derived.Test.YtemfnckaehjhcaaDoorFrA
import Derived.Test.YtemfnckaehjhcaaDoorLgA
import Derived.Test.YtemfnckaehjhcaaDoorBkCe
import Derived.Lib.AppendZerosOnto
namespace Go.Proofs.YtemfnckaehjhcaaDoor
open Go.RowKit

theorem zeros_own (w : World) (G n : Nat) (hG : n ≤ G) (hm : G ≤ maxLen) : Own ((w.drew).alloc (.cells ((#[] : Array Value) ++ Builtin.zeroCells (Value.int .u8 0).cells n ++ Builtin.zeroCells (Value.int .u8 0).cells (G - n)) 5)) w.heap.size (some ⟨w.heap.size, 0, none⟩) 0 G [] := by
  refine ⟨World.ownsRow_made w.drew _ G (Nat.le_refl _) hm ?_, fun j => by simp⟩
  rw [Array.size_append, Array.size_append, size_zeroCells, size_zeroCells]
  simp [Value.cells]
  omega

theorem wpList_append_run {P : Program} {w w' : World} {ops : Array Oper} {rest : List Oper} {o : Oper} {a : Act} {Q : Exit → Act → World → Prop} (hgd : o.guard = none) (s x : Operand) (t u : TypeId)
    (ho : o.op = .call { callee := .builtin .append, args := #[s, x], argTypes := #[t, u] }) (v y r : Value) (hs : a.eval s = v) (hx : a.eval x = y) (hr : ∀ ty, (Builtin.append_ #[t, u] ty #[v, y]).run P w = .ok r w')
    (h : wpList P ops Q rest (a.put o.dst r) w') : wpList P ops Q (o :: rest) a w := by
  refine wpList_plain hgd fun K hK => ?_
  unfold Oper.wp
  simp [execOp, ho, resolve, invoke, builtin, hs, hx, hr, Result.andThen]
  exact hK _ _ h

set_option maxHeartbeats 2000000 in
theorem grow_any (n : Nat) (w : World) (hn : n ≤ 1000000) :
    Calls Tryd.prog 48 #[.slice none 0 0, .int .i64 (n : Int)] w fun e w' => ∃ A c, e = .returned (.slice A 0 c) ∧ Own w' w.heap.size A 0 c [] ∧ Below w.heap.size w w' := by
  obtain ⟨i0, hi, hz0, hz1, hz2⟩ := info_parts Tryd.info5
  by_cases h0 : n = 0
  · subst h0
    go_enter Tryd.func48, Tryd.ntmps48
    go_wp2
    go_ret
    exact ⟨none, 0, rfl, ⟨World.ownsRow_nil _ _ _ _, fun j => by simp⟩, Below.refl _ _⟩
  · have hG := grownCap_ge w n 0 5
    have hM := grownCap_le_maxLen w n 0 5 (by unfold maxLen; omega)
    have hrz : ∀ ty, (Builtin.append_ #[29, 3] ty #[.slice none 0 0, .int .i64 (n : Int)]).run Tryd.prog w = .ok (.slice (some ⟨w.heap.size, 0, none⟩) n (grownCap w n 0 5))
        (w.drew.alloc (.cells ((#[] : Array Value) ++ Builtin.zeroCells (Value.int .u8 0).cells n ++ Builtin.zeroCells (Value.int .u8 0).cells (grownCap w n 0 5 - n)) 5)) := fun ty => by
      have h := Lib.run_append_grow_zeros (P := Tryd.prog) w 29 3 ty 5 i0 (.int .u8 0) .i64 .i64 Tryd.underlying29 Tryd.underlying3 hi hz0 none 0 0 [] (run_firstCells_none w.drew i0.size 0 0 0) n (by omega) (by rw [hz1]; decide) (by omega) (by omega) (by rw [hz2]; omega) (by rw [hz2]; exact growslice_fits (by omega) (by omega))
      simpa using h
    have HO := Lib.hid (zeros_own w (grownCap w n 0 5) n hG hM)
    have hM63 : grownCap w n 0 5 ≤ 9223372036854775807 := by unfold maxLen at hM; omega
    have HB : Hid (Below w.heap.size w (w.drew.alloc (.cells ((#[] : Array Value) ++ Builtin.zeroCells (Value.int .u8 0).cells n ++ Builtin.zeroCells (Value.int .u8 0).cells (grownCap w n 0 5 - n)) 5))) := Lib.hid ((Below.refl _ w).drew.alloc (Nat.le_refl _) _)
    generalize grownCap w n 0 5 = G at *
    generalize w.drew.alloc (.cells ((#[] : Array Value) ++ Builtin.zeroCells (Value.int .u8 0).cells n ++ Builtin.zeroCells (Value.int .u8 0).cells (G - n)) 5) = W at *
    have n0 : (0 : Int) < (n : Int) := by omega
    clear hi hz0 hz1 hz2
    go_enter Tryd.func48, Tryd.ntmps48
    go_wp2_with (at_builtin; refine wpList_append_run rfl (.tmp 20) (.tmp 21) 29 3 rfl _ _ _ rfl rfl hrz ?_)
    go_ret
    exact ⟨_, _, rfl, HO.out, HB.out⟩

theorem concat_any (p : Nat) (A1 A2 : Option Addr) (n1 c1 n2 c2 : Nat) (xs ys : List Int) (w : World) (hp : Blk w p 29 #[.slice A1 n1 c1, .slice A2 n2 c2]) (h1 : By w w.heap.size A1 n1 xs) (h2 : By w w.heap.size A2 n2 ys)
    (d1 : A1 = none → c1 = 0) (d2 : A2 = none → c2 = 0) (hn1 : n1 ≤ 400000) (hn2 : n2 ≤ 400000) :
    Calls Tryd.prog 27 #[.slice (some ⟨p, 0, none⟩) 2 2] w (Cloned w (n1 + n2) (xs ++ ys)) := by
  have GR := Lib.hid (grow_any (n1 + n2) w (by omega))
  have HP := Lib.hid hp
  have H1 := Lib.hid h1
  have H2 := Lib.hid h2
  have g0 : w.cell? ⟨p, 0, none⟩ = some (.slice A1 n1 c1) := hp.cell 0
  have g1 : w.cell? ⟨p, 1, none⟩ = some (.slice A2 n2 c2) := hp.cell 1
  clear hp h1 h2
  go_enter Tryd.func27, Tryd.ntmps27
  go_wp2
  go_loopw [3, 11] (fun sv i wr => ∃ k : Nat, k ≤ 2 ∧ i = .int .i64 k ∧ sv = .int .i64 (((if k = 0 then 0 else if k = 1 then n1 else n1 + n2 : Nat) : Nat) : Int) ∧ w = wr) (fun _ i _ => 2 - (intOf i).toNat)
  case atStart => exact ⟨0, by omega, rfl, rfl, rfl⟩
  case round =>
    obtain ⟨k, hk, rfl, rfl, rfl⟩ := hrel
    rcases (show k = 0 ∨ k = 1 ∨ k = 2 by omega) with rfl | rfl | rfl
    · simp only [reduceIte]
      go_wp2
      go_roundw
      case rel => exact ⟨1, by omega, rfl, by go_num, by first | rfl | trivial⟩
      case measure => simp [intOf]
    · simp only [reduceIte, Nat.one_ne_zero]
      have s0 : (0 : Int) ≤ (n1 : Int) + (n2 : Int) := by omega
      go_wp2
      go_roundw
      case rel => exact ⟨2, by omega, rfl, by go_num, by first | rfl | trivial⟩
      case measure => simp [intOf]
    · rw [show (if 2 = 0 then 0 else if 2 = 1 then n1 else n1 + n2) = n1 + n2 from rfl]
      go_wp2_with (go_at_call 48; refine GR.out.mono ?_; rintro e w3 ⟨A3, c3, rfl, o3, b3⟩; have O3 := Lib.hid o3; have B3 := Lib.hid b3; clear GR o3 b3)
      go_loopw [6, 27] (fun bv i wx => ∃ (k : Nat) (A4 : Option Addr) (m4 c4 : Nat) (zs4 : List Int), k ≤ 2 ∧ i = .int .i64 k ∧ bv = .slice A4 m4 c4 ∧ m4 = (if k = 0 then 0 else if k = 1 then n1 else n1 + n2) ∧ zs4 = (if k = 0 then [] else if k = 1 then xs else xs ++ ys) ∧ Own wx w.heap.size A4 m4 c4 zs4 ∧ Below w.heap.size w wx) (fun _ i _ => 2 - (intOf i).toNat)
      case atStart => exact ⟨0, A3, 0, c3, [], by omega, rfl, rfl, rfl, rfl, O3.out, B3.out⟩
      case round =>
        obtain ⟨k, A4, m4, c4, zs4, hk, rfl, rfl, hm4, hz4, ho4, hb4⟩ := hrel
        have O4 := Lib.hid ho4
        have B4 := Lib.hid hb4
        clear ho4 hb4 O3 B3
        have e0 := (HP.out.below B4.out HP.out.lt).cell 0
        have e1 := (HP.out.below B4.out HP.out.lt).cell 1
        rcases (show k = 0 ∨ k = 1 ∨ k = 2 by omega) with rfl | rfl | rfl
        · obtain rfl : m4 = 0 := hm4
          obtain rfl : zs4 = [] := hz4
          have HH := Lib.hid (H1.out.below B4.out)
          go_wp2_with (at_builtin; refine append_by rfl (.tmp 31) (.tmp 32) rfl w.heap.size A4 0 c4 [] rfl O4.out w.heap.size A1 n1 c1 xs rfl HH.out d1 (by omega) B4.out.size ?_; intro A5 c5 w5 o5 g5; have O5 := Lib.hid o5; have B5 := Lib.hid (B4.out.grown g5 B4.out.size (fun kk hk => (O4.out.1.lt kk hk).1)); clear o5 g5)
          go_roundw
          case rel => exact ⟨1, A5, n1, c5, xs, by omega, rfl, by simp, rfl, rfl, by simpa using O5.out, B5.out⟩
          case measure => simp [intOf]
        · obtain rfl : m4 = n1 := hm4
          obtain rfl : zs4 = xs := hz4
          have HH := Lib.hid (H2.out.below B4.out)
          go_wp2_with (at_builtin; refine append_by rfl (.tmp 31) (.tmp 32) rfl w.heap.size A4 m4 c4 zs4 rfl O4.out w.heap.size A2 n2 c2 ys rfl HH.out d2 (by omega) B4.out.size ?_; intro A5 c5 w5 o5 g5; have O5 := Lib.hid o5; have B5 := Lib.hid (B4.out.grown g5 B4.out.size (fun kk hk => (O4.out.1.lt kk hk).1)); clear o5 g5)
          go_roundw
          case rel => exact ⟨2, A5, m4 + n2, c5, zs4 ++ ys, by omega, rfl, rfl, rfl, rfl, O5.out, B5.out⟩
          case measure => simp [intOf]
        · obtain rfl : m4 = n1 + n2 := hm4
          obtain rfl : zs4 = xs ++ ys := hz4
          go_wp2
          go_ret
          exact ⟨A4, c4, rfl, O4.out, B4.out⟩

/-- The seal of bytes. -/
def sealF (zs : List Int) : List Int := (Bk.sumF zs).take 16
theorem sumF_len (zs : List Int) : (Bk.sumF zs).length = 32 := Bk.idL_len _ 8
theorem byt_bd (x : BitVec 32) (j : Nat) : 0 ≤ (Bk.byt x j : Int) ∧ (Bk.byt x j : Int) ≤ 255 := by
  have := Bk.byt_lt x j
  omega
theorem idL_bs (h : List (BitVec 32)) : ∀ k, ∀ c ∈ Bk.idL h k, 0 ≤ c ∧ c ≤ 255
  | 0, c, hc => by rw [Bk.idL] at hc; cases hc
  | k + 1, c, hc => by
    rw [Bk.idL] at hc
    rcases List.mem_append.1 hc with hc | hc
    · exact idL_bs h k c hc
    · unfold Bk.le4 at hc
      simp only [List.mem_cons, List.not_mem_nil, or_false] at hc
      rcases hc with rfl | rfl | rfl | rfl <;> exact byt_bd _ _
theorem sumF_bs (zs : List Int) : Bs (Bk.sumF zs) := fun j => by
  by_cases hj : j < (Bk.sumF zs).length
  · have := idL_bs _ 8 _ (List.getElem_mem (l := Bk.sumF zs) hj)
    simpa [List.getD, hj] using this
  · simp [List.getD, List.getElem?_eq_none (Nat.le_of_not_lt hj)]
theorem sealF_len (zs : List Int) : (sealF zs).length = 16 := by unfold sealF; rw [List.length_take, sumF_len]; rfl
theorem By.bk {w : World} {B n : Nat} {A : Option Addr} {zs : List Int} (h : By w B A n zs) : Bk.By w B A n zs := h

set_option maxRecDepth 100000 in
set_option maxHeartbeats 4000000 in
theorem seal_any (A : Option Addr) (n c : Nat) (zs : List Int) (w : World) (hz : By w w.heap.size A n zs) (hn : n ≤ 100000) (hnc : n ≤ c) (hc : c ≤ 9223372036854775807) (hG : Bk.Gl w) :
    Calls Tryd.prog 28 #[.slice A n c] w fun e w' => ∃ g, e = .returned (.slice (some ⟨g, 0, none⟩) 16 32) ∧ By w' w'.heap.size (some ⟨g, 0, none⟩) 16 (sealF zs) ∧ Below w.heap.size w w' := by
  have SM := Lib.hid (Bk.sum_any A n c zs w hz.bk hn hnc hc hG)
  clear hz hG
  have i80 : Hid ((Tryd.prog.info? 80).map (·.size) = some (Bk.BL (Bk.sumF zs)).length) := Lib.hid (by rw [Bk.BL.len, sumF_len]; kernel_rfl)
  have one := Lib.hid (Bk.BL.one (Bk.sumF zs))
  have zl : Hid ((Array.replicate 32 (Value.int .u8 0)).size = (Bk.BL (Bk.sumF zs)).length) := Lib.hid (by rw [Bk.BL.len, sumF_len]; rfl)
  have SL := sealF_len zs
  have BS : Hid (∀ j, 0 ≤ (sealF zs).getD j 0 ∧ (sealF zs).getD j 0 ≤ 255) := Lib.hid (fun j => by
    have h := sumF_bs zs j
    unfold sealF
    simp only [List.getD, List.getElem?_take] at h ⊢
    split
    · exact h
    · simp)
  have GT : Hid (∀ j, j < 16 → (Bk.BL (Bk.sumF zs))[j]? = some (.int .u8 ((sealF zs).getD j 0))) := Lib.hid (fun j hj => by
    rw [Bk.BL.get _ j (by rw [sumF_len]; omega)]
    unfold sealF
    simp [List.getD, List.getElem?_take, hj])
  have SLH := Lib.hid SL
  clear SL
  generalize Bk.sumF zs = F at *
  generalize sealF zs = G at *
  go_enter Tryd.func28, Tryd.ntmps28
  go_wp2_with (first
    | (go_at_call 49; refine SM.out.mono ?_; rintro e w1 ⟨rfl, hb⟩; have B1 := Lib.hid hb; clear SM hb)
    | ((with_reducible refine at_store (t := 80) ?_); refine wpList_store_blk _ rfl 80 _ _ rfl w1.heap.size (Array.replicate 32 (Value.int .u8 0)) 80 (Bk.BL F) rfl rfl (Blk.new w1 80 _) zl.out i80.out one.out ?_; intro w2 hb2 ho2; have X2 := Lib.hid hb2; have B2 : Hid (Below w.heap.size w w2) := Lib.hid ((B1.out.alloc B1.out.size _).trans (ho2.below B1.out.size)); clear hb2 ho2))
  go_ret
  refine ⟨w1.heap.size, rfl, ⟨SLH.out, BS.out, fun _ => ⟨w1.heap.size, 0, rfl, X2.out.lt, fun j hj => ?_⟩⟩, B2.out⟩
  rw [Nat.zero_add, X2.out.cell, List.getElem?_toArray]
  exact GT.out j hj

end Go.Proofs.YtemfnckaehjhcaaDoor
