/-
  The document's Block.
-/
import Derived.Test.YtemfnckaehjhcaaDoorBkK2
import Derived.Deep.RegionHeld3
import Derived.StillTailTactics
namespace Go.Proofs.YtemfnckaehjhcaaDoor.Bk
open Go.RowKit
attribute [local go_sem ↓] Tryd.z42 Tryd.z70 Tryd.z27 Tryd.z45 Tryd.z37 Tryd.z38

/-- Where one stands. -/
structure GW (w0 : World) (h : List (BitVec 32)) (b : List Int) (m v : List (BitVec 32)) (w : World) : Prop where
  below : Below w0.heap.size w0 w
  hb : Blk w w0.heap.size 107 (UL h).toArray
  bb : Blk w (w0.heap.size + 1) 108 (BL b).toArray
  res : Blk w (w0.heap.size + 1 + 1) 107 (ZU 8).toArray
  mb : Blk w (w0.heap.size + 1 + 1 + 1) 125 (UL m).toArray
  vb : Blk w (w0.heap.size + 1 + 1 + 1 + 1) 125 (UL v).toArray
section
variable {w0 w w' : World} {h m v : List (BitVec 32)} {b : List Int}
theorem GW.low (s : GW w0 h b m v w) (k : Below w.heap.size w w') : GW w0 h b m v w' :=
  ⟨s.below.trans (k.mono s.below.size), s.hb.below k s.hb.lt, s.bb.below k s.bb.lt, s.res.below k s.res.lt, s.mb.below k s.mb.lt, s.vb.below k s.vb.lt⟩
theorem GW.drew (s : GW w0 h b m v w) : GW w0 h b m v w.drew := ⟨s.below.drew, s.hb, s.bb, s.res, s.mb, s.vb⟩
theorem GW.setM (s : GW w0 h b m v w) (i : Nat) (x : BitVec 32) (z : Int) (hz : z = tn x) : GW w0 h b (m.set i x) v (w.setCell ⟨w0.heap.size + 1 + 1 + 1, i, none⟩ (.int .u32 z)) := by
  subst hz
  refine ⟨s.below.setCell (by show _ ≤ w0.heap.size + 1 + 1 + 1; omega) _, s.hb.far (by show _ ≠ w0.heap.size + 1 + 1 + 1; omega) _, s.bb.far (by show _ ≠ w0.heap.size + 1 + 1 + 1; omega) _, s.res.far (by show _ ≠ w0.heap.size + 1 + 1 + 1; omega) _, ?_, s.vb.far (by show _ ≠ w0.heap.size + 1 + 1 + 1; omega) _⟩
  have := s.mb.set_ i (.int .u32 (tn x : Int))
  rwa [UL.set] at this
theorem GW.setV (s : GW w0 h b m v w) (i : Nat) (x : BitVec 32) (z : Int) (hz : z = tn x) : GW w0 h b m (v.set i x) (w.setCell ⟨w0.heap.size + 1 + 1 + 1 + 1, i, none⟩ (.int .u32 z)) := by
  subst hz
  refine ⟨s.below.setCell (by show _ ≤ w0.heap.size + 1 + 1 + 1 + 1; omega) _, s.hb.far (by show _ ≠ w0.heap.size + 1 + 1 + 1 + 1; omega) _, s.bb.far (by show _ ≠ w0.heap.size + 1 + 1 + 1 + 1; omega) _, s.res.far (by show _ ≠ w0.heap.size + 1 + 1 + 1 + 1; omega) _, s.mb.far (by show _ ≠ w0.heap.size + 1 + 1 + 1 + 1; omega) _, ?_⟩
  have := s.vb.set_ i (.int .u32 (tn x : Int))
  rwa [UL.set] at this
theorem GW.setH (s : GW w0 h b m v w) (i : Nat) (x : BitVec 32) (z : Int) (hz : z = tn x) : GW w0 (h.set i x) b m v (w.setCell ⟨w0.heap.size, i, none⟩ (.int .u32 z)) := by
  subst hz
  refine ⟨s.below.setCell (p := ⟨w0.heap.size, i, none⟩) (Nat.le_refl _) _, ?_, s.bb.far (by show _ ≠ w0.heap.size; omega) _, s.res.far (by show _ ≠ w0.heap.size; omega) _, s.mb.far (by show _ ≠ w0.heap.size; omega) _, s.vb.far (by show _ ≠ w0.heap.size; omega) _⟩
  have := s.hb.set_ i (.int .u32 (tn x : Int))
  rwa [UL.set] at this
/-- The numbers are written over. -/
theorem GW.put (s : GW w0 h b m v w) {v' : List (BitVec 32)} (ho : Only (w0.heap.size + 1 + 1 + 1 + 1) w w') (hv : Blk w' (w0.heap.size + 1 + 1 + 1 + 1) 125 (UL v').toArray) : GW w0 h b m v' w' :=
  ⟨s.below.trans (ho.below (by omega)), ho.keep s.hb (by omega), ho.keep s.bb (by omega), ho.keep s.res (by omega), ho.keep s.mb (by omega), hv⟩
end
/-- With the start in a block of its own. -/
structure HW (w0 : World) (gs : Nat) (h : List (BitVec 32)) (b : List Int) (m v : List (BitVec 32)) (w : World) : Prop where
  gw : GW w0 h b m v w
  sb : Blk w gs 107 (UL startL).toArray
  lo : w0.heap.size + 1 + 1 + 1 + 1 < gs
section
variable {w0 w w' : World} {gs : Nat} {h m v : List (BitVec 32)} {b : List Int}
theorem HW.drew (s : HW w0 gs h b m v w) : HW w0 gs h b m v w.drew := ⟨s.gw.drew, s.sb, s.lo⟩
theorem HW.setM (s : HW w0 gs h b m v w) (i : Nat) (x : BitVec 32) (z : Int) (hz : z = tn x) : HW w0 gs h b (m.set i x) v (w.setCell ⟨w0.heap.size + 1 + 1 + 1, i, none⟩ (.int .u32 z)) :=
  ⟨s.gw.setM i x z hz, s.sb.far (by have := s.lo; show _ ≠ w0.heap.size + 1 + 1 + 1; omega) _, s.lo⟩
theorem HW.setV (s : HW w0 gs h b m v w) (i : Nat) (x : BitVec 32) (z : Int) (hz : z = tn x) : HW w0 gs h b m (v.set i x) (w.setCell ⟨w0.heap.size + 1 + 1 + 1 + 1, i, none⟩ (.int .u32 z)) :=
  ⟨s.gw.setV i x z hz, s.sb.far (by have := s.lo; show _ ≠ w0.heap.size + 1 + 1 + 1 + 1; omega) _, s.lo⟩
end
def mL (b : List Int) (k : Nat) : List (BitVec 32) := numbersL b k ++ List.replicate (16 - k) 0
theorem mL_len (b : List Int) (k : Nat) (hk : k ≤ 16) : (mL b k).length = 16 := by
  unfold mL
  rw [List.length_append, numbersL_len, List.length_replicate]
  omega
theorem mL_set (b : List Int) (k : Nat) (hk : k < 16) : (mL b k).set k (rev (numw b k)) = mL b (k + 1) := by
  unfold mL
  rw [List.set_append_right _ _ (by rw [numbersL_len]; exact Nat.le_refl _), numbersL_len, Nat.sub_self, numbersL_succ, List.append_assoc]
  congr 1
  rw [show 16 - k = (16 - (k + 1)) + 1 by omega, List.replicate_succ]
  rfl
theorem mL_end (b : List Int) : mL b 16 = numbersF b := by
  unfold mL
  rw [show List.replicate (16 - 16) (0 : BitVec 32) = [] from rfl, List.append_nil]
  rfl
def lay8 (h : List (BitVec 32)) (k : Nat) : List (BitVec 32) := lay16 h (if k < 8 then k else 8)
theorem lay8_len (h : List (BitVec 32)) (k : Nat) : (lay8 h k).length = 16 := lay16_len h _
theorem lay8_low (h : List (BitVec 32)) (k : Nat) (hk : k < 8) : ((lay8 h k).set k (gt h k)).set (k + 8) (gt startL k) = lay8 h (k + 1) := by
  unfold lay8
  rw [if_pos hk]
  by_cases h8 : k + 1 < 8
  · rw [if_pos h8, lay16]
  · obtain rfl : k = 7 := by omega
    rw [if_neg (by omega)]
    rfl
theorem lay8_high (h : List (BitVec 32)) (k : Nat) (hk : ¬ k < 8) : lay8 h (k + 1) = lay8 h k := by
  unfold lay8
  rw [if_neg hk, if_neg (by omega)]

def ordC (k j : Nat) : Int := (((ordS k).data.toList.getD j 0).toNat : Int)
theorem ord_ix (k : Nat) (hk : k < 10) (j : Nat) (hj : j < 16) (w : World) : (Instr.index 9 (.string (ordS k)) (.int .i64 (j : Int))).run Tryd.prog w = .ok (.int .u8 (ordC k j)) w := by
  have hs : (ordS k).data.toList.length = 16 := by
    have all : ∀ k : Fin 10, (ordS k.val).data.toList.length = 16 := by decide +kernel
    exact all ⟨k, hk⟩
  have h1 : j < (ordS k).size := by rw [← ordS_size k hk] at *; exact hj
  have h2 : (ordS k)[j] = (ordS k).data.toList.getD j 0 := by
    have h' : j < (ordS k).data.toList.length := by omega
    simp [List.getD, List.getElem?_eq_getElem h']
    rfl
  unfold ordC
  rw [← h2]
  generalize ordS k = S at *
  simp [go_sem, h1]
theorem ord_call (k : Nat) (hk : k < 10) (j : Nat) (hj : j < 16) (w : World) : Calls Tryd.prog 105 #[.int .u8 (ordC k j)] w fun e w' => e = .returned (.int .i64 ((ordersL.getD k []).getD j 0 : Int)) ∧ w = w' := by
  have all : ∀ k : Fin 10, ∀ j : Fin 16, dgF (ordC k.val j.val) = ((ordersL.getD k.val []).getD j.val 0 : Int) := by decide +kernel
  have hb : 0 ≤ ordC k j ∧ ordC k j ≤ 255 := by
    unfold ordC
    have := ((ordS k).data.toList.getD j 0).toNat_lt
    omega
  have := digit_any (ordC k j) hb.1 hb.2 w
  rwa [all ⟨k, hk⟩ ⟨j, hj⟩] at this
/-- A store of a whole array, at the operation. -/
theorem wp_store_blk {P : Program} {o : Oper} {a : Act} {K : Act → World → Prop} {Q : Exit → Act → World → Prop} {w : World} (ty : TypeId) (x y : Operand) (ho : o.op = .store ty x y)
    (g : Nat) (c : Array Value) (t : TypeId) (cells : List Value) (hx : a.eval x = .pointer (some ⟨g, 0, none⟩)) (hy : a.eval y = .agg cells.toArray) (hb : Blk w g t c)
    (hc : c.size = cells.length) (hi : (P.info? ty).map (·.size) = some cells.length) (h1 : ∀ v ∈ cells, v.oneCell' = true)
    (h : ∀ w', Blk w' g t cells.toArray → Only g w w' → K (a.put o.dst undef) w') : Oper.wp P o a w K Q := by
  refine wp_store_mid ty x y ho g 0 cells.toArray hx hy ?_ (by simpa using hi) (all_oneCell_toArray h1) ?_
  · intro j hj
    simp only [Nat.zero_add]
    have hj' : j < c.size := by simpa [hc] using hj
    refine ⟨?_, hb.frozen j⟩
    rw [hb.cell j]
    simp [hj']
  · rw [List.toList_toArray]
    refine h _ ?_ (setCells_only _ _ _ _)
    unfold Blk
    rw [heap_setCells_same cells w g 0 c t hb, lay_whole c cells hc]

set_option linter.unusedSimpArgs false in
set_option maxRecDepth 100000 in
set_option maxHeartbeats 4000000 in
theorem refblock_any (h : List (BitVec 32)) (hh : h.length = 8) (b : List Int) (hb : b.length = 64) (bs : Bs b) (t : Int) (t0 : 0 ≤ t) (t1 : t < 18446744073709551616) (last : Bool) (w : World) :
    Calls Tryd.prog 83 #[.agg (UL h).toArray, .agg (BL b).toArray, .int .u64 t, .bool last] w fun e w' => e = .returned (.agg (UL (blockF h b t last)).toArray) ∧ Below w.heap.size w w' := by
  have G0 : Hid (GW w h b (mL b 0) (lay8 h 0) (((((w.alloc (.cells (UL h).toArray 107)).alloc (.cells (BL b).toArray 108)).alloc (.cells (ZU 8).toArray 107)).alloc (.cells (ZU 16).toArray 125)).alloc (.cells (ZU 16).toArray 125))) :=
    ⟨(((((Below.refl _ w).alloc (Nat.le_refl _) _).alloc (by simp) _).alloc (by simp; omega) _).alloc (by simp; omega) _).alloc (by simp; omega) _,
     ((((Blk.new w 107 _).alloc _).alloc _).alloc _).alloc _, (((Blk.new' _ 108 _ (by simp)).alloc _).alloc _).alloc _, ((Blk.new' _ 107 _ (by simp)).alloc _).alloc _, (Blk.new' _ 125 _ (by simp)).alloc _, Blk.new' _ 125 _ (by simp)⟩
  have ST := Lib.hid refstart_any
  have HH := Lib.hid hh
  have HB := Lib.hid hb
  have LW := Lib.hid (fun j (hj : j < 16) => le_word b hb bs j hj)
  have BS := Lib.hid bs
  clear hh hb bs
  generalize hX : UL h = X at *
  generalize hY : BL b = Y at *
  have HX := Lib.hid hX
  have HY := Lib.hid hY
  clear hX hY
  go_enter Tryd.func83, Tryd.ntmps83
  go_wp2_with fail
  refine (ST.out _).mono ?_
  rintro e w1 ⟨rfl, k1⟩
  have G1 := Lib.hid (G0.out.low k1)
  clear G0 k1 ST
  go_wp2_with ((with_reducible refine at_store (t := 107) ?_); refine wpList_store_blk _ rfl 107 _ _ rfl w1.heap.size (ZU 8).toArray 107 (UL startL) rfl rfl (Blk.new w1 107 _) rfl Tryd.i42 (UL.one _) ?_; intro w2 hb2 ho2)
  have H0 : Hid (HW w w1.heap.size h b (mL b 0) (lay8 h 0) w2) := ⟨G1.out.low (((Below.refl _ w1).alloc (Nat.le_refl _) _).trans (ho2.below (Nat.le_refl _))), hb2, G1.out.vb.lt⟩
  clear G1 hb2 ho2
  generalize w1.heap.size = gs at *
  go_loopw [19] (fun i wr => ∃ k : Nat, k ≤ 16 ∧ i = .int .i64 k ∧ HW w gs h b (mL b k) (lay8 h k) wr) (fun i _ => 16 - (intOf i).toNat)
  case atStart => exact ⟨0, Nat.zero_le _, rfl, H0.out⟩
  case round =>
    obtain ⟨k, hk, rfl, hx⟩ := hrel
    have Z := Lib.hid hx
    clear H0 hx
    by_cases hlt : k < 16
    · have bc : ∀ i, i < 4 → wr.cell? ⟨w.heap.size + 1, 4 * k + i, none⟩ = some (.int .u8 (b.getD (4 * k + i) 0)) := fun i hi => by
        rw [Z.out.gw.bb.cell, List.getElem?_toArray]
        exact BL.get b _ (by rw [HB.out]; omega)
      have b0 : wr.cell? ⟨w.heap.size + 1, 4 * k, none⟩ = some (.int .u8 (b.getD (4 * k) 0)) := bc 0 (by omega)
      have b1 := bc 1 (by omega)
      have b2 := bc 2 (by omega)
      have b3 := bc 3 (by omega)
      have r0 := BS.out (4 * k)
      have r1 := BS.out (4 * k + 1)
      have r2 := BS.out (4 * k + 2)
      have r3 := BS.out (4 * k + 3)
      have WV := Lib.hid (LW.out k hlt)
      have mc := (Z.out.gw.mb.cell k).trans (UL.gt (by rw [mL_len b k hk]; exact hlt))
      have mf := Z.out.gw.mb.frozen k
      have MS := Lib.hid (mL_set b k hlt)
      clear bc
      generalize b.getD (4 * k) 0 = c0 at *
      generalize b.getD (4 * k + 1) 0 = c1 at *
      generalize b.getD (4 * k + 2) 0 = c2 at *
      generalize b.getD (4 * k + 3) 0 = c3 at *
      have NM : Hid (HW w gs h b (mL b (k + 1)) (lay8 h k) (wr.drew.setCell ⟨w.heap.size + 1 + 1 + 1, k, none⟩ (.int .u32 (((c0 + c1 * 256) + c2 * 65536) + c3 * 16777216)))) := by
        have := Z.out.drew.setM k (rev (numw b k)) _ WV.out
        rwa [MS.out] at this
      generalize mL b k = M at *
      go_wp2_with fail
      have e0 : IntKind.i64.wrap (4 * (k : Int)) = 4 * (k : Int) := IntWalk.i64_in _ (by omega)
      have e1 : IntKind.i64.wrap (4 * (k : Int) + 1) = 4 * (k : Int) + 1 := IntWalk.i64_in _ (by omega)
      have e2 : IntKind.i64.wrap (4 * (k : Int) + 2) = 4 * (k : Int) + 2 := IntWalk.i64_in _ (by omega)
      have e3 : IntKind.i64.wrap (4 * (k : Int) + 3) = 4 * (k : Int) + 3 := IntWalk.i64_in _ (by omega)
      have p0 : 0 ≤ 4 * (k : Int) := by omega
      have p1 : 0 ≤ 4 * (k : Int) + 1 := by omega
      have p2 : 0 ≤ 4 * (k : Int) + 2 := by omega
      have p3 : 0 ≤ 4 * (k : Int) + 3 := by omega
      have q0 : 4 * (k : Int) < 64 := by omega
      have q1 : 4 * (k : Int) + 1 < 64 := by omega
      have q2 : 4 * (k : Int) + 2 < 64 := by omega
      have q3 : 4 * (k : Int) + 3 < 64 := by omega
      have t0 : (4 * (k : Int)).toNat = 4 * k := by omega
      have t1 : (4 * (k : Int) + 1).toNat = 4 * k + 1 := by omega
      have t2 : (4 * (k : Int) + 2).toNat = 4 * k + 2 := by omega
      have t3 : (4 * (k : Int) + 3).toNat = 4 * k + 3 := by omega
      have kI0 : (0 : Int) ≤ (k : Nat) := by omega
      have kI1 : ((k : Nat) : Int) < 16 := by omega
      have w0' : IntKind.u32.wrap c0 = c0 := by rw [IntKind.wrap_u32']; omega
      have w1' : IntKind.u32.wrap c1 = c1 := by rw [IntKind.wrap_u32']; omega
      have w2' : IntKind.u32.wrap c2 = c2 := by rw [IntKind.wrap_u32']; omega
      have w3' : IntKind.u32.wrap c3 = c3 := by rw [IntKind.wrap_u32']; omega
      have m1 : IntKind.u32.wrap (c1 * 256) = c1 * 256 := by rw [IntKind.wrap_u32']; omega
      have m2 : IntKind.u32.wrap (c2 * 65536) = c2 * 65536 := by rw [IntKind.wrap_u32']; omega
      have m3 : IntKind.u32.wrap (c3 * 16777216) = c3 * 16777216 := by rw [IntKind.wrap_u32']; omega
      have a1 : IntKind.u32.wrap (c0 + c1 * 256) = c0 + c1 * 256 := by rw [IntKind.wrap_u32']; omega
      have a2 : IntKind.u32.wrap ((c0 + c1 * 256) + c2 * 65536) = (c0 + c1 * 256) + c2 * 65536 := by rw [IntKind.wrap_u32']; omega
      have a3 : IntKind.u32.wrap (((c0 + c1 * 256) + c2 * 65536) + c3 * 16777216) = ((c0 + c1 * 256) + c2 * 65536) + c3 * 16777216 := by rw [IntKind.wrap_u32']; omega
      refine wp_region_still_tail 31 (by kernel_rfl) (by kernel_rfl) ?_
      simp only [List.take_succ_cons, List.take_zero, List.drop_succ_cons, List.drop_zero]
      change wpStill _ _ wr.drew _ _ _
      repeat still_step
      refine wpStill_nil ?_
      change wpList _ _ _ _ _ wr.drew
      have W1E : ∃ W1, W1 = wr.drew := ⟨_, rfl⟩
      obtain ⟨W1, W1E⟩ := W1E
      rw [← W1E] at NM ⊢
      have mc1 : W1.cell? ⟨w.heap.size + 1 + 1 + 1, k, none⟩ = some (.int .u32 (tn (gt M k) : Int)) := by rw [W1E]; exact mc
      have mf1 : W1.frozen? ⟨w.heap.size + 1 + 1 + 1, k, none⟩ = false := by rw [W1E]; exact mf
      clear W1E mc mf b0 b1 b2 b3 e0 e1 e2 e3 p0 p1 p2 p3 q0 q1 q2 q3 t0 t1 t2 t3 w0' w1' w2' w3' m1 m2 m3 a1 a2 a3 WV r0 r1 r2 r3 Z
      generalize hval : c0 + c1 * 256 + c2 * 65536 + c3 * 16777216 = val at *
      have HVAL := Lib.hid hval
      clear hval
      have W2E : ∃ W2, W2 = W1.setCell ⟨w.heap.size + 1 + 1 + 1, k, none⟩ (.int .u32 val) := ⟨_, rfl⟩
      obtain ⟨W2, W2E⟩ := W2E
      rw [← W2E] at NM
      have W2H := Lib.hid W2E
      clear W2E
      by_cases hk8 : k < 8
      · have kI8 : ((k : Nat) : Int) < 8 := by omega
        have s1 : W2.cell? ⟨w.heap.size, k, none⟩ = some (.int .u32 (tn (gt h k) : Int)) := (NM.out.gw.hb.cell k).trans (UL.gt (by rw [HH.out]; exact hk8))
        have s2 : W2.cell? ⟨gs, k, none⟩ = some (.int .u32 (tn (gt startL k) : Int)) := (NM.out.sb.cell k).trans (UL.gt hk8)
        have s3 := (NM.out.gw.vb.cell k).trans (UL.gt (by rw [lay8_len]; omega))
        have s4 := (NM.out.gw.vb.cell (k + 8)).trans (UL.gt (by rw [lay8_len]; omega))
        have f3 := NM.out.gw.vb.frozen k
        have f4 := NM.out.gw.vb.frozen (k + 8)
        have hgs : ¬ gs = w.heap.size + 1 + 1 + 1 + 1 := by have := NM.out.lo; omega
        have hgs' : ¬ w.heap.size + 1 + 1 + 1 + 1 = gs := by have := NM.out.lo; omega
        have NX : Hid (HW w gs h b (mL b (k + 1)) (lay8 h (k + 1)) ((W2.setCell ⟨w.heap.size + 1 + 1 + 1 + 1, k, none⟩ (.int .u32 (tn (gt h k) : Int))).setCell ⟨w.heap.size + 1 + 1 + 1 + 1, k + 8, none⟩ (.int .u32 (tn (gt startL k) : Int))).drew) := by
          have := (((NM.out.setV k (gt h k) _ rfl).setV (k + 8) (gt startL k) _ rfl).drew)
          rwa [lay8_low h k hk8] at this
        go_wp2_with fail
        rw [← W2H.out]
        have e1 : IntKind.i64.wrap ((k : Int) + 8) = (k : Int) + 8 := IntWalk.i64_in _ (by omega)
        have e2 : 0 ≤ (k : Int) + 8 := by omega
        have e3 : (k : Int) + 8 < 16 := by omega
        have e4 : ((k : Int) + 8).toNat = k + 8 := by omega
        clear mc1 mf1 W2H
        go_region
        clear e1 e2 e3 e4
        go_wp2_with fail
        exact ⟨⟨k + 1, by omega, by go_num, NX.out⟩, by simp [intOf]; omega⟩
      · have kI8 : ¬ ((k : Nat) : Int) < 8 := by omega
        have NX := NM.out
        rw [← lay8_high h k hk8, W2H.out] at NX
        have NX := Lib.hid NX
        go_wp2_with fail
        exact ⟨⟨k + 1, by omega, by go_num, NX.out⟩, by simp [intOf]; omega⟩
    · obtain rfl : k = 16 := by omega
      have R : Hid (GW w h b (numbersF b) (lay16 h 8) wr) := by
        have := Z.out.gw
        rwa [mL_end] at this
      clear Z
      have NL : Hid ((numbersF b).length = 16) := numbersL_len b 16
      have BF : Hid (∀ l, blockF h b t l = outL h (roundsL (spreadF h t l) (numbersF b) 10) 8) := fun l => rfl
      generalize numbersF b = m at *
      have s12 := (R.out.vb.cell 12).trans (UL.gt (by rw [lay16_len]; omega))
      have s13 := (R.out.vb.cell 13).trans (UL.gt (by rw [lay16_len]; omega))
      have s14 := (R.out.vb.cell 14).trans (UL.gt (by rw [lay16_len]; omega))
      have f12 := R.out.vb.frozen 12
      have f13 := R.out.vb.frozen 13
      have f14 := R.out.vb.frozen 14
      obtain ⟨l1, hl1⟩ : ∃ l, l = last := ⟨_, rfl⟩
      have HL := Lib.hid hl1
      clear hl1
      cases last
      all_goals
        (have HR : Hid (∀ a b' : Int, a = bits .xor .u32 (tn (gt (lay16 h 8) 12) : Int) (t % 4294967296) → b' = bits .xor .u32 (tn (gt (lay16 h 8) 13) : Int) (t / 4294967296) →
           GW w h b m (((lay16 h 8).set 12 (v12 h t)).set 13 (v13 h t)) ((wr.setCell ⟨w.heap.size + 1 + 1 + 1 + 1, 12, none⟩ (.int .u32 a)).setCell ⟨w.heap.size + 1 + 1 + 1 + 1, 13, none⟩ (.int .u32 b'))) := fun a b' ha hb' =>
           (R.out.setV 12 (v12 h t) a (by rw [ha, xor_bv, bv_tn, bv_mod]; rfl)).setV 13 (v13 h t) b' (by rw [hb', xor_bv, bv_tn]; rfl)
         have HR3 : Hid (∀ c : Int, c = bits .xor .u32 (tn (gt (lay16 h 8) 14) : Int) 4294967295 → GW w h b m ((((lay16 h 8).set 12 (v12 h t)).set 13 (v13 h t)).set 14 (v14 h)) (((wr.setCell ⟨w.heap.size + 1 + 1 + 1 + 1, 12, none⟩ (.int .u32 (bits .xor .u32 (tn (gt (lay16 h 8) 12) : Int) (t % 4294967296)))).setCell ⟨w.heap.size + 1 + 1 + 1 + 1, 13, none⟩ (.int .u32 (bits .xor .u32 (tn (gt (lay16 h 8) 13) : Int) (t / 4294967296)))).setCell ⟨w.heap.size + 1 + 1 + 1 + 1, 14, none⟩ (.int .u32 c))) := fun c hc =>
           (HR.out _ _ rfl rfl).setV 14 (v14 h) c (by rw [hc, xor_bv, bv_tn, BitVec.xor_comm]; rfl)
         go_wp2_with fail)
      all_goals
        first
        | (have hf : l1 = false := HL.out
           have R1 : Hid (GW w h b m (spreadF h t false) ((wr.setCell ⟨w.heap.size + 1 + 1 + 1 + 1, 12, none⟩ (.int .u32 (bits .xor .u32 (tn (gt (lay16 h 8) 12) : Int) (t % 4294967296)))).setCell ⟨w.heap.size + 1 + 1 + 1 + 1, 13, none⟩ (.int .u32 (bits .xor .u32 (tn (gt (lay16 h 8) 13) : Int) (t / 4294967296))))) := HR.out _ _ rfl rfl
           have VL : Hid ((spreadF h t false).length = 16) := spreadF_len h t false
           have HF : Hid (blockF h b t false = outL h (roundsL (spreadF h t false) m 10) 8) := BF.out false
           generalize (wr.setCell ⟨w.heap.size + 1 + 1 + 1 + 1, 12, none⟩ (.int .u32 (bits .xor .u32 (tn (gt (lay16 h 8) 12) : Int) (t % 4294967296)))).setCell ⟨w.heap.size + 1 + 1 + 1 + 1, 13, none⟩ (.int .u32 (bits .xor .u32 (tn (gt (lay16 h 8) 13) : Int) (t / 4294967296))) = wv at *
           generalize spreadF h t false = v0 at *
           skip)
        | (have hf : l1 = true := HL.out
           have R1 : Hid (GW w h b m (spreadF h t true) (((wr.setCell ⟨w.heap.size + 1 + 1 + 1 + 1, 12, none⟩ (.int .u32 (bits .xor .u32 (tn (gt (lay16 h 8) 12) : Int) (t % 4294967296)))).setCell ⟨w.heap.size + 1 + 1 + 1 + 1, 13, none⟩ (.int .u32 (bits .xor .u32 (tn (gt (lay16 h 8) 13) : Int) (t / 4294967296)))).setCell ⟨w.heap.size + 1 + 1 + 1 + 1, 14, none⟩ (.int .u32 (bits .xor .u32 (tn (gt (lay16 h 8) 14) : Int) 4294967295)))) := HR3.out _ rfl
           have VL : Hid ((spreadF h t true).length = 16) := spreadF_len h t true
           have HF : Hid (blockF h b t true = outL h (roundsL (spreadF h t true) m 10) 8) := BF.out true
           generalize ((wr.setCell ⟨w.heap.size + 1 + 1 + 1 + 1, 12, none⟩ (.int .u32 (bits .xor .u32 (tn (gt (lay16 h 8) 12) : Int) (t % 4294967296)))).setCell ⟨w.heap.size + 1 + 1 + 1 + 1, 13, none⟩ (.int .u32 (bits .xor .u32 (tn (gt (lay16 h 8) 13) : Int) (t / 4294967296)))).setCell ⟨w.heap.size + 1 + 1 + 1 + 1, 14, none⟩ (.int .u32 (bits .xor .u32 (tn (gt (lay16 h 8) 14) : Int) 4294967295)) = wv at *
           generalize spreadF h t true = v0 at *
           skip)
      all_goals
        (clear HR HR3 R s12 s13 s14 f12 f13 f14 HL hf BF
         go_loopw [86] (fun i wr => ∃ k : Nat, k ≤ 10 ∧ i = .int .i64 k ∧ GW w h b m (roundsL v0 m k) wr) (fun i _ => 10 - (intOf i).toNat)
         case atStart => exact ⟨0, Nat.zero_le _, rfl, R1.out⟩
         case round =>
           obtain ⟨k, hk, rfl, hx⟩ := hrel
           have R := Lib.hid hx
           clear R1 hx
           by_cases hlt : k < 10
           · have kI10 : ((k : Nat) : Int) < 10 := by omega
             have kI0 : (0 : Int) ≤ (k : Nat) := by omega
             have OS := Lib.hid (fun w => order_any k hlt w)
             have OX := Lib.hid (fun j (hj : j < 16) w => ord_ix k hlt j hj w)
             have OD := Lib.hid (fun j (hj : j < 16) w => ord_call k hlt j hj w)
             have OL := Lib.hid (orders_lt k hlt)
             have RL : Hid ((roundsL v0 m k).length = 16) := show _ = _ by rw [roundsL_len, VL.out]
             have RS : Hid (roundsL v0 m (k + 1) = roundL (roundsL v0 m k) m (ordersL.getD k []) 8) := show _ = _ from rfl
             generalize roundsL v0 m k = v1 at *
             generalize ordersL.getD k [] = ord at *
             generalize ordS k = os at *
             have R0 : Hid (GW w h b m (roundL v1 m ord 0) wr) := R.out
             clear R
             go_wp2_with (go_at_call 103; with_reducible refine (OS.out _).mono ?_; rintro e w2 ⟨rfl, rfl⟩)
             go_loopw [91] (fun i wr => ∃ j : Nat, j ≤ 8 ∧ i = .int .i64 j ∧ GW w h b m (roundL v1 m ord j) wr) (fun i _ => 8 - (intOf i).toNat)
             case atStart => exact ⟨0, Nat.zero_le _, rfl, R0.out⟩
             case round =>
               obtain ⟨j, hj, rfl, hx⟩ := hrel
               have R := Lib.hid hx
               clear R0 hx
               by_cases hj8 : j < 8
               · have jI8 : ((j : Nat) : Int) < 8 := by omega
                 have jI0 : (0 : Int) ≤ (j : Nat) := by omega
                 have ix := fun w => ix74 j hj8 w
                 have oxa : ∀ w, (Instr.index 9 (.string os) (.int .i64 (2 * (j : Int)))).run Tryd.prog w = .ok (.int .u8 (ordC k (2 * j))) w := fun w => by
                   have := OX.out (2 * j) (by omega) w
                   rwa [show (((2 * j : Nat)) : Int) = 2 * (j : Int) by omega] at this
                 have oxb : ∀ w, (Instr.index 9 (.string os) (.int .i64 (2 * (j : Int) + 1))).run Tryd.prog w = .ok (.int .u8 (ordC k (2 * j + 1))) w := fun w => by
                   have := OX.out (2 * j + 1) (by omega) w
                   rwa [show (((2 * j + 1 : Nat)) : Int) = 2 * (j : Int) + 1 by omega] at this
                 have D0 := Lib.hid (OD.out (2 * j) (by omega))
                 have D1 := Lib.hid (OD.out (2 * j + 1) (by omega))
                 have la := OL.out (2 * j)
                 have lb := OL.out (2 * j + 1)
                 have MX := Lib.hid (fun w => refmixed_four (roundL v1 m ord j) (by rw [roundL_len, RL.out]) j hj8 (gt m (ord.getD (2 * j) 0)) (gt m (ord.getD (2 * j + 1) 0)) w)
                 have V2E : Hid (putQ (roundL v1 m ord j) j (mixQ ⟨gt (roundL v1 m ord j) (fo j 0), gt (roundL v1 m ord j) (fo j 1), gt (roundL v1 m ord j) (fo j 2), gt (roundL v1 m ord j) (fo j 3)⟩ (gt m (ord.getD (2 * j) 0)) (gt m (ord.getD (2 * j + 1) 0))) = roundL v1 m ord (j + 1)) := show _ = _ from rfl
                 rw [V2E.out] at MX
                 have l1 : (roundL v1 m ord j).length = 16 := by rw [roundL_len, RL.out]
                 have l2 : (roundL v1 m ord (j + 1)).length = 16 := by rw [roundL_len, RL.out]
                 have iV : Hid ((Tryd.prog.info? 125).map (·.size) = some (UL (roundL v1 m ord j)).length) := show _ = _ by rw [UL.len, l1]; exact Tryd.i70
                 have iV2 : Hid ((Tryd.prog.info? 125).map (·.size) = some (UL (roundL v1 m ord (j + 1))).length) := show _ = _ by rw [UL.len, l2]; exact Tryd.i70
                 have zV : Hid ((UL (roundL v1 m ord j)).toArray.size = (UL (roundL v1 m ord (j + 1))).length) := show _ = _ by rw [List.size_toArray, UL.len, UL.len, l1, l2]
                 have oV2 := Lib.hid (UL.one (roundL v1 m ord (j + 1)))
                 have RV : Hid (wr.drew.rangeAt (w.heap.size + 1 + 1 + 1 + 1) 0 (UL (roundL v1 m ord j))) := R.out.drew.vb.rng
                 have R2 : Hid (GW w h b m (roundL v1 m ord j) wr.drew) := R.out.drew
                 clear R l1 l2 V2E
                 generalize hV2 : roundL v1 m ord (j + 1) = V2 at *
                 have HV2 := Lib.hid hV2
                 clear hV2
                 generalize roundL v1 m ord j = V at *
                 generalize ordC k (2 * j) = ca at *
                 generalize ordC k (2 * j + 1) = cb at *
                 generalize ord.getD (2 * j) 0 = oa at *
                 generalize ord.getD (2 * j + 1) 0 = ob at *
                 have MCS : Hid (∀ w' V', GW w h b m V' w' → w'.cell? ⟨w.heap.size + 1 + 1 + 1, oa, none⟩ = some (.int .u32 (tn (gt m oa) : Int)) ∧ w'.cell? ⟨w.heap.size + 1 + 1 + 1, ob, none⟩ = some (.int .u32 (tn (gt m ob) : Int))) := fun w' V' g =>
                   ⟨(g.mb.cell oa).trans (UL.gt (by rw [NL.out]; exact la)), (g.mb.cell ob).trans (UL.gt (by rw [NL.out]; exact lb))⟩
                 go_wp2_with fail
                 have e1 : IntKind.i64.wrap (2 * (j : Int)) = 2 * (j : Int) := IntWalk.i64_in _ (by omega)
                 have e2 : IntKind.i64.wrap (2 * (j : Int) + 1) = 2 * (j : Int) + 1 := IntWalk.i64_in _ (by omega)
                 have a0 : (0 : Int) ≤ (oa : Nat) := by omega
                 have a1 : ((oa : Nat) : Int) < 16 := by omega
                 have b0 : (0 : Int) ≤ (ob : Nat) := by omega
                 have b1 : ((ob : Nat) : Int) < 16 := by omega
                 have hS0 : wr.drew.cell? ⟨w.heap.size + 1 + 1 + 1, oa, none⟩ = some (.int .u32 (tn (gt m oa) : Int)) ∧ wr.drew.cell? ⟨w.heap.size + 1 + 1 + 1, ob, none⟩ = some (.int .u32 (tn (gt m ob) : Int)) := MCS.out _ _ R2.out
                 refine wp_region_noPanic ?_
                 refine wp_region_held_drew (S := fun w' => w'.cell? ⟨w.heap.size + 1 + 1 + 1, oa, none⟩ = some (.int .u32 (tn (gt m oa) : Int)) ∧ w'.cell? ⟨w.heap.size + 1 + 1 + 1, ob, none⟩ = some (.int .u32 (tn (gt m ob) : Int))) (by kernel_rfl) hS0 (fun hHeld => ?_)
                 refine take_d (i := 1) (d := 98) (v := .string (fourS j)) rfl rfl (by kernel_rfl) (by kernel_rfl) (by kernel_rfl) (fun _ _ _ h => h) (Or.inl ⟨by kernel_rfl, fun w hSw => by go_simp⟩) hHeld ?_
                 try simp only [Act.put, List.setIfInBounds_toArray, List.set_cons_zero, List.set_cons_succ]
                 refine take_d (i := 2) (d := 99) (v := .string os) rfl rfl (by kernel_rfl) (by kernel_rfl) (by kernel_rfl) (fun _ _ _ h => h) (Or.inl ⟨by kernel_rfl, fun w hSw => by go_simp⟩) hHeld ?_
                 try simp only [Act.put, List.setIfInBounds_toArray, List.set_cons_zero, List.set_cons_succ]
                 refine take_d (i := 3) (d := 100) (v := .int .i64 (j : Int)) rfl rfl (by kernel_rfl) (by kernel_rfl) (by kernel_rfl) (fun _ _ _ h => h) (Or.inl ⟨by kernel_rfl, fun w hSw => by go_simp⟩) hHeld ?_
                 try simp only [Act.put, List.setIfInBounds_toArray, List.set_cons_zero, List.set_cons_succ]
                 refine take_d (i := 4) (d := 101) (v := .int .i64 (2 * (j : Int))) rfl rfl (by kernel_rfl) (by kernel_rfl) (by kernel_rfl) (fun _ _ _ h => h) (Or.inl ⟨by kernel_rfl, fun w hSw => by go_simp⟩) hHeld ?_
                 try simp only [Act.put, List.setIfInBounds_toArray, List.set_cons_zero, List.set_cons_succ]
                 refine take_d (i := 5) (d := 102) (v := .int .u8 ca) rfl rfl (by kernel_rfl) (by kernel_rfl) (by kernel_rfl) (fun _ _ _ h => h) (Or.inl ⟨by kernel_rfl, fun w hSw => by go_simp⟩) hHeld ?_
                 try simp only [Act.put, List.setIfInBounds_toArray, List.set_cons_zero, List.set_cons_succ]
                 refine take_d (i := 9) (d := 106) (v := .string os) rfl rfl (by kernel_rfl) (by kernel_rfl) (by kernel_rfl) (fun _ _ _ h => h) (Or.inl ⟨by kernel_rfl, fun w hSw => by go_simp⟩) hHeld ?_
                 try simp only [Act.put, List.setIfInBounds_toArray, List.set_cons_zero, List.set_cons_succ]
                 refine take_d (i := 10) (d := 107) (v := .int .i64 (j : Int)) rfl rfl (by kernel_rfl) (by kernel_rfl) (by kernel_rfl) (fun _ _ _ h => h) (Or.inl ⟨by kernel_rfl, fun w hSw => by go_simp⟩) hHeld ?_
                 try simp only [Act.put, List.setIfInBounds_toArray, List.set_cons_zero, List.set_cons_succ]
                 refine take_d (i := 11) (d := 108) (v := .int .i64 (2 * (j : Int))) rfl rfl (by kernel_rfl) (by kernel_rfl) (by kernel_rfl) (fun _ _ _ h => h) (Or.inl ⟨by kernel_rfl, fun w hSw => by go_simp⟩) hHeld ?_
                 try simp only [Act.put, List.setIfInBounds_toArray, List.set_cons_zero, List.set_cons_succ]
                 refine take_d (i := 12) (d := 109) (v := .int .i64 (2 * (j : Int) + 1)) rfl rfl (by kernel_rfl) (by kernel_rfl) (by kernel_rfl) (fun _ _ _ h => h) (Or.inl ⟨by kernel_rfl, fun w hSw => by go_simp⟩) hHeld ?_
                 try simp only [Act.put, List.setIfInBounds_toArray, List.set_cons_zero, List.set_cons_succ]
                 refine take_d (i := 13) (d := 110) (v := .int .u8 cb) rfl rfl (by kernel_rfl) (by kernel_rfl) (by kernel_rfl) (fun _ _ _ h => h) (Or.inl ⟨by kernel_rfl, fun w hSw => by go_simp⟩) hHeld ?_
                 try simp only [Act.put, List.setIfInBounds_toArray, List.set_cons_zero, List.set_cons_succ]
                 refine wpAnyH_ready (rs := [0, 6]) (by kernel_rfl) (by simp) ?_
                 refine AllReadyH.cons rfl (fun K hK => ?_) (AllReadyH.cons rfl (fun K hK => ?_) AllReadyH.nil)
                 · skip
                   rw [if_pos (by kernel_rfl)]
                   refine wp_load_mid _ _ rfl (w.heap.size + 1 + 1 + 1 + 1) 0 rfl (UL V) _ RV.out Tryd.underlying125 rfl iV.out ?_
                   refine hK.out _ _ hHeld (fun hHeld => ?_)
                   clear hK K
                   try simp only [Act.put, List.setIfInBounds_toArray, List.set_cons_zero, List.set_cons_succ]
                   refine wpAnyH_ready (rs := [6]) (by kernel_rfl) (by simp) ?_
                   refine AllReadyH.cons rfl (fun K hK => ?_) AllReadyH.nil
                   go_simp
                   with_reducible refine (D0.out _).mono ?_
                   rintro e w3 ⟨rfl, rfl⟩
                   refine hK.out _ _ hHeld (fun hHeld => ?_)
                   clear hK K
                   try simp only [Act.put, List.setIfInBounds_toArray, List.set_cons_zero, List.set_cons_succ]
                   refine take_d (i := 7) (d := 104) (v := .pointer (some ⟨w.heap.size + 1 + 1 + 1, oa, none⟩)) rfl rfl (by kernel_rfl) (by kernel_rfl) (by kernel_rfl) (fun _ _ _ h => h) (Or.inl ⟨by kernel_rfl, fun w hSw => by go_simp⟩) hHeld ?_
                   try simp only [Act.put, List.setIfInBounds_toArray, List.set_cons_zero, List.set_cons_succ]
                   refine take_d (i := 8) (d := 105) (v := .int .u32 (tn (gt m oa) : Int)) rfl rfl (by kernel_rfl) (by kernel_rfl) (by kernel_rfl) (fun _ _ _ h => h) (Or.inl ⟨by kernel_rfl, fun w hSw => by obtain ⟨s0, s1⟩ := hSw; go_simp⟩) hHeld ?_
                   try simp only [Act.put, List.setIfInBounds_toArray, List.set_cons_zero, List.set_cons_succ]
                   refine wpAnyH_ready (rs := [14]) (by kernel_rfl) (by simp) ?_
                   refine AllReadyH.cons rfl (fun K hK => ?_) AllReadyH.nil
                   go_simp
                   with_reducible refine (D1.out _).mono ?_
                   rintro e w3 ⟨rfl, rfl⟩
                   refine hK.out _ _ hHeld (fun hHeld => ?_)
                   clear hK K
                   try simp only [Act.put, List.setIfInBounds_toArray, List.set_cons_zero, List.set_cons_succ]
                   refine take_d (i := 15) (d := 112) (v := .pointer (some ⟨w.heap.size + 1 + 1 + 1, ob, none⟩)) rfl rfl (by kernel_rfl) (by kernel_rfl) (by kernel_rfl) (fun _ _ _ h => h) (Or.inl ⟨by kernel_rfl, fun w hSw => by go_simp⟩) hHeld ?_
                   try simp only [Act.put, List.setIfInBounds_toArray, List.set_cons_zero, List.set_cons_succ]
                   refine take_d (i := 16) (d := 113) (v := .int .u32 (tn (gt m ob) : Int)) rfl rfl (by kernel_rfl) (by kernel_rfl) (by kernel_rfl) (fun _ _ _ h => h) (Or.inl ⟨by kernel_rfl, fun w hSw => by obtain ⟨s0, s1⟩ := hSw; go_simp⟩) hHeld ?_
                   try simp only [Act.put, List.setIfInBounds_toArray, List.set_cons_zero, List.set_cons_succ]
                   refine wpAnyH_ready (rs := [17]) (by kernel_rfl) (by simp) ?_
                   refine AllReadyH.cons rfl (fun K hK => ?_) AllReadyH.nil
                   go_simp
                   with_reducible refine (MX.out _).mono ?_
                   rintro e w3 ⟨rfl, k3⟩
                   have R3 := Lib.hid (R2.out.low k3)
                   refine hK.out _ _ (MCS.out _ _ R3.out) (fun hHeld => ?_)
                   clear hK K
                   try simp only [Act.put, List.setIfInBounds_toArray, List.set_cons_zero, List.set_cons_succ]
                   refine wpAnyH_ready (rs := [18]) (by kernel_rfl) (by simp) ?_
                   refine AllReadyH.cons rfl (fun K hK => ?_) AllReadyH.nil
                   rw [if_pos (by kernel_rfl)]
                   refine wp_store_blk _ _ _ rfl (w.heap.size + 1 + 1 + 1 + 1) (UL V).toArray 125 (UL V2) rfl rfl R3.out.vb zV.out iV2.out oV2.out ?_
                   intro w4 hb4 ho4
                   have R4 := Lib.hid (R3.out.put ho4 hb4)
                   refine hK.out _ _ (MCS.out _ _ R4.out) (fun hHeld => ?_)
                   clear hK K
                   try simp only [Act.put, List.setIfInBounds_toArray, List.set_cons_zero, List.set_cons_succ]
                   refine wpAnyH_done (by kernel_rfl) ?_ _
                   refine NoPanic.normal ?_
                   clear hHeld R3 RV k3 MX D0 D1 R2 MCS
                   go_wp2_with fail
                   exact ⟨⟨j + 1, by omega, by go_num, by rw [HV2.out]; exact R4.out⟩, by simp [intOf]; omega⟩
                 · skip
                   go_simp
                   with_reducible refine (D0.out _).mono ?_
                   rintro e w3 ⟨rfl, rfl⟩
                   refine hK.out _ _ hHeld (fun hHeld => ?_)
                   clear hK K
                   try simp only [Act.put, List.setIfInBounds_toArray, List.set_cons_zero, List.set_cons_succ]
                   refine take_d (i := 7) (d := 104) (v := .pointer (some ⟨w.heap.size + 1 + 1 + 1, oa, none⟩)) rfl rfl (by kernel_rfl) (by kernel_rfl) (by kernel_rfl) (fun _ _ _ h => h) (Or.inl ⟨by kernel_rfl, fun w hSw => by go_simp⟩) hHeld ?_
                   try simp only [Act.put, List.setIfInBounds_toArray, List.set_cons_zero, List.set_cons_succ]
                   refine take_d (i := 8) (d := 105) (v := .int .u32 (tn (gt m oa) : Int)) rfl rfl (by kernel_rfl) (by kernel_rfl) (by kernel_rfl) (fun _ _ _ h => h) (Or.inl ⟨by kernel_rfl, fun w hSw => by obtain ⟨s0, s1⟩ := hSw; go_simp⟩) hHeld ?_
                   try simp only [Act.put, List.setIfInBounds_toArray, List.set_cons_zero, List.set_cons_succ]
                   refine wpAnyH_ready (rs := [0, 14]) (by kernel_rfl) (by simp) ?_
                   refine AllReadyH.cons rfl (fun K hK => ?_) (AllReadyH.cons rfl (fun K hK => ?_) AllReadyH.nil)
                   · skip
                     rw [if_pos (by kernel_rfl)]
                     refine wp_load_mid _ _ rfl (w.heap.size + 1 + 1 + 1 + 1) 0 rfl (UL V) _ RV.out Tryd.underlying125 rfl iV.out ?_
                     refine hK.out _ _ hHeld (fun hHeld => ?_)
                     clear hK K
                     try simp only [Act.put, List.setIfInBounds_toArray, List.set_cons_zero, List.set_cons_succ]
                     refine wpAnyH_ready (rs := [14]) (by kernel_rfl) (by simp) ?_
                     refine AllReadyH.cons rfl (fun K hK => ?_) AllReadyH.nil
                     go_simp
                     with_reducible refine (D1.out _).mono ?_
                     rintro e w3 ⟨rfl, rfl⟩
                     refine hK.out _ _ hHeld (fun hHeld => ?_)
                     clear hK K
                     try simp only [Act.put, List.setIfInBounds_toArray, List.set_cons_zero, List.set_cons_succ]
                     refine take_d (i := 15) (d := 112) (v := .pointer (some ⟨w.heap.size + 1 + 1 + 1, ob, none⟩)) rfl rfl (by kernel_rfl) (by kernel_rfl) (by kernel_rfl) (fun _ _ _ h => h) (Or.inl ⟨by kernel_rfl, fun w hSw => by go_simp⟩) hHeld ?_
                     try simp only [Act.put, List.setIfInBounds_toArray, List.set_cons_zero, List.set_cons_succ]
                     refine take_d (i := 16) (d := 113) (v := .int .u32 (tn (gt m ob) : Int)) rfl rfl (by kernel_rfl) (by kernel_rfl) (by kernel_rfl) (fun _ _ _ h => h) (Or.inl ⟨by kernel_rfl, fun w hSw => by obtain ⟨s0, s1⟩ := hSw; go_simp⟩) hHeld ?_
                     try simp only [Act.put, List.setIfInBounds_toArray, List.set_cons_zero, List.set_cons_succ]
                     refine wpAnyH_ready (rs := [17]) (by kernel_rfl) (by simp) ?_
                     refine AllReadyH.cons rfl (fun K hK => ?_) AllReadyH.nil
                     go_simp
                     with_reducible refine (MX.out _).mono ?_
                     rintro e w3 ⟨rfl, k3⟩
                     have R3 := Lib.hid (R2.out.low k3)
                     refine hK.out _ _ (MCS.out _ _ R3.out) (fun hHeld => ?_)
                     clear hK K
                     try simp only [Act.put, List.setIfInBounds_toArray, List.set_cons_zero, List.set_cons_succ]
                     refine wpAnyH_ready (rs := [18]) (by kernel_rfl) (by simp) ?_
                     refine AllReadyH.cons rfl (fun K hK => ?_) AllReadyH.nil
                     rw [if_pos (by kernel_rfl)]
                     refine wp_store_blk _ _ _ rfl (w.heap.size + 1 + 1 + 1 + 1) (UL V).toArray 125 (UL V2) rfl rfl R3.out.vb zV.out iV2.out oV2.out ?_
                     intro w4 hb4 ho4
                     have R4 := Lib.hid (R3.out.put ho4 hb4)
                     refine hK.out _ _ (MCS.out _ _ R4.out) (fun hHeld => ?_)
                     clear hK K
                     try simp only [Act.put, List.setIfInBounds_toArray, List.set_cons_zero, List.set_cons_succ]
                     refine wpAnyH_done (by kernel_rfl) ?_ _
                     refine NoPanic.normal ?_
                     clear hHeld R3 RV k3 MX D0 D1 R2 MCS
                     go_wp2_with fail
                     exact ⟨⟨j + 1, by omega, by go_num, by rw [HV2.out]; exact R4.out⟩, by simp [intOf]; omega⟩
                   · skip
                     go_simp
                     with_reducible refine (D1.out _).mono ?_
                     rintro e w3 ⟨rfl, rfl⟩
                     refine hK.out _ _ hHeld (fun hHeld => ?_)
                     clear hK K
                     try simp only [Act.put, List.setIfInBounds_toArray, List.set_cons_zero, List.set_cons_succ]
                     refine take_d (i := 15) (d := 112) (v := .pointer (some ⟨w.heap.size + 1 + 1 + 1, ob, none⟩)) rfl rfl (by kernel_rfl) (by kernel_rfl) (by kernel_rfl) (fun _ _ _ h => h) (Or.inl ⟨by kernel_rfl, fun w hSw => by go_simp⟩) hHeld ?_
                     try simp only [Act.put, List.setIfInBounds_toArray, List.set_cons_zero, List.set_cons_succ]
                     refine take_d (i := 16) (d := 113) (v := .int .u32 (tn (gt m ob) : Int)) rfl rfl (by kernel_rfl) (by kernel_rfl) (by kernel_rfl) (fun _ _ _ h => h) (Or.inl ⟨by kernel_rfl, fun w hSw => by obtain ⟨s0, s1⟩ := hSw; go_simp⟩) hHeld ?_
                     try simp only [Act.put, List.setIfInBounds_toArray, List.set_cons_zero, List.set_cons_succ]
                     refine wpAnyH_ready (rs := [0]) (by kernel_rfl) (by simp) ?_
                     refine AllReadyH.cons rfl (fun K hK => ?_) AllReadyH.nil
                     rw [if_pos (by kernel_rfl)]
                     refine wp_load_mid _ _ rfl (w.heap.size + 1 + 1 + 1 + 1) 0 rfl (UL V) _ RV.out Tryd.underlying125 rfl iV.out ?_
                     refine hK.out _ _ hHeld (fun hHeld => ?_)
                     clear hK K
                     try simp only [Act.put, List.setIfInBounds_toArray, List.set_cons_zero, List.set_cons_succ]
                     refine wpAnyH_ready (rs := [17]) (by kernel_rfl) (by simp) ?_
                     refine AllReadyH.cons rfl (fun K hK => ?_) AllReadyH.nil
                     go_simp
                     with_reducible refine (MX.out _).mono ?_
                     rintro e w3 ⟨rfl, k3⟩
                     have R3 := Lib.hid (R2.out.low k3)
                     refine hK.out _ _ (MCS.out _ _ R3.out) (fun hHeld => ?_)
                     clear hK K
                     try simp only [Act.put, List.setIfInBounds_toArray, List.set_cons_zero, List.set_cons_succ]
                     refine wpAnyH_ready (rs := [18]) (by kernel_rfl) (by simp) ?_
                     refine AllReadyH.cons rfl (fun K hK => ?_) AllReadyH.nil
                     rw [if_pos (by kernel_rfl)]
                     refine wp_store_blk _ _ _ rfl (w.heap.size + 1 + 1 + 1 + 1) (UL V).toArray 125 (UL V2) rfl rfl R3.out.vb zV.out iV2.out oV2.out ?_
                     intro w4 hb4 ho4
                     have R4 := Lib.hid (R3.out.put ho4 hb4)
                     refine hK.out _ _ (MCS.out _ _ R4.out) (fun hHeld => ?_)
                     clear hK K
                     try simp only [Act.put, List.setIfInBounds_toArray, List.set_cons_zero, List.set_cons_succ]
                     refine wpAnyH_done (by kernel_rfl) ?_ _
                     refine NoPanic.normal ?_
                     clear hHeld R3 RV k3 MX D0 D1 R2 MCS
                     go_wp2_with fail
                     exact ⟨⟨j + 1, by omega, by go_num, by rw [HV2.out]; exact R4.out⟩, by simp [intOf]; omega⟩
               · obtain rfl : j = 8 := by omega
                 have RE : Hid (GW w h b m (roundsL v0 m (k + 1)) wr) := by rw [RS.out]; exact R.out
                 go_wp2_with fail
                 first | exact ⟨⟨k + 1, by omega, by go_num, RE.out⟩, by simp [intOf]; omega⟩ | (refine ⟨?_, by simp [intOf]; omega⟩; (repeat apply Exists.intro); exact ⟨⟨k + 1, by omega, by go_num, RE.out⟩, rfl⟩)
           · obtain rfl : k = 10 := by omega
             have RL : Hid ((roundsL v0 m 10).length = 16) := show _ = _ by rw [roundsL_len, VL.out]
             generalize roundsL v0 m 10 = V at *
             have R0 : Hid (GW w (outL h V 0) b m V wr) := R.out
             clear R
             go_wp2_with fail
             go_loopw [117] (fun i wr => ∃ k : Nat, k ≤ 8 ∧ i = .int .i64 k ∧ GW w (outL h V k) b m V wr) (fun i _ => 8 - (intOf i).toNat)
             case atStart => exact ⟨0, Nat.zero_le _, rfl, R0.out⟩
             case round =>
               obtain ⟨k, hk, rfl, hx⟩ := hrel
               have R := Lib.hid hx
               clear R0 hx
               by_cases hk8 : k < 8
               · have kI8 : ((k : Nat) : Int) < 8 := by omega
                 have c1 : wr.cell? ⟨w.heap.size, k, none⟩ = some (.int .u32 (tn (gt (outL h V k) k) : Int)) := (R.out.hb.cell k).trans (UL.gt (by rw [outL_len, HH.out]; exact hk8))
                 have c2 : wr.cell? ⟨w.heap.size + 1 + 1 + 1 + 1, k, none⟩ = some (.int .u32 (tn (gt V k) : Int)) := (R.out.vb.cell k).trans (UL.gt (by rw [RL.out]; omega))
                 have c3 : wr.cell? ⟨w.heap.size + 1 + 1 + 1 + 1, k + 8, none⟩ = some (.int .u32 (tn (gt V (k + 8)) : Int)) := (R.out.vb.cell (k + 8)).trans (UL.gt (by rw [RL.out]; omega))
                 have f1 := R.out.hb.frozen k
                 have NX : Hid (GW w (outL h V (k + 1)) b m V (wr.setCell ⟨w.heap.size, k, none⟩ (.int .u32 (bits .xor .u32 (bits .xor .u32 (tn (gt (outL h V k) k) : Int) (tn (gt V k) : Int)) (tn (gt V (k + 8)) : Int)))).drew) :=
                   (R.out.setH k (gt (outL h V k) k ^^^ (gt V k ^^^ gt V (k + 8))) _ (by rw [xor_bv, xor_bv, bv_tn, bv_tn, bv_tn, bv_tn, BitVec.xor_assoc])).drew
                 generalize gt (outL h V k) k = x1 at *
                 go_wp2_with fail
                 have e1 : IntKind.i64.wrap ((k : Int) + 8) = (k : Int) + 8 := IntWalk.i64_in _ (by omega)
                 have e2 : 0 ≤ (k : Int) + 8 := by omega
                 have e3 : (k : Int) + 8 < 16 := by omega
                 have e4 : ((k : Int) + 8).toNat = k + 8 := by omega
                 go_region
                 clear e1 e2 e3 e4
                 go_wp2_with fail
                 exact ⟨⟨k + 1, by omega, by go_num, NX.out⟩, by simp [intOf]; omega⟩
               · obtain rfl : k = 8 := by omega
                 have HL8 : Hid ((outL h V 8).length = 8) := show _ = _ by rw [outL_len, HH.out]
                 have i42 : Hid ((Tryd.prog.info? 107).map (·.size) = some (UL (outL h V 8)).length) := show _ = _ by rw [UL.len, HL8.out]; exact Tryd.i42
                 have i42A : Hid ((Tryd.prog.info? 107).map (·.size) = some (UL (outL h V 8)).toArray.size) := show _ = _ by rw [List.size_toArray, UL.len, HL8.out]; exact Tryd.i42
                 have z42 : Hid ((ZU 8).toArray.size = (UL (outL h V 8)).length) := show _ = _ by rw [UL.len, HL8.out]; rfl
                 have o42 := Lib.hid (UL.one (outL h V 8))
                 generalize outL h V 8 = hz at *
                 go_wp2_with (first
                   | ((with_reducible refine at_load (t := 107) ?_); refine wpList_load_mid rfl 107 _ rfl w.heap.size 0 rfl (UL hz) _ R.out.hb.rng Tryd.underlying107 rfl i42.out ?_)
                   | ((with_reducible refine at_store (t := 107) ?_); refine wpList_store_blk _ rfl 107 _ _ rfl (w.heap.size + 1 + 1) (ZU 8).toArray 107 (UL hz) rfl rfl R.out.res z42.out i42.out o42.out ?_; intro w9 hb9 ho9))
                 refine bodyPost_ret (results_cell_row (p := 8) (ty := 107) rfl _ _ (w.heap.size + 1 + 1) 107 _ (0, 0) _ rfl hb9 Tryd.underlying107 rfl i42A.out) rfl ?_
                 rw [HF.out]
                 exact ⟨rfl, R.out.below.trans (ho9.below (by omega))⟩)

end Go.Proofs.YtemfnckaehjhcaaDoor.Bk
