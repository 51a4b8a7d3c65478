/-
  The document's Sum.
-/
import Derived.Test.YtemfnckaehjhcaaDoorBkK3
import Derived.Test.YtemfnckaehjhcaaDoorOp
import Derived.Test.YtemfnckaehjhcaaDoorBkCe
namespace Go.Proofs.YtemfnckaehjhcaaDoor.Bk
open Go.RowKit
attribute [local go_sem ↓] Tryd.z42 Tryd.z70 Tryd.z27 Tryd.z45 Tryd.z37 Tryd.z38

/-- Where one stands. -/
structure UW (w0 : World) (A : Option Addr) (n : Nat) (zs : List Int) (gh : Nat) (h : List (BitVec 32)) (w : World) : Prop where
  below : Below w0.heap.size w0 w
  by_ : By w w0.heap.size A n zs
  res : Blk w w0.heap.size 80 (ZB 32).toArray
  hb : Blk w gh 107 (UL h).toArray
  lo : w0.heap.size < gh
section
variable {w0 w w' : World} {A : Option Addr} {n gh : Nat} {zs : List Int} {h : List (BitVec 32)}
theorem UW.low (s : UW w0 A n zs gh h w) (k : Below w.heap.size w w') : UW w0 A n zs gh h w' :=
  ⟨s.below.trans (k.mono s.below.size), s.by_.below (k.mono s.below.size), s.res.below k s.res.lt, s.hb.below k s.hb.lt, s.lo⟩
theorem UW.put (s : UW w0 A n zs gh h w) {h' : List (BitVec 32)} (ho : Only gh w w') (hv : Blk w' gh 107 (UL h').toArray) : UW w0 A n zs gh h' w' :=
  ⟨s.below.trans (ho.below (by have := s.lo; omega)), s.by_.below (ho.below (by have := s.lo; omega)), ho.keep s.res (by have := s.lo; omega), hv, s.lo⟩
theorem UW.set (s : UW w0 A n zs gh h w) (i : Nat) (x : BitVec 32) (z : Int) (hz : z = tn x) : UW w0 A n zs gh (h.set i x) (w.setCell ⟨gh, i, none⟩ (.int .u32 z)) := by
  subst hz
  have l := s.lo
  refine ⟨s.below.setCell (by show _ ≤ gh; omega) _, s.by_.setCell (by show _ ≤ gh; omega) _, s.res.far (by show _ ≠ gh; omega) _, ?_, l⟩
  have := s.hb.set_ i (.int .u32 (tn x : Int))
  rwa [UL.set] at this
end
/-- With a row of bytes of its own behind. -/
structure PW13 (w0 : World) (A : Option Addr) (n : Nat) (zs : List Int) (gh : Nat) (h : List (BitVec 32)) (g : Nat) (ty : TypeId) (own : List Int) (w : World) : Prop where
  uw : UW w0 A n zs gh h w
  ob : Blk w g ty (BL own).toArray
  lo : gh < g
theorem PW13.set {w0 w : World} {A : Option Addr} {n gh g : Nat} {zs own : List Int} {h : List (BitVec 32)} {ty : TypeId} (s : PW13 w0 A n zs gh h g ty own w) (i : Nat) (z : Int) : PW13 w0 A n zs gh h g ty (own.set i z) (w.setCell ⟨g, i, none⟩ (.int .u8 z)) := by
  have l := s.lo
  have l2 := s.uw.lo
  refine ⟨⟨s.uw.below.setCell (by show _ ≤ g; omega) _, s.uw.by_.setCell (by show _ ≤ g; omega) _, s.uw.res.far (by show _ ≠ g; omega) _, s.uw.hb.far (by show _ ≠ g; omega) _, l2⟩, ?_, l⟩
  have := s.ob.set_ i (.int .u8 z)
  rwa [BL.set] at this

/-- The bytes of a block, as far as they are copied. -/
def ownL (zs : List Int) (k i : Nat) : List Int := (zs.drop (k * 64)).take i ++ List.replicate (64 - i) 0
theorem ownL_set (zs : List Int) (k i : Nat) (hi : k * 64 + i < zs.length) (h64 : i < 64) : (ownL zs k i).set i (zs.getD (k * 64 + i) 0) = ownL zs k (i + 1) := by
  unfold ownL
  have hl : ((zs.drop (k * 64)).take i).length = i := by rw [List.length_take, List.length_drop]; omega
  rw [List.set_append_right _ _ (by omega), hl, Nat.sub_self, show 64 - i = (64 - (i + 1)) + 1 by omega, List.replicate_succ, List.set_cons_zero]
  have hd : i < (zs.drop (k * 64)).length := by rw [List.length_drop]; omega
  have e : zs.getD (k * 64 + i) 0 = (zs.drop (k * 64))[i] := by simp [List.getD, hi]
  rw [List.take_succ_eq_append_getElem hd, e, List.append_assoc]
  rfl
theorem ownL_len (zs : List Int) (k i : Nat) (hi : k * 64 + i ≤ zs.length) (h64 : i ≤ 64) : (ownL zs k i).length = 64 := by
  unfold ownL
  rw [List.length_append, List.length_take, List.length_drop, List.length_replicate]
  omega
theorem ownL_end (zs : List Int) (k i : Nat) (hk : k * 64 ≤ zs.length) (hi : k * 64 + i = end64 zs.length k) : ownL zs k i = blk64 zs k := by
  unfold ownL blk64
  have e : (zs.drop (k * 64)).take i = (zs.drop (k * 64)).take 64 := by
    unfold end64 at hi
    rw [List.take_eq_take_iff, List.length_drop]
    split at hi <;> omega
  have hl : ((zs.drop (k * 64)).take 64).length = i := by
    rw [← e, List.length_take, List.length_drop]
    unfold end64 at hi
    split at hi <;> omega
  rw [e, hl]

/-- The bytes of a digest, as far as they are laid. -/
def idP (h : List (BitVec 32)) (k j : Nat) : List Int := (idL h k ++ (le4 (gt h k)).take j) ++ List.replicate (32 - (4 * k + j)) 0
theorem idP_len (h : List (BitVec 32)) (k j : Nat) (hk : k < 8) (hj : j ≤ 4) : (idP h k j).length = 32 := by
  unfold idP
  rw [List.length_append, List.length_append, idL_len, List.length_take, le4.len, List.length_replicate]
  omega
theorem idP_set (h : List (BitVec 32)) (k j : Nat) (hk : k < 8) (hj : j < 4) : (idP h k j).set (4 * k + j) (byt (gt h k) j : Int) = idP h k (j + 1) := by
  unfold idP
  have hl : (idL h k ++ (le4 (gt h k)).take j).length = 4 * k + j := by rw [List.length_append, idL_len, List.length_take, le4.len]; omega
  rw [List.set_append_right _ _ (by omega), hl, Nat.sub_self, show 32 - (4 * k + j) = (32 - (4 * k + (j + 1))) + 1 by omega, List.replicate_succ, List.set_cons_zero]
  have hd : j < (le4 (gt h k)).length := by rw [le4.len]; exact hj
  have e : (byt (gt h k) j : Int) = (le4 (gt h k))[j] := by
    match j, hj with
    | 0, _ => rfl
    | 1, _ => rfl
    | 2, _ => rfl
    | 3, _ => rfl
  rw [List.take_succ_eq_append_getElem hd, e, ← List.append_assoc, List.append_assoc _ [_]]
  rfl
theorem idP_next (h : List (BitVec 32)) (k : Nat) : idP h k 4 = idP h (k + 1) 0 := by
  unfold idP
  rw [List.take_of_length_le (by rw [le4.len]; exact Nat.le_refl _), List.take_zero, List.append_nil]
  rfl
theorem idP_zero (h : List (BitVec 32)) : idP h 0 0 = List.replicate 32 0 := rfl
theorem idP_last (h : List (BitVec 32)) : idP h 7 4 = digestF h := by
  unfold idP digestF
  rw [List.take_of_length_le (by rw [le4.len]; exact Nat.le_refl _), show List.replicate (32 - (4 * 7 + 4)) (0 : Int) = [] from rfl, List.append_nil]
  rfl
/-- Where the digest stands at the head of round k. -/
def idH (h : List (BitVec 32)) (k : Nat) : List Int := if k < 8 then idP h k 0 else digestF h
theorem idH_next (h : List (BitVec 32)) (k : Nat) (hk : k < 8) : idP h k 4 = idH h (k + 1) := by
  unfold idH
  by_cases h7 : k + 1 < 8
  · rw [if_pos h7]; exact idP_next h k
  · obtain rfl : k = 7 := by omega
    rw [if_neg (by omega)]
    exact idP_last h

theorem cnt_pos (n : Nat) : 1 ≤ cnt64 n := by unfold cnt64; split <;> omega
theorem cnt_lt {n k : Nat} (h : k < cnt64 n) : k = 0 ∨ k * 64 < n := by
  unfold cnt64 at h
  split at h <;> omega
theorem cnt_ge {n : Nat} : n ≤ cnt64 n * 64 := by
  unfold cnt64
  split <;> omega
theorem last_iff {n k : Nat} (h : k < cnt64 n) : (((end64 n k : Nat) : Int) == ((n : Nat) : Int)) = (k == cnt64 n - 1) := by
  rw [Bool.eq_iff_iff, beq_iff_eq, beq_iff_eq]
  unfold cnt64 at *
  unfold end64
  split at h <;> split <;> constructor <;> intro e <;> omega

set_option maxRecDepth 100000 in
set_option maxHeartbeats 1500000 in
theorem refsum_any (A : Option Addr) (n c : Nat) (zs : List Int) (w : World) (hz : By w w.heap.size A n zs) (hn : n ≤ 100000) :
    Calls Tryd.prog 55 #[.slice A n c] w fun e w' => e = .returned (.agg (BL (sumF zs)).toArray) ∧ Below w.heap.size w w' := by
  have B0 : Hid (By (w.alloc (.cells (ZB 32).toArray 80)) w.heap.size A n zs) := hz.alloc (Nat.le_refl _) _
  have R0 : Hid (Blk (w.alloc (.cells (ZB 32).toArray 80)) w.heap.size 80 (ZB 32).toArray) := Blk.new w 80 _
  have K0 : Hid (Below w.heap.size w (w.alloc (.cells (ZB 32).toArray 80))) := (Below.refl _ w).alloc (Nat.le_refl _) _
  have ST := Lib.hid refstart_any
  have ZL := Lib.hid hz.1
  have ZB' := Lib.hid hz.2.1
  clear hz
  go_enter Tryd.func55, Tryd.ntmps55
  go_wp2_with fail
  refine (ST.out _).mono ?_
  rintro e w1 ⟨rfl, k1⟩
  have s1 : (ZU 8).toArray.size = (UL startL).length := by rw [UL.len]; rfl
  have x0 : Hid (∀ W, Blk W w1.heap.size 107 (UL startL).toArray → W.cell? ⟨w1.heap.size, 0, none⟩ = some (.int .u32 (tn (gt startL 0) : Int))) := fun W hb => (hb.cell 0).trans (UL.gt (by decide))
  have U1 : Hid (∀ W, Blk W w1.heap.size 107 (UL startL).toArray → Only w1.heap.size (w1.alloc (.cells (ZU 8).toArray 107)) W → UW w A n zs w1.heap.size startL W) := fun W hb ho =>
    have b1 : Below w.heap.size w w1 := K0.out.trans (k1.mono K0.out.size)
    have b2 : Below w1.heap.size w1 W := ((Below.refl _ w1).alloc (Nat.le_refl _) _).trans (ho.below (Nat.le_refl _))
    ⟨b1.trans (b2.mono b1.size), (B0.out.below (k1.mono (by simp))).below (b2.mono b1.size), (R0.out.below k1 R0.out.lt).below b2 (Nat.lt_of_lt_of_le R0.out.lt k1.size), hb, Nat.lt_of_lt_of_le R0.out.lt k1.size⟩
  clear B0 R0 K0 ST k1
  obtain ⟨g0, hg0⟩ : ∃ g, g = gt startL 0 := ⟨_, rfl⟩
  rw [← hg0] at x0
  have G0 := Lib.hid hg0
  clear hg0
  go_wp2_with ((with_reducible refine at_store (t := 107) ?_); refine wpList_store_blk _ rfl 107 _ _ rfl w1.heap.size (ZU 8).toArray 107 (UL startL) rfl rfl (Blk.new w1 107 _) s1 Tryd.i42 (UL.one _) ?_; intro w2 hb2 ho2; have U2 := Lib.hid (U1.out w2 hb2 ho2); have c0 := x0.out w2 hb2; have f0 := hb2.frozen 0; clear hb2 ho2 U1 x0 s1; generalize w1.heap.size = gh at *)
  have U3 : Hid (UW w A n zs gh (sumL zs 0) (w2.setCell ⟨gh, 0, none⟩ (.int .u32 (bits .xor .u32 (tn g0 : Int) 16842784)))) := U2.out.set 0 (gt startL 0 ^^^ bv 16842784) _ (by rw [xor_bv, bv_tn, G0.out])
  clear U2 c0 f0
  generalize w2.setCell ⟨gh, 0, none⟩ (.int .u32 (bits .xor .u32 (tn g0 : Int) 16842784)) = w3 at *
  go_loopw [4] (fun t wr => ∃ (k : Nat) (a : Int), k ≤ cnt64 n ∧ a = 64 * (k : Int) ∧ t = .int .i64 a ∧ UW w A n zs gh (sumL zs k) wr) (fun t _ => (64 * cnt64 n - (intOf t).toNat))
  case atStart => exact ⟨0, 0, Nat.zero_le _, rfl, rfl, U3.out⟩
  case round =>
    obtain ⟨k, a, hk, ha, rfl, hx⟩ := hrel
    have U := Lib.hid hx
    have HA := Lib.hid ha
    have a1 : a ≤ 64 * (k : Int) := by omega
    have a2 : 64 * (k : Int) ≤ a := by omega
    clear U3 hx ha
    have hc16 : cnt64 n ≤ 1600 := by unfold cnt64; split <;> omega
    by_cases hlt : k < cnt64 n
    · have hlo := cnt_lt hlt
      have LI := Lib.hid (last_iff hlt)
      obtain ⟨E, hE⟩ : ∃ E, E = end64 n k := ⟨_, rfl⟩
      have hE2 : (n < (k + 1) * 64 ∧ E = n) ∨ (¬ n < (k + 1) * 64 ∧ E = (k + 1) * 64) := by
        unfold end64 at hE
        split at hE
        · exact .inl ⟨by assumption, hE⟩
        · exact .inr ⟨by assumption, hE⟩
      have hE1 : k * 64 ≤ E ∧ E ≤ n ∧ E ≤ k * 64 + 64 := by
        rcases hE2 with ⟨h1, h2⟩ | ⟨h1, h2⟩ <;> rcases hlo with h | h <;> refine ⟨?_, ?_, ?_⟩ <;> omega
      have hmin : min (a + 64) (n : Int) = (E : Int) := by
        rcases hE2 with ⟨h1, h2⟩ | ⟨h1, h2⟩ <;> omega
      have SN : Hid (sumL zs (k + 1) = blockF (sumL zs k) (blk64 zs k) (E : Int) (k == cnt64 n - 1)) := show _ = _ by rw [hE, ← ZL.out]; rfl
      rw [← hE] at LI
      have HE := Lib.hid hE
      clear hE hE2
      have SL := Lib.hid (sumL_len zs k)
      generalize (k == cnt64 n - 1) = lb at *
      have hcond : (a == 0) = true ∨ ((a == 0) = false ∧ a < (n : Int)) := by
        rcases hlo with h | h
        · exact .inl (beq_iff_eq.2 (by omega))
        · by_cases h0 : a = 0
          · exact .inl (beq_iff_eq.2 h0)
          · exact .inr ⟨beq_eq_false_iff_ne.2 h0, by omega⟩
      clear hlo
      obtain ⟨hE0, hEn, hE64⟩ := hE1
      have nI : (n : Int) ≤ 100000 := by omega
      have U64 : IntKind.u64.wrap (E : Int) = (E : Int) := by rw [IntKind.wrap_u64]; omega
      rcases hcond with hz0 | ⟨hz0, han⟩
      all_goals
        (go_wp2_with fail
         have P0 : Hid (PW13 w A n zs gh (sumL zs k) wr.heap.size 108 (ownL zs k 0) (wr.alloc (.cells (ZB 64).toArray 108))) :=
           ⟨U.out.low ((Below.refl _ wr).alloc (Nat.le_refl _) _), by rw [show ownL zs k 0 = List.replicate 64 0 from rfl, ← ZB.bl]; exact Blk.new wr 108 _, U.out.hb.lt⟩
         clear U
         generalize wr.alloc (.cells (ZB 64).toArray 108) = wo at *
         generalize wr.heap.size = g5 at *
         go_loopw [7] (fun t wr => ∃ i : Nat, k * 64 + i ≤ E ∧ t = .int .i64 (a + (i : Int)) ∧ PW13 w A n zs gh (sumL zs k) g5 108 (ownL zs k i) wr) (fun t _ => E - (intOf t).toNat)
         case atStart => exact ⟨0, by omega, by simp, P0.out⟩
         case round =>
           obtain ⟨i, hi, rfl, hx⟩ := hrel
           have P := Lib.hid hx
           clear P0 hx
           by_cases hiE : k * 64 + i < E
           · have iI : a + (i : Int) < (E : Int) := by omega
             have iI0 : (0 : Int) ≤ (i : Nat) := by omega
             obtain ⟨bb, oo, hA, hB, hc⟩ := P.out.uw.by_.2.2 (by omega)
             have bc := hc (64 * k + i) (by omega)
             have hA0 := Lib.hid hA
             subst hA
             have oc : wr.cell? ⟨g5, i, none⟩ = some (.int .u8 ((ownL zs k i).getD i 0)) := (P.out.ob.cell i).trans (by rw [List.getElem?_toArray]; exact BL.get _ i (by rw [ownL_len zs k i (by rw [ZL.out]; omega) (by omega)]; omega))
             have of := P.out.ob.frozen i
             have NX : Hid (PW13 w (some ⟨bb, oo, none⟩) n zs gh (sumL zs k) g5 108 (ownL zs k (i + 1)) (wr.setCell ⟨g5, i, none⟩ (.int .u8 (zs.getD (64 * k + i) 0)))) := by
               have := P.out.set i (zs.getD (k * 64 + i) 0)
               rw [ownL_set zs k i (by rw [ZL.out]; omega) (by omega)] at this
               rwa [show k * 64 + i = 64 * k + i by omega] at this
             generalize (ownL zs k i).getD i 0 = ov at *
             generalize zs.getD (64 * k + i) 0 = zv at *
             have es : a + (i : Int) - a = (i : Int) := by omega
             have et : (a + (i : Int)).toNat = 64 * k + i := by omega
             have i64 : (i : Int) < 64 := by omega
             have in0 : (0 : Int) ≤ a + (i : Int) := by omega
             have in1 : a + (i : Int) < (n : Int) := by omega
             clear P hc
             go_wp2_with fail
             exact ⟨⟨i + 1, by omega, congrArg (Value.int .i64) (by omega), NX.out⟩, by simp [intOf]; omega⟩
           · obtain rfl : i = E - k * 64 := by omega
             have eO : ownL zs k (E - k * 64) = blk64 zs k := ownL_end zs k _ (by rw [ZL.out]; omega) (by rw [ZL.out, ← HE.out]; omega)
             have P1 : Hid (PW13 w A n zs gh (sumL zs k) g5 108 (blk64 zs k) wr) := by rw [← eO]; exact P.out
             have iI : ¬ a + ((E - k * 64 : Nat) : Int) < (E : Int) := by omega
             have iW : (a + ((E - k * 64 : Nat) : Int)) = (E : Int) := by omega
             have lb1 := LI.out
             have RB := Lib.hid (fun W => refblock_any (sumL zs k) SL.out (blk64 zs k) (blk64_len zs k) (blk64_bs ZB'.out k) (E : Int) (by omega) (by omega) lb W)
             rw [← SN.out] at RB
             have i42 : Hid ((Tryd.prog.info? 107).map (·.size) = some (UL (sumL zs k)).length) := show _ = _ by rw [UL.len, SL.out]; exact Tryd.i42
             have i42' : Hid ((Tryd.prog.info? 107).map (·.size) = some (UL (sumL zs (k + 1))).length) := show _ = _ by rw [UL.len, sumL_len]; exact Tryd.i42
             have z42 : Hid ((UL (sumL zs k)).toArray.size = (UL (sumL zs (k + 1))).length) := show _ = _ by rw [List.size_toArray, UL.len, UL.len, SL.out, sumL_len]
             have o42 := Lib.hid (UL.one (sumL zs (k + 1)))
             have i45 : Hid ((Tryd.prog.info? 108).map (·.size) = some (BL (blk64 zs k)).length) := show _ = _ by rw [BL.len, blk64_len]; exact Tryd.i45
             clear P eO
             obtain ⟨h1, hh1⟩ : ∃ h1, h1 = sumL zs (k + 1) := ⟨_, rfl⟩
             have HH1 := Lib.hid hh1
             rw [← hh1] at RB i42' z42 o42
             clear hh1
             generalize sumL zs k = h0 at *
             generalize blk64 zs k = own at *
             go_wp2_with (first
               | ((with_reducible refine at_load (t := 107) ?_); refine wpList_load_mid rfl 107 _ rfl gh 0 rfl (UL h0) _ P1.out.uw.hb.rng Tryd.underlying107 rfl i42.out ?_)
               | ((with_reducible refine at_load (t := 108) ?_); refine wpList_load_mid rfl 108 _ rfl g5 0 rfl (BL own) _ P1.out.ob.rng Tryd.underlying108 rfl i45.out ?_)
               | (go_at_call 83; with_reducible refine (RB.out _).mono ?_; rintro e w5 ⟨rfl, k5⟩; have P5 := Lib.hid (P1.out.uw.low k5); clear P1 k5)
               | ((with_reducible refine at_store (t := 107) ?_); refine wpList_store_blk _ rfl 107 _ _ rfl gh (UL h0).toArray 107 (UL h1) rfl rfl P5.out.hb z42.out i42'.out o42.out ?_; intro w6 hb6 ho6; have P6 := Lib.hid (P5.out.put ho6 hb6); clear P5 hb6 ho6))
             exact ⟨⟨k + 1, a + 64, by omega, by have := HA.out; omega, rfl, by rw [← HH1.out]; exact P6.out⟩, by simp [intOf]; omega⟩)
    · have hce : k = cnt64 n := by omega
      have hge := cnt_ge (n := n)
      have hps := cnt_pos n
      have hz0 : (a == 0) = false := beq_eq_false_iff_ne.2 (by omega)
      have han : ¬ a < (n : Int) := by omega
      have HF : Hid (sumF zs = digestF (sumL zs k)) := show _ = _ by unfold sumF; rw [ZL.out, hce]
      have HL8 : Hid ((sumL zs k).length = 8) := sumL_len zs k
      clear hce hge hps
      generalize sumL zs k = H at *
      go_wp2_with fail
      have Q0 : Hid (PW13 w A n zs gh H wr.heap.size 80 (idH H 0) (wr.alloc (.cells (ZB 32).toArray 80))) :=
        ⟨U.out.low ((Below.refl _ wr).alloc (Nat.le_refl _) _), by rw [show idH H 0 = List.replicate 32 0 from rfl, ← ZB.bl]; exact Blk.new wr 80 _, U.out.hb.lt⟩
      clear U
      generalize wr.alloc (.cells (ZB 32).toArray 80) = wo at *
      generalize wr.heap.size = gi at *
      go_loopw [55] (fun t wr => ∃ j : Nat, j ≤ 8 ∧ t = .int .i64 j ∧ PW13 w A n zs gh H gi 80 (idH H j) wr) (fun t _ => 8 - (intOf t).toNat)
      case atStart => exact ⟨0, Nat.zero_le _, rfl, Q0.out⟩
      case round =>
        obtain ⟨j, hj, rfl, hx⟩ := hrel
        have Q := Lib.hid hx
        clear Q0 hx
        by_cases hj8 : j < 8
        · have jI : (j : Int) < 8 := by omega
          have jI0 : (0 : Int) ≤ (j : Nat) := by omega
          have hc := (Q.out.uw.hb.cell j).trans (UL.gt (by rw [HL8.out]; exact hj8))
          have BX := Lib.hid (fun m => show tn (gt H j) / 256 ^ m % 256 = byt (gt H j) m from rfl)
          have DX := Lib.hid (fun m => show tn (gt H j) / 256 ^ m / 256 = tn (gt H j) / 256 ^ (m + 1) by rw [Nat.div_div_eq_div_mul, Nat.pow_succ])
          have LX := tn_lt (gt H j)
          have Q1 : Hid (PW13 w A n zs gh H gi 80 (idP H j 0) wr) := by
            have := Q.out
            unfold idH at this
            rwa [if_pos hj8] at this
          have X0 : Hid ((tn (gt H j) : Int) = ((tn (gt H j) / 256 ^ 0 : Nat) : Int)) := show _ = _ by simp
          clear Q
          go_wp2_with fail
          go_loopw [61, 10] (fun t x wr => ∃ m : Nat, m ≤ 4 ∧ t = .int .i64 m ∧ x = .int .u32 ((tn (gt H j) / 256 ^ m : Nat) : Int) ∧ PW13 w A n zs gh H gi 80 (idP H j m) wr) (fun t _ _ => 4 - (intOf t).toNat)
          case atStart => exact ⟨0, Nat.zero_le _, rfl, congrArg (Value.int .u32) X0.out, Q1.out⟩
          case round =>
            obtain ⟨m, hm, rfl, rfl, hx⟩ := hrel
            have Q := Lib.hid hx
            clear Q1 hx
            by_cases hm4 : m < 4
            · have mI : (m : Int) < 4 := by omega
              have mI0 : (0 : Int) ≤ (m : Nat) := by omega
              have oc : wr.cell? ⟨gi, 4 * j + m, none⟩ = some (.int .u8 ((idP H j m).getD (4 * j + m) 0)) := (Q.out.ob.cell (4 * j + m)).trans (by rw [List.getElem?_toArray]; exact BL.get (idP H j m) (4 * j + m) (by have := idP_len H j m hj8 hm; omega))
              have of := Q.out.ob.frozen (4 * j + m)
              have NX : Hid (PW13 w A n zs gh H gi 80 (idP H j (m + 1)) (wr.setCell ⟨gi, 4 * j + m, none⟩ (.int .u8 (byt (gt H j) m : Int)))) := by
                have := Q.out.set (4 * j + m) (byt (gt H j) m : Int)
                rwa [idP_set H j m hj8 hm4] at this
              have bx := BX.out m
              have dx := DX.out m
              have bl := byt_lt (gt H j) m
              have xl : tn (gt H j) / 256 ^ m ≤ tn (gt H j) := Nat.div_le_self _ _
              generalize byt (gt H j) m = bm at *
              generalize hY : tn (gt H j) / 256 ^ (m + 1) = Y at *
              have HY := Lib.hid hY
              clear hY
              generalize tn (gt H j) / 256 ^ m = X at *
              have hb1 : ((X : Nat) : Int) % 256 = (bm : Int) := by omega
              have hd1 : ((X : Nat) : Int) / 256 = (Y : Int) := by omega
              have et : (4 * (j : Int) + (m : Int)).toNat = 4 * j + m := by omega
              have bu : IntKind.u8.wrap ((bm : Nat) : Int) = (bm : Int) := by rw [IntKind.wrap_u8]; omega
              have bm1 : ((bm : Nat) : Int) % 256 = (bm : Int) := by omega
              generalize (idP H j m).getD (4 * j + m) 0 = ov at *
              clear bx dx Q
              go_wp2_with fail
              exact ⟨⟨m + 1, by omega, by go_num, by rw [HY.out], NX.out⟩, by simp [intOf]; omega⟩
            · obtain rfl : m = 4 := by omega
              have Q4 : Hid (PW13 w A n zs gh H gi 80 (idH H (j + 1)) wr) := by rw [← idH_next H j hj8]; exact Q.out
              clear Q
              go_wp2_with fail
              exact ⟨⟨j + 1, by omega, by go_num, Q4.out⟩, by simp [intOf]; omega⟩
        · obtain rfl : j = 8 := by omega
          have Q8 : Hid (PW13 w A n zs gh H gi 80 (sumF zs) wr) := by rw [HF.out]; exact Q.out
          have SFL : Hid ((sumF zs).length = 32) := show _ = _ by rw [HF.out]; exact idL_len H 8
          have i27 : Hid ((Tryd.prog.info? 80).map (·.size) = some (BL (sumF zs)).length) := show _ = _ by rw [BL.len, SFL.out]; exact Tryd.i27
          have i27A : Hid ((Tryd.prog.info? 80).map (·.size) = some (BL (sumF zs)).toArray.size) := show _ = _ by rw [List.size_toArray, BL.len, SFL.out]; exact Tryd.i27
          have z27 : Hid ((ZB 32).toArray.size = (BL (sumF zs)).length) := show _ = _ by rw [BL.len, SFL.out]; rfl
          have o27 := Lib.hid (BL.one (sumF zs))
          obtain ⟨D, hD⟩ : ∃ D, D = sumF zs := ⟨_, rfl⟩
          have HD := Lib.hid hD
          rw [← hD] at Q8 i27 i27A z27 o27
          clear hD Q
          go_wp2_with (first
            | ((with_reducible refine at_load (t := 80) ?_); refine wpList_load_mid rfl 80 _ rfl gi 0 rfl (BL D) _ Q8.out.ob.rng Tryd.underlying80 rfl i27.out ?_)
            | ((with_reducible refine at_store (t := 80) ?_); refine wpList_store_blk _ rfl 80 _ _ rfl w.heap.size (ZB 32).toArray 80 (BL D) rfl rfl Q8.out.uw.res z27.out i27.out o27.out ?_; intro w9 hb9 ho9))
          refine bodyPost_ret (results_cell_row (p := 2) (ty := 80) rfl _ _ w.heap.size 80 _ (0, 0) _ rfl hb9 Tryd.underlying80 rfl i27A.out) rfl ?_
          rw [HD.out]
          exact ⟨rfl, Q8.out.uw.below.trans (ho9.below (Nat.le_refl _))⟩

end Go.Proofs.YtemfnckaehjhcaaDoor.Bk
