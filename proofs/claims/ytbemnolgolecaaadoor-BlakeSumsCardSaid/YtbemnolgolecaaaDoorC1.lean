/-
  digest.
-/
import Derived.Test.YtbemnolgolecaaaDoorB6
import Derived.Test.YtbemnolgolecaaaDoorB2
namespace Go.Proofs.YtbemnolgolecaaaDoor
open Go.RowKit
attribute [local go_sem ↓] Tryd.z42 Tryd.z70 Tryd.z27 Tryd.z45 Tryd.z37 Tryd.z38

theorem idx_one {P : Program} (t e : TypeId) (n : Nat) (cs : Array Value) (k : Nat) (v : Value) (w : World) (i : IntKind) (ht : P.underlying t = some (.array n e)) (hk : k < n) (hv : cs[k]? = some v) (hi : (P.info? e).map (·.size) = some 1) (he : P.underlying e = some (.int i)) :
    (Instr.index t (.agg cs) (.int .i64 (k : Int))).run P w = .ok v w := by
  cases hq : P.info? e with
  | none => simp [hq] at hi
  | some i0 =>
    have hs : i0.size = 1 := by simpa [hq] using hi
    have h1 : (0 : Int) ≤ k ∧ (k : Int) < n := by omega
    simp [Instr.index, run_underlying ht, asIntOf, sizeOf, typeInfo, hq, hs, part, isAgg, run_underlying he, hk, hv]
theorem Tryd.s32 : (Tryd.prog.info? 32).map (·.size) = some 1 := by kernel_rfl
theorem Tryd.s5 : (Tryd.prog.info? 5).map (·.size) = some 1 := by kernel_rfl

/-- The bytes of the first k numbers, the lowest first. -/
def idL (h : List (BitVec 32)) : Nat → List Int
  | 0 => []
  | k + 1 => idL h k ++ le4 (gt h k)
theorem idL_len (h : List (BitVec 32)) : ∀ k, (idL h k).length = 4 * k
  | 0 => rfl
  | k + 1 => by rw [idL, List.length_append, idL_len h k]; show 4 * k + 4 = _; omega
def digestF (h : List (BitVec 32)) : List Int := idL h 8

structure IW (w0 : World) (h : List (BitVec 32)) (k : Nat) (w : World) : Prop where
  below : Below w0.heap.size w0 w
  res : Blk w (w0.heap.size + 1) 27 (ZB 32).toArray
  id : Blk w (w0.heap.size + 1 + 1) 27 (BL (idL h k ++ List.replicate (32 - 4 * k) 0)).toArray

theorem le4.len (x : BitVec 32) : (le4 x).length = 4 := rfl
theorem IW.step {w0 wr w2 : World} {h : List (BitVec 32)} {k : Nat} (i : IW w0 h k wr) (hk : k < 8) (hb : Below (w0.heap.size + 1 + 1) wr w2)
    (hg : w2.heap[w0.heap.size + 1 + 1]? = some (.cells (splice (BL (idL h k ++ List.replicate (32 - 4 * k) 0)) (4 * k) (BL (le4 (gt h k)))).toArray 27 (0, 0))) : IW w0 h (k + 1) w2 := by
  refine ⟨i.below.trans (hb.mono (by omega)), i.res.below hb (by omega), ?_⟩
  unfold Blk
  rw [hg]
  have e : splice (BL (idL h k ++ List.replicate (32 - 4 * k) 0)) (4 * k) (BL (le4 (gt h k))) = BL (idL h (k + 1) ++ List.replicate (32 - 4 * (k + 1)) 0) := by
    have h0 : (BL (idL h k)).length = 4 * k := by rw [BL.len, idL_len]
    have h4 : (BL (le4 (gt h k))).length = 4 := rfl
    have ha : BL (idL h k ++ List.replicate (32 - 4 * k) 0) = BL (idL h k) ++ BL (List.replicate (32 - 4 * k) 0) := by simp [BL]
    have hr : BL (List.replicate (32 - 4 * k) 0) = ZB (32 - 4 * k) := (ZB.bl _).symm
    have hb' : BL (idL h (k + 1) ++ List.replicate (32 - 4 * (k + 1)) 0) = BL (idL h k) ++ (BL (le4 (gt h k)) ++ ZB (32 - 4 * (k + 1))) := by
      rw [ZB.bl, idL]
      simp [BL]
    rw [ha, hr, hb']
    unfold splice
    rw [h4, List.take_append_of_le_length (by omega), List.take_of_length_le (by omega), List.drop_append, List.drop_of_length_le (by omega), h0, List.nil_append]
    congr 2
    unfold ZB
    rw [List.drop_replicate]
    congr 1
    omega
  rw [e]

set_option maxRecDepth 100000 in
set_option maxHeartbeats 4000000 in
theorem digest_any (h : List (BitVec 32)) (hh : h.length = 8) (w : World) :
    Calls Tryd.prog 32 #[.agg (UL h).toArray] w fun e w' => e = .returned (.agg (BL (digestF h)).toArray) ∧ Below w.heap.size w w' := by
  have I0 : Hid (IW w h 0 (((w.alloc (.cells (UL h).toArray 42)).alloc (.cells (ZB 32).toArray 27)).alloc (.cells (ZB 32).toArray 27))) :=
    ⟨(((Below.refl _ w).alloc (Nat.le_refl _) _).alloc (by simp) _).alloc (by simp; omega) _, (Blk.new' _ 27 _ (by simp)).alloc _, Blk.new' _ 27 _ (by simp)⟩
  have HB : Hid (Blk (((w.alloc (.cells (UL h).toArray 42)).alloc (.cells (ZB 32).toArray 27)).alloc (.cells (ZB 32).toArray 27)) w.heap.size 42 (UL h).toArray) := ((Blk.new w 42 _).alloc _).alloc _
  have hl8 : (UL h).length = 8 := by rw [UL.len, hh]
  have i42 : Hid ((Tryd.prog.info? 42).map (·.size) = some (UL h).length) := show _ = _ by rw [hl8]; exact Tryd.i42
  have IX : Hid (∀ (k : Nat) (W : World), k < 8 → (Instr.index 42 (.agg (UL h).toArray) (.int .i64 (k : Int))).run Tryd.prog W = .ok (.int .u32 (tn (gt h k) : Int)) W) := fun k W hk => idx_one 42 32 8 _ k _ W .u32 Tryd.underlying42 hk (UL.gt (by rw [hh]; exact hk)) Tryd.s32 Tryd.underlying32
  go_enter Tryd.func32, Tryd.ntmps32
  go_wp2_with ((with_reducible refine at_load (t := 42) ?_); refine wpList_load_mid rfl 42 _ rfl w.heap.size 0 rfl (UL h) _ HB.out.rng Tryd.underlying42 rfl i42.out ?_)
  generalize ((w.alloc (.cells (UL h).toArray 42)).alloc (.cells (ZB 32).toArray 27)).alloc (.cells (ZB 32).toArray 27) = W0 at *
  clear HB i42 hl8
  go_loopw [7] (fun i wr => ∃ k : Nat, k ≤ 8 ∧ i = .int .i64 k ∧ IW w h k wr) (fun i _ => 8 - (intOf i).toNat)
  case atStart => exact ⟨0, Nat.zero_le _, rfl, I0.out⟩
  case round =>
    obtain ⟨k, hk, rfl, hi⟩ := hrel
    have I := Lib.hid hi
    clear I0 hi
    by_cases hlt : k < 8
    · have ix : ∀ W, (Instr.index 42 (.agg (UL h).toArray) (.int .i64 (k : Int))).run Tryd.prog W = .ok (.int .u32 (tn (gt h k) : Int)) W := fun W => IX.out k W hlt
      have k0 : (0 : Int) ≤ k := by omega
      have PT : Hid (∀ W, Calls Tryd.prog 42 #[.slice none 0 0, .int .u32 (tn (rev (gt h k)) : Int)] W (Putted W 0 4 [] (tn (rev (gt h k))))) := fun W =>
        Put32_any none 0 0 [] _ W 0 By.none_ (by omega) ⟨by omega, by have := tn_lt (rev (gt h k)); omega⟩
      have FG : Hid (∀ w1, Below wr.heap.size wr.drew w1 → w1.heap[w.heap.size + 1 + 1]? = some (.cells (BL (idL h k ++ List.replicate (32 - 4 * k) 0)).toArray 27 (0, 0))) := fun w1 hb => (hb.block _ I.out.id.lt).trans I.out.id
      have FB : Hid (∀ w1, Below wr.heap.size wr.drew w1 → Below (w.heap.size + 1 + 1) wr w1) := fun w1 hb => ((Below.refl _ wr).drew).trans (hb.mono (Nat.le_of_lt I.out.id.lt))
      have FS : Hid (∀ w1 g, Blk w1 g 5 ((([] : List Int) ++ be 4 (tn (rev (gt h k)) : Int)).map (Value.int .u8)).toArray → ∀ j v, (BL (le4 (gt h k)))[j]? = some v → w1.cell? ((⟨g, 0, none⟩ : Addr).add j) = some v) := fun w1 g hg j v hj => by
        have e : (⟨g, 0, none⟩ : Addr).add j = ⟨g, j, none⟩ := by by_cases h0 : j = 0 <;> simp [Addr.add, h0]
        rw [e, hg.cell, List.getElem?_toArray, List.nil_append, be_rev]
        exact hj
      have FN : Hid ((BL (le4 (gt h k))).length = Nat.min (0 + 4) (32 - 4 * k)) := show _ = _ by
        show 4 = min (0 + 4) (32 - 4 * k)
        omega
      have FF : Hid (4 * k + (BL (le4 (gt h k))).length ≤ (BL (idL h k ++ List.replicate (32 - 4 * k) 0)).length) := show _ ≤ _ by
        rw [BL.len, BL.len, List.length_append, idL_len, List.length_replicate, le4.len]
        omega
      have F1 := Lib.hid (BL.one (le4 (gt h k)))
      have RV := Lib.hid (rev_any (gt h k))
      have ST : Hid (∀ w2, Below (w.heap.size + 1 + 1) wr w2 → w2.heap[w.heap.size + 1 + 1]? = some (.cells (splice (BL (idL h k ++ List.replicate (32 - 4 * k) 0)) (4 * k) (BL (le4 (gt h k)))).toArray 27 (0, 0)) → IW w h (k + 1) w2) := fun w2 hb hg => I.out.step hlt hb hg
      clear I
      go_wp2_with fail
      clear ix
      have e1 : IntKind.i64.wrap (4 * (k : Int)) = 4 * (k : Int) := IntWalk.i64_in _ (by omega)
      have e2 : 0 ≤ 4 * (k : Int) := by omega
      have e3 : 4 * (k : Int) < 32 := by omega
      have e4 : (4 * (k : Int)).toNat = 4 * k := by omega
      have e5 : 4 * (k : Int) ≤ 32 := by omega
      have e6 : ¬ (32 = 4 * k) := by omega
      have e7 : ¬ (4 * k = 32) := by omega
      generalize BL (idL h k ++ List.replicate (32 - 4 * k) 0) = C at *
      generalize BL (le4 (gt h k)) = S at *
      generalize rev (gt h k) = r at *
      generalize gt h k = x at *
      go_region_law (first
        | (refine step_copy_splice rfl (.tmp 13) (.tmp 16) 24 24 rfl 5 Tryd.underlying24 Tryd.s5 (some ⟨w.heap.size + 1 + 1, 4 * k, none⟩) (some ⟨wr.heap.size, 0, none⟩) (32 - 4 * k) (32 - 4 * k) (0 + 4) (0 + 4) (by rfl) (by rfl) (w.heap.size + 1 + 1) (4 * k) C 27 (FG.out _ hb) S FN.out (fun _ => ⟨rfl, ⟨wr.heap.size, 0, none⟩, rfl, FS.out _ _ hp⟩) FF.out F1.out (w.heap.size + 1 + 1) wr (FB.out _ hb) (Nat.le_refl _) ?_; intro w4 hg4 hb4)
        | (go_simp; go_at_call 43; refine (RV.out _).mono ?_; rintro e w5 ⟨rfl, rfl⟩)
        | (go_simp; go_at_call 42; refine (PT.out _).mono ?_; rintro e w1 ⟨rfl, hp, hb⟩))
      have T := Lib.hid (ST.out _ hb4 hg4.out)
      clear e1 e2 e3 e4 e5 e6 e7 hb4 hg4 ST
      go_wp2_with fail
      exact ⟨⟨k + 1, by omega, by go_num, T.out⟩, by simp [intOf]; omega⟩
    · obtain rfl : k = 8 := by omega
      have hi := I.out.id
      rw [show List.replicate (32 - 4 * 8) (0 : Int) = [] from rfl, List.append_nil] at hi
      have HI := Lib.hid hi
      have HR := Lib.hid I.out.res
      have HB := Lib.hid I.out.below
      have hlen : (BL (idL h 8)).length = 32 := by rw [BL.len, idL_len]
      have HZ : Hid ((ZB 32).toArray.size = (BL (idL h 8)).length) := show _ = _ by rw [hlen]; rfl
      have H2 : Hid ((Tryd.prog.info? 27).map (·.size) = some (BL (idL h 8)).length) := show _ = _ by rw [hlen]; exact Tryd.i27
      have H2A : Hid ((Tryd.prog.info? 27).map (·.size) = some (BL (idL h 8)).toArray.size) := show _ = _ by rw [List.size_toArray, hlen]; exact Tryd.i27
      have H1 := Lib.hid (BL.one (idL h 8))
      have HE : Hid (BL (digestF h) = BL (idL h 8)) := show _ = _ from rfl
      clear I hi hlen
      generalize BL (idL h 8) = O at *
      go_wp2_with (first
        | ((with_reducible refine at_load (t := 27) ?_); refine wpList_load_mid rfl 27 _ rfl (w.heap.size + 1 + 1) 0 rfl O _ HI.out.rng Tryd.underlying27 rfl H2.out ?_)
        | ((with_reducible refine at_store (t := 27) ?_); refine wpList_store_blk _ rfl 27 _ _ rfl (w.heap.size + 1) (ZB 32).toArray 27 O rfl rfl HR.out HZ.out H2.out H1.out ?_; intro w9 hb9 ho9))
      refine bodyPost_ret (results_cell_row (p := 2) (ty := 27) rfl _ _ (w.heap.size + 1) 27 _ (0, 0) _ rfl hb9 Tryd.underlying27 rfl H2A.out) rfl ?_
      rw [HE.out]
      exact ⟨rfl, HB.out.trans (ho9.below (by omega))⟩

end Go.Proofs.YtbemnolgolecaaaDoor
