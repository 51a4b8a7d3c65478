/-
  spread.
-/
import Derived.Test.YtbemnolgolecaaaDoorB4
import Derived.RegionTactic
import Derived.BigRegion
namespace Go.Proofs.YtbemnolgolecaaaDoor
open Go.RowKit
attribute [local go_sem ↓] Tryd.z42 Tryd.z70 Tryd.z27 Tryd.z45 Tryd.z37 Tryd.z38

theorem max_if (d : Decidable (IntKind.u32.signed = true)) : @ite Int (IntKind.u32.signed = true) d (-1) IntKind.u32.max = 4294967295 := by
  have h : ¬ IntKind.u32.signed = true := fun h => absurd (show false = true from h) (by simp)
  rw [if_neg h]
  decide

def gt (l : List (BitVec 32)) (i : Nat) : BitVec 32 := l.getD i 0
theorem UL.gt {l : List (BitVec 32)} {i : Nat} (hi : i < l.length) : (UL l).toArray[i]? = some (.int .u32 (tn (gt l i) : Int)) := by
  rw [List.getElem?_toArray]; exact UL.get l i hi

/-- The sixteen numbers, as far as they are laid. -/
def lay16 (h : List (BitVec 32)) : Nat → List (BitVec 32)
  | 0 => List.replicate 16 0
  | k + 1 => ((lay16 h k).set k (gt h k)).set (k + 8) (gt startL k)
theorem lay16_len (h : List (BitVec 32)) : ∀ k, (lay16 h k).length = 16
  | 0 => rfl
  | k + 1 => by rw [lay16, List.length_set, List.length_set, lay16_len h k]
def v12 (h : List (BitVec 32)) (t : Int) : BitVec 32 := gt (lay16 h 8) 12 ^^^ bv t
def v13 (h : List (BitVec 32)) (t : Int) : BitVec 32 := gt (lay16 h 8) 13 ^^^ bv (t / 4294967296)
def v14 (h : List (BitVec 32)) : BitVec 32 := bv 4294967295 ^^^ gt (lay16 h 8) 14
def spreadF (h : List (BitVec 32)) (t : Int) (last : Bool) : List (BitVec 32) :=
  if last then (((lay16 h 8).set 12 (v12 h t)).set 13 (v13 h t)).set 14 (v14 h) else ((lay16 h 8).set 12 (v12 h t)).set 13 (v13 h t)
theorem spreadF_len (h : List (BitVec 32)) (t : Int) (last : Bool) : (spreadF h t last).length = 16 := by
  unfold spreadF
  split <;> simp only [List.length_set, lay16_len]

/-- Where one stands. -/
structure SW (w0 : World) (h v : List (BitVec 32)) (w : World) : Prop where
  below : Below w0.heap.size w0 w
  gl : Gl w
  g2 : 3 ≤ w0.heap.size
  hb : Blk w w0.heap.size 42 (UL h).toArray
  res : Blk w (w0.heap.size + 1) 70 (ZU 16).toArray
  vb : Blk w (w0.heap.size + 1 + 1) 70 (UL v).toArray
theorem SW.setI {w0 w : World} {h v : List (BitVec 32)} (s : SW w0 h v w) (i : Nat) (x : BitVec 32) (z : Int) (hz : z = tn x) : SW w0 h (v.set i x) (w.setCell ⟨w0.heap.size + 1 + 1, i, none⟩ (.int .u32 z)) := by
  subst hz
  have b := s.below.setCell (p := ⟨w0.heap.size + 1 + 1, i, none⟩) (by show _ ≤ w0.heap.size + 1 + 1; omega) (.int .u32 (tn x : Int))
  refine ⟨b, s.gl.below ((Below.refl _ w).setCell (B := w0.heap.size) (p := ⟨w0.heap.size + 1 + 1, i, none⟩) (by show _ ≤ w0.heap.size + 1 + 1; omega) _) s.g2, s.g2, s.hb.far (by show w0.heap.size ≠ w0.heap.size + 1 + 1; omega) _, s.res.far (by show w0.heap.size + 1 ≠ w0.heap.size + 1 + 1; omega) _, ?_⟩
  have := s.vb.set_ i (.int .u32 (tn x : Int))
  rwa [UL.set] at this
theorem SW.drew {w0 w : World} {h v : List (BitVec 32)} (s : SW w0 h v w) : SW w0 h v w.drew := ⟨s.below.drew, ⟨s.gl.s, s.gl.o, s.gl.f, s.gl.lt⟩, s.g2, s.hb, s.res, s.vb⟩

/-- The end. -/
structure SV (w0 : World) (V : List Value) (w : World) : Prop where
  below : Below w0.heap.size w0 w
  res : Blk w (w0.heap.size + 1) 70 (ZU 16).toArray
  vb' : Blk w (w0.heap.size + 1 + 1) 70 V.toArray

set_option maxRecDepth 100000 in
set_option maxHeartbeats 1000000 in
theorem spread_any (h : List (BitVec 32)) (hh : h.length = 8) (t : Int) (t0 : 0 ≤ t) (t1 : t < 18446744073709551616) (last : Bool) (w : World) (hG : Gl w) :
    Calls Tryd.prog 35 #[.agg (UL h).toArray, .int .u64 t, .bool last] w fun e w' => e = .returned (.agg (UL (spreadF h t last)).toArray) ∧ Below w.heap.size w w' := by
  have s0 : Hid (SW w h (lay16 h 0) (((w.alloc (.cells (UL h).toArray 42)).alloc (.cells (ZU 16).toArray 70)).alloc (.cells (ZU 16).toArray 70))) :=
    have b := (((Below.refl _ w).alloc (Nat.le_refl _) (.cells (UL h).toArray 42)).alloc (by simp) (.cells (ZU 16).toArray 70)).alloc (by simp; omega) (.cells (ZU 16).toArray 70)
    ⟨b, hG.low b, hG.lt, ((Blk.new w 42 _).alloc _).alloc _, (Blk.new' _ 70 _ (by simp)).alloc _, Blk.new' _ 70 _ (by simp)⟩
  clear hG
  generalize hX : UL h = X at *
  have HX := Lib.hid hX
  have HH := Lib.hid hh
  clear hX hh
  go_enter Tryd.func35, Tryd.ntmps35
  go_wp2_with fail
  generalize ((w.alloc (.cells X.toArray 42)).alloc (.cells (ZU 16).toArray 70)).alloc (.cells (ZU 16).toArray 70) = W at *
  go_loopw [9] (fun i wr => ∃ k : Nat, k ≤ 8 ∧ i = .int .i64 k ∧ SW w h (lay16 h k) wr) (fun i _ => 8 - (intOf i).toNat)
  case atStart => exact ⟨0, Nat.zero_le _, rfl, s0.out⟩
  case round =>
    obtain ⟨k, hk, rfl, hsw⟩ := hrel
    have S := Lib.hid hsw
    clear s0 hsw
    by_cases hlt : k < 8
    · have c1 : wr.cell? ⟨w.heap.size, k, none⟩ = some (.int .u32 (tn (gt h k) : Int)) := (S.out.hb.cell k).trans (UL.gt (by rw [HH.out]; exact hlt))
      have c2 : wr.cell? ⟨0, k, none⟩ = some (.int .u32 (tn (gt startL k) : Int)) := by
        have := S.out.gl.s k _ (UL.get startL k hlt)
        rwa [Nat.zero_add] at this
      have c3 := (S.out.vb.cell k).trans (UL.gt (by rw [lay16_len]; omega))
      have c4 := (S.out.vb.cell (k + 8)).trans (UL.gt (by rw [lay16_len]; omega))
      have f3 := S.out.vb.frozen k
      have f4 := S.out.vb.frozen (k + 8)
      go_wp2_with fail
      have e1 : IntKind.i64.wrap ((k : Int) + 8) = (k : Int) + 8 := IntWalk.i64_in _ (by omega)
      have e2 : 0 ≤ (k : Int) + 8 := by omega
      have e3 : (k : Int) + 8 < 16 := by omega
      have e4 : ((k : Int) + 8).toNat = k + 8 := by omega
      go_region
      clear e1 e2 e3 e4
      go_wp2_with fail
      exact ⟨⟨k + 1, by omega, by go_num, ((S.out.setI k _ _ rfl).setI (k + 8) _ _ rfl).drew⟩, by simp [intOf]; omega⟩
    · obtain rfl : k = 8 := by omega
      have c12 := (S.out.vb.cell 12).trans (UL.gt (by rw [lay16_len]; omega))
      have c13 := (S.out.vb.cell 13).trans (UL.gt (by rw [lay16_len]; omega))
      have c14 := (S.out.vb.cell 14).trans (UL.gt (by rw [lay16_len]; omega))
      have f12 := S.out.vb.frozen 12
      have f13 := S.out.vb.frozen 13
      have f14 := S.out.vb.frozen 14
      cases last with
      | false =>
        have hR : Hid (∀ a b : Int, a = bits .xor .u32 (tn (gt (lay16 h 8) 12) : Int) (t % 4294967296) → b = bits .xor .u32 (tn (gt (lay16 h 8) 13) : Int) (t / 4294967296) →
            SV w (UL (spreadF h t false)) ((wr.setCell ⟨w.heap.size + 1 + 1, 12, none⟩ (.int .u32 a)).setCell ⟨w.heap.size + 1 + 1, 13, none⟩ (.int .u32 b))) := fun a b ha hb => by
          have q := (S.out.setI 12 (v12 h t) a (by rw [ha, xor_bv, bv_tn, bv_mod]; rfl)).setI 13 (v13 h t) b (by rw [hb, xor_bv, bv_tn]; rfl)
          exact ⟨q.below, q.res, q.vb⟩
        have HL : Hid ((Tryd.prog.info? 70).map (·.size) = some (UL (spreadF h t false)).length) := show _ = _ by rw [UL.len, spreadF_len]; exact Tryd.i70
        have HZ : Hid ((ZU 16).toArray.size = (UL (spreadF h t false)).length) := show _ = _ by rw [UL.len, spreadF_len]; rfl
        have HLA : Hid ((Tryd.prog.info? 70).map (·.size) = some (UL (spreadF h t false)).toArray.size) := show _ = _ by rw [List.size_toArray, UL.len, spreadF_len]; exact Tryd.i70
        have H1 := Lib.hid (UL.one (spreadF h t false))
        have Q := Lib.hid (hR.out _ _ rfl rfl)
        clear S hR
        generalize hV : UL (spreadF h t false) = V at *
        have HV := Lib.hid hV
        clear hV
        go_wp2_with (first
          | ((with_reducible refine at_load (t := 70) ?_); refine wpList_load_mid rfl 70 _ rfl (w.heap.size + 1 + 1) 0 rfl V _ Q.out.vb'.rng Tryd.underlying70 rfl HL.out ?_)
          | ((with_reducible refine at_store (t := 70) ?_); refine wpList_store_blk _ rfl 70 _ _ rfl (w.heap.size + 1) (ZU 16).toArray 70 V rfl rfl Q.out.res HZ.out HL.out H1.out ?_; intro w9 hb9 ho9))
        refine bodyPost_ret (results_cell_row (p := 6) (ty := 70) rfl _ _ (w.heap.size + 1) 70 _ (0, 0) _ rfl hb9 Tryd.underlying70 rfl HLA.out) rfl ?_
        rw [HV.out]
        exact ⟨rfl, Q.out.below.trans (ho9.below (by omega))⟩
      | true =>
        have hR : Hid (∀ a b c : Int, a = bits .xor .u32 (tn (gt (lay16 h 8) 12) : Int) (t % 4294967296) → b = bits .xor .u32 (tn (gt (lay16 h 8) 13) : Int) (t / 4294967296) → c = bits .xor .u32 4294967295 (tn (gt (lay16 h 8) 14) : Int) →
            SV w (UL (spreadF h t true)) (((wr.setCell ⟨w.heap.size + 1 + 1, 12, none⟩ (.int .u32 a)).setCell ⟨w.heap.size + 1 + 1, 13, none⟩ (.int .u32 b)).setCell ⟨w.heap.size + 1 + 1, 14, none⟩ (.int .u32 c))) := fun a b c ha hb hc => by
          have q := ((S.out.setI 12 (v12 h t) a (by rw [ha, xor_bv, bv_tn, bv_mod]; rfl)).setI 13 (v13 h t) b (by rw [hb, xor_bv, bv_tn]; rfl)).setI 14 (v14 h) c (by rw [hc, xor_bv, bv_tn]; rfl)
          exact ⟨q.below, q.res, q.vb⟩
        have HL : Hid ((Tryd.prog.info? 70).map (·.size) = some (UL (spreadF h t true)).length) := show _ = _ by rw [UL.len, spreadF_len]; exact Tryd.i70
        have HZ : Hid ((ZU 16).toArray.size = (UL (spreadF h t true)).length) := show _ = _ by rw [UL.len, spreadF_len]; rfl
        have HLA : Hid ((Tryd.prog.info? 70).map (·.size) = some (UL (spreadF h t true)).toArray.size) := show _ = _ by rw [List.size_toArray, UL.len, spreadF_len]; exact Tryd.i70
        have H1 := Lib.hid (UL.one (spreadF h t true))
        have Q := Lib.hid (hR.out _ _ _ rfl rfl rfl)
        clear S hR
        generalize hV : UL (spreadF h t true) = V at *
        have HV := Lib.hid hV
        clear hV
        go_wp2_with (first
          | ((with_reducible refine at_load (t := 70) ?_); simp only [max_if]; refine wpList_load_mid rfl 70 _ rfl (w.heap.size + 1 + 1) 0 rfl V _ Q.out.vb'.rng Tryd.underlying70 rfl HL.out ?_)
          | ((with_reducible refine at_store (t := 70) ?_); refine wpList_store_blk _ rfl 70 _ _ rfl (w.heap.size + 1) (ZU 16).toArray 70 V rfl rfl Q.out.res HZ.out HL.out H1.out ?_; intro w9 hb9 ho9))
        refine bodyPost_ret (results_cell_row (p := 6) (ty := 70) rfl _ _ (w.heap.size + 1) 70 _ (0, 0) _ rfl hb9 Tryd.underlying70 rfl HLA.out) rfl ?_
        rw [HV.out]
        exact ⟨rfl, Q.out.below.trans (ho9.below (by omega))⟩

end Go.Proofs.YtbemnolgolecaaaDoor
