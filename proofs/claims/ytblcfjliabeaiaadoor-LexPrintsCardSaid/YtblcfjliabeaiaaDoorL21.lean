/-
  The words that are kept, in memory: the program's Keys and the document's; the document's Key.
-/
import Derived.Test.YtblcfjliabeaiaaDoorL20
namespace Go.Proofs.YtblcfjliabeaiaaDoor
open Go.RowKit Go.Shelf
attribute [local go_sem] Oper.semAt_some

theorem keptV_one : ∀ v ∈ keptV, v.oneCell' = true := fun v hv => by
  obtain ⟨k, _, rfl⟩ := List.mem_map.1 hv
  rfl
theorem keptV_get {i : Nat} (hi : i < 35) : keptV.toArray[i]? = some (tx (keptL.getD i [])) := by
  have h2 : i < keptL.length := hi
  simp [keptV, List.getD, h2]

set_option maxRecDepth 100000 in
set_option maxHeartbeats 4000000 in
theorem keys_any (w : World) (hG : Gl w) : Calls Tryd.prog 17 #[] w fun e w' => e = .returned (.slice (some ⟨w.heap.size, 0, none⟩) 35 35) ∧ Blk w' w.heap.size 66 keptV.toArray ∧ Below w.heap.size w w' := by
  have KR := Lib.hid (kept_rng hG)
  have H1 := Lib.hid keptV_one
  clear hG
  go_enter Tryd.func17, Tryd.ntmps17
  go_upto_region 2 with (first
    | ((with_reducible refine at_load (t := 66) ?_); refine wpList_load_mid rfl 66 _ rfl 0 0 rfl keptV _ KR.out Tryd.underlying66 rfl Tryd.i66 ?_)
    | ((with_reducible refine at_store (t := 66) ?_); refine wpList_store_blk _ rfl 66 _ _ rfl w.heap.size _ 66 keptV rfl rfl (Blk.new _ _ _) (by kernel_rfl) Tryd.i66 H1.out ?_; intro w9 hb9 ho9; have HB := Lib.hid hb9; have HO := Lib.hid (((Below.refl w.heap.size w).alloc (Nat.le_refl _) _).trans (ho9.below (Nat.le_refl _))); clear hb9 ho9))
  go_wp2_with fail
  go_ret
  exact ⟨rfl, HB.out, HO.out⟩

set_option maxRecDepth 100000 in
set_option maxHeartbeats 4000000 in
theorem rkeys_any (w : World) : Calls Tryd.prog 18 #[] w fun e w' => e = .returned (.slice (some ⟨w.heap.size, 0, none⟩) 35 35) ∧ Blk w' w.heap.size 9 keptV.toArray ∧ Below w.heap.size w w' := by
  go_enter Tryd.func18, Tryd.ntmps18
  go_wp2
  go_ret
  exact ⟨rfl, Blk.new _ _ _, (Below.refl _ _).alloc (Nat.le_refl _) _⟩

theorem capU_map (l : List UInt8) : (l.map capU).map (fun b => (b.toNat : Int)) = l.map (fun b => capB (b.toNat : Int)) := by
  rw [List.map_map]
  exact List.map_congr_left fun b _ => capU_toNat b
theorem nat_inj : Function.Injective (fun b : UInt8 => (b.toNat : Int)) := fun a b h => by
  have h2 : ((a.toNat : Nat) : Int) = ((b.toNat : Nat) : Int) := h
  exact UInt8.toNat_inj.1 (by omega)
theorem caps_eq (l k : List UInt8) : ((⟨(l.map capU).toArray⟩ : ByteArray) == ⟨k.toArray⟩) = isKeyF l k := by
  rw [ba_beq, isKeyF, ← capU_map, Bool.eq_iff_iff, beq_iff_eq, decide_eq_true_eq]
  exact ⟨fun h => by rw [h], fun h => (List.map_inj_right (fun _ _ h => nat_inj h)).1 h⟩

set_option maxRecDepth 100000 in
set_option maxHeartbeats 4000000 in
theorem rkey_any (l : List UInt8) (hl : l.length ≤ 1000000) (w : World) :
    Calls Tryd.prog 20 #[tx l] w fun e w' => e = .returned (keyR l) ∧ Below w.heap.size w w' := by
  have Y : Hid (∀ i, i < 35 → (∀ j, j < i → isKeyF l (keptL.getD j []) = false) → isKeyF l (keptL.getD i []) = true → keyR l = .tuple #[tx (keptL.getD i []), .bool true]) := Lib.hid (fun i hi ha h => by
    have : keyF l = some (keptL.getD i []) := find_at _ _ i hi ha h
    unfold keyR
    rw [this])
  have N : Hid ((∀ j, j < 35 → isKeyF l (keptL.getD j []) = false) → keyR l = .tuple #[tx [], .bool false]) := Lib.hid (fun ha => by
    have : keyF l = none := find_no _ _ ha
    unfold keyR
    rw [this])
  have CP := Lib.hid (fun W => capitals_any l hl W)
  have CE := Lib.hid (fun k => caps_eq l k)
  have RK := Lib.hid (rkeys_any w)
  have KG := Lib.hid (fun i hi => keptV_get (i := i) hi)
  generalize keyR l = R at *
  generalize l.map capU = lc at *
  generalize keptV.toArray = KV at *
  obtain ⟨g, hg⟩ : ∃ g, w.heap.size = g := ⟨_, rfl⟩
  rw [hg] at RK ⊢
  go_enter Tryd.func20, Tryd.ntmps20
  go_upto_region 2 with (go_at_call 18; refine RK.out.mono ?_; rintro e w1 ⟨rfl, hb, hw⟩; have HB0 := Lib.hid hb; have HW0 := Lib.hid hw; clear hb hw RK)
  have HG1 : Hid (g + 1 ≤ w1.heap.size) := Lib.hid HB0.out.lt
  go_loopw [8] (fun iv wr => ∃ i : Nat, i ≤ 35 ∧ iv = .int .i64 (i : Int) ∧ Hid (∀ j, j < i → isKeyF l (keptL.getD j []) = false) ∧ Hid (Below (g + 1) w1 wr)) (fun iv _ => 35 - (intOf iv).toNat)
  case atStart => exact ⟨0, Nat.zero_le _, rfl, Lib.hid (fun j hj => absurd hj (by omega)), Lib.hid (Below.refl _ _)⟩
  case round =>
    obtain ⟨i, hi, rfl, HA, HB⟩ := hrel
    by_cases hlt : i < 35
    · have i0 : (0 : Int) ≤ (i : Int) := by omega
      have i1 : (i : Int) < 35 := by omega
      have x0 : wr.cell? ⟨g, i, none⟩ = some (tx (keptL.getD i [])) := ((HB0.out.below HB.out (by omega)).cell i).trans (KG.out i hlt)
      have YY := Lib.hid (Y.out i hlt HA.out)
      have CE1 := CE.out (keptL.getD i [])
      cases hq : isKeyF l (keptL.getD i []) with
      | true =>
        have hR := Lib.hid (YY.out hq)
        rw [hq] at CE1
        clear hq YY
        generalize keptL.getD i [] = kk at *
        rw [ba_beq] at CE1
        go_wp2_with (go_at_call 38; refine (CP.out _).mono ?_; rintro e w2 ⟨rfl, hb⟩; have B2 := Lib.hid (HB.out.trans (hb.mono (Nat.le_trans HG1.out HB.out.size))); clear hb)
        go_ret2
        exact ⟨by rw [hR.out]; rfl, HW0.out.trans (B2.out.mono (by omega))⟩
      | false =>
        have HA2 : Hid (∀ j, j < i + 1 → isKeyF l (keptL.getD j []) = false) := Lib.hid (fun j hj => by
          by_cases hji : j = i
          · subst hji; exact hq
          · exact HA.out j (by omega))
        rw [hq] at CE1
        clear hq YY
        generalize keptL.getD i [] = kk at *
        rw [ba_beq] at CE1
        go_wp2_with (go_at_call 38; refine (CP.out _).mono ?_; rintro e w2 ⟨rfl, hb⟩; have B2 := Lib.hid (HB.out.trans (hb.mono (Nat.le_trans HG1.out HB.out.size))); clear hb)
        go_roundw
        case rel => exact ⟨i + 1, by omega, by go_num, HA2, B2⟩
        case measure => simp [intOf]; omega
    · obtain rfl : i = 35 := by omega
      have hR := Lib.hid (N.out HA.out)
      go_wp2_with fail
      go_ret2
      exact ⟨by rw [hR.out]; rfl, HW0.out.trans (HB.out.mono (by omega))⟩
end Go.Proofs.YtblcfjliabeaiaaDoor
