/-
  Parse.
-/
import Derived.Test.YtbemnolgolecaaaDoorB4
namespace Go.Proofs.YtbemnolgolecaaaDoor
open Go.RowKit
attribute [local go_sem ↓] Tryd.z42 Tryd.z70 Tryd.z27 Tryd.z45 Tryd.z37 Tryd.z38

theorem u8_le (x : UInt8) : (x.toNat : Int) ≤ 255 := by have := x.toNat_lt; omega
theorem index_dg (s : ByteArray) (k : Nat) (h : k < s.size) (w : World) :
    Calls Tryd.prog 40 #[.string { data := #[48, 49, 50, 51, 52, 53, 54, 55, 56, 57, 97, 98, 99, 100, 101, 102] }, .int .u8 ((s[k]).toNat : Int)] w fun e w' => e = .returned (.int .i64 (dg s k)) ∧ w = w' := by
  rw [dg_at s k h]
  exact index_any _ (Int.natCast_nonneg _) (u8_le _) w

/-- What Parse answers to a text of 64 bytes. -/
def pId (s : ByteArray) : List Int := if okd s 32 then ofd s 32 else Z32
def pEr (s : ByteArray) : Int := if okd s 32 then 0 else 130

theorem okd_succ {s : ByteArray} {k : Nat} (h : okd s k) : okd s (k + 1) ↔ 0 ≤ dg s (2 * k) ∧ 0 ≤ dg s (2 * k + 1) :=
  ⟨fun h' => h' k (by omega), fun h' i hi => by
    by_cases e : i = k
    · subst e; exact h'
    · exact h i (by omega)⟩
theorem okd_less {s : ByteArray} {k : Nat} (h : okd s 32) (hk : k ≤ 32) : okd s k := fun i hi => h i (by omega)

/-- Where one stands. -/
structure PW (w0 : World) (s : ByteArray) (k : Nat) (w : World) : Prop where
  below : Below w0.heap.size w0 w
  res : Blk w w0.heap.size 27 (ZB 32).toArray
  id : Blk w (w0.heap.size + 1) 27 (BL (ofd s k ++ List.replicate (32 - k) 0)).toArray

theorem or_dig (h l : Int) (h0 : 0 ≤ h) (h1 : h ≤ 15) (l0 : 0 ≤ l) (l1 : l ≤ 15) : bits .or .i64 (h * 16) l % 256 = 16 * h + l := by
  have all : ∀ a b : Fin 16, bits .or .i64 ((a.val : Int) * 16) (b.val : Int) % 256 = 16 * (a.val : Int) + (b.val : Int) := by decide +kernel
  obtain ⟨a, rfl⟩ := Int.eq_ofNat_of_zero_le h0
  obtain ⟨b, rfl⟩ := Int.eq_ofNat_of_zero_le l0
  exact all ⟨a, by omega⟩ ⟨b, by omega⟩
theorem PW.step {w0 w : World} {s : ByteArray} {k : Nat} (h : PW w0 s k w) (hk : k < 32) (v : Int) (hv : ofd s (k + 1) = ofd s k ++ [v]) (n : Nat) : PW w0 s (k + 1) ((w.drewN n).setCell ⟨w0.heap.size + 1, k, none⟩ (.int .u8 v)) := by
  have hb := h.res.drewN n
  have hi := h.id.drewN n
  refine ⟨(below_drewN h.below n).setCell (by show _ ≤ w0.heap.size + 1; omega) _, hb.far (by show w0.heap.size ≠ w0.heap.size + 1; omega) _, ?_⟩
  have := hi.set_ k (.int .u8 v)
  rw [BL.set] at this
  have e : (ofd s k ++ List.replicate (32 - k) (0 : Int)).set k v = ofd s (k + 1) ++ List.replicate (32 - (k + 1)) 0 := by
    rw [List.set_append_right _ _ (by rw [ofd_len]; exact Nat.le_refl _), ofd_len, Nat.sub_self, hv, List.append_assoc]
    congr 1
    rw [show 32 - k = (32 - (k + 1)) + 1 by omega, List.replicate_succ]
    rfl
  rw [e] at this
  exact this

set_option maxRecDepth 100000 in
set_option maxHeartbeats 1000000 in
theorem parse_64 (s : ByteArray) (hs : s.size = 64) (w : World) : Calls Tryd.prog 28 #[.string s] w (Parsed w (pId s) (pEr s)) := by
  have hl : (ZB 32).length = 32 := rfl
  have p0 : Hid (PW w s 0 ((w.alloc (.cells (ZB 32).toArray 27)).alloc (.cells (ZB 32).toArray 27))) :=
    ⟨((Below.refl _ w).alloc (Nat.le_refl _) _).alloc (by simp) _, (Blk.new w 27 _).alloc _, Blk.new' _ 27 _ (by simp)⟩
  have h64 : ((s.size : Int) != 64) = false := by simp; omega
  go_enter Tryd.func28, Tryd.ntmps28
  go_wp2_with fail
  generalize (w.alloc (.cells (ZB 32).toArray 27)).alloc (.cells (ZB 32).toArray 27) = W at *
  go_loopw [12] (fun i wr => ∃ k : Nat, k ≤ 32 ∧ i = .int .i64 k ∧ okd s k ∧ PW w s k wr) (fun i _ => 32 - (intOf i).toNat)
  case atStart => exact ⟨0, Nat.zero_le _, rfl, fun i hi => absurd hi (by omega), p0.out⟩
  case round =>
    obtain ⟨k, hk, rfl, hok, hpw⟩ := hrel
    have OK := Lib.hid hok
    have PW' := Lib.hid hpw
    clear p0 hok hpw
    by_cases hlt : k < 32
    · have n1 : 2 * k < s.size := by omega
      have n2 : 2 * k + 1 < s.size := by omega
      have C1 := Lib.hid (fun n => index_dg s (2 * k) n1 (wr.drewN n))
      have C2 := Lib.hid (fun n => index_dg s (2 * k + 1) n2 (wr.drewN n))
      go_wp2_with fail
      have e1 : IntKind.i64.wrap (2 * (k : Int)) = 2 * (k : Int) := IntWalk.i64_in _ (by omega)
      have e2 : IntKind.i64.wrap (2 * (k : Int) + 1) = 2 * (k : Int) + 1 := IntWalk.i64_in _ (by omega)
      have e3 : 0 ≤ 2 * (k : Int) := by omega
      have e4 : 0 ≤ 2 * (k : Int) + 1 := by omega
      have e5 : 2 * (k : Int) < 64 := by omega
      have e6 : 2 * (k : Int) + 1 < 64 := by omega
      have e7 : (2 * (k : Int)).toNat = 2 * k := by omega
      have e8 : (2 * (k : Int) + 1).toNat = 2 * k + 1 := by omega
      go_quiet ((first | (go_at_call 40; exact quiet_l (C1.out _)) | (go_at_call 40; exact quiet_l (C2.out _))))
      try clear e1
      try clear e2
      have r1 := dg_range s (2 * k)
      have r2 := dg_range s (2 * k + 1)
      have HH : Hid (okd s (k + 1) ↔ 0 ≤ dg s (2 * k) ∧ 0 ≤ dg s (2 * k + 1)) := show _ ↔ _ from okd_succ OK.out
      have HF := Lib.hid (ofd_succ s k)
      generalize dg s (2 * k) = h at *
      generalize dg s (2 * k + 1) = l at *
      by_cases hh : h < 0
      · have no : ¬ okd s 32 := fun h32 => by have := HH.out.1 (okd_less h32 (by omega)); omega
        have HN : Hid (pId s = Z32 ∧ pEr s = 130) := ⟨if_neg no, if_neg no⟩
        have HR := Lib.hid PW'.out.res
        have HB := Lib.hid PW'.out.below
        clear no HH HF PW' OK C1 C2
        go_wp2_with ((with_reducible refine at_store (t := 27) ?_); refine wpList_store_blk _ rfl 27 _ _ rfl w.heap.size (ZB 32).toArray 27 (ZB 32) rfl rfl (HR.out.drewN _) rfl Tryd.i27 (ZB.one 32) ?_; intro w9 hb9 ho9)
        refine bodyPost_ret (ret_cell_tmp (p := 2) (u := 3) (ty := 27) rfl _ _ w.heap.size 27 _ _ rfl hb9 Tryd.underlying27 rfl Tryd.i27) rfl ?_
        rw [HN.out.1, HN.out.2]
        exact ⟨by rw [ZB.bl]; rfl, (below_drewN HB.out _).trans (ho9.below (Nat.le_refl _))⟩
      · by_cases hl' : l < 0
        · have no : ¬ okd s 32 := fun h32 => by have := HH.out.1 (okd_less h32 (by omega)); omega
          have HN : Hid (pId s = Z32 ∧ pEr s = 130) := ⟨if_neg no, if_neg no⟩
          have HR := Lib.hid PW'.out.res
          have HB := Lib.hid PW'.out.below
          clear no HH HF PW' OK C1 C2
          go_wp2_with ((with_reducible refine at_store (t := 27) ?_); refine wpList_store_blk _ rfl 27 _ _ rfl w.heap.size (ZB 32).toArray 27 (ZB 32) rfl rfl (HR.out.drewN _) rfl Tryd.i27 (ZB.one 32) ?_; intro w9 hb9 ho9)
          refine bodyPost_ret (ret_cell_tmp (p := 2) (u := 3) (ty := 27) rfl _ _ w.heap.size 27 _ _ rfl hb9 Tryd.underlying27 rfl Tryd.i27) rfl ?_
          rw [HN.out.1, HN.out.2]
          exact ⟨by rw [ZB.bl]; rfl, (below_drewN HB.out _).trans (ho9.below (Nat.le_refl _))⟩
        · have hcell : wr.cell? ⟨w.heap.size + 1, k, none⟩ = some (.int .u8 0) := by
            refine (PW'.out.id.cell k).trans ?_
            rw [List.getElem?_toArray, BL.get _ _ (by rw [List.length_append, ofd_len, List.length_replicate]; omega)]
            have e : (ofd s k ++ List.replicate (32 - k) (0 : Int)).getD k 0 = 0 := by
              rw [List.getD_eq_getElem?_getD, List.getElem?_append_right (by rw [ofd_len]; exact Nat.le_refl _), List.getElem?_replicate]; split <;> rfl
            rw [e]
          have hfr := PW'.out.id.frozen k
          have HK : Hid (okd s (k + 1)) := HH.out.2 ⟨by omega, by omega⟩
          clear HH
          go_wp2_with fail
          have hv : bits .or .i64 (h * 16) l % 256 = 16 * h + l := or_dig h l (by omega) (by omega) (by omega) (by omega)
          rw [hv]
          exact ⟨⟨k + 1, by omega, by go_num, HK.out, PW'.out.step hlt _ HF.out _⟩, by simp [intOf]; omega⟩
    · obtain rfl : k = 32 := by omega
      have HN : Hid (pId s = ofd s 32 ∧ pEr s = 0) := ⟨if_pos OK.out, if_pos OK.out⟩
      have HR := Lib.hid PW'.out.res
      have HB := Lib.hid PW'.out.below
      have hid := PW'.out.id
      rw [show List.replicate (32 - 32) (0 : Int) = [] from rfl, List.append_nil] at hid
      have HI := Lib.hid hid
      have hlen : (BL (ofd s 32)).length = 32 := by rw [BL.len, ofd_len]
      have HZ : Hid ((ZB 32).toArray.size = (BL (ofd s 32)).length) := by rw [hlen]; rfl
      have H2 : Hid ((Tryd.prog.info? 27).map (·.size) = some (BL (ofd s 32)).length) := by rw [hlen]; exact Tryd.i27
      have H1 := Lib.hid (BL.one (ofd s 32))
      clear PW' OK hid hlen
      generalize hX : BL (ofd s 32) = X at *
      have HX := Lib.hid hX
      clear hX
      go_wp2_with (first
        | ((with_reducible refine at_load (t := 27) ?_); refine wpList_load_mid rfl 27 _ rfl (w.heap.size + 1) 0 rfl X _ HI.out.rng Tryd.underlying27 rfl H2.out ?_)
        | ((with_reducible refine at_store (t := 27) ?_); refine wpList_store_blk _ rfl 27 _ _ rfl w.heap.size (ZB 32).toArray 27 X rfl rfl HR.out HZ.out H2.out H1.out ?_; intro w9 hb9 ho9))
      refine bodyPost_ret (ret_cell_tmp (p := 2) (u := 3) (ty := 27) rfl _ _ w.heap.size 27 _ _ rfl hb9 Tryd.underlying27 rfl (by simpa using H2.out)) rfl ?_
      rw [HN.out.1, HN.out.2, ← HX.out]
      exact ⟨rfl, HB.out.trans (ho9.below (Nat.le_refl _))⟩

end Go.Proofs.YtbemnolgolecaaaDoor
