/-
  The document's Parse.
-/
import Derived.Test.YtbemnolgolecaaaDoorT3
import Derived.Test.YtbemnolgolecaaaDoorM2
namespace Go.Proofs.YtbemnolgolecaaaDoor
open Go.RowKit
attribute [local go_sem ↓] Tryd.z42 Tryd.z70 Tryd.z27 Tryd.z45 Tryd.z37 Tryd.z38

theorem bdN {B : Nat} {w w' : World} (h : Below B w w') (n : Nat) : Below B w (w'.drewN n) := ⟨h.os, h.tape, h.output, h.size, h.block⟩
theorem dgF_dig (c : Int) : dgF c = dig c := by
  unfold dgF dig
  repeat' split
  all_goals omega
theorem digit_dg (s : ByteArray) (k : Nat) (h : k < s.size) (w : World) : Calls Tryd.prog 18 #[.int .u8 ((s[k]).toNat : Int)] w fun e w' => e = .returned (.int .i64 (dg s k)) ∧ w = w' := by
  rw [dg_at s k h, ← dgF_dig]
  exact digit_any _ (Int.natCast_nonneg _) (u8_le _) w
/-- An answer of the document's Parse. -/
def RParsed (w : World) (id : List Int) (ok : Bool) (e : Ending) (w' : World) : Prop := e = .returned (.tuple #[.agg (BL id).toArray, .bool ok]) ∧ Below w.heap.size w w'

set_option maxRecDepth 100000 in
set_option maxHeartbeats 1000000 in
theorem refparse_len (s : ByteArray) (hs : s.size ≠ 64) (w : World) : Calls Tryd.prog 29 #[.string s] w (RParsed w Z32 false) := by
  have h64 : ((s.size : Int) != 64) = true := by simp; omega
  have hl : (ZB 32).length = 32 := rfl
  have hb : Blk ((w.alloc (.cells (ZB 32).toArray 27)).alloc (.cells (ZB 32).toArray 27)) w.heap.size 27 (ZB 32).toArray := (Blk.new w 27 _).alloc _
  have HB := Lib.hid hb
  have HI : Hid (Blk ((w.alloc (.cells (ZB 32).toArray 27)).alloc (.cells (ZB 32).toArray 27)) (w.heap.size + 1) 27 (ZB 32).toArray) := Blk.new' _ 27 _ (by simp)
  clear hb
  go_enter Tryd.func29, Tryd.ntmps29
  go_wp2_with (first
    | ((with_reducible refine at_load (t := 27) ?_); refine wpList_load_mid rfl 27 _ rfl (w.heap.size + 1) 0 rfl (ZB 32) _ HI.out.rng Tryd.underlying27 rfl Tryd.i27 ?_)
    | ((with_reducible refine at_store (t := 27) ?_); refine wpList_store_blk _ rfl 27 _ _ rfl w.heap.size (ZB 32).toArray 27 (ZB 32) rfl rfl HB.out rfl Tryd.i27 (ZB.one 32) ?_; intro w9 hb9 ho9))
  exact bodyPost_ret (ret_cell_tmp (p := 2) (u := 3) (ty := 27) rfl _ _ w.heap.size 27 _ _ rfl hb9 Tryd.underlying27 rfl Tryd.i27) rfl ⟨by rw [ZB.bl]; rfl, (((Below.refl _ w).alloc (Nat.le_refl _) _).alloc (by simp) _).trans (ho9.below (Nat.le_refl _))⟩


set_option maxRecDepth 100000 in
set_option maxHeartbeats 1000000 in
theorem refparse_64 (s : ByteArray) (hs : s.size = 64) (w : World) : Calls Tryd.prog 29 #[.string s] w (RParsed w (pId s) (decide (okd s 32))) := by
  have hl : (ZB 32).length = 32 := rfl
  have p0 : Hid (PW w s 0 ((w.alloc (.cells (ZB 32).toArray 27)).alloc (.cells (ZB 32).toArray 27))) :=
    ⟨((Below.refl _ w).alloc (Nat.le_refl _) _).alloc (by simp) _, (Blk.new w 27 _).alloc _, Blk.new' _ 27 _ (by simp)⟩
  have h64 : ((s.size : Int) != 64) = false := by simp; omega
  go_enter Tryd.func29, Tryd.ntmps29
  go_wp2_with fail
  generalize (w.alloc (.cells (ZB 32).toArray 27)).alloc (.cells (ZB 32).toArray 27) = W at *
  go_loopw [12] (fun i wr => ∃ k : Nat, k ≤ 32 ∧ i = .int .i64 k ∧ okd s k ∧ PW w s k wr) (fun i _ => 32 - (intOf i).toNat)
  case atStart => exact ⟨0, Nat.zero_le _, rfl, fun i hi => absurd hi (by omega), p0.out⟩
  case round =>
    obtain ⟨k, hk, rfl, hok, hpw⟩ := hrel
    have OK := Lib.hid hok
    have PW' := Lib.hid hpw
    clear p0 hok hpw
    by_cases hlt : k < 32
    · have n1 : 2 * k < s.size := by omega
      have n2 : 2 * k + 1 < s.size := by omega
      have C1 := Lib.hid (fun n => digit_dg s (2 * k) n1 (wr.drewN n))
      have C2 := Lib.hid (fun n => digit_dg s (2 * k + 1) n2 (wr.drewN n))
      go_wp2_with fail
      have e1 : IntKind.i64.wrap (2 * (k : Int)) = 2 * (k : Int) := IntWalk.i64_in _ (by omega)
      have e2 : IntKind.i64.wrap (2 * (k : Int) + 1) = 2 * (k : Int) + 1 := IntWalk.i64_in _ (by omega)
      have e3 : 0 ≤ 2 * (k : Int) := by omega
      have e4 : 0 ≤ 2 * (k : Int) + 1 := by omega
      have e5 : 2 * (k : Int) < 64 := by omega
      have e6 : 2 * (k : Int) + 1 < 64 := by omega
      have e7 : (2 * (k : Int)).toNat = 2 * k := by omega
      have e8 : (2 * (k : Int) + 1).toNat = 2 * k + 1 := by omega
      go_quiet ((first | (go_at_call 18; with_reducible exact quiet_l (C1.out _)) | (go_at_call 18; with_reducible exact quiet_l (C2.out _))))
      try clear e1
      try clear e2
      have r1 := dg_range s (2 * k)
      have r2 := dg_range s (2 * k + 1)
      have HH : Hid (okd s (k + 1) ↔ 0 ≤ dg s (2 * k) ∧ 0 ≤ dg s (2 * k + 1)) := show _ ↔ _ from okd_succ OK.out
      have HF := Lib.hid (ofd_succ s k)
      generalize dg s (2 * k) = h at *
      generalize dg s (2 * k + 1) = l at *
      by_cases hh : h < 0
      · have no : ¬ okd s 32 := fun h32 => by have := HH.out.1 (okd_less h32 (by omega)); omega
        have HN : Hid (pId s = Z32 ∧ decide (okd s 32) = false) := ⟨if_neg no, decide_eq_false no⟩
        have HR := Lib.hid PW'.out.res
        have HB := Lib.hid PW'.out.below
        clear no HH HF PW' OK C1 C2
        go_wp2_with ((with_reducible refine at_store (t := 27) ?_); refine wpList_store_blk _ rfl 27 _ _ rfl w.heap.size (ZB 32).toArray 27 (ZB 32) rfl rfl (HR.out.drewN _) rfl Tryd.i27 (ZB.one 32) ?_; intro w9 hb9 ho9)
        refine bodyPost_ret (ret_cell_tmp (p := 2) (u := 3) (ty := 27) rfl _ _ w.heap.size 27 _ _ rfl hb9 Tryd.underlying27 rfl Tryd.i27) rfl ?_
        rw [HN.out.1, HN.out.2]
        exact ⟨by rw [ZB.bl]; rfl, (bdN HB.out _).trans (ho9.below (Nat.le_refl _))⟩
      · by_cases hl' : l < 0
        · have no : ¬ okd s 32 := fun h32 => by have := HH.out.1 (okd_less h32 (by omega)); omega
          have HN : Hid (pId s = Z32 ∧ decide (okd s 32) = false) := ⟨if_neg no, decide_eq_false no⟩
          have HR := Lib.hid PW'.out.res
          have HB := Lib.hid PW'.out.below
          clear no HH HF PW' OK C1 C2
          go_wp2_with ((with_reducible refine at_store (t := 27) ?_); refine wpList_store_blk _ rfl 27 _ _ rfl w.heap.size (ZB 32).toArray 27 (ZB 32) rfl rfl (HR.out.drewN _) rfl Tryd.i27 (ZB.one 32) ?_; intro w9 hb9 ho9)
          refine bodyPost_ret (ret_cell_tmp (p := 2) (u := 3) (ty := 27) rfl _ _ w.heap.size 27 _ _ rfl hb9 Tryd.underlying27 rfl Tryd.i27) rfl ?_
          rw [HN.out.1, HN.out.2]
          exact ⟨by rw [ZB.bl]; rfl, (bdN HB.out _).trans (ho9.below (Nat.le_refl _))⟩
        · have hcell : wr.cell? ⟨w.heap.size + 1, k, none⟩ = some (.int .u8 0) := by
            refine (PW'.out.id.cell k).trans ?_
            rw [List.getElem?_toArray, BL.get _ _ (by rw [List.length_append, ofd_len, List.length_replicate]; omega)]
            have e : (ofd s k ++ List.replicate (32 - k) (0 : Int)).getD k 0 = 0 := by
              rw [List.getD_eq_getElem?_getD, List.getElem?_append_right (by rw [ofd_len]; exact Nat.le_refl _), List.getElem?_replicate]; split <;> rfl
            rw [e]
          have hfr := PW'.out.id.frozen k
          have HK : Hid (okd s (k + 1)) := HH.out.2 ⟨by omega, by omega⟩
          clear HH
          go_wp2_with fail
          exact ⟨⟨k + 1, by omega, by go_num, HK.out, PW'.out.step hlt _ HF.out _⟩, by simp [intOf]; omega⟩
    · obtain rfl : k = 32 := by omega
      have HN : Hid (pId s = ofd s 32 ∧ decide (okd s 32) = true) := ⟨if_pos OK.out, decide_eq_true OK.out⟩
      have HR := Lib.hid PW'.out.res
      have HB := Lib.hid PW'.out.below
      have hid := PW'.out.id
      rw [show List.replicate (32 - 32) (0 : Int) = [] from rfl, List.append_nil] at hid
      have HI := Lib.hid hid
      have hlen : (BL (ofd s 32)).length = 32 := by rw [BL.len, ofd_len]
      have HZ : Hid ((ZB 32).toArray.size = (BL (ofd s 32)).length) := by rw [hlen]; rfl
      have H2 : Hid ((Tryd.prog.info? 27).map (·.size) = some (BL (ofd s 32)).length) := by rw [hlen]; exact Tryd.i27
      have H1 := Lib.hid (BL.one (ofd s 32))
      clear PW' OK hid hlen
      generalize hX : BL (ofd s 32) = X at *
      have HX := Lib.hid hX
      clear hX
      go_wp2_with (first
        | ((with_reducible refine at_load (t := 27) ?_); refine wpList_load_mid rfl 27 _ rfl (w.heap.size + 1) 0 rfl X _ HI.out.rng Tryd.underlying27 rfl H2.out ?_)
        | ((with_reducible refine at_store (t := 27) ?_); refine wpList_store_blk _ rfl 27 _ _ rfl w.heap.size (ZB 32).toArray 27 X rfl rfl HR.out HZ.out H2.out H1.out ?_; intro w9 hb9 ho9))
      refine bodyPost_ret (ret_cell_tmp (p := 2) (u := 3) (ty := 27) rfl _ _ w.heap.size 27 _ _ rfl hb9 Tryd.underlying27 rfl (by simpa using H2.out)) rfl ?_
      rw [HN.out.1, HN.out.2, ← HX.out]
      exact ⟨rfl, HB.out.trans (ho9.below (Nat.le_refl _))⟩

end Go.Proofs.YtbemnolgolecaaaDoor
