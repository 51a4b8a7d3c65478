/-
  The document's Text.
-/
import Derived.Test.YtbemnolgolecaaaDoorT1
namespace Go.Proofs.YtbemnolgolecaaaDoor
open Go.RowKit
attribute [local go_sem ↓] Tryd.z42 Tryd.z70 Tryd.z27 Tryd.z45 Tryd.z37 Tryd.z38

set_option maxRecDepth 100000 in
set_option maxHeartbeats 2000000 in
theorem reftext_any (a : List Int) (ha : a.length = 32) (bs : Bs a) (w : World) : Calls Tryd.prog 25 #[.agg (BL a).toArray] w fun e w' => e = .returned (.string (strOfNums (textF a))) ∧ Below w.heap.size w w' := by
  have iA : Hid ((Tryd.prog.info? 27).map (·.size) = some (BL a).length) := show _ = _ by rw [BL.len, ha]; exact Tryd.i27
  have mk := make64
  obtain ⟨i0, hi, hz0, hz1, hz2⟩ := info_parts Tryd.info5
  have HI := Lib.hid hi
  have HZ1 := Lib.hid hz1
  clear hi hz0 hz1 hz2
  have GA := Lib.hid ha
  have BA := Lib.hid bs
  have IX := Lib.hid (fun k (hk : k < 32) w => idx_one (P := Tryd.prog) 27 5 32 (BL a).toArray k (.int .u8 (a.getD k 0)) w .u8 Tryd.underlying27 hk (by rw [List.getElem?_toArray]; exact BL.get a k (by omega)) Tryd.s5 Tryd.underlying5)
  clear ha bs
  go_enter Tryd.func25, Tryd.ntmps25
  go_wp2_with ((with_reducible refine at_load (t := 27) ?_); refine wpList_load_mid rfl 27 _ rfl w.heap.size 0 rfl (BL a) _ (((Blk.new w 27 _).alloc _).rng) Tryd.underlying27 rfl iA.out ?_)
  have T0 : Hid (TXW w (w.heap.size + 1) a 0 ((w.alloc (.cells (BL a).toArray 27)).alloc (.cells (ZB 64).toArray 5))) :=
    ⟨((Below.refl _ w).alloc (Nat.le_refl _) _).alloc (by simp) _, by rw [show txtL a 0 ++ List.replicate (64 - 2 * 0) 0 = List.replicate 64 0 from rfl, ← ZB.bl]; exact Blk.new' _ 5 _ (by simp), by omega⟩
  clear mk
  generalize (w.alloc (.cells (BL a).toArray 27)).alloc (.cells (ZB 64).toArray 5) = W0 at *
  generalize w.heap.size + 1 = g at *
  go_loopw [8, 3] (fun i s wr => ∃ k : Nat, k ≤ 32 ∧ i = .int .i64 k ∧ s = .slice (some ⟨g, 0, none⟩) (2 * k) 64 ∧ TXW w g a k wr) (fun i _ _ => 32 - (intOf i).toNat)
  case atStart => exact ⟨0, Nat.zero_le _, rfl, rfl, T0.out⟩
  case round =>
    obtain ⟨k, hk, rfl, rfl, ht⟩ := hrel
    have T := Lib.hid ht
    clear T0 ht
    by_cases hlt : k < 32
    · have ix := fun w => IX.out k hlt w
      have hb := BA.out k
      have HZ : Hid (a.getD k 0 = (((a.getD k 0).toNat : Nat) : Int)) := show _ = _ by omega
      have hz2 : (a.getD k 0).toNat < 256 := by omega
      have NX := Lib.hid (fun (w2 : World) (hb2 : Below wr.heap.size wr w2) => by
        have := T.out.step hlt hb2 _ _ rfl rfl
        rwa [show 0 + 2 * k * 1 = 2 * k by omega] at this)
      have CS := Lib.hid (fun (w2 : World) (hb2 : Below wr.heap.size wr w2) => T.out.blk.below hb2 T.out.blk.lt)
      rw [HZ.out] at ix
      clear hb HZ
      generalize (a.getD k 0).toNat = z at *
      have d2 : (z : Int) % 16 = ((z % 16 : Nat) : Int) := by omega
      have d3 : (z : Int).tmod 16 = ((z % 16 : Nat) : Int) := by rw [Int.tmod_eq_emod_of_nonneg (by omega)]; omega
      have d1 : (z : Int) / 16 = ((z / 16 : Nat) : Int) := by omega
      have X1 := fun w => hx_ix (z / 16) (by omega) w
      have X2 := fun w => hx_ix (z % 16) (by omega) w
      have p16 : z / 16 < 16 := by omega
      have q16 : z % 16 < 16 := by omega
      generalize z / 16 = p at *
      have wp : IntKind.u8.wrap (p : Int) = (p : Int) := by rw [IntKind.wrap_u8]; omega
      generalize z % 16 = q at *
      go_wp2_with fail
      have NB : Hid (Below wr.heap.size wr (wr.drew.alloc (.cells #[.int .u8 (hx p), .int .u8 (hx q)] 5))) := (Below.refl _ wr).drew.alloc (Nat.le_refl _) _
      have NC : Hid (∀ j u, [Value.int .u8 (hx p), .int .u8 (hx q)][j]? = some u → (wr.drew.alloc (.cells #[.int .u8 (hx p), .int .u8 (hx q)] 5)).cell? ((⟨wr.heap.size, 0, none⟩ : Addr).add j) = some u) := fun j u hj => by
        rw [add_at, Nat.zero_add]
        refine ((Blk.new' wr.drew 5 #[.int .u8 (hx p), .int .u8 (hx q)] (n := wr.heap.size) rfl).cell j).trans ?_
        rw [← hj]
        exact List.getElem?_toArray
      have NS : Hid (∀ j, j < [Value.int .u8 (hx p), .int .u8 (hx q)].length → ((wr.drew.alloc (.cells #[.int .u8 (hx p), .int .u8 (hx q)] 5)).cell? ⟨g, 0 + 2 * k * 1 + j, none⟩).isSome = true ∧ (wr.drew.alloc (.cells #[.int .u8 (hx p), .int .u8 (hx q)] 5)).frozen? ⟨g, 0 + 2 * k * 1 + j, none⟩ = false) := fun j hj => by
        have hj2 : j < 2 := hj
        have cs := CS.out _ NB.out
        refine ⟨?_, cs.frozen _⟩
        rw [cs.cell, List.getElem?_toArray, BL.get _ _ (by rw [List.length_append, txtL_len, List.length_replicate]; omega)]
        rfl
      have N1 : Hid (∀ u ∈ [Value.int .u8 (hx p), .int .u8 (hx q)], u.oneCell' = true) := fun u hu => by
        rcases List.mem_cons.1 hu with rfl | hu
        · rfl
        · obtain rfl := List.mem_singleton.1 hu
          rfl
      have kk : 2 * k + 2 ≤ 64 := by omega
      go_region_law (refine step_append_room rfl (.tmp 11) (.tmp 18) 24 rfl 5 i0 1 Tryd.underlying24 HI.out HZ1.out g 0 (2 * k) 64 rfl ⟨wr.heap.size, 0, none⟩ 2 2 [.int .u8 (hx p), .int .u8 (hx q)] rfl rfl NC.out N1.out kk NS.out ?_)
      all_goals
        (have T2 := Lib.hid (NX.out (wr.alloc (.cells #[.int .u8 (hx p), .int .u8 (hx q)] 5)).drew (((Below.refl _ wr).alloc (Nat.le_refl _) _).drew))
         clear NB NC NS N1 CS NX T X1 X2 d1 d2 d3 wp ix
         go_wp2_with fail
         exact ⟨⟨k + 1, by omega, by go_num, by rw [show 2 * (k + 1) = 2 * k + 2 by omega], T2.out⟩, by simp [intOf]; omega⟩)
    · obtain rfl : k = 32 := by omega
      have hm := T.out.blk
      rw [show List.replicate (64 - 2 * 32) (0 : Int) = [] from rfl, List.append_nil] at hm
      have HC := Lib.hid (run_convert_bytes_arg (P := Tryd.prog) wr 24 5 Tryd.underlying24 Tryd.underlying5 g 0 64 64 (txtL a 32) (txtL_len a 32) (fun i hi => by rw [Nat.zero_add, hm.cell, List.getElem?_toArray]; exact BL.get _ i (by rw [txtL_len]; omega)) 9 Tryd.underlying9)
      have hcv := HC.out
      clear hm
      go_wp2_with fail
      go_ret
      exact ⟨rfl, T.out.below⟩

end Go.Proofs.YtbemnolgolecaaaDoor
