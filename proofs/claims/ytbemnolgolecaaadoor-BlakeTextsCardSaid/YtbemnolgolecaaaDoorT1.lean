/-
  Text.
-/
import Derived.Test.YtbemnolgolecaaaDoorM2
import Derived.Deep.RegionLaw
import Derived.Laws.BytesArg
namespace Go.Proofs.YtbemnolgolecaaaDoor
open Go.RowKit
attribute [local go_sem ↓] Tryd.z42 Tryd.z70 Tryd.z27 Tryd.z45 Tryd.z37 Tryd.z38

/-- A digit's byte. -/
def hx (n : Nat) : Int := if n < 10 then 48 + n else 87 + n
theorem hx_ix0 (w : World) : (Instr.index 9 (.string { data := #[48, 49, 50, 51, 52, 53, 54, 55, 56, 57, 97, 98, 99, 100, 101, 102] }) (.int .u8 ((0 : Nat) : Int))).run Tryd.prog w = .ok (.int .u8 (hx 0)) w := by kernel_rfl
theorem hx_ix1 (w : World) : (Instr.index 9 (.string { data := #[48, 49, 50, 51, 52, 53, 54, 55, 56, 57, 97, 98, 99, 100, 101, 102] }) (.int .u8 ((1 : Nat) : Int))).run Tryd.prog w = .ok (.int .u8 (hx 1)) w := by kernel_rfl
theorem hx_ix2 (w : World) : (Instr.index 9 (.string { data := #[48, 49, 50, 51, 52, 53, 54, 55, 56, 57, 97, 98, 99, 100, 101, 102] }) (.int .u8 ((2 : Nat) : Int))).run Tryd.prog w = .ok (.int .u8 (hx 2)) w := by kernel_rfl
theorem hx_ix3 (w : World) : (Instr.index 9 (.string { data := #[48, 49, 50, 51, 52, 53, 54, 55, 56, 57, 97, 98, 99, 100, 101, 102] }) (.int .u8 ((3 : Nat) : Int))).run Tryd.prog w = .ok (.int .u8 (hx 3)) w := by kernel_rfl
theorem hx_ix4 (w : World) : (Instr.index 9 (.string { data := #[48, 49, 50, 51, 52, 53, 54, 55, 56, 57, 97, 98, 99, 100, 101, 102] }) (.int .u8 ((4 : Nat) : Int))).run Tryd.prog w = .ok (.int .u8 (hx 4)) w := by kernel_rfl
theorem hx_ix5 (w : World) : (Instr.index 9 (.string { data := #[48, 49, 50, 51, 52, 53, 54, 55, 56, 57, 97, 98, 99, 100, 101, 102] }) (.int .u8 ((5 : Nat) : Int))).run Tryd.prog w = .ok (.int .u8 (hx 5)) w := by kernel_rfl
theorem hx_ix6 (w : World) : (Instr.index 9 (.string { data := #[48, 49, 50, 51, 52, 53, 54, 55, 56, 57, 97, 98, 99, 100, 101, 102] }) (.int .u8 ((6 : Nat) : Int))).run Tryd.prog w = .ok (.int .u8 (hx 6)) w := by kernel_rfl
theorem hx_ix7 (w : World) : (Instr.index 9 (.string { data := #[48, 49, 50, 51, 52, 53, 54, 55, 56, 57, 97, 98, 99, 100, 101, 102] }) (.int .u8 ((7 : Nat) : Int))).run Tryd.prog w = .ok (.int .u8 (hx 7)) w := by kernel_rfl
theorem hx_ix8 (w : World) : (Instr.index 9 (.string { data := #[48, 49, 50, 51, 52, 53, 54, 55, 56, 57, 97, 98, 99, 100, 101, 102] }) (.int .u8 ((8 : Nat) : Int))).run Tryd.prog w = .ok (.int .u8 (hx 8)) w := by kernel_rfl
theorem hx_ix9 (w : World) : (Instr.index 9 (.string { data := #[48, 49, 50, 51, 52, 53, 54, 55, 56, 57, 97, 98, 99, 100, 101, 102] }) (.int .u8 ((9 : Nat) : Int))).run Tryd.prog w = .ok (.int .u8 (hx 9)) w := by kernel_rfl
theorem hx_ix10 (w : World) : (Instr.index 9 (.string { data := #[48, 49, 50, 51, 52, 53, 54, 55, 56, 57, 97, 98, 99, 100, 101, 102] }) (.int .u8 ((10 : Nat) : Int))).run Tryd.prog w = .ok (.int .u8 (hx 10)) w := by kernel_rfl
theorem hx_ix11 (w : World) : (Instr.index 9 (.string { data := #[48, 49, 50, 51, 52, 53, 54, 55, 56, 57, 97, 98, 99, 100, 101, 102] }) (.int .u8 ((11 : Nat) : Int))).run Tryd.prog w = .ok (.int .u8 (hx 11)) w := by kernel_rfl
theorem hx_ix12 (w : World) : (Instr.index 9 (.string { data := #[48, 49, 50, 51, 52, 53, 54, 55, 56, 57, 97, 98, 99, 100, 101, 102] }) (.int .u8 ((12 : Nat) : Int))).run Tryd.prog w = .ok (.int .u8 (hx 12)) w := by kernel_rfl
theorem hx_ix13 (w : World) : (Instr.index 9 (.string { data := #[48, 49, 50, 51, 52, 53, 54, 55, 56, 57, 97, 98, 99, 100, 101, 102] }) (.int .u8 ((13 : Nat) : Int))).run Tryd.prog w = .ok (.int .u8 (hx 13)) w := by kernel_rfl
theorem hx_ix14 (w : World) : (Instr.index 9 (.string { data := #[48, 49, 50, 51, 52, 53, 54, 55, 56, 57, 97, 98, 99, 100, 101, 102] }) (.int .u8 ((14 : Nat) : Int))).run Tryd.prog w = .ok (.int .u8 (hx 14)) w := by kernel_rfl
theorem hx_ix15 (w : World) : (Instr.index 9 (.string { data := #[48, 49, 50, 51, 52, 53, 54, 55, 56, 57, 97, 98, 99, 100, 101, 102] }) (.int .u8 ((15 : Nat) : Int))).run Tryd.prog w = .ok (.int .u8 (hx 15)) w := by kernel_rfl
theorem hx_ix (n : Nat) (hn : n < 16) (w : World) : (Instr.index 9 (.string { data := #[48, 49, 50, 51, 52, 53, 54, 55, 56, 57, 97, 98, 99, 100, 101, 102] }) (.int .u8 (n : Int))).run Tryd.prog w = .ok (.int .u8 (hx n)) w := by
  match n, hn with
  | 0, _ => exact hx_ix0 w
  | 1, _ => exact hx_ix1 w
  | 2, _ => exact hx_ix2 w
  | 3, _ => exact hx_ix3 w
  | 4, _ => exact hx_ix4 w
  | 5, _ => exact hx_ix5 w
  | 6, _ => exact hx_ix6 w
  | 7, _ => exact hx_ix7 w
  | 8, _ => exact hx_ix8 w
  | 9, _ => exact hx_ix9 w
  | 10, _ => exact hx_ix10 w
  | 11, _ => exact hx_ix11 w
  | 12, _ => exact hx_ix12 w
  | 13, _ => exact hx_ix13 w
  | 14, _ => exact hx_ix14 w
  | 15, _ => exact hx_ix15 w
  | n + 16, h => exact absurd h (by omega)
theorem and15 (n : Nat) (hn : n < 256) : bits .and .u8 (n : Int) 15 = ((n % 16 : Nat) : Int) := by
  have all : ∀ k : Fin 256, bits .and .u8 ((k.val : Nat) : Int) 15 = ((k.val % 16 : Nat) : Int) := by decide +kernel
  exact all ⟨n, hn⟩

theorem make64 (W : World) : (Instr.makeSlice 24 (.int .i64 0) (.int .i64 64)).run Tryd.prog W = .ok (.slice (some ⟨W.heap.size, 0, none⟩) 0 64) (W.alloc (.cells (ZB 64).toArray 5)) := by
  obtain ⟨i0, hi, hz0, hz1, hz2⟩ := info_parts Tryd.info5
  have h := run_make (P := Tryd.prog) W 24 5 i0 (.int .u8 0) Tryd.underlying24 hi hz0 .i64 .i64 0 64 (by omega) (by omega) (by rw [hz2]; omega) (by omega)
  simp only [hz1, Nat.mul_one] at h
  refine h.trans ?_
  have e : madeCells #[.int .u8 0] 64 = (ZB 64).toArray := by kernel_rfl
  exact congrArg (fun c => Result.ok (Value.slice (some ⟨W.heap.size, 0, none⟩) 0 64) (W.alloc (.cells c 5))) e
/-- The digits of the first k bytes. -/
def txtL (a : List Int) : Nat → List Int
  | 0 => []
  | k + 1 => txtL a k ++ [hx ((a.getD k 0).toNat / 16), hx ((a.getD k 0).toNat % 16)]
theorem txtL_len (a : List Int) : ∀ k, (txtL a k).length = 2 * k
  | 0 => rfl
  | k + 1 => by rw [txtL, List.length_append, txtL_len a k]; show 2 * k + 2 = _; omega
def textF (a : List Int) : List Int := txtL a 32

structure TXW (w0 : World) (g : Nat) (a : List Int) (k : Nat) (w : World) : Prop where
  below : Below w0.heap.size w0 w
  blk : Blk w g 5 (BL (txtL a k ++ List.replicate (64 - 2 * k) 0)).toArray
  lo : w0.heap.size ≤ g
theorem TXW.step {w0 w w' : World} {g k : Nat} {a : List Int} (s : TXW w0 g a k w) (hk : k < 32) (hb : Below w.heap.size w w') (c d : Int) (hc : c = hx ((a.getD k 0).toNat / 16)) (hd : d = hx ((a.getD k 0).toNat % 16)) :
    TXW w0 g a (k + 1) (w'.setCells g (0 + 2 * k * 1) [.int .u8 c, .int .u8 d]) := by
  subst hc hd
  have o := setCells_only [.int .u8 (hx ((a.getD k 0).toNat / 16)), .int .u8 (hx ((a.getD k 0).toNat % 16))] w' g (0 + 2 * k * 1)
  refine ⟨(s.below.trans (hb.mono s.below.size)).trans (o.below s.lo), ?_, s.lo⟩
  have hb1 := s.blk.below hb s.blk.lt
  have h1 := (hb1.set_ (0 + 2 * k * 1) (.int .u8 (hx ((a.getD k 0).toNat / 16)))).set_ (0 + 2 * k * 1 + 1) (.int .u8 (hx ((a.getD k 0).toNat % 16)))
  rw [BL.set, BL.set] at h1
  have e : ((txtL a k ++ List.replicate (64 - 2 * k) (0 : Int)).set (0 + 2 * k * 1) (hx ((a.getD k 0).toNat / 16))).set (0 + 2 * k * 1 + 1) (hx ((a.getD k 0).toNat % 16)) = txtL a (k + 1) ++ List.replicate (64 - 2 * (k + 1)) 0 := by
    have l := txtL_len a k
    rw [show 64 - 2 * k = (64 - 2 * (k + 1)) + 1 + 1 by omega, List.replicate_succ, List.replicate_succ, show 0 + 2 * k * 1 = (txtL a k).length by omega, List.set_append_right _ _ (by omega), Nat.sub_self, List.set_cons_zero, List.set_append_right _ _ (by omega), show (txtL a k).length + 1 - (txtL a k).length = 1 by omega, txtL]
    simp
  rw [e] at h1
  exact h1

set_option maxRecDepth 100000 in
set_option maxHeartbeats 2000000 in
theorem text_any (a : List Int) (ha : a.length = 32) (bs : Bs a) (w : World) : Calls Tryd.prog 24 #[.agg (BL a).toArray] w fun e w' => e = .returned (.string (strOfNums (textF a))) ∧ Below w.heap.size w w' := by
  have iA : Hid ((Tryd.prog.info? 27).map (·.size) = some (BL a).length) := show _ = _ by rw [BL.len, ha]; exact Tryd.i27
  have mk := make64
  obtain ⟨i0, hi, hz0, hz1, hz2⟩ := info_parts Tryd.info5
  have HI := Lib.hid hi
  have HZ1 := Lib.hid hz1
  clear hi hz0 hz1 hz2
  have GA := Lib.hid ha
  have BA := Lib.hid bs
  have IX := Lib.hid (fun k (hk : k < 32) w => idx_one (P := Tryd.prog) 27 5 32 (BL a).toArray k (.int .u8 (a.getD k 0)) w .u8 Tryd.underlying27 hk (by rw [List.getElem?_toArray]; exact BL.get a k (by omega)) Tryd.s5 Tryd.underlying5)
  clear ha bs
  go_enter Tryd.func24, Tryd.ntmps24
  go_wp2_with ((with_reducible refine at_load (t := 27) ?_); refine wpList_load_mid rfl 27 _ rfl w.heap.size 0 rfl (BL a) _ (((Blk.new w 27 _).alloc _).rng) Tryd.underlying27 rfl iA.out ?_)
  have T0 : Hid (TXW w (w.heap.size + 1) a 0 ((w.alloc (.cells (BL a).toArray 27)).alloc (.cells (ZB 64).toArray 5))) :=
    ⟨((Below.refl _ w).alloc (Nat.le_refl _) _).alloc (by simp) _, by rw [show txtL a 0 ++ List.replicate (64 - 2 * 0) 0 = List.replicate 64 0 from rfl, ← ZB.bl]; exact Blk.new' _ 5 _ (by simp), by omega⟩
  clear mk
  generalize (w.alloc (.cells (BL a).toArray 27)).alloc (.cells (ZB 64).toArray 5) = W0 at *
  generalize w.heap.size + 1 = g at *
  go_loopw [8, 3] (fun i s wr => ∃ k : Nat, k ≤ 32 ∧ i = .int .i64 k ∧ s = .slice (some ⟨g, 0, none⟩) (2 * k) 64 ∧ TXW w g a k wr) (fun i _ _ => 32 - (intOf i).toNat)
  case atStart => exact ⟨0, Nat.zero_le _, rfl, rfl, T0.out⟩
  case round =>
    obtain ⟨k, hk, rfl, rfl, ht⟩ := hrel
    have T := Lib.hid ht
    clear T0 ht
    by_cases hlt : k < 32
    · have ix := fun w => IX.out k hlt w
      have hb := BA.out k
      have HZ : Hid (a.getD k 0 = (((a.getD k 0).toNat : Nat) : Int)) := show _ = _ by omega
      have hz2 : (a.getD k 0).toNat < 256 := by omega
      have NX := Lib.hid (fun (w2 : World) (hb2 : Below wr.heap.size wr w2) => by
        have := T.out.step hlt hb2 _ _ rfl rfl
        rwa [show 0 + 2 * k * 1 = 2 * k by omega] at this)
      have CS := Lib.hid (fun (w2 : World) (hb2 : Below wr.heap.size wr w2) => T.out.blk.below hb2 T.out.blk.lt)
      rw [HZ.out] at ix
      clear hb HZ
      generalize (a.getD k 0).toNat = z at *
      have A15 := and15 z hz2
      have d1 : (z : Int) / 16 = ((z / 16 : Nat) : Int) := by omega
      have X1 := fun w => hx_ix (z / 16) (by omega) w
      have X2 := fun w => hx_ix (z % 16) (by omega) w
      have p16 : z / 16 < 16 := by omega
      have q16 : z % 16 < 16 := by omega
      generalize z / 16 = p at *
      generalize z % 16 = q at *
      go_wp2_with fail
      have NB : Hid (Below wr.heap.size wr (wr.drew.alloc (.cells #[.int .u8 (hx p), .int .u8 (hx q)] 5))) := (Below.refl _ wr).drew.alloc (Nat.le_refl _) _
      have NC : Hid (∀ j u, [Value.int .u8 (hx p), .int .u8 (hx q)][j]? = some u → (wr.drew.alloc (.cells #[.int .u8 (hx p), .int .u8 (hx q)] 5)).cell? ((⟨wr.heap.size, 0, none⟩ : Addr).add j) = some u) := fun j u hj => by
        rw [add_at, Nat.zero_add]
        refine ((Blk.new' wr.drew 5 #[.int .u8 (hx p), .int .u8 (hx q)] (n := wr.heap.size) rfl).cell j).trans ?_
        rw [← hj]
        exact List.getElem?_toArray
      have NS : Hid (∀ j, j < [Value.int .u8 (hx p), .int .u8 (hx q)].length → ((wr.drew.alloc (.cells #[.int .u8 (hx p), .int .u8 (hx q)] 5)).cell? ⟨g, 0 + 2 * k * 1 + j, none⟩).isSome = true ∧ (wr.drew.alloc (.cells #[.int .u8 (hx p), .int .u8 (hx q)] 5)).frozen? ⟨g, 0 + 2 * k * 1 + j, none⟩ = false) := fun j hj => by
        have hj2 : j < 2 := hj
        have cs := CS.out _ NB.out
        refine ⟨?_, cs.frozen _⟩
        rw [cs.cell, List.getElem?_toArray, BL.get _ _ (by rw [List.length_append, txtL_len, List.length_replicate]; omega)]
        rfl
      have N1 : Hid (∀ u ∈ [Value.int .u8 (hx p), .int .u8 (hx q)], u.oneCell' = true) := fun u hu => by
        rcases List.mem_cons.1 hu with rfl | hu
        · rfl
        · obtain rfl := List.mem_singleton.1 hu
          rfl
      have kk : 2 * k + 2 ≤ 64 := by omega
      go_region_law (refine step_append_room rfl (.tmp 11) (.tmp 18) 24 rfl 5 i0 1 Tryd.underlying24 HI.out HZ1.out g 0 (2 * k) 64 rfl ⟨wr.heap.size, 0, none⟩ 2 2 [.int .u8 (hx p), .int .u8 (hx q)] rfl rfl NC.out N1.out kk NS.out ?_)
      all_goals
        (have T2 := Lib.hid (NX.out (wr.alloc (.cells #[.int .u8 (hx p), .int .u8 (hx q)] 5)).drew (((Below.refl _ wr).alloc (Nat.le_refl _) _).drew))
         clear NB NC NS N1 CS NX T X1 X2 A15 d1 ix
         go_wp2_with fail
         exact ⟨⟨k + 1, by omega, by go_num, by rw [show 2 * (k + 1) = 2 * k + 2 by omega], T2.out⟩, by simp [intOf]; omega⟩)
    · obtain rfl : k = 32 := by omega
      have hm := T.out.blk
      rw [show List.replicate (64 - 2 * 32) (0 : Int) = [] from rfl, List.append_nil] at hm
      have HC := Lib.hid (run_convert_bytes_arg (P := Tryd.prog) wr 24 5 Tryd.underlying24 Tryd.underlying5 g 0 64 64 (txtL a 32) (txtL_len a 32) (fun i hi => by rw [Nat.zero_add, hm.cell, List.getElem?_toArray]; exact BL.get _ i (by rw [txtL_len]; omega)) 9 Tryd.underlying9)
      have hcv := HC.out
      clear hm
      go_wp2_with fail
      go_ret
      exact ⟨rfl, T.out.below⟩

end Go.Proofs.YtbemnolgolecaaaDoor
