/-
  Does the layer do anything? The laws' wakes.
-/
import Derived.Test.YtemfnckaehjhcaaDoorFE
namespace Go.Proofs.YtemfnckaehjhcaaDoor
open Go.RowKit

def m0 : Ms := ⟨2, 1, 2, 300, 0, 0, [], 0, true, [], []⟩
theorem m0_right : rightM m0 = true := by decide
theorem sh300 : shI 300 = [130, 44] := by
  show shB 300 = _
  rw [shB_ge (by decide), show kS (300 / 128) = 0 from kS_lt (by decide)]
  rfl
theorem m0_plain : plainB m0 = [2, 18, 130, 44, 1] := by
  have : plainB m0 = ([2, 18] ++ shI 300) ++ ([] ++ [1] ++ [] ++ [] ++ [] ++ [] ++ []) := rfl
  rw [this, sh300]
  rfl
theorem sh63 : (shB (2 ^ 63)).length = 10 := by
  rw [shB_len, ← kS_bits (2 ^ 63) (by decide)]
  decide +kernel
theorem lo300 : loB [130, 44, 7] = some (300, 2) := by decide
theorem m0_len : (encB m0).length = 21 := by
  unfold encB
  rw [List.length_append, sealF_len, m0_plain]
  rfl
theorem m0_at (k : Nat) : (encB m0).getD (16 + k) 0 = [2, 18, 130, 44, 1].getD k 0 := by
  unfold encB
  rw [m0_plain]
  simp only [List.getD]
  rw [List.getElem?_append_right (by rw [sealF_len]; omega), sealF_len, show 16 + k - 16 = k by omega]

set_option maxRecDepth 100000 in
set_option maxHeartbeats 4000000 in
theorem wakes_any (w : World) (hG : Bk.Gl w) : Calls Tryd.prog 8 #[] w fun e w' => e = .returned (.bool true) ∧ Below w.heap.size w w' := by
  have EN := encode_any m0 none 0 0 none 0 0 none 0 0 0 w ⟨Es.none_, Nat.le_refl _, fun _ => rfl, by omega, Is.none_, Nat.le_refl _, fun _ => rfl, by omega, By.none_, Nat.le_refl _, fun _ => rfl, by omega, by decide, by decide, by decide, by decide, by decide, by decide, by decide, by decide⟩ (Nat.zero_le _) hG
  unfold Enc at EN
  rw [show chkM m0 = 0 from rfl, if_pos m0_right] at EN
  have ENC := Lib.hid EN
  have ML := Lib.hid m0_len
  have M1 := Lib.hid (m0_at 1)
  have M4 := Lib.hid (m0_at 4)
  clear EN hG
  simp only [m0] at ENC
  generalize hE : encB ⟨2, 1, 2, 300, 0, 0, [], 0, true, [], []⟩ = EB at *
  have HE : Hid (encB m0 = EB) := Lib.hid hE
  clear hE
  rw [HE.out] at ML M1 M4
  go_enter Tryd.func8, Tryd.ntmps8
  go_upto_region 2 with (go_at_call 10; refine ENC.out.mono ?_; rintro e w1 ⟨A, n, c, rfl, ho, hb⟩; have O1 := Lib.hid ho; have B1 := Lib.hid hb; clear ENC ho hb)
  have hn : n = 21 := by rw [← O1.out.len, ML.out]
  subst hn
  obtain ⟨g, hA⟩ : ∃ g, A = some ⟨g, 0, none⟩ := by
    rcases O1.out.form with ⟨_, h, _⟩ | ⟨g, h, _⟩
    · omega
    · exact ⟨g, h⟩
  have HA := Lib.hid hA
  subst hA
  have b17 := O1.out.at_ rfl 17 (by omega)
  have b20 := O1.out.at_ rfl 20 (by omega)
  rw [M1.out] at b17
  rw [M4.out] at b20
  simp only [List.getD_cons_succ, List.getD_cons_zero] at b17 b20
  have hgl : g < w1.heap.size := by
    rcases O1.out.form with ⟨h, _⟩ | ⟨g', h, _, h', _⟩
    · cases h
    · injection h with h; injection h with h; omega
  have L3 : Hid (By (w1.alloc (.cells #[.int .u8 130, .int .u8 44, .int .u8 7] 5)) (w1.heap.size + 1) (some ⟨w1.heap.size, 0, none⟩) 3 [130, 44, 7]) := Lib.hid ⟨rfl, bs_of_mem (by decide), fun _ => ⟨w1.heap.size, 0, rfl, by omega, fun j hj => by
    rw [(Blk.new w1 5 #[.int .u8 130, .int .u8 44, .int .u8 7]).cell]
    rcases (show j = 0 ∨ j = 1 ∨ j = 2 by omega) with rfl | rfl | rfl <;> rfl⟩⟩
  have LO := Lib.hid (long_any (some ⟨w1.heap.size, 0, none⟩) 3 3 _ [130, 44, 7] _ L3.out (by omega))
  rw [lo300, show loR (some (300, 2)) = .tuple #[.int .u64 300, .int .i64 2, .bool true] from rfl] at LO
  have b17' : (w1.alloc (.cells #[.int .u8 130, .int .u8 44, .int .u8 7] 5)).cell? ⟨g, 17, none⟩ = some (.int .u8 18) := (World.cell?_alloc_lt _ _ _ hgl).trans b17
  have b20' : (w1.alloc (.cells #[.int .u8 130, .int .u8 44, .int .u8 7] 5)).cell? ⟨g, 20, none⟩ = some (.int .u8 1) := (World.cell?_alloc_lt _ _ _ hgl).trans b20
  have B2 : Hid (Below w.heap.size w (w1.alloc (.cells #[.int .u8 130, .int .u8 44, .int .u8 7] 5))) := Lib.hid (B1.out.alloc B1.out.size _)
  go_upto_region 3 with (go_at_call 19; refine LO.out.mono ?_; rintro e w2 ⟨rfl, rfl⟩)
  generalize w1.alloc (.cells #[.int .u8 130, .int .u8 44, .int .u8 7] 5) = w2 at *
  clear b17 b20 L3 LO O1 B1
  have SH := Lib.hid (short_any (2 ^ 63) w2 (by decide))
  rw [show (((2 ^ 63 : Nat) : Nat) : Int) = 9223372036854775808 by decide] at SH
  generalize hS : shB (2 ^ 63) = S63 at *
  have h10 : S63.length = 10 := by rw [← hS]; exact sh63
  clear hS
  go_wp2_with (go_at_call 17; refine SH.out.mono ?_; rintro e w3 ⟨A3, c3, rfl, o3, f3⟩; have F3 := Lib.hid f3; clear o3 f3)
  go_ret
  exact ⟨rfl, B2.out.trans (F3.out.below.mono B2.out.size)⟩

end Go.Proofs.YtemfnckaehjhcaaDoor
