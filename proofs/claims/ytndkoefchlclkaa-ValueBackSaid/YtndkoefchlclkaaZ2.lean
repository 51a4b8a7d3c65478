/-
  The document's Decode, whole.
-/
import Derived.Test.YtndkoefchlclkaaZ1
namespace Go.Proofs.Ytndkoefchlclkaa
open Go.RowKit
attribute [local go_sem ↓] eqV neV eqG

set_option maxRecDepth 100000 in
set_option maxHeartbeats 2000000 in
theorem rdec_text (b o N c : Nat) (r : List Int) (w : World) (h : By w w.heap.size (some ⟨b, o, none⟩) N (4 :: r)) (hnc : N ≤ c) (hN : N ≤ 100000) : Calls Try.prog 32 #[.slice (some ⟨b, o, none⟩) N c] w (DR w (txF (dtx [] 1 r))) := by
  have i3 := Lib.hid i23
  have hl := h.1
  simp only [List.length_cons] at hl
  have hN0 : 0 < N := by omega
  have hbnd := h.2.1
  have HNC := Lib.hid hnc
  have h0 : Hid ((((w.alloc (.cells #[.int .i64 0, .int .i64 0, .string { data := #[] }] 23)).alloc (.cells #[.int .i64 0, .int .i64 0, .string { data := #[] }] 23))).cell? ⟨b, o, none⟩ = some (.int .u8 (4))) := ((h.alloc (Nat.le_refl _) _).alloc (by simp) _).cell 0 hN0
  have T0 : DV w (some ⟨b, o, none⟩) N (4 :: r) (4) 0 { data := #[] } (((w.alloc (.cells #[.int .i64 0, .int .i64 0, .string { data := #[] }] 23)).alloc (.cells #[.int .i64 0, .int .i64 0, .string { data := #[] }] 23)).alloc (.cells #[.int .i64 (4), .int .i64 0, .string { data := #[] }] 23)) :=
    ⟨((Blk.new _ _ _).alloc _).alloc _, (Blk.fresh (by simp)).alloc _, Blk.fresh (by simp), (((Below.refl _ w).alloc (Nat.le_refl _) _).alloc (by simp) _).alloc (by simp; omega) _, ((h.alloc (Nat.le_refl _) _).alloc (by simp) _).alloc (by simp; omega) _⟩
  have HL := Lib.hid hl
  have HBN := Lib.hid hbnd
  clear h hl hbnd
  go_enter Try.func32, Try.ntmps32
  go_upto_region 2 with (fail)
  have h0' := h0.out
  clear h0
  go_upto_region 5 with (fail)
  clear h0'
  generalize (((w.alloc (.cells #[.int .i64 0, .int .i64 0, .string { data := #[] }] 23)).alloc (.cells #[.int .i64 0, .int .i64 0, .string { data := #[] }] 23)).alloc (.cells #[.int .i64 (4), .int .i64 0, .string { data := #[] }] 23)) = W0 at *
  obtain ⟨v0, v1, v2, f1, f2⟩ := T0.vals
  go_wp2
  clear v0 v1 v2 f1 f2
  go_loopw [7, 8] (fun v i wr => ∃ k acc A' c', i = .int .i64 (k : Nat) ∧ v = .slice A' acc.length c' ∧ k ≤ N ∧ Own wr (w.heap.size + 1 + 1 + 1) A' acc.length c' acc ∧ acc.length ≤ 64 ∧ DV w (some ⟨b, o, none⟩) N (4 :: r) 4 0 { data := #[] } wr ∧ dtx acc k ((4 :: r).drop k) = dtx [] 1 r) (fun _ i _ => N - (intOf i).toNat)
  case atStart => exact ⟨1, [], none, 0, rfl, rfl, by omega, nothing _ _, by simp, T0, rfl⟩
  case round =>
    clear T0
    obtain ⟨k, acc, A', c', rfl, rfl, hk, ho, hl, VR, hd⟩ := hrel
    have SL : Hid ((4 :: r).length = N) := show (4 :: r).length = N by rw [List.length_cons]; exact HL.out
    have HO := Lib.hid ho
    have HL := Lib.hid hl
    have HK := Lib.hid hk
    have k0 : (0 : Int) ≤ (k : Int) := Int.natCast_nonneg k
    clear ho
    by_cases hkn : k < N
    · have kn : (k : Int) < (N : Int) := by omega
      have hdr := drop_at (4 :: r) k (by rw [SL.out]; exact hkn)
      rw [hdr] at hd
      have hzb := HBN.out k
      have HC : Hid (∀ W, DV w (some ⟨b, o, none⟩) N (4 :: r) 4 0 { data := #[] } W → W.cell? ⟨b, o + k, none⟩ = some (.int .u8 ((4 :: r).getD k 0))) := fun W h => h.bytes.cell k hkn
      have x0 := HC.out wr VR
      generalize (4 :: r).getD k 0 = z at *
      have HZ := Lib.hid hzb
      clear hdr hzb
      by_cases hz : z = 0
      · subst hz
        by_cases hk1 : k + 1 < N
        · have kn1 : ¬ (N : Int) ≤ (k : Int) + 1 := by omega
          have kn2 : (k : Int) + 1 < (N : Int) := by omega
          have hdr := drop_at (4 :: r) (k + 1) (by rw [SL.out]; exact hk1)
          rw [hdr] at hd
          have hzb := HBN.out (k + 1)
          have x1 : wr.cell? ⟨b, o + (k + 1), none⟩ = some (.int .u8 ((4 :: r).getD (k + 1) 0)) := VR.bytes.cell (k + 1) hk1
          generalize (4 :: r).getD (k + 1) 0 = y at *
          have HZ2 := Lib.hid hzb
          clear hdr hzb
          by_cases hb0 : y = 0
          · subst hb0
            rw [dtx_end] at hd
            have HE := Lib.hid hd
            have hcv := conv_own HO.out
            clear hd hl
            obtain ⟨v0, v1, v2, f1, f2⟩ := VR.vals
            go_upto_region 29 with (fail)
            have T1 := VR.set2 (strOfNums acc)
            clear v0 v1 v2 f1 f2 x0 x1 hcv
            generalize wr.setCell ⟨w.heap.size + 1 + 1, 2, none⟩ (.string (strOfNums acc)) = W1 at *
            obtain ⟨g0, g1, g2, q0, q1, q2⟩ := T1.outs
            obtain ⟨v0, v1, v2, f1, f2⟩ := T1.vals
            go_wp2
            exact bodyPost_ret (ret_cell_two (p := 2) (u := 3) (v := 4) (ty := 23) rfl _ _ w.heap.size 23 #[.int .i64 4, .int .i64 0, .string (strOfNums acc)] _ rfl (((T1.out.set_ 0 (.int .i64 4)).set_ 1 (.int .i64 0)).set_ 2 (.string (strOfNums acc))) Try.underlying23 rfl i3.out) rfl ⟨by rw [← HE.out]; rfl, (((T1.bel.setCell (Nat.le_refl _) _).setCell (Nat.le_refl _) _).setCell (Nat.le_refl _) _)⟩
          · have hb00 : (y == 0) = false := by simp [hb0]
            by_cases hb5 : y = 255
            · subst hb5
              by_cases h64 : acc.length = 64
              · rw [dtx_full0 _ _ _ h64] at hd
                have HE := Lib.hid hd
                have hl64 : ((acc.length : Int) == 64) = true := by rw [h64]; rfl
                clear hd hl h64 hb0 hb00
                obtain ⟨g0, g1, g2, q0, q1, q2⟩ := VR.outs
                obtain ⟨m0, m1, m2⟩ := VR.nons
                go_wp2
                exact bodyPost_ret (ret_cell_two (p := 2) (u := 3) (v := 4) (ty := 23) rfl _ _ w.heap.size 23 #[.int .i64 0, .int .i64 0, .string E0] _ rfl (((VR.out.set_ 0 (.int .i64 0)).set_ 1 (.int .i64 0)).set_ 2 (.string E0)) Try.underlying23 rfl i3.out) rfl ⟨by rw [← HE.out]; rfl, (((VR.bel.setCell (Nat.le_refl _) _).setCell (Nat.le_refl _) _).setCell (Nat.le_refl _) _)⟩
              · rw [dtx_next0 _ _ _ h64] at hd
                have HE := Lib.hid hd
                have hl64 : ((acc.length : Int) == 64) = false := by simp; omega
                have HL' : Hid (acc.length < 64) := show _ < _ by omega
                clear hd h64 hb0 hb00
                go_wp2_with (at_builtin; refine append_by rfl (.tmp 94) (.tmp 99) rfl (w.heap.size + 1 + 1 + 1) A' acc.length c' acc rfl (HO.out.new1 _) (wr.heap.size + 1) (some ⟨wr.heap.size, 0, none⟩) 1 1 [0] rfl (By.one (by omega)) (fun h => by cases h) (by have := HL.out; omega) (by have := VR.size; simp; omega) ?_; intro A3 c3 w3 ho3 hg3; have V3 := VR.grow hg3 (fun k hk => (HO.out.1.lt k hk).1); have HO3 := Lib.hid ho3; clear hg3 ho3; have y0 : w3.cell? ⟨b, o + k, none⟩ = some (.int .u8 0) := HC.out w3 V3)
                go_roundw
                case rel => exact ⟨k + 1 + 1, acc ++ [0], A3, c3, by go_num, by simp, by have := HK.out; omega, by rw [List.length_append]; exact HO3.out, by rw [List.length_append]; show acc.length + 1 ≤ 64; have := HL'.out; omega, V3, HE.out⟩
                case measure => simp [intOf]; try omega
            · rw [dtx_bad _ _ _ _ hb0 hb5] at hd
              have HE := Lib.hid hd
              have hb55 : (y != 255) = true := by simp [hb5]
              clear hd hl hb0 hb5
              obtain ⟨g0, g1, g2, q0, q1, q2⟩ := VR.outs
              obtain ⟨m0, m1, m2⟩ := VR.nons
              go_wp2
              exact bodyPost_ret (ret_cell_two (p := 2) (u := 3) (v := 4) (ty := 23) rfl _ _ w.heap.size 23 #[.int .i64 0, .int .i64 0, .string E0] _ rfl (((VR.out.set_ 0 (.int .i64 0)).set_ 1 (.int .i64 0)).set_ 2 (.string E0)) Try.underlying23 rfl i3.out) rfl ⟨by rw [← HE.out]; rfl, (((VR.bel.setCell (Nat.le_refl _) _).setCell (Nat.le_refl _) _).setCell (Nat.le_refl _) _)⟩
        · have kn1 : (N : Int) ≤ (k : Int) + 1 := by omega
          rw [List.drop_eq_nil_of_le (by rw [SL.out]; omega), dtx_short] at hd
          have HE := Lib.hid hd
          clear hd hl hk1
          obtain ⟨g0, g1, g2, q0, q1, q2⟩ := VR.outs
          obtain ⟨m0, m1, m2⟩ := VR.nons
          go_wp2
          exact bodyPost_ret (ret_cell_two (p := 2) (u := 3) (v := 4) (ty := 23) rfl _ _ w.heap.size 23 #[.int .i64 0, .int .i64 0, .string E0] _ rfl (((VR.out.set_ 0 (.int .i64 0)).set_ 1 (.int .i64 0)).set_ 2 (.string E0)) Try.underlying23 rfl i3.out) rfl ⟨by rw [← HE.out]; rfl, (((VR.bel.setCell (Nat.le_refl _) _).setCell (Nat.le_refl _) _).setCell (Nat.le_refl _) _)⟩
      · have hz00 : (z == 0) = false := by simp [hz]
        by_cases h64 : acc.length = 64
        · rw [dtx_full _ _ _ _ hz h64] at hd
          have HE := Lib.hid hd
          have hl64 : ((acc.length : Int) == 64) = true := by rw [h64]; rfl
          clear hd hl h64 hz
          obtain ⟨g0, g1, g2, q0, q1, q2⟩ := VR.outs
          obtain ⟨m0, m1, m2⟩ := VR.nons
          go_wp2
          exact bodyPost_ret (ret_cell_two (p := 2) (u := 3) (v := 4) (ty := 23) rfl _ _ w.heap.size 23 #[.int .i64 0, .int .i64 0, .string E0] _ rfl (((VR.out.set_ 0 (.int .i64 0)).set_ 1 (.int .i64 0)).set_ 2 (.string E0)) Try.underlying23 rfl i3.out) rfl ⟨by rw [← HE.out]; rfl, (((VR.bel.setCell (Nat.le_refl _) _).setCell (Nat.le_refl _) _).setCell (Nat.le_refl _) _)⟩
        · rw [dtx_next _ _ _ _ hz h64] at hd
          have HE := Lib.hid hd
          have hl64 : ((acc.length : Int) == 64) = false := by simp; omega
          have HL' : Hid (acc.length < 64) := show _ < _ by omega
          clear hd h64 hz
          go_wp2_with (at_builtin; refine append_by rfl (.tmp 94) (.tmp 99) rfl (w.heap.size + 1 + 1 + 1) A' acc.length c' acc rfl (HO.out.new1 _) (wr.heap.size + 1) (some ⟨wr.heap.size, 0, none⟩) 1 1 [z] rfl (By.one HZ.out) (fun h => by cases h) (by have := HL.out; omega) (by have := VR.size; simp; omega) ?_; intro A3 c3 w3 ho3 hg3; have V3 := VR.grow hg3 (fun k hk => (HO.out.1.lt k hk).1); have HO3 := Lib.hid ho3; clear hg3 ho3; have y0 : w3.cell? ⟨b, o + k, none⟩ = some (.int .u8 z) := HC.out w3 V3)
          go_roundw
          case rel => exact ⟨k + 1, acc ++ [z], A3, c3, by go_num, by simp, by have := HK.out; omega, by rw [List.length_append]; exact HO3.out, by rw [List.length_append]; show acc.length + 1 ≤ 64; have := HL'.out; omega, V3, HE.out⟩
          case measure => simp [intOf]; try omega
    · have kn : ¬ (k : Int) < (N : Int) := by omega
      rw [List.drop_eq_nil_of_le (by rw [SL.out]; omega), dtx_nil] at hd
      have HE := Lib.hid hd
      clear hd hl hkn
      obtain ⟨g0, g1, g2, q0, q1, q2⟩ := VR.outs
      obtain ⟨m0, m1, m2⟩ := VR.nons
      go_wp2
      exact bodyPost_ret (ret_cell_two (p := 2) (u := 3) (v := 4) (ty := 23) rfl _ _ w.heap.size 23 #[.int .i64 0, .int .i64 0, .string E0] _ rfl (((VR.out.set_ 0 (.int .i64 0)).set_ 1 (.int .i64 0)).set_ 2 (.string E0)) Try.underlying23 rfl i3.out) rfl ⟨by rw [← HE.out]; rfl, (((VR.bel.setCell (Nat.le_refl _) _).setCell (Nat.le_refl _) _).setCell (Nat.le_refl _) _)⟩

theorem refdecode_any (A : Option Addr) (n c : Nat) (zs : List Int) (w : World) (h : By w w.heap.size A n zs) (hnc : n ≤ c) (hn : n ≤ 100000) : Calls Try.prog 32 #[.slice A n c] w (DR w (decF zs)) := by
  have hb := h.2.1
  have hl := h.1
  rcases zs with _ | ⟨z, r⟩
  · obtain rfl : n = 0 := hl.symm
    exact rdec_none A c w
  · obtain ⟨b, o, rfl, _⟩ := h.addr (by rw [← hl]; simp)
    show Calls _ _ _ _ (DR w (if z = 1 then _ else _))
    by_cases z1 : z = 1
    · subst z1; rw [if_pos rfl]; exact rdec_null b o n c r w h hnc hn
    · rw [if_neg z1]
      by_cases z2 : z = 2
      · subst z2; rw [if_pos rfl]
        rcases r with _ | ⟨y, r⟩
        · rw [if_pos (by decide)]; exact rdec_bool0 b o n c w h hnc hn
        · rw [if_neg (by simp)]
          show Calls _ _ _ _ (DR w (if y ≤ 1 then (2, y, E0, 2, 0) else _))
          have h0 : 0 ≤ y ∧ y ≤ 255 := hb 1
          by_cases hb1 : y ≤ 1
          · rw [if_pos hb1]
            rcases (show y = 0 ∨ y = 1 by omega) with rfl | rfl
            · exact rdec_bool_0 b o n c r w h hnc hn
            · exact rdec_bool_1 b o n c r w h hnc hn
          · rw [if_neg hb1]; exact rdec_bool_no b o n c y (by omega) r w h hnc hn
      · rw [if_neg z2]
        by_cases z3 : z = 3
        · subst z3; rw [if_pos rfl]
          by_cases hr : r.length < 8
          · rw [if_pos hr]; exact rdec_int_no b o n c r hr w h hnc hn
          · rw [if_neg hr]; exact rdec_int b o n c r (by omega) w h hnc hn
        · rw [if_neg z3]
          by_cases z4 : z = 4
          · subst z4; rw [if_pos rfl]; exact rdec_text b o n c r w h hnc hn
          · rw [if_neg z4]; exact rdec_else b o n c z (by simp [z1]) (by simp [z2]) (by simp [z3]) (by simp [z4]) r w h hnc hn

end Go.Proofs.Ytndkoefchlclkaa
