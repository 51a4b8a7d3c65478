/-
  The law FrameBack's walk: messages and their bytes lead back to one another.
-/
import Derived.Test.YtemfnckaehjhcaaDoorFR8
namespace Go.Proofs.YtemfnckaehjhcaaDoor
open Go.RowKit
attribute [local go_sem ↓] eqA neA eqGA field1

theorem encB_take (m : Ms) : (encB m).take 16 = sealF (plainB m) := by
  unfold encB
  rw [List.take_append_of_le_length (by rw [sealF_len]; exact Nat.le_refl _), List.take_of_length_le (by rw [sealF_len]; exact Nat.le_refl _)]
theorem dec_enc {m : Ms} (h : rightM m = true) (hi : m.In) : decE (encB m) = 0 ∧ decMs (encB m) = m := by
  have h1 := rdAll_there h hi
  have h2 : rdOkB (plainB m) = true := by unfold rdOkB; rw [h1]; rfl
  have h0 : decE (encB m) = 0 := by
    unfold decE
    rw [if_neg (by rw [encB_len]; omega), encB_take, encB_drop, h1, if_pos ⟨rfl, h2, h⟩]
  refine ⟨h0, ?_⟩
  unfold decMs
  rw [if_pos h0, encB_drop, h1]
theorem dec_bad (zs : List Int) (h : decE zs ≠ 0) : decMs zs = ms0 := by unfold decMs; rw [if_neg h]
theorem dec_turned {m : Ms} {k : Nat} {v : Int} (hk : k < 16) (hv : v ≠ (encB m).getD k 0) : decE ((encB m).set k v) = 171 := by
  unfold decE
  rw [if_neg (by rw [List.length_set, encB_len]; omega)]
  rw [if_neg]
  rintro ⟨h1, _⟩
  rw [show ((encB m).set k v).drop 16 = (encB m).drop 16 from List.drop_set_of_lt hk, encB_drop, List.take_set, encB_take] at h1
  have hl : k < (sealF (plainB m)).length := by rw [sealF_len]; exact hk
  have e1 := congrArg (fun l : List Int => l.getD k 0) h1
  have e2 : (encB m).getD k 0 = (sealF (plainB m)).getD k 0 := by
    unfold encB
    rw [List.getD_eq_getElem?_getD, List.getElem?_append_left hl, ← List.getD_eq_getElem?_getD]
  simp only [List.getD_eq_getElem?_getD, List.getElem?_set_self hl, Option.getD_some] at e1
  rw [e2, List.getD_eq_getElem?_getD] at hv
  exact hv e1
theorem right_cnt {m : Ms} (h : rightM m = true) : cntg m.kind ≠ 0 := by
  have hr := rightM_R h
  rcases hr.k with e | e | e | e | e <;> rw [e] <;> decide
theorem enc_dec {zs : List Int} (hz : BsL (zs.drop 16)) (h : decE zs = 0) : rightM (decMs zs) = true ∧ encB (decMs zs) = zs := by
  have hm : decMs zs = (rdAll (zs.drop 16)).m := by unfold decMs; rw [if_pos h]
  unfold decE at h
  by_cases h16 : zs.length < 16
  · rw [if_pos h16] at h; cases h
  · rw [if_neg h16] at h
    by_cases hc : zs.take 16 = sealF (zs.drop 16) ∧ rdOkB (zs.drop 16) = true ∧ rightM (rdAll (zs.drop 16)).m = true
    · obtain ⟨h1, h2, h3⟩ := hc
      rw [hm]
      refine ⟨h3, ?_⟩
      unfold encB
      rw [rdAll_back hz h2 (right_cnt h3), ← h1, List.take_append_drop]
    · rw [if_neg hc] at h; cases h
theorem ms0_mb : Mb ms0 := ⟨by simp [ms0], by simp [ms0], by simp [ms0], by simp [ms0], by simp [ms0], by simp [ms0], by simp [ms0], by simp [ms0], by simp [ms0], by simp [ms0], by simp [ms0]⟩
theorem dec_mb {zs : List Int} (hz : BsL (zs.drop 16)) : Mb (decMs zs) := by
  unfold decMs
  split
  · exact rdAll_mb hz
  · exact ms0_mb
theorem Own.put {w : World} {base g n c k : Nat} {zs : List Int} (h : Own w base (some ⟨g, 0, none⟩) n c zs) (v : Int) (hv : 0 ≤ v ∧ v ≤ 255) : Own (w.setCell ⟨g, k, none⟩ (.int .u8 v)) base (some ⟨g, 0, none⟩) n c (zs.set k v) := by
  refine ⟨⟨by have := h.1.1; simpa using this, ?_⟩, fun j => ?_⟩
  · rcases h.1.2 with ⟨hv, _⟩ | ⟨g', cap, cur, hv, hbs, hh, hnc, hcm, hcs, ht⟩
    · cases hv
    · injection hv with h1 h2 h3
      injection h1 with h1
      injection h1 with h1
      subst h1 h3
      refine .inr ⟨g, _, cur.setIfInBounds k (.int .u8 v), rfl, hbs, Blk.set_ (w := w) (g := g) (t := 5) (cs := cur) hh k _, hnc, hcm, by simpa using hcs, ?_⟩
      rw [Array.toList_setIfInBounds, List.take_set, ht, List.map_set]
  · by_cases hj : j = k
    · subst hj
      by_cases hl : j < zs.length
      · have : (zs.set j v).getD j 0 = v := by simp [List.getD, hl]
        rw [this]
        exact hv
      · have : (zs.set j v).getD j 0 = 0 := by simp [List.getD, List.getElem?_eq_none (show (zs.set j v).length ≤ j by rw [List.length_set]; omega)]
        rw [this]
        omega
    · have : (zs.set k v).getD j 0 = zs.getD j 0 := by simp [List.getD, show ¬ k = j from fun e => hj e.symm]
      rw [this]
      exact h.2 j
theorem turn_ne : ∀ a : Fin 256, ∀ j : Fin 8, 0 ≤ bits .xor .u8 (a.val : Int) ((2 ^ j.val : Nat) : Int) ∧ bits .xor .u8 (a.val : Int) ((2 ^ j.val : Nat) : Int) ≤ 255 ∧ bits .xor .u8 (a.val : Int) ((2 ^ j.val : Nat) : Int) ≠ (a.val : Int) := by decide +kernel
theorem turn_of {z : Int} (h0 : 0 ≤ z) (h1 : z ≤ 255) (j : Nat) (hj : j < 8) : 0 ≤ bits .xor .u8 z ((2 ^ j : Nat) : Int) ∧ bits .xor .u8 z ((2 ^ j : Nat) : Int) ≤ 255 ∧ bits .xor .u8 z ((2 ^ j : Nat) : Int) ≠ z := by
  have := turn_ne ⟨z.toNat, by omega⟩ ⟨j, hj⟩
  simpa [show ((z.toNat : Nat) : Int) = z by omega] using this

set_option maxRecDepth 100000 in
set_option maxHeartbeats 16000000 in
theorem back_walk (kind fr to t pi pt co : Int) (ok : Bool) (xA : Option Addr) (xn xc : Nat) (xA1 : Option Addr) (xn1 xc1 : Nat) (xA2 : Option Addr) (xn2 xc2 : Nat) (A1 : Option Addr) (n1 c1 x : Nat) (xs : List Ec) (xmem xda zs : List Int) (w : World)
    (hx : Min w w.heap.size kind fr to t pi pt co ok xA xn xc xA1 xn1 xc1 xA2 xn2 xc2 xs xmem xda) (xb : 0 ≤ t ∧ t < 18446744073709551616 ∧ 0 ≤ pi ∧ pi < 18446744073709551616 ∧ 0 ≤ pt ∧ pt < 18446744073709551616 ∧ 0 ≤ co ∧ co < 18446744073709551616)
    (hb1 : By w w.heap.size A1 n1 zs) (hnc1 : n1 ≤ c1) (hnil1 : A1 = none → c1 = 0) (hcm1 : c1 ≤ 9223372036854775807) (hx64 : x < 18446744073709551616) (hG : Bk.Gl w) :
    Calls Tryd.prog 5 #[.agg #[.int .i64 kind, .int .i64 fr, .int .i64 to, .int .u64 t, .int .u64 pi, .int .u64 pt, .slice xA xn xc, .int .u64 co, .bool ok, .slice xA1 xn1 xc1, .slice xA2 xn2 xc2], .slice A1 n1 c1, .int .u64 (x : Int)] w fun e w' => e = .returned (.bool true) ∧ Below w.heap.size w w' := by
  have WK := Lib.hid (fun W (hW : Below w.heap.size w W) => wakes_any W (hG.on hW))
  have GLH := Lib.hid hG
  have HX := Lib.hid (fun W (hW : Below w.heap.size w W) => few_any kind fr to t pi pt co ok xA xn xc xA1 xn1 xc1 xA2 xn2 xc2 xs xmem xda w.heap.size W (hx.below hW) hW.size)
  have MB := Lib.hid (few_mb kind fr to t pi pt co ok (xs.map Ec.en) xmem xda xb)
  generalize fewM ⟨kind, fr, to, t, pi, pt, xs.map Ec.en, co, ok, xmem, xda⟩ = mx at *
  obtain ⟨m, hm⟩ : ∃ m : Nat, (min (n1 : Int) 4000).toNat = m := ⟨_, rfl⟩
  have m1 : m ≤ n1 := by omega
  have m2 : m ≤ 4000 := by omega
  have hmi : min (n1 : Int) 4000 = (m : Int) := by omega
  have mc : (m : Int) ≤ (c1 : Int) := by omega
  have mcn : m ≤ c1 := by omega
  have m0 : (0 : Int) ≤ (m : Int) := by omega
  have c63 : (c1 : Int) ≤ 9223372036854775807 := by omega
  have c63n := hcm1
  have n63 : (n1 : Int) ≤ 9223372036854775807 := by omega
  have BB := Lib.hid (fun W (hW : Below w.heap.size w W) => (hb1.take m1).below hW)
  have hsl : ∀ W : World, (Instr.slice 29 (.slice A1 n1 c1) none (some (.int .i64 (m : Int))) none).run Tryd.prog W = .ok (.slice A1 m c1) W := fun W => by
    cases A1 with
    | none =>
      have e1 := hnil1 rfl
      have e2 : n1 = 0 := by omega
      subst e1 e2
      obtain rfl : m = 0 := by omega
      go_simp
    | some a =>
      go_simp
  have HI : Hid (BsL ((zs.take m).drop 16)) := Lib.hid (fun y hy => bsl_of hb1.2.1 y (List.mem_of_mem_take (List.mem_of_mem_drop hy)))
  generalize zs.take m = ZB at *
  have X := Lib.hid (Bx.new_ kind fr to t pi pt co ok xA xn xc xA1 xn1 xc1 xA2 xn2 xc2 w)
  obtain ⟨tb, htb⟩ : ∃ tb : Nat, x % 128 = tb := ⟨_, rfl⟩
  have tb1 : tb < 128 := by omega
  have hrem : (x : Int) % 128 = (tb : Int) := by omega
  obtain ⟨kb, hkb⟩ : ∃ kb : Nat, tb / 8 = kb := ⟨_, rfl⟩
  obtain ⟨jb, hjb⟩ : ∃ jb : Nat, tb % 8 = jb := ⟨_, rfl⟩
  have kb1 : Hid (kb < 16) := Lib.hid (by omega)
  have jb1 : Hid (jb < 8) := Lib.hid (by omega)
  have hquo : (tb : Int) / 8 = (kb : Int) := by omega
  have hre8 : (tb : Int) % 8 = (jb : Int) := by omega
  have HT := Lib.hid (And.intro hrem (And.intro hquo hre8))
  have XB := Lib.hid (And.intro hx64 tb1)
  clear hx hG xb hb1 hm hnil1 hnc1 hcm1 htb hkb hjb hrem hquo hre8 hx64 tb1
  go_enter Tryd.func5, Tryd.ntmps5
  go_upto_region 1 with (fail)
  generalize w.alloc (.cells #[.int .i64 kind, .int .i64 fr, .int .i64 to, .int .u64 t, .int .u64 pi, .int .u64 pt, .slice xA xn xc, .int .u64 co, .bool ok, .slice xA1 xn1 xc1, .slice xA2 xn2 xc2] 31) = W at *
  have D0 := X.out
  clear X
  go_upto_region 3 with (go_at_call 8; refine (WK.out _ D0.bel).mono ?_; rintro e w1 ⟨rfl, hb⟩; have D1 := D0.on hb; clear hb)
  obtain ⟨d0, d1, d2, d3, d4, d5, d6, d7, d8, d9, d10⟩ := D1.cells
  go_upto_region 4 with (go_at_call 9; refine (HX.out _ D1.bel).mono ?_; rintro e w2 ⟨x3, xn3, xc3, x4, xn4, xc4, x5, xn5, xc5, rfl, eo, io, oo, hb⟩; have E2 := Lib.hid eo; have I2 := Lib.hid io; have O2 := Lib.hid oo; have H2 := Lib.hid (D1.bel.trans (hb.mono D1.bel.size)); clear eo io oo hb)
  have AL : Below w2.heap.size w2 (w2.alloc (.cells #[.int .i64 mx.kind, .int .i64 mx.fr, .int .i64 mx.to, .int .u64 mx.t, .int .u64 mx.pi, .int .u64 mx.pt, .slice x3 xn3 xc3, .int .u64 mx.co, .bool mx.ok, .slice x4 xn4 xc4, .slice x5 xn5 xc5] 31)) := (Below.refl _ _).alloc (Nat.le_refl _) _
  have MR3 : Hid (Mr (w2.alloc (.cells #[.int .i64 mx.kind, .int .i64 mx.fr, .int .i64 mx.to, .int .u64 mx.t, .int .u64 mx.pi, .int .u64 mx.pt, .slice x3 xn3 xc3, .int .u64 mx.co, .bool mx.ok, .slice x4 xn4 xc4, .slice x5 xn5 xc5] 31)) (w2.alloc (.cells #[.int .i64 mx.kind, .int .i64 mx.fr, .int .i64 mx.to, .int .u64 mx.t, .int .u64 mx.pi, .int .u64 mx.pt, .slice x3 xn3 xc3, .int .u64 mx.co, .bool mx.ok, .slice x4 xn4 xc4, .slice x5 xn5 xc5] 31)).heap.size mx x3 xn3 xc3 x4 xn4 xc4 x5 xn5 xc5) := Lib.hid (mr_of (E2.out.below AL) (World.ownsRow.below I2.out AL) (O2.out.below AL) MB.out)
  have B3 : Hid (Blk (w2.alloc (.cells #[.int .i64 mx.kind, .int .i64 mx.fr, .int .i64 mx.to, .int .u64 mx.t, .int .u64 mx.pi, .int .u64 mx.pt, .slice x3 xn3 xc3, .int .u64 mx.co, .bool mx.ok, .slice x4 xn4 xc4, .slice x5 xn5 xc5] 31)) w2.heap.size 31 #[.int .i64 mx.kind, .int .i64 mx.fr, .int .i64 mx.to, .int .u64 mx.t, .int .u64 mx.pi, .int .u64 mx.pt, .slice x3 xn3 xc3, .int .u64 mx.co, .bool mx.ok, .slice x4 xn4 xc4, .slice x5 xn5 xc5]) := Lib.hid (Blk.new _ _ _)
  have H3 : Hid (Below w.heap.size w (w2.alloc (.cells #[.int .i64 mx.kind, .int .i64 mx.fr, .int .i64 mx.to, .int .u64 mx.t, .int .u64 mx.pi, .int .u64 mx.pt, .slice x3 xn3 xc3, .int .u64 mx.co, .bool mx.ok, .slice x4 xn4 xc4, .slice x5 xn5 xc5] 31))) := Lib.hid (H2.out.alloc H2.out.size _)
  have HI2 := Lib.hid MR3.out.in_
  clear AL E2 I2 O2 H2 D0 D1 d0 d1 d2 d3 d4 d5 d6 d7 d8 d9 d10
  generalize w2.heap.size = q at *
  generalize w2.alloc (.cells #[.int .i64 mx.kind, .int .i64 mx.fr, .int .i64 mx.to, .int .u64 mx.t, .int .u64 mx.pi, .int .u64 mx.pt, .slice x3 xn3 xc3, .int .u64 mx.co, .bool mx.ok, .slice x4 xn4 xc4, .slice x5 xn5 xc5] 31) = w3 at *
  obtain ⟨CK, hCK⟩ : ∃ CK, chkM mx = CK := ⟨_, rfl⟩
  have HCK := Lib.hid hCK
  clear hCK
  go_upto_region 5 with (first
    | ((with_reducible refine at_load (t := 31) ?_); refine wpList_load_mid rfl 31 _ rfl q 0 rfl [.int .i64 mx.kind, .int .i64 mx.fr, .int .i64 mx.to, .int .u64 mx.t, .int .u64 mx.pi, .int .u64 mx.pt, .slice x3 xn3 xc3, .int .u64 mx.co, .bool mx.ok, .slice x4 xn4 xc4, .slice x5 xn5 xc5] _ (Blk.rng B3.out) Tryd.underlying31 rfl Tryd.i31 ?_)
    | (go_at_call 10; refine (encode_any mx x3 xn3 xc3 x4 xn4 xc4 x5 xn5 xc5 _ w3 MR3.out (Nat.le_refl _) (GLH.out.on H3.out)).mono ?_; unfold Enc; rw [HCK.out]; rintro e w4 ⟨y6, yn, yc, rfl, oo, hb⟩; have O4 := Lib.hid oo; have B4 := Lib.hid (B3.out.below hb B3.out.lt); have R4 := Lib.hid ((MR3.out.below hb)); have H4 := Lib.hid (H3.out.trans (hb.mono H3.out.size)); have Z4 := Lib.hid hb.size; clear oo hb))
  go_upto_if 26 with (fail)
  go_cut [2, 10, 11, 12, 13] from 27 (fun v2 v10 v11 v12 v13 wx => Below w.heap.size w wx)
  case first =>
    cases hR : rightM mx with
    | false =>
      have hc : (CK == 0) = false := by rw [← HCK.out]; unfold chkM; rw [hR]; rfl
      clear hR
      go_wp2
      go_meet
      case rel => exact H4.out
    | true =>
      have hc : CK = 0 := by rw [← HCK.out]; unfold chkM; rw [if_pos hR]
      subst hc
      have O5 : Hid (Own w4 w3.heap.size y6 yn yc (encB mx)) := Lib.hid (by have := O4.out; rw [if_pos hR] at this; exact this)
      have LY : yn = 16 + (plainB mx).length := by rw [← O5.out.len, encB_len]
      have PL := plain_len hR HI2.out
      have yn5 : Hid (16 ≤ yn ∧ yn ≤ 100000) := Lib.hid (by omega)
      have DE := Lib.hid (dec_enc hR HI2.out).1
      have DM := Lib.hid (dec_enc hR HI2.out).2
      have TU := Lib.hid (fun k v (hk : k < 16) (hv : v ≠ (encB mx).getD k 0) => dec_turned (m := mx) hk hv)
      obtain ⟨gy, hgy⟩ : ∃ g, y6 = some ⟨g, 0, none⟩ := by
        rcases O5.out.form with ⟨_, h, _⟩ | ⟨g, h, _⟩
        · omega
        · exact ⟨g, h⟩
      subst hgy
      have YC := Lib.hid O5.out.cap
      have YM := Lib.hid O5.out.capmax
      have KY : Hid ((kb : Int) < (yn : Int)) := Lib.hid (by have := kb1.out; omega)
      clear O4 LY PL hR MR3
      generalize encB mx = EN at *
      have W34 : Hid (w.heap.size ≤ w3.heap.size) := Lib.hid H3.out.size
      go_upto_region 7 with (go_at_call 21; refine (decode_any (some ⟨gy, 0, none⟩) yn yc EN w4 O5.out.by YC.out yn5.out.2 YM.out (GLH.out.on H4.out)).mono ?_; rw [DE.out, DM.out]; rintro e w5 ⟨n3, nn3, nc3, n4, nn4, nc4, n5, nn5, nc5, rfl, eo, io, oo, hb⟩; have E5 := Lib.hid eo; have I5 := Lib.hid io; have OO5 := Lib.hid oo; have OY5 := Lib.hid (O5.out.below hb); have B5 := Lib.hid (B4.out.below hb B4.out.lt); have R5 := Lib.hid ((R4.out.below (hb.mono Z4.out))); have H5 := Lib.hid (H4.out.trans (hb.mono H4.out.size)); have Z5 := Lib.hid (Nat.le_trans Z4.out hb.size); clear eo io oo hb)
      have AL : Below w5.heap.size w5 (w5.alloc (.cells #[.int .i64 mx.kind, .int .i64 mx.fr, .int .i64 mx.to, .int .u64 mx.t, .int .u64 mx.pi, .int .u64 mx.pt, .slice n3 nn3 nc3, .int .u64 mx.co, .bool mx.ok, .slice n4 nn4 nc4, .slice n5 nn5 nc5] 31)) := (Below.refl _ _).alloc (Nat.le_refl _) _
      have N6 : Hid (Blk (w5.alloc (.cells #[.int .i64 mx.kind, .int .i64 mx.fr, .int .i64 mx.to, .int .u64 mx.t, .int .u64 mx.pi, .int .u64 mx.pt, .slice n3 nn3 nc3, .int .u64 mx.co, .bool mx.ok, .slice n4 nn4 nc4, .slice n5 nn5 nc5] 31)) w5.heap.size 31 #[.int .i64 mx.kind, .int .i64 mx.fr, .int .i64 mx.to, .int .u64 mx.t, .int .u64 mx.pi, .int .u64 mx.pt, .slice n3 nn3 nc3, .int .u64 mx.co, .bool mx.ok, .slice n4 nn4 nc4, .slice n5 nn5 nc5]) := Lib.hid (Blk.new _ _ _)
      have MN6 : Hid (Mr (w5.alloc (.cells #[.int .i64 mx.kind, .int .i64 mx.fr, .int .i64 mx.to, .int .u64 mx.t, .int .u64 mx.pi, .int .u64 mx.pt, .slice n3 nn3 nc3, .int .u64 mx.co, .bool mx.ok, .slice n4 nn4 nc4, .slice n5 nn5 nc5] 31)) (w5.alloc (.cells #[.int .i64 mx.kind, .int .i64 mx.fr, .int .i64 mx.to, .int .u64 mx.t, .int .u64 mx.pi, .int .u64 mx.pt, .slice n3 nn3 nc3, .int .u64 mx.co, .bool mx.ok, .slice n4 nn4 nc4, .slice n5 nn5 nc5] 31)).heap.size mx n3 nn3 nc3 n4 nn4 nc4 n5 nn5 nc5) := Lib.hid (mr_of (E5.out.below AL) (World.ownsRow.below I5.out AL) (OO5.out.below AL) MB.out)
      have B6 := Lib.hid (B5.out.below AL B5.out.lt)
      have R6 := Lib.hid (R5.out.below (AL.mono Z5.out))
      have OY6 := Lib.hid (OY5.out.below AL)
      have H6 : Hid (Below w.heap.size w (w5.alloc (.cells #[.int .i64 mx.kind, .int .i64 mx.fr, .int .i64 mx.to, .int .u64 mx.t, .int .u64 mx.pi, .int .u64 mx.pt, .slice n3 nn3 nc3, .int .u64 mx.co, .bool mx.ok, .slice n4 nn4 nc4, .slice n5 nn5 nc5] 31))) := Lib.hid (H5.out.alloc H5.out.size _)
      have Z6 : Hid (w3.heap.size ≤ (w5.alloc (.cells #[.int .i64 mx.kind, .int .i64 mx.fr, .int .i64 mx.to, .int .u64 mx.t, .int .u64 mx.pi, .int .u64 mx.pt, .slice n3 nn3 nc3, .int .u64 mx.co, .bool mx.ok, .slice n4 nn4 nc4, .slice n5 nn5 nc5] 31)).heap.size) := Lib.hid (Nat.le_trans Z5.out AL.size)
      clear AL E5 I5 OO5 B5 R5 OY5 H5
      generalize w5.heap.size = qn at *
      generalize w5.alloc (.cells #[.int .i64 mx.kind, .int .i64 mx.fr, .int .i64 mx.to, .int .u64 mx.t, .int .u64 mx.pi, .int .u64 mx.pt, .slice n3 nn3 nc3, .int .u64 mx.co, .bool mx.ok, .slice n4 nn4 nc4, .slice n5 nn5 nc5] 31) = w6 at *
      go_upto_region 9 with (first
        | (refine wpList_load_if (by kernel_rfl) 31 _ rfl q 0 rfl [.int .i64 mx.kind, .int .i64 mx.fr, .int .i64 mx.to, .int .u64 mx.t, .int .u64 mx.pi, .int .u64 mx.pt, .slice x3 xn3 xc3, .int .u64 mx.co, .bool mx.ok, .slice x4 xn4 xc4, .slice x5 xn5 xc5] _ (Blk.rng B6.out) Tryd.underlying31 rfl Tryd.i31 ?_)
        | (refine wpList_load_if (by kernel_rfl) 31 _ rfl qn 0 rfl [.int .i64 mx.kind, .int .i64 mx.fr, .int .i64 mx.to, .int .u64 mx.t, .int .u64 mx.pi, .int .u64 mx.pt, .slice n3 nn3 nc3, .int .u64 mx.co, .bool mx.ok, .slice n4 nn4 nc4, .slice n5 nn5 nc5] _ (Blk.rng N6.out) Tryd.underlying31 rfl Tryd.i31 ?_)
        | (go_at_call 16; refine (msame_any mx mx x3 xn3 xc3 x4 xn4 xc4 x5 xn5 xc5 n3 nn3 nc3 n4 nn4 nc4 n5 nn5 nc5 w6.heap.size w6 (Mr.more R6.out Z6.out) MN6.out (Nat.le_refl _)).mono ?_; rw [show decide (mx = mx) = true from decide_eq_true rfl]; rintro e w7 ⟨rfl, hb⟩; have OY7 := Lib.hid (OY6.out.below hb); have H7 := Lib.hid (H6.out.trans (hb.mono H6.out.size)); clear hb))
      obtain ⟨hrem, hquo, hre8⟩ := HT.out
      have z0 := (OY7.out.2 kb).1
      have z1 := (OY7.out.2 kb).2
      have y0 : w7.cell? ⟨gy, kb, none⟩ = some (.int .u8 (EN.getD kb 0)) := OY7.out.at_ rfl kb (by have := kb1.out; have := yn5.out.1; omega)
      have y1 : w7.frozen? ⟨gy, kb, none⟩ = false := OY7.out.1.frozenAt kb
      have TK := Lib.hid (fun v (hv : v ≠ EN.getD kb 0) => TU.out kb v kb1.out hv)
      generalize EN.getD kb 0 = z at *
      have yk := KY.out
      have kb0 : (0 : Int) ≤ (kb : Int) := by omega
      go_upto_region 11 with (fail)
      obtain ⟨v, hv, v0, v1, vne⟩ : ∃ v, bits BinOp.xor IntKind.u8 z ((2 : Int) ^ jb % 256) = v ∧ 0 ≤ v ∧ v ≤ 255 ∧ v ≠ z := by
        have hj := jb1.out
        have e : (2 : Int) ^ jb % 256 = ((2 ^ jb : Nat) : Int) := by
          rcases (show jb = 0 ∨ jb = 1 ∨ jb = 2 ∨ jb = 3 ∨ jb = 4 ∨ jb = 5 ∨ jb = 6 ∨ jb = 7 by omega) with h | h | h | h | h | h | h | h <;> rw [h] <;> rfl
        rw [e]
        exact ⟨_, rfl, turn_of z0 z1 jb hj⟩
      rw [hv]
      have DT := Lib.hid (TK.out v vne)
      have OY8 := Lib.hid (OY7.out.put (k := kb) v ⟨v0, v1⟩)
      have hgy : w.heap.size ≤ gy := by
        rcases OY7.out.form with ⟨e, _⟩ | ⟨g', e, h1, _⟩
        · cases e
        · injection e with e
          injection e with e
          have := W34.out
          omega
      have H8 : Hid (Below w.heap.size w (w7.setCell ⟨gy, kb, none⟩ (.int .u8 v))) := Lib.hid (H7.out.setCell (p := ⟨gy, kb, none⟩) hgy _)
      clear hv v0 v1 vne y0 y1 OY7 H7 z0 z1 TK
      generalize w7.setCell ⟨gy, kb, none⟩ (.int .u8 v) = w8 at *
      generalize EN.set kb v = EV at *
      go_wp2_with (go_at_call 21; refine (decode_any (some ⟨gy, 0, none⟩) yn yc EV w8 OY8.out.by YC.out yn5.out.2 YM.out (GLH.out.on H8.out)).mono ?_; rw [DT.out]; generalize decMs EV = DV; rintro e w9 ⟨r3, rn3, rc3, r4, rn4, rc4, r5, rn5, rc5, rfl, eo, io, oo, hb⟩; have H9 := Lib.hid (H8.out.trans (hb.mono H8.out.size)); have H9s := H9.out.size; clear eo io oo hb)
      go_meet
      case rel => exact H9.out.alloc H9s _
  case rest =>
    have H8 := Lib.hid hcut
    have ZS := Lib.hid hcut.size
    clear hcut HX HI2 HCK H3 B3 B4 R4 H4 Z4 MR3 O4 HT XB jb1 kb1
    go_upto_region 15 with (fail)
    have ED := Lib.hid (fun h => enc_dec HI.out (zs := ZB) h)
    have MBD := Lib.hid (dec_mb HI.out)
    have BD := Lib.hid (fun h => dec_bad ZB h)
    have LB : Hid (ZB.length = m) := Lib.hid (BB.out _ (Below.refl _ _)).1
    obtain ⟨DE, hDE⟩ : ∃ DE, decE ZB = DE := ⟨_, rfl⟩
    obtain ⟨DM, hDM⟩ : ∃ DM, decMs ZB = DM := ⟨_, rfl⟩
    have HDE := Lib.hid hDE
    have HDM := Lib.hid hDM
    rw [hDE, hDM] at ED BD
    rw [hDM] at MBD
    clear hDE hDM
    go_upto_region 16 with (go_at_call 21; refine (decode_any A1 m c1 ZB wc ((BB.out _ H8.out).more ZS.out) mcn (by omega) c63n (GLH.out.on H8.out)).mono ?_; rw [HDE.out, HDM.out]; rintro e w9 ⟨r3, rn3, rc3, r4, rn4, rc4, r5, rn5, rc5, rfl, eo, io, oo, hb⟩; have E9 := Lib.hid eo; have I9 := Lib.hid io; have O9 := Lib.hid oo; have H9 := Lib.hid (H8.out.trans (hb.mono H8.out.size)); clear eo io oo hb)
    have AL : Below w9.heap.size w9 (w9.alloc (.cells #[.int .i64 DM.kind, .int .i64 DM.fr, .int .i64 DM.to, .int .u64 DM.t, .int .u64 DM.pi, .int .u64 DM.pt, .slice r3 rn3 rc3, .int .u64 DM.co, .bool DM.ok, .slice r4 rn4 rc4, .slice r5 rn5 rc5] 31)) := (Below.refl _ _).alloc (Nat.le_refl _) _
    have NB : Hid (Blk (w9.alloc (.cells #[.int .i64 DM.kind, .int .i64 DM.fr, .int .i64 DM.to, .int .u64 DM.t, .int .u64 DM.pi, .int .u64 DM.pt, .slice r3 rn3 rc3, .int .u64 DM.co, .bool DM.ok, .slice r4 rn4 rc4, .slice r5 rn5 rc5] 31)) w9.heap.size 31 #[.int .i64 DM.kind, .int .i64 DM.fr, .int .i64 DM.to, .int .u64 DM.t, .int .u64 DM.pi, .int .u64 DM.pt, .slice r3 rn3 rc3, .int .u64 DM.co, .bool DM.ok, .slice r4 rn4 rc4, .slice r5 rn5 rc5]) := Lib.hid (Blk.new _ _ _)
    have MR : Hid (Mr (w9.alloc (.cells #[.int .i64 DM.kind, .int .i64 DM.fr, .int .i64 DM.to, .int .u64 DM.t, .int .u64 DM.pi, .int .u64 DM.pt, .slice r3 rn3 rc3, .int .u64 DM.co, .bool DM.ok, .slice r4 rn4 rc4, .slice r5 rn5 rc5] 31)) (w9.alloc (.cells #[.int .i64 DM.kind, .int .i64 DM.fr, .int .i64 DM.to, .int .u64 DM.t, .int .u64 DM.pi, .int .u64 DM.pt, .slice r3 rn3 rc3, .int .u64 DM.co, .bool DM.ok, .slice r4 rn4 rc4, .slice r5 rn5 rc5] 31)).heap.size DM r3 rn3 rc3 r4 rn4 rc4 r5 rn5 rc5) := Lib.hid (mr_of (E9.out.below AL) (World.ownsRow.below I9.out AL) (O9.out.below AL) MBD.out)
    have HA : Hid (Below w.heap.size w (w9.alloc (.cells #[.int .i64 DM.kind, .int .i64 DM.fr, .int .i64 DM.to, .int .u64 DM.t, .int .u64 DM.pi, .int .u64 DM.pt, .slice r3 rn3 rc3, .int .u64 DM.co, .bool DM.ok, .slice r4 rn4 rc4, .slice r5 rn5 rc5] 31))) := Lib.hid (H9.out.alloc H9.out.size _)
    clear AL E9 I9 O9 H9
    generalize w9.heap.size = qd at *
    generalize w9.alloc (.cells #[.int .i64 DM.kind, .int .i64 DM.fr, .int .i64 DM.to, .int .u64 DM.t, .int .u64 DM.pi, .int .u64 DM.pt, .slice r3 rn3 rc3, .int .u64 DM.co, .bool DM.ok, .slice r4 rn4 rc4, .slice r5 rn5 rc5] 31) = wa at *
    by_cases hd : DE = 0
    · subst hd
      obtain ⟨hr, he⟩ := ED.out rfl
      have hck : Hid (chkM DM = 0) := Lib.hid (by unfold chkM; rw [if_pos hr])
      have HR := Lib.hid hr
      have HE := Lib.hid he
      clear hr he ED BD
      go_wp2_with (first
        | ((with_reducible refine at_load (t := 31) ?_); refine wpList_load_mid rfl 31 _ rfl qd 0 rfl [.int .i64 DM.kind, .int .i64 DM.fr, .int .i64 DM.to, .int .u64 DM.t, .int .u64 DM.pi, .int .u64 DM.pt, .slice r3 rn3 rc3, .int .u64 DM.co, .bool DM.ok, .slice r4 rn4 rc4, .slice r5 rn5 rc5] _ (Blk.rng NB.out) Tryd.underlying31 rfl Tryd.i31 ?_)
        | (go_at_call 10; refine (encode_any DM r3 rn3 rc3 r4 rn4 rc4 r5 rn5 rc5 _ wa MR.out (Nat.le_refl _) (GLH.out.on HA.out)).mono ?_; unfold Enc; rw [hck.out, if_pos HR.out, HE.out]; rintro e wb ⟨ry, rn, rc, rfl, oo, hb⟩; have OB := Lib.hid oo; have HBb := Lib.hid (HA.out.trans (hb.mono HA.out.size)); clear oo hb)
        | (go_at_call 22; refine (bequal_any ry A1 rn rc m c1 ZB ZB wb _ _ OB.out.by (BB.out _ HBb.out)).mono ?_; rw [show (ZB == ZB) = true from beq_self_eq_true ZB]; rintro e wd ⟨rfl, rfl⟩))
      go_ret
      exact ⟨rfl, HBb.out⟩
    · have hdm : DM = ms0 := BD.out hd
      have hne : (DE != 0) = true := by simpa using hd
      have HD := Lib.hid hd
      clear hd ED BD HDM
      subst hdm
      go_wp2_with (first
        | ((with_reducible refine at_load (t := 31) ?_); refine wpList_load_mid rfl 31 _ rfl qd 0 rfl [.int .i64 ms0.kind, .int .i64 ms0.fr, .int .i64 ms0.to, .int .u64 ms0.t, .int .u64 ms0.pi, .int .u64 ms0.pt, .slice r3 rn3 rc3, .int .u64 ms0.co, .bool ms0.ok, .slice r4 rn4 rc4, .slice r5 rn5 rc5] _ (Blk.rng NB.out) Tryd.underlying31 rfl Tryd.i31 ?_)
        | (go_at_call 16; refine (msame_any ms0 ms0 r3 rn3 rc3 r4 rn4 rc4 r5 rn5 rc5 none 0 0 none 0 0 none 0 0 wa.heap.size wa MR.out (mr_of (base := 0) (Eo.nothing _ _) (World.ownsRow_nil _ _ _ _) ⟨World.ownsRow_nil _ _ _ _, fun j => by simp [ms0]⟩ ms0_mb) (Nat.le_refl _)).mono ?_; rw [show decide (ms0 = ms0) = true from decide_eq_true rfl]; rintro e wb ⟨rfl, hb⟩; have HBb := Lib.hid (HA.out.trans (hb.mono HA.out.size)); clear hb))
      go_ret
      exact ⟨rfl, HBb.out⟩

end Go.Proofs.YtemfnckaehjhcaaDoor
