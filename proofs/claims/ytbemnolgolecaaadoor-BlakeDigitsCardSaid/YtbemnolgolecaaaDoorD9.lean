/-
  The law BlakeDigits, walked.
-/
import Derived.Test.YtbemnolgolecaaaDoorD8b
import Derived.Deep.RegionHeld3
namespace Go.Proofs.YtbemnolgolecaaaDoor
open Go.RowKit
attribute [local go_sem ↓] Tryd.z42 Tryd.z70 Tryd.z27 Tryd.z45 Tryd.z37 Tryd.z38

theorem DW.drew {w0 w : World} {a b : List Int} (s : DW w0 a b w) : DW w0 a b w.drew := ⟨s.below.drew, s.ba, s.bb⟩
theorem three_of (a b : List Int) (ha : a.length = 32) (hb : b.length = 32) (ba : Bs a) (bb : Bs b) : ∃ E p q : Bool, ((E = true ∧ p = false ∧ q = false) ∨ (E = false ∧ p = true ∧ q = false) ∨ (E = false ∧ p = false ∧ q = true)) ∧
    (∀ w, Calls Tryd.prog 26 #[.agg (BL a).toArray, .agg (BL b).toArray] w fun e w' => e = .returned (.bool p) ∧ Below w.heap.size w w') ∧
    (∀ w, Calls Tryd.prog 26 #[.agg (BL b).toArray, .agg (BL a).toArray] w fun e w' => e = .returned (.bool q) ∧ Below w.heap.size w w') ∧
    (∀ w, (binOp .eql 27 (.agg (BL a).toArray) (.agg (BL b).toArray)).run Tryd.prog w = .ok (.bool E) w) ∧
    Op.bytesLess (strOfNums (textF a)).toList (strOfNums (textF b)).toList = p := by
  refine ⟨decide (a = b), decide (cmpL a b < 0), decide (cmpL b a < 0), ?_, fun w => less_any a b ha hb w, fun w => less_any b a hb ha w, fun w => eq27 w a b ha hb, text_less a b ha hb ba bb⟩
  rcases cmp_three a b ha hb ba bb with ⟨h, h1, h2⟩ | ⟨h, h1, h2⟩ | ⟨h, h1, h2⟩
  · exact .inl ⟨decide_eq_true h, h1, h2⟩
  · exact .inr (.inl ⟨decide_eq_false h, h1, h2⟩)
  · exact .inr (.inr ⟨decide_eq_false h, h1, h2⟩)

set_option maxRecDepth 100000 in
set_option maxHeartbeats 3000000 in
theorem digits_walk (a b : List Int) (s : ByteArray) (ha : a.length = 32) (hb : b.length = 32) (ba : Bs a) (bb : Bs b) (w : World) (hG : Gl w) :
    Calls Tryd.prog 9 #[.agg (BL a).toArray, .agg (BL b).toArray, .string s] w fun e w' => e = .returned (.bool true) ∧ Below w.heap.size w w' := by
  have W0 : Hid (DW w a b ((w.alloc (.cells (BL a).toArray 27)).alloc (.cells (BL b).toArray 27))) := ⟨((Below.refl _ w).alloc (Nat.le_refl _) _).alloc (by simp) _, (Blk.new w 27 _).alloc _, Blk.new' _ 27 _ (by simp)⟩
  have WK := Lib.hid (wakes_any ((w.alloc (.cells (BL a).toArray 27)).alloc (.cells (BL b).toArray 27)) (hG.low W0.out.below))
  have TA := Lib.hid (fun w => text_any a ha ba w)
  have TB := Lib.hid (fun w => text_any b hb bb w)
  have PT : Hid (∀ w, Calls Tryd.prog 28 #[.string (strOfNums (textF a))] w (Parsed w a 0)) := fun w => by
    have := parse_64 _ (text_size a) w
    rw [(parse_text a ha ba).1, (parse_text a ha ba).2] at this
    exact this
  obtain ⟨id, er, hp, hil, hid⟩ := parse_any s
  have PS := Lib.hid hp
  have iA : Hid ((Tryd.prog.info? 27).map (·.size) = some (BL a).length) := show _ = _ by rw [BL.len, ha]; exact Tryd.i27
  have zA : Hid ((ZB 32).toArray.size = (BL a).length) := show _ = _ by rw [BL.len, ha]; rfl
  have oA := Lib.hid (BL.one a)
  have hne := fun w => ne27 w a a ha ha
  have hsz : (strOfNums (textF a)).size = 64 := text_size a
  obtain ⟨E, p, q, cEpq, lab, lba, eqE, lss⟩ := three_of a b ha hb ba bb
  have LAB := Lib.hid lab
  have LBA := Lib.hid lba
  have EQE := Lib.hid eqE
  have LSS := Lib.hid lss
  have C3 : Hid ((E = true ∧ p = false ∧ q = false) ∨ (E = false ∧ p = true ∧ q = false) ∨ (E = false ∧ p = false ∧ q = true)) := cEpq
  have iB : Hid ((Tryd.prog.info? 27).map (·.size) = some (BL b).length) := show _ = _ by rw [BL.len, hb]; exact Tryd.i27
  have hU27 := Lib.hid Tryd.underlying27
  clear hG hp lab lba eqE lss cEpq
  go_enter Tryd.func9, Tryd.ntmps9
  go_wp2_with fail
  refine WK.out.mono ?_
  rintro e w1 ⟨rfl, k1⟩
  have W1 := Lib.hid (W0.out.low k1)
  clear W0 WK k1
  go_wp2_with ((with_reducible refine at_load (t := 27) ?_); refine wpList_load_mid rfl 27 _ rfl w.heap.size 0 rfl (BL a) _ W1.out.ba.rng Tryd.underlying27 rfl iA.out ?_)
  refine (TA.out _).mono ?_
  rintro e w2 ⟨rfl, k2⟩
  have W2 := Lib.hid (W1.out.low k2)
  clear W1 k2
  generalize strOfNums (textF a) = t at *
  generalize strOfNums (textF b) = tb at *
  go_wp2_with fail
  refine (PT.out _).mono ?_
  rintro e w3 ⟨rfl, k3⟩
  have W3 := Lib.hid (W2.out.low k3)
  clear W2 k3
  go_wp2_with (first
    | ((with_reducible refine at_store (t := 27) ?_); refine wpList_store_blk _ rfl 27 _ _ rfl w3.heap.size (ZB 32).toArray 27 (BL a) rfl rfl (Blk.new w3 27 _) zA.out iA.out oA.out ?_; intro w4 hb4 ho4; have W4 := Lib.hid (W3.out.low (((Below.refl _ w3).alloc (Nat.le_refl _) (.cells (ZB 32).toArray 27)).trans (ho4.below (Nat.le_refl _)))); have C4 := Lib.hid hb4; clear hb4 ho4 W3; generalize w3.heap.size = gc at *)
    | ((with_reducible refine at_load (t := 27) ?_); refine wpList_load_if (by rfl) 27 _ rfl gc 0 rfl (BL a) _ C4.out.rng Tryd.underlying27 rfl iA.out ?_)
    | ((with_reducible refine at_load (t := 27) ?_); refine wpList_load_if (by rfl) 27 _ rfl w.heap.size 0 rfl (BL a) _ W4.out.ba.rng Tryd.underlying27 rfl iA.out ?_))
  refine (PS.out _).mono ?_
  rintro e w5 ⟨rfl, k5⟩
  have W5 := Lib.hid (W4.out.low k5)
  clear W4 C4 k5 PT PS
  have iI : Hid ((Tryd.prog.info? 27).map (·.size) = some (BL id).length) := show _ = _ by rw [BL.len, hil]; exact Tryd.i27
  have zI : Hid ((ZB 32).toArray.size = (BL id).length) := show _ = _ by rw [BL.len, hil]; rfl
  have oI := Lib.hid (BL.one id)
  rcases hid with ⟨rfl, hts, hbi⟩ | ⟨rfl, rfl⟩
  case' inr =>
    have hz : ∀ w, (Op.equalIn 10000 27 (.agg (BL Z32).toArray) (.agg (ZB 32).toArray)).run Tryd.prog w = .ok true w := fun w => by
      obtain ⟨i0, hi⟩ := info5'
      rw [ZB.bl]
      have := eq_ints w 27 5 32 .u8 i0 Tryd.underlying27 Tryd.underlying5 hi (by kernel_rfl) Z32 (List.replicate 32 0) rfl rfl 9998
      refine this.trans ?_
      rfl
    go_wp2_with (first
      | ((with_reducible refine at_store (t := 27) ?_); refine wpList_store_blk _ rfl 27 _ _ rfl w5.heap.size (ZB 32).toArray 27 (BL Z32) rfl rfl (Blk.new w5 27 _) zI.out iI.out oI.out ?_; intro w6 hb6 ho6; have W6 := Lib.hid (W5.out.low (((Below.refl _ w5).alloc (Nat.le_refl _) (.cells (ZB 32).toArray 27)).trans (ho6.below (Nat.le_refl _)))); have C6 := Lib.hid hb6; clear hb6 ho6 W5; generalize w5.heap.size = ge at *)
      | ((with_reducible refine at_load (t := 27) ?_); refine wpList_load_if (by rfl) 27 _ rfl ge 0 rfl (BL Z32) _ C6.out.rng Tryd.underlying27 rfl iI.out ?_))
    obtain ⟨w8, XX⟩ : ∃ w8, Hid (DW w a b w8.drew) ∧ w8 = w6 := ⟨w6, Lib.hid W6.out.drew, rfl⟩
    obtain ⟨XX, rfl⟩ := XX
    clear W6 C6
  case' inl =>
    have TI : Hid (∀ w, Calls Tryd.prog 24 #[.agg (BL id).toArray] w fun e w' => e = .returned (.string s) ∧ Below w.heap.size w w') := fun w => by
      have := text_any id hil hbi w
      rw [hts] at this
      exact this
    clear hts hbi
    go_wp2_with (first
      | ((with_reducible refine at_store (t := 27) ?_); refine wpList_store_blk _ rfl 27 _ _ rfl w5.heap.size (ZB 32).toArray 27 (BL id) rfl rfl (Blk.new w5 27 _) zI.out iI.out oI.out ?_; intro w6 hb6 ho6; have W6 := Lib.hid (W5.out.low (((Below.refl _ w5).alloc (Nat.le_refl _) (.cells (ZB 32).toArray 27)).trans (ho6.below (Nat.le_refl _)))); have C6 := Lib.hid hb6; clear hb6 ho6 W5; generalize w5.heap.size = ge at *)
      | ((with_reducible refine at_load (t := 27) ?_); refine wpList_load_if (by rfl) 27 _ rfl ge 0 rfl (BL id) _ C6.out.rng Tryd.underlying27 rfl iI.out ?_)
      | (go_at_call 24; refine (TI.out _).mono ?_; rintro e w7 ⟨rfl, k7⟩; have W7 := Lib.hid (W6.out.low k7); clear W6 C6 k7))
    obtain ⟨w8, XX⟩ : ∃ w8, Hid (DW w a b w8.drew) ∧ w8 = w7 := ⟨w7, Lib.hid W7.out.drew, rfl⟩
    obtain ⟨XX, rfl⟩ := XX
    clear W7
  all_goals
    (rcases C3.out with ⟨rfl, rfl, rfl⟩ | ⟨rfl, rfl, rfl⟩ | ⟨rfl, rfl, rfl⟩)
  all_goals
    (have hS0 : w8.drew.rangeAt w.heap.size 0 (BL a) ∧ w8.drew.rangeAt (w.heap.size + 1) 0 (BL b) := ⟨XX.out.ba.rng, XX.out.bb.rng⟩
     refine wp_region_noPanic ?_
     refine wp_region_held_drew (S := fun w' => w'.rangeAt w.heap.size 0 (BL a) ∧ w'.rangeAt (w.heap.size + 1) 0 (BL b)) (by kernel_rfl) hS0 (fun hHeld => ?_)
     refine wpAnyH_take (i := 0) (v := .agg (BL a).toArray) rfl (by kernel_rfl) (by kernel_rfl) (by kernel_rfl) (fun _ _ _ h => h) (yieldsIf_load_mid (by rfl) _ _ rfl _ _ rfl _ _ (fun w h => h.1) Tryd.underlying27 rfl iA.out) hHeld ?_
     refine wpAnyH_take (i := 1) (v := .agg (BL b).toArray) rfl (by kernel_rfl) (by kernel_rfl) (by kernel_rfl) (fun _ _ _ h => h) (yieldsIf_load_mid (by rfl) _ _ rfl _ _ rfl _ _ (fun w h => h.2) Tryd.underlying27 rfl iB.out) hHeld ?_
     refine wpAnyH_take (i := 3) (v := .agg (BL b).toArray) rfl (by kernel_rfl) (by kernel_rfl) (by kernel_rfl) (fun _ _ _ h => h) (yieldsIf_load_mid (by rfl) _ _ rfl _ _ rfl _ _ (fun w h => h.2) Tryd.underlying27 rfl iB.out) hHeld ?_
     refine wpAnyH_take (i := 4) (v := .agg (BL a).toArray) rfl (by kernel_rfl) (by kernel_rfl) (by kernel_rfl) (fun _ _ _ h => h) (yieldsIf_load_mid (by rfl) _ _ rfl _ _ rfl _ _ (fun w h => h.1) Tryd.underlying27 rfl iA.out) hHeld ?_
     refine wpAnyH_ready (rs := [2]) (by kernel_rfl) (by simp) ?_
     refine AllReadyH.cons rfl (fun K hK => ?_) AllReadyH.nil
     go_simp
     refine (LAB.out _).mono ?_
     rintro e w9 ⟨rfl, k9⟩
     have X9 := Lib.hid (XX.out.low k9)
     refine hK.out _ _ ⟨X9.out.ba.rng, X9.out.bb.rng⟩ (fun hHeld => ?_)
     clear hK K
     refine wpAnyH_ready (rs := [5]) (by kernel_rfl) (by simp) ?_
     refine AllReadyH.cons rfl (fun K hK => ?_) AllReadyH.nil
     go_simp
     refine (LBA.out _).mono ?_
     rintro e w10 ⟨rfl, k10⟩
     have X10 := Lib.hid (X9.out.low k10)
     refine hK.out _ _ ⟨X10.out.ba.rng, X10.out.bb.rng⟩ (fun hHeld => ?_)
     clear hK K
     refine wpAnyH_ready (rs := [6]) (by kernel_rfl) (by simp) ?_
     refine AllReadyH.cons rfl (fun K hK => ?_) AllReadyH.nil
     go_simp
     refine hK.out _ _ ⟨X10.out.ba.rng, X10.out.bb.rng⟩ (fun hHeld => ?_)
     clear hK K
     refine wpAnyH_ready (rs := [7]) (by kernel_rfl) (by simp) ?_
     refine AllReadyH.cons rfl (fun K hK => ?_) AllReadyH.nil
     go_simp
     refine hK.out _ _ ⟨X10.out.ba.rng, X10.out.bb.rng⟩ (fun hHeld => ?_)
     clear hK K
     refine wpAnyH_done (by kernel_rfl) ?_ _
     refine NoPanic.normal ?_)
  all_goals
    (have eqE := EQE.out
     have lss := LSS.out
     go_wp2_with (first
       | ((with_reducible refine at_load (t := 27) ?_); refine wpList_load_mid rfl 27 _ rfl w.heap.size 0 rfl (BL a) _ X10.out.ba.rng Tryd.underlying27 rfl iA.out ?_)
       | ((with_reducible refine at_load (t := 27) ?_); refine wpList_load_mid rfl 27 _ rfl (w.heap.size + 1) 0 rfl (BL b) _ X10.out.bb.rng Tryd.underlying27 rfl iB.out ?_)
       | ((with_reducible refine at_load (t := 27) ?_); refine wpList_load_if (by rfl) 27 _ rfl (w.heap.size + 1) 0 rfl (BL b) _ X10.out.bb.rng Tryd.underlying27 rfl iB.out ?_)
       | (go_at_call 24; refine (TB.out _).mono ?_; rintro e w11 ⟨rfl, k11⟩)))
  all_goals
    (go_ret
     exact ⟨rfl, X10.out.below.trans (k11.mono X10.out.below.size)⟩)

end Go.Proofs.YtbemnolgolecaaaDoor
