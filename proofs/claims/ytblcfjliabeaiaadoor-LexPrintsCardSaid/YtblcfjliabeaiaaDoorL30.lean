/-
  Which tokens may be: the document's one, walked.
-/
import Derived.Test.YtblcfjliabeaiaaDoorL29
namespace Go.Proofs.YtblcfjliabeaiaaDoor
open Go.RowKit Go.Shelf
attribute [local go_sem] Oper.semAt_some

set_option maxRecDepth 100000 in
set_option maxHeartbeats 8000000 in
theorem one_any (t : Tq) (hl : t.text.length ≤ 1000000) (w : World) : Calls Tryd.prog 35 #[tqV t] w fun e w' => e = .returned (.bool (tokB t)) ∧ Below w.heap.size w w' := by
  rw [← oneB_eq]
  obtain ⟨kind, text, num, aa, to_⟩ := t
  obtain ⟨g, hg⟩ : ∃ g, w.heap.size = g := ⟨_, rfl⟩
  obtain ⟨w1, hw1⟩ : ∃ w1, w.alloc (.cells #[.int .i64 kind, tx text, .int .i64 num, .int .i64 (aa : Int), .int .i64 (to_ : Int)] 47) = w1 := ⟨_, rfl⟩
  have hb0 : Blk w1 g 47 #[.int .i64 kind, tx text, .int .i64 num, .int .i64 (aa : Int), .int .i64 (to_ : Int)] := by rw [← hw1, ← hg]; exact Blk.new _ _ _
  have b1 : Below g w w1 := by rw [← hw1, ← hg]; exact (Below.refl _ _).alloc (Nat.le_refl _) _
  have g1 : g < w1.heap.size := hb0.lt
  have HG := Lib.hid hg
  show Calls Tryd.prog 35 #[.agg #[.int .i64 kind, tx text, .int .i64 num, .int .i64 (aa : Int), .int .i64 (to_ : Int)]] w fun e w' => e = .returned (.bool (oneB kind text num)) ∧ Below w.heap.size w w'
  rw [hg]
  simp only at hl
  unfold oneB
  by_cases k1 : kind = 1
  · subst k1
    rw [if_pos rfl]
    have KY := Lib.hid (fun W => rkey_any text hl W)
    cases hk : keyF text with
    | some k =>
      have KR : keyR text = .tuple #[tx k, .bool true] := by unfold keyR; rw [hk]
      rw [KR] at KY
      clear hk KR
      simp only
      cases hq : (k == text) <;> cases hz : (num == 0) <;> (
        have fB := (ba_beq k text).trans hq
        subst hw1
        go_enter Tryd.func35, Tryd.ntmps35
        go_wp2_with (go_at_call 20; refine (KY.out _).mono ?_; rintro e w2 ⟨rfl, hb⟩; have B2 := Lib.hid (Below.trans b1 (hb.mono (by omega))); have e1 : w2.cell? ⟨g, 1, none⟩ = some (.string ⟨text.toArray⟩) := (hb0.below hb hb0.lt).cell 1; have e2 : w2.cell? ⟨g, 2, none⟩ = some (.int .i64 num) := (hb0.below hb hb0.lt).cell 2; clear hb)
        go_ret
        exact ⟨rfl, B2.out⟩)
    | none =>
      have KR : keyR text = .tuple #[tx [], .bool false] := by unfold keyR; rw [hk]
      rw [KR] at KY
      clear hk KR
      simp only
      subst hw1
      go_enter Tryd.func35, Tryd.ntmps35
      go_wp2_with (go_at_call 20; refine (KY.out _).mono ?_; rintro e w2 ⟨rfl, hb⟩; have B2 := Lib.hid (Below.trans b1 (hb.mono (by omega))); have e1 : w2.cell? ⟨g, 1, none⟩ = some (.string ⟨text.toArray⟩) := (hb0.below hb hb0.lt).cell 1; have e2 : w2.cell? ⟨g, 2, none⟩ = some (.int .i64 num) := (hb0.below hb hb0.lt).cell 2; clear hb)
      go_ret
      exact ⟨rfl, B2.out⟩
  · have f1 : (kind == 1) = false := beq_eq_false_iff_ne.2 k1
    rw [if_neg k1]
    by_cases k2 : kind = 2
    · subst k2
      rw [if_pos rfl]
      have NM := Lib.hid (fun W => rname_any text hl W)
      generalize nameB text = q at *
      clear f1 k1
      cases q <;> cases hz : (num == 0) <;> (
        subst hw1
        go_enter Tryd.func35, Tryd.ntmps35
        go_wp2_with (go_at_call 22; refine (NM.out _).mono ?_; rintro e w2 ⟨rfl, hb⟩; have B2 := Lib.hid (Below.trans b1 (hb.mono (by omega))); have e1 : w2.cell? ⟨g, 1, none⟩ = some (.string ⟨text.toArray⟩) := (hb0.below hb hb0.lt).cell 1; have e2 : w2.cell? ⟨g, 2, none⟩ = some (.int .i64 num) := (hb0.below hb hb0.lt).cell 2; clear hb)
        go_ret
        exact ⟨rfl, B2.out⟩)
    · have f2 : (kind == 2) = false := beq_eq_false_iff_ne.2 k2
      rw [if_neg k2]
      by_cases k3 : kind = 3
      · subst k3
        rw [if_pos rfl]
        clear f1 k1 f2 k2
        cases text with
        | nil =>
          cases hz : decide (0 ≤ num) <;> (
            have hz2 : decide (num ≥ 0) = _ := hz
            subst hw1
            go_enter Tryd.func35, Tryd.ntmps35
            go_wp2
            go_ret
            exact ⟨rfl, b1⟩)
        | cons x r =>
          have hs : ((⟨(x :: r).toArray⟩ : ByteArray) == ⟨#[]⟩) = false := by first | rfl | kernel_rfl
          have e0 : ((x :: r == []) && decide (0 ≤ num)) = false := rfl
          rw [e0]
          subst hw1
          go_enter Tryd.func35, Tryd.ntmps35
          go_wp2
          go_ret
          exact ⟨rfl, b1⟩
      · have f3 : (kind == 3) = false := beq_eq_false_iff_ne.2 k3
        rw [if_neg k3]
        by_cases k4 : kind = 4
        · subst k4
          rw [if_pos rfl]
          clear f1 k1 f2 k2 f3 k3
          have Y := Lib.hid (plA_yes (l := text))
          have N := Lib.hid (fun j hj => plA_no (l := text) (j := j) hj)
          have kc := conv_tx text w1
          have HB0 := Lib.hid (b1.trans ((bworld_below w1 text).mono (Nat.le_of_lt g1)))
          have HS0 := bworld_size w1 text
          have HC0 := Lib.hid (fun i hi => bworld_cell w1 text (i := i) hi)
          have HZ0 := Lib.hid (hb0.below (bworld_below w1 text) g1)
          obtain ⟨q, hq⟩ : ∃ q, w1.heap.size = q := ⟨_, rfl⟩
          rw [hq] at kc HS0 HC0 g1
          generalize bworld w1 text = v1 at *
          generalize bcap w1 text = bc at *
          generalize plA text = R at *
          subst hw1
          go_enter Tryd.func35, Tryd.ntmps35
          go_upto_region 11 with fail
          go_loopw [55] (fun iv wr => ∃ i : Nat, i ≤ text.length ∧ iv = .int .i64 (i : Int) ∧ Hid (∀ j, j < i → plnB (bt text j) = true) ∧ Hid (Below (q + 1) v1 wr)) (fun iv _ => text.length - (intOf iv).toNat)
          case atStart => exact ⟨0, Nat.zero_le _, rfl, Lib.hid (fun j hj => absurd hj (by omega)), Lib.hid (Below.refl _ _)⟩
          case round =>
            obtain ⟨i, hi, rfl, HA, HB⟩ := hrel
            by_cases hlt : i < text.length
            · have i0 : (0 : Int) ≤ (i : Int) := by omega
              have i1 : (i : Int) < (text.length : Int) := by omega
              have x0 : wr.cell? ⟨q, i, none⟩ = some (.int .u8 (bt text i)) := by
                rw [← HC0.out i hlt]
                simp only [World.cell?, HB.out.block q (by omega)]
              have z0 := bt0 text i
              have z1 := bt1 text i
              have HA2 : Hid (plnB (bt text i) = true → ∀ j, j < i + 1 → plnB (bt text j) = true) := Lib.hid (fun e j hj => by
                by_cases hji : j = i
                · subst hji; exact e
                · exact HA.out j (by omega))
              have N1 := Lib.hid (N.out i hlt)
              generalize bt text i = z at *
              by_cases ha : z < 32
              · have d1 : decide (z < 32) = true := decide_eq_true ha
                have hR := Lib.hid (N1.out (by unfold plnB; rw [decide_eq_false (by omega), Bool.false_and]))
                go_wp2_with fail
                go_ret
                exact ⟨by rw [hR.out]; rfl, HB0.out.trans (HB.out.mono (by omega))⟩
              · have d1 : decide (z < 32) = false := decide_eq_false ha
                by_cases hb : z > 126
                · have d2 : decide (z > 126) = true := decide_eq_true hb
                  have hR := Lib.hid (N1.out (by unfold plnB; rw [decide_eq_false (show ¬ z ≤ 126 by omega), Bool.and_false]))
                  go_wp2_with fail
                  go_ret
                  exact ⟨by rw [hR.out]; rfl, HB0.out.trans (HB.out.mono (by omega))⟩
                · have d2 : decide (z > 126) = false := decide_eq_false hb
                  have HA3 := Lib.hid (HA2.out (by unfold plnB; rw [decide_eq_true (show 32 ≤ z by omega), decide_eq_true (show z ≤ 126 by omega)]; rfl))
                  go_wp2_with fail
                  go_roundw
                  case rel => exact ⟨i + 1, by omega, by go_num, HA3, HB⟩
                  case measure => simp [intOf]; omega
            · obtain rfl : i = text.length := by omega
              have hR := Lib.hid (Y.out HA.out)
              have ZZ := HZ0.out.below (HB.out.mono (by omega : g + 1 ≤ q + 1)) (by omega)
              have e1 : wr.cell? ⟨g, 1, none⟩ = some (.string ⟨text.toArray⟩) := ZZ.cell 1
              have e2 : wr.cell? ⟨g, 2, none⟩ = some (.int .i64 num) := ZZ.cell 2
              have HF := Lib.hid (HB0.out.trans (HB.out.mono (by omega)))
              clear ZZ HB HA
              cases hz : (num == 0) <;> cases hc : decide ((text.length : Int) ≤ 64) <;> (
                go_wp2_with fail
                go_ret
                exact ⟨by rw [hR.out, hz, hc]; rfl, HF.out⟩)
        · have f4 : (kind == 4) = false := beq_eq_false_iff_ne.2 k4
          rw [if_neg k4]
          by_cases k5 : kind = 5
          · subst k5
            rw [if_pos rfl]
            have SG := Lib.hid (fun W => rsign_any text W)
            generalize sigB text = q at *
            clear f1 k1 f2 k2 f3 k3 f4 k4
            cases q <;> cases hz : (num == 0) <;> (
              subst hw1
              go_enter Tryd.func35, Tryd.ntmps35
              go_wp2_with (go_at_call 51; refine (SG.out _).mono ?_; rintro e w2 ⟨rfl, hb⟩; have B2 := Lib.hid (Below.trans b1 (hb.mono (by omega))); have e1 : w2.cell? ⟨g, 1, none⟩ = some (.string ⟨text.toArray⟩) := (hb0.below hb hb0.lt).cell 1; have e2 : w2.cell? ⟨g, 2, none⟩ = some (.int .i64 num) := (hb0.below hb hb0.lt).cell 2; clear hb)
              go_ret
              exact ⟨rfl, B2.out⟩)
          · have f5 : (kind == 5) = false := beq_eq_false_iff_ne.2 k5
            rw [if_neg k5]
            subst hw1
            go_enter Tryd.func35, Tryd.ntmps35
            go_wp2
            go_ret
            exact ⟨rfl, b1⟩
end Go.Proofs.YtblcfjliabeaiaaDoor
