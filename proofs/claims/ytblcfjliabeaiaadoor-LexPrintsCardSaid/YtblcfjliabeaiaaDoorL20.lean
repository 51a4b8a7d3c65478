/-
  The document's words in capitals.
-/
import Derived.Test.YtblcfjliabeaiaaDoorL19
namespace Go.Proofs.YtblcfjliabeaiaaDoor
open Go.RowKit Go.Shelf
attribute [local go_sem] Oper.semAt_some

def capU (b : UInt8) : UInt8 := if 97 ≤ b.toNat ∧ b.toNat ≤ 122 then b - 32 else b
theorem capU_toNat (b : UInt8) : ((capU b).toNat : Int) = capB (b.toNat : Int) := by
  unfold capU capB
  split
  · rename_i h
    rw [if_pos ⟨by omega, by omega⟩]
    have : (b - 32).toNat = b.toNat - 32 := by
      rw [UInt8.toNat_sub_of_le _ _ (by rw [UInt8.le_iff_toNat_le]; exact Nat.le_trans (by decide) h.1)]
      rfl
    omega
  · rw [if_neg (by omega)]
theorem take_map_succ {α β : Type} (f : α → β) {l : List α} {i : Nat} (h : i < l.length) : (l.take (i + 1)).map f = (l.take i).map f ++ [f l[i]] := by
  rw [List.take_succ_eq_append_getElem h, List.map_append]
  rfl

set_option maxRecDepth 100000 in
set_option maxHeartbeats 4000000 in
theorem capitals_any (l : List UInt8) (hl : l.length ≤ 1000000) (w : World) : Calls Tryd.prog 38 #[tx l] w fun e w' => e = .returned (tx (l.map capU)) ∧ Below w.heap.size w w' := by
  have kc := conv_tx l w
  have HB0 := Lib.hid (bworld_below w l)
  have HS0 := bworld_size w l
  have HC0 := Lib.hid (fun i hi => bworld_cell w l (i := i) hi)
  obtain ⟨g, hg⟩ : ∃ g, w.heap.size = g := ⟨_, rfl⟩
  rw [hg] at kc HB0 HS0 HC0 ⊢
  generalize bworld w l = w1 at *
  generalize bcap w l = bc at *
  go_enter Tryd.func38, Tryd.ntmps38
  go_upto_region 3 with fail
  go_loopw [3, 9] (fun ov iv wr => ∃ (i : Nat) (A : Option Addr) (c : Nat), i ≤ l.length ∧ iv = .int .i64 (i : Int) ∧ ov = .slice A i c ∧ Hid (Ob wr (g + 1) A i c ((l.take i).map capU)) ∧ Hid (Below (g + 1) w1 wr)) (fun _ iv _ => l.length - (intOf iv).toNat)
  case atStart => exact ⟨0, none, 0, Nat.zero_le _, rfl, rfl, Lib.hid (Ob.nil _ _), Lib.hid (Below.refl _ _)⟩
  case round =>
    obtain ⟨i, A, c, hi, rfl, rfl, HO, HB⟩ := hrel
    have hsz : g + 1 ≤ wr.heap.size := by have := HB.out.size; omega
    by_cases hlt : i < l.length
    · have i0 : (0 : Int) ≤ (i : Int) := by omega
      have i1 : (i : Int) < (l.length : Int) := by omega
      have x0 : wr.cell? ⟨g, i, none⟩ = some (.int .u8 (bt l i)) := by
        rw [← HC0.out i hlt]
        simp only [World.cell?, HB.out.block g (by omega)]
      have E1 : Hid ((l.take i).map capU ++ [capU l[i]] = (l.take (i + 1)).map capU) := Lib.hid (take_map_succ capU hlt).symm
      have hz : capB (bt l i) = ((capU l[i]).toNat : Int) := by
        rw [capU_toNat]
        simp [bt, List.getD, hlt]
      have z0 := bt0 l i
      have z1 := bt1 l i
      generalize bt l i = z at *
      generalize capU l[i] = u at *
      unfold capB at hz
      by_cases ha : 97 ≤ z
      · have d1 : decide (z ≥ 97) = true := decide_eq_true ha
        by_cases hb : z ≤ 122
        · have d2 : decide (z ≤ 122) = true := decide_eq_true hb
          rw [if_pos ⟨ha, hb⟩] at hz
          have HZ := Lib.hid hz
          clear hz
          go_wp2_with (at_builtin; refine append_b rfl (.tmp 21) (.tmp 23) rfl (g + 1) A i c _ rfl HO.out u _ (by have := HZ.out; omega) rfl (by omega) hsz ?_; intro A2 c2 w2 ho2 hb2)
          go_roundw
          case rel => exact ⟨i + 1, A2, c2, by omega, by go_num, rfl, Lib.hid (by rw [← E1.out]; exact ho2), Lib.hid (HB.out.trans hb2)⟩
          case measure => simp [intOf]; omega
        · have d2 : decide (z ≤ 122) = false := decide_eq_false hb
          rw [if_neg (fun h => hb h.2)] at hz
          have HZ := Lib.hid hz
          clear hz
          go_wp2_with (at_builtin; refine append_b rfl (.tmp 21) (.tmp 23) rfl (g + 1) A i c _ rfl HO.out u _ (by have := HZ.out; omega) rfl (by omega) hsz ?_; intro A2 c2 w2 ho2 hb2)
          go_roundw
          case rel => exact ⟨i + 1, A2, c2, by omega, by go_num, rfl, Lib.hid (by rw [← E1.out]; exact ho2), Lib.hid (HB.out.trans hb2)⟩
          case measure => simp [intOf]; omega
      · have d1 : decide (z ≥ 97) = false := decide_eq_false ha
        rw [if_neg (fun h => ha h.1)] at hz
        have HZ := Lib.hid hz
        clear hz
        go_wp2_with (at_builtin; refine append_b rfl (.tmp 21) (.tmp 23) rfl (g + 1) A i c _ rfl HO.out u _ (by have := HZ.out; omega) rfl (by omega) hsz ?_; intro A2 c2 w2 ho2 hb2)
        go_roundw
        case rel => exact ⟨i + 1, A2, c2, by omega, by go_num, rfl, Lib.hid (by rw [← E1.out]; exact ho2), Lib.hid (HB.out.trans hb2)⟩
        case measure => simp [intOf]; omega
    · obtain rfl : i = l.length := by omega
      have kc2 := conv_ob HO.out
      rw [List.take_length] at kc2
      go_wp2_with fail
      go_ret
      exact ⟨rfl, HB0.out.trans (HB.out.mono (by omega))⟩
end Go.Proofs.YtblcfjliabeaiaaDoor
