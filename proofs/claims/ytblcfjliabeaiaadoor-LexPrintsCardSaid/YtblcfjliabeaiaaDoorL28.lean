/-
  The document's signs.
-/
import Derived.Test.YtblcfjliabeaiaaDoorL22
namespace Go.Proofs.YtblcfjliabeaiaaDoor
open Go.RowKit Go.Shelf
attribute [local go_sem] Oper.semAt_some

def sigL : List (List UInt8) := [[60, 61], [62, 61], [60, 62], [40], [41], [44], [59], [61], [60], [62], [43], [45], [42], [47], [37], [46]]
def sigV : List Value := sigL.map tx
def sigB (l : List UInt8) : Bool := sigL.contains l
theorem sig1 : ∀ a : Fin 256, (decide (0 < ((sgnN [UInt8.ofNat a.val] : Nat) : Int)) && (((sgnN [UInt8.ofNat a.val] : Nat) : Int) == (1 : Int))) = sigB [UInt8.ofNat a.val] := by decide +kernel
theorem sig_eq (l : List UInt8) : (decide (0 < ((sgnN l : Nat) : Int)) && (((sgnN l : Nat) : Int) == (l.length : Int))) = sigB l := by
  match l with
  | [] => decide +kernel
  | [a] =>
    have := sig1 ⟨a.toNat, a.toNat_lt⟩
    simpa using this
  | [a, b] =>
    have e : sgnN [a, b] = if (Lib.hasPrefix [a, b] [60, 61] || Lib.hasPrefix [a, b] [62, 61] || Lib.hasPrefix [a, b] [60, 62]) = true then 2 else if 0 ≤ Lib.indexByte sgnL a then 1 else 0 := rfl
    have p : ∀ x y : UInt8, Lib.hasPrefix [a, b] [x, y] = (decide (a = x) && decide (b = y)) := fun x y => by
      show (x == a && (y == b && true)) = _
      rw [Bool.eq_iff_iff, Bool.and_true, Bool.and_eq_true, Bool.and_eq_true, beq_iff_eq, beq_iff_eq, decide_eq_true_eq, decide_eq_true_eq]
      exact ⟨fun h => ⟨h.1.symm, h.2.symm⟩, fun h => ⟨h.1.symm, h.2.symm⟩⟩
    have s : sigB [a, b] = ((decide (a = 60) && decide (b = 61)) || (decide (a = 62) && decide (b = 61)) || (decide (a = 60) && decide (b = 62))) := by
      rw [Bool.eq_iff_iff]
      simp [sigB, sigL, or_assoc]
    rw [e, p, p, p, s]
    generalize ((decide (a = 60) && decide (b = 61)) || (decide (a = 62) && decide (b = 61)) || (decide (a = 60) && decide (b = 62))) = q
    cases q with
    | true => rfl
    | false =>
      rw [if_neg (by decide)]
      split <;> rfl
  | a :: b :: c :: r =>
    have h2 := sgnN_2 (a :: b :: c :: r)
    have e1 : (((sgnN (a :: b :: c :: r) : Nat) : Int) == ((a :: b :: c :: r).length : Int)) = false := by
      rw [beq_eq_false_iff_ne]
      simp only [List.length_cons]
      omega
    have s : sigB (a :: b :: c :: r) = false := by simp [sigB, sigL]
    rw [e1, s, Bool.and_false]
theorem ix96 (w : World) : ∀ i : Nat, i < 16 → (Instr.index 96 (.agg sigV.toArray) (.int .i64 (i : Int))).run Tryd.prog w = .ok (tx (sigL.getD i [])) w
  | 0, _ => by kernel_rfl
  | 1, _ => by kernel_rfl
  | 2, _ => by kernel_rfl
  | 3, _ => by kernel_rfl
  | 4, _ => by kernel_rfl
  | 5, _ => by kernel_rfl
  | 6, _ => by kernel_rfl
  | 7, _ => by kernel_rfl
  | 8, _ => by kernel_rfl
  | 9, _ => by kernel_rfl
  | 10, _ => by kernel_rfl
  | 11, _ => by kernel_rfl
  | 12, _ => by kernel_rfl
  | 13, _ => by kernel_rfl
  | 14, _ => by kernel_rfl
  | 15, _ => by kernel_rfl
  | i + 16, h => by omega
theorem sig_yes {l : List UInt8} {i : Nat} (hi : i < 16) (h : (l == sigL.getD i []) = true) : sigB l = true := by
  have h2 : i < sigL.length := hi
  have e : l = sigL[i] := by
    have : l = sigL.getD i [] := by simpa using h
    rw [this]
    simp [List.getD, h2]
  unfold sigB
  rw [List.contains_iff_mem, e]
  exact List.getElem_mem h2
theorem sig_no {l : List UInt8} (h : ∀ j, j < 16 → (l == sigL.getD j []) = false) : sigB l = false := by
  cases hb : sigB l with
  | false => rfl
  | true =>
    have hm : l ∈ sigL := by
      unfold sigB at hb
      exact List.contains_iff_mem.1 hb
    obtain ⟨j, hj, e⟩ := List.getElem_of_mem hm
    have := h j hj
    have e2 : sigL.getD j [] = l := by
      rw [← e]
      simp [List.getD, hj]
    rw [e2] at this
    simp at this

set_option maxRecDepth 100000 in
set_option maxHeartbeats 4000000 in
theorem rsign_any (l : List UInt8) (w : World) : Calls Tryd.prog 51 #[tx l] w fun e w' => e = .returned (.bool (sigB l)) ∧ Below w.heap.size w w' := by
  have Y := Lib.hid (fun i hi h => sig_yes (l := l) (i := i) hi h)
  have N := Lib.hid (sig_no (l := l))
  have IXH := Lib.hid (fun i hi W => ix96 W i hi)
  have BE := Lib.hid (fun k => ba_beq l k)
  generalize sigB l = R at *
  obtain ⟨SV, hSV⟩ : ∃ SV, sigV.toArray = SV := ⟨_, rfl⟩
  rw [hSV] at IXH
  have e0 : (#[Value.string ⟨#[60, 61]⟩, Value.string ⟨#[62, 61]⟩, Value.string ⟨#[60, 62]⟩, Value.string ⟨#[40]⟩, Value.string ⟨#[41]⟩, Value.string ⟨#[44]⟩, Value.string ⟨#[59]⟩, Value.string ⟨#[61]⟩, Value.string ⟨#[60]⟩, Value.string ⟨#[62]⟩, Value.string ⟨#[43]⟩, Value.string ⟨#[45]⟩, Value.string ⟨#[42]⟩, Value.string ⟨#[47]⟩, Value.string ⟨#[37]⟩, Value.string ⟨#[46]⟩] : Array Value) = SV := hSV
  clear hSV
  go_enter Tryd.func51, Tryd.ntmps51
  go_upto_region 2 with fail
  clear e0
  go_loopw [6] (fun iv wr => ∃ i : Nat, i ≤ 16 ∧ iv = .int .i64 (i : Int) ∧ Hid (∀ j, j < i → (l == sigL.getD j []) = false) ∧ Hid (Below w.heap.size w wr)) (fun iv _ => 16 - (intOf iv).toNat)
  case atStart => exact ⟨0, Nat.zero_le _, rfl, Lib.hid (fun j hj => absurd hj (by omega)), Lib.hid (Below.refl _ _)⟩
  case round =>
    obtain ⟨i, hi, rfl, HA, HB⟩ := hrel
    by_cases hlt : i < 16
    · have i0 : (0 : Int) ≤ (i : Int) := by omega
      have i1 : (i : Int) < 16 := by omega
      have IX := IXH.out i hlt
      have YY := Lib.hid (Y.out i hlt)
      cases hq : (l == sigL.getD i []) with
      | true =>
        have hR := Lib.hid (YY.out hq)
        have f1 := (BE.out (sigL.getD i [])).trans hq
        clear YY
        generalize sigL.getD i [] = kk at *
        go_wp2_with fail
        go_ret
        exact ⟨by rw [hR.out]; rfl, HB.out⟩
      | false =>
        have HA2 : Hid (∀ j, j < i + 1 → (l == sigL.getD j []) = false) := Lib.hid (fun j hj => by
          by_cases hji : j = i
          · subst hji; exact hq
          · exact HA.out j (by omega))
        have f1 := (BE.out (sigL.getD i [])).trans hq
        clear YY
        generalize sigL.getD i [] = kk at *
        go_wp2_with fail
        go_roundw
        case rel => exact ⟨i + 1, by omega, by go_num, HA2, HB⟩
        case measure => simp [intOf]; omega
    · obtain rfl : i = 16 := by omega
      have hR := Lib.hid (N.out HA.out)
      go_wp2_with fail
      go_ret
      exact ⟨by rw [hR.out]; rfl, HB.out⟩
end Go.Proofs.YtblcfjliabeaiaaDoor
