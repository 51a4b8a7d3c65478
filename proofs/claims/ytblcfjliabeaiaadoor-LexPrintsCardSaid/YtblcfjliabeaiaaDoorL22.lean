/-
  The document's words and names.
-/
import Derived.Test.YtblcfjliabeaiaaDoorL21
namespace Go.Proofs.YtblcfjliabeaiaaDoor
open Go.RowKit Go.Shelf
attribute [local go_sem] Oper.semAt_some

theorem runN_stop (q : Int → Bool) : ∀ (l : List UInt8) (j : Nat), j < l.length → q (bt l j) = false → runN q l ≤ j
  | [], j, h, _ => by simp at h
  | b :: r, 0, _, h => by
    have h0 : q (b.toNat : Int) = false := h
    simp [runN, h0]
  | b :: r, j + 1, hj, h => by
    unfold runN
    split
    · have := runN_stop q r j (by simpa using hj) h
      omega
    · omega
theorem wordB_cons (b : UInt8) (r : List UInt8) : wordB (b :: r) = (letB (b.toNat : Int) && (((runE innB (b :: r) 0 : Nat) : Int) == (((b :: r).length : Nat) : Int))) := rfl
theorem wordB_yes {l : List UInt8} (hl : 0 < l.length) (h0 : letB (bt l 0) = true) (ha : ∀ j, j < l.length → innB (bt l j) = true) : wordB l = true := by
  cases l with
  | nil => simp at hl
  | cons b r =>
    have e : runE innB (b :: r) 0 = (b :: r).length := by
      unfold runE
      rw [List.drop_zero, runN_at innB (b :: r) (b :: r).length (Nat.le_refl _) ha (.inl rfl), Nat.zero_add]
    have h : letB (b.toNat : Int) = true := h0
    rw [wordB_cons, h, e]
    simp
theorem wordB_no0 {l : List UInt8} (h0 : letB (bt l 0) = false) : wordB l = false := by
  cases l with
  | nil => rfl
  | cons b r =>
    have h : letB (b.toNat : Int) = false := h0
    rw [wordB_cons, h, Bool.false_and]
theorem wordB_no {l : List UInt8} {j : Nat} (hj : j < l.length) (h : innB (bt l j) = false) : wordB l = false := by
  cases l with
  | nil => rfl
  | cons b r =>
    have := runN_stop innB (b :: r) j hj h
    have hj' : j < r.length + 1 := by simpa using hj
    rw [wordB_cons]
    unfold runE
    rw [List.drop_zero, Nat.zero_add]
    have hne : (((runN innB (b :: r) : Nat) : Int) == (((b :: r).length : Nat) : Int)) = false := by
      rw [beq_eq_false_iff_ne, List.length_cons]
      omega
    rw [hne, Bool.and_false]
theorem ba_ne_nil (l : List UInt8) (h : 0 < l.length) : ((⟨l.toArray⟩ : ByteArray) == ⟨#[]⟩) = false := by
  have e := ba_beq l []
  rw [show (⟨([] : List UInt8).toArray⟩ : ByteArray) = ⟨#[]⟩ from rfl] at e
  rw [e]
  cases l with
  | nil => simp at h
  | cons b r => rfl

set_option maxRecDepth 100000 in
set_option maxHeartbeats 4000000 in
theorem rword_any (l : List UInt8) (hl : l.length ≤ 1000000) (w : World) : Calls Tryd.prog 40 #[tx l] w fun e w' => e = .returned (.bool (wordB l)) ∧ Below w.heap.size w w' := by
  by_cases h0 : 0 < l.length
  · have Y := Lib.hid (wordB_yes h0)
    have N0 := Lib.hid (wordB_no0 (l := l))
    have N1 := Lib.hid (fun j hj => wordB_no (l := l) (j := j) hj)
    have LT := Lib.hid (fun j W => rletter_any (bt l j) (bt0 l j) (bt1 l j) W)
    have DG := Lib.hid (fun j W => rdigit_any (bt l j) (bt0 l j) (bt1 l j) W)
    have hs := ba_ne_nil l h0
    have hs2 : (l == []) = false := by
      cases l with
      | nil => simp at h0
      | cons b r => rfl
    have hs3 : ((⟨l.toArray⟩ : ByteArray) != ⟨#[]⟩) = true := by unfold bne; rw [hs]; rfl
    generalize wordB l = R at *
    go_enter Tryd.func40, Tryd.ntmps40
    go_wp2
    go_loopw [6] (fun iv wr => ∃ i : Nat, i ≤ l.length ∧ iv = .int .i64 (i : Int) ∧ Hid ((0 < i → letB (bt l 0) = true) ∧ ∀ j, j < i → innB (bt l j) = true) ∧ Hid (Below w.heap.size w wr)) (fun iv _ => l.length - (intOf iv).toNat)
    case atStart => exact ⟨0, Nat.zero_le _, rfl, Lib.hid ⟨fun h => absurd h (by omega), fun j hj => absurd hj (by omega)⟩, Lib.hid (Below.refl _ _)⟩
    case round =>
      obtain ⟨i, hi, rfl, HA, HB⟩ := hrel
      by_cases hlt : i < l.length
      · have i0 : (0 : Int) ≤ (i : Int) := by omega
        have i1 : (i : Int) < (l.length : Int) := by omega
        have e1 := bt_of hlt
        have LT1 := Lib.hid (LT.out i)
        have DG1 := Lib.hid (DG.out i)
        have IN : Hid (innB (bt l i) = (letB (bt l i) || digB (bt l i))) := Lib.hid rfl
        have NN0 := Lib.hid N0.out
        have NN1 := Lib.hid (N1.out i hlt)
        have L0 : Hid (i = 0 → letB (bt l 0) = letB (bt l i)) := Lib.hid (fun h => by rw [h])
        rw [← e1] at LT1 DG1
        obtain ⟨x, hx⟩ : ∃ x, letB (bt l i) = x := ⟨_, rfl⟩
        obtain ⟨y, hy⟩ : ∃ y, digB (bt l i) = y := ⟨_, rfl⟩
        have hx' := hx
        have hy' := hy
        rw [← e1] at hx' hy'
        rw [hx'] at LT1
        rw [hy'] at DG1
        rw [hx, hy] at IN
        rw [hx] at L0
        clear hx hy hx' hy' e1 N0 N1 LT DG Y
        cases x with
        | true =>
          have HA2 : Hid ((0 < i + 1 → letB (bt l 0) = true) ∧ ∀ j, j < i + 1 → innB (bt l j) = true) := Lib.hid ⟨fun _ => by
            by_cases hz : i = 0
            · exact L0.out hz
            · exact HA.out.1 (by omega), fun j hj => by
            by_cases hji : j = i
            · subst hji; rw [IN.out]; rfl
            · exact HA.out.2 j (by omega)⟩
          clear DG1 NN0 NN1
          go_wp2_with (go_at_call 55; refine (LT1.out _).mono ?_; rintro e w2 ⟨rfl, rfl⟩)
          go_roundw
          case rel => exact ⟨i + 1, by omega, by go_num, HA2, HB⟩
          case measure => simp [intOf]; omega
        | false =>
          by_cases hz : i = 0
          · have hR := Lib.hid (NN0.out (L0.out hz))
            subst hz
            clear DG1
            go_wp2_with (go_at_call 55; refine (LT1.out _).mono ?_; rintro e w2 ⟨rfl, rfl⟩)
            go_ret
            exact ⟨by rw [hR.out]; rfl, HB.out⟩
          · have hz2 : ((i : Int) == 0) = false := by simp; omega
            cases y with
            | true =>
              have HA2 : Hid ((0 < i + 1 → letB (bt l 0) = true) ∧ ∀ j, j < i + 1 → innB (bt l j) = true) := Lib.hid ⟨fun _ => HA.out.1 (by omega), fun j hj => by
                by_cases hji : j = i
                · subst hji; rw [IN.out]; rfl
                · exact HA.out.2 j (by omega)⟩
              go_wp2_with (first
                | (go_at_call 55; refine (LT1.out _).mono ?_; rintro e w2 ⟨rfl, rfl⟩)
                | (go_at_call 56; refine (DG1.out _).mono ?_; rintro e w2 ⟨rfl, rfl⟩))
              go_roundw
              case rel => exact ⟨i + 1, by omega, by go_num, HA2, HB⟩
              case measure => simp [intOf]; omega
            | false =>
              have hR := Lib.hid (NN1.out (by rw [IN.out]; rfl))
              go_wp2_with (first
                | (go_at_call 55; refine (LT1.out _).mono ?_; rintro e w2 ⟨rfl, rfl⟩)
                | (go_at_call 56; refine (DG1.out _).mono ?_; rintro e w2 ⟨rfl, rfl⟩))
              go_ret
              exact ⟨by rw [hR.out]; rfl, HB.out⟩
      · obtain rfl : i = l.length := by omega
        have hR := Lib.hid (Y.out (HA.out.1 h0) HA.out.2)
        go_wp2_with fail
        go_ret
        exact ⟨by rw [hR.out]; first | rfl | simp_all, HB.out⟩
  · obtain rfl : l = [] := List.eq_nil_of_length_eq_zero (by omega)
    go_enter Tryd.func40, Tryd.ntmps40
    go_wp2
    go_loopw [6] (fun iv wr => iv = .int .i64 0 ∧ wr = w) (fun iv _ => 0)
    case atStart => exact ⟨rfl, rfl⟩
    case round =>
      obtain ⟨rfl, rfl⟩ := hrel
      go_wp2_with fail
      go_ret
      exact ⟨rfl, Below.refl _ _⟩

set_option maxRecDepth 100000 in
set_option maxHeartbeats 4000000 in
theorem rname_any (l : List UInt8) (hl : l.length ≤ 1000000) (w : World) : Calls Tryd.prog 22 #[tx l] w fun e w' => e = .returned (.bool (nameB l)) ∧ Below w.heap.size w w' := by
  have KY := Lib.hid (rkey_any l hl w)
  have IW := Lib.hid (fun W => rword_any l hl W)
  unfold nameB
  obtain ⟨b, k, hb, hk⟩ : ∃ b k, (keyF l).isNone = !b ∧ keyR l = .tuple #[tx k, .bool b] := by
    cases hk : keyF l with
    | some k => exact ⟨true, k, rfl, by unfold keyR; rw [hk]⟩
    | none => exact ⟨false, [], rfl, by unfold keyR; rw [hk]⟩
  rw [hk] at KY
  rw [hb]
  clear hb hk
  generalize wordB l = x at *
  obtain ⟨y, hy⟩ : ∃ y, decide ((l.length : Int) ≤ 24) = y := ⟨_, rfl⟩
  rw [hy]
  cases b <;> cases x <;> cases y <;> (
    go_enter Tryd.func22, Tryd.ntmps22
    go_wp2_with (first
      | (go_at_call 20; refine KY.out.mono ?_; rintro e w1 ⟨rfl, hb⟩; have B1 := Lib.hid hb; clear hb)
      | (go_at_call 40; refine (IW.out _).mono ?_; rintro e w2 ⟨rfl, hb⟩; have B2 := Lib.hid (B1.out.trans (hb.mono B1.out.size)); clear hb))
    go_ret
    exact ⟨by first | rfl | (simp; done) | trivial, B2.out⟩)
end Go.Proofs.YtblcfjliabeaiaaDoor
