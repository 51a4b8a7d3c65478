/-
  slices.Equal of the same bytes; the law BlakeSums, walked.
-/
import Derived.Test.YtbemnolgolecaaaDoorU1
import Derived.Test.YtbemnolgolecaaaDoorEq
import Derived.BigQuiet
namespace Go.Proofs.YtbemnolgolecaaaDoor
open Go.RowKit
attribute [local go_sem ↓] Tryd.z42 Tryd.z70 Tryd.z27 Tryd.z45 Tryd.z37 Tryd.z38

theorem own_max {w : World} {base n c : Nat} {A : Option Addr} {zs : List Int} (h : Own w base A n c zs) : c ≤ 9223372036854775807 := by
  rcases h.1.2 with ⟨hv, hn⟩ | ⟨g, cap, cur, hv, hb, hh, hnc, hm, _⟩
  · injection hv with h1 h2 h3
    omega
  · injection hv with h1 h2 h3
    unfold maxLen at hm
    omega
theorem bdU {B : Nat} {w w' : World} (h : Below B w w') (n : Nat) : Below B w (w'.drewN n) := ⟨h.os, h.tape, h.output, h.size, h.block⟩
set_option maxHeartbeats 1000000 in
theorem sl_equal (A A' : Option Addr) (n c c' : Nat) (zs : List Int) (w : World) (B B' : Nat) (h : By w B A n zs) (h' : By w B' A' n zs) (hn : n ≤ 9223372036854775807) :
    Calls Tryd.prog 14 #[.slice A n c, .slice A' n c'] w fun e w' => e = .returned (.bool true) ∧ Below w.heap.size w w' := by
  have H0 : Hid (By w B A n zs ∧ By w B' A' n zs ∧ Below w.heap.size w w) := ⟨h, h', Below.refl _ w⟩
  have q0 : ((n : Int) != (n : Int)) = false := by simp
  clear h h'
  go_enter Tryd.func14, Tryd.ntmps14
  go_wp2_with fail
  go_loopw [13] (fun i wr => ∃ k : Nat, k ≤ n ∧ i = .int .i64 k ∧ By wr B A n zs ∧ By wr B' A' n zs ∧ Below w.heap.size w wr) (fun i _ => n - (intOf i).toNat)
  case atStart => exact ⟨0, Nat.zero_le _, rfl, H0.out⟩
  case round =>
    obtain ⟨k, hk, rfl, h1, h2, h3⟩ := hrel
    clear H0
    by_cases hlt : k < n
    · have kI : (k : Int) < n := by omega
      have kI0 : (0 : Int) ≤ (k : Nat) := by omega
      obtain ⟨b, o, hA, _, hc⟩ := h1.2.2 (by omega)
      obtain ⟨b', o', hA', _, hc'⟩ := h2.2.2 (by omega)
      have c1 := hc k hlt
      have c2 := hc' k hlt
      have H1 := Lib.hid h1
      have H2 := Lib.hid h2
      have H3 := Lib.hid h3
      have A0 := Lib.hid hA
      have A1 := Lib.hid hA'
      subst hA hA'
      clear hc hc' h1 h2 h3
      generalize zs.getD k 0 = z at *
      have z0 : (z != z) = false := by simp
      go_wp2_with fail
      go_quiet (fail)
      go_wp2_with fail
      exact ⟨⟨k + 1, by omega, by go_num, H1.out.drewN _, H2.out.drewN _, bdU H3.out _⟩, by simp [intOf]; omega⟩
    · have kI : ¬ (k : Int) < n := by omega
      have H3 := Lib.hid h3
      clear h1 h2 h3
      go_wp2_with fail
      go_ret
      exact ⟨rfl, H3.out⟩

/-- The slice '.slice A n c' holds rows of bytes, all below block B. -/
def Rws (w : World) (B : Nat) (A : Option Addr) (n : Nat) : Prop :=
  0 < n → ∃ b o, A = some ⟨b, o, none⟩ ∧ b < B ∧ ∀ i, i < n → ∃ A' n' c' zs, w.cell? ⟨b, o + i, none⟩ = some (.slice A' n' c') ∧ By w B A' n' zs ∧ n' ≤ c'
theorem Rws.below {w w' : World} {B : Nat} {A : Option Addr} {n : Nat} (h : Rws w B A n) (hb : Below B w w') : Rws w' B A n := fun hn => by
  obtain ⟨b, o, hA, hB, hc⟩ := h hn
  refine ⟨b, o, hA, hB, fun i hi => ?_⟩
  obtain ⟨A', n', c', zs, h1, h2, h3⟩ := hc i hi
  exact ⟨A', n', c', zs, (hb.cell (p := ⟨b, _, none⟩) hB).trans h1, h2.below hb, h3⟩
structure MW13 (w0 : World) (A : Option Addr) (n : Nat) (w : World) : Prop where
  below : Below w0.heap.size w0 w
  gl : Gl w
  rws : Rws w w0.heap.size A n
theorem MW13.low {w0 w w' : World} {A : Option Addr} {n : Nat} (s : MW13 w0 A n w) (k : Below w.heap.size w w') : MW13 w0 A n w' := ⟨s.below.trans (k.mono s.below.size), s.gl.low k, s.rws.below (k.mono s.below.size)⟩
theorem sumF_len (zs : List Int) : (sumF zs).length = 32 := idL_len _ 8

set_option maxRecDepth 100000 in
set_option maxHeartbeats 2000000 in
theorem sums_walk (A : Option Addr) (n c : Nat) (w : World) (hR : Rws w w.heap.size A n) (hn : n ≤ 9223372036854775807) (hG : Gl w) :
    Calls Tryd.prog 3 #[.slice A n c] w fun e w' => e = .returned (.bool true) ∧ Below w.heap.size w w' := by
  have X0 : Hid (MW13 w A n w) := ⟨Below.refl _ w, hG, hR⟩
  have WK := Lib.hid (wakes_any w hG)
  clear hR hG
  go_enter Tryd.func3, Tryd.ntmps3
  go_wp2_with fail
  refine WK.out.mono ?_
  rintro e w1 ⟨rfl, hb1⟩
  have X1 := Lib.hid (X0.out.low hb1)
  clear WK X0 hb1
  go_wp2_with fail
  go_loopw [10] (fun i wr => ∃ k : Nat, k ≤ n ∧ k ≤ 8 ∧ i = .int .i64 k ∧ MW13 w A n wr) (fun i _ => 8 - (intOf i).toNat)
  case atStart => exact ⟨0, Nat.zero_le _, Nat.zero_le _, rfl, X1.out⟩
  case round =>
    obtain ⟨k, hk, hk8, rfl, hx⟩ := hrel
    have X := Lib.hid hx
    clear X1 hx
    by_cases hlt : k < n
    · have kI : (k : Int) < n := by omega
      have kI0 : (0 : Int) ≤ (k : Nat) := by omega
      obtain ⟨b, o, hA, hbB, hc⟩ := X.out.rws (by omega)
      obtain ⟨A', n', c', zs, hcell, hby, hnc⟩ := hc k hlt
      have HBY := Lib.hid hby
      have HNC := Lib.hid hnc
      have hA0 := Lib.hid hA
      subst hA
      clear hc hby hbB hnc
      by_cases h8 : k = 8
      · have h8b : ((k : Int) == 8) = true := beq_iff_eq.2 (by omega)
        clear h8
        go_wp2_with fail
        go_ret
        exact ⟨rfl, X.out.below⟩
      · have h8' : ¬ ((k : Int) = 8) := by omega
        have h8b : ((k : Int) == 8) = false := beq_eq_false_iff_ne.2 h8'
        go_wp2_with fail
        refine (few_any A' n' c' zs wr w.heap.size HBY.out HNC.out).mono ?_
        rintro e w2 ⟨A1, c1, rfl, ho, hb2⟩
        have hm1 : min n' 1000 ≤ 1000 := by omega
        have FE := Lib.hid (fun W (hb : By W w.heap.size A' n' zs) => few_any A' n' c' zs W w.heap.size hb HNC.out)
        have YL : Hid ((zs.take 1000).length = min n' 1000) := ho.by.1
        generalize min n' 1000 = m at *
        generalize zs.take 1000 = ys at *
        have mI : m ≤ 9223372036854775807 := by omega
        have HM1 := Lib.hid hm1
        have CAP := Lib.hid ho.cap
        have MAX := Lib.hid (own_max ho)
        have Y2 := Lib.hid ho.by
        have X2 := Lib.hid (X.out.low hb2)
        have Z2 := Lib.hid (HBY.out.below (hb2.mono X.out.below.size))
        have DL : Hid ((sumF ys).length = 32) := sumF_len ys
        have hne := fun w => ne27 w (sumF ys) (sumF ys) DL.out DL.out
        clear X HBY ho hb2 hcell
        go_wp2_with fail
        refine (sum_any A1 m c1 ys w2 Y2.out (by have := HM1.out; omega) CAP.out MAX.out X2.out.gl).mono ?_
        rintro e w3 ⟨rfl, hb3⟩
        have X3 := Lib.hid (X2.out.low hb3)
        have Y3 := Lib.hid ((Y2.out.below hb3).more hb3.size)
        have Z3 := Lib.hid (Z2.out.below (hb3.mono X2.out.below.size))
        clear X2 Y2 Z2 hb3 CAP MAX
        go_wp2_with fail
        refine (FE.out _ Z3.out).mono ?_
        rintro e w4 ⟨A2, c2, rfl, ho4, hb4⟩
        have X4 := Lib.hid (X3.out.low hb4)
        have Y4 := Lib.hid ((Y3.out.below hb4).more hb4.size)
        have Z4 := Lib.hid (Z3.out.below (hb4.mono X3.out.below.size))
        have V4 := Lib.hid ho4.by
        clear X3 Y3 Z3 hb4 ho4
        go_wp2_with fail
        refine (refsum_any A2 m c2 ys w4 V4.out HM1.out).mono ?_
        rintro e w5 ⟨rfl, hb5⟩
        have X5 := Lib.hid (X4.out.low hb5)
        have Y5 := Lib.hid ((Y4.out.below hb5).more hb5.size)
        have Z5 := Lib.hid (Z4.out.below (hb5.mono X4.out.below.size))
        clear X4 Y4 Z4 V4 hb5
        go_wp2_with fail
        refine (FE.out _ Z5.out).mono ?_
        rintro e w6 ⟨A3, c3, rfl, ho6, hb6⟩
        have X6 := Lib.hid (X5.out.low hb6)
        have Y6 := Lib.hid ((Y5.out.below hb6).more hb6.size)
        have V6 := Lib.hid ho6.by
        clear X5 Y5 Z5 hb6 ho6 FE
        go_wp2_with fail
        refine (sl_equal A1 A3 m c1 c3 ys w6 _ _ Y6.out V6.out mI).mono ?_
        rintro e w7 ⟨rfl, hb7⟩
        have X7 := Lib.hid (X6.out.low hb7)
        clear X6 Y6 V6 hb7
        go_wp2_with fail
        exact ⟨⟨k + 1, by omega, by omega, by go_num, X7.out⟩, by simp [intOf]; omega⟩
    · have kI : ¬ ((k : Int) < n) := by omega
      go_wp2_with fail
      go_ret
      exact ⟨rfl, X.out.below⟩

end Go.Proofs.YtbemnolgolecaaaDoor
