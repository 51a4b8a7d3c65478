/-
  Rows of bytes, opened; the law ConfCodes: its walk.
-/
import Derived.Test.YtfclppopelmdgaaDoorOpC
import Derived.Test.YtfclppopelmdgaaDoorOpB
import Derived.Test.YtfclppopelmdgaaDoorD4
namespace Go.Proofs.YtfclppopelmdgaaDoor
open Go.ChangeShapes Go.WideShapes Go.ChangeAt Go.RowKit Go.Deep
attribute [local go_sem ↓] field27

/-- Rows of bytes that came in. -/
def Rws (w : World) (B : Nat) (A : Option Addr) (n : Nat) : Prop :=
  0 < n → ∃ b o, A = some ⟨b, o, none⟩ ∧ b < B ∧ ∀ i, i < n → ∃ A' k c' zs, w.cell? ⟨b, o + i, none⟩ = some (.slice A' k c') ∧ By w B A' k zs ∧ k ≤ c' ∧ (A' = none → c' = 0) ∧ c' ≤ 9223372036854775807
theorem Rws.below {w w' : World} {B n : Nat} {A : Option Addr} (h : Rws w B A n) (hb : Below B w w') : Rws w' B A n := fun hn => by
  obtain ⟨b, o, e, hl, hc⟩ := h hn
  refine ⟨b, o, e, hl, fun i hi => ?_⟩
  obtain ⟨A', k, c', xs, h1, h2, h3⟩ := hc i hi
  exact ⟨A', k, c', xs, (hb.cell (p := ⟨b, o + i, none⟩) hl).trans h1, h2.below hb, h3⟩
section
variable {H : Type} {enc : TypeId × Value → H} {W : World}
theorem open_rows {a : Option Addr} {len cap : Nat} {d : DataW H} {p : List MemPlace} (h : DataW.Trod enc Tryd.prog W 0 (fun _ => true) true 47 (.slice a len cap) d p) : ∃ _u : Unit, Rws W W.heap.size a len ∧ len ≤ 9223372036854775807 := by
  refine ⟨(), ?_⟩
  obtain ⟨fuel, hf⟩ := h
  rcases open_slice Tryd.underlying47 hf with ⟨hcs, _⟩ | ⟨x, l, c, m, n, D, Pl, hcs, _, hl, hm, hmm, _, hc⟩
  · simp [Value.cells] at hcs
    obtain ⟨rfl, rfl, rfl⟩ := hcs
    exact ⟨fun h => absurd h (by omega), by omega⟩
  · simp [Value.cells] at hcs
    obtain ⟨rfl, rfl, rfl⟩ := hcs
    have hlm : len ≤ m := by rw [hmm]; split <;> omega
    refine ⟨fun hp => ?_, by unfold maxLen at hm; omega⟩
    have hex : ∀ i, i < len → ∃ A' k c' zs, W.cell? (x.add i) = some (.slice A' k c') ∧ Brg W A' k c' zs := fun i hi => by
      obtain ⟨cs', hc', ht'⟩ := hc i (by omega)
      obtain ⟨_, hlen, hat⟩ := World.cells?_some hc'
      rw [Tryd.cells48] at hlen hat
      match cs', hlen with
      | [v], _ =>
        obtain ⟨A', k, c', zs, rfl, r⟩ := open_bytes0 ht'
        have h0 := hat 0 (by omega)
        rw [show (x.add (i * 1)).add 0 = x.add i by rw [Nat.mul_one]; rfl] at h0
        exact ⟨A', k, c', zs, h0, r⟩
    obtain ⟨_, _, _, _, h0, _⟩ := hex 0 hp
    obtain ⟨b, o, rfl, hb⟩ := addr_of h0
    refine ⟨b, o, rfl, hb, fun i hi => ?_⟩
    obtain ⟨A', k, c', zs, h1, r⟩ := hex i hi
    rw [add_at] at h1
    exact ⟨A', k, c', zs, h1, r.by_, r.nc, r.nil, r.cm⟩
end
theorem enc_wrong {X : List Int} (h : rightC X = false) : encL X = [] ∧ chkE X = 180 := by
  unfold rightC at h
  have hg : grp X = 0 := by simpa using h
  unfold encL chkE
  rw [if_pos hg, if_pos hg]
  exact ⟨rfl, rfl⟩
theorem enc_good {X : List Int} (h : rightC X = true) : grp X ≠ 0 ∧ chkE X = 0 ∧ (encL X).length ≤ 6 := by
  unfold rightC at h
  have hg : grp X ≠ 0 := by simpa using h
  refine ⟨hg, ?_, enc_len hg⟩
  unfold chkE
  rw [if_neg hg]

set_option maxRecDepth 100000 in
set_option maxHeartbeats 16000000 in
theorem codes_walk (A : Option Addr) (n c : Nat) (A1 : Option Addr) (n1 c1 : Nat) (_u _u2 : Unit) (w : World) (h0 : Cfs w w.heap.size A n ∧ n ≤ 9223372036854775807) (h1 : Rws w w.heap.size A1 n1 ∧ n1 ≤ 9223372036854775807) (hG : Gl w) :
    Calls Tryd.prog 6 #[.slice A n c, .slice A1 n1 c1] w fun e w' => e = .returned (.bool true) ∧ Below w.heap.size w w' := by
  have WK := Lib.hid (wakes_any w hG)
  have GW := Lib.hid (fun W (hW : Below w.heap.size w W) => hG.low hW)
  have CF := Lib.hid (fun W (hW : Below w.heap.size w W) => h0.1.below hW)
  have RW' := Lib.hid (fun W (hW : Below w.heap.size w W) => h1.1.below hW)
  have hn63 : (n : Int) ≤ 9223372036854775807 := by have := h0.2; omega
  have hm63 : (n1 : Int) ≤ 9223372036854775807 := by have := h1.2; omega
  clear h0 h1 hG
  go_enter Tryd.func6, Tryd.ntmps6
  go_wp2_with (go_at_call 10; refine WK.out.mono ?_; rintro e v0 ⟨rfl, hb0⟩; have HB0 := Lib.hid hb0; clear hb0)
  go_loopw [21] (fun i wr => ∃ k : Nat, k ≤ n ∧ k ≤ 12 ∧ i = .int .i64 (k : Int) ∧ Hid (Below w.heap.size w wr)) (fun i _ => n - (intOf i).toNat)
  case atStart => exact ⟨0, Nat.zero_le _, by omega, rfl, HB0⟩
  case round =>
    obtain ⟨k, hk, hk12, rfl, IB⟩ := hrel
    have k0 : (0 : Int) ≤ (k : Int) := by omega
    by_cases hlt : k < n
    · obtain ⟨b, o, rfl, hb, hc⟩ := CF.out _ IB.out (by omega)
      obtain ⟨Ax, nx, cx, xs, c1', hx1, hx2, hx3, hx4⟩ := hc k hlt
      clear hc
      by_cases h12 : k = 12
      · have hq12 : ((k : Int) == 12) = true := by rw [h12]; rfl
        have hI12 : (k : Int) < (n : Int) := by omega
        have hb12 : decide ((k : Int) < (n : Int)) = true := decide_eq_true hI12
        clear h12
        have IB2 : Hid (Below w.heap.size w (wr.alloc (.cells #[.slice Ax nx cx] 27))) := Lib.hid (IB.out.alloc (by have := IB.out.size; omega) _)
        clear hx1 hx3
        go_wp2
        go_loopw [57] (fun i wr => ∃ j : Nat, j ≤ n1 ∧ j ≤ 12 ∧ i = .int .i64 (j : Int) ∧ Hid (Below w.heap.size w wr)) (fun i _ => n1 - (intOf i).toNat)
        case atStart => exact ⟨0, Nat.zero_le _, by omega, rfl, IB2⟩
        case round =>
          obtain ⟨j, hj, hj12, rfl, QB⟩ := hrel
          have j0 : (0 : Int) ≤ (j : Int) := by omega
          by_cases hjl : j < n1
          · obtain ⟨b1, o1, rfl, hb1, hc1⟩ := RW'.out _ QB.out (by omega)
            obtain ⟨Ar, nr, cr, rs, d1, hr1, hr2, hr3, hr4⟩ := hc1 j hjl
            clear hc1
            by_cases hj2 : j = 12
            · subst hj2
              go_wp2
              go_ret
              exact ⟨rfl, QB.out⟩
            have hj2' : ((j : Int) == 12) = false := by simp; omega
            have hEE : (decE (rs.take 300) != decE (rs.take 300)) = false := by simp
            have hnr : (nr : Int) ≤ 9223372036854775807 := by omega
            cases Ar with
            | none =>
              obtain ⟨rfl, rfl⟩ := hr1.zero
              obtain rfl := hr3 rfl
              have ha0 : Below wr.heap.size wr (wr.alloc (.cells #[] 5)) := (Below.refl _ _).alloc (Nat.le_refl _) _
              have H5 := Lib.hid (QB.out.trans (ha0.mono QB.out.size))
              have Y5 : Hid (By (wr.alloc (.cells #[] 5)) (wr.alloc (.cells #[] 5)).heap.size (some ⟨wr.heap.size, 0, none⟩) 0 ([].take 300)) := Lib.hid ⟨rfl, fun j => by simp, fun h => absurd h (by omega)⟩
              have DE := Lib.hid (decode_any (some ⟨wr.heap.size, 0, none⟩) 0 0 _ _ _ Y5.out (by omega) (by omega) (by omega) (Nat.le_refl _) (GW.out _ H5.out))
              clear hr1 hr2 hr3 hr4 ha0
              obtain ⟨rs, hrs⟩ : ∃ rs : List Int, rs = [] := ⟨_, rfl⟩
              rw [← hrs] at Y5 DE hEE
              clear hrs
              go_wp2_with (first
                | (go_at_call 33; refine DE.out.mono ?_; rintro e w6 ⟨A6, n6, c6, rfl, hm6, hn6, hb6⟩; have ha : Below w6.heap.size w6 (w6.alloc (.cells #[.slice A6 n6 c6] 27)) := (Below.refl _ _).alloc (Nat.le_refl _) _; have H6 := Lib.hid (H5.out.trans ((hb6.trans (ha.mono hb6.size)).mono H5.out.size)); have C6 := Lib.hid (Bc.new_ (c := c6) hm6.is_ (by omega : n6 ≤ 1000000)); have Y6 := Lib.hid ((Y5.out.below (hb6.trans (ha.mono hb6.size))).more (Nat.le_trans hb6.size ha.size)); have RD := Lib.hid (refdecode_any (some ⟨wr.heap.size, 0, none⟩) 0 0 _ _ _ Y6.out (by omega) (Nat.le_refl _)); have xx6 := C6.out.cell; clear hb6 hm6 hn6 ha)
                | (go_at_call 34; refine RD.out.mono ?_; rintro e w7 ⟨A7, n7, c7, rfl, hm7, hn7, hb7⟩; have ha : Below w7.heap.size w7 (w7.alloc (.cells #[.slice A7 n7 c7] 27)) := (Below.refl _ _).alloc (Nat.le_refl _) _; have H7 := Lib.hid (H6.out.trans ((hb7.trans (ha.mono hb7.size)).mono H6.out.size)); have C7 := Lib.hid (Bc.new_ (c := c7) hm7.is_ (by omega : n7 ≤ 1000000)); have D7 := Lib.hid ((C6.out.on hb7).on ha); have xx7 := C7.out.cell; have yy7 := D7.out.cell; clear hb7 hm7 hn7 ha)
                | (go_at_call 18; refine (refsame_any A6 A7 n6 c6 n7 c7 _ _ _ _ _ D7.out.is_ C7.out.is_ D7.out.le C7.out.le (Nat.le_refl _) (Nat.le_refl _)).mono ?_; rintro e w8 ⟨rfl, hb8⟩; rw [show (decL (rs.take 300) == decL (rs.take 300)) = true by simp]; have H8 := Lib.hid (H7.out.trans (hb8.mono H7.out.size)); clear hb8))
              go_roundw
              case rel => exact ⟨j + 1, by omega, by omega, by go_num, H8⟩
              case measure => simp [intOf]; omega
            | some a =>
              obtain ⟨m, hm⟩ : ∃ m : Nat, (min (nr : Int) 300).toNat = m := ⟨_, rfl⟩
              have hm1 : m ≤ nr := by omega
              have hm2 : m ≤ 300 := by omega
              have HY := Lib.hid ((hr1.part hm1).below (w' := wr.alloc (.cells #[] 5)) ((Below.refl _ _).alloc QB.out.size _))
              have HT : Hid (rs.take m = rs.take 300) := Lib.hid (by
                by_cases h : nr ≤ 300
                · rw [show m = nr by omega, List.take_of_length_le (by rw [hr1.1]; omega), List.take_of_length_le (by rw [hr1.1]; omega)]
                · rw [show m = 300 by omega])
              have OE : Hid (Own (wr.alloc (.cells #[] 5)) wr.heap.size (some ⟨wr.heap.size, 0, none⟩) 0 0 []) := Lib.hid ⟨World.ownsRow_made wr #[] 0 (Nat.le_refl _) (Nat.zero_le _) rfl, fun j => by simp⟩
              clear hr1 hr3
              go_wp2_with (first
                | (at_builtin; refine append_by rfl (.tmp 64) (.tmp 69) rfl wr.heap.size (some ⟨wr.heap.size, 0, none⟩) 0 0 [] rfl OE.out w.heap.size (some a) m cr (rs.take m) rfl HY.out (fun e => by cases e) (by omega) (by simp) ?_; intro A5 c5 w5 ho5 hg5; rw [Nat.zero_add, List.nil_append, HT.out] at ho5; have hb5 : Below wr.heap.size wr w5 := ((Below.refl _ wr).alloc (Nat.le_refl _) _).grown hg5 (by simp) (by intro k hk; simp [Value.ownBlock] at hk; omega); have Y5 := Lib.hid ho5.by; have NC5 := Lib.hid ho5.cap; have CM5 := Lib.hid (own_cm ho5); have H5 := Lib.hid (QB.out.trans (hb5.mono QB.out.size)); have DE := Lib.hid (decode_any A5 m c5 w5.heap.size _ w5 Y5.out (by omega) NC5.out CM5.out (Nat.le_refl _) (GW.out _ H5.out)); clear ho5 hg5 hb5)
                | (go_at_call 33; refine DE.out.mono ?_; rintro e w6 ⟨A6, n6, c6, rfl, hm6, hn6, hb6⟩; have ha : Below w6.heap.size w6 (w6.alloc (.cells #[.slice A6 n6 c6] 27)) := (Below.refl _ _).alloc (Nat.le_refl _) _; have H6 := Lib.hid (H5.out.trans ((hb6.trans (ha.mono hb6.size)).mono H5.out.size)); have C6 := Lib.hid (Bc.new_ (c := c6) hm6.is_ (by omega : n6 ≤ 1000000)); have Y6 := Lib.hid ((Y5.out.below (hb6.trans (ha.mono hb6.size))).more (Nat.le_trans hb6.size ha.size)); have RD := Lib.hid (refdecode_any A5 m c5 _ _ _ Y6.out (by omega) (Nat.le_refl _)); have xx6 := C6.out.cell; clear hb6 hm6 hn6 ha)
                | (go_at_call 34; refine RD.out.mono ?_; rintro e w7 ⟨A7, n7, c7, rfl, hm7, hn7, hb7⟩; have ha : Below w7.heap.size w7 (w7.alloc (.cells #[.slice A7 n7 c7] 27)) := (Below.refl _ _).alloc (Nat.le_refl _) _; have H7 := Lib.hid (H6.out.trans ((hb7.trans (ha.mono hb7.size)).mono H6.out.size)); have C7 := Lib.hid (Bc.new_ (c := c7) hm7.is_ (by omega : n7 ≤ 1000000)); have D7 := Lib.hid ((C6.out.on hb7).on ha); have xx7 := C7.out.cell; have yy7 := D7.out.cell; clear hb7 hm7 hn7 ha)
                | (go_at_call 18; refine (refsame_any A6 A7 n6 c6 n7 c7 _ _ _ _ _ D7.out.is_ C7.out.is_ D7.out.le C7.out.le (Nat.le_refl _) (Nat.le_refl _)).mono ?_; rintro e w8 ⟨rfl, hb8⟩; rw [show (decL (rs.take 300) == decL (rs.take 300)) = true by simp]; have H8 := Lib.hid (H7.out.trans (hb8.mono H7.out.size)); clear hb8))
              go_roundw
              case rel => exact ⟨j + 1, by omega, by omega, by go_num, H8⟩
              case measure => simp [intOf]; omega
          · obtain rfl : j = n1 := by omega
            go_wp2
            go_ret
            exact ⟨rfl, QB.out⟩
      have h12' : ((k : Int) == 12) = false := by simp; omega
      have IBa : Hid (Below w.heap.size w (wr.alloc (.cells #[.slice Ax nx cx] 27))) := Lib.hid (IB.out.alloc (by have := IB.out.size; omega) _)
      have FX := Lib.hid (few_any Ax nx cx w.heap.size xs (wr.alloc (.cells #[.slice Ax nx cx] 27)) (hx1.below ((Below.refl _ _).alloc IB.out.size _)) hx2 hx3 hx4 IBa.out.size)
      clear hx1 hx2 hx3 hx4
      unfold Few at FX
      generalize xs.take 30 = X at *
      cases hr : rightC X with
      | true =>
        obtain ⟨g1, g2, g3⟩ := enc_good hr
        go_wp2_with (first
          | (go_at_call 12; refine FX.out.mono ?_; rintro e v1 ⟨Px, px, qx, rfl, ho, hn, hb⟩; have ha : Below v1.heap.size v1 (v1.alloc (.cells #[.slice Px px qx] 27)) := (Below.refl _ _).alloc (Nat.le_refl _) _; have H1 := Lib.hid (IBa.out.trans ((hb.trans (ha.mono hb.size)).mono IBa.out.size)); have C1 := Lib.hid (Bc.new_ (c := qx) ho.is_.1 (by omega : px ≤ 1000000)); have x1 := C1.out.cell; have G1 := Lib.hid (GW.out _ H1.out); clear hb ho hn ha)
          | (go_at_call 30; refine (C1.out.encode G1.out).mono ?_; rintro e v2 ⟨Ab, nb, cb, rfl, ho, hb⟩; rw [g2]; have H2 := Lib.hid (H1.out.trans (hb.mono H1.out.size)); have C2 := Lib.hid (C1.out.on hb); have x2 := C2.out.cell; have Y2 := Lib.hid ho.by; have YL := ho.len; have nb6 : nb ≤ 6 := (by rw [← YL]; exact g3); clear YL; clear hb ho)
          | (go_at_call 13; refine (right_any Px px qx _ _ v2 C2.out.is_ C2.out.le (Nat.le_refl _)).mono ?_; rintro e v3 ⟨rfl, hb⟩; rw [hr]; have H3 := Lib.hid (H2.out.trans (hb.mono H2.out.size)); have C3 := Lib.hid (C2.out.on hb); have x3 := C3.out.cell; have Y3 := Lib.hid ((Y2.out.below hb).more hb.size); clear hb)
          | (go_at_call 32; refine (refbytes_any Px px qx _ _ v3 C3.out.is_ (Nat.le_refl _) g1).mono ?_; rintro e v4 ⟨⟨A4, n4, c4, rfl, hy, hn4⟩, hb⟩; have H4 := Lib.hid (H3.out.trans (hb.mono H3.out.size)); have Y4 := Lib.hid ((Y3.out.below hb).more hb.size); have Z4 := Lib.hid hy; have N4 := Lib.hid hn4; clear hb hy hn4)
          | (go_at_call 31; refine (equal_bytes Ab A4 nb cb n4 c4 _ _ _ _ v4 Y4.out Z4.out (by omega) (by have := N4.out; omega)).mono ?_; rintro e v5 ⟨rfl, hb⟩; rw [show (encL X == encL X) = true by simp]; have H5 := Lib.hid (H4.out.trans (hb.mono H4.out.size)); clear hb))
        go_roundw
        case rel => exact ⟨k + 1, by omega, by omega, by go_num, H5⟩
        case measure => simp [intOf]; omega
      | false =>
        obtain ⟨g1, g2⟩ := enc_wrong hr
        go_wp2_with (first
          | (go_at_call 12; refine FX.out.mono ?_; rintro e v1 ⟨Px, px, qx, rfl, ho, hn, hb⟩; have ha : Below v1.heap.size v1 (v1.alloc (.cells #[.slice Px px qx] 27)) := (Below.refl _ _).alloc (Nat.le_refl _) _; have H1 := Lib.hid (IBa.out.trans ((hb.trans (ha.mono hb.size)).mono IBa.out.size)); have C1 := Lib.hid (Bc.new_ (c := qx) ho.is_.1 (by omega : px ≤ 1000000)); have x1 := C1.out.cell; have G1 := Lib.hid (GW.out _ H1.out); clear hb ho hn ha)
          | (go_at_call 30; refine (C1.out.encode G1.out).mono ?_; rintro e v2 ⟨Ab, nb, cb, rfl, ho, hb⟩; rw [g2]; have H2 := Lib.hid (H1.out.trans (hb.mono H1.out.size)); have C2 := Lib.hid (C1.out.on hb); have x2 := C2.out.cell; have Y2 := Lib.hid ho.by; have YL := ho.len; rw [g1] at YL; have nb0 : nb = 0 := (by rw [← YL]; rfl); subst nb0; clear YL; clear hb ho)
          | (go_at_call 13; refine (right_any Px px qx _ _ v2 C2.out.is_ C2.out.le (Nat.le_refl _)).mono ?_; rintro e v3 ⟨rfl, hb⟩; rw [hr]; have H3 := Lib.hid (H2.out.trans (hb.mono H2.out.size)); have C3 := Lib.hid (C2.out.on hb); have x3 := C3.out.cell; have Y3 := Lib.hid ((Y2.out.below hb).more hb.size); clear hb))
        go_roundw
        case rel => exact ⟨k + 1, by omega, by omega, by go_num, H3⟩
        case measure => simp [intOf]; omega
    · obtain rfl : k = n := by omega
      go_wp2
      go_loopw [57] (fun i wr => ∃ j : Nat, j ≤ n1 ∧ j ≤ 12 ∧ i = .int .i64 (j : Int) ∧ Hid (Below w.heap.size w wr)) (fun i _ => n1 - (intOf i).toNat)
      case atStart => exact ⟨0, Nat.zero_le _, by omega, rfl, IB⟩
      case round =>
        obtain ⟨j, hj, hj12, rfl, QB⟩ := hrel
        have j0 : (0 : Int) ≤ (j : Int) := by omega
        by_cases hjl : j < n1
        · obtain ⟨b1, o1, rfl, hb1, hc1⟩ := RW'.out _ QB.out (by omega)
          obtain ⟨Ar, nr, cr, rs, d1, hr1, hr2, hr3, hr4⟩ := hc1 j hjl
          clear hc1
          by_cases hj2 : j = 12
          · subst hj2
            go_wp2
            go_ret
            exact ⟨rfl, QB.out⟩
          have hj2' : ((j : Int) == 12) = false := by simp; omega
          have hEE : (decE (rs.take 300) != decE (rs.take 300)) = false := by simp
          have hnr : (nr : Int) ≤ 9223372036854775807 := by omega
          cases Ar with
          | none =>
            obtain ⟨rfl, rfl⟩ := hr1.zero
            obtain rfl := hr3 rfl
            have ha0 : Below wr.heap.size wr (wr.alloc (.cells #[] 5)) := (Below.refl _ _).alloc (Nat.le_refl _) _
            have H5 := Lib.hid (QB.out.trans (ha0.mono QB.out.size))
            have Y5 : Hid (By (wr.alloc (.cells #[] 5)) (wr.alloc (.cells #[] 5)).heap.size (some ⟨wr.heap.size, 0, none⟩) 0 ([].take 300)) := Lib.hid ⟨rfl, fun j => by simp, fun h => absurd h (by omega)⟩
            have DE := Lib.hid (decode_any (some ⟨wr.heap.size, 0, none⟩) 0 0 _ _ _ Y5.out (by omega) (by omega) (by omega) (Nat.le_refl _) (GW.out _ H5.out))
            clear hr1 hr2 hr3 hr4 ha0
            obtain ⟨rs, hrs⟩ : ∃ rs : List Int, rs = [] := ⟨_, rfl⟩
            rw [← hrs] at Y5 DE hEE
            clear hrs
            go_wp2_with (first
              | (go_at_call 33; refine DE.out.mono ?_; rintro e w6 ⟨A6, n6, c6, rfl, hm6, hn6, hb6⟩; have ha : Below w6.heap.size w6 (w6.alloc (.cells #[.slice A6 n6 c6] 27)) := (Below.refl _ _).alloc (Nat.le_refl _) _; have H6 := Lib.hid (H5.out.trans ((hb6.trans (ha.mono hb6.size)).mono H5.out.size)); have C6 := Lib.hid (Bc.new_ (c := c6) hm6.is_ (by omega : n6 ≤ 1000000)); have Y6 := Lib.hid ((Y5.out.below (hb6.trans (ha.mono hb6.size))).more (Nat.le_trans hb6.size ha.size)); have RD := Lib.hid (refdecode_any (some ⟨wr.heap.size, 0, none⟩) 0 0 _ _ _ Y6.out (by omega) (Nat.le_refl _)); have xx6 := C6.out.cell; clear hb6 hm6 hn6 ha)
              | (go_at_call 34; refine RD.out.mono ?_; rintro e w7 ⟨A7, n7, c7, rfl, hm7, hn7, hb7⟩; have ha : Below w7.heap.size w7 (w7.alloc (.cells #[.slice A7 n7 c7] 27)) := (Below.refl _ _).alloc (Nat.le_refl _) _; have H7 := Lib.hid (H6.out.trans ((hb7.trans (ha.mono hb7.size)).mono H6.out.size)); have C7 := Lib.hid (Bc.new_ (c := c7) hm7.is_ (by omega : n7 ≤ 1000000)); have D7 := Lib.hid ((C6.out.on hb7).on ha); have xx7 := C7.out.cell; have yy7 := D7.out.cell; clear hb7 hm7 hn7 ha)
              | (go_at_call 18; refine (refsame_any A6 A7 n6 c6 n7 c7 _ _ _ _ _ D7.out.is_ C7.out.is_ D7.out.le C7.out.le (Nat.le_refl _) (Nat.le_refl _)).mono ?_; rintro e w8 ⟨rfl, hb8⟩; rw [show (decL (rs.take 300) == decL (rs.take 300)) = true by simp]; have H8 := Lib.hid (H7.out.trans (hb8.mono H7.out.size)); clear hb8))
            go_roundw
            case rel => exact ⟨j + 1, by omega, by omega, by go_num, H8⟩
            case measure => simp [intOf]; omega
          | some a =>
            obtain ⟨m, hm⟩ : ∃ m : Nat, (min (nr : Int) 300).toNat = m := ⟨_, rfl⟩
            have hm1 : m ≤ nr := by omega
            have hm2 : m ≤ 300 := by omega
            have HY := Lib.hid ((hr1.part hm1).below (w' := wr.alloc (.cells #[] 5)) ((Below.refl _ _).alloc QB.out.size _))
            have HT : Hid (rs.take m = rs.take 300) := Lib.hid (by
              by_cases h : nr ≤ 300
              · rw [show m = nr by omega, List.take_of_length_le (by rw [hr1.1]; omega), List.take_of_length_le (by rw [hr1.1]; omega)]
              · rw [show m = 300 by omega])
            have OE : Hid (Own (wr.alloc (.cells #[] 5)) wr.heap.size (some ⟨wr.heap.size, 0, none⟩) 0 0 []) := Lib.hid ⟨World.ownsRow_made wr #[] 0 (Nat.le_refl _) (Nat.zero_le _) rfl, fun j => by simp⟩
            clear hr1 hr3
            go_wp2_with (first
              | (at_builtin; refine append_by rfl (.tmp 64) (.tmp 69) rfl wr.heap.size (some ⟨wr.heap.size, 0, none⟩) 0 0 [] rfl OE.out w.heap.size (some a) m cr (rs.take m) rfl HY.out (fun e => by cases e) (by omega) (by simp) ?_; intro A5 c5 w5 ho5 hg5; rw [Nat.zero_add, List.nil_append, HT.out] at ho5; have hb5 : Below wr.heap.size wr w5 := ((Below.refl _ wr).alloc (Nat.le_refl _) _).grown hg5 (by simp) (by intro k hk; simp [Value.ownBlock] at hk; omega); have Y5 := Lib.hid ho5.by; have NC5 := Lib.hid ho5.cap; have CM5 := Lib.hid (own_cm ho5); have H5 := Lib.hid (QB.out.trans (hb5.mono QB.out.size)); have DE := Lib.hid (decode_any A5 m c5 w5.heap.size _ w5 Y5.out (by omega) NC5.out CM5.out (Nat.le_refl _) (GW.out _ H5.out)); clear ho5 hg5 hb5)
              | (go_at_call 33; refine DE.out.mono ?_; rintro e w6 ⟨A6, n6, c6, rfl, hm6, hn6, hb6⟩; have ha : Below w6.heap.size w6 (w6.alloc (.cells #[.slice A6 n6 c6] 27)) := (Below.refl _ _).alloc (Nat.le_refl _) _; have H6 := Lib.hid (H5.out.trans ((hb6.trans (ha.mono hb6.size)).mono H5.out.size)); have C6 := Lib.hid (Bc.new_ (c := c6) hm6.is_ (by omega : n6 ≤ 1000000)); have Y6 := Lib.hid ((Y5.out.below (hb6.trans (ha.mono hb6.size))).more (Nat.le_trans hb6.size ha.size)); have RD := Lib.hid (refdecode_any A5 m c5 _ _ _ Y6.out (by omega) (Nat.le_refl _)); have xx6 := C6.out.cell; clear hb6 hm6 hn6 ha)
              | (go_at_call 34; refine RD.out.mono ?_; rintro e w7 ⟨A7, n7, c7, rfl, hm7, hn7, hb7⟩; have ha : Below w7.heap.size w7 (w7.alloc (.cells #[.slice A7 n7 c7] 27)) := (Below.refl _ _).alloc (Nat.le_refl _) _; have H7 := Lib.hid (H6.out.trans ((hb7.trans (ha.mono hb7.size)).mono H6.out.size)); have C7 := Lib.hid (Bc.new_ (c := c7) hm7.is_ (by omega : n7 ≤ 1000000)); have D7 := Lib.hid ((C6.out.on hb7).on ha); have xx7 := C7.out.cell; have yy7 := D7.out.cell; clear hb7 hm7 hn7 ha)
              | (go_at_call 18; refine (refsame_any A6 A7 n6 c6 n7 c7 _ _ _ _ _ D7.out.is_ C7.out.is_ D7.out.le C7.out.le (Nat.le_refl _) (Nat.le_refl _)).mono ?_; rintro e w8 ⟨rfl, hb8⟩; rw [show (decL (rs.take 300) == decL (rs.take 300)) = true by simp]; have H8 := Lib.hid (H7.out.trans (hb8.mono H7.out.size)); clear hb8))
            go_roundw
            case rel => exact ⟨j + 1, by omega, by omega, by go_num, H8⟩
            case measure => simp [intOf]; omega
        · obtain rfl : j = n1 := by omega
          go_wp2
          go_ret
          exact ⟨rfl, QB.out⟩
end Go.Proofs.YtfclppopelmdgaaDoor
