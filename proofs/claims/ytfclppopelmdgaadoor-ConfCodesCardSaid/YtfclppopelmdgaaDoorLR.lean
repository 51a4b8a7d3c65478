/-
  The law ConfReturns: its walk.
-/
import Derived.Test.YtfclppopelmdgaaDoorCR
import Derived.Test.YtfclppopelmdgaaDoorLS
namespace Go.Proofs.YtfclppopelmdgaaDoor
open Go.RowKit
attribute [local go_sem ↓] field27

theorem own_cm {w : World} {base n c : Nat} {A : Option Addr} {zs : List Int} (h : Own w base A n c zs) : c ≤ 9223372036854775807 := by
  rcases h.1.2 with ⟨hv, _⟩ | ⟨g, cap, cur, hv, hb, hh, hnc, hm, _⟩
  · injection hv with _ _ h3
    omega
  · injection hv with _ _ h3
    unfold maxLen at hm
    omega
/-- Bytes that came in. -/
structure Brg (w : World) (A : Option Addr) (n c : Nat) (zs : List Int) : Prop where
  by_ : By w w.heap.size A n zs
  nc : n ≤ c
  nil : A = none → c = 0
  cm : c ≤ 9223372036854775807
theorem By.part {w : World} {B : Nat} {A : Option Addr} {n : Nat} {zs : List Int} (h : By w B A n zs) {m : Nat} (hm : m ≤ n) : By w B A m (zs.take m) := by
  refine ⟨by rw [List.length_take, h.1]; omega, h.bs.take m, fun hp => ?_⟩
  obtain ⟨b, o, hA, hb, hcl⟩ := h.2.2 (by omega)
  refine ⟨b, o, hA, hb, fun j hj => ?_⟩
  rw [hcl j (by omega)]
  simp [List.getD, List.getElem?_take, hj]
theorem one_len (n : Nat) {X : List Int} (h : X.length = n) (h1 : X.length = 1) : ((n : Int) == 1) = true := by
  rw [← h, h1]
  rfl

set_option maxRecDepth 100000 in
set_option maxHeartbeats 16000000 in
theorem returns_walk (A : Option Addr) (n c : Nat) (m : Int) (A2 : Option Addr) (n2 c2 : Nat) (xs zs : List Int) (w : World) (h0 : Arg w A n c xs) (h2 : Brg w A2 n2 c2 zs) (hG : Gl w) :
    Calls Tryd.prog 9 #[.agg #[.slice A n c], .int .i64 m, .slice A2 n2 c2] w fun e w' => e = .returned (.bool true) ∧ Below w.heap.size w w' := by
  have HB0 : Hid (Below w.heap.size w (w.alloc (.cells #[.slice A n c] 27))) := Lib.hid ((Below.refl _ _).alloc (Nat.le_refl _) _)
  have B0 : Hid (Blk (w.alloc (.cells #[.slice A n c] 27)) w.heap.size 27 #[.slice A n c]) := Lib.hid (Blk.new _ _ _)
  have WK := Lib.hid (wakes_any _ (hG.low HB0.out))
  have FW := Lib.hid (fun W (hW : Below w.heap.size w W) => h0.few hW)
  have GW := Lib.hid (fun W (hW : Below w.heap.size w W) => hG.low hW)
  have YY := Lib.hid h2.by_
  have CX : Hid (∀ W v, Blk W w.heap.size 27 #[v] → W.cell? ⟨w.heap.size, 0, none⟩ = some v ∧ W.frozen? ⟨w.heap.size, 0, none⟩ = false) := Lib.hid (fun W v h => ⟨h.cell 0, h.frozen 0⟩)
  have nc2 := h2.nc
  have nil2 := Lib.hid h2.nil
  have cm2 := h2.cm
  have HYL := Lib.hid h2.by_.1
  clear h0 h2 hG
  go_enter Tryd.func9, Tryd.ntmps9
  go_upto_region 4 with (first
    | (go_at_call 10
       refine WK.out.mono ?_
       rintro e v0 ⟨rfl, hb⟩
       have HB1 := Lib.hid (HB0.out.trans (hb.mono HB0.out.size))
       have B1 := Lib.hid (B0.out.below hb B0.out.lt)
       obtain ⟨x1, f1⟩ := CX.out _ _ B1.out
       clear hb)
    | (go_at_call 12
       refine (FW.out _ HB1.out).mono ?_
       rintro e v1 ⟨Pc, pc, qc, rfl, ho, hn, hb⟩
       have HB2 := Lib.hid (HB1.out.trans (hb.mono HB1.out.size))
       have B2 := Lib.hid (B1.out.below hb B1.out.lt)
       obtain ⟨x2, f2⟩ := CX.out _ _ B2.out
       have HO := Lib.hid (ho.setFar (p := ⟨w.heap.size, 0, none⟩) B1.out.lt (.slice Pc pc qc))
       have HN := Lib.hid hn
       clear hb ho hn x1 f1))
  have HB3 : Hid (Below w.heap.size w (v1.setCell ⟨w.heap.size, 0, none⟩ (.slice Pc pc qc))) := Lib.hid (HB2.out.setCell (p := ⟨w.heap.size, 0, none⟩) (Nat.le_refl _) _)
  have Cc4 : Hid (Bc (v1.setCell ⟨w.heap.size, 0, none⟩ (.slice Pc pc qc)) w.heap.size Pc pc qc (xs.take 30)) := Lib.hid ⟨B2.out.set_ 0 _, HO.out.is_.1, by have := HN.out; omega⟩
  have PL := Lib.hid HO.out.is_.1.1
  generalize v1.setCell ⟨w.heap.size, 0, none⟩ (.slice Pc pc qc) = v4 at *
  generalize xs.take 30 = X at *
  have HB4 := HB3
  have G4 := Lib.hid (GW.out _ HB4.out)
  have Yr4 := Lib.hid ((YY.out.below HB4.out).more HB4.out.size)
  obtain ⟨k, hk⟩ : ∃ k : Nat, (min (n2 : Int) 300).toNat = k := ⟨_, rfl⟩
  have hk1 : k ≤ n2 := by omega
  have hk2 : k ≤ 300 := by omega
  have Yq4 := Lib.hid (Yr4.out.part hk1)
  have HT : Hid (zs.take k = zs.take 300) := Lib.hid (by
    by_cases h : n2 ≤ 300
    · rw [show k = n2 by omega, List.take_of_length_le (by rw [HYL.out]; omega), List.take_of_length_le (by rw [HYL.out]; omega)]
    · rw [show k = 300 by omega])
  rw [HT.out] at Yq4
  have hn63 : (n2 : Int) ≤ 9223372036854775807 := by omega
  have K5 : k ≤ c2 ∧ k ≤ 1000000 ∧ c2 ≤ 9223372036854775807 := by omega
  have KK := Lib.hid K5
  clear K5 x2 f2 HB0 HB1 HB2 HB3 B0 B1 B2 HO FW GW YY HT CX
  have xxc4 := Cc4.out.cell
  by_cases hd : decE (zs.take 300) = 0
  · obtain ⟨d1, d2, d3⟩ := dec_enc hd
    have hn6 : n2 ≤ 6 := by rw [← HYL.out]; exact d1
    have DL := Lib.hid (decL_len hd).1
    by_cases hx : grp X = 0
    · have hc : chkE X = 180 := by unfold chkE; rw [if_pos hx]
      have FL0 : Hid True := Lib.hid trivial
      have FL1 : Hid True := Lib.hid trivial
      have FL2 : Hid True := Lib.hid trivial
      have FL3 : Hid True := Lib.hid trivial
      have FL4 : Hid True := Lib.hid trivial
      go_wp2_with (first
        | (have fl := FL0; clear FL0
           go_at_call 33
           have CT := decode_any A2 k c2 _ _ _ Yq4.out KK.out.2.1 KK.out.1 KK.out.2.2 (Nat.le_refl _) G4.out
           rw [hd] at CT
           refine CT.mono ?_
           rintro e v5 ⟨Ak4, nk4, ck4, rfl, hm, hn, hb⟩
           have G5 := Lib.hid (G4.out.low hb)
           have HB5 := Lib.hid (HB4.out.trans (hb.mono HB4.out.size))
           have Cc5 := Lib.hid (Cc4.out.on hb)
           have Yq5 := Lib.hid ((Yq4.out.below hb).more hb.size)
           have Yr5 := Lib.hid ((Yr4.out.below hb).more hb.size)
           have ha : Below v5.heap.size v5 (v5.alloc (.cells #[.slice Ak4 nk4 ck4] 27)) := (Below.refl _ _).alloc (Nat.le_refl _) _
           have G6 := Lib.hid (G5.out.low ha)
           have HB6 := Lib.hid (HB5.out.trans (ha.mono HB5.out.size))
           have Cc6 := Lib.hid (Cc5.out.on ha)
           have Yq6 := Lib.hid ((Yq5.out.below ha).more ha.size)
           have Yr6 := Lib.hid ((Yr5.out.below ha).more ha.size)
           have Ce6 := Lib.hid (Bc.new_ (c := ck4) hm.is_ (by omega : nk4 ≤ 1000000))
           clear xxc4
           have xxc6 := Cc6.out.cell
           have xxe6 := Ce6.out.cell
           clear hb ha hm hn CT)
        | (have fl := FL1; clear FL1
           go_at_call 30
           have CT := Ce6.out.encode G6.out
           rw [d2] at CT
           refine CT.mono ?_
           rintro e v7 ⟨Af, nf, cf, rfl, ho, hb⟩
           have G7 := Lib.hid (G6.out.low hb)
           have HB7 := Lib.hid (HB6.out.trans (hb.mono HB6.out.size))
           have Cc7 := Lib.hid (Cc6.out.on hb)
           have Ce7 := Lib.hid (Ce6.out.on hb)
           have Yq7 := Lib.hid ((Yq6.out.below hb).more hb.size)
           have Yr7 := Lib.hid ((Yr6.out.below hb).more hb.size)
           have Yf7 := Lib.hid ho.by
           have YCf := Lib.hid ho.cap
           have YLf := Lib.hid ho.len
           have YMf := Lib.hid (own_cm ho)
           clear xxc6 xxe6
           have xxc7 := Cc7.out.cell
           have xxe7 := Ce7.out.cell
           clear hb ho CT)
        | (have fl := FL2; clear FL2
           go_at_call 14
           refine (Ce7.out.check G7.out).mono ?_
           rintro e v8 ⟨rfl, hb⟩
           rw [d2]
           have G8 := Lib.hid (G7.out.low hb)
           have HB8 := Lib.hid (HB7.out.trans (hb.mono HB7.out.size))
           have Cc8 := Lib.hid (Cc7.out.on hb)
           have Ce8 := Lib.hid (Ce7.out.on hb)
           have Yq8 := Lib.hid ((Yq7.out.below hb).more hb.size)
           have Yr8 := Lib.hid ((Yr7.out.below hb).more hb.size)
           have Yf8 := Lib.hid ((Yf7.out.below hb).more hb.size)
           clear xxc7 xxe7
           have xxc8 := Cc8.out.cell
           have xxe8 := Ce8.out.cell
           clear hb)
        | (have fl := FL3; clear FL3
           go_at_call 31
           refine (equal_bytes Af A2 nf cf n2 c2 _ _ _ zs _ Yf8.out Yr8.out (by have := YLf.out; rw [d3, HYL.out] at this; omega) (by omega)).mono ?_
           rintro e v9 ⟨rfl, hb⟩
           rw [show (encL (decL (zs.take 300)) == zs) = true by rw [d3]; simp]
           have G9 := Lib.hid (G8.out.low hb)
           have HB9 := Lib.hid (HB8.out.trans (hb.mono HB8.out.size))
           have Cc9 := Lib.hid (Cc8.out.on hb)
           have Ce9 := Lib.hid (Ce8.out.on hb)
           have Yq9 := Lib.hid ((Yq8.out.below hb).more hb.size)
           have Yr9 := Lib.hid ((Yr8.out.below hb).more hb.size)
           have Yf9 := Lib.hid ((Yf8.out.below hb).more hb.size)
           clear xxc8 xxe8
           have xxc9 := Cc9.out.cell
           have xxe9 := Ce9.out.cell
           clear hb)
        | (have fl := FL4; clear FL4
           go_at_call 14
           refine (Cc9.out.check G9.out).mono ?_
           rintro e v10 ⟨rfl, hb⟩
           rw [hc]
           have G10 := Lib.hid (G9.out.low hb)
           have HB10 := Lib.hid (HB9.out.trans (hb.mono HB9.out.size))
           have Cc10 := Lib.hid (Cc9.out.on hb)
           have Ce10 := Lib.hid (Ce9.out.on hb)
           have Yq10 := Lib.hid ((Yq9.out.below hb).more hb.size)
           have Yr10 := Lib.hid ((Yr9.out.below hb).more hb.size)
           have Yf10 := Lib.hid ((Yf9.out.below hb).more hb.size)
           clear xxc9 xxe9
           have xxc10 := Cc10.out.cell
           have xxe10 := Ce10.out.cell
           clear hb))
      go_ret
      exact ⟨rfl, HB10.out⟩
    obtain ⟨e1, e2, e3⟩ := enc_dec hx
    have NE : Hid ((encL X).length ≤ 6) := Lib.hid (enc_len hx)
    cases hi : inG (grp X) m with
    | true =>
      rcases gone hx hi with ⟨g1, g2⟩ | ⟨g1, g2, g3, g4, g5, g6⟩
      · have hne : (dropE X m != 0) = true := by simpa using g1
        have hl1 := one_len pc PL.out g2
        clear hx
        have FL0 : Hid True := Lib.hid trivial
        have FL1 : Hid True := Lib.hid trivial
        have FL2 : Hid True := Lib.hid trivial
        have FL3 : Hid True := Lib.hid trivial
        have FL4 : Hid True := Lib.hid trivial
        have FL5 : Hid True := Lib.hid trivial
        have FL6 : Hid True := Lib.hid trivial
        have FL7 : Hid True := Lib.hid trivial
        have FL8 : Hid True := Lib.hid trivial
        have FL9 : Hid True := Lib.hid trivial
        go_wp2_with (first
          | (have fl := FL0; clear FL0
             go_at_call 33
             have CT := decode_any A2 k c2 _ _ _ Yq4.out KK.out.2.1 KK.out.1 KK.out.2.2 (Nat.le_refl _) G4.out
             rw [hd] at CT
             refine CT.mono ?_
             rintro e v5 ⟨Ak4, nk4, ck4, rfl, hm, hn, hb⟩
             have G5 := Lib.hid (G4.out.low hb)
             have HB5 := Lib.hid (HB4.out.trans (hb.mono HB4.out.size))
             have Cc5 := Lib.hid (Cc4.out.on hb)
             have Yq5 := Lib.hid ((Yq4.out.below hb).more hb.size)
             have Yr5 := Lib.hid ((Yr4.out.below hb).more hb.size)
             have ha : Below v5.heap.size v5 (v5.alloc (.cells #[.slice Ak4 nk4 ck4] 27)) := (Below.refl _ _).alloc (Nat.le_refl _) _
             have G6 := Lib.hid (G5.out.low ha)
             have HB6 := Lib.hid (HB5.out.trans (ha.mono HB5.out.size))
             have Cc6 := Lib.hid (Cc5.out.on ha)
             have Yq6 := Lib.hid ((Yq5.out.below ha).more ha.size)
             have Yr6 := Lib.hid ((Yr5.out.below ha).more ha.size)
             have Ce6 := Lib.hid (Bc.new_ (c := ck4) hm.is_ (by omega : nk4 ≤ 1000000))
             clear xxc4
             have xxc6 := Cc6.out.cell
             have xxe6 := Ce6.out.cell
             clear hb ha hm hn CT)
          | (have fl := FL1; clear FL1
             go_at_call 30
             have CT := Ce6.out.encode G6.out
             rw [d2] at CT
             refine CT.mono ?_
             rintro e v7 ⟨Af, nf, cf, rfl, ho, hb⟩
             have G7 := Lib.hid (G6.out.low hb)
             have HB7 := Lib.hid (HB6.out.trans (hb.mono HB6.out.size))
             have Cc7 := Lib.hid (Cc6.out.on hb)
             have Ce7 := Lib.hid (Ce6.out.on hb)
             have Yq7 := Lib.hid ((Yq6.out.below hb).more hb.size)
             have Yr7 := Lib.hid ((Yr6.out.below hb).more hb.size)
             have Yf7 := Lib.hid ho.by
             have YCf := Lib.hid ho.cap
             have YLf := Lib.hid ho.len
             have YMf := Lib.hid (own_cm ho)
             clear xxc6 xxe6
             have xxc7 := Cc7.out.cell
             have xxe7 := Ce7.out.cell
             clear hb ho CT)
          | (have fl := FL2; clear FL2
             go_at_call 14
             refine (Ce7.out.check G7.out).mono ?_
             rintro e v8 ⟨rfl, hb⟩
             rw [d2]
             have G8 := Lib.hid (G7.out.low hb)
             have HB8 := Lib.hid (HB7.out.trans (hb.mono HB7.out.size))
             have Cc8 := Lib.hid (Cc7.out.on hb)
             have Ce8 := Lib.hid (Ce7.out.on hb)
             have Yq8 := Lib.hid ((Yq7.out.below hb).more hb.size)
             have Yr8 := Lib.hid ((Yr7.out.below hb).more hb.size)
             have Yf8 := Lib.hid ((Yf7.out.below hb).more hb.size)
             clear xxc7 xxe7
             have xxc8 := Cc8.out.cell
             have xxe8 := Ce8.out.cell
             clear hb)
          | (have fl := FL3; clear FL3
             go_at_call 31
             refine (equal_bytes Af A2 nf cf n2 c2 _ _ _ zs _ Yf8.out Yr8.out (by have := YLf.out; rw [d3, HYL.out] at this; omega) (by omega)).mono ?_
             rintro e v9 ⟨rfl, hb⟩
             rw [show (encL (decL (zs.take 300)) == zs) = true by rw [d3]; simp]
             have G9 := Lib.hid (G8.out.low hb)
             have HB9 := Lib.hid (HB8.out.trans (hb.mono HB8.out.size))
             have Cc9 := Lib.hid (Cc8.out.on hb)
             have Ce9 := Lib.hid (Ce8.out.on hb)
             have Yq9 := Lib.hid ((Yq8.out.below hb).more hb.size)
             have Yr9 := Lib.hid ((Yr8.out.below hb).more hb.size)
             have Yf9 := Lib.hid ((Yf8.out.below hb).more hb.size)
             clear xxc8 xxe8
             have xxc9 := Cc9.out.cell
             have xxe9 := Ce9.out.cell
             clear hb)
          | (have fl := FL4; clear FL4
             go_at_call 14
             refine (Cc9.out.check G9.out).mono ?_
             rintro e v10 ⟨rfl, hb⟩
             rw [e3]
             have G10 := Lib.hid (G9.out.low hb)
             have HB10 := Lib.hid (HB9.out.trans (hb.mono HB9.out.size))
             have Cc10 := Lib.hid (Cc9.out.on hb)
             have Ce10 := Lib.hid (Ce9.out.on hb)
             have Yq10 := Lib.hid ((Yq9.out.below hb).more hb.size)
             have Yr10 := Lib.hid ((Yr9.out.below hb).more hb.size)
             have Yf10 := Lib.hid ((Yf9.out.below hb).more hb.size)
             clear xxc9 xxe9
             have xxc10 := Cc10.out.cell
             have xxe10 := Ce10.out.cell
             clear hb)
          | (have fl := FL5; clear FL5
             go_at_call 30
             have CT := Cc10.out.encode G10.out
             rw [e3] at CT
             refine CT.mono ?_
             rintro e v11 ⟨Ab, nb, cb, rfl, ho, hb⟩
             have G11 := Lib.hid (G10.out.low hb)
             have HB11 := Lib.hid (HB10.out.trans (hb.mono HB10.out.size))
             have Cc11 := Lib.hid (Cc10.out.on hb)
             have Ce11 := Lib.hid (Ce10.out.on hb)
             have Yq11 := Lib.hid ((Yq10.out.below hb).more hb.size)
             have Yr11 := Lib.hid ((Yr10.out.below hb).more hb.size)
             have Yf11 := Lib.hid ((Yf10.out.below hb).more hb.size)
             have Yb11 := Lib.hid ho.by
             have YCb := Lib.hid ho.cap
             have YLb := Lib.hid ho.len
             have YMb := Lib.hid (own_cm ho)
             clear xxc10 xxe10
             have xxc11 := Cc11.out.cell
             have xxe11 := Ce11.out.cell
             clear hb ho CT)
          | (have fl := FL6; clear FL6
             go_at_call 33
             have CT := decode_any Ab nb cb _ _ _ Yb11.out (by have := YLb.out; have := NE.out; omega) YCb.out YMb.out (Nat.le_refl _) G11.out
             rw [e1, e2] at CT
             refine CT.mono ?_
             rintro e v12 ⟨Ak11, nk11, ck11, rfl, hm, hn, hb⟩
             have G12 := Lib.hid (G11.out.low hb)
             have HB12 := Lib.hid (HB11.out.trans (hb.mono HB11.out.size))
             have Cc12 := Lib.hid (Cc11.out.on hb)
             have Ce12 := Lib.hid (Ce11.out.on hb)
             have Yq12 := Lib.hid ((Yq11.out.below hb).more hb.size)
             have Yr12 := Lib.hid ((Yr11.out.below hb).more hb.size)
             have Yf12 := Lib.hid ((Yf11.out.below hb).more hb.size)
             have Yb12 := Lib.hid ((Yb11.out.below hb).more hb.size)
             have ha : Below v12.heap.size v12 (v12.alloc (.cells #[.slice Ak11 nk11 ck11] 27)) := (Below.refl _ _).alloc (Nat.le_refl _) _
             have G13 := Lib.hid (G12.out.low ha)
             have HB13 := Lib.hid (HB12.out.trans (ha.mono HB12.out.size))
             have Cc13 := Lib.hid (Cc12.out.on ha)
             have Ce13 := Lib.hid (Ce12.out.on ha)
             have Yq13 := Lib.hid ((Yq12.out.below ha).more ha.size)
             have Yr13 := Lib.hid ((Yr12.out.below ha).more ha.size)
             have Yf13 := Lib.hid ((Yf12.out.below ha).more ha.size)
             have Yb13 := Lib.hid ((Yb12.out.below ha).more ha.size)
             have Cd13 := Lib.hid (Bc.new_ (c := ck11) hm.is_ (by omega : nk11 ≤ 1000000))
             clear xxc11 xxe11
             have xxc13 := Cc13.out.cell
             have xxe13 := Ce13.out.cell
             have xxd13 := Cd13.out.cell
             clear hb ha hm hn CT)
          | (have fl := FL7; clear FL7
             go_at_call 17
             refine (Cc13.out.same Cd13.out).mono ?_
             rintro e v14 ⟨rfl, hb⟩
             rw [show (X == X) = true by simp]
             have G14 := Lib.hid (G13.out.low hb)
             have HB14 := Lib.hid (HB13.out.trans (hb.mono HB13.out.size))
             have Cc14 := Lib.hid (Cc13.out.on hb)
             have Ce14 := Lib.hid (Ce13.out.on hb)
             have Cd14 := Lib.hid (Cd13.out.on hb)
             have Yq14 := Lib.hid ((Yq13.out.below hb).more hb.size)
             have Yr14 := Lib.hid ((Yr13.out.below hb).more hb.size)
             have Yf14 := Lib.hid ((Yf13.out.below hb).more hb.size)
             have Yb14 := Lib.hid ((Yb13.out.below hb).more hb.size)
             clear xxc13 xxe13 xxd13
             have xxc14 := Cc14.out.cell
             have xxe14 := Ce14.out.cell
             have xxd14 := Cd14.out.cell
             clear hb)
          | (have fl := FL8; clear FL8
             go_at_call 15
             refine (Cc14.out.hasc G14.out m).mono ?_
             rintro e v15 ⟨rfl, hb⟩
             rw [hi]
             have G15 := Lib.hid (G14.out.low hb)
             have HB15 := Lib.hid (HB14.out.trans (hb.mono HB14.out.size))
             have Cc15 := Lib.hid (Cc14.out.on hb)
             have Ce15 := Lib.hid (Ce14.out.on hb)
             have Cd15 := Lib.hid (Cd14.out.on hb)
             have Yq15 := Lib.hid ((Yq14.out.below hb).more hb.size)
             have Yr15 := Lib.hid ((Yr14.out.below hb).more hb.size)
             have Yf15 := Lib.hid ((Yf14.out.below hb).more hb.size)
             have Yb15 := Lib.hid ((Yb14.out.below hb).more hb.size)
             clear xxc14 xxe14 xxd14
             have xxc15 := Cc15.out.cell
             have xxe15 := Ce15.out.cell
             have xxd15 := Cd15.out.cell
             clear hb)
          | (have fl := FL9; clear FL9
             go_at_call 27
             have CT := Cc15.out.drop G15.out m
             refine CT.mono ?_
             rintro e v16 ⟨Ak15, nk15, ck15, rfl, hm, hn, hb⟩
             have G16 := Lib.hid (G15.out.low hb)
             have HB16 := Lib.hid (HB15.out.trans (hb.mono HB15.out.size))
             have Cc16 := Lib.hid (Cc15.out.on hb)
             have Ce16 := Lib.hid (Ce15.out.on hb)
             have Cd16 := Lib.hid (Cd15.out.on hb)
             have Yq16 := Lib.hid ((Yq15.out.below hb).more hb.size)
             have Yr16 := Lib.hid ((Yr15.out.below hb).more hb.size)
             have Yf16 := Lib.hid ((Yf15.out.below hb).more hb.size)
             have Yb16 := Lib.hid ((Yb15.out.below hb).more hb.size)
             have ha : Below v16.heap.size v16 (v16.alloc (.cells #[.slice Ak15 nk15 ck15] 27)) := (Below.refl _ _).alloc (Nat.le_refl _) _
             have G17 := Lib.hid (G16.out.low ha)
             have HB17 := Lib.hid (HB16.out.trans (ha.mono HB16.out.size))
             have Cc17 := Lib.hid (Cc16.out.on ha)
             have Ce17 := Lib.hid (Ce16.out.on ha)
             have Cd17 := Lib.hid (Cd16.out.on ha)
             have Yq17 := Lib.hid ((Yq16.out.below ha).more ha.size)
             have Yr17 := Lib.hid ((Yr16.out.below ha).more ha.size)
             have Yf17 := Lib.hid ((Yf16.out.below ha).more ha.size)
             have Yb17 := Lib.hid ((Yb16.out.below ha).more ha.size)
             have Cl17 := Lib.hid (Bc.new_ (c := ck15) hm.is_ (by omega : nk15 ≤ 1000000))
             clear xxc15 xxe15 xxd15
             have xxc17 := Cc17.out.cell
             have xxe17 := Ce17.out.cell
             have xxd17 := Cd17.out.cell
             have xxl17 := Cl17.out.cell
             clear hb ha hm hn CT))
        go_ret
        exact ⟨rfl, HB17.out⟩
      · clear hx
        have FL0 : Hid True := Lib.hid trivial
        have FL1 : Hid True := Lib.hid trivial
        have FL2 : Hid True := Lib.hid trivial
        have FL3 : Hid True := Lib.hid trivial
        have FL4 : Hid True := Lib.hid trivial
        have FL5 : Hid True := Lib.hid trivial
        have FL6 : Hid True := Lib.hid trivial
        have FL7 : Hid True := Lib.hid trivial
        have FL8 : Hid True := Lib.hid trivial
        have FL9 : Hid True := Lib.hid trivial
        have FL10 : Hid True := Lib.hid trivial
        have FL11 : Hid True := Lib.hid trivial
        have FL12 : Hid True := Lib.hid trivial
        have FL13 : Hid True := Lib.hid trivial
        have FL14 : Hid True := Lib.hid trivial
        go_wp2_with (first
          | (have fl := FL0; clear FL0
             go_at_call 33
             have CT := decode_any A2 k c2 _ _ _ Yq4.out KK.out.2.1 KK.out.1 KK.out.2.2 (Nat.le_refl _) G4.out
             rw [hd] at CT
             refine CT.mono ?_
             rintro e v5 ⟨Ak4, nk4, ck4, rfl, hm, hn, hb⟩
             have G5 := Lib.hid (G4.out.low hb)
             have HB5 := Lib.hid (HB4.out.trans (hb.mono HB4.out.size))
             have Cc5 := Lib.hid (Cc4.out.on hb)
             have Yq5 := Lib.hid ((Yq4.out.below hb).more hb.size)
             have Yr5 := Lib.hid ((Yr4.out.below hb).more hb.size)
             have ha : Below v5.heap.size v5 (v5.alloc (.cells #[.slice Ak4 nk4 ck4] 27)) := (Below.refl _ _).alloc (Nat.le_refl _) _
             have G6 := Lib.hid (G5.out.low ha)
             have HB6 := Lib.hid (HB5.out.trans (ha.mono HB5.out.size))
             have Cc6 := Lib.hid (Cc5.out.on ha)
             have Yq6 := Lib.hid ((Yq5.out.below ha).more ha.size)
             have Yr6 := Lib.hid ((Yr5.out.below ha).more ha.size)
             have Ce6 := Lib.hid (Bc.new_ (c := ck4) hm.is_ (by omega : nk4 ≤ 1000000))
             clear xxc4
             have xxc6 := Cc6.out.cell
             have xxe6 := Ce6.out.cell
             clear hb ha hm hn CT)
          | (have fl := FL1; clear FL1
             go_at_call 30
             have CT := Ce6.out.encode G6.out
             rw [d2] at CT
             refine CT.mono ?_
             rintro e v7 ⟨Af, nf, cf, rfl, ho, hb⟩
             have G7 := Lib.hid (G6.out.low hb)
             have HB7 := Lib.hid (HB6.out.trans (hb.mono HB6.out.size))
             have Cc7 := Lib.hid (Cc6.out.on hb)
             have Ce7 := Lib.hid (Ce6.out.on hb)
             have Yq7 := Lib.hid ((Yq6.out.below hb).more hb.size)
             have Yr7 := Lib.hid ((Yr6.out.below hb).more hb.size)
             have Yf7 := Lib.hid ho.by
             have YCf := Lib.hid ho.cap
             have YLf := Lib.hid ho.len
             have YMf := Lib.hid (own_cm ho)
             clear xxc6 xxe6
             have xxc7 := Cc7.out.cell
             have xxe7 := Ce7.out.cell
             clear hb ho CT)
          | (have fl := FL2; clear FL2
             go_at_call 14
             refine (Ce7.out.check G7.out).mono ?_
             rintro e v8 ⟨rfl, hb⟩
             rw [d2]
             have G8 := Lib.hid (G7.out.low hb)
             have HB8 := Lib.hid (HB7.out.trans (hb.mono HB7.out.size))
             have Cc8 := Lib.hid (Cc7.out.on hb)
             have Ce8 := Lib.hid (Ce7.out.on hb)
             have Yq8 := Lib.hid ((Yq7.out.below hb).more hb.size)
             have Yr8 := Lib.hid ((Yr7.out.below hb).more hb.size)
             have Yf8 := Lib.hid ((Yf7.out.below hb).more hb.size)
             clear xxc7 xxe7
             have xxc8 := Cc8.out.cell
             have xxe8 := Ce8.out.cell
             clear hb)
          | (have fl := FL3; clear FL3
             go_at_call 31
             refine (equal_bytes Af A2 nf cf n2 c2 _ _ _ zs _ Yf8.out Yr8.out (by have := YLf.out; rw [d3, HYL.out] at this; omega) (by omega)).mono ?_
             rintro e v9 ⟨rfl, hb⟩
             rw [show (encL (decL (zs.take 300)) == zs) = true by rw [d3]; simp]
             have G9 := Lib.hid (G8.out.low hb)
             have HB9 := Lib.hid (HB8.out.trans (hb.mono HB8.out.size))
             have Cc9 := Lib.hid (Cc8.out.on hb)
             have Ce9 := Lib.hid (Ce8.out.on hb)
             have Yq9 := Lib.hid ((Yq8.out.below hb).more hb.size)
             have Yr9 := Lib.hid ((Yr8.out.below hb).more hb.size)
             have Yf9 := Lib.hid ((Yf8.out.below hb).more hb.size)
             clear xxc8 xxe8
             have xxc9 := Cc9.out.cell
             have xxe9 := Ce9.out.cell
             clear hb)
          | (have fl := FL4; clear FL4
             go_at_call 14
             refine (Cc9.out.check G9.out).mono ?_
             rintro e v10 ⟨rfl, hb⟩
             rw [e3]
             have G10 := Lib.hid (G9.out.low hb)
             have HB10 := Lib.hid (HB9.out.trans (hb.mono HB9.out.size))
             have Cc10 := Lib.hid (Cc9.out.on hb)
             have Ce10 := Lib.hid (Ce9.out.on hb)
             have Yq10 := Lib.hid ((Yq9.out.below hb).more hb.size)
             have Yr10 := Lib.hid ((Yr9.out.below hb).more hb.size)
             have Yf10 := Lib.hid ((Yf9.out.below hb).more hb.size)
             clear xxc9 xxe9
             have xxc10 := Cc10.out.cell
             have xxe10 := Ce10.out.cell
             clear hb)
          | (have fl := FL5; clear FL5
             go_at_call 30
             have CT := Cc10.out.encode G10.out
             rw [e3] at CT
             refine CT.mono ?_
             rintro e v11 ⟨Ab, nb, cb, rfl, ho, hb⟩
             have G11 := Lib.hid (G10.out.low hb)
             have HB11 := Lib.hid (HB10.out.trans (hb.mono HB10.out.size))
             have Cc11 := Lib.hid (Cc10.out.on hb)
             have Ce11 := Lib.hid (Ce10.out.on hb)
             have Yq11 := Lib.hid ((Yq10.out.below hb).more hb.size)
             have Yr11 := Lib.hid ((Yr10.out.below hb).more hb.size)
             have Yf11 := Lib.hid ((Yf10.out.below hb).more hb.size)
             have Yb11 := Lib.hid ho.by
             have YCb := Lib.hid ho.cap
             have YLb := Lib.hid ho.len
             have YMb := Lib.hid (own_cm ho)
             clear xxc10 xxe10
             have xxc11 := Cc11.out.cell
             have xxe11 := Ce11.out.cell
             clear hb ho CT)
          | (have fl := FL6; clear FL6
             go_at_call 33
             have CT := decode_any Ab nb cb _ _ _ Yb11.out (by have := YLb.out; have := NE.out; omega) YCb.out YMb.out (Nat.le_refl _) G11.out
             rw [e1, e2] at CT
             refine CT.mono ?_
             rintro e v12 ⟨Ak11, nk11, ck11, rfl, hm, hn, hb⟩
             have G12 := Lib.hid (G11.out.low hb)
             have HB12 := Lib.hid (HB11.out.trans (hb.mono HB11.out.size))
             have Cc12 := Lib.hid (Cc11.out.on hb)
             have Ce12 := Lib.hid (Ce11.out.on hb)
             have Yq12 := Lib.hid ((Yq11.out.below hb).more hb.size)
             have Yr12 := Lib.hid ((Yr11.out.below hb).more hb.size)
             have Yf12 := Lib.hid ((Yf11.out.below hb).more hb.size)
             have Yb12 := Lib.hid ((Yb11.out.below hb).more hb.size)
             have ha : Below v12.heap.size v12 (v12.alloc (.cells #[.slice Ak11 nk11 ck11] 27)) := (Below.refl _ _).alloc (Nat.le_refl _) _
             have G13 := Lib.hid (G12.out.low ha)
             have HB13 := Lib.hid (HB12.out.trans (ha.mono HB12.out.size))
             have Cc13 := Lib.hid (Cc12.out.on ha)
             have Ce13 := Lib.hid (Ce12.out.on ha)
             have Yq13 := Lib.hid ((Yq12.out.below ha).more ha.size)
             have Yr13 := Lib.hid ((Yr12.out.below ha).more ha.size)
             have Yf13 := Lib.hid ((Yf12.out.below ha).more ha.size)
             have Yb13 := Lib.hid ((Yb12.out.below ha).more ha.size)
             have Cd13 := Lib.hid (Bc.new_ (c := ck11) hm.is_ (by omega : nk11 ≤ 1000000))
             clear xxc11 xxe11
             have xxc13 := Cc13.out.cell
             have xxe13 := Ce13.out.cell
             have xxd13 := Cd13.out.cell
             clear hb ha hm hn CT)
          | (have fl := FL7; clear FL7
             go_at_call 17
             refine (Cc13.out.same Cd13.out).mono ?_
             rintro e v14 ⟨rfl, hb⟩
             rw [show (X == X) = true by simp]
             have G14 := Lib.hid (G13.out.low hb)
             have HB14 := Lib.hid (HB13.out.trans (hb.mono HB13.out.size))
             have Cc14 := Lib.hid (Cc13.out.on hb)
             have Ce14 := Lib.hid (Ce13.out.on hb)
             have Cd14 := Lib.hid (Cd13.out.on hb)
             have Yq14 := Lib.hid ((Yq13.out.below hb).more hb.size)
             have Yr14 := Lib.hid ((Yr13.out.below hb).more hb.size)
             have Yf14 := Lib.hid ((Yf13.out.below hb).more hb.size)
             have Yb14 := Lib.hid ((Yb13.out.below hb).more hb.size)
             clear xxc13 xxe13 xxd13
             have xxc14 := Cc14.out.cell
             have xxe14 := Ce14.out.cell
             have xxd14 := Cd14.out.cell
             clear hb)
          | (have fl := FL8; clear FL8
             go_at_call 15
             refine (Cc14.out.hasc G14.out m).mono ?_
             rintro e v15 ⟨rfl, hb⟩
             rw [hi]
             have G15 := Lib.hid (G14.out.low hb)
             have HB15 := Lib.hid (HB14.out.trans (hb.mono HB14.out.size))
             have Cc15 := Lib.hid (Cc14.out.on hb)
             have Ce15 := Lib.hid (Ce14.out.on hb)
             have Cd15 := Lib.hid (Cd14.out.on hb)
             have Yq15 := Lib.hid ((Yq14.out.below hb).more hb.size)
             have Yr15 := Lib.hid ((Yr14.out.below hb).more hb.size)
             have Yf15 := Lib.hid ((Yf14.out.below hb).more hb.size)
             have Yb15 := Lib.hid ((Yb14.out.below hb).more hb.size)
             clear xxc14 xxe14 xxd14
             have xxc15 := Cc15.out.cell
             have xxe15 := Ce15.out.cell
             have xxd15 := Cd15.out.cell
             clear hb)
          | (have fl := FL9; clear FL9
             go_at_call 27
             have CT := Cc15.out.drop G15.out m
             rw [g1] at CT
             refine CT.mono ?_
             rintro e v16 ⟨Ak15, nk15, ck15, rfl, hm, hn, hb⟩
             have G16 := Lib.hid (G15.out.low hb)
             have HB16 := Lib.hid (HB15.out.trans (hb.mono HB15.out.size))
             have Cc16 := Lib.hid (Cc15.out.on hb)
             have Ce16 := Lib.hid (Ce15.out.on hb)
             have Cd16 := Lib.hid (Cd15.out.on hb)
             have Yq16 := Lib.hid ((Yq15.out.below hb).more hb.size)
             have Yr16 := Lib.hid ((Yr15.out.below hb).more hb.size)
             have Yf16 := Lib.hid ((Yf15.out.below hb).more hb.size)
             have Yb16 := Lib.hid ((Yb15.out.below hb).more hb.size)
             have ha : Below v16.heap.size v16 (v16.alloc (.cells #[.slice Ak15 nk15 ck15] 27)) := (Below.refl _ _).alloc (Nat.le_refl _) _
             have G17 := Lib.hid (G16.out.low ha)
             have HB17 := Lib.hid (HB16.out.trans (ha.mono HB16.out.size))
             have Cc17 := Lib.hid (Cc16.out.on ha)
             have Ce17 := Lib.hid (Ce16.out.on ha)
             have Cd17 := Lib.hid (Cd16.out.on ha)
             have Yq17 := Lib.hid ((Yq16.out.below ha).more ha.size)
             have Yr17 := Lib.hid ((Yr16.out.below ha).more ha.size)
             have Yf17 := Lib.hid ((Yf16.out.below ha).more ha.size)
             have Yb17 := Lib.hid ((Yb16.out.below ha).more ha.size)
             have Cl17 := Lib.hid (Bc.new_ (c := ck15) hm.is_ (by omega : nk15 ≤ 1000000))
             clear xxc15 xxe15 xxd15
             have xxc17 := Cc17.out.cell
             have xxe17 := Ce17.out.cell
             have xxd17 := Cd17.out.cell
             have xxl17 := Cl17.out.cell
             clear hb ha hm hn CT)
          | (have fl := FL10; clear FL10
             go_at_call 26
             have CT := Cl17.out.add G17.out m
             rw [g2, g3] at CT
             refine CT.mono ?_
             rintro e v18 ⟨Ak17, nk17, ck17, rfl, hm, hn, hb⟩
             have G18 := Lib.hid (G17.out.low hb)
             have HB18 := Lib.hid (HB17.out.trans (hb.mono HB17.out.size))
             have Cc18 := Lib.hid (Cc17.out.on hb)
             have Ce18 := Lib.hid (Ce17.out.on hb)
             have Cd18 := Lib.hid (Cd17.out.on hb)
             have Cl18 := Lib.hid (Cl17.out.on hb)
             have Yq18 := Lib.hid ((Yq17.out.below hb).more hb.size)
             have Yr18 := Lib.hid ((Yr17.out.below hb).more hb.size)
             have Yf18 := Lib.hid ((Yf17.out.below hb).more hb.size)
             have Yb18 := Lib.hid ((Yb17.out.below hb).more hb.size)
             have ha : Below v18.heap.size v18 (v18.alloc (.cells #[.slice Ak17 nk17 ck17] 27)) := (Below.refl _ _).alloc (Nat.le_refl _) _
             have G19 := Lib.hid (G18.out.low ha)
             have HB19 := Lib.hid (HB18.out.trans (ha.mono HB18.out.size))
             have Cc19 := Lib.hid (Cc18.out.on ha)
             have Ce19 := Lib.hid (Ce18.out.on ha)
             have Cd19 := Lib.hid (Cd18.out.on ha)
             have Cl19 := Lib.hid (Cl18.out.on ha)
             have Yq19 := Lib.hid ((Yq18.out.below ha).more ha.size)
             have Yr19 := Lib.hid ((Yr18.out.below ha).more ha.size)
             have Yf19 := Lib.hid ((Yf18.out.below ha).more ha.size)
             have Yb19 := Lib.hid ((Yb18.out.below ha).more ha.size)
             have Ck19 := Lib.hid (Bc.new_ (c := ck17) hm.is_ (by omega : nk17 ≤ 1000000))
             clear xxc17 xxe17 xxd17 xxl17
             have xxc19 := Cc19.out.cell
             have xxe19 := Ce19.out.cell
             have xxd19 := Cd19.out.cell
             have xxl19 := Cl19.out.cell
             have xxk19 := Ck19.out.cell
             clear hb ha hm hn CT)
          | (have fl := FL11; clear FL11
             go_at_call 17
             refine (Ck19.out.same Cc19.out).mono ?_
             rintro e v20 ⟨rfl, hb⟩
             rw [show (X == X) = true by simp]
             have G20 := Lib.hid (G19.out.low hb)
             have HB20 := Lib.hid (HB19.out.trans (hb.mono HB19.out.size))
             have Cc20 := Lib.hid (Cc19.out.on hb)
             have Ce20 := Lib.hid (Ce19.out.on hb)
             have Cd20 := Lib.hid (Cd19.out.on hb)
             have Cl20 := Lib.hid (Cl19.out.on hb)
             have Ck20 := Lib.hid (Ck19.out.on hb)
             have Yq20 := Lib.hid ((Yq19.out.below hb).more hb.size)
             have Yr20 := Lib.hid ((Yr19.out.below hb).more hb.size)
             have Yf20 := Lib.hid ((Yf19.out.below hb).more hb.size)
             have Yb20 := Lib.hid ((Yb19.out.below hb).more hb.size)
             clear xxc19 xxe19 xxd19 xxl19 xxk19
             have xxc20 := Cc20.out.cell
             have xxe20 := Ce20.out.cell
             have xxd20 := Cd20.out.cell
             have xxl20 := Cl20.out.cell
             have xxk20 := Ck20.out.cell
             clear hb)
          | (have fl := FL12; clear FL12
             go_at_call 15
             refine (Cl20.out.hasc G20.out m).mono ?_
             rintro e v21 ⟨rfl, hb⟩
             rw [g4]
             have G21 := Lib.hid (G20.out.low hb)
             have HB21 := Lib.hid (HB20.out.trans (hb.mono HB20.out.size))
             have Cc21 := Lib.hid (Cc20.out.on hb)
             have Ce21 := Lib.hid (Ce20.out.on hb)
             have Cd21 := Lib.hid (Cd20.out.on hb)
             have Cl21 := Lib.hid (Cl20.out.on hb)
             have Ck21 := Lib.hid (Ck20.out.on hb)
             have Yq21 := Lib.hid ((Yq20.out.below hb).more hb.size)
             have Yr21 := Lib.hid ((Yr20.out.below hb).more hb.size)
             have Yf21 := Lib.hid ((Yf20.out.below hb).more hb.size)
             have Yb21 := Lib.hid ((Yb20.out.below hb).more hb.size)
             clear xxc20 xxe20 xxd20 xxl20 xxk20
             have xxc21 := Cc21.out.cell
             have xxe21 := Ce21.out.cell
             have xxd21 := Cd21.out.cell
             have xxl21 := Cl21.out.cell
             have xxk21 := Ck21.out.cell
             clear hb)
          | (have fl := FL13; clear FL13
             go_at_call 25
             refine (Cc21.out.step Cl21.out G21.out).mono ?_
             rintro e v22 ⟨rfl, hb⟩
             rw [g5]
             have G22 := Lib.hid (G21.out.low hb)
             have HB22 := Lib.hid (HB21.out.trans (hb.mono HB21.out.size))
             have Cc22 := Lib.hid (Cc21.out.on hb)
             have Ce22 := Lib.hid (Ce21.out.on hb)
             have Cd22 := Lib.hid (Cd21.out.on hb)
             have Cl22 := Lib.hid (Cl21.out.on hb)
             have Ck22 := Lib.hid (Ck21.out.on hb)
             have Yq22 := Lib.hid ((Yq21.out.below hb).more hb.size)
             have Yr22 := Lib.hid ((Yr21.out.below hb).more hb.size)
             have Yf22 := Lib.hid ((Yf21.out.below hb).more hb.size)
             have Yb22 := Lib.hid ((Yb21.out.below hb).more hb.size)
             clear xxc21 xxe21 xxd21 xxl21 xxk21
             have xxc22 := Cc22.out.cell
             have xxe22 := Ce22.out.cell
             have xxd22 := Cd22.out.cell
             have xxl22 := Cl22.out.cell
             have xxk22 := Ck22.out.cell
             clear hb)
          | (have fl := FL14; clear FL14
             go_at_call 25
             refine (Cl22.out.step Cc22.out G22.out).mono ?_
             rintro e v23 ⟨rfl, hb⟩
             rw [g6]
             have G23 := Lib.hid (G22.out.low hb)
             have HB23 := Lib.hid (HB22.out.trans (hb.mono HB22.out.size))
             have Cc23 := Lib.hid (Cc22.out.on hb)
             have Ce23 := Lib.hid (Ce22.out.on hb)
             have Cd23 := Lib.hid (Cd22.out.on hb)
             have Cl23 := Lib.hid (Cl22.out.on hb)
             have Ck23 := Lib.hid (Ck22.out.on hb)
             have Yq23 := Lib.hid ((Yq22.out.below hb).more hb.size)
             have Yr23 := Lib.hid ((Yr22.out.below hb).more hb.size)
             have Yf23 := Lib.hid ((Yf22.out.below hb).more hb.size)
             have Yb23 := Lib.hid ((Yb22.out.below hb).more hb.size)
             clear xxc22 xxe22 xxd22 xxl22 xxk22
             have xxc23 := Cc23.out.cell
             have xxe23 := Ce23.out.cell
             have xxd23 := Cd23.out.cell
             have xxl23 := Cl23.out.cell
             have xxk23 := Ck23.out.cell
             clear hb))
        go_ret
        exact ⟨rfl, HB23.out⟩
    | false =>
      by_cases ha : alo m = 0
      · obtain ⟨g1, g2⟩ := came_no hx ha
        have hne : (addE X m != 0) = true := by simpa using g1
        clear hx ha
        by_cases gm : m < 1
        · clear g2
          have FL0 : Hid True := Lib.hid trivial
          have FL1 : Hid True := Lib.hid trivial
          have FL2 : Hid True := Lib.hid trivial
          have FL3 : Hid True := Lib.hid trivial
          have FL4 : Hid True := Lib.hid trivial
          have FL5 : Hid True := Lib.hid trivial
          have FL6 : Hid True := Lib.hid trivial
          have FL7 : Hid True := Lib.hid trivial
          have FL8 : Hid True := Lib.hid trivial
          have FL9 : Hid True := Lib.hid trivial
          go_wp2_with (first
            | (have fl := FL0; clear FL0
               go_at_call 33
               have CT := decode_any A2 k c2 _ _ _ Yq4.out KK.out.2.1 KK.out.1 KK.out.2.2 (Nat.le_refl _) G4.out
               rw [hd] at CT
               refine CT.mono ?_
               rintro e v5 ⟨Ak4, nk4, ck4, rfl, hm, hn, hb⟩
               have G5 := Lib.hid (G4.out.low hb)
               have HB5 := Lib.hid (HB4.out.trans (hb.mono HB4.out.size))
               have Cc5 := Lib.hid (Cc4.out.on hb)
               have Yq5 := Lib.hid ((Yq4.out.below hb).more hb.size)
               have Yr5 := Lib.hid ((Yr4.out.below hb).more hb.size)
               have ha : Below v5.heap.size v5 (v5.alloc (.cells #[.slice Ak4 nk4 ck4] 27)) := (Below.refl _ _).alloc (Nat.le_refl _) _
               have G6 := Lib.hid (G5.out.low ha)
               have HB6 := Lib.hid (HB5.out.trans (ha.mono HB5.out.size))
               have Cc6 := Lib.hid (Cc5.out.on ha)
               have Yq6 := Lib.hid ((Yq5.out.below ha).more ha.size)
               have Yr6 := Lib.hid ((Yr5.out.below ha).more ha.size)
               have Ce6 := Lib.hid (Bc.new_ (c := ck4) hm.is_ (by omega : nk4 ≤ 1000000))
               clear xxc4
               have xxc6 := Cc6.out.cell
               have xxe6 := Ce6.out.cell
               clear hb ha hm hn CT)
            | (have fl := FL1; clear FL1
               go_at_call 30
               have CT := Ce6.out.encode G6.out
               rw [d2] at CT
               refine CT.mono ?_
               rintro e v7 ⟨Af, nf, cf, rfl, ho, hb⟩
               have G7 := Lib.hid (G6.out.low hb)
               have HB7 := Lib.hid (HB6.out.trans (hb.mono HB6.out.size))
               have Cc7 := Lib.hid (Cc6.out.on hb)
               have Ce7 := Lib.hid (Ce6.out.on hb)
               have Yq7 := Lib.hid ((Yq6.out.below hb).more hb.size)
               have Yr7 := Lib.hid ((Yr6.out.below hb).more hb.size)
               have Yf7 := Lib.hid ho.by
               have YCf := Lib.hid ho.cap
               have YLf := Lib.hid ho.len
               have YMf := Lib.hid (own_cm ho)
               clear xxc6 xxe6
               have xxc7 := Cc7.out.cell
               have xxe7 := Ce7.out.cell
               clear hb ho CT)
            | (have fl := FL2; clear FL2
               go_at_call 14
               refine (Ce7.out.check G7.out).mono ?_
               rintro e v8 ⟨rfl, hb⟩
               rw [d2]
               have G8 := Lib.hid (G7.out.low hb)
               have HB8 := Lib.hid (HB7.out.trans (hb.mono HB7.out.size))
               have Cc8 := Lib.hid (Cc7.out.on hb)
               have Ce8 := Lib.hid (Ce7.out.on hb)
               have Yq8 := Lib.hid ((Yq7.out.below hb).more hb.size)
               have Yr8 := Lib.hid ((Yr7.out.below hb).more hb.size)
               have Yf8 := Lib.hid ((Yf7.out.below hb).more hb.size)
               clear xxc7 xxe7
               have xxc8 := Cc8.out.cell
               have xxe8 := Ce8.out.cell
               clear hb)
            | (have fl := FL3; clear FL3
               go_at_call 31
               refine (equal_bytes Af A2 nf cf n2 c2 _ _ _ zs _ Yf8.out Yr8.out (by have := YLf.out; rw [d3, HYL.out] at this; omega) (by omega)).mono ?_
               rintro e v9 ⟨rfl, hb⟩
               rw [show (encL (decL (zs.take 300)) == zs) = true by rw [d3]; simp]
               have G9 := Lib.hid (G8.out.low hb)
               have HB9 := Lib.hid (HB8.out.trans (hb.mono HB8.out.size))
               have Cc9 := Lib.hid (Cc8.out.on hb)
               have Ce9 := Lib.hid (Ce8.out.on hb)
               have Yq9 := Lib.hid ((Yq8.out.below hb).more hb.size)
               have Yr9 := Lib.hid ((Yr8.out.below hb).more hb.size)
               have Yf9 := Lib.hid ((Yf8.out.below hb).more hb.size)
               clear xxc8 xxe8
               have xxc9 := Cc9.out.cell
               have xxe9 := Ce9.out.cell
               clear hb)
            | (have fl := FL4; clear FL4
               go_at_call 14
               refine (Cc9.out.check G9.out).mono ?_
               rintro e v10 ⟨rfl, hb⟩
               rw [e3]
               have G10 := Lib.hid (G9.out.low hb)
               have HB10 := Lib.hid (HB9.out.trans (hb.mono HB9.out.size))
               have Cc10 := Lib.hid (Cc9.out.on hb)
               have Ce10 := Lib.hid (Ce9.out.on hb)
               have Yq10 := Lib.hid ((Yq9.out.below hb).more hb.size)
               have Yr10 := Lib.hid ((Yr9.out.below hb).more hb.size)
               have Yf10 := Lib.hid ((Yf9.out.below hb).more hb.size)
               clear xxc9 xxe9
               have xxc10 := Cc10.out.cell
               have xxe10 := Ce10.out.cell
               clear hb)
            | (have fl := FL5; clear FL5
               go_at_call 30
               have CT := Cc10.out.encode G10.out
               rw [e3] at CT
               refine CT.mono ?_
               rintro e v11 ⟨Ab, nb, cb, rfl, ho, hb⟩
               have G11 := Lib.hid (G10.out.low hb)
               have HB11 := Lib.hid (HB10.out.trans (hb.mono HB10.out.size))
               have Cc11 := Lib.hid (Cc10.out.on hb)
               have Ce11 := Lib.hid (Ce10.out.on hb)
               have Yq11 := Lib.hid ((Yq10.out.below hb).more hb.size)
               have Yr11 := Lib.hid ((Yr10.out.below hb).more hb.size)
               have Yf11 := Lib.hid ((Yf10.out.below hb).more hb.size)
               have Yb11 := Lib.hid ho.by
               have YCb := Lib.hid ho.cap
               have YLb := Lib.hid ho.len
               have YMb := Lib.hid (own_cm ho)
               clear xxc10 xxe10
               have xxc11 := Cc11.out.cell
               have xxe11 := Ce11.out.cell
               clear hb ho CT)
            | (have fl := FL6; clear FL6
               go_at_call 33
               have CT := decode_any Ab nb cb _ _ _ Yb11.out (by have := YLb.out; have := NE.out; omega) YCb.out YMb.out (Nat.le_refl _) G11.out
               rw [e1, e2] at CT
               refine CT.mono ?_
               rintro e v12 ⟨Ak11, nk11, ck11, rfl, hm, hn, hb⟩
               have G12 := Lib.hid (G11.out.low hb)
               have HB12 := Lib.hid (HB11.out.trans (hb.mono HB11.out.size))
               have Cc12 := Lib.hid (Cc11.out.on hb)
               have Ce12 := Lib.hid (Ce11.out.on hb)
               have Yq12 := Lib.hid ((Yq11.out.below hb).more hb.size)
               have Yr12 := Lib.hid ((Yr11.out.below hb).more hb.size)
               have Yf12 := Lib.hid ((Yf11.out.below hb).more hb.size)
               have Yb12 := Lib.hid ((Yb11.out.below hb).more hb.size)
               have ha : Below v12.heap.size v12 (v12.alloc (.cells #[.slice Ak11 nk11 ck11] 27)) := (Below.refl _ _).alloc (Nat.le_refl _) _
               have G13 := Lib.hid (G12.out.low ha)
               have HB13 := Lib.hid (HB12.out.trans (ha.mono HB12.out.size))
               have Cc13 := Lib.hid (Cc12.out.on ha)
               have Ce13 := Lib.hid (Ce12.out.on ha)
               have Yq13 := Lib.hid ((Yq12.out.below ha).more ha.size)
               have Yr13 := Lib.hid ((Yr12.out.below ha).more ha.size)
               have Yf13 := Lib.hid ((Yf12.out.below ha).more ha.size)
               have Yb13 := Lib.hid ((Yb12.out.below ha).more ha.size)
               have Cd13 := Lib.hid (Bc.new_ (c := ck11) hm.is_ (by omega : nk11 ≤ 1000000))
               clear xxc11 xxe11
               have xxc13 := Cc13.out.cell
               have xxe13 := Ce13.out.cell
               have xxd13 := Cd13.out.cell
               clear hb ha hm hn CT)
            | (have fl := FL7; clear FL7
               go_at_call 17
               refine (Cc13.out.same Cd13.out).mono ?_
               rintro e v14 ⟨rfl, hb⟩
               rw [show (X == X) = true by simp]
               have G14 := Lib.hid (G13.out.low hb)
               have HB14 := Lib.hid (HB13.out.trans (hb.mono HB13.out.size))
               have Cc14 := Lib.hid (Cc13.out.on hb)
               have Ce14 := Lib.hid (Ce13.out.on hb)
               have Cd14 := Lib.hid (Cd13.out.on hb)
               have Yq14 := Lib.hid ((Yq13.out.below hb).more hb.size)
               have Yr14 := Lib.hid ((Yr13.out.below hb).more hb.size)
               have Yf14 := Lib.hid ((Yf13.out.below hb).more hb.size)
               have Yb14 := Lib.hid ((Yb13.out.below hb).more hb.size)
               clear xxc13 xxe13 xxd13
               have xxc14 := Cc14.out.cell
               have xxe14 := Ce14.out.cell
               have xxd14 := Cd14.out.cell
               clear hb)
            | (have fl := FL8; clear FL8
               go_at_call 15
               refine (Cc14.out.hasc G14.out m).mono ?_
               rintro e v15 ⟨rfl, hb⟩
               rw [hi]
               have G15 := Lib.hid (G14.out.low hb)
               have HB15 := Lib.hid (HB14.out.trans (hb.mono HB14.out.size))
               have Cc15 := Lib.hid (Cc14.out.on hb)
               have Ce15 := Lib.hid (Ce14.out.on hb)
               have Cd15 := Lib.hid (Cd14.out.on hb)
               have Yq15 := Lib.hid ((Yq14.out.below hb).more hb.size)
               have Yr15 := Lib.hid ((Yr14.out.below hb).more hb.size)
               have Yf15 := Lib.hid ((Yf14.out.below hb).more hb.size)
               have Yb15 := Lib.hid ((Yb14.out.below hb).more hb.size)
               clear xxc14 xxe14 xxd14
               have xxc15 := Cc15.out.cell
               have xxe15 := Ce15.out.cell
               have xxd15 := Cd15.out.cell
               clear hb)
            | (have fl := FL9; clear FL9
               go_at_call 26
               have CT := Cc15.out.add G15.out m
               refine CT.mono ?_
               rintro e v16 ⟨Ak15, nk15, ck15, rfl, hm, hn, hb⟩
               have G16 := Lib.hid (G15.out.low hb)
               have HB16 := Lib.hid (HB15.out.trans (hb.mono HB15.out.size))
               have Cc16 := Lib.hid (Cc15.out.on hb)
               have Ce16 := Lib.hid (Ce15.out.on hb)
               have Cd16 := Lib.hid (Cd15.out.on hb)
               have Yq16 := Lib.hid ((Yq15.out.below hb).more hb.size)
               have Yr16 := Lib.hid ((Yr15.out.below hb).more hb.size)
               have Yf16 := Lib.hid ((Yf15.out.below hb).more hb.size)
               have Yb16 := Lib.hid ((Yb15.out.below hb).more hb.size)
               have ha : Below v16.heap.size v16 (v16.alloc (.cells #[.slice Ak15 nk15 ck15] 27)) := (Below.refl _ _).alloc (Nat.le_refl _) _
               have G17 := Lib.hid (G16.out.low ha)
               have HB17 := Lib.hid (HB16.out.trans (ha.mono HB16.out.size))
               have Cc17 := Lib.hid (Cc16.out.on ha)
               have Ce17 := Lib.hid (Ce16.out.on ha)
               have Cd17 := Lib.hid (Cd16.out.on ha)
               have Yq17 := Lib.hid ((Yq16.out.below ha).more ha.size)
               have Yr17 := Lib.hid ((Yr16.out.below ha).more ha.size)
               have Yf17 := Lib.hid ((Yf16.out.below ha).more ha.size)
               have Yb17 := Lib.hid ((Yb16.out.below ha).more ha.size)
               have Co17 := Lib.hid (Bc.new_ (c := ck15) hm.is_ (by omega : nk15 ≤ 1000000))
               clear xxc15 xxe15 xxd15
               have xxc17 := Cc17.out.cell
               have xxe17 := Ce17.out.cell
               have xxd17 := Cd17.out.cell
               have xxo17 := Co17.out.cell
               clear hb ha hm hn CT))
          go_ret
          exact ⟨rfl, HB17.out⟩
        · have gm5 : 5 < m := by omega
          clear g2
          have FL0 : Hid True := Lib.hid trivial
          have FL1 : Hid True := Lib.hid trivial
          have FL2 : Hid True := Lib.hid trivial
          have FL3 : Hid True := Lib.hid trivial
          have FL4 : Hid True := Lib.hid trivial
          have FL5 : Hid True := Lib.hid trivial
          have FL6 : Hid True := Lib.hid trivial
          have FL7 : Hid True := Lib.hid trivial
          have FL8 : Hid True := Lib.hid trivial
          have FL9 : Hid True := Lib.hid trivial
          go_wp2_with (first
            | (have fl := FL0; clear FL0
               go_at_call 33
               have CT := decode_any A2 k c2 _ _ _ Yq4.out KK.out.2.1 KK.out.1 KK.out.2.2 (Nat.le_refl _) G4.out
               rw [hd] at CT
               refine CT.mono ?_
               rintro e v5 ⟨Ak4, nk4, ck4, rfl, hm, hn, hb⟩
               have G5 := Lib.hid (G4.out.low hb)
               have HB5 := Lib.hid (HB4.out.trans (hb.mono HB4.out.size))
               have Cc5 := Lib.hid (Cc4.out.on hb)
               have Yq5 := Lib.hid ((Yq4.out.below hb).more hb.size)
               have Yr5 := Lib.hid ((Yr4.out.below hb).more hb.size)
               have ha : Below v5.heap.size v5 (v5.alloc (.cells #[.slice Ak4 nk4 ck4] 27)) := (Below.refl _ _).alloc (Nat.le_refl _) _
               have G6 := Lib.hid (G5.out.low ha)
               have HB6 := Lib.hid (HB5.out.trans (ha.mono HB5.out.size))
               have Cc6 := Lib.hid (Cc5.out.on ha)
               have Yq6 := Lib.hid ((Yq5.out.below ha).more ha.size)
               have Yr6 := Lib.hid ((Yr5.out.below ha).more ha.size)
               have Ce6 := Lib.hid (Bc.new_ (c := ck4) hm.is_ (by omega : nk4 ≤ 1000000))
               clear xxc4
               have xxc6 := Cc6.out.cell
               have xxe6 := Ce6.out.cell
               clear hb ha hm hn CT)
            | (have fl := FL1; clear FL1
               go_at_call 30
               have CT := Ce6.out.encode G6.out
               rw [d2] at CT
               refine CT.mono ?_
               rintro e v7 ⟨Af, nf, cf, rfl, ho, hb⟩
               have G7 := Lib.hid (G6.out.low hb)
               have HB7 := Lib.hid (HB6.out.trans (hb.mono HB6.out.size))
               have Cc7 := Lib.hid (Cc6.out.on hb)
               have Ce7 := Lib.hid (Ce6.out.on hb)
               have Yq7 := Lib.hid ((Yq6.out.below hb).more hb.size)
               have Yr7 := Lib.hid ((Yr6.out.below hb).more hb.size)
               have Yf7 := Lib.hid ho.by
               have YCf := Lib.hid ho.cap
               have YLf := Lib.hid ho.len
               have YMf := Lib.hid (own_cm ho)
               clear xxc6 xxe6
               have xxc7 := Cc7.out.cell
               have xxe7 := Ce7.out.cell
               clear hb ho CT)
            | (have fl := FL2; clear FL2
               go_at_call 14
               refine (Ce7.out.check G7.out).mono ?_
               rintro e v8 ⟨rfl, hb⟩
               rw [d2]
               have G8 := Lib.hid (G7.out.low hb)
               have HB8 := Lib.hid (HB7.out.trans (hb.mono HB7.out.size))
               have Cc8 := Lib.hid (Cc7.out.on hb)
               have Ce8 := Lib.hid (Ce7.out.on hb)
               have Yq8 := Lib.hid ((Yq7.out.below hb).more hb.size)
               have Yr8 := Lib.hid ((Yr7.out.below hb).more hb.size)
               have Yf8 := Lib.hid ((Yf7.out.below hb).more hb.size)
               clear xxc7 xxe7
               have xxc8 := Cc8.out.cell
               have xxe8 := Ce8.out.cell
               clear hb)
            | (have fl := FL3; clear FL3
               go_at_call 31
               refine (equal_bytes Af A2 nf cf n2 c2 _ _ _ zs _ Yf8.out Yr8.out (by have := YLf.out; rw [d3, HYL.out] at this; omega) (by omega)).mono ?_
               rintro e v9 ⟨rfl, hb⟩
               rw [show (encL (decL (zs.take 300)) == zs) = true by rw [d3]; simp]
               have G9 := Lib.hid (G8.out.low hb)
               have HB9 := Lib.hid (HB8.out.trans (hb.mono HB8.out.size))
               have Cc9 := Lib.hid (Cc8.out.on hb)
               have Ce9 := Lib.hid (Ce8.out.on hb)
               have Yq9 := Lib.hid ((Yq8.out.below hb).more hb.size)
               have Yr9 := Lib.hid ((Yr8.out.below hb).more hb.size)
               have Yf9 := Lib.hid ((Yf8.out.below hb).more hb.size)
               clear xxc8 xxe8
               have xxc9 := Cc9.out.cell
               have xxe9 := Ce9.out.cell
               clear hb)
            | (have fl := FL4; clear FL4
               go_at_call 14
               refine (Cc9.out.check G9.out).mono ?_
               rintro e v10 ⟨rfl, hb⟩
               rw [e3]
               have G10 := Lib.hid (G9.out.low hb)
               have HB10 := Lib.hid (HB9.out.trans (hb.mono HB9.out.size))
               have Cc10 := Lib.hid (Cc9.out.on hb)
               have Ce10 := Lib.hid (Ce9.out.on hb)
               have Yq10 := Lib.hid ((Yq9.out.below hb).more hb.size)
               have Yr10 := Lib.hid ((Yr9.out.below hb).more hb.size)
               have Yf10 := Lib.hid ((Yf9.out.below hb).more hb.size)
               clear xxc9 xxe9
               have xxc10 := Cc10.out.cell
               have xxe10 := Ce10.out.cell
               clear hb)
            | (have fl := FL5; clear FL5
               go_at_call 30
               have CT := Cc10.out.encode G10.out
               rw [e3] at CT
               refine CT.mono ?_
               rintro e v11 ⟨Ab, nb, cb, rfl, ho, hb⟩
               have G11 := Lib.hid (G10.out.low hb)
               have HB11 := Lib.hid (HB10.out.trans (hb.mono HB10.out.size))
               have Cc11 := Lib.hid (Cc10.out.on hb)
               have Ce11 := Lib.hid (Ce10.out.on hb)
               have Yq11 := Lib.hid ((Yq10.out.below hb).more hb.size)
               have Yr11 := Lib.hid ((Yr10.out.below hb).more hb.size)
               have Yf11 := Lib.hid ((Yf10.out.below hb).more hb.size)
               have Yb11 := Lib.hid ho.by
               have YCb := Lib.hid ho.cap
               have YLb := Lib.hid ho.len
               have YMb := Lib.hid (own_cm ho)
               clear xxc10 xxe10
               have xxc11 := Cc11.out.cell
               have xxe11 := Ce11.out.cell
               clear hb ho CT)
            | (have fl := FL6; clear FL6
               go_at_call 33
               have CT := decode_any Ab nb cb _ _ _ Yb11.out (by have := YLb.out; have := NE.out; omega) YCb.out YMb.out (Nat.le_refl _) G11.out
               rw [e1, e2] at CT
               refine CT.mono ?_
               rintro e v12 ⟨Ak11, nk11, ck11, rfl, hm, hn, hb⟩
               have G12 := Lib.hid (G11.out.low hb)
               have HB12 := Lib.hid (HB11.out.trans (hb.mono HB11.out.size))
               have Cc12 := Lib.hid (Cc11.out.on hb)
               have Ce12 := Lib.hid (Ce11.out.on hb)
               have Yq12 := Lib.hid ((Yq11.out.below hb).more hb.size)
               have Yr12 := Lib.hid ((Yr11.out.below hb).more hb.size)
               have Yf12 := Lib.hid ((Yf11.out.below hb).more hb.size)
               have Yb12 := Lib.hid ((Yb11.out.below hb).more hb.size)
               have ha : Below v12.heap.size v12 (v12.alloc (.cells #[.slice Ak11 nk11 ck11] 27)) := (Below.refl _ _).alloc (Nat.le_refl _) _
               have G13 := Lib.hid (G12.out.low ha)
               have HB13 := Lib.hid (HB12.out.trans (ha.mono HB12.out.size))
               have Cc13 := Lib.hid (Cc12.out.on ha)
               have Ce13 := Lib.hid (Ce12.out.on ha)
               have Yq13 := Lib.hid ((Yq12.out.below ha).more ha.size)
               have Yr13 := Lib.hid ((Yr12.out.below ha).more ha.size)
               have Yf13 := Lib.hid ((Yf12.out.below ha).more ha.size)
               have Yb13 := Lib.hid ((Yb12.out.below ha).more ha.size)
               have Cd13 := Lib.hid (Bc.new_ (c := ck11) hm.is_ (by omega : nk11 ≤ 1000000))
               clear xxc11 xxe11
               have xxc13 := Cc13.out.cell
               have xxe13 := Ce13.out.cell
               have xxd13 := Cd13.out.cell
               clear hb ha hm hn CT)
            | (have fl := FL7; clear FL7
               go_at_call 17
               refine (Cc13.out.same Cd13.out).mono ?_
               rintro e v14 ⟨rfl, hb⟩
               rw [show (X == X) = true by simp]
               have G14 := Lib.hid (G13.out.low hb)
               have HB14 := Lib.hid (HB13.out.trans (hb.mono HB13.out.size))
               have Cc14 := Lib.hid (Cc13.out.on hb)
               have Ce14 := Lib.hid (Ce13.out.on hb)
               have Cd14 := Lib.hid (Cd13.out.on hb)
               have Yq14 := Lib.hid ((Yq13.out.below hb).more hb.size)
               have Yr14 := Lib.hid ((Yr13.out.below hb).more hb.size)
               have Yf14 := Lib.hid ((Yf13.out.below hb).more hb.size)
               have Yb14 := Lib.hid ((Yb13.out.below hb).more hb.size)
               clear xxc13 xxe13 xxd13
               have xxc14 := Cc14.out.cell
               have xxe14 := Ce14.out.cell
               have xxd14 := Cd14.out.cell
               clear hb)
            | (have fl := FL8; clear FL8
               go_at_call 15
               refine (Cc14.out.hasc G14.out m).mono ?_
               rintro e v15 ⟨rfl, hb⟩
               rw [hi]
               have G15 := Lib.hid (G14.out.low hb)
               have HB15 := Lib.hid (HB14.out.trans (hb.mono HB14.out.size))
               have Cc15 := Lib.hid (Cc14.out.on hb)
               have Ce15 := Lib.hid (Ce14.out.on hb)
               have Cd15 := Lib.hid (Cd14.out.on hb)
               have Yq15 := Lib.hid ((Yq14.out.below hb).more hb.size)
               have Yr15 := Lib.hid ((Yr14.out.below hb).more hb.size)
               have Yf15 := Lib.hid ((Yf14.out.below hb).more hb.size)
               have Yb15 := Lib.hid ((Yb14.out.below hb).more hb.size)
               clear xxc14 xxe14 xxd14
               have xxc15 := Cc15.out.cell
               have xxe15 := Ce15.out.cell
               have xxd15 := Cd15.out.cell
               clear hb)
            | (have fl := FL9; clear FL9
               go_at_call 26
               have CT := Cc15.out.add G15.out m
               refine CT.mono ?_
               rintro e v16 ⟨Ak15, nk15, ck15, rfl, hm, hn, hb⟩
               have G16 := Lib.hid (G15.out.low hb)
               have HB16 := Lib.hid (HB15.out.trans (hb.mono HB15.out.size))
               have Cc16 := Lib.hid (Cc15.out.on hb)
               have Ce16 := Lib.hid (Ce15.out.on hb)
               have Cd16 := Lib.hid (Cd15.out.on hb)
               have Yq16 := Lib.hid ((Yq15.out.below hb).more hb.size)
               have Yr16 := Lib.hid ((Yr15.out.below hb).more hb.size)
               have Yf16 := Lib.hid ((Yf15.out.below hb).more hb.size)
               have Yb16 := Lib.hid ((Yb15.out.below hb).more hb.size)
               have ha : Below v16.heap.size v16 (v16.alloc (.cells #[.slice Ak15 nk15 ck15] 27)) := (Below.refl _ _).alloc (Nat.le_refl _) _
               have G17 := Lib.hid (G16.out.low ha)
               have HB17 := Lib.hid (HB16.out.trans (ha.mono HB16.out.size))
               have Cc17 := Lib.hid (Cc16.out.on ha)
               have Ce17 := Lib.hid (Ce16.out.on ha)
               have Cd17 := Lib.hid (Cd16.out.on ha)
               have Yq17 := Lib.hid ((Yq16.out.below ha).more ha.size)
               have Yr17 := Lib.hid ((Yr16.out.below ha).more ha.size)
               have Yf17 := Lib.hid ((Yf16.out.below ha).more ha.size)
               have Yb17 := Lib.hid ((Yb16.out.below ha).more ha.size)
               have Co17 := Lib.hid (Bc.new_ (c := ck15) hm.is_ (by omega : nk15 ≤ 1000000))
               clear xxc15 xxe15 xxd15
               have xxc17 := Cc17.out.cell
               have xxe17 := Ce17.out.cell
               have xxd17 := Cd17.out.cell
               have xxo17 := Co17.out.cell
               clear hb ha hm hn CT))
          go_ret
          exact ⟨rfl, HB17.out⟩
      · obtain ⟨g1, g2, g3, g4, g5, g6⟩ := came hx hi ha
        clear hx ha
        have FL0 : Hid True := Lib.hid trivial
        have FL1 : Hid True := Lib.hid trivial
        have FL2 : Hid True := Lib.hid trivial
        have FL3 : Hid True := Lib.hid trivial
        have FL4 : Hid True := Lib.hid trivial
        have FL5 : Hid True := Lib.hid trivial
        have FL6 : Hid True := Lib.hid trivial
        have FL7 : Hid True := Lib.hid trivial
        have FL8 : Hid True := Lib.hid trivial
        have FL9 : Hid True := Lib.hid trivial
        have FL10 : Hid True := Lib.hid trivial
        have FL11 : Hid True := Lib.hid trivial
        have FL12 : Hid True := Lib.hid trivial
        have FL13 : Hid True := Lib.hid trivial
        have FL14 : Hid True := Lib.hid trivial
        go_wp2_with (first
          | (have fl := FL0; clear FL0
             go_at_call 33
             have CT := decode_any A2 k c2 _ _ _ Yq4.out KK.out.2.1 KK.out.1 KK.out.2.2 (Nat.le_refl _) G4.out
             rw [hd] at CT
             refine CT.mono ?_
             rintro e v5 ⟨Ak4, nk4, ck4, rfl, hm, hn, hb⟩
             have G5 := Lib.hid (G4.out.low hb)
             have HB5 := Lib.hid (HB4.out.trans (hb.mono HB4.out.size))
             have Cc5 := Lib.hid (Cc4.out.on hb)
             have Yq5 := Lib.hid ((Yq4.out.below hb).more hb.size)
             have Yr5 := Lib.hid ((Yr4.out.below hb).more hb.size)
             have ha : Below v5.heap.size v5 (v5.alloc (.cells #[.slice Ak4 nk4 ck4] 27)) := (Below.refl _ _).alloc (Nat.le_refl _) _
             have G6 := Lib.hid (G5.out.low ha)
             have HB6 := Lib.hid (HB5.out.trans (ha.mono HB5.out.size))
             have Cc6 := Lib.hid (Cc5.out.on ha)
             have Yq6 := Lib.hid ((Yq5.out.below ha).more ha.size)
             have Yr6 := Lib.hid ((Yr5.out.below ha).more ha.size)
             have Ce6 := Lib.hid (Bc.new_ (c := ck4) hm.is_ (by omega : nk4 ≤ 1000000))
             clear xxc4
             have xxc6 := Cc6.out.cell
             have xxe6 := Ce6.out.cell
             clear hb ha hm hn CT)
          | (have fl := FL1; clear FL1
             go_at_call 30
             have CT := Ce6.out.encode G6.out
             rw [d2] at CT
             refine CT.mono ?_
             rintro e v7 ⟨Af, nf, cf, rfl, ho, hb⟩
             have G7 := Lib.hid (G6.out.low hb)
             have HB7 := Lib.hid (HB6.out.trans (hb.mono HB6.out.size))
             have Cc7 := Lib.hid (Cc6.out.on hb)
             have Ce7 := Lib.hid (Ce6.out.on hb)
             have Yq7 := Lib.hid ((Yq6.out.below hb).more hb.size)
             have Yr7 := Lib.hid ((Yr6.out.below hb).more hb.size)
             have Yf7 := Lib.hid ho.by
             have YCf := Lib.hid ho.cap
             have YLf := Lib.hid ho.len
             have YMf := Lib.hid (own_cm ho)
             clear xxc6 xxe6
             have xxc7 := Cc7.out.cell
             have xxe7 := Ce7.out.cell
             clear hb ho CT)
          | (have fl := FL2; clear FL2
             go_at_call 14
             refine (Ce7.out.check G7.out).mono ?_
             rintro e v8 ⟨rfl, hb⟩
             rw [d2]
             have G8 := Lib.hid (G7.out.low hb)
             have HB8 := Lib.hid (HB7.out.trans (hb.mono HB7.out.size))
             have Cc8 := Lib.hid (Cc7.out.on hb)
             have Ce8 := Lib.hid (Ce7.out.on hb)
             have Yq8 := Lib.hid ((Yq7.out.below hb).more hb.size)
             have Yr8 := Lib.hid ((Yr7.out.below hb).more hb.size)
             have Yf8 := Lib.hid ((Yf7.out.below hb).more hb.size)
             clear xxc7 xxe7
             have xxc8 := Cc8.out.cell
             have xxe8 := Ce8.out.cell
             clear hb)
          | (have fl := FL3; clear FL3
             go_at_call 31
             refine (equal_bytes Af A2 nf cf n2 c2 _ _ _ zs _ Yf8.out Yr8.out (by have := YLf.out; rw [d3, HYL.out] at this; omega) (by omega)).mono ?_
             rintro e v9 ⟨rfl, hb⟩
             rw [show (encL (decL (zs.take 300)) == zs) = true by rw [d3]; simp]
             have G9 := Lib.hid (G8.out.low hb)
             have HB9 := Lib.hid (HB8.out.trans (hb.mono HB8.out.size))
             have Cc9 := Lib.hid (Cc8.out.on hb)
             have Ce9 := Lib.hid (Ce8.out.on hb)
             have Yq9 := Lib.hid ((Yq8.out.below hb).more hb.size)
             have Yr9 := Lib.hid ((Yr8.out.below hb).more hb.size)
             have Yf9 := Lib.hid ((Yf8.out.below hb).more hb.size)
             clear xxc8 xxe8
             have xxc9 := Cc9.out.cell
             have xxe9 := Ce9.out.cell
             clear hb)
          | (have fl := FL4; clear FL4
             go_at_call 14
             refine (Cc9.out.check G9.out).mono ?_
             rintro e v10 ⟨rfl, hb⟩
             rw [e3]
             have G10 := Lib.hid (G9.out.low hb)
             have HB10 := Lib.hid (HB9.out.trans (hb.mono HB9.out.size))
             have Cc10 := Lib.hid (Cc9.out.on hb)
             have Ce10 := Lib.hid (Ce9.out.on hb)
             have Yq10 := Lib.hid ((Yq9.out.below hb).more hb.size)
             have Yr10 := Lib.hid ((Yr9.out.below hb).more hb.size)
             have Yf10 := Lib.hid ((Yf9.out.below hb).more hb.size)
             clear xxc9 xxe9
             have xxc10 := Cc10.out.cell
             have xxe10 := Ce10.out.cell
             clear hb)
          | (have fl := FL5; clear FL5
             go_at_call 30
             have CT := Cc10.out.encode G10.out
             rw [e3] at CT
             refine CT.mono ?_
             rintro e v11 ⟨Ab, nb, cb, rfl, ho, hb⟩
             have G11 := Lib.hid (G10.out.low hb)
             have HB11 := Lib.hid (HB10.out.trans (hb.mono HB10.out.size))
             have Cc11 := Lib.hid (Cc10.out.on hb)
             have Ce11 := Lib.hid (Ce10.out.on hb)
             have Yq11 := Lib.hid ((Yq10.out.below hb).more hb.size)
             have Yr11 := Lib.hid ((Yr10.out.below hb).more hb.size)
             have Yf11 := Lib.hid ((Yf10.out.below hb).more hb.size)
             have Yb11 := Lib.hid ho.by
             have YCb := Lib.hid ho.cap
             have YLb := Lib.hid ho.len
             have YMb := Lib.hid (own_cm ho)
             clear xxc10 xxe10
             have xxc11 := Cc11.out.cell
             have xxe11 := Ce11.out.cell
             clear hb ho CT)
          | (have fl := FL6; clear FL6
             go_at_call 33
             have CT := decode_any Ab nb cb _ _ _ Yb11.out (by have := YLb.out; have := NE.out; omega) YCb.out YMb.out (Nat.le_refl _) G11.out
             rw [e1, e2] at CT
             refine CT.mono ?_
             rintro e v12 ⟨Ak11, nk11, ck11, rfl, hm, hn, hb⟩
             have G12 := Lib.hid (G11.out.low hb)
             have HB12 := Lib.hid (HB11.out.trans (hb.mono HB11.out.size))
             have Cc12 := Lib.hid (Cc11.out.on hb)
             have Ce12 := Lib.hid (Ce11.out.on hb)
             have Yq12 := Lib.hid ((Yq11.out.below hb).more hb.size)
             have Yr12 := Lib.hid ((Yr11.out.below hb).more hb.size)
             have Yf12 := Lib.hid ((Yf11.out.below hb).more hb.size)
             have Yb12 := Lib.hid ((Yb11.out.below hb).more hb.size)
             have ha : Below v12.heap.size v12 (v12.alloc (.cells #[.slice Ak11 nk11 ck11] 27)) := (Below.refl _ _).alloc (Nat.le_refl _) _
             have G13 := Lib.hid (G12.out.low ha)
             have HB13 := Lib.hid (HB12.out.trans (ha.mono HB12.out.size))
             have Cc13 := Lib.hid (Cc12.out.on ha)
             have Ce13 := Lib.hid (Ce12.out.on ha)
             have Yq13 := Lib.hid ((Yq12.out.below ha).more ha.size)
             have Yr13 := Lib.hid ((Yr12.out.below ha).more ha.size)
             have Yf13 := Lib.hid ((Yf12.out.below ha).more ha.size)
             have Yb13 := Lib.hid ((Yb12.out.below ha).more ha.size)
             have Cd13 := Lib.hid (Bc.new_ (c := ck11) hm.is_ (by omega : nk11 ≤ 1000000))
             clear xxc11 xxe11
             have xxc13 := Cc13.out.cell
             have xxe13 := Ce13.out.cell
             have xxd13 := Cd13.out.cell
             clear hb ha hm hn CT)
          | (have fl := FL7; clear FL7
             go_at_call 17
             refine (Cc13.out.same Cd13.out).mono ?_
             rintro e v14 ⟨rfl, hb⟩
             rw [show (X == X) = true by simp]
             have G14 := Lib.hid (G13.out.low hb)
             have HB14 := Lib.hid (HB13.out.trans (hb.mono HB13.out.size))
             have Cc14 := Lib.hid (Cc13.out.on hb)
             have Ce14 := Lib.hid (Ce13.out.on hb)
             have Cd14 := Lib.hid (Cd13.out.on hb)
             have Yq14 := Lib.hid ((Yq13.out.below hb).more hb.size)
             have Yr14 := Lib.hid ((Yr13.out.below hb).more hb.size)
             have Yf14 := Lib.hid ((Yf13.out.below hb).more hb.size)
             have Yb14 := Lib.hid ((Yb13.out.below hb).more hb.size)
             clear xxc13 xxe13 xxd13
             have xxc14 := Cc14.out.cell
             have xxe14 := Ce14.out.cell
             have xxd14 := Cd14.out.cell
             clear hb)
          | (have fl := FL8; clear FL8
             go_at_call 15
             refine (Cc14.out.hasc G14.out m).mono ?_
             rintro e v15 ⟨rfl, hb⟩
             rw [hi]
             have G15 := Lib.hid (G14.out.low hb)
             have HB15 := Lib.hid (HB14.out.trans (hb.mono HB14.out.size))
             have Cc15 := Lib.hid (Cc14.out.on hb)
             have Ce15 := Lib.hid (Ce14.out.on hb)
             have Cd15 := Lib.hid (Cd14.out.on hb)
             have Yq15 := Lib.hid ((Yq14.out.below hb).more hb.size)
             have Yr15 := Lib.hid ((Yr14.out.below hb).more hb.size)
             have Yf15 := Lib.hid ((Yf14.out.below hb).more hb.size)
             have Yb15 := Lib.hid ((Yb14.out.below hb).more hb.size)
             clear xxc14 xxe14 xxd14
             have xxc15 := Cc15.out.cell
             have xxe15 := Ce15.out.cell
             have xxd15 := Cd15.out.cell
             clear hb)
          | (have fl := FL9; clear FL9
             go_at_call 26
             have CT := Cc15.out.add G15.out m
             rw [g1] at CT
             refine CT.mono ?_
             rintro e v16 ⟨Ak15, nk15, ck15, rfl, hm, hn, hb⟩
             have G16 := Lib.hid (G15.out.low hb)
             have HB16 := Lib.hid (HB15.out.trans (hb.mono HB15.out.size))
             have Cc16 := Lib.hid (Cc15.out.on hb)
             have Ce16 := Lib.hid (Ce15.out.on hb)
             have Cd16 := Lib.hid (Cd15.out.on hb)
             have Yq16 := Lib.hid ((Yq15.out.below hb).more hb.size)
             have Yr16 := Lib.hid ((Yr15.out.below hb).more hb.size)
             have Yf16 := Lib.hid ((Yf15.out.below hb).more hb.size)
             have Yb16 := Lib.hid ((Yb15.out.below hb).more hb.size)
             have ha : Below v16.heap.size v16 (v16.alloc (.cells #[.slice Ak15 nk15 ck15] 27)) := (Below.refl _ _).alloc (Nat.le_refl _) _
             have G17 := Lib.hid (G16.out.low ha)
             have HB17 := Lib.hid (HB16.out.trans (ha.mono HB16.out.size))
             have Cc17 := Lib.hid (Cc16.out.on ha)
             have Ce17 := Lib.hid (Ce16.out.on ha)
             have Cd17 := Lib.hid (Cd16.out.on ha)
             have Yq17 := Lib.hid ((Yq16.out.below ha).more ha.size)
             have Yr17 := Lib.hid ((Yr16.out.below ha).more ha.size)
             have Yf17 := Lib.hid ((Yf16.out.below ha).more ha.size)
             have Yb17 := Lib.hid ((Yb16.out.below ha).more ha.size)
             have Co17 := Lib.hid (Bc.new_ (c := ck15) hm.is_ (by omega : nk15 ≤ 1000000))
             clear xxc15 xxe15 xxd15
             have xxc17 := Cc17.out.cell
             have xxe17 := Ce17.out.cell
             have xxd17 := Cd17.out.cell
             have xxo17 := Co17.out.cell
             clear hb ha hm hn CT)
          | (have fl := FL10; clear FL10
             go_at_call 27
             have CT := Co17.out.drop G17.out m
             rw [g2, g3] at CT
             refine CT.mono ?_
             rintro e v18 ⟨Ak17, nk17, ck17, rfl, hm, hn, hb⟩
             have G18 := Lib.hid (G17.out.low hb)
             have HB18 := Lib.hid (HB17.out.trans (hb.mono HB17.out.size))
             have Cc18 := Lib.hid (Cc17.out.on hb)
             have Ce18 := Lib.hid (Ce17.out.on hb)
             have Cd18 := Lib.hid (Cd17.out.on hb)
             have Co18 := Lib.hid (Co17.out.on hb)
             have Yq18 := Lib.hid ((Yq17.out.below hb).more hb.size)
             have Yr18 := Lib.hid ((Yr17.out.below hb).more hb.size)
             have Yf18 := Lib.hid ((Yf17.out.below hb).more hb.size)
             have Yb18 := Lib.hid ((Yb17.out.below hb).more hb.size)
             have ha : Below v18.heap.size v18 (v18.alloc (.cells #[.slice Ak17 nk17 ck17] 27)) := (Below.refl _ _).alloc (Nat.le_refl _) _
             have G19 := Lib.hid (G18.out.low ha)
             have HB19 := Lib.hid (HB18.out.trans (ha.mono HB18.out.size))
             have Cc19 := Lib.hid (Cc18.out.on ha)
             have Ce19 := Lib.hid (Ce18.out.on ha)
             have Cd19 := Lib.hid (Cd18.out.on ha)
             have Co19 := Lib.hid (Co18.out.on ha)
             have Yq19 := Lib.hid ((Yq18.out.below ha).more ha.size)
             have Yr19 := Lib.hid ((Yr18.out.below ha).more ha.size)
             have Yf19 := Lib.hid ((Yf18.out.below ha).more ha.size)
             have Yb19 := Lib.hid ((Yb18.out.below ha).more ha.size)
             have Ck19 := Lib.hid (Bc.new_ (c := ck17) hm.is_ (by omega : nk17 ≤ 1000000))
             clear xxc17 xxe17 xxd17 xxo17
             have xxc19 := Cc19.out.cell
             have xxe19 := Ce19.out.cell
             have xxd19 := Cd19.out.cell
             have xxo19 := Co19.out.cell
             have xxk19 := Ck19.out.cell
             clear hb ha hm hn CT)
          | (have fl := FL11; clear FL11
             go_at_call 17
             refine (Ck19.out.same Cc19.out).mono ?_
             rintro e v20 ⟨rfl, hb⟩
             rw [show (X == X) = true by simp]
             have G20 := Lib.hid (G19.out.low hb)
             have HB20 := Lib.hid (HB19.out.trans (hb.mono HB19.out.size))
             have Cc20 := Lib.hid (Cc19.out.on hb)
             have Ce20 := Lib.hid (Ce19.out.on hb)
             have Cd20 := Lib.hid (Cd19.out.on hb)
             have Co20 := Lib.hid (Co19.out.on hb)
             have Ck20 := Lib.hid (Ck19.out.on hb)
             have Yq20 := Lib.hid ((Yq19.out.below hb).more hb.size)
             have Yr20 := Lib.hid ((Yr19.out.below hb).more hb.size)
             have Yf20 := Lib.hid ((Yf19.out.below hb).more hb.size)
             have Yb20 := Lib.hid ((Yb19.out.below hb).more hb.size)
             clear xxc19 xxe19 xxd19 xxo19 xxk19
             have xxc20 := Cc20.out.cell
             have xxe20 := Ce20.out.cell
             have xxd20 := Cd20.out.cell
             have xxo20 := Co20.out.cell
             have xxk20 := Ck20.out.cell
             clear hb)
          | (have fl := FL12; clear FL12
             go_at_call 15
             refine (Co20.out.hasc G20.out m).mono ?_
             rintro e v21 ⟨rfl, hb⟩
             rw [g4]
             have G21 := Lib.hid (G20.out.low hb)
             have HB21 := Lib.hid (HB20.out.trans (hb.mono HB20.out.size))
             have Cc21 := Lib.hid (Cc20.out.on hb)
             have Ce21 := Lib.hid (Ce20.out.on hb)
             have Cd21 := Lib.hid (Cd20.out.on hb)
             have Co21 := Lib.hid (Co20.out.on hb)
             have Ck21 := Lib.hid (Ck20.out.on hb)
             have Yq21 := Lib.hid ((Yq20.out.below hb).more hb.size)
             have Yr21 := Lib.hid ((Yr20.out.below hb).more hb.size)
             have Yf21 := Lib.hid ((Yf20.out.below hb).more hb.size)
             have Yb21 := Lib.hid ((Yb20.out.below hb).more hb.size)
             clear xxc20 xxe20 xxd20 xxo20 xxk20
             have xxc21 := Cc21.out.cell
             have xxe21 := Ce21.out.cell
             have xxd21 := Cd21.out.cell
             have xxo21 := Co21.out.cell
             have xxk21 := Ck21.out.cell
             clear hb)
          | (have fl := FL13; clear FL13
             go_at_call 25
             refine (Cc21.out.step Co21.out G21.out).mono ?_
             rintro e v22 ⟨rfl, hb⟩
             rw [g5]
             have G22 := Lib.hid (G21.out.low hb)
             have HB22 := Lib.hid (HB21.out.trans (hb.mono HB21.out.size))
             have Cc22 := Lib.hid (Cc21.out.on hb)
             have Ce22 := Lib.hid (Ce21.out.on hb)
             have Cd22 := Lib.hid (Cd21.out.on hb)
             have Co22 := Lib.hid (Co21.out.on hb)
             have Ck22 := Lib.hid (Ck21.out.on hb)
             have Yq22 := Lib.hid ((Yq21.out.below hb).more hb.size)
             have Yr22 := Lib.hid ((Yr21.out.below hb).more hb.size)
             have Yf22 := Lib.hid ((Yf21.out.below hb).more hb.size)
             have Yb22 := Lib.hid ((Yb21.out.below hb).more hb.size)
             clear xxc21 xxe21 xxd21 xxo21 xxk21
             have xxc22 := Cc22.out.cell
             have xxe22 := Ce22.out.cell
             have xxd22 := Cd22.out.cell
             have xxo22 := Co22.out.cell
             have xxk22 := Ck22.out.cell
             clear hb)
          | (have fl := FL14; clear FL14
             go_at_call 25
             refine (Co22.out.step Cc22.out G22.out).mono ?_
             rintro e v23 ⟨rfl, hb⟩
             rw [g6]
             have G23 := Lib.hid (G22.out.low hb)
             have HB23 := Lib.hid (HB22.out.trans (hb.mono HB22.out.size))
             have Cc23 := Lib.hid (Cc22.out.on hb)
             have Ce23 := Lib.hid (Ce22.out.on hb)
             have Cd23 := Lib.hid (Cd22.out.on hb)
             have Co23 := Lib.hid (Co22.out.on hb)
             have Ck23 := Lib.hid (Ck22.out.on hb)
             have Yq23 := Lib.hid ((Yq22.out.below hb).more hb.size)
             have Yr23 := Lib.hid ((Yr22.out.below hb).more hb.size)
             have Yf23 := Lib.hid ((Yf22.out.below hb).more hb.size)
             have Yb23 := Lib.hid ((Yb22.out.below hb).more hb.size)
             clear xxc22 xxe22 xxd22 xxo22 xxk22
             have xxc23 := Cc23.out.cell
             have xxe23 := Ce23.out.cell
             have xxd23 := Cd23.out.cell
             have xxo23 := Co23.out.cell
             have xxk23 := Ck23.out.cell
             clear hb))
        go_ret
        exact ⟨rfl, HB23.out⟩
  · have hd1 : (decE (zs.take 300) == 0) = false := by simpa using hd
    by_cases hx : grp X = 0
    · have hc : chkE X = 180 := by unfold chkE; rw [if_pos hx]
      have FL0 : Hid True := Lib.hid trivial
      have FL1 : Hid True := Lib.hid trivial
      go_wp2_with (first
        | (have fl := FL0; clear FL0
           go_at_call 33
           have CT := decode_any A2 k c2 _ _ _ Yq4.out KK.out.2.1 KK.out.1 KK.out.2.2 (Nat.le_refl _) G4.out
           refine CT.mono ?_
           rintro e v5 ⟨Ak4, nk4, ck4, rfl, hm, hn, hb⟩
           have G5 := Lib.hid (G4.out.low hb)
           have HB5 := Lib.hid (HB4.out.trans (hb.mono HB4.out.size))
           have Cc5 := Lib.hid (Cc4.out.on hb)
           have Yq5 := Lib.hid ((Yq4.out.below hb).more hb.size)
           have Yr5 := Lib.hid ((Yr4.out.below hb).more hb.size)
           have ha : Below v5.heap.size v5 (v5.alloc (.cells #[.slice Ak4 nk4 ck4] 27)) := (Below.refl _ _).alloc (Nat.le_refl _) _
           have G6 := Lib.hid (G5.out.low ha)
           have HB6 := Lib.hid (HB5.out.trans (ha.mono HB5.out.size))
           have Cc6 := Lib.hid (Cc5.out.on ha)
           have Yq6 := Lib.hid ((Yq5.out.below ha).more ha.size)
           have Yr6 := Lib.hid ((Yr5.out.below ha).more ha.size)
           have Ce6 := Lib.hid (Bc.new_ (c := ck4) hm.is_ (by omega : nk4 ≤ 1000000))
           clear xxc4
           have xxc6 := Cc6.out.cell
           have xxe6 := Ce6.out.cell
           clear hb ha hm hn CT)
        | (have fl := FL1; clear FL1
           go_at_call 14
           refine (Cc6.out.check G6.out).mono ?_
           rintro e v7 ⟨rfl, hb⟩
           rw [hc]
           have G7 := Lib.hid (G6.out.low hb)
           have HB7 := Lib.hid (HB6.out.trans (hb.mono HB6.out.size))
           have Cc7 := Lib.hid (Cc6.out.on hb)
           have Ce7 := Lib.hid (Ce6.out.on hb)
           have Yq7 := Lib.hid ((Yq6.out.below hb).more hb.size)
           have Yr7 := Lib.hid ((Yr6.out.below hb).more hb.size)
           clear xxc6 xxe6
           have xxc7 := Cc7.out.cell
           have xxe7 := Ce7.out.cell
           clear hb))
      go_ret
      exact ⟨rfl, HB7.out⟩
    obtain ⟨e1, e2, e3⟩ := enc_dec hx
    have NE : Hid ((encL X).length ≤ 6) := Lib.hid (enc_len hx)
    cases hi : inG (grp X) m with
    | true =>
      rcases gone hx hi with ⟨g1, g2⟩ | ⟨g1, g2, g3, g4, g5, g6⟩
      · have hne : (dropE X m != 0) = true := by simpa using g1
        have hl1 := one_len pc PL.out g2
        clear hx
        have FL0 : Hid True := Lib.hid trivial
        have FL1 : Hid True := Lib.hid trivial
        have FL2 : Hid True := Lib.hid trivial
        have FL3 : Hid True := Lib.hid trivial
        have FL4 : Hid True := Lib.hid trivial
        have FL5 : Hid True := Lib.hid trivial
        have FL6 : Hid True := Lib.hid trivial
        go_wp2_with (first
          | (have fl := FL0; clear FL0
             go_at_call 33
             have CT := decode_any A2 k c2 _ _ _ Yq4.out KK.out.2.1 KK.out.1 KK.out.2.2 (Nat.le_refl _) G4.out
             refine CT.mono ?_
             rintro e v5 ⟨Ak4, nk4, ck4, rfl, hm, hn, hb⟩
             have G5 := Lib.hid (G4.out.low hb)
             have HB5 := Lib.hid (HB4.out.trans (hb.mono HB4.out.size))
             have Cc5 := Lib.hid (Cc4.out.on hb)
             have Yq5 := Lib.hid ((Yq4.out.below hb).more hb.size)
             have Yr5 := Lib.hid ((Yr4.out.below hb).more hb.size)
             have ha : Below v5.heap.size v5 (v5.alloc (.cells #[.slice Ak4 nk4 ck4] 27)) := (Below.refl _ _).alloc (Nat.le_refl _) _
             have G6 := Lib.hid (G5.out.low ha)
             have HB6 := Lib.hid (HB5.out.trans (ha.mono HB5.out.size))
             have Cc6 := Lib.hid (Cc5.out.on ha)
             have Yq6 := Lib.hid ((Yq5.out.below ha).more ha.size)
             have Yr6 := Lib.hid ((Yr5.out.below ha).more ha.size)
             have Ce6 := Lib.hid (Bc.new_ (c := ck4) hm.is_ (by omega : nk4 ≤ 1000000))
             clear xxc4
             have xxc6 := Cc6.out.cell
             have xxe6 := Ce6.out.cell
             clear hb ha hm hn CT)
          | (have fl := FL1; clear FL1
             go_at_call 14
             refine (Cc6.out.check G6.out).mono ?_
             rintro e v7 ⟨rfl, hb⟩
             rw [e3]
             have G7 := Lib.hid (G6.out.low hb)
             have HB7 := Lib.hid (HB6.out.trans (hb.mono HB6.out.size))
             have Cc7 := Lib.hid (Cc6.out.on hb)
             have Ce7 := Lib.hid (Ce6.out.on hb)
             have Yq7 := Lib.hid ((Yq6.out.below hb).more hb.size)
             have Yr7 := Lib.hid ((Yr6.out.below hb).more hb.size)
             clear xxc6 xxe6
             have xxc7 := Cc7.out.cell
             have xxe7 := Ce7.out.cell
             clear hb)
          | (have fl := FL2; clear FL2
             go_at_call 30
             have CT := Cc7.out.encode G7.out
             rw [e3] at CT
             refine CT.mono ?_
             rintro e v8 ⟨Ab, nb, cb, rfl, ho, hb⟩
             have G8 := Lib.hid (G7.out.low hb)
             have HB8 := Lib.hid (HB7.out.trans (hb.mono HB7.out.size))
             have Cc8 := Lib.hid (Cc7.out.on hb)
             have Ce8 := Lib.hid (Ce7.out.on hb)
             have Yq8 := Lib.hid ((Yq7.out.below hb).more hb.size)
             have Yr8 := Lib.hid ((Yr7.out.below hb).more hb.size)
             have Yb8 := Lib.hid ho.by
             have YCb := Lib.hid ho.cap
             have YLb := Lib.hid ho.len
             have YMb := Lib.hid (own_cm ho)
             clear xxc7 xxe7
             have xxc8 := Cc8.out.cell
             have xxe8 := Ce8.out.cell
             clear hb ho CT)
          | (have fl := FL3; clear FL3
             go_at_call 33
             have CT := decode_any Ab nb cb _ _ _ Yb8.out (by have := YLb.out; have := NE.out; omega) YCb.out YMb.out (Nat.le_refl _) G8.out
             rw [e1, e2] at CT
             refine CT.mono ?_
             rintro e v9 ⟨Ak8, nk8, ck8, rfl, hm, hn, hb⟩
             have G9 := Lib.hid (G8.out.low hb)
             have HB9 := Lib.hid (HB8.out.trans (hb.mono HB8.out.size))
             have Cc9 := Lib.hid (Cc8.out.on hb)
             have Ce9 := Lib.hid (Ce8.out.on hb)
             have Yq9 := Lib.hid ((Yq8.out.below hb).more hb.size)
             have Yr9 := Lib.hid ((Yr8.out.below hb).more hb.size)
             have Yb9 := Lib.hid ((Yb8.out.below hb).more hb.size)
             have ha : Below v9.heap.size v9 (v9.alloc (.cells #[.slice Ak8 nk8 ck8] 27)) := (Below.refl _ _).alloc (Nat.le_refl _) _
             have G10 := Lib.hid (G9.out.low ha)
             have HB10 := Lib.hid (HB9.out.trans (ha.mono HB9.out.size))
             have Cc10 := Lib.hid (Cc9.out.on ha)
             have Ce10 := Lib.hid (Ce9.out.on ha)
             have Yq10 := Lib.hid ((Yq9.out.below ha).more ha.size)
             have Yr10 := Lib.hid ((Yr9.out.below ha).more ha.size)
             have Yb10 := Lib.hid ((Yb9.out.below ha).more ha.size)
             have Cd10 := Lib.hid (Bc.new_ (c := ck8) hm.is_ (by omega : nk8 ≤ 1000000))
             clear xxc8 xxe8
             have xxc10 := Cc10.out.cell
             have xxe10 := Ce10.out.cell
             have xxd10 := Cd10.out.cell
             clear hb ha hm hn CT)
          | (have fl := FL4; clear FL4
             go_at_call 17
             refine (Cc10.out.same Cd10.out).mono ?_
             rintro e v11 ⟨rfl, hb⟩
             rw [show (X == X) = true by simp]
             have G11 := Lib.hid (G10.out.low hb)
             have HB11 := Lib.hid (HB10.out.trans (hb.mono HB10.out.size))
             have Cc11 := Lib.hid (Cc10.out.on hb)
             have Ce11 := Lib.hid (Ce10.out.on hb)
             have Cd11 := Lib.hid (Cd10.out.on hb)
             have Yq11 := Lib.hid ((Yq10.out.below hb).more hb.size)
             have Yr11 := Lib.hid ((Yr10.out.below hb).more hb.size)
             have Yb11 := Lib.hid ((Yb10.out.below hb).more hb.size)
             clear xxc10 xxe10 xxd10
             have xxc11 := Cc11.out.cell
             have xxe11 := Ce11.out.cell
             have xxd11 := Cd11.out.cell
             clear hb)
          | (have fl := FL5; clear FL5
             go_at_call 15
             refine (Cc11.out.hasc G11.out m).mono ?_
             rintro e v12 ⟨rfl, hb⟩
             rw [hi]
             have G12 := Lib.hid (G11.out.low hb)
             have HB12 := Lib.hid (HB11.out.trans (hb.mono HB11.out.size))
             have Cc12 := Lib.hid (Cc11.out.on hb)
             have Ce12 := Lib.hid (Ce11.out.on hb)
             have Cd12 := Lib.hid (Cd11.out.on hb)
             have Yq12 := Lib.hid ((Yq11.out.below hb).more hb.size)
             have Yr12 := Lib.hid ((Yr11.out.below hb).more hb.size)
             have Yb12 := Lib.hid ((Yb11.out.below hb).more hb.size)
             clear xxc11 xxe11 xxd11
             have xxc12 := Cc12.out.cell
             have xxe12 := Ce12.out.cell
             have xxd12 := Cd12.out.cell
             clear hb)
          | (have fl := FL6; clear FL6
             go_at_call 27
             have CT := Cc12.out.drop G12.out m
             refine CT.mono ?_
             rintro e v13 ⟨Ak12, nk12, ck12, rfl, hm, hn, hb⟩
             have G13 := Lib.hid (G12.out.low hb)
             have HB13 := Lib.hid (HB12.out.trans (hb.mono HB12.out.size))
             have Cc13 := Lib.hid (Cc12.out.on hb)
             have Ce13 := Lib.hid (Ce12.out.on hb)
             have Cd13 := Lib.hid (Cd12.out.on hb)
             have Yq13 := Lib.hid ((Yq12.out.below hb).more hb.size)
             have Yr13 := Lib.hid ((Yr12.out.below hb).more hb.size)
             have Yb13 := Lib.hid ((Yb12.out.below hb).more hb.size)
             have ha : Below v13.heap.size v13 (v13.alloc (.cells #[.slice Ak12 nk12 ck12] 27)) := (Below.refl _ _).alloc (Nat.le_refl _) _
             have G14 := Lib.hid (G13.out.low ha)
             have HB14 := Lib.hid (HB13.out.trans (ha.mono HB13.out.size))
             have Cc14 := Lib.hid (Cc13.out.on ha)
             have Ce14 := Lib.hid (Ce13.out.on ha)
             have Cd14 := Lib.hid (Cd13.out.on ha)
             have Yq14 := Lib.hid ((Yq13.out.below ha).more ha.size)
             have Yr14 := Lib.hid ((Yr13.out.below ha).more ha.size)
             have Yb14 := Lib.hid ((Yb13.out.below ha).more ha.size)
             have Cl14 := Lib.hid (Bc.new_ (c := ck12) hm.is_ (by omega : nk12 ≤ 1000000))
             clear xxc12 xxe12 xxd12
             have xxc14 := Cc14.out.cell
             have xxe14 := Ce14.out.cell
             have xxd14 := Cd14.out.cell
             have xxl14 := Cl14.out.cell
             clear hb ha hm hn CT))
        go_ret
        exact ⟨rfl, HB14.out⟩
      · clear hx
        have FL0 : Hid True := Lib.hid trivial
        have FL1 : Hid True := Lib.hid trivial
        have FL2 : Hid True := Lib.hid trivial
        have FL3 : Hid True := Lib.hid trivial
        have FL4 : Hid True := Lib.hid trivial
        have FL5 : Hid True := Lib.hid trivial
        have FL6 : Hid True := Lib.hid trivial
        have FL7 : Hid True := Lib.hid trivial
        have FL8 : Hid True := Lib.hid trivial
        have FL9 : Hid True := Lib.hid trivial
        have FL10 : Hid True := Lib.hid trivial
        have FL11 : Hid True := Lib.hid trivial
        go_wp2_with (first
          | (have fl := FL0; clear FL0
             go_at_call 33
             have CT := decode_any A2 k c2 _ _ _ Yq4.out KK.out.2.1 KK.out.1 KK.out.2.2 (Nat.le_refl _) G4.out
             refine CT.mono ?_
             rintro e v5 ⟨Ak4, nk4, ck4, rfl, hm, hn, hb⟩
             have G5 := Lib.hid (G4.out.low hb)
             have HB5 := Lib.hid (HB4.out.trans (hb.mono HB4.out.size))
             have Cc5 := Lib.hid (Cc4.out.on hb)
             have Yq5 := Lib.hid ((Yq4.out.below hb).more hb.size)
             have Yr5 := Lib.hid ((Yr4.out.below hb).more hb.size)
             have ha : Below v5.heap.size v5 (v5.alloc (.cells #[.slice Ak4 nk4 ck4] 27)) := (Below.refl _ _).alloc (Nat.le_refl _) _
             have G6 := Lib.hid (G5.out.low ha)
             have HB6 := Lib.hid (HB5.out.trans (ha.mono HB5.out.size))
             have Cc6 := Lib.hid (Cc5.out.on ha)
             have Yq6 := Lib.hid ((Yq5.out.below ha).more ha.size)
             have Yr6 := Lib.hid ((Yr5.out.below ha).more ha.size)
             have Ce6 := Lib.hid (Bc.new_ (c := ck4) hm.is_ (by omega : nk4 ≤ 1000000))
             clear xxc4
             have xxc6 := Cc6.out.cell
             have xxe6 := Ce6.out.cell
             clear hb ha hm hn CT)
          | (have fl := FL1; clear FL1
             go_at_call 14
             refine (Cc6.out.check G6.out).mono ?_
             rintro e v7 ⟨rfl, hb⟩
             rw [e3]
             have G7 := Lib.hid (G6.out.low hb)
             have HB7 := Lib.hid (HB6.out.trans (hb.mono HB6.out.size))
             have Cc7 := Lib.hid (Cc6.out.on hb)
             have Ce7 := Lib.hid (Ce6.out.on hb)
             have Yq7 := Lib.hid ((Yq6.out.below hb).more hb.size)
             have Yr7 := Lib.hid ((Yr6.out.below hb).more hb.size)
             clear xxc6 xxe6
             have xxc7 := Cc7.out.cell
             have xxe7 := Ce7.out.cell
             clear hb)
          | (have fl := FL2; clear FL2
             go_at_call 30
             have CT := Cc7.out.encode G7.out
             rw [e3] at CT
             refine CT.mono ?_
             rintro e v8 ⟨Ab, nb, cb, rfl, ho, hb⟩
             have G8 := Lib.hid (G7.out.low hb)
             have HB8 := Lib.hid (HB7.out.trans (hb.mono HB7.out.size))
             have Cc8 := Lib.hid (Cc7.out.on hb)
             have Ce8 := Lib.hid (Ce7.out.on hb)
             have Yq8 := Lib.hid ((Yq7.out.below hb).more hb.size)
             have Yr8 := Lib.hid ((Yr7.out.below hb).more hb.size)
             have Yb8 := Lib.hid ho.by
             have YCb := Lib.hid ho.cap
             have YLb := Lib.hid ho.len
             have YMb := Lib.hid (own_cm ho)
             clear xxc7 xxe7
             have xxc8 := Cc8.out.cell
             have xxe8 := Ce8.out.cell
             clear hb ho CT)
          | (have fl := FL3; clear FL3
             go_at_call 33
             have CT := decode_any Ab nb cb _ _ _ Yb8.out (by have := YLb.out; have := NE.out; omega) YCb.out YMb.out (Nat.le_refl _) G8.out
             rw [e1, e2] at CT
             refine CT.mono ?_
             rintro e v9 ⟨Ak8, nk8, ck8, rfl, hm, hn, hb⟩
             have G9 := Lib.hid (G8.out.low hb)
             have HB9 := Lib.hid (HB8.out.trans (hb.mono HB8.out.size))
             have Cc9 := Lib.hid (Cc8.out.on hb)
             have Ce9 := Lib.hid (Ce8.out.on hb)
             have Yq9 := Lib.hid ((Yq8.out.below hb).more hb.size)
             have Yr9 := Lib.hid ((Yr8.out.below hb).more hb.size)
             have Yb9 := Lib.hid ((Yb8.out.below hb).more hb.size)
             have ha : Below v9.heap.size v9 (v9.alloc (.cells #[.slice Ak8 nk8 ck8] 27)) := (Below.refl _ _).alloc (Nat.le_refl _) _
             have G10 := Lib.hid (G9.out.low ha)
             have HB10 := Lib.hid (HB9.out.trans (ha.mono HB9.out.size))
             have Cc10 := Lib.hid (Cc9.out.on ha)
             have Ce10 := Lib.hid (Ce9.out.on ha)
             have Yq10 := Lib.hid ((Yq9.out.below ha).more ha.size)
             have Yr10 := Lib.hid ((Yr9.out.below ha).more ha.size)
             have Yb10 := Lib.hid ((Yb9.out.below ha).more ha.size)
             have Cd10 := Lib.hid (Bc.new_ (c := ck8) hm.is_ (by omega : nk8 ≤ 1000000))
             clear xxc8 xxe8
             have xxc10 := Cc10.out.cell
             have xxe10 := Ce10.out.cell
             have xxd10 := Cd10.out.cell
             clear hb ha hm hn CT)
          | (have fl := FL4; clear FL4
             go_at_call 17
             refine (Cc10.out.same Cd10.out).mono ?_
             rintro e v11 ⟨rfl, hb⟩
             rw [show (X == X) = true by simp]
             have G11 := Lib.hid (G10.out.low hb)
             have HB11 := Lib.hid (HB10.out.trans (hb.mono HB10.out.size))
             have Cc11 := Lib.hid (Cc10.out.on hb)
             have Ce11 := Lib.hid (Ce10.out.on hb)
             have Cd11 := Lib.hid (Cd10.out.on hb)
             have Yq11 := Lib.hid ((Yq10.out.below hb).more hb.size)
             have Yr11 := Lib.hid ((Yr10.out.below hb).more hb.size)
             have Yb11 := Lib.hid ((Yb10.out.below hb).more hb.size)
             clear xxc10 xxe10 xxd10
             have xxc11 := Cc11.out.cell
             have xxe11 := Ce11.out.cell
             have xxd11 := Cd11.out.cell
             clear hb)
          | (have fl := FL5; clear FL5
             go_at_call 15
             refine (Cc11.out.hasc G11.out m).mono ?_
             rintro e v12 ⟨rfl, hb⟩
             rw [hi]
             have G12 := Lib.hid (G11.out.low hb)
             have HB12 := Lib.hid (HB11.out.trans (hb.mono HB11.out.size))
             have Cc12 := Lib.hid (Cc11.out.on hb)
             have Ce12 := Lib.hid (Ce11.out.on hb)
             have Cd12 := Lib.hid (Cd11.out.on hb)
             have Yq12 := Lib.hid ((Yq11.out.below hb).more hb.size)
             have Yr12 := Lib.hid ((Yr11.out.below hb).more hb.size)
             have Yb12 := Lib.hid ((Yb11.out.below hb).more hb.size)
             clear xxc11 xxe11 xxd11
             have xxc12 := Cc12.out.cell
             have xxe12 := Ce12.out.cell
             have xxd12 := Cd12.out.cell
             clear hb)
          | (have fl := FL6; clear FL6
             go_at_call 27
             have CT := Cc12.out.drop G12.out m
             rw [g1] at CT
             refine CT.mono ?_
             rintro e v13 ⟨Ak12, nk12, ck12, rfl, hm, hn, hb⟩
             have G13 := Lib.hid (G12.out.low hb)
             have HB13 := Lib.hid (HB12.out.trans (hb.mono HB12.out.size))
             have Cc13 := Lib.hid (Cc12.out.on hb)
             have Ce13 := Lib.hid (Ce12.out.on hb)
             have Cd13 := Lib.hid (Cd12.out.on hb)
             have Yq13 := Lib.hid ((Yq12.out.below hb).more hb.size)
             have Yr13 := Lib.hid ((Yr12.out.below hb).more hb.size)
             have Yb13 := Lib.hid ((Yb12.out.below hb).more hb.size)
             have ha : Below v13.heap.size v13 (v13.alloc (.cells #[.slice Ak12 nk12 ck12] 27)) := (Below.refl _ _).alloc (Nat.le_refl _) _
             have G14 := Lib.hid (G13.out.low ha)
             have HB14 := Lib.hid (HB13.out.trans (ha.mono HB13.out.size))
             have Cc14 := Lib.hid (Cc13.out.on ha)
             have Ce14 := Lib.hid (Ce13.out.on ha)
             have Cd14 := Lib.hid (Cd13.out.on ha)
             have Yq14 := Lib.hid ((Yq13.out.below ha).more ha.size)
             have Yr14 := Lib.hid ((Yr13.out.below ha).more ha.size)
             have Yb14 := Lib.hid ((Yb13.out.below ha).more ha.size)
             have Cl14 := Lib.hid (Bc.new_ (c := ck12) hm.is_ (by omega : nk12 ≤ 1000000))
             clear xxc12 xxe12 xxd12
             have xxc14 := Cc14.out.cell
             have xxe14 := Ce14.out.cell
             have xxd14 := Cd14.out.cell
             have xxl14 := Cl14.out.cell
             clear hb ha hm hn CT)
          | (have fl := FL7; clear FL7
             go_at_call 26
             have CT := Cl14.out.add G14.out m
             rw [g2, g3] at CT
             refine CT.mono ?_
             rintro e v15 ⟨Ak14, nk14, ck14, rfl, hm, hn, hb⟩
             have G15 := Lib.hid (G14.out.low hb)
             have HB15 := Lib.hid (HB14.out.trans (hb.mono HB14.out.size))
             have Cc15 := Lib.hid (Cc14.out.on hb)
             have Ce15 := Lib.hid (Ce14.out.on hb)
             have Cd15 := Lib.hid (Cd14.out.on hb)
             have Cl15 := Lib.hid (Cl14.out.on hb)
             have Yq15 := Lib.hid ((Yq14.out.below hb).more hb.size)
             have Yr15 := Lib.hid ((Yr14.out.below hb).more hb.size)
             have Yb15 := Lib.hid ((Yb14.out.below hb).more hb.size)
             have ha : Below v15.heap.size v15 (v15.alloc (.cells #[.slice Ak14 nk14 ck14] 27)) := (Below.refl _ _).alloc (Nat.le_refl _) _
             have G16 := Lib.hid (G15.out.low ha)
             have HB16 := Lib.hid (HB15.out.trans (ha.mono HB15.out.size))
             have Cc16 := Lib.hid (Cc15.out.on ha)
             have Ce16 := Lib.hid (Ce15.out.on ha)
             have Cd16 := Lib.hid (Cd15.out.on ha)
             have Cl16 := Lib.hid (Cl15.out.on ha)
             have Yq16 := Lib.hid ((Yq15.out.below ha).more ha.size)
             have Yr16 := Lib.hid ((Yr15.out.below ha).more ha.size)
             have Yb16 := Lib.hid ((Yb15.out.below ha).more ha.size)
             have Ck16 := Lib.hid (Bc.new_ (c := ck14) hm.is_ (by omega : nk14 ≤ 1000000))
             clear xxc14 xxe14 xxd14 xxl14
             have xxc16 := Cc16.out.cell
             have xxe16 := Ce16.out.cell
             have xxd16 := Cd16.out.cell
             have xxl16 := Cl16.out.cell
             have xxk16 := Ck16.out.cell
             clear hb ha hm hn CT)
          | (have fl := FL8; clear FL8
             go_at_call 17
             refine (Ck16.out.same Cc16.out).mono ?_
             rintro e v17 ⟨rfl, hb⟩
             rw [show (X == X) = true by simp]
             have G17 := Lib.hid (G16.out.low hb)
             have HB17 := Lib.hid (HB16.out.trans (hb.mono HB16.out.size))
             have Cc17 := Lib.hid (Cc16.out.on hb)
             have Ce17 := Lib.hid (Ce16.out.on hb)
             have Cd17 := Lib.hid (Cd16.out.on hb)
             have Cl17 := Lib.hid (Cl16.out.on hb)
             have Ck17 := Lib.hid (Ck16.out.on hb)
             have Yq17 := Lib.hid ((Yq16.out.below hb).more hb.size)
             have Yr17 := Lib.hid ((Yr16.out.below hb).more hb.size)
             have Yb17 := Lib.hid ((Yb16.out.below hb).more hb.size)
             clear xxc16 xxe16 xxd16 xxl16 xxk16
             have xxc17 := Cc17.out.cell
             have xxe17 := Ce17.out.cell
             have xxd17 := Cd17.out.cell
             have xxl17 := Cl17.out.cell
             have xxk17 := Ck17.out.cell
             clear hb)
          | (have fl := FL9; clear FL9
             go_at_call 15
             refine (Cl17.out.hasc G17.out m).mono ?_
             rintro e v18 ⟨rfl, hb⟩
             rw [g4]
             have G18 := Lib.hid (G17.out.low hb)
             have HB18 := Lib.hid (HB17.out.trans (hb.mono HB17.out.size))
             have Cc18 := Lib.hid (Cc17.out.on hb)
             have Ce18 := Lib.hid (Ce17.out.on hb)
             have Cd18 := Lib.hid (Cd17.out.on hb)
             have Cl18 := Lib.hid (Cl17.out.on hb)
             have Ck18 := Lib.hid (Ck17.out.on hb)
             have Yq18 := Lib.hid ((Yq17.out.below hb).more hb.size)
             have Yr18 := Lib.hid ((Yr17.out.below hb).more hb.size)
             have Yb18 := Lib.hid ((Yb17.out.below hb).more hb.size)
             clear xxc17 xxe17 xxd17 xxl17 xxk17
             have xxc18 := Cc18.out.cell
             have xxe18 := Ce18.out.cell
             have xxd18 := Cd18.out.cell
             have xxl18 := Cl18.out.cell
             have xxk18 := Ck18.out.cell
             clear hb)
          | (have fl := FL10; clear FL10
             go_at_call 25
             refine (Cc18.out.step Cl18.out G18.out).mono ?_
             rintro e v19 ⟨rfl, hb⟩
             rw [g5]
             have G19 := Lib.hid (G18.out.low hb)
             have HB19 := Lib.hid (HB18.out.trans (hb.mono HB18.out.size))
             have Cc19 := Lib.hid (Cc18.out.on hb)
             have Ce19 := Lib.hid (Ce18.out.on hb)
             have Cd19 := Lib.hid (Cd18.out.on hb)
             have Cl19 := Lib.hid (Cl18.out.on hb)
             have Ck19 := Lib.hid (Ck18.out.on hb)
             have Yq19 := Lib.hid ((Yq18.out.below hb).more hb.size)
             have Yr19 := Lib.hid ((Yr18.out.below hb).more hb.size)
             have Yb19 := Lib.hid ((Yb18.out.below hb).more hb.size)
             clear xxc18 xxe18 xxd18 xxl18 xxk18
             have xxc19 := Cc19.out.cell
             have xxe19 := Ce19.out.cell
             have xxd19 := Cd19.out.cell
             have xxl19 := Cl19.out.cell
             have xxk19 := Ck19.out.cell
             clear hb)
          | (have fl := FL11; clear FL11
             go_at_call 25
             refine (Cl19.out.step Cc19.out G19.out).mono ?_
             rintro e v20 ⟨rfl, hb⟩
             rw [g6]
             have G20 := Lib.hid (G19.out.low hb)
             have HB20 := Lib.hid (HB19.out.trans (hb.mono HB19.out.size))
             have Cc20 := Lib.hid (Cc19.out.on hb)
             have Ce20 := Lib.hid (Ce19.out.on hb)
             have Cd20 := Lib.hid (Cd19.out.on hb)
             have Cl20 := Lib.hid (Cl19.out.on hb)
             have Ck20 := Lib.hid (Ck19.out.on hb)
             have Yq20 := Lib.hid ((Yq19.out.below hb).more hb.size)
             have Yr20 := Lib.hid ((Yr19.out.below hb).more hb.size)
             have Yb20 := Lib.hid ((Yb19.out.below hb).more hb.size)
             clear xxc19 xxe19 xxd19 xxl19 xxk19
             have xxc20 := Cc20.out.cell
             have xxe20 := Ce20.out.cell
             have xxd20 := Cd20.out.cell
             have xxl20 := Cl20.out.cell
             have xxk20 := Ck20.out.cell
             clear hb))
        go_ret
        exact ⟨rfl, HB20.out⟩
    | false =>
      by_cases ha : alo m = 0
      · obtain ⟨g1, g2⟩ := came_no hx ha
        have hne : (addE X m != 0) = true := by simpa using g1
        clear hx ha
        by_cases gm : m < 1
        · clear g2
          have FL0 : Hid True := Lib.hid trivial
          have FL1 : Hid True := Lib.hid trivial
          have FL2 : Hid True := Lib.hid trivial
          have FL3 : Hid True := Lib.hid trivial
          have FL4 : Hid True := Lib.hid trivial
          have FL5 : Hid True := Lib.hid trivial
          have FL6 : Hid True := Lib.hid trivial
          go_wp2_with (first
            | (have fl := FL0; clear FL0
               go_at_call 33
               have CT := decode_any A2 k c2 _ _ _ Yq4.out KK.out.2.1 KK.out.1 KK.out.2.2 (Nat.le_refl _) G4.out
               refine CT.mono ?_
               rintro e v5 ⟨Ak4, nk4, ck4, rfl, hm, hn, hb⟩
               have G5 := Lib.hid (G4.out.low hb)
               have HB5 := Lib.hid (HB4.out.trans (hb.mono HB4.out.size))
               have Cc5 := Lib.hid (Cc4.out.on hb)
               have Yq5 := Lib.hid ((Yq4.out.below hb).more hb.size)
               have Yr5 := Lib.hid ((Yr4.out.below hb).more hb.size)
               have ha : Below v5.heap.size v5 (v5.alloc (.cells #[.slice Ak4 nk4 ck4] 27)) := (Below.refl _ _).alloc (Nat.le_refl _) _
               have G6 := Lib.hid (G5.out.low ha)
               have HB6 := Lib.hid (HB5.out.trans (ha.mono HB5.out.size))
               have Cc6 := Lib.hid (Cc5.out.on ha)
               have Yq6 := Lib.hid ((Yq5.out.below ha).more ha.size)
               have Yr6 := Lib.hid ((Yr5.out.below ha).more ha.size)
               have Ce6 := Lib.hid (Bc.new_ (c := ck4) hm.is_ (by omega : nk4 ≤ 1000000))
               clear xxc4
               have xxc6 := Cc6.out.cell
               have xxe6 := Ce6.out.cell
               clear hb ha hm hn CT)
            | (have fl := FL1; clear FL1
               go_at_call 14
               refine (Cc6.out.check G6.out).mono ?_
               rintro e v7 ⟨rfl, hb⟩
               rw [e3]
               have G7 := Lib.hid (G6.out.low hb)
               have HB7 := Lib.hid (HB6.out.trans (hb.mono HB6.out.size))
               have Cc7 := Lib.hid (Cc6.out.on hb)
               have Ce7 := Lib.hid (Ce6.out.on hb)
               have Yq7 := Lib.hid ((Yq6.out.below hb).more hb.size)
               have Yr7 := Lib.hid ((Yr6.out.below hb).more hb.size)
               clear xxc6 xxe6
               have xxc7 := Cc7.out.cell
               have xxe7 := Ce7.out.cell
               clear hb)
            | (have fl := FL2; clear FL2
               go_at_call 30
               have CT := Cc7.out.encode G7.out
               rw [e3] at CT
               refine CT.mono ?_
               rintro e v8 ⟨Ab, nb, cb, rfl, ho, hb⟩
               have G8 := Lib.hid (G7.out.low hb)
               have HB8 := Lib.hid (HB7.out.trans (hb.mono HB7.out.size))
               have Cc8 := Lib.hid (Cc7.out.on hb)
               have Ce8 := Lib.hid (Ce7.out.on hb)
               have Yq8 := Lib.hid ((Yq7.out.below hb).more hb.size)
               have Yr8 := Lib.hid ((Yr7.out.below hb).more hb.size)
               have Yb8 := Lib.hid ho.by
               have YCb := Lib.hid ho.cap
               have YLb := Lib.hid ho.len
               have YMb := Lib.hid (own_cm ho)
               clear xxc7 xxe7
               have xxc8 := Cc8.out.cell
               have xxe8 := Ce8.out.cell
               clear hb ho CT)
            | (have fl := FL3; clear FL3
               go_at_call 33
               have CT := decode_any Ab nb cb _ _ _ Yb8.out (by have := YLb.out; have := NE.out; omega) YCb.out YMb.out (Nat.le_refl _) G8.out
               rw [e1, e2] at CT
               refine CT.mono ?_
               rintro e v9 ⟨Ak8, nk8, ck8, rfl, hm, hn, hb⟩
               have G9 := Lib.hid (G8.out.low hb)
               have HB9 := Lib.hid (HB8.out.trans (hb.mono HB8.out.size))
               have Cc9 := Lib.hid (Cc8.out.on hb)
               have Ce9 := Lib.hid (Ce8.out.on hb)
               have Yq9 := Lib.hid ((Yq8.out.below hb).more hb.size)
               have Yr9 := Lib.hid ((Yr8.out.below hb).more hb.size)
               have Yb9 := Lib.hid ((Yb8.out.below hb).more hb.size)
               have ha : Below v9.heap.size v9 (v9.alloc (.cells #[.slice Ak8 nk8 ck8] 27)) := (Below.refl _ _).alloc (Nat.le_refl _) _
               have G10 := Lib.hid (G9.out.low ha)
               have HB10 := Lib.hid (HB9.out.trans (ha.mono HB9.out.size))
               have Cc10 := Lib.hid (Cc9.out.on ha)
               have Ce10 := Lib.hid (Ce9.out.on ha)
               have Yq10 := Lib.hid ((Yq9.out.below ha).more ha.size)
               have Yr10 := Lib.hid ((Yr9.out.below ha).more ha.size)
               have Yb10 := Lib.hid ((Yb9.out.below ha).more ha.size)
               have Cd10 := Lib.hid (Bc.new_ (c := ck8) hm.is_ (by omega : nk8 ≤ 1000000))
               clear xxc8 xxe8
               have xxc10 := Cc10.out.cell
               have xxe10 := Ce10.out.cell
               have xxd10 := Cd10.out.cell
               clear hb ha hm hn CT)
            | (have fl := FL4; clear FL4
               go_at_call 17
               refine (Cc10.out.same Cd10.out).mono ?_
               rintro e v11 ⟨rfl, hb⟩
               rw [show (X == X) = true by simp]
               have G11 := Lib.hid (G10.out.low hb)
               have HB11 := Lib.hid (HB10.out.trans (hb.mono HB10.out.size))
               have Cc11 := Lib.hid (Cc10.out.on hb)
               have Ce11 := Lib.hid (Ce10.out.on hb)
               have Cd11 := Lib.hid (Cd10.out.on hb)
               have Yq11 := Lib.hid ((Yq10.out.below hb).more hb.size)
               have Yr11 := Lib.hid ((Yr10.out.below hb).more hb.size)
               have Yb11 := Lib.hid ((Yb10.out.below hb).more hb.size)
               clear xxc10 xxe10 xxd10
               have xxc11 := Cc11.out.cell
               have xxe11 := Ce11.out.cell
               have xxd11 := Cd11.out.cell
               clear hb)
            | (have fl := FL5; clear FL5
               go_at_call 15
               refine (Cc11.out.hasc G11.out m).mono ?_
               rintro e v12 ⟨rfl, hb⟩
               rw [hi]
               have G12 := Lib.hid (G11.out.low hb)
               have HB12 := Lib.hid (HB11.out.trans (hb.mono HB11.out.size))
               have Cc12 := Lib.hid (Cc11.out.on hb)
               have Ce12 := Lib.hid (Ce11.out.on hb)
               have Cd12 := Lib.hid (Cd11.out.on hb)
               have Yq12 := Lib.hid ((Yq11.out.below hb).more hb.size)
               have Yr12 := Lib.hid ((Yr11.out.below hb).more hb.size)
               have Yb12 := Lib.hid ((Yb11.out.below hb).more hb.size)
               clear xxc11 xxe11 xxd11
               have xxc12 := Cc12.out.cell
               have xxe12 := Ce12.out.cell
               have xxd12 := Cd12.out.cell
               clear hb)
            | (have fl := FL6; clear FL6
               go_at_call 26
               have CT := Cc12.out.add G12.out m
               refine CT.mono ?_
               rintro e v13 ⟨Ak12, nk12, ck12, rfl, hm, hn, hb⟩
               have G13 := Lib.hid (G12.out.low hb)
               have HB13 := Lib.hid (HB12.out.trans (hb.mono HB12.out.size))
               have Cc13 := Lib.hid (Cc12.out.on hb)
               have Ce13 := Lib.hid (Ce12.out.on hb)
               have Cd13 := Lib.hid (Cd12.out.on hb)
               have Yq13 := Lib.hid ((Yq12.out.below hb).more hb.size)
               have Yr13 := Lib.hid ((Yr12.out.below hb).more hb.size)
               have Yb13 := Lib.hid ((Yb12.out.below hb).more hb.size)
               have ha : Below v13.heap.size v13 (v13.alloc (.cells #[.slice Ak12 nk12 ck12] 27)) := (Below.refl _ _).alloc (Nat.le_refl _) _
               have G14 := Lib.hid (G13.out.low ha)
               have HB14 := Lib.hid (HB13.out.trans (ha.mono HB13.out.size))
               have Cc14 := Lib.hid (Cc13.out.on ha)
               have Ce14 := Lib.hid (Ce13.out.on ha)
               have Cd14 := Lib.hid (Cd13.out.on ha)
               have Yq14 := Lib.hid ((Yq13.out.below ha).more ha.size)
               have Yr14 := Lib.hid ((Yr13.out.below ha).more ha.size)
               have Yb14 := Lib.hid ((Yb13.out.below ha).more ha.size)
               have Co14 := Lib.hid (Bc.new_ (c := ck12) hm.is_ (by omega : nk12 ≤ 1000000))
               clear xxc12 xxe12 xxd12
               have xxc14 := Cc14.out.cell
               have xxe14 := Ce14.out.cell
               have xxd14 := Cd14.out.cell
               have xxo14 := Co14.out.cell
               clear hb ha hm hn CT))
          go_ret
          exact ⟨rfl, HB14.out⟩
        · have gm5 : 5 < m := by omega
          clear g2
          have FL0 : Hid True := Lib.hid trivial
          have FL1 : Hid True := Lib.hid trivial
          have FL2 : Hid True := Lib.hid trivial
          have FL3 : Hid True := Lib.hid trivial
          have FL4 : Hid True := Lib.hid trivial
          have FL5 : Hid True := Lib.hid trivial
          have FL6 : Hid True := Lib.hid trivial
          go_wp2_with (first
            | (have fl := FL0; clear FL0
               go_at_call 33
               have CT := decode_any A2 k c2 _ _ _ Yq4.out KK.out.2.1 KK.out.1 KK.out.2.2 (Nat.le_refl _) G4.out
               refine CT.mono ?_
               rintro e v5 ⟨Ak4, nk4, ck4, rfl, hm, hn, hb⟩
               have G5 := Lib.hid (G4.out.low hb)
               have HB5 := Lib.hid (HB4.out.trans (hb.mono HB4.out.size))
               have Cc5 := Lib.hid (Cc4.out.on hb)
               have Yq5 := Lib.hid ((Yq4.out.below hb).more hb.size)
               have Yr5 := Lib.hid ((Yr4.out.below hb).more hb.size)
               have ha : Below v5.heap.size v5 (v5.alloc (.cells #[.slice Ak4 nk4 ck4] 27)) := (Below.refl _ _).alloc (Nat.le_refl _) _
               have G6 := Lib.hid (G5.out.low ha)
               have HB6 := Lib.hid (HB5.out.trans (ha.mono HB5.out.size))
               have Cc6 := Lib.hid (Cc5.out.on ha)
               have Yq6 := Lib.hid ((Yq5.out.below ha).more ha.size)
               have Yr6 := Lib.hid ((Yr5.out.below ha).more ha.size)
               have Ce6 := Lib.hid (Bc.new_ (c := ck4) hm.is_ (by omega : nk4 ≤ 1000000))
               clear xxc4
               have xxc6 := Cc6.out.cell
               have xxe6 := Ce6.out.cell
               clear hb ha hm hn CT)
            | (have fl := FL1; clear FL1
               go_at_call 14
               refine (Cc6.out.check G6.out).mono ?_
               rintro e v7 ⟨rfl, hb⟩
               rw [e3]
               have G7 := Lib.hid (G6.out.low hb)
               have HB7 := Lib.hid (HB6.out.trans (hb.mono HB6.out.size))
               have Cc7 := Lib.hid (Cc6.out.on hb)
               have Ce7 := Lib.hid (Ce6.out.on hb)
               have Yq7 := Lib.hid ((Yq6.out.below hb).more hb.size)
               have Yr7 := Lib.hid ((Yr6.out.below hb).more hb.size)
               clear xxc6 xxe6
               have xxc7 := Cc7.out.cell
               have xxe7 := Ce7.out.cell
               clear hb)
            | (have fl := FL2; clear FL2
               go_at_call 30
               have CT := Cc7.out.encode G7.out
               rw [e3] at CT
               refine CT.mono ?_
               rintro e v8 ⟨Ab, nb, cb, rfl, ho, hb⟩
               have G8 := Lib.hid (G7.out.low hb)
               have HB8 := Lib.hid (HB7.out.trans (hb.mono HB7.out.size))
               have Cc8 := Lib.hid (Cc7.out.on hb)
               have Ce8 := Lib.hid (Ce7.out.on hb)
               have Yq8 := Lib.hid ((Yq7.out.below hb).more hb.size)
               have Yr8 := Lib.hid ((Yr7.out.below hb).more hb.size)
               have Yb8 := Lib.hid ho.by
               have YCb := Lib.hid ho.cap
               have YLb := Lib.hid ho.len
               have YMb := Lib.hid (own_cm ho)
               clear xxc7 xxe7
               have xxc8 := Cc8.out.cell
               have xxe8 := Ce8.out.cell
               clear hb ho CT)
            | (have fl := FL3; clear FL3
               go_at_call 33
               have CT := decode_any Ab nb cb _ _ _ Yb8.out (by have := YLb.out; have := NE.out; omega) YCb.out YMb.out (Nat.le_refl _) G8.out
               rw [e1, e2] at CT
               refine CT.mono ?_
               rintro e v9 ⟨Ak8, nk8, ck8, rfl, hm, hn, hb⟩
               have G9 := Lib.hid (G8.out.low hb)
               have HB9 := Lib.hid (HB8.out.trans (hb.mono HB8.out.size))
               have Cc9 := Lib.hid (Cc8.out.on hb)
               have Ce9 := Lib.hid (Ce8.out.on hb)
               have Yq9 := Lib.hid ((Yq8.out.below hb).more hb.size)
               have Yr9 := Lib.hid ((Yr8.out.below hb).more hb.size)
               have Yb9 := Lib.hid ((Yb8.out.below hb).more hb.size)
               have ha : Below v9.heap.size v9 (v9.alloc (.cells #[.slice Ak8 nk8 ck8] 27)) := (Below.refl _ _).alloc (Nat.le_refl _) _
               have G10 := Lib.hid (G9.out.low ha)
               have HB10 := Lib.hid (HB9.out.trans (ha.mono HB9.out.size))
               have Cc10 := Lib.hid (Cc9.out.on ha)
               have Ce10 := Lib.hid (Ce9.out.on ha)
               have Yq10 := Lib.hid ((Yq9.out.below ha).more ha.size)
               have Yr10 := Lib.hid ((Yr9.out.below ha).more ha.size)
               have Yb10 := Lib.hid ((Yb9.out.below ha).more ha.size)
               have Cd10 := Lib.hid (Bc.new_ (c := ck8) hm.is_ (by omega : nk8 ≤ 1000000))
               clear xxc8 xxe8
               have xxc10 := Cc10.out.cell
               have xxe10 := Ce10.out.cell
               have xxd10 := Cd10.out.cell
               clear hb ha hm hn CT)
            | (have fl := FL4; clear FL4
               go_at_call 17
               refine (Cc10.out.same Cd10.out).mono ?_
               rintro e v11 ⟨rfl, hb⟩
               rw [show (X == X) = true by simp]
               have G11 := Lib.hid (G10.out.low hb)
               have HB11 := Lib.hid (HB10.out.trans (hb.mono HB10.out.size))
               have Cc11 := Lib.hid (Cc10.out.on hb)
               have Ce11 := Lib.hid (Ce10.out.on hb)
               have Cd11 := Lib.hid (Cd10.out.on hb)
               have Yq11 := Lib.hid ((Yq10.out.below hb).more hb.size)
               have Yr11 := Lib.hid ((Yr10.out.below hb).more hb.size)
               have Yb11 := Lib.hid ((Yb10.out.below hb).more hb.size)
               clear xxc10 xxe10 xxd10
               have xxc11 := Cc11.out.cell
               have xxe11 := Ce11.out.cell
               have xxd11 := Cd11.out.cell
               clear hb)
            | (have fl := FL5; clear FL5
               go_at_call 15
               refine (Cc11.out.hasc G11.out m).mono ?_
               rintro e v12 ⟨rfl, hb⟩
               rw [hi]
               have G12 := Lib.hid (G11.out.low hb)
               have HB12 := Lib.hid (HB11.out.trans (hb.mono HB11.out.size))
               have Cc12 := Lib.hid (Cc11.out.on hb)
               have Ce12 := Lib.hid (Ce11.out.on hb)
               have Cd12 := Lib.hid (Cd11.out.on hb)
               have Yq12 := Lib.hid ((Yq11.out.below hb).more hb.size)
               have Yr12 := Lib.hid ((Yr11.out.below hb).more hb.size)
               have Yb12 := Lib.hid ((Yb11.out.below hb).more hb.size)
               clear xxc11 xxe11 xxd11
               have xxc12 := Cc12.out.cell
               have xxe12 := Ce12.out.cell
               have xxd12 := Cd12.out.cell
               clear hb)
            | (have fl := FL6; clear FL6
               go_at_call 26
               have CT := Cc12.out.add G12.out m
               refine CT.mono ?_
               rintro e v13 ⟨Ak12, nk12, ck12, rfl, hm, hn, hb⟩
               have G13 := Lib.hid (G12.out.low hb)
               have HB13 := Lib.hid (HB12.out.trans (hb.mono HB12.out.size))
               have Cc13 := Lib.hid (Cc12.out.on hb)
               have Ce13 := Lib.hid (Ce12.out.on hb)
               have Cd13 := Lib.hid (Cd12.out.on hb)
               have Yq13 := Lib.hid ((Yq12.out.below hb).more hb.size)
               have Yr13 := Lib.hid ((Yr12.out.below hb).more hb.size)
               have Yb13 := Lib.hid ((Yb12.out.below hb).more hb.size)
               have ha : Below v13.heap.size v13 (v13.alloc (.cells #[.slice Ak12 nk12 ck12] 27)) := (Below.refl _ _).alloc (Nat.le_refl _) _
               have G14 := Lib.hid (G13.out.low ha)
               have HB14 := Lib.hid (HB13.out.trans (ha.mono HB13.out.size))
               have Cc14 := Lib.hid (Cc13.out.on ha)
               have Ce14 := Lib.hid (Ce13.out.on ha)
               have Cd14 := Lib.hid (Cd13.out.on ha)
               have Yq14 := Lib.hid ((Yq13.out.below ha).more ha.size)
               have Yr14 := Lib.hid ((Yr13.out.below ha).more ha.size)
               have Yb14 := Lib.hid ((Yb13.out.below ha).more ha.size)
               have Co14 := Lib.hid (Bc.new_ (c := ck12) hm.is_ (by omega : nk12 ≤ 1000000))
               clear xxc12 xxe12 xxd12
               have xxc14 := Cc14.out.cell
               have xxe14 := Ce14.out.cell
               have xxd14 := Cd14.out.cell
               have xxo14 := Co14.out.cell
               clear hb ha hm hn CT))
          go_ret
          exact ⟨rfl, HB14.out⟩
      · obtain ⟨g1, g2, g3, g4, g5, g6⟩ := came hx hi ha
        clear hx ha
        have FL0 : Hid True := Lib.hid trivial
        have FL1 : Hid True := Lib.hid trivial
        have FL2 : Hid True := Lib.hid trivial
        have FL3 : Hid True := Lib.hid trivial
        have FL4 : Hid True := Lib.hid trivial
        have FL5 : Hid True := Lib.hid trivial
        have FL6 : Hid True := Lib.hid trivial
        have FL7 : Hid True := Lib.hid trivial
        have FL8 : Hid True := Lib.hid trivial
        have FL9 : Hid True := Lib.hid trivial
        have FL10 : Hid True := Lib.hid trivial
        have FL11 : Hid True := Lib.hid trivial
        go_wp2_with (first
          | (have fl := FL0; clear FL0
             go_at_call 33
             have CT := decode_any A2 k c2 _ _ _ Yq4.out KK.out.2.1 KK.out.1 KK.out.2.2 (Nat.le_refl _) G4.out
             refine CT.mono ?_
             rintro e v5 ⟨Ak4, nk4, ck4, rfl, hm, hn, hb⟩
             have G5 := Lib.hid (G4.out.low hb)
             have HB5 := Lib.hid (HB4.out.trans (hb.mono HB4.out.size))
             have Cc5 := Lib.hid (Cc4.out.on hb)
             have Yq5 := Lib.hid ((Yq4.out.below hb).more hb.size)
             have Yr5 := Lib.hid ((Yr4.out.below hb).more hb.size)
             have ha : Below v5.heap.size v5 (v5.alloc (.cells #[.slice Ak4 nk4 ck4] 27)) := (Below.refl _ _).alloc (Nat.le_refl _) _
             have G6 := Lib.hid (G5.out.low ha)
             have HB6 := Lib.hid (HB5.out.trans (ha.mono HB5.out.size))
             have Cc6 := Lib.hid (Cc5.out.on ha)
             have Yq6 := Lib.hid ((Yq5.out.below ha).more ha.size)
             have Yr6 := Lib.hid ((Yr5.out.below ha).more ha.size)
             have Ce6 := Lib.hid (Bc.new_ (c := ck4) hm.is_ (by omega : nk4 ≤ 1000000))
             clear xxc4
             have xxc6 := Cc6.out.cell
             have xxe6 := Ce6.out.cell
             clear hb ha hm hn CT)
          | (have fl := FL1; clear FL1
             go_at_call 14
             refine (Cc6.out.check G6.out).mono ?_
             rintro e v7 ⟨rfl, hb⟩
             rw [e3]
             have G7 := Lib.hid (G6.out.low hb)
             have HB7 := Lib.hid (HB6.out.trans (hb.mono HB6.out.size))
             have Cc7 := Lib.hid (Cc6.out.on hb)
             have Ce7 := Lib.hid (Ce6.out.on hb)
             have Yq7 := Lib.hid ((Yq6.out.below hb).more hb.size)
             have Yr7 := Lib.hid ((Yr6.out.below hb).more hb.size)
             clear xxc6 xxe6
             have xxc7 := Cc7.out.cell
             have xxe7 := Ce7.out.cell
             clear hb)
          | (have fl := FL2; clear FL2
             go_at_call 30
             have CT := Cc7.out.encode G7.out
             rw [e3] at CT
             refine CT.mono ?_
             rintro e v8 ⟨Ab, nb, cb, rfl, ho, hb⟩
             have G8 := Lib.hid (G7.out.low hb)
             have HB8 := Lib.hid (HB7.out.trans (hb.mono HB7.out.size))
             have Cc8 := Lib.hid (Cc7.out.on hb)
             have Ce8 := Lib.hid (Ce7.out.on hb)
             have Yq8 := Lib.hid ((Yq7.out.below hb).more hb.size)
             have Yr8 := Lib.hid ((Yr7.out.below hb).more hb.size)
             have Yb8 := Lib.hid ho.by
             have YCb := Lib.hid ho.cap
             have YLb := Lib.hid ho.len
             have YMb := Lib.hid (own_cm ho)
             clear xxc7 xxe7
             have xxc8 := Cc8.out.cell
             have xxe8 := Ce8.out.cell
             clear hb ho CT)
          | (have fl := FL3; clear FL3
             go_at_call 33
             have CT := decode_any Ab nb cb _ _ _ Yb8.out (by have := YLb.out; have := NE.out; omega) YCb.out YMb.out (Nat.le_refl _) G8.out
             rw [e1, e2] at CT
             refine CT.mono ?_
             rintro e v9 ⟨Ak8, nk8, ck8, rfl, hm, hn, hb⟩
             have G9 := Lib.hid (G8.out.low hb)
             have HB9 := Lib.hid (HB8.out.trans (hb.mono HB8.out.size))
             have Cc9 := Lib.hid (Cc8.out.on hb)
             have Ce9 := Lib.hid (Ce8.out.on hb)
             have Yq9 := Lib.hid ((Yq8.out.below hb).more hb.size)
             have Yr9 := Lib.hid ((Yr8.out.below hb).more hb.size)
             have Yb9 := Lib.hid ((Yb8.out.below hb).more hb.size)
             have ha : Below v9.heap.size v9 (v9.alloc (.cells #[.slice Ak8 nk8 ck8] 27)) := (Below.refl _ _).alloc (Nat.le_refl _) _
             have G10 := Lib.hid (G9.out.low ha)
             have HB10 := Lib.hid (HB9.out.trans (ha.mono HB9.out.size))
             have Cc10 := Lib.hid (Cc9.out.on ha)
             have Ce10 := Lib.hid (Ce9.out.on ha)
             have Yq10 := Lib.hid ((Yq9.out.below ha).more ha.size)
             have Yr10 := Lib.hid ((Yr9.out.below ha).more ha.size)
             have Yb10 := Lib.hid ((Yb9.out.below ha).more ha.size)
             have Cd10 := Lib.hid (Bc.new_ (c := ck8) hm.is_ (by omega : nk8 ≤ 1000000))
             clear xxc8 xxe8
             have xxc10 := Cc10.out.cell
             have xxe10 := Ce10.out.cell
             have xxd10 := Cd10.out.cell
             clear hb ha hm hn CT)
          | (have fl := FL4; clear FL4
             go_at_call 17
             refine (Cc10.out.same Cd10.out).mono ?_
             rintro e v11 ⟨rfl, hb⟩
             rw [show (X == X) = true by simp]
             have G11 := Lib.hid (G10.out.low hb)
             have HB11 := Lib.hid (HB10.out.trans (hb.mono HB10.out.size))
             have Cc11 := Lib.hid (Cc10.out.on hb)
             have Ce11 := Lib.hid (Ce10.out.on hb)
             have Cd11 := Lib.hid (Cd10.out.on hb)
             have Yq11 := Lib.hid ((Yq10.out.below hb).more hb.size)
             have Yr11 := Lib.hid ((Yr10.out.below hb).more hb.size)
             have Yb11 := Lib.hid ((Yb10.out.below hb).more hb.size)
             clear xxc10 xxe10 xxd10
             have xxc11 := Cc11.out.cell
             have xxe11 := Ce11.out.cell
             have xxd11 := Cd11.out.cell
             clear hb)
          | (have fl := FL5; clear FL5
             go_at_call 15
             refine (Cc11.out.hasc G11.out m).mono ?_
             rintro e v12 ⟨rfl, hb⟩
             rw [hi]
             have G12 := Lib.hid (G11.out.low hb)
             have HB12 := Lib.hid (HB11.out.trans (hb.mono HB11.out.size))
             have Cc12 := Lib.hid (Cc11.out.on hb)
             have Ce12 := Lib.hid (Ce11.out.on hb)
             have Cd12 := Lib.hid (Cd11.out.on hb)
             have Yq12 := Lib.hid ((Yq11.out.below hb).more hb.size)
             have Yr12 := Lib.hid ((Yr11.out.below hb).more hb.size)
             have Yb12 := Lib.hid ((Yb11.out.below hb).more hb.size)
             clear xxc11 xxe11 xxd11
             have xxc12 := Cc12.out.cell
             have xxe12 := Ce12.out.cell
             have xxd12 := Cd12.out.cell
             clear hb)
          | (have fl := FL6; clear FL6
             go_at_call 26
             have CT := Cc12.out.add G12.out m
             rw [g1] at CT
             refine CT.mono ?_
             rintro e v13 ⟨Ak12, nk12, ck12, rfl, hm, hn, hb⟩
             have G13 := Lib.hid (G12.out.low hb)
             have HB13 := Lib.hid (HB12.out.trans (hb.mono HB12.out.size))
             have Cc13 := Lib.hid (Cc12.out.on hb)
             have Ce13 := Lib.hid (Ce12.out.on hb)
             have Cd13 := Lib.hid (Cd12.out.on hb)
             have Yq13 := Lib.hid ((Yq12.out.below hb).more hb.size)
             have Yr13 := Lib.hid ((Yr12.out.below hb).more hb.size)
             have Yb13 := Lib.hid ((Yb12.out.below hb).more hb.size)
             have ha : Below v13.heap.size v13 (v13.alloc (.cells #[.slice Ak12 nk12 ck12] 27)) := (Below.refl _ _).alloc (Nat.le_refl _) _
             have G14 := Lib.hid (G13.out.low ha)
             have HB14 := Lib.hid (HB13.out.trans (ha.mono HB13.out.size))
             have Cc14 := Lib.hid (Cc13.out.on ha)
             have Ce14 := Lib.hid (Ce13.out.on ha)
             have Cd14 := Lib.hid (Cd13.out.on ha)
             have Yq14 := Lib.hid ((Yq13.out.below ha).more ha.size)
             have Yr14 := Lib.hid ((Yr13.out.below ha).more ha.size)
             have Yb14 := Lib.hid ((Yb13.out.below ha).more ha.size)
             have Co14 := Lib.hid (Bc.new_ (c := ck12) hm.is_ (by omega : nk12 ≤ 1000000))
             clear xxc12 xxe12 xxd12
             have xxc14 := Cc14.out.cell
             have xxe14 := Ce14.out.cell
             have xxd14 := Cd14.out.cell
             have xxo14 := Co14.out.cell
             clear hb ha hm hn CT)
          | (have fl := FL7; clear FL7
             go_at_call 27
             have CT := Co14.out.drop G14.out m
             rw [g2, g3] at CT
             refine CT.mono ?_
             rintro e v15 ⟨Ak14, nk14, ck14, rfl, hm, hn, hb⟩
             have G15 := Lib.hid (G14.out.low hb)
             have HB15 := Lib.hid (HB14.out.trans (hb.mono HB14.out.size))
             have Cc15 := Lib.hid (Cc14.out.on hb)
             have Ce15 := Lib.hid (Ce14.out.on hb)
             have Cd15 := Lib.hid (Cd14.out.on hb)
             have Co15 := Lib.hid (Co14.out.on hb)
             have Yq15 := Lib.hid ((Yq14.out.below hb).more hb.size)
             have Yr15 := Lib.hid ((Yr14.out.below hb).more hb.size)
             have Yb15 := Lib.hid ((Yb14.out.below hb).more hb.size)
             have ha : Below v15.heap.size v15 (v15.alloc (.cells #[.slice Ak14 nk14 ck14] 27)) := (Below.refl _ _).alloc (Nat.le_refl _) _
             have G16 := Lib.hid (G15.out.low ha)
             have HB16 := Lib.hid (HB15.out.trans (ha.mono HB15.out.size))
             have Cc16 := Lib.hid (Cc15.out.on ha)
             have Ce16 := Lib.hid (Ce15.out.on ha)
             have Cd16 := Lib.hid (Cd15.out.on ha)
             have Co16 := Lib.hid (Co15.out.on ha)
             have Yq16 := Lib.hid ((Yq15.out.below ha).more ha.size)
             have Yr16 := Lib.hid ((Yr15.out.below ha).more ha.size)
             have Yb16 := Lib.hid ((Yb15.out.below ha).more ha.size)
             have Ck16 := Lib.hid (Bc.new_ (c := ck14) hm.is_ (by omega : nk14 ≤ 1000000))
             clear xxc14 xxe14 xxd14 xxo14
             have xxc16 := Cc16.out.cell
             have xxe16 := Ce16.out.cell
             have xxd16 := Cd16.out.cell
             have xxo16 := Co16.out.cell
             have xxk16 := Ck16.out.cell
             clear hb ha hm hn CT)
          | (have fl := FL8; clear FL8
             go_at_call 17
             refine (Ck16.out.same Cc16.out).mono ?_
             rintro e v17 ⟨rfl, hb⟩
             rw [show (X == X) = true by simp]
             have G17 := Lib.hid (G16.out.low hb)
             have HB17 := Lib.hid (HB16.out.trans (hb.mono HB16.out.size))
             have Cc17 := Lib.hid (Cc16.out.on hb)
             have Ce17 := Lib.hid (Ce16.out.on hb)
             have Cd17 := Lib.hid (Cd16.out.on hb)
             have Co17 := Lib.hid (Co16.out.on hb)
             have Ck17 := Lib.hid (Ck16.out.on hb)
             have Yq17 := Lib.hid ((Yq16.out.below hb).more hb.size)
             have Yr17 := Lib.hid ((Yr16.out.below hb).more hb.size)
             have Yb17 := Lib.hid ((Yb16.out.below hb).more hb.size)
             clear xxc16 xxe16 xxd16 xxo16 xxk16
             have xxc17 := Cc17.out.cell
             have xxe17 := Ce17.out.cell
             have xxd17 := Cd17.out.cell
             have xxo17 := Co17.out.cell
             have xxk17 := Ck17.out.cell
             clear hb)
          | (have fl := FL9; clear FL9
             go_at_call 15
             refine (Co17.out.hasc G17.out m).mono ?_
             rintro e v18 ⟨rfl, hb⟩
             rw [g4]
             have G18 := Lib.hid (G17.out.low hb)
             have HB18 := Lib.hid (HB17.out.trans (hb.mono HB17.out.size))
             have Cc18 := Lib.hid (Cc17.out.on hb)
             have Ce18 := Lib.hid (Ce17.out.on hb)
             have Cd18 := Lib.hid (Cd17.out.on hb)
             have Co18 := Lib.hid (Co17.out.on hb)
             have Ck18 := Lib.hid (Ck17.out.on hb)
             have Yq18 := Lib.hid ((Yq17.out.below hb).more hb.size)
             have Yr18 := Lib.hid ((Yr17.out.below hb).more hb.size)
             have Yb18 := Lib.hid ((Yb17.out.below hb).more hb.size)
             clear xxc17 xxe17 xxd17 xxo17 xxk17
             have xxc18 := Cc18.out.cell
             have xxe18 := Ce18.out.cell
             have xxd18 := Cd18.out.cell
             have xxo18 := Co18.out.cell
             have xxk18 := Ck18.out.cell
             clear hb)
          | (have fl := FL10; clear FL10
             go_at_call 25
             refine (Cc18.out.step Co18.out G18.out).mono ?_
             rintro e v19 ⟨rfl, hb⟩
             rw [g5]
             have G19 := Lib.hid (G18.out.low hb)
             have HB19 := Lib.hid (HB18.out.trans (hb.mono HB18.out.size))
             have Cc19 := Lib.hid (Cc18.out.on hb)
             have Ce19 := Lib.hid (Ce18.out.on hb)
             have Cd19 := Lib.hid (Cd18.out.on hb)
             have Co19 := Lib.hid (Co18.out.on hb)
             have Ck19 := Lib.hid (Ck18.out.on hb)
             have Yq19 := Lib.hid ((Yq18.out.below hb).more hb.size)
             have Yr19 := Lib.hid ((Yr18.out.below hb).more hb.size)
             have Yb19 := Lib.hid ((Yb18.out.below hb).more hb.size)
             clear xxc18 xxe18 xxd18 xxo18 xxk18
             have xxc19 := Cc19.out.cell
             have xxe19 := Ce19.out.cell
             have xxd19 := Cd19.out.cell
             have xxo19 := Co19.out.cell
             have xxk19 := Ck19.out.cell
             clear hb)
          | (have fl := FL11; clear FL11
             go_at_call 25
             refine (Co19.out.step Cc19.out G19.out).mono ?_
             rintro e v20 ⟨rfl, hb⟩
             rw [g6]
             have G20 := Lib.hid (G19.out.low hb)
             have HB20 := Lib.hid (HB19.out.trans (hb.mono HB19.out.size))
             have Cc20 := Lib.hid (Cc19.out.on hb)
             have Ce20 := Lib.hid (Ce19.out.on hb)
             have Cd20 := Lib.hid (Cd19.out.on hb)
             have Co20 := Lib.hid (Co19.out.on hb)
             have Ck20 := Lib.hid (Ck19.out.on hb)
             have Yq20 := Lib.hid ((Yq19.out.below hb).more hb.size)
             have Yr20 := Lib.hid ((Yr19.out.below hb).more hb.size)
             have Yb20 := Lib.hid ((Yb19.out.below hb).more hb.size)
             clear xxc19 xxe19 xxd19 xxo19 xxk19
             have xxc20 := Cc20.out.cell
             have xxe20 := Ce20.out.cell
             have xxd20 := Cd20.out.cell
             have xxo20 := Co20.out.cell
             have xxk20 := Ck20.out.cell
             clear hb))
        go_ret
        exact ⟨rfl, HB20.out⟩
end Go.Proofs.YtfclppopelmdgaaDoor
