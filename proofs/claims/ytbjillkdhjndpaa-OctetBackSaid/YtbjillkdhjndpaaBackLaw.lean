/-
  The law OctetBack, walked.
-/
import Derived.Test.YtbjillkdhjndpaaBack0
namespace Go.Proofs.Ytbjillkdhjndpaa
open Go.RowKit

theorem Moved.grew {w w' : World} {p n c : Nat} {k er : Int} {A : Option Addr} (h : Moved w p k er A n c w') : w.heap.size ≤ w'.heap.size := h.2.size

/-- Where the reading stands: the Reader at place q, its bytes, the rest that was put, the numbers. -/
def BackSt (w : World) (B p : Nat) (A5 : Option Addr) (L c5 : Nat) (Z : List Int) (A2 : Option Addr) (M : Nat) (R : List Int) (A : Option Addr) (k : Nat) (V : List Int) (q : Nat) (wr : World) : Prop :=
  Rd wr p (q : Nat) 0 A5 L c5 ∧ By wr p A5 L Z ∧ By wr B A2 M R ∧ Us wr w.heap.size A k V ∧ Below w.heap.size w wr
theorem BackSt.moved {w wr wr' : World} {B p L c5 M k q q' : Nat} {A5 A2 A : Option Addr} {Z R V : List Int} {a e : Int} (st : BackSt w B p A5 L c5 Z A2 M R A k V q wr) (h1 : w.heap.size ≤ p) (h2 : B ≤ p) (hm : Moved wr p a e A5 L c5 wr') (ha : a = (q' : Nat)) (he : e = 0) :
    BackSt w B p A5 L c5 Z A2 M R A k V q' wr' := by
  subst ha he
  have hp := Blk.lt st.1
  exact ⟨hm.1, st.2.1.moved hp hm, st.2.2.1.below (hm.low hp h2), st.2.2.2.1.below (hm.low hp h1), st.2.2.2.2.trans (hm.low hp h1)⟩
theorem take_step' {zs a t : List Int} {k m L : Nat} (hL : zs.length = L) (h : zs.drop k = a ++ t) (hm : a.length = m) (hk : k ≤ L) :
    nBytes zs k 0 m = a ∧ (nAt L k 0 m : Int) = ((k + m : Nat) : Int) ∧ nErr L k 0 m = 0 ∧ zs.drop (k + m) = t ∧ k + m ≤ L := by
  subst hL
  obtain ⟨h1, h2, h3⟩ := take_step h hm hk
  exact ⟨h1, by rw [h2], h3⟩

set_option maxRecDepth 100000 in
set_option maxHeartbeats 8000000 in
theorem back_walk (A : Option Addr) (n c : Nat) (vs : List Int) (A' : Option Addr) (m d : Nat) (ys : List Int) (w : World) (hx : Us w w.heap.size A n vs) (hnc : n ≤ c) (hy : By w w.heap.size A' m ys) (hmd : m ≤ d) :
    Calls Try.prog 7 #[.slice A n c, .slice A' m d] w fun e w' => e = .returned (.bool true) ∧ Below w.heap.size w w' := by
  have hcN : Us w w.heap.size A (min n 20) (vs.take 20) := by
    have := hx.take (min n 20) (by omega)
    rwa [show vs.take (min n 20) = vs.take 20 by rw [List.take_eq_take_iff, hx.1]; omega] at this
  obtain ⟨N, hN⟩ : ∃ N, min n 20 = N := ⟨_, rfl⟩
  obtain ⟨V, hV⟩ : ∃ V, vs.take 20 = V := ⟨_, rfl⟩
  rw [hN, hV] at hcN
  have hN20 : N ≤ 20 := by omega
  have hNn : N ≤ n := by omega
  have hNc : (N : Int) ≤ c := by omega
  have HN := Lib.hid hN
  clear hN hV hx
  go_enter Try.func7, Try.ntmps7
  go_wp2_with (go_at_call 11; refine (wakes_any _).mono ?_; rintro e w1 ⟨rfl, hB1⟩)
  refine (few_any A' m d ys w1 w.heap.size (hy.below hB1) hmd).mono ?_
  rintro e w2 ⟨A2, c2, rfl, ho2, hb2⟩
  have hB2 := hB1.trans (hb2.mono hB1.size)
  have bR := ho2.by
  have hR0 : A2 = none → c2 = 0 := ho2.nil
  have hR3 : min m 300 ≤ 300 := by omega
  clear hy hB1 hb2 ho2
  generalize ys.take 300 = R at *
  generalize min m 300 = M at *
  go_wp2_with fail
  have hN0 := HN.out
  rw [show min (n : Int) 20 = (N : Int) by omega, Int.toNat_natCast, show max (N : Int) 0 = (N : Int) by omega]
  clear HN hN0
  have hU := hcN.below hB2
  have hs2 := hB2.size
  clear hcN
  have HV := Lib.hid hU.1
  go_loopw [5, 24] (fun v i wr => ∃ k Ab cb, k ≤ N ∧ i = .int .i64 (k : Nat) ∧ v = .slice Ab (15 * k) cb ∧ Own wr w2.heap.size Ab (15 * k) cb (encs (V.take k)) ∧ Below w2.heap.size w2 wr) (fun _ i _ => N - (intOf i).toNat)
  case atStart => exact ⟨0, none, 0, Nat.zero_le _, rfl, rfl, nothing _ _, Below.refl _ _⟩
  case round =>
    obtain ⟨k, Ab, cb, hk, rfl, rfl, hown, hb⟩ := hrel
    have hsr := hb.size
    have hUr := hU.below (hb.mono hs2)
    by_cases hlt : k < N
    · obtain ⟨b, o, rfl, hbB, hc⟩ := hUr.2.2 (by omega)
      have hcell := hc k hlt
      have hrange := hUr.2.1 k
      have hsn := Lib.hid (encs_snoc V k (by rw [HV.out]; exact hlt))
      clear hc hUr
      generalize V.getD k 0 = x at *
      have hw16 : 0 ≤ IntKind.u16.wrap x ∧ IntKind.u16.wrap x < 65536 := by rw [IntKind.wrap_u16]; omega
      have ho1 := hown.below (w' := wr.alloc (.cells #[.int .u8 (x % 256)] 5)) ((Below.refl _ _).alloc (Nat.le_refl _) _)
      have hy1 := one_byte wr x
      clear hown
      go_wp2_with (at_builtin; refine append_by rfl (.tmp 28) (.tmp 31) rfl w2.heap.size Ab (15 * k) cb _ rfl ho1 (wr.heap.size + 1) (some ⟨wr.heap.size, 0, none⟩) 1 1 [x % 256] rfl hy1 (by simp) (by omega) (by simp; omega) ?_; intro A5 c5 w5 ho5 hg5)
      have hlo := ho1.1.lt
      have hB5 : Below w2.heap.size w2 w5 := ((hb.alloc hsr _)).grown hg5 (by simp; omega) (fun k hk => (hlo k hk).1)
      have b5 := ho5.by
      have bs5 := ho5.2
      have l5 := ho5.len
      clear hlo hg5 ho5 ho1 hy1 hb
      have L5 := Lib.hid l5
      clear l5
      refine (Put16_any A5 (15 * k + 1) c5 _ (IntKind.u16.wrap x) w5 _ b5 (by omega) hw16).mono ?_
      rintro e w6 ⟨rfl, hk6, hb6⟩
      have bs6 := bs5.append (be_bs 2 (IntKind.u16.wrap x))
      have l6 := Lib.hid (show ((encs (V.take k) ++ [x % 256]) ++ be 2 (IntKind.u16.wrap x)).length = 15 * k + 1 + 2 by rw [List.length_append, L5.out, be_len])
      have b6 := By.of_blk hk6 bs6 l6.out
      have hB6 : Below w2.heap.size w2 w6 := hB5.trans (hb6.mono hB5.size)
      clear hk6 hb6 b5 bs5 L5 hB5
      generalize w5.heap.size = g5 at *
      go_wp2_with fail
      refine (Put32_any _ (15 * k + 1 + 2) _ _ (x % 4294967296) w6 _ b6 (by omega) (by omega)).mono ?_
      rintro e w7 ⟨rfl, hk7, hb7⟩
      have bs7 := bs6.append (be_bs 4 (x % 4294967296))
      have l7 := Lib.hid (show (((encs (V.take k) ++ [x % 256]) ++ be 2 (IntKind.u16.wrap x)) ++ be 4 (x % 4294967296)).length = 15 * k + 1 + 2 + 4 by rw [List.length_append, l6.out, be_len])
      have b7 := By.of_blk hk7 bs7 l7.out
      have hB7 : Below w2.heap.size w2 w7 := hB6.trans (hb7.mono hB6.size)
      clear hk7 hb7 b6 bs6 l6 hB6
      generalize w6.heap.size = g6 at *
      go_wp2_with fail
      refine (Put64_any _ (15 * k + 1 + 2 + 4) _ _ x w7 _ b7 (by omega) (by omega)).mono ?_
      rintro e w8 ⟨rfl, hk8, hb8⟩
      have bs8 := bs7.append (be_bs 8 x)
      have l8 := Lib.hid (show ((((encs (V.take k) ++ [x % 256]) ++ be 2 (IntKind.u16.wrap x)) ++ be 4 (x % 4294967296)) ++ be 8 x).length = 15 * k + 1 + 2 + 4 + 8 by rw [List.length_append, l7.out, be_len])
      have hB8 : Below w2.heap.size w2 w8 := hB7.trans (hb8.mono hB7.size)
      have ho8 := Own.of_blk (base := w2.heap.size) hk8 bs8 l8.out hB7.size (by omega)
      have el := Lib.hid (show (((encs (V.take k) ++ [x % 256]) ++ be 2 (IntKind.u16.wrap x)) ++ be 4 (x % 4294967296)) ++ be 8 x = encs (V.take (k + 1)) by
        rw [hsn.out]
        unfold enc1
        simp only [List.append_assoc])
      rw [el.out, show 15 * k + 1 + 2 + 4 + 8 = 15 * (k + 1) by omega] at ho8
      have HO := Lib.hid ho8
      clear hk8 hb8 b7 bs7 l7 hB7 bs8 l8 el ho8
      generalize w7.heap.size = g7 at *
      rw [show 15 * k + 1 + 2 + 4 + 8 = 15 * (k + 1) by omega]
      go_wp2
      go_roundw
      case rel => exact ⟨k + 1, _, _, by omega, by go_num, rfl, HO.out, hB8⟩
      case measure => simp [intOf]; omega
    · have hkN : k = N := by omega
      subst hkN
      have hown' : Own wr w2.heap.size Ab (15 * k) cb (encs V) := by
        have := hown
        rwa [List.take_of_length_le (by rw [HV.out]; exact Nat.le_refl _)] at this
      have bRr := bR.below hb
      clear hown bR hlt
      go_wp2_with (at_builtin; refine append_by rfl (.tmp 42) (.tmp 43) rfl w2.heap.size Ab (15 * k) cb _ rfl hown' w2.heap.size A2 M c2 R rfl bRr hR0 (by omega) hsr ?_; intro A5 c5 w5 ho5 hg5)
      have hlo := hown'.1.lt
      have hB5 : Below w2.heap.size w2 w5 := hb.grown hg5 hsr (fun k hk => (hlo k hk).1)
      have bR5 := bRr.below (B := w2.heap.size) ((Below.refl _ _).grown hg5 hsr (fun k hk => (hlo k hk).1))
      have b5 := ho5.by
      have cap5 := ho5.cap
      have U5 := hU.below (hB5.mono hs2)
      clear hlo hg5 ho5 hown' bRr hUr hb hsr hU
      refine (read_new A5 (15 * k + M) c5 w5).mono ?_
      rintro e w6 ⟨rfl, hr6, hb6⟩
      have b6 := b5.below hb6
      have hs5 := hB5.size
      have bR6 := bR5.below (hb6.mono hs5)
      have U6 := U5.below (hb6.mono (by omega))
      have hB6 : Below w.heap.size w w6 := hB2.trans ((hB5.mono hs2).trans (hb6.mono (by omega)))
      clear hb6 b5 bR5 U5 hB5 hB2
      generalize hp : w5.heap.size = p at *
      have hpw : w.heap.size ≤ p := by omega
      have hRp : w2.heap.size ≤ p := hs5
      clear hp
      have HL := Lib.hid b6.1
      have hLb : 15 * k + M ≤ 600 := by omega
      have hLk : 15 * k ≤ 15 * k + M := by omega
      have HE := Lib.hid (show (encs V).length = 15 * k by rw [encs_len, HV.out])
      have st6 : BackSt w w2.heap.size p A5 (15 * k + M) c5 (encs V ++ R) A2 M R A k V 0 w6 := ⟨hr6, b6, bR6, U6, hB6⟩
      have HRl := Lib.hid bR6.1
      have HM := Lib.hid (show M + 15 * k = 15 * k + M by omega)
      clear hr6 b6 bR6 U6 hB6
      obtain ⟨L, hL⟩ : ∃ L, 15 * k + M = L := ⟨_, rfl⟩
      have EL := Lib.hid hL
      rw [hL] at HL hLb hLk st6 cap5 ⊢
      clear hL
      go_wp2_with fail
      go_loopw [47] (fun i wr => ∃ j : Nat, j ≤ 2 ∧ i = .int .i64 j ∧ BackSt w w2.heap.size p A5 L c5 (encs V ++ R) A2 M R A k V 0 wr) (fun i _ => 2 - (intOf i).toNat)
      case atStart => exact ⟨0, Nat.zero_le _, rfl, st6⟩
      case round =>
        clear st6
        obtain ⟨j, hj, rfl, st⟩ := hrel
        by_cases hj2 : j < 2
        · have hjd : decide ((j : Int) < 2) = true := by simp; omega
          go_wp2_with fail
          go_loopw [53] (fun i wr => ∃ q : Nat, q ≤ k ∧ i = .int .i64 q ∧ BackSt w w2.heap.size p A5 L c5 (encs V ++ R) A2 M R A k V (15 * q) wr) (fun i _ => k - (intOf i).toNat)
          case atStart => exact ⟨0, Nat.zero_le _, rfl, st⟩
          case round =>
            clear st
            obtain ⟨q, hq, rfl, st⟩ := hrel
            by_cases hq2 : q < k
            · obtain ⟨b, o, hA, hbB, hc⟩ := st.2.2.2.1.2.2 (by omega)
              subst hA
              have hcell := hc q hq2
              have hrange := st.2.2.2.1.2.1 q
              have D0 := Lib.hid (encs_drop V R q (by rw [HV.out]; exact hq2))
              clear hc
              generalize V.getD q 0 = x at *
              unfold enc1 at D0
              obtain ⟨T, hT⟩ : ∃ T, encs (V.drop (q + 1)) ++ R = T := ⟨_, rfl⟩
              rw [hT] at D0
              clear hT
              have hw16 : 0 ≤ IntKind.u16.wrap x ∧ IntKind.u16.wrap x < 65536 := by rw [IntKind.wrap_u16]; omega
              obtain ⟨n1, a1, e1, d1, k1⟩ := take_step' (a := [x % 256]) (m := 1) (t := be 2 (IntKind.u16.wrap x) ++ (be 4 (x % 4294967296) ++ (be 8 x ++ T))) HL.out (by rw [D0.out]; simp only [List.append_assoc]) rfl (by omega)
              obtain ⟨n2, a2, e2, d2, k2⟩ := take_step' (m := 2) HL.out d1 (be_len _ _) k1
              obtain ⟨n3, a3, e3, d3, k3⟩ := take_step' (m := 4) HL.out d2 (be_len _ _) k2
              obtain ⟨n4, a4, e4, d4, k4⟩ := take_step' (m := 8) HL.out d3 (be_len _ _) k3
              have F1 := Lib.hid n1
              have F2 := Lib.hid n2
              have F3 := Lib.hid n3
              have F4 := Lib.hid n4
              have G1 := Lib.hid a1
              have G2 := Lib.hid a2
              have G3 := Lib.hid a3
              have G4 := Lib.hid a4
              have H1 := Lib.hid e1
              have H2 := Lib.hid e2
              have H3 := Lib.hid e3
              have H4 := Lib.hid e4
              clear n1 n2 n3 n4 a1 a2 a3 a4 e1 e2 e3 e4 d1 d2 d3 d4 D0
              go_wp2_with fail
              refine (u8_any p (15 * q) 0 A5 L c5 (encs V ++ R) _ st.1 st.2.1 (by omega) cap5 (by omega)).mono ?_
              rintro e w8 ⟨rfl, hm8⟩
              have st8 := st.moved hpw hRp hm8 G1.out H1.out
              clear hm8 st hcell
              rw [show nBytes (encs V ++ R) (15 * q) 0 1 = [x % 256] from F1.out, show num [x % 256] = x % 256 by simp [num]; omega]
              have hx8 : ((x % 256 : Int) != x % 256) = false := by simp
              go_wp2_with fail
              refine (u16_any p (15 * q + 1) 0 A5 L c5 (encs V ++ R) _ st8.1 st8.2.1 k1 cap5 (by omega)).mono ?_
              rintro e w9 ⟨rfl, hm9⟩
              have st9 := st8.moved hpw hRp hm9 G2.out H2.out
              clear hm9 st8
              rw [show nBytes (encs V ++ R) (15 * q + 1) 0 2 = be 2 (IntKind.u16.wrap x) from F2.out, num_be 2 _ (by omega) (by exact hw16)]
              have hx9 : (IntKind.u16.wrap x != IntKind.u16.wrap x) = false := by simp
              go_wp2_with fail
              refine (u32_any p (15 * q + 1 + 2) 0 A5 L c5 (encs V ++ R) _ st9.1 st9.2.1 k2 cap5 (by omega)).mono ?_
              rintro e w10 ⟨rfl, hm10⟩
              have st10 := st9.moved hpw hRp hm10 G3.out H3.out
              clear hm10 st9
              rw [show nBytes (encs V ++ R) (15 * q + 1 + 2) 0 4 = be 4 (x % 4294967296) from F3.out, num_be 4 _ (by omega) (by omega)]
              have hx10 : ((x % 4294967296 : Int) != x % 4294967296) = false := by simp
              go_wp2_with fail
              refine (u64_any p (15 * q + 1 + 2 + 4) 0 A5 L c5 (encs V ++ R) _ st10.1 st10.2.1 k3 cap5 (by omega)).mono ?_
              rintro e w11 ⟨rfl, hm11⟩
              have st11 := st10.moved hpw hRp hm11 G4.out H4.out
              clear hm11 st10
              rw [show nBytes (encs V ++ R) (15 * q + 1 + 2 + 4) 0 8 = be 8 x from F4.out, num_be 8 _ (by omega) (by omega)]
              have hx11 : ((x : Int) != x) = false := by simp
              clear F1 F2 F3 F4 G1 G2 G3 G4 H1 H2 H3 H4
              rw [show 15 * q + 1 + 2 + 4 + 8 = 15 * (q + 1) by omega] at st11
              go_wp2
              go_roundw
              case rel => exact ⟨q + 1, by omega, by go_num, st11⟩
              case measure => simp [intOf]; omega
            · have hqk : q = k := by omega
              subst hqk
              obtain ⟨n1, a1, e1, d1, k1⟩ := take_step' (a := R) (t := []) (k := 15 * q) (m := M) HL.out (by rw [List.drop_left' HE.out, List.append_nil]) HRl.out hLk
              have F1 := Lib.hid n1
              have G1 := Lib.hid a1
              have H1 := Lib.hid e1
              clear n1 a1 e1 d1 k1
              go_wp2_with fail
              refine (raw_any p (15 * q) 0 M A5 L c5 (encs V ++ R) _ st.1 st.2.1 hLk cap5 (by omega)).mono ?_
              rintro e w8 ⟨A8, c8, rfl, ho8, hm8⟩
              rw [F1.out] at ho8 ⊢
              have st8 := st.moved hpw hRp hm8 G1.out H1.out
              have b8 := ho8.by
              clear hm8 ho8 st F1 G1 H1
              rw [EL.out] at st8
              have hRR : (R == R) = true := by simp
              have hw0 : ((L : Int) - L) = 0 := by omega
              go_wp2_with (go_at_call 33; refine (bequal_any _ _ _ _ _ _ R R w8 _ _ b8 st8.2.2.1).mono ?_; rintro e w' ⟨rfl, rfl⟩)
              refine (left_any p L 0 A5 L c5 w8 st8.1 (Nat.le_refl _) (by omega)).mono ?_
              rintro e w9 ⟨rfl, r9, rfl⟩
              rw [hw0]
              have hLL : ((L : Int) != (L : Int)) = false := by simp
              go_wp2_with (first
                | (go_at_call 25; refine (at_any p _ _ _ _ _ _ (by exact st8.1)).mono ?_; rintro e w' ⟨rfl, rfl⟩)
                | (go_at_call 27; refine (err_any p _ _ _ _ _ _ (by exact st8.1)).mono ?_; rintro e w' ⟨rfl, rfl⟩))
              have st9 : BackSt w w2.heap.size p A5 L c5 (encs V ++ R) A2 M R A q V L (w8.drewN r9) := ⟨st8.1, st8.2.1, st8.2.2.1, st8.2.2.2.1, ⟨st8.2.2.2.2.os, st8.2.2.2.2.tape, st8.2.2.2.2.output, st8.2.2.2.2.size, st8.2.2.2.2.block⟩⟩
              have o10 : okG L L 0 (-(L : Int)) = true := by simp [okG]
              have g10 : Hid ((gAt L L 0 (-(L : Int)) : Int) = ((0 : Nat) : Int)) := show _ = _ by simp [gAt, o10]; omega
              have e10 : Hid (gErr L L 0 (-(L : Int)) = 0) := show _ = _ by simp [gErr, o10]
              clear o10 st8 b8
              refine (go_any p L 0 (-(L : Int)) A5 L c5 _ st9.1 (Nat.le_refl _) (by omega)).mono ?_
              rintro e w10 ⟨rfl, hm10⟩
              have st10 := st9.moved hpw hRp hm10 g10.out e10.out
              clear hm10 st9 g10 e10
              go_wp2_with fail
              refine (at_any p _ _ _ _ _ _ st10.1).mono ?_
              rintro e w' ⟨rfl, rfl⟩
              go_wp2_with fail
              refine (left_any p 0 0 A5 L c5 w10 st10.1 (Nat.zero_le _) (by omega)).mono ?_
              rintro e w11 ⟨rfl, r11, rfl⟩
              rw [show (L : Int) - ((0 : Nat) : Int) = L by omega]
              have st11 : BackSt w w2.heap.size p A5 L c5 (encs V ++ R) A2 M R A q V 0 (w10.drewN r11) := ⟨st10.1, st10.2.1, st10.2.2.1, st10.2.2.2.1, ⟨st10.2.2.2.2.os, st10.2.2.2.2.tape, st10.2.2.2.2.output, st10.2.2.2.2.size, st10.2.2.2.2.block⟩⟩
              clear st10
              go_wp2
              go_roundw
              case rel => exact ⟨j + 1, by omega, by go_num, st11⟩
              case measure => simp [intOf]; omega
        · go_wp2
          go_ret
          exact ⟨rfl, st.2.2.2.2⟩

end Go.Proofs.Ytbjillkdhjndpaa
