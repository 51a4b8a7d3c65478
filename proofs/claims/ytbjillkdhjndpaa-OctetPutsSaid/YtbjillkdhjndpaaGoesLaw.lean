/-
  The law OctetGoes, walked.
-/
import Derived.Test.YtbjillkdhjndpaaTells
import Derived.Deep.RegionWith
namespace Go.Proofs.Ytbjillkdhjndpaa
open Go.RowKit

theorem mod_nat (a : Int) (N : Nat) (hN : N ≤ 100000) : ∃ K : Nat, K ≤ N ∧ wrap64 ((IntKind.u64.wrap a).tmod ((N : Int) + 1)) = (K : Int) := by
  have h0 : 0 ≤ IntKind.u64.wrap a := by rw [IntKind.wrap_u64]; omega
  rw [Int.tmod_eq_emod_of_nonneg h0]
  have h1 := Int.emod_nonneg (IntKind.u64.wrap a) (show ((N : Int) + 1) ≠ 0 by omega)
  have h2 := Int.emod_lt_of_pos (IntKind.u64.wrap a) (show 0 < ((N : Int) + 1) by omega)
  generalize IntKind.u64.wrap a % ((N : Int) + 1) = q at *
  refine ⟨q.toNat, by omega, ?_⟩
  unfold wrap64
  omega
theorem mod_400 (a : Int) : ∃ K : Nat, K < 400 ∧ wrap64 ((IntKind.u64.wrap a).tmod 400) = (K : Int) := by
  obtain ⟨K, h1, h2⟩ := mod_nat a 399 (by omega)
  exact ⟨K, by omega, h2⟩

theorem Rd.other {w w' : World} {p p' n c n' c' : Nat} {k er k' er' : Int} {A A' : Option Addr} (h : Rd w p' k' er' A' n' c') (hm : Moved w p k er A n c w') (hne : p' ≠ p) : Rd w' p' k' er' A' n' c' :=
  (hm.2.block p' (Blk.lt h) (fun e => by injection e with e; exact hne e)).trans h
theorem By.moved' {w w' : World} {p n c B m : Nat} {k er : Int} {A A' : Option Addr} {zs : List Int} (h : By w B A' m zs) (hp : p < w.heap.size) (hB : B ≤ p) (hm : Moved w p k er A n c w') : By w' B A' m zs :=
  h.keep fun q hq => World.cell?_of_block (hm.2.block q.block (by omega) (fun e => by injection e with e; omega))
theorem Own.moved {w w' : World} {p n c base m d : Nat} {k er : Int} {A A' : Option Addr} {zs : List Int} (h : Own w base A' m d zs) (hm : Moved w p k er A n c w') (hp : p < base) : Own w' base A' m d zs := by
  refine ⟨⟨h.1.1, ?_⟩, h.2⟩
  rcases h.1.2 with hv | ⟨g, cap, cur, hv, hbs, hh, r⟩
  · exact .inl hv
  · exact .inr ⟨g, cap, cur, hv, hbs, (hm.2.block g (Blk.lt (t := 5) hh) (fun e => by injection e with e; omega)).trans hh, r⟩

set_option maxRecDepth 100000 in
set_option maxHeartbeats 4000000 in
theorem goes_walk (A : Option Addr) (n c : Nat) (xs : List Int) (on m : Int) (w : World) (hx : By w w.heap.size A n xs) (hnc : n ≤ c) (_hon : -9223372036854775808 ≤ on ∧ on ≤ 9223372036854775807) (_hm : -9223372036854775808 ≤ m ∧ m ≤ 9223372036854775807) :
    Calls Try.prog 10 #[.slice A n c, .int .i64 on, .int .i64 m] w fun e w' => e = .returned (.bool true) ∧ Below w.heap.size w w' := by
  go_enter Try.func10, Try.ntmps10
  go_wp2_with (go_at_call 11; refine (wakes_any _).mono ?_; rintro e w1 ⟨rfl, hB1⟩)
  refine (few_any A n c xs w1 w.heap.size (hx.below hB1) hnc).mono ?_
  rintro e w2 ⟨A2, c2, rfl, ho2, hb2⟩
  have hB2 := hB1.trans (hb2.mono hB1.size)
  have bX := ho2.by
  have hX3 : min n 300 ≤ 300 := by omega
  have hcap := ho2.cap
  clear hx hB1 hb2 ho2
  generalize xs.take 300 = X at *
  generalize min n 300 = N at *
  obtain ⟨K, hKN, hK⟩ := mod_nat on N (by omega)
  obtain ⟨M, hM4, hM⟩ := mod_400 m
  have HK := Lib.hid hK
  have HM := Lib.hid hM
  clear hK hM _hon _hm
  go_wp2_with fail
  rw [HK.out, HM.out]
  refine (read_new A2 N c2 w2).mono ?_
  rintro e w3 ⟨rfl, hr3, hb3⟩
  have hB3 := hB2.trans (hb3.mono hB2.size)
  have hs3 := Blk.lt hr3
  have bX3 := bX.below hb3
  have hs2 := hB2.size
  clear hb3 bX hB2
  generalize w2.heap.size = p1 at *
  go_wp2_with fail
  refine (read_new A2 N c2 w3).mono ?_
  rintro e w4 ⟨rfl, hr4, hb4⟩
  have hB4 := hB3.trans (hb4.mono hB3.size)
  have hs4 := Blk.lt hr4
  have bX4 := (bX3.more (Nat.le_of_lt hs3)).below hb4
  have hr41 := Blk.below hr3 hb4 hs3
  have bX41 := bX3.below (hb4.mono (Nat.le_of_lt hs3))
  clear hb4 bX3 hB3 hr3
  generalize w3.heap.size = p2 at *
  go_wp2_with fail
  refine (go_any p1 0 0 K A2 N c2 w4 hr41 (by omega) (by omega)).mono ?_
  rintro e w5 ⟨rfl, hm5⟩
  have g5 : gAt N 0 0 K = K := by simp [gAt, okG]; omega
  have e5 : gErr N 0 0 K = 0 := by simp [gErr, okG]; omega
  rw [g5, e5] at hm5
  have hp1 := Blk.lt hr41
  have hs5 := Blk.lt (Rd.other hr4 hm5 (by omega))
  have hr52 := Rd.other hr4 hm5 (by omega)
  have hr51 := hm5.1
  have bX5 := bX41.moved' hp1 (Nat.le_refl _) hm5
  have hB5 := hB4.trans (hm5.low (B := w.heap.size) hp1 (by omega))
  clear g5 e5 hm5 hr4 hr41 bX41 bX4 hB4 hp1
  go_wp2_with fail
  refine (go_any p1 K 0 (-(K : Int)) A2 N c2 w5 hr51 hKN (by omega)).mono ?_
  rintro e w6 ⟨rfl, hm6⟩
  have o6 : okG N K 0 (-(K : Int)) = true := by simp [okG]; omega
  have g6 : gAt N K 0 (-(K : Int)) = 0 := by simp [gAt, o6]; omega
  have e6 : gErr N K 0 (-(K : Int)) = 0 := by simp [gErr, o6]
  rw [g6, e6] at hm6
  have hp1 := Blk.lt hr51
  have hr62 := Rd.other hr52 hm6 (by omega)
  have hr61 := hm6.1
  have hs6 := Blk.lt hr62
  have bX6 := bX5.moved' hp1 (Nat.le_refl _) hm6
  have hB6 := hB5.trans (hm6.low (B := w.heap.size) hp1 (by omega))
  clear o6 g6 e6 hm6 hr52 hr51 bX5 hB5 hp1
  go_wp2_with fail
  refine (raw_any p1 0 0 M A2 N c2 X w6 hr61 bX6 (by omega) hcap (by omega)).mono ?_
  rintro e w7 ⟨Ax, cx, rfl, hox, hm7⟩
  have hp1 := Blk.lt hr61
  have hr72 := Rd.other hr62 hm7 (by omega)
  have hr71 := hm7.1
  have hp2 := Blk.lt hr72
  have bX7 := bX6.moved' hp1 (Nat.le_refl _) hm7
  have hB7 := hB6.trans (hm7.low (B := w.heap.size) hp1 (by omega))
  have hs7 := hm7.2.size
  clear hm7 hr62 hr61 bX6 hB6 hp1
  go_wp2_with fail
  refine (raw_any p2 0 0 M A2 N c2 X w7 hr72 (bX7.more (by omega)) (by omega) hcap (by omega)).mono ?_
  rintro e w8 ⟨Ay, cy, rfl, hoy, hm8⟩
  have bx8 := (hox.moved hm8 hs6).by
  have by8 := hoy.by
  have hr81 := Rd.other hr71 hm8 (by omega)
  have hr82 := hm8.1
  have hB8 := hB7.trans (hm8.low (B := w.heap.size) hp2 (by omega))
  have hs8 := hm8.2.size
  have bX8 := bX7.moved' hp2 (by omega) hm8
  have hk1 := nAt_le N 0 0 M (by omega)
  have hfin : (M ≤ N ∧ nErr N 0 0 M = 0) ∨ (¬ M ≤ N ∧ nErr N 0 0 M = 7) := by
    by_cases h : M ≤ N
    · exact .inl ⟨h, by simp only [nErr]; rw [if_pos (by decide), if_neg (by omega), if_neg (by omega)]⟩
    · exact .inr ⟨h, by simp only [nErr]; rw [if_pos (by decide), if_neg (by omega), if_pos (by omega)]⟩
  clear hox hoy hm8 hr72 hr71 bX7 hB7
  generalize nErr N 0 0 M = e1 at *
  generalize nAt N 0 0 M = k1 at *
  generalize nBytes X 0 0 M = R at *
  have hRR : (R == R) = true := by simp
  have hkk : ((k1 : Int) != (k1 : Int)) = false := by simp
  have hee : (e1 != e1) = false := by simp
  have HF := Lib.hid hfin
  clear hfin
  go_wp2_with (first
    | (go_at_call 33; refine (bequal_any _ _ _ _ _ _ R R w8 _ _ bx8 by8).mono ?_; rintro e w' ⟨rfl, rfl⟩)
    | (go_at_call_of 25 (Value.pointer (some ⟨p1, 0, none⟩)); refine (at_any p1 _ _ _ _ _ _ hr81).mono ?_; rintro e w' ⟨rfl, rfl⟩)
    | (go_at_call_of 25 (Value.pointer (some ⟨p2, 0, none⟩)); refine (at_any p2 _ _ _ _ _ _ hr82).mono ?_; rintro e w' ⟨rfl, rfl⟩)
    | (go_at_call_of 27 (Value.pointer (some ⟨p1, 0, none⟩)); refine (err_any p1 _ _ _ _ _ _ hr81).mono ?_; rintro e w' ⟨rfl, rfl⟩)
    | (go_at_call_of 27 (Value.pointer (some ⟨p2, 0, none⟩)); refine (err_any p2 _ _ _ _ _ _ hr82).mono ?_; rintro e w' ⟨rfl, rfl⟩))
  refine (go_any p1 k1 e1 ((N : Int) + 1) A2 N c2 w8 hr81 hk1 (by omega)).mono ?_
  rintro e w9 ⟨rfl, hm9⟩
  have o9 : okG N k1 e1 ((N : Int) + 1) = false := by simp [okG]; omega
  have g9 : gAt N k1 e1 ((N : Int) + 1) = k1 := by simp [gAt, o9]
  have hf9 : (M ≤ N ∧ gErr N k1 e1 ((N : Int) + 1) = 2) ∨ (¬ M ≤ N ∧ gErr N k1 e1 ((N : Int) + 1) = 7) := by
    rcases HF.out with ⟨h, rfl⟩ | ⟨h, rfl⟩
    · exact .inl ⟨h, by simp [gErr, o9]⟩
    · exact .inr ⟨h, by simp [gErr]⟩
  rw [g9] at hm9
  have hp1 := Blk.lt hr81
  have hr91 := hm9.1
  have hB9 := hB8.trans (hm9.low (B := w.heap.size) hp1 (by omega))
  have bX9 := bX8.moved' hp1 (Nat.le_refl _) hm9
  clear o9 g9 hm9 hr81 hr82 hB8 bX8 HF hp1 bx8 by8
  generalize gErr N k1 e1 ((N : Int) + 1) = e2 at *
  have h20 : (e2 == 0) = false := by rcases hf9 with ⟨_, h⟩ | ⟨_, h⟩ <;> simp [h]
  have h21 : (e2 != e2) = false := by simp
  have HF := Lib.hid hf9
  clear hf9
  go_wp2_with fail
  refine (err_any p1 _ _ _ _ _ _ hr91).mono ?_
  rintro e w' ⟨rfl, rfl⟩
  go_wp2_with fail
  refine (go_any p1 k1 e2 (-(k1 : Int)) A2 N c2 w9 hr91 hk1 (by omega)).mono ?_
  rintro e w10 ⟨rfl, hm10⟩
  have g10 : gAt N k1 e2 (-(k1 : Int)) = k1 := by simp [gAt, okG, h20]
  have e10 : gErr N k1 e2 (-(k1 : Int)) = e2 := by simp [gErr, h20]
  rw [g10, e10] at hm10
  have hp1 := Blk.lt hr91
  have hr10 := hm10.1
  have hB10 := hB9.trans (hm10.low (B := w.heap.size) hp1 (by omega))
  have bX10 := bX9.moved' hp1 (Nat.le_refl _) hm10
  clear g10 e10 hm10 hr91 hB9 bX9 hp1
  have hp1 := Blk.lt hr10
  go_wp2_with (first
    | (go_at_call 25; refine (at_any p1 _ _ _ _ _ _ hr10).mono ?_; rintro e w' ⟨rfl, rfl⟩)
    | (go_at_call 27; refine (err_any p1 _ _ _ _ _ _ hr10).mono ?_; rintro e w' ⟨rfl, rfl⟩))
  refine (u8_any p1 k1 e2 A2 N c2 X w10 hr10 bX10 hk1 hcap (by omega)).mono ?_
  rintro e w11 ⟨rfl, hm11⟩
  have b11 : nBytes X k1 e2 1 = [] := by simp [nBytes, okN, h20]
  have g11 : nAt N k1 e2 1 = k1 := by simp [nAt, okN, h20]
  have e11 : nErr N k1 e2 1 = e2 := by simp [nErr, h20]
  rw [g11, e11] at hm11
  rw [b11, show num [] = 0 from rfl]
  have hr11 := hm11.1
  have hB11 := hB10.trans (hm11.low (B := w.heap.size) hp1 (by omega))
  have bX11 := bX10.moved' hp1 (Nat.le_refl _) hm11
  clear b11 g11 e11 hm11 hr10 hB10 bX10 hp1
  have hp1 := Blk.lt hr11
  go_wp2_with fail
  refine (raw_any p1 k1 e2 0 A2 N c2 X w11 hr11 bX11 hk1 hcap (by omega)).mono ?_
  rintro e w12 ⟨Az, cz, rfl, hoz, hm12⟩
  have b12 : nBytes X k1 e2 0 = [] := by simp [nBytes, okN, h20]
  rw [b12]
  have hB12 := hB11.trans (hm12.low (B := w.heap.size) hp1 (by omega))
  clear b12 hm12 hoz hr11 hB11 bX11 hp1
  rcases HF.out with ⟨h, rfl⟩ | ⟨h, rfl⟩
  · have hle : (M : Int) ≤ N := by omega
    go_wp2
    go_ret
    exact ⟨rfl, hB12⟩
  · have hle : ¬ (M : Int) ≤ N := by omega
    go_wp2
    go_ret
    exact ⟨rfl, hB12⟩

end Go.Proofs.Ytbjillkdhjndpaa
