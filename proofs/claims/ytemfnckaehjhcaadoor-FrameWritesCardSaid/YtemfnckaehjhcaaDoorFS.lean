/-
  The document's short numbers: its Short, its Long.
-/
import Derived.Test.YtemfnckaehjhcaaDoorFN
namespace Go.Proofs.YtemfnckaehjhcaaDoor
open Go.RowKit

theorem Own.set_ {w : World} {base n c g : Nat} {zs : List Int} (h : Own w base (some ⟨g, 0, none⟩) n c zs) (j : Nat) (v : Int) (hj : j < n) (h0 : 0 ≤ v) (h1 : v ≤ 255) : Own (w.setCell ⟨g, j, none⟩ (.int .u8 v)) base (some ⟨g, 0, none⟩) n c (zs.set j v) := by
  refine ⟨?_, bs_of_mem fun x hx => ?_⟩
  · have hl := h.1.1
    rcases h.1.2 with ⟨hv, _⟩ | ⟨g', cap, cur, hv, hb, hh, hnc, hm, hs, ht⟩
    · simp at hv
    · simp only [Value.slice.injEq, Option.some.injEq, Addr.mk.injEq, and_true, true_and] at hv
      obtain ⟨rfl, rfl⟩ := hv
      refine ⟨by simpa using hl, .inr ⟨g, c, cur.setIfInBounds j (.int .u8 v), rfl, hb, Blk.set_ (w := w) (g := g) (t := 5) (cs := cur) hh j _, hnc, hm, by simpa using hs, ?_⟩⟩
      rw [Array.toList_setIfInBounds, List.map_set, ← ht]
      rw [Nat.mul_one, List.take_set]
  · rcases List.mem_or_eq_of_mem_set hx with hx | rfl
    · exact mem_of_bs h.2 x hx
    · exact ⟨h0, h1⟩
theorem own_one_new (w : World) (v : Int) (h0 : 0 ≤ v) (h1 : v ≤ 255) : Own (w.alloc (.cells #[.int .u8 v] 5)) w.heap.size (some ⟨w.heap.size, 0, none⟩) 1 1 [v] :=
  ⟨⟨rfl, .inr ⟨w.heap.size, 1, _, rfl, Nat.le_refl _, heap_alloc_new w _, Nat.le_refl _, by unfold maxLen; omega, rfl, by rw [Nat.mul_one]; rfl⟩⟩, bs1 h0 h1⟩

set_option maxRecDepth 100000 in
set_option maxHeartbeats 4000000 in
theorem refshort_any : ∀ (x : Nat), x < 2 ^ 64 → ∀ w : World, Calls Tryd.prog 18 #[.int .u64 (x : Int)] w (Cloned w (shB x).length (shB x)) := by
  intro x
  induction x using Nat.strongRecOn with
  | _ x ih =>
    intro hx w
    by_cases hlt : x < 128
    · have hl := shB_lt hlt
      have hl1 : (shB x).length = 1 := by rw [hl]; rfl
      unfold Cloned
      rw [hl1, hl]
      have HO := Lib.hid (own_one_new w (x : Int) (by omega) (by omega))
      have hlt' : (x : Int) < 128 := by omega
      clear hl hl1 ih
      go_enter Tryd.func18, Tryd.ntmps18
      go_wp2
      go_ret
      exact ⟨_, _, rfl, HO.out, (Below.refl _ _).alloc (Nat.le_refl _) _⟩
    · have IH := ih (x / 128) (by omega) (by omega) w
      rw [Int.natCast_ediv] at IH
      have IHH := Lib.hid IH
      have hlt' : ¬ ((x : Int) < 128) := by omega
      have HG := Lib.hid (shB_ge (x := x) (by omega))
      have LK := shB_len (x / 128)
      have LX := shB_len10 hx
      have LL := shB_len10 (x := x / 128) (by omega)
      have SH : Hid (shB (x / 128) = hiB (kS (x / 128)) (x / 128) ++ [((x / 128 % 128 : Nat) : Int)]) := Lib.hid rfl
      have HL := hiB_len (kS (x / 128)) (x / 128)
      generalize hiB (kS (x / 128)) (x / 128) = P at *
      generalize kS (x / 128) = K at *
      generalize shB (x / 128) = Z at *
      generalize shB x = R at *
      have LKH := Lib.hid LK
      clear ih IH LK
      go_enter Tryd.func18, Tryd.ntmps18
      go_upto_region 4 with (go_at_call 18; refine IHH.out.mono ?_; rintro e w1 ⟨A, c, rfl, ho, hb⟩; have O1 := Lib.hid ho; have B1 := Lib.hid hb; clear IHH ho hb)
      have LK := LKH.out
      obtain ⟨g, hA⟩ : ∃ g, A = some ⟨g, 0, none⟩ := by
        rcases O1.out.form with ⟨_, h, _⟩ | ⟨g, h, _⟩
        · omega
        · exact ⟨g, h⟩
      subst hA
      obtain ⟨q, hq⟩ : ∃ q : Int, ((x / 128 % 128 : Nat) : Int) = q := ⟨_, rfl⟩
      have hq0 : 0 ≤ q := by omega
      have hq1 : q < 128 := by omega
      have hlast : Z.getD K 0 = q := by
        rw [SH.out, ← hq]
        simp [List.getD, HL]
      have c1 := O1.out.at_ rfl K (by omega)
      rw [hlast] at c1
      have hkl : (Z.length : Int) - 1 = (K : Int) := by omega
      have k0 : (0 : Int) ≤ (K : Int) := by omega
      have kl : (K : Int) < (Z.length : Int) := by omega
      have fz : w1.frozen? ⟨g, K, none⟩ = false := by
        rcases O1.out.1.2 with ⟨hv, _⟩ | ⟨g', cap, cur, hv, _, hh, _⟩
        · simp at hv
        · simp only [Value.slice.injEq, Option.some.injEq, Addr.mk.injEq, and_true, true_and] at hv
          obtain ⟨rfl, rfl⟩ := hv
          exact Blk.frozen (w := w1) (g := g) (t := 5) (cs := cur) hh K
      have hgb : w.heap.size ≤ g := by
        rcases O1.out.form with ⟨h, _⟩ | ⟨g', h, h', _⟩
        · cases h
        · injection h with h; injection h with h; omega
      have O2 := Lib.hid (O1.out.set_ K (q + 128) (by omega) (by omega) (by omega))
      have B2 := Lib.hid (B1.out.setCell (p := ⟨g, K, none⟩) hgb (.int .u8 (q + 128)))
      have ZS : Hid (Z.set K (q + 128) ++ [((x % 128 : Nat) : Int)] = R) := Lib.hid (by
        rw [HG.out, SH.out, List.set_append_right _ _ (by omega), HL, Nat.sub_self, List.set_cons_zero, ← hq]
        rfl)
      have wq : IntKind.u8.wrap (q + 128) = q + 128 := by rw [IntKind.wrap_u8]; omega
      clear LK
      go_upto_region 5 with (fail)
      generalize w1.setCell ⟨g, K, none⟩ (.int .u8 (q + 128)) = w2 at *
      obtain ⟨y, hy⟩ : ∃ y : Int, ((x % 128 : Nat) : Int) = y := ⟨_, rfl⟩
      have hy2 : (x : Int) % 128 = y := by omega
      rw [hy] at ZS
      clear c1 fz hlast hq SH O1 B1
      go_wp2_with (at_builtin; refine append_one rfl (.tmp 20) (.tmp 24) rfl w.heap.size (some ⟨g, 0, none⟩) Z.length c (Z.set K (q + 128)) rfl O2.out y (by omega) (by omega) rfl (by omega) B2.out.size ?_; intro A3 c3 w3 o3 f3; have O3 := Lib.hid o3; have F3 := Lib.hid f3; clear o3 f3)
      go_ret
      have hln : Z.length + 1 = R.length := by rw [← ZS.out, List.length_append, List.length_set]; rfl
      exact ⟨A3, c3, by rw [← hln]; rfl, by rw [← hln, ← ZS.out]; exact O3.out, B2.out.trans F3.out.below⟩

/-- What is gone through of the bytes, at a time. -/
theorem valB_snoc (b : List Int) (i : Nat) (hi : i < b.length) : valB 0 (b.take (i + 1)) = valB 0 (b.take i) * 128 + (b.getD i 0 % 128).toNat := by
  rw [take_snoc b i hi, valB_append]
  rfl

set_option maxRecDepth 100000 in
set_option maxHeartbeats 8000000 in
theorem reflong_any (A : Option Addr) (n c B : Nat) (zs : List Int) (w : World) (h : By w B A n zs) (hB : B ≤ w.heap.size) (hnc : n ≤ c) (hc : c ≤ 9223372036854775807) (hn : n ≤ 100000) :
    Calls Tryd.prog 20 #[.slice A n c] w fun e w' => e = .returned (loR (loB zs)) ∧ Below w.heap.size w w' := by
  have HL := Lib.hid h.1
  have MB := Lib.hid (mem_of_bs h.bs)
  have H := Lib.hid h
  have NR : loR none = .tuple #[.int .u64 0, .int .i64 0, .bool false] := rfl
  clear h
  go_enter Tryd.func20, Tryd.ntmps20
  go_wp2_with (fail)
  go_loopw [5] (fun i wr => ∃ k : Nat, k ≤ 10 ∧ k ≤ n ∧ i = .int .i64 ((k : Int) + 1) ∧ Hid (∀ j, j < k → 128 ≤ zs.getD j 0) ∧ w = wr) (fun i _ => 11 - (intOf i).toNat)
  case atStart => exact ⟨0, by omega, by omega, rfl, Lib.hid (fun j hj => by omega), rfl⟩
  case round =>
    obtain ⟨k, hk, hkn, rfl, hg, rfl⟩ := hrel
    by_cases hlt : k < 10 ∧ k < n
    · obtain ⟨hk10, hkn2⟩ := hlt
      have t1 : decide ((k : Int) + 1 ≤ 10) = true := decide_eq_true (by omega)
      have t2 : decide ((k : Int) + 1 ≤ (n : Int)) = true := decide_eq_true (by omega)
      obtain ⟨b, o, hA, hb, hcl⟩ := H.out.2.2 (by omega)
      subst hA
      have c1 := hcl k hkn2
      have hz := H.out.2.1 k
      have k0 : (0 : Int) ≤ (k : Int) := by omega
      have kn : (k : Int) < (n : Int) := by omega
      have HZK : Hid (zs.getD k 0 = zs.getD k 0) := Lib.hid rfl
      obtain ⟨z, hzk⟩ : ∃ z, zs.getD k 0 = z := ⟨_, rfl⟩
      rw [hzk] at c1 hz
      have HZ := Lib.hid hzk
      clear hcl HZK hzk
      by_cases h128 : 128 ≤ z
      · have d1 : decide (128 ≤ z) = true := decide_eq_true h128
        go_wp2_with (fail)
        go_roundw
        case rel => exact ⟨k + 1, by omega, by omega, by go_num, Lib.hid (fun j hj => by
          rcases Nat.lt_or_ge j k with hjk | hjk
          · exact hg.out j hjk
          · obtain rfl : j = k := by omega
            rw [HZ.out]; exact h128), by first | rfl | trivial⟩
        case measure => simp [intOf]; omega
      · have d1 : decide (128 ≤ z) = false := decide_eq_false h128
        have HH := Lib.hid (loB_hit (b := zs) (n := k + 1) MB.out (by omega) (by rw [HL.out]; omega) (fun j hj => hg.out j (by omega)) (by rw [show k + 1 - 1 = k by omega, HZ.out]; omega))
        go_upto_region 6 with (fail)
        have HBT : Hid (By w B (some ⟨b, o, none⟩) (k + 1) (zs.take (k + 1))) := Lib.hid ⟨by rw [List.length_take, HL.out]; omega, Bs.take H.out.bs _, fun hp => ⟨b, o, rfl, hb, fun i hi => by
          obtain ⟨b', o', e, _, hcl'⟩ := H.out.2.2 (by omega)
          injection e with e
          injection e with e1 e2 _
          subst e1 e2
          rw [hcl' i (by omega)]
          simp [List.getD, List.getElem?_take, hi]⟩⟩
        have HV := Lib.hid (fun i (hi : i < k + 1) => valB_snoc (zs.take (k + 1)) i (by rw [List.length_take, HL.out]; omega))
        have HT := Lib.hid (fun i (hi : i ≤ k + 1) => show (zs.take (k + 1)).take i = zs.take i from by rw [List.take_take, Nat.min_eq_left hi])
        have hcl2 : ∀ i, i < k + 1 → w.cell? ⟨b, o + i, none⟩ = some (.int .u8 ((zs.take (k + 1)).getD i 0)) := fun i hi => by
          obtain ⟨b', o', e, _, hcl'⟩ := HBT.out.2.2 (by omega)
          injection e with e
          injection e with e1 e2 _
          subst e1 e2
          exact hcl' i hi
        have tlen := Lib.hid (show (zs.take (k + 1)).length = k + 1 by rw [List.length_take, HL.out]; omega)
        have kc : (k : Int) + 1 ≤ (c : Int) := by omega
        have k1 : (0 : Int) ≤ (k : Int) + 1 := by omega
        generalize zs.take (k + 1) = T at *
        clear c1 hz HZ h128 d1 t1 t2
        go_wp2_with (fail)
        go_loopw [6, 29] (fun xv iv wx => ∃ (i : Nat) (a : Int), i ≤ k + 1 ∧ iv = .int .i64 i ∧ xv = .int .u64 a ∧ Hid (a = ((valB 0 (T.take i) % 18446744073709551616 : Nat) : Int)) ∧ w = wx) (fun _ iv _ => k + 1 - (intOf iv).toNat)
        case atStart => exact ⟨0, 0, Nat.zero_le _, rfl, rfl, Lib.hid rfl, rfl⟩
        case round =>
          obtain ⟨i, a, hi, rfl, rfl, ha, rfl⟩ := hrel
          by_cases hlt2 : i < k + 1
          · have hc1 := hcl2 i hlt2
            have hbz := HBT.out.2.1 i
            have hv := HV.out i hlt2
            have i0 : (0 : Int) ≤ (i : Int) := by omega
            have ik : (i : Int) < (k : Int) + 1 := by omega
            generalize T.getD i 0 = z2 at *
            have HVH := Lib.hid hv
            have tm : z2.tmod 128 = z2 % 128 := Int.tmod_eq_emod_of_nonneg hbz.1
            clear hv hcl2
            go_wp2_with (fail)
            go_roundw
            case rel => exact ⟨i + 1, _, by omega, by go_num, rfl, Lib.hid (by rw [HVH.out]; have := ha.out; simp only [IntKind.wrap_u64]; omega), by first | rfl | trivial⟩
            case measure => simp [intOf]; omega
          · obtain rfl : i = k + 1 := by omega
            obtain ⟨y, hy⟩ : ∃ y : Nat, y = valB 0 T % 18446744073709551616 := ⟨_, rfl⟩
            have hay : a = (y : Int) := by rw [ha.out, hy, List.take_of_length_le (by rw [tlen.out]; exact Nat.le_refl _)]
            subst hay
            have hy64 : y < 2 ^ 64 := by rw [hy]; exact Nat.mod_lt _ (by decide)
            have hh2 := HH.out
            rw [← hy] at hh2
            have RS := Lib.hid (refshort_any y hy64)
            have hlx := shB_len10 hy64
            have HL2 : Hid (loR (loB zs) = if (shB y == T) = true then .tuple #[.int .u64 (y : Int), .int .i64 ((k : Int) + 1), .bool true] else .tuple #[.int .u64 0, .int .i64 0, .bool false]) := Lib.hid (by
              rw [hh2]
              by_cases hq : shB y = T
              · rw [if_pos hq, if_pos (beq_iff_eq.2 hq)]; rfl
              · rw [if_neg hq, if_neg (by rw [beq_iff_eq]; exact hq)]; rfl)
            clear hh2 HH ha hy
            generalize shB y = Y at *
            have D0 : Hid (Below w.heap.size w w.drew) := Lib.hid (Below.refl _ _).drew
            go_upto_region 11 with (fail)
            go_region_held3 (fun _ => True)
              (trivial)
              (first | (go_at_call 18; refine (RS.out _).mono ?_; rintro e u1 ⟨A3, c3, rfl, o3, b3⟩; have O3 := Lib.hid o3; have B3 := Lib.hid (D0.out.trans (b3.mono D0.out.size)); clear o3 b3) | (go_at_call 13; refine (same_any A3 (some ⟨b, o, none⟩) Y.length c3 (k + 1) c Y T u1 _ B O3.out.by (HBT.out.below (B3.out.mono hB)) (by omega) (by omega)).mono ?_; rintro e u2 ⟨rfl, q, rfl⟩))
            have B4 := Lib.hid (below_drewN B3.out q)
            cases hb2 : (Y == T) with
            | true =>
              rw [hb2, if_pos rfl] at HL2
              go_wp2
              exact bodyPost_ret (resT3 rfl _ _ _ _ _ rfl rfl rfl) rfl ⟨by rw [HL2.out]; rfl, B4.out⟩
            | false =>
              rw [hb2, if_neg Bool.false_ne_true] at HL2
              go_wp2
              exact bodyPost_ret (resT3 rfl _ _ _ _ _ rfl rfl rfl) rfl ⟨by rw [HL2.out]; rfl, B4.out⟩
    · have hm := Lib.hid (loB_miss (b := zs) (n := k) MB.out (by rw [HL.out]; omega) (fun j hj _ => hg.out j hj))
      have HL2 : Hid (loR (loB zs) = .tuple #[.int .u64 0, .int .i64 0, .bool false]) := Lib.hid (by rw [hm.out]; rfl)
      have hcs : decide ((k : Int) + 1 ≤ 10) = false ∨ (decide ((k : Int) + 1 ≤ 10) = true ∧ decide ((k : Int) + 1 ≤ (n : Int)) = false) := by
        simp only [decide_eq_true_eq, decide_eq_false_iff_not]
        omega
      rcases hcs with t1 | ⟨t1, t2⟩
      all_goals
        go_wp2_with (fail)
        exact bodyPost_ret (resT3 rfl _ _ _ _ _ rfl rfl rfl) rfl ⟨by rw [HL2.out]; rfl, Below.refl _ _⟩

end Go.Proofs.YtemfnckaehjhcaaDoor
