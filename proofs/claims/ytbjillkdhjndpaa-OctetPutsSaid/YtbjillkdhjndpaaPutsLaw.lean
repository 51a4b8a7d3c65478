/-
  The law OctetPuts, walked.
-/
import Derived.Test.YtbjillkdhjndpaaPuts0
import Derived.Test.YtbjillkdhjndpaaBack0
import Derived.Test.YtbjillkdhjndpaaGoesLaw
import Derived.Test.YtbjillkdhjndpaaOrderLaw
namespace Go.Proofs.Ytbjillkdhjndpaa
open Go.RowKit

theorem makeD (n m : Nat) (hn : n ≤ 100000) (hm : m ≤ 100000) (W : World) : (Instr.makeSlice 22 (.int .i64 (n : Int)) (.int .i64 ((n : Int) + m))).run Try.prog W = .ok (.slice (some ⟨W.heap.size, 0, none⟩) n (n + m)) (W.alloc (.cells (madeCells #[.int .u8 0] (n + m)) 5)) := by
  obtain ⟨i0, hi, hz0, hz1, hz2⟩ := info_parts Try.info5
  have h := run_make (P := Try.prog) W 22 5 i0 (.int .u8 0) Try.underlying22 hi hz0 .i64 .i64 n ((n : Int) + m) (by omega) (by omega) (by rw [hz2]; omega) (by omega)
  rw [show ((n : Int) + m).toNat = n + m by omega] at h
  simp only [Int.toNat_natCast, hz1, Nat.mul_one] at h
  exact h

theorem be_mod (s x : Nat) : be s ((x % 256 ^ s : Nat) : Int) = be s (x : Int) := by
  apply List.ext_getElem?
  intro i
  rcases Nat.lt_or_ge i s with hi | hi
  · have h1 := be_at s (x % 256 ^ s) i hi
    have h2 := be_at s x i hi
    have l1 : i < (be s ((x % 256 ^ s : Nat) : Int)).length := by rw [be_len]; exact hi
    have l2 : i < (be s (x : Int)).length := by rw [be_len]; exact hi
    simp only [List.getD, List.getElem?_eq_getElem l1, List.getElem?_eq_getElem l2, Option.getD_some] at h1 h2
    rw [List.getElem?_eq_getElem l1, List.getElem?_eq_getElem l2, h1, h2]
    congr 2
    have e : s = (s - 1 - i) + (i + 1) := by omega
    generalize s - 1 - i = a at *
    rw [e, Nat.pow_add, Nat.mod_mul_right_div_self, Nat.pow_succ, Nat.mod_mul_left_mod]
  · rw [List.getElem?_eq_none (by rw [be_len]; exact hi), List.getElem?_eq_none (by rw [be_len]; exact hi)]

theorem Row8.by_ {w : World} {g : Nat} {zs : List Int} (h : Row8 w g zs) (hb : Bs zs) (n : Nat) (hn : n ≤ zs.length) : By w (g + 1) (some ⟨g, 0, none⟩) n (zs.take n) := by
  refine ⟨by rw [List.length_take]; omega, hb.take n, fun hp => ⟨g, 0, rfl, by omega, fun j hj => ?_⟩⟩
  rw [Nat.zero_add, Blk.cell h j]
  simp [List.getD, hj, List.getElem?_eq_getElem (show j < zs.length by omega)]

/-- A block of n bytes, whatever they are. -/
def RowN (w : World) (g n : Nat) : Prop := ∃ Z : List Int, Z.length = n ∧ Bs Z ∧ Row8 w g Z
theorem RowN.store {w : World} {g n gy : Nat} (h : RowN w g n) (t : Nat) (v : Int) (hv : 0 ≤ v ∧ v ≤ 255) : RowN (w.setCell ⟨gy, t, none⟩ (.int .u8 v)) g n := by
  obtain ⟨Z, h1, h2, h3⟩ := h
  by_cases e : gy = g
  · subst e
    refine ⟨Z.set t v, by rw [List.length_set]; exact h1, fun i => ?_, h3.store t v⟩
    have := h2 i
    simp only [List.getD, List.getElem?_set] at this ⊢
    split
    · split
      · exact hv
      · simp
    · exact this
  · exact ⟨Z, h1, h2, Blk.far h3 (p := ⟨gy, t, none⟩) (fun e' => e e'.symm) _⟩
theorem RowN.at_ {w : World} {g n : Nat} (h : RowN w g n) (t : Nat) (ht : t < n) : ∃ z : Int, (0 ≤ z ∧ z ≤ 255) ∧ w.cell? ⟨g, t, none⟩ = some (.int .u8 z) ∧ w.frozen? ⟨g, t, none⟩ = false := by
  obtain ⟨Z, h1, h2, h3⟩ := h
  exact ⟨Z.getD t 0, h2 t, Blk.at_ h3 t (by omega), Blk.frozen h3 t⟩
theorem Row8.rowN {w w' : World} {g n B : Nat} {zs : List Int} (h : Row8 w g zs) (hb : Bs zs) (hn : zs.length = n) (hB : Below B w w') (hg : g < B) : RowN w' g n := ⟨zs, hn, hb, Blk.below h hB hg⟩

/-- Where the law stands: the row with its room in block g, the bytes, the numbers. -/
def PutSt (w : World) (g : Nat) (A2 : Option Addr) (N : Nat) (X : List Int) (A' : Option Addr) (m : Nat) (vs : List Int) (wr : World) : Prop :=
  Row8 wr g (X ++ List.replicate 16 0) ∧ By wr g A2 N X ∧ Us wr w.heap.size A' m vs ∧ Below w.heap.size w wr
theorem PutSt.below {w wr wr' : World} {g N m B : Nat} {A2 A' : Option Addr} {X vs : List Int} (h : PutSt w g A2 N X A' m vs wr) (hb : Below B wr wr') (hg : g < B) (hw : w.heap.size ≤ B) : PutSt w g A2 N X A' m vs wr' :=
  ⟨Blk.below h.1 hb hg, h.2.1.below (hb.mono (Nat.le_of_lt hg)), h.2.2.1.below (hb.mono hw), h.2.2.2.trans (hb.mono hw)⟩
theorem zeros_bs (k : Nat) : Bs (List.replicate k 0) := fun j => by
  simp only [List.getD, List.getElem?_replicate]
  split <;> simp

set_option maxRecDepth 100000 in
set_option maxHeartbeats 8000000 in
theorem puts_walk (A : Option Addr) (n c : Nat) (xs : List Int) (A' : Option Addr) (m d : Nat) (vs : List Int) (w : World) (hx : By w w.heap.size A n xs) (hnc : n ≤ c) (hy : Us w w.heap.size A' m vs) (_hmd : m ≤ d) (_hd : d ≤ 9223372036854775807) :
    Calls Try.prog 3 #[.slice A n c, .slice A' m d] w fun e w' => e = .returned (.bool true) ∧ Below w.heap.size w w' := by
  go_enter Try.func3, Try.ntmps3
  go_wp2_with (go_at_call 11; refine (wakes_any _).mono ?_; rintro e w1 ⟨rfl, hB1⟩)
  refine (few_any A n c xs w1 w.heap.size (hx.below hB1) hnc).mono ?_
  rintro e w2 ⟨A2, c2, rfl, ho2, hb2⟩
  have hB2 := hB1.trans (hb2.mono hB1.size)
  have bX := ho2.by
  have hnil : A2 = none → c2 = 0 := ho2.nil
  have hX3 : min n 300 ≤ 300 := by omega
  have hs2 := hB2.size
  clear hx hB1 hb2 ho2
  generalize xs.take 300 = X at *
  generalize min n 300 = N at *
  have hmk := makeD N 16 (by omega) (by omega)
  rw [show ((16 : Nat) : Int) = 16 from rfl] at hmk
  have hsz : (Try.prog.info? 5).map (·.size) = some 1 := by kernel_rfl
  have hl := Lib.hid bX.1
  have hld := Lib.hid (show ((X.map (Value.int .u8))).length = Nat.min N N by rw [List.length_map, bX.1]; exact (Nat.min_self _).symm)
  have hsrc := src_of bX (.cells (madeCells #[.int .u8 0] (N + 16)) 5)
  have ha1 := made_row w2 (N + 16)
  have ha4 : Hid (0 + (X.map (Value.int .u8)).length ≤ (List.replicate (N + 16) (Value.int .u8 0)).length) := show _ ≤ _ by rw [List.length_map, bX.1, List.length_replicate]; omega
  have ha6 : Hid (Below w2.heap.size w2 (w2.alloc (.cells (madeCells #[.int .u8 0] (N + 16)) 5))) := (Below.refl _ _).alloc (Nat.le_refl _) _
  go_wp2_with (with_reducible refine wpList_copy_splice rfl (.tmp 26) (.tmp 27) 22 22 rfl 5 Try.underlying22 hsz (some ⟨w2.heap.size, 0, none⟩) A2 N (N + 16) N c2 rfl rfl w2.heap.size 0 (List.replicate (N + 16) (.int .u8 0)) 5 ha1.out (X.map (Value.int .u8)) hld.out (fun hp => ⟨rfl, hsrc.out hp⟩) ha4.out (ints_oneCell _ _) w2.heap.size w2 ha6.out (Nat.le_refl _) ?_; intro w3 HG hB3)
  have st0 : PutSt w w2.heap.size A2 N X A' m vs w3 := by
    refine ⟨?_, bX.below hB3, hy.below (hB2.trans (hB3.mono hs2)), hB2.trans (hB3.mono hs2)⟩
    have h := HG.out
    have e : splice (List.replicate (N + 16) (Value.int .u8 0)) 0 (X.map (Value.int .u8)) = (X ++ List.replicate 16 0).map (Value.int .u8) := by
      simp [splice, hl.out]
    unfold Row8 Blk
    rw [← e]
    exact h
  have bs := bX.bs
  rw [hl.out]
  clear HG hB3 hB2 bX hy ha1 ha4 ha6 hsrc hld hmk hsz
  have hgw : w.heap.size ≤ w2.heap.size := hs2
  generalize w2.heap.size = g at *
  have HBS := Lib.hid bs
  clear bs
  go_loopw [31] (fun i wr => ∃ j : Nat, j ≤ m ∧ j ≤ 20 ∧ i = .int .i64 j ∧ PutSt w g A2 N X A' m vs wr) (fun i _ => m - (intOf i).toNat)
  case atStart => exact ⟨0, Nat.zero_le _, Nat.zero_le _, rfl, st0⟩
  case round =>
    clear st0
    obtain ⟨j, hj, hj2, rfl, st⟩ := hrel
    by_cases hlt : j < m
    · obtain ⟨b, o, rfl, hbB, hc⟩ := st.2.2.1.2.2 (by omega)
      have hcell := hc j hlt
      have hrange := st.2.2.1.2.1 j
      clear hc
      generalize vs.getD j 0 = x at *
      by_cases h20 : j = 20
      · subst h20
        go_wp2
        go_ret
        exact ⟨rfl, st.2.2.2⟩
      · have hj20 : j < 20 := by omega
        have hjf : ((j : Int) == 20) = false := by simp; omega
        clear h20
        obtain ⟨x, rfl⟩ := Int.eq_ofNat_of_zero_le hrange.1
        have hw16 : 0 ≤ IntKind.u16.wrap (x : Int) ∧ IntKind.u16.wrap (x : Int) < 65536 := by rw [IntKind.wrap_u16]; omega
        have hgr : g < wr.heap.size := Blk.lt st.1
        have hlr : (X ++ List.replicate 16 0).length = N + 16 := by rw [List.length_append, hl.out, List.length_replicate]
        have bR : By wr (g + 1) (some ⟨g, 0, none⟩) N X := by
          have := Row8.by_ st.1 (HBS.out.append (zeros_bs 16)) N (by omega)
          rwa [List.take_left' hl.out] at this
        clear hlr
        go_wp2_with fail
        refine (Put16_any (some ⟨g, 0, none⟩) N (N + 16) X (IntKind.u16.wrap (x : Int)) wr (g + 1) bR (by omega) hw16).mono ?_
        rintro e w4 ⟨rfl, hk4, hb4⟩
        have hs4 := hb4.size
        have hg4 := hk4.lt
        go_wp2_with fail
        refine (Put32_any (some ⟨g, 0, none⟩) N (N + 16) X ((x : Int) % 4294967296) w4 (g + 1) (bR.below (hb4.mono (by omega))) (by omega) (by omega)).mono ?_
        rintro e w5 ⟨rfl, hk5, hb5⟩
        have hs5 := hb5.size
        have hg5 := hk5.lt
        go_wp2_with fail
        refine (Put64_any (some ⟨g, 0, none⟩) N (N + 16) X (x : Int) w5 (g + 1) ((bR.below (hb4.mono (by omega))).below (hb5.mono (by omega))) (by omega) (by omega)).mono ?_
        rintro e w6 ⟨rfl, hk6, hb6⟩
        have hs6 := hb6.size
        have hg6 := hk6.lt
        have R1 : Row8 w6 wr.heap.size (X ++ be 2 (x : Int)) := by
          have e : be 2 (IntKind.u16.wrap (x : Int)) = be 2 (x : Int) := by
            rw [IntKind.wrap_u16, ← be_mod 2 x, Int.natCast_emod]
            rfl
          rw [e] at hk4
          exact (hk4.below hb5 (by omega)).below hb6 (by omega)
        have R2 : Row8 w6 w4.heap.size (X ++ be 4 (x : Int)) := by
          have e : be 4 ((x : Int) % 4294967296) = be 4 (x : Int) := by
            rw [← be_mod 4 x, Int.natCast_emod]
            rfl
          rw [e] at hk5
          exact hk5.below hb6 (by omega)
        have R3 : Row8 w6 w5.heap.size (X ++ be 8 (x : Int)) := hk6
        have st6 := ((st.below hb4 hgr (by omega)).below hb5 (by omega) (by omega)).below hb6 (by omega) (by omega)
        have hall : Below wr.heap.size wr w6 := (hb4.trans (hb5.mono hs4)).trans (hb6.mono (by omega))
        clear hk4 hk5 hk6 hb4 hb5 hb6 bR hcell
        have i0 : ∀ W : World, (Instr.index 32 (.agg #[.slice (some ⟨wr.heap.size, 0, none⟩) (N + 2) (N + 2), .slice (some ⟨w4.heap.size, 0, none⟩) (N + 4) (N + 4), .slice (some ⟨w5.heap.size, 0, none⟩) (N + 8) (N + 8)]) (.int .i64 0)).run Try.prog W = .ok (.slice (some ⟨wr.heap.size, 0, none⟩) (N + 2) (N + 2)) W := fun _ => by kernel_rfl
        have i1 : ∀ W : World, (Instr.index 32 (.agg #[.slice (some ⟨wr.heap.size, 0, none⟩) (N + 2) (N + 2), .slice (some ⟨w4.heap.size, 0, none⟩) (N + 4) (N + 4), .slice (some ⟨w5.heap.size, 0, none⟩) (N + 8) (N + 8)]) (.int .i64 1)).run Try.prog W = .ok (.slice (some ⟨w4.heap.size, 0, none⟩) (N + 4) (N + 4)) W := fun _ => by kernel_rfl
        have i2 : ∀ W : World, (Instr.index 32 (.agg #[.slice (some ⟨wr.heap.size, 0, none⟩) (N + 2) (N + 2), .slice (some ⟨w4.heap.size, 0, none⟩) (N + 4) (N + 4), .slice (some ⟨w5.heap.size, 0, none⟩) (N + 8) (N + 8)]) (.int .i64 2)).run Try.prog W = .ok (.slice (some ⟨w5.heap.size, 0, none⟩) (N + 8) (N + 8)) W := fun _ => by kernel_rfl
        generalize hg1 : wr.heap.size = g1 at *
        generalize hg2 : w4.heap.size = g2 at *
        generalize hg3 : w5.heap.size = g3 at *
        have HR1 := Lib.hid R1
        have HR2 := Lib.hid R2
        have HR3 := Lib.hid R3
        have HALL := Lib.hid hall
        clear hg1 hg2 hg3 R1 R2 R3 st hall
        go_wp2_with fail
        go_loopw [53] (fun i wi => ∃ z : Int, (z = 0 ∨ z = 1 ∨ z = 2 ∨ z = 3) ∧ i = .int .i64 z ∧ Below w6.heap.size w6 wi) (fun i _ => (3 - intOf i).toNat)
        case atStart => exact ⟨0, .inl rfl, rfl, Below.refl _ _⟩
        case round =>
          obtain ⟨z, hz, rfl, hbi⟩ := hrel
          rcases hz with rfl | rfl | rfl | rfl
          · go_wp2_with fail
            refine (high_any x 2 _ (by omega) (by omega)).mono ?_
            rintro e w7 ⟨rfl, rh7, hb7⟩
            have hb67 : Below w6.heap.size w6 w7 := hbi.trans (hb7.mono hbi.size)
            have bh7 := By.of_blk rh7 (be_bs 2 (x : Int)) (be_len 2 _)
            have bx7 := (st6.2.1.below (hb67.mono (by omega))).more (B' := w7.heap.size) (by have := hb67.size; omega)
            have hs7 := Blk.lt rh7
            have hs67 := hb67.size
            clear rh7 hb7 hbi
            go_wp2_with fail
            refine (both_any A2 N c2 X _ 2 2 (be 2 (x : Int)) w7 w7.heap.size bx7 hnil (bh7.more hs7) (by simp) (Nat.le_refl _) (by omega) (by omega)).mono ?_
            rintro e w8 ⟨A8, c8, rfl, ho8, hb8⟩
            have hb68 : Below w6.heap.size w6 w8 := hb67.trans (hb8.mono hs67)
            have by8 := By.of_blk (Blk.below HR1.out hb68 (by omega)) (HBS.out.append (be_bs 2 (x : Int))) (show (X ++ be 2 (x : Int)).length = N + 2 by rw [List.length_append, hl.out, be_len])
            have bz8 := ho8.by
            clear ho8 hb8 bx7 bh7
            have eq8 : ((X ++ be 2 (x : Int)) == (X ++ be 2 (x : Int))) = true := by simp
            generalize X ++ be 2 (x : Int) = Y at *
            go_wp2_with (go_at_call 16; refine (same_any _ _ _ _ _ _ Y Y w8 _ _ by8 bz8 (by omega) (by omega)).mono ?_; rintro e w9 ⟨rfl, r9, rfl⟩)
            go_roundw
            case rel => exact ⟨1, by omega, by go_num, ⟨hb68.os, hb68.tape, hb68.output, hb68.size, hb68.block⟩⟩
            case measure => simp [intOf]
          · go_wp2_with fail
            refine (high_any x 4 _ (by omega) (by omega)).mono ?_
            rintro e w7 ⟨rfl, rh7, hb7⟩
            have hb67 : Below w6.heap.size w6 w7 := hbi.trans (hb7.mono hbi.size)
            have bh7 := By.of_blk rh7 (be_bs 4 (x : Int)) (be_len 4 _)
            have bx7 := (st6.2.1.below (hb67.mono (by omega))).more (B' := w7.heap.size) (by have := hb67.size; omega)
            have hs7 := Blk.lt rh7
            have hs67 := hb67.size
            clear rh7 hb7 hbi
            go_wp2_with fail
            refine (both_any A2 N c2 X _ 4 4 (be 4 (x : Int)) w7 w7.heap.size bx7 hnil (bh7.more hs7) (by simp) (Nat.le_refl _) (by omega) (by omega)).mono ?_
            rintro e w8 ⟨A8, c8, rfl, ho8, hb8⟩
            have hb68 : Below w6.heap.size w6 w8 := hb67.trans (hb8.mono hs67)
            have by8 := By.of_blk (Blk.below HR2.out hb68 (by omega)) (HBS.out.append (be_bs 4 (x : Int))) (show (X ++ be 4 (x : Int)).length = N + 4 by rw [List.length_append, hl.out, be_len])
            have bz8 := ho8.by
            clear ho8 hb8 bx7 bh7
            have eq8 : ((X ++ be 4 (x : Int)) == (X ++ be 4 (x : Int))) = true := by simp
            generalize X ++ be 4 (x : Int) = Y at *
            go_wp2_with (go_at_call 16; refine (same_any _ _ _ _ _ _ Y Y w8 _ _ by8 bz8 (by omega) (by omega)).mono ?_; rintro e w9 ⟨rfl, r9, rfl⟩)
            go_roundw
            case rel => exact ⟨2, by omega, by go_num, ⟨hb68.os, hb68.tape, hb68.output, hb68.size, hb68.block⟩⟩
            case measure => simp [intOf]
          · go_wp2_with fail
            refine (high_any x 8 _ (by omega) (by omega)).mono ?_
            rintro e w7 ⟨rfl, rh7, hb7⟩
            have hb67 : Below w6.heap.size w6 w7 := hbi.trans (hb7.mono hbi.size)
            have bh7 := By.of_blk rh7 (be_bs 8 (x : Int)) (be_len 8 _)
            have bx7 := (st6.2.1.below (hb67.mono (by omega))).more (B' := w7.heap.size) (by have := hb67.size; omega)
            have hs7 := Blk.lt rh7
            have hs67 := hb67.size
            clear rh7 hb7 hbi
            go_wp2_with fail
            refine (both_any A2 N c2 X _ 8 8 (be 8 (x : Int)) w7 w7.heap.size bx7 hnil (bh7.more hs7) (by simp) (Nat.le_refl _) (by omega) (by omega)).mono ?_
            rintro e w8 ⟨A8, c8, rfl, ho8, hb8⟩
            have hb68 : Below w6.heap.size w6 w8 := hb67.trans (hb8.mono hs67)
            have by8 := By.of_blk (Blk.below HR3.out hb68 (by omega)) (HBS.out.append (be_bs 8 (x : Int))) (show (X ++ be 8 (x : Int)).length = N + 8 by rw [List.length_append, hl.out, be_len])
            have bz8 := ho8.by
            clear ho8 hb8 bx7 bh7
            have eq8 : ((X ++ be 8 (x : Int)) == (X ++ be 8 (x : Int))) = true := by simp
            generalize X ++ be 8 (x : Int) = Y at *
            go_wp2_with (go_at_call 16; refine (same_any _ _ _ _ _ _ Y Y w8 _ _ by8 bz8 (by omega) (by omega)).mono ?_; rintro e w9 ⟨rfl, r9, rfl⟩)
            go_roundw
            case rel => exact ⟨3, by omega, by go_num, ⟨hb68.os, hb68.tape, hb68.output, hb68.size, hb68.block⟩⟩
            case measure => simp [intOf]
          · have hR1 := HR1.out.rowN (HBS.out.append (be_bs 2 (x : Int))) (show (X ++ be 2 (x : Int)).length = N + 2 by rw [List.length_append, hl.out, be_len]) hbi (by omega)
            have hR2 := HR2.out.rowN (HBS.out.append (be_bs 4 (x : Int))) (show (X ++ be 4 (x : Int)).length = N + 4 by rw [List.length_append, hl.out, be_len]) hbi (by omega)
            have hR3 := HR3.out.rowN (HBS.out.append (be_bs 8 (x : Int))) (show (X ++ be 8 (x : Int)).length = N + 8 by rw [List.length_append, hl.out, be_len]) hbi (by omega)
            have hb6i : Below g1 w6 wr := hbi.mono (by omega)
            clear HR1 HR2 HR3 HALL hbi
            go_wp2_with fail
            go_loopw [71] (fun i wi => ∃ z : Int, (z = 0 ∨ z = 1 ∨ z = 2 ∨ z = 3) ∧ i = .int .i64 z ∧ RowN wi g1 (N + 2) ∧ RowN wi g2 (N + 4) ∧ RowN wi g3 (N + 8) ∧ Below g1 w6 wi) (fun i _ => (3 - intOf i).toNat)
            case atStart => exact ⟨0, .inl rfl, rfl, hR1, hR2, hR3, hb6i⟩
            case round =>
              clear hR1 hR2 hR3 hb6i
              obtain ⟨z, hz, rfl, hR1, hR2, hR3, hb6i⟩ := hrel
              rcases hz with rfl | rfl | rfl | rfl
              · go_wp2_with fail
                go_loopw [76] (fun i wi => ∃ t : Nat, t ≤ N + 2 ∧ i = .int .i64 t ∧ RowN wi g1 (N + 2) ∧ RowN wi g2 (N + 4) ∧ RowN wi g3 (N + 8) ∧ Below g1 w6 wi) (fun i _ => N + 2 - (intOf i).toNat)
                case atStart => exact ⟨0, Nat.zero_le _, rfl, hR1, hR2, hR3, hb6i⟩
                case round =>
                  clear hR1 hR2 hR3 hb6i
                  obtain ⟨t, ht, rfl, hR1, hR2, hR3, hb6i⟩ := hrel
                  by_cases htn : t < N + 2
                  · obtain ⟨y, hy, hcy, hfy⟩ := hR1.at_ t htn
                    have HR1 := Lib.hid hR1
                    have HR2 := Lib.hid hR2
                    have HR3 := Lib.hid hR3
                    clear hR1 hR2 hR3
                    go_wp2
                    go_roundw
                    case rel => exact ⟨t + 1, by omega, by go_num, HR1.out.store t _ (by omega), HR2.out.store t _ (by omega), HR3.out.store t _ (by omega), hb6i.setCell (p := ⟨g1, t, none⟩) (show g1 ≤ g1 by omega) _⟩
                    case measure => simp [intOf]; omega
                  · go_wp2
                    go_roundw
                    case rel => exact ⟨1, by omega, by go_num, hR1, hR2, hR3, hb6i⟩
                    case measure => simp [intOf]
              · go_wp2_with fail
                go_loopw [76] (fun i wi => ∃ t : Nat, t ≤ N + 4 ∧ i = .int .i64 t ∧ RowN wi g1 (N + 2) ∧ RowN wi g2 (N + 4) ∧ RowN wi g3 (N + 8) ∧ Below g1 w6 wi) (fun i _ => N + 4 - (intOf i).toNat)
                case atStart => exact ⟨0, Nat.zero_le _, rfl, hR1, hR2, hR3, hb6i⟩
                case round =>
                  clear hR1 hR2 hR3 hb6i
                  obtain ⟨t, ht, rfl, hR1, hR2, hR3, hb6i⟩ := hrel
                  by_cases htn : t < N + 4
                  · obtain ⟨y, hy, hcy, hfy⟩ := hR2.at_ t htn
                    have HR1 := Lib.hid hR1
                    have HR2 := Lib.hid hR2
                    have HR3 := Lib.hid hR3
                    clear hR1 hR2 hR3
                    go_wp2
                    go_roundw
                    case rel => exact ⟨t + 1, by omega, by go_num, HR1.out.store t _ (by omega), HR2.out.store t _ (by omega), HR3.out.store t _ (by omega), hb6i.setCell (p := ⟨g2, t, none⟩) (show g1 ≤ g2 by omega) _⟩
                    case measure => simp [intOf]; omega
                  · go_wp2
                    go_roundw
                    case rel => exact ⟨2, by omega, by go_num, hR1, hR2, hR3, hb6i⟩
                    case measure => simp [intOf]
              · go_wp2_with fail
                go_loopw [76] (fun i wi => ∃ t : Nat, t ≤ N + 8 ∧ i = .int .i64 t ∧ RowN wi g1 (N + 2) ∧ RowN wi g2 (N + 4) ∧ RowN wi g3 (N + 8) ∧ Below g1 w6 wi) (fun i _ => N + 8 - (intOf i).toNat)
                case atStart => exact ⟨0, Nat.zero_le _, rfl, hR1, hR2, hR3, hb6i⟩
                case round =>
                  clear hR1 hR2 hR3 hb6i
                  obtain ⟨t, ht, rfl, hR1, hR2, hR3, hb6i⟩ := hrel
                  by_cases htn : t < N + 8
                  · obtain ⟨y, hy, hcy, hfy⟩ := hR3.at_ t htn
                    have HR1 := Lib.hid hR1
                    have HR2 := Lib.hid hR2
                    have HR3 := Lib.hid hR3
                    clear hR1 hR2 hR3
                    go_wp2
                    go_roundw
                    case rel => exact ⟨t + 1, by omega, by go_num, HR1.out.store t _ (by omega), HR2.out.store t _ (by omega), HR3.out.store t _ (by omega), hb6i.setCell (p := ⟨g3, t, none⟩) (show g1 ≤ g3 by omega) _⟩
                    case measure => simp [intOf]; omega
                  · go_wp2
                    go_roundw
                    case rel => exact ⟨3, by omega, by go_num, hR1, hR2, hR3, hb6i⟩
                    case measure => simp [intOf]
              · have st9 := st6.below hb6i hgr (by omega)
                have hlr : (X ++ List.replicate 16 0).length = N + 16 := by rw [List.length_append, hl.out, List.length_replicate]
                have bsR := HBS.out.append (zeros_bs 16)
                have bR := Row8.by_ st9.1 bsR N (by omega)
                have bA := Row8.by_ st9.1 bsR (N + 16) (by omega)
                rw [List.take_left' hl.out] at bR
                rw [List.take_of_length_le (Nat.le_of_eq hlr)] at bA
                have bC := bA.cut (k := N) (m := 16) (c := N + 16) (by omega) (by omega) (Nat.le_refl _)
                have eA : (some (⟨g, 0, none⟩ : Addr)).map (·.add N) = some ⟨g, N, none⟩ := by by_cases h0 : N = 0 <;> simp [Addr.add, h0]
                rw [if_neg (by omega), List.drop_left' hl.out, List.take_of_length_le (by simp), eA] at bC
                clear eA
                have HC := Lib.hid bC
                have hcnt := Lib.hid (show cnt 0 (List.replicate 16 0) = 16 by decide)
                clear hR1 hR2 hR3 hb6i st6 bA bC bsR hlr i0 i1 i2
                have eXX : (X == X) = true := by simp
                go_wp2_with fail
                refine (same_any _ _ _ _ _ _ X X _ _ _ bR st9.2.1 (by omega) (by omega)).mono ?_
                rintro e w9 ⟨rfl, r9, rfl⟩
                go_wp2_with fail
                refine (count_any _ 16 16 (List.replicate 16 0) 0 _ (g + 1) (by exact HC.out) (by omega)).mono ?_
                rintro e w' ⟨rfl, rfl⟩
                rw [hcnt.out]
                have hsub : (N : Int) + 16 - N = 16 := by omega
                go_wp2
                go_roundw
                case rel => exact ⟨j + 1, by omega, by omega, by go_num, st9.1, st9.2.1, st9.2.2.1, ⟨st9.2.2.2.os, st9.2.2.2.tape, st9.2.2.2.output, st9.2.2.2.size, st9.2.2.2.block⟩⟩
                case measure => simp [intOf]; omega
    · go_wp2
      go_ret
      exact ⟨rfl, st.2.2.2⟩

end Go.Proofs.Ytbjillkdhjndpaa
