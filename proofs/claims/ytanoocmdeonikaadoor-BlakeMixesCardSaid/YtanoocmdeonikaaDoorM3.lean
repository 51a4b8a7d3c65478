/-
  The law BlakeMixes, walked.
-/
import Derived.Test.YtanoocmdeonikaaDoorM2
namespace Go.Proofs.YtanoocmdeonikaaDoor
open Go.RowKit
theorem Tryd.z35 : ∀ w, (zeroValue 35).run Tryd.prog w = .ok (.agg (ZU 6).toArray) w := (zero_of_info (n := 6) (by kernel_rfl)).1
theorem Tryd.i35 : (Tryd.prog.info? 35).map (·.size) = some 6 := by kernel_rfl
attribute [local go_sem ↓] Tryd.z42 Tryd.z70 Tryd.z27 Tryd.z45 Tryd.z37 Tryd.z38 Tryd.z35

theorem eq42s (w : World) : (binOp .eql 42 (.agg (UL startL).toArray) (.agg (UL startL).toArray)).run Tryd.prog w = .ok (.bool true) w := by
  cases hi : Tryd.prog.info? 32 with
  | none =>
    have : (Tryd.prog.info? 32).isSome = true := by kernel_rfl
    rw [hi] at this
    cases this
  | some i0 =>
    have h := eq_ints w 42 32 8 .u32 i0 Tryd.underlying42 Tryd.underlying32 hi (by kernel_rfl) (startL.map fun x => (tn x : Int)) (startL.map fun x => (tn x : Int)) rfl rfl 9998
    have h' : (Op.equalIn 10000 42 (.agg (UL startL).toArray) (.agg (UL startL).toArray)).run Tryd.prog w = .ok true w := by
      refine Eq.trans ?_ (h.trans ?_)
      · rfl
      · simp
    rw [run_eql_struct, h']
    rfl

structure XW (w0 : World) (A : Option Addr) (n : Nat) (w : World) : Prop where
  below : Below w0.heap.size w0 w
  gl : Gl w
  mx : Mxs w w0.heap.size A n
theorem XW.low {w0 w w' : World} {A : Option Addr} {n : Nat} (s : XW w0 A n w) (hb : Below w.heap.size w w') : XW w0 A n w' := ⟨s.below.trans (hb.mono s.below.size), s.gl.low hb, s.mx.below (hb.mono s.below.size)⟩
theorem Gl.drew {w : World} (s : Gl w) : Gl w.drew := ⟨s.s, s.o, s.f, s.lt⟩
theorem XW.drew {w0 w : World} {A : Option Addr} {n : Nat} (s : XW w0 A n w) : XW w0 A n w.drew := ⟨s.below.drew, s.gl.drew, s.mx⟩

/-- The block of the one that is looked at. -/
structure OW (w0 : World) (A : Option Addr) (n g : Nat) (q : Q) (x y : BitVec 32) (w : World) : Prop where
  xw : XW w0 A n w
  blk : Blk w g 35 #[.int .u32 (tn q.a), .int .u32 (tn q.b), .int .u32 (tn q.c), .int .u32 (tn q.d), .int .u32 (tn x), .int .u32 (tn y)]
section
variable {w0 w w' : World} {A : Option Addr} {n g : Nat} {q : Q} {x y : BitVec 32}
theorem OW.low (s : OW w0 A n g q x y w) (hb : Below w.heap.size w w') : OW w0 A n g q x y w' := ⟨s.xw.low hb, s.blk.below hb s.blk.lt⟩
theorem OW.drew (s : OW w0 A n g q x y w) : OW w0 A n g q x y w.drew := ⟨s.xw.drew, s.blk⟩
def Six (g : Nat) (q : Q) (x y : BitVec 32) (w : World) : Prop := w.cell? ⟨g, 0, none⟩ = some (.int .u32 (tn q.a)) ∧ w.cell? ⟨g, 1, none⟩ = some (.int .u32 (tn q.b)) ∧ w.cell? ⟨g, 2, none⟩ = some (.int .u32 (tn q.c)) ∧ w.cell? ⟨g, 3, none⟩ = some (.int .u32 (tn q.d)) ∧ w.cell? ⟨g, 4, none⟩ = some (.int .u32 (tn x)) ∧ w.cell? ⟨g, 5, none⟩ = some (.int .u32 (tn y))
theorem OW.six (s : OW w0 A n g q x y w) : w.cell? ⟨g, 0, none⟩ = some (.int .u32 (tn q.a)) ∧ w.cell? ⟨g, 1, none⟩ = some (.int .u32 (tn q.b)) ∧ w.cell? ⟨g, 2, none⟩ = some (.int .u32 (tn q.c)) ∧ w.cell? ⟨g, 3, none⟩ = some (.int .u32 (tn q.d)) ∧ w.cell? ⟨g, 4, none⟩ = some (.int .u32 (tn x)) ∧ w.cell? ⟨g, 5, none⟩ = some (.int .u32 (tn y)) :=
  ⟨s.blk.cell 0, s.blk.cell 1, s.blk.cell 2, s.blk.cell 3, s.blk.cell 4, s.blk.cell 5⟩
end

set_option maxRecDepth 100000 in
set_option maxHeartbeats 3000000 in
theorem mixes_walk (A : Option Addr) (n c : Nat) (w : World) (hm : Mxs w w.heap.size A n) (hn : n ≤ 9223372036854775807) (hG : Gl w) :
    Calls Tryd.prog 4 #[.slice A n c] w fun e w' => e = .returned (.bool true) ∧ Below w.heap.size w w' := by
  have X0 : Hid (XW w A n w) := ⟨Below.refl _ w, hG, hm⟩
  have WK := Lib.hid (wakes_any w hG)
  clear hm hG
  go_enter Tryd.func4, Tryd.ntmps4
  go_wp2_with fail
  refine WK.out.mono ?_
  rintro e w1 ⟨rfl, hb1⟩
  have X1 := Lib.hid (X0.out.low hb1)
  clear WK X0 hb1
  go_wp2_with fail
  go_loopw [13] (fun i wr => ∃ k : Nat, k ≤ n ∧ k ≤ 20 ∧ i = .int .i64 k ∧ XW w A n wr) (fun i _ => 20 - (intOf i).toNat)
  case atStart => exact ⟨0, Nat.zero_le _, Nat.zero_le _, rfl, X1.out⟩
  case round =>
    obtain ⟨k, hk, hk20, rfl, hx⟩ := hrel
    have X := Lib.hid hx
    clear X1 hx
    by_cases hlt : k < n
    · have kI : (k : Int) < n := by omega
      by_cases h20 : k = 20
      · have h20b : ((k : Int) == 20) = true := by simp; omega
        clear h20
        obtain ⟨b, o, hA, hbB, hc⟩ := X.out.mx (by omega)
        obtain ⟨cs, hr, q, x, y, rfl⟩ := hc k hlt
        have HR : Hid (wr.rangeAt b (o + k * 6) [.int .u32 (tn q.a), .int .u32 (tn q.b), .int .u32 (tn q.c), .int .u32 (tn q.d), .int .u32 (tn x), .int .u32 (tn y)]) := hr
        have hA0 := Lib.hid hA
        subst hA
        clear hc hr hA0
        go_wp2_with (first
          | ((with_reducible refine at_load (t := 35) ?_); refine wpList_load_mid rfl 35 _ rfl b (o + k * 6) rfl [.int .u32 (tn q.a), .int .u32 (tn q.b), .int .u32 (tn q.c), .int .u32 (tn q.d), .int .u32 (tn x), .int .u32 (tn y)] _ HR.out Tryd.underlying35 rfl Tryd.i35 ?_)
          | ((with_reducible refine at_store (t := 35) ?_); refine wpList_store_blk _ rfl 35 _ _ rfl wr.heap.size (ZU 6).toArray 35 [.int .u32 (tn q.a), .int .u32 (tn q.b), .int .u32 (tn q.c), .int .u32 (tn q.d), .int .u32 (tn x), .int .u32 (tn y)] rfl rfl (Blk.new wr 35 _) rfl Tryd.i35 (by simp [Value.oneCell']) ?_; intro w2 hb2 ho2; have V : Hid (OW w (some ⟨b, o, none⟩) n wr.heap.size q x y w2) := ⟨X.out.low (((Below.refl _ wr).alloc (Nat.le_refl _) (.cells (ZU 6).toArray 35)).trans (ho2.below (Nat.le_refl _))), hb2⟩; clear X hb2 ho2 HR; generalize wr.heap.size = g at *))
        have X := Lib.hid V.out.xw
        clear V
        generalize (some ⟨b, o, none⟩ : Option Addr) = A at *
        go_wp2_with fail
        refine (orders_any _ X.out.gl).mono ?_
        rintro e w6 ⟨rfl, k6⟩
        have X6 := Lib.hid (X.out.low k6)
        clear X k6
        go_wp2_with fail
        go_loopw [37] (fun i wr => ∃ k : Nat, k ≤ 10 ∧ i = .int .i64 k ∧ XW w A n wr) (fun i _ => 10 - (intOf i).toNat)
        case atStart => exact ⟨0, Nat.zero_le _, rfl, X6.out⟩
        case round =>
          obtain ⟨k, hk, rfl, hx⟩ := hrel
          have X := Lib.hid hx
          clear X6 hx
          by_cases hlt : k < 10
          · have ix := fun w => ix38 k hlt w
            have IX := Lib.hid (fun j (hj : j < 16) w => ix37 k hlt j hj w)
            have RL := Lib.hid (orders_len k hlt)
            have OS := Lib.hid (fun w => order_any k hlt w)
            have SZ := ordS_size k hlt
            have DG := Lib.hid (fun j (hj : j < 16) h => ord_dig k hlt j hj h)
            generalize ordersL.getD k [] = row at *
            generalize ordS k = S at *
            have iR : Hid ((Tryd.prog.info? 37).map (·.size) = some (IL row).length) := show _ = _ by rw [IL.len, RL.out]; exact Tryd.i37
            have zR : Hid ((ZI 16).toArray.size = (IL row).length) := show _ = _ by rw [IL.len, RL.out]; rfl
            have oR := Lib.hid (IL.one row)
            go_wp2_with (first
              | ((with_reducible refine at_store (t := 37) ?_); refine wpList_store_blk _ rfl 37 _ _ rfl wr.heap.size (ZI 16).toArray 37 (IL row) rfl rfl (Blk.new wr 37 _) zR.out iR.out oR.out ?_; intro w7 hb7 ho7; have X7 := Lib.hid (X.out.low (((Below.refl _ wr).alloc (Nat.le_refl _) (.cells (ZI 16).toArray 37)).trans (ho7.below (Nat.le_refl _)))); have R7 := Lib.hid hb7; clear hb7 ho7 X; generalize wr.heap.size = gr at *)
              | ((with_reducible refine at_load (t := 37) ?_); refine wpList_load_mid rfl 37 _ rfl gr 0 rfl (IL row) _ R7.out.rng Tryd.underlying37 rfl iR.out ?_))
            clear ix R7
            go_loopw [42] (fun i wr => ∃ j : Nat, j ≤ 16 ∧ i = .int .i64 j ∧ XW w A n wr) (fun i _ => 16 - (intOf i).toNat)
            case atStart => exact ⟨0, Nat.zero_le _, rfl, X7.out⟩
            case round =>
              obtain ⟨j, hj, rfl, hx⟩ := hrel
              have X := Lib.hid hx
              clear X7 hx
              by_cases hlt2 : j < 16
              · have ix := fun w => IX.out j hlt2 w
                have hs : j < S.size := by omega
                have hd := Lib.hid (DG.out j hlt2 hs)
                have D18 := Lib.hid (fun w => digit_any ((S[j]).toNat : Int) (Int.natCast_nonneg _) (u8_le _) w)
                go_wp2_with (first
                  | (go_at_call 19; refine (OS.out _).mono ?_; rintro e w8 ⟨rfl, rfl⟩)
                  | (go_at_call 18; refine (D18.out _).mono ?_; rintro e w9 ⟨rfl, rfl⟩; rw [hd.out]))
                exact ⟨⟨j + 1, by omega, by go_num, X.out⟩, by simp [intOf]; omega⟩
              · obtain rfl : j = 16 := by omega
                go_wp2_with fail
                exact ⟨⟨k + 1, by omega, by go_num, X.out⟩, by simp [intOf]; omega⟩
          · obtain rfl : k = 10 := by omega
            go_wp2_with fail
            refine (start_any _ X.out.gl).mono ?_
            rintro e w8 ⟨rfl, k8⟩
            have X8 := Lib.hid (X.out.low k8)
            clear X k8
            go_wp2_with fail
            refine (refstart_any _).mono ?_
            rintro e w9 ⟨rfl, k9⟩
            have X9 := Lib.hid (X8.out.low k9)
            clear X8 k9
            have hq := eq42s
            go_wp2_with fail
            go_ret
            exact ⟨rfl, X9.out.below⟩
      · have h20' : ¬ ((k : Int) = 20) := by omega
        have h20b : ((k : Int) == 20) = false := by simp; omega
        obtain ⟨b, o, hA, hbB, hc⟩ := X.out.mx (by omega)
        obtain ⟨cs, hr, q, x, y, rfl⟩ := hc k hlt
        have HR : Hid (wr.rangeAt b (o + k * 6) [.int .u32 (tn q.a), .int .u32 (tn q.b), .int .u32 (tn q.c), .int .u32 (tn q.d), .int .u32 (tn x), .int .u32 (tn y)]) := hr
        have hA0 := Lib.hid hA
        subst hA
        clear hc hr hA0
        go_wp2_with (first
          | ((with_reducible refine at_load (t := 35) ?_); refine wpList_load_mid rfl 35 _ rfl b (o + k * 6) rfl [.int .u32 (tn q.a), .int .u32 (tn q.b), .int .u32 (tn q.c), .int .u32 (tn q.d), .int .u32 (tn x), .int .u32 (tn y)] _ HR.out Tryd.underlying35 rfl Tryd.i35 ?_)
          | ((with_reducible refine at_store (t := 35) ?_); refine wpList_store_blk _ rfl 35 _ _ rfl wr.heap.size (ZU 6).toArray 35 [.int .u32 (tn q.a), .int .u32 (tn q.b), .int .u32 (tn q.c), .int .u32 (tn q.d), .int .u32 (tn x), .int .u32 (tn y)] rfl rfl (Blk.new wr 35 _) rfl Tryd.i35 (by simp [Value.oneCell']) ?_; intro w2 hb2 ho2; have V : Hid (OW w (some ⟨b, o, none⟩) n wr.heap.size q x y w2) := ⟨X.out.low (((Below.refl _ wr).alloc (Nat.le_refl _) (.cells (ZU 6).toArray 35)).trans (ho2.below (Nat.le_refl _))), hb2⟩; clear X hb2 ho2 HR; generalize wr.heap.size = g at *))
        obtain ⟨m, hm⟩ : ∃ m, m = mixQ q x y := ⟨_, rfl⟩
        have C1 : Hid (∀ w, Calls Tryd.prog 15 #[.agg #[.int .u32 (tn q.a), .int .u32 (tn q.b), .int .u32 (tn q.c), .int .u32 (tn q.d)], .int .u32 (tn x), .int .u32 (tn y)] w fun e w' => e = .returned (.agg #[.int .u32 (tn m.a), .int .u32 (tn m.b), .int .u32 (tn m.c), .int .u32 (tn m.d)]) ∧ Below w.heap.size w w') := fun w => by
          subst hm; exact mix_any q x y w
        have C2 : Hid (∀ w, Calls Tryd.prog 16 #[.agg #[.int .u32 (tn q.a), .int .u32 (tn q.b), .int .u32 (tn q.c), .int .u32 (tn q.d)], .int .u32 (tn x), .int .u32 (tn y)] w fun e w' => e = .returned (.agg #[.int .u32 (tn m.a), .int .u32 (tn m.b), .int .u32 (tn m.c), .int .u32 (tn m.d)]) ∧ Below w.heap.size w w') := fun w => by
          subst hm; exact refmix_any q x y w
        clear hm
        have hne := fun w => ne33 w m
        obtain ⟨c0, c1, c2, c3, c4, c5⟩ := V.out.six
        go_region_held3 (fun w' => w'.cell? ⟨g, 0, none⟩ = some (.int .u32 (tn q.a)) ∧ w'.cell? ⟨g, 1, none⟩ = some (.int .u32 (tn q.b)) ∧ w'.cell? ⟨g, 2, none⟩ = some (.int .u32 (tn q.c)) ∧ w'.cell? ⟨g, 3, none⟩ = some (.int .u32 (tn q.d)) ∧ w'.cell? ⟨g, 4, none⟩ = some (.int .u32 (tn x)) ∧ w'.cell? ⟨g, 5, none⟩ = some (.int .u32 (tn y)))
          (first | with_reducible exact V.out.drew.six | with_reducible exact ((V.out.drew.low k1).low k2).six | with_reducible exact (V.out.drew.low k1).six)
          (first
            | (go_at_call 15; with_reducible refine (C1.out _).mono ?_; rintro e w3 ⟨rfl, k1⟩)
            | (go_at_call 16; with_reducible refine (C2.out _).mono ?_; rintro e w4 ⟨rfl, k2⟩))
        have XE := Lib.hid ((V.out.drew.low k1).low k2).xw
        clear V k1 k2 c0 c1 c2 c3 c4 c5 C1 C2
        go_wp2_with fail
        exact ⟨⟨k + 1, by omega, by omega, by go_num, XE.out⟩, by simp [intOf]; omega⟩
    · have kI : ¬ ((k : Int) < n) := by omega
      go_wp2_with fail
      refine (orders_any _ X.out.gl).mono ?_
      rintro e w6 ⟨rfl, k6⟩
      have X6 := Lib.hid (X.out.low k6)
      clear X k6
      go_wp2_with fail
      go_loopw [37] (fun i wr => ∃ k : Nat, k ≤ 10 ∧ i = .int .i64 k ∧ XW w A n wr) (fun i _ => 10 - (intOf i).toNat)
      case atStart => exact ⟨0, Nat.zero_le _, rfl, X6.out⟩
      case round =>
        obtain ⟨k, hk, rfl, hx⟩ := hrel
        have X := Lib.hid hx
        clear X6 hx
        by_cases hlt : k < 10
        · have ix := fun w => ix38 k hlt w
          have IX := Lib.hid (fun j (hj : j < 16) w => ix37 k hlt j hj w)
          have RL := Lib.hid (orders_len k hlt)
          have OS := Lib.hid (fun w => order_any k hlt w)
          have SZ := ordS_size k hlt
          have DG := Lib.hid (fun j (hj : j < 16) h => ord_dig k hlt j hj h)
          generalize ordersL.getD k [] = row at *
          generalize ordS k = S at *
          have iR : Hid ((Tryd.prog.info? 37).map (·.size) = some (IL row).length) := show _ = _ by rw [IL.len, RL.out]; exact Tryd.i37
          have zR : Hid ((ZI 16).toArray.size = (IL row).length) := show _ = _ by rw [IL.len, RL.out]; rfl
          have oR := Lib.hid (IL.one row)
          go_wp2_with (first
            | ((with_reducible refine at_store (t := 37) ?_); refine wpList_store_blk _ rfl 37 _ _ rfl wr.heap.size (ZI 16).toArray 37 (IL row) rfl rfl (Blk.new wr 37 _) zR.out iR.out oR.out ?_; intro w7 hb7 ho7; have X7 := Lib.hid (X.out.low (((Below.refl _ wr).alloc (Nat.le_refl _) (.cells (ZI 16).toArray 37)).trans (ho7.below (Nat.le_refl _)))); have R7 := Lib.hid hb7; clear hb7 ho7 X; generalize wr.heap.size = gr at *)
            | ((with_reducible refine at_load (t := 37) ?_); refine wpList_load_mid rfl 37 _ rfl gr 0 rfl (IL row) _ R7.out.rng Tryd.underlying37 rfl iR.out ?_))
          clear ix R7
          go_loopw [42] (fun i wr => ∃ j : Nat, j ≤ 16 ∧ i = .int .i64 j ∧ XW w A n wr) (fun i _ => 16 - (intOf i).toNat)
          case atStart => exact ⟨0, Nat.zero_le _, rfl, X7.out⟩
          case round =>
            obtain ⟨j, hj, rfl, hx⟩ := hrel
            have X := Lib.hid hx
            clear X7 hx
            by_cases hlt2 : j < 16
            · have ix := fun w => IX.out j hlt2 w
              have hs : j < S.size := by omega
              have hd := Lib.hid (DG.out j hlt2 hs)
              have D18 := Lib.hid (fun w => digit_any ((S[j]).toNat : Int) (Int.natCast_nonneg _) (u8_le _) w)
              go_wp2_with (first
                | (go_at_call 19; refine (OS.out _).mono ?_; rintro e w8 ⟨rfl, rfl⟩)
                | (go_at_call 18; refine (D18.out _).mono ?_; rintro e w9 ⟨rfl, rfl⟩; rw [hd.out]))
              exact ⟨⟨j + 1, by omega, by go_num, X.out⟩, by simp [intOf]; omega⟩
            · obtain rfl : j = 16 := by omega
              go_wp2_with fail
              exact ⟨⟨k + 1, by omega, by go_num, X.out⟩, by simp [intOf]; omega⟩
        · obtain rfl : k = 10 := by omega
          go_wp2_with fail
          refine (start_any _ X.out.gl).mono ?_
          rintro e w8 ⟨rfl, k8⟩
          have X8 := Lib.hid (X.out.low k8)
          clear X k8
          go_wp2_with fail
          refine (refstart_any _).mono ?_
          rintro e w9 ⟨rfl, k9⟩
          have X9 := Lib.hid (X8.out.low k9)
          clear X8 k9
          have hq := eq42s
          go_wp2_with fail
          go_ret
          exact ⟨rfl, X9.out.below⟩

end Go.Proofs.YtanoocmdeonikaaDoor
