/-
  The law OctetReads, walked.
-/
import Derived.Test.YtbjillkdhjndpaaSays2
namespace Go.Proofs.Ytbjillkdhjndpaa
open Go.RowKit

/-- Where the reading stands: the Reader p over its bytes, the document's reader in block q over its own. -/
def RdSt (w : World) (p q : Nat) (A : Option Addr) (c : Nat) (A2 : Option Addr) (c2 n : Nat) (X : List Int) (k : Nat) (er : Int) (wr : World) : Prop :=
  Rd wr p k er A n c ∧ By wr p A n X ∧ Blk wr q 45 #[.slice A2 n c2, .int .i64 k, .int .i64 er] ∧ By wr q A2 n X ∧ Below w.heap.size w wr ∧ k ≤ n

theorem Own.store {w : World} {base g n c : Nat} {zs : List Int} (h : Own w base (some ⟨g, 0, none⟩) n c zs) (j : Nat) (v : Int) (hv : 0 ≤ v ∧ v ≤ 255) : Own (w.setCell ⟨g, j, none⟩ (.int .u8 v)) base (some ⟨g, 0, none⟩) n c (zs.set j v) := by
  refine ⟨by rw [List.map_set]; exact (h.1.stored j (.int .u8 v)).1, fun i => ?_⟩
  have := h.2 i
  simp only [List.getD, List.getElem?_set] at this ⊢
  split
  · split
    · exact hv
    · simp
  · exact this

theorem quiet_l {P : Program} {f : FuncId} {args : Array Value} {w : World} {n : Nat} {v : Value}
    (h : Calls P f args (w.drewN n) fun e w' => e = .returned v ∧ w.drewN n = w') : Calls P f args (w.drewN n) fun e w'' => e = .returned v ∧ ∃ m, w'' = w.drewN m :=
  h.mono fun _ _ hh => ⟨hh.1, n, hh.2.symm⟩

/-- A Reader's block holds no byte: what lies in bytes is not turned by a Reader's step. -/
theorem By.apart {w w' : World} {p n c B m : Nat} {k er k' er' : Int} {A A' : Option Addr} {zs : List Int} (h : By w B A' m zs) (hr : Rd w p k er A n c) (hm : Moved w p k' er' A n c w') : By w' B A' m zs :=
  ⟨h.1, h.2.1, fun hn => by
    obtain ⟨b, o, e, hb, hc⟩ := h.2.2 hn
    refine ⟨b, o, e, hb, fun j hj => ?_⟩
    have hj' := hc j hj
    have hne : b ≠ p := by
      rintro rfl
      rw [Blk.cell hr (o + j)] at hj'
      match ho : o + j with
      | 0 => rw [ho] at hj'; simp at hj'
      | 1 => rw [ho] at hj'; simp at hj'
      | 2 => rw [ho] at hj'; simp at hj'
      | i + 3 => rw [ho] at hj'; simp at hj'
    exact (World.cell?_of_block (hm.2.block b (World.block_lt_of_cell? w _ hj') (fun e => by injection e with e; exact hne e))).trans hj'⟩
/-- .. nor by a store into a block of another type. -/
theorem By.far {w : World} {q B m : Nat} {t : TypeId} {a b c : Value} {A' : Option Addr} {zs : List Int} (h : By w B A' m zs) (hk : Blk w q t #[a, b, c]) (ha : ∀ z, a ≠ .int .u8 z) (hb : ∀ z, b ≠ .int .u8 z) (hc : ∀ z, c ≠ .int .u8 z) (x y z : Value) (o : Obj) :
    By ((((w.setCell ⟨q, 0, none⟩ x).setCell ⟨q, 1, none⟩ y).setCell ⟨q, 2, none⟩ z).alloc o) B A' m zs :=
  ⟨h.1, h.2.1, fun hn => by
    obtain ⟨b', o', e, hb', hc'⟩ := h.2.2 hn
    refine ⟨b', o', e, hb', fun j hj => ?_⟩
    have hj' := hc' j hj
    have hne : b' ≠ q := by
      rintro rfl
      rw [Blk.cell hk (o' + j)] at hj'
      match ho : o' + j with
      | 0 => rw [ho] at hj'; simp at hj'; exact ha _ hj'
      | 1 => rw [ho] at hj'; simp at hj'; exact hb _ hj'
      | 2 => rw [ho] at hj'; simp at hj'; exact hc _ hj'
      | i + 3 => rw [ho] at hj'; simp at hj'
    refine Lib.cell?_alloc_some _ ?_
    rw [World.cell?_setCell_other _ _ _ _ (by intro e; injection e with e; exact hne e.symm), World.cell?_setCell_other _ _ _ _ (by intro e; injection e with e; exact hne e.symm), World.cell?_setCell_other _ _ _ _ (by intro e; injection e with e; exact hne e.symm)]
    exact hj'⟩

set_option maxRecDepth 100000 in
set_option maxHeartbeats 8000000 in
theorem reads_walk (A : Option Addr) (n c : Nat) (xs : List Int) (As : Option Addr) (ns cs : Nat) (w : World) (hx : By w w.heap.size A n xs) (hnc : n ≤ c) (hst : Steps w w.heap.size As ns) (_hns : ns ≤ 9223372036854775807) :
    Calls Try.prog 5 #[.slice A n c, .slice As ns cs] w fun e w' => e = .returned (.bool true) ∧ Below w.heap.size w w' := by
  go_enter Try.func5, Try.ntmps5
  go_wp2_with (go_at_call 11; refine (wakes_any _).mono ?_; rintro e w1 ⟨rfl, hB1⟩)
  refine (few_any A n c xs w1 w.heap.size (hx.below hB1) hnc).mono ?_
  rintro e w2 ⟨A2, c2, rfl, ho2, hb2⟩
  have hB2 := hB1.trans (hb2.mono hB1.size)
  have hx2 := hx.below hB2
  have bX := ho2.by
  have hcap := ho2.cap
  clear hx hB1 hb2 ho2
  go_wp2_with fail
  refine (read_new A2 (min n 300) c2 w2).mono ?_
  rintro e w3 ⟨rfl, hr3, hb3⟩
  have hB3 := hB2.trans (hb3.mono hB2.size)
  have hs3 := Blk.lt hr3
  have bX3 := bX.below hb3
  have hx3 := hx2.below (hb3.mono hB2.size)
  have hs2 := hB2.size
  clear hb3 bX hB2 hx2
  generalize w2.heap.size = p at *
  go_wp2_with fail
  refine (few_any A n c xs w3 w.heap.size hx3 hnc).mono ?_
  rintro e w4 ⟨A4, c4, rfl, ho4, hb4⟩
  have hB4 := hB3.trans (hb4.mono hB3.size)
  have hr4 := Blk.below hr3 hb4 hs3
  have bX4 := bX3.below (hb4.mono (Nat.le_of_lt hs3))
  have bY4 := ho4.by
  have hcap4 := ho4.cap
  have hs4 := hb4.size
  clear hb4 ho4 bX3 hB3 hr3 hx3
  have hX3 : min n 300 ≤ 300 := by omega
  generalize xs.take 300 = X at *
  generalize min n 300 = N at *
  have st0 : RdSt w p w4.heap.size A2 c2 A4 c4 N X 0 0 (w4.alloc (.cells #[.slice A4 N c4, .int .i64 0, .int .i64 0] 45)) :=
    ⟨Blk.alloc hr4 _, bX4.alloc (by omega) _, Blk.new w4 45 _, bY4.alloc (Nat.le_refl _) _, hB4.alloc hB4.size _, Nat.zero_le _⟩
  have hpq : p < w4.heap.size := by omega
  clear hr4 bX4 bY4 hB4 hs4 hs3
  go_wp2_with fail
  generalize w4.heap.size = q at *
  go_loopw [27] (fun i wr => ∃ j k er, j ≤ ns ∧ j ≤ 60 ∧ i = .int .i64 (j : Nat) ∧ RdSt w p q A2 c2 A4 c4 N X k er wr) (fun i _ => ns - (intOf i).toNat)
  case atStart => exact ⟨0, 0, 0, Nat.zero_le _, Nat.zero_le _, rfl, st0⟩
  case round =>
    clear st0
    obtain ⟨j, k, er, hj, hj6, rfl, hr, hbX, hk, hbY, hbel, hkN⟩ := hrel
    by_cases hlt : j < ns
    · obtain ⟨b, o, rfl, hbB, hc⟩ := (hst.below hbel) (by omega)
      obtain ⟨x, y, h1, h2⟩ := hc j hlt
      have hsz := hbel.size
      have hqs := Blk.lt hk
      clear hc
      by_cases h60 : j = 60
      · subst h60
        go_wp2
        go_ret
        exact ⟨rfl, hbel.alloc hsz _⟩
      · have hj60 : j < 60 := by omega
        clear h60
        obtain ⟨d, hd⟩ : ∃ d, (IntKind.u64.wrap x).tmod 8 = d := ⟨_, rfl⟩
        have HD := Lib.hid hd
        clear hd
        have HST := Lib.hid hst
        clear hst
        go_wp2_with fail
        refine (reads_any x y d p k er A2 N c2 X _ (Blk.alloc hr _) (hbX.alloc (by omega) _) hkN hcap (by omega) HD.out).mono ?_
        rintro e w5 ⟨Ag, cg, rfl, hog, hm5⟩
        have hr1 : Rd (wr.alloc (.cells #[.int .i64 x, .int .i64 y] 47)) p k er A2 N c2 := Blk.alloc hr _
        have hbx5 : Blk w5 wr.heap.size 47 #[.int .i64 x, .int .i64 y] := (hm5.2.block wr.heap.size (by simp) (fun e => by injection e with e; omega)).trans (Blk.new wr 47 _)
        have hk5 : Blk w5 q 45 #[.slice A4 N c4, .int .i64 k, .int .i64 er] := (hm5.2.block q (by simp; omega) (fun e => by injection e with e; omega)).trans (Blk.alloc hk _)
        have hbY5 := (hbY.alloc (Nat.le_of_lt hqs) (.cells #[.int .i64 x, .int .i64 y] 47)).apart hr1 hm5
        have hbX5 := (hbX.alloc (by omega) (.cells #[.int .i64 x, .int .i64 y] 47)).apart hr1 hm5
        have hr5 := hm5.1
        have hbel5 : Below w.heap.size w w5 := (hbel.alloc hsz _).trans (hm5.low (by simp; omega) hs2)
        have hs5 := hm5.2.size
        have hg5 : Own w5 (wr.heap.size + 1) Ag (sB X k er d y).length cg (sB X k er d y) := by simpa using hog
        rw [show (wr.alloc (.cells #[.int .i64 x, .int .i64 y] 47)).heap.size = wr.heap.size + 1 by simp] at hs5
        clear hog hm5 hr1 hk hbY hbX hr h1 h2
        have b0 : w5.cell? ⟨wr.heap.size, 0, none⟩ = some (.int .i64 x) := hbx5.cell 0
        have b1 : w5.cell? ⟨wr.heap.size, 1, none⟩ = some (.int .i64 y) := hbx5.cell 1
        have q0 : w5.cell? ⟨q, 0, none⟩ = some (.slice A4 N c4) := hk5.cell 0
        have q1 : w5.cell? ⟨q, 1, none⟩ = some (.int .i64 k) := hk5.cell 1
        have q2 : w5.cell? ⟨q, 2, none⟩ = some (.int .i64 er) := hk5.cell 2
        go_wp2_with fail
        refine (says_any x y d A4 N c4 X k er w5 q hbY5 (Nat.le_of_lt (Blk.lt hk5)) hkN hcap4 (by omega) HD.out).mono ?_
        rintro e w6 ⟨Aw, cw, rfl, hbw, hb6⟩
        have hkN' := sAt_le N k er d y hkN
        have hlG : Hid ((sB X k er d y).length ≤ 300) := show _ ≤ _ by
          have hX := hbX5.1
          unfold sB nBytes
          split
          · simp
          · split
            · split
              · rw [List.length_take, List.length_drop, hX]; omega
              · simp
            · simp
        generalize sAt N k er d y = k' at *
        generalize sErr N k er d y = er' at *
        generalize sX X k er d = x' at *
        generalize sB X k er d y = G at *
        have hk6 : Blk w6 q 45 #[.slice A4 N c4, .int .i64 k, .int .i64 er] := hk5.below hb6 (Blk.lt hk5)
        have hr6 : Rd w6 p k' er' A2 N c2 := Blk.below hr5 hb6 (Blk.lt hr5)
        have hbX6 := hbX5.below (hb6.mono (by omega))
        have hbY6 := hbY5.below (hb6.mono (by omega))
        have hg6 := hg5.below hb6
        have hbel6 := hbel5.trans (hb6.mono hbel5.size)
        have hs6 := hb6.size
        clear b0 b1 q0 q1 q2 hbx5 hk5 hr5 hbX5 hbY5 hg5 hbel5 hb6 hbel
        have q0 : w6.cell? ⟨q, 0, none⟩ = some (.slice A4 N c4) := hk6.cell 0
        have q1 : w6.cell? ⟨q, 1, none⟩ = some (.int .i64 k) := hk6.cell 1
        have q2 : w6.cell? ⟨q, 2, none⟩ = some (.int .i64 er) := hk6.cell 2
        have f0 := hk6.frozen 0
        have f1 := hk6.frozen 1
        have f2 := hk6.frozen 2
        have hq6 : q < w6.heap.size := Blk.lt hk6
        have S7 : ∀ o : Obj, RdSt w p q A2 c2 A4 c4 N X k' er' ((((w6.setCell ⟨q, 0, none⟩ (.slice A4 N c4)).setCell ⟨q, 1, none⟩ (.int .i64 k')).setCell ⟨q, 2, none⟩ (.int .i64 er')).alloc o) := fun o =>
          ⟨Blk.alloc (((Blk.far hr6 (p := ⟨q, 0, none⟩) (by simp; omega) _).far (p := ⟨q, 1, none⟩) (by simp; omega) _).far (p := ⟨q, 2, none⟩) (by simp; omega) _) _,
            hbX6.far hk6 (by simp) (by simp) (by simp) _ _ _ _, Blk.alloc (hk6.set3 _ _ _) _, hbY6.far hk6 (by simp) (by simp) (by simp) _ _ _ _,
            (((hbel6.setCell (p := ⟨q, 0, none⟩) (by simp; omega) _).setCell (p := ⟨q, 1, none⟩) (by simp; omega) _).setCell (p := ⟨q, 2, none⟩) (by simp; omega) _).alloc (by simp [World.setCell]; omega) _, hkN'⟩
        have G7 : ∀ o : Obj, Own ((((w6.setCell ⟨q, 0, none⟩ (.slice A4 N c4)).setCell ⟨q, 1, none⟩ (.int .i64 k')).setCell ⟨q, 2, none⟩ (.int .i64 er')).alloc o) (wr.heap.size + 1) Ag G.length cg G := fun o =>
          ⟨(ownsRow_setCell_below (ownsRow_setCell_below (ownsRow_setCell_below hg6.1 (a := ⟨q, 0, none⟩) (by simp; omega) _) (a := ⟨q, 1, none⟩) (by simp; omega) _) (a := ⟨q, 2, none⟩) (by simp; omega) _).alloc _, hg6.2⟩
        have W7 : ∀ o : Obj, By ((((w6.setCell ⟨q, 0, none⟩ (.slice A4 N c4)).setCell ⟨q, 1, none⟩ (.int .i64 k')).setCell ⟨q, 2, none⟩ (.int .i64 er')).alloc o) q Aw G.length G := fun o => hbw.far hk6 (by simp) (by simp) (by simp) _ _ _ _
        have HS7 := Lib.hid S7
        have HG7 := Lib.hid G7
        have HW7 := Lib.hid W7
        have hsz7 : w.heap.size ≤ w6.heap.size := hbel6.size
        clear S7 G7 W7 hbw hg6 hbel6 hr6 hbX6 hbY6 hk6
        go_wp2_with fail
        have S := HS7.out (.cells #[.slice A4 N c4, .int .i64 k', .int .i64 er'] 45)
        have GG := HG7.out (.cells #[.slice A4 N c4, .int .i64 k', .int .i64 er'] 45)
        have WW := HW7.out (.cells #[.slice A4 N c4, .int .i64 k', .int .i64 er'] 45)
        have hs7 : wr.heap.size + 1 ≤ ((((w6.setCell ⟨q, 0, none⟩ (.slice A4 N c4)).setCell ⟨q, 1, none⟩ (.int .i64 k')).setCell ⟨q, 2, none⟩ (.int .i64 er')).alloc (.cells #[.slice A4 N c4, .int .i64 k', .int .i64 er'] 45)).heap.size := by simp [World.setCell]; omega
        clear HS7 HG7 HW7 q0 q1 q2 f0 f1 f2
        generalize (((w6.setCell ⟨q, 0, none⟩ (.slice A4 N c4)).setCell ⟨q, 1, none⟩ (.int .i64 k')).setCell ⟨q, 2, none⟩ (.int .i64 er')).alloc (.cells #[.slice A4 N c4, .int .i64 k', .int .i64 er'] 45) = w7 at *
        have q0 : w7.cell? ⟨q, 0, none⟩ = some (.slice A4 N c4) := S.2.2.1.cell 0
        have q1 : w7.cell? ⟨q, 1, none⟩ = some (.int .i64 k') := S.2.2.1.cell 1
        have q2 : w7.cell? ⟨q, 2, none⟩ = some (.int .i64 er') := S.2.2.1.cell 2
        have bG := GG.by
        have hl3 := hlG.out
        have e1 : (x' != x') = false := by simp
        have e2 : (G == G) = true := by simp
        have e3 : ((k' : Int) != (k' : Int)) = false := by simp
        have e4 : ((N : Int) - k' != (N : Int) - k') = false := by simp
        have e5 : (er' != er') = false := by simp
        have hwr : IntKind.i64.wrap ((N : Int) - k') = (N : Int) - k' := IntWalk.i64_in _ (by omega)
        have HS := Lib.hid S
        have HGG := Lib.hid GG
        have HWW := Lib.hid WW
        have HbG := Lib.hid bG
        clear S GG WW bG
        go_quiet (first
          | (go_at_call 16; exact Calls.quiet_of (same_any Ag Aw G.length cg G.length cw G G _ w7.heap.size q (by exact HbG.out) (by exact HWW.out) (by omega) (by omega)))
          | (go_at_call 25; exact quiet_l (at_any p _ _ _ _ _ _ (by exact HS.out.1)))
          | (go_at_call 26; exact Calls.quiet_of (left_any p k' er' A2 N c2 _ (by exact HS.out.1) hkN' (by omega)))
          | (go_at_call 27; exact quiet_l (err_any p _ _ _ _ _ _ (by exact HS.out.1))))
        have S8 : RdSt w p q A2 c2 A4 c4 N X k' er' (w7.drewN nq) := ⟨HS.out.1, HS.out.2.1, HS.out.2.2.1, HS.out.2.2.2.1, ⟨HS.out.2.2.2.2.1.os, HS.out.2.2.2.2.1.tape, HS.out.2.2.2.2.1.output, HS.out.2.2.2.2.1.size, HS.out.2.2.2.2.1.block⟩, HS.out.2.2.2.2.2⟩
        have G8 : Own (w7.drewN nq) (wr.heap.size + 1) Ag G.length cg G := HGG.out
        have hs8 : wr.heap.size + 1 ≤ (w7.drewN nq).heap.size := hs7
        clear HS HGG HWW HbG q0 q1 q2 e1 e2 e3 e4 e5 hwr hs7
        generalize w7.drewN nq = w8 at *
        generalize G.length = L at *
        go_wp2_with fail
        go_loopw [84] (fun i wi => ∃ t G', t ≤ L ∧ i = .int .i64 (t : Nat) ∧ Own wi (wr.heap.size + 1) Ag L cg G' ∧ Below (wr.heap.size + 1) w8 wi) (fun i _ => L - (intOf i).toNat)
        case atStart => exact ⟨0, G, Nat.zero_le _, rfl, G8, Below.refl _ _⟩
        case round =>
          clear G8
          obtain ⟨t, G', ht, rfl, hoG, hbi⟩ := hrel
          by_cases hlt' : t < L
          · rcases hoG.form with ⟨_, h0, _⟩ | ⟨g, hA, hgb, hgs, _⟩
            · omega
            · subst hA
              have hcell := hoG.at_ rfl t hlt'
              have hfr := hoG.1.frozenAt t
              have hz := hoG.2 t
              have hst' := Lib.hid hoG
              clear hoG
              generalize hz' : G'.getD t 0 = z at *
              clear hz'
              go_wp2
              go_roundw
              case rel => exact ⟨t + 1, _, by omega, by go_num, hst'.out.store t ((z + 1) % 256) (by omega), hbi.setCell (by simp; omega) _⟩
              case measure => simp [intOf]; omega
          · have hbXi := S8.2.1.below (hbi.mono (by omega))
            have hbYi := S8.2.2.2.1.below (hbi.mono (by omega))
            have hki : Blk _ q 45 #[.slice A4 N c4, .int .i64 k', .int .i64 er'] := S8.2.2.1.below hbi (by omega)
            have hri : Rd _ p k' er' A2 N c2 := Blk.below S8.1 hbi (by omega)
            have hbeli := S8.2.2.2.2.1.trans (hbi.mono (by omega))
            clear S8 hoG hbi
            have q0 := hki.cell 0
            simp only [List.getElem?_toArray, List.getElem?_cons_zero] at q0
            have eX : (X == X) = true := by simp
            go_wp2_with (go_at_call 16; refine (same_any A2 A4 N c2 N c4 X X _ p q hbXi hbYi (by omega) (by omega)).mono ?_; rintro e w9 ⟨rfl, r9, rfl⟩)
            go_roundw
            case rel => exact ⟨j + 1, k', er', by omega, by omega, by go_num, hri, hbXi, hki, hbYi, ⟨hbeli.os, hbeli.tape, hbeli.output, hbeli.size, hbeli.block⟩, hkN'⟩
            case measure => simp [intOf]; omega
    · go_wp2
      go_ret
      exact ⟨rfl, hbel⟩

end Go.Proofs.Ytbjillkdhjndpaa
