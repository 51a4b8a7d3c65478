/-
  Which logs may be, and are the same, of every row of logs: the law LogMay.
-/
import Derived.Test.YtmgaihdepglahaaK4
import Derived.Deep.CutRange
namespace Go.Proofs.Ytmgaihdepglahaa
open Go.RowKit
attribute [local go_sem ↓] eqA neA eqGA field1

/-- A log as it came in. -/
structure Gc where
  bi : Int
  bt : Int
  A : Option Addr
  n : Nat
  c : Nat
  xs : List Ec
def Gc.cs (x : Gc) : List Value := [.int .u64 x.bi, .int .u64 x.bt, .slice x.A x.n x.c]
def rowG : List Gc → List Value
  | [] => []
  | x :: r => x.cs ++ rowG r
theorem rowG_at : ∀ (xs : List Gc) (j i : Nat) (x : Gc), xs[j]? = some x → i < 3 → (rowG xs)[j * 3 + i]? = x.cs[i]?
  | [], j, _, _, h, _ => by simp at h
  | y :: r, 0, i, x, h, hi => by
    rw [List.getElem?_cons_zero, Option.some.injEq] at h
    subst h
    rw [rowG, Nat.zero_mul, Nat.zero_add, List.getElem?_append_left (by show i < 3; exact hi)]
  | y :: r, j + 1, i, x, h, hi => by
    rw [List.getElem?_cons_succ] at h
    have hl : y.cs.length = 3 := rfl
    rw [rowG, List.getElem?_append_right (by rw [hl]; omega), hl, show (j + 1) * 3 + i - 3 = j * 3 + i by omega]
    exact rowG_at r j i x h hi
structure Gc.raw (w : World) (B : Nat) (x : Gc) : Prop where
  es : Ein w B x.A x.n x.xs
  bi0 : 0 ≤ x.bi
  bi1 : x.bi < 18446744073709551616
  bt0 : 0 ≤ x.bt
  bt1 : x.bt < 18446744073709551616
theorem Gc.raw.below {w w' : World} {B : Nat} {x : Gc} (h : x.raw w B) (hb : Below B w w') : x.raw w' B := ⟨h.es.below hb, h.bi0, h.bi1, h.bt0, h.bt1⟩
/-- Logs as they came in. -/
def Gin (w : World) (B : Nat) (A : Option Addr) (n : Nat) (gs : List Gc) : Prop :=
  gs.length = n ∧ (∀ g ∈ gs, g.raw w B) ∧ (0 < n → ∃ b o, A = some ⟨b, o, none⟩ ∧ b < B ∧ w.rangeAt b o (rowG gs))
theorem Gin.at_ {w w' : World} {B n j : Nat} {b o : Nat} {gs : List Gc} (h : Gin w B (some ⟨b, o, none⟩) n gs) (hj : j < n) (hb : Below B w w') : ∃ x, gs[j]? = some x ∧ x.raw w' B ∧ b < B ∧ w'.cell? ⟨b, o + j * 3, none⟩ = some (.int .u64 x.bi) ∧ w'.cell? ⟨b, o + j * 3 + 1, none⟩ = some (.int .u64 x.bt) ∧ w'.cell? ⟨b, o + j * 3 + 2, none⟩ = some (.slice x.A x.n x.c) := by
  obtain ⟨h1, h2, h3⟩ := h
  obtain ⟨b', o', e, hbl, hc⟩ := h3 (by omega)
  injection e with e
  injection e with e1 e2 _
  subst e1 e2
  have hx : gs[j]? = some (gs[j]'(by omega)) := List.getElem?_eq_getElem _
  generalize gs[j]'(by omega) = x at hx
  have hr : ∀ i v, x.cs[i]? = some v → w'.cell? ⟨b, o + j * 3 + i, none⟩ = some v := fun i v hi => by
    rw [Nat.add_assoc]
    exact (hb.cell (p := ⟨b, o + (j * 3 + i), none⟩) hbl).trans (hc _ _ ((rowG_at gs j i _ hx (List.getElem?_eq_some_iff.1 hi).1).trans hi))
  exact ⟨x, hx, (h2 x (List.mem_of_getElem? hx)).below hb, hbl, hr 0 _ rfl, hr 1 _ rfl, hr 2 _ rfl⟩
theorem Eo.lr {w : World} {base n c : Nat} {A : Option Addr} {l : Lg} (h : Eo w base A n c l.es) (hn : l.es.length ≤ 1000) (h1 : 0 ≤ l.bi) (h2 : l.bi < 18446744073709551616) (h3 : 0 ≤ l.bt) (h4 : l.bt < 18446744073709551616) : Lr w w.heap.size A n c l :=
  ⟨h.read, h.cap, h.nil, by rw [← h.len]; exact hn, h1, h2, h3, h4⟩

set_option linter.unusedSimpArgs false in
set_option maxRecDepth 100000 in
set_option maxHeartbeats 8000000 in
theorem may_walk (A : Option Addr) (n c B : Nat) (gs : List Gc) (top : Int) (w : World) (h : Gin w B A n gs) (hB : B ≤ w.heap.size) :
    Calls Try.prog 6 #[.slice A n c, .int .u64 top] w fun e w' => e = .returned (.bool true) ∧ Below w.heap.size w w' := by
  have H := Lib.hid h
  clear h
  go_enter Try.func6, Try.ntmps6
  go_wp2_with (go_at_call 10; refine (wakes_any _).mono ?_; rintro e w0 ⟨rfl, hb0⟩)
  go_loopw [14] (fun i wr => ∃ k : Nat, k ≤ n ∧ k ≤ 12 ∧ i = .int .i64 k ∧ Below w.heap.size w wr) (fun i _ => n - (intOf i).toNat)
  case atStart => exact ⟨0, Nat.zero_le _, Nat.zero_le _, rfl, hb0⟩
  case round =>
    obtain ⟨k, hk, hk12, rfl, hb⟩ := hrel
    by_cases hlt : k < n
    · obtain ⟨b, o, rfl⟩ : ∃ b o, A = some ⟨b, o, none⟩ := by
        obtain ⟨b, o, e, _⟩ := H.out.2.2 (by omega)
        exact ⟨b, o, e⟩
      obtain ⟨x, hx, hraw, hbB, c0, c1, c2⟩ := H.out.at_ hlt (hb.mono hB)
      obtain ⟨y, hy, hrawy, _, d0, d1, d2⟩ := H.out.at_ (show 0 < n by omega) (hb.mono hB)
      rw [Nat.zero_mul, Nat.add_zero] at d0 d1 d2
      obtain ⟨gi, gt, gA, gn, gc, gxs⟩ := x
      obtain ⟨yi, yt, yA, yn, yc, yxs⟩ := y
      have HBW := Lib.hid hb
      have k0 : (0 : Int) ≤ (k : Int) := by omega
      have hbr : b < wr.heap.size := by have := hb.size; omega
      by_cases h12 : k = 12
      · subst h12
        clear hraw hrawy hx hy hb d0 d1 d2
        simp only at c0 c1 c2
        go_wp2
        go_ret
        exact ⟨rfl, HBW.out.alloc HBW.out.size _⟩
      · have h12' : ((k : Int) == 12) = false := by simp; omega
        have hk11 : k + 1 ≤ 12 := by omega
        have GX : Hid (Ein w B gA gn gxs) := by
          obtain ⟨x', hx', hr', _⟩ := H.out.at_ hlt (Below.refl _ w)
          rw [hx] at hx'
          injection hx' with hx'
          subst hx'
          exact hr'.es
        have GY : Hid (Ein w B yA yn yxs) := by
          obtain ⟨x', hx', hr', _⟩ := H.out.at_ (show 0 < n by omega) (Below.refl _ w)
          rw [hy] at hx'
          injection hx' with hx'
          subst hx'
          exact hr'.es
        have XB := Lib.hid (show 0 ≤ gi ∧ gi < 18446744073709551616 ∧ 0 ≤ gt ∧ gt < 18446744073709551616 from ⟨hraw.bi0, hraw.bi1, hraw.bt0, hraw.bt1⟩)
        have YB := Lib.hid (show 0 ≤ yi ∧ yi < 18446744073709551616 ∧ 0 ≤ yt ∧ yt < 18446744073709551616 from ⟨hrawy.bi0, hrawy.bi1, hrawy.bt0, hrawy.bt1⟩)
        have DY := Lib.hid (show w.cell? ⟨b, o, none⟩ = some (.int .u64 yi) ∧ w.cell? ⟨b, o + 1, none⟩ = some (.int .u64 yt) ∧ w.cell? ⟨b, o + 2, none⟩ = some (.slice yA yn yc) from
          ⟨(hb.cell (p := ⟨b, o, none⟩) (show b < w.heap.size by omega)).symm.trans d0, (hb.cell (p := ⟨b, o + 1, none⟩) (show b < w.heap.size by omega)).symm.trans d1, (hb.cell (p := ⟨b, o + 2, none⟩) (show b < w.heap.size by omega)).symm.trans d2⟩)
        have BW := Lib.hid (show b < w.heap.size by omega)
        have KL := Lib.hid (And.intro hk11 hlt)
        have n0 : 0 < n := by omega
        clear hraw hrawy hx hy hb h12 d0 d1 d2
        simp only at c0 c1 c2
        go_wp2
        have HD : Hid (∀ W, Blk W wr.heap.size 27 #[.int .u64 gi, .int .u64 gt, .slice gA gn gc] → Below w.heap.size w W → (W.cell? ⟨wr.heap.size, 0, none⟩ = some (.int .u64 gi) ∧ W.cell? ⟨wr.heap.size, 1, none⟩ = some (.int .u64 gt) ∧ W.cell? ⟨wr.heap.size, 2, none⟩ = some (.slice gA gn gc)) ∧ W.cell? ⟨b, o, none⟩ = some (.int .u64 yi) ∧ W.cell? ⟨b, o + 1, none⟩ = some (.int .u64 yt) ∧ W.cell? ⟨b, o + 2, none⟩ = some (.slice yA yn yc)) := Lib.hid (fun W h1 h2 =>
          ⟨⟨h1.cell 0, h1.cell 1, h1.cell 2⟩, (h2.cell (p := ⟨b, o, none⟩) BW.out).trans DY.out.1, (h2.cell (p := ⟨b, o + 1, none⟩) BW.out).trans DY.out.2.1, (h2.cell (p := ⟨b, o + 2, none⟩) BW.out).trans DY.out.2.2⟩)
        have B62 : Hid (Blk (wr.alloc (.cells #[.int .u64 gi, .int .u64 gt, .slice gA gn gc] 27)).drew wr.heap.size 27 #[.int .u64 gi, .int .u64 gt, .slice gA gn gc]) := Lib.hid ((Blk.new wr 27 _).drewN 1)
        have HB2 := Lib.hid (show Below w.heap.size w (wr.alloc (.cells #[.int .u64 gi, .int .u64 gt, .slice gA gn gc] 27)).drew from (HBW.out.alloc HBW.out.size _).drew)
        have hS0 := HD.out _ B62.out HB2.out
        clear c0 c1 c2
        go_cut [7, 8, 14] from 14 to 58 (fun v7 v8 v14 wx => v14 = .int .i64 (k : Int) ∧ ∃ p7 p8 Ax nx cx Ay ny cy, v7 = .pointer (some ⟨p7, 0, none⟩) ∧ v8 = .pointer (some ⟨p8, 0, none⟩) ∧ Blk wx p7 27 #[.int .u64 (fewG gi gt (gxs.map Ec.en)).bi, .int .u64 (fewG gi gt (gxs.map Ec.en)).bt, .slice Ax nx cx] ∧ Blk wx p8 27 #[.int .u64 (fewG yi yt (yxs.map Ec.en)).bi, .int .u64 (fewG yi yt (yxs.map Ec.en)).bt, .slice Ay ny cy] ∧ Eo wx w.heap.size Ax nx cx (fewG gi gt (gxs.map Ec.en)).es ∧ Eo wx w.heap.size Ay ny cy (fewG yi yt (yxs.map Ec.en)).es ∧ Below w.heap.size w wx)
        case first =>
          refine wp_region_noPanic ?_
          refine wp_region_held_drew (S := fun w' => (w'.cell? ⟨wr.heap.size, 0, none⟩ = some (.int .u64 gi) ∧ w'.cell? ⟨wr.heap.size, 1, none⟩ = some (.int .u64 gt) ∧ w'.cell? ⟨wr.heap.size, 2, none⟩ = some (.slice gA gn gc)) ∧ w'.cell? ⟨b, o, none⟩ = some (.int .u64 yi) ∧ w'.cell? ⟨b, o + 1, none⟩ = some (.int .u64 yt) ∧ w'.cell? ⟨b, o + 2, none⟩ = some (.slice yA yn yc)) (by kernel_rfl) hS0 (fun hHeld => ?_)
          generalize (wr.alloc (.cells #[.int .u64 gi, .int .u64 gt, .slice gA gn gc] 27)).drew = w2 at *
          refine take_d (i := 0) (d := 21) (v := ?c21) rfl rfl (by kernel_rfl) (by kernel_rfl) (by kernel_rfl) (fun _ _ _ h => h) (Or.inl ⟨by kernel_rfl, ?c21h⟩) hHeld ?c21n
          case c21h => (intro w hSw; (try dsimp only at hSw); go_split_ands; go_simp; (try exact rfl))
          try simp only [Act.put, List.setIfInBounds_toArray, List.set_cons_zero, List.set_cons_succ]
          refine take_d (i := 2) (d := 23) (v := ?c23) rfl rfl (by kernel_rfl) (by kernel_rfl) (by kernel_rfl) (fun _ _ _ h => h) (Or.inl ⟨by kernel_rfl, ?c23h⟩) hHeld ?c23n
          case c23h => (intro w hSw; (try dsimp only at hSw); go_split_ands; go_simp; (try exact rfl))
          try simp only [Act.put, List.setIfInBounds_toArray, List.set_cons_zero, List.set_cons_succ]
          refine take_d (i := 3) (d := 24) (v := ?c24) rfl rfl (by kernel_rfl) (by kernel_rfl) (by kernel_rfl) (fun _ _ _ h => h) (Or.inl ⟨by kernel_rfl, ?c24h⟩) hHeld ?c24n
          case c24h => (intro w hSw; (try dsimp only at hSw); go_split_ands; go_simp; (try exact rfl))
          try simp only [Act.put, List.setIfInBounds_toArray, List.set_cons_zero, List.set_cons_succ]
          refine take_d (i := 4) (d := 25) (v := ?c25) rfl rfl (by kernel_rfl) (by kernel_rfl) (by kernel_rfl) (fun _ _ _ h => h) (Or.inl ⟨by kernel_rfl, ?c25h⟩) hHeld ?c25n
          case c25h => (intro w hSw; (try dsimp only at hSw); go_split_ands; go_simp; (try exact rfl))
          try simp only [Act.put, List.setIfInBounds_toArray, List.set_cons_zero, List.set_cons_succ]
          refine wpAnyH_ready (rs := [1, 6, 7]) (by kernel_rfl) (by simp) ?_
          refine AllReadyH.cons rfl (fun K hK => ?_) (AllReadyH.cons rfl (fun K hK => ?_) (AllReadyH.cons rfl (fun K hK => ?_) AllReadyH.nil))
          · skip
            go_simp
            refine (own_any gi gt gA gn gc B gxs _ (GX.out.below (HB2.out.mono hB)) (Nat.le_trans hB HB2.out.size)).mono ?_
            rintro e w3 ⟨Ax, nx, cx, rfl, ho, hb⟩
            have B63 := Lib.hid (B62.out.below hb B62.out.lt)
            have HB3 := Lib.hid (HB2.out.trans (hb.mono HB2.out.size))
            have HO3 := Lib.hid (ho.down HB2.out.size)
            clear ho hb
            refine hK.out _ _ (HD.out _ B63.out HB3.out) (fun hHeld => ?_)
            clear hK K
            try simp only [Act.put, List.setIfInBounds_toArray, List.set_cons_zero, List.set_cons_succ]
            refine wpAnyH_ready (rs := [5, 6, 7]) (by kernel_rfl) (by simp) ?_
            refine AllReadyH.cons rfl (fun K hK => ?_) (AllReadyH.cons rfl (fun K hK => ?_) (AllReadyH.cons rfl (fun K hK => ?_) AllReadyH.nil))
            · skip
              go_simp
              refine (own_any yi yt yA yn yc B yxs _ (GY.out.below (HB3.out.mono hB)) (Nat.le_trans hB HB3.out.size)).mono ?_
              rintro e w4 ⟨Ay, ny, cy, rfl, ho, hb⟩
              have B64 := Lib.hid (B63.out.below hb B63.out.lt)
              have HO4 := Lib.hid (Eo.below HO3.out hb)
              have HB4 := Lib.hid (HB3.out.trans (hb.mono HB3.out.size))
              have HY4 := Lib.hid (ho.down HB3.out.size)
              clear ho hb
              refine hK.out _ _ (HD.out _ B64.out HB4.out) (fun hHeld => ?_)
              clear hK K
              try simp only [Act.put, List.setIfInBounds_toArray, List.set_cons_zero, List.set_cons_succ]
              refine wpAnyH_ready (rs := [6, 7]) (by kernel_rfl) (by simp) ?_
              refine AllReadyH.cons rfl (fun K hK => ?_) (AllReadyH.cons rfl (fun K hK => ?_) AllReadyH.nil)
              · skip
                go_simp
                have hb : Below w4.heap.size w4 (w4.alloc (.cells #[.int .u64 0, .int .u64 0, .slice none 0 0] 27)) := (Below.refl _ _).alloc (Nat.le_refl _) _
                refine hK.out _ _ (HD.out _ (B64.out.below hb B64.out.lt) (HB4.out.trans (hb.mono HB4.out.size))) (fun hHeld => ?_)
                clear hK K
                have B65 := Lib.hid (B64.out.below hb B64.out.lt)
                have HO5 := Lib.hid (Eo.below HO4.out hb)
                have HY5 := Lib.hid (Eo.below HY4.out hb)
                have HB5 := Lib.hid (HB4.out.trans (hb.mono HB4.out.size))
                have B75 : Hid (Blk (w4.alloc (.cells #[.int .u64 0, .int .u64 0, .slice none 0 0] 27)) w4.heap.size 27 #[.int .u64 0, .int .u64 0, .slice none 0 0]) := Lib.hid (Blk.new _ _ _)
                have P7 := Lib.hid HB4.out.size
                have N67 := Lib.hid (show wr.heap.size < w4.heap.size from B64.out.lt)
                clear hb
                generalize (w4.alloc (.cells #[.int .u64 0, .int .u64 0, .slice none 0 0] 27)) = w5 at *
                generalize w4.heap.size = p7 at *
                try simp only [Act.put, List.setIfInBounds_toArray, List.set_cons_zero, List.set_cons_succ]
                refine wpAnyH_ready (rs := [7]) (by kernel_rfl) (by simp) ?_
                refine AllReadyH.cons rfl (fun K hK => ?_) AllReadyH.nil
                go_simp
                have hb : Below w5.heap.size w5 (w5.alloc (.cells #[.int .u64 0, .int .u64 0, .slice none 0 0] 27)) := (Below.refl _ _).alloc (Nat.le_refl _) _
                refine hK.out _ _ (HD.out _ (B65.out.below hb B65.out.lt) (HB5.out.trans (hb.mono HB5.out.size))) (fun hHeld => ?_)
                clear hK K
                have B66 := Lib.hid (B65.out.below hb B65.out.lt)
                have HO6 := Lib.hid (Eo.below HO5.out hb)
                have HY6 := Lib.hid (Eo.below HY5.out hb)
                have B76 := Lib.hid (B75.out.below hb B75.out.lt)
                have HB6 := Lib.hid (HB5.out.trans (hb.mono HB5.out.size))
                have B86 : Hid (Blk (w5.alloc (.cells #[.int .u64 0, .int .u64 0, .slice none 0 0] 27)) w5.heap.size 27 #[.int .u64 0, .int .u64 0, .slice none 0 0]) := Lib.hid (Blk.new _ _ _)
                have P8 := Lib.hid HB5.out.size
                have N68 := Lib.hid (show wr.heap.size < w5.heap.size from B65.out.lt)
                have N78 : Hid (p7 ≠ w5.heap.size) := Lib.hid (by have := B75.out.lt; omega)
                clear hb
                generalize (w5.alloc (.cells #[.int .u64 0, .int .u64 0, .slice none 0 0] 27)) = w6 at *
                generalize w5.heap.size = p8 at *
                try simp only [Act.put, List.setIfInBounds_toArray, List.set_cons_zero, List.set_cons_succ]
                refine wpAnyH_ready (rs := [8]) (by kernel_rfl) (by simp) ?_
                refine AllReadyH.cons rfl (fun K hK => ?_) AllReadyH.nil
                refine wp_store_blk 27 _ _ rfl p7 #[.int .u64 0, .int .u64 0, .slice none 0 0] 27 [.int .u64 (fewG gi gt (gxs.map Ec.en)).bi, .int .u64 (fewG gi gt (gxs.map Ec.en)).bt, .slice Ax nx cx] rfl rfl B76.out rfl Try.i27 (by simp [Value.oneCell']) ?_
                intro w7 hb ho
                have B77 := Lib.hid hb
                have B87 := Lib.hid (ho.keep B86.out (fun e => N78.out e.symm))
                have B67 := Lib.hid (ho.keep B66.out (by have := N67.out; omega))
                have HO7 := Lib.hid (HO6.out.only27 B76.out ho)
                have HY7 := Lib.hid (HY6.out.only27 B76.out ho)
                have HB7 := Lib.hid (HB6.out.trans (ho.below P7.out))
                clear hb ho
                refine hK.out _ _ (HD.out _ B67.out HB7.out) (fun hHeld => ?_)
                clear hK K
                try simp only [Act.put, List.setIfInBounds_toArray, List.set_cons_zero, List.set_cons_succ]
                refine wpAnyH_ready (rs := [9]) (by kernel_rfl) (by simp) ?_
                refine AllReadyH.cons rfl (fun K hK => ?_) AllReadyH.nil
                refine wp_store_blk 27 _ _ rfl p8 #[.int .u64 0, .int .u64 0, .slice none 0 0] 27 [.int .u64 (fewG yi yt (yxs.map Ec.en)).bi, .int .u64 (fewG yi yt (yxs.map Ec.en)).bt, .slice Ay ny cy] rfl rfl B87.out rfl Try.i27 (by simp [Value.oneCell']) ?_
                intro w8 hb ho
                have B88 := Lib.hid hb
                have B78 := Lib.hid (ho.keep B77.out N78.out)
                have B68 := Lib.hid (ho.keep B67.out (by have := N68.out; omega))
                have HO8 := Lib.hid (HO7.out.only27 B87.out ho)
                have HY8 := Lib.hid (HY7.out.only27 B87.out ho)
                have HB8 := Lib.hid (HB7.out.trans (ho.below P8.out))
                clear hb ho
                refine hK.out _ _ (HD.out _ B68.out HB8.out) (fun hHeld => ?_)
                clear hK K
                try simp only [Act.put, List.setIfInBounds_toArray, List.set_cons_zero, List.set_cons_succ]
                refine wpAnyH_done (by kernel_rfl) ?_ _
                refine NoPanic.normal ?_
                go_wp2_with fail
                go_meet
                case rel => exact ⟨rfl, p7, p8, Ax, nx, cx, Ay, ny, cy, rfl, rfl, B78.out, B88.out, HO8.out, HY8.out, HB8.out⟩
              · skip
                go_simp
                have hb : Below w4.heap.size w4 (w4.alloc (.cells #[.int .u64 0, .int .u64 0, .slice none 0 0] 27)) := (Below.refl _ _).alloc (Nat.le_refl _) _
                refine hK.out _ _ (HD.out _ (B64.out.below hb B64.out.lt) (HB4.out.trans (hb.mono HB4.out.size))) (fun hHeld => ?_)
                clear hK K
                have B65 := Lib.hid (B64.out.below hb B64.out.lt)
                have HO5 := Lib.hid (Eo.below HO4.out hb)
                have HY5 := Lib.hid (Eo.below HY4.out hb)
                have HB5 := Lib.hid (HB4.out.trans (hb.mono HB4.out.size))
                have B85 : Hid (Blk (w4.alloc (.cells #[.int .u64 0, .int .u64 0, .slice none 0 0] 27)) w4.heap.size 27 #[.int .u64 0, .int .u64 0, .slice none 0 0]) := Lib.hid (Blk.new _ _ _)
                have P8 := Lib.hid HB4.out.size
                have N68 := Lib.hid (show wr.heap.size < w4.heap.size from B64.out.lt)
                clear hb
                generalize (w4.alloc (.cells #[.int .u64 0, .int .u64 0, .slice none 0 0] 27)) = w5 at *
                generalize w4.heap.size = p8 at *
                try simp only [Act.put, List.setIfInBounds_toArray, List.set_cons_zero, List.set_cons_succ]
                refine wpAnyH_ready (rs := [6]) (by kernel_rfl) (by simp) ?_
                refine AllReadyH.cons rfl (fun K hK => ?_) AllReadyH.nil
                go_simp
                have hb : Below w5.heap.size w5 (w5.alloc (.cells #[.int .u64 0, .int .u64 0, .slice none 0 0] 27)) := (Below.refl _ _).alloc (Nat.le_refl _) _
                refine hK.out _ _ (HD.out _ (B65.out.below hb B65.out.lt) (HB5.out.trans (hb.mono HB5.out.size))) (fun hHeld => ?_)
                clear hK K
                have B66 := Lib.hid (B65.out.below hb B65.out.lt)
                have HO6 := Lib.hid (Eo.below HO5.out hb)
                have HY6 := Lib.hid (Eo.below HY5.out hb)
                have B86 := Lib.hid (B85.out.below hb B85.out.lt)
                have HB6 := Lib.hid (HB5.out.trans (hb.mono HB5.out.size))
                have B76 : Hid (Blk (w5.alloc (.cells #[.int .u64 0, .int .u64 0, .slice none 0 0] 27)) w5.heap.size 27 #[.int .u64 0, .int .u64 0, .slice none 0 0]) := Lib.hid (Blk.new _ _ _)
                have P7 := Lib.hid HB5.out.size
                have N67 := Lib.hid (show wr.heap.size < w5.heap.size from B65.out.lt)
                have N78 : Hid (w5.heap.size ≠ p8) := Lib.hid (by have := B85.out.lt; omega)
                clear hb
                generalize (w5.alloc (.cells #[.int .u64 0, .int .u64 0, .slice none 0 0] 27)) = w6 at *
                generalize w5.heap.size = p7 at *
                try simp only [Act.put, List.setIfInBounds_toArray, List.set_cons_zero, List.set_cons_succ]
                refine wpAnyH_ready (rs := [8]) (by kernel_rfl) (by simp) ?_
                refine AllReadyH.cons rfl (fun K hK => ?_) AllReadyH.nil
                refine wp_store_blk 27 _ _ rfl p7 #[.int .u64 0, .int .u64 0, .slice none 0 0] 27 [.int .u64 (fewG gi gt (gxs.map Ec.en)).bi, .int .u64 (fewG gi gt (gxs.map Ec.en)).bt, .slice Ax nx cx] rfl rfl B76.out rfl Try.i27 (by simp [Value.oneCell']) ?_
                intro w7 hb ho
                have B77 := Lib.hid hb
                have B87 := Lib.hid (ho.keep B86.out (fun e => N78.out e.symm))
                have B67 := Lib.hid (ho.keep B66.out (by have := N67.out; omega))
                have HO7 := Lib.hid (HO6.out.only27 B76.out ho)
                have HY7 := Lib.hid (HY6.out.only27 B76.out ho)
                have HB7 := Lib.hid (HB6.out.trans (ho.below P7.out))
                clear hb ho
                refine hK.out _ _ (HD.out _ B67.out HB7.out) (fun hHeld => ?_)
                clear hK K
                try simp only [Act.put, List.setIfInBounds_toArray, List.set_cons_zero, List.set_cons_succ]
                refine wpAnyH_ready (rs := [9]) (by kernel_rfl) (by simp) ?_
                refine AllReadyH.cons rfl (fun K hK => ?_) AllReadyH.nil
                refine wp_store_blk 27 _ _ rfl p8 #[.int .u64 0, .int .u64 0, .slice none 0 0] 27 [.int .u64 (fewG yi yt (yxs.map Ec.en)).bi, .int .u64 (fewG yi yt (yxs.map Ec.en)).bt, .slice Ay ny cy] rfl rfl B87.out rfl Try.i27 (by simp [Value.oneCell']) ?_
                intro w8 hb ho
                have B88 := Lib.hid hb
                have B78 := Lib.hid (ho.keep B77.out N78.out)
                have B68 := Lib.hid (ho.keep B67.out (by have := N68.out; omega))
                have HO8 := Lib.hid (HO7.out.only27 B87.out ho)
                have HY8 := Lib.hid (HY7.out.only27 B87.out ho)
                have HB8 := Lib.hid (HB7.out.trans (ho.below P8.out))
                clear hb ho
                refine hK.out _ _ (HD.out _ B68.out HB8.out) (fun hHeld => ?_)
                clear hK K
                try simp only [Act.put, List.setIfInBounds_toArray, List.set_cons_zero, List.set_cons_succ]
                refine wpAnyH_done (by kernel_rfl) ?_ _
                refine NoPanic.normal ?_
                go_wp2_with fail
                go_meet
                case rel => exact ⟨rfl, p7, p8, Ax, nx, cx, Ay, ny, cy, rfl, rfl, B78.out, B88.out, HO8.out, HY8.out, HB8.out⟩
            · skip
              go_simp
              have hb : Below w3.heap.size w3 (w3.alloc (.cells #[.int .u64 0, .int .u64 0, .slice none 0 0] 27)) := (Below.refl _ _).alloc (Nat.le_refl _) _
              refine hK.out _ _ (HD.out _ (B63.out.below hb B63.out.lt) (HB3.out.trans (hb.mono HB3.out.size))) (fun hHeld => ?_)
              clear hK K
              have B64 := Lib.hid (B63.out.below hb B63.out.lt)
              have HO4 := Lib.hid (Eo.below HO3.out hb)
              have HB4 := Lib.hid (HB3.out.trans (hb.mono HB3.out.size))
              have B74 : Hid (Blk (w3.alloc (.cells #[.int .u64 0, .int .u64 0, .slice none 0 0] 27)) w3.heap.size 27 #[.int .u64 0, .int .u64 0, .slice none 0 0]) := Lib.hid (Blk.new _ _ _)
              have P7 := Lib.hid HB3.out.size
              have N67 := Lib.hid (show wr.heap.size < w3.heap.size from B63.out.lt)
              clear hb
              generalize (w3.alloc (.cells #[.int .u64 0, .int .u64 0, .slice none 0 0] 27)) = w4 at *
              generalize w3.heap.size = p7 at *
              try simp only [Act.put, List.setIfInBounds_toArray, List.set_cons_zero, List.set_cons_succ]
              refine wpAnyH_ready (rs := [5, 7]) (by kernel_rfl) (by simp) ?_
              refine AllReadyH.cons rfl (fun K hK => ?_) (AllReadyH.cons rfl (fun K hK => ?_) AllReadyH.nil)
              · skip
                go_simp
                refine (own_any yi yt yA yn yc B yxs _ (GY.out.below (HB4.out.mono hB)) (Nat.le_trans hB HB4.out.size)).mono ?_
                rintro e w5 ⟨Ay, ny, cy, rfl, ho, hb⟩
                have B65 := Lib.hid (B64.out.below hb B64.out.lt)
                have HO5 := Lib.hid (Eo.below HO4.out hb)
                have B75 := Lib.hid (B74.out.below hb B74.out.lt)
                have HB5 := Lib.hid (HB4.out.trans (hb.mono HB4.out.size))
                have HY5 := Lib.hid (ho.down HB4.out.size)
                clear ho hb
                refine hK.out _ _ (HD.out _ B65.out HB5.out) (fun hHeld => ?_)
                clear hK K
                try simp only [Act.put, List.setIfInBounds_toArray, List.set_cons_zero, List.set_cons_succ]
                refine wpAnyH_ready (rs := [7]) (by kernel_rfl) (by simp) ?_
                refine AllReadyH.cons rfl (fun K hK => ?_) AllReadyH.nil
                go_simp
                have hb : Below w5.heap.size w5 (w5.alloc (.cells #[.int .u64 0, .int .u64 0, .slice none 0 0] 27)) := (Below.refl _ _).alloc (Nat.le_refl _) _
                refine hK.out _ _ (HD.out _ (B65.out.below hb B65.out.lt) (HB5.out.trans (hb.mono HB5.out.size))) (fun hHeld => ?_)
                clear hK K
                have B66 := Lib.hid (B65.out.below hb B65.out.lt)
                have HO6 := Lib.hid (Eo.below HO5.out hb)
                have HY6 := Lib.hid (Eo.below HY5.out hb)
                have B76 := Lib.hid (B75.out.below hb B75.out.lt)
                have HB6 := Lib.hid (HB5.out.trans (hb.mono HB5.out.size))
                have B86 : Hid (Blk (w5.alloc (.cells #[.int .u64 0, .int .u64 0, .slice none 0 0] 27)) w5.heap.size 27 #[.int .u64 0, .int .u64 0, .slice none 0 0]) := Lib.hid (Blk.new _ _ _)
                have P8 := Lib.hid HB5.out.size
                have N68 := Lib.hid (show wr.heap.size < w5.heap.size from B65.out.lt)
                have N78 : Hid (p7 ≠ w5.heap.size) := Lib.hid (by have := B75.out.lt; omega)
                clear hb
                generalize (w5.alloc (.cells #[.int .u64 0, .int .u64 0, .slice none 0 0] 27)) = w6 at *
                generalize w5.heap.size = p8 at *
                try simp only [Act.put, List.setIfInBounds_toArray, List.set_cons_zero, List.set_cons_succ]
                refine wpAnyH_ready (rs := [8]) (by kernel_rfl) (by simp) ?_
                refine AllReadyH.cons rfl (fun K hK => ?_) AllReadyH.nil
                refine wp_store_blk 27 _ _ rfl p7 #[.int .u64 0, .int .u64 0, .slice none 0 0] 27 [.int .u64 (fewG gi gt (gxs.map Ec.en)).bi, .int .u64 (fewG gi gt (gxs.map Ec.en)).bt, .slice Ax nx cx] rfl rfl B76.out rfl Try.i27 (by simp [Value.oneCell']) ?_
                intro w7 hb ho
                have B77 := Lib.hid hb
                have B87 := Lib.hid (ho.keep B86.out (fun e => N78.out e.symm))
                have B67 := Lib.hid (ho.keep B66.out (by have := N67.out; omega))
                have HO7 := Lib.hid (HO6.out.only27 B76.out ho)
                have HY7 := Lib.hid (HY6.out.only27 B76.out ho)
                have HB7 := Lib.hid (HB6.out.trans (ho.below P7.out))
                clear hb ho
                refine hK.out _ _ (HD.out _ B67.out HB7.out) (fun hHeld => ?_)
                clear hK K
                try simp only [Act.put, List.setIfInBounds_toArray, List.set_cons_zero, List.set_cons_succ]
                refine wpAnyH_ready (rs := [9]) (by kernel_rfl) (by simp) ?_
                refine AllReadyH.cons rfl (fun K hK => ?_) AllReadyH.nil
                refine wp_store_blk 27 _ _ rfl p8 #[.int .u64 0, .int .u64 0, .slice none 0 0] 27 [.int .u64 (fewG yi yt (yxs.map Ec.en)).bi, .int .u64 (fewG yi yt (yxs.map Ec.en)).bt, .slice Ay ny cy] rfl rfl B87.out rfl Try.i27 (by simp [Value.oneCell']) ?_
                intro w8 hb ho
                have B88 := Lib.hid hb
                have B78 := Lib.hid (ho.keep B77.out N78.out)
                have B68 := Lib.hid (ho.keep B67.out (by have := N68.out; omega))
                have HO8 := Lib.hid (HO7.out.only27 B87.out ho)
                have HY8 := Lib.hid (HY7.out.only27 B87.out ho)
                have HB8 := Lib.hid (HB7.out.trans (ho.below P8.out))
                clear hb ho
                refine hK.out _ _ (HD.out _ B68.out HB8.out) (fun hHeld => ?_)
                clear hK K
                try simp only [Act.put, List.setIfInBounds_toArray, List.set_cons_zero, List.set_cons_succ]
                refine wpAnyH_done (by kernel_rfl) ?_ _
                refine NoPanic.normal ?_
                go_wp2_with fail
                go_meet
                case rel => exact ⟨rfl, p7, p8, Ax, nx, cx, Ay, ny, cy, rfl, rfl, B78.out, B88.out, HO8.out, HY8.out, HB8.out⟩
              · skip
                go_simp
                have hb : Below w4.heap.size w4 (w4.alloc (.cells #[.int .u64 0, .int .u64 0, .slice none 0 0] 27)) := (Below.refl _ _).alloc (Nat.le_refl _) _
                refine hK.out _ _ (HD.out _ (B64.out.below hb B64.out.lt) (HB4.out.trans (hb.mono HB4.out.size))) (fun hHeld => ?_)
                clear hK K
                have B65 := Lib.hid (B64.out.below hb B64.out.lt)
                have HO5 := Lib.hid (Eo.below HO4.out hb)
                have B75 := Lib.hid (B74.out.below hb B74.out.lt)
                have HB5 := Lib.hid (HB4.out.trans (hb.mono HB4.out.size))
                have B85 : Hid (Blk (w4.alloc (.cells #[.int .u64 0, .int .u64 0, .slice none 0 0] 27)) w4.heap.size 27 #[.int .u64 0, .int .u64 0, .slice none 0 0]) := Lib.hid (Blk.new _ _ _)
                have P8 := Lib.hid HB4.out.size
                have N68 := Lib.hid (show wr.heap.size < w4.heap.size from B64.out.lt)
                have N78 : Hid (p7 ≠ w4.heap.size) := Lib.hid (by have := B74.out.lt; omega)
                clear hb
                generalize (w4.alloc (.cells #[.int .u64 0, .int .u64 0, .slice none 0 0] 27)) = w5 at *
                generalize w4.heap.size = p8 at *
                try simp only [Act.put, List.setIfInBounds_toArray, List.set_cons_zero, List.set_cons_succ]
                refine wpAnyH_ready (rs := [5]) (by kernel_rfl) (by simp) ?_
                refine AllReadyH.cons rfl (fun K hK => ?_) AllReadyH.nil
                go_simp
                refine (own_any yi yt yA yn yc B yxs _ (GY.out.below (HB5.out.mono hB)) (Nat.le_trans hB HB5.out.size)).mono ?_
                rintro e w6 ⟨Ay, ny, cy, rfl, ho, hb⟩
                have B66 := Lib.hid (B65.out.below hb B65.out.lt)
                have HO6 := Lib.hid (Eo.below HO5.out hb)
                have B76 := Lib.hid (B75.out.below hb B75.out.lt)
                have B86 := Lib.hid (B85.out.below hb B85.out.lt)
                have HB6 := Lib.hid (HB5.out.trans (hb.mono HB5.out.size))
                have HY6 := Lib.hid (ho.down HB5.out.size)
                clear ho hb
                refine hK.out _ _ (HD.out _ B66.out HB6.out) (fun hHeld => ?_)
                clear hK K
                try simp only [Act.put, List.setIfInBounds_toArray, List.set_cons_zero, List.set_cons_succ]
                refine wpAnyH_ready (rs := [8]) (by kernel_rfl) (by simp) ?_
                refine AllReadyH.cons rfl (fun K hK => ?_) AllReadyH.nil
                refine wp_store_blk 27 _ _ rfl p7 #[.int .u64 0, .int .u64 0, .slice none 0 0] 27 [.int .u64 (fewG gi gt (gxs.map Ec.en)).bi, .int .u64 (fewG gi gt (gxs.map Ec.en)).bt, .slice Ax nx cx] rfl rfl B76.out rfl Try.i27 (by simp [Value.oneCell']) ?_
                intro w7 hb ho
                have B77 := Lib.hid hb
                have B87 := Lib.hid (ho.keep B86.out (fun e => N78.out e.symm))
                have B67 := Lib.hid (ho.keep B66.out (by have := N67.out; omega))
                have HO7 := Lib.hid (HO6.out.only27 B76.out ho)
                have HY7 := Lib.hid (HY6.out.only27 B76.out ho)
                have HB7 := Lib.hid (HB6.out.trans (ho.below P7.out))
                clear hb ho
                refine hK.out _ _ (HD.out _ B67.out HB7.out) (fun hHeld => ?_)
                clear hK K
                try simp only [Act.put, List.setIfInBounds_toArray, List.set_cons_zero, List.set_cons_succ]
                refine wpAnyH_ready (rs := [9]) (by kernel_rfl) (by simp) ?_
                refine AllReadyH.cons rfl (fun K hK => ?_) AllReadyH.nil
                refine wp_store_blk 27 _ _ rfl p8 #[.int .u64 0, .int .u64 0, .slice none 0 0] 27 [.int .u64 (fewG yi yt (yxs.map Ec.en)).bi, .int .u64 (fewG yi yt (yxs.map Ec.en)).bt, .slice Ay ny cy] rfl rfl B87.out rfl Try.i27 (by simp [Value.oneCell']) ?_
                intro w8 hb ho
                have B88 := Lib.hid hb
                have B78 := Lib.hid (ho.keep B77.out N78.out)
                have B68 := Lib.hid (ho.keep B67.out (by have := N68.out; omega))
                have HO8 := Lib.hid (HO7.out.only27 B87.out ho)
                have HY8 := Lib.hid (HY7.out.only27 B87.out ho)
                have HB8 := Lib.hid (HB7.out.trans (ho.below P8.out))
                clear hb ho
                refine hK.out _ _ (HD.out _ B68.out HB8.out) (fun hHeld => ?_)
                clear hK K
                try simp only [Act.put, List.setIfInBounds_toArray, List.set_cons_zero, List.set_cons_succ]
                refine wpAnyH_done (by kernel_rfl) ?_ _
                refine NoPanic.normal ?_
                go_wp2_with fail
                go_meet
                case rel => exact ⟨rfl, p7, p8, Ax, nx, cx, Ay, ny, cy, rfl, rfl, B78.out, B88.out, HO8.out, HY8.out, HB8.out⟩
            · skip
              go_simp
              have hb : Below w3.heap.size w3 (w3.alloc (.cells #[.int .u64 0, .int .u64 0, .slice none 0 0] 27)) := (Below.refl _ _).alloc (Nat.le_refl _) _
              refine hK.out _ _ (HD.out _ (B63.out.below hb B63.out.lt) (HB3.out.trans (hb.mono HB3.out.size))) (fun hHeld => ?_)
              clear hK K
              have B64 := Lib.hid (B63.out.below hb B63.out.lt)
              have HO4 := Lib.hid (Eo.below HO3.out hb)
              have HB4 := Lib.hid (HB3.out.trans (hb.mono HB3.out.size))
              have B84 : Hid (Blk (w3.alloc (.cells #[.int .u64 0, .int .u64 0, .slice none 0 0] 27)) w3.heap.size 27 #[.int .u64 0, .int .u64 0, .slice none 0 0]) := Lib.hid (Blk.new _ _ _)
              have P8 := Lib.hid HB3.out.size
              have N68 := Lib.hid (show wr.heap.size < w3.heap.size from B63.out.lt)
              clear hb
              generalize (w3.alloc (.cells #[.int .u64 0, .int .u64 0, .slice none 0 0] 27)) = w4 at *
              generalize w3.heap.size = p8 at *
              try simp only [Act.put, List.setIfInBounds_toArray, List.set_cons_zero, List.set_cons_succ]
              refine wpAnyH_ready (rs := [5, 6]) (by kernel_rfl) (by simp) ?_
              refine AllReadyH.cons rfl (fun K hK => ?_) (AllReadyH.cons rfl (fun K hK => ?_) AllReadyH.nil)
              · skip
                go_simp
                refine (own_any yi yt yA yn yc B yxs _ (GY.out.below (HB4.out.mono hB)) (Nat.le_trans hB HB4.out.size)).mono ?_
                rintro e w5 ⟨Ay, ny, cy, rfl, ho, hb⟩
                have B65 := Lib.hid (B64.out.below hb B64.out.lt)
                have HO5 := Lib.hid (Eo.below HO4.out hb)
                have B85 := Lib.hid (B84.out.below hb B84.out.lt)
                have HB5 := Lib.hid (HB4.out.trans (hb.mono HB4.out.size))
                have HY5 := Lib.hid (ho.down HB4.out.size)
                clear ho hb
                refine hK.out _ _ (HD.out _ B65.out HB5.out) (fun hHeld => ?_)
                clear hK K
                try simp only [Act.put, List.setIfInBounds_toArray, List.set_cons_zero, List.set_cons_succ]
                refine wpAnyH_ready (rs := [6]) (by kernel_rfl) (by simp) ?_
                refine AllReadyH.cons rfl (fun K hK => ?_) AllReadyH.nil
                go_simp
                have hb : Below w5.heap.size w5 (w5.alloc (.cells #[.int .u64 0, .int .u64 0, .slice none 0 0] 27)) := (Below.refl _ _).alloc (Nat.le_refl _) _
                refine hK.out _ _ (HD.out _ (B65.out.below hb B65.out.lt) (HB5.out.trans (hb.mono HB5.out.size))) (fun hHeld => ?_)
                clear hK K
                have B66 := Lib.hid (B65.out.below hb B65.out.lt)
                have HO6 := Lib.hid (Eo.below HO5.out hb)
                have HY6 := Lib.hid (Eo.below HY5.out hb)
                have B86 := Lib.hid (B85.out.below hb B85.out.lt)
                have HB6 := Lib.hid (HB5.out.trans (hb.mono HB5.out.size))
                have B76 : Hid (Blk (w5.alloc (.cells #[.int .u64 0, .int .u64 0, .slice none 0 0] 27)) w5.heap.size 27 #[.int .u64 0, .int .u64 0, .slice none 0 0]) := Lib.hid (Blk.new _ _ _)
                have P7 := Lib.hid HB5.out.size
                have N67 := Lib.hid (show wr.heap.size < w5.heap.size from B65.out.lt)
                have N78 : Hid (w5.heap.size ≠ p8) := Lib.hid (by have := B85.out.lt; omega)
                clear hb
                generalize (w5.alloc (.cells #[.int .u64 0, .int .u64 0, .slice none 0 0] 27)) = w6 at *
                generalize w5.heap.size = p7 at *
                try simp only [Act.put, List.setIfInBounds_toArray, List.set_cons_zero, List.set_cons_succ]
                refine wpAnyH_ready (rs := [8]) (by kernel_rfl) (by simp) ?_
                refine AllReadyH.cons rfl (fun K hK => ?_) AllReadyH.nil
                refine wp_store_blk 27 _ _ rfl p7 #[.int .u64 0, .int .u64 0, .slice none 0 0] 27 [.int .u64 (fewG gi gt (gxs.map Ec.en)).bi, .int .u64 (fewG gi gt (gxs.map Ec.en)).bt, .slice Ax nx cx] rfl rfl B76.out rfl Try.i27 (by simp [Value.oneCell']) ?_
                intro w7 hb ho
                have B77 := Lib.hid hb
                have B87 := Lib.hid (ho.keep B86.out (fun e => N78.out e.symm))
                have B67 := Lib.hid (ho.keep B66.out (by have := N67.out; omega))
                have HO7 := Lib.hid (HO6.out.only27 B76.out ho)
                have HY7 := Lib.hid (HY6.out.only27 B76.out ho)
                have HB7 := Lib.hid (HB6.out.trans (ho.below P7.out))
                clear hb ho
                refine hK.out _ _ (HD.out _ B67.out HB7.out) (fun hHeld => ?_)
                clear hK K
                try simp only [Act.put, List.setIfInBounds_toArray, List.set_cons_zero, List.set_cons_succ]
                refine wpAnyH_ready (rs := [9]) (by kernel_rfl) (by simp) ?_
                refine AllReadyH.cons rfl (fun K hK => ?_) AllReadyH.nil
                refine wp_store_blk 27 _ _ rfl p8 #[.int .u64 0, .int .u64 0, .slice none 0 0] 27 [.int .u64 (fewG yi yt (yxs.map Ec.en)).bi, .int .u64 (fewG yi yt (yxs.map Ec.en)).bt, .slice Ay ny cy] rfl rfl B87.out rfl Try.i27 (by simp [Value.oneCell']) ?_
                intro w8 hb ho
                have B88 := Lib.hid hb
                have B78 := Lib.hid (ho.keep B77.out N78.out)
                have B68 := Lib.hid (ho.keep B67.out (by have := N68.out; omega))
                have HO8 := Lib.hid (HO7.out.only27 B87.out ho)
                have HY8 := Lib.hid (HY7.out.only27 B87.out ho)
                have HB8 := Lib.hid (HB7.out.trans (ho.below P8.out))
                clear hb ho
                refine hK.out _ _ (HD.out _ B68.out HB8.out) (fun hHeld => ?_)
                clear hK K
                try simp only [Act.put, List.setIfInBounds_toArray, List.set_cons_zero, List.set_cons_succ]
                refine wpAnyH_done (by kernel_rfl) ?_ _
                refine NoPanic.normal ?_
                go_wp2_with fail
                go_meet
                case rel => exact ⟨rfl, p7, p8, Ax, nx, cx, Ay, ny, cy, rfl, rfl, B78.out, B88.out, HO8.out, HY8.out, HB8.out⟩
              · skip
                go_simp
                have hb : Below w4.heap.size w4 (w4.alloc (.cells #[.int .u64 0, .int .u64 0, .slice none 0 0] 27)) := (Below.refl _ _).alloc (Nat.le_refl _) _
                refine hK.out _ _ (HD.out _ (B64.out.below hb B64.out.lt) (HB4.out.trans (hb.mono HB4.out.size))) (fun hHeld => ?_)
                clear hK K
                have B65 := Lib.hid (B64.out.below hb B64.out.lt)
                have HO5 := Lib.hid (Eo.below HO4.out hb)
                have B85 := Lib.hid (B84.out.below hb B84.out.lt)
                have HB5 := Lib.hid (HB4.out.trans (hb.mono HB4.out.size))
                have B75 : Hid (Blk (w4.alloc (.cells #[.int .u64 0, .int .u64 0, .slice none 0 0] 27)) w4.heap.size 27 #[.int .u64 0, .int .u64 0, .slice none 0 0]) := Lib.hid (Blk.new _ _ _)
                have P7 := Lib.hid HB4.out.size
                have N67 := Lib.hid (show wr.heap.size < w4.heap.size from B64.out.lt)
                have N78 : Hid (w4.heap.size ≠ p8) := Lib.hid (by have := B84.out.lt; omega)
                clear hb
                generalize (w4.alloc (.cells #[.int .u64 0, .int .u64 0, .slice none 0 0] 27)) = w5 at *
                generalize w4.heap.size = p7 at *
                try simp only [Act.put, List.setIfInBounds_toArray, List.set_cons_zero, List.set_cons_succ]
                refine wpAnyH_ready (rs := [5]) (by kernel_rfl) (by simp) ?_
                refine AllReadyH.cons rfl (fun K hK => ?_) AllReadyH.nil
                go_simp
                refine (own_any yi yt yA yn yc B yxs _ (GY.out.below (HB5.out.mono hB)) (Nat.le_trans hB HB5.out.size)).mono ?_
                rintro e w6 ⟨Ay, ny, cy, rfl, ho, hb⟩
                have B66 := Lib.hid (B65.out.below hb B65.out.lt)
                have HO6 := Lib.hid (Eo.below HO5.out hb)
                have B76 := Lib.hid (B75.out.below hb B75.out.lt)
                have B86 := Lib.hid (B85.out.below hb B85.out.lt)
                have HB6 := Lib.hid (HB5.out.trans (hb.mono HB5.out.size))
                have HY6 := Lib.hid (ho.down HB5.out.size)
                clear ho hb
                refine hK.out _ _ (HD.out _ B66.out HB6.out) (fun hHeld => ?_)
                clear hK K
                try simp only [Act.put, List.setIfInBounds_toArray, List.set_cons_zero, List.set_cons_succ]
                refine wpAnyH_ready (rs := [8]) (by kernel_rfl) (by simp) ?_
                refine AllReadyH.cons rfl (fun K hK => ?_) AllReadyH.nil
                refine wp_store_blk 27 _ _ rfl p7 #[.int .u64 0, .int .u64 0, .slice none 0 0] 27 [.int .u64 (fewG gi gt (gxs.map Ec.en)).bi, .int .u64 (fewG gi gt (gxs.map Ec.en)).bt, .slice Ax nx cx] rfl rfl B76.out rfl Try.i27 (by simp [Value.oneCell']) ?_
                intro w7 hb ho
                have B77 := Lib.hid hb
                have B87 := Lib.hid (ho.keep B86.out (fun e => N78.out e.symm))
                have B67 := Lib.hid (ho.keep B66.out (by have := N67.out; omega))
                have HO7 := Lib.hid (HO6.out.only27 B76.out ho)
                have HY7 := Lib.hid (HY6.out.only27 B76.out ho)
                have HB7 := Lib.hid (HB6.out.trans (ho.below P7.out))
                clear hb ho
                refine hK.out _ _ (HD.out _ B67.out HB7.out) (fun hHeld => ?_)
                clear hK K
                try simp only [Act.put, List.setIfInBounds_toArray, List.set_cons_zero, List.set_cons_succ]
                refine wpAnyH_ready (rs := [9]) (by kernel_rfl) (by simp) ?_
                refine AllReadyH.cons rfl (fun K hK => ?_) AllReadyH.nil
                refine wp_store_blk 27 _ _ rfl p8 #[.int .u64 0, .int .u64 0, .slice none 0 0] 27 [.int .u64 (fewG yi yt (yxs.map Ec.en)).bi, .int .u64 (fewG yi yt (yxs.map Ec.en)).bt, .slice Ay ny cy] rfl rfl B87.out rfl Try.i27 (by simp [Value.oneCell']) ?_
                intro w8 hb ho
                have B88 := Lib.hid hb
                have B78 := Lib.hid (ho.keep B77.out N78.out)
                have B68 := Lib.hid (ho.keep B67.out (by have := N68.out; omega))
                have HO8 := Lib.hid (HO7.out.only27 B87.out ho)
                have HY8 := Lib.hid (HY7.out.only27 B87.out ho)
                have HB8 := Lib.hid (HB7.out.trans (ho.below P8.out))
                clear hb ho
                refine hK.out _ _ (HD.out _ B68.out HB8.out) (fun hHeld => ?_)
                clear hK K
                try simp only [Act.put, List.setIfInBounds_toArray, List.set_cons_zero, List.set_cons_succ]
                refine wpAnyH_done (by kernel_rfl) ?_ _
                refine NoPanic.normal ?_
                go_wp2_with fail
                go_meet
                case rel => exact ⟨rfl, p7, p8, Ax, nx, cx, Ay, ny, cy, rfl, rfl, B78.out, B88.out, HO8.out, HY8.out, HB8.out⟩
          · skip
            go_simp
            have hb : Below w2.heap.size w2 (w2.alloc (.cells #[.int .u64 0, .int .u64 0, .slice none 0 0] 27)) := (Below.refl _ _).alloc (Nat.le_refl _) _
            refine hK.out _ _ (HD.out _ (B62.out.below hb B62.out.lt) (HB2.out.trans (hb.mono HB2.out.size))) (fun hHeld => ?_)
            clear hK K
            have B63 := Lib.hid (B62.out.below hb B62.out.lt)
            have HB3 := Lib.hid (HB2.out.trans (hb.mono HB2.out.size))
            have B73 : Hid (Blk (w2.alloc (.cells #[.int .u64 0, .int .u64 0, .slice none 0 0] 27)) w2.heap.size 27 #[.int .u64 0, .int .u64 0, .slice none 0 0]) := Lib.hid (Blk.new _ _ _)
            have P7 := Lib.hid HB2.out.size
            have N67 := Lib.hid (show wr.heap.size < w2.heap.size from B62.out.lt)
            clear hb
            generalize (w2.alloc (.cells #[.int .u64 0, .int .u64 0, .slice none 0 0] 27)) = w3 at *
            generalize w2.heap.size = p7 at *
            try simp only [Act.put, List.setIfInBounds_toArray, List.set_cons_zero, List.set_cons_succ]
            refine wpAnyH_ready (rs := [1, 7]) (by kernel_rfl) (by simp) ?_
            refine AllReadyH.cons rfl (fun K hK => ?_) (AllReadyH.cons rfl (fun K hK => ?_) AllReadyH.nil)
            · skip
              go_simp
              refine (own_any gi gt gA gn gc B gxs _ (GX.out.below (HB3.out.mono hB)) (Nat.le_trans hB HB3.out.size)).mono ?_
              rintro e w4 ⟨Ax, nx, cx, rfl, ho, hb⟩
              have B64 := Lib.hid (B63.out.below hb B63.out.lt)
              have B74 := Lib.hid (B73.out.below hb B73.out.lt)
              have HB4 := Lib.hid (HB3.out.trans (hb.mono HB3.out.size))
              have HO4 := Lib.hid (ho.down HB3.out.size)
              clear ho hb
              refine hK.out _ _ (HD.out _ B64.out HB4.out) (fun hHeld => ?_)
              clear hK K
              try simp only [Act.put, List.setIfInBounds_toArray, List.set_cons_zero, List.set_cons_succ]
              refine wpAnyH_ready (rs := [5, 7]) (by kernel_rfl) (by simp) ?_
              refine AllReadyH.cons rfl (fun K hK => ?_) (AllReadyH.cons rfl (fun K hK => ?_) AllReadyH.nil)
              · skip
                go_simp
                refine (own_any yi yt yA yn yc B yxs _ (GY.out.below (HB4.out.mono hB)) (Nat.le_trans hB HB4.out.size)).mono ?_
                rintro e w5 ⟨Ay, ny, cy, rfl, ho, hb⟩
                have B65 := Lib.hid (B64.out.below hb B64.out.lt)
                have HO5 := Lib.hid (Eo.below HO4.out hb)
                have B75 := Lib.hid (B74.out.below hb B74.out.lt)
                have HB5 := Lib.hid (HB4.out.trans (hb.mono HB4.out.size))
                have HY5 := Lib.hid (ho.down HB4.out.size)
                clear ho hb
                refine hK.out _ _ (HD.out _ B65.out HB5.out) (fun hHeld => ?_)
                clear hK K
                try simp only [Act.put, List.setIfInBounds_toArray, List.set_cons_zero, List.set_cons_succ]
                refine wpAnyH_ready (rs := [7]) (by kernel_rfl) (by simp) ?_
                refine AllReadyH.cons rfl (fun K hK => ?_) AllReadyH.nil
                go_simp
                have hb : Below w5.heap.size w5 (w5.alloc (.cells #[.int .u64 0, .int .u64 0, .slice none 0 0] 27)) := (Below.refl _ _).alloc (Nat.le_refl _) _
                refine hK.out _ _ (HD.out _ (B65.out.below hb B65.out.lt) (HB5.out.trans (hb.mono HB5.out.size))) (fun hHeld => ?_)
                clear hK K
                have B66 := Lib.hid (B65.out.below hb B65.out.lt)
                have HO6 := Lib.hid (Eo.below HO5.out hb)
                have HY6 := Lib.hid (Eo.below HY5.out hb)
                have B76 := Lib.hid (B75.out.below hb B75.out.lt)
                have HB6 := Lib.hid (HB5.out.trans (hb.mono HB5.out.size))
                have B86 : Hid (Blk (w5.alloc (.cells #[.int .u64 0, .int .u64 0, .slice none 0 0] 27)) w5.heap.size 27 #[.int .u64 0, .int .u64 0, .slice none 0 0]) := Lib.hid (Blk.new _ _ _)
                have P8 := Lib.hid HB5.out.size
                have N68 := Lib.hid (show wr.heap.size < w5.heap.size from B65.out.lt)
                have N78 : Hid (p7 ≠ w5.heap.size) := Lib.hid (by have := B75.out.lt; omega)
                clear hb
                generalize (w5.alloc (.cells #[.int .u64 0, .int .u64 0, .slice none 0 0] 27)) = w6 at *
                generalize w5.heap.size = p8 at *
                try simp only [Act.put, List.setIfInBounds_toArray, List.set_cons_zero, List.set_cons_succ]
                refine wpAnyH_ready (rs := [8]) (by kernel_rfl) (by simp) ?_
                refine AllReadyH.cons rfl (fun K hK => ?_) AllReadyH.nil
                refine wp_store_blk 27 _ _ rfl p7 #[.int .u64 0, .int .u64 0, .slice none 0 0] 27 [.int .u64 (fewG gi gt (gxs.map Ec.en)).bi, .int .u64 (fewG gi gt (gxs.map Ec.en)).bt, .slice Ax nx cx] rfl rfl B76.out rfl Try.i27 (by simp [Value.oneCell']) ?_
                intro w7 hb ho
                have B77 := Lib.hid hb
                have B87 := Lib.hid (ho.keep B86.out (fun e => N78.out e.symm))
                have B67 := Lib.hid (ho.keep B66.out (by have := N67.out; omega))
                have HO7 := Lib.hid (HO6.out.only27 B76.out ho)
                have HY7 := Lib.hid (HY6.out.only27 B76.out ho)
                have HB7 := Lib.hid (HB6.out.trans (ho.below P7.out))
                clear hb ho
                refine hK.out _ _ (HD.out _ B67.out HB7.out) (fun hHeld => ?_)
                clear hK K
                try simp only [Act.put, List.setIfInBounds_toArray, List.set_cons_zero, List.set_cons_succ]
                refine wpAnyH_ready (rs := [9]) (by kernel_rfl) (by simp) ?_
                refine AllReadyH.cons rfl (fun K hK => ?_) AllReadyH.nil
                refine wp_store_blk 27 _ _ rfl p8 #[.int .u64 0, .int .u64 0, .slice none 0 0] 27 [.int .u64 (fewG yi yt (yxs.map Ec.en)).bi, .int .u64 (fewG yi yt (yxs.map Ec.en)).bt, .slice Ay ny cy] rfl rfl B87.out rfl Try.i27 (by simp [Value.oneCell']) ?_
                intro w8 hb ho
                have B88 := Lib.hid hb
                have B78 := Lib.hid (ho.keep B77.out N78.out)
                have B68 := Lib.hid (ho.keep B67.out (by have := N68.out; omega))
                have HO8 := Lib.hid (HO7.out.only27 B87.out ho)
                have HY8 := Lib.hid (HY7.out.only27 B87.out ho)
                have HB8 := Lib.hid (HB7.out.trans (ho.below P8.out))
                clear hb ho
                refine hK.out _ _ (HD.out _ B68.out HB8.out) (fun hHeld => ?_)
                clear hK K
                try simp only [Act.put, List.setIfInBounds_toArray, List.set_cons_zero, List.set_cons_succ]
                refine wpAnyH_done (by kernel_rfl) ?_ _
                refine NoPanic.normal ?_
                go_wp2_with fail
                go_meet
                case rel => exact ⟨rfl, p7, p8, Ax, nx, cx, Ay, ny, cy, rfl, rfl, B78.out, B88.out, HO8.out, HY8.out, HB8.out⟩
              · skip
                go_simp
                have hb : Below w4.heap.size w4 (w4.alloc (.cells #[.int .u64 0, .int .u64 0, .slice none 0 0] 27)) := (Below.refl _ _).alloc (Nat.le_refl _) _
                refine hK.out _ _ (HD.out _ (B64.out.below hb B64.out.lt) (HB4.out.trans (hb.mono HB4.out.size))) (fun hHeld => ?_)
                clear hK K
                have B65 := Lib.hid (B64.out.below hb B64.out.lt)
                have HO5 := Lib.hid (Eo.below HO4.out hb)
                have B75 := Lib.hid (B74.out.below hb B74.out.lt)
                have HB5 := Lib.hid (HB4.out.trans (hb.mono HB4.out.size))
                have B85 : Hid (Blk (w4.alloc (.cells #[.int .u64 0, .int .u64 0, .slice none 0 0] 27)) w4.heap.size 27 #[.int .u64 0, .int .u64 0, .slice none 0 0]) := Lib.hid (Blk.new _ _ _)
                have P8 := Lib.hid HB4.out.size
                have N68 := Lib.hid (show wr.heap.size < w4.heap.size from B64.out.lt)
                have N78 : Hid (p7 ≠ w4.heap.size) := Lib.hid (by have := B74.out.lt; omega)
                clear hb
                generalize (w4.alloc (.cells #[.int .u64 0, .int .u64 0, .slice none 0 0] 27)) = w5 at *
                generalize w4.heap.size = p8 at *
                try simp only [Act.put, List.setIfInBounds_toArray, List.set_cons_zero, List.set_cons_succ]
                refine wpAnyH_ready (rs := [5]) (by kernel_rfl) (by simp) ?_
                refine AllReadyH.cons rfl (fun K hK => ?_) AllReadyH.nil
                go_simp
                refine (own_any yi yt yA yn yc B yxs _ (GY.out.below (HB5.out.mono hB)) (Nat.le_trans hB HB5.out.size)).mono ?_
                rintro e w6 ⟨Ay, ny, cy, rfl, ho, hb⟩
                have B66 := Lib.hid (B65.out.below hb B65.out.lt)
                have HO6 := Lib.hid (Eo.below HO5.out hb)
                have B76 := Lib.hid (B75.out.below hb B75.out.lt)
                have B86 := Lib.hid (B85.out.below hb B85.out.lt)
                have HB6 := Lib.hid (HB5.out.trans (hb.mono HB5.out.size))
                have HY6 := Lib.hid (ho.down HB5.out.size)
                clear ho hb
                refine hK.out _ _ (HD.out _ B66.out HB6.out) (fun hHeld => ?_)
                clear hK K
                try simp only [Act.put, List.setIfInBounds_toArray, List.set_cons_zero, List.set_cons_succ]
                refine wpAnyH_ready (rs := [8]) (by kernel_rfl) (by simp) ?_
                refine AllReadyH.cons rfl (fun K hK => ?_) AllReadyH.nil
                refine wp_store_blk 27 _ _ rfl p7 #[.int .u64 0, .int .u64 0, .slice none 0 0] 27 [.int .u64 (fewG gi gt (gxs.map Ec.en)).bi, .int .u64 (fewG gi gt (gxs.map Ec.en)).bt, .slice Ax nx cx] rfl rfl B76.out rfl Try.i27 (by simp [Value.oneCell']) ?_
                intro w7 hb ho
                have B77 := Lib.hid hb
                have B87 := Lib.hid (ho.keep B86.out (fun e => N78.out e.symm))
                have B67 := Lib.hid (ho.keep B66.out (by have := N67.out; omega))
                have HO7 := Lib.hid (HO6.out.only27 B76.out ho)
                have HY7 := Lib.hid (HY6.out.only27 B76.out ho)
                have HB7 := Lib.hid (HB6.out.trans (ho.below P7.out))
                clear hb ho
                refine hK.out _ _ (HD.out _ B67.out HB7.out) (fun hHeld => ?_)
                clear hK K
                try simp only [Act.put, List.setIfInBounds_toArray, List.set_cons_zero, List.set_cons_succ]
                refine wpAnyH_ready (rs := [9]) (by kernel_rfl) (by simp) ?_
                refine AllReadyH.cons rfl (fun K hK => ?_) AllReadyH.nil
                refine wp_store_blk 27 _ _ rfl p8 #[.int .u64 0, .int .u64 0, .slice none 0 0] 27 [.int .u64 (fewG yi yt (yxs.map Ec.en)).bi, .int .u64 (fewG yi yt (yxs.map Ec.en)).bt, .slice Ay ny cy] rfl rfl B87.out rfl Try.i27 (by simp [Value.oneCell']) ?_
                intro w8 hb ho
                have B88 := Lib.hid hb
                have B78 := Lib.hid (ho.keep B77.out N78.out)
                have B68 := Lib.hid (ho.keep B67.out (by have := N68.out; omega))
                have HO8 := Lib.hid (HO7.out.only27 B87.out ho)
                have HY8 := Lib.hid (HY7.out.only27 B87.out ho)
                have HB8 := Lib.hid (HB7.out.trans (ho.below P8.out))
                clear hb ho
                refine hK.out _ _ (HD.out _ B68.out HB8.out) (fun hHeld => ?_)
                clear hK K
                try simp only [Act.put, List.setIfInBounds_toArray, List.set_cons_zero, List.set_cons_succ]
                refine wpAnyH_done (by kernel_rfl) ?_ _
                refine NoPanic.normal ?_
                go_wp2_with fail
                go_meet
                case rel => exact ⟨rfl, p7, p8, Ax, nx, cx, Ay, ny, cy, rfl, rfl, B78.out, B88.out, HO8.out, HY8.out, HB8.out⟩
            · skip
              go_simp
              have hb : Below w3.heap.size w3 (w3.alloc (.cells #[.int .u64 0, .int .u64 0, .slice none 0 0] 27)) := (Below.refl _ _).alloc (Nat.le_refl _) _
              refine hK.out _ _ (HD.out _ (B63.out.below hb B63.out.lt) (HB3.out.trans (hb.mono HB3.out.size))) (fun hHeld => ?_)
              clear hK K
              have B64 := Lib.hid (B63.out.below hb B63.out.lt)
              have B74 := Lib.hid (B73.out.below hb B73.out.lt)
              have HB4 := Lib.hid (HB3.out.trans (hb.mono HB3.out.size))
              have B84 : Hid (Blk (w3.alloc (.cells #[.int .u64 0, .int .u64 0, .slice none 0 0] 27)) w3.heap.size 27 #[.int .u64 0, .int .u64 0, .slice none 0 0]) := Lib.hid (Blk.new _ _ _)
              have P8 := Lib.hid HB3.out.size
              have N68 := Lib.hid (show wr.heap.size < w3.heap.size from B63.out.lt)
              have N78 : Hid (p7 ≠ w3.heap.size) := Lib.hid (by have := B73.out.lt; omega)
              clear hb
              generalize (w3.alloc (.cells #[.int .u64 0, .int .u64 0, .slice none 0 0] 27)) = w4 at *
              generalize w3.heap.size = p8 at *
              try simp only [Act.put, List.setIfInBounds_toArray, List.set_cons_zero, List.set_cons_succ]
              refine wpAnyH_ready (rs := [1]) (by kernel_rfl) (by simp) ?_
              refine AllReadyH.cons rfl (fun K hK => ?_) AllReadyH.nil
              go_simp
              refine (own_any gi gt gA gn gc B gxs _ (GX.out.below (HB4.out.mono hB)) (Nat.le_trans hB HB4.out.size)).mono ?_
              rintro e w5 ⟨Ax, nx, cx, rfl, ho, hb⟩
              have B65 := Lib.hid (B64.out.below hb B64.out.lt)
              have B75 := Lib.hid (B74.out.below hb B74.out.lt)
              have B85 := Lib.hid (B84.out.below hb B84.out.lt)
              have HB5 := Lib.hid (HB4.out.trans (hb.mono HB4.out.size))
              have HO5 := Lib.hid (ho.down HB4.out.size)
              clear ho hb
              refine hK.out _ _ (HD.out _ B65.out HB5.out) (fun hHeld => ?_)
              clear hK K
              try simp only [Act.put, List.setIfInBounds_toArray, List.set_cons_zero, List.set_cons_succ]
              refine wpAnyH_ready (rs := [5]) (by kernel_rfl) (by simp) ?_
              refine AllReadyH.cons rfl (fun K hK => ?_) AllReadyH.nil
              go_simp
              refine (own_any yi yt yA yn yc B yxs _ (GY.out.below (HB5.out.mono hB)) (Nat.le_trans hB HB5.out.size)).mono ?_
              rintro e w6 ⟨Ay, ny, cy, rfl, ho, hb⟩
              have B66 := Lib.hid (B65.out.below hb B65.out.lt)
              have HO6 := Lib.hid (Eo.below HO5.out hb)
              have B76 := Lib.hid (B75.out.below hb B75.out.lt)
              have B86 := Lib.hid (B85.out.below hb B85.out.lt)
              have HB6 := Lib.hid (HB5.out.trans (hb.mono HB5.out.size))
              have HY6 := Lib.hid (ho.down HB5.out.size)
              clear ho hb
              refine hK.out _ _ (HD.out _ B66.out HB6.out) (fun hHeld => ?_)
              clear hK K
              try simp only [Act.put, List.setIfInBounds_toArray, List.set_cons_zero, List.set_cons_succ]
              refine wpAnyH_ready (rs := [8]) (by kernel_rfl) (by simp) ?_
              refine AllReadyH.cons rfl (fun K hK => ?_) AllReadyH.nil
              refine wp_store_blk 27 _ _ rfl p7 #[.int .u64 0, .int .u64 0, .slice none 0 0] 27 [.int .u64 (fewG gi gt (gxs.map Ec.en)).bi, .int .u64 (fewG gi gt (gxs.map Ec.en)).bt, .slice Ax nx cx] rfl rfl B76.out rfl Try.i27 (by simp [Value.oneCell']) ?_
              intro w7 hb ho
              have B77 := Lib.hid hb
              have B87 := Lib.hid (ho.keep B86.out (fun e => N78.out e.symm))
              have B67 := Lib.hid (ho.keep B66.out (by have := N67.out; omega))
              have HO7 := Lib.hid (HO6.out.only27 B76.out ho)
              have HY7 := Lib.hid (HY6.out.only27 B76.out ho)
              have HB7 := Lib.hid (HB6.out.trans (ho.below P7.out))
              clear hb ho
              refine hK.out _ _ (HD.out _ B67.out HB7.out) (fun hHeld => ?_)
              clear hK K
              try simp only [Act.put, List.setIfInBounds_toArray, List.set_cons_zero, List.set_cons_succ]
              refine wpAnyH_ready (rs := [9]) (by kernel_rfl) (by simp) ?_
              refine AllReadyH.cons rfl (fun K hK => ?_) AllReadyH.nil
              refine wp_store_blk 27 _ _ rfl p8 #[.int .u64 0, .int .u64 0, .slice none 0 0] 27 [.int .u64 (fewG yi yt (yxs.map Ec.en)).bi, .int .u64 (fewG yi yt (yxs.map Ec.en)).bt, .slice Ay ny cy] rfl rfl B87.out rfl Try.i27 (by simp [Value.oneCell']) ?_
              intro w8 hb ho
              have B88 := Lib.hid hb
              have B78 := Lib.hid (ho.keep B77.out N78.out)
              have B68 := Lib.hid (ho.keep B67.out (by have := N68.out; omega))
              have HO8 := Lib.hid (HO7.out.only27 B87.out ho)
              have HY8 := Lib.hid (HY7.out.only27 B87.out ho)
              have HB8 := Lib.hid (HB7.out.trans (ho.below P8.out))
              clear hb ho
              refine hK.out _ _ (HD.out _ B68.out HB8.out) (fun hHeld => ?_)
              clear hK K
              try simp only [Act.put, List.setIfInBounds_toArray, List.set_cons_zero, List.set_cons_succ]
              refine wpAnyH_done (by kernel_rfl) ?_ _
              refine NoPanic.normal ?_
              go_wp2_with fail
              go_meet
              case rel => exact ⟨rfl, p7, p8, Ax, nx, cx, Ay, ny, cy, rfl, rfl, B78.out, B88.out, HO8.out, HY8.out, HB8.out⟩
          · skip
            go_simp
            have hb : Below w2.heap.size w2 (w2.alloc (.cells #[.int .u64 0, .int .u64 0, .slice none 0 0] 27)) := (Below.refl _ _).alloc (Nat.le_refl _) _
            refine hK.out _ _ (HD.out _ (B62.out.below hb B62.out.lt) (HB2.out.trans (hb.mono HB2.out.size))) (fun hHeld => ?_)
            clear hK K
            have B63 := Lib.hid (B62.out.below hb B62.out.lt)
            have HB3 := Lib.hid (HB2.out.trans (hb.mono HB2.out.size))
            have B83 : Hid (Blk (w2.alloc (.cells #[.int .u64 0, .int .u64 0, .slice none 0 0] 27)) w2.heap.size 27 #[.int .u64 0, .int .u64 0, .slice none 0 0]) := Lib.hid (Blk.new _ _ _)
            have P8 := Lib.hid HB2.out.size
            have N68 := Lib.hid (show wr.heap.size < w2.heap.size from B62.out.lt)
            clear hb
            generalize (w2.alloc (.cells #[.int .u64 0, .int .u64 0, .slice none 0 0] 27)) = w3 at *
            generalize w2.heap.size = p8 at *
            try simp only [Act.put, List.setIfInBounds_toArray, List.set_cons_zero, List.set_cons_succ]
            refine wpAnyH_ready (rs := [1, 6]) (by kernel_rfl) (by simp) ?_
            refine AllReadyH.cons rfl (fun K hK => ?_) (AllReadyH.cons rfl (fun K hK => ?_) AllReadyH.nil)
            · skip
              go_simp
              refine (own_any gi gt gA gn gc B gxs _ (GX.out.below (HB3.out.mono hB)) (Nat.le_trans hB HB3.out.size)).mono ?_
              rintro e w4 ⟨Ax, nx, cx, rfl, ho, hb⟩
              have B64 := Lib.hid (B63.out.below hb B63.out.lt)
              have B84 := Lib.hid (B83.out.below hb B83.out.lt)
              have HB4 := Lib.hid (HB3.out.trans (hb.mono HB3.out.size))
              have HO4 := Lib.hid (ho.down HB3.out.size)
              clear ho hb
              refine hK.out _ _ (HD.out _ B64.out HB4.out) (fun hHeld => ?_)
              clear hK K
              try simp only [Act.put, List.setIfInBounds_toArray, List.set_cons_zero, List.set_cons_succ]
              refine wpAnyH_ready (rs := [5, 6]) (by kernel_rfl) (by simp) ?_
              refine AllReadyH.cons rfl (fun K hK => ?_) (AllReadyH.cons rfl (fun K hK => ?_) AllReadyH.nil)
              · skip
                go_simp
                refine (own_any yi yt yA yn yc B yxs _ (GY.out.below (HB4.out.mono hB)) (Nat.le_trans hB HB4.out.size)).mono ?_
                rintro e w5 ⟨Ay, ny, cy, rfl, ho, hb⟩
                have B65 := Lib.hid (B64.out.below hb B64.out.lt)
                have HO5 := Lib.hid (Eo.below HO4.out hb)
                have B85 := Lib.hid (B84.out.below hb B84.out.lt)
                have HB5 := Lib.hid (HB4.out.trans (hb.mono HB4.out.size))
                have HY5 := Lib.hid (ho.down HB4.out.size)
                clear ho hb
                refine hK.out _ _ (HD.out _ B65.out HB5.out) (fun hHeld => ?_)
                clear hK K
                try simp only [Act.put, List.setIfInBounds_toArray, List.set_cons_zero, List.set_cons_succ]
                refine wpAnyH_ready (rs := [6]) (by kernel_rfl) (by simp) ?_
                refine AllReadyH.cons rfl (fun K hK => ?_) AllReadyH.nil
                go_simp
                have hb : Below w5.heap.size w5 (w5.alloc (.cells #[.int .u64 0, .int .u64 0, .slice none 0 0] 27)) := (Below.refl _ _).alloc (Nat.le_refl _) _
                refine hK.out _ _ (HD.out _ (B65.out.below hb B65.out.lt) (HB5.out.trans (hb.mono HB5.out.size))) (fun hHeld => ?_)
                clear hK K
                have B66 := Lib.hid (B65.out.below hb B65.out.lt)
                have HO6 := Lib.hid (Eo.below HO5.out hb)
                have HY6 := Lib.hid (Eo.below HY5.out hb)
                have B86 := Lib.hid (B85.out.below hb B85.out.lt)
                have HB6 := Lib.hid (HB5.out.trans (hb.mono HB5.out.size))
                have B76 : Hid (Blk (w5.alloc (.cells #[.int .u64 0, .int .u64 0, .slice none 0 0] 27)) w5.heap.size 27 #[.int .u64 0, .int .u64 0, .slice none 0 0]) := Lib.hid (Blk.new _ _ _)
                have P7 := Lib.hid HB5.out.size
                have N67 := Lib.hid (show wr.heap.size < w5.heap.size from B65.out.lt)
                have N78 : Hid (w5.heap.size ≠ p8) := Lib.hid (by have := B85.out.lt; omega)
                clear hb
                generalize (w5.alloc (.cells #[.int .u64 0, .int .u64 0, .slice none 0 0] 27)) = w6 at *
                generalize w5.heap.size = p7 at *
                try simp only [Act.put, List.setIfInBounds_toArray, List.set_cons_zero, List.set_cons_succ]
                refine wpAnyH_ready (rs := [8]) (by kernel_rfl) (by simp) ?_
                refine AllReadyH.cons rfl (fun K hK => ?_) AllReadyH.nil
                refine wp_store_blk 27 _ _ rfl p7 #[.int .u64 0, .int .u64 0, .slice none 0 0] 27 [.int .u64 (fewG gi gt (gxs.map Ec.en)).bi, .int .u64 (fewG gi gt (gxs.map Ec.en)).bt, .slice Ax nx cx] rfl rfl B76.out rfl Try.i27 (by simp [Value.oneCell']) ?_
                intro w7 hb ho
                have B77 := Lib.hid hb
                have B87 := Lib.hid (ho.keep B86.out (fun e => N78.out e.symm))
                have B67 := Lib.hid (ho.keep B66.out (by have := N67.out; omega))
                have HO7 := Lib.hid (HO6.out.only27 B76.out ho)
                have HY7 := Lib.hid (HY6.out.only27 B76.out ho)
                have HB7 := Lib.hid (HB6.out.trans (ho.below P7.out))
                clear hb ho
                refine hK.out _ _ (HD.out _ B67.out HB7.out) (fun hHeld => ?_)
                clear hK K
                try simp only [Act.put, List.setIfInBounds_toArray, List.set_cons_zero, List.set_cons_succ]
                refine wpAnyH_ready (rs := [9]) (by kernel_rfl) (by simp) ?_
                refine AllReadyH.cons rfl (fun K hK => ?_) AllReadyH.nil
                refine wp_store_blk 27 _ _ rfl p8 #[.int .u64 0, .int .u64 0, .slice none 0 0] 27 [.int .u64 (fewG yi yt (yxs.map Ec.en)).bi, .int .u64 (fewG yi yt (yxs.map Ec.en)).bt, .slice Ay ny cy] rfl rfl B87.out rfl Try.i27 (by simp [Value.oneCell']) ?_
                intro w8 hb ho
                have B88 := Lib.hid hb
                have B78 := Lib.hid (ho.keep B77.out N78.out)
                have B68 := Lib.hid (ho.keep B67.out (by have := N68.out; omega))
                have HO8 := Lib.hid (HO7.out.only27 B87.out ho)
                have HY8 := Lib.hid (HY7.out.only27 B87.out ho)
                have HB8 := Lib.hid (HB7.out.trans (ho.below P8.out))
                clear hb ho
                refine hK.out _ _ (HD.out _ B68.out HB8.out) (fun hHeld => ?_)
                clear hK K
                try simp only [Act.put, List.setIfInBounds_toArray, List.set_cons_zero, List.set_cons_succ]
                refine wpAnyH_done (by kernel_rfl) ?_ _
                refine NoPanic.normal ?_
                go_wp2_with fail
                go_meet
                case rel => exact ⟨rfl, p7, p8, Ax, nx, cx, Ay, ny, cy, rfl, rfl, B78.out, B88.out, HO8.out, HY8.out, HB8.out⟩
              · skip
                go_simp
                have hb : Below w4.heap.size w4 (w4.alloc (.cells #[.int .u64 0, .int .u64 0, .slice none 0 0] 27)) := (Below.refl _ _).alloc (Nat.le_refl _) _
                refine hK.out _ _ (HD.out _ (B64.out.below hb B64.out.lt) (HB4.out.trans (hb.mono HB4.out.size))) (fun hHeld => ?_)
                clear hK K
                have B65 := Lib.hid (B64.out.below hb B64.out.lt)
                have HO5 := Lib.hid (Eo.below HO4.out hb)
                have B85 := Lib.hid (B84.out.below hb B84.out.lt)
                have HB5 := Lib.hid (HB4.out.trans (hb.mono HB4.out.size))
                have B75 : Hid (Blk (w4.alloc (.cells #[.int .u64 0, .int .u64 0, .slice none 0 0] 27)) w4.heap.size 27 #[.int .u64 0, .int .u64 0, .slice none 0 0]) := Lib.hid (Blk.new _ _ _)
                have P7 := Lib.hid HB4.out.size
                have N67 := Lib.hid (show wr.heap.size < w4.heap.size from B64.out.lt)
                have N78 : Hid (w4.heap.size ≠ p8) := Lib.hid (by have := B84.out.lt; omega)
                clear hb
                generalize (w4.alloc (.cells #[.int .u64 0, .int .u64 0, .slice none 0 0] 27)) = w5 at *
                generalize w4.heap.size = p7 at *
                try simp only [Act.put, List.setIfInBounds_toArray, List.set_cons_zero, List.set_cons_succ]
                refine wpAnyH_ready (rs := [5]) (by kernel_rfl) (by simp) ?_
                refine AllReadyH.cons rfl (fun K hK => ?_) AllReadyH.nil
                go_simp
                refine (own_any yi yt yA yn yc B yxs _ (GY.out.below (HB5.out.mono hB)) (Nat.le_trans hB HB5.out.size)).mono ?_
                rintro e w6 ⟨Ay, ny, cy, rfl, ho, hb⟩
                have B66 := Lib.hid (B65.out.below hb B65.out.lt)
                have HO6 := Lib.hid (Eo.below HO5.out hb)
                have B76 := Lib.hid (B75.out.below hb B75.out.lt)
                have B86 := Lib.hid (B85.out.below hb B85.out.lt)
                have HB6 := Lib.hid (HB5.out.trans (hb.mono HB5.out.size))
                have HY6 := Lib.hid (ho.down HB5.out.size)
                clear ho hb
                refine hK.out _ _ (HD.out _ B66.out HB6.out) (fun hHeld => ?_)
                clear hK K
                try simp only [Act.put, List.setIfInBounds_toArray, List.set_cons_zero, List.set_cons_succ]
                refine wpAnyH_ready (rs := [8]) (by kernel_rfl) (by simp) ?_
                refine AllReadyH.cons rfl (fun K hK => ?_) AllReadyH.nil
                refine wp_store_blk 27 _ _ rfl p7 #[.int .u64 0, .int .u64 0, .slice none 0 0] 27 [.int .u64 (fewG gi gt (gxs.map Ec.en)).bi, .int .u64 (fewG gi gt (gxs.map Ec.en)).bt, .slice Ax nx cx] rfl rfl B76.out rfl Try.i27 (by simp [Value.oneCell']) ?_
                intro w7 hb ho
                have B77 := Lib.hid hb
                have B87 := Lib.hid (ho.keep B86.out (fun e => N78.out e.symm))
                have B67 := Lib.hid (ho.keep B66.out (by have := N67.out; omega))
                have HO7 := Lib.hid (HO6.out.only27 B76.out ho)
                have HY7 := Lib.hid (HY6.out.only27 B76.out ho)
                have HB7 := Lib.hid (HB6.out.trans (ho.below P7.out))
                clear hb ho
                refine hK.out _ _ (HD.out _ B67.out HB7.out) (fun hHeld => ?_)
                clear hK K
                try simp only [Act.put, List.setIfInBounds_toArray, List.set_cons_zero, List.set_cons_succ]
                refine wpAnyH_ready (rs := [9]) (by kernel_rfl) (by simp) ?_
                refine AllReadyH.cons rfl (fun K hK => ?_) AllReadyH.nil
                refine wp_store_blk 27 _ _ rfl p8 #[.int .u64 0, .int .u64 0, .slice none 0 0] 27 [.int .u64 (fewG yi yt (yxs.map Ec.en)).bi, .int .u64 (fewG yi yt (yxs.map Ec.en)).bt, .slice Ay ny cy] rfl rfl B87.out rfl Try.i27 (by simp [Value.oneCell']) ?_
                intro w8 hb ho
                have B88 := Lib.hid hb
                have B78 := Lib.hid (ho.keep B77.out N78.out)
                have B68 := Lib.hid (ho.keep B67.out (by have := N68.out; omega))
                have HO8 := Lib.hid (HO7.out.only27 B87.out ho)
                have HY8 := Lib.hid (HY7.out.only27 B87.out ho)
                have HB8 := Lib.hid (HB7.out.trans (ho.below P8.out))
                clear hb ho
                refine hK.out _ _ (HD.out _ B68.out HB8.out) (fun hHeld => ?_)
                clear hK K
                try simp only [Act.put, List.setIfInBounds_toArray, List.set_cons_zero, List.set_cons_succ]
                refine wpAnyH_done (by kernel_rfl) ?_ _
                refine NoPanic.normal ?_
                go_wp2_with fail
                go_meet
                case rel => exact ⟨rfl, p7, p8, Ax, nx, cx, Ay, ny, cy, rfl, rfl, B78.out, B88.out, HO8.out, HY8.out, HB8.out⟩
            · skip
              go_simp
              have hb : Below w3.heap.size w3 (w3.alloc (.cells #[.int .u64 0, .int .u64 0, .slice none 0 0] 27)) := (Below.refl _ _).alloc (Nat.le_refl _) _
              refine hK.out _ _ (HD.out _ (B63.out.below hb B63.out.lt) (HB3.out.trans (hb.mono HB3.out.size))) (fun hHeld => ?_)
              clear hK K
              have B64 := Lib.hid (B63.out.below hb B63.out.lt)
              have B84 := Lib.hid (B83.out.below hb B83.out.lt)
              have HB4 := Lib.hid (HB3.out.trans (hb.mono HB3.out.size))
              have B74 : Hid (Blk (w3.alloc (.cells #[.int .u64 0, .int .u64 0, .slice none 0 0] 27)) w3.heap.size 27 #[.int .u64 0, .int .u64 0, .slice none 0 0]) := Lib.hid (Blk.new _ _ _)
              have P7 := Lib.hid HB3.out.size
              have N67 := Lib.hid (show wr.heap.size < w3.heap.size from B63.out.lt)
              have N78 : Hid (w3.heap.size ≠ p8) := Lib.hid (by have := B83.out.lt; omega)
              clear hb
              generalize (w3.alloc (.cells #[.int .u64 0, .int .u64 0, .slice none 0 0] 27)) = w4 at *
              generalize w3.heap.size = p7 at *
              try simp only [Act.put, List.setIfInBounds_toArray, List.set_cons_zero, List.set_cons_succ]
              refine wpAnyH_ready (rs := [1]) (by kernel_rfl) (by simp) ?_
              refine AllReadyH.cons rfl (fun K hK => ?_) AllReadyH.nil
              go_simp
              refine (own_any gi gt gA gn gc B gxs _ (GX.out.below (HB4.out.mono hB)) (Nat.le_trans hB HB4.out.size)).mono ?_
              rintro e w5 ⟨Ax, nx, cx, rfl, ho, hb⟩
              have B65 := Lib.hid (B64.out.below hb B64.out.lt)
              have B75 := Lib.hid (B74.out.below hb B74.out.lt)
              have B85 := Lib.hid (B84.out.below hb B84.out.lt)
              have HB5 := Lib.hid (HB4.out.trans (hb.mono HB4.out.size))
              have HO5 := Lib.hid (ho.down HB4.out.size)
              clear ho hb
              refine hK.out _ _ (HD.out _ B65.out HB5.out) (fun hHeld => ?_)
              clear hK K
              try simp only [Act.put, List.setIfInBounds_toArray, List.set_cons_zero, List.set_cons_succ]
              refine wpAnyH_ready (rs := [5]) (by kernel_rfl) (by simp) ?_
              refine AllReadyH.cons rfl (fun K hK => ?_) AllReadyH.nil
              go_simp
              refine (own_any yi yt yA yn yc B yxs _ (GY.out.below (HB5.out.mono hB)) (Nat.le_trans hB HB5.out.size)).mono ?_
              rintro e w6 ⟨Ay, ny, cy, rfl, ho, hb⟩
              have B66 := Lib.hid (B65.out.below hb B65.out.lt)
              have HO6 := Lib.hid (Eo.below HO5.out hb)
              have B76 := Lib.hid (B75.out.below hb B75.out.lt)
              have B86 := Lib.hid (B85.out.below hb B85.out.lt)
              have HB6 := Lib.hid (HB5.out.trans (hb.mono HB5.out.size))
              have HY6 := Lib.hid (ho.down HB5.out.size)
              clear ho hb
              refine hK.out _ _ (HD.out _ B66.out HB6.out) (fun hHeld => ?_)
              clear hK K
              try simp only [Act.put, List.setIfInBounds_toArray, List.set_cons_zero, List.set_cons_succ]
              refine wpAnyH_ready (rs := [8]) (by kernel_rfl) (by simp) ?_
              refine AllReadyH.cons rfl (fun K hK => ?_) AllReadyH.nil
              refine wp_store_blk 27 _ _ rfl p7 #[.int .u64 0, .int .u64 0, .slice none 0 0] 27 [.int .u64 (fewG gi gt (gxs.map Ec.en)).bi, .int .u64 (fewG gi gt (gxs.map Ec.en)).bt, .slice Ax nx cx] rfl rfl B76.out rfl Try.i27 (by simp [Value.oneCell']) ?_
              intro w7 hb ho
              have B77 := Lib.hid hb
              have B87 := Lib.hid (ho.keep B86.out (fun e => N78.out e.symm))
              have B67 := Lib.hid (ho.keep B66.out (by have := N67.out; omega))
              have HO7 := Lib.hid (HO6.out.only27 B76.out ho)
              have HY7 := Lib.hid (HY6.out.only27 B76.out ho)
              have HB7 := Lib.hid (HB6.out.trans (ho.below P7.out))
              clear hb ho
              refine hK.out _ _ (HD.out _ B67.out HB7.out) (fun hHeld => ?_)
              clear hK K
              try simp only [Act.put, List.setIfInBounds_toArray, List.set_cons_zero, List.set_cons_succ]
              refine wpAnyH_ready (rs := [9]) (by kernel_rfl) (by simp) ?_
              refine AllReadyH.cons rfl (fun K hK => ?_) AllReadyH.nil
              refine wp_store_blk 27 _ _ rfl p8 #[.int .u64 0, .int .u64 0, .slice none 0 0] 27 [.int .u64 (fewG yi yt (yxs.map Ec.en)).bi, .int .u64 (fewG yi yt (yxs.map Ec.en)).bt, .slice Ay ny cy] rfl rfl B87.out rfl Try.i27 (by simp [Value.oneCell']) ?_
              intro w8 hb ho
              have B88 := Lib.hid hb
              have B78 := Lib.hid (ho.keep B77.out N78.out)
              have B68 := Lib.hid (ho.keep B67.out (by have := N68.out; omega))
              have HO8 := Lib.hid (HO7.out.only27 B87.out ho)
              have HY8 := Lib.hid (HY7.out.only27 B87.out ho)
              have HB8 := Lib.hid (HB7.out.trans (ho.below P8.out))
              clear hb ho
              refine hK.out _ _ (HD.out _ B68.out HB8.out) (fun hHeld => ?_)
              clear hK K
              try simp only [Act.put, List.setIfInBounds_toArray, List.set_cons_zero, List.set_cons_succ]
              refine wpAnyH_done (by kernel_rfl) ?_ _
              refine NoPanic.normal ?_
              go_wp2_with fail
              go_meet
              case rel => exact ⟨rfl, p7, p8, Ax, nx, cx, Ay, ny, cy, rfl, rfl, B78.out, B88.out, HO8.out, HY8.out, HB8.out⟩
        case rest =>
          obtain ⟨rfl, p7, p8, Ax, nx, cx, Ay, ny, cy, rfl, rfl, b78, b88, ho8, hy8, hb8⟩ := hcut
          generalize wc = w8 at *
          have B78 := Lib.hid b78
          have B88 := Lib.hid b88
          have HO8 := Lib.hid ho8
          have HY8 := Lib.hid hy8
          have HB8 := Lib.hid hb8
          clear b78 b88 ho8 hy8 hb8
          have FX := Lib.hid (fewL_few (gxs.map Ec.en))
          have XL := Lib.hid (show 0 ≤ (fewG gi gt (gxs.map Ec.en)).bi ∧ (fewG gi gt (gxs.map Ec.en)).bi < 18446744073709551616 ∧ 0 ≤ (fewG gi gt (gxs.map Ec.en)).bt ∧ (fewG gi gt (gxs.map Ec.en)).bt < 18446744073709551616 ∧ Few (fewG gi gt (gxs.map Ec.en)).es from ⟨XB.out.1, XB.out.2.1, XB.out.2.2.1, XB.out.2.2.2, FX.out⟩)
          have YL := Lib.hid (show 0 ≤ (fewG yi yt (yxs.map Ec.en)).bi ∧ (fewG yi yt (yxs.map Ec.en)).bi < 18446744073709551616 ∧ 0 ≤ (fewG yi yt (yxs.map Ec.en)).bt ∧ (fewG yi yt (yxs.map Ec.en)).bt < 18446744073709551616 ∧ Few (fewG yi yt (yxs.map Ec.en)).es from ⟨YB.out.1, YB.out.2.1, YB.out.2.2.1, YB.out.2.2.2, fewL_few _⟩)
          have HO8' : Hid (Eo w8 w.heap.size Ax nx cx (fewG gi gt (gxs.map Ec.en)).es) := HO8
          have HY8' : Hid (Eo w8 w.heap.size Ay ny cy (fewG yi yt (yxs.map Ec.en)).es) := HY8
          have B78' : Hid (Blk w8 p7 27 #[.int .u64 (fewG gi gt (gxs.map Ec.en)).bi, .int .u64 (fewG gi gt (gxs.map Ec.en)).bt, .slice Ax nx cx]) := B78
          have B88' : Hid (Blk w8 p8 27 #[.int .u64 (fewG yi yt (yxs.map Ec.en)).bi, .int .u64 (fewG yi yt (yxs.map Ec.en)).bt, .slice Ay ny cy]) := B88
          clear HO8 HY8 FX XB YB HD B78 B88 hS0
          generalize fewG gi gt (gxs.map Ec.en) = X at *
          generalize fewG yi yt (yxs.map Ec.en) = Y at *
          have LX : Hid (∀ W, Eo W w.heap.size Ax nx cx X.es → Lr W W.heap.size Ax nx cx X) := Lib.hid (fun W ho => ho.lr (by have := XL.out.2.2.2.2.1; omega) XL.out.1 XL.out.2.1 XL.out.2.2.1 XL.out.2.2.2.1)
          have LY : Hid (∀ W, Eo W w.heap.size Ay ny cy Y.es → Lr W W.heap.size Ay ny cy Y) := Lib.hid (fun W ho => ho.lr (by have := YL.out.2.2.2.2.1; omega) YL.out.1 YL.out.2.1 YL.out.2.2.1 YL.out.2.2.2.1)
          have RI := Lib.hid (fun W ho => refright_any X Ax nx cx _ W (LX.out W ho) (Nat.le_refl _))
          have LA := Lib.hid (fun W ho => reflast_any X Ax nx cx _ W (LX.out W ho) (Nat.le_refl _))
          have CK := Lib.hid (fun W ho => Check_any X Ax nx cx _ W (LX.out W ho) (Nat.le_refl _) top)
          have SM := Lib.hid (fun W ho ho' => Same_any X Y Ax Ay nx ny cx cy _ W (LX.out W ho) (LY.out W ho') (Nat.le_refl _))
          have RS := Lib.hid (fun W ho ho' => refsame_any X Y Ax Ay nx ny cx cy _ W (LX.out W ho) (LY.out W ho') (Nat.le_refl _))
          have OW : Hid (∀ W, Eo W w.heap.size Ax nx cx X.es → Calls Try.prog 11 #[.agg #[.int .u64 X.bi, .int .u64 X.bt, .slice Ax nx cx]] W (Lgd W X)) := Lib.hid (fun W ho => by
            obtain ⟨xs, hx1, hx2⟩ := ho.read.ein
            have := own_any X.bi X.bt Ax nx cx W.heap.size xs W hx2 (Nat.le_refl _)
            unfold fewG at this
            rw [hx1, fewL_id XL.out.2.2.2.2] at this
            exact this)
          have SO : Hid (∀ W, Eo W w.heap.size Ax nx cx X.es → ∀ A2 n2 c2 b2, Eo W b2 A2 n2 c2 X.es → Calls Try.prog 41 #[.agg #[.int .u64 X.bi, .int .u64 X.bt, .slice Ax nx cx], .agg #[.int .u64 X.bi, .int .u64 X.bt, .slice A2 n2 c2]] W fun e w' => e = .returned (.bool true) ∧ Below W.heap.size W w') := Lib.hid (fun W ho A2 n2 c2 b2 ho2 => by
            have := Same_any X X Ax A2 nx n2 cx c2 _ W (LX.out W ho) (ho2.lr (by have := XL.out.2.2.2.2.1; omega) XL.out.1 XL.out.2.1 XL.out.2.2.1 XL.out.2.2.2.1) (Nat.le_refl _)
            rw [decide_eq_true rfl] at this
            exact this)
          have C7 : Hid (∀ W, Blk W p7 27 #[.int .u64 X.bi, .int .u64 X.bt, .slice Ax nx cx] → W.cell? ⟨p7, 0, none⟩ = some (.int .u64 X.bi) ∧ W.cell? ⟨p7, 1, none⟩ = some (.int .u64 X.bt) ∧ W.cell? ⟨p7, 2, none⟩ = some (.slice Ax nx cx)) := fun W hb => ⟨hb.cell 0, hb.cell 1, hb.cell 2⟩
          have C8 : Hid (∀ W, Blk W p8 27 #[.int .u64 Y.bi, .int .u64 Y.bt, .slice Ay ny cy] → W.cell? ⟨p8, 0, none⟩ = some (.int .u64 Y.bi) ∧ W.cell? ⟨p8, 1, none⟩ = some (.int .u64 Y.bt) ∧ W.cell? ⟨p8, 2, none⟩ = some (.slice Ay ny cy)) := fun W hb => ⟨hb.cell 0, hb.cell 1, hb.cell 2⟩
          clear LX LY XL YL
          have HCK : checkE X top = if right X = false then 160 else if top < X.lastT then 2 else 0 := rfl
          generalize decide (X = Y) = D at *
          generalize checkE X top = CE at *
          generalize right X = R at *
          generalize X.lastI = LI at *
          generalize X.lastT = LT at *
          obtain ⟨x0, x1, x2⟩ := C7.out _ B78'.out
          cases R with
          | false =>
            have hce : CE = 160 := by rw [HCK]; rfl
            subst hce
            clear HCK
            go_wp2_with (go_at_call 12; refine (RI.out _ HO8'.out).mono ?_; rintro e w9 ⟨rfl, hb9⟩; have B79 := Lib.hid (B78'.out.below hb9 B78'.out.lt); have B89 := Lib.hid (B88'.out.below hb9 B88'.out.lt); have HO9 := Lib.hid (Eo.below HO8'.out hb9); have HY9 := Lib.hid (Eo.below HY8'.out hb9); have HB9 := Lib.hid (HB8.out.trans (hb9.mono HB8.out.size)); clear hb9 x0 x1 x2; obtain ⟨x0, x1, x2⟩ := C7.out _ B79.out)
            have B711 : Hid (Blk w9.drew p7 27 #[.int .u64 X.bi, .int .u64 X.bt, .slice Ax nx cx]) := Lib.hid (B79.out.drewN 1)
            have B811 : Hid (Blk w9.drew p8 27 #[.int .u64 Y.bi, .int .u64 Y.bt, .slice Ay ny cy]) := Lib.hid (B89.out.drewN 1)
            have HO11 : Hid (Eo w9.drew w.heap.size Ax nx cx X.es) := Lib.hid (Eo.below HO9.out (Below.refl _ _).drew)
            have HY11 : Hid (Eo w9.drew w.heap.size Ay ny cy Y.es) := Lib.hid (Eo.below HY9.out (Below.refl _ _).drew)
            have HB11 := Lib.hid HB9.out.drew
            have hS1 := And.intro (C7.out _ B711.out) (C8.out _ B811.out)
            have fg : (D == D) = true := by simp
            refine wp_region_noPanic ?_
            refine wp_region_held_drew (S := fun w' => (w'.cell? ⟨p7, 0, none⟩ = some (.int .u64 X.bi) ∧ w'.cell? ⟨p7, 1, none⟩ = some (.int .u64 X.bt) ∧ w'.cell? ⟨p7, 2, none⟩ = some (.slice Ax nx cx)) ∧ w'.cell? ⟨p8, 0, none⟩ = some (.int .u64 Y.bi) ∧ w'.cell? ⟨p8, 1, none⟩ = some (.int .u64 Y.bt) ∧ w'.cell? ⟨p8, 2, none⟩ = some (.slice Ay ny cy)) (by kernel_rfl) hS1 (fun hHeld => ?_)
            generalize w9.drew = w11 at *
            refine take_d (i := 0) (d := 37) (v := ?d37) rfl rfl (by kernel_rfl) (by kernel_rfl) (by kernel_rfl) (fun _ _ _ h => h) (Or.inl ⟨by kernel_rfl, ?d37h⟩) hHeld ?d37n
            case d37h => (intro w hSw; (try dsimp only at hSw); go_split_ands; go_simp; (try exact rfl))
            try simp only [Act.put, List.setIfInBounds_toArray, List.set_cons_zero, List.set_cons_succ]
            refine take_d (i := 1) (d := 38) (v := ?d38) rfl rfl (by kernel_rfl) (by kernel_rfl) (by kernel_rfl) (fun _ _ _ h => h) (Or.inl ⟨by kernel_rfl, ?d38h⟩) hHeld ?d38n
            case d38h => (intro w hSw; (try dsimp only at hSw); go_split_ands; go_simp; (try exact rfl))
            try simp only [Act.put, List.setIfInBounds_toArray, List.set_cons_zero, List.set_cons_succ]
            refine take_d (i := 3) (d := 40) (v := ?d40) rfl rfl (by kernel_rfl) (by kernel_rfl) (by kernel_rfl) (fun _ _ _ h => h) (Or.inl ⟨by kernel_rfl, ?d40h⟩) hHeld ?d40n
            case d40h => (intro w hSw; (try dsimp only at hSw); go_split_ands; go_simp; (try exact rfl))
            try simp only [Act.put, List.setIfInBounds_toArray, List.set_cons_zero, List.set_cons_succ]
            refine wpAnyH_ready (rs := [2]) (by kernel_rfl) (by simp) ?_
            refine AllReadyH.cons rfl (fun K hK => ?_) AllReadyH.nil
            go_simp
            refine (CK.out _ HO11.out).mono ?_
            rintro e w12 ⟨rfl, hb12⟩
            have B712 := Lib.hid (B711.out.below hb12 B711.out.lt)
            have B812 := Lib.hid (B811.out.below hb12 B811.out.lt)
            have HO12 := Lib.hid (Eo.below HO11.out hb12)
            have HY12 := Lib.hid (Eo.below HY11.out hb12)
            have HB12 := Lib.hid (HB11.out.trans (hb12.mono HB11.out.size))
            clear hb12
            refine hK.out _ _ (⟨C7.out _ B712.out, C8.out _ B812.out⟩) (fun hHeld => ?_)
            clear hK K
            try simp only [Act.put, List.setIfInBounds_toArray, List.set_cons_zero, List.set_cons_succ]
            refine take_d (i := 4) (d := 41) (v := ?d41) rfl rfl (by kernel_rfl) (by kernel_rfl) (by kernel_rfl) (fun _ _ _ h => h) (Or.inl ⟨by kernel_rfl, ?d41h⟩) hHeld ?d41n
            case d41h => (intro w hSw; (try dsimp only at hSw); go_split_ands; go_simp; (try exact rfl))
            try simp only [Act.put, List.setIfInBounds_toArray, List.set_cons_zero, List.set_cons_succ]
            refine take_d (i := 5) (d := 42) (v := ?d42) rfl rfl (by kernel_rfl) (by kernel_rfl) (by kernel_rfl) (fun _ _ _ h => h) (Or.inl ⟨by kernel_rfl, ?d42h⟩) hHeld ?d42n
            case d42h => (intro w hSw; (try dsimp only at hSw); go_split_ands; go_simp; (try exact rfl))
            try simp only [Act.put, List.setIfInBounds_toArray, List.set_cons_zero, List.set_cons_succ]
            refine take_d (i := 6) (d := 43) (v := ?d43) rfl rfl (by kernel_rfl) (by kernel_rfl) (by kernel_rfl) (fun _ _ _ h => h) (Or.inl ⟨by kernel_rfl, ?d43h⟩) hHeld ?d43n
            case d43h => (intro w hSw; (try dsimp only at hSw); go_split_ands; go_simp; (try exact rfl))
            try simp only [Act.put, List.setIfInBounds_toArray, List.set_cons_zero, List.set_cons_succ]
            refine take_d (i := 7) (d := 44) (v := ?d44) rfl rfl (by kernel_rfl) (by kernel_rfl) (by kernel_rfl) (fun _ _ _ h => h) (Or.inl ⟨by kernel_rfl, ?d44h⟩) hHeld ?d44n
            case d44h => (intro w hSw; (try dsimp only at hSw); go_split_ands; go_simp; (try exact rfl))
            try simp only [Act.put, List.setIfInBounds_toArray, List.set_cons_zero, List.set_cons_succ]
            refine take_d (i := 9) (d := 46) (v := ?d46) rfl rfl (by kernel_rfl) (by kernel_rfl) (by kernel_rfl) (fun _ _ _ h => h) (Or.inl ⟨by kernel_rfl, ?d46h⟩) hHeld ?d46n
            case d46h => (intro w hSw; (try dsimp only at hSw); go_split_ands; go_simp; (try exact rfl))
            try simp only [Act.put, List.setIfInBounds_toArray, List.set_cons_zero, List.set_cons_succ]
            refine take_d (i := 10) (d := 47) (v := ?d47) rfl rfl (by kernel_rfl) (by kernel_rfl) (by kernel_rfl) (fun _ _ _ h => h) (Or.inl ⟨by kernel_rfl, ?d47h⟩) hHeld ?d47n
            case d47h => (intro w hSw; (try dsimp only at hSw); go_split_ands; go_simp; (try exact rfl))
            try simp only [Act.put, List.setIfInBounds_toArray, List.set_cons_zero, List.set_cons_succ]
            refine wpAnyH_ready (rs := [8]) (by kernel_rfl) (by simp) ?_
            refine AllReadyH.cons rfl (fun K hK => ?_) AllReadyH.nil
            go_simp
            refine (SM.out _ HO12.out HY12.out).mono ?_
            rintro e w13 ⟨rfl, hb13⟩
            have B713 := Lib.hid (B712.out.below hb13 B712.out.lt)
            have B813 := Lib.hid (B812.out.below hb13 B812.out.lt)
            have HO13 := Lib.hid (Eo.below HO12.out hb13)
            have HY13 := Lib.hid (Eo.below HY12.out hb13)
            have HB13 := Lib.hid (HB12.out.trans (hb13.mono HB12.out.size))
            clear hb13
            refine hK.out _ _ (⟨C7.out _ B713.out, C8.out _ B813.out⟩) (fun hHeld => ?_)
            clear hK K
            try simp only [Act.put, List.setIfInBounds_toArray, List.set_cons_zero, List.set_cons_succ]
            refine wpAnyH_ready (rs := [11]) (by kernel_rfl) (by simp) ?_
            refine AllReadyH.cons rfl (fun K hK => ?_) AllReadyH.nil
            go_simp
            refine (RS.out _ HO13.out HY13.out).mono ?_
            rintro e w14 ⟨rfl, hb14⟩
            have B714 := Lib.hid (B713.out.below hb14 B713.out.lt)
            have B814 := Lib.hid (B813.out.below hb14 B813.out.lt)
            have HO14 := Lib.hid (Eo.below HO13.out hb14)
            have HY14 := Lib.hid (Eo.below HY13.out hb14)
            have HB14 := Lib.hid (HB13.out.trans (hb14.mono HB13.out.size))
            clear hb14
            refine hK.out _ _ (⟨C7.out _ B714.out, C8.out _ B814.out⟩) (fun hHeld => ?_)
            clear hK K
            try simp only [Act.put, List.setIfInBounds_toArray, List.set_cons_zero, List.set_cons_succ]
            refine take_d (i := 12) (d := 49) (v := ?d49) rfl rfl (by kernel_rfl) (by kernel_rfl) (by kernel_rfl) (fun _ _ _ h => h) (Or.inl ⟨by kernel_rfl, ?d49h⟩) hHeld ?d49n
            case d49h => (intro w hSw; (try dsimp only at hSw); go_split_ands; go_simp; (try exact rfl))
            try simp only [Act.put, List.setIfInBounds_toArray, List.set_cons_zero, List.set_cons_succ]
            refine take_d (i := 13) (d := 50) (v := ?d50) rfl rfl (by kernel_rfl) (by kernel_rfl) (by kernel_rfl) (fun _ _ _ h => h) (Or.inl ⟨by kernel_rfl, ?d50h⟩) hHeld ?d50n
            case d50h => (intro w hSw; (try dsimp only at hSw); go_split_ands; go_simp; (try exact rfl))
            try simp only [Act.put, List.setIfInBounds_toArray, List.set_cons_zero, List.set_cons_succ]
            refine take_d (i := 14) (d := 51) (v := ?d51) rfl rfl (by kernel_rfl) (by kernel_rfl) (by kernel_rfl) (fun _ _ _ h => h) (Or.inl ⟨by kernel_rfl, ?d51h⟩) hHeld ?d51n
            case d51h => (intro w hSw; (try dsimp only at hSw); go_split_ands; go_simp; (try exact rfl))
            try simp only [Act.put, List.setIfInBounds_toArray, List.set_cons_zero, List.set_cons_succ]
            refine take_d (i := 15) (d := 52) (v := ?d52) rfl rfl (by kernel_rfl) (by kernel_rfl) (by kernel_rfl) (fun _ _ _ h => h) (Or.inl ⟨by kernel_rfl, ?d52h⟩) hHeld ?d52n
            case d52h => (intro w hSw; (try dsimp only at hSw); go_split_ands; go_simp; (try exact rfl))
            try simp only [Act.put, List.setIfInBounds_toArray, List.set_cons_zero, List.set_cons_succ]
            refine take_d (i := 16) (d := 53) (v := ?d53) rfl rfl (by kernel_rfl) (by kernel_rfl) (by kernel_rfl) (fun _ _ _ h => h) (Or.inl ⟨by kernel_rfl, ?d53h⟩) hHeld ?d53n
            case d53h => (intro w hSw; (try dsimp only at hSw); go_split_ands; go_simp; (try exact rfl))
            try simp only [Act.put, List.setIfInBounds_toArray, List.set_cons_zero, List.set_cons_succ]
            refine wpAnyH_ready (rs := [17]) (by kernel_rfl) (by simp) ?_
            refine AllReadyH.cons rfl (fun K hK => ?_) AllReadyH.nil
            go_simp
            refine (OW.out _ HO14.out).mono ?_
            rintro e w15 ⟨A5, n5, c5, rfl, ho5, hb15⟩
            have B715 := Lib.hid (B714.out.below hb15 B714.out.lt)
            have B815 := Lib.hid (B814.out.below hb15 B814.out.lt)
            have HO15 := Lib.hid (Eo.below HO14.out hb15)
            have HY15 := Lib.hid (Eo.below HY14.out hb15)
            have HB15 := Lib.hid (HB14.out.trans (hb15.mono HB14.out.size))
            have HZ15 := Lib.hid ho5
            clear hb15 ho5
            refine hK.out _ _ (⟨C7.out _ B715.out, C8.out _ B815.out⟩) (fun hHeld => ?_)
            clear hK K
            try simp only [Act.put, List.setIfInBounds_toArray, List.set_cons_zero, List.set_cons_succ]
            refine wpAnyH_ready (rs := [18]) (by kernel_rfl) (by simp) ?_
            refine AllReadyH.cons rfl (fun K hK => ?_) AllReadyH.nil
            go_simp
            refine (SO.out _ HO15.out _ _ _ _ HZ15.out).mono ?_
            rintro e w16 ⟨rfl, hb16⟩
            have B716 := Lib.hid (B715.out.below hb16 B715.out.lt)
            have B816 := Lib.hid (B815.out.below hb16 B815.out.lt)
            have HO16 := Lib.hid (Eo.below HO15.out hb16)
            have HY16 := Lib.hid (Eo.below HY15.out hb16)
            have HB16 := Lib.hid (HB15.out.trans (hb16.mono HB15.out.size))
            clear hb16
            refine hK.out _ _ (⟨C7.out _ B716.out, C8.out _ B816.out⟩) (fun hHeld => ?_)
            clear hK K
            try simp only [Act.put, List.setIfInBounds_toArray, List.set_cons_zero, List.set_cons_succ]
            refine take_d (i := 19) (d := 56) (v := ?d56) rfl rfl (by kernel_rfl) (by kernel_rfl) (by kernel_rfl) (fun _ _ _ h => h) (Or.inl ⟨by kernel_rfl, ?d56h⟩) hHeld ?d56n
            case d56h => (intro w hSw; (try dsimp only at hSw); go_split_ands; go_simp; (try exact rfl))
            try simp only [Act.put, List.setIfInBounds_toArray, List.set_cons_zero, List.set_cons_succ]
            refine take_d (i := 20) (d := 57) (v := ?d57) rfl rfl (by kernel_rfl) (by kernel_rfl) (by kernel_rfl) (fun _ _ _ h => h) (Or.inl ⟨by kernel_rfl, ?d57h⟩) hHeld ?d57n
            case d57h => (intro w hSw; (try dsimp only at hSw); go_split_ands; go_simp; (try exact rfl))
            try simp only [Act.put, List.setIfInBounds_toArray, List.set_cons_zero, List.set_cons_succ]
            refine wpAnyH_done (by kernel_rfl) ?_ _
            refine NoPanic.normal ?_
            go_wp2
            go_roundw
            case rel => exact ⟨k + 1, KL.out.2, KL.out.1, by go_num, HB16.out⟩
            case measure => simp [intOf]; have := KL.out.2; omega
          | true =>
            by_cases hlt2 : top < LT
            · have hce : CE = 2 := by rw [HCK, if_neg (by simp), if_pos hlt2]
              subst hce
              have hd : decide (top < LT) = true := decide_eq_true hlt2
              clear HCK hlt2
              go_wp2_with (first | (go_at_call 12; refine (RI.out _ HO8'.out).mono ?_; rintro e w9 ⟨rfl, hb9⟩; have B79 := Lib.hid (B78'.out.below hb9 B78'.out.lt); have B89 := Lib.hid (B88'.out.below hb9 B88'.out.lt); have HO9 := Lib.hid (Eo.below HO8'.out hb9); have HY9 := Lib.hid (Eo.below HY8'.out hb9); have HB9 := Lib.hid (HB8.out.trans (hb9.mono HB8.out.size)); clear hb9 x0 x1 x2; obtain ⟨x0, x1, x2⟩ := C7.out _ B79.out) | (go_at_call 29; refine (LA.out _ HO9.out).mono ?_; rintro e w10 ⟨rfl, hb10⟩; have B710 := Lib.hid (B79.out.below hb10 B79.out.lt); have B810 := Lib.hid (B89.out.below hb10 B89.out.lt); have HO10 := Lib.hid (Eo.below HO9.out hb10); have HY10 := Lib.hid (Eo.below HY9.out hb10); have HB10 := Lib.hid (HB9.out.trans (hb10.mono HB9.out.size)); clear hb10 x0 x1 x2))
              have B711 : Hid (Blk w10.drew p7 27 #[.int .u64 X.bi, .int .u64 X.bt, .slice Ax nx cx]) := Lib.hid (B710.out.drewN 1)
              have B811 : Hid (Blk w10.drew p8 27 #[.int .u64 Y.bi, .int .u64 Y.bt, .slice Ay ny cy]) := Lib.hid (B810.out.drewN 1)
              have HO11 : Hid (Eo w10.drew w.heap.size Ax nx cx X.es) := Lib.hid (Eo.below HO10.out (Below.refl _ _).drew)
              have HY11 : Hid (Eo w10.drew w.heap.size Ay ny cy Y.es) := Lib.hid (Eo.below HY10.out (Below.refl _ _).drew)
              have HB11 := Lib.hid HB10.out.drew
              have hS1 := And.intro (C7.out _ B711.out) (C8.out _ B811.out)
              have fg : (D == D) = true := by simp
              refine wp_region_noPanic ?_
              refine wp_region_held_drew (S := fun w' => (w'.cell? ⟨p7, 0, none⟩ = some (.int .u64 X.bi) ∧ w'.cell? ⟨p7, 1, none⟩ = some (.int .u64 X.bt) ∧ w'.cell? ⟨p7, 2, none⟩ = some (.slice Ax nx cx)) ∧ w'.cell? ⟨p8, 0, none⟩ = some (.int .u64 Y.bi) ∧ w'.cell? ⟨p8, 1, none⟩ = some (.int .u64 Y.bt) ∧ w'.cell? ⟨p8, 2, none⟩ = some (.slice Ay ny cy)) (by kernel_rfl) hS1 (fun hHeld => ?_)
              generalize w10.drew = w11 at *
              refine take_d (i := 0) (d := 37) (v := ?e37) rfl rfl (by kernel_rfl) (by kernel_rfl) (by kernel_rfl) (fun _ _ _ h => h) (Or.inl ⟨by kernel_rfl, ?e37h⟩) hHeld ?e37n
              case e37h => (intro w hSw; (try dsimp only at hSw); go_split_ands; go_simp; (try exact rfl))
              try simp only [Act.put, List.setIfInBounds_toArray, List.set_cons_zero, List.set_cons_succ]
              refine take_d (i := 1) (d := 38) (v := ?e38) rfl rfl (by kernel_rfl) (by kernel_rfl) (by kernel_rfl) (fun _ _ _ h => h) (Or.inl ⟨by kernel_rfl, ?e38h⟩) hHeld ?e38n
              case e38h => (intro w hSw; (try dsimp only at hSw); go_split_ands; go_simp; (try exact rfl))
              try simp only [Act.put, List.setIfInBounds_toArray, List.set_cons_zero, List.set_cons_succ]
              refine take_d (i := 3) (d := 40) (v := ?e40) rfl rfl (by kernel_rfl) (by kernel_rfl) (by kernel_rfl) (fun _ _ _ h => h) (Or.inl ⟨by kernel_rfl, ?e40h⟩) hHeld ?e40n
              case e40h => (intro w hSw; (try dsimp only at hSw); go_split_ands; go_simp; (try exact rfl))
              try simp only [Act.put, List.setIfInBounds_toArray, List.set_cons_zero, List.set_cons_succ]
              refine wpAnyH_ready (rs := [2]) (by kernel_rfl) (by simp) ?_
              refine AllReadyH.cons rfl (fun K hK => ?_) AllReadyH.nil
              go_simp
              refine (CK.out _ HO11.out).mono ?_
              rintro e w12 ⟨rfl, hb12⟩
              have B712 := Lib.hid (B711.out.below hb12 B711.out.lt)
              have B812 := Lib.hid (B811.out.below hb12 B811.out.lt)
              have HO12 := Lib.hid (Eo.below HO11.out hb12)
              have HY12 := Lib.hid (Eo.below HY11.out hb12)
              have HB12 := Lib.hid (HB11.out.trans (hb12.mono HB11.out.size))
              clear hb12
              refine hK.out _ _ (⟨C7.out _ B712.out, C8.out _ B812.out⟩) (fun hHeld => ?_)
              clear hK K
              try simp only [Act.put, List.setIfInBounds_toArray, List.set_cons_zero, List.set_cons_succ]
              refine take_d (i := 4) (d := 41) (v := ?e41) rfl rfl (by kernel_rfl) (by kernel_rfl) (by kernel_rfl) (fun _ _ _ h => h) (Or.inl ⟨by kernel_rfl, ?e41h⟩) hHeld ?e41n
              case e41h => (intro w hSw; (try dsimp only at hSw); go_split_ands; go_simp; (try exact rfl))
              try simp only [Act.put, List.setIfInBounds_toArray, List.set_cons_zero, List.set_cons_succ]
              refine take_d (i := 5) (d := 42) (v := ?e42) rfl rfl (by kernel_rfl) (by kernel_rfl) (by kernel_rfl) (fun _ _ _ h => h) (Or.inl ⟨by kernel_rfl, ?e42h⟩) hHeld ?e42n
              case e42h => (intro w hSw; (try dsimp only at hSw); go_split_ands; go_simp; (try exact rfl))
              try simp only [Act.put, List.setIfInBounds_toArray, List.set_cons_zero, List.set_cons_succ]
              refine take_d (i := 6) (d := 43) (v := ?e43) rfl rfl (by kernel_rfl) (by kernel_rfl) (by kernel_rfl) (fun _ _ _ h => h) (Or.inl ⟨by kernel_rfl, ?e43h⟩) hHeld ?e43n
              case e43h => (intro w hSw; (try dsimp only at hSw); go_split_ands; go_simp; (try exact rfl))
              try simp only [Act.put, List.setIfInBounds_toArray, List.set_cons_zero, List.set_cons_succ]
              refine take_d (i := 7) (d := 44) (v := ?e44) rfl rfl (by kernel_rfl) (by kernel_rfl) (by kernel_rfl) (fun _ _ _ h => h) (Or.inl ⟨by kernel_rfl, ?e44h⟩) hHeld ?e44n
              case e44h => (intro w hSw; (try dsimp only at hSw); go_split_ands; go_simp; (try exact rfl))
              try simp only [Act.put, List.setIfInBounds_toArray, List.set_cons_zero, List.set_cons_succ]
              refine take_d (i := 9) (d := 46) (v := ?e46) rfl rfl (by kernel_rfl) (by kernel_rfl) (by kernel_rfl) (fun _ _ _ h => h) (Or.inl ⟨by kernel_rfl, ?e46h⟩) hHeld ?e46n
              case e46h => (intro w hSw; (try dsimp only at hSw); go_split_ands; go_simp; (try exact rfl))
              try simp only [Act.put, List.setIfInBounds_toArray, List.set_cons_zero, List.set_cons_succ]
              refine take_d (i := 10) (d := 47) (v := ?e47) rfl rfl (by kernel_rfl) (by kernel_rfl) (by kernel_rfl) (fun _ _ _ h => h) (Or.inl ⟨by kernel_rfl, ?e47h⟩) hHeld ?e47n
              case e47h => (intro w hSw; (try dsimp only at hSw); go_split_ands; go_simp; (try exact rfl))
              try simp only [Act.put, List.setIfInBounds_toArray, List.set_cons_zero, List.set_cons_succ]
              refine wpAnyH_ready (rs := [8]) (by kernel_rfl) (by simp) ?_
              refine AllReadyH.cons rfl (fun K hK => ?_) AllReadyH.nil
              go_simp
              refine (SM.out _ HO12.out HY12.out).mono ?_
              rintro e w13 ⟨rfl, hb13⟩
              have B713 := Lib.hid (B712.out.below hb13 B712.out.lt)
              have B813 := Lib.hid (B812.out.below hb13 B812.out.lt)
              have HO13 := Lib.hid (Eo.below HO12.out hb13)
              have HY13 := Lib.hid (Eo.below HY12.out hb13)
              have HB13 := Lib.hid (HB12.out.trans (hb13.mono HB12.out.size))
              clear hb13
              refine hK.out _ _ (⟨C7.out _ B713.out, C8.out _ B813.out⟩) (fun hHeld => ?_)
              clear hK K
              try simp only [Act.put, List.setIfInBounds_toArray, List.set_cons_zero, List.set_cons_succ]
              refine wpAnyH_ready (rs := [11]) (by kernel_rfl) (by simp) ?_
              refine AllReadyH.cons rfl (fun K hK => ?_) AllReadyH.nil
              go_simp
              refine (RS.out _ HO13.out HY13.out).mono ?_
              rintro e w14 ⟨rfl, hb14⟩
              have B714 := Lib.hid (B713.out.below hb14 B713.out.lt)
              have B814 := Lib.hid (B813.out.below hb14 B813.out.lt)
              have HO14 := Lib.hid (Eo.below HO13.out hb14)
              have HY14 := Lib.hid (Eo.below HY13.out hb14)
              have HB14 := Lib.hid (HB13.out.trans (hb14.mono HB13.out.size))
              clear hb14
              refine hK.out _ _ (⟨C7.out _ B714.out, C8.out _ B814.out⟩) (fun hHeld => ?_)
              clear hK K
              try simp only [Act.put, List.setIfInBounds_toArray, List.set_cons_zero, List.set_cons_succ]
              refine take_d (i := 12) (d := 49) (v := ?e49) rfl rfl (by kernel_rfl) (by kernel_rfl) (by kernel_rfl) (fun _ _ _ h => h) (Or.inl ⟨by kernel_rfl, ?e49h⟩) hHeld ?e49n
              case e49h => (intro w hSw; (try dsimp only at hSw); go_split_ands; go_simp; (try exact rfl))
              try simp only [Act.put, List.setIfInBounds_toArray, List.set_cons_zero, List.set_cons_succ]
              refine take_d (i := 13) (d := 50) (v := ?e50) rfl rfl (by kernel_rfl) (by kernel_rfl) (by kernel_rfl) (fun _ _ _ h => h) (Or.inl ⟨by kernel_rfl, ?e50h⟩) hHeld ?e50n
              case e50h => (intro w hSw; (try dsimp only at hSw); go_split_ands; go_simp; (try exact rfl))
              try simp only [Act.put, List.setIfInBounds_toArray, List.set_cons_zero, List.set_cons_succ]
              refine take_d (i := 14) (d := 51) (v := ?e51) rfl rfl (by kernel_rfl) (by kernel_rfl) (by kernel_rfl) (fun _ _ _ h => h) (Or.inl ⟨by kernel_rfl, ?e51h⟩) hHeld ?e51n
              case e51h => (intro w hSw; (try dsimp only at hSw); go_split_ands; go_simp; (try exact rfl))
              try simp only [Act.put, List.setIfInBounds_toArray, List.set_cons_zero, List.set_cons_succ]
              refine take_d (i := 15) (d := 52) (v := ?e52) rfl rfl (by kernel_rfl) (by kernel_rfl) (by kernel_rfl) (fun _ _ _ h => h) (Or.inl ⟨by kernel_rfl, ?e52h⟩) hHeld ?e52n
              case e52h => (intro w hSw; (try dsimp only at hSw); go_split_ands; go_simp; (try exact rfl))
              try simp only [Act.put, List.setIfInBounds_toArray, List.set_cons_zero, List.set_cons_succ]
              refine take_d (i := 16) (d := 53) (v := ?e53) rfl rfl (by kernel_rfl) (by kernel_rfl) (by kernel_rfl) (fun _ _ _ h => h) (Or.inl ⟨by kernel_rfl, ?e53h⟩) hHeld ?e53n
              case e53h => (intro w hSw; (try dsimp only at hSw); go_split_ands; go_simp; (try exact rfl))
              try simp only [Act.put, List.setIfInBounds_toArray, List.set_cons_zero, List.set_cons_succ]
              refine wpAnyH_ready (rs := [17]) (by kernel_rfl) (by simp) ?_
              refine AllReadyH.cons rfl (fun K hK => ?_) AllReadyH.nil
              go_simp
              refine (OW.out _ HO14.out).mono ?_
              rintro e w15 ⟨A5, n5, c5, rfl, ho5, hb15⟩
              have B715 := Lib.hid (B714.out.below hb15 B714.out.lt)
              have B815 := Lib.hid (B814.out.below hb15 B814.out.lt)
              have HO15 := Lib.hid (Eo.below HO14.out hb15)
              have HY15 := Lib.hid (Eo.below HY14.out hb15)
              have HB15 := Lib.hid (HB14.out.trans (hb15.mono HB14.out.size))
              have HZ15 := Lib.hid ho5
              clear hb15 ho5
              refine hK.out _ _ (⟨C7.out _ B715.out, C8.out _ B815.out⟩) (fun hHeld => ?_)
              clear hK K
              try simp only [Act.put, List.setIfInBounds_toArray, List.set_cons_zero, List.set_cons_succ]
              refine wpAnyH_ready (rs := [18]) (by kernel_rfl) (by simp) ?_
              refine AllReadyH.cons rfl (fun K hK => ?_) AllReadyH.nil
              go_simp
              refine (SO.out _ HO15.out _ _ _ _ HZ15.out).mono ?_
              rintro e w16 ⟨rfl, hb16⟩
              have B716 := Lib.hid (B715.out.below hb16 B715.out.lt)
              have B816 := Lib.hid (B815.out.below hb16 B815.out.lt)
              have HO16 := Lib.hid (Eo.below HO15.out hb16)
              have HY16 := Lib.hid (Eo.below HY15.out hb16)
              have HB16 := Lib.hid (HB15.out.trans (hb16.mono HB15.out.size))
              clear hb16
              refine hK.out _ _ (⟨C7.out _ B716.out, C8.out _ B816.out⟩) (fun hHeld => ?_)
              clear hK K
              try simp only [Act.put, List.setIfInBounds_toArray, List.set_cons_zero, List.set_cons_succ]
              refine take_d (i := 19) (d := 56) (v := ?e56) rfl rfl (by kernel_rfl) (by kernel_rfl) (by kernel_rfl) (fun _ _ _ h => h) (Or.inl ⟨by kernel_rfl, ?e56h⟩) hHeld ?e56n
              case e56h => (intro w hSw; (try dsimp only at hSw); go_split_ands; go_simp; (try exact rfl))
              try simp only [Act.put, List.setIfInBounds_toArray, List.set_cons_zero, List.set_cons_succ]
              refine take_d (i := 20) (d := 57) (v := ?e57) rfl rfl (by kernel_rfl) (by kernel_rfl) (by kernel_rfl) (fun _ _ _ h => h) (Or.inl ⟨by kernel_rfl, ?e57h⟩) hHeld ?e57n
              case e57h => (intro w hSw; (try dsimp only at hSw); go_split_ands; go_simp; (try exact rfl))
              try simp only [Act.put, List.setIfInBounds_toArray, List.set_cons_zero, List.set_cons_succ]
              refine wpAnyH_done (by kernel_rfl) ?_ _
              refine NoPanic.normal ?_
              go_wp2
              go_roundw
              case rel => exact ⟨k + 1, KL.out.2, KL.out.1, by go_num, HB16.out⟩
              case measure => simp [intOf]; have := KL.out.2; omega
            · have hce : CE = 0 := by rw [HCK, if_neg (by simp), if_neg hlt2]
              subst hce
              have hd : decide (top < LT) = false := decide_eq_false hlt2
              clear HCK hlt2
              go_wp2_with (first | (go_at_call 12; refine (RI.out _ HO8'.out).mono ?_; rintro e w9 ⟨rfl, hb9⟩; have B79 := Lib.hid (B78'.out.below hb9 B78'.out.lt); have B89 := Lib.hid (B88'.out.below hb9 B88'.out.lt); have HO9 := Lib.hid (Eo.below HO8'.out hb9); have HY9 := Lib.hid (Eo.below HY8'.out hb9); have HB9 := Lib.hid (HB8.out.trans (hb9.mono HB8.out.size)); clear hb9 x0 x1 x2; obtain ⟨x0, x1, x2⟩ := C7.out _ B79.out) | (go_at_call 29; refine (LA.out _ HO9.out).mono ?_; rintro e w10 ⟨rfl, hb10⟩; have B710 := Lib.hid (B79.out.below hb10 B79.out.lt); have B810 := Lib.hid (B89.out.below hb10 B89.out.lt); have HO10 := Lib.hid (Eo.below HO9.out hb10); have HY10 := Lib.hid (Eo.below HY9.out hb10); have HB10 := Lib.hid (HB9.out.trans (hb10.mono HB9.out.size)); clear hb10 x0 x1 x2))
              have B711 : Hid (Blk w10.drew p7 27 #[.int .u64 X.bi, .int .u64 X.bt, .slice Ax nx cx]) := Lib.hid (B710.out.drewN 1)
              have B811 : Hid (Blk w10.drew p8 27 #[.int .u64 Y.bi, .int .u64 Y.bt, .slice Ay ny cy]) := Lib.hid (B810.out.drewN 1)
              have HO11 : Hid (Eo w10.drew w.heap.size Ax nx cx X.es) := Lib.hid (Eo.below HO10.out (Below.refl _ _).drew)
              have HY11 : Hid (Eo w10.drew w.heap.size Ay ny cy Y.es) := Lib.hid (Eo.below HY10.out (Below.refl _ _).drew)
              have HB11 := Lib.hid HB10.out.drew
              have hS1 := And.intro (C7.out _ B711.out) (C8.out _ B811.out)
              have fg : (D == D) = true := by simp
              refine wp_region_noPanic ?_
              refine wp_region_held_drew (S := fun w' => (w'.cell? ⟨p7, 0, none⟩ = some (.int .u64 X.bi) ∧ w'.cell? ⟨p7, 1, none⟩ = some (.int .u64 X.bt) ∧ w'.cell? ⟨p7, 2, none⟩ = some (.slice Ax nx cx)) ∧ w'.cell? ⟨p8, 0, none⟩ = some (.int .u64 Y.bi) ∧ w'.cell? ⟨p8, 1, none⟩ = some (.int .u64 Y.bt) ∧ w'.cell? ⟨p8, 2, none⟩ = some (.slice Ay ny cy)) (by kernel_rfl) hS1 (fun hHeld => ?_)
              generalize w10.drew = w11 at *
              refine take_d (i := 0) (d := 37) (v := ?f37) rfl rfl (by kernel_rfl) (by kernel_rfl) (by kernel_rfl) (fun _ _ _ h => h) (Or.inl ⟨by kernel_rfl, ?f37h⟩) hHeld ?f37n
              case f37h => (intro w hSw; (try dsimp only at hSw); go_split_ands; go_simp; (try exact rfl))
              try simp only [Act.put, List.setIfInBounds_toArray, List.set_cons_zero, List.set_cons_succ]
              refine take_d (i := 1) (d := 38) (v := ?f38) rfl rfl (by kernel_rfl) (by kernel_rfl) (by kernel_rfl) (fun _ _ _ h => h) (Or.inl ⟨by kernel_rfl, ?f38h⟩) hHeld ?f38n
              case f38h => (intro w hSw; (try dsimp only at hSw); go_split_ands; go_simp; (try exact rfl))
              try simp only [Act.put, List.setIfInBounds_toArray, List.set_cons_zero, List.set_cons_succ]
              refine take_d (i := 3) (d := 40) (v := ?f40) rfl rfl (by kernel_rfl) (by kernel_rfl) (by kernel_rfl) (fun _ _ _ h => h) (Or.inl ⟨by kernel_rfl, ?f40h⟩) hHeld ?f40n
              case f40h => (intro w hSw; (try dsimp only at hSw); go_split_ands; go_simp; (try exact rfl))
              try simp only [Act.put, List.setIfInBounds_toArray, List.set_cons_zero, List.set_cons_succ]
              refine wpAnyH_ready (rs := [2]) (by kernel_rfl) (by simp) ?_
              refine AllReadyH.cons rfl (fun K hK => ?_) AllReadyH.nil
              go_simp
              refine (CK.out _ HO11.out).mono ?_
              rintro e w12 ⟨rfl, hb12⟩
              have B712 := Lib.hid (B711.out.below hb12 B711.out.lt)
              have B812 := Lib.hid (B811.out.below hb12 B811.out.lt)
              have HO12 := Lib.hid (Eo.below HO11.out hb12)
              have HY12 := Lib.hid (Eo.below HY11.out hb12)
              have HB12 := Lib.hid (HB11.out.trans (hb12.mono HB11.out.size))
              clear hb12
              refine hK.out _ _ (⟨C7.out _ B712.out, C8.out _ B812.out⟩) (fun hHeld => ?_)
              clear hK K
              try simp only [Act.put, List.setIfInBounds_toArray, List.set_cons_zero, List.set_cons_succ]
              refine take_d (i := 4) (d := 41) (v := ?f41) rfl rfl (by kernel_rfl) (by kernel_rfl) (by kernel_rfl) (fun _ _ _ h => h) (Or.inl ⟨by kernel_rfl, ?f41h⟩) hHeld ?f41n
              case f41h => (intro w hSw; (try dsimp only at hSw); go_split_ands; go_simp; (try exact rfl))
              try simp only [Act.put, List.setIfInBounds_toArray, List.set_cons_zero, List.set_cons_succ]
              refine take_d (i := 5) (d := 42) (v := ?f42) rfl rfl (by kernel_rfl) (by kernel_rfl) (by kernel_rfl) (fun _ _ _ h => h) (Or.inl ⟨by kernel_rfl, ?f42h⟩) hHeld ?f42n
              case f42h => (intro w hSw; (try dsimp only at hSw); go_split_ands; go_simp; (try exact rfl))
              try simp only [Act.put, List.setIfInBounds_toArray, List.set_cons_zero, List.set_cons_succ]
              refine take_d (i := 6) (d := 43) (v := ?f43) rfl rfl (by kernel_rfl) (by kernel_rfl) (by kernel_rfl) (fun _ _ _ h => h) (Or.inl ⟨by kernel_rfl, ?f43h⟩) hHeld ?f43n
              case f43h => (intro w hSw; (try dsimp only at hSw); go_split_ands; go_simp; (try exact rfl))
              try simp only [Act.put, List.setIfInBounds_toArray, List.set_cons_zero, List.set_cons_succ]
              refine take_d (i := 7) (d := 44) (v := ?f44) rfl rfl (by kernel_rfl) (by kernel_rfl) (by kernel_rfl) (fun _ _ _ h => h) (Or.inl ⟨by kernel_rfl, ?f44h⟩) hHeld ?f44n
              case f44h => (intro w hSw; (try dsimp only at hSw); go_split_ands; go_simp; (try exact rfl))
              try simp only [Act.put, List.setIfInBounds_toArray, List.set_cons_zero, List.set_cons_succ]
              refine take_d (i := 9) (d := 46) (v := ?f46) rfl rfl (by kernel_rfl) (by kernel_rfl) (by kernel_rfl) (fun _ _ _ h => h) (Or.inl ⟨by kernel_rfl, ?f46h⟩) hHeld ?f46n
              case f46h => (intro w hSw; (try dsimp only at hSw); go_split_ands; go_simp; (try exact rfl))
              try simp only [Act.put, List.setIfInBounds_toArray, List.set_cons_zero, List.set_cons_succ]
              refine take_d (i := 10) (d := 47) (v := ?f47) rfl rfl (by kernel_rfl) (by kernel_rfl) (by kernel_rfl) (fun _ _ _ h => h) (Or.inl ⟨by kernel_rfl, ?f47h⟩) hHeld ?f47n
              case f47h => (intro w hSw; (try dsimp only at hSw); go_split_ands; go_simp; (try exact rfl))
              try simp only [Act.put, List.setIfInBounds_toArray, List.set_cons_zero, List.set_cons_succ]
              refine wpAnyH_ready (rs := [8]) (by kernel_rfl) (by simp) ?_
              refine AllReadyH.cons rfl (fun K hK => ?_) AllReadyH.nil
              go_simp
              refine (SM.out _ HO12.out HY12.out).mono ?_
              rintro e w13 ⟨rfl, hb13⟩
              have B713 := Lib.hid (B712.out.below hb13 B712.out.lt)
              have B813 := Lib.hid (B812.out.below hb13 B812.out.lt)
              have HO13 := Lib.hid (Eo.below HO12.out hb13)
              have HY13 := Lib.hid (Eo.below HY12.out hb13)
              have HB13 := Lib.hid (HB12.out.trans (hb13.mono HB12.out.size))
              clear hb13
              refine hK.out _ _ (⟨C7.out _ B713.out, C8.out _ B813.out⟩) (fun hHeld => ?_)
              clear hK K
              try simp only [Act.put, List.setIfInBounds_toArray, List.set_cons_zero, List.set_cons_succ]
              refine wpAnyH_ready (rs := [11]) (by kernel_rfl) (by simp) ?_
              refine AllReadyH.cons rfl (fun K hK => ?_) AllReadyH.nil
              go_simp
              refine (RS.out _ HO13.out HY13.out).mono ?_
              rintro e w14 ⟨rfl, hb14⟩
              have B714 := Lib.hid (B713.out.below hb14 B713.out.lt)
              have B814 := Lib.hid (B813.out.below hb14 B813.out.lt)
              have HO14 := Lib.hid (Eo.below HO13.out hb14)
              have HY14 := Lib.hid (Eo.below HY13.out hb14)
              have HB14 := Lib.hid (HB13.out.trans (hb14.mono HB13.out.size))
              clear hb14
              refine hK.out _ _ (⟨C7.out _ B714.out, C8.out _ B814.out⟩) (fun hHeld => ?_)
              clear hK K
              try simp only [Act.put, List.setIfInBounds_toArray, List.set_cons_zero, List.set_cons_succ]
              refine take_d (i := 12) (d := 49) (v := ?f49) rfl rfl (by kernel_rfl) (by kernel_rfl) (by kernel_rfl) (fun _ _ _ h => h) (Or.inl ⟨by kernel_rfl, ?f49h⟩) hHeld ?f49n
              case f49h => (intro w hSw; (try dsimp only at hSw); go_split_ands; go_simp; (try exact rfl))
              try simp only [Act.put, List.setIfInBounds_toArray, List.set_cons_zero, List.set_cons_succ]
              refine take_d (i := 13) (d := 50) (v := ?f50) rfl rfl (by kernel_rfl) (by kernel_rfl) (by kernel_rfl) (fun _ _ _ h => h) (Or.inl ⟨by kernel_rfl, ?f50h⟩) hHeld ?f50n
              case f50h => (intro w hSw; (try dsimp only at hSw); go_split_ands; go_simp; (try exact rfl))
              try simp only [Act.put, List.setIfInBounds_toArray, List.set_cons_zero, List.set_cons_succ]
              refine take_d (i := 14) (d := 51) (v := ?f51) rfl rfl (by kernel_rfl) (by kernel_rfl) (by kernel_rfl) (fun _ _ _ h => h) (Or.inl ⟨by kernel_rfl, ?f51h⟩) hHeld ?f51n
              case f51h => (intro w hSw; (try dsimp only at hSw); go_split_ands; go_simp; (try exact rfl))
              try simp only [Act.put, List.setIfInBounds_toArray, List.set_cons_zero, List.set_cons_succ]
              refine take_d (i := 15) (d := 52) (v := ?f52) rfl rfl (by kernel_rfl) (by kernel_rfl) (by kernel_rfl) (fun _ _ _ h => h) (Or.inl ⟨by kernel_rfl, ?f52h⟩) hHeld ?f52n
              case f52h => (intro w hSw; (try dsimp only at hSw); go_split_ands; go_simp; (try exact rfl))
              try simp only [Act.put, List.setIfInBounds_toArray, List.set_cons_zero, List.set_cons_succ]
              refine take_d (i := 16) (d := 53) (v := ?f53) rfl rfl (by kernel_rfl) (by kernel_rfl) (by kernel_rfl) (fun _ _ _ h => h) (Or.inl ⟨by kernel_rfl, ?f53h⟩) hHeld ?f53n
              case f53h => (intro w hSw; (try dsimp only at hSw); go_split_ands; go_simp; (try exact rfl))
              try simp only [Act.put, List.setIfInBounds_toArray, List.set_cons_zero, List.set_cons_succ]
              refine wpAnyH_ready (rs := [17]) (by kernel_rfl) (by simp) ?_
              refine AllReadyH.cons rfl (fun K hK => ?_) AllReadyH.nil
              go_simp
              refine (OW.out _ HO14.out).mono ?_
              rintro e w15 ⟨A5, n5, c5, rfl, ho5, hb15⟩
              have B715 := Lib.hid (B714.out.below hb15 B714.out.lt)
              have B815 := Lib.hid (B814.out.below hb15 B814.out.lt)
              have HO15 := Lib.hid (Eo.below HO14.out hb15)
              have HY15 := Lib.hid (Eo.below HY14.out hb15)
              have HB15 := Lib.hid (HB14.out.trans (hb15.mono HB14.out.size))
              have HZ15 := Lib.hid ho5
              clear hb15 ho5
              refine hK.out _ _ (⟨C7.out _ B715.out, C8.out _ B815.out⟩) (fun hHeld => ?_)
              clear hK K
              try simp only [Act.put, List.setIfInBounds_toArray, List.set_cons_zero, List.set_cons_succ]
              refine wpAnyH_ready (rs := [18]) (by kernel_rfl) (by simp) ?_
              refine AllReadyH.cons rfl (fun K hK => ?_) AllReadyH.nil
              go_simp
              refine (SO.out _ HO15.out _ _ _ _ HZ15.out).mono ?_
              rintro e w16 ⟨rfl, hb16⟩
              have B716 := Lib.hid (B715.out.below hb16 B715.out.lt)
              have B816 := Lib.hid (B815.out.below hb16 B815.out.lt)
              have HO16 := Lib.hid (Eo.below HO15.out hb16)
              have HY16 := Lib.hid (Eo.below HY15.out hb16)
              have HB16 := Lib.hid (HB15.out.trans (hb16.mono HB15.out.size))
              clear hb16
              refine hK.out _ _ (⟨C7.out _ B716.out, C8.out _ B816.out⟩) (fun hHeld => ?_)
              clear hK K
              try simp only [Act.put, List.setIfInBounds_toArray, List.set_cons_zero, List.set_cons_succ]
              refine take_d (i := 19) (d := 56) (v := ?f56) rfl rfl (by kernel_rfl) (by kernel_rfl) (by kernel_rfl) (fun _ _ _ h => h) (Or.inl ⟨by kernel_rfl, ?f56h⟩) hHeld ?f56n
              case f56h => (intro w hSw; (try dsimp only at hSw); go_split_ands; go_simp; (try exact rfl))
              try simp only [Act.put, List.setIfInBounds_toArray, List.set_cons_zero, List.set_cons_succ]
              refine take_d (i := 20) (d := 57) (v := ?f57) rfl rfl (by kernel_rfl) (by kernel_rfl) (by kernel_rfl) (fun _ _ _ h => h) (Or.inl ⟨by kernel_rfl, ?f57h⟩) hHeld ?f57n
              case f57h => (intro w hSw; (try dsimp only at hSw); go_split_ands; go_simp; (try exact rfl))
              try simp only [Act.put, List.setIfInBounds_toArray, List.set_cons_zero, List.set_cons_succ]
              refine wpAnyH_done (by kernel_rfl) ?_ _
              refine NoPanic.normal ?_
              go_wp2
              go_roundw
              case rel => exact ⟨k + 1, KL.out.2, KL.out.1, by go_num, HB16.out⟩
              case measure => simp [intOf]; have := KL.out.2; omega
    · obtain rfl : k = n := by omega
      have HBW := Lib.hid hb
      clear hb
      go_wp2
      go_ret
      exact ⟨rfl, HBW.out⟩

end Go.Proofs.Ytmgaihdepglahaa
