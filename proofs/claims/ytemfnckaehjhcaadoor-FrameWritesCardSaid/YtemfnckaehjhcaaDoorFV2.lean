/-
  Messages that can be gone through, in memory of their own: few.
-/
import Derived.Test.YtemfnckaehjhcaaDoorFV
namespace Go.Proofs.YtemfnckaehjhcaaDoor
open Go.RowKit
attribute [local go_sem ↓] eqA neA eqGA field1

theorem Tryd.info56 : (Tryd.prog.info? 56).map (fun i => (i.zero, i.size, i.bytes)) = some (some (.agg #[.int .u64 0, .int .i64 0, .slice none 0 0]), 3, 40) := by kernel_rfl
theorem Tryd.i31 : (Tryd.prog.info? 31).map (·.size) = some 11 := by kernel_rfl
/-- A block kept over a growth of a row of another type. -/
theorem Blk.row {w w' : World} {g b2 n2 e2 s2 : Nat} {t : TypeId} {cs : Array Value} {v : Value} {xs : List Value} (h : Blk w g t cs) (hr : w.ownsRow b2 e2 s2 v n2 xs) (ht : e2 ≠ t) (hg : w.grownBy w' v.ownBlock) : Blk w' g t cs := by
  refine (hg.block g h.lt fun e => ?_).trans h
  rcases hr.2 with ⟨rfl, _⟩ | ⟨g2, cap, cur, rfl, _, hh, _⟩
  · simp [Value.ownBlock] at e
  · simp only [Value.ownBlock, Option.some.injEq] at e
    subst e
    unfold Blk at h
    rw [h] at hh
    injection hh with hh
    injection hh with _ h2 _
    exact ht h2.symm
theorem Own.row {w w' : World} {base b2 n2 n c s2 : Nat} {A : Option Addr} {zs : List Int} {v : Value} {xs : List Value} (h : Own w base A n c zs) (hr : w.ownsRow b2 56 s2 v n2 xs) (hg : w.grownBy w' v.ownBlock) : Own w' base A n c zs := by
  refine ⟨⟨h.1.1, ?_⟩, h.2⟩
  rcases h.1.2 with hv | ⟨g, cap, cur, hv, hbs, hh, r⟩
  · exact .inl hv
  · exact .inr ⟨g, cap, cur, hv, hbs, Blk.row (w := w) (g := g) (t := 5) (cs := cur) hh hr (by decide) hg, r⟩
theorem Own.far {w : World} {base n c : Nat} {A : Option Addr} {zs : List Int} (h : Own w base A n c zs) {g : Nat} {t : TypeId} {cs : Array Value} (hg : Blk w g t cs) (ht : 5 ≠ t) (j : Nat) (v : Value) : Own (w.setCell ⟨g, j, none⟩ v) base A n c zs :=
  ⟨World.ownsRow.only h.1 hg ht (setCell_only w g j v), h.2⟩

theorem Eo.only {w w' : World} {base n c g : Nat} {A : Option Addr} {es : List En} {t : TypeId} {cs : Array Value} (h : Eo w base A n c es) (hg : Blk w g t cs) (h56 : 56 ≠ t) (h5 : 5 ≠ t) (ho : Only g w w') : Eo w' base A n c es := by
  obtain ⟨xs, h1, h2, h3⟩ := h
  exact ⟨xs, h1, World.ownsRow.only h2 hg h56 ho, fun x hx => ⟨⟨World.ownsRow.only (h3 x hx).1.1 hg h5 ho, (h3 x hx).1.2⟩, (h3 x hx).2⟩⟩
theorem Eo.far {w : World} {base n c g : Nat} {A : Option Addr} {es : List En} {t : TypeId} {cs : Array Value} (h : Eo w base A n c es) (hg : Blk w g t cs) (h56 : 56 ≠ t) (h5 : 5 ≠ t) (j : Nat) (v : Value) : Eo (w.setCell ⟨g, j, none⟩ v) base A n c es := h.only hg h56 h5 (setCell_only w g j v)

/-- What few leaves: a message of its own. -/
def Fewd (w : World) (m : Ms) (e : Ending) (w' : World) : Prop :=
  ∃ A n c A1 n1 c1 A2 n2 c2, e = .returned (.agg #[.int .i64 m.kind, .int .i64 m.fr, .int .i64 m.to, .int .u64 m.t, .int .u64 m.pi, .int .u64 m.pt, .slice A n c, .int .u64 m.co, .bool m.ok, .slice A1 n1 c1, .slice A2 n2 c2]) ∧
    Eo w' w.heap.size A n c m.es ∧ Ios w' w.heap.size A1 n1 c1 m.mem ∧ Own w' w.heap.size A2 n2 c2 m.da ∧ Below w.heap.size w w'
/-- A message that came in. -/
structure Min (w : World) (B : Nat) (kind fr to t pi pt co : Int) (ok : Bool) (A : Option Addr) (n c : Nat) (A1 : Option Addr) (n1 c1 : Nat) (A2 : Option Addr) (n2 c2 : Nat) (xs : List Ec) (mem da : List Int) : Prop where
  es : Ein w B A n xs
  mem : Is w B A1 n1 mem
  nc1 : n1 ≤ c1
  cm1 : c1 ≤ 9223372036854775807
  da : By w B A2 n2 da
  nc2 : n2 ≤ c2
  cm2 : c2 ≤ 9223372036854775807
  n : n ≤ 9223372036854775807

set_option maxRecDepth 100000 in
set_option maxHeartbeats 20000000 in
theorem few_any (kind fr to t pi pt co : Int) (ok : Bool) (A : Option Addr) (n c : Nat) (A1 : Option Addr) (n1 c1 : Nat) (A2 : Option Addr) (n2 c2 : Nat) (xs : List Ec) (mem da : List Int) (B : Nat) (w : World)
    (h : Min w B kind fr to t pi pt co ok A n c A1 n1 c1 A2 n2 c2 xs mem da) (hB : B ≤ w.heap.size) :
    Calls Tryd.prog 9 #[.agg #[.int .i64 kind, .int .i64 fr, .int .i64 to, .int .u64 t, .int .u64 pi, .int .u64 pt, .slice A n c, .int .u64 co, .bool ok, .slice A1 n1 c1, .slice A2 n2 c2]] w (Fewd w (fewM ⟨kind, fr, to, t, pi, pt, xs.map Ec.en, co, ok, mem, da⟩)) := by
  obtain ⟨hes, hmem, hnc1, hcm1, hda, hnc2, hcm2, hn63⟩ := h
  obtain ⟨i0, hi, hz0, hz1, hz2⟩ := info_parts Tryd.info56
  have HI := Lib.hid hi
  have HZ := Lib.hid hz0
  have HI1 := Lib.hid hz1
  have HI2 := Lib.hid hz2
  clear hi hz0 hz1 hz2
  have H := Lib.hid hes
  have HL := Lib.hid hes.1
  have HM := Lib.hid hmem
  have HD := Lib.hid hda
  clear hes hmem hda
  have hs1 : (w.alloc (.cells #[.int .i64 kind, .int .i64 fr, .int .i64 to, .int .u64 t, .int .u64 pi, .int .u64 pt, .slice A n c, .int .u64 co, .bool ok, .slice A1 n1 c1, .slice A2 n2 c2] 31)).heap.size = w.heap.size + 1 := by simp
  have X0 : Hid (Blk ((w.alloc (.cells #[.int .i64 kind, .int .i64 fr, .int .i64 to, .int .u64 t, .int .u64 pi, .int .u64 pt, .slice A n c, .int .u64 co, .bool ok, .slice A1 n1 c1, .slice A2 n2 c2] 31)).alloc (.cells #[.int .i64 0, .int .i64 0, .int .i64 0, .int .u64 0, .int .u64 0, .int .u64 0, .slice none 0 0, .int .u64 0, .bool false, .slice none 0 0, .slice none 0 0] 31)) w.heap.size 31 #[.int .i64 kind, .int .i64 fr, .int .i64 to, .int .u64 t, .int .u64 pi, .int .u64 pt, .slice A n c, .int .u64 co, .bool ok, .slice A1 n1 c1, .slice A2 n2 c2]) := Lib.hid ((Blk.new w 31 _).alloc _)
  have Y0 : Hid (Blk ((w.alloc (.cells #[.int .i64 kind, .int .i64 fr, .int .i64 to, .int .u64 t, .int .u64 pi, .int .u64 pt, .slice A n c, .int .u64 co, .bool ok, .slice A1 n1 c1, .slice A2 n2 c2] 31)).alloc (.cells #[.int .i64 0, .int .i64 0, .int .i64 0, .int .u64 0, .int .u64 0, .int .u64 0, .slice none 0 0, .int .u64 0, .bool false, .slice none 0 0, .slice none 0 0] 31)) (w.heap.size + 1) 31 #[.int .i64 0, .int .i64 0, .int .i64 0, .int .u64 0, .int .u64 0, .int .u64 0, .slice none 0 0, .int .u64 0, .bool false, .slice none 0 0, .slice none 0 0]) := Lib.hid (by rw [← hs1]; exact Blk.new _ 31 _)
  have B0 : Hid (Below w.heap.size w ((w.alloc (.cells #[.int .i64 kind, .int .i64 fr, .int .i64 to, .int .u64 t, .int .u64 pi, .int .u64 pt, .slice A n c, .int .u64 co, .bool ok, .slice A1 n1 c1, .slice A2 n2 c2] 31)).alloc (.cells #[.int .i64 0, .int .i64 0, .int .i64 0, .int .u64 0, .int .u64 0, .int .u64 0, .slice none 0 0, .int .u64 0, .bool false, .slice none 0 0, .slice none 0 0] 31))) := Lib.hid (((Below.refl _ _).alloc (Nat.le_refl _) _).alloc (by simp) _)
  clear hs1
  go_enter Tryd.func9, Tryd.ntmps9
  go_upto_region 2 with (fail)
  generalize (w.alloc (.cells #[.int .i64 kind, .int .i64 fr, .int .i64 to, .int .u64 t, .int .u64 pi, .int .u64 pt, .slice A n c, .int .u64 co, .bool ok, .slice A1 n1 c1, .slice A2 n2 c2] 31)).alloc (.cells #[.int .i64 0, .int .i64 0, .int .i64 0, .int .u64 0, .int .u64 0, .int .u64 0, .slice none 0 0, .int .u64 0, .bool false, .slice none 0 0, .slice none 0 0] 31) = W at *
  have d6 : W.cell? ⟨w.heap.size, 6, none⟩ = some (.slice A n c) := X0.out.cell 6
  go_wp2_with (fail)
  clear d6
  go_loopw [3, 9] (fun v i wr => ∃ k : Nat, k ≤ n ∧ i = .int .i64 k ∧ ∃ Av kv cv, kv = min k 9 ∧ v = .slice Av kv cv ∧ Eo wr w.heap.size Av kv cv (fewE ((xs.take k).map Ec.en)) ∧ Below w.heap.size w wr ∧ Blk wr w.heap.size 31 #[.int .i64 kind, .int .i64 fr, .int .i64 to, .int .u64 t, .int .u64 pi, .int .u64 pt, .slice A n c, .int .u64 co, .bool ok, .slice A1 n1 c1, .slice A2 n2 c2] ∧ Blk wr (w.heap.size + 1) 31 #[.int .i64 0, .int .i64 0, .int .i64 0, .int .u64 0, .int .u64 0, .int .u64 0, .slice none 0 0, .int .u64 0, .bool false, .slice none 0 0, .slice none 0 0]) (fun _ i _ => n - (intOf i).toNat)
  case atStart => exact ⟨0, Nat.zero_le _, rfl, none, 0, 0, rfl, rfl, Eo.nothing _ _, B0.out, X0.out, Y0.out⟩
  case round =>
    obtain ⟨k, hk, rfl, Av, kv, cv, hkv, rfl, hoo, hb, hx, hy⟩ := hrel
    have HKV := Lib.hid hkv
    have HO := Lib.hid hoo
    have HBW := Lib.hid hb
    have HX := Lib.hid hx
    have HY := Lib.hid hy
    clear hoo hb hx hy hkv X0 Y0 B0
    by_cases hlt : k < n
    · obtain ⟨b, o, rfl, hbB, hrg⟩ := (H.out.below (HBW.out.mono hB)).2.2 (by omega)
      have hxk : xs[k]? = some (xs[k]'(by rw [HL.out]; exact hlt)) := List.getElem?_eq_getElem _
      generalize xs[k]'(by rw [HL.out]; exact hlt) = x at hxk
      have hrr : wr.rangeAt b (o + k * 3) x.cs := fun i v hi => by rw [Nat.add_assoc]; exact hrg _ _ ((rowE_at xs k i _ hxk (List.getElem?_eq_some_iff.1 hi).1).trans hi)
      obtain ⟨c0, c1, c2⟩ := rng3 hrr
      have hraw := (H.out.below (HBW.out.mono hB)).2.1 x (List.mem_of_getElem? hxk)
      have XK := Lib.hid hxk
      obtain ⟨xt, xk, xA, xn, xc, xd⟩ := x
      have RAW := Lib.hid hraw
      simp only at c0 c1 c2
      have k0 : (0 : Int) ≤ (k : Int) := by omega
      clear hrg hrr hxk hraw
      have EB : Hid (Blk (wr.alloc (.cells #[.int .u64 xt, .int .i64 xk, .slice xA xn xc] 56)) wr.heap.size 56 #[.int .u64 xt, .int .i64 xk, .slice xA xn xc]) := Lib.hid (Blk.new wr 56 _)
      have F1 : Hid (Below wr.heap.size wr (wr.alloc (.cells #[.int .u64 xt, .int .i64 xk, .slice xA xn xc] 56))) := Lib.hid ((Below.refl _ _).alloc (Nat.le_refl _) _)
      by_cases h9 : k < 9
      · have hd9 : decide ((k : Int) ≤ 8) = true := decide_eq_true (by omega)
        have htk := Lib.hid (fewE_succ XK.out h9)
        obtain ⟨mm, hmm⟩ : ∃ mm, min xn 1500 = mm := ⟨_, rfl⟩
        have hmin : min (xn : Int) 1500 = (mm : Int) := by omega
        have m0 : (0 : Int) ≤ (mm : Int) := by omega
        have mx : mm ≤ xn := by omega
        have m15 : mm ≤ 1500 := by omega
        have mxc : (mm : Int) ≤ (xc : Int) := by have := RAW.out.nc; simp only at this; omega
        have MT : Hid (xd.take mm = xd.take 1500) := Lib.hid (by
          have hl : xd.length = xn := RAW.out.by_.1
          by_cases hc : xn ≤ 1500
          · rw [List.take_of_length_le (by omega), List.take_of_length_le (by omega)]
          · rw [show mm = 1500 by omega])
        clear hmm
        go_upto_region 6 with (fail)
        generalize wr.alloc (.cells #[.int .u64 xt, .int .i64 xk, .slice xA xn xc] 56) = W1 at *
        have BY : Hid (By W1 B xA mm (xd.take mm)) := Lib.hid ((RAW.out.by_.below (F1.out.mono (Nat.le_trans hB HBW.out.size))).take mx)
        have e2 : W1.cell? ⟨wr.heap.size, 2, none⟩ = some (.slice xA xn xc) := EB.out.cell 2
        clear c0 c1 c2
        go_upto_region 7 with (go_at_call 24; refine (clone_any xA mm xc (xd.take mm) W1 B BY.out (by omega)).mono ?_; rintro e w6 ⟨A6, c6, rfl, o6, hb6⟩; have O6 := Lib.hid o6; have E6 := Lib.hid (EB.out.below hb6 EB.out.lt); have F6 := Lib.hid (F1.out.trans (hb6.mono F1.out.size)); have e2' : w6.cell? ⟨wr.heap.size, 2, none⟩ = some (.slice xA xn xc) := E6.out.cell 2; have f2' := E6.out.frozen 2; clear o6 hb6 BY e2)
        have hE7 : Blk (w6.setCell ⟨wr.heap.size, 2, none⟩ (.slice A6 mm c6)) wr.heap.size 56 #[.int .u64 xt, .int .i64 xk, .slice A6 mm c6] := E6.out.set_ 2 _
        have hO7 : Own (w6.setCell ⟨wr.heap.size, 2, none⟩ (.slice A6 mm c6)) wr.heap.size A6 mm c6 (xd.take mm) := (O6.out.far E6.out (by decide) 2 _).down F1.out.size
        have hF7 : Below wr.heap.size wr (w6.setCell ⟨wr.heap.size, 2, none⟩ (.slice A6 mm c6)) := F6.out.setCell (p := ⟨wr.heap.size, 2, none⟩) (Nat.le_refl _) _
        clear O6 E6 F6 EB F1 e2' f2'
        generalize w6.setCell ⟨wr.heap.size, 2, none⟩ (.slice A6 mm c6) = w7 at *
        have e0 : w7.cell? ⟨wr.heap.size, 0, none⟩ = some (.int .u64 xt) := hE7.cell 0
        have e1 : w7.cell? ⟨wr.heap.size, 1, none⟩ = some (.int .i64 xk) := hE7.cell 1
        have e2 : w7.cell? ⟨wr.heap.size, 2, none⟩ = some (.slice A6 mm c6) := hE7.cell 2
        have hF8 := hF7.alloc hF7.size (.cells #[.int .u64 xt, .int .i64 xk, .slice A6 mm c6] 56)
        have hB8 := Blk.new w7 56 #[.int .u64 xt, .int .i64 xk, .slice A6 mm c6]
        have E8 := Eo.below HO.out hF8
        have O8 := (hO7.alloc (.cells #[.int .u64 xt, .int .i64 xk, .slice A6 mm c6] 56)).down HBW.out.size
        have L8 := HBW.out.trans (hF8.mono HBW.out.size)
        have X8 := HX.out.below hF8 HX.out.lt
        have Y8 := HY.out.below hF8 HY.out.lt
        obtain ⟨ys, hy1, hy2, hy3⟩ := E8
        have HY1 := Lib.hid hy1
        have HY2 := Lib.hid hy2
        have HY3 := Lib.hid hy3
        have HO8 := Lib.hid O8
        have HL8 := Lib.hid L8
        have HX8 := Lib.hid X8
        have HYY := Lib.hid Y8
        have HB8 := Lib.hid hB8
        have kv8 : kv ≤ 8 := by have := HKV.out; omega
        clear hE7 hO7 hF7 hF8 hB8 O8 L8 X8 Y8 hy1 hy2 hy3
        go_wp2_with (at_builtin; refine wpList_append_lies _ rfl (.tmp 25) (.tmp 27) 25 rfl w.heap.size 56 i0 _ 3 40 Tryd.underlying25 HI.out HZ.out HI1.out HI2.out rfl (by decide) _ kv (rowE ys) rfl HY2.out ⟨w7.heap.size, 0, none⟩ 1 1 [.int .u64 xt, .int .i64 xk, .slice A6 mm c6] rfl rfl (fun j u hu => by rw [add_at, Nat.zero_add, HB8.out.cell, List.getElem?_toArray]; exact hu) (by simp [Value.oneCell']) (by decide) (by unfold maxLen; omega) (by omega) HL8.out.size _ rfl ?_; intro g9 cap9 w9 hown9 hg9 hat9 hlt9; have HW9 := Lib.hid hown9; have HG9 := Lib.hid hg9; clear hown9 hg9 hat9 hlt9)
        have L9 := HL8.out.grown HG9.out HL8.out.size (fun kk hk2 => (HY2.out.lt kk hk2).1)
        have E9 : Eo w9 w.heap.size (some ⟨g9, 0, none⟩) (kv + 1) cap9 (fewE ((xs.take (k + 1)).map Ec.en)) := ⟨ys ++ [⟨xt, xk, A6, mm, c6, xd.take mm⟩], by rw [List.map_append, HY1.out, htk.out]; show _ ++ [(⟨xt, xk, xd.take mm⟩ : En)] = _; rw [MT.out]; rfl, by rw [rowE_append]; exact HW9.out, fun x hx => (List.mem_append.1 hx).elim (fun hx => ⟨(HY3.out x hx).1.row HY2.out HG9.out, (HY3.out x hx).2⟩) (fun hx => by rw [List.mem_singleton.1 hx]; exact ⟨HO8.out.row HY2.out HG9.out, (show mm ≤ 100000 by omega), RAW.out.t0, RAW.out.t1⟩)⟩
        have X9 := HX8.out.row HY2.out (by decide) HG9.out
        have Y9 := HYY.out.row HY2.out (by decide) HG9.out
        have kv1 : kv + 1 = min (k + 1) 9 := by have := HKV.out; omega
        go_roundw
        case rel => exact ⟨k + 1, by omega, by go_num, _, _, _, kv1, rfl, E9, L9, X9, Y9⟩
        case measure => simp [intOf]; omega
      · have hd9 : decide ((k : Int) ≤ 8) = false := decide_eq_false (by omega)
        go_wp2_with (fail)
        go_roundw
        case rel => exact ⟨k + 1, by omega, by go_num, Av, kv, cv, by have := HKV.out; omega, rfl, by rw [fewE_more xs (show 9 ≤ k + 1 by omega), ← fewE_more xs (show 9 ≤ k by omega)]; exact Eo.below HO.out F1.out, HBW.out.trans (F1.out.mono HBW.out.size), HX.out.below F1.out HX.out.lt, HY.out.below F1.out HY.out.lt⟩
        case measure => simp [intOf]; omega
    · obtain rfl : k = n := by omega
      have hall : fewE ((xs.take k).map Ec.en) = fewE (xs.map Ec.en) := by rw [List.take_of_length_le (by rw [HL.out]; exact Nat.le_refl _)]
      have HE0 := Lib.hid (show Eo wr w.heap.size Av kv cv (fewE (xs.map Ec.en)) by rw [← hall]; exact HO.out)
      clear hall HO
      have d6 : wr.cell? ⟨w.heap.size, 6, none⟩ = some (.slice A k c) := HX.out.cell 6
      have f6 := HX.out.frozen 6
      go_upto_region 10 with (fail)
      have X1 : Hid (Blk (wr.setCell ⟨w.heap.size, 6, none⟩ (.slice Av kv cv)) w.heap.size 31 #[.int .i64 kind, .int .i64 fr, .int .i64 to, .int .u64 t, .int .u64 pi, .int .u64 pt, .slice Av kv cv, .int .u64 co, .bool ok, .slice A1 n1 c1, .slice A2 n2 c2]) := Lib.hid (HX.out.set_ 6 _)
      have Y1 : Hid (Blk (wr.setCell ⟨w.heap.size, 6, none⟩ (.slice Av kv cv)) (w.heap.size + 1) 31 #[.int .i64 0, .int .i64 0, .int .i64 0, .int .u64 0, .int .u64 0, .int .u64 0, .slice none 0 0, .int .u64 0, .bool false, .slice none 0 0, .slice none 0 0]) := Lib.hid (HY.out.far (p := ⟨w.heap.size, 6, none⟩) (by simp) _)
      have E1 : Hid (Eo (wr.setCell ⟨w.heap.size, 6, none⟩ (.slice Av kv cv)) w.heap.size Av kv cv (fewE (xs.map Ec.en))) := Lib.hid (HE0.out.far HX.out (by decide) (by decide) 6 _)
      have B1 : Hid (Below w.heap.size w (wr.setCell ⟨w.heap.size, 6, none⟩ (.slice Av kv cv))) := Lib.hid (HBW.out.setCell (p := ⟨w.heap.size, 6, none⟩) (Nat.le_refl _) _)
      clear HE0 HX HY HBW d6 f6
      generalize wr.setCell ⟨w.heap.size, 6, none⟩ (.slice Av kv cv) = wa at *
      have d9 : wa.cell? ⟨w.heap.size, 9, none⟩ = some (.slice A1 n1 c1) := X1.out.cell 9
      obtain ⟨p1, hp1⟩ : ∃ p1 : Nat, min (n1 : Int) 6 = (p1 : Int) := ⟨min n1 6, by omega⟩
      have p11 : p1 ≤ n1 := by omega
      have p12 : p1 ≤ 6 := by omega
      have p13 : (p1 : Int) ≤ (c1 : Int) := by omega
      have p10 : (0 : Int) ≤ (p1 : Int) := by omega
      have TM := Lib.hid (show mem.take p1 = mem.take 6 by
        have hl : mem.length = n1 := HM.out.1
        by_cases hc : n1 ≤ 6
        · rw [List.take_of_length_le (by omega), List.take_of_length_le (by omega)]
        · rw [show p1 = 6 by omega])
      have IC := Lib.hid (iclone_any A1 p1 c1 B (mem.take p1) wa ((HM.out.below (B1.out.mono hB)).take p11) (by omega))
      go_upto_region 11 with (go_at_call 25; refine IC.out.mono ?_; rintro e wb ⟨A7, c7, rfl, o7, hb7⟩; have I2 := Lib.hid (o7.down B1.out.size); have X2 := Lib.hid (X1.out.below hb7 X1.out.lt); have Y2 := Lib.hid (Y1.out.below hb7 Y1.out.lt); have E2 := Lib.hid (Eo.below E1.out hb7); have B2 := Lib.hid (B1.out.trans (hb7.mono B1.out.size)); have f9 := X2.out.frozen 9; have d9' : wb.cell? ⟨w.heap.size, 9, none⟩ = some (.slice A1 n1 c1) := X2.out.cell 9; clear o7 hb7 IC X1 Y1 E1 B1 d9)
      have X3 : Hid (Blk (wb.setCell ⟨w.heap.size, 9, none⟩ (.slice A7 p1 c7)) w.heap.size 31 #[.int .i64 kind, .int .i64 fr, .int .i64 to, .int .u64 t, .int .u64 pi, .int .u64 pt, .slice Av kv cv, .int .u64 co, .bool ok, .slice A7 p1 c7, .slice A2 n2 c2]) := Lib.hid (X2.out.set_ 9 _)
      have Y3 : Hid (Blk (wb.setCell ⟨w.heap.size, 9, none⟩ (.slice A7 p1 c7)) (w.heap.size + 1) 31 #[.int .i64 0, .int .i64 0, .int .i64 0, .int .u64 0, .int .u64 0, .int .u64 0, .slice none 0 0, .int .u64 0, .bool false, .slice none 0 0, .slice none 0 0]) := Lib.hid (Y2.out.far (p := ⟨w.heap.size, 9, none⟩) (by simp) _)
      have E3 : Hid (Eo (wb.setCell ⟨w.heap.size, 9, none⟩ (.slice A7 p1 c7)) w.heap.size Av kv cv (fewE (xs.map Ec.en))) := Lib.hid (E2.out.far X2.out (by decide) (by decide) 9 _)
      have I3 : Hid (Ios (wb.setCell ⟨w.heap.size, 9, none⟩ (.slice A7 p1 c7)) w.heap.size A7 p1 c7 (mem.take p1)) := Lib.hid (World.ownsRow.only I2.out X2.out (by decide) (setCell_only _ _ _ _))
      have B3 : Hid (Below w.heap.size w (wb.setCell ⟨w.heap.size, 9, none⟩ (.slice A7 p1 c7))) := Lib.hid (B2.out.setCell (p := ⟨w.heap.size, 9, none⟩) (Nat.le_refl _) _)
      clear X2 Y2 E2 I2 B2 d9' f9 hp1
      generalize wb.setCell ⟨w.heap.size, 9, none⟩ (.slice A7 p1 c7) = wc at *
      have d10 : wc.cell? ⟨w.heap.size, 10, none⟩ = some (.slice A2 n2 c2) := X3.out.cell 10
      obtain ⟨p2, hp2⟩ : ∃ p2 : Nat, min (n2 : Int) 65537 = (p2 : Int) := ⟨min n2 65537, by omega⟩
      have p21 : p2 ≤ n2 := by omega
      have p22 : p2 ≤ 65537 := by omega
      have p23 : (p2 : Int) ≤ (c2 : Int) := by omega
      have p20 : (0 : Int) ≤ (p2 : Int) := by omega
      have TD := Lib.hid (show da.take p2 = da.take 65537 by
        have hl : da.length = n2 := HD.out.1
        by_cases hc : n2 ≤ 65537
        · rw [List.take_of_length_le (by omega), List.take_of_length_le (by omega)]
        · rw [show p2 = 65537 by omega])
      have DC := Lib.hid (clone_any A2 p2 c2 (da.take p2) wc B ((HD.out.below (B3.out.mono hB)).take p21) (by omega))
      go_upto_region 12 with (go_at_call 24; refine DC.out.mono ?_; rintro e wd ⟨A8, c8, rfl, o8, hb8⟩; have D4 := Lib.hid (o8.down B3.out.size); have I4 := Lib.hid (I3.out.below hb8); have X4 := Lib.hid (X3.out.below hb8 X3.out.lt); have Y4 := Lib.hid (Y3.out.below hb8 Y3.out.lt); have E4 := Lib.hid (Eo.below E3.out hb8); have B4 := Lib.hid (B3.out.trans (hb8.mono B3.out.size)); have f10 := X4.out.frozen 10; have d10' : wd.cell? ⟨w.heap.size, 10, none⟩ = some (.slice A2 n2 c2) := X4.out.cell 10; clear o8 hb8 DC X3 Y3 E3 I3 B3 d10)
      have X5 : Hid (Blk (wd.setCell ⟨w.heap.size, 10, none⟩ (.slice A8 p2 c8)) w.heap.size 31 #[.int .i64 kind, .int .i64 fr, .int .i64 to, .int .u64 t, .int .u64 pi, .int .u64 pt, .slice Av kv cv, .int .u64 co, .bool ok, .slice A7 p1 c7, .slice A8 p2 c8]) := Lib.hid (X4.out.set_ 10 _)
      have Y5 : Hid (Blk (wd.setCell ⟨w.heap.size, 10, none⟩ (.slice A8 p2 c8)) (w.heap.size + 1) 31 #[.int .i64 0, .int .i64 0, .int .i64 0, .int .u64 0, .int .u64 0, .int .u64 0, .slice none 0 0, .int .u64 0, .bool false, .slice none 0 0, .slice none 0 0]) := Lib.hid (Y4.out.far (p := ⟨w.heap.size, 10, none⟩) (by simp) _)
      have E5 : Hid (Eo (wd.setCell ⟨w.heap.size, 10, none⟩ (.slice A8 p2 c8)) w.heap.size Av kv cv (fewE (xs.map Ec.en))) := Lib.hid (E4.out.far X4.out (by decide) (by decide) 10 _)
      have I5 : Hid (Ios (wd.setCell ⟨w.heap.size, 10, none⟩ (.slice A8 p2 c8)) w.heap.size A7 p1 c7 (mem.take p1)) := Lib.hid (World.ownsRow.only I4.out X4.out (by decide) (setCell_only _ _ _ _))
      have D5 : Hid (Own (wd.setCell ⟨w.heap.size, 10, none⟩ (.slice A8 p2 c8)) w.heap.size A8 p2 c8 (da.take p2)) := Lib.hid (D4.out.far X4.out (by decide) 10 _)
      have B5 : Hid (Below w.heap.size w (wd.setCell ⟨w.heap.size, 10, none⟩ (.slice A8 p2 c8))) := Lib.hid (B4.out.setCell (p := ⟨w.heap.size, 10, none⟩) (Nat.le_refl _) _)
      clear X4 Y4 E4 I4 D4 B4 d10' f10 hp2
      generalize wd.setCell ⟨w.heap.size, 10, none⟩ (.slice A8 p2 c8) = we at *
      have q0 : we.cell? ⟨w.heap.size, 0, none⟩ = some (.int .i64 kind) := X5.out.cell 0
      have q1 : we.cell? ⟨w.heap.size, 1, none⟩ = some (.int .i64 fr) := X5.out.cell 1
      have q2 : we.cell? ⟨w.heap.size, 2, none⟩ = some (.int .i64 to) := X5.out.cell 2
      have q3 : we.cell? ⟨w.heap.size, 3, none⟩ = some (.int .u64 t) := X5.out.cell 3
      have q4 : we.cell? ⟨w.heap.size, 4, none⟩ = some (.int .u64 pi) := X5.out.cell 4
      have q5 : we.cell? ⟨w.heap.size, 5, none⟩ = some (.int .u64 pt) := X5.out.cell 5
      have q6 : we.cell? ⟨w.heap.size, 6, none⟩ = some (.slice Av kv cv) := X5.out.cell 6
      have q7 : we.cell? ⟨w.heap.size, 7, none⟩ = some (.int .u64 co) := X5.out.cell 7
      have q8 : we.cell? ⟨w.heap.size, 8, none⟩ = some (.bool ok) := X5.out.cell 8
      have q9 : we.cell? ⟨w.heap.size, 9, none⟩ = some (.slice A7 p1 c7) := X5.out.cell 9
      have q10 : we.cell? ⟨w.heap.size, 10, none⟩ = some (.slice A8 p2 c8) := X5.out.cell 10
      go_wp2_with ((with_reducible refine at_store (t := 31) ?_); refine wpList_store_blk _ rfl 31 _ _ rfl (w.heap.size + 1) #[.int .i64 0, .int .i64 0, .int .i64 0, .int .u64 0, .int .u64 0, .int .u64 0, .slice none 0 0, .int .u64 0, .bool false, .slice none 0 0, .slice none 0 0] 31 [.int .i64 kind, .int .i64 fr, .int .i64 to, .int .u64 t, .int .u64 pi, .int .u64 pt, .slice Av kv cv, .int .u64 co, .bool ok, .slice A7 p1 c7, .slice A8 p2 c8] rfl rfl Y5.out rfl Tryd.i31 (by simp [Value.oneCell']) ?_; intro w2 hb2 ho2; have Y6 := Lib.hid hb2; have B6 := Lib.hid (B5.out.trans (ho2.below (by omega))); have E6 := Lib.hid (E5.out.only Y5.out (by decide) (by decide) ho2); have I6 : Hid (Ios w2 w.heap.size A7 p1 c7 (mem.take p1)) := Lib.hid (World.ownsRow.only I5.out Y5.out (by decide) ho2); have D6 : Hid (Own w2 w.heap.size A8 p2 c8 (da.take p2)) := Lib.hid ⟨World.ownsRow.only D5.out.1 Y5.out (by decide) ho2, D5.out.2⟩; clear hb2 ho2)
      exact bodyPost_ret (results_cell_row rfl _ _ (w.heap.size + 1) 31 #[.int .i64 kind, .int .i64 fr, .int .i64 to, .int .u64 t, .int .u64 pi, .int .u64 pt, .slice Av kv cv, .int .u64 co, .bool ok, .slice A7 p1 c7, .slice A8 p2 c8] (0, 0) _ rfl Y6.out Tryd.underlying31 rfl Tryd.i31) rfl ⟨Av, kv, cv, A7, p1, c7, A8, p2, c8, rfl, E6.out, by show Ios _ _ _ _ _ (mem.take 6); rw [← TM.out]; exact I6.out, by show Own _ _ _ _ _ (da.take 65537); rw [← TD.out]; exact D6.out, B6.out⟩

end Go.Proofs.YtemfnckaehjhcaaDoor
