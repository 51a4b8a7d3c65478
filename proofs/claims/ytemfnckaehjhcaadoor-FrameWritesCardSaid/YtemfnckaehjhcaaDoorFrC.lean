/-
  Several texts in one: F9, FA, FB.
-/
import Derived.Test.YtemfnckaehjhcaaDoorFrB
import Derived.Test.YtemfnckaehjhcaaDoorFrA
/-
  Bytes put behind others: a byte, a member, rows of both.
-/
namespace Go.Proofs.YtemfnckaehjhcaaDoor
open Go.RowKit

theorem putbyte_any (base : Nat) (A : Option Addr) (n c : Nat) (zs : List Int) (x : Int) (w : World) (ho : Own w base A n c zs) (hb : base ≤ w.heap.size) (hn : n ≤ 1000000) (h0 : 0 ≤ x) (h1 : x ≤ 255) :
    Calls Tryd.prog 75 #[.slice A n c, .int .u8 x] w (Puts w base n zs [x]) := by
  have HO := Lib.hid ho
  clear ho
  go_enter Tryd.func75, Tryd.ntmps75
  go_wp2_with (at_builtin; refine append_one rfl (.tmp 5) (.tmp 7) rfl base A n c zs rfl HO.out x h0 h1 rfl (by omega) hb ?_; intro A2 c2 w2 ho2 hb2)
  go_ret
  exact ⟨A2, c2, rfl, ho2, hb2⟩
theorem putmember_any (base : Nat) (A : Option Addr) (n c : Nat) (zs : List Int) (x : Int) (w : World) (ho : Own w base A n c zs) (hb : base ≤ w.heap.size) (hn : n ≤ 1000000) :
    Calls Tryd.prog 72 #[.slice A n c, .int .i64 x] w (Puts w base n zs [x % 256]) := by
  have HO := Lib.hid ho
  clear ho
  go_enter Tryd.func72, Tryd.ntmps72
  go_wp2_with (at_builtin; refine append_one rfl (.tmp 5) (.tmp 8) rfl base A n c zs rfl HO.out (x % 256) (by omega) (by omega) rfl (by omega) hb ?_; intro A2 c2 w2 ho2 hb2)
  go_ret
  exact ⟨A2, c2, rfl, ho2, hb2⟩

theorem take_snoc (ys : List Int) (k : Nat) (hk : k < ys.length) : ys.take (k + 1) = ys.take k ++ [ys.getD k 0] := by
  rw [List.take_succ_eq_append_getElem hk]
  simp [List.getD, hk]

set_option maxHeartbeats 4000000 in
theorem putlistB_any (base : Nat) (A : Option Addr) (n c : Nat) (zs : List Int) (A2 : Option Addr) (m d B : Nat) (ys : List Int) (w : World) (ho : Own w base A n c zs) (hb : base ≤ w.heap.size) (hB : B ≤ base) (hy : By w B A2 m ys) (hn : n ≤ 200000) (hm : m ≤ 100000) :
    Calls Tryd.prog 74 #[.slice A n c, .slice A2 m d, .func (.func 75) #[] #[]] w (Puts w base n zs (shB m ++ ys)) := by
  have PS := Lib.hid (putshort_any base A n c zs m w ho hb (by omega) (by omega))
  have hl10 := shB_len10 (x := m) (by omega)
  have HY := Lib.hid hy
  clear ho hy
  go_enter Tryd.func74, Tryd.ntmps74
  go_wp2_with (go_at_call 42; refine PS.out.mono ?_; rintro e w1 ⟨A1, c1, rfl, ho, hbw⟩; have O1 := Lib.hid ho; have W1 := Lib.hid hbw; clear PS ho hbw)
  generalize hS : shB m = S at *
  clear hS
  go_loopw [0, 15] (fun bv i wr => ∃ (k : Nat) (A3 : Option Addr) (c3 : Nat), k ≤ m ∧ i = .int .i64 k ∧ bv = .slice A3 (n + S.length + k) c3 ∧ Own wr base A3 (n + S.length + k) c3 (zs ++ S ++ ys.take k) ∧ Bw base w wr) (fun _ i _ => m - (intOf i).toNat)
  case atStart => exact ⟨0, A1, c1, Nat.zero_le _, rfl, rfl, by rw [List.take_zero, List.append_nil]; exact O1.out, W1.out⟩
  case round =>
    obtain ⟨k, A3, c3, hk, rfl, rfl, ho, hbw⟩ := hrel
    have O3 := Lib.hid ho
    have W3 := Lib.hid hbw
    have hw3 := Nat.le_trans hb W3.out.below.size
    clear ho hbw O1 W1
    by_cases hlt : k < m
    · have hyk := Lib.hid (HY.out.below (W3.out.below.mono hB))
      obtain ⟨b, o, rfl, hbB, hc⟩ := hyk.out.2.2 (by omega)
      have c1 := hc k hlt
      have hz := hyk.out.2.1 k
      have hts := Lib.hid (take_snoc ys k (by rw [hyk.out.1]; exact hlt))
      have k0 : (0 : Int) ≤ (k : Int) := by omega
      clear hc hyk
      generalize ys.getD k 0 = z at *
      have PB := Lib.hid (putbyte_any base A3 (n + S.length + k) c3 (zs ++ S ++ ys.take k) z wr O3.out hw3 (by omega) hz.1 hz.2)
      clear O3
      go_wp2_with (go_at_call 75; refine PB.out.mono ?_; rintro e w4 ⟨A4, c4, rfl, ho, hbw⟩; have O4 := Lib.hid ho; have W4 := Lib.hid (W3.out.trans hbw); clear PB ho hbw)
      go_roundw
      case rel => exact ⟨k + 1, A4, c4, by omega, by go_num, rfl, by rw [hts.out, ← List.append_assoc]; exact O4.out, W4.out⟩
      case measure => simp [intOf]; omega
    · obtain rfl : k = m := by omega
      go_wp2
      go_ret
      have hl : n + (S ++ ys).length = n + S.length + k := by rw [List.length_append, HY.out.1]; omega
      refine ⟨A3, c3, by rw [hl]; rfl, ?_, W3.out⟩
      rw [hl, ← List.append_assoc]
      have := O3.out
      rwa [List.take_of_length_le (by rw [HY.out.1]; omega)] at this

set_option maxHeartbeats 4000000 in
theorem putlistI_any (base : Nat) (A : Option Addr) (n c : Nat) (zs : List Int) (A2 : Option Addr) (m d B : Nat) (xs : List Int) (w : World) (ho : Own w base A n c zs) (hb : base ≤ w.heap.size) (hB : B ≤ base) (hy : Is w B A2 m xs) (hn : n ≤ 200000) (hm : m ≤ 100000) :
    Calls Tryd.prog 71 #[.slice A n c, .slice A2 m d, .func (.func 72) #[] #[]] w (Puts w base n zs (shB m ++ xs.map (· % 256))) := by
  have PS := Lib.hid (putshort_any base A n c zs m w ho hb (by omega) (by omega))
  have hl10 := shB_len10 (x := m) (by omega)
  have HY := Lib.hid hy
  clear ho hy
  obtain ⟨ys, hys⟩ : ∃ ys, ys = xs.map (· % 256) := ⟨_, rfl⟩
  have hyl := Lib.hid (show ys.length = m by rw [hys, List.length_map, HY.out.1])
  have hyg : Hid (∀ k, k < m → ys.getD k 0 = xs.getD k 0 % 256) := Lib.hid fun k hk => by
    have : k < xs.length := by rw [HY.out.1]; exact hk
    rw [hys]
    simp [List.getD, this]
  rw [← hys]
  clear hys
  go_enter Tryd.func71, Tryd.ntmps71
  go_wp2_with (go_at_call 42; refine PS.out.mono ?_; rintro e w1 ⟨A1, c1, rfl, ho, hbw⟩; have O1 := Lib.hid ho; have W1 := Lib.hid hbw; clear PS ho hbw)
  generalize hS : shB m = S at *
  clear hS
  go_loopw [0, 15] (fun bv i wr => ∃ (k : Nat) (A3 : Option Addr) (c3 : Nat), k ≤ m ∧ i = .int .i64 k ∧ bv = .slice A3 (n + S.length + k) c3 ∧ Own wr base A3 (n + S.length + k) c3 (zs ++ S ++ ys.take k) ∧ Bw base w wr) (fun _ i _ => m - (intOf i).toNat)
  case atStart => exact ⟨0, A1, c1, Nat.zero_le _, rfl, rfl, by rw [List.take_zero, List.append_nil]; exact O1.out, W1.out⟩
  case round =>
    obtain ⟨k, A3, c3, hk, rfl, rfl, ho, hbw⟩ := hrel
    have O3 := Lib.hid ho
    have W3 := Lib.hid hbw
    have hw3 := Nat.le_trans hb W3.out.below.size
    clear ho hbw O1 W1
    by_cases hlt : k < m
    · have hyk := Lib.hid (HY.out.below (W3.out.below.mono hB))
      obtain ⟨b, o, rfl, hbB, hc⟩ := hyk.out.2 (by omega)
      have c1 := hc k hlt
      have hts := take_snoc ys k (by rw [hyl.out]; exact hlt)
      rw [hyg.out k hlt] at hts
      have HTS := Lib.hid hts
      have k0 : (0 : Int) ≤ (k : Int) := by omega
      clear hc hyk hts
      generalize xs.getD k 0 = z at *
      have PB := Lib.hid (putmember_any base A3 (n + S.length + k) c3 (zs ++ S ++ ys.take k) z wr O3.out hw3 (by omega))
      clear O3
      go_wp2_with (go_at_call 72; refine PB.out.mono ?_; rintro e w4 ⟨A4, c4, rfl, ho, hbw⟩; have O4 := Lib.hid ho; have W4 := Lib.hid (W3.out.trans hbw); clear PB ho hbw)
      go_roundw
      case rel => exact ⟨k + 1, A4, c4, by omega, by go_num, rfl, by rw [HTS.out, ← List.append_assoc]; exact O4.out, W4.out⟩
      case measure => simp [intOf]; omega
    · obtain rfl : k = m := by omega
      go_wp2
      go_ret
      have hl : n + (S ++ ys).length = n + S.length + k := by rw [List.length_append, hyl.out]; omega
      refine ⟨A3, c3, by rw [hl]; rfl, ?_, W3.out⟩
      rw [hl, ← List.append_assoc]
      have := O3.out
      rwa [List.take_of_length_le (by rw [hyl.out]; omega)] at this

end Go.Proofs.YtemfnckaehjhcaaDoor

/-
  Entries put behind bytes: each by how much its Term is above the one ahead of it.
-/
namespace Go.Proofs.YtemfnckaehjhcaaDoor
open Go.RowKit

/-- As Bw, but that block ga turned, too. -/
structure Bwx (base ga : Nat) (w w' : World) : Prop where
  below : Below base w w'
  other : ∀ g t cs, t ≠ 5 → g ≠ ga → Blk w g t cs → Blk w' g t cs
theorem Bwx.refl (base ga : Nat) (w : World) : Bwx base ga w w := ⟨Below.refl _ _, fun _ _ _ _ _ h => h⟩
theorem Bwx.trans {base ga : Nat} {a b c : World} (h : Bwx base ga a b) (h' : Bwx base ga b c) : Bwx base ga a c := ⟨h.below.trans h'.below, fun g t cs ht hn hg => h'.other g t cs ht hn (h.other g t cs ht hn hg)⟩
theorem Bw.x {base : Nat} {a b : World} (h : Bw base a b) (ga : Nat) : Bwx base ga a b := ⟨h.below, fun g t cs ht _ hg => h.other g t cs ht hg⟩
theorem Bwx.set {base ga : Nat} {a b : World} (h : Bwx base ga a b) (hg : base ≤ ga) (v : Value) : Bwx base ga a (b.setCell ⟨ga, 0, none⟩ v) := ⟨h.below.setCell (p := ⟨ga, 0, none⟩) hg v, fun g t cs ht hn hb => (h.other g t cs ht hn hb).far (p := ⟨ga, 0, none⟩) hn v⟩
/-- What comes of entries that are put: block ga holds the Term of the last. -/
def Ents (w : World) (base ga n : Nat) (zs more : List Int) (u : Int) (e : Ending) (w' : World) : Prop :=
  ∃ A' c', e = .returned (.slice A' (n + more.length) c') ∧ Own w' base A' (n + more.length) c' (zs ++ more) ∧ Blk w' ga 22 #[.int .u64 u] ∧ Bwx base ga w w'
/-- The bytes of one entry behind a Term. -/
def entB (t : Int) (e : En) : List Int := shI ((e.t - t) % 18446744073709551616) ++ (e.k % 256) :: (shB e.d.length ++ e.d)
theorem entB_len {t : Int} {e : En} (hd : e.d.length ≤ 2000) : (entB t e).length ≤ 2021 := by
  have h1 := shB_len10 (x := ((e.t - t) % 18446744073709551616).toNat) (by omega)
  have h2 := shB_len10 (x := e.d.length) (by omega)
  unfold entB shI
  rw [List.length_append, List.length_cons, List.length_append]
  omega

theorem setCell_only (w : World) (g o : Nat) (v : Value) : Only g w (w.setCell ⟨g, o, none⟩ v) := ⟨rfl, rfl, rfl, by simp [World.setCell], fun k hk => Below.heap_setCell w ⟨g, o, none⟩ v k hk⟩
theorem World.ownsRow.only {w w' : World} {base e size n g : Nat} {t : TypeId} {cs : Array Value} {v : Value} {xs : List Value} (h : w.ownsRow base e size v n xs) (hg : Blk w g t cs) (hne : e ≠ t) (ho : Only g w w') : w'.ownsRow base e size v n xs := by
  refine ⟨h.1, ?_⟩
  rcases h.2 with hv | ⟨g', cap, cur, hv, hb, hh, r⟩
  · exact .inl hv
  · refine .inr ⟨g', cap, cur, hv, hb, (ho.block g' ?_).trans hh, r⟩
    rintro rfl
    unfold Blk at hg
    rw [hg] at hh
    injection hh with hh
    injection hh with _ h2 _
    exact hne h2.symm
/-- append of one byte, at a step of a region that draws. -/
theorem step_append_one {w : World} {ops : Array Oper} {E : Prop} {o : Oper} {a : Act} {K : Act → World → Prop} {Q : Exit → Act → World → Prop} (hgd : o.guard = none) (s x : Operand)
    (ho : o.op = .call { callee := .builtin .append, args := #[s, x], argTypes := #[29, 29] }) (base : Nat) (A : Option Addr) (n c : Nat) (zs : List Int) (hs : a.eval s = .slice A n c) (hown : Own w base A n c zs)
    (p : Nat) (b : Int) (h0 : 0 ≤ b) (h1 : b ≤ 255) (hx : a.eval x = .slice (some ⟨p, 0, none⟩) 1 1) (hp : Blk w p 5 #[.int .u8 b]) (hsum : n + 1 ≤ 140737488355328) (hbase : base ≤ w.heap.size)
    (h : ∀ A2 c2 w', Own w' base A2 (n + 1) c2 (zs ++ [b]) → Bw base w w' → K (a.put o.dst (.slice A2 (n + 1) c2)) w') : if Region.wanted o (yielded ops a.tmps) = true then Oper.wp Tryd.prog o a w K Q else E := by
  obtain ⟨i0, hi, hz0, hz1, hz2⟩ := info_parts Tryd.info5
  have hw : Region.wanted o (yielded ops a.tmps) = true := by simp [Region.wanted, hgd]
  have hr : By w (p + 1) (some ⟨p, 0, none⟩) 1 [b] := ⟨rfl, bs1 h0 h1, fun _ => ⟨p, 0, rfl, by omega, fun j hj => by
    obtain rfl : j = 0 := by omega
    exact hp.cell 0⟩⟩
  rw [if_pos hw]
  refine wp_append_own w s x 29 ho base 5 i0 (.int .u8 0) 1 1 Tryd.underlying29 hi hz0 hz1 hz2 rfl (by decide) _ n _ hs hown.1 ⟨p, 0, none⟩ 1 1 ([b].map (Value.int .u8)) hx rfl hr.news (ints_oneCell _ _) (by unfold maxLen; omega) (by omega) hbase ?_
  intro v' w' hown' hg _
  have hbw := Bw.grown hown.1 (Nat.le_refl _) hbase hg
  rw [← List.map_append] at hown'
  obtain ⟨A2, c2, rfl, ho2⟩ := Own.of_row hown' (hown.2.append hr.bs)
  exact h A2 c2 w' ho2 hbw

set_option maxRecDepth 100000 in
set_option maxHeartbeats 8000000 in
theorem entry1_any (base : Nat) (A : Option Addr) (n c : Nat) (zs : List Int) (ga B : Nat) (t : Int) (xt xk : Int) (xA : Option Addr) (xn xc : Nat) (xd : List Int) (w : World)
    (ho : Own w base A n c zs) (hb : base ≤ w.heap.size) (hB : B ≤ base) (hg : Blk w ga 22 #[.int .u64 t]) (hga : base ≤ ga) (hx : By w B xA xn xd) (hn : n ≤ 150000) (hxn : xn ≤ 2000) :
    Calls Tryd.prog 93 #[.slice A n c, .agg #[.int .u64 xt, .int .i64 xk, .slice xA xn xc], .pointer (some ⟨ga, 0, none⟩)] w (Ents w base ga n zs (entB t ⟨xt, xk, xd⟩) xt) := by
  obtain ⟨D, hD⟩ : ∃ D : Nat, (D : Int) = (xt - t) % 18446744073709551616 := ⟨((xt - t) % 18446744073709551616).toNat, by omega⟩
  have hD64 : D < 2 ^ 64 := by omega
  have hl10 := shB_len10 hD64
  have PS := Lib.hid (fun W h1 h2 => putshort_any base A n c zs D W h1 h2 (by omega) hD64)
  rw [hD] at PS
  have hE : entB t ⟨xt, xk, xd⟩ = shB D ++ ([IntKind.u8.wrap xk] ++ (shB xn ++ xd)) := by
    unfold entB shI
    rw [← hD, Int.toNat_natCast, hx.1, IntKind.wrap_u8]
    rfl
  have HDE := Lib.hid hE
  generalize entB t ⟨xt, xk, xd⟩ = EB at *
  clear hE hD
  have XL := Lib.hid hx.1
  have HX := Lib.hid hx
  obtain ⟨W0, hW0⟩ : ∃ W0, w.alloc (.cells #[.int .u64 xt, .int .i64 xk, .slice xA xn xc] 56) = W0 := ⟨_, rfl⟩
  obtain ⟨q, hq⟩ : ∃ q, w.heap.size = q := ⟨_, rfl⟩
  have F0 : Hid (Bw base w W0) := Lib.hid (by rw [← hW0]; exact (Bw.refl _ _).alloc hb _)
  have G0 : Hid (Blk W0 q 56 #[.int .u64 xt, .int .i64 xk, .slice xA xn xc]) := Lib.hid (by rw [← hW0, ← hq]; exact Blk.new w 56 _)
  have GA : Hid (Blk W0 ga 22 #[.int .u64 t]) := Lib.hid (F0.out.other _ _ _ (by decide) hg)
  have OA : Hid (Own W0 base A n c zs) := Lib.hid (by rw [← hW0]; exact ho.below ((Below.refl _ _).alloc (Nat.le_refl _) _))
  have HQ := Lib.hid hq
  have HW0 := Lib.hid hW0
  clear ho hg hx hW0 hq
  go_enter Tryd.func93, Tryd.ntmps93
  go_upto_region 1 with (fail)
  rw [HW0.out, HQ.out]
  have c0 : W0.cell? ⟨q, 0, none⟩ = some (.int .u64 xt) := G0.out.cell 0
  have ca : W0.cell? ⟨ga, 0, none⟩ = some (.int .u64 t) := GA.out.cell 0
  go_upto_region 2 with (go_at_call 42; refine (PS.out _ OA.out (Nat.le_trans hb F0.out.below.size)).mono ?_; rintro e w1 ⟨A1, c1, rfl, ho, hbw⟩; have O1 := Lib.hid ho; have F1 := Lib.hid hbw; clear PS ho hbw OA c0 ca)
  have G1 := Lib.hid (F1.out.other _ _ _ (by decide) G0.out)
  have GA1 := Lib.hid (F1.out.other _ _ _ (by decide) GA.out)
  have c0 : w1.cell? ⟨q, 0, none⟩ = some (.int .u64 xt) := G1.out.cell 0
  have ca : w1.cell? ⟨ga, 0, none⟩ = some (.int .u64 t) := GA1.out.cell 0
  have fa := GA1.out.frozen 0
  have FX1 := Lib.hid ((F0.out.trans F1.out).x ga)
  clear F0 F1 G0 GA
  go_upto_region 3 with (fail)
  have hne : q ≠ ga := fun e => by
    have h1 := G1.out
    have h2 := GA1.out
    unfold Blk at h1 h2
    rw [e, h2] at h1
    simp at h1
  have G2 : Hid (Blk (w1.setCell ⟨ga, 0, none⟩ (.int .u64 xt)) q 56 #[.int .u64 xt, .int .i64 xk, .slice xA xn xc]) := Lib.hid (G1.out.far (p := ⟨ga, 0, none⟩) hne _)
  have GA2 : Hid (Blk (w1.setCell ⟨ga, 0, none⟩ (.int .u64 xt)) ga 22 #[.int .u64 xt]) := Lib.hid (GA1.out.set_ 0 _)
  have O2 : Hid (Own (w1.setCell ⟨ga, 0, none⟩ (.int .u64 xt)) base A1 (n + (shB D).length) c1 (zs ++ shB D)) := Lib.hid ⟨World.ownsRow.only O1.out.1 GA1.out (by decide) (setCell_only w1 ga 0 _), O1.out.2⟩
  have FX2 := Lib.hid (FX1.out.set hga (.int .u64 xt))
  clear c0 ca fa G1 GA1 O1 FX1
  generalize w1.setCell ⟨ga, 0, none⟩ (.int .u64 xt) = w2 at *
  have hN1 : n + (shB D).length ≤ 150010 := by omega
  have HLN : Hid (n + EB.length = n + (shB D).length + 1 + (shB xn ++ xd).length) := Lib.hid (by rw [HDE.out]; simp only [List.length_append, List.length_cons, List.length_nil]; omega)
  have HZE : Hid (zs ++ EB = zs ++ shB D ++ [IntKind.u8.wrap xk] ++ (shB xn ++ xd)) := Lib.hid (by rw [HDE.out]; simp only [List.append_assoc])
  have LB := Lib.hid (fun (A2 : Option Addr) (m2 d2 : Nat) (zs2 : List Int) (W : World) (hF : Bw base w2.drew W) (hO : Own W base A2 m2 d2 zs2) (hm2 : m2 ≤ 200000) => putlistB_any base A2 m2 d2 zs2 xA xn xc B xd W hO (Nat.le_trans (Nat.le_trans hb FX2.out.below.size) hF.below.size) hB (HX.out.below ((FX2.out.below.drew.trans hF.below).mono hB)) hm2 (by omega))
  have O0 : Hid (Own w2.drew base A1 (n + (shB D).length) c1 (zs ++ shB D)) := Lib.hid (O2.out.below ((Below.refl _ _).drew))
  have G0 : Hid (Blk w2.drew q 56 #[.int .u64 xt, .int .i64 xk, .slice xA xn xc]) := Lib.hid (G2.out.drewN 1)
  have GA0 : Hid (Blk w2.drew ga 22 #[.int .u64 xt]) := Lib.hid (GA2.out.drewN 1)
  have hS0 : w2.drew.cell? ⟨q, 1, none⟩ = some (.int .i64 xk) ∧ w2.drew.cell? ⟨q, 2, none⟩ = some (.slice xA xn xc) := ⟨G0.out.cell 1, G0.out.cell 2⟩
  have FX0 : Hid (Bwx base ga w w2.drew) := Lib.hid ⟨FX2.out.below.drew, fun g t cs ht hn hb => (FX2.out.other g t cs ht hn hb).drewN 1⟩
  have hv0 : base ≤ w2.drew.heap.size := Nat.le_trans hb FX0.out.below.size
  have kb0 : 0 ≤ IntKind.u8.wrap xk := by rw [IntKind.wrap_u8]; omega
  have kb1 : IntKind.u8.wrap xk ≤ 255 := by rw [IntKind.wrap_u8]; omega
  clear O2 G2 GA2 FX2
  generalize n + (shB D).length = N1 at *
  generalize zs ++ shB D = zs1 at *
  refine wp_region_noPanic ?_
  refine wp_region_held_drew (S := fun w' => w'.cell? ⟨q, 1, none⟩ = some (.int .i64 xk) ∧ w'.cell? ⟨q, 2, none⟩ = some (.slice xA xn xc)) (by kernel_rfl) hS0 (fun hHeld => ?_)
  generalize w2.drew = v0 at *
  refine take_d (i := 0) (d := 14) (v := ?e14) rfl rfl (by kernel_rfl) (by kernel_rfl) (by kernel_rfl) (fun _ _ _ h => h) (Or.inl ⟨by kernel_rfl, ?e14h⟩) hHeld ?e14n
  case e14h => (intro w hSw; (try dsimp only at hSw); go_split_ands; go_simp; (try exact rfl))
  try simp only [Act.put, List.setIfInBounds_toArray, List.set_cons_zero, List.set_cons_succ]
  refine take_d (i := 1) (d := 15) (v := ?e15) rfl rfl (by kernel_rfl) (by kernel_rfl) (by kernel_rfl) (fun _ _ _ h => h) (Or.inl ⟨by kernel_rfl, ?e15h⟩) hHeld ?e15n
  case e15h => (intro w hSw; (try dsimp only at hSw); go_split_ands; go_simp; (try exact rfl))
  try simp only [Act.put, List.setIfInBounds_toArray, List.set_cons_zero, List.set_cons_succ]
  refine take_d (i := 2) (d := 16) (v := ?e16) rfl rfl (by kernel_rfl) (by kernel_rfl) (by kernel_rfl) (fun _ _ _ h => h) (Or.inl ⟨by kernel_rfl, ?e16h⟩) hHeld ?e16n
  case e16h => (intro w hSw; (try dsimp only at hSw); go_split_ands; go_simp; (try exact rfl))
  try simp only [Act.put, List.setIfInBounds_toArray, List.set_cons_zero, List.set_cons_succ]
  refine take_d (i := 3) (d := 17) (v := ?e17) rfl rfl (by kernel_rfl) (by kernel_rfl) (by kernel_rfl) (fun _ _ _ h => h) (Or.inl ⟨by kernel_rfl, ?e17h⟩) hHeld ?e17n
  case e17h => (intro w hSw; (try dsimp only at hSw); go_split_ands; go_simp; (try exact rfl))
  try simp only [Act.put, List.setIfInBounds_toArray, List.set_cons_zero, List.set_cons_succ]
  refine take_d (i := 6) (d := 20) (v := ?e20) rfl rfl (by kernel_rfl) (by kernel_rfl) (by kernel_rfl) (fun _ _ _ h => h) (Or.inl ⟨by kernel_rfl, ?e20h⟩) hHeld ?e20n
  case e20h => (intro w hSw; (try dsimp only at hSw); go_split_ands; go_simp; (try exact rfl))
  try simp only [Act.put, List.setIfInBounds_toArray, List.set_cons_zero, List.set_cons_succ]
  refine take_d (i := 7) (d := 21) (v := ?e21) rfl rfl (by kernel_rfl) (by kernel_rfl) (by kernel_rfl) (fun _ _ _ h => h) (Or.inl ⟨by kernel_rfl, ?e21h⟩) hHeld ?e21n
  case e21h => (intro w hSw; (try dsimp only at hSw); go_split_ands; go_simp; (try exact rfl))
  try simp only [Act.put, List.setIfInBounds_toArray, List.set_cons_zero, List.set_cons_succ]
  refine wpAnyH_ready (rs := [4]) (by kernel_rfl) (by simp) ?_
  refine AllReadyH.cons rfl (fun K hK => ?_) AllReadyH.nil
  go_simp
  refine hK.out _ _ ⟨(World.cell?_alloc_lt _ _ _ G0.out.lt).trans hS0.1, (World.cell?_alloc_lt _ _ _ G0.out.lt).trans hS0.2⟩ (fun hHeld => ?_)
  clear hK K
  have P1 : Hid (Blk (v0.alloc (.cells #[.int .u8 (IntKind.u8.wrap xk)] 5)) v0.heap.size 5 #[.int .u8 (IntKind.u8.wrap xk)]) := Lib.hid (Blk.new v0 5 _)
  have O1 := Lib.hid (O0.out.below (((Below.refl _ v0).alloc (Nat.le_refl _) (.cells #[.int .u8 (IntKind.u8.wrap xk)] 5))))
  have F1 := Lib.hid ((Bw.refl base v0).alloc hv0 (.cells #[.int .u8 (IntKind.u8.wrap xk)] 5))
  have HV1 := Lib.hid (Nat.le_trans hv0 F1.out.below.size)
  generalize (v0.alloc (.cells #[.int .u8 (IntKind.u8.wrap xk)] 5)) = v1 at *
  generalize v0.heap.size = p5 at *
  try simp only [Act.put, List.setIfInBounds_toArray, List.set_cons_zero, List.set_cons_succ]
  refine wpAnyH_ready (rs := [5]) (by kernel_rfl) (by simp) ?_
  refine AllReadyH.cons rfl (fun K hK => ?_) AllReadyH.nil
  refine step_append_one rfl (.tmp 14) (.tmp 18) rfl base A1 N1 c1 zs1 rfl O1.out p5 (IntKind.u8.wrap xk) kb0 kb1 rfl P1.out (by omega) HV1.out ?_
  intro A2 c2 v2 o2 f2
  have O2 := Lib.hid o2
  have F2 := Lib.hid (F1.out.trans f2)
  have G2 := Lib.hid (F2.out.other _ _ _ (by decide) G0.out)
  clear o2 f2 P1 O1 F1
  refine hK.out _ _ ⟨G2.out.cell 1, G2.out.cell 2⟩ (fun hHeld => ?_)
  clear hK K
  try simp only [Act.put, List.setIfInBounds_toArray, List.set_cons_zero, List.set_cons_succ]
  refine wpAnyH_ready (rs := [8]) (by kernel_rfl) (by simp) ?_
  refine AllReadyH.cons rfl (fun K hK => ?_) AllReadyH.nil
  go_simp
  refine (LB.out A2 (N1 + 1) c2 (zs1 ++ [IntKind.u8.wrap xk]) v2 F2.out O2.out (by omega)).mono ?_
  rintro e v3 ⟨A3, c3, rfl, o3, f3⟩
  have O3 := Lib.hid o3
  have F3 := Lib.hid (F2.out.trans f3)
  have G3 := Lib.hid (F3.out.other _ _ _ (by decide) G0.out)
  clear o3 f3
  refine hK.out _ _ ⟨G3.out.cell 1, G3.out.cell 2⟩ (fun hHeld => ?_)
  clear hK K
  try simp only [Act.put, List.setIfInBounds_toArray, List.set_cons_zero, List.set_cons_succ]
  refine take_d (i := 9) (d := 5) (v := ?e5) rfl rfl (by kernel_rfl) (by kernel_rfl) (by kernel_rfl) (fun _ _ _ h => h) (Or.inl ⟨by kernel_rfl, ?e5h⟩) hHeld ?e5n
  case e5h => (intro w hSw; (try dsimp only at hSw); go_split_ands; go_simp; (try exact rfl))
  try simp only [Act.put, List.setIfInBounds_toArray, List.set_cons_zero, List.set_cons_succ]
  refine wpAnyH_done (by kernel_rfl) ?_ _
  refine NoPanic.normal ?_
  go_wp2_with fail
  go_ret
  exact ⟨A3, c3, by rw [HLN.out, List.length_append]; rfl, by rw [HLN.out, HZE.out]; exact O3.out, F3.out.other _ _ _ (by decide) GA0.out, FX0.out.trans (F3.out.x ga)⟩

theorem entsB_drop (u : Int) (es : List En) (k : Nat) (h : k < es.length) : entsB u (es.drop k) = entB u (es.getD k e0) ++ entsB (es.getD k e0).t (es.drop (k + 1)) := by
  rw [drop_en es k h, entsB]
  rfl
theorem en_mem (es : List En) (k : Nat) (h : k < es.length) : es.getD k e0 ∈ es := by
  have : es.getD k e0 = es[k] := by simp [List.getD, h]
  rw [this]
  exact List.getElem_mem h
theorem Own.len_eq {w : World} {base n c : Nat} {A : Option Addr} {zs ys : List Int} (h : Own w base A n c zs) (e : zs = ys) : n = ys.length := by rw [← e, h.len]

set_option maxRecDepth 100000 in
set_option maxHeartbeats 8000000 in
theorem putlistE_any (base : Nat) (A : Option Addr) (n c : Nat) (zs : List Int) (A2 : Option Addr) (m d ga B : Nat) (t : Int) (es : List En) (w : World)
    (ho : Own w base A n c zs) (hb : base ≤ w.heap.size) (hB : B ≤ base) (hg : Blk w ga 22 #[.int .u64 t]) (hga : base ≤ ga) (hy : Es w B A2 m es) (hn : n ≤ 100000) (hm : m ≤ 20) (hd : ∀ e ∈ es, e.d.length ≤ 2000) :
    Calls Tryd.prog 92 #[.slice A n c, .slice A2 m d, .func (.func 93) #[] #[.pointer (some ⟨ga, 0, none⟩)]] w fun e w' => ∃ u, Ents w base ga n zs (shB m ++ entsB t es) u e w' := by
  have PS := Lib.hid (putshort_any base A n c zs m w ho hb (by omega) (by omega))
  have hl10 := shB_len10 (x := m) (by omega)
  have HY := Lib.hid hy
  have HD := Lib.hid hd
  have GA := Lib.hid hg
  have ZL := Lib.hid ho.len
  clear ho hy hd hg
  go_enter Tryd.func92, Tryd.ntmps92
  go_wp2_with (go_at_call 42; refine PS.out.mono ?_; rintro e w1 ⟨A1, c1, rfl, ho, hbw⟩; have O1 := Lib.hid ho; have W1 := Lib.hid (hbw.x ga); have GA1 := Lib.hid (hbw.other _ _ _ (by decide) GA.out); clear PS ho hbw)
  generalize hS : shB m = S at *
  have HS := Lib.hid hS
  clear hS
  go_loopw [0, 15] (fun bv i wr => ∃ (k : Nat) (A3 : Option Addr) (n3 c3 : Nat) (zs3 : List Int) (u : Int), k ≤ m ∧ i = .int .i64 k ∧ bv = .slice A3 n3 c3 ∧ n3 ≤ n + 10 + k * 2021 ∧ Hid (zs3 ++ entsB u (es.drop k) = zs ++ (S ++ entsB t es)) ∧ Own wr base A3 n3 c3 zs3 ∧ Blk wr ga 22 #[.int .u64 u] ∧ Bwx base ga w wr) (fun _ i _ => m - (intOf i).toNat)
  case atStart => exact ⟨0, A1, n + S.length, c1, zs ++ S, t, Nat.zero_le _, rfl, rfl, by omega, Lib.hid (by rw [List.drop_zero, List.append_assoc]), O1.out, GA1.out, W1.out⟩
  case round =>
    obtain ⟨k, A3, n3, c3, zs3, u, hk, rfl, rfl, hn3, hz, ho, hgu, hbw⟩ := hrel
    have O3 := Lib.hid ho
    have W3 := Lib.hid hbw
    have GU := Lib.hid hgu
    have hw3 := Nat.le_trans hb W3.out.below.size
    clear ho hbw hgu O1 W1 GA1
    by_cases hlt : k < m
    · obtain ⟨b, o, x, rfl, hbB, hx, hok, hr⟩ := (HY.out.below (W3.out.below.mono hB)).at_ hlt
      have hke : k < es.length := by rw [HY.out.len]; exact hlt
      have hz2 := hz.out
      rw [entsB_drop u es k hke, ← hx] at hz2
      have hxd := HD.out _ (en_mem es k hke)
      rw [← hx] at hxd
      obtain ⟨d0, d1, d2⟩ := rng3 hr
      have BYX := Lib.hid hok.by_
      obtain ⟨xt, xk, xA, xn, xc, xd⟩ := x
      simp only [Ec.en] at hz2 hxd d0 d1 d2 BYX
      have hxn : xn ≤ 2000 := by rw [← BYX.out.1]; exact hxd
      have hel := entB_len (t := u) (e := ⟨xt, xk, xd⟩) hxd
      have HZ : Hid (zs3 ++ entB u ⟨xt, xk, xd⟩ ++ entsB xt (es.drop (k + 1)) = zs ++ (S ++ entsB t es)) := Lib.hid (by rw [List.append_assoc]; exact hz2)
      have E1 := Lib.hid (entry1_any base A3 n3 c3 zs3 ga B u xt xk xA xn xc xd wr O3.out hw3 hB GU.out hga BYX.out (by omega) hxn)
      generalize entB u ⟨xt, xk, xd⟩ = EB at *
      have k0 : (0 : Int) ≤ (k : Int) := by omega
      clear hr hx hok hz hz2 O3 hxd
      go_wp2_with (go_at_call 93; refine E1.out.mono ?_; rintro e w4 ⟨A4, c4, rfl, ho, hg4, hbw⟩; have O4 := Lib.hid ho; have W4 := Lib.hid (W3.out.trans hbw); have G4 := Lib.hid hg4; clear E1 ho hbw hg4)
      go_roundw
      case rel => exact ⟨k + 1, A4, _, c4, _, xt, by omega, by go_num, rfl, by omega, HZ, O4.out, G4.out, W4.out⟩
      case measure => simp [intOf]; omega
    · obtain rfl : k = m := by omega
      have hz2 := hz.out
      rw [List.drop_of_length_le (by rw [HY.out.len]; omega), entsB, List.append_nil] at hz2
      have hl := Lib.hid (O3.out.len_eq hz2)
      have HZ := Lib.hid hz2
      clear hz hz2
      go_wp2
      go_ret
      have hl2 : n + (S ++ entsB t es).length = n3 := by rw [hl.out]; simp only [List.length_append]; rw [ZL.out]
      try rw [HS.out]
      exact ⟨u, A3, c3, by rw [hl2]; rfl, by rw [hl2, ← HZ.out]; exact O3.out, GU.out, W3.out⟩

end Go.Proofs.YtemfnckaehjhcaaDoor

/-
  The bytes of each field put behind others.
-/
namespace Go.Proofs.YtemfnckaehjhcaaDoor
open Go.RowKit
attribute [local go_sem ↓] eqA neA eqGA field1

/-- A message's box, and what turned since: rows of bytes from base on. -/
structure Bq (base : Nat) (w : World) (g : Nat) (kind fr to t pi pt co : Int) (ok : Bool) (A : Option Addr) (n c : Nat) (A1 : Option Addr) (n1 c1 : Nat) (A2 : Option Addr) (n2 c2 : Nat) (W : World) : Prop where
  blk : Blk W g 31 #[.int .i64 kind, .int .i64 fr, .int .i64 to, .int .u64 t, .int .u64 pi, .int .u64 pt, .slice A n c, .int .u64 co, .bool ok, .slice A1 n1 c1, .slice A2 n2 c2]
  bw : Bw base w W
section
variable {base : Nat} {kind fr to t pi pt co : Int} {ok : Bool} {A : Option Addr} {n c : Nat} {A1 : Option Addr} {n1 c1 : Nat} {A2 : Option Addr} {n2 c2 : Nat} {w w1 w' : World} {g : Nat}
theorem Bq.new_ (hb : base ≤ w.heap.size) : Bq base w w.heap.size kind fr to t pi pt co ok A n c A1 n1 c1 A2 n2 c2 (w.alloc (.cells #[.int .i64 kind, .int .i64 fr, .int .i64 to, .int .u64 t, .int .u64 pi, .int .u64 pt, .slice A n c, .int .u64 co, .bool ok, .slice A1 n1 c1, .slice A2 n2 c2] 31)) := ⟨Blk.new w 31 _, (Bw.refl _ _).alloc hb _⟩
theorem Bq.put (h : Bq base w g kind fr to t pi pt co ok A n c A1 n1 c1 A2 n2 c2 w1) (hb : Bw base w1 w') : Bq base w g kind fr to t pi pt co ok A n c A1 n1 c1 A2 n2 c2 w' := ⟨hb.other _ _ _ (by decide) h.blk, h.bw.trans hb⟩
theorem Bq.drew (h : Bq base w g kind fr to t pi pt co ok A n c A1 n1 c1 A2 n2 c2 w1) : Bq base w g kind fr to t pi pt co ok A n c A1 n1 c1 A2 n2 c2 w1.drew := ⟨h.blk.drewN 1, ⟨h.bw.below.drew, fun g t cs ht hg => (h.bw.other g t cs ht hg).drewN 1⟩⟩
theorem Bq.cells (h : Bq base w g kind fr to t pi pt co ok A n c A1 n1 c1 A2 n2 c2 w1) : w1.cell? ⟨g, 0, none⟩ = some (.int .i64 kind) ∧ w1.cell? ⟨g, 1, none⟩ = some (.int .i64 fr) ∧ w1.cell? ⟨g, 2, none⟩ = some (.int .i64 to) ∧ w1.cell? ⟨g, 3, none⟩ = some (.int .u64 t) ∧ w1.cell? ⟨g, 4, none⟩ = some (.int .u64 pi) ∧ w1.cell? ⟨g, 5, none⟩ = some (.int .u64 pt) ∧ w1.cell? ⟨g, 6, none⟩ = some (.slice A n c) ∧ w1.cell? ⟨g, 7, none⟩ = some (.int .u64 co) ∧ w1.cell? ⟨g, 8, none⟩ = some (.bool ok) ∧ w1.cell? ⟨g, 9, none⟩ = some (.slice A1 n1 c1) ∧ w1.cell? ⟨g, 10, none⟩ = some (.slice A2 n2 c2) := ⟨h.blk.cell 0, h.blk.cell 1, h.blk.cell 2, h.blk.cell 3, h.blk.cell 4, h.blk.cell 5, h.blk.cell 6, h.blk.cell 7, h.blk.cell 8, h.blk.cell 9, h.blk.cell 10⟩
end
theorem Own.alloc {w : World} {base n c : Nat} {A : Option Addr} {zs : List Int} (h : Own w base A n c zs) (o : Obj) : Own (w.alloc o) base A n c zs := h.below ((Below.refl _ _).alloc (Nat.le_refl _) _)
theorem Own.drew {w : World} {base n c : Nat} {A : Option Addr} {zs : List Int} (h : Own w base A n c zs) : Own w.drew base A n c zs := h.below (Below.refl _ _).drew
theorem shI_len {x : Int} (h0 : 0 ≤ x) (h1 : x < 18446744073709551616) : 1 ≤ (shI x).length ∧ (shI x).length ≤ 10 := shB_len10 (by omega)
/-- putShort of a number that is given as an Int. -/
theorem putshortI_any (base : Nat) (A : Option Addr) (n c : Nat) (zs : List Int) (x : Int) (w : World) (ho : Own w base A n c zs) (hb : base ≤ w.heap.size) (hn : n ≤ 1000000) (h0 : 0 ≤ x) (h1 : x < 18446744073709551616) :
    Calls Tryd.prog 42 #[.slice A n c, .int .u64 x] w (Puts w base n zs (shI x)) := by
  have := putshort_any base A n c zs x.toNat w ho hb hn (by omega)
  rwa [Int.toNat_of_nonneg h0] at this

theorem putok_any (base : Nat) (Ab : Option Addr) (nb cb : Nat) (zs : List Int) (kind fr to t pi pt co : Int) (ok : Bool) (A : Option Addr) (n c : Nat) (A1 : Option Addr) (n1 c1 : Nat) (A2 : Option Addr) (n2 c2 : Nat) (w : World) (ho : Own w base Ab nb cb zs) (hb : base ≤ w.heap.size) (hn : nb ≤ 200000) :
    Calls Tryd.prog 66 #[.slice Ab nb cb, .agg #[.int .i64 kind, .int .i64 fr, .int .i64 to, .int .u64 t, .int .u64 pi, .int .u64 pt, .slice A n c, .int .u64 co, .bool ok, .slice A1 n1 c1, .slice A2 n2 c2]] w (Puts w base nb zs [if ok = true then 1 else 0]) := by
  have X := Lib.hid (Bq.new_ (kind := kind) (fr := fr) (to := to) (t := t) (pi := pi) (pt := pt) (co := co) (ok := ok) (A := A) (n := n) (c := c) (A1 := A1) (n1 := n1) (c1 := c1) (A2 := A2) (n2 := n2) (c2 := c2) hb)
  have O1 := Lib.hid (ho.alloc (.cells #[.int .i64 kind, .int .i64 fr, .int .i64 to, .int .u64 t, .int .u64 pi, .int .u64 pt, .slice A n c, .int .u64 co, .bool ok, .slice A1 n1 c1, .slice A2 n2 c2] 31))
  clear ho
  cases ok with
  | true =>
    go_enter Tryd.func66, Tryd.ntmps66
    go_upto_region 1 with (fail)
    generalize w.alloc (.cells #[.int .i64 kind, .int .i64 fr, .int .i64 to, .int .u64 t, .int .u64 pi, .int .u64 pt, .slice A n c, .int .u64 co, .bool true, .slice A1 n1 c1, .slice A2 n2 c2] 31) = W at *
    obtain ⟨d0, d1, d2, d3, d4, d5, d6, d7, d8, d9, d10⟩ := X.out.cells
    go_wp2_with (at_builtin; refine append_one rfl (.tmp 7) (.tmp 8) rfl base Ab nb cb zs rfl O1.out 1 (by decide) (by decide) rfl (by omega) (Nat.le_trans hb X.out.bw.below.size) ?_; intro A2 c2 w2 ho2 hb2)
    go_ret
    exact ⟨A2, c2, rfl, ho2, X.out.bw.trans hb2⟩
  | false =>
    go_enter Tryd.func66, Tryd.ntmps66
    go_upto_region 1 with (fail)
    generalize w.alloc (.cells #[.int .i64 kind, .int .i64 fr, .int .i64 to, .int .u64 t, .int .u64 pi, .int .u64 pt, .slice A n c, .int .u64 co, .bool false, .slice A1 n1 c1, .slice A2 n2 c2] 31) = W at *
    obtain ⟨d0, d1, d2, d3, d4, d5, d6, d7, d8, d9, d10⟩ := X.out.cells
    go_wp2_with (at_builtin; refine append_one rfl (.tmp 10) (.tmp 11) rfl base Ab nb cb zs rfl O1.out 0 (by decide) (by decide) rfl (by omega) (Nat.le_trans hb X.out.bw.below.size) ?_; intro A2 c2 w2 ho2 hb2)
    go_ret
    exact ⟨A2, c2, rfl, ho2, X.out.bw.trans hb2⟩

set_option maxRecDepth 100000 in
set_option maxHeartbeats 4000000 in
theorem putplace_any (base : Nat) (Ab : Option Addr) (nb cb : Nat) (zs : List Int) (kind fr to t pi pt co : Int) (ok : Bool) (A : Option Addr) (n c : Nat) (A1 : Option Addr) (n1 c1 : Nat) (A2 : Option Addr) (n2 c2 : Nat) (w : World) (ho : Own w base Ab nb cb zs) (hb : base ≤ w.heap.size) (hn : nb ≤ 200000)
    (h0 : 0 ≤ pi) (h1 : pi < 18446744073709551616) (h2 : 0 ≤ pt) (h3 : pt < 18446744073709551616) :
    Calls Tryd.prog 67 #[.slice Ab nb cb, .agg #[.int .i64 kind, .int .i64 fr, .int .i64 to, .int .u64 t, .int .u64 pi, .int .u64 pt, .slice A n c, .int .u64 co, .bool ok, .slice A1 n1 c1, .slice A2 n2 c2]] w (Puts w base nb zs (shI pi ++ shI pt)) := by
  have X := Lib.hid (Bq.new_ (kind := kind) (fr := fr) (to := to) (t := t) (pi := pi) (pt := pt) (co := co) (ok := ok) (A := A) (n := n) (c := c) (A1 := A1) (n1 := n1) (c1 := c1) (A2 := A2) (n2 := n2) (c2 := c2) hb)
  have O1 := Lib.hid ((ho.alloc (.cells #[.int .i64 kind, .int .i64 fr, .int .i64 to, .int .u64 t, .int .u64 pi, .int .u64 pt, .slice A n c, .int .u64 co, .bool ok, .slice A1 n1 c1, .slice A2 n2 c2] 31)).drew)
  have l1 := shI_len h0 h1
  have P1 := Lib.hid (fun W h h' => putshortI_any base Ab nb cb zs pi W h h' (by omega) h0 h1)
  have P2 := Lib.hid (fun (A' : Option Addr) (c' : Nat) W h h' => putshortI_any base A' (nb + (shI pi).length) c' (zs ++ shI pi) pt W h h' (by omega) h2 h3)
  clear ho
  generalize hPI : shI pi = PI at *
  generalize hPT : shI pt = PT at *
  have HPI := Lib.hid hPI
  have HPT := Lib.hid hPT
  clear hPI hPT
  go_enter Tryd.func67, Tryd.ntmps67
  go_upto_region 1 with (fail)
  generalize w.alloc (.cells #[.int .i64 kind, .int .i64 fr, .int .i64 to, .int .u64 t, .int .u64 pi, .int .u64 pt, .slice A n c, .int .u64 co, .bool ok, .slice A1 n1 c1, .slice A2 n2 c2] 31) = W at *
  obtain ⟨d0, d1, d2, d3, d4, d5, d6, d7, d8, d9, d10⟩ := X.out.cells
  have D0 := X.out.drew
  have hS0 : W.drew.cell? ⟨w.heap.size, 4, none⟩ = some (.int .u64 pi) ∧ W.drew.cell? ⟨w.heap.size, 5, none⟩ = some (.int .u64 pt) := ⟨D0.blk.cell 4, D0.blk.cell 5⟩
  have hb0 := Nat.le_trans hb D0.bw.below.size
  clear d0 d1 d2 d3 d4 d5 d6 d7 d8 d9 d10 X
  refine wp_region_noPanic ?_
  refine wp_region_held_drew (S := fun w' => w'.cell? ⟨w.heap.size, 4, none⟩ = some (.int .u64 pi) ∧ w'.cell? ⟨w.heap.size, 5, none⟩ = some (.int .u64 pt)) (by kernel_rfl) hS0 (fun hHeld => ?_)
  generalize W.drew = v0 at *
  refine take_d (i := 0) (d := 5) (v := ?p5) rfl rfl (by kernel_rfl) (by kernel_rfl) (by kernel_rfl) (fun _ _ _ h => h) (Or.inl ⟨by kernel_rfl, ?p5h⟩) hHeld ?p5n
  case p5h => (intro w hSw; (try dsimp only at hSw); go_split_ands; go_simp; (try exact rfl))
  try simp only [Act.put, List.setIfInBounds_toArray, List.set_cons_zero, List.set_cons_succ]
  refine take_d (i := 1) (d := 6) (v := ?p6) rfl rfl (by kernel_rfl) (by kernel_rfl) (by kernel_rfl) (fun _ _ _ h => h) (Or.inl ⟨by kernel_rfl, ?p6h⟩) hHeld ?p6n
  case p6h => (intro w hSw; (try dsimp only at hSw); go_split_ands; go_simp; (try exact rfl))
  try simp only [Act.put, List.setIfInBounds_toArray, List.set_cons_zero, List.set_cons_succ]
  refine take_d (i := 2) (d := 7) (v := ?p7) rfl rfl (by kernel_rfl) (by kernel_rfl) (by kernel_rfl) (fun _ _ _ h => h) (Or.inl ⟨by kernel_rfl, ?p7h⟩) hHeld ?p7n
  case p7h => (intro w hSw; (try dsimp only at hSw); go_split_ands; go_simp; (try exact rfl))
  try simp only [Act.put, List.setIfInBounds_toArray, List.set_cons_zero, List.set_cons_succ]
  refine take_d (i := 3) (d := 8) (v := ?p8) rfl rfl (by kernel_rfl) (by kernel_rfl) (by kernel_rfl) (fun _ _ _ h => h) (Or.inl ⟨by kernel_rfl, ?p8h⟩) hHeld ?p8n
  case p8h => (intro w hSw; (try dsimp only at hSw); go_split_ands; go_simp; (try exact rfl))
  try simp only [Act.put, List.setIfInBounds_toArray, List.set_cons_zero, List.set_cons_succ]
  refine take_d (i := 5) (d := 10) (v := ?p10) rfl rfl (by kernel_rfl) (by kernel_rfl) (by kernel_rfl) (fun _ _ _ h => h) (Or.inl ⟨by kernel_rfl, ?p10h⟩) hHeld ?p10n
  case p10h => (intro w hSw; (try dsimp only at hSw); go_split_ands; go_simp; (try exact rfl))
  try simp only [Act.put, List.setIfInBounds_toArray, List.set_cons_zero, List.set_cons_succ]
  refine take_d (i := 6) (d := 11) (v := ?p11) rfl rfl (by kernel_rfl) (by kernel_rfl) (by kernel_rfl) (fun _ _ _ h => h) (Or.inl ⟨by kernel_rfl, ?p11h⟩) hHeld ?p11n
  case p11h => (intro w hSw; (try dsimp only at hSw); go_split_ands; go_simp; (try exact rfl))
  try simp only [Act.put, List.setIfInBounds_toArray, List.set_cons_zero, List.set_cons_succ]
  refine take_d (i := 7) (d := 12) (v := ?p12) rfl rfl (by kernel_rfl) (by kernel_rfl) (by kernel_rfl) (fun _ _ _ h => h) (Or.inl ⟨by kernel_rfl, ?p12h⟩) hHeld ?p12n
  case p12h => (intro w hSw; (try dsimp only at hSw); go_split_ands; go_simp; (try exact rfl))
  try simp only [Act.put, List.setIfInBounds_toArray, List.set_cons_zero, List.set_cons_succ]
  refine wpAnyH_ready (rs := [4]) (by kernel_rfl) (by simp) ?_
  refine AllReadyH.cons rfl (fun K hK => ?_) AllReadyH.nil
  go_simp
  refine (P1.out _ O1.out hb0).mono ?_
  rintro e u1 ⟨A3, c3, rfl, o3, f3⟩
  have D1 := D0.put f3
  have O3 := Lib.hid o3
  clear f3 o3
  have hb1 := Nat.le_trans hb D1.bw.below.size
  refine hK.out _ _ ⟨D1.blk.cell 4, D1.blk.cell 5⟩ (fun hHeld => ?_)
  clear hK K
  try simp only [Act.put, List.setIfInBounds_toArray, List.set_cons_zero, List.set_cons_succ]
  refine wpAnyH_ready (rs := [8]) (by kernel_rfl) (by simp) ?_
  refine AllReadyH.cons rfl (fun K hK => ?_) AllReadyH.nil
  go_simp
  refine (P2.out _ _ _ O3.out hb1).mono ?_
  rintro e u2 ⟨A4, c4, rfl, o4, f4⟩
  have D2 := D1.put f4
  have O4 := Lib.hid o4
  clear f4 o4
  refine hK.out _ _ ⟨D2.blk.cell 4, D2.blk.cell 5⟩ (fun hHeld => ?_)
  clear hK K
  try simp only [Act.put, List.setIfInBounds_toArray, List.set_cons_zero, List.set_cons_succ]
  refine take_d (i := 9) (d := 4) (v := ?p4) rfl rfl (by kernel_rfl) (by kernel_rfl) (by kernel_rfl) (fun _ _ _ h => h) (Or.inl ⟨by kernel_rfl, ?p4h⟩) hHeld ?p4n
  case p4h => (intro w hSw; (try dsimp only at hSw); go_split_ands; go_simp; (try exact rfl))
  try simp only [Act.put, List.setIfInBounds_toArray, List.set_cons_zero, List.set_cons_succ]
  refine wpAnyH_done (by kernel_rfl) ?_ _
  refine NoPanic.normal ?_
  go_wp2_with fail
  go_ret
  have hl : nb + (PI ++ PT).length = nb + PI.length + PT.length := by rw [List.length_append]; omega
  exact ⟨A4, c4, by rw [hl]; rfl, by rw [hl, ← List.append_assoc]; exact O4.out, D2.bw⟩

theorem putcommit_any (base : Nat) (Ab : Option Addr) (nb cb : Nat) (zs : List Int) (kind fr to t pi pt co : Int) (ok : Bool) (A : Option Addr) (n c : Nat) (A1 : Option Addr) (n1 c1 : Nat) (A2 : Option Addr) (n2 c2 : Nat) (w : World) (ho : Own w base Ab nb cb zs) (hb : base ≤ w.heap.size) (hn : nb ≤ 200000)
    (h0 : 0 ≤ co) (h1 : co < 18446744073709551616) :
    Calls Tryd.prog 68 #[.slice Ab nb cb, .agg #[.int .i64 kind, .int .i64 fr, .int .i64 to, .int .u64 t, .int .u64 pi, .int .u64 pt, .slice A n c, .int .u64 co, .bool ok, .slice A1 n1 c1, .slice A2 n2 c2]] w (Puts w base nb zs (shI co)) := by
  have X := Lib.hid (Bq.new_ (kind := kind) (fr := fr) (to := to) (t := t) (pi := pi) (pt := pt) (co := co) (ok := ok) (A := A) (n := n) (c := c) (A1 := A1) (n1 := n1) (c1 := c1) (A2 := A2) (n2 := n2) (c2 := c2) hb)
  have O1 := Lib.hid (ho.alloc (.cells #[.int .i64 kind, .int .i64 fr, .int .i64 to, .int .u64 t, .int .u64 pi, .int .u64 pt, .slice A n c, .int .u64 co, .bool ok, .slice A1 n1 c1, .slice A2 n2 c2] 31))
  have P1 := Lib.hid (fun W h h' => putshortI_any base Ab nb cb zs co W h h' (by omega) h0 h1)
  clear ho
  go_enter Tryd.func68, Tryd.ntmps68
  go_upto_region 1 with (fail)
  generalize w.alloc (.cells #[.int .i64 kind, .int .i64 fr, .int .i64 to, .int .u64 t, .int .u64 pi, .int .u64 pt, .slice A n c, .int .u64 co, .bool ok, .slice A1 n1 c1, .slice A2 n2 c2] 31) = W at *
  obtain ⟨d0, d1, d2, d3, d4, d5, d6, d7, d8, d9, d10⟩ := X.out.cells
  go_wp2_with (go_at_call 42; refine (P1.out _ O1.out (Nat.le_trans hb X.out.bw.below.size)).mono ?_; rintro e u1 ⟨A3, c3, rfl, o3, f3⟩)
  go_ret
  exact ⟨A3, c3, rfl, o3, X.out.bw.trans f3⟩

theorem putconf_any (base : Nat) (Ab : Option Addr) (nb cb : Nat) (zs : List Int) (kind fr to t pi pt co : Int) (ok : Bool) (A : Option Addr) (n c : Nat) (A1 : Option Addr) (n1 c1 : Nat) (A2 : Option Addr) (n2 c2 : Nat) (B : Nat) (mem : List Int) (w : World) (ho : Own w base Ab nb cb zs) (hb : base ≤ w.heap.size) (hn : nb ≤ 200000) (hB : B ≤ base)
    (hm : Is w B A1 n1 mem) (hn1 : n1 ≤ 100000) :
    Calls Tryd.prog 70 #[.slice Ab nb cb, .agg #[.int .i64 kind, .int .i64 fr, .int .i64 to, .int .u64 t, .int .u64 pi, .int .u64 pt, .slice A n c, .int .u64 co, .bool ok, .slice A1 n1 c1, .slice A2 n2 c2]] w (Puts w base nb zs (shB n1 ++ mem.map (· % 256))) := by
  have X := Lib.hid (Bq.new_ (kind := kind) (fr := fr) (to := to) (t := t) (pi := pi) (pt := pt) (co := co) (ok := ok) (A := A) (n := n) (c := c) (A1 := A1) (n1 := n1) (c1 := c1) (A2 := A2) (n2 := n2) (c2 := c2) hb)
  have O1 := Lib.hid (ho.alloc (.cells #[.int .i64 kind, .int .i64 fr, .int .i64 to, .int .u64 t, .int .u64 pi, .int .u64 pt, .slice A n c, .int .u64 co, .bool ok, .slice A1 n1 c1, .slice A2 n2 c2] 31))
  have P1 := Lib.hid (fun W h h' hI => putlistI_any base Ab nb cb zs A1 n1 c1 B mem W h h' hB hI (by omega) hn1)
  have HM := Lib.hid (hm.below (X.out.bw.below.mono hB))
  clear ho hm
  go_enter Tryd.func70, Tryd.ntmps70
  go_upto_region 1 with (fail)
  generalize w.alloc (.cells #[.int .i64 kind, .int .i64 fr, .int .i64 to, .int .u64 t, .int .u64 pi, .int .u64 pt, .slice A n c, .int .u64 co, .bool ok, .slice A1 n1 c1, .slice A2 n2 c2] 31) = W at *
  obtain ⟨d0, d1, d2, d3, d4, d5, d6, d7, d8, d9, d10⟩ := X.out.cells
  go_wp2_with (go_at_call 71; refine (P1.out _ O1.out (Nat.le_trans hb X.out.bw.below.size) HM.out).mono ?_; rintro e u1 ⟨A3, c3, rfl, o3, f3⟩; have O3 := Lib.hid o3; have F3 := Lib.hid f3; clear o3 f3)
  go_ret
  exact ⟨A3, c3, by rw [List.length_append]; first | rfl | simp, O3.out, X.out.bw.trans F3.out⟩

theorem putdata_any (base : Nat) (Ab : Option Addr) (nb cb : Nat) (zs : List Int) (kind fr to t pi pt co : Int) (ok : Bool) (A : Option Addr) (n c : Nat) (A1 : Option Addr) (n1 c1 : Nat) (A2 : Option Addr) (n2 c2 : Nat) (B : Nat) (da : List Int) (w : World) (ho : Own w base Ab nb cb zs) (hb : base ≤ w.heap.size) (hn : nb ≤ 200000) (hB : B ≤ base)
    (hm : By w B A2 n2 da) (hn1 : n2 ≤ 100000) :
    Calls Tryd.prog 73 #[.slice Ab nb cb, .agg #[.int .i64 kind, .int .i64 fr, .int .i64 to, .int .u64 t, .int .u64 pi, .int .u64 pt, .slice A n c, .int .u64 co, .bool ok, .slice A1 n1 c1, .slice A2 n2 c2]] w (Puts w base nb zs (shB n2 ++ da)) := by
  have X := Lib.hid (Bq.new_ (kind := kind) (fr := fr) (to := to) (t := t) (pi := pi) (pt := pt) (co := co) (ok := ok) (A := A) (n := n) (c := c) (A1 := A1) (n1 := n1) (c1 := c1) (A2 := A2) (n2 := n2) (c2 := c2) hb)
  have O1 := Lib.hid (ho.alloc (.cells #[.int .i64 kind, .int .i64 fr, .int .i64 to, .int .u64 t, .int .u64 pi, .int .u64 pt, .slice A n c, .int .u64 co, .bool ok, .slice A1 n1 c1, .slice A2 n2 c2] 31))
  have P1 := Lib.hid (fun W h h' hI => putlistB_any base Ab nb cb zs A2 n2 c2 B da W h h' hB hI (by omega) hn1)
  have HM := Lib.hid (hm.below (X.out.bw.below.mono hB))
  clear ho hm
  go_enter Tryd.func73, Tryd.ntmps73
  go_upto_region 1 with (fail)
  generalize w.alloc (.cells #[.int .i64 kind, .int .i64 fr, .int .i64 to, .int .u64 t, .int .u64 pi, .int .u64 pt, .slice A n c, .int .u64 co, .bool ok, .slice A1 n1 c1, .slice A2 n2 c2] 31) = W at *
  obtain ⟨d0, d1, d2, d3, d4, d5, d6, d7, d8, d9, d10⟩ := X.out.cells
  go_wp2_with (go_at_call 74; refine (P1.out _ O1.out (Nat.le_trans hb X.out.bw.below.size) HM.out).mono ?_; rintro e u1 ⟨A3, c3, rfl, o3, f3⟩; have O3 := Lib.hid o3; have F3 := Lib.hid f3; clear o3 f3)
  go_ret
  exact ⟨A3, c3, by rw [List.length_append]; first | rfl | simp, O3.out, X.out.bw.trans F3.out⟩

set_option maxRecDepth 100000 in
set_option maxHeartbeats 4000000 in
theorem putentries_any (base : Nat) (Ab : Option Addr) (nb cb : Nat) (zs : List Int) (kind fr to t pi pt co : Int) (ok : Bool) (A : Option Addr) (n c : Nat) (A1 : Option Addr) (n1 c1 : Nat) (A2 : Option Addr) (n2 c2 : Nat) (B : Nat) (es : List En) (w : World) (ho : Own w base Ab nb cb zs) (hb : base ≤ w.heap.size) (hn : nb ≤ 100000) (hB : B ≤ base)
    (hm : Es w B A n es) (hn1 : n ≤ 20) (hd : ∀ e ∈ es, e.d.length ≤ 2000) :
    Calls Tryd.prog 69 #[.slice Ab nb cb, .agg #[.int .i64 kind, .int .i64 fr, .int .i64 to, .int .u64 t, .int .u64 pi, .int .u64 pt, .slice A n c, .int .u64 co, .bool ok, .slice A1 n1 c1, .slice A2 n2 c2]] w (Puts w base nb zs (shB n ++ entsB pt es)) := by
  have X := Lib.hid (Bq.new_ (kind := kind) (fr := fr) (to := to) (t := t) (pi := pi) (pt := pt) (co := co) (ok := ok) (A := A) (n := n) (c := c) (A1 := A1) (n1 := n1) (c1 := c1) (A2 := A2) (n2 := n2) (c2 := c2) hb)
  have O1 := Lib.hid (ho.alloc (.cells #[.int .i64 kind, .int .i64 fr, .int .i64 to, .int .u64 t, .int .u64 pi, .int .u64 pt, .slice A n c, .int .u64 co, .bool ok, .slice A1 n1 c1, .slice A2 n2 c2] 31))
  have P1 := Lib.hid (fun ga W h h' hg hga hI => putlistE_any base Ab nb cb zs A n c ga B pt es W h h' hB hg hga hI hn hn1 hd)
  have HM := Lib.hid (hm.below (X.out.bw.below.mono hB))
  clear ho hm
  go_enter Tryd.func69, Tryd.ntmps69
  go_upto_region 1 with (fail)
  generalize w.alloc (.cells #[.int .i64 kind, .int .i64 fr, .int .i64 to, .int .u64 t, .int .u64 pi, .int .u64 pt, .slice A n c, .int .u64 co, .bool ok, .slice A1 n1 c1, .slice A2 n2 c2] 31) = W at *
  obtain ⟨d0, d1, d2, d3, d4, d5, d6, d7, d8, d9, d10⟩ := X.out.cells
  go_upto_region 2 with (fail)
  have GA : Hid (Blk (W.alloc (.cells #[.int .u64 pt] 22)) W.heap.size 22 #[.int .u64 pt]) := Lib.hid (Blk.new W 22 _)
  have O2 := Lib.hid (O1.out.alloc (.cells #[.int .u64 pt] 22))
  have F2 : Hid (Bw base W (W.alloc (.cells #[.int .u64 pt] 22))) := Lib.hid ((Bw.refl base W).alloc (Nat.le_trans hb X.out.bw.below.size) _)
  have HM2 := Lib.hid (HM.out.below (F2.out.below.mono hB))
  have X2 := X.out.put F2.out
  have hga := Nat.le_trans hb X.out.bw.below.size
  clear d0 d1 d2 d3 d4 d5 d6 d7 d8 d9 d10
  obtain ⟨d0, d1, d2, d3, d4, d5, d6, d7, d8, d9, d10⟩ := X2.cells
  have HGL : Hid (W.heap.size ≤ W.heap.size) := Lib.hid (Nat.le_refl _)
  obtain ⟨W2, hW2⟩ : ∃ W2, W.alloc (.cells #[.int .u64 pt] 22) = W2 := ⟨_, rfl⟩
  rw [hW2]
  rw [hW2] at GA O2 HM2 F2 X2 d0 d1 d2 d3 d4 d5 d6 d7 d8 d9 d10
  clear hW2
  go_wp2_with (go_at_call 92; refine (P1.out _ _ O2.out (Nat.le_trans hb X2.bw.below.size) GA.out hga HM2.out).mono ?_; rintro e u1 ⟨u, A3, c3, rfl, o3, g3, f3⟩; have O3 := Lib.hid o3; have F3 := Lib.hid f3; clear o3 f3 g3)
  go_ret
  refine ⟨A3, c3, by rw [List.length_append]; first | rfl | simp, O3.out, X.out.bw.below.trans (F2.out.below.trans F3.out.below), fun g t cs ht hg => ?_⟩
  have hgl := hg.lt
  have h1 := X.out.bw.other g t cs ht hg
  exact F3.out.other g t cs ht (fun e => by have := X.out.bw.below.size; omega) (F2.out.other g t cs ht h1)

end Go.Proofs.YtemfnckaehjhcaaDoor
