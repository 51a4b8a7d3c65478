/-
  The law ConfGrows: its walk.
-/
import Derived.Test.YtfclppopelmdgaaDoorGR
import Derived.Test.YtfclppopelmdgaaDoorAK
namespace Go.Proofs.YtfclppopelmdgaaDoor
open Go.RowKit
attribute [local go_sem ↓] field27

/-- How the three boxes stand, and what lies behind them. -/
structure Gst (g : Nat) (P : Option Addr) (p q : Nat) (X : List Int) (A5 : Option Addr) (m c5 : Nat) (L : List (Int × Int)) (mm jj : Int) (w : World) : Prop where
  b0 : Blk w g 27 #[.slice P p q]
  b1 : Blk w (g + 1) 37 #[.slice A5 m c5]
  b2 : Blk w (g + 2) 59 #[.int .i64 mm, .int .u64 jj]
  is_ : Is w w.heap.size P p X
  mt : Mt w w.heap.size A5 m L
  gl : Gl w
  p30 : p ≤ 30
  m60 : m ≤ 60
  nil : A5 = none → c5 = 0
section
variable {g : Nat} {P : Option Addr} {p q : Nat} {X : List Int} {A5 : Option Addr} {m c5 : Nat} {L : List (Int × Int)} {mm jj : Int} {w w' : World}
theorem Gst.on (h : Gst g P p q X A5 m c5 L mm jj w) (hb : Below w.heap.size w w') : Gst g P p q X A5 m c5 L mm jj w' :=
  ⟨h.b0.below hb h.b0.lt, h.b1.below hb h.b1.lt, h.b2.below hb h.b2.lt, (h.is_.below hb).more hb.size, (h.mt.below hb).more hb.size, h.gl.low hb, h.p30, h.m60, h.nil⟩
theorem Gst.drew (h : Gst g P p q X A5 m c5 L mm jj w) : Gst g P p q X A5 m c5 L mm jj w.drew := h.on (Below.refl _ _).drew
theorem Gst.agreed (h : Gst g P p q X A5 m c5 L mm jj w) {A6 : Option Addr} {n6 : Nat} (c6 : Nat) {K : List (Int × Int)} (h6 : Mt w w.heap.size A6 n6 K) (hn : n6 ≤ 1000) :
    Calls Tryd.prog 23 #[.agg #[.slice P p q], .slice A6 n6 c6] w fun e w' => e = .returned (.int .u64 (agr X K)) ∧ Below w.heap.size w w' :=
  agreed_any A6 n6 c6 w.heap.size K P p q w.heap.size X w h.is_ (by have := h.p30; omega) (Nat.le_refl _) h.gl h6 (by omega) (Nat.le_refl _)
theorem Gst.check (h : Gst g P p q X A5 m c5 L mm jj w) : Calls Tryd.prog 14 #[.agg #[.slice P p q]] w fun e w' => e = .returned (.int .i64 (chkE X)) ∧ Below w.heap.size w w' :=
  check_any P p q w.heap.size X w h.is_ (by have := h.p30; omega) (Nat.le_refl _) h.gl
theorem Gst.maj (h : Gst g P p q X A5 m c5 L mm jj w) {A6 : Option Addr} {n6 : Nat} (c6 : Nat) {set : List Int} (h6 : Is w w.heap.size A6 n6 set) (hn : n6 ≤ 1000) :
    Calls Tryd.prog 19 #[.agg #[.slice P p q], .slice A6 n6 c6] w fun e w' => e = .returned (.bool (majB X set)) ∧ Below w.heap.size w w' :=
  majority_any A6 n6 c6 w.heap.size set P p q w.heap.size X w h.is_ (by have := h.p30; omega) (Nat.le_refl _) h.gl h6 (by omega) (Nat.le_refl _)
theorem Gst.has (h : Gst g P p q X A5 m c5 L mm jj w) : Calls Tryd.prog 15 #[.agg #[.slice P p q], .int .i64 mm] w fun e w' => e = .returned (.bool (inG (grp X) mm)) ∧ Below w.heap.size w w' :=
  hasc_any mm P p q w.heap.size X w h.is_ (by have := h.p30; omega) (Nat.le_refl _) h.gl
theorem Gst.far (h : Gst g P p q X A5 m c5 L mm jj w) (a : Int) : Calls Tryd.prog 36 #[.int .u64 a, .pointer (some ⟨g + 1, 0, none⟩)] w fun e w' => ∃ A5 n5 c5, e = .returned (.slice A5 n5 c5) ∧ Ios w' w.heap.size A5 n5 c5 (farM L a) ∧ n5 ≤ 1000 ∧ Below w.heap.size w w' :=
  further_any a (g + 1) A5 m c5 w.heap.size L w h.b1 h.mt (by have := h.m60; omega) (Nat.le_refl _)
theorem Gst.clone (h : Gst g P p q X A5 m c5 L mm jj w) : Calls Tryd.prog 37 #[.slice A5 m c5] w fun e w' => ∃ A7 c7, e = .returned (.slice A7 m c7) ∧ Mos w' w.heap.size A7 m c7 L ∧ Below w.heap.size w w' :=
  mclone_any A5 m c5 w.heap.size L w h.mt h.nil (by have := h.m60; omega) (Nat.le_refl _)
end
set_option maxRecDepth 100000 in
theorem reverse_zero (A : Option Addr) (c : Nat) (w : World) : Calls Tryd.prog 38 #[.slice A 0 c] w fun e w' => e = .returned (.tuple #[]) ∧ w = w' := by
  go_enter Tryd.func38, Tryd.ntmps38
  go_wp2
  go_loop [2, 3] (fun i j => i = .int .i64 0 ∧ j = .int .i64 (-1)) (fun _ _ => 0)
  case atStart => exact ⟨rfl, rfl⟩
  case round =>
    obtain ⟨rfl, rfl⟩ := hrel
    go_wp2
    go_end0
    exact ⟨rfl, rfl⟩
theorem reverse_own (base : Nat) (A : Option Addr) (n c : Nat) (l : List (Int × Int)) (w : World) (h : Mos w base A n c l) (hn : n ≤ 1000) :
    Calls Tryd.prog 38 #[.slice A n c] w fun e w' => e = .returned (.tuple #[]) ∧ ∃ X, Mos w' base A n c X ∧ (∀ x ∈ X, x ∈ l) ∧ Below base w w' := by
  rcases Nat.eq_zero_or_pos n with h0 | h0
  · subst h0
    exact (reverse_zero A c w).mono fun e w' ⟨he, hw⟩ => by subst hw; exact ⟨he, l, h, fun x hx => hx, Below.refl _ _⟩
  · obtain ⟨b, hb⟩ : ∃ b, A = some ⟨b, 0, none⟩ := by
      rcases h.1.2 with ⟨_, hv⟩ | ⟨g', cap, cur, hv, _⟩
      · omega
      · injection hv with h1
        exact ⟨g', h1⟩
    subst hb
    exact (reverse_any base b n c l w h hn h0).mono fun e w' ⟨he, hr⟩ => ⟨he, hr⟩
/-- append of one pair onto one's own: what was read before is read so still. -/
theorem step_append_pair {w : World} {ops : Array Oper} {E : Prop} {o : Oper} {a : Act} {K : Act → World → Prop} {Q : Exit → Act → World → Prop} (hgd : o.guard = none) (s x : Operand)
    (ho : o.op = .call { callee := .builtin .append, args := #[s, x], argTypes := #[37, 37] }) (base : Nat) (A : Option Addr) (n c : Nat) (zs : List (Int × Int)) (hs : a.eval s = .slice A n c) (hown : Mos w base A n c zs)
    (ad : Nat) (y : Int × Int) (hx : a.eval x = .slice (some ⟨ad, 0, none⟩) 1 1) (hr : Blk w ad 59 #[.int .i64 y.1, .int .u64 y.2]) (hy : 0 ≤ y.2 ∧ y.2 ≤ 18446744073709551615) (hsum : n + 1 ≤ 1000000) (hbase : base ≤ w.heap.size)
    (h : ∀ A2 c2 w', Mt w' w'.heap.size A2 (n + 1) (zs ++ [y]) → Mt w' w'.heap.size A n zs → w.grownBy w' (Value.slice A n c).ownBlock → K (a.put o.dst (.slice A2 (n + 1) c2)) w') : if Region.wanted o (yielded ops a.tmps) = true then Oper.wp Tryd.prog o a w K Q else E := by
  obtain ⟨i0, hi, hz0, hz1, hz2⟩ := info_parts Tryd.info59
  have hyb : Mbd [y] := fun j => by
    match j with
    | 0 => exact hy
    | j + 1 => simp
  have hlen : zs.length = n := by have := hown.1.1; rw [mrow_len] at this; omega
  have hw : Region.wanted o (yielded ops a.tmps) = true := by simp [Region.wanted, hgd]
  have hnew : ∀ j u, (mrow [y])[j]? = some u → w.cell? ((⟨ad, 0, none⟩ : Addr).add j) = some u := fun j u hj => by
    have e : (⟨ad, 0, none⟩ : Addr).add j = ⟨ad, 0 + j, none⟩ := by by_cases h0 : j = 0 <;> simp [Addr.add, h0]
    rw [e, Nat.zero_add, hr.cell, ← hj]
    match j with
    | 0 => rfl
    | 1 => rfl
    | j + 2 => rfl
  cases A with
  | none =>
    have h0 : n = 0 := by
      rcases hown.1.2 with ⟨_, hv⟩ | ⟨g', cap, cur, hv, _⟩
      · exact hv
      · cases hv
    subst h0
    obtain rfl := List.eq_nil_of_length_eq_zero hlen
    rw [if_pos hw]
    refine wp_append_own w s x 37 ho base 59 i0 _ 2 16 Tryd.underlying37 hi hz0 hz1 hz2 rfl (by decide) _ 0 _ hs hown.1 ⟨ad, 0, none⟩ 1 1 (mrow [y]) hx rfl hnew (mrow_one _) (by unfold maxLen; omega) (by omega) hbase ?_
    intro v' w' hown' hg _
    obtain ⟨A2, c2, rfl, ho2⟩ := mos_of_row (l := [y]) hown' hyb
    exact h A2 c2 w' ho2.mt.1 ⟨rfl, Mbd.nil, fun hp => absurd hp (by omega)⟩ hg
  | some a1 =>
    obtain ⟨g, rfl⟩ : ∃ g, a1 = ⟨g, 0, none⟩ := by
      rcases hown.1.2 with ⟨hv, _⟩ | ⟨g', cap, cur, hv, _⟩
      · cases hv
      · injection hv with h1
        injection h1 with h1
        exact ⟨g', h1⟩
    refine step_append_keep w hgd s x 37 ho base 59 i0 _ 2 16 Tryd.underlying37 hi hz0 hz1 hz2 rfl (by decide) g n c (mrow zs) hs hown.1 ⟨ad, 0, none⟩ 1 1 (mrow [y]) hx rfl hnew (mrow_one _) (by omega) (by unfold maxLen; omega) (by omega) hbase ?_
    intro g' cap' w' hown' hg hkeep
    rw [← mrow_append] at hown'
    obtain ⟨A2, c2, hv, ho2⟩ := mos_of_row hown' (hown.2.app hyb)
    injection hv with h1 h2 h3
    subst h1 h3
    refine h _ _ w' ho2.mt.1 ⟨hlen, hown.2, fun hp => ⟨g, 0, rfl, ?_, fun j hj => ?_⟩⟩ hg
    · exact World.block_lt_of_cell? w' ⟨g, 0, none⟩ (hkeep 0 _ (by have := (mrow_get zs 0 (by omega)).1; simpa using this))
    · have hm := mrow_get zs j (by omega)
      rw [Nat.zero_add]
      exact ⟨hkeep _ _ hm.1, hkeep _ _ hm.2⟩

set_option maxRecDepth 100000 in
set_option maxHeartbeats 16000000 in
theorem grows_walk (A : Option Addr) (n c : Nat) (A1 : Option Addr) (n1 c1 : Nat) (mm jj : Int) (xs : List Int) (l : List (Int × Int)) (w : World)
    (h0 : Arg w A n c xs) (h1 : Mrg w A1 n1 c1 l) (hj : 0 ≤ jj ∧ jj ≤ 18446744073709551615) (hG : Gl w) :
    Calls Tryd.prog 8 #[.agg #[.slice A n c], .slice A1 n1 c1, .agg #[.int .i64 mm, .int .u64 jj]] w fun e w' => e = .returned (.bool true) ∧ Below w.heap.size w w' := by
  obtain ⟨g, hg⟩ : ∃ g, w.heap.size = g := ⟨_, rfl⟩
  obtain ⟨m, hm⟩ : ∃ m : Nat, (min (n1 : Int) 60).toNat = m := ⟨_, rfl⟩
  have m1 : m ≤ n1 := by omega
  have m2 : m ≤ 60 := by omega
  have hmi : min (n1 : Int) 60 = (m : Int) := by omega
  have mc : (m : Int) ≤ (c1 : Int) := by have := h1.nc; omega
  have m0 : (0 : Int) ≤ (m : Int) := by omega
  have c63 : (c1 : Int) ≤ 9223372036854775807 := by have := h1.cm; omega
  have F0 := Lib.hid (fun W (hW : Below g w W) => h0.few (by rw [hg]; exact hW))
  have MT := Lib.hid (fun W (hW : Below g w W) => (show Mt W g A1 m (l.take m) from (by rw [← hg]; exact (h1.mt.take m1).below (by rw [hg]; exact hW))))
  have GW := Lib.hid (fun W (hW : Below g w W) => hG.below hW (by have := hG.lt; omega))
  have WK := Lib.hid (fun W (hW : Below g w W) => wakes_any W (GW.out W hW))
  have GS := Lib.hid hg
  have HN := Lib.hid h1.nil
  have HJ := Lib.hid hj
  have N1 : Hid (A1 = none → n1 = 0) := Lib.hid (fun e => by subst e; exact h1.mt.zero.1)
  have U0 : Hid (Blk (((w.alloc (.cells #[.slice A n c] 27)).alloc (.cells #[.slice A1 n1 c1] 37)).alloc (.cells #[.int .i64 mm, .int .u64 jj] 59)) g 27 #[.slice A n c]) := Lib.hid (by rw [← hg]; exact ((Blk.new _ _ _).alloc _).alloc _)
  have U1 : Hid (Blk (((w.alloc (.cells #[.slice A n c] 27)).alloc (.cells #[.slice A1 n1 c1] 37)).alloc (.cells #[.int .i64 mm, .int .u64 jj] 59)) (g + 1) 37 #[.slice A1 n1 c1]) := Lib.hid (by rw [← hg]; exact (Blk.fresh (by simp)).alloc _)
  have U2 : Hid (Blk (((w.alloc (.cells #[.slice A n c] 27)).alloc (.cells #[.slice A1 n1 c1] 37)).alloc (.cells #[.int .i64 mm, .int .u64 jj] 59)) (g + 2) 59 #[.int .i64 mm, .int .u64 jj]) := Lib.hid (by rw [← hg]; exact Blk.fresh (by simp))
  have HB : Hid (Below g w (((w.alloc (.cells #[.slice A n c] 27)).alloc (.cells #[.slice A1 n1 c1] 37)).alloc (.cells #[.int .i64 mm, .int .u64 jj] 59))) := Lib.hid (by rw [← hg]; exact (((Below.refl _ _).alloc (Nat.le_refl _) _).alloc (by simp) _).alloc (by simp; omega) _)
  generalize l.take m = L at *
  have n63 : (n1 : Int) ≤ 9223372036854775807 := by have := h1.nc; omega
  have hsl : ∀ W : World, (Instr.slice 37 (.slice A1 n1 c1) none (some (.int .i64 (m : Int))) none).run Tryd.prog W = .ok (.slice A1 m c1) W := fun W => by
    cases A1 with
    | none =>
      have e1 := HN.out rfl
      have e2 := N1.out rfl
      subst e1 e2
      obtain rfl : m = 0 := by omega
      go_simp
    | some a =>
      go_simp
  clear h0 h1 hG hm N1 hj
  go_enter Tryd.func8, Tryd.ntmps8
  go_upto_region 1 with (fail)
  generalize (((w.alloc (.cells #[.slice A n c] 27)).alloc (.cells #[.slice A1 n1 c1] 37)).alloc (.cells #[.int .i64 mm, .int .u64 jj] 59)) = u0 at *
  clear hg
  go_upto_region 3 with (go_at_call 10; refine (WK.out _ HB.out).mono ?_; rintro e v0 ⟨rfl, hb⟩; have HB0 := Lib.hid (HB.out.trans (hb.mono (by have := U0.out.lt; omega))); have B00 := Lib.hid (U0.out.below hb U0.out.lt); have B10 := Lib.hid (U1.out.below hb U1.out.lt); have B20 := Lib.hid (U2.out.below hb U2.out.lt); have x0 : v0.cell? ⟨g, 0, none⟩ = some (.slice A n c) := B00.out.cell 0; clear hb HB U0 U1 U2)
  go_upto_region 4 with (go_at_call 12; refine (F0.out _ HB0.out).mono ?_; rintro e v1 ⟨P, p, q, rfl, ho, hp, hb⟩; have HB1 := Lib.hid (HB0.out.trans (hb.mono (by have := B00.out.lt; omega))); have B01 := Lib.hid (B00.out.below hb B00.out.lt); have B11 := Lib.hid (B10.out.below hb B10.out.lt); have B21 := Lib.hid (B20.out.below hb B20.out.lt); have x1 : v1.cell? ⟨g, 0, none⟩ = some (.slice A n c) := B01.out.cell 0; have f1 : v1.frozen? ⟨g, 0, none⟩ = false := B01.out.frozen 0; have O1 := Lib.hid ho; have P1 := Lib.hid hp; have Z1 : Hid (g + 2 < v0.heap.size) := Lib.hid B20.out.lt; have Z2 := Lib.hid hb.size; clear hb ho hp HB0 B00 B10 B20 x0)
  have B02 : Hid (Blk (v1.setCell ⟨g, 0, none⟩ (.slice P p q)) g 27 #[.slice P p q]) := Lib.hid (B01.out.set_ 0 _)
  have B12 : Hid (Blk (v1.setCell ⟨g, 0, none⟩ (.slice P p q)) (g + 1) 37 #[.slice A1 n1 c1]) := Lib.hid (B11.out.far (by simp) _)
  have B22 : Hid (Blk (v1.setCell ⟨g, 0, none⟩ (.slice P p q)) (g + 2) 59 #[.int .i64 mm, .int .u64 jj]) := Lib.hid (B21.out.far (by simp) _)
  have HB2 : Hid (Below g w (v1.setCell ⟨g, 0, none⟩ (.slice P p q))) := Lib.hid (HB1.out.setCell (p := ⟨g, 0, none⟩) (Nat.le_refl _) _)
  have O2 : Hid (Ios (v1.setCell ⟨g, 0, none⟩ (.slice P p q)) v0.heap.size P p q (xs.take 30)) := Lib.hid (O1.out.setFar (p := ⟨g, 0, none⟩) (by have := Z1.out; show g < _; omega) _)
  generalize v1.setCell ⟨g, 0, none⟩ (.slice P p q) = v2 at *
  clear x1 f1 B01 B11 B21 HB1 O1
  obtain ⟨X, hX⟩ : ∃ X, xs.take 30 = X := ⟨_, rfl⟩
  rw [hX] at O2
  clear hX
  have Z3 : Hid (g + 2 < v2.heap.size) := Lib.hid B22.out.lt
  have x2 : (v2.alloc (.cells #[] 59)).cell? ⟨g + 1, 0, none⟩ = some (.slice A1 n1 c1) := (B12.out.alloc _).cell 0
  have MA : Hid (Mos (v2.alloc (.cells #[] 59)) v2.heap.size (some ⟨v2.heap.size, 0, none⟩) 0 0 []) := Lib.hid (Mos.made v2)
  have AB : Hid (Below v2.heap.size v2 (v2.alloc (.cells #[] 59))) := Lib.hid ((Below.refl _ _).alloc (Nat.le_refl _) _)
  have HBa : Hid (Below g w (v2.alloc (.cells #[] 59))) := Lib.hid (HB2.out.alloc (by have := Z3.out; omega) _)
  have BA2 : Hid (v2.heap.size ≤ (v2.alloc (.cells #[] 59)).heap.size) := Lib.hid (by simp)
  go_upto_region 5 with (at_builtin; refine append_mt rfl (.tmp 15) (.tmp 20) rfl v2.heap.size (some ⟨v2.heap.size, 0, none⟩) 0 0 [] rfl MA.out g A1 m c1 L rfl (MT.out _ HBa.out) HN.out (by omega) BA2.out ?_; intro A5 c5 v3 ho hgr; rw [Nat.zero_add, List.nil_append] at ho; have hb3 : Below v2.heap.size v2 v3 := AB.out.grown hgr BA2.out (by intro k hk; simp [Value.ownBlock] at hk; omega); have B03 := Lib.hid (B02.out.below hb3 (by have := Z3.out; omega)); have B13 := Lib.hid (B12.out.below hb3 (by have := Z3.out; omega)); have B23 := Lib.hid (B22.out.below hb3 (by have := Z3.out; omega)); have HB3 := Lib.hid (HB2.out.trans (hb3.mono (by have := Z3.out; omega))); have O3 := Lib.hid (O2.out.below hb3); have M3 := Lib.hid ho; have Y9 := Lib.hid hgr.size; have x3 : v3.cell? ⟨g + 1, 0, none⟩ = some (.slice A1 n1 c1) := B13.out.cell 0; have f3 : v3.frozen? ⟨g + 1, 0, none⟩ = false := B13.out.frozen 0; clear ho hgr hb3)
  have B04 : Hid (Blk (v3.setCell ⟨g + 1, 0, none⟩ (.slice A5 m c5)) g 27 #[.slice P p q]) := Lib.hid (B03.out.far (by simp) _)
  have B14 : Hid (Blk (v3.setCell ⟨g + 1, 0, none⟩ (.slice A5 m c5)) (g + 1) 37 #[.slice A5 m c5]) := Lib.hid (B13.out.set_ 0 _)
  have B24 : Hid (Blk (v3.setCell ⟨g + 1, 0, none⟩ (.slice A5 m c5)) (g + 2) 59 #[.int .i64 mm, .int .u64 jj]) := Lib.hid (B23.out.far (by simp) _)
  have HB4 : Hid (Below g w (v3.setCell ⟨g + 1, 0, none⟩ (.slice A5 m c5))) := Lib.hid (HB3.out.setCell (p := ⟨g + 1, 0, none⟩) (by simp) _)
  have Z9 := Lib.hid (Nat.le_trans BA2.out Y9.out)
  have M4 : Hid (Mos (v3.setCell ⟨g + 1, 0, none⟩ (.slice A5 m c5)) v2.heap.size A5 m c5 L) := Lib.hid (M3.out.setFar (p := ⟨g + 1, 0, none⟩) (by have := Z3.out; show g + 1 < _; omega) _)
  have O4 : Hid (Ios (v3.setCell ⟨g + 1, 0, none⟩ (.slice A5 m c5)) v0.heap.size P p q X) := Lib.hid (O3.out.setFar (p := ⟨g + 1, 0, none⟩) (by have := Z1.out; show g + 1 < _; omega) _)
  have IX4 : Hid (Is (v3.setCell ⟨g + 1, 0, none⟩ (.slice A5 m c5)) v2.heap.size P p X) := Lib.hid ⟨O4.out.is_.1.1, fun hp => by
    obtain ⟨b, o, e, _, hc⟩ := O4.out.is_.1.2 hp
    obtain ⟨b', o', e', hb', _⟩ := O2.out.is_.1.2 hp
    rw [e] at e'
    injection e' with e'
    injection e' with e' _
    subst e'
    exact ⟨b, o, e, hb', hc⟩⟩
  try rw [Nat.zero_add]
  have Z5 : Hid (v2.heap.size ≤ (v3.setCell ⟨g + 1, 0, none⟩ (.slice A5 m c5)).heap.size) := Lib.hid (by have := Z9.out; simpa using this)
  generalize v3.setCell ⟨g + 1, 0, none⟩ (.slice A5 m c5) = v4 at *
  have G4 : Hid (Gst g P p q X A5 m c5 L mm jj v4) := Lib.hid ⟨B04.out, B14.out, B24.out, O4.out.is_.1, M4.out.mt.1, GW.out _ HB4.out, P1.out, m2, M4.out.mt.2.2⟩
  have x4 : v4.cell? ⟨g, 0, none⟩ = some (.slice P p q) := G4.out.b0.cell 0
  have y4 : v4.cell? ⟨g + 1, 0, none⟩ = some (.slice A5 m c5) := G4.out.b1.cell 0
  clear x2 x3 f3 Z9 Y9 B02 B12 B22 B03 B13 B23 HB2 HB3 O2 O3 O4 M3 MA AB HBa BA2 B04 B14 B24 Z1 Z2 MT HN hsl P1
  generalize v2.heap.size = b2 at *
  have AT0 := agr_nonneg X L
  have ATM := agr_most (X := X) M4.out.2
  obtain ⟨AT, hAT⟩ : ∃ AT, agr X L = AT := ⟨_, rfl⟩
  have HA := Lib.hid hAT
  rw [hAT] at AT0 ATM
  clear hAT
  by_cases hgr : grp X = 0
  · have hc : Hid (chkE X = 180) := Lib.hid (by unfold chkE; rw [if_pos hgr])
    obtain rfl : AT = 0 := by rw [← HA.out]; exact agr_zero hgr
    clear hgr
    go_wp2_with (first
      | (go_at_call 23; refine (G4.out.agreed c5 G4.out.mt (by omega)).mono ?_; rw [HA.out]; rintro e v5 ⟨rfl, hb⟩; have G5 := Lib.hid (G4.out.on hb); have HB5 := Lib.hid (HB4.out.trans (hb.mono (by have := G4.out.b0.lt; omega))); have x5 : v5.cell? ⟨g, 0, none⟩ = some (.slice P p q) := G5.out.b0.cell 0; clear hb)
      | (go_at_call 14; refine G5.out.check.mono ?_; rw [hc.out]; rintro e v6 ⟨rfl, hb⟩; have HB6 := Lib.hid (HB5.out.trans (hb.mono (by have := G5.out.b0.lt; omega))); clear hb))
    go_ret
    exact ⟨rfl, by rw [GS.out]; exact HB6.out⟩
  have hc : Hid (chkE X = 0) := Lib.hid (by unfold chkE; rw [if_neg hgr])
  clear hgr
  go_upto_region 9 with (first
    | (go_at_call 23; refine (G4.out.agreed c5 G4.out.mt (by omega)).mono ?_; rw [HA.out]; rintro e v5 ⟨rfl, hb⟩; have G5 := Lib.hid (G4.out.on hb); have M5 := Lib.hid (M4.out.below hb); have IX5 := Lib.hid (IX4.out.below (hb.mono Z5.out)); have HB5 := Lib.hid (HB4.out.trans (hb.mono (by have := G4.out.b0.lt; omega))); have Z6 := Lib.hid (Nat.le_trans Z5.out hb.size); have x5 : v5.cell? ⟨g, 0, none⟩ = some (.slice P p q) := G5.out.b0.cell 0; clear hb)
    | (go_at_call 14; refine G5.out.check.mono ?_; rw [hc.out]; rintro e v6 ⟨rfl, hb⟩; have IX6 := Lib.hid (IX5.out.below (hb.mono Z6.out)); have G6 := Lib.hid (G5.out.on hb); have M6 := Lib.hid (M5.out.below hb); have HB6 := Lib.hid (HB5.out.trans (hb.mono (by have := G5.out.b0.lt; omega))); have Z7 := Lib.hid (Nat.le_trans Z6.out hb.size); clear hb))
  have MJ1 : Hid (0 < AT → majB X (farM L AT) = true) := Lib.hid (fun h => by rw [← HA.out] at h ⊢; exact maj_at h)
  have MJ2 : Hid (majB X (farM L (AT + 1)) = false) := Lib.hid (by rw [← HA.out]; exact maj_on X L)
  clear x4 y4 x5 G4 G5 HB4 HB5 M4 M5 Z5 Z6 hc
  go_cut [52] from 31 (fun v52 wx => v52 = .bool false ∧ Gst g P p q X A5 m c5 L mm jj wx ∧ Mos wx b2 A5 m c5 L ∧ Below g w wx ∧ b2 ≤ wx.heap.size ∧ Is wx b2 P p X)
  case first =>
    have s0 : Hid (Gst g P p q X A5 m c5 L mm jj v6.drew) := Lib.hid G6.out.drew
    have t0 : Hid (Mos v6.drew b2 A5 m c5 L) := Lib.hid (M6.out.below (Below.refl _ _).drew)
    have u0 : Hid (Below g w v6.drew) := Lib.hid HB6.out.drew
    have z0 : Hid (b2 ≤ v6.drew.heap.size) := Lib.hid Z7.out
    have ix0 : Hid (Is v6.drew b2 P p X) := Lib.hid (IX6.out.below (Below.refl _ _).drew)
    have xS := And.intro (s0.out.b0.cell 0) (s0.out.b1.cell 0)
    by_cases hp : 0 < AT
    · have mj := Lib.hid (MJ1.out hp)
      have hp' : decide ((0 : Int) < AT) = true := decide_eq_true hp
      by_cases hq : AT < 18446744073709551615
      · have hq' : decide (AT < 18446744073709551615) = true := decide_eq_true hq
        have hw1 : IntKind.u64.wrap (AT + 1) = AT + 1 := by rw [IntKind.wrap_u64]; omega
        refine wp_region_noPanic ?_
        refine wp_region_held_drew (S := fun w' => w'.cell? ⟨g, 0, none⟩ = some (.slice P p q) ∧ w'.cell? ⟨g + 1, 0, none⟩ = some (.slice A5 m c5)) (by kernel_rfl) xS (fun hHeld => ?_)
        generalize v6.drew = w0 at *
        refine take_d (i := 0) (d := 31) (v := ?ra31) rfl rfl (by kernel_rfl) (by kernel_rfl) (by kernel_rfl) (fun _ _ _ h => h) (Or.inl ⟨by kernel_rfl, ?ra31h⟩) hHeld ?ra31n
        case ra31h => (intro w hSw; (try dsimp only at hSw); go_split_ands; go_simp; (try exact rfl))
        try simp only [Act.put, List.setIfInBounds_toArray, List.set_cons_zero, List.set_cons_succ]
        refine take_d (i := 1) (d := 32) (v := .bool true) rfl rfl (by kernel_rfl) (by kernel_rfl) (by kernel_rfl) (fun _ _ _ h => h) (Or.inl ⟨by kernel_rfl, ?ra32h⟩) hHeld ?_
        case ra32h => (intro w hSw; (try dsimp only at hSw); go_split_ands; go_simp)
        try simp only [Act.put, List.setIfInBounds_toArray, List.set_cons_zero, List.set_cons_succ]
        refine take_d (i := 2) (d := 33) (v := .bool true) rfl rfl (by kernel_rfl) (by kernel_rfl) (by kernel_rfl) (fun _ _ _ h => h) (Or.inl ⟨by kernel_rfl, ?ra33h⟩) hHeld ?_
        case ra33h => (intro w hSw; (try dsimp only at hSw); go_split_ands; go_simp)
        try simp only [Act.put, List.setIfInBounds_toArray, List.set_cons_zero, List.set_cons_succ]
        refine take_d (i := 3) (d := 34) (v := ?ra34) rfl rfl (by kernel_rfl) (by kernel_rfl) (by kernel_rfl) (fun _ _ _ h => h) (Or.inl ⟨by kernel_rfl, ?ra34h⟩) hHeld ?ra34n
        case ra34h => (intro w hSw; (try dsimp only at hSw); go_split_ands; go_simp; (try exact rfl))
        try simp only [Act.put, List.setIfInBounds_toArray, List.set_cons_zero, List.set_cons_succ]
        refine take_d (i := 4) (d := 35) (v := ?ra35) rfl rfl (by kernel_rfl) (by kernel_rfl) (by kernel_rfl) (fun _ _ _ h => h) (Or.inl ⟨by kernel_rfl, ?ra35h⟩) hHeld ?ra35n
        case ra35h => (intro w hSw; (try dsimp only at hSw); go_split_ands; go_simp; (try exact rfl))
        try simp only [Act.put, List.setIfInBounds_toArray, List.set_cons_zero, List.set_cons_succ]
        refine take_d (i := 5) (d := 36) (v := ?ra36) rfl rfl (by kernel_rfl) (by kernel_rfl) (by kernel_rfl) (fun _ _ _ h => h) (Or.inl ⟨by kernel_rfl, ?ra36h⟩) hHeld ?ra36n
        case ra36h => (intro w hSw; (try dsimp only at hSw); go_split_ands; go_simp; (try exact rfl))
        try simp only [Act.put, List.setIfInBounds_toArray, List.set_cons_zero, List.set_cons_succ]
        refine wpAnyH_ready (rs := [6]) (by kernel_rfl) (by simp) ?_
        refine AllReadyH.cons rfl (fun K hK => ?_) AllReadyH.nil
        go_simp
        refine (s0.out.far (AT)).mono ?_
        rintro e w1 ⟨Af1, nf1, cf1, rfl, hi, hn, hb⟩
        have s1 := Lib.hid (s0.out.on hb)
        have t1 := Lib.hid (t0.out.below hb)
        have u1 := Lib.hid (u0.out.trans (hb.mono (by have := s0.out.b0.lt; omega)))
        have z1 := Lib.hid (Nat.le_trans z0.out hb.size)
        have ix1 := Lib.hid (ix0.out.below (hb.mono z0.out))
        have i1 := Lib.hid hi.is_.1
        have n1 := Lib.hid hn
        clear hb hi hn
        refine hK.out _ _ (⟨s1.out.b0.cell 0, s1.out.b1.cell 0⟩) (fun hHeld => ?_)
        clear hK K
        try simp only [Act.put, List.setIfInBounds_toArray, List.set_cons_zero, List.set_cons_succ]
        refine wpAnyH_ready (rs := [7]) (by kernel_rfl) (by simp) ?_
        refine AllReadyH.cons rfl (fun K hK => ?_) AllReadyH.nil
        go_simp
        refine (s1.out.maj cf1 i1.out n1.out).mono ?_
        rw [mj.out]
        rintro e w2 ⟨rfl, hb⟩
        have s2 := Lib.hid (s1.out.on hb)
        have t2 := Lib.hid (t1.out.below hb)
        have u2 := Lib.hid (u1.out.trans (hb.mono (by have := s1.out.b0.lt; omega)))
        have z2 := Lib.hid (Nat.le_trans z1.out hb.size)
        have ix2 := Lib.hid (ix1.out.below (hb.mono z1.out))
        clear hb
        refine hK.out _ _ (⟨s2.out.b0.cell 0, s2.out.b1.cell 0⟩) (fun hHeld => ?_)
        clear hK K
        try simp only [Act.put, List.setIfInBounds_toArray, List.set_cons_zero, List.set_cons_succ]
        refine take_d (i := 8) (d := 39) (v := .bool false) rfl rfl (by kernel_rfl) (by kernel_rfl) (by kernel_rfl) (fun _ _ _ h => h) (Or.inl ⟨by kernel_rfl, ?ra39h⟩) hHeld ?_
        case ra39h => (intro w hSw; (try dsimp only at hSw); go_split_ands; go_simp)
        try simp only [Act.put, List.setIfInBounds_toArray, List.set_cons_zero, List.set_cons_succ]
        refine take_d (i := 9) (d := 40) (v := .bool false) rfl rfl (by kernel_rfl) (by kernel_rfl) (by kernel_rfl) (fun _ _ _ h => h) (Or.inl ⟨by kernel_rfl, ?ra40h⟩) hHeld ?_
        case ra40h => (intro w hSw; (try dsimp only at hSw); go_split_ands; go_simp)
        try simp only [Act.put, List.setIfInBounds_toArray, List.set_cons_zero, List.set_cons_succ]
        refine take_d (i := 10) (d := 41) (v := .bool false) rfl rfl (by kernel_rfl) (by kernel_rfl) (by kernel_rfl) (fun _ _ _ h => h) (Or.inl ⟨by kernel_rfl, ?ra41h⟩) hHeld ?_
        case ra41h => (intro w hSw; (try dsimp only at hSw); go_split_ands; go_simp)
        try simp only [Act.put, List.setIfInBounds_toArray, List.set_cons_zero, List.set_cons_succ]
        refine take_d (i := 11) (d := 42) (v := ?ra42) rfl rfl (by kernel_rfl) (by kernel_rfl) (by kernel_rfl) (fun _ _ _ h => h) (Or.inl ⟨by kernel_rfl, ?ra42h⟩) hHeld ?ra42n
        case ra42h => (intro w hSw; (try dsimp only at hSw); go_split_ands; go_simp; (try exact rfl))
        try simp only [Act.put, List.setIfInBounds_toArray, List.set_cons_zero, List.set_cons_succ]
        refine take_d (i := 12) (d := 43) (v := .bool true) rfl rfl (by kernel_rfl) (by kernel_rfl) (by kernel_rfl) (fun _ _ _ h => h) (Or.inl ⟨by kernel_rfl, ?ra43h⟩) hHeld ?_
        case ra43h => (intro w hSw; (try dsimp only at hSw); go_split_ands; go_simp)
        try simp only [Act.put, List.setIfInBounds_toArray, List.set_cons_zero, List.set_cons_succ]
        refine take_d (i := 13) (d := 44) (v := .bool true) rfl rfl (by kernel_rfl) (by kernel_rfl) (by kernel_rfl) (fun _ _ _ h => h) (Or.inl ⟨by kernel_rfl, ?ra44h⟩) hHeld ?_
        case ra44h => (intro w hSw; (try dsimp only at hSw); go_split_ands; go_simp)
        try simp only [Act.put, List.setIfInBounds_toArray, List.set_cons_zero, List.set_cons_succ]
        refine take_d (i := 14) (d := 45) (v := ?ra45) rfl rfl (by kernel_rfl) (by kernel_rfl) (by kernel_rfl) (fun _ _ _ h => h) (Or.inl ⟨by kernel_rfl, ?ra45h⟩) hHeld ?ra45n
        case ra45h => (intro w hSw; (try dsimp only at hSw); go_split_ands; go_simp; (try exact rfl))
        try simp only [Act.put, List.setIfInBounds_toArray, List.set_cons_zero, List.set_cons_succ]
        refine take_d (i := 15) (d := 46) (v := ?ra46) rfl rfl (by kernel_rfl) (by kernel_rfl) (by kernel_rfl) (fun _ _ _ h => h) (Or.inl ⟨by kernel_rfl, ?ra46h⟩) hHeld ?ra46n
        case ra46h => (intro w hSw; (try dsimp only at hSw); go_split_ands; go_simp; (try exact rfl))
        try simp only [Act.put, List.setIfInBounds_toArray, List.set_cons_zero, List.set_cons_succ]
        refine take_d (i := 16) (d := 47) (v := ?ra47) rfl rfl (by kernel_rfl) (by kernel_rfl) (by kernel_rfl) (fun _ _ _ h => h) (Or.inl ⟨by kernel_rfl, ?ra47h⟩) hHeld ?ra47n
        case ra47h => (intro w hSw; (try dsimp only at hSw); go_split_ands; go_simp; (try exact rfl))
        try simp only [Act.put, List.setIfInBounds_toArray, List.set_cons_zero, List.set_cons_succ]
        refine take_d (i := 17) (d := 48) (v := .int .u64 (AT + 1)) rfl rfl (by kernel_rfl) (by kernel_rfl) (by kernel_rfl) (fun _ _ _ h => h) (Or.inl ⟨by kernel_rfl, ?ra48h⟩) hHeld ?_
        case ra48h => (intro w hSw; (try dsimp only at hSw); go_split_ands; go_simp)
        try simp only [Act.put, List.setIfInBounds_toArray, List.set_cons_zero, List.set_cons_succ]
        refine wpAnyH_ready (rs := [18]) (by kernel_rfl) (by simp) ?_
        refine AllReadyH.cons rfl (fun K hK => ?_) AllReadyH.nil
        go_simp
        refine (s2.out.far (AT + 1)).mono ?_
        rintro e w3 ⟨Af3, nf3, cf3, rfl, hi, hn, hb⟩
        have s3 := Lib.hid (s2.out.on hb)
        have t3 := Lib.hid (t2.out.below hb)
        have u3 := Lib.hid (u2.out.trans (hb.mono (by have := s2.out.b0.lt; omega)))
        have z3 := Lib.hid (Nat.le_trans z2.out hb.size)
        have ix3 := Lib.hid (ix2.out.below (hb.mono z2.out))
        have i3 := Lib.hid hi.is_.1
        have n3 := Lib.hid hn
        clear hb hi hn
        refine hK.out _ _ (⟨s3.out.b0.cell 0, s3.out.b1.cell 0⟩) (fun hHeld => ?_)
        clear hK K
        try simp only [Act.put, List.setIfInBounds_toArray, List.set_cons_zero, List.set_cons_succ]
        refine wpAnyH_ready (rs := [19]) (by kernel_rfl) (by simp) ?_
        refine AllReadyH.cons rfl (fun K hK => ?_) AllReadyH.nil
        go_simp
        refine (s3.out.maj cf3 i3.out n3.out).mono ?_
        rw [MJ2.out]
        rintro e w4 ⟨rfl, hb⟩
        have s4 := Lib.hid (s3.out.on hb)
        have t4 := Lib.hid (t3.out.below hb)
        have u4 := Lib.hid (u3.out.trans (hb.mono (by have := s3.out.b0.lt; omega)))
        have z4 := Lib.hid (Nat.le_trans z3.out hb.size)
        have ix4 := Lib.hid (ix3.out.below (hb.mono z3.out))
        clear hb
        refine hK.out _ _ (⟨s4.out.b0.cell 0, s4.out.b1.cell 0⟩) (fun hHeld => ?_)
        clear hK K
        try simp only [Act.put, List.setIfInBounds_toArray, List.set_cons_zero, List.set_cons_succ]
        refine take_d (i := 20) (d := 51) (v := .bool false) rfl rfl (by kernel_rfl) (by kernel_rfl) (by kernel_rfl) (fun _ _ _ h => h) (Or.inl ⟨by kernel_rfl, ?ra51h⟩) hHeld ?_
        case ra51h => (intro w hSw; (try dsimp only at hSw); go_split_ands; go_simp)
        try simp only [Act.put, List.setIfInBounds_toArray, List.set_cons_zero, List.set_cons_succ]
        refine take_d (i := 21) (d := 52) (v := .bool false) rfl rfl (by kernel_rfl) (by kernel_rfl) (by kernel_rfl) (fun _ _ _ h => h) (Or.inl ⟨by kernel_rfl, ?ra52h⟩) hHeld ?_
        case ra52h => (intro w hSw; (try dsimp only at hSw); go_split_ands; go_simp)
        try simp only [Act.put, List.setIfInBounds_toArray, List.set_cons_zero, List.set_cons_succ]
        refine wpAnyH_done (by kernel_rfl) ?_ _
        refine NoPanic.normal ?_
        go_wp2_with fail
        go_meet
        case rel => exact ⟨rfl, s4.out, t4.out, u4.out, z4.out, ix4.out⟩
      · have hq' : decide (AT < 18446744073709551615) = false := decide_eq_false hq
        refine wp_region_noPanic ?_
        refine wp_region_held_drew (S := fun w' => w'.cell? ⟨g, 0, none⟩ = some (.slice P p q) ∧ w'.cell? ⟨g + 1, 0, none⟩ = some (.slice A5 m c5)) (by kernel_rfl) xS (fun hHeld => ?_)
        generalize v6.drew = w0 at *
        refine take_d (i := 0) (d := 31) (v := ?rb31) rfl rfl (by kernel_rfl) (by kernel_rfl) (by kernel_rfl) (fun _ _ _ h => h) (Or.inl ⟨by kernel_rfl, ?rb31h⟩) hHeld ?rb31n
        case rb31h => (intro w hSw; (try dsimp only at hSw); go_split_ands; go_simp; (try exact rfl))
        try simp only [Act.put, List.setIfInBounds_toArray, List.set_cons_zero, List.set_cons_succ]
        refine take_d (i := 1) (d := 32) (v := .bool true) rfl rfl (by kernel_rfl) (by kernel_rfl) (by kernel_rfl) (fun _ _ _ h => h) (Or.inl ⟨by kernel_rfl, ?rb32h⟩) hHeld ?_
        case rb32h => (intro w hSw; (try dsimp only at hSw); go_split_ands; go_simp)
        try simp only [Act.put, List.setIfInBounds_toArray, List.set_cons_zero, List.set_cons_succ]
        refine take_d (i := 2) (d := 33) (v := .bool true) rfl rfl (by kernel_rfl) (by kernel_rfl) (by kernel_rfl) (fun _ _ _ h => h) (Or.inl ⟨by kernel_rfl, ?rb33h⟩) hHeld ?_
        case rb33h => (intro w hSw; (try dsimp only at hSw); go_split_ands; go_simp)
        try simp only [Act.put, List.setIfInBounds_toArray, List.set_cons_zero, List.set_cons_succ]
        refine take_d (i := 3) (d := 34) (v := ?rb34) rfl rfl (by kernel_rfl) (by kernel_rfl) (by kernel_rfl) (fun _ _ _ h => h) (Or.inl ⟨by kernel_rfl, ?rb34h⟩) hHeld ?rb34n
        case rb34h => (intro w hSw; (try dsimp only at hSw); go_split_ands; go_simp; (try exact rfl))
        try simp only [Act.put, List.setIfInBounds_toArray, List.set_cons_zero, List.set_cons_succ]
        refine take_d (i := 4) (d := 35) (v := ?rb35) rfl rfl (by kernel_rfl) (by kernel_rfl) (by kernel_rfl) (fun _ _ _ h => h) (Or.inl ⟨by kernel_rfl, ?rb35h⟩) hHeld ?rb35n
        case rb35h => (intro w hSw; (try dsimp only at hSw); go_split_ands; go_simp; (try exact rfl))
        try simp only [Act.put, List.setIfInBounds_toArray, List.set_cons_zero, List.set_cons_succ]
        refine take_d (i := 5) (d := 36) (v := ?rb36) rfl rfl (by kernel_rfl) (by kernel_rfl) (by kernel_rfl) (fun _ _ _ h => h) (Or.inl ⟨by kernel_rfl, ?rb36h⟩) hHeld ?rb36n
        case rb36h => (intro w hSw; (try dsimp only at hSw); go_split_ands; go_simp; (try exact rfl))
        try simp only [Act.put, List.setIfInBounds_toArray, List.set_cons_zero, List.set_cons_succ]
        refine wpAnyH_ready (rs := [6]) (by kernel_rfl) (by simp) ?_
        refine AllReadyH.cons rfl (fun K hK => ?_) AllReadyH.nil
        go_simp
        refine (s0.out.far (AT)).mono ?_
        rintro e w1 ⟨Af1, nf1, cf1, rfl, hi, hn, hb⟩
        have s1 := Lib.hid (s0.out.on hb)
        have t1 := Lib.hid (t0.out.below hb)
        have u1 := Lib.hid (u0.out.trans (hb.mono (by have := s0.out.b0.lt; omega)))
        have z1 := Lib.hid (Nat.le_trans z0.out hb.size)
        have ix1 := Lib.hid (ix0.out.below (hb.mono z0.out))
        have i1 := Lib.hid hi.is_.1
        have n1 := Lib.hid hn
        clear hb hi hn
        refine hK.out _ _ (⟨s1.out.b0.cell 0, s1.out.b1.cell 0⟩) (fun hHeld => ?_)
        clear hK K
        try simp only [Act.put, List.setIfInBounds_toArray, List.set_cons_zero, List.set_cons_succ]
        refine wpAnyH_ready (rs := [7]) (by kernel_rfl) (by simp) ?_
        refine AllReadyH.cons rfl (fun K hK => ?_) AllReadyH.nil
        go_simp
        refine (s1.out.maj cf1 i1.out n1.out).mono ?_
        rw [mj.out]
        rintro e w2 ⟨rfl, hb⟩
        have s2 := Lib.hid (s1.out.on hb)
        have t2 := Lib.hid (t1.out.below hb)
        have u2 := Lib.hid (u1.out.trans (hb.mono (by have := s1.out.b0.lt; omega)))
        have z2 := Lib.hid (Nat.le_trans z1.out hb.size)
        have ix2 := Lib.hid (ix1.out.below (hb.mono z1.out))
        clear hb
        refine hK.out _ _ (⟨s2.out.b0.cell 0, s2.out.b1.cell 0⟩) (fun hHeld => ?_)
        clear hK K
        try simp only [Act.put, List.setIfInBounds_toArray, List.set_cons_zero, List.set_cons_succ]
        refine take_d (i := 8) (d := 39) (v := .bool false) rfl rfl (by kernel_rfl) (by kernel_rfl) (by kernel_rfl) (fun _ _ _ h => h) (Or.inl ⟨by kernel_rfl, ?rb39h⟩) hHeld ?_
        case rb39h => (intro w hSw; (try dsimp only at hSw); go_split_ands; go_simp)
        try simp only [Act.put, List.setIfInBounds_toArray, List.set_cons_zero, List.set_cons_succ]
        refine take_d (i := 9) (d := 40) (v := .bool false) rfl rfl (by kernel_rfl) (by kernel_rfl) (by kernel_rfl) (fun _ _ _ h => h) (Or.inl ⟨by kernel_rfl, ?rb40h⟩) hHeld ?_
        case rb40h => (intro w hSw; (try dsimp only at hSw); go_split_ands; go_simp)
        try simp only [Act.put, List.setIfInBounds_toArray, List.set_cons_zero, List.set_cons_succ]
        refine take_d (i := 10) (d := 41) (v := .bool false) rfl rfl (by kernel_rfl) (by kernel_rfl) (by kernel_rfl) (fun _ _ _ h => h) (Or.inl ⟨by kernel_rfl, ?rb41h⟩) hHeld ?_
        case rb41h => (intro w hSw; (try dsimp only at hSw); go_split_ands; go_simp)
        try simp only [Act.put, List.setIfInBounds_toArray, List.set_cons_zero, List.set_cons_succ]
        refine take_d (i := 11) (d := 42) (v := ?rb42) rfl rfl (by kernel_rfl) (by kernel_rfl) (by kernel_rfl) (fun _ _ _ h => h) (Or.inl ⟨by kernel_rfl, ?rb42h⟩) hHeld ?rb42n
        case rb42h => (intro w hSw; (try dsimp only at hSw); go_split_ands; go_simp; (try exact rfl))
        try simp only [Act.put, List.setIfInBounds_toArray, List.set_cons_zero, List.set_cons_succ]
        refine take_d (i := 12) (d := 43) (v := .bool false) rfl rfl (by kernel_rfl) (by kernel_rfl) (by kernel_rfl) (fun _ _ _ h => h) (Or.inl ⟨by kernel_rfl, ?rb43h⟩) hHeld ?_
        case rb43h => (intro w hSw; (try dsimp only at hSw); go_split_ands; go_simp)
        try simp only [Act.put, List.setIfInBounds_toArray, List.set_cons_zero, List.set_cons_succ]
        refine take_d (i := 13) (d := 44) (v := .bool false) rfl rfl (by kernel_rfl) (by kernel_rfl) (by kernel_rfl) (fun _ _ _ h => h) (Or.inl ⟨by kernel_rfl, ?rb44h⟩) hHeld ?_
        case rb44h => (intro w hSw; (try dsimp only at hSw); go_split_ands; go_simp)
        try simp only [Act.put, List.setIfInBounds_toArray, List.set_cons_zero, List.set_cons_succ]
        refine take_d (i := 14) (d := 45) (v := undef) rfl rfl (by kernel_rfl) (by kernel_rfl) (by kernel_rfl) (fun _ _ _ h => h) (Or.inr ⟨by kernel_rfl, rfl⟩) hHeld ?_
        try simp only [Act.put, List.setIfInBounds_toArray, List.set_cons_zero, List.set_cons_succ]
        refine take_d (i := 15) (d := 46) (v := undef) rfl rfl (by kernel_rfl) (by kernel_rfl) (by kernel_rfl) (fun _ _ _ h => h) (Or.inr ⟨by kernel_rfl, rfl⟩) hHeld ?_
        try simp only [Act.put, List.setIfInBounds_toArray, List.set_cons_zero, List.set_cons_succ]
        refine take_d (i := 16) (d := 47) (v := undef) rfl rfl (by kernel_rfl) (by kernel_rfl) (by kernel_rfl) (fun _ _ _ h => h) (Or.inr ⟨by kernel_rfl, rfl⟩) hHeld ?_
        try simp only [Act.put, List.setIfInBounds_toArray, List.set_cons_zero, List.set_cons_succ]
        refine take_d (i := 17) (d := 48) (v := undef) rfl rfl (by kernel_rfl) (by kernel_rfl) (by kernel_rfl) (fun _ _ _ h => h) (Or.inr ⟨by kernel_rfl, rfl⟩) hHeld ?_
        try simp only [Act.put, List.setIfInBounds_toArray, List.set_cons_zero, List.set_cons_succ]
        refine take_d (i := 18) (d := 49) (v := undef) rfl rfl (by kernel_rfl) (by kernel_rfl) (by kernel_rfl) (fun _ _ _ h => h) (Or.inr ⟨by kernel_rfl, rfl⟩) hHeld ?_
        try simp only [Act.put, List.setIfInBounds_toArray, List.set_cons_zero, List.set_cons_succ]
        refine take_d (i := 19) (d := 50) (v := undef) rfl rfl (by kernel_rfl) (by kernel_rfl) (by kernel_rfl) (fun _ _ _ h => h) (Or.inr ⟨by kernel_rfl, rfl⟩) hHeld ?_
        try simp only [Act.put, List.setIfInBounds_toArray, List.set_cons_zero, List.set_cons_succ]
        refine take_d (i := 20) (d := 51) (v := .bool false) rfl rfl (by kernel_rfl) (by kernel_rfl) (by kernel_rfl) (fun _ _ _ h => h) (Or.inl ⟨by kernel_rfl, ?rb51h⟩) hHeld ?_
        case rb51h => (intro w hSw; (try dsimp only at hSw); go_split_ands; go_simp)
        try simp only [Act.put, List.setIfInBounds_toArray, List.set_cons_zero, List.set_cons_succ]
        refine take_d (i := 21) (d := 52) (v := .bool false) rfl rfl (by kernel_rfl) (by kernel_rfl) (by kernel_rfl) (fun _ _ _ h => h) (Or.inl ⟨by kernel_rfl, ?rb52h⟩) hHeld ?_
        case rb52h => (intro w hSw; (try dsimp only at hSw); go_split_ands; go_simp)
        try simp only [Act.put, List.setIfInBounds_toArray, List.set_cons_zero, List.set_cons_succ]
        refine wpAnyH_done (by kernel_rfl) ?_ _
        refine NoPanic.normal ?_
        go_wp2_with fail
        go_meet
        case rel => exact ⟨rfl, s2.out, t2.out, u2.out, z2.out, ix2.out⟩
    · have hp' : decide ((0 : Int) < AT) = false := decide_eq_false hp
      have hq' : decide (AT < 18446744073709551615) = true := decide_eq_true (by omega)
      have hw1 : IntKind.u64.wrap (AT + 1) = AT + 1 := by rw [IntKind.wrap_u64]; omega
      refine wp_region_noPanic ?_
      refine wp_region_held_drew (S := fun w' => w'.cell? ⟨g, 0, none⟩ = some (.slice P p q) ∧ w'.cell? ⟨g + 1, 0, none⟩ = some (.slice A5 m c5)) (by kernel_rfl) xS (fun hHeld => ?_)
      generalize v6.drew = w0 at *
      refine take_d (i := 0) (d := 31) (v := ?rc31) rfl rfl (by kernel_rfl) (by kernel_rfl) (by kernel_rfl) (fun _ _ _ h => h) (Or.inl ⟨by kernel_rfl, ?rc31h⟩) hHeld ?rc31n
      case rc31h => (intro w hSw; (try dsimp only at hSw); go_split_ands; go_simp; (try exact rfl))
      try simp only [Act.put, List.setIfInBounds_toArray, List.set_cons_zero, List.set_cons_succ]
      refine take_d (i := 1) (d := 32) (v := .bool false) rfl rfl (by kernel_rfl) (by kernel_rfl) (by kernel_rfl) (fun _ _ _ h => h) (Or.inl ⟨by kernel_rfl, ?rc32h⟩) hHeld ?_
      case rc32h => (intro w hSw; (try dsimp only at hSw); go_split_ands; go_simp)
      try simp only [Act.put, List.setIfInBounds_toArray, List.set_cons_zero, List.set_cons_succ]
      refine take_d (i := 2) (d := 33) (v := .bool false) rfl rfl (by kernel_rfl) (by kernel_rfl) (by kernel_rfl) (fun _ _ _ h => h) (Or.inl ⟨by kernel_rfl, ?rc33h⟩) hHeld ?_
      case rc33h => (intro w hSw; (try dsimp only at hSw); go_split_ands; go_simp)
      try simp only [Act.put, List.setIfInBounds_toArray, List.set_cons_zero, List.set_cons_succ]
      refine take_d (i := 3) (d := 34) (v := undef) rfl rfl (by kernel_rfl) (by kernel_rfl) (by kernel_rfl) (fun _ _ _ h => h) (Or.inr ⟨by kernel_rfl, rfl⟩) hHeld ?_
      try simp only [Act.put, List.setIfInBounds_toArray, List.set_cons_zero, List.set_cons_succ]
      refine take_d (i := 4) (d := 35) (v := undef) rfl rfl (by kernel_rfl) (by kernel_rfl) (by kernel_rfl) (fun _ _ _ h => h) (Or.inr ⟨by kernel_rfl, rfl⟩) hHeld ?_
      try simp only [Act.put, List.setIfInBounds_toArray, List.set_cons_zero, List.set_cons_succ]
      refine take_d (i := 5) (d := 36) (v := undef) rfl rfl (by kernel_rfl) (by kernel_rfl) (by kernel_rfl) (fun _ _ _ h => h) (Or.inr ⟨by kernel_rfl, rfl⟩) hHeld ?_
      try simp only [Act.put, List.setIfInBounds_toArray, List.set_cons_zero, List.set_cons_succ]
      refine take_d (i := 6) (d := 37) (v := undef) rfl rfl (by kernel_rfl) (by kernel_rfl) (by kernel_rfl) (fun _ _ _ h => h) (Or.inr ⟨by kernel_rfl, rfl⟩) hHeld ?_
      try simp only [Act.put, List.setIfInBounds_toArray, List.set_cons_zero, List.set_cons_succ]
      refine take_d (i := 7) (d := 38) (v := undef) rfl rfl (by kernel_rfl) (by kernel_rfl) (by kernel_rfl) (fun _ _ _ h => h) (Or.inr ⟨by kernel_rfl, rfl⟩) hHeld ?_
      try simp only [Act.put, List.setIfInBounds_toArray, List.set_cons_zero, List.set_cons_succ]
      refine take_d (i := 8) (d := 39) (v := undef) rfl rfl (by kernel_rfl) (by kernel_rfl) (by kernel_rfl) (fun _ _ _ h => h) (Or.inr ⟨by kernel_rfl, rfl⟩) hHeld ?_
      try simp only [Act.put, List.setIfInBounds_toArray, List.set_cons_zero, List.set_cons_succ]
      refine take_d (i := 9) (d := 40) (v := .bool false) rfl rfl (by kernel_rfl) (by kernel_rfl) (by kernel_rfl) (fun _ _ _ h => h) (Or.inl ⟨by kernel_rfl, ?rc40h⟩) hHeld ?_
      case rc40h => (intro w hSw; (try dsimp only at hSw); go_split_ands; go_simp)
      try simp only [Act.put, List.setIfInBounds_toArray, List.set_cons_zero, List.set_cons_succ]
      refine take_d (i := 10) (d := 41) (v := .bool false) rfl rfl (by kernel_rfl) (by kernel_rfl) (by kernel_rfl) (fun _ _ _ h => h) (Or.inl ⟨by kernel_rfl, ?rc41h⟩) hHeld ?_
      case rc41h => (intro w hSw; (try dsimp only at hSw); go_split_ands; go_simp)
      try simp only [Act.put, List.setIfInBounds_toArray, List.set_cons_zero, List.set_cons_succ]
      refine take_d (i := 11) (d := 42) (v := ?rc42) rfl rfl (by kernel_rfl) (by kernel_rfl) (by kernel_rfl) (fun _ _ _ h => h) (Or.inl ⟨by kernel_rfl, ?rc42h⟩) hHeld ?rc42n
      case rc42h => (intro w hSw; (try dsimp only at hSw); go_split_ands; go_simp; (try exact rfl))
      try simp only [Act.put, List.setIfInBounds_toArray, List.set_cons_zero, List.set_cons_succ]
      refine take_d (i := 12) (d := 43) (v := .bool true) rfl rfl (by kernel_rfl) (by kernel_rfl) (by kernel_rfl) (fun _ _ _ h => h) (Or.inl ⟨by kernel_rfl, ?rc43h⟩) hHeld ?_
      case rc43h => (intro w hSw; (try dsimp only at hSw); go_split_ands; go_simp)
      try simp only [Act.put, List.setIfInBounds_toArray, List.set_cons_zero, List.set_cons_succ]
      refine take_d (i := 13) (d := 44) (v := .bool true) rfl rfl (by kernel_rfl) (by kernel_rfl) (by kernel_rfl) (fun _ _ _ h => h) (Or.inl ⟨by kernel_rfl, ?rc44h⟩) hHeld ?_
      case rc44h => (intro w hSw; (try dsimp only at hSw); go_split_ands; go_simp)
      try simp only [Act.put, List.setIfInBounds_toArray, List.set_cons_zero, List.set_cons_succ]
      refine take_d (i := 14) (d := 45) (v := ?rc45) rfl rfl (by kernel_rfl) (by kernel_rfl) (by kernel_rfl) (fun _ _ _ h => h) (Or.inl ⟨by kernel_rfl, ?rc45h⟩) hHeld ?rc45n
      case rc45h => (intro w hSw; (try dsimp only at hSw); go_split_ands; go_simp; (try exact rfl))
      try simp only [Act.put, List.setIfInBounds_toArray, List.set_cons_zero, List.set_cons_succ]
      refine take_d (i := 15) (d := 46) (v := ?rc46) rfl rfl (by kernel_rfl) (by kernel_rfl) (by kernel_rfl) (fun _ _ _ h => h) (Or.inl ⟨by kernel_rfl, ?rc46h⟩) hHeld ?rc46n
      case rc46h => (intro w hSw; (try dsimp only at hSw); go_split_ands; go_simp; (try exact rfl))
      try simp only [Act.put, List.setIfInBounds_toArray, List.set_cons_zero, List.set_cons_succ]
      refine take_d (i := 16) (d := 47) (v := ?rc47) rfl rfl (by kernel_rfl) (by kernel_rfl) (by kernel_rfl) (fun _ _ _ h => h) (Or.inl ⟨by kernel_rfl, ?rc47h⟩) hHeld ?rc47n
      case rc47h => (intro w hSw; (try dsimp only at hSw); go_split_ands; go_simp; (try exact rfl))
      try simp only [Act.put, List.setIfInBounds_toArray, List.set_cons_zero, List.set_cons_succ]
      refine take_d (i := 17) (d := 48) (v := .int .u64 (AT + 1)) rfl rfl (by kernel_rfl) (by kernel_rfl) (by kernel_rfl) (fun _ _ _ h => h) (Or.inl ⟨by kernel_rfl, ?rc48h⟩) hHeld ?_
      case rc48h => (intro w hSw; (try dsimp only at hSw); go_split_ands; go_simp)
      try simp only [Act.put, List.setIfInBounds_toArray, List.set_cons_zero, List.set_cons_succ]
      refine wpAnyH_ready (rs := [18]) (by kernel_rfl) (by simp) ?_
      refine AllReadyH.cons rfl (fun K hK => ?_) AllReadyH.nil
      go_simp
      refine (s0.out.far (AT + 1)).mono ?_
      rintro e w1 ⟨Af1, nf1, cf1, rfl, hi, hn, hb⟩
      have s1 := Lib.hid (s0.out.on hb)
      have t1 := Lib.hid (t0.out.below hb)
      have u1 := Lib.hid (u0.out.trans (hb.mono (by have := s0.out.b0.lt; omega)))
      have z1 := Lib.hid (Nat.le_trans z0.out hb.size)
      have ix1 := Lib.hid (ix0.out.below (hb.mono z0.out))
      have i1 := Lib.hid hi.is_.1
      have n1 := Lib.hid hn
      clear hb hi hn
      refine hK.out _ _ (⟨s1.out.b0.cell 0, s1.out.b1.cell 0⟩) (fun hHeld => ?_)
      clear hK K
      try simp only [Act.put, List.setIfInBounds_toArray, List.set_cons_zero, List.set_cons_succ]
      refine wpAnyH_ready (rs := [19]) (by kernel_rfl) (by simp) ?_
      refine AllReadyH.cons rfl (fun K hK => ?_) AllReadyH.nil
      go_simp
      refine (s1.out.maj cf1 i1.out n1.out).mono ?_
      rw [MJ2.out]
      rintro e w2 ⟨rfl, hb⟩
      have s2 := Lib.hid (s1.out.on hb)
      have t2 := Lib.hid (t1.out.below hb)
      have u2 := Lib.hid (u1.out.trans (hb.mono (by have := s1.out.b0.lt; omega)))
      have z2 := Lib.hid (Nat.le_trans z1.out hb.size)
      have ix2 := Lib.hid (ix1.out.below (hb.mono z1.out))
      clear hb
      refine hK.out _ _ (⟨s2.out.b0.cell 0, s2.out.b1.cell 0⟩) (fun hHeld => ?_)
      clear hK K
      try simp only [Act.put, List.setIfInBounds_toArray, List.set_cons_zero, List.set_cons_succ]
      refine take_d (i := 20) (d := 51) (v := .bool false) rfl rfl (by kernel_rfl) (by kernel_rfl) (by kernel_rfl) (fun _ _ _ h => h) (Or.inl ⟨by kernel_rfl, ?rc51h⟩) hHeld ?_
      case rc51h => (intro w hSw; (try dsimp only at hSw); go_split_ands; go_simp)
      try simp only [Act.put, List.setIfInBounds_toArray, List.set_cons_zero, List.set_cons_succ]
      refine take_d (i := 21) (d := 52) (v := .bool false) rfl rfl (by kernel_rfl) (by kernel_rfl) (by kernel_rfl) (fun _ _ _ h => h) (Or.inl ⟨by kernel_rfl, ?rc52h⟩) hHeld ?_
      case rc52h => (intro w hSw; (try dsimp only at hSw); go_split_ands; go_simp)
      try simp only [Act.put, List.setIfInBounds_toArray, List.set_cons_zero, List.set_cons_succ]
      refine wpAnyH_done (by kernel_rfl) ?_ _
      refine NoPanic.normal ?_
      go_wp2_with fail
      go_meet
      case rel => exact ⟨rfl, s2.out, t2.out, u2.out, z2.out, ix2.out⟩
  case rest =>
    obtain ⟨rfl, g7, m7, h7, z7, i7⟩ := hcut
    have G7 := Lib.hid g7
    have M7 := Lib.hid m7
    have HB7 := Lib.hid h7
    have Z8 := Lib.hid z7
    have IX7 := Lib.hid i7
    clear g7 m7 h7 z7 i7
    go_upto_region 11 with (fail)
    have s0 : Hid (Gst g P p q X A5 m c5 L mm jj wc.drew) := Lib.hid G7.out.drew
    have t0 : Hid (Mos wc.drew b2 A5 m c5 L) := Lib.hid (M7.out.below (Below.refl _ _).drew)
    have u0 : Hid (Below g w wc.drew) := Lib.hid HB7.out.drew
    have z0 : Hid (b2 ≤ wc.drew.heap.size) := Lib.hid Z8.out
    have ix0 : Hid (Is wc.drew b2 P p X) := Lib.hid (IX7.out.below (Below.refl _ _).drew)
    have xS := And.intro (s0.out.b0.cell 0) (And.intro (s0.out.b1.cell 0) s0.out.b2.rng)
    clear G7 M7 HB7 Z8 IX7
    have MORE := Lib.hid (agr_more X L (mm, jj))
    have OTH := Lib.hid (fun h : inG (grp X) mm = false => agr_other (x := (mm, jj)) (l := L) h)
    obtain ⟨NX, hNX⟩ : ∃ NX, agr X (L ++ [(mm, jj)]) = NX := ⟨_, rfl⟩
    have NX' := Lib.hid hNX
    rw [hNX, HA.out] at MORE OTH
    clear hNX
    refine wp_region_noPanic ?_
    refine wp_region_held_drew (S := fun w' => w'.cell? ⟨g, 0, none⟩ = some (.slice P p q) ∧ w'.cell? ⟨g + 1, 0, none⟩ = some (.slice A5 m c5) ∧ w'.rangeAt (g + 1 + 1) 0 [.int .i64 mm, .int .u64 jj]) (by kernel_rfl) xS (fun hHeld => ?_)
    generalize wc.drew = w0 at *
    refine take_d (i := 0) (d := 53) (v := ?rd53) rfl rfl (by kernel_rfl) (by kernel_rfl) (by kernel_rfl) (fun _ _ _ h => h) (Or.inl ⟨by kernel_rfl, ?rd53h⟩) hHeld ?rd53n
    case rd53h => (intro w hSw; (try dsimp only at hSw); go_split_ands; go_simp; (try exact rfl))
    try simp only [Act.put, List.setIfInBounds_toArray, List.set_cons_zero, List.set_cons_succ]
    refine take_d (i := 1) (d := 54) (v := ?rd54) rfl rfl (by kernel_rfl) (by kernel_rfl) (by kernel_rfl) (fun _ _ _ h => h) (Or.inl ⟨by kernel_rfl, ?rd54h⟩) hHeld ?rd54n
    case rd54h => (intro w hSw; (try dsimp only at hSw); go_split_ands; go_simp; (try exact rfl))
    try simp only [Act.put, List.setIfInBounds_toArray, List.set_cons_zero, List.set_cons_succ]
    refine take_d (i := 2) (d := 55) (v := .agg #[.int .i64 mm, .int .u64 jj]) rfl rfl (by kernel_rfl) (by kernel_rfl) (by kernel_rfl) (fun _ _ _ h => h) (yieldsIf_load_mid (by rfl) _ _ rfl _ _ rfl [.int .i64 mm, .int .u64 jj] _ (fun w h => h.2.2) Tryd.underlying59 rfl Tryd.i59) hHeld ?_
    try simp only [Act.put, List.setIfInBounds_toArray, List.set_cons_zero, List.set_cons_succ]
    refine wpAnyH_ready (rs := [3]) (by kernel_rfl) (by simp) ?_
    refine AllReadyH.cons rfl (fun K hK => ?_) AllReadyH.nil
    go_simp
    have hbb : Below w0.heap.size w0 (w0.alloc (.cells #[.int .i64 mm, .int .u64 jj] 59)) := (Below.refl _ _).alloc (Nat.le_refl _) _
    have s1 := Lib.hid (s0.out.on hbb)
    have t1 := Lib.hid (t0.out.below hbb)
    have u1 := Lib.hid (u0.out.trans (hbb.mono (by have := s0.out.b0.lt; omega)))
    have z1 := Lib.hid (Nat.le_trans z0.out hbb.size)
    have ix1 := Lib.hid (ix0.out.below (hbb.mono z0.out))
    have P1 : Hid (Blk (w0.alloc (.cells #[.int .i64 mm, .int .u64 jj] 59)) w0.heap.size 59 #[.int .i64 mm, .int .u64 jj]) := Lib.hid (Blk.new w0 59 _)
    refine hK.out _ _ ⟨s1.out.b0.cell 0, s1.out.b1.cell 0, s1.out.b2.rng⟩ (fun hHeld => ?_)
    clear hK K hbb
    generalize (w0.alloc (.cells #[.int .i64 mm, .int .u64 jj] 59)) = w1 at *
    generalize w0.heap.size = q1 at *
    try simp only [Act.put, List.setIfInBounds_toArray, List.set_cons_zero, List.set_cons_succ]
    refine wpAnyH_ready (rs := [4]) (by kernel_rfl) (by simp) ?_
    refine AllReadyH.cons rfl (fun K hK => ?_) AllReadyH.nil
    refine step_append_pair rfl (.tmp 54) (.tmp 56) rfl b2 A5 m c5 L rfl t1.out q1 (mm, jj) rfl P1.out HJ.out (by omega) z1.out ?_
    intro A8 c8 w2 hn hl hgr
    have OB : Hid (∀ k, (Value.slice A5 m c5).ownBlock = some k → b2 ≤ k) := Lib.hid (fun k hk => (t1.out.1.lt k hk).1)
    have K0 : Hid (Below b2 w1 w2) := Lib.hid ⟨hgr.os, hgr.tape, hgr.output, hgr.size, fun k hk => hgr.block k (by have := z1.out; omega) (fun e => by have := OB.out k e.symm; omega)⟩
    have u2 : Hid (Below g w w2) := Lib.hid (u1.out.trans (K0.out.mono (by have := Z3.out; omega)))
    have ix2 := Lib.hid (ix1.out.below K0.out)
    have z2 : Hid (b2 ≤ w2.heap.size) := Lib.hid (Nat.le_trans z1.out hgr.size)
    have s2 : Hid (Gst g P p q X A5 m c5 L mm jj w2) := Lib.hid ⟨s1.out.b0.below K0.out (by have := Z3.out; omega), s1.out.b1.below K0.out (by have := Z3.out; omega), s1.out.b2.below K0.out (by have := Z3.out; omega), ix2.out.more z2.out, hl, GW.out _ u2.out, s1.out.p30, s1.out.m60, s1.out.nil⟩
    have N2 := Lib.hid hn
    refine hK.out _ _ ⟨s2.out.b0.cell 0, s2.out.b1.cell 0, s2.out.b2.rng⟩ (fun hHeld => ?_)
    clear hK K hn hl hgr
    try simp only [Act.put, List.setIfInBounds_toArray, List.set_cons_zero, List.set_cons_succ]
    refine wpAnyH_ready (rs := [5]) (by kernel_rfl) (by simp) ?_
    refine AllReadyH.cons rfl (fun K hK => ?_) AllReadyH.nil
    go_simp
    refine (s2.out.agreed c8 N2.out (by omega)).mono ?_
    rw [NX'.out]
    rintro e w3 ⟨rfl, hb⟩
    have s3 := Lib.hid (s2.out.on hb)
    have u3 := Lib.hid (u2.out.trans (hb.mono (by have := s2.out.b0.lt; omega)))
    clear hb
    refine hK.out _ _ (⟨s3.out.b0.cell 0, s3.out.b1.cell 0, s3.out.b2.rng⟩) (fun hHeld => ?_)
    clear hK K
    try simp only [Act.put, List.setIfInBounds_toArray, List.set_cons_zero, List.set_cons_succ]
    refine take_d (i := 6) (d := 9) (v := ?rd9) rfl rfl (by kernel_rfl) (by kernel_rfl) (by kernel_rfl) (fun _ _ _ h => h) (Or.inl ⟨by kernel_rfl, ?rd9h⟩) hHeld ?rd9n
    case rd9h => (intro w hSw; (try dsimp only at hSw); go_split_ands; go_simp; (try exact rfl))
    try simp only [Act.put, List.setIfInBounds_toArray, List.set_cons_zero, List.set_cons_succ]
    refine wpAnyH_done (by kernel_rfl) ?_ _
    refine NoPanic.normal ?_
    have x3 : w3.cell? ⟨g + 1, 0, none⟩ = some (.slice A5 m c5) := s3.out.b1.cell 0
    go_upto_region 14 with (first
      | (go_at_call 37; refine s3.out.clone.mono ?_; rintro e w4 ⟨A7, c7, rfl, ho, hb⟩; have r4 := Lib.hid hb; have o4 := Lib.hid ho; clear ho hb)
      | (go_at_call 38; refine (reverse_own w3.heap.size A7 m c7 L w4 o4.out (by omega)).mono ?_; rintro e w5 ⟨rfl, Y, ho, hy, hb⟩; have r5 := Lib.hid (r4.out.trans hb); have o5 := Lib.hid ho; have SB := Lib.hid hy; clear ho hb hy))
    have BK : Hid (agr X (Y ++ L) = AT) := Lib.hid ((agr_back SB.out).trans HA.out)
    have ge : decide (AT ≤ NX) = true := by rw [decide_eq_true_eq]; exact MORE.out
    have ee : (AT == AT) = true := by simp
    have r6 : Hid (Below w3.heap.size w3 w5.drew) := Lib.hid r5.out.drew
    have o6 : Hid (Mos w5.drew w3.heap.size A7 m c7 Y) := Lib.hid (o5.out.below (Below.refl _ _).drew)
    have xT := And.intro ((s3.out.on r6.out).b0.cell 0) (And.intro ((s3.out.on r6.out).b1.cell 0) ((s3.out.on r6.out).b2.cell 0))
    clear x3 MORE r4 o4 r5 o5
    cases hig : inG (grp X) mm with
    | true =>
      clear OTH
      refine wp_region_noPanic ?_
      refine wp_region_held_drew (S := fun w' => w'.cell? ⟨g, 0, none⟩ = some (.slice P p q) ∧ w'.cell? ⟨g + 1, 0, none⟩ = some (.slice A5 m c5) ∧ w'.cell? ⟨g + 1 + 1, 0, none⟩ = some (.int .i64 mm)) (by kernel_rfl) xT (fun hHeld => ?_)
      generalize w5.drew = w6 at *
      refine take_d (i := 0) (d := 63) (v := ?re63) rfl rfl (by kernel_rfl) (by kernel_rfl) (by kernel_rfl) (fun _ _ _ h => h) (Or.inl ⟨by kernel_rfl, ?re63h⟩) hHeld ?re63n
      case re63h => (intro w hSw; (try dsimp only at hSw); go_split_ands; go_simp; (try exact rfl))
      try simp only [Act.put, List.setIfInBounds_toArray, List.set_cons_zero, List.set_cons_succ]
      refine take_d (i := 1) (d := 64) (v := ?re64) rfl rfl (by kernel_rfl) (by kernel_rfl) (by kernel_rfl) (fun _ _ _ h => h) (Or.inl ⟨by kernel_rfl, ?re64h⟩) hHeld ?re64n
      case re64h => (intro w hSw; (try dsimp only at hSw); go_split_ands; go_simp; (try exact rfl))
      try simp only [Act.put, List.setIfInBounds_toArray, List.set_cons_zero, List.set_cons_succ]
      refine take_d (i := 2) (d := 65) (v := .bool true) rfl rfl (by kernel_rfl) (by kernel_rfl) (by kernel_rfl) (fun _ _ _ h => h) (Or.inl ⟨by kernel_rfl, ?re65h⟩) hHeld ?_
      case re65h => (intro w hSw; (try dsimp only at hSw); go_split_ands; go_simp)
      try simp only [Act.put, List.setIfInBounds_toArray, List.set_cons_zero, List.set_cons_succ]
      refine take_d (i := 3) (d := 66) (v := .bool true) rfl rfl (by kernel_rfl) (by kernel_rfl) (by kernel_rfl) (fun _ _ _ h => h) (Or.inl ⟨by kernel_rfl, ?re66h⟩) hHeld ?_
      case re66h => (intro w hSw; (try dsimp only at hSw); go_split_ands; go_simp)
      try simp only [Act.put, List.setIfInBounds_toArray, List.set_cons_zero, List.set_cons_succ]
      refine take_d (i := 4) (d := 67) (v := ?re67) rfl rfl (by kernel_rfl) (by kernel_rfl) (by kernel_rfl) (fun _ _ _ h => h) (Or.inl ⟨by kernel_rfl, ?re67h⟩) hHeld ?re67n
      case re67h => (intro w hSw; (try dsimp only at hSw); go_split_ands; go_simp; (try exact rfl))
      try simp only [Act.put, List.setIfInBounds_toArray, List.set_cons_zero, List.set_cons_succ]
      refine take_d (i := 5) (d := 68) (v := ?re68) rfl rfl (by kernel_rfl) (by kernel_rfl) (by kernel_rfl) (fun _ _ _ h => h) (Or.inl ⟨by kernel_rfl, ?re68h⟩) hHeld ?re68n
      case re68h => (intro w hSw; (try dsimp only at hSw); go_split_ands; go_simp; (try exact rfl))
      try simp only [Act.put, List.setIfInBounds_toArray, List.set_cons_zero, List.set_cons_succ]
      refine take_d (i := 6) (d := 69) (v := ?re69) rfl rfl (by kernel_rfl) (by kernel_rfl) (by kernel_rfl) (fun _ _ _ h => h) (Or.inl ⟨by kernel_rfl, ?re69h⟩) hHeld ?re69n
      case re69h => (intro w hSw; (try dsimp only at hSw); go_split_ands; go_simp; (try exact rfl))
      try simp only [Act.put, List.setIfInBounds_toArray, List.set_cons_zero, List.set_cons_succ]
      refine wpAnyH_ready (rs := [7]) (by kernel_rfl) (by simp) ?_
      refine AllReadyH.cons rfl (fun K hK => ?_) AllReadyH.nil
      go_simp
      refine ((s3.out.on r6.out).has).mono ?_
      rw [hig]
      rintro e w7 ⟨rfl, hb⟩
      have r7 := Lib.hid (r6.out.trans (hb.mono r6.out.size))
      have o7 := Lib.hid (o6.out.below hb)
      clear hb
      refine hK.out _ _ (⟨(s3.out.on r7.out).b0.cell 0, (s3.out.on r7.out).b1.cell 0, (s3.out.on r7.out).b2.cell 0⟩) (fun hHeld => ?_)
      clear hK K
      try simp only [Act.put, List.setIfInBounds_toArray, List.set_cons_zero, List.set_cons_succ]
      refine take_d (i := 8) (d := 71) (v := .bool true) rfl rfl (by kernel_rfl) (by kernel_rfl) (by kernel_rfl) (fun _ _ _ h => h) (Or.inl ⟨by kernel_rfl, ?re71h⟩) hHeld ?_
      case re71h => (intro w hSw; (try dsimp only at hSw); go_split_ands; go_simp)
      try simp only [Act.put, List.setIfInBounds_toArray, List.set_cons_zero, List.set_cons_succ]
      refine take_d (i := 9) (d := 72) (v := undef) rfl rfl (by kernel_rfl) (by kernel_rfl) (by kernel_rfl) (fun _ _ _ h => h) (Or.inr ⟨by kernel_rfl, rfl⟩) hHeld ?_
      try simp only [Act.put, List.setIfInBounds_toArray, List.set_cons_zero, List.set_cons_succ]
      refine take_d (i := 10) (d := 73) (v := undef) rfl rfl (by kernel_rfl) (by kernel_rfl) (by kernel_rfl) (fun _ _ _ h => h) (Or.inr ⟨by kernel_rfl, rfl⟩) hHeld ?_
      try simp only [Act.put, List.setIfInBounds_toArray, List.set_cons_zero, List.set_cons_succ]
      refine take_d (i := 11) (d := 74) (v := undef) rfl rfl (by kernel_rfl) (by kernel_rfl) (by kernel_rfl) (fun _ _ _ h => h) (Or.inr ⟨by kernel_rfl, rfl⟩) hHeld ?_
      try simp only [Act.put, List.setIfInBounds_toArray, List.set_cons_zero, List.set_cons_succ]
      refine take_d (i := 12) (d := 75) (v := .bool true) rfl rfl (by kernel_rfl) (by kernel_rfl) (by kernel_rfl) (fun _ _ _ h => h) (Or.inl ⟨by kernel_rfl, ?re75h⟩) hHeld ?_
      case re75h => (intro w hSw; (try dsimp only at hSw); go_split_ands; go_simp)
      try simp only [Act.put, List.setIfInBounds_toArray, List.set_cons_zero, List.set_cons_succ]
      refine take_d (i := 13) (d := 76) (v := .bool true) rfl rfl (by kernel_rfl) (by kernel_rfl) (by kernel_rfl) (fun _ _ _ h => h) (Or.inl ⟨by kernel_rfl, ?re76h⟩) hHeld ?_
      case re76h => (intro w hSw; (try dsimp only at hSw); go_split_ands; go_simp)
      try simp only [Act.put, List.setIfInBounds_toArray, List.set_cons_zero, List.set_cons_succ]
      refine take_d (i := 14) (d := 77) (v := .bool true) rfl rfl (by kernel_rfl) (by kernel_rfl) (by kernel_rfl) (fun _ _ _ h => h) (Or.inl ⟨by kernel_rfl, ?re77h⟩) hHeld ?_
      case re77h => (intro w hSw; (try dsimp only at hSw); go_split_ands; go_simp)
      try simp only [Act.put, List.setIfInBounds_toArray, List.set_cons_zero, List.set_cons_succ]
      refine take_d (i := 15) (d := 78) (v := ?re78) rfl rfl (by kernel_rfl) (by kernel_rfl) (by kernel_rfl) (fun _ _ _ h => h) (Or.inl ⟨by kernel_rfl, ?re78h⟩) hHeld ?re78n
      case re78h => (intro w hSw; (try dsimp only at hSw); go_split_ands; go_simp; (try exact rfl))
      try simp only [Act.put, List.setIfInBounds_toArray, List.set_cons_zero, List.set_cons_succ]
      refine take_d (i := 16) (d := 79) (v := ?re79) rfl rfl (by kernel_rfl) (by kernel_rfl) (by kernel_rfl) (fun _ _ _ h => h) (Or.inl ⟨by kernel_rfl, ?re79h⟩) hHeld ?re79n
      case re79h => (intro w hSw; (try dsimp only at hSw); go_split_ands; go_simp; (try exact rfl))
      try simp only [Act.put, List.setIfInBounds_toArray, List.set_cons_zero, List.set_cons_succ]
      refine take_d (i := 17) (d := 80) (v := ?re80) rfl rfl (by kernel_rfl) (by kernel_rfl) (by kernel_rfl) (fun _ _ _ h => h) (Or.inl ⟨by kernel_rfl, ?re80h⟩) hHeld ?re80n
      case re80h => (intro w hSw; (try dsimp only at hSw); go_split_ands; go_simp; (try exact rfl))
      try simp only [Act.put, List.setIfInBounds_toArray, List.set_cons_zero, List.set_cons_succ]
      refine take_d (i := 20) (d := 83) (v := ?re83) rfl rfl (by kernel_rfl) (by kernel_rfl) (by kernel_rfl) (fun _ _ _ h => h) (Or.inl ⟨by kernel_rfl, ?re83h⟩) hHeld ?re83n
      case re83h => (intro w hSw; (try dsimp only at hSw); go_split_ands; go_simp; (try exact rfl))
      try simp only [Act.put, List.setIfInBounds_toArray, List.set_cons_zero, List.set_cons_succ]
      refine wpAnyH_ready (rs := [18]) (by kernel_rfl) (by simp) ?_
      refine AllReadyH.cons rfl (fun K hK => ?_) AllReadyH.nil
      refine step_append_mt (by kernel_rfl) (.tmp 79) (.tmp 80) rfl w3.heap.size A7 m c7 Y rfl o7.out w7.heap.size A5 m c5 L rfl (s3.out.on r7.out).mt s3.out.nil (by omega) r7.out.size ?_
      intro A9 c9 w8 ho hgr
      have r8 := Lib.hid (r7.out.grown hgr r7.out.size (fun k hk => (o7.out.1.lt k hk).1))
      have o8 := Lib.hid ho.mt.1
      refine hK.out _ _ ⟨(s3.out.on r8.out).b0.cell 0, (s3.out.on r8.out).b1.cell 0, (s3.out.on r8.out).b2.cell 0⟩ (fun hHeld => ?_)
      clear hK K ho hgr
      try simp only [Act.put, List.setIfInBounds_toArray, List.set_cons_zero, List.set_cons_succ]
      refine wpAnyH_ready (rs := [19]) (by kernel_rfl) (by simp) ?_
      refine AllReadyH.cons rfl (fun K hK => ?_) AllReadyH.nil
      go_simp
      refine ((s3.out.on r8.out).agreed c9 o8.out (by omega)).mono ?_
      rw [BK.out]
      rintro e w9 ⟨rfl, hb⟩
      have r9 := Lib.hid (r8.out.trans (hb.mono r8.out.size))
      clear hb
      refine hK.out _ _ (⟨(s3.out.on r9.out).b0.cell 0, (s3.out.on r9.out).b1.cell 0, (s3.out.on r9.out).b2.cell 0⟩) (fun hHeld => ?_)
      clear hK K
      try simp only [Act.put, List.setIfInBounds_toArray, List.set_cons_zero, List.set_cons_succ]
      refine take_d (i := 21) (d := 84) (v := .bool true) rfl rfl (by kernel_rfl) (by kernel_rfl) (by kernel_rfl) (fun _ _ _ h => h) (Or.inl ⟨by kernel_rfl, ?re84h⟩) hHeld ?_
      case re84h => (intro w hSw; (try dsimp only at hSw); go_split_ands; go_simp)
      try simp only [Act.put, List.setIfInBounds_toArray, List.set_cons_zero, List.set_cons_succ]
      refine take_d (i := 22) (d := 85) (v := .bool true) rfl rfl (by kernel_rfl) (by kernel_rfl) (by kernel_rfl) (fun _ _ _ h => h) (Or.inl ⟨by kernel_rfl, ?re85h⟩) hHeld ?_
      case re85h => (intro w hSw; (try dsimp only at hSw); go_split_ands; go_simp)
      try simp only [Act.put, List.setIfInBounds_toArray, List.set_cons_zero, List.set_cons_succ]
      refine take_d (i := 23) (d := 6) (v := ?re6) rfl rfl (by kernel_rfl) (by kernel_rfl) (by kernel_rfl) (fun _ _ _ h => h) (Or.inl ⟨by kernel_rfl, ?re6h⟩) hHeld ?re6n
      case re6h => (intro w hSw; (try dsimp only at hSw); go_split_ands; go_simp; (try exact rfl))
      try simp only [Act.put, List.setIfInBounds_toArray, List.set_cons_zero, List.set_cons_succ]
      refine wpAnyH_done (by kernel_rfl) ?_ _
      refine NoPanic.normal ?_
      go_wp2
      go_ret
      exact ⟨rfl, by rw [GS.out]; exact u3.out.trans (r9.out.mono (by have := s3.out.b0.lt; omega))⟩
    | false =>
      have hnx : NX = AT := OTH.out hig
      subst hnx
      clear OTH
      refine wp_region_noPanic ?_
      refine wp_region_held_drew (S := fun w' => w'.cell? ⟨g, 0, none⟩ = some (.slice P p q) ∧ w'.cell? ⟨g + 1, 0, none⟩ = some (.slice A5 m c5) ∧ w'.cell? ⟨g + 1 + 1, 0, none⟩ = some (.int .i64 mm)) (by kernel_rfl) xT (fun hHeld => ?_)
      generalize w5.drew = w6 at *
      refine take_d (i := 0) (d := 63) (v := ?rf63) rfl rfl (by kernel_rfl) (by kernel_rfl) (by kernel_rfl) (fun _ _ _ h => h) (Or.inl ⟨by kernel_rfl, ?rf63h⟩) hHeld ?rf63n
      case rf63h => (intro w hSw; (try dsimp only at hSw); go_split_ands; go_simp; (try exact rfl))
      try simp only [Act.put, List.setIfInBounds_toArray, List.set_cons_zero, List.set_cons_succ]
      refine take_d (i := 1) (d := 64) (v := ?rf64) rfl rfl (by kernel_rfl) (by kernel_rfl) (by kernel_rfl) (fun _ _ _ h => h) (Or.inl ⟨by kernel_rfl, ?rf64h⟩) hHeld ?rf64n
      case rf64h => (intro w hSw; (try dsimp only at hSw); go_split_ands; go_simp; (try exact rfl))
      try simp only [Act.put, List.setIfInBounds_toArray, List.set_cons_zero, List.set_cons_succ]
      refine take_d (i := 2) (d := 65) (v := .bool true) rfl rfl (by kernel_rfl) (by kernel_rfl) (by kernel_rfl) (fun _ _ _ h => h) (Or.inl ⟨by kernel_rfl, ?rf65h⟩) hHeld ?_
      case rf65h => (intro w hSw; (try dsimp only at hSw); go_split_ands; go_simp)
      try simp only [Act.put, List.setIfInBounds_toArray, List.set_cons_zero, List.set_cons_succ]
      refine take_d (i := 3) (d := 66) (v := .bool true) rfl rfl (by kernel_rfl) (by kernel_rfl) (by kernel_rfl) (fun _ _ _ h => h) (Or.inl ⟨by kernel_rfl, ?rf66h⟩) hHeld ?_
      case rf66h => (intro w hSw; (try dsimp only at hSw); go_split_ands; go_simp)
      try simp only [Act.put, List.setIfInBounds_toArray, List.set_cons_zero, List.set_cons_succ]
      refine take_d (i := 4) (d := 67) (v := ?rf67) rfl rfl (by kernel_rfl) (by kernel_rfl) (by kernel_rfl) (fun _ _ _ h => h) (Or.inl ⟨by kernel_rfl, ?rf67h⟩) hHeld ?rf67n
      case rf67h => (intro w hSw; (try dsimp only at hSw); go_split_ands; go_simp; (try exact rfl))
      try simp only [Act.put, List.setIfInBounds_toArray, List.set_cons_zero, List.set_cons_succ]
      refine take_d (i := 5) (d := 68) (v := ?rf68) rfl rfl (by kernel_rfl) (by kernel_rfl) (by kernel_rfl) (fun _ _ _ h => h) (Or.inl ⟨by kernel_rfl, ?rf68h⟩) hHeld ?rf68n
      case rf68h => (intro w hSw; (try dsimp only at hSw); go_split_ands; go_simp; (try exact rfl))
      try simp only [Act.put, List.setIfInBounds_toArray, List.set_cons_zero, List.set_cons_succ]
      refine take_d (i := 6) (d := 69) (v := ?rf69) rfl rfl (by kernel_rfl) (by kernel_rfl) (by kernel_rfl) (fun _ _ _ h => h) (Or.inl ⟨by kernel_rfl, ?rf69h⟩) hHeld ?rf69n
      case rf69h => (intro w hSw; (try dsimp only at hSw); go_split_ands; go_simp; (try exact rfl))
      try simp only [Act.put, List.setIfInBounds_toArray, List.set_cons_zero, List.set_cons_succ]
      refine wpAnyH_ready (rs := [7]) (by kernel_rfl) (by simp) ?_
      refine AllReadyH.cons rfl (fun K hK => ?_) AllReadyH.nil
      go_simp
      refine ((s3.out.on r6.out).has).mono ?_
      rw [hig]
      rintro e w7 ⟨rfl, hb⟩
      have r7 := Lib.hid (r6.out.trans (hb.mono r6.out.size))
      have o7 := Lib.hid (o6.out.below hb)
      clear hb
      refine hK.out _ _ (⟨(s3.out.on r7.out).b0.cell 0, (s3.out.on r7.out).b1.cell 0, (s3.out.on r7.out).b2.cell 0⟩) (fun hHeld => ?_)
      clear hK K
      try simp only [Act.put, List.setIfInBounds_toArray, List.set_cons_zero, List.set_cons_succ]
      refine take_d (i := 8) (d := 71) (v := .bool false) rfl rfl (by kernel_rfl) (by kernel_rfl) (by kernel_rfl) (fun _ _ _ h => h) (Or.inl ⟨by kernel_rfl, ?rf71h⟩) hHeld ?_
      case rf71h => (intro w hSw; (try dsimp only at hSw); go_split_ands; go_simp)
      try simp only [Act.put, List.setIfInBounds_toArray, List.set_cons_zero, List.set_cons_succ]
      refine take_d (i := 9) (d := 72) (v := ?rf72) rfl rfl (by kernel_rfl) (by kernel_rfl) (by kernel_rfl) (fun _ _ _ h => h) (Or.inl ⟨by kernel_rfl, ?rf72h⟩) hHeld ?rf72n
      case rf72h => (intro w hSw; (try dsimp only at hSw); go_split_ands; go_simp; (try exact rfl))
      try simp only [Act.put, List.setIfInBounds_toArray, List.set_cons_zero, List.set_cons_succ]
      refine take_d (i := 10) (d := 73) (v := ?rf73) rfl rfl (by kernel_rfl) (by kernel_rfl) (by kernel_rfl) (fun _ _ _ h => h) (Or.inl ⟨by kernel_rfl, ?rf73h⟩) hHeld ?rf73n
      case rf73h => (intro w hSw; (try dsimp only at hSw); go_split_ands; go_simp; (try exact rfl))
      try simp only [Act.put, List.setIfInBounds_toArray, List.set_cons_zero, List.set_cons_succ]
      refine take_d (i := 11) (d := 74) (v := .bool true) rfl rfl (by kernel_rfl) (by kernel_rfl) (by kernel_rfl) (fun _ _ _ h => h) (Or.inl ⟨by kernel_rfl, ?rf74h⟩) hHeld ?_
      case rf74h => (intro w hSw; (try dsimp only at hSw); go_split_ands; go_simp)
      try simp only [Act.put, List.setIfInBounds_toArray, List.set_cons_zero, List.set_cons_succ]
      refine take_d (i := 12) (d := 75) (v := .bool true) rfl rfl (by kernel_rfl) (by kernel_rfl) (by kernel_rfl) (fun _ _ _ h => h) (Or.inl ⟨by kernel_rfl, ?rf75h⟩) hHeld ?_
      case rf75h => (intro w hSw; (try dsimp only at hSw); go_split_ands; go_simp)
      try simp only [Act.put, List.setIfInBounds_toArray, List.set_cons_zero, List.set_cons_succ]
      refine take_d (i := 13) (d := 76) (v := .bool true) rfl rfl (by kernel_rfl) (by kernel_rfl) (by kernel_rfl) (fun _ _ _ h => h) (Or.inl ⟨by kernel_rfl, ?rf76h⟩) hHeld ?_
      case rf76h => (intro w hSw; (try dsimp only at hSw); go_split_ands; go_simp)
      try simp only [Act.put, List.setIfInBounds_toArray, List.set_cons_zero, List.set_cons_succ]
      refine take_d (i := 14) (d := 77) (v := .bool true) rfl rfl (by kernel_rfl) (by kernel_rfl) (by kernel_rfl) (fun _ _ _ h => h) (Or.inl ⟨by kernel_rfl, ?rf77h⟩) hHeld ?_
      case rf77h => (intro w hSw; (try dsimp only at hSw); go_split_ands; go_simp)
      try simp only [Act.put, List.setIfInBounds_toArray, List.set_cons_zero, List.set_cons_succ]
      refine take_d (i := 15) (d := 78) (v := ?rf78) rfl rfl (by kernel_rfl) (by kernel_rfl) (by kernel_rfl) (fun _ _ _ h => h) (Or.inl ⟨by kernel_rfl, ?rf78h⟩) hHeld ?rf78n
      case rf78h => (intro w hSw; (try dsimp only at hSw); go_split_ands; go_simp; (try exact rfl))
      try simp only [Act.put, List.setIfInBounds_toArray, List.set_cons_zero, List.set_cons_succ]
      refine take_d (i := 16) (d := 79) (v := ?rf79) rfl rfl (by kernel_rfl) (by kernel_rfl) (by kernel_rfl) (fun _ _ _ h => h) (Or.inl ⟨by kernel_rfl, ?rf79h⟩) hHeld ?rf79n
      case rf79h => (intro w hSw; (try dsimp only at hSw); go_split_ands; go_simp; (try exact rfl))
      try simp only [Act.put, List.setIfInBounds_toArray, List.set_cons_zero, List.set_cons_succ]
      refine take_d (i := 17) (d := 80) (v := ?rf80) rfl rfl (by kernel_rfl) (by kernel_rfl) (by kernel_rfl) (fun _ _ _ h => h) (Or.inl ⟨by kernel_rfl, ?rf80h⟩) hHeld ?rf80n
      case rf80h => (intro w hSw; (try dsimp only at hSw); go_split_ands; go_simp; (try exact rfl))
      try simp only [Act.put, List.setIfInBounds_toArray, List.set_cons_zero, List.set_cons_succ]
      refine take_d (i := 20) (d := 83) (v := ?rf83) rfl rfl (by kernel_rfl) (by kernel_rfl) (by kernel_rfl) (fun _ _ _ h => h) (Or.inl ⟨by kernel_rfl, ?rf83h⟩) hHeld ?rf83n
      case rf83h => (intro w hSw; (try dsimp only at hSw); go_split_ands; go_simp; (try exact rfl))
      try simp only [Act.put, List.setIfInBounds_toArray, List.set_cons_zero, List.set_cons_succ]
      refine wpAnyH_ready (rs := [18]) (by kernel_rfl) (by simp) ?_
      refine AllReadyH.cons rfl (fun K hK => ?_) AllReadyH.nil
      refine step_append_mt (by kernel_rfl) (.tmp 79) (.tmp 80) rfl w3.heap.size A7 m c7 Y rfl o7.out w7.heap.size A5 m c5 L rfl (s3.out.on r7.out).mt s3.out.nil (by omega) r7.out.size ?_
      intro A9 c9 w8 ho hgr
      have r8 := Lib.hid (r7.out.grown hgr r7.out.size (fun k hk => (o7.out.1.lt k hk).1))
      have o8 := Lib.hid ho.mt.1
      refine hK.out _ _ ⟨(s3.out.on r8.out).b0.cell 0, (s3.out.on r8.out).b1.cell 0, (s3.out.on r8.out).b2.cell 0⟩ (fun hHeld => ?_)
      clear hK K ho hgr
      try simp only [Act.put, List.setIfInBounds_toArray, List.set_cons_zero, List.set_cons_succ]
      refine wpAnyH_ready (rs := [19]) (by kernel_rfl) (by simp) ?_
      refine AllReadyH.cons rfl (fun K hK => ?_) AllReadyH.nil
      go_simp
      refine ((s3.out.on r8.out).agreed c9 o8.out (by omega)).mono ?_
      rw [BK.out]
      rintro e w9 ⟨rfl, hb⟩
      have r9 := Lib.hid (r8.out.trans (hb.mono r8.out.size))
      clear hb
      refine hK.out _ _ (⟨(s3.out.on r9.out).b0.cell 0, (s3.out.on r9.out).b1.cell 0, (s3.out.on r9.out).b2.cell 0⟩) (fun hHeld => ?_)
      clear hK K
      try simp only [Act.put, List.setIfInBounds_toArray, List.set_cons_zero, List.set_cons_succ]
      refine take_d (i := 21) (d := 84) (v := .bool true) rfl rfl (by kernel_rfl) (by kernel_rfl) (by kernel_rfl) (fun _ _ _ h => h) (Or.inl ⟨by kernel_rfl, ?rf84h⟩) hHeld ?_
      case rf84h => (intro w hSw; (try dsimp only at hSw); go_split_ands; go_simp)
      try simp only [Act.put, List.setIfInBounds_toArray, List.set_cons_zero, List.set_cons_succ]
      refine take_d (i := 22) (d := 85) (v := .bool true) rfl rfl (by kernel_rfl) (by kernel_rfl) (by kernel_rfl) (fun _ _ _ h => h) (Or.inl ⟨by kernel_rfl, ?rf85h⟩) hHeld ?_
      case rf85h => (intro w hSw; (try dsimp only at hSw); go_split_ands; go_simp)
      try simp only [Act.put, List.setIfInBounds_toArray, List.set_cons_zero, List.set_cons_succ]
      refine take_d (i := 23) (d := 6) (v := ?rf6) rfl rfl (by kernel_rfl) (by kernel_rfl) (by kernel_rfl) (fun _ _ _ h => h) (Or.inl ⟨by kernel_rfl, ?rf6h⟩) hHeld ?rf6n
      case rf6h => (intro w hSw; (try dsimp only at hSw); go_split_ands; go_simp; (try exact rfl))
      try simp only [Act.put, List.setIfInBounds_toArray, List.set_cons_zero, List.set_cons_succ]
      refine wpAnyH_done (by kernel_rfl) ?_ _
      refine NoPanic.normal ?_
      go_wp2
      go_ret
      exact ⟨rfl, by rw [GS.out]; exact u3.out.trans (r9.out.mono (by have := s3.out.b0.lt; omega))⟩

end Go.Proofs.YtfclppopelmdgaaDoor
