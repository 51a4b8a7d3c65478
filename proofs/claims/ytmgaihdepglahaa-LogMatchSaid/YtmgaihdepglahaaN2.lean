/-
  The spot of an Index: the program's spot.
-/
import Derived.Test.YtmgaihdepglahaaN1
import Derived.WalkMore
import Derived.ScopeJumps
namespace Go.Proofs.Ytmgaihdepglahaa
open Go.RowKit Go.Shelf
attribute [local go_sem] Oper.semAt_some

/-- What spot answers: the number, the spot, the error. -/
def spotE (l : Lg) (i : Int) : Int := if right l = true then (if (l.num i).isSome then 0 else 4) else 160
def spotN (l : Lg) (i : Int) : Nat := if spotE l i = 0 then (l.num i).getD 0 else 0
def spotI (l : Lg) (i : Int) : Int := if spotE l i = 0 then i else 0
def spotT (l : Lg) (i : Int) : Int := if spotE l i = 0 then l.T ((l.num i).getD 0) else 0
def spotV (l : Lg) (i : Int) : Value := .tuple #[.int .i64 (spotN l i : Int), .agg #[.int .u64 (spotI l i), .int .u64 (spotT l i)], .int .i64 (spotE l i)]
theorem spotV_not {l : Lg} (h : right l = false) (i : Int) : spotV l i = .tuple #[.int .i64 0, .agg #[.int .u64 0, .int .u64 0], .int .i64 160] := by
  simp [spotV, spotN, spotI, spotT, spotE, h]
theorem spotV_none {l : Lg} (h : right l = true) {i : Int} (hn : l.num i = none) : spotV l i = .tuple #[.int .i64 0, .agg #[.int .u64 0, .int .u64 0], .int .i64 4] := by
  simp [spotV, spotN, spotI, spotT, spotE, h, hn]
theorem spotV_some {l : Lg} (h : right l = true) {i : Int} {k : Nat} (hn : l.num i = some k) : spotV l i = .tuple #[.int .i64 (k : Int), .agg #[.int .u64 i, .int .u64 (l.T k)], .int .i64 0] := by
  simp [spotV, spotN, spotI, spotT, spotE, h, hn]

/-- The five blocks of spot. -/
structure SpB (g : Nat) (bi bt : Int) (A : Option Addr) (n c : Nat) (i x y z u : Int) (W : World) : Prop where
  b0 : Blk W g 81 #[.int .u64 bi, .int .u64 bt, .slice A n c]
  b1 : Blk W (g + 1) 22 #[.int .u64 i]
  b2 : Blk W (g + 2) 3 #[.int .i64 x]
  b3 : Blk W (g + 3) 24 #[.int .u64 y, .int .u64 z]
  b4 : Blk W (g + 4) 35 #[.int .i64 u]
section
variable {g n c : Nat} {bi bt i x y z u : Int} {A : Option Addr} {W W' : World}
theorem SpB.on {B : Nat} (h : SpB g bi bt A n c i x y z u W) (hb : Below B W W') (hB : g + 5 ≤ B) : SpB g bi bt A n c i x y z u W' :=
  ⟨h.b0.below hb (by omega), h.b1.below hb (by omega), h.b2.below hb (by omega), h.b3.below hb (by omega), h.b4.below hb (by omega)⟩
theorem SpB.all (h : SpB g bi bt A n c i x y z u W) (hb : Below W.heap.size W W') : SpB g bi bt A n c i x y z u W' :=
  ⟨h.b0.below hb h.b0.lt, h.b1.below hb h.b1.lt, h.b2.below hb h.b2.lt, h.b3.below hb h.b3.lt, h.b4.below hb h.b4.lt⟩
theorem SpB.drew (h : SpB g bi bt A n c i x y z u W) : SpB g bi bt A n c i x y z u W.drew := ⟨h.b0, h.b1, h.b2, h.b3, h.b4⟩
theorem SpB.put (h : SpB g bi bt A n c i x y z u W) {D : Nat} {o : Obj} (hD : W.heap[D]? = some o) (ho : o.isCells = false) (o' : Obj) : SpB g bi bt A n c i x y z u (W.putObj D o') :=
  ⟨h.b0.putR hD ho o', h.b1.putR hD ho o', h.b2.putR hD ho o', h.b3.putR hD ho o', h.b4.putR hD ho o'⟩
theorem SpB.cells (h : SpB g bi bt A n c i x y z u W) : (W.cell? ⟨g, 0, none⟩ = some (.int .u64 bi) ∧ W.cell? ⟨g, 1, none⟩ = some (.int .u64 bt) ∧ W.cell? ⟨g, 2, none⟩ = some (.slice A n c) ∧ W.cell? ⟨g + 1, 0, none⟩ = some (.int .u64 i)) ∧
    (W.cell? ⟨g + 2, 0, none⟩ = some (.int .i64 x) ∧ W.cell? ⟨g + 3, 0, none⟩ = some (.int .u64 y) ∧ W.cell? ⟨g + 3, 1, none⟩ = some (.int .u64 z) ∧ W.cell? ⟨g + 4, 0, none⟩ = some (.int .i64 u)) ∧
    (W.frozen? ⟨g + 2, 0, none⟩ = false ∧ W.frozen? ⟨g + 3, 0, none⟩ = false ∧ W.frozen? ⟨g + 3, 1, none⟩ = false ∧ W.frozen? ⟨g + 4, 0, none⟩ = false) :=
  ⟨⟨h.b0.cell 0, h.b0.cell 1, h.b0.cell 2, h.b1.cell 0⟩, ⟨h.b2.cell 0, h.b3.cell 0, h.b3.cell 1, h.b4.cell 0⟩, h.b2.frozen 0, h.b3.frozen 0, h.b3.frozen 1, h.b4.frozen 0⟩
/-- The results stored. -/
theorem SpB.set4 (h : SpB g bi bt A n c i x y z u W) (x' y' z' u' : Int) : SpB g bi bt A n c i x' y' z' u' ((((W.setCell ⟨g + 2, 0, none⟩ (.int .i64 x')).setCell ⟨g + 3, 0, none⟩ (.int .u64 y')).setCell ⟨g + 3, 1, none⟩ (.int .u64 z')).setCell ⟨g + 4, 0, none⟩ (.int .i64 u')) :=
  ⟨(((h.b0.far (by simp) _).far (by simp) _).far (by simp) _).far (by simp) _, (((h.b1.far (by simp) _).far (by simp) _).far (by simp) _).far (by simp) _, (((h.b2.set_ 0 _).far (by simp) _).far (by simp) _).far (by simp) _,
    (((h.b3.far (by simp) _).set_ 0 _).set_ 1 _).far (by simp) _, (((h.b4.far (by simp) _).far (by simp) _).far (by simp) _).set_ 0 _⟩
end
theorem set4_only {g : Nat} (W : World) (a b d e : Value) (j : Nat) (hj : g + 5 ≤ j ∨ j < g) : ((((W.setCell ⟨g + 2, 0, none⟩ a).setCell ⟨g + 3, 0, none⟩ b).setCell ⟨g + 3, 1, none⟩ d).setCell ⟨g + 4, 0, none⟩ e).heap[j]? = W.heap[j]? :=
  (Below.heap_setCell _ _ _ _ (by simp; omega)).trans ((Below.heap_setCell _ _ _ _ (by simp; omega)).trans ((Below.heap_setCell _ _ _ _ (by simp; omega)).trans (Below.heap_setCell _ _ _ _ (by simp; omega))))
theorem set4_below {g : Nat} (W : World) (a b d e : Value) : Below g W ((((W.setCell ⟨g + 2, 0, none⟩ a).setCell ⟨g + 3, 0, none⟩ b).setCell ⟨g + 3, 1, none⟩ d).setCell ⟨g + 4, 0, none⟩ e) :=
  ((((Below.refl _ _).setCell (p := ⟨g + 2, 0, none⟩) (by simp) _).setCell (p := ⟨g + 3, 0, none⟩) (by simp) _).setCell (p := ⟨g + 3, 1, none⟩) (by simp) _).setCell (p := ⟨g + 4, 0, none⟩) (by simp) _

theorem resultsSp {fn : Func} {g n c : Nat} {bi bt i x y z u : Int} {A : Option Addr} {W : World} (h : fn.results = #[.cell 4 3, .cell 5 24, .cell 6 35]) (tmps : Array Value) (hB : SpB g bi bt A n c i x y z u W)
    (h4 : tmps.getD 4 undef = .pointer (some ⟨g + 2, 0, none⟩)) (h5 : tmps.getD 5 undef = .pointer (some ⟨g + 3, 0, none⟩)) (h6 : tmps.getD 6 undef = .pointer (some ⟨g + 4, 0, none⟩)) :
    (results fn tmps).run Try.prog W = .ok (.tuple #[.int .i64 x, .agg #[.int .u64 y, .int .u64 z], .int .i64 u]) W := by
  obtain ⟨_, ⟨d0, d1, d2, d3⟩, _⟩ := hB.cells
  have h4' : tmps[4]?.getD undef = .pointer (some ⟨g + 2, 0, none⟩) := by simpa using h4
  have h5' : tmps[5]?.getD undef = .pointer (some ⟨g + 3, 0, none⟩) := by simpa using h5
  have h6' : tmps[6]?.getD undef = .pointer (some ⟨g + 4, 0, none⟩) := by simpa using h6
  simp [results, h, h4', h5', h6', go_sem, d0, d1, d2, d3]

set_option maxRecDepth 100000 in
set_option maxHeartbeats 4000000 in
theorem spot_any (l : Lg) (A : Option Addr) (n c B : Nat) (w : World) (h : Lr w B A n c l) (hB : B ≤ w.heap.size) (i : Int) (hi : 0 ≤ i) (hi' : i < 18446744073709551616) :
    Calls Try.prog 50 #[.agg #[.int .u64 l.bi, .int .u64 l.bt, .slice A n c], .int .u64 i] w fun e w' => e = .returned (spotV l i) ∧ Below w.heap.size w w' := by
  have hlen := h.len
  have MB := Lib.hid (fun W (hW : Below B w W) => maybe_any l A n c B W (h.below hW) (Nat.le_trans hB hW.size))
  obtain ⟨g, hg⟩ : ∃ g, w.heap.size = g := ⟨_, rfl⟩
  obtain ⟨bi, bt, es⟩ := l
  obtain ⟨hes, hnc, hnil, hn, hi0, hi1, ht0, ht1⟩ := h
  simp only at hes hi0 hi1 ht0 ht1 hlen ⊢ MB
  obtain ⟨W0, hW0⟩ : ∃ W0, (((((w.alloc (.cells #[.int .u64 bi, .int .u64 bt, .slice A n c] 81)).alloc (.cells #[.int .u64 i] 22)).alloc (.cells #[.int .i64 0] 3)).alloc (.cells #[.int .u64 0, .int .u64 0] 24)).alloc (.cells #[.int .i64 0] 35)) = W0 := ⟨_, rfl⟩
  have HB0 : SpB g bi bt A n c i 0 0 0 0 W0 := by
    rw [← hW0, ← hg]
    exact ⟨((((Blk.new _ _ _).alloc _).alloc _).alloc _).alloc _, (((Blk.fresh (by simp)).alloc _).alloc _).alloc _, ((Blk.fresh (by simp)).alloc _).alloc _, (Blk.fresh (by simp)).alloc _, Blk.fresh (by simp)⟩
  have hb0 : Below g w W0 := by rw [← hW0, ← hg]; exact (((((Below.refl _ _).alloc (Nat.le_refl _) _).alloc (by simp) _).alloc (by simp; omega) _).alloc (by simp; omega) _).alloc (by simp; omega) _
  have hs0 : W0.heap.size = g + 5 := by rw [← hW0, ← hg]; simp
  refine (callsIn_wide (n := 9)).1 ?_
  refine callsIn_of_wp_marks Try.func50 rfl trivial ?_ rfl
  simp only [Try.ntmps50, List.size_toArray, List.length_cons, List.length_nil, Nat.reduceAdd, Nat.reduceSub, Array.replicate_succ, Array.replicate_zero, List.push_toArray, List.append_toArray, List.nil_append, List.cons_append]
  refine wpIn_wide.2 ?_
  cases hr : right ⟨bi, bt, es⟩ with
  | false =>
    rw [spotV_not hr]
    rw [hr] at MB
    go_wp2
    refine wp_scope_jumps 0 (fun a W => SpB g bi bt A n c i 0 0 0 0 W ∧ Below g w W ∧ a = { tmps := #[.agg #[.int .u64 bi, .int .u64 bt, .slice A n c], .int .u64 i, .pointer (some ⟨g, 0, none⟩), .pointer (some ⟨g + 1, 0, none⟩), .pointer (some ⟨g + 1 + 1, 0, none⟩), .pointer (some ⟨g + 1 + 1 + 1, 0, none⟩), .pointer (some ⟨g + 1 + 1 + 1 + 1, 0, none⟩), .int .i64 160, undef, undef, .agg #[.int .u64 bi, .int .u64 bt, .slice A n c], .bool false, .bool true, undef, undef, undef, undef, undef, undef, undef, undef, undef, undef, undef, undef], defers := [] }) (fun _ _ => 0) rfl ?first ?pass
    case first =>
      obtain ⟨⟨z0, z1, z2, z3⟩, _⟩ := HB0.cells
      go_wp2_with (go_at_call 56; refine (MB.out W0 (hb0.mono (by omega))).mono ?_; rintro e w1 ⟨rfl, hb1⟩)
      go_step3
      exact ⟨rfl, HB0.all hb1, hb0.trans (hb1.mono (by omega)), rfl⟩
    case pass =>
      rintro a W ⟨hB1, hb1, rfl⟩
      obtain ⟨⟨z0, z1, z2, z3⟩, ⟨d0, d1, d2, d3⟩, f0, f1, f2, f3⟩ := hB1.cells
      go_wp2
      show LeavesInM _ _ _ _ _ _ _ _ _
      exact ⟨_, resultsSp rfl _ (hB1.set4 0 0 0 160) rfl rfl rfl, rfl, by rw [hg]; exact hb1.trans (set4_below _ _ _ _ _)⟩
  | true =>
    rw [hr] at MB
    go_wp2
    go_step3
    obtain ⟨⟨z0, z1, z2, z3⟩, _⟩ := HB0.cells
    go_wp2_with (first | (go_at_call 56; refine (MB.out W0 (hb0.mono (by omega))).mono ?_; rintro e w1 ⟨rfl, hb1⟩; have HB1 := HB0.all hb1; have hs1 := hb1.size; have hb01 : Below g w w1 := hb0.trans (hb1.mono (by omega)); obtain ⟨⟨y0, y1, y2, y3⟩, _⟩ := HB1.cells; clear hb1 z0 z1 z2 z3) | (go_at_call 62; refine (spots_any _ _ _ _).mono ?_; rintro e w' ⟨rfl, rfl⟩))
    refine (wpIn_wide (n := 9)).1 ?_
    obtain ⟨m, hmm⟩ : ∃ m, w1.heap.size = m := ⟨_, rfl⟩
    obtain ⟨W2, hW2⟩ : ∃ W2, w1.alloc (.cells #[.int .u64 bi, .int .u64 bt, .slice A n c] 81) = W2 := ⟨_, rfl⟩
    have b3 : Blk W2 m 81 #[.int .u64 bi, .int .u64 bt, .slice A n c] := by rw [← hW2, ← hmm]; exact Blk.new _ _ _
    have hb12 : Below w1.heap.size w1 W2 := by rw [← hW2]; exact (Below.refl _ _).alloc (Nat.le_refl _) _
    have HB2 := HB1.all hb12
    have hb02 : Below g w W2 := hb01.trans (hb12.mono (by omega))
    have hs2 : W2.heap.size = m + 1 := by rw [← hW2, ← hmm]; simp
    rw [hW2, hmm]
    clear hW2 HB1 y0 y1 y2 y3
    refine wpIn_rangeFunc_mem rfl (by omega) (gf := 75) (lb := #[.pointer (some ⟨m, 0, none⟩)]) rfl trivial (enters_of Try.func75 (by kernel_rfl) rfl)
      (spots1_mem 8 (by omega) bi bt A n c es g m W2 (by omega) (by omega) hi0 hi1 b3 ((hes.more (by omega)).below hb02)) (by omega) (by omega) (fun _ => rfl)
      (fun k W => (∀ j, j < k → spI bi j ≠ i) ∧ SpB g bi bt A n c i 0 0 0 0 W ∧ Below g w W)
      (fun c' k W => c' = .ret ∧ spI bi k = i ∧ SpB g bi bt A n c i k (spI bi k) (spT bt es k) 0 W ∧ Below g w W)
      (fun k X Y hs hb => ⟨hs.1, hs.2.1.on hb (by omega), hs.2.2.trans (hb.mono (by omega))⟩)
      (fun c' k X Y hs hb => ⟨hs.1, hs.2.1, hs.2.2.1.on hb (by omega), hs.2.2.2.trans (hb.mono (by omega))⟩) ⟨fun j hj => absurd hj (by omega), HB2, hb02⟩
      (fun k a W => ∃ p, m < p ∧ Blk W p 24 #[.int .u64 (spI bi k), .int .u64 (spT bt es k)] ∧ a = { tmps := #[.agg #[.int .u64 bi, .int .u64 bt, .slice A n c], .int .u64 i, .pointer (some ⟨g, 0, none⟩), .pointer (some ⟨g + 1, 0, none⟩), .pointer (some ⟨g + 1 + 1, 0, none⟩), .pointer (some ⟨g + 1 + 1 + 1, 0, none⟩), .pointer (some ⟨g + 1 + 1 + 1 + 1, 0, none⟩), .int .i64 4, .int .i64 (k : Int), .pointer (some ⟨p, 0, none⟩), .agg #[.int .u64 bi, .int .u64 bt, .slice A n c], .bool true, .bool false, .agg #[.int .u64 bi, .int .u64 bt, .slice A n c], .func (.func 75) #[] #[.pointer (some ⟨m, 0, none⟩)], .int .i64 (k : Int), .agg #[.int .u64 (spI bi k), .int .u64 (spT bt es k)], undef, undef, undef, undef, undef, undef, undef, undef], defers := [] })
      (fun k a X r o o' hs hr ho => by
        obtain ⟨p, hp, hbp, rfl⟩ := hs
        exact ⟨p, hp, hbp.putR hr ho o', rfl⟩) ?assign ?body ?done ?stop
    case assign =>
      intro l k W hI hsz hk
      simp only [spE]
      gi_wp2
      exact ⟨Fixed.of_below ((Below.refl _ _).alloc (Nat.le_refl _) _) (by omega), ⟨hI.1, hI.2.1.all ((Below.refl _ _).alloc (Nat.le_refl _) _), hI.2.2.alloc (by omega) _⟩, W.heap.size, by omega, Blk.new W 24 _, rfl⟩
    case body =>
      rintro l k a1 W ⟨i1, i2, i3⟩ ⟨p, hp, hbp, rfl⟩ hsz hk
      have p0 : W.cell? ⟨p, 0, none⟩ = some (.int .u64 (spI bi k)) := hbp.cell 0
      have p1 : W.cell? ⟨p, 1, none⟩ = some (.int .u64 (spT bt es k)) := hbp.cell 1
      obtain ⟨⟨z0, z1, z2, z3⟩, ⟨d0, d1, d2, d3⟩, f0, f1, f2, f3⟩ := i2.cells
      by_cases hx : spI bi k = i
      · have hx' : (spI bi k == i) = true := by simp [hx]
        gi_wp2
        have hmx : Try.prog.follows .mixedOrders = true := by kernel_rfl
        gi_region_with_o (fail)
        all_goals gi_wp2
        all_goals exact ⟨⟨(set4_below W _ _ _ _).drew.trans (Below.refl _ _), fun j hj _ => set4_only W _ _ _ _ j (.inl (by omega))⟩, rfl, hx, by rw [hx]; exact (i2.set4 _ _ _ _).drew, i3.trans (set4_below W _ _ _ _).drew⟩
      · have hx' : (spI bi k == i) = false := by simp [hx]
        gi_wp2
        refine ⟨Fixed.refl _ _ _, fun j hj => ?_, i2, i3⟩
        by_cases hjk : j = k
        · subst hjk; exact hx
        · exact i1 j (by omega)
    case done =>
      rintro D W hD ⟨i1, i2, i3⟩ hK
      have hnum : (⟨bi, bt, es⟩ : Lg).num i = none := numB_miss hi hi' fun k hk => i1 k (by rw [hlen] at hk; omega)
      obtain ⟨⟨z0, z1, z2, z3⟩, ⟨d0, d1, d2, d3⟩, f0, f1, f2, f3⟩ := i2.cells
      go_wp2
      go_step3
      go_wp2
      have r1 := i2.set4 0 0 0 4
      have r2 := i3.trans (set4_below (g := g) W (.int .i64 0) (.int .u64 0) (.int .u64 0) (.int .i64 4))
      have r3 := (set4_only (g := g) W (.int .i64 0) (.int .u64 0) (.int .u64 0) (.int .i64 4) D (.inl (by omega))).trans hK
      generalize (((W.setCell ⟨g + 2, 0, none⟩ (.int .i64 0)).setCell ⟨g + 3, 0, none⟩ (.int .u64 0)).setCell ⟨g + 3, 1, none⟩ (.int .u64 0)).setCell ⟨g + 4, 0, none⟩ (.int .i64 4) = W5 at *
      refine ⟨by simp, .inl ⟨_, _, rfl, run_takeDeferred r3, ?_⟩⟩
      exact ⟨_, resultsSp rfl _ (r1.put r3 rfl _) rfl rfl rfl, by rw [spotV_none hr hnum], by rw [hg]; exact r2.trans (below_shut _ (.deferred none) (by omega))⟩
    case stop =>
      rintro D c' k W hD hk ⟨rfl, hik, i2, i3⟩ hK
      have hnum : (⟨bi, bt, es⟩ : Lg).num i = some k := numB_hit (by rw [hlen]; omega) (by rw [hlen]; omega) hik
      gi_wp2
      refine ⟨by simp, .inl ⟨_, _, rfl, run_takeDeferred hK, ?_⟩⟩
      exact ⟨_, resultsSp rfl _ (i2.put hK rfl _) rfl rfl rfl, by rw [spotV_some hr hnum, ← hik]; rfl, by rw [hg]; exact i3.trans (below_shut _ (.deferred none) (by omega))⟩

end Go.Proofs.Ytmgaihdepglahaa
