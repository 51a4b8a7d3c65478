/-
  The place behind the bytes of a kind that stand at a place: the program's run.
-/
import Derived.Test.YtblcfjliabeaiaaDoorL2
import Derived.WalkMore
import Derived.ScopeJumps
namespace Go.Proofs.YtblcfjliabeaiaaDoor
open Go.RowKit Go.Shelf
attribute [local go_sem] Oper.semAt_some

/-- How many bytes of a kind a text has from a place on. -/
def runN (q : Int → Bool) : List UInt8 → Nat
  | [] => 0
  | b :: r => if q (b.toNat : Int) then runN q r + 1 else 0
def runE (q : Int → Bool) (l : List UInt8) (p : Nat) : Nat := p + runN q (l.drop p)
theorem runN_le (q : Int → Bool) : ∀ l : List UInt8, runN q l ≤ l.length
  | [] => Nat.le_refl _
  | b :: r => by have := runN_le q r; unfold runN; split <;> simp <;> omega
theorem runE_le {q : Int → Bool} {l : List UInt8} {p : Nat} (h : p ≤ l.length) : p ≤ runE q l p ∧ runE q l p ≤ l.length := by
  have := runN_le q (l.drop p)
  rw [List.length_drop] at this
  unfold runE
  omega
theorem runN_at (q : Int → Bool) : ∀ (l : List UInt8) (k : Nat), k ≤ l.length → (∀ j, j < k → q (bt l j) = true) → (k = l.length ∨ q (bt l k) = false) → runN q l = k
  | [], k, h, _, _ => by simp at h; subst h; rfl
  | b :: r, 0, _, _, h => by
    rcases h with h | h
    · simp at h
    · have : q (b.toNat : Int) = false := h
      unfold runN
      rw [this]
      rfl
  | b :: r, k + 1, hk, ha, h => by
    have h0 : q (b.toNat : Int) = true := ha 0 (by omega)
    unfold runN
    rw [if_pos h0, runN_at q r k (by simpa using hk) (fun j hj => ha (j + 1) (by omega)) (by
      rcases h with h | h
      · exact .inl (by simpa using h)
      · exact .inr h)]
theorem bt_drop (l : List UInt8) (p k : Nat) : bt (l.drop p) k = bt l (p + k) := by simp [bt, List.getD, List.getElem?_drop]
theorem runE_at {q : Int → Bool} {l : List UInt8} {p k : Nat} (h : p + k ≤ l.length) (ha : ∀ j, j < k → q (bt l (p + j)) = true) (he : p + k = l.length ∨ q (bt l (p + k)) = false) : runE q l p = p + k := by
  unfold runE
  rw [runN_at q (l.drop p) k (by rw [List.length_drop]; omega) (fun j hj => by rw [bt_drop]; exact ha j hj) (by
    rcases he with he | he
    · exact .inl (by rw [List.length_drop]; omega)
    · exact .inr (by rw [bt_drop]; exact he))]

theorem Blk.fresh {w : World} {t : TypeId} {cs : Array Value} {n : Nat} (h : n = w.heap.size) : Blk (w.alloc (.cells cs t)) n t cs := by subst h; exact Blk.new w t cs
/-- The block for the rounds' deferred calls is shut. -/
theorem below_shut {B D : Nat} (W : World) (o : Obj) (h : B ≤ D) : Below B W (W.putObj D o) := below_putObj W o h
theorem Blk.put {W : World} {g D : Nat} {t : TypeId} {cs : Array Value} (h : Blk W g t cs) (o : Obj) (hne : g ≠ D) : Blk (W.putObj D o) g t cs := (World.putObj_heap_other hne).trans h
theorem Blk.putR {W : World} {g D : Nat} {t : TypeId} {cs : Array Value} {o : Obj} (h : Blk W g t cs) (hD : W.heap[D]? = some o) (ho : o.isCells = false) (o' : Obj) : Blk (W.putObj D o') g t cs := by
  refine h.put o' fun e => ?_
  subst e
  unfold Blk at h
  rw [h] at hD
  injection hD with hD
  subst hD
  cases ho
theorem resT {fn : Func} {p : Tmp} {ty : TypeId} (h : fn.results = #[.cell p ty]) (tmps : Array Value) (w : World) (g : Nat) (i : Int)
    (hp : tmps.getD p undef = .pointer (some ⟨g, 0, none⟩)) (ht : ty = 3) (hg : Blk w g 3 #[.int .i64 i]) : (results fn tmps).run Tryd.prog w = .ok (.int .i64 i) w := by
  have d0 : w.cell? ⟨g, 0, none⟩ = some (.int .i64 i) := hg.cell 0
  have hp' : tmps[p]?.getD undef = .pointer (some ⟨g, 0, none⟩) := by simpa using hp
  subst ht
  simp [results, h, hp', go_sem, d0]

set_option maxRecDepth 100000 in
set_option maxHeartbeats 4000000 in
theorem run54_any (l : List UInt8) (p : Nat) (hl : l.length ≤ 1000000) (hp : p ≤ l.length) (w : World) :
    Calls Tryd.prog 46 #[tx l, .int .i64 (p : Int), .func (.func 54) #[] #[]] w fun e w' => e = .returned (.int .i64 (runE innB l p : Nat)) ∧ Below w.heap.size w w' := by
  have HF := Lib.hid (fun k W => inner_any (bt l k) (bt0 l k) (bt1 l k) W)
  have HS := Lib.hid (fun k (h : p + k ≤ l.length) (ha : ∀ j, j < k → innB (bt l (p + j)) = true) he => runE_at (q := innB) h ha he)
  generalize runE innB l p = R at *
  refine (callsIn_wide (n := 9)).1 ?_
  refine callsIn_of_wp_marks Tryd.func46 rfl trivial ?_ rfl
  simp only [Tryd.ntmps46, List.size_toArray, List.length_cons, List.length_nil, Nat.reduceAdd, Nat.reduceSub, Array.replicate_succ, Array.replicate_zero, List.push_toArray, List.append_toArray, List.nil_append, List.cons_append]
  gi_wp2_with (refine ⟨trivial, ?_⟩; gi_at_call 65; refine (callsIn_wide.2 (from_any _ _ _)).mono ?_; rintro e w' ⟨rfl, rfl⟩)
  obtain ⟨g, hg⟩ : ∃ g, w.heap.size = g := ⟨_, rfl⟩
  obtain ⟨W0, hW0⟩ : ∃ W0, ((((w.alloc (.cells #[.func (.func 54) #[] #[]] 75)).alloc (.cells #[.int .i64 0] 3)).alloc (.cells #[tx l] 9)).alloc (.cells #[.int .i64 (p : Int)] 3)) = W0 := ⟨_, rfl⟩
  have b0 : Blk W0 g 75 #[.func (.func 54) #[] #[]] := by rw [← hW0, ← hg]; exact (((Blk.new _ _ _).alloc _).alloc _).alloc _
  have b1 : Blk W0 (g + 1) 3 #[.int .i64 0] := by rw [← hW0, ← hg]; exact ((Blk.fresh (by simp)).alloc _).alloc _
  have b2 : Blk W0 (g + 2) 9 #[tx l] := by rw [← hW0, ← hg]; exact (Blk.fresh (by simp)).alloc _
  have b3 : Blk W0 (g + 2 + 1) 3 #[.int .i64 (p : Int)] := by rw [← hW0, ← hg]; exact Blk.fresh (by simp)
  have hb0 : Below g w W0 := by rw [← hW0, ← hg]; exact ((((Below.refl _ _).alloc (Nat.le_refl _) _).alloc (by simp) _).alloc (by simp; omega) _).alloc (by simp; omega) _
  have hs0 : W0.heap.size = g + 4 := by rw [← hW0, ← hg]; simp
  rw [hW0]
  rw [hg]
  clear hW0
  refine wpIn_rangeFunc_mem rfl (by omega) (gf := 79) (lb := #[.pointer (some ⟨g + 2 + 1, 0, none⟩), .pointer (some ⟨g + 2, 0, none⟩)]) rfl trivial (enters_of Tryd.func79 (by kernel_rfl) rfl)
    (from1_mem 8 (by omega) l p hl (by omega) g (g + 2) W0 (by omega) b2 b3) (by omega) (by omega) (fun _ => rfl)
    (fun k W => Hid (∀ j, j < k → innB (bt l (p + j)) = true) ∧ Blk W g 75 #[.func (.func 54) #[] #[]] ∧ Blk W (g + 1) 3 #[.int .i64 0] ∧ Below g w W)
    (fun c k W => c = .ret ∧ Hid (∀ j, j < k → innB (bt l (p + j)) = true) ∧ innB (bt l (p + k)) = false ∧ Blk W (g + 1) 3 #[.int .i64 ((p + k : Nat) : Int)] ∧ Below g w W)
    (fun k X Y hs hb => ⟨hs.1, hs.2.1.below hb (by omega), hs.2.2.1.below hb (by omega), hs.2.2.2.trans (hb.mono (by omega))⟩)
    (fun _ _ _ _ hs hb => ⟨hs.1, hs.2.1, hs.2.2.1, hs.2.2.2.1.below hb (by omega), hs.2.2.2.2.trans (hb.mono (by omega))⟩) ⟨Lib.hid (fun j hj => absurd hj (by omega)), b0, b1, hb0⟩
    (fun k a _ => a = { tmps := #[tx l, .int .i64 (p : Int), .func (.func 54) #[] #[], undef, undef, .pointer (some ⟨g, 0, none⟩), .pointer (some ⟨g + 1, 0, none⟩), .int .i64 ((p + k : Nat) : Int), .int .u8 (bt l (p + k)), tx l, .int .i64 (p : Int), .func (.func 79) #[] #[.pointer (some ⟨g + 1 + 1 + 1, 0, none⟩), .pointer (some ⟨g + 1 + 1, 0, none⟩)], .int .i64 ((p + k : Nat) : Int), .int .u8 (bt l (p + k)), undef, undef, undef, undef, undef, undef, undef], defers := [] })
    (fun k a X r o o' hs hr ho => hs) ?assign ?body ?done ?stop
  case assign =>
    intro lb k W hI hsz hk
    simp only [byE]
    gi_wp2
    exact ⟨Fixed.refl _ _ _, hI, rfl⟩
  case body =>
    rintro lb k a1 W ⟨i0, i1, i2, i3⟩ rfl hsz hk
    have e0 : W.cell? ⟨g, 0, none⟩ = some (.func (.func 54) #[] #[]) := i1.cell 0
    have e1 : W.cell? ⟨g + 1, 0, none⟩ = some (.int .i64 0) := i2.cell 0
    have f1 : W.frozen? ⟨g + 1, 0, none⟩ = false := i2.frozen 0
    have H1 := Lib.hid (HF.out (p + k))
    cases hq : innB (bt l (p + k)) with
    | true =>
      rw [hq] at H1
      gi_wp2_with (refine ⟨trivial, ?_⟩; gi_at_call 54; refine (callsIn_wide.2 (H1.out _)).mono ?_; rintro e w' ⟨rfl, rfl⟩)
      refine ⟨Fixed.refl _ _ _, Lib.hid (fun j hj => ?_), i1, i2, i3⟩
      by_cases hjk : j = k
      · subst hjk; exact hq
      · exact i0.out j (by omega)
    | false =>
      rw [hq] at H1
      gi_wp2_with (refine ⟨trivial, ?_⟩; gi_at_call 54; refine (callsIn_wide.2 (H1.out _)).mono ?_; rintro e w' ⟨rfl, rfl⟩)
      exact ⟨⟨(Below.refl _ _).setCell (p := ⟨g + 1, 0, none⟩) (by simp) _, fun j hj _ => Below.heap_setCell _ _ _ _ (by simp; omega)⟩, rfl, i0, hq, i2.set_ 0 _, i3.setCell (p := ⟨g + 1, 0, none⟩) (by simp) _⟩
  case done =>
    rintro D W hD ⟨i0, i1, i2, i3⟩ hK
    have e1 : W.cell? ⟨g + 1, 0, none⟩ = some (.int .i64 0) := i2.cell 0
    have f1 : W.frozen? ⟨g + 1, 0, none⟩ = false := i2.frozen 0
    have hR := HS.out (l.length - p) (by omega) i0.out (.inl (by omega))
    gi_wp2
    have r1 : Blk (W.setCell ⟨g + 1, 0, none⟩ (.int .i64 (l.length : Int))) (g + 1) 3 #[.int .i64 (l.length : Int)] := i2.set_ 0 _
    have r2 : Below g w (W.setCell ⟨g + 1, 0, none⟩ (.int .i64 (l.length : Int))) := i3.setCell (p := ⟨g + 1, 0, none⟩) (by simp) _
    have r3 : (W.setCell ⟨g + 1, 0, none⟩ (.int .i64 (l.length : Int))).heap[D]? = some (.deferred (some [])) := (Below.heap_setCell _ _ _ _ (by simp; omega)).trans hK
    generalize W.setCell ⟨g + 1, 0, none⟩ (.int .i64 (l.length : Int)) = W5 at *
    refine ⟨by simp, .inl ⟨_, _, rfl, run_takeDeferred r3, ?_⟩⟩
    exact ⟨_, resT rfl _ _ (g + 1) _ rfl rfl (r1.putR r3 rfl _), by rw [hR, show p + (l.length - p) = l.length by omega], by rw [hg]; exact r2.trans (below_shut _ (.deferred none) (by omega))⟩
  case stop =>
    rintro D c k W hD hk ⟨rfl, i0, hq, i2, i3⟩ hK
    have hR := HS.out k (by omega) i0.out (.inr hq)
    gi_wp2
    refine ⟨by simp, .inl ⟨_, _, rfl, run_takeDeferred hK, ?_⟩⟩
    exact ⟨_, resT rfl _ _ (g + 1) _ rfl rfl (i2.putR hK rfl _), by rw [hR], by rw [hg]; exact i3.trans (below_shut _ (.deferred none) (by omega))⟩

set_option maxRecDepth 100000 in
set_option maxHeartbeats 4000000 in
theorem run69_any (l : List UInt8) (p : Nat) (hl : l.length ≤ 1000000) (hp : p ≤ l.length) (w : World) :
    Calls Tryd.prog 46 #[tx l, .int .i64 (p : Int), .func (.func 69) #[] #[]] w fun e w' => e = .returned (.int .i64 (runE digB l p : Nat)) ∧ Below w.heap.size w w' := by
  have HF := Lib.hid (fun k W => digit_any (bt l k) (bt0 l k) (bt1 l k) W)
  have HS := Lib.hid (fun k (h : p + k ≤ l.length) (ha : ∀ j, j < k → digB (bt l (p + j)) = true) he => runE_at (q := digB) h ha he)
  generalize runE digB l p = R at *
  refine (callsIn_wide (n := 9)).1 ?_
  refine callsIn_of_wp_marks Tryd.func46 rfl trivial ?_ rfl
  simp only [Tryd.ntmps46, List.size_toArray, List.length_cons, List.length_nil, Nat.reduceAdd, Nat.reduceSub, Array.replicate_succ, Array.replicate_zero, List.push_toArray, List.append_toArray, List.nil_append, List.cons_append]
  gi_wp2_with (refine ⟨trivial, ?_⟩; gi_at_call 65; refine (callsIn_wide.2 (from_any _ _ _)).mono ?_; rintro e w' ⟨rfl, rfl⟩)
  obtain ⟨g, hg⟩ : ∃ g, w.heap.size = g := ⟨_, rfl⟩
  obtain ⟨W0, hW0⟩ : ∃ W0, ((((w.alloc (.cells #[.func (.func 69) #[] #[]] 75)).alloc (.cells #[.int .i64 0] 3)).alloc (.cells #[tx l] 9)).alloc (.cells #[.int .i64 (p : Int)] 3)) = W0 := ⟨_, rfl⟩
  have b0 : Blk W0 g 75 #[.func (.func 69) #[] #[]] := by rw [← hW0, ← hg]; exact (((Blk.new _ _ _).alloc _).alloc _).alloc _
  have b1 : Blk W0 (g + 1) 3 #[.int .i64 0] := by rw [← hW0, ← hg]; exact ((Blk.fresh (by simp)).alloc _).alloc _
  have b2 : Blk W0 (g + 2) 9 #[tx l] := by rw [← hW0, ← hg]; exact (Blk.fresh (by simp)).alloc _
  have b3 : Blk W0 (g + 2 + 1) 3 #[.int .i64 (p : Int)] := by rw [← hW0, ← hg]; exact Blk.fresh (by simp)
  have hb0 : Below g w W0 := by rw [← hW0, ← hg]; exact ((((Below.refl _ _).alloc (Nat.le_refl _) _).alloc (by simp) _).alloc (by simp; omega) _).alloc (by simp; omega) _
  have hs0 : W0.heap.size = g + 4 := by rw [← hW0, ← hg]; simp
  rw [hW0]
  rw [hg]
  clear hW0
  refine wpIn_rangeFunc_mem rfl (by omega) (gf := 79) (lb := #[.pointer (some ⟨g + 2 + 1, 0, none⟩), .pointer (some ⟨g + 2, 0, none⟩)]) rfl trivial (enters_of Tryd.func79 (by kernel_rfl) rfl)
    (from1_mem 8 (by omega) l p hl (by omega) g (g + 2) W0 (by omega) b2 b3) (by omega) (by omega) (fun _ => rfl)
    (fun k W => Hid (∀ j, j < k → digB (bt l (p + j)) = true) ∧ Blk W g 75 #[.func (.func 69) #[] #[]] ∧ Blk W (g + 1) 3 #[.int .i64 0] ∧ Below g w W)
    (fun c k W => c = .ret ∧ Hid (∀ j, j < k → digB (bt l (p + j)) = true) ∧ digB (bt l (p + k)) = false ∧ Blk W (g + 1) 3 #[.int .i64 ((p + k : Nat) : Int)] ∧ Below g w W)
    (fun k X Y hs hb => ⟨hs.1, hs.2.1.below hb (by omega), hs.2.2.1.below hb (by omega), hs.2.2.2.trans (hb.mono (by omega))⟩)
    (fun _ _ _ _ hs hb => ⟨hs.1, hs.2.1, hs.2.2.1, hs.2.2.2.1.below hb (by omega), hs.2.2.2.2.trans (hb.mono (by omega))⟩) ⟨Lib.hid (fun j hj => absurd hj (by omega)), b0, b1, hb0⟩
    (fun k a _ => a = { tmps := #[tx l, .int .i64 (p : Int), .func (.func 69) #[] #[], undef, undef, .pointer (some ⟨g, 0, none⟩), .pointer (some ⟨g + 1, 0, none⟩), .int .i64 ((p + k : Nat) : Int), .int .u8 (bt l (p + k)), tx l, .int .i64 (p : Int), .func (.func 79) #[] #[.pointer (some ⟨g + 1 + 1 + 1, 0, none⟩), .pointer (some ⟨g + 1 + 1, 0, none⟩)], .int .i64 ((p + k : Nat) : Int), .int .u8 (bt l (p + k)), undef, undef, undef, undef, undef, undef, undef], defers := [] })
    (fun k a X r o o' hs hr ho => hs) ?assign ?body ?done ?stop
  case assign =>
    intro lb k W hI hsz hk
    simp only [byE]
    gi_wp2
    exact ⟨Fixed.refl _ _ _, hI, rfl⟩
  case body =>
    rintro lb k a1 W ⟨i0, i1, i2, i3⟩ rfl hsz hk
    have e0 : W.cell? ⟨g, 0, none⟩ = some (.func (.func 69) #[] #[]) := i1.cell 0
    have e1 : W.cell? ⟨g + 1, 0, none⟩ = some (.int .i64 0) := i2.cell 0
    have f1 : W.frozen? ⟨g + 1, 0, none⟩ = false := i2.frozen 0
    have H1 := Lib.hid (HF.out (p + k))
    cases hq : digB (bt l (p + k)) with
    | true =>
      rw [hq] at H1
      gi_wp2_with (refine ⟨trivial, ?_⟩; gi_at_call 69; refine (callsIn_wide.2 (H1.out _)).mono ?_; rintro e w' ⟨rfl, rfl⟩)
      refine ⟨Fixed.refl _ _ _, Lib.hid (fun j hj => ?_), i1, i2, i3⟩
      by_cases hjk : j = k
      · subst hjk; exact hq
      · exact i0.out j (by omega)
    | false =>
      rw [hq] at H1
      gi_wp2_with (refine ⟨trivial, ?_⟩; gi_at_call 69; refine (callsIn_wide.2 (H1.out _)).mono ?_; rintro e w' ⟨rfl, rfl⟩)
      exact ⟨⟨(Below.refl _ _).setCell (p := ⟨g + 1, 0, none⟩) (by simp) _, fun j hj _ => Below.heap_setCell _ _ _ _ (by simp; omega)⟩, rfl, i0, hq, i2.set_ 0 _, i3.setCell (p := ⟨g + 1, 0, none⟩) (by simp) _⟩
  case done =>
    rintro D W hD ⟨i0, i1, i2, i3⟩ hK
    have e1 : W.cell? ⟨g + 1, 0, none⟩ = some (.int .i64 0) := i2.cell 0
    have f1 : W.frozen? ⟨g + 1, 0, none⟩ = false := i2.frozen 0
    have hR := HS.out (l.length - p) (by omega) i0.out (.inl (by omega))
    gi_wp2
    have r1 : Blk (W.setCell ⟨g + 1, 0, none⟩ (.int .i64 (l.length : Int))) (g + 1) 3 #[.int .i64 (l.length : Int)] := i2.set_ 0 _
    have r2 : Below g w (W.setCell ⟨g + 1, 0, none⟩ (.int .i64 (l.length : Int))) := i3.setCell (p := ⟨g + 1, 0, none⟩) (by simp) _
    have r3 : (W.setCell ⟨g + 1, 0, none⟩ (.int .i64 (l.length : Int))).heap[D]? = some (.deferred (some [])) := (Below.heap_setCell _ _ _ _ (by simp; omega)).trans hK
    generalize W.setCell ⟨g + 1, 0, none⟩ (.int .i64 (l.length : Int)) = W5 at *
    refine ⟨by simp, .inl ⟨_, _, rfl, run_takeDeferred r3, ?_⟩⟩
    exact ⟨_, resT rfl _ _ (g + 1) _ rfl rfl (r1.putR r3 rfl _), by rw [hR, show p + (l.length - p) = l.length by omega], by rw [hg]; exact r2.trans (below_shut _ (.deferred none) (by omega))⟩
  case stop =>
    rintro D c k W hD hk ⟨rfl, i0, hq, i2, i3⟩ hK
    have hR := HS.out k (by omega) i0.out (.inr hq)
    gi_wp2
    refine ⟨by simp, .inl ⟨_, _, rfl, run_takeDeferred hK, ?_⟩⟩
    exact ⟨_, resT rfl _ _ (g + 1) _ rfl rfl (i2.putR hK rfl _), by rw [hR], by rw [hg]; exact i3.trans (below_shut _ (.deferred none) (by omega))⟩

set_option maxRecDepth 100000 in
set_option maxHeartbeats 4000000 in
theorem run47_any (l : List UInt8) (p : Nat) (hl : l.length ≤ 1000000) (hp : p ≤ l.length) (w : World) :
    Calls Tryd.prog 46 #[tx l, .int .i64 (p : Int), .func (.func 47) #[] #[]] w fun e w' => e = .returned (.int .i64 (runE plnB l p : Nat)) ∧ Below w.heap.size w w' := by
  have HF := Lib.hid (fun k W => plain_any (bt l k) (bt0 l k) (bt1 l k) W)
  have HS := Lib.hid (fun k (h : p + k ≤ l.length) (ha : ∀ j, j < k → plnB (bt l (p + j)) = true) he => runE_at (q := plnB) h ha he)
  generalize runE plnB l p = R at *
  refine (callsIn_wide (n := 9)).1 ?_
  refine callsIn_of_wp_marks Tryd.func46 rfl trivial ?_ rfl
  simp only [Tryd.ntmps46, List.size_toArray, List.length_cons, List.length_nil, Nat.reduceAdd, Nat.reduceSub, Array.replicate_succ, Array.replicate_zero, List.push_toArray, List.append_toArray, List.nil_append, List.cons_append]
  gi_wp2_with (refine ⟨trivial, ?_⟩; gi_at_call 65; refine (callsIn_wide.2 (from_any _ _ _)).mono ?_; rintro e w' ⟨rfl, rfl⟩)
  obtain ⟨g, hg⟩ : ∃ g, w.heap.size = g := ⟨_, rfl⟩
  obtain ⟨W0, hW0⟩ : ∃ W0, ((((w.alloc (.cells #[.func (.func 47) #[] #[]] 75)).alloc (.cells #[.int .i64 0] 3)).alloc (.cells #[tx l] 9)).alloc (.cells #[.int .i64 (p : Int)] 3)) = W0 := ⟨_, rfl⟩
  have b0 : Blk W0 g 75 #[.func (.func 47) #[] #[]] := by rw [← hW0, ← hg]; exact (((Blk.new _ _ _).alloc _).alloc _).alloc _
  have b1 : Blk W0 (g + 1) 3 #[.int .i64 0] := by rw [← hW0, ← hg]; exact ((Blk.fresh (by simp)).alloc _).alloc _
  have b2 : Blk W0 (g + 2) 9 #[tx l] := by rw [← hW0, ← hg]; exact (Blk.fresh (by simp)).alloc _
  have b3 : Blk W0 (g + 2 + 1) 3 #[.int .i64 (p : Int)] := by rw [← hW0, ← hg]; exact Blk.fresh (by simp)
  have hb0 : Below g w W0 := by rw [← hW0, ← hg]; exact ((((Below.refl _ _).alloc (Nat.le_refl _) _).alloc (by simp) _).alloc (by simp; omega) _).alloc (by simp; omega) _
  have hs0 : W0.heap.size = g + 4 := by rw [← hW0, ← hg]; simp
  rw [hW0]
  rw [hg]
  clear hW0
  refine wpIn_rangeFunc_mem rfl (by omega) (gf := 79) (lb := #[.pointer (some ⟨g + 2 + 1, 0, none⟩), .pointer (some ⟨g + 2, 0, none⟩)]) rfl trivial (enters_of Tryd.func79 (by kernel_rfl) rfl)
    (from1_mem 8 (by omega) l p hl (by omega) g (g + 2) W0 (by omega) b2 b3) (by omega) (by omega) (fun _ => rfl)
    (fun k W => Hid (∀ j, j < k → plnB (bt l (p + j)) = true) ∧ Blk W g 75 #[.func (.func 47) #[] #[]] ∧ Blk W (g + 1) 3 #[.int .i64 0] ∧ Below g w W)
    (fun c k W => c = .ret ∧ Hid (∀ j, j < k → plnB (bt l (p + j)) = true) ∧ plnB (bt l (p + k)) = false ∧ Blk W (g + 1) 3 #[.int .i64 ((p + k : Nat) : Int)] ∧ Below g w W)
    (fun k X Y hs hb => ⟨hs.1, hs.2.1.below hb (by omega), hs.2.2.1.below hb (by omega), hs.2.2.2.trans (hb.mono (by omega))⟩)
    (fun _ _ _ _ hs hb => ⟨hs.1, hs.2.1, hs.2.2.1, hs.2.2.2.1.below hb (by omega), hs.2.2.2.2.trans (hb.mono (by omega))⟩) ⟨Lib.hid (fun j hj => absurd hj (by omega)), b0, b1, hb0⟩
    (fun k a _ => a = { tmps := #[tx l, .int .i64 (p : Int), .func (.func 47) #[] #[], undef, undef, .pointer (some ⟨g, 0, none⟩), .pointer (some ⟨g + 1, 0, none⟩), .int .i64 ((p + k : Nat) : Int), .int .u8 (bt l (p + k)), tx l, .int .i64 (p : Int), .func (.func 79) #[] #[.pointer (some ⟨g + 1 + 1 + 1, 0, none⟩), .pointer (some ⟨g + 1 + 1, 0, none⟩)], .int .i64 ((p + k : Nat) : Int), .int .u8 (bt l (p + k)), undef, undef, undef, undef, undef, undef, undef], defers := [] })
    (fun k a X r o o' hs hr ho => hs) ?assign ?body ?done ?stop
  case assign =>
    intro lb k W hI hsz hk
    simp only [byE]
    gi_wp2
    exact ⟨Fixed.refl _ _ _, hI, rfl⟩
  case body =>
    rintro lb k a1 W ⟨i0, i1, i2, i3⟩ rfl hsz hk
    have e0 : W.cell? ⟨g, 0, none⟩ = some (.func (.func 47) #[] #[]) := i1.cell 0
    have e1 : W.cell? ⟨g + 1, 0, none⟩ = some (.int .i64 0) := i2.cell 0
    have f1 : W.frozen? ⟨g + 1, 0, none⟩ = false := i2.frozen 0
    have H1 := Lib.hid (HF.out (p + k))
    cases hq : plnB (bt l (p + k)) with
    | true =>
      rw [hq] at H1
      gi_wp2_with (refine ⟨trivial, ?_⟩; gi_at_call 47; refine (callsIn_wide.2 (H1.out _)).mono ?_; rintro e w' ⟨rfl, rfl⟩)
      refine ⟨Fixed.refl _ _ _, Lib.hid (fun j hj => ?_), i1, i2, i3⟩
      by_cases hjk : j = k
      · subst hjk; exact hq
      · exact i0.out j (by omega)
    | false =>
      rw [hq] at H1
      gi_wp2_with (refine ⟨trivial, ?_⟩; gi_at_call 47; refine (callsIn_wide.2 (H1.out _)).mono ?_; rintro e w' ⟨rfl, rfl⟩)
      exact ⟨⟨(Below.refl _ _).setCell (p := ⟨g + 1, 0, none⟩) (by simp) _, fun j hj _ => Below.heap_setCell _ _ _ _ (by simp; omega)⟩, rfl, i0, hq, i2.set_ 0 _, i3.setCell (p := ⟨g + 1, 0, none⟩) (by simp) _⟩
  case done =>
    rintro D W hD ⟨i0, i1, i2, i3⟩ hK
    have e1 : W.cell? ⟨g + 1, 0, none⟩ = some (.int .i64 0) := i2.cell 0
    have f1 : W.frozen? ⟨g + 1, 0, none⟩ = false := i2.frozen 0
    have hR := HS.out (l.length - p) (by omega) i0.out (.inl (by omega))
    gi_wp2
    have r1 : Blk (W.setCell ⟨g + 1, 0, none⟩ (.int .i64 (l.length : Int))) (g + 1) 3 #[.int .i64 (l.length : Int)] := i2.set_ 0 _
    have r2 : Below g w (W.setCell ⟨g + 1, 0, none⟩ (.int .i64 (l.length : Int))) := i3.setCell (p := ⟨g + 1, 0, none⟩) (by simp) _
    have r3 : (W.setCell ⟨g + 1, 0, none⟩ (.int .i64 (l.length : Int))).heap[D]? = some (.deferred (some [])) := (Below.heap_setCell _ _ _ _ (by simp; omega)).trans hK
    generalize W.setCell ⟨g + 1, 0, none⟩ (.int .i64 (l.length : Int)) = W5 at *
    refine ⟨by simp, .inl ⟨_, _, rfl, run_takeDeferred r3, ?_⟩⟩
    exact ⟨_, resT rfl _ _ (g + 1) _ rfl rfl (r1.putR r3 rfl _), by rw [hR, show p + (l.length - p) = l.length by omega], by rw [hg]; exact r2.trans (below_shut _ (.deferred none) (by omega))⟩
  case stop =>
    rintro D c k W hD hk ⟨rfl, i0, hq, i2, i3⟩ hK
    have hR := HS.out k (by omega) i0.out (.inr hq)
    gi_wp2
    refine ⟨by simp, .inl ⟨_, _, rfl, run_takeDeferred hK, ?_⟩⟩
    exact ⟨_, resT rfl _ _ (g + 1) _ rfl rfl (i2.putR hK rfl _), by rw [hR], by rw [hg]; exact i3.trans (below_shut _ (.deferred none) (by omega))⟩

end Go.Proofs.YtblcfjliabeaiaaDoor
