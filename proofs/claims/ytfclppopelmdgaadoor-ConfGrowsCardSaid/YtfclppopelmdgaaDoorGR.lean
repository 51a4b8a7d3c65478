/-
  What ConfGrows calls: far; slices.Clone, Reverse of lists of how far.
-/
import Derived.Test.YtfclppopelmdgaaDoorGP
import Derived.Test.YtfclppopelmdgaaDoorLE
import Derived.Deep.MidRow
import Derived.WalkSpells
namespace Go.Proofs.YtfclppopelmdgaaDoor
open Go.RowKit

theorem farM_take {l : List (Int × Int)} {k : Nat} (a : Int) (h : k < l.length) : farM (l.take (k + 1)) a = farM (l.take k) a ++ if a ≤ (l.getD k (0, 0)).2 then [(l.getD k (0, 0)).1] else [] := by
  unfold farM
  rw [List.take_succ_eq_append_getElem h, List.filter_append, List.map_append]
  have e : l.getD k (0, 0) = l[k] := by simp [List.getD, h]
  rw [e]
  by_cases hc : a ≤ l[k].2 <;> simp [hc]

set_option maxRecDepth 100000 in
set_option maxHeartbeats 4000000 in
theorem further_any (a : Int) (p : Nat) (A : Option Addr) (n c B : Nat) (l : List (Int × Int)) (w : World) (hp : Blk w p 37 #[.slice A n c]) (h : Mt w B A n l) (hn : n ≤ 1000) (hB : B ≤ w.heap.size) :
    Calls Tryd.prog 36 #[.int .u64 a, .pointer (some ⟨p, 0, none⟩)] w fun e w' => ∃ A5 n5 c5, e = .returned (.slice A5 n5 c5) ∧ Ios w' w.heap.size A5 n5 c5 (farM l a) ∧ n5 ≤ 1000 ∧ Below w.heap.size w w' := by
  have HL := Lib.hid h.1
  have H := Lib.hid (fun W (hW : Below w.heap.size w W) => (h.below (hW.mono hB)).2.2)
  have E1 : Hid (farM (l.take n) a = farM l a) := Lib.hid (by rw [List.take_of_length_le (by rw [h.1]; omega)])
  have FT := Lib.hid (fun k (hk : k < l.length) => farM_take a hk)
  have x0 : w.cell? ⟨p, 0, none⟩ = some (.slice A n c) := hp.cell 0
  clear h hp
  obtain ⟨FS, hFS⟩ : ∃ FS : Nat → List Int, FS = fun k => farM (l.take k) a := ⟨_, rfl⟩
  have E0 : Hid (FS 0 = []) := Lib.hid (by rw [hFS]; rfl)
  have E1' : Hid (FS n = farM l a) := Lib.hid (by rw [hFS]; exact E1.out)
  have E2 : Hid (∀ k, k < n → FS (k + 1) = FS k ++ if a ≤ (l.getD k (0, 0)).2 then [(l.getD k (0, 0)).1] else []) := Lib.hid (fun k hk => by rw [hFS]; exact FT.out k (by rw [HL.out]; exact hk))
  clear hFS FT E1
  go_enter Tryd.func36, Tryd.ntmps36
  go_wp2
  go_loopw [3, 8] (fun s i wr => ∃ (k q : Nat) (A3 : Option Addr) (c3 : Nat), k ≤ n ∧ i = .int .i64 (k : Int) ∧ s = .slice A3 q c3 ∧ q ≤ k ∧ Hid (Ios wr w.heap.size A3 q c3 (FS k)) ∧ Hid (Below w.heap.size w wr)) (fun _ i _ => n - (intOf i).toNat)
  case atStart => exact ⟨0, 0, none, 0, Nat.zero_le _, rfl, rfl, Nat.zero_le _, Lib.hid (by rw [E0.out]; exact World.ownsRow_nil _ _ _ _), Lib.hid (Below.refl _ _)⟩
  case round =>
    obtain ⟨k, q, A3, c3, hk, rfl, rfl, hq, IO, IB⟩ := hrel
    by_cases hlt : k < n
    · obtain ⟨b, o, rfl, hb, hc⟩ := H.out _ IB.out (by omega)
      obtain ⟨c1, c2⟩ := hc k hlt
      have k0 : (0 : Int) ≤ (k : Int) := by omega
      have EU := Lib.hid (E2.out k hlt)
      have WS : Hid (w.heap.size ≤ wr.heap.size) := Lib.hid IB.out.size
      clear hc
      generalize (l.getD k (0, 0)).1 = x at *
      generalize (l.getD k (0, 0)).2 = y at *
      by_cases hy : a ≤ y
      · have SE : Hid (FS (k + 1) = FS k ++ [x]) := Lib.hid (by rw [EU.out, if_pos hy])
        have hy' : decide (a ≤ y) = true := decide_eq_true hy
        have qq : q + 1 ≤ 1000000 := by omega
        clear EU
        have OA : Hid (Ios ((wr.alloc (.cells #[.int .i64 x, .int .u64 y] 59)).alloc (.cells #[.int .i64 x] 3)) w.heap.size A3 q c3 (FS k)) := Lib.hid (IO.out.below (((Below.refl _ _).alloc (Nat.le_refl _) _).alloc (by simp) _))
        have LT : Hid (Is ((wr.alloc (.cells #[.int .i64 x, .int .u64 y] 59)).alloc (.cells #[.int .i64 x] 3)) (wr.heap.size + 1 + 1) (some ⟨wr.heap.size + 1, 0, none⟩) 1 [x]) := Lib.hid (by
          have := Is.lit (w := wr.alloc (.cells #[.int .i64 x, .int .u64 y] 59)) (n := 1) (cs := #[.int .i64 x]) (xs := [x]) rfl rfl
          simpa using this)
        go_wp2_with (at_builtin; refine append_is rfl (.tmp 16) (.tmp 19) rfl w.heap.size A3 q c3 (FS k) rfl OA.out (wr.heap.size + 1 + 1) (some ⟨wr.heap.size + 1, 0, none⟩) 1 1 [x] rfl LT.out (fun e => by cases e) qq (by have := WS.out; simp; omega) ?_; intro A5 c5 w5 ho5 hg5; have O5 := Lib.hid ho5; have G5 := Lib.hid hg5; clear ho5 hg5)
        go_roundw
        case rel => exact ⟨k + 1, q + 1, A5, c5, by omega, by go_num, rfl, by omega, Lib.hid (by rw [SE.out]; exact O5.out), Lib.hid (((IB.out.alloc WS.out _).alloc (by have := WS.out; simp; omega) _).grown G5.out (by have := WS.out; simp; omega) (fun j hj => (OA.out.lt _ hj).1))⟩
        case measure => simp [intOf]; omega
      · have SE : Hid (FS (k + 1) = FS k) := Lib.hid (by rw [EU.out, if_neg hy, List.append_nil])
        have hy' : decide (a ≤ y) = false := decide_eq_false hy
        clear EU
        go_wp2
        go_roundw
        case rel => exact ⟨k + 1, q, A3, c3, by omega, by go_num, rfl, by omega, Lib.hid (by rw [SE.out]; exact IO.out.below ((Below.refl _ _).alloc (Nat.le_refl _) _)), Lib.hid (IB.out.alloc WS.out _)⟩
        case measure => simp [intOf]; omega
    · obtain rfl : k = n := by omega
      go_wp2
      go_ret
      exact ⟨A3, q, c3, rfl, by rw [← E1'.out]; exact IO.out, by omega, IB.out⟩

set_option maxHeartbeats 1000000 in
theorem mclone_any (A : Option Addr) (n c B : Nat) (l : List (Int × Int)) (w : World) (h : Mt w B A n l) (hnil : A = none → c = 0) (hn : n ≤ 1000) (hB : B ≤ w.heap.size) :
    Calls Tryd.prog 37 #[.slice A n c] w fun e w' => ∃ A5 c5, e = .returned (.slice A5 n c5) ∧ Mos w' w.heap.size A5 n c5 l ∧ Below w.heap.size w w' := by
  have q37 : ∀ (w : World) (a : Option Addr) (n c n' c' : Nat), (binOp .eql 37 (.slice a n c) (.slice none n' c')).run Tryd.prog w = .ok (.bool a.isNone) w := fun w a n c n' c' => Lib.run_eql_slice_nil w _ _ a n c n' c' Tryd.underlying37
  cases A with
  | none =>
    obtain ⟨rfl, rfl⟩ := h.zero
    obtain rfl := hnil rfl
    go_enter Tryd.func37, Tryd.ntmps37
    go_wp2
    go_ret
    exact ⟨none, 0, rfl, Mos.none_ _ _, Below.refl _ _⟩
  | some ad =>
    have OE := Lib.hid (Mos.made w)
    have hr := Lib.hid (h.below (w' := w.alloc (.cells #[] 59)) ((Below.refl _ _).alloc hB _))
    clear h hnil
    go_enter Tryd.func37, Tryd.ntmps37
    go_wp2_with (at_builtin; refine append_mt rfl (.tmp 5) (.tmp 6) rfl w.heap.size (some ⟨w.heap.size, 0, none⟩) 0 0 [] rfl OE.out B (some ad) n c l rfl hr.out (fun e => by cases e) (by omega) (by simp) ?_; intro A2 c2 w2 ho2 hg2)
    go_ret
    rw [Nat.zero_add, List.nil_append] at ho2
    exact ⟨A2, c2, rfl, ho2, ((Below.refl _ w).alloc (Nat.le_refl _) _).grown hg2 (by simp) (by intro k hk; simp [Value.ownBlock] at hk; omega)⟩

theorem mrow_set : ∀ (X : List (Int × Int)) (i : Nat) (x : Int × Int), mrow (X.set i x) = ((mrow X).set (i * 2) (.int .i64 x.1)).set (i * 2 + 1) (.int .u64 x.2)
  | [], i, x => by simp [mrow]
  | y :: r, 0, x => rfl
  | y :: r, i + 1, x => by
    rw [show (i + 1) * 2 = i * 2 + 1 + 1 by omega]
    simp only [List.set_cons_succ, mrow]
    rw [mrow_set r i x]
section
variable {w : World} {base n c g i : Nat} {X : List (Int × Int)}
theorem Mos.len (h : Mos w base (some ⟨g, 0, none⟩) n c X) : X.length = n := by have := h.1.1; rw [mrow_len] at this; omega
theorem Mos.rng (h : Mos w base (some ⟨g, 0, none⟩) n c X) (hi : i < n) : w.rangeAt g (i * 2) [.int .i64 (X.getD i (0, 0)).1, .int .u64 (X.getD i (0, 0)).2] := by
  have hg := mrow_get X i (by rw [h.len]; exact hi)
  intro j v hj
  match j, hj with
  | 0, hj => rw [World.ownsRow.cellAt h.1 _ (by omega), Nat.add_zero, hg.1]; exact hj
  | 1, hj => rw [World.ownsRow.cellAt h.1 _ (by omega), hg.2]; exact hj
  | j + 2, hj => simp at hj
theorem Mos.there (h : Mos w base (some ⟨g, 0, none⟩) n c X) (hi : i < n) : w.there g (i * 2) 2 := by
  intro j hj
  refine ⟨?_, World.ownsRow.frozenAt h.1 _⟩
  rw [World.ownsRow.cellAt h.1 _ (by omega)]
  have := h.1.1
  simp; omega
theorem Mos.put (h : Mos w base (some ⟨g, 0, none⟩) n c X) (hi : i < n) (x : Int × Int) (hx : 0 ≤ x.2 ∧ x.2 ≤ 18446744073709551615) : Mos (w.setCells g (i * 2) [.int .i64 x.1, .int .u64 x.2]) base (some ⟨g, 0, none⟩) n c (X.set i x) := by
  refine ⟨⟨by have := h.1.1; rw [mrow_len] at this ⊢; simpa using this, ?_⟩, fun j => ?_⟩
  · rcases h.1.2 with ⟨hv, _⟩ | ⟨g', cap, cur, hv, hbs, hh, hnc, hcm, hcs, ht⟩
    · cases hv
    · injection hv with h1 h2 h3
      injection h1 with h1
      injection h1 with h1
      subst h1 h3
      refine .inr ⟨g, _, lay cur (i * 2) [.int .i64 x.1, .int .u64 x.2], rfl, hbs, heap_setCells_same _ w g _ cur 59 hh, hnc, hcm, by rw [lay_size]; exact hcs, ?_⟩
      rw [mrow_set, ← ht]
      simp only [lay, Array.toList_setIfInBounds, List.take_set]
  · by_cases hj : j = i
    · subst hj
      have : (X.set j x).getD j (0, 0) = x := by simp [List.getD, show j < X.length by rw [h.len]; exact hi]
      rw [this]
      exact hx
    · have : (X.set i x).getD j (0, 0) = X.getD j (0, 0) := by simp [List.getD, show ¬ i = j from fun e => hj e.symm]
      rw [this]
      exact h.2 j
theorem Mos.bas (h : Mos w base (some ⟨g, 0, none⟩) n c X) : base ≤ g := by
  rcases h.1.2 with ⟨hv, _⟩ | ⟨g', cap, cur, hv, hbs, _⟩
  · cases hv
  · injection hv with h1
    injection h1 with h1
    injection h1 with h1
    omega
end
theorem set_sub {X l : List (Int × Int)} (h : ∀ x ∈ X, x ∈ l) {i : Nat} {y : Int × Int} (hy : y ∈ l) : ∀ x ∈ X.set i y, x ∈ l := fun x hx => (List.mem_or_eq_of_mem_set hx).elim (h x) (fun e => e ▸ hy)
theorem get_mem {X l : List (Int × Int)} (h : ∀ x ∈ X, x ∈ l) {i : Nat} (hi : i < X.length) : X.getD i (0, 0) ∈ l := by
  have : X.getD i (0, 0) = X[i] := by simp [List.getD, hi]
  rw [this]
  exact h _ (List.getElem_mem _)
theorem Tryd.i59 : (Tryd.prog.info? 59).map (·.size) = some 2 := by kernel_rfl
theorem wp_store_two {P : Program} {o : Oper} {a : Act} {K : Act → World → Prop} {Q : Exit → Act → World → Prop} {w : World} (hd : o.dst = none) (ty : TypeId) (x y : Operand) (ho : o.op = .store ty x y) (g off : Nat) (u v : Value)
    (hx : a.eval x = .pointer (some ⟨g, off, none⟩)) (hy : a.eval y = .agg #[u, v]) (ht : w.there g off 2) (hi : (P.info? ty).map (·.size) = some 2) (hu : u.oneCell' = true) (hv : v.oneCell' = true) (h : K a (w.setCells g off [u, v])) : Oper.wp P o a w K Q :=
  wp_store_mid ty x y ho g off #[u, v] hx hy ht hi (by simp [hu, hv]) (by rw [hd]; exact h)
theorem wp_load_two {P : Program} {o : Oper} {a : Act} {K : Act → World → Prop} {Q : Exit → Act → World → Prop} {w : World} (d : Tmp) (hd : o.dst = some d) (ty : TypeId) (x : Operand) (ho : o.op = .load ty x) (g off : Nat) (u v : Value) (td : TypeDesc)
    (hx : a.eval x = .pointer (some ⟨g, off, none⟩)) (hc : w.rangeAt g off [u, v]) (hu : P.underlying ty = some td) (hr : td.isRow = true) (hi : (P.info? ty).map (·.size) = some 2) (h : K (a.put (some d) (.agg #[u, v])) w) : Oper.wp P o a w K Q :=
  wp_load_mid ty x ho g off hx [u, v] td hc hu hr hi (by rw [hd]; exact h)
/-- What Reverse leaves: the same pairs, in whatever order. -/
def Rvd (base : Nat) (g n c : Nat) (l : List (Int × Int)) (w w' : World) : Prop := ∃ X, Mos w' base (some ⟨g, 0, none⟩) n c X ∧ (∀ x ∈ X, x ∈ l) ∧ Below base w w'

set_option maxRecDepth 100000 in
set_option maxHeartbeats 4000000 in
theorem reverse_any (base g n c : Nat) (l : List (Int × Int)) (w : World) (h : Mos w base (some ⟨g, 0, none⟩) n c l) (hn : n ≤ 1000) (hp : 0 < n) :
    Calls Tryd.prog 38 #[.slice (some ⟨g, 0, none⟩) n c] w fun e w' => e = .returned (.tuple #[]) ∧ Rvd base g n c l w w' := by
  have R0 : Hid (Rvd base g n c l w w) := Lib.hid ⟨l, h, fun x hx => hx, Below.refl _ _⟩
  have HB := Lib.hid h.bas
  clear h
  go_enter Tryd.func38, Tryd.ntmps38
  go_wp2
  go_loopw [2, 3] (fun i j wr => ∃ k m : Nat, i = .int .i64 (k : Int) ∧ j = .int .i64 (m : Int) ∧ k + m + 1 = n ∧ Hid (Rvd base g n c l w wr)) (fun i j _ => (intOf j - intOf i).toNat)
  case atStart => exact ⟨0, n - 1, rfl, by refine congrArg (Value.int .i64) ?_; omega, by omega, R0⟩
  case round =>
    obtain ⟨k, m, rfl, rfl, hkm, IR⟩ := hrel
    have k0 : (0 : Int) ≤ (k : Int) := by omega
    have m0 : (0 : Int) ≤ (m : Int) := by omega
    have kn : (k : Int) < (n : Int) := by omega
    have mn : (m : Int) < (n : Int) := by omega
    by_cases hlt : k < m
    · obtain ⟨X, hX, hXl, hXb⟩ := IR.out
      have kn2 : k < n := by omega
      have mn2 : m < n := by omega
      have M0 : Hid (Mos wr.drew base (some ⟨g, 0, none⟩) n c X) := Lib.hid (hX.below (Below.refl _ _).drew)
      have HB0 : Hid (Below base w wr.drew) := Lib.hid hXb.drew
      have hx1 := Lib.hid (hX.2 k)
      have hx2 := Lib.hid (hX.2 m)
      have me1 := Lib.hid (get_mem hXl (i := k) (by rw [hX.len]; exact kn2))
      have me2 := Lib.hid (get_mem hXl (i := m) (by rw [hX.len]; exact mn2))
      have SU := Lib.hid hXl
      have hlt' : decide ((k : Int) < (m : Int)) = true := by rw [decide_eq_true_eq]; omega
      clear IR hX hXl hXb
      go_upto_region 3 with (fail)
      refine wp_region_noPanic ?_
      refine wp_region_held_drew (S := fun w' => True) (by kernel_rfl) trivial (fun hHeld => ?_)
      refine take_d (i := 0) (d := 14) (v := ?z1) rfl rfl (by kernel_rfl) (by kernel_rfl) (by kernel_rfl) (fun _ _ _ h => h) (Or.inl ⟨by kernel_rfl, ?z1h⟩) hHeld ?z1n
      case z1h => (intro w hSw; (try dsimp only at hSw); go_split_ands; go_simp; (try exact rfl))
      try simp only [Act.put, List.setIfInBounds_toArray, List.set_cons_zero, List.set_cons_succ]
      refine take_d (i := 1) (d := 15) (v := ?z2) rfl rfl (by kernel_rfl) (by kernel_rfl) (by kernel_rfl) (fun _ _ _ h => h) (Or.inl ⟨by kernel_rfl, ?z2h⟩) hHeld ?z2n
      case z2h => (intro w hSw; (try dsimp only at hSw); go_split_ands; go_simp; (try exact rfl))
      try simp only [Act.put, List.setIfInBounds_toArray, List.set_cons_zero, List.set_cons_succ]
      refine take_d (i := 2) (d := 16) (v := ?z3) rfl rfl (by kernel_rfl) (by kernel_rfl) (by kernel_rfl) (fun _ _ _ h => h) (Or.inl ⟨by kernel_rfl, ?z3h⟩) hHeld ?z3n
      case z3h => (intro w hSw; (try dsimp only at hSw); go_split_ands; go_simp; (try exact rfl))
      try simp only [Act.put, List.setIfInBounds_toArray, List.set_cons_zero, List.set_cons_succ]
      refine take_d (i := 3) (d := 17) (v := ?z4) rfl rfl (by kernel_rfl) (by kernel_rfl) (by kernel_rfl) (fun _ _ _ h => h) (Or.inl ⟨by kernel_rfl, ?z4h⟩) hHeld ?z4n
      case z4h => (intro w hSw; (try dsimp only at hSw); go_split_ands; go_simp; (try exact rfl))
      try simp only [Act.put, List.setIfInBounds_toArray, List.set_cons_zero, List.set_cons_succ]
      refine take_d (i := 4) (d := 18) (v := ?z5) rfl rfl (by kernel_rfl) (by kernel_rfl) (by kernel_rfl) (fun _ _ _ h => h) (Or.inl ⟨by kernel_rfl, ?z5h⟩) hHeld ?z5n
      case z5h => (intro w hSw; (try dsimp only at hSw); go_split_ands; go_simp; (try exact rfl))
      try simp only [Act.put, List.setIfInBounds_toArray, List.set_cons_zero, List.set_cons_succ]
      refine take_d (i := 5) (d := 19) (v := ?z6) rfl rfl (by kernel_rfl) (by kernel_rfl) (by kernel_rfl) (fun _ _ _ h => h) (Or.inl ⟨by kernel_rfl, ?z6h⟩) hHeld ?z6n
      case z6h => (intro w hSw; (try dsimp only at hSw); go_split_ands; go_simp; (try exact rfl))
      try simp only [Act.put, List.setIfInBounds_toArray, List.set_cons_zero, List.set_cons_succ]
      refine take_d (i := 6) (d := 20) (v := .pointer (some ⟨g, m * 2, none⟩)) rfl rfl (by kernel_rfl) (by kernel_rfl) (by kernel_rfl) (fun _ _ _ h => h) (Or.inl ⟨by kernel_rfl, ?z7h⟩) hHeld ?_
      case z7h => (intro w hSw; (try dsimp only at hSw); go_split_ands; go_simp)
      try simp only [Act.put, List.setIfInBounds_toArray, List.set_cons_zero, List.set_cons_succ]
      refine take_d (i := 8) (d := 22) (v := ?z8) rfl rfl (by kernel_rfl) (by kernel_rfl) (by kernel_rfl) (fun _ _ _ h => h) (Or.inl ⟨by kernel_rfl, ?z8h⟩) hHeld ?z8n
      case z8h => (intro w hSw; (try dsimp only at hSw); go_split_ands; go_simp; (try exact rfl))
      try simp only [Act.put, List.setIfInBounds_toArray, List.set_cons_zero, List.set_cons_succ]
      refine take_d (i := 9) (d := 23) (v := ?z9) rfl rfl (by kernel_rfl) (by kernel_rfl) (by kernel_rfl) (fun _ _ _ h => h) (Or.inl ⟨by kernel_rfl, ?z9h⟩) hHeld ?z9n
      case z9h => (intro w hSw; (try dsimp only at hSw); go_split_ands; go_simp; (try exact rfl))
      try simp only [Act.put, List.setIfInBounds_toArray, List.set_cons_zero, List.set_cons_succ]
      refine take_d (i := 10) (d := 24) (v := .pointer (some ⟨g, k * 2, none⟩)) rfl rfl (by kernel_rfl) (by kernel_rfl) (by kernel_rfl) (fun _ _ _ h => h) (Or.inl ⟨by kernel_rfl, ?z10h⟩) hHeld ?_
      case z10h => (intro w hSw; (try dsimp only at hSw); go_split_ands; go_simp)
      try simp only [Act.put, List.setIfInBounds_toArray, List.set_cons_zero, List.set_cons_succ]
      refine wpAnyH_ready (rs := [7, 11]) (by kernel_rfl) (by simp) ?_
      refine AllReadyH.cons rfl (fun K hK => ?_) (AllReadyH.cons rfl (fun K hK => ?_) AllReadyH.nil)
      · skip
        refine wp_load_two 21 rfl 59 _ rfl g (m * 2) (.int .i64 (X.getD m (0, 0)).1) (.int .u64 (X.getD m (0, 0)).2) _ rfl (M0.out.rng mn2) Tryd.underlying59 rfl Tryd.i59 ?_
        refine hK.out _ _ trivial (fun hHeld => ?_)
        clear hK K
        try simp only [Act.put, List.setIfInBounds_toArray, List.set_cons_zero, List.set_cons_succ]
        refine wpAnyH_ready (rs := [11]) (by kernel_rfl) (by simp) ?_
        refine AllReadyH.cons rfl (fun K hK => ?_) AllReadyH.nil
        refine wp_load_two 25 rfl 59 _ rfl g (k * 2) (.int .i64 (X.getD k (0, 0)).1) (.int .u64 (X.getD k (0, 0)).2) _ rfl (M0.out.rng kn2) Tryd.underlying59 rfl Tryd.i59 ?_
        refine hK.out _ _ trivial (fun hHeld => ?_)
        clear hK K
        try simp only [Act.put, List.setIfInBounds_toArray, List.set_cons_zero, List.set_cons_succ]
        refine take_d (i := 12) (d := 26) (v := .pointer (some ⟨g, k * 2, none⟩)) rfl rfl (by kernel_rfl) (by kernel_rfl) (by kernel_rfl) (fun _ _ _ h => h) (Or.inl ⟨by kernel_rfl, ?z11h⟩) hHeld ?_
        case z11h => (intro w hSw; (try dsimp only at hSw); go_split_ands; go_simp)
        try simp only [Act.put, List.setIfInBounds_toArray, List.set_cons_zero, List.set_cons_succ]
        refine wpAnyH_ready (rs := [13]) (by kernel_rfl) (by simp) ?_
        refine AllReadyH.cons rfl (fun K hK => ?_) AllReadyH.nil
        refine wp_store_two rfl 59 _ _ rfl g (k * 2) (.int .i64 (X.getD m (0, 0)).1) (.int .u64 (X.getD m (0, 0)).2) rfl rfl (M0.out.there kn2) Tryd.i59 rfl rfl ?_
        have M1 := Lib.hid (M0.out.put kn2 (X.getD m (0, 0)) hx2.out)
        have HB1 := Lib.hid (Below.setCells HB0.out HB.out (k * 2) [.int .i64 (X.getD m (0, 0)).1, .int .u64 (X.getD m (0, 0)).2])
        try simp only [List.toList_toArray]
        generalize wr.drew.setCells g (k * 2) [.int .i64 (X.getD m (0, 0)).1, .int .u64 (X.getD m (0, 0)).2] = w1 at *
        refine hK.out _ _ trivial (fun hHeld => ?_)
        clear hK K
        try simp only [Act.put, List.setIfInBounds_toArray, List.set_cons_zero, List.set_cons_succ]
        refine take_d (i := 14) (d := 27) (v := .pointer (some ⟨g, m * 2, none⟩)) rfl rfl (by kernel_rfl) (by kernel_rfl) (by kernel_rfl) (fun _ _ _ h => h) (Or.inl ⟨by kernel_rfl, ?z12h⟩) hHeld ?_
        case z12h => (intro w hSw; (try dsimp only at hSw); go_split_ands; go_simp)
        try simp only [Act.put, List.setIfInBounds_toArray, List.set_cons_zero, List.set_cons_succ]
        refine wpAnyH_ready (rs := [15]) (by kernel_rfl) (by simp) ?_
        refine AllReadyH.cons rfl (fun K hK => ?_) AllReadyH.nil
        refine wp_store_two rfl 59 _ _ rfl g (m * 2) (.int .i64 (X.getD k (0, 0)).1) (.int .u64 (X.getD k (0, 0)).2) rfl rfl (M1.out.there mn2) Tryd.i59 rfl rfl ?_
        have M2 := Lib.hid (M1.out.put mn2 (X.getD k (0, 0)) hx1.out)
        have HB2 := Lib.hid (Below.setCells HB1.out HB.out (m * 2) [.int .i64 (X.getD k (0, 0)).1, .int .u64 (X.getD k (0, 0)).2])
        try simp only [List.toList_toArray]
        generalize w1.setCells g (m * 2) [.int .i64 (X.getD k (0, 0)).1, .int .u64 (X.getD k (0, 0)).2] = w2 at *
        refine hK.out _ _ trivial (fun hHeld => ?_)
        clear hK K
        try simp only [Act.put, List.setIfInBounds_toArray, List.set_cons_zero, List.set_cons_succ]
        refine wpAnyH_done (by kernel_rfl) ?_ _
        refine NoPanic.normal ?_
        go_wp2
        go_roundw
        case rel => exact ⟨k + 1, m - 1, by go_num, by refine congrArg (Value.int .i64) ?_; omega, by omega, Lib.hid ⟨_, M2.out, set_sub (set_sub SU.out me2.out) me1.out, HB2.out⟩⟩
        case measure => simp [intOf]; omega
      · skip
        refine wp_load_two 25 rfl 59 _ rfl g (k * 2) (.int .i64 (X.getD k (0, 0)).1) (.int .u64 (X.getD k (0, 0)).2) _ rfl (M0.out.rng kn2) Tryd.underlying59 rfl Tryd.i59 ?_
        refine hK.out _ _ trivial (fun hHeld => ?_)
        clear hK K
        try simp only [Act.put, List.setIfInBounds_toArray, List.set_cons_zero, List.set_cons_succ]
        refine wpAnyH_ready (rs := [7]) (by kernel_rfl) (by simp) ?_
        refine AllReadyH.cons rfl (fun K hK => ?_) AllReadyH.nil
        refine wp_load_two 21 rfl 59 _ rfl g (m * 2) (.int .i64 (X.getD m (0, 0)).1) (.int .u64 (X.getD m (0, 0)).2) _ rfl (M0.out.rng mn2) Tryd.underlying59 rfl Tryd.i59 ?_
        refine hK.out _ _ trivial (fun hHeld => ?_)
        clear hK K
        try simp only [Act.put, List.setIfInBounds_toArray, List.set_cons_zero, List.set_cons_succ]
        refine take_d (i := 12) (d := 26) (v := .pointer (some ⟨g, k * 2, none⟩)) rfl rfl (by kernel_rfl) (by kernel_rfl) (by kernel_rfl) (fun _ _ _ h => h) (Or.inl ⟨by kernel_rfl, ?z13h⟩) hHeld ?_
        case z13h => (intro w hSw; (try dsimp only at hSw); go_split_ands; go_simp)
        try simp only [Act.put, List.setIfInBounds_toArray, List.set_cons_zero, List.set_cons_succ]
        refine wpAnyH_ready (rs := [13]) (by kernel_rfl) (by simp) ?_
        refine AllReadyH.cons rfl (fun K hK => ?_) AllReadyH.nil
        refine wp_store_two rfl 59 _ _ rfl g (k * 2) (.int .i64 (X.getD m (0, 0)).1) (.int .u64 (X.getD m (0, 0)).2) rfl rfl (M0.out.there kn2) Tryd.i59 rfl rfl ?_
        have M1 := Lib.hid (M0.out.put kn2 (X.getD m (0, 0)) hx2.out)
        have HB1 := Lib.hid (Below.setCells HB0.out HB.out (k * 2) [.int .i64 (X.getD m (0, 0)).1, .int .u64 (X.getD m (0, 0)).2])
        try simp only [List.toList_toArray]
        generalize wr.drew.setCells g (k * 2) [.int .i64 (X.getD m (0, 0)).1, .int .u64 (X.getD m (0, 0)).2] = w1 at *
        refine hK.out _ _ trivial (fun hHeld => ?_)
        clear hK K
        try simp only [Act.put, List.setIfInBounds_toArray, List.set_cons_zero, List.set_cons_succ]
        refine take_d (i := 14) (d := 27) (v := .pointer (some ⟨g, m * 2, none⟩)) rfl rfl (by kernel_rfl) (by kernel_rfl) (by kernel_rfl) (fun _ _ _ h => h) (Or.inl ⟨by kernel_rfl, ?z14h⟩) hHeld ?_
        case z14h => (intro w hSw; (try dsimp only at hSw); go_split_ands; go_simp)
        try simp only [Act.put, List.setIfInBounds_toArray, List.set_cons_zero, List.set_cons_succ]
        refine wpAnyH_ready (rs := [15]) (by kernel_rfl) (by simp) ?_
        refine AllReadyH.cons rfl (fun K hK => ?_) AllReadyH.nil
        refine wp_store_two rfl 59 _ _ rfl g (m * 2) (.int .i64 (X.getD k (0, 0)).1) (.int .u64 (X.getD k (0, 0)).2) rfl rfl (M1.out.there mn2) Tryd.i59 rfl rfl ?_
        have M2 := Lib.hid (M1.out.put mn2 (X.getD k (0, 0)) hx1.out)
        have HB2 := Lib.hid (Below.setCells HB1.out HB.out (m * 2) [.int .i64 (X.getD k (0, 0)).1, .int .u64 (X.getD k (0, 0)).2])
        try simp only [List.toList_toArray]
        generalize w1.setCells g (m * 2) [.int .i64 (X.getD k (0, 0)).1, .int .u64 (X.getD k (0, 0)).2] = w2 at *
        refine hK.out _ _ trivial (fun hHeld => ?_)
        clear hK K
        try simp only [Act.put, List.setIfInBounds_toArray, List.set_cons_zero, List.set_cons_succ]
        refine wpAnyH_done (by kernel_rfl) ?_ _
        refine NoPanic.normal ?_
        go_wp2
        go_roundw
        case rel => exact ⟨k + 1, m - 1, by go_num, by refine congrArg (Value.int .i64) ?_; omega, by omega, Lib.hid ⟨_, M2.out, set_sub (set_sub SU.out me2.out) me1.out, HB2.out⟩⟩
        case measure => simp [intOf]; omega
    · have hlt' : decide ((k : Int) < (m : Int)) = false := by rw [decide_eq_false_iff_not]; omega
      go_wp2
      go_end0
      exact ⟨rfl, IR.out⟩
end Go.Proofs.YtfclppopelmdgaaDoor
