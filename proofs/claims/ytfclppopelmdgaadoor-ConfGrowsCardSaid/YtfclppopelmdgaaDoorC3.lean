/-
  The table of rows; the program's conf, groupOf.
-/
import Derived.Test.YtfclppopelmdgaaDoorC2
import Derived.Shelf.RegionOpen
namespace Go.Proofs.YtfclppopelmdgaaDoor
open Go.RowKit

/-- The row of a set, noughts behind it: five cells. -/
def row5 (G : Nat) : List Int := (row G ++ [0, 0, 0, 0, 0]).take 5
def rowsL : List (List Int) := (List.range 32).map row5
def IL (l : List Int) : List Value := l.map (Value.int .i64)
theorem IL.len (l : List Int) : (IL l).length = l.length := by simp [IL]
theorem IL.one (l : List Int) : ∀ v ∈ IL l, v.oneCell' = true := fun v hv => by
  obtain ⟨x, _, rfl⟩ := List.mem_map.1 hv
  rfl
/-- What the table holds. -/
structure Gl (w : World) : Prop where
  r : ∀ G, G < 32 → w.rangeAt 0 (G * 5) (IL (row5 G))
  lt : 1 ≤ w.heap.size
theorem Gl.below {w w' : World} (h : Gl w) {B : Nat} (hb : Below B w w') (h1 : 1 ≤ B) : Gl w' :=
  ⟨fun G hG j v hj => (hb.cell (p := ⟨0, G * 5 + j, none⟩) (by show 0 < B; omega)).trans (h.r G hG j v hj), Nat.le_trans h.lt hb.size⟩
theorem Gl.low {w w' : World} (h : Gl w) (hb : Below w.heap.size w w') : Gl w' := h.below hb h.lt
theorem row5_len : ∀ G : Fin 32, (row5 G.val).length = 5 := by decide +kernel
theorem row5_at : ∀ G : Fin 32, ∀ j : Fin 5, j.val < pop G.val → (row5 G.val)[j.val]? = some ((row G.val).getD j.val 0) := by decide +kernel
theorem pop_le5 : ∀ G : Fin 32, pop G.val ≤ 5 := by decide +kernel

/-- The slice holds these ints in memory of its own, in a block from base on. -/
def Mi (w : World) (base : Nat) (A : Option Addr) (n c : Nat) (xs : List Int) : Prop :=
  xs.length = n ∧ n ≤ c ∧ ((A = none ∧ c = 0) ∨ ∃ g t cur, A = some ⟨g, 0, none⟩ ∧ base ≤ g ∧ Blk w g t cur ∧ c ≤ cur.size ∧ ∀ j, j < n → cur[j]? = some (.int .i64 (xs.getD j 0)))
section
variable {w w' : World} {base base' n c : Nat} {A : Option Addr} {xs : List Int}
theorem Mi.below (h : Mi w base A n c xs) (hb : Below w.heap.size w w') : Mi w' base A n c xs := by
  refine ⟨h.1, h.2.1, ?_⟩
  rcases h.2.2 with hn | ⟨g, t, cur, e, hg, hbl, hc, hx⟩
  · exact .inl hn
  · exact .inr ⟨g, t, cur, e, hg, hbl.below hb hbl.lt, hc, hx⟩
theorem Mi.down (h : Mi w base A n c xs) (hb : base' ≤ base) : Mi w base' A n c xs := by
  refine ⟨h.1, h.2.1, ?_⟩
  rcases h.2.2 with hn | ⟨g, t, cur, e, hg, hbl, hc, hx⟩
  · exact .inl hn
  · exact .inr ⟨g, t, cur, e, by omega, hbl, hc, hx⟩
theorem Mi.setCell (h : Mi w base A n c xs) {p : Addr} (hp : p.block < base) (u : Value) : Mi (w.setCell p u) base A n c xs := by
  refine ⟨h.1, h.2.1, ?_⟩
  rcases h.2.2 with hn | ⟨g, t, cur, e, hg, hbl, hc, hx⟩
  · exact .inl hn
  · exact .inr ⟨g, t, cur, e, hg, hbl.far (by omega) u, hc, hx⟩
theorem Mi.is_ (h : Mi w base A n c xs) : Is w w.heap.size A n xs := by
  refine ⟨h.1, fun hp => ?_⟩
  rcases h.2.2 with ⟨_, hc⟩ | ⟨g, t, cur, e, hg, hbl, hc, hx⟩
  · have := h.2.1; omega
  · exact ⟨g, 0, e, hbl.lt, fun j hj => by rw [Nat.zero_add, hbl.cell]; exact hx j hj⟩
end
theorem Mi.none_ (w : World) (base : Nat) : Mi w base none 0 0 [] := ⟨rfl, Nat.le_refl _, .inl ⟨rfl, rfl⟩⟩

theorem Blk.fresh {w : World} {t : TypeId} {cs : Array Value} {n : Nat} (h : n = w.heap.size) : Blk (w.alloc (.cells cs t)) n t cs := by subst h; exact Blk.new w t cs
/-- What conf answers. -/
def Cfd (w : World) (xs : List Int) (e : Ending) (w' : World) : Prop := ∃ A n c, e = .returned (.agg #[.slice A n c]) ∧ Mi w' w.heap.size A n c xs ∧ n ≤ 5 ∧ Below w.heap.size w w'

theorem Tryd.i27 : (Tryd.prog.info? 27).map (·.size) = some 1 := by kernel_rfl
theorem ret27 {fn : Func} {p : Tmp} (h : fn.results = #[.cell p 27]) (tmps : Array Value) (w : World) (g : Nat) (a : Value)
    (hp : tmps.getD p undef = .pointer (some ⟨g, 0, none⟩)) (hg : Blk w g 27 #[a]) : (results fn tmps).run Tryd.prog w = .ok (.agg #[a]) w :=
  results_cell_row h tmps w g 27 #[a] (0, 0) _ hp hg Tryd.underlying27 rfl Tryd.i27
theorem ret27x {fn : Func} {p u : Tmp} (h : fn.results = #[.cell p 27, .tmp u]) (tmps : Array Value) (w : World) (g : Nat) (a x : Value)
    (hp : tmps.getD p undef = .pointer (some ⟨g, 0, none⟩)) (hg : Blk w g 27 #[a]) (hx : tmps.getD u undef = x) : (results fn tmps).run Tryd.prog w = .ok (.tuple #[.agg #[a], x]) w := by
  rw [ret_cell_tmp h tmps w g 27 #[a] _ hp hg Tryd.underlying27 rfl Tryd.i27, hx]
theorem u27 : Tryd.prog.underlying 27 = some (.struct (Tryd.prog.fieldsOf 27)) := by kernel_rfl
theorem f27 : (Tryd.prog.fieldsOf 27).toList = [⟨"Members", 23, 0, false, "", "", 0⟩] := by kernel_rfl
theorem field27 (w : World) (A : Option Addr) (n c : Nat) : (Instr.field 27 (.agg #[.slice A n c]) 0).run Tryd.prog w = .ok (.slice A n c) w := by
  have e : (Tryd.prog.fieldsOf 27)[0]? = some ⟨"Members", 23, 0, false, "", "", 0⟩ := by rw [← Array.getElem?_toList, f27]; rfl
  unfold Instr.field
  simp only [Sem.run_bind, run_underlying u27, Result.andThen_ok, e]
  simp [asAgg, part, isAgg, run_underlying Tryd.underlying23]
attribute [local go_sem ↓] field27
theorem five_list : ∀ l : List Int, l.length = 5 → ∃ a b c d e, l = [a, b, c, d, e]
  | [a, b, c, d, e], _ => ⟨a, b, c, d, e, rfl⟩
set_option maxHeartbeats 1000000 in
theorem conf_any (G : Nat) (h : G < 32) (w : World) (hG : Gl w) : Calls Tryd.prog 50 #[.int .u8 (G : Int)] w (Cfd w (row G)) := by
  have SA := Lib.hid (size_any G h)
  have AT := Lib.hid (fun j : Fin 5 => row5_at ⟨G, h⟩ j)
  have P5 := Lib.hid (pop_le5 ⟨G, h⟩)
  have p5 : (pop G : Int) ≤ 5 := by have : pop G ≤ 5 := P5.out; omega
  obtain ⟨r0, r1, r2, r3, r4, h5⟩ := five_list _ (row5_len ⟨G, h⟩)
  have H5 := Lib.hid h5
  have hr : ∀ j v, ([Value.int .i64 r0, .int .i64 r1, .int .i64 r2, .int .i64 r3, .int .i64 r4] : List Value)[j]? = some v → (w.alloc (.cells #[.slice none 0 0] 27)).cell? ⟨0, G * 5 + j, none⟩ = some v := fun j v hj => by
    rw [World.cell?_alloc_lt w _ _ (by show 0 < _; have := hG.lt; omega)]
    have := hG.r G h j v
    simp only at h5
    rw [h5] at this
    exact this hj
  have c0 : (w.alloc (.cells #[.slice none 0 0] 27)).cell? ⟨0, G * 5, none⟩ = some (.int .i64 r0) := hr 0 _ rfl
  have c1 := hr 1 _ rfl
  have c2 := hr 2 _ rfl
  have c3 := hr 3 _ rfl
  have c4 := hr 4 _ rfl
  have g0 : (0 : Int) ≤ (G : Int) := by omega
  have g1 : (G : Int) < 32 := by omega
  clear hG hr h5
  go_enter Tryd.func50, Tryd.ntmps50
  go_wp2_with (go_at_call 48; refine (SA.out _).mono ?_; rintro e w1 ⟨rfl, rfl⟩)
  refine bodyPost_ret (ret27 rfl _ _ w.heap.size _ rfl ((Blk.new _ _ _).alloc _)) rfl ⟨_, pop G, 5, rfl, ⟨rfl, P5.out, .inr ⟨w.heap.size + 1, 81, _, rfl, by omega, Blk.fresh (by simp), by simp, fun j hj => ?_⟩⟩, P5.out, ((Below.refl _ _).alloc (Nat.le_refl _) _).alloc (by simp) _⟩
  have := AT.out ⟨j, Nat.lt_of_lt_of_le hj P5.out⟩ hj
  simp only at this
  have e : ([r0, r1, r2, r3, r4] : List Int)[j]? = some ((row G).getD j 0) := by rw [← H5.out]; exact this
  have e2 := congrArg (Option.map (Value.int .i64)) e
  rw [← List.getElem?_map] at e2
  show (List.map (Value.int .i64) [r0, r1, r2, r3, r4]).toArray[j]? = _
  rw [List.getElem?_toArray]
  exact e2

theorem grp_hit {xs : List Int} (h : (xs == row (amg xs)) = true) : grp xs = amg xs := by
  unfold grp
  rw [if_pos (by simpa using h)]
theorem grp_miss {xs : List Int} (h : (xs == row (amg xs)) = false) : grp xs = 0 := by
  unfold grp
  rw [if_neg (by simpa using h)]
set_option maxRecDepth 100000 in
set_option maxHeartbeats 2000000 in
theorem groupof_any (A : Option Addr) (n c B : Nat) (xs : List Int) (w : World) (h : Is w B A n xs) (hn : n ≤ 1000000) (hB : B ≤ w.heap.size) (hG : Gl w) :
    Calls Tryd.prog 40 #[.agg #[.slice A n c]] w fun e w' => e = .returned (.int .u8 (grp xs : Nat)) ∧ Below w.heap.size w w' := by
  obtain ⟨g, hg⟩ : ∃ g, w.heap.size = g := ⟨_, rfl⟩
  obtain ⟨W1, hW1⟩ : ∃ W1, w.alloc (.cells #[.slice A n c] 27) = W1 := ⟨_, rfl⟩
  have B0 : Hid (Blk W1 g 27 #[.slice A n c]) := Lib.hid (by rw [← hW1, ← hg]; exact Blk.new _ _ _)
  have HB : Hid (Below g w W1) := Lib.hid (by rw [← hW1, ← hg]; exact (Below.refl _ _).alloc (Nat.le_refl _) _)
  have AM := Lib.hid (fun W (hW : Below g w W) => among_any A n c B xs W (h.below (hW.mono (by omega))) hn)
  have CF := Lib.hid (fun W (hW : Below g w W) => conf_any (amg xs) (amg_lt xs) W (hG.below hW (by have := hG.lt; omega)))
  have EQ := Lib.hid (fun A2 n2 c2 W (hW : Below g w W) (h2 : Is W W.heap.size A2 n2 (row (amg xs))) (hn2 : n2 ≤ 5) => equal_ints A A2 n c n2 c2 B _ xs (row (amg xs)) W (h.below (hW.mono (by omega))) h2 hn (by omega))
  have GH := Lib.hid (grp_hit (xs := xs))
  have GM := Lib.hid (grp_miss (xs := xs))
  have CX : Hid (∀ W, Blk W g 27 #[.slice A n c] → W.cell? ⟨g, 0, none⟩ = some (.slice A n c)) := Lib.hid (fun W h => h.cell 0)
  clear h hG
  generalize grp xs = gr at *
  generalize amg xs = G at *
  generalize row G = R at *
  go_enter Tryd.func40, Tryd.ntmps40
  go_upto_region 1 with (fail)
  have GS := Lib.hid hg
  clear hW1 hg
  have x0 := CX.out _ B0.out
  go_wp2_with (go_at_call 43; refine (AM.out _ HB.out).mono ?_; rintro e w1 ⟨rfl, rfl⟩)
  refine wp_region_noPanic ?_
  refine wp_region_held_drew (S := fun w' => w'.cell? ⟨g, 0, none⟩ = some (.slice A n c)) (by kernel_rfl) x0 (fun hHeld => ?_)
  refine take_d (i := 0) (d := 7) (v := ?v7) rfl rfl (by kernel_rfl) (by kernel_rfl) (by kernel_rfl) (fun _ _ _ h => h) (Or.inl ⟨by kernel_rfl, ?v7h⟩) hHeld ?v7n
  case v7h => (intro w hSw; (try dsimp only at hSw); go_split_ands; go_simp; (try exact rfl))
  try simp only [Act.put, List.setIfInBounds_toArray, List.set_cons_zero, List.set_cons_succ]
  refine take_d (i := 1) (d := 8) (v := ?v8) rfl rfl (by kernel_rfl) (by kernel_rfl) (by kernel_rfl) (fun _ _ _ h => h) (Or.inl ⟨by kernel_rfl, ?v8h⟩) hHeld ?v8n
  case v8h => (intro w hSw; (try dsimp only at hSw); go_split_ands; go_simp; (try exact rfl))
  try simp only [Act.put, List.setIfInBounds_toArray, List.set_cons_zero, List.set_cons_succ]
  refine take_d (i := 2) (d := 9) (v := ?v9) rfl rfl (by kernel_rfl) (by kernel_rfl) (by kernel_rfl) (fun _ _ _ h => h) (Or.inl ⟨by kernel_rfl, ?v9h⟩) hHeld ?v9n
  case v9h => (intro w hSw; (try dsimp only at hSw); go_split_ands; go_simp; (try exact rfl))
  try simp only [Act.put, List.setIfInBounds_toArray, List.set_cons_zero, List.set_cons_succ]
  refine wpAnyH_ready (rs := [3]) (by kernel_rfl) (by simp) ?_
  refine AllReadyH.cons rfl (fun K hK => ?_) AllReadyH.nil
  go_simp
  refine (CF.out _ HB.out.drew).mono ?_
  rintro e w2 ⟨A2, n2, c2, rfl, hm, hn2, hb2⟩
  have B2 := Lib.hid ((B0.out.drewN 1).below hb2 B0.out.lt)
  have HB2 := Lib.hid (HB.out.drew.trans (hb2.mono (by rw [← GS.out]; exact HB.out.size)))
  have M2 := Lib.hid hm.is_
  have N2 := Lib.hid hn2
  clear hm hn2 hb2
  refine hK.out _ _ (CX.out _ B2.out) (fun hHeld => ?_)
  clear hK K
  try simp only [Act.put, List.setIfInBounds_toArray, List.set_cons_zero, List.set_cons_succ]
  refine take_d (i := 4) (d := 11) (v := ?v11) rfl rfl (by kernel_rfl) (by kernel_rfl) (by kernel_rfl) (fun _ _ _ h => h) (Or.inl ⟨by kernel_rfl, ?v11h⟩) hHeld ?v11n
  case v11h => (intro w hSw; (try dsimp only at hSw); go_split_ands; go_simp; (try exact rfl))
  try simp only [Act.put, List.setIfInBounds_toArray, List.set_cons_zero, List.set_cons_succ]
  refine wpAnyH_ready (rs := [5]) (by kernel_rfl) (by simp) ?_
  refine AllReadyH.cons rfl (fun K hK => ?_) AllReadyH.nil
  go_simp
  refine (EQ.out _ _ _ _ HB2.out M2.out N2.out).mono ?_
  rintro e w3 ⟨rfl, hb3⟩
  have HB3 := Lib.hid (HB2.out.trans (hb3.mono (by rw [← GS.out]; exact HB2.out.size)))
  have B3 := Lib.hid (B2.out.below hb3 B2.out.lt)
  clear hb3
  refine hK.out _ _ (CX.out _ B3.out) (fun hHeld => ?_)
  clear hK K
  try simp only [Act.put, List.setIfInBounds_toArray, List.set_cons_zero, List.set_cons_succ]
  refine take_d (i := 6) (d := 13) (v := ?v13) rfl rfl (by kernel_rfl) (by kernel_rfl) (by kernel_rfl) (fun _ _ _ h => h) (Or.inl ⟨by kernel_rfl, ?v13h⟩) hHeld ?v13n
  case v13h => (intro w hSw; (try dsimp only at hSw); go_split_ands; go_simp; (try exact rfl))
  try simp only [Act.put, List.setIfInBounds_toArray, List.set_cons_zero, List.set_cons_succ]
  refine wpAnyH_done (by kernel_rfl) ?_ _
  refine NoPanic.normal ?_
  cases hq : (xs == R) with
  | true =>
    have GE := Lib.hid (GH.out hq)
    go_wp2
    go_ret
    exact ⟨ret_int (congrArg (fun x : Nat => (x : Int)) GE.out).symm, by rw [GS.out]; exact HB3.out⟩
  | false =>
    have GE := Lib.hid (GM.out hq)
    go_wp2
    go_ret
    exact ⟨ret_int (congrArg (fun x : Nat => (x : Int)) GE.out).symm, by rw [GS.out]; exact HB3.out⟩
end Go.Proofs.YtfclppopelmdgaaDoor
