/-
  Members as bytes: the program's Encode.
-/
import Derived.Test.YtfclppopelmdgaaDoorC7
namespace Go.Proofs.YtfclppopelmdgaaDoor
open Go.RowKit Go.Shelf
attribute [local go_sem ↓] field27
attribute [local go_sem] Oper.semAt_some

def encL (xs : List Int) : List Int := if grp xs = 0 then [] else (pop (grp xs) : Int) :: row (grp xs)
theorem bs_cons {x : Int} {l : List Int} (h0 : 0 ≤ x) (h1 : x ≤ 255) (h : Bs l) : Bs (x :: l) := fun j => by
  cases j with
  | zero => exact ⟨h0, h1⟩
  | succ j => exact h j
theorem bs1 {x : Int} (h0 : 0 ≤ x) (h1 : x ≤ 255) : Bs [x] := bs_cons h0 h1 (fun j => by simp)
/-- One more byte, inside a round. -/
theorem append_oneIn {F : Fence} {n : Nat} {w : World} {ops : Array Oper} {rest : List Oper} {o : Oper} {a : Act} {Q : Exit → Act → World → Prop} (hgd : o.guard = none) (s x : Operand)
    (ho : o.op = .call { callee := .builtin .append, args := #[s, x], argTypes := #[48, 48] }) (base : Nat) (A : Option Addr) (k c : Nat) (zs : List Int) (hs : a.eval s = .slice A k c) (hown : Own w base A k c zs)
    (b : Int) (h0 : 0 ≤ b) (h1 : b ≤ 255) (hx : a.eval x = .slice (some ⟨w.heap.size, 0, none⟩) 1 1) (hsum : k + 1 ≤ 140737488355328) (hbase : base ≤ w.heap.size)
    (h : ∀ A2 c2 w', Own w' base A2 (k + 1) c2 (zs ++ [b]) → (w.alloc (.cells #[.int .u8 b] 5)).grownBy w' (Value.slice A k c).ownBlock → wpListIn F n Tryd.prog ops Q rest (a.put o.dst (.slice A2 (k + 1) c2)) w') :
    wpListIn F n Tryd.prog ops Q (o :: rest) a (w.alloc (.cells #[.int .u8 b] 5)) := by
  obtain ⟨i0, hi, hz0, hz1, hz2⟩ := info_parts Tryd.info5
  have ho' : Own (w.alloc (.cells #[.int .u8 b] 5)) base A k c zs := hown.below ((Below.refl _ _).alloc (Nat.le_refl _) _)
  refine wpListIn_append_own _ hgd s x 48 ho base 5 i0 (.int .u8 0) 1 1 Tryd.underlying48 hi hz0 hz1 hz2 rfl (by decide) _ k _ hs ho'.1 ⟨w.heap.size, 0, none⟩ 1 1 [.int .u8 b] hx rfl ?_ (by simp [Value.oneCell']) (by unfold maxLen; omega) (by omega) (by simp; omega) ?_
  · intro j u hj
    have hj0 : j = 0 := by
      have := (List.getElem?_eq_some_iff.1 hj).1
      simp at this
      exact this
    subst hj0
    rw [Addr.add_lit]
    rw [← hj]
    exact (Blk.new w 5 #[.int .u8 b]).cell 0
  · intro v' w' hown' hg _
    have e : zs.map (Value.int .u8) ++ [Value.int .u8 b] = (zs ++ [b]).map (Value.int .u8) := by rw [List.map_append]; rfl
    rw [e] at hown'
    obtain ⟨A2, c2, rfl, ho2⟩ := Own.of_row hown' (hown.2.append (bs1 h0 h1))
    exact h A2 c2 w' ho2 hg
theorem Own.off {w w' : World} {d base n c : Nat} {A : Option Addr} {zs : List Int} (h : Own w base A n c zs) (hA : NoC d w) (ho : Off d w w') : Own w' base A n c zs := by
  refine ⟨⟨h.1.1, ?_⟩, h.2⟩
  rcases h.1.2 with hv | ⟨g, cap, cur, hv, hbs, hh, r⟩
  · exact .inl hv
  · exact .inr ⟨g, cap, cur, hv, hbs, ho.blk hA (t := 5) hh, r⟩
theorem Own.ne {w : World} {d base n c : Nat} {A : Option Addr} {zs : List Int} (h : Own w base A n c zs) (hA : Shut d w) : ∀ k, (Value.slice A n c).ownBlock = some k → k ≠ d ∧ k ≠ d + 1 := fun k hk => by
  rcases h.1.2 with ⟨hv, _⟩ | ⟨g, cap, cur, hv, hbs, hh, r⟩
  · rw [hv] at hk; cases hk
  · rw [hv] at hk
    injection hk with hk
    subst hk
    exact hA.ne hh
theorem Own.apart {w : World} {base n c g : Nat} {A : Option Addr} {zs : List Int} {t : TypeId} {cs : Array Value} (h : Own w base A n c zs) (hb : Blk w g t cs) (ht : t ≠ 5) : ∀ k, (Value.slice A n c).ownBlock = some k → k ≠ g := fun k hk e => by
  rcases h.1.2 with ⟨hv, _⟩ | ⟨g', cap, cur, hv, hbs, hh, r⟩
  · rw [hv] at hk; cases hk
  · rw [hv] at hk
    injection hk with hk
    subst hk
    subst e
    unfold Blk at hb
    rw [hb] at hh
    injection hh with hh
    injection hh with _ h2 _
    exact ht h2
theorem Own.putD {w : World} {base n c D : Nat} {A : Option Addr} {zs : List Int} {o : Obj} (h : Own w base A n c zs) (hD : w.heap[D]? = some o) (ho : o.isCells = false) (o' : Obj) : Own (w.putObj D o') base A n c zs := by
  refine ⟨⟨h.1.1, ?_⟩, h.2⟩
  rcases h.1.2 with hv | ⟨g, cap, cur, hv, hbs, hh, r⟩
  · exact .inl hv
  · refine .inr ⟨g, cap, cur, hv, hbs, (World.putObj_heap_other (fun e => ?_)).trans hh, r⟩
    subst e
    rw [hD] at hh
    injection hh with hh
    subst hh
    cases ho
theorem Own.setFar {w : World} {base n c g i : Nat} {A : Option Addr} {zs : List Int} (h : Own w base A n c zs) (hf : ∀ k, (Value.slice A n c).ownBlock = some k → k ≠ g) (u : Value) : Own (w.setCell ⟨g, i, none⟩ u) base A n c zs := by
  refine ⟨⟨h.1.1, ?_⟩, h.2⟩
  rcases h.1.2 with hv | ⟨g', cap, cur, hv, hbs, hh, r⟩
  · exact .inl hv
  · refine .inr ⟨g', cap, cur, hv, hbs, (Below.heap_setCell _ _ _ _ (fun e => ?_)).trans hh, r⟩
    exact hf g' (by rw [hv]; rfl) e
theorem row_bs (G : Nat) : ∀ x ∈ row G, 1 ≤ x ∧ x ≤ 5 := fun x hx => inG_range (mem_row.1 hx)
theorem row_take {G k : Nat} (h : k < pop G) : (row G).take (k + 1) = (row G).take k ++ [(row G).getD k 0] := by
  unfold pop at h
  rw [List.take_succ_eq_append_getElem h]
  simp [List.getD, h]
theorem resTT {fn : Func} {p q : Tmp} (h : fn.results = #[.tmp p, .tmp q]) (tmps : Array Value) (w : World) (x y : Value) (hp : tmps.getD p undef = x) (hq : tmps.getD q undef = y) : (results fn tmps).run Tryd.prog w = .ok (.tuple #[x, y]) w := by
  subst hp hq
  simp [results, h, go_sem]
/-- What Encode answers. -/
def Enc (w : World) (zs : List Int) (er : Int) (e : Ending) (w' : World) : Prop := ∃ A n c, e = .returned (.tuple #[.slice A n c, .int .i64 er]) ∧ Own w' w.heap.size A n c zs ∧ Below w.heap.size w w'

set_option maxRecDepth 100000 in
set_option maxHeartbeats 4000000 in
theorem encode_any (A : Option Addr) (n c B : Nat) (xs : List Int) (w : World) (h : Is w B A n xs) (hn : n ≤ 1000000) (hB : B ≤ w.heap.size) (hG : Gl w) :
    Calls Tryd.prog 30 #[.agg #[.slice A n c]] w (Enc w (encL xs) (chkE xs)) := by
  obtain ⟨g, hg⟩ : ∃ g, w.heap.size = g := ⟨_, rfl⟩
  have GO := Lib.hid (fun W (hW : Below g w W) => groupof_any A n c B xs W (h.below (hW.mono (by omega))) hn (Nat.le_trans hB hW.size) (hG.below hW (by have := hG.lt; omega)))
  have HB1 : Hid (Below g w (w.alloc (.cells #[.slice A n c] 27))) := Lib.hid (by rw [← hg]; exact (Below.refl _ _).alloc (Nat.le_refl _) _)
  have GL := grp_lt xs
  have GS := Lib.hid hg
  have HS1 : Hid (g ≤ (w.alloc (.cells #[.slice A n c] 27)).heap.size) := Lib.hid (by rw [← hg]; simp)
  have BX1 : Hid (Blk (w.alloc (.cells #[.slice A n c] 27)) g 27 #[.slice A n c]) := Lib.hid (by rw [← hg]; exact Blk.new _ _ _)
  clear h hG
  unfold encL chkE
  generalize grp xs = gr at *
  by_cases h0 : gr = 0
  · rw [if_pos h0, if_pos h0]
    subst h0
    clear hg
    go_enter Tryd.func30, Tryd.ntmps30
    go_wp2_with (go_at_call 40; refine (GO.out _ HB1.out).mono ?_; rintro e w2 ⟨rfl, hb2⟩)
    exact bodyPost_ret (resTT rfl _ _ _ _ rfl rfl) rfl ⟨none, 0, 0, rfl, nothing _ _, by rw [GS.out]; exact HB1.out.trans (hb2.mono HS1.out)⟩
  rw [if_neg h0, if_neg h0]
  have h1 : ((gr : Int) == 0) = false := by simp; omega
  have P5 : pop gr ≤ 5 := pop_le5 ⟨gr, GL⟩
  have p0 : (0 : Int) ≤ (pop gr : Int) := by omega
  have p5 : (pop gr : Int) ≤ 5 := by omega
  have SZ := Lib.hid (fun W => size_any gr GL W)
  have RT := Lib.hid (fun k (hk : k < pop gr) => row_take hk)
  have RB := Lib.hid (fun k (hk : k < pop gr) => row_get ⟨gr, GL⟩ ⟨k, by omega⟩ hk)
  have RE : Hid ((row gr).take (pop gr) = row gr) := Lib.hid (List.take_length)
  have R0 : Hid ((row gr).take 0 = []) := Lib.hid rfl
  have PL := Lib.hid (And.intro p0 p5)
  clear h0
  refine (callsIn_wide (n := 9)).1 ?_
  refine callsIn_of_wp_marks Tryd.func30 rfl trivial ?_ rfl
  simp only [Tryd.ntmps30, List.size_toArray, List.length_cons, List.length_nil, Nat.reduceAdd, Nat.reduceSub, Array.replicate_succ, Array.replicate_zero, List.push_toArray, List.append_toArray, List.nil_append, List.cons_append]
  refine wpIn_wide.2 ?_
  clear hg
  go_upto_region 5 with (first | (go_at_call 40; refine (GO.out _ HB1.out).mono ?_; rintro e w2 ⟨rfl, hb2⟩; have HB2 := Lib.hid (HB1.out.trans (hb2.mono HS1.out)); have HS2 : Hid (g < w2.heap.size) := Lib.hid (by have := BX1.out.below hb2 BX1.out.lt; exact this.lt); clear hb2) | (go_at_call 48; refine (SZ.out _).mono ?_; rintro e w7 ⟨rfl, rfl⟩))
  obtain ⟨s, hs⟩ : ∃ s, w2.heap.size = s := ⟨_, rfl⟩
  have HS3 : g < s := by rw [← hs]; exact HS2.out
  have O3 : Own ((w2.alloc (.cells #[.int .u8 (pop gr : Int)] 5)).alloc (.cells #[.slice (some ⟨s, 0, none⟩) 1 1] 48)) s (some ⟨s, 0, none⟩) 1 1 [(pop gr : Int)] := by
    have h1 : Own (w2.alloc (.cells #[.int .u8 (pop gr : Int)] 5)) s (some ⟨s, 0, none⟩) 1 1 [(pop gr : Int)] := by
      refine ⟨?_, bs1 PL.out.1 (by have := PL.out.2; omega)⟩
      have := World.ownsRow_lit (base := s) (size := 1) (e := 5) w2 #[.int .u8 (pop gr : Int)] 1 (by omega) (by decide) (by simp)
      rw [hs] at this
      simpa using this
    exact h1.below ((Below.refl _ _).alloc (Nat.le_refl _) _)
  have X3 : Blk ((w2.alloc (.cells #[.int .u8 (pop gr : Int)] 5)).alloc (.cells #[.slice (some ⟨s, 0, none⟩) 1 1] 48)) (s + 1) 48 #[.slice (some ⟨s, 0, none⟩) 1 1] := Blk.fresh (by simp; omega)
  have HB3 : Below g w ((w2.alloc (.cells #[.int .u8 (pop gr : Int)] 5)).alloc (.cells #[.slice (some ⟨s, 0, none⟩) 1 1] 48)) := (HB2.out.alloc (by omega) _).alloc (by simp; omega) _
  have Z3 : ((w2.alloc (.cells #[.int .u8 (pop gr : Int)] 5)).alloc (.cells #[.slice (some ⟨s, 0, none⟩) 1 1] 48)).heap.size = s + 2 := by simp; omega
  rw [hs]
  generalize ((w2.alloc (.cells #[.int .u8 (pop gr : Int)] 5)).alloc (.cells #[.slice (some ⟨s, 0, none⟩) 1 1] 48)) = W3 at *
  clear hs
  go_wp2_with (go_at_call 46; refine (numbers_any _ _).mono ?_; rintro e w' ⟨rfl, rfl⟩)
  refine (wpIn_wide (n := 9)).1 ?_
  obtain ⟨W4, hW4⟩ : ∃ W4, W3.alloc (.cells #[.int .u8 (gr : Int)] 65) = W4 := ⟨_, rfl⟩
  have b4 : Blk W4 (s + 2) 65 #[.int .u8 (gr : Int)] := by rw [← hW4]; exact Blk.fresh Z3.symm
  have hb34 : Below W3.heap.size W3 W4 := by rw [← hW4]; exact (Below.refl _ _).alloc (Nat.le_refl _) _
  have O4 := O3.below hb34
  have X4 := X3.below hb34 X3.lt
  have HB4 : Below g w W4 := HB3.trans (hb34.mono (by omega))
  have hs4 : W4.heap.size = s + 3 := by rw [← hW4]; simp; omega
  try rw [hW4]
  clear hW4 hb34 O3 X3 HB3
  refine wpIn_rangeFunc_free rfl (by omega) (gf := 52) (lb := #[.pointer (some ⟨s + 2, 0, none⟩)]) rfl trivial (enters_of Tryd.func52 (by kernel_rfl) rfl)
    (numbers1_free 8 (by omega) gr GL (s + 2) W4 b4) (fun _ => rfl)
    (fun k W => ∃ A' c', Blk W (s + 1) 48 #[.slice A' (k + 1) c'] ∧ Own W s A' (k + 1) c' ((pop gr : Int) :: (row gr).take k) ∧ Below g w W)
    (fun _ _ _ => False)
    (fun k X Y hs hn ho => (by
      obtain ⟨A', c', i0, i1, i2⟩ := hs
      exact ⟨A', c', ho.blk hn i0, i1.off hn ho, i2.trans (ho.below (by omega) (by have := i0.lt; omega))⟩))
    (fun _ _ _ _ hs _ _ => hs) ⟨some ⟨s, 0, none⟩, 1, X4, by rw [R0.out]; exact O4, HB4⟩
    (fun k a W => ∃ v2 v3 v7 v8 v9 v10 v11 v12 v13 v14 v15 v16 v17 v18 v19 v20 v21 v22 v23 : Value, a = { tmps := #[.agg #[.slice A n c], .pointer (some ⟨w.heap.size, 0, none⟩), v2, v3, .int .u8 (gr : Int), .pointer (some ⟨s + 1, 0, none⟩), .int .i64 ((row gr).getD k 0), v7, v8, v9, v10, v11, v12, v13, v14, v15, v16, v17, v18, v19, v20, v21, v22, v23], defers := [] })
    (fun k a X r o o' hs hr ho => hs) ?assign ?body ?done ?stop
  case assign =>
    intro l k W hI hsz hsh hk
    simp only [rwE]
    gi_wp2
    exact ⟨Keeps.refl _ _, hI, _, _, _, _, _, _, _, _, _, _, _, _, _, _, _, _, _, _, _, rfl⟩
  case body =>
    rintro l k a1 W ⟨A', c', i0, i1, i2⟩ ⟨v2, v3, v7, v8, v9, v10, v11, v12, v13, v14, v15, v16, v17, v18, v19, v20, v21, v22, v23, rfl⟩ hsz hsh hk
    have d0 : W.cell? ⟨s + 1, 0, none⟩ = some (.slice A' (k + 1) c') := i0.cell 0
    obtain ⟨z0, z5⟩ := RB.out k hk
    have HT := Lib.hid (RT.out k hk)
    generalize (row gr).getD k 0 = z at *
    have z0' : (0 : Int) ≤ z := by omega
    have I0 := Lib.hid i0
    have I1 := Lib.hid i1
    have I2 := Lib.hid i2
    have NE := Lib.hid (i1.ne hsh)
    have NB := Lib.hid (i1.apart i0 (by decide))
    clear i0 i1 i2
    gi_wp2_with (gi_at_builtin; refine append_oneIn rfl (.tmp 18) (.tmp 21) rfl s A' (k + 1) c' ((pop gr : Int) :: (row gr).take k) rfl I1.out z (by omega) (by omega) rfl (by omega) (by have := I0.out.lt; omega) ?_; intro A2 c2 w5 ho5 hg5; have B5 := Lib.hid ((hg5.block (s + 1) (by have := I0.out.lt; simp; omega) (fun e => NB.out (s + 1) e.symm rfl)).trans (I0.out.alloc _)); have d1 : w5.cell? ⟨s + 1, 0, none⟩ = some (.slice A' (k + 1) c') := Blk.cell (t := 48) B5.out 0; have f1 : w5.frozen? ⟨s + 1, 0, none⟩ = false := Blk.frozen (t := 48) B5.out 0; have O5 := Lib.hid ho5; have G5 := Lib.hid hg5; clear ho5 hg5)
    have hd : ∀ j, j = W4.heap.size ∨ j = W4.heap.size + 1 → (w5.setCell ⟨s + 1, 0, none⟩ (.slice A2 (k + 1 + 1) c2)).heap[j]? = W.heap[j]? := fun j hj =>
      (Below.heap_setCell _ _ _ _ (by show _ ≠ s + 1; omega)).trans ((G5.out.block j (by simp; omega) (fun e => by
        have := NE.out j e.symm
        omega)).trans (Below.heap_alloc _ _ _ (by omega)))
    refine ⟨⟨hd _ (.inl rfl), hd _ (.inr rfl)⟩, A2, c2, Blk.set_ (t := 48) B5.out 0 _, ?_, ?_⟩
    · rw [HT.out]
      exact O5.out.setFar (O5.out.apart B5.out (by decide)) _
    · exact ((I2.out.alloc (by have := I0.out.lt; omega) _).grown G5.out (by have := I0.out.lt; simp; omega) (fun j hj => by have := (I1.out.1.lt j hj).1; omega)).setCell (p := ⟨s + 1, 0, none⟩) (by show g ≤ s + 1; omega) _
  case stop => intro D c k W _ _ h _; exact h.elim
  case done =>
    rintro D W hDl ⟨A', c', i0, i1, i2⟩ hD
    rw [RE.out] at i1
    have d0 : W.cell? ⟨s + 1, 0, none⟩ = some (.slice A' (pop gr + 1) c') := i0.cell 0
    go_wp2
    refine ⟨by simp, .inl ⟨_, _, rfl, run_takeDeferred hD, ?_⟩⟩
    exact ⟨_, resTT rfl _ _ _ _ rfl rfl, A', pop gr + 1, c', rfl, (i1.putD hD rfl _).down (by rw [GS.out]; omega), by rw [GS.out]; exact i2.trans (below_putObj _ _ (by omega))⟩
end Go.Proofs.YtfclppopelmdgaaDoor
