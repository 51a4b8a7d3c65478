/-
  How far more than half are: the program's Agreed.
-/
import Derived.Test.YtfclppopelmdgaaDoorE3
namespace Go.Proofs.YtfclppopelmdgaaDoor
open Go.RowKit Go.Shelf
attribute [local go_sem ↓] field27
attribute [local go_sem] Oper.semAt_some

theorem Blk.putR {w : World} {g r : Nat} {t : TypeId} {cs : Array Value} {o : Obj} (h : Blk w g t cs) (hr : w.heap[r]? = some o) (ho : o.isCells = false) (o' : Obj) : Blk (w.putObj r o') g t cs := by
  refine (World.putObj_heap_other (fun e => ?_)).trans h
  subst e
  unfold Blk at h
  rw [h] at hr
  injection hr with hr
  subst hr
  cases ho
def farL (f : Nat → Int) : List Int := [0, f 1, f 2, f 3, f 4, f 5]
theorem mostB_congr (G : Nat) {p q : Int → Bool} (h : ∀ m ∈ row G, p m = q m) : mostB G p = mostB G q := by
  unfold mostB cntB
  rw [List.filter_congr h]
theorem farL_get (l : List (Int × Int)) (m : Int) (h1 : 1 ≤ m) (h5 : m ≤ 5) : (farL fun i => comeF l (i : Int)).getD m.toNat 0 = comeF l m := by
  rcases five h1 h5 with rfl | rfl | rfl | rfl | rfl <;> rfl
theorem most_as (G : Nat) (l : List (Int × Int)) (m : Int) (h1 : 1 ≤ m) (h5 : m ≤ 5) : mostB G (asF (farL fun i => comeF l (i : Int)) m) = mostB G (fun o => decide (comeF l m ≤ comeF l o)) := by
  refine mostB_congr G fun o ho => ?_
  obtain ⟨o1, o5⟩ := inG_range (mem_row.1 ho)
  unfold asF
  rw [farL_get l m h1 h5, farL_get l o o1 o5]

set_option maxRecDepth 100000 in
set_option maxHeartbeats 8000000 in
theorem agreed_any (A1 : Option Addr) (n1 c1 B1 : Nat) (l : List (Int × Int)) (A : Option Addr) (n c B : Nat) (xs : List Int) (w : World) (h : Is w B A n xs) (hn : n ≤ 1000000) (hB : B ≤ w.heap.size) (hG : Gl w) (h1 : Mt w B1 A1 n1 l) (hn1 : n1 ≤ 1000000) (hB1 : B1 ≤ w.heap.size) :
    Calls Tryd.prog 23 #[.agg #[.slice A n c], .slice A1 n1 c1] w fun e w' => e = .returned (.int .u64 (agr xs l)) ∧ Below w.heap.size w w' := by
  obtain ⟨g, hg⟩ : ∃ g, w.heap.size = g := ⟨_, rfl⟩
  have GO := Lib.hid (fun W (hW : Below g w W) => groupof_any A n c B xs W (h.below (hW.mono (by omega))) hn (Nat.le_trans hB hW.size) (hG.below hW (by have := hG.lt; omega)))
  have HF := Lib.hid (fun W (hW : Below g w W) => howfar_any A1 n1 c1 B1 l W (h1.below (hW.mono (by omega))) hn1 (Nat.le_trans hB1 hW.size))
  have HB1 : Hid (Below g w (w.alloc (.cells #[.slice A n c] 27))) := Lib.hid (by rw [← hg]; exact (Below.refl _ _).alloc (Nat.le_refl _) _)
  have BX1 : Hid (Blk (w.alloc (.cells #[.slice A n c] 27)) g 27 #[.slice A n c]) := Lib.hid (by rw [← hg]; exact Blk.new _ _ _)
  have GS := Lib.hid hg
  have GL := Lib.hid (grp_lt xs)
  clear h h1 hG
  have MA := Lib.hid (fun G m (m1 : 1 ≤ m) (m5 : m ≤ 5) => most_as G l m m1 m5)
  have FG := Lib.hid (fun m (m1 : 1 ≤ m) (m5 : m ≤ 5) => farL_get l m m1 m5)
  unfold farL at MA FG
  unfold farC at HF
  unfold agr
  generalize comeF l = CM at *
  generalize grp xs = G at *
  have AS := Lib.hid (fun k => show agK G CM (k + 1) = if mostB G (fun o => decide (CM ((row G).getD k 0) ≤ CM o)) = true then max (agK G CM k) (CM ((row G).getD k 0)) else agK G CM k from rfl)
  have A0 : Hid (agK G CM 0 = 0) := Lib.hid rfl
  generalize agK G CM = AK at *
  refine (callsIn_wide (n := 9)).1 ?_
  refine callsIn_of_wp_marks Tryd.func23 rfl trivial ?_ rfl
  simp only [Tryd.ntmps23, List.size_toArray, List.length_cons, List.length_nil, Nat.reduceAdd, Nat.reduceSub, Array.replicate_succ, Array.replicate_zero, List.push_toArray, List.append_toArray, List.nil_append, List.cons_append]
  refine wpIn_wide.2 ?_
  clear hg
  go_upto_region 3 with (first
    | (go_at_call 40; refine (GO.out _ HB1.out).mono ?_; rintro e w2 ⟨rfl, hb⟩; have HB2 := Lib.hid (HB1.out.trans (hb.mono (by rw [← GS.out]; exact HB1.out.size))); have BX2 := Lib.hid (BX1.out.below hb BX1.out.lt); clear hb)
    | (go_at_call 45; refine (HF.out _ HB2.out).mono ?_; rintro e w3 ⟨rfl, hb⟩; have HB3 := Lib.hid (HB2.out.trans (hb.mono (by rw [← GS.out]; exact HB2.out.size))); have BX3 := Lib.hid (BX2.out.below hb BX2.out.lt); clear hb))
  obtain ⟨s, hs⟩ : ∃ s, w3.heap.size = s := ⟨_, rfl⟩
  have HS3 : g < s := by rw [← hs]; exact BX3.out.lt
  have X5 : Blk (((w3.alloc (.cells #[.int .u8 (G : Int)] 65)).alloc (.cells #[.int .u64 0, .int .u64 (CM 1), .int .u64 (CM 2), .int .u64 (CM 3), .int .u64 (CM 4), .int .u64 (CM 5)] 71)).alloc (.cells #[.int .u64 0] 38)) s 65 #[.int .u8 (G : Int)] := by rw [← hs]; exact ((Blk.new _ _ _).alloc _).alloc _
  have X6 : Blk (((w3.alloc (.cells #[.int .u8 (G : Int)] 65)).alloc (.cells #[.int .u64 0, .int .u64 (CM 1), .int .u64 (CM 2), .int .u64 (CM 3), .int .u64 (CM 4), .int .u64 (CM 5)] 71)).alloc (.cells #[.int .u64 0] 38)) (s + 1) 71 #[.int .u64 0, .int .u64 (CM 1), .int .u64 (CM 2), .int .u64 (CM 3), .int .u64 (CM 4), .int .u64 (CM 5)] := (Blk.fresh (by simp; omega)).alloc _
  have X7 : Blk (((w3.alloc (.cells #[.int .u8 (G : Int)] 65)).alloc (.cells #[.int .u64 0, .int .u64 (CM 1), .int .u64 (CM 2), .int .u64 (CM 3), .int .u64 (CM 4), .int .u64 (CM 5)] 71)).alloc (.cells #[.int .u64 0] 38)) (s + 2) 38 #[.int .u64 0] := Blk.fresh (by simp; omega)
  have XB : Below g w (((w3.alloc (.cells #[.int .u8 (G : Int)] 65)).alloc (.cells #[.int .u64 0, .int .u64 (CM 1), .int .u64 (CM 2), .int .u64 (CM 3), .int .u64 (CM 4), .int .u64 (CM 5)] 71)).alloc (.cells #[.int .u64 0] 38)) := ((HB3.out.alloc (by omega) _).alloc (by simp; omega) _).alloc (by simp; omega) _
  have XZ : (((w3.alloc (.cells #[.int .u8 (G : Int)] 65)).alloc (.cells #[.int .u64 0, .int .u64 (CM 1), .int .u64 (CM 2), .int .u64 (CM 3), .int .u64 (CM 4), .int .u64 (CM 5)] 71)).alloc (.cells #[.int .u64 0] 38)).heap.size = s + 3 := by simp; omega
  rw [hs]
  generalize (((w3.alloc (.cells #[.int .u8 (G : Int)] 65)).alloc (.cells #[.int .u64 0, .int .u64 (CM 1), .int .u64 (CM 2), .int .u64 (CM 3), .int .u64 (CM 4), .int .u64 (CM 5)] 71)).alloc (.cells #[.int .u64 0] 38)) = W3 at *
  clear hs
  have x5 : W3.cell? ⟨s, 0, none⟩ = some (.int .u8 (G : Int)) := X5.cell 0
  go_wp2_with (go_at_call 46; refine (numbers_any _ _).mono ?_; rintro e w' ⟨rfl, rfl⟩)
  refine (wpIn_wide (n := 9)).1 ?_
  obtain ⟨W4, hW4⟩ : ∃ W4, W3.alloc (.cells #[.int .u8 (G : Int)] 65) = W4 := ⟨_, rfl⟩
  have b4 : Blk W4 (s + 3) 65 #[.int .u8 (G : Int)] := by rw [← hW4]; exact Blk.fresh XZ.symm
  have hb34 : Below W3.heap.size W3 W4 := by rw [← hW4]; exact (Below.refl _ _).alloc (Nat.le_refl _) _
  have Y5 := X5.below hb34 X5.lt
  have Y6 := X6.below hb34 X6.lt
  have Y7 := X7.below hb34 X7.lt
  have YB : Below g w W4 := XB.trans (hb34.mono (by omega))
  have hs4 : W4.heap.size = s + 4 := by rw [← hW4]; simp; omega
  try rw [hW4]
  clear hW4 hb34 X5 X6 X7 XB x5
  have RG := Lib.hid (fun k (hk : k < pop G) => row_get ⟨G, GL.out⟩ ⟨k, by have : pop G ≤ 5 := pop_le5 ⟨G, GL.out⟩; omega⟩ hk)
  have MF := Lib.hid (fun r m (W : World) (m1 : 1 ≤ m) (m5 : m ≤ 5) (hp : Blk W (s + 1) 71 #[.int .u64 0, .int .u64 (CM 1), .int .u64 (CM 2), .int .u64 (CM 3), .int .u64 (CM 4), .int .u64 (CM 5)]) (hq : Blk W r 3 #[.int .i64 m]) => most_far G (s + 1) r GL.out m (by omega) m5 0 (CM 1) (CM 2) (CM 3) (CM 4) (CM 5) W hp hq)
  refine wpIn_rangeFunc_free rfl (by omega) (gf := 52) (lb := #[.pointer (some ⟨s + 3, 0, none⟩)]) rfl trivial (enters_of Tryd.func52 (by kernel_rfl) rfl)
    (numbers1_free 8 (by omega) G GL.out (s + 3) W4 b4) (fun _ => rfl)
    (fun k W => Blk W s 65 #[.int .u8 (G : Int)] ∧ Blk W (s + 1) 71 #[.int .u64 0, .int .u64 (CM 1), .int .u64 (CM 2), .int .u64 (CM 3), .int .u64 (CM 4), .int .u64 (CM 5)] ∧ Blk W (s + 2) 38 #[.int .u64 (AK k)] ∧ Below g w W)
    (fun _ _ _ => False)
    (fun k X Y hs hn ho => ⟨ho.blk hn hs.1, ho.blk hn hs.2.1, ho.blk hn hs.2.2.1, hs.2.2.2.trans (ho.below (by omega) (by have := hs.1.lt; omega))⟩)
    (fun _ _ _ _ hs _ _ => hs) ⟨Y5, Y6, by rw [A0.out]; exact Y7, YB⟩
    (fun k a W => Hid (∃ (r : Nat) (v2 v3 v4 v9 v10 v11 v12 v13 v14 v15 v16 v17 v18 v19 v20 v21 v22 v23 v24 v25 v26 : Value), a = { tmps := #[.agg #[.slice A n c], .slice A1 n1 c1, v2, v3, v4, .pointer (some ⟨s, 0, none⟩), .pointer (some ⟨s + 1, 0, none⟩), .pointer (some ⟨s + 1 + 1, 0, none⟩), .pointer (some ⟨r, 0, none⟩), v9, v10, v11, v12, v13, v14, v15, v16, v17, v18, v19, v20, v21, v22, v23, v24, v25, v26], defers := [] } ∧ Blk W r 3 #[.int .i64 ((row G).getD k 0)] ∧ s + 2 < r))
    (fun k a X r o o' hs hr ho => (by
      obtain ⟨q, v2, v3, v4, v9, v10, v11, v12, v13, v14, v15, v16, v17, v18, v19, v20, v21, v22, v23, v24, v25, v26, ha, hb, hlt⟩ := hs.out
      exact Lib.hid ⟨q, v2, v3, v4, v9, v10, v11, v12, v13, v14, v15, v16, v17, v18, v19, v20, v21, v22, v23, v24, v25, v26, ha, hb.putR hr ho _, hlt⟩)) ?assign ?body ?done ?stop
  case assign =>
    rintro l k W ⟨i0, i1, i2, iB⟩ hsz hsh hk
    have hal : Below W.heap.size W (W.alloc (.cells #[.int .i64 ((row G).getD k 0)] 3)) := (Below.refl _ _).alloc (Nat.le_refl _) _
    simp only [rwE]
    gi_wp2
    exact ⟨Keeps.of_below hal (by omega), ⟨i0.below hal i0.lt, i1.below hal i1.lt, i2.below hal i2.lt, iB.alloc (by have := i0.lt; omega) _⟩, Lib.hid ⟨Blk.new _ _ _, i2.lt⟩⟩
  case body =>
    rintro l k a1 W ⟨i0, i1, i2, iB⟩ hax hsz hsh hk
    obtain ⟨r, v2, v3, v4, v9, v10, v11, v12, v13, v14, v15, v16, v17, v18, v19, v20, v21, v22, v23, v24, v25, v26, rfl, hr, hsr⟩ := hax.out
    clear hax
    have d0 : W.cell? ⟨s, 0, none⟩ = some (.int .u8 (G : Int)) := i0.cell 0
    obtain ⟨z1, z5⟩ := RG.out k hk
    try simp only at z1 z5
    have asu := AS.out k
    have MM : Hid (mostB G (asF [0, CM 1, CM 2, CM 3, CM 4, CM 5] ((row G).getD k 0)) = mostB G (fun o => decide (CM ((row G).getD k 0) ≤ CM o))) := Lib.hid (MA.out G ((row G).getD k 0) z1 z5)
    have FF := Lib.hid (FG.out ((row G).getD k 0) z1 z5)
    generalize (row G).getD k 0 = z at *
    have HK := Lib.hid (MF.out r z W z1 z5 i1 hr)
    rw [MM.out] at HK
    obtain ⟨a0, h0⟩ : ∃ a0, AK (k + 1) = a0 := ⟨_, rfl⟩
    rw [h0] at asu
    have H0 := Lib.hid h0
    clear h0
    generalize AK k = ak at *
    generalize mostB G (fun o => decide (CM z ≤ CM o)) = b at *
    cases b with
    | true =>
      have SC : Hid (a0 = max ak (CM z)) := Lib.hid (by simpa using asu)
      clear asu
      have zc := (show z = 1 ∨ z = 2 ∨ z = 3 ∨ z = 4 ∨ z = 5 by omega)
      gi_wp2_with (refine ⟨trivial, ?_⟩; gi_at_call 42; refine (CallsIn.inRound l (callsIn_wide.2 HK.out)).mono ?_; rintro e w5 ⟨rfl, hb5⟩; have J0 := Lib.hid (i0.below hb5 i0.lt); have J1 := Lib.hid (i1.below hb5 i1.lt); have J2 := Lib.hid (i2.below hb5 i2.lt); have JR := Lib.hid (hr.below hb5 hr.lt); have JB := Lib.hid (iB.trans (hb5.mono (by have := i0.lt; omega))); have JS := Lib.hid hb5.size; have JK := Lib.hid (Keeps.of_below (d := W4.heap.size) hb5 (by omega)); clear hb5)
      have x1 : w5.cell? ⟨s + 1 + 1, 0, none⟩ = some (.int .u64 ak) := J2.out.cell 0
      have x2 : w5.frozen? ⟨s + 1 + 1, 0, none⟩ = false := J2.out.frozen 0
      have x3 : w5.cell? ⟨r, 0, none⟩ = some (.int .i64 z) := JR.out.cell 0
      have x4 : w5.cell? ⟨s + 1, z.toNat, none⟩ = some (.int .u64 (CM z)) := by
        rw [J1.out.cell]
        rcases zc with rfl | rfl | rfl | rfl | rfl <;> rfl
      have z0 : (0 : Int) ≤ z := by omega
      have z6 : z < 6 := by omega
      clear zc
      gi_region
      all_goals
        gi_wp2
        refine ⟨⟨(Below.heap_setCell _ _ _ _ (by have := i2.lt; show _ ≠ s + 1 + 1; omega)).trans JK.out.a, (Below.heap_setCell _ _ _ _ (by have := i2.lt; show _ ≠ s + 1 + 1; omega)).trans JK.out.b⟩, (J0.out.far (by simp; omega) _).drewN 1, (J1.out.far (by simp) _).drewN 1, ?_, (JB.out.setCell (p := ⟨s + 1 + 1, 0, none⟩) (by show g ≤ s + 1 + 1; omega) _).drew⟩
        rw [H0.out, SC.out]
        exact (J2.out.set_ 0 _).drewN 1
    | false =>
      have SC : Hid (a0 = ak) := Lib.hid (by simpa using asu)
      clear asu
      gi_wp2_with (refine ⟨trivial, ?_⟩; gi_at_call 42; refine (CallsIn.inRound l (callsIn_wide.2 HK.out)).mono ?_; rintro e w5 ⟨rfl, hb5⟩; have J0 := Lib.hid (i0.below hb5 i0.lt); have J1 := Lib.hid (i1.below hb5 i1.lt); have J2 := Lib.hid (i2.below hb5 i2.lt); have JB := Lib.hid (iB.trans (hb5.mono (by have := i0.lt; omega))); have JK := Lib.hid (Keeps.of_below (d := W4.heap.size) hb5 (by omega)); clear hb5)
      refine ⟨JK.out, J0.out, J1.out, ?_, JB.out⟩
      rw [H0.out, SC.out]
      exact J2.out
  case stop => intro D c k W _ _ h _; exact h.elim
  case done =>
    rintro D W hDl ⟨i0, i1, i2, iB⟩ hD
    have d0 : W.cell? ⟨s + 2, 0, none⟩ = some (.int .u64 (AK (pop G))) := i2.cell 0
    go_wp2
    refine ⟨by simp, .inl ⟨_, _, rfl, run_takeDeferred hD, ?_⟩⟩
    exact ⟨_, resT rfl _ _ _ rfl, rfl, by rw [GS.out]; exact iB.trans (below_putObj _ _ (by omega))⟩
end Go.Proofs.YtfclppopelmdgaaDoor
