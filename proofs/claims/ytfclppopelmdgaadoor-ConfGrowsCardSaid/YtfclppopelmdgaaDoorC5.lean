/-
  Of how many it is so: the program's most, for numbers that are in a set.
-/
import Derived.Test.YtfclppopelmdgaaDoorC4
namespace Go.Proofs.YtfclppopelmdgaaDoor
open Go.RowKit Go.Shelf
attribute [local go_sem] Oper.semAt_some

theorem resT {fn : Func} {p : Tmp} (h : fn.results = #[.tmp p]) (tmps : Array Value) (w : World) (x : Value) (hp : tmps.getD p undef = x) : (results fn tmps).run Tryd.prog w = .ok x w := by
  subst hp
  simp [results, h, go_sem]
/-- Of how many of the first k it is so. -/
def cntK (G : Nat) (p : Int → Bool) (k : Nat) : Nat := (((row G).take k).filter p).length
theorem cntK_le (G : Nat) (p : Int → Bool) (k : Nat) : cntK G p k ≤ 5 := by
  unfold cntK
  refine Nat.le_trans (List.length_filter_le _ _) ?_
  rw [List.length_take]
  exact Nat.le_trans (Nat.min_le_right _ _) (pop_le G)
theorem cntK_end (G : Nat) (p : Int → Bool) : cntK G p (pop G) = cntB G p := by
  unfold cntK cntB pop
  rw [List.take_length]
theorem cntK_succ (G : Nat) (p : Int → Bool) {k : Nat} (h : k < pop G) : cntK G p (k + 1) = cntK G p k + if p ((row G).getD k 0) = true then 1 else 0 := by
  unfold pop at h
  unfold cntK
  have e : (row G).getD k 0 = (row G)[k] := by simp [List.getD, h]
  rw [List.take_succ_eq_append_getElem h, List.filter_append, List.length_append, e]
  by_cases hp : p (row G)[k] = true
  · simp [hp]
  · simp [hp]

set_option maxRecDepth 100000 in
set_option maxHeartbeats 4000000 in
theorem most_has (G X : Nat) (hG : G < 32) (hX : X < 32) (w : World) :
    Calls Tryd.prog 42 #[.int .u8 (G : Int), .func (.func 41) #[.int .u8 (X : Int)] #[]] w fun e w' => e = .returned (.bool (mostB G (inG X))) ∧ Below w.heap.size w w' := by
  obtain ⟨g, hg⟩ : ∃ g, w.heap.size = g := ⟨_, rfl⟩
  have SZ := Lib.hid (fun W => size_any G hG W)
  have P5 : pop G ≤ 5 := pop_le5 ⟨G, hG⟩
  have C0 : Hid (cntK G (inG X) 0 = 0) := Lib.hid rfl
  obtain ⟨c, hc⟩ : ∃ c, cntB G (inG X) = c := ⟨_, rfl⟩
  have CE : Hid (cntK G (inG X) (pop G) = c) := Lib.hid ((cntK_end _ _).trans hc)
  rw [show mostB G (inG X) = decide (pop G < 2 * c) by unfold mostB; rw [hc]]
  clear hc
  have CS := Lib.hid (fun k (hk : k < pop G) => cntK_succ G (inG X) hk)
  have CL := Lib.hid (fun k => cntK_le G (inG X) k)
  obtain ⟨W1, hW1⟩ : ∃ W1, (w.alloc (.cells #[.func (.func 41) #[.int .u8 (X : Int)] #[]] 67)).alloc (.cells #[.int .i64 0] 3) = W1 := ⟨_, rfl⟩
  have E0 : Blk W1 g 67 #[.func (.func 41) #[.int .u8 (X : Int)] #[]] := by rw [← hW1, ← hg]; exact (Blk.new _ _ _).alloc _
  have E1 : Blk W1 (g + 1) 3 #[.int .i64 0] := by rw [← hW1, ← hg]; exact Blk.fresh (by simp)
  have EB : Below g w W1 := by rw [← hW1, ← hg]; exact ((Below.refl _ _).alloc (Nat.le_refl _) _).alloc (by simp) _
  have ES : W1.heap.size = g + 2 := by rw [← hW1, ← hg]; simp
  subst hW1
  refine (callsIn_wide (n := 9)).1 ?_
  refine callsIn_of_wp_marks Tryd.func42 rfl trivial ?_ rfl
  simp only [Tryd.ntmps42, List.size_toArray, List.length_cons, List.length_nil, Nat.reduceAdd, Nat.reduceSub, Array.replicate_succ, Array.replicate_zero, List.push_toArray, List.append_toArray, List.nil_append, List.cons_append]
  refine wpIn_wide.2 ?_
  go_upto_region 2 with (fail)
  generalize (w.alloc (.cells #[.func (.func 41) #[.int .u8 (X : Int)] #[]] 67)).alloc (.cells #[.int .i64 0] 3) = W1 at *
  go_wp2_with (go_at_call 46; refine (numbers_any _ _).mono ?_; rintro e w' ⟨rfl, rfl⟩)
  refine (wpIn_wide (n := 9)).1 ?_
  obtain ⟨W2, hW2⟩ : ∃ W2, W1.alloc (.cells #[.int .u8 (G : Int)] 65) = W2 := ⟨_, rfl⟩
  have b3 : Blk W2 (g + 2) 65 #[.int .u8 (G : Int)] := by rw [← hW2]; exact Blk.fresh ES.symm
  have hb12 : Below W1.heap.size W1 W2 := by rw [← hW2]; exact (Below.refl _ _).alloc (Nat.le_refl _) _
  have F0 := E0.below hb12 E0.lt
  have F1 := E1.below hb12 E1.lt
  have FB : Below g w W2 := EB.trans (hb12.mono (by omega))
  have hs2 : W2.heap.size = g + 3 := by rw [← hW2]; simp; omega
  try rw [hW2]
  clear hW2 hb12 E0 E1 EB
  refine wpIn_rangeFunc_mem rfl (by omega) (gf := 52) (lb := #[.pointer (some ⟨g + 2, 0, none⟩)]) rfl trivial (enters_of Tryd.func52 (by kernel_rfl) rfl)
    (numbers1_mem 8 (by omega) G hG g (g + 2) W2 (by omega) b3) (by omega) (by omega) (fun _ => rfl)
    (fun k W => Blk W g 67 #[.func (.func 41) #[.int .u8 (X : Int)] #[]] ∧ Blk W (g + 1) 3 #[.int .i64 (cntK G (inG X) k : Nat)] ∧ Below g w W)
    (fun _ _ _ => False)
    (fun k X Y hs hb => ⟨hs.1.below hb (by omega), hs.2.1.below hb (by omega), hs.2.2.trans (hb.mono (by omega))⟩)
    (fun _ _ _ _ hs _ => hs) ⟨F0, by rw [C0.out]; exact F1, FB⟩
    (fun k a W => ∃ v2 v4 v7 v8 v9 v10 v11 v12 v13 v14 v15 v16 v17 v18 v19 : Value, a = { tmps := #[.int .u8 (G : Int), .func (.func 41) #[.int .u8 (X : Int)] #[], v2, .pointer (some ⟨g, 0, none⟩), v4, .pointer (some ⟨g + 1, 0, none⟩), .int .i64 ((row G).getD k 0), v7, v8, v9, v10, v11, v12, v13, v14, v15, v16, v17, v18, v19], defers := [] })
    (fun k a X r o o' hs hr ho => hs) ?assign ?body ?done ?stop
  case assign =>
    intro l k W hI hsz hk
    simp only [rwE]
    gi_wp2
    exact ⟨Fixed.refl _ _ _, hI, _, _, _, _, _, _, _, _, _, _, _, _, _, _, _, rfl⟩
  case body =>
    rintro l k a1 W ⟨i0, i1, i2⟩ ⟨v2, v4, v7, v8, v9, v10, v11, v12, v13, v14, v15, v16, v17, v18, v19, rfl⟩ hsz hk
    have d0 : W.cell? ⟨g, 0, none⟩ = some (.func (.func 41) #[.int .u8 (X : Int)] #[]) := i0.cell 0
    have cs := CS.out k hk
    have cl := CL.out k
    have HA := has_any X hX ((row G).getD k 0)
    generalize (row G).getD k 0 = z at *
    obtain ⟨c1, h1⟩ : ∃ c1, cntK G (inG X) (k + 1) = c1 := ⟨_, rfl⟩
    rw [h1] at cs
    have H1 := Lib.hid h1
    clear h1
    generalize cntK G (inG X) k = c0 at *
    have HK := Lib.hid HA
    clear HA
    generalize inG X z = b at *
    have e0 : W.cell? ⟨g + 1, 0, none⟩ = some (.int .i64 (c0 : Nat)) := i1.cell 0
    have f0 : W.frozen? ⟨g + 1, 0, none⟩ = false := i1.frozen 0
    cases b with
    | true =>
      gi_wp2_with (refine ⟨trivial, ?_⟩; gi_at_call 41; refine (CallsIn.inRound l (callsIn_wide.2 (HK.out _))).mono ?_; rintro e w5 ⟨rfl, rfl⟩)
      refine ⟨⟨(Below.refl _ _).setCell (p := ⟨g + 1, 0, none⟩) (by simp) _, fun j hj _ => Below.heap_setCell _ _ _ _ (by simp; omega)⟩, i0.far (by simp) _, ?_, i2.setCell (p := ⟨g + 1, 0, none⟩) (by simp) _⟩
      rw [H1.out, show c1 = c0 + 1 by simpa using cs, show ((c0 + 1 : Nat) : Int) = (c0 : Int) + 1 by omega]
      exact i1.set_ 0 _
    | false =>
      gi_wp2_with (refine ⟨trivial, ?_⟩; gi_at_call 41; refine (CallsIn.inRound l (callsIn_wide.2 (HK.out _))).mono ?_; rintro e w5 ⟨rfl, rfl⟩)
      refine ⟨Fixed.refl _ _ _, i0, ?_, i2⟩
      rw [H1.out, show c1 = c0 by simpa using cs]
      exact i1
  case stop => intro D c k W _ _ h _; exact h.elim
  case done =>
    rintro D W _ ⟨i0, i1, i2⟩ hD
    have CEE := CE.out
    have CL2 := CL.out (pop G)
    have SZ2 := SZ.out
    rw [CEE] at i1 CL2
    clear CE CL CS C0 SZ CEE
    have GO : ∀ W, Blk W (g + 1) 3 #[.int .i64 (c : Nat)] → W.cell? ⟨g + 1, 0, none⟩ = some (.int .i64 (c : Nat)) := fun W h => h.cell 0
    go_upto_region 6 with (fail)
    have i1 : Blk W.drew (g + 1) 3 #[.int .i64 (c : Nat)] := i1.drewN 1
    have i2 : Below g w W.drew := i2.drew
    have hKD : W.drew.heap[D]? = some (.deferred (some [])) := hD
    have x0 := GO _ i1
    refine wp_region_noPanic ?_
    refine wp_region_held_drew (S := fun w' => w'.cell? ⟨g + 1, 0, none⟩ = some (.int .i64 (c : Nat))) (by kernel_rfl) x0 (fun hHeld => ?_)
    refine take_d (i := 0) (d := 15) (v := ?v15) rfl rfl (by kernel_rfl) (by kernel_rfl) (by kernel_rfl) (fun _ _ _ h => h) (Or.inl ⟨by kernel_rfl, ?v15h⟩) hHeld ?v15n
    case v15h => (intro w hSw; (try dsimp only at hSw); go_split_ands; go_simp; (try exact rfl))
    try simp only [Act.put, List.setIfInBounds_toArray, List.set_cons_zero, List.set_cons_succ]
    refine take_d (i := 1) (d := 16) (v := ?v16) rfl rfl (by kernel_rfl) (by kernel_rfl) (by kernel_rfl) (fun _ _ _ h => h) (Or.inl ⟨by kernel_rfl, ?v16h⟩) hHeld ?v16n
    case v16h => (intro w hSw; (try dsimp only at hSw); go_split_ands; go_simp; (try exact rfl))
    try simp only [Act.put, List.setIfInBounds_toArray, List.set_cons_zero, List.set_cons_succ]
    refine take_d (i := 2) (d := 17) (v := ?v17) rfl rfl (by kernel_rfl) (by kernel_rfl) (by kernel_rfl) (fun _ _ _ h => h) (Or.inl ⟨by kernel_rfl, ?v17h⟩) hHeld ?v17n
    case v17h => (intro w hSw; (try dsimp only at hSw); go_split_ands; go_simp; (try exact rfl))
    try simp only [Act.put, List.setIfInBounds_toArray, List.set_cons_zero, List.set_cons_succ]
    refine wpAnyH_ready (rs := [3]) (by kernel_rfl) (by simp) ?_
    refine AllReadyH.cons rfl (fun K hK => ?_) AllReadyH.nil
    go_simp
    refine (SZ2 _).mono ?_
    rintro e w6 ⟨rfl, rfl⟩
    refine hK.out _ _ (x0) (fun hHeld => ?_)
    clear hK K
    try simp only [Act.put, List.setIfInBounds_toArray, List.set_cons_zero, List.set_cons_succ]
    refine take_d (i := 4) (d := 19) (v := ?v19) rfl rfl (by kernel_rfl) (by kernel_rfl) (by kernel_rfl) (fun _ _ _ h => h) (Or.inl ⟨by kernel_rfl, ?v19h⟩) hHeld ?v19n
    case v19h => (intro w hSw; (try dsimp only at hSw); go_split_ands; go_simp; (try exact rfl))
    try simp only [Act.put, List.setIfInBounds_toArray, List.set_cons_zero, List.set_cons_succ]
    refine take_d (i := 5) (d := 4) (v := ?v4) rfl rfl (by kernel_rfl) (by kernel_rfl) (by kernel_rfl) (fun _ _ _ h => h) (Or.inl ⟨by kernel_rfl, ?v4h⟩) hHeld ?v4n
    case v4h => (intro w hSw; (try dsimp only at hSw); go_split_ands; go_simp; (try exact rfl))
    try simp only [Act.put, List.setIfInBounds_toArray, List.set_cons_zero, List.set_cons_succ]
    refine wpAnyH_done (by kernel_rfl) ?_ _
    refine NoPanic.normal ?_
    go_wp2
    refine ⟨by simp, .inl ⟨_, _, rfl, run_takeDeferred hKD, ?_⟩⟩
    exact ⟨_, resT rfl _ _ (.bool (decide ((pop G : Int) < IntKind.i64.wrap (2 * (c : Int))))) rfl, ret_bool (decide_eq_decide.2 (by rw [IntKind.wrap_i64]; omega)), by rw [hg]; exact i2.trans (below_putObj _ _ (by omega))⟩

end Go.Proofs.YtfclppopelmdgaaDoor
