/-
  The law ConfReach: its walk.
-/
import Derived.Test.YtfclppopelmdgaaDoorE6
import Derived.Test.YtfclppopelmdgaaDoorLS
namespace Go.Proofs.YtfclppopelmdgaaDoor
open Go.RowKit
attribute [local go_sem ↓] field27

/-- A list of how far that came in. -/
structure Mrg (w : World) (A : Option Addr) (n c : Nat) (l : List (Int × Int)) : Prop where
  mt : Mt w w.heap.size A n l
  nc : n ≤ c
  nil : A = none → c = 0
  cm : c ≤ 9223372036854775807
theorem agr_wrong {X : List Int} (h : rightC X = false) (L : List (Int × Int)) : agr X L = 0 := by
  unfold rightC at h
  unfold agr
  rw [show grp X = 0 by simpa using h]
  rfl
theorem agr_right {X : List Int} (h : rightC X = true) (L : List (Int × Int)) : rAg X L X.length = agr X L := rAg_right (by unfold rightC at h; simpa using h) L
theorem wp_append_own_none {P : Program} {w : World} {o : Oper} {a : Act} {K : Act → World → Prop} {Q : Exit → Act → World → Prop} (s x : Operand) (t : TypeId)
    (ho : o.op = .call { callee := .builtin .append, args := #[s, x], argTypes := #[t, t] })
    (base : Nat) (e : TypeId) (i : TypeInfo) (size : Nat) (ht : P.underlying t = some (.slice e)) (hi : P.info? e = some i)
    (v : Value) (n : Nat) (xs : List Value) (hs : a.eval s = v) (hown : w.ownsRow base e size v n xs) (hx : a.eval x = .slice none 0 0)
    (h : K (a.put o.dst v) w) : Oper.wp P o a w K Q := by
  have hrun := run_append_owned_none (P := P) (w := w) base t o.type e i size ht hi v n xs hown
  unfold Oper.wp
  simp [execOp, ho, resolve, invoke, builtin, hs, hx, hrun, Result.andThen]
  exact h
/-- append of pairs at a step of a region that draws. -/
theorem step_append_mt {w : World} {ops : Array Oper} {E : Prop} {o : Oper} {a : Act} {K : Act → World → Prop} {Q : Exit → Act → World → Prop} (hw : Region.wanted o (yielded ops a.tmps) = true) (s x : Operand)
    (ho : o.op = .call { callee := .builtin .append, args := #[s, x], argTypes := #[37, 37] }) (base : Nat) (A : Option Addr) (n c : Nat) (zs : List (Int × Int)) (hs : a.eval s = .slice A n c) (hown : Mos w base A n c zs)
    (B : Nat) (A' : Option Addr) (m d : Nat) (ys : List (Int × Int)) (hx : a.eval x = .slice A' m d) (hr : Mt w B A' m ys) (hd : A' = none → d = 0) (hsum : n + m ≤ 1000000) (hbase : base ≤ w.heap.size)
    (h : ∀ A2 c2 w', Mos w' base A2 (n + m) c2 (zs ++ ys) → w.grownBy w' (Value.slice A n c).ownBlock → K (a.put o.dst (.slice A2 (n + m) c2)) w') : if Region.wanted o (yielded ops a.tmps) = true then Oper.wp Tryd.prog o a w K Q else E := by
  obtain ⟨i0, hi, hz0, hz1, hz2⟩ := info_parts Tryd.info59
  rw [if_pos hw]
  cases A' with
  | none =>
    obtain ⟨rfl, rfl⟩ := hr.zero
    rw [hd rfl] at hx
    refine wp_append_own_none s x 37 ho base 59 i0 2 Tryd.underlying37 hi _ n _ hs hown.1 hx ?_
    have := h A c w (by rw [List.append_nil]; exact hown) (World.grownBy.refl _ _)
    exact this
  | some ad =>
    refine wp_append_own w s x 37 ho base 59 i0 _ 2 16 Tryd.underlying37 hi hz0 hz1 hz2 rfl (by decide) _ n _ hs hown.1 ad m d (mrow ys) hx (by rw [mrow_len, hr.1]) hr.news (mrow_one _) (by unfold maxLen; omega) (by omega) hbase ?_
    intro v' w' hown' hg _
    rw [← mrow_append] at hown'
    obtain ⟨A2, c2, rfl, ho2⟩ := mos_of_row hown' (hown.2.app hr.2.1)
    exact h A2 c2 w' ho2 hg

set_option maxRecDepth 100000 in
set_option maxHeartbeats 8000000 in
theorem reach_walk (A : Option Addr) (n c : Nat) (A1 : Option Addr) (n1 c1 : Nat) (xs : List Int) (l : List (Int × Int)) (w : World)
    (h0 : Arg w A n c xs) (h1 : Mrg w A1 n1 c1 l) (hG : Gl w) :
    Calls Tryd.prog 4 #[.agg #[.slice A n c], .slice A1 n1 c1] w fun e w' => e = .returned (.bool true) ∧ Below w.heap.size w w' := by
  obtain ⟨g, hg⟩ : ∃ g, w.heap.size = g := ⟨_, rfl⟩
  obtain ⟨m, hm⟩ : ∃ m : Nat, (min (n1 : Int) 60).toNat = m := ⟨_, rfl⟩
  have m1 : m ≤ n1 := by omega
  have m2 : m ≤ 60 := by omega
  have hmi : min (n1 : Int) 60 = (m : Int) := by omega
  have mc : (m : Int) ≤ (c1 : Int) := by have := h1.nc; omega
  have m0 : (0 : Int) ≤ (m : Int) := by omega
  have c63 : (c1 : Int) ≤ 9223372036854775807 := by have := h1.cm; omega
  have F0 := Lib.hid (fun W (hW : Below g w W) => h0.few (by rw [hg]; exact hW))
  have MT := Lib.hid (fun W (hW : Below g w W) => (show Mt W g A1 m (l.take m) from (by rw [← hg]; exact (h1.mt.take m1).below (by rw [hg]; exact hW))))
  have GW := Lib.hid (fun W (hW : Below g w W) => hG.below hW (by have := hG.lt; omega))
  have WK := Lib.hid (fun W (hW : Below g w W) => wakes_any W (GW.out W hW))
  have GS := Lib.hid hg
  have HN := Lib.hid h1.nil
  have HMI := Lib.hid hmi
  have N1 : Hid (A1 = none → n1 = 0) := Lib.hid (fun e => by subst e; exact h1.mt.zero.1)
  have BA : Hid (Blk (w.alloc (.cells #[.slice A n c] 27)) g 27 #[.slice A n c]) := Lib.hid (by rw [← hg]; exact Blk.new _ _ _)
  have HB : Hid (Below g w (w.alloc (.cells #[.slice A n c] 27))) := Lib.hid (by rw [← hg]; exact (Below.refl _ _).alloc (Nat.le_refl _) _)
  generalize l.take m = L at *
  have n63 : (n1 : Int) ≤ 9223372036854775807 := by have := h1.nc; omega
  have hsl : ∀ W : World, (Instr.slice 37 (.slice A1 n1 c1) none (some (.int .i64 (m : Int))) none).run Tryd.prog W = .ok (.slice A1 m c1) W := fun W => by
    cases A1 with
    | none =>
      have e1 := HN.out rfl
      have e2 := N1.out rfl
      subst e1 e2
      obtain rfl : m = 0 := by omega
      go_simp
    | some a =>
      go_simp
  clear h0 h1 hG hm N1
  go_enter Tryd.func4, Tryd.ntmps4
  go_upto_region 1 with (fail)
  generalize w.alloc (.cells #[.slice A n c] 27) = u0 at *
  clear hg
  go_upto_region 3 with (go_at_call 10; refine (WK.out _ HB.out).mono ?_; rintro e v0 ⟨rfl, hb⟩; have HB0 := Lib.hid (HB.out.trans (hb.mono (by rw [← GS.out]; exact HB.out.size))); have B00 := Lib.hid (BA.out.below hb BA.out.lt); have x0 : v0.cell? ⟨g, 0, none⟩ = some (.slice A n c) := B00.out.cell 0; clear hb HB BA)
  go_upto_region 4 with (go_at_call 12; refine (F0.out _ HB0.out).mono ?_; rintro e v1 ⟨P, p, q, rfl, ho, hp, hb⟩; have HB1 := Lib.hid (HB0.out.trans (hb.mono (by have := B00.out.lt; omega))); have B01 := Lib.hid (B00.out.below hb B00.out.lt); have x1 : v1.cell? ⟨g, 0, none⟩ = some (.slice A n c) := B01.out.cell 0; have f1 : v1.frozen? ⟨g, 0, none⟩ = false := B01.out.frozen 0; have O1 := Lib.hid ho; have P1 := Lib.hid hp; have Z1 : Hid (g < v0.heap.size) := Lib.hid B00.out.lt; have Z2 := Lib.hid hb.size; clear hb ho hp HB0 B00 x0)
  have B02 : Hid (Blk (v1.setCell ⟨g, 0, none⟩ (.slice P p q)) g 27 #[.slice P p q]) := Lib.hid (B01.out.set_ 0 _)
  have HB2 : Hid (Below g w (v1.setCell ⟨g, 0, none⟩ (.slice P p q))) := Lib.hid (HB1.out.setCell (p := ⟨g, 0, none⟩) (Nat.le_refl _) _)
  have O2 : Hid (Ios (v1.setCell ⟨g, 0, none⟩ (.slice P p q)) v0.heap.size P p q (xs.take 30)) := Lib.hid (O1.out.setFar (p := ⟨g, 0, none⟩) Z1.out _)
  generalize v1.setCell ⟨g, 0, none⟩ (.slice P p q) = v2 at *
  clear x1 f1 B01 HB1 O1
  have RG := Lib.hid (fun W (hW : Below v2.heap.size v2 W) => right_any P p q v2.heap.size (xs.take 30) W (O2.out.is_.1.below hW) (by have := P1.out; omega) hW.size)
  have RA := Lib.hid (fun W (hW : Below v2.heap.size v2 W) => refagreed_any A1 m c1 g L P p q v2.heap.size (xs.take 30) W (O2.out.is_.1.below hW) (by have := P1.out; omega) hW.size (MT.out W (HB2.out.trans (hW.mono (by have := B02.out.lt; omega)))) (by omega) (Nat.le_trans (Nat.le_of_lt B02.out.lt) hW.size))
  have AA := Lib.hid (fun A5 n5 c5 W (hW : Below v2.heap.size v2 W) (h5 : Mt W W.heap.size A5 n5 L) (hn5 : n5 ≤ 60) => agreed_any A5 n5 c5 W.heap.size L P p q v2.heap.size (xs.take 30) W (O2.out.is_.1.below hW) (by have := P1.out; omega) hW.size (GW.out W (HB2.out.trans (hW.mono (by have := B02.out.lt; omega)))) h5 (by omega) (Nat.le_refl _))
  have LP : Hid ((xs.take 30).length = p) := Lib.hid O2.out.is_.1.1
  have x2 : v2.cell? ⟨g, 0, none⟩ = some (.slice P p q) := B02.out.cell 0
  obtain ⟨X, hX⟩ : ∃ X, xs.take 30 = X := ⟨_, rfl⟩
  rw [hX] at O2 RG RA AA LP
  clear hX
  have RR := Lib.hid (Below.refl v2.heap.size v2)
  have SG : Hid (g < v2.heap.size) := Lib.hid B02.out.lt
  cases hr : rightC X with
  | true =>
    rw [hr] at RG
    have RAE : Hid (rAg X L p = agr X L) := Lib.hid (by rw [← LP.out]; exact agr_right hr L)
    rw [RAE.out] at RA
    clear hr
    go_upto_region 8 with (first
      | (go_at_call 13; refine (RG.out _ RR.out).mono ?_; rintro e v3 ⟨rfl, hb⟩; have B03 := Lib.hid (B02.out.below hb B02.out.lt); have x3 : v3.cell? ⟨g, 0, none⟩ = some (.slice P p q) := B03.out.cell 0; have R3 := Lib.hid hb; clear hb)
      | (go_at_call 22; refine (RA.out _ R3.out).mono ?_; rintro e v4 ⟨rfl, hb⟩; have B04 := Lib.hid (B03.out.below hb B03.out.lt); have R4 := Lib.hid (R3.out.trans (hb.mono R3.out.size)); clear hb))
    refine wp_region_noPanic ?_
    refine wp_region_held_drew (S := fun w' => w'.cell? ⟨g, 0, none⟩ = some (.slice P p q)) (by kernel_rfl) ((B04.out.drewN 1).cell 0) (fun hHeld => ?_)
    have B05 : Hid (Blk v4.drew g 27 #[.slice P p q]) := Lib.hid (B04.out.drewN 1)
    have R5 : Hid (Below v2.heap.size v2 v4.drew) := Lib.hid R4.out.drew
    generalize v4.drew = v5 at *
    refine take_d (i := 0) (d := 20) (v := ?q1z20) rfl rfl (by kernel_rfl) (by kernel_rfl) (by kernel_rfl) (fun _ _ _ h => h) (Or.inl ⟨by kernel_rfl, ?q1z20h⟩) hHeld ?q1z20n
    case q1z20h => (intro w hSw; (try dsimp only at hSw); go_split_ands; go_simp; (try exact rfl))
    try simp only [Act.put, List.setIfInBounds_toArray, List.set_cons_zero, List.set_cons_succ]
    refine take_d (i := 2) (d := 22) (v := ?q1z22) rfl rfl (by kernel_rfl) (by kernel_rfl) (by kernel_rfl) (fun _ _ _ h => h) (Or.inl ⟨by kernel_rfl, ?q1z22h⟩) hHeld ?q1z22n
    case q1z22h => (intro w hSw; (try dsimp only at hSw); go_split_ands; go_simp; (try exact rfl))
    try simp only [Act.put, List.setIfInBounds_toArray, List.set_cons_zero, List.set_cons_succ]
    refine take_d (i := 5) (d := 25) (v := ?q1z25) rfl rfl (by kernel_rfl) (by kernel_rfl) (by kernel_rfl) (fun _ _ _ h => h) (Or.inl ⟨by kernel_rfl, ?q1z25h⟩) hHeld ?q1z25n
    case q1z25h => (intro w hSw; (try dsimp only at hSw); go_split_ands; go_simp; (try exact rfl))
    try simp only [Act.put, List.setIfInBounds_toArray, List.set_cons_zero, List.set_cons_succ]
    refine wpAnyH_ready (rs := [1]) (by kernel_rfl) (by simp) ?_
    refine AllReadyH.cons rfl (fun K hK => ?_) AllReadyH.nil
    go_simp
    have hbb : Below v5.heap.size v5 (v5.alloc (.cells #[] 59)) := (Below.refl _ _).alloc (Nat.le_refl _) _
    have B06 := Lib.hid (B05.out.below hbb B05.out.lt)
    have R6 := Lib.hid (R5.out.trans (hbb.mono R5.out.size))
    have M6 := Lib.hid (Mos.made v5)
    have Z6 : Hid (v5.heap.size ≤ (v5.alloc (.cells #[] 59)).heap.size) := Lib.hid (by simp)
    have R56 := Lib.hid hbb
    refine hK.out _ _ (B06.out.cell 0) (fun hHeld => ?_)
    clear hK K hbb
    generalize v5.alloc (.cells #[] 59) = v6 at *
    try simp only [Act.put, List.setIfInBounds_toArray, List.set_cons_zero, List.set_cons_succ]
    refine wpAnyH_ready (rs := [3]) (by kernel_rfl) (by simp) ?_
    refine AllReadyH.cons rfl (fun K hK => ?_) AllReadyH.nil
    refine step_append_mt (by kernel_rfl) (.tmp 21) (.tmp 22) rfl v5.heap.size (some ⟨v5.heap.size, 0, none⟩) 0 0 [] rfl M6.out g A1 m c1 L rfl (MT.out _ (HB2.out.trans (R6.out.mono (by have := SG.out; omega)))) HN.out (by omega) Z6.out ?_
    intro A7 c7 v7 ho7 hg7
    rw [Nat.zero_add, List.nil_append] at ho7
    have hbb : Below v5.heap.size v5 v7 := by
      have h1 : Below v5.heap.size v5 v6 := R56.out
      exact h1.grown hg7 Z6.out (by intro k hk; simp [Value.ownBlock] at hk; omega)
    have B07 := Lib.hid (B05.out.below hbb B05.out.lt)
    have R7 := Lib.hid (R5.out.trans (hbb.mono R5.out.size))
    have M7 := Lib.hid ho7.mt.1
    rw [Nat.zero_add]
    refine hK.out _ _ (B07.out.cell 0) (fun hHeld => ?_)
    clear hK K hbb ho7 hg7
    try simp only [Act.put, List.setIfInBounds_toArray, List.set_cons_zero, List.set_cons_succ]
    refine wpAnyH_ready (rs := [4]) (by kernel_rfl) (by simp) ?_
    refine AllReadyH.cons rfl (fun K hK => ?_) AllReadyH.nil
    go_simp
    refine (AA.out A7 m c7 v7 R7.out M7.out (by omega)).mono ?_
    rintro e v8 ⟨rfl, hb⟩
    have B08 := Lib.hid (B07.out.below hb B07.out.lt)
    have R8 := Lib.hid (R7.out.trans (hb.mono R7.out.size))
    clear hb
    refine hK.out _ _ (B08.out.cell 0) (fun hHeld => ?_)
    clear hK K
    try simp only [Act.put, List.setIfInBounds_toArray, List.set_cons_zero, List.set_cons_succ]
    refine take_d (i := 6) (d := 26) (v := ?q1z26) rfl rfl (by kernel_rfl) (by kernel_rfl) (by kernel_rfl) (fun _ _ _ h => h) (Or.inl ⟨by kernel_rfl, ?q1z26h⟩) hHeld ?q1z26n
    case q1z26h => (intro w hSw; (try dsimp only at hSw); go_split_ands; go_simp; (try exact rfl))
    try simp only [Act.put, List.setIfInBounds_toArray, List.set_cons_zero, List.set_cons_succ]
    refine take_d (i := 7) (d := 4) (v := ?q1z4) rfl rfl (by kernel_rfl) (by kernel_rfl) (by kernel_rfl) (fun _ _ _ h => h) (Or.inl ⟨by kernel_rfl, ?q1z4h⟩) hHeld ?q1z4n
    case q1z4h => (intro w hSw; (try dsimp only at hSw); go_split_ands; go_simp; (try exact rfl))
    try simp only [Act.put, List.setIfInBounds_toArray, List.set_cons_zero, List.set_cons_succ]
    refine wpAnyH_done (by kernel_rfl) ?_ _
    refine NoPanic.normal ?_
    go_wp2
    go_ret
    exact ⟨ret_bool (by simp), by rw [GS.out]; exact HB2.out.trans (R8.out.mono (by have := SG.out; omega))⟩
  | false =>
    rw [hr] at RG
    have RAE : Hid (agr X L = 0) := Lib.hid (agr_wrong hr L)
    rw [RAE.out] at AA
    clear hr
    go_upto_region 8 with (go_at_call 13; refine (RG.out _ RR.out).mono ?_; rintro e v4 ⟨rfl, hb⟩; have B04 := Lib.hid (B02.out.below hb B02.out.lt); have R4 := Lib.hid hb; clear hb)
    refine wp_region_noPanic ?_
    refine wp_region_held_drew (S := fun w' => w'.cell? ⟨g, 0, none⟩ = some (.slice P p q)) (by kernel_rfl) ((B04.out.drewN 1).cell 0) (fun hHeld => ?_)
    have B05 : Hid (Blk v4.drew g 27 #[.slice P p q]) := Lib.hid (B04.out.drewN 1)
    have R5 : Hid (Below v2.heap.size v2 v4.drew) := Lib.hid R4.out.drew
    generalize v4.drew = v5 at *
    refine take_d (i := 0) (d := 20) (v := ?q2z20) rfl rfl (by kernel_rfl) (by kernel_rfl) (by kernel_rfl) (fun _ _ _ h => h) (Or.inl ⟨by kernel_rfl, ?q2z20h⟩) hHeld ?q2z20n
    case q2z20h => (intro w hSw; (try dsimp only at hSw); go_split_ands; go_simp; (try exact rfl))
    try simp only [Act.put, List.setIfInBounds_toArray, List.set_cons_zero, List.set_cons_succ]
    refine take_d (i := 2) (d := 22) (v := ?q2z22) rfl rfl (by kernel_rfl) (by kernel_rfl) (by kernel_rfl) (fun _ _ _ h => h) (Or.inl ⟨by kernel_rfl, ?q2z22h⟩) hHeld ?q2z22n
    case q2z22h => (intro w hSw; (try dsimp only at hSw); go_split_ands; go_simp; (try exact rfl))
    try simp only [Act.put, List.setIfInBounds_toArray, List.set_cons_zero, List.set_cons_succ]
    refine take_d (i := 5) (d := 25) (v := ?q2z25) rfl rfl (by kernel_rfl) (by kernel_rfl) (by kernel_rfl) (fun _ _ _ h => h) (Or.inl ⟨by kernel_rfl, ?q2z25h⟩) hHeld ?q2z25n
    case q2z25h => (intro w hSw; (try dsimp only at hSw); go_split_ands; go_simp; (try exact rfl))
    try simp only [Act.put, List.setIfInBounds_toArray, List.set_cons_zero, List.set_cons_succ]
    refine wpAnyH_ready (rs := [1]) (by kernel_rfl) (by simp) ?_
    refine AllReadyH.cons rfl (fun K hK => ?_) AllReadyH.nil
    go_simp
    have hbb : Below v5.heap.size v5 (v5.alloc (.cells #[] 59)) := (Below.refl _ _).alloc (Nat.le_refl _) _
    have B06 := Lib.hid (B05.out.below hbb B05.out.lt)
    have R6 := Lib.hid (R5.out.trans (hbb.mono R5.out.size))
    have M6 := Lib.hid (Mos.made v5)
    have Z6 : Hid (v5.heap.size ≤ (v5.alloc (.cells #[] 59)).heap.size) := Lib.hid (by simp)
    have R56 := Lib.hid hbb
    refine hK.out _ _ (B06.out.cell 0) (fun hHeld => ?_)
    clear hK K hbb
    generalize v5.alloc (.cells #[] 59) = v6 at *
    try simp only [Act.put, List.setIfInBounds_toArray, List.set_cons_zero, List.set_cons_succ]
    refine wpAnyH_ready (rs := [3]) (by kernel_rfl) (by simp) ?_
    refine AllReadyH.cons rfl (fun K hK => ?_) AllReadyH.nil
    refine step_append_mt (by kernel_rfl) (.tmp 21) (.tmp 22) rfl v5.heap.size (some ⟨v5.heap.size, 0, none⟩) 0 0 [] rfl M6.out g A1 m c1 L rfl (MT.out _ (HB2.out.trans (R6.out.mono (by have := SG.out; omega)))) HN.out (by omega) Z6.out ?_
    intro A7 c7 v7 ho7 hg7
    rw [Nat.zero_add, List.nil_append] at ho7
    have hbb : Below v5.heap.size v5 v7 := by
      have h1 : Below v5.heap.size v5 v6 := R56.out
      exact h1.grown hg7 Z6.out (by intro k hk; simp [Value.ownBlock] at hk; omega)
    have B07 := Lib.hid (B05.out.below hbb B05.out.lt)
    have R7 := Lib.hid (R5.out.trans (hbb.mono R5.out.size))
    have M7 := Lib.hid ho7.mt.1
    rw [Nat.zero_add]
    refine hK.out _ _ (B07.out.cell 0) (fun hHeld => ?_)
    clear hK K hbb ho7 hg7
    try simp only [Act.put, List.setIfInBounds_toArray, List.set_cons_zero, List.set_cons_succ]
    refine wpAnyH_ready (rs := [4]) (by kernel_rfl) (by simp) ?_
    refine AllReadyH.cons rfl (fun K hK => ?_) AllReadyH.nil
    go_simp
    refine (AA.out A7 m c7 v7 R7.out M7.out (by omega)).mono ?_
    rintro e v8 ⟨rfl, hb⟩
    have B08 := Lib.hid (B07.out.below hb B07.out.lt)
    have R8 := Lib.hid (R7.out.trans (hb.mono R7.out.size))
    clear hb
    refine hK.out _ _ (B08.out.cell 0) (fun hHeld => ?_)
    clear hK K
    try simp only [Act.put, List.setIfInBounds_toArray, List.set_cons_zero, List.set_cons_succ]
    refine take_d (i := 6) (d := 26) (v := ?q2z26) rfl rfl (by kernel_rfl) (by kernel_rfl) (by kernel_rfl) (fun _ _ _ h => h) (Or.inl ⟨by kernel_rfl, ?q2z26h⟩) hHeld ?q2z26n
    case q2z26h => (intro w hSw; (try dsimp only at hSw); go_split_ands; go_simp; (try exact rfl))
    try simp only [Act.put, List.setIfInBounds_toArray, List.set_cons_zero, List.set_cons_succ]
    refine take_d (i := 7) (d := 4) (v := ?q2z4) rfl rfl (by kernel_rfl) (by kernel_rfl) (by kernel_rfl) (fun _ _ _ h => h) (Or.inl ⟨by kernel_rfl, ?q2z4h⟩) hHeld ?q2z4n
    case q2z4h => (intro w hSw; (try dsimp only at hSw); go_split_ands; go_simp; (try exact rfl))
    try simp only [Act.put, List.setIfInBounds_toArray, List.set_cons_zero, List.set_cons_succ]
    refine wpAnyH_done (by kernel_rfl) ?_ _
    refine NoPanic.normal ?_
    go_wp2
    go_ret
    exact ⟨ret_bool (by simp), by rw [GS.out]; exact HB2.out.trans (R8.out.mono (by have := SG.out; omega))⟩

end Go.Proofs.YtfclppopelmdgaaDoor
