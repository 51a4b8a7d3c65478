/-
  A text, parsed.
-/
import Derived.Test.YtiipglmbfgmbbaaGreatDoorP45
import Derived.Test.YtiipglmbfgmbbaaGreatDoorPkQ
namespace Go.Proofs.YtiipglmbfgmbbaaGreatDoor
open Go.RowKit Go.Shelf
attribute [local go_sem] Oper.semAt_some

/-- A text's statements; or why it has none, and where. -/
def psF (n : Nat) (l : List UInt8) : Option (List Sm × Int × Nat) :=
  if (lexF l).2.1 ≠ 0 then some ([], (lexF l).2.1, (lexF l).2.2)
  else match stsF (lexF l).1 l.length 0 n 0 [] with
    | none => none
    | some (.ok ss) => some (ss, 0, 0)
    | some (.error (er, i)) => some ([], er, (tokAt (lexF l).1 l.length i).at_)
/-- What Parse answers. -/
def Prd (w : World) (l : List UInt8) (e : Ending) (w' : World) : Prop :=
  ∃ n ss er a A9 c9, psF n l = some (ss, er, a) ∧ e = .returned (.tuple #[.slice A9 ss.length c9, .agg #[.int .i64 er, .int .i64 (a : Int)]]) ∧ Sls w' w.heap.size A9 ss.length c9 ss ∧ Below w.heap.size w w'
theorem ret11 {tmps : Array Value} {w : World} {g : Nat} {v : Value} {e a : Int} (h2 : tmps.getD 2 undef = v) (h3 : tmps.getD 3 undef = .pointer (some ⟨g, 0, none⟩)) (hs : Blk w g 26 #[.int .i64 e, .int .i64 a]) :
    (results Tryz.f11 tmps).run Tryz.prog w = .ok (.tuple #[v, .agg #[.int .i64 e, .int .i64 a]]) w := by
  have hp' : tmps[2]?.getD undef = v := by simpa using h2
  have hp2' : tmps[3]?.getD undef = .pointer (some ⟨g, 0, none⟩) := by simpa using h3
  have c2 : w.cell? ⟨g, 0, none⟩ = some (.int .i64 e) := hs.cell 0
  have c3 : w.cell? ⟨g, 1, none⟩ = some (.int .i64 a) := hs.cell 1
  simp [results, Tryz.results11, hp', hp2', asAddr, go_sem, c2, c3]
theorem Sls.low {w : World} {D D' n c : Nat} {A : Option Addr} {l : List Sm} (h : Sls w D A n c l) (hD : D' ≤ D) : Sls w D' A n c l := by
  obtain ⟨vs, h1, h2⟩ := h
  exact ⟨vs, owns_low h1 hD, h2.low hD⟩
theorem Tryz.i75 : (Tryz.prog.info? 75).map (·.size) = some 6 := by kernel_rfl
theorem Tks.zero {w : World} {base n c : Nat} {A : Option Addr} {ts : List Tk} (h : Tks w base A n c ts) : Tks w 0 A n c ts := owns_low h (Nat.zero_le _)
set_option maxRecDepth 100000 in
set_option maxHeartbeats 4000000 in
theorem parse_any (l : List UInt8) (hl : l.length ≤ 1000000) (w : World) (hG : Gl w) (hP : Gp w) : Calls Tryz.prog 11 #[tx l] w (Prd w l) := by
  obtain ⟨g0, hg0⟩ : ∃ g, w.heap.size = g := ⟨_, rfl⟩
  have h0 : Below g0 w (w.alloc (.cells #[.int .i64 0, .int .i64 0] 26)) := by rw [← hg0]; exact (Below.refl _ _).alloc (Nat.le_refl _) _
  have H0 := Lib.hid h0
  have b0 : Hid (Blk (w.alloc (.cells #[.int .i64 0, .int .i64 0] 26)) g0 26 #[.int .i64 0, .int .i64 0]) := Lib.hid (by rw [← hg0]; exact Blk.new _ _ _)
  have h9 : 9 ≤ g0 := by rw [← hg0]; exact hG.lt
  have G1 := hG.below h0 h9
  have P1 := Lib.hid (hP.fq (Fq.of (q := 2) h0 (Nat.le_refl _)) (by omega) (Nat.le_refl _))
  have LX := lex_any l hl _ G1
  have LP : ∀ ts a, lexF l = (ts, 0, a) → ts.length ≤ 300 := fun ts a h => (lexF_plc h).2.1
  have hz1 : (w.alloc (.cells #[.int .i64 0, .int .i64 0] 26)).heap.size = g0 + 1 := by simp [hg0]
  obtain ⟨X, hX⟩ : ∃ X, lexF l = X := ⟨_, rfl⟩
  obtain ⟨ts, er, a⟩ := X
  rw [hX] at LX
  have HX := Lib.hid hX
  have LH := Lib.hid LX
  clear LX hG hP G1 h0
  unfold Prd
  rw [hg0]
  go_enter Tryz.func11, Tryz.ntmps11
  go_upto_region 1 with fail
  generalize w.alloc (.cells #[.int .i64 0, .int .i64 0] 26) = w1 at *
  go_upto_region 2 with (first
    | (go_at_call 13; refine LH.out.mono ?_; rintro e w2 ⟨A, n, c, rfl, hT, hb⟩; have T2 := Lib.hid hT; have B2 : Hid (Blk w2 g0 26 #[.int .i64 0, .int .i64 0]) := Lib.hid (b0.out.below hb b0.out.lt); have H2 := Lib.hid (H0.out.trans (hb.mono (by omega))); have P2 := Lib.hid (P1.out.fq (Fq.of (q := 2) hb (Nat.le_refl _)) (by omega) (Nat.le_refl _)); have hz2 := hb.size; clear hT hb)
    | ((with_reducible refine at_store (t := 26) ?_); have AL3 : Below w2.heap.size w2 (w2.alloc (.cells #[.int .i64 0, .int .i64 0] 26)) := (Below.refl _ _).alloc (Nat.le_refl _) _; have K3 : Blk (w2.alloc (.cells #[.int .i64 0, .int .i64 0] 26)) w2.heap.size 26 #[.int .i64 0, .int .i64 0] := Blk.new _ _ _; refine wpList_store_blk _ rfl 26 _ _ rfl w2.heap.size _ 26 [.int .i64 er, .int .i64 (a : Int)] rfl rfl K3 rfl Tryz.i26' (by simp [Value.oneCell']) ?_; intro w3 hb3 ho3; have K3' : Hid (Blk w3 w2.heap.size 26 #[.int .i64 er, .int .i64 (a : Int)]) := Lib.hid hb3; have Q3 := Lib.hid (AL3.trans (ho3.below (Nat.le_refl _))); clear hb3 ho3 AL3 K3))
  have T3 := Lib.hid (T2.out.below Q3.out)
  have B3 : Hid (Blk w3 g0 26 #[.int .i64 0, .int .i64 0]) := Lib.hid (B2.out.below Q3.out B2.out.lt)
  have H3 := Lib.hid (H2.out.trans (Q3.out.mono (by have := H2.out.size; omega)))
  have P3 := Lib.hid (P2.out.fq (Fq.of (q := 2) Q3.out (Nat.le_refl _)) (by omega) (Nat.le_refl _))
  have hz3 := K3'.out.lt
  have hg5 : g0 < w2.heap.size := B2.out.lt
  clear T2 B2 H2 P2 Q3 LH b0 H0 P1
  generalize w2.heap.size = g5 at *
  have x0 : w3.cell? ⟨g5, 0, none⟩ = some (.int .i64 er) := K3'.out.cell 0
  by_cases he : er = 0
  · subst he
    have hmany := LP _ _ HX.out
    have he0 : ((0 : Int) == 0) = true := rfl
    have hn : ts.length = n := T3.out.len
    subst hn
    have OP := Lib.hid (ops_any w3)
    go_upto_region 5 with (first
      | (go_at_call 27; refine OP.out.mono ?_; rintro e w4 ⟨rfl, hM, hb⟩; have M4 := Lib.hid hM; have Q4 := Lib.hid hb; clear hM hb)
      | ((with_reducible refine at_store (t := 75) ?_); have AL5 : Below w4.heap.size w4 (w4.alloc (.cells #[.slice none 0 0, .int .i64 0, .int .i64 0, .map none, .slice none 0 0, .int .i64 0] 75)) := (Below.refl _ _).alloc (Nat.le_refl _) _; have K5 : Blk (w4.alloc (.cells #[.slice none 0 0, .int .i64 0, .int .i64 0, .map none, .slice none 0 0, .int .i64 0] 75)) w4.heap.size 75 #[.slice none 0 0, .int .i64 0, .int .i64 0, .map none, .slice none 0 0, .int .i64 0] := Blk.new _ _ _; refine wpList_store_blk _ rfl 75 _ _ rfl w4.heap.size _ 75 [.slice A ts.length c, .int .i64 0, .int .i64 (l.length : Int), .map (some w3.heap.size), .slice none 0 0, .int .i64 0] rfl rfl K5 rfl Tryz.i75 (by simp [Value.oneCell']) ?_; intro w5 hb5 ho5; have K5' : Hid (Blk w5 w4.heap.size 75 #[.slice A ts.length c, .int .i64 0, .int .i64 (l.length : Int), .map (some w3.heap.size), .slice none 0 0, .int .i64 0]) := Lib.hid hb5; have Q5 := Lib.hid (AL5.trans (ho5.below (Nat.le_refl _))); clear hb5 ho5 AL5 K5))
    have Q35 := Lib.hid (Q4.out.trans (Q5.out.mono Q4.out.size))
    have hs34 : w3.heap.size < w4.heap.size := (Array.getElem?_eq_some_iff.1 M4.out).1
    have hs45 := K5'.out.lt
    have T5 := T3.out.below Q35.out
    have S5 : Hid (Sx w5 w5.heap.size w4.heap.size A c ts l.length w3.heap.size 0 0 none 0 0) := Lib.hid ⟨⟨K5'.out, T5.zero, fun k hk => (World.ownsRow.lt T5 k hk).2, hs45, Nat.le_refl _, Nat.zero_le _, hmany⟩, (Q5.out.block _ (by omega)).trans M4.out, by omega, by omega⟩
    have P5 := Lib.hid (P3.out.fq (Fq.of (q := 2) Q35.out (Nat.le_refl _)) (by omega) (Nat.le_refl _))
    have B5 : Hid (Blk w5 g0 26 #[.int .i64 0, .int .i64 0]) := Lib.hid (B3.out.below Q35.out B3.out.lt)
    have H5 := Lib.hid (H3.out.trans (Q35.out.mono (by have := H3.out.size; omega)))
    have SH := Lib.hid (stmts_any w5 w5.heap.size w4.heap.size A c ts l.length w3.heap.size 0 0 none 0 0 S5.out P5.out (by omega) (by omega) (by omega))
    clear T5
    go_wp2_with (first
      | (go_at_call 28; refine SH.out.mono ?_; rintro e w6 ⟨n6, y6, hy, hF, hm⟩; have XY := Lib.hid hy; have B6 : Hid (Blk w6 g0 26 #[.int .i64 0, .int .i64 0]) := Lib.hid ((hF.block g0 (by omega) (by omega)).trans B5.out); have H6 : Hid (Below g0 w w6) := Lib.hid (H5.out.trans ⟨hF.os, hF.tape, hF.output, hF.size, fun i hi => hF.block i (by omega) (by omega)⟩); have hs56 := hF.size; clear hy hF; rcases y6 with ⟨er6, i6⟩ | ss6 <;> first | (obtain ⟨A9, c9, rfl, hS⟩ := hm; have SS := Lib.hid hS; clear hS) | (obtain rfl := hm))
      | ((with_reducible refine at_store (t := 26) ?_); refine wpList_store_blk _ rfl 26 _ _ rfl g0 _ 26 [.int .i64 0, .int .i64 0] rfl rfl B6.out rfl Tryz.i26' (by simp [Value.oneCell']) ?_; intro w8 hb8 ho8; have HS := SS.out; have X8 := Lib.hid hb8; have H8 := Lib.hid (H6.out.trans (ho8.below (Nat.le_refl _))); have O8 := Lib.hid ho8; clear hb8 ho8)
      | ((with_reducible refine at_store (t := 26) ?_); refine wpList_store_blk _ rfl 26 _ _ rfl g0 _ 26 [.int .i64 er6, .int .i64 ((tokAt ts l.length i6).at_ : Int)] rfl rfl B6.out rfl Tryz.i26' (by simp [Value.oneCell']) ?_; intro w8 hb8 ho8; have X8 := Lib.hid hb8; have H8 := Lib.hid (H6.out.trans (ho8.below (Nat.le_refl _))); clear hb8 ho8))
    · exact bodyPost_ret (ret11 rfl rfl X8.out) rfl ⟨n6, [], er6, (tokAt ts l.length i6).at_, none, 0, by unfold psF; rw [HX.out, if_neg (by simp)]; simp only [XY.out], rfl, ⟨[], ⟨rfl, .inl ⟨rfl, rfl⟩⟩, rfl⟩, H8.out⟩
    · have ks : ∀ t : TypeId, t ≠ 26 → Kt t w6 w8 := fun t ht => Kt.only O8.out B6.out ht
      exact bodyPost_ret (ret11 rfl rfl X8.out) rfl ⟨n6, ss6, 0, 0, A9, c9, by unfold psF; rw [HX.out, if_neg (by simp)]; simp only [XY.out], rfl, (HS.kt (ks 38 (by decide)) ⟨ks 62 (by decide), ks 65 (by decide), ks 53 (by decide), ks 109 (by decide)⟩).low (by omega), H8.out⟩
  · have he0 : (er == 0) = false := by simp [he]
    have he1 : (er != 0) = true := by simp [he]
    go_upto_region 3 with fail
    have K3d : Hid (Blk w3.drew g5 26 #[.int .i64 er, .int .i64 (a : Int)]) := Lib.hid K3'.out
    have B3d : Hid (Blk w3.drew g0 26 #[.int .i64 0, .int .i64 0]) := Lib.hid B3.out
    have H3d : Hid (Below g0 w w3.drew) := Lib.hid (H3.out.trans (below_drewN' g0 w3 1))
    refine wp_region_noPanic ?_
    refine wp_region_held_drew (S := fun w' => w'.cell? ⟨g5, 0, none⟩ = some (.int .i64 er) ∧ w'.cell? ⟨g5, 1, none⟩ = some (.int .i64 (a : Int))) (by kernel_rfl) ⟨K3d.out.cell 0, K3d.out.cell 1⟩ (fun hHeld => ?_)
    generalize w3.drew = w4 at *
    refine take_d (i := 0) (d := 15) (v := ?pa15) rfl rfl (by kernel_rfl) (by kernel_rfl) (by kernel_rfl) (fun _ _ _ h => h) (Or.inl ⟨by kernel_rfl, ?pa15h⟩) hHeld ?pa15n
    case pa15h => (intro w hSw; (try dsimp only at hSw); go_split_ands; go_simp; (try exact rfl))
    try simp only [Act.put, List.setIfInBounds_toArray, List.set_cons_zero, List.set_cons_succ]
    refine take_d (i := 1) (d := 2) (v := ?pa2) rfl rfl (by kernel_rfl) (by kernel_rfl) (by kernel_rfl) (fun _ _ _ h => h) (Or.inl ⟨by kernel_rfl, ?pa2h⟩) hHeld ?pa2n
    case pa2h => (intro w hSw; (try dsimp only at hSw); go_split_ands; go_simp; (try exact rfl))
    try simp only [Act.put, List.setIfInBounds_toArray, List.set_cons_zero, List.set_cons_succ]
    refine wpAnyH_ready (rs := [2]) (by kernel_rfl) (by simp) ?_
    refine AllReadyH.cons rfl (fun K hK => ?_) AllReadyH.nil
    refine wp_store_none rfl 26 _ _ rfl g0 #[.int .i64 0, .int .i64 0] 26 [.int .i64 er, .int .i64 (a : Int)] rfl rfl B3d.out rfl Tryz.i26' (by simp [Value.oneCell']) ?_
    intro w8 hb8 ho8
    have X8 := Lib.hid hb8
    have K8 : Hid (Blk w8 g5 26 #[.int .i64 er, .int .i64 (a : Int)]) := Lib.hid (ho8.keep K3d.out (by omega))
    have H8 := Lib.hid (H3d.out.trans (ho8.below (by omega)))
    refine hK.out _ _ ⟨K8.out.cell 0, K8.out.cell 1⟩ (fun hHeld => ?_)
    clear hK K hb8 ho8
    try simp only [Act.put, List.setIfInBounds_toArray, List.set_cons_zero, List.set_cons_succ]
    refine wpAnyH_done (by kernel_rfl) ?_ _
    refine NoPanic.normal ?_
    go_wp2_with fail
    exact bodyPost_ret (ret11 rfl rfl X8.out) rfl ⟨0, [], er, a, none, 0, by unfold psF; rw [HX.out, if_pos he], rfl, ⟨[], ⟨rfl, .inl ⟨rfl, rfl⟩⟩, rfl⟩, H8.out⟩
end Go.Proofs.YtiipglmbfgmbbaaGreatDoor
