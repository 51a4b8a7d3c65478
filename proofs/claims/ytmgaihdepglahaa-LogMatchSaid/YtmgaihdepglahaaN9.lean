/-
  Entries handed on: the program's From.
-/
import Derived.Test.YtmgaihdepglahaaK4
namespace Go.Proofs.Ytmgaihdepglahaa
open Go.RowKit

theorem ret24x {fn : Func} {p u v : Tmp} (h : fn.results = #[.cell p 24, .tmp u, .tmp v]) (tmps : Array Value) (w : World) (g : Nat) (a b x y : Value)
    (hp : tmps.getD p undef = .pointer (some ⟨g, 0, none⟩)) (hx : tmps.getD u undef = x) (hy : tmps.getD v undef = y) (hg : Blk w g 24 #[a, b]) : (results fn tmps).run Try.prog w = .ok (.tuple #[.agg #[a, b], x, y]) w := by
  subst hx hy
  have d0 : w.cell? ⟨g, 0, none⟩ = some a := hg.cell 0
  have d1 : w.cell? ⟨g, 1, none⟩ = some b := hg.cell 1
  have hp' : tmps[p]?.getD undef = .pointer (some ⟨g, 0, none⟩) := by simpa using hp
  simp [results, h, hp', go_sem, d0, d1]
/-- What From answers. -/
def fromE (l : Lg) (i n : Int) : Int := if spotE l (subw i) ≠ 0 then spotE l (subw i) else if n < 0 then 2 else 0
def fromI (l : Lg) (i n : Int) : Int := if fromE l i n = 0 then subw i else 0
def fromT (l : Lg) (i n : Int) : Int := if fromE l i n = 0 then spotT l (subw i) else 0
def fromL (l : Lg) (i n : Int) : List En := if fromE l i n = 0 then (l.es.drop (spotN l (subw i))).take n.toNat else []
def Lfr (w : World) (I T er : Int) (es : List En) (e : Ending) (w' : World) : Prop := ∃ A m c, e = .returned (.tuple #[.agg #[.int .u64 I, .int .u64 T], .slice A m c, .int .i64 er]) ∧ Eo w' w.heap.size A m c es ∧ Below w.heap.size w w'
theorem from_bad {l : Lg} {i n : Int} (h : fromE l i n ≠ 0) : fromI l i n = 0 ∧ fromT l i n = 0 ∧ fromL l i n = [] := ⟨if_neg h, if_neg h, if_neg h⟩
theorem from_ok {l : Lg} {i n : Int} (h : fromE l i n = 0) : fromI l i n = subw i ∧ fromT l i n = spotT l (subw i) ∧ fromL l i n = (l.es.drop (spotN l (subw i))).take n.toNat := ⟨if_pos h, if_pos h, if_pos h⟩
theorem Es.part {w : World} {B B' n k m : Nat} {A : Option Addr} {es : List En} (h : Es w B A n es) (hk : k ≤ n) (hm : m ≤ n - k) (hB : B ≤ B') : Es w B' (if m = 0 then A else A.map (·.add (k * 3))) m ((es.drop k).take m) := by
  by_cases h0 : m = 0
  · subst h0
    rw [if_pos rfl, List.take_zero]
    exact Es.none_
  · have := h.cut (k := k) (m := m) (c := n + 1) hm hk (by omega)
    rw [if_neg (by omega)] at this
    rw [if_neg h0]
    exact this.more hB

set_option linter.unusedSimpArgs false in
set_option maxRecDepth 100000 in
set_option maxHeartbeats 4000000 in
theorem From_any (l : Lg) (A : Option Addr) (n c B : Nat) (w : World) (h : Lr w B A n c l) (hB : B ≤ w.heap.size) (i q : Int) :
    Calls Try.prog 32 #[.agg #[.int .u64 l.bi, .int .u64 l.bt, .slice A n c], .int .u64 i, .int .i64 q] w (Lfr w (fromI l i q) (fromT l i q) (fromE l i q) (fromL l i q)) := by
  obtain ⟨g, hg⟩ : ∃ g, w.heap.size = g := ⟨_, rfl⟩
  have hBg : B ≤ g := by omega
  have SP := Lib.hid (fun W (hW : Below g w W) => spot_anyT l A n c B W (h.below (hW.mono hBg)) (by have := hW.size; omega) (subw i) (subw_lt i).1 (subw_lt i).2)
  have hOK : spotE l (subw i) = 0 → spotN l (subw i) ≤ n ∧ spotI l (subw i) = subw i := fun e => ⟨by have := numB_some (subw_lt i).1 (subw_lt i).2 (spot_ok e).2.1; rw [h.len] at this; exact this.1, (spot_ok e).2.2.1⟩
  have H := Lib.hid h
  have HL := Lib.hid h.len
  have e1 : IntKind.u64.wrap (i - 1) = subw i := by rw [IntKind.wrap_u64]; rfl
  have hE : fromE l i q = if spotE l (subw i) ≠ 0 then spotE l (subw i) else if q < 0 then 2 else 0 := rfl
  have hbad := @from_bad l i q
  have hok := @from_ok l i q
  generalize fromE l i q = FE at *
  generalize fromI l i q = FI at *
  generalize fromT l i q = FT at *
  generalize fromL l i q = FL at *
  generalize spotE l (subw i) = E at *
  generalize spotI l (subw i) = I at *
  generalize spotT l (subw i) = T at *
  generalize spotN l (subw i) = k at *
  obtain ⟨bi, bt, es⟩ := l
  simp only at SP hOK hok HL ⊢
  have hnc := h.nc
  clear h
  have B11 := Lib.hid (show Blk (((w.alloc (.cells #[.int .u64 bi, .int .u64 bt, .slice A n c] 27)).alloc (.cells #[.int .u64 0, .int .u64 0] 24)).alloc (.cells #[.int .u64 bi, .int .u64 bt, .slice A n c] 81)) (g + 1) 24 #[.int .u64 0, .int .u64 0] from hg ▸ (Blk.fresh (by simp)).alloc _)
  have B21 := Lib.hid (show Blk (((w.alloc (.cells #[.int .u64 bi, .int .u64 bt, .slice A n c] 27)).alloc (.cells #[.int .u64 0, .int .u64 0] 24)).alloc (.cells #[.int .u64 bi, .int .u64 bt, .slice A n c] 81)) (g + 2) 81 #[.int .u64 bi, .int .u64 bt, .slice A n c] from hg ▸ Blk.fresh (by simp))
  have HB1 := Lib.hid (show Below g w (((w.alloc (.cells #[.int .u64 bi, .int .u64 bt, .slice A n c] 27)).alloc (.cells #[.int .u64 0, .int .u64 0] 24)).alloc (.cells #[.int .u64 bi, .int .u64 bt, .slice A n c] 81)) from hg ▸ (((Below.refl _ _).alloc (Nat.le_refl _) _).alloc (by simp) _).alloc (by simp; omega) _)
  have C3 : Hid (∀ W, Blk W (g + 2) 81 #[.int .u64 bi, .int .u64 bt, .slice A n c] → W.cell? ⟨g + 2, 0, none⟩ = some (.int .u64 bi) ∧ W.cell? ⟨g + 2, 1, none⟩ = some (.int .u64 bt) ∧ W.cell? ⟨g + 2, 2, none⟩ = some (.slice A n c)) := fun W hb => ⟨hb.cell 0, hb.cell 1, hb.cell 2⟩
  by_cases hE0 : E = 0
  rotate_left
  · have hE1 : (E == 0) = false := by simp [hE0]
    have hE2 : (E != 0) = true := by simp [hE0]
    rw [if_pos hE0] at hE
    obtain ⟨rfl, rfl, rfl⟩ := hbad (by rw [hE]; exact hE0)
    subst hE
    clear hok hOK hbad hE0
    go_enter Try.func32, Try.ntmps32
    go_wp2
    refine wp_scope_jumps 0 (fun a W => (Blk W (g + 1) 24 #[.int .u64 0, .int .u64 0] ∧ Below g w W) ∧ ∃ v0 v1 v2 v3 v4 v5 v7 v8 v9 v10 v11 v13 v14 v15 v16 v17 v18 v19 v20 v21 v22 v23 v24 v25 v26 v27 v28 v29 v30 v31 v32 v33 v34 : Value, a = { tmps := #[v0, v1, v2, v3, v4, v5, .pointer (some ⟨g + 1, 0, none⟩), v7, v8, v9, v10, v11, .int .i64 FE, v13, v14, v15, v16, v17, v18, v19, v20, v21, v22, v23, v24, v25, v26, v27, v28, v29, v30, v31, v32, v33, v34], defers := [] }) (fun _ _ => 0) rfl ?first ?pass
    case pass =>
      rintro a W ⟨⟨hb4, hbW⟩, v0, v1, v2, v3, v4, v5, v7, v8, v9, v10, v11, v13, v14, v15, v16, v17, v18, v19, v20, v21, v22, v23, v24, v25, v26, v27, v28, v29, v30, v31, v32, v33, v34, rfl⟩
      have d0 : W.cell? ⟨g + 1, 0, none⟩ = some (.int .u64 0) := hb4.cell 0
      have d1 : W.cell? ⟨g + 1, 1, none⟩ = some (.int .u64 0) := hb4.cell 1
      have f0 : W.frozen? ⟨g + 1, 0, none⟩ = false := hb4.frozen 0
      have f1 : W.frozen? ⟨g + 1, 1, none⟩ = false := hb4.frozen 1
      go_wp2
      exact bodyPost_ret (ret24x rfl _ _ (g + 1) _ _ _ _ rfl rfl rfl ((hb4.set_ 0 _).set_ 1 _)) rfl ⟨none, 0, 0, rfl, Eo.nothing _ _, by rw [hg]; exact (hbW.setCell (p := ⟨g + 1, 0, none⟩) (by simp) _).setCell (p := ⟨g + 1, 1, none⟩) (by simp) _⟩
    case first =>
      go_wp2_with (go_at_call 50; refine (SP.out _ HB1.out).mono ?_; rintro e w2 ⟨rfl, hb2⟩; have B12 := Lib.hid (B11.out.below hb2 B11.out.lt); have B22 := Lib.hid (B21.out.below hb2 B21.out.lt); have HB2 := Lib.hid (HB1.out.trans (hb2.mono (by have := B11.out.lt; omega))); clear hb2)
      go_step3
      exact ⟨rfl, ⟨B12.out.alloc _, HB2.out.alloc (by have := B12.out.lt; omega) _⟩, _, _, _, _, _, _, _, _, _, _, _, _, _, _, _, _, _, _, _, _, _, _, _, _, _, _, _, _, _, _, _, _, _, rfl⟩
  subst hE0
  obtain ⟨hkn, hI⟩ := hOK rfl
  rw [hI] at SP
  clear hI hOK
  rw [if_neg (by simp)] at hE
  by_cases hq : q < 0
  · have hq' : decide (q < 0) = true := decide_eq_true hq
    rw [if_pos hq] at hE
    obtain ⟨rfl, rfl, rfl⟩ := hbad (by rw [hE]; decide)
    subst hE
    clear hok hbad hq
    go_enter Try.func32, Try.ntmps32
    go_wp2
    refine wp_scope_jumps 0 (fun a W => (Blk W (g + 1) 24 #[.int .u64 0, .int .u64 0] ∧ Below g w W) ∧ ∃ v0 v1 v2 v3 v4 v5 v7 v8 v9 v10 v11 v13 v14 v15 v16 v17 v18 v19 v20 v21 v22 v23 v24 v25 v26 v27 v28 v29 v30 v31 v32 v33 v34 : Value, a = { tmps := #[v0, v1, v2, v3, v4, v5, .pointer (some ⟨g + 1, 0, none⟩), v7, v8, v9, v10, v11, .int .i64 2, v13, v14, v15, v16, v17, v18, v19, v20, v21, v22, v23, v24, v25, v26, v27, v28, v29, v30, v31, v32, v33, v34], defers := [] }) (fun _ _ => 0) rfl ?first ?pass
    case pass =>
      rintro a W ⟨⟨hb4, hbW⟩, v0, v1, v2, v3, v4, v5, v7, v8, v9, v10, v11, v13, v14, v15, v16, v17, v18, v19, v20, v21, v22, v23, v24, v25, v26, v27, v28, v29, v30, v31, v32, v33, v34, rfl⟩
      have d0 : W.cell? ⟨g + 1, 0, none⟩ = some (.int .u64 0) := hb4.cell 0
      have d1 : W.cell? ⟨g + 1, 1, none⟩ = some (.int .u64 0) := hb4.cell 1
      have f0 : W.frozen? ⟨g + 1, 0, none⟩ = false := hb4.frozen 0
      have f1 : W.frozen? ⟨g + 1, 1, none⟩ = false := hb4.frozen 1
      go_wp2
      exact bodyPost_ret (ret24x rfl _ _ (g + 1) _ _ _ _ rfl rfl rfl ((hb4.set_ 0 _).set_ 1 _)) rfl ⟨none, 0, 0, rfl, Eo.nothing _ _, by rw [hg]; exact (hbW.setCell (p := ⟨g + 1, 0, none⟩) (by simp) _).setCell (p := ⟨g + 1, 1, none⟩) (by simp) _⟩
    case first =>
      go_wp2_with (go_at_call 50; refine (SP.out _ HB1.out).mono ?_; rintro e w2 ⟨rfl, hb2⟩; have B12 := Lib.hid (B11.out.below hb2 B11.out.lt); have B22 := Lib.hid (B21.out.below hb2 B21.out.lt); have HB2 := Lib.hid (HB1.out.trans (hb2.mono (by have := B11.out.lt; omega))); clear hb2)
      go_step3
      exact ⟨rfl, ⟨B12.out.alloc _, HB2.out.alloc (by have := B12.out.lt; omega) _⟩, _, _, _, _, _, _, _, _, _, _, _, _, _, _, _, _, _, _, _, _, _, _, _, _, _, _, _, _, _, _, _, _, _, rfl⟩
  · have hq' : decide (q < 0) = false := decide_eq_false hq
    rw [if_neg hq] at hE
    obtain ⟨hFI, hFT, hFL⟩ := hok hE
    rw [hFI, hFT, hFL, hE]
    obtain ⟨m, hm⟩ : ∃ m, min q.toNat (n - k) = m := ⟨_, rfl⟩
    have hn1000 := H.out.n
    have hmin : min q ((n : Int) - (k : Int)) = (m : Int) := by omega
    have htk : (es.drop k).take q.toNat = (es.drop k).take m := by
      by_cases hc : q.toNat ≤ n - k
      · rw [show m = q.toNat by omega]
      · rw [List.take_of_length_le (by rw [List.length_drop, HL.out]; omega), List.take_of_length_le (by rw [List.length_drop, HL.out]; omega)]
    rw [htk]
    have k0 : (0 : Int) ≤ (k : Int) := by omega
    have BH := Lib.hid (fun W => behind_any bi bt A n c k m q W hkn hnc hmin (by omega))
    have CL := Lib.hid (fun W (hW : Below g w W) => cloned_any (if m = 0 then A else A.map (·.add (k * 3))) m m W.heap.size ((es.drop k).take m) W (Es.part (H.out.es.below (hW.mono hBg)) hkn (by omega) (by have := hW.size; omega)) (by omega) (Nat.le_refl _))
    generalize (if m = 0 then A else A.map (·.add (k * 3))) = A9 at *
    clear hok hbad hq hm htk hFI hFT hFL hE FI FT FL
    go_enter Try.func32, Try.ntmps32
    go_wp2
    go_step3
    go_wp2_with (go_at_call 50; refine (SP.out _ HB1.out).mono ?_; rintro e w2 ⟨rfl, hb2⟩; have B12 := Lib.hid (B11.out.below hb2 B11.out.lt); have B22 := Lib.hid (B21.out.below hb2 B21.out.lt); have HB2 := Lib.hid (HB1.out.trans (hb2.mono (by have := B11.out.lt; omega))); clear hb2)
    have hb23 : Below w2.heap.size w2 (w2.alloc (.cells #[.int .u64 (subw i), .int .u64 T] 24)).drew := ((Below.refl _ _).alloc (Nat.le_refl _) _).drew
    have B13 := Lib.hid (B12.out.below hb23 B12.out.lt)
    have B23 := Lib.hid (B22.out.below hb23 B22.out.lt)
    have B33 : Hid (Blk (w2.alloc (.cells #[.int .u64 (subw i), .int .u64 T] 24)).drew w2.heap.size 24 #[.int .u64 (subw i), .int .u64 T]) := Lib.hid ((Blk.new _ _ _).drewN 1)
    have HB3 := Lib.hid (HB2.out.trans (hb23.mono (by have := B12.out.lt; omega)))
    have P3 : Hid (g + 2 < w2.heap.size) := Lib.hid B22.out.lt
    have HD : Hid (∀ W, Blk W (g + 2) 81 #[.int .u64 bi, .int .u64 bt, .slice A n c] → Blk W w2.heap.size 24 #[.int .u64 (subw i), .int .u64 T] → (W.cell? ⟨g + 2, 0, none⟩ = some (.int .u64 bi) ∧ W.cell? ⟨g + 2, 1, none⟩ = some (.int .u64 bt) ∧ W.cell? ⟨g + 2, 2, none⟩ = some (.slice A n c)) ∧ W.cell? ⟨w2.heap.size, 0, none⟩ = some (.int .u64 (subw i)) ∧ W.cell? ⟨w2.heap.size, 1, none⟩ = some (.int .u64 T)) := fun W h1 h2 => ⟨C3.out _ h1, h2.cell 0, h2.cell 1⟩
    have hS0 := HD.out _ B23.out B33.out
    clear hb23
    refine wp_region_noPanic ?_
    refine wp_region_held_drew (S := fun w' => (w'.cell? ⟨g + 2, 0, none⟩ = some (.int .u64 bi) ∧ w'.cell? ⟨g + 2, 1, none⟩ = some (.int .u64 bt) ∧ w'.cell? ⟨g + 2, 2, none⟩ = some (.slice A n c)) ∧ w'.cell? ⟨w2.heap.size, 0, none⟩ = some (.int .u64 (subw i)) ∧ w'.cell? ⟨w2.heap.size, 1, none⟩ = some (.int .u64 T)) (by kernel_rfl) hS0 (fun hHeld => ?_)
    generalize (w2.alloc (.cells #[.int .u64 (subw i), .int .u64 T] 24)).drew = w3 at *
    generalize w2.heap.size = p3 at *
    refine take_d (i := 0) (d := 27) (v := ?c27) rfl rfl (by kernel_rfl) (by kernel_rfl) (by kernel_rfl) (fun _ _ _ h => h) (Or.inl ⟨by kernel_rfl, ?c27h⟩) hHeld ?c27n
    case c27h => (intro w hSw; (try dsimp only at hSw); go_split_ands; go_simp; (try exact rfl))
    try simp only [Act.put, List.setIfInBounds_toArray, List.set_cons_zero, List.set_cons_succ]
    refine take_d (i := 1) (d := 28) (v := ?c28) rfl rfl (by kernel_rfl) (by kernel_rfl) (by kernel_rfl) (fun _ _ _ h => h) (Or.inl ⟨by kernel_rfl, ?c28h⟩) hHeld ?c28n
    case c28h => (intro w hSw; (try dsimp only at hSw); go_split_ands; go_simp; (try exact rfl))
    try simp only [Act.put, List.setIfInBounds_toArray, List.set_cons_zero, List.set_cons_succ]
    refine take_d (i := 2) (d := 29) (v := ?c29) rfl rfl (by kernel_rfl) (by kernel_rfl) (by kernel_rfl) (fun _ _ _ h => h) (Or.inl ⟨by kernel_rfl, ?c29h⟩) hHeld ?c29n
    case c29h => (intro w hSw; (try dsimp only at hSw); go_split_ands; go_simp; (try exact rfl))
    try simp only [Act.put, List.setIfInBounds_toArray, List.set_cons_zero, List.set_cons_succ]
    refine take_d (i := 3) (d := 30) (v := ?c30) rfl rfl (by kernel_rfl) (by kernel_rfl) (by kernel_rfl) (fun _ _ _ h => h) (Or.inl ⟨by kernel_rfl, ?c30h⟩) hHeld ?c30n
    case c30h => (intro w hSw; (try dsimp only at hSw); go_split_ands; go_simp; (try exact rfl))
    try simp only [Act.put, List.setIfInBounds_toArray, List.set_cons_zero, List.set_cons_succ]
    refine wpAnyH_ready (rs := [4]) (by kernel_rfl) (by simp) ?_
    refine AllReadyH.cons rfl (fun K hK => ?_) AllReadyH.nil
    go_simp
    refine (BH.out _).mono ?_
    rintro e w4 ⟨rfl, hb4⟩
    have B14 := Lib.hid (B13.out.below hb4 B13.out.lt)
    have B24 := Lib.hid (B23.out.below hb4 B23.out.lt)
    have B34 := Lib.hid (B33.out.below hb4 B33.out.lt)
    have HB4 := Lib.hid (HB3.out.trans (hb4.mono (by have := B13.out.lt; omega)))
    clear hb4
    refine hK.out _ _ (HD.out _ B24.out B34.out) (fun hHeld => ?_)
    clear hK K
    try simp only [Act.put, List.setIfInBounds_toArray, List.set_cons_zero, List.set_cons_succ]
    refine wpAnyH_ready (rs := [5]) (by kernel_rfl) (by simp) ?_
    refine AllReadyH.cons rfl (fun K hK => ?_) AllReadyH.nil
    go_simp
    refine (CL.out _ HB4.out).mono ?_
    rintro e w5 ⟨A5, c5, rfl, ho5, hb5⟩
    have B15 := Lib.hid (B14.out.below hb5 B14.out.lt)
    have B25 := Lib.hid (B24.out.below hb5 B24.out.lt)
    have B35 := Lib.hid (B34.out.below hb5 B34.out.lt)
    have HB5 := Lib.hid (HB4.out.trans (hb5.mono (by have := B14.out.lt; omega)))
    have HO5 := Lib.hid (ho5.down (show g ≤ w4.heap.size by have := B14.out.lt; omega))
    clear ho5 hb5
    refine hK.out _ _ (HD.out _ B25.out B35.out) (fun hHeld => ?_)
    clear hK K
    try simp only [Act.put, List.setIfInBounds_toArray, List.set_cons_zero, List.set_cons_succ]
    refine wpAnyH_ready (rs := [6]) (by kernel_rfl) (by simp) ?_
    refine AllReadyH.cons rfl (fun K hK => ?_) AllReadyH.nil
    refine wp_store_blk 24 _ _ rfl (g + 1) #[.int .u64 0, .int .u64 0] 24 [.int .u64 (subw i), .int .u64 T] rfl rfl B15.out rfl Try.i24 (by simp [Value.oneCell']) ?_
    intro w6 hb6 ho6
    have B16 := Lib.hid hb6
    have B26 := Lib.hid (ho6.keep B25.out (by omega))
    have B36 := Lib.hid (ho6.keep B35.out (by have := P3.out; omega))
    have HB6 := Lib.hid (HB5.out.trans (ho6.below (by omega)))
    have HO6 := Lib.hid (HO5.out.only B15.out (by decide) (by decide) ho6)
    clear hb6 ho6
    refine hK.out _ _ (HD.out _ B26.out B36.out) (fun hHeld => ?_)
    clear hK K
    try simp only [Act.put, List.setIfInBounds_toArray, List.set_cons_zero, List.set_cons_succ]
    refine take_d (i := 7) (d := 7) (v := ?c7) rfl rfl (by kernel_rfl) (by kernel_rfl) (by kernel_rfl) (fun _ _ _ h => h) (Or.inl ⟨by kernel_rfl, ?c7h⟩) hHeld ?c7n
    case c7h => (intro w hSw; (try dsimp only at hSw); go_split_ands; go_simp; (try exact rfl))
    try simp only [Act.put, List.setIfInBounds_toArray, List.set_cons_zero, List.set_cons_succ]
    refine take_d (i := 8) (d := 8) (v := ?c8) rfl rfl (by kernel_rfl) (by kernel_rfl) (by kernel_rfl) (fun _ _ _ h => h) (Or.inl ⟨by kernel_rfl, ?c8h⟩) hHeld ?c8n
    case c8h => (intro w hSw; (try dsimp only at hSw); go_split_ands; go_simp; (try exact rfl))
    try simp only [Act.put, List.setIfInBounds_toArray, List.set_cons_zero, List.set_cons_succ]
    refine wpAnyH_done (by kernel_rfl) ?_ _
    refine NoPanic.normal ?_
    go_wp2
    all_goals exact bodyPost_ret (ret24x rfl _ _ (g + 1) _ _ _ _ rfl rfl rfl B16.out) rfl ⟨A5, m, c5, rfl, by rw [hg]; exact HO6.out, by rw [hg]; exact HB6.out⟩

/-- May a log be? -/
theorem may_any (l : Lg) (A : Option Addr) (n c B : Nat) (w : World) (h : Lr w B A n c l) (hB : B ≤ w.heap.size) :
    Calls Try.prog 42 #[.agg #[.int .u64 l.bi, .int .u64 l.bt, .slice A n c]] w fun e w' => e = .returned (.bool (right l)) ∧ Below w.heap.size w w' := by
  have CK := Lib.hid (fun W (hW : Below B w W) => Check_any l A n c B W (h.below hW) (Nat.le_trans hB hW.size) 18446744073709551615)
  have hE : right l = (checkE l 18446744073709551615 == 0) := by
    unfold checkE
    have hT := (h.T01 (k := n) (Nat.le_refl _)).2
    have hTT : l.lastT = l.T n := by unfold Lg.lastT; rw [h.len]
    cases right l with
    | false => rfl
    | true => rw [if_neg (by simp), if_neg (by rw [hTT]; omega)]; rfl
  rw [hE]
  generalize checkE l 18446744073709551615 = E at *
  obtain ⟨bi, bt, es⟩ := l
  simp only at CK ⊢
  clear h hE
  have HB := Lib.hid (show Below w.heap.size w (w.alloc (.cells #[.int .u64 bi, .int .u64 bt, .slice A n c] 27)) from (Below.refl _ _).alloc (Nat.le_refl _) _)
  go_enter Try.func42, Try.ntmps42
  go_wp2_with (go_at_call 40; refine (CK.out _ (HB.out.mono hB)).mono ?_; rintro e w1 ⟨rfl, hb1⟩; have HB1 := Lib.hid (HB.out.trans (hb1.mono HB.out.size)); clear hb1)
  go_ret
  exact ⟨rfl, HB1.out⟩

end Go.Proofs.Ytmgaihdepglahaa
