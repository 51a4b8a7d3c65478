/-
  Logs cut, and given up at their beginning: the program's Cut, Compact.
-/
import Derived.Test.YtmgaihdepglahaaN6
namespace Go.Proofs.Ytmgaihdepglahaa
open Go.RowKit

theorem Es.behind {w : World} {B B' n k : Nat} {A : Option Addr} {es : List En} (h : Es w B A n es) (hk : k ≤ n) (hB : B ≤ B') : Es w B' (if n - k = 0 then A else A.map (·.add (k * 3))) (n - k) (es.drop k) := by
  by_cases h0 : n - k = 0
  · rw [if_pos h0, h0, List.drop_eq_nil_of_le (by rw [h.len]; omega)]
    exact Es.none_
  · have := h.cut (k := k) (m := n - k) (c := n + 1) (Nat.le_refl _) hk (by omega)
    rw [if_neg (by omega), List.take_of_length_le (by rw [List.length_drop, h.len]; exact Nat.le_refl _)] at this
    rw [if_neg h0]
    exact this.more hB
def subw (i : Int) : Int := (i - 1) % 18446744073709551616
theorem subw_lt (i : Int) : 0 ≤ subw i ∧ subw i < 18446744073709551616 := by unfold subw; omega
/-- What Cut, Compact leave. -/
def pCutL (l : Lg) (j : Int) : Lg := if spotE l j = 0 then ⟨l.bi, l.bt, l.es.take (spotN l j)⟩ else lg0
def pComL (l : Lg) (i : Int) : Lg := if spotE l i = 0 then ⟨i, spotT l i, l.es.drop (spotN l i)⟩ else lg0
theorem spot_ok {l : Lg} {i : Int} (h : spotE l i = 0) : right l = true ∧ l.num i = some (spotN l i) ∧ spotI l i = i ∧ spotT l i = l.T (spotN l i) := by
  have h0 := h
  unfold spotE at h
  by_cases hr : right l = true
  · rw [if_pos hr] at h
    cases hn : l.num i with
    | none => rw [hn] at h; simp at h
    | some k => exact ⟨hr, by simp [spotN, h0, hn], by simp [spotI, h0], by simp [spotT, spotN, h0, hn]⟩
  · rw [if_neg hr] at h
    cases h

set_option linter.unusedSimpArgs false in
set_option maxRecDepth 100000 in
set_option maxHeartbeats 2000000 in
theorem Cut_any (l : Lg) (A : Option Addr) (n c B : Nat) (w : World) (h : Lr w B A n c l) (hB : B ≤ w.heap.size) (i : Int) :
    Calls Try.prog 22 #[.agg #[.int .u64 l.bi, .int .u64 l.bt, .slice A n c], .int .u64 i] w (Lge w (pCutL l (subw i)) (.int .i64 (spotE l (subw i)))) := by
  obtain ⟨g, hg⟩ : ∃ g, w.heap.size = g := ⟨_, rfl⟩
  have hBg : B ≤ g := by omega
  have SP := Lib.hid (fun W (hW : Below g w W) => spot_anyT l A n c B W (h.below (hW.mono hBg)) (by have := hW.size; omega) (subw i) (subw_lt i).1 (subw_lt i).2)
  have hOK : spotE l (subw i) = 0 → spotN l (subw i) ≤ n ∧ spotI l (subw i) = (subw i) ∧ spotT l (subw i) = l.T (spotN l (subw i)) := fun e => ⟨by have := numB_some (subw_lt i).1 (subw_lt i).2 (spot_ok e).2.1; rw [h.len] at this; exact this.1, (spot_ok e).2.2.1, (spot_ok e).2.2.2⟩
  have H := Lib.hid h
  unfold pCutL
  have e1 : IntKind.u64.wrap (i - 1) = subw i := by rw [IntKind.wrap_u64]; rfl
  generalize spotE l (subw i) = E at *
  generalize spotI l (subw i) = I at *
  generalize spotT l (subw i) = T at *
  generalize spotN l (subw i) = k at *
  obtain ⟨bi, bt, es⟩ := l
  simp only at SP hOK ⊢
  have hnc := h.nc
  clear h
  have b0 := Lib.hid (show Blk (((w.alloc (.cells #[.int .u64 bi, .int .u64 bt, .slice A n c] 27)).alloc (.cells #[.int .u64 0, .int .u64 0, .slice none 0 0] 27)).alloc (.cells #[.int .u64 bi, .int .u64 bt, .slice A n c] 81)) g 27 #[.int .u64 bi, .int .u64 bt, .slice A n c] from hg ▸ ((Blk.new w 27 _).alloc _).alloc _)
  have b1 := Lib.hid (show Blk (((w.alloc (.cells #[.int .u64 bi, .int .u64 bt, .slice A n c] 27)).alloc (.cells #[.int .u64 0, .int .u64 0, .slice none 0 0] 27)).alloc (.cells #[.int .u64 bi, .int .u64 bt, .slice A n c] 81)) (g + 1) 27 #[.int .u64 0, .int .u64 0, .slice none 0 0] from hg ▸ (Blk.fresh (by simp)).alloc _)
  have b2 := Lib.hid (show Blk (((w.alloc (.cells #[.int .u64 bi, .int .u64 bt, .slice A n c] 27)).alloc (.cells #[.int .u64 0, .int .u64 0, .slice none 0 0] 27)).alloc (.cells #[.int .u64 bi, .int .u64 bt, .slice A n c] 81)) (g + 2) 81 #[.int .u64 bi, .int .u64 bt, .slice A n c] from hg ▸ Blk.fresh (by simp))
  have HB := Lib.hid (show Below g w (((w.alloc (.cells #[.int .u64 bi, .int .u64 bt, .slice A n c] 27)).alloc (.cells #[.int .u64 0, .int .u64 0, .slice none 0 0] 27)).alloc (.cells #[.int .u64 bi, .int .u64 bt, .slice A n c] 81)) from hg ▸ (((Below.refl _ _).alloc (Nat.le_refl _) _).alloc (by simp) _).alloc (by simp; omega) _)
  have C3 : Hid (∀ W, Blk W (g + 2) 81 #[.int .u64 bi, .int .u64 bt, .slice A n c] → W.cell? ⟨g + 2, 0, none⟩ = some (.int .u64 bi) ∧ W.cell? ⟨g + 2, 1, none⟩ = some (.int .u64 bt) ∧ W.cell? ⟨g + 2, 2, none⟩ = some (.slice A n c)) := fun W hb => ⟨hb.cell 0, hb.cell 1, hb.cell 2⟩
  have C1 : Hid (∀ W, Blk W (g + 1) 27 #[.int .u64 0, .int .u64 0, .slice none 0 0] → (W.cell? ⟨g + 1, 0, none⟩ = some (.int .u64 0) ∧ W.cell? ⟨g + 1, 1, none⟩ = some (.int .u64 0) ∧ W.cell? ⟨g + 1, 2, none⟩ = some (.slice none 0 0)) ∧ W.frozen? ⟨g + 1, 0, none⟩ = false ∧ W.frozen? ⟨g + 1, 1, none⟩ = false ∧ W.frozen? ⟨g + 1, 2, none⟩ = false) := fun W hb => ⟨⟨hb.cell 0, hb.cell 1, hb.cell 2⟩, hb.frozen 0, hb.frozen 1, hb.frozen 2⟩
  by_cases hE : E = 0
  rotate_left
  · have hE1 : (E == 0) = false := by simp [hE]
    have hE2 : (E != 0) = true := by simp [hE]
    rw [if_neg hE]
    clear hOK
    go_enter Try.func22, Try.ntmps22
    go_wp2_with (go_at_call 50; refine (SP.out _ HB.out).mono ?_; rintro e w1 ⟨rfl, hb1⟩; have B1 := Lib.hid (b1.out.below hb1 b1.out.lt); have HB1 := Lib.hid (HB.out.trans (hb1.mono (by have := b1.out.lt; omega))); have hgl : g + 1 < w1.heap.size := B1.out.lt; obtain ⟨⟨x0, x1, x2⟩, f0, f1, f2⟩ := C1.out _ B1.out; clear hb1)
    exact bodyPost_ret (ret27t rfl _ _ (g + 1) _ _ _ _ rfl rfl ((((B1.out.set_ 0 _).set_ 1 _).set_ 2 _).alloc _)) rfl ⟨none, 0, 0, rfl, Eo.nothing _ _, by rw [hg]; exact (HB1.out.trans ((set3_only w1 (g + 1) _ _ _).below (by omega))).alloc (by simp [World.setCell]; omega) _⟩
  subst hE
  obtain ⟨hkn, hI, hT⟩ := hOK rfl
  rw [hI] at SP
  clear hI hOK
  rw [if_pos rfl]
  have CT := Lib.hid (fun W => cut_any bi bt A n c k W hkn hnc)
  have CL := Lib.hid (fun W (hW : Below g w W) => clone_any_log ⟨bi, bt, es.take k⟩ A k k B W (⟨(H.out.es.below (hW.mono hBg)).take hkn, Nat.le_refl _, (fun e => by have := H.out.nil e; omega), by have := H.out.n; omega, H.out.bi0, H.out.bi1, H.out.bt0, H.out.bt1⟩) (by have := hW.size; omega))
  clear hT
  go_enter Try.func22, Try.ntmps22
  go_wp2_with (first | (go_at_call 50; refine (SP.out _ HB.out).mono ?_; rintro e w1 ⟨rfl, hb1⟩; have B1 := Lib.hid (b1.out.below hb1 b1.out.lt); have B2 := Lib.hid (b2.out.below hb1 b2.out.lt); have HB1 := Lib.hid (HB.out.trans (hb1.mono (by have := b1.out.lt; omega))); have hgl : g + 2 < w1.heap.size := B2.out.lt; obtain ⟨x0, x1, x2⟩ := C3.out _ B2.out; clear hb1) | (go_at_call 51; refine (CT.out _).mono ?_; rintro e w2 ⟨rfl, hb2⟩; have hb12 := Below.trans ((Below.refl w1.heap.size w1).alloc (Nat.le_refl _) (.cells #[.int .u64 (subw i), .int .u64 T] 24)) (hb2.mono (by simp)); have B12 := Lib.hid (B1.out.below hb12 B1.out.lt); have HB2 := Lib.hid (HB1.out.trans (hb12.mono (by omega))); clear hb2 hb12 x0 x1 x2 hgl) | (go_at_call 53; refine (CL.out _ HB2.out).mono ?_; rintro e w3 ⟨A3, n3, c3, rfl, ho3, hb3⟩; have B13 := Lib.hid (B12.out.below hb3 B12.out.lt); have HB3 := Lib.hid (HB2.out.trans (hb3.mono (by have := B12.out.lt; omega))); have HO3 := Lib.hid (ho3.down (show g ≤ w2.heap.size by have := B12.out.lt; omega)); obtain ⟨⟨x0, x1, x2⟩, f0, f1, f2⟩ := C1.out _ B13.out; clear ho3 hb3))
  exact bodyPost_ret (ret27t rfl _ _ (g + 1) _ _ _ _ rfl rfl (((B13.out.set_ 0 _).set_ 1 _).set_ 2 _)) rfl ⟨A3, n3, c3, rfl, by rw [hg]; exact HO3.out.only27 B13.out (set3_only _ (g + 1) _ _ _), by rw [hg]; exact HB3.out.trans ((set3_only _ (g + 1) _ _ _).below (by omega))⟩

set_option linter.unusedSimpArgs false in
set_option maxRecDepth 100000 in
set_option maxHeartbeats 2000000 in
theorem Compact_any (l : Lg) (A : Option Addr) (n c B : Nat) (w : World) (h : Lr w B A n c l) (hB : B ≤ w.heap.size) (i : Int) (hi : 0 ≤ i) (hi' : i < 18446744073709551616) :
    Calls Try.prog 23 #[.agg #[.int .u64 l.bi, .int .u64 l.bt, .slice A n c], .int .u64 i] w (Lge w (pComL l i) (.int .i64 (spotE l i))) := by
  obtain ⟨g, hg⟩ : ∃ g, w.heap.size = g := ⟨_, rfl⟩
  have hBg : B ≤ g := by omega
  have SP := Lib.hid (fun W (hW : Below g w W) => spot_anyT l A n c B W (h.below (hW.mono hBg)) (by have := hW.size; omega) i hi hi')
  have hOK : spotE l i = 0 → spotN l i ≤ n ∧ spotI l i = i ∧ spotT l i = l.T (spotN l i) := fun e => ⟨by have := numB_some hi hi' (spot_ok e).2.1; rw [h.len] at this; exact this.1, (spot_ok e).2.2.1, (spot_ok e).2.2.2⟩
  have H := Lib.hid h
  unfold pComL
  skip
  generalize spotE l i = E at *
  generalize spotI l i = I at *
  generalize spotT l i = T at *
  generalize spotN l i = k at *
  obtain ⟨bi, bt, es⟩ := l
  simp only at SP hOK ⊢
  have hnc := h.nc
  clear h
  have b0 := Lib.hid (show Blk (((w.alloc (.cells #[.int .u64 bi, .int .u64 bt, .slice A n c] 27)).alloc (.cells #[.int .u64 0, .int .u64 0, .slice none 0 0] 27)).alloc (.cells #[.int .u64 bi, .int .u64 bt, .slice A n c] 81)) g 27 #[.int .u64 bi, .int .u64 bt, .slice A n c] from hg ▸ ((Blk.new w 27 _).alloc _).alloc _)
  have b1 := Lib.hid (show Blk (((w.alloc (.cells #[.int .u64 bi, .int .u64 bt, .slice A n c] 27)).alloc (.cells #[.int .u64 0, .int .u64 0, .slice none 0 0] 27)).alloc (.cells #[.int .u64 bi, .int .u64 bt, .slice A n c] 81)) (g + 1) 27 #[.int .u64 0, .int .u64 0, .slice none 0 0] from hg ▸ (Blk.fresh (by simp)).alloc _)
  have b2 := Lib.hid (show Blk (((w.alloc (.cells #[.int .u64 bi, .int .u64 bt, .slice A n c] 27)).alloc (.cells #[.int .u64 0, .int .u64 0, .slice none 0 0] 27)).alloc (.cells #[.int .u64 bi, .int .u64 bt, .slice A n c] 81)) (g + 2) 81 #[.int .u64 bi, .int .u64 bt, .slice A n c] from hg ▸ Blk.fresh (by simp))
  have HB := Lib.hid (show Below g w (((w.alloc (.cells #[.int .u64 bi, .int .u64 bt, .slice A n c] 27)).alloc (.cells #[.int .u64 0, .int .u64 0, .slice none 0 0] 27)).alloc (.cells #[.int .u64 bi, .int .u64 bt, .slice A n c] 81)) from hg ▸ (((Below.refl _ _).alloc (Nat.le_refl _) _).alloc (by simp) _).alloc (by simp; omega) _)
  have C3 : Hid (∀ W, Blk W (g + 2) 81 #[.int .u64 bi, .int .u64 bt, .slice A n c] → W.cell? ⟨g + 2, 0, none⟩ = some (.int .u64 bi) ∧ W.cell? ⟨g + 2, 1, none⟩ = some (.int .u64 bt) ∧ W.cell? ⟨g + 2, 2, none⟩ = some (.slice A n c)) := fun W hb => ⟨hb.cell 0, hb.cell 1, hb.cell 2⟩
  have C1 : Hid (∀ W, Blk W (g + 1) 27 #[.int .u64 0, .int .u64 0, .slice none 0 0] → (W.cell? ⟨g + 1, 0, none⟩ = some (.int .u64 0) ∧ W.cell? ⟨g + 1, 1, none⟩ = some (.int .u64 0) ∧ W.cell? ⟨g + 1, 2, none⟩ = some (.slice none 0 0)) ∧ W.frozen? ⟨g + 1, 0, none⟩ = false ∧ W.frozen? ⟨g + 1, 1, none⟩ = false ∧ W.frozen? ⟨g + 1, 2, none⟩ = false) := fun W hb => ⟨⟨hb.cell 0, hb.cell 1, hb.cell 2⟩, hb.frozen 0, hb.frozen 1, hb.frozen 2⟩
  by_cases hE : E = 0
  rotate_left
  · have hE1 : (E == 0) = false := by simp [hE]
    have hE2 : (E != 0) = true := by simp [hE]
    rw [if_neg hE]
    clear hOK
    go_enter Try.func23, Try.ntmps23
    go_wp2_with (go_at_call 50; refine (SP.out _ HB.out).mono ?_; rintro e w1 ⟨rfl, hb1⟩; have B1 := Lib.hid (b1.out.below hb1 b1.out.lt); have HB1 := Lib.hid (HB.out.trans (hb1.mono (by have := b1.out.lt; omega))); have hgl : g + 1 < w1.heap.size := B1.out.lt; obtain ⟨⟨x0, x1, x2⟩, f0, f1, f2⟩ := C1.out _ B1.out; clear hb1)
    exact bodyPost_ret (ret27t rfl _ _ (g + 1) _ _ _ _ rfl rfl ((((B1.out.set_ 0 _).set_ 1 _).set_ 2 _).alloc _)) rfl ⟨none, 0, 0, rfl, Eo.nothing _ _, by rw [hg]; exact (HB1.out.trans ((set3_only w1 (g + 1) _ _ _).below (by omega))).alloc (by simp [World.setCell]; omega) _⟩
  subst hE
  obtain ⟨hkn, hI, hT⟩ := hOK rfl
  rw [hI] at SP
  clear hI hOK
  rw [if_pos rfl]
  have hn1000 := H.out.n
  have k0 : (0 : Int) ≤ (k : Int) := by omega
  have BH := Lib.hid (fun W => behind_any bi bt A n c k (n - k) (n : Int) W hkn hnc (by omega) (by omega))
  have CL := Lib.hid (fun W (hW : Below g w W) => cloned_any (if n - k = 0 then A else A.map (·.add (k * 3))) (n - k) (n - k) W.heap.size (es.drop k) W (Es.behind (H.out.es.below (hW.mono hBg)) hkn (by have := hW.size; omega)) (by omega) (Nat.le_refl _))
  clear hT
  go_enter Try.func23, Try.ntmps23
  go_wp2_with (go_at_call 50; refine (SP.out _ HB.out).mono ?_; rintro e w1 ⟨rfl, hb1⟩; have B1 := Lib.hid (b1.out.below hb1 b1.out.lt); have B2 := Lib.hid (b2.out.below hb1 b2.out.lt); have HB1 := Lib.hid (HB.out.trans (hb1.mono (by have := b1.out.lt; omega))); clear hb1)
  have hb12 : Below w1.heap.size w1 (w1.alloc (.cells #[.int .u64 i, .int .u64 T] 24)).drew := ((Below.refl _ _).alloc (Nat.le_refl _) _).drew
  have B12 := Lib.hid (B1.out.below hb12 B1.out.lt)
  have B22 := Lib.hid (B2.out.below hb12 B2.out.lt)
  have HB2 := Lib.hid (HB1.out.trans (hb12.mono (by have := B1.out.lt; omega)))
  have B82 : Hid (Blk (w1.alloc (.cells #[.int .u64 i, .int .u64 T] 24)).drew w1.heap.size 24 #[.int .u64 i, .int .u64 T]) := Lib.hid ((Blk.new w1 24 _).drewN 1)
  have P8 : Hid (g + 3 ≤ w1.heap.size) := Lib.hid (by have := B2.out.lt; omega)
  have HD : Hid (∀ W, Blk W (g + 2) 81 #[.int .u64 bi, .int .u64 bt, .slice A n c] → Blk W w1.heap.size 24 #[.int .u64 i, .int .u64 T] → (W.cell? ⟨g + 2, 0, none⟩ = some (.int .u64 bi) ∧ W.cell? ⟨g + 2, 1, none⟩ = some (.int .u64 bt) ∧ W.cell? ⟨g + 2, 2, none⟩ = some (.slice A n c)) ∧ W.cell? ⟨w1.heap.size, 0, none⟩ = some (.int .u64 i) ∧ W.cell? ⟨w1.heap.size, 1, none⟩ = some (.int .u64 T)) := fun W h1 h2 => ⟨C3.out _ h1, h2.cell 0, h2.cell 1⟩
  have hS0 := HD.out _ B22.out B82.out
  refine wp_region_noPanic ?_
  refine wp_region_held_drew (S := fun w' => (w'.cell? ⟨g + 2, 0, none⟩ = some (.int .u64 bi) ∧ w'.cell? ⟨g + 2, 1, none⟩ = some (.int .u64 bt) ∧ w'.cell? ⟨g + 2, 2, none⟩ = some (.slice A n c)) ∧ w'.cell? ⟨w1.heap.size, 0, none⟩ = some (.int .u64 i) ∧ w'.cell? ⟨w1.heap.size, 1, none⟩ = some (.int .u64 T)) (by kernel_rfl) hS0 (fun hHeld => ?_)
  generalize (w1.alloc (.cells #[.int .u64 i, .int .u64 T] 24)).drew = w2 at *
  generalize w1.heap.size = p8 at *
  refine take_d (i := 0) (d := 23) (v := ?c23) rfl rfl (by kernel_rfl) (by kernel_rfl) (by kernel_rfl) (fun _ _ _ h => h) (Or.inl ⟨by kernel_rfl, ?c23h⟩) hHeld ?c23n
  case c23h => (intro w hSw; (try dsimp only at hSw); go_split_ands; go_simp; (try exact rfl))
  try simp only [Act.put, List.setIfInBounds_toArray, List.set_cons_zero, List.set_cons_succ]
  refine take_d (i := 1) (d := 24) (v := ?c24) rfl rfl (by kernel_rfl) (by kernel_rfl) (by kernel_rfl) (fun _ _ _ h => h) (Or.inl ⟨by kernel_rfl, ?c24h⟩) hHeld ?c24n
  case c24h => (intro w hSw; (try dsimp only at hSw); go_split_ands; go_simp; (try exact rfl))
  try simp only [Act.put, List.setIfInBounds_toArray, List.set_cons_zero, List.set_cons_succ]
  refine take_d (i := 2) (d := 25) (v := ?c25) rfl rfl (by kernel_rfl) (by kernel_rfl) (by kernel_rfl) (fun _ _ _ h => h) (Or.inl ⟨by kernel_rfl, ?c25h⟩) hHeld ?c25n
  case c25h => (intro w hSw; (try dsimp only at hSw); go_split_ands; go_simp; (try exact rfl))
  try simp only [Act.put, List.setIfInBounds_toArray, List.set_cons_zero, List.set_cons_succ]
  refine take_d (i := 3) (d := 26) (v := ?c26) rfl rfl (by kernel_rfl) (by kernel_rfl) (by kernel_rfl) (fun _ _ _ h => h) (Or.inl ⟨by kernel_rfl, ?c26h⟩) hHeld ?c26n
  case c26h => (intro w hSw; (try dsimp only at hSw); go_split_ands; go_simp; (try exact rfl))
  try simp only [Act.put, List.setIfInBounds_toArray, List.set_cons_zero, List.set_cons_succ]
  refine take_d (i := 4) (d := 27) (v := ?c27) rfl rfl (by kernel_rfl) (by kernel_rfl) (by kernel_rfl) (fun _ _ _ h => h) (Or.inl ⟨by kernel_rfl, ?c27h⟩) hHeld ?c27n
  case c27h => (intro w hSw; (try dsimp only at hSw); go_split_ands; go_simp; (try exact rfl))
  try simp only [Act.put, List.setIfInBounds_toArray, List.set_cons_zero, List.set_cons_succ]
  refine take_d (i := 5) (d := 28) (v := ?c28) rfl rfl (by kernel_rfl) (by kernel_rfl) (by kernel_rfl) (fun _ _ _ h => h) (Or.inl ⟨by kernel_rfl, ?c28h⟩) hHeld ?c28n
  case c28h => (intro w hSw; (try dsimp only at hSw); go_split_ands; go_simp; (try exact rfl))
  try simp only [Act.put, List.setIfInBounds_toArray, List.set_cons_zero, List.set_cons_succ]
  refine take_d (i := 6) (d := 29) (v := ?c29) rfl rfl (by kernel_rfl) (by kernel_rfl) (by kernel_rfl) (fun _ _ _ h => h) (Or.inl ⟨by kernel_rfl, ?c29h⟩) hHeld ?c29n
  case c29h => (intro w hSw; (try dsimp only at hSw); go_split_ands; go_simp; (try exact rfl))
  try simp only [Act.put, List.setIfInBounds_toArray, List.set_cons_zero, List.set_cons_succ]
  refine wpAnyH_ready (rs := [7]) (by kernel_rfl) (by simp) ?_
  refine AllReadyH.cons rfl (fun K hK => ?_) AllReadyH.nil
  go_simp
  refine (BH.out _).mono ?_
  rintro e w3 ⟨rfl, hb3⟩
  have B13 := Lib.hid (B12.out.below hb3 B12.out.lt)
  have B23 := Lib.hid (B22.out.below hb3 B22.out.lt)
  have B83 := Lib.hid (B82.out.below hb3 B82.out.lt)
  have HB3 := Lib.hid (HB2.out.trans (hb3.mono (by have := B12.out.lt; omega)))
  clear hb3
  refine hK.out _ _ (HD.out _ B23.out B83.out) (fun hHeld => ?_)
  clear hK K
  try simp only [Act.put, List.setIfInBounds_toArray, List.set_cons_zero, List.set_cons_succ]
  refine wpAnyH_ready (rs := [8]) (by kernel_rfl) (by simp) ?_
  refine AllReadyH.cons rfl (fun K hK => ?_) AllReadyH.nil
  go_simp
  refine (CL.out _ HB3.out).mono ?_
  rintro e w4 ⟨A4, c4, rfl, ho4, hb4⟩
  have B14 := Lib.hid (B13.out.below hb4 B13.out.lt)
  have B24 := Lib.hid (B23.out.below hb4 B23.out.lt)
  have B84 := Lib.hid (B83.out.below hb4 B83.out.lt)
  have HB4 := Lib.hid (HB3.out.trans (hb4.mono (by have := B13.out.lt; omega)))
  have HO4 := Lib.hid (ho4.down (show g ≤ w3.heap.size by have := B13.out.lt; omega))
  clear ho4 hb4
  refine hK.out _ _ (HD.out _ B24.out B84.out) (fun hHeld => ?_)
  clear hK K
  try simp only [Act.put, List.setIfInBounds_toArray, List.set_cons_zero, List.set_cons_succ]
  refine take_d (i := 9) (d := 32) (v := ?c32) rfl rfl (by kernel_rfl) (by kernel_rfl) (by kernel_rfl) (fun _ _ _ h => h) (Or.inl ⟨by kernel_rfl, ?c32h⟩) hHeld ?c32n
  case c32h => (intro w hSw; (try dsimp only at hSw); go_split_ands; go_simp; (try exact rfl))
  try simp only [Act.put, List.setIfInBounds_toArray, List.set_cons_zero, List.set_cons_succ]
  refine wpAnyH_ready (rs := [10]) (by kernel_rfl) (by simp) ?_
  refine AllReadyH.cons rfl (fun K hK => ?_) AllReadyH.nil
  refine wp_store_blk 27 _ _ rfl (g + 1) #[.int .u64 0, .int .u64 0, .slice none 0 0] 27 [.int .u64 i, .int .u64 T, .slice A4 (n - k) c4] rfl rfl B14.out rfl Try.i27 (by simp [Value.oneCell']) ?_
  intro w5 hb5 ho5
  have B15 := Lib.hid hb5
  have B25 := Lib.hid (ho5.keep B24.out (by omega))
  have B85 := Lib.hid (ho5.keep B84.out (by have := P8.out; omega))
  have HB5 := Lib.hid (HB4.out.trans (ho5.below (by omega)))
  have HO5 := Lib.hid (HO4.out.only27 B14.out ho5)
  clear hb5 ho5
  refine hK.out _ _ (HD.out _ B25.out B85.out) (fun hHeld => ?_)
  clear hK K
  try simp only [Act.put, List.setIfInBounds_toArray, List.set_cons_zero, List.set_cons_succ]
  refine take_d (i := 11) (d := 5) (v := ?c5) rfl rfl (by kernel_rfl) (by kernel_rfl) (by kernel_rfl) (fun _ _ _ h => h) (Or.inl ⟨by kernel_rfl, ?c5h⟩) hHeld ?c5n
  case c5h => (intro w hSw; (try dsimp only at hSw); go_split_ands; go_simp; (try exact rfl))
  try simp only [Act.put, List.setIfInBounds_toArray, List.set_cons_zero, List.set_cons_succ]
  refine wpAnyH_done (by kernel_rfl) ?_ _
  refine NoPanic.normal ?_
  go_wp2
  all_goals exact bodyPost_ret (ret27t rfl _ _ (g + 1) _ _ _ _ rfl rfl B15.out) rfl ⟨A4, n - k, c4, rfl, by rw [hg]; exact HO5.out, by rw [hg]; exact HB5.out⟩

end Go.Proofs.Ytmgaihdepglahaa
