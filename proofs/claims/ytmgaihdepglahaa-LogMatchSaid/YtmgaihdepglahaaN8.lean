/-
  Offers met, logs extended: the program's Meet, Extend, Append.
-/
import Derived.Test.YtmgaihdepglahaaN5
import Derived.Test.YtmgaihdepglahaaN7
import Derived.Test.YtmgaihdepglahaaMH
namespace Go.Proofs.Ytmgaihdepglahaa
open Go.RowKit

set_option linter.unusedSimpArgs false in
set_option maxRecDepth 100000 in
set_option maxHeartbeats 2000000 in
theorem Meet_any (l o : Lg) (A A' : Option Addr) (n c m c' B : Nat) (w : World) (h : Lr w B A n c l) (h' : Lr w B A' m c' o) (hB : B ≤ w.heap.size) :
    Calls Try.prog 14 #[.agg #[.int .u64 l.bi, .int .u64 l.bt, .slice A n c], .agg #[.int .u64 o.bi, .int .u64 o.bt], .slice A' m c'] w fun e w' =>
      e = .returned (.tuple #[.int .i64 (meetN l o.bi o.bt o.es : Int), .int .i64 (meetE l o.bi o.bt o.es)]) ∧ Below w.heap.size w w' := by
  obtain ⟨g, hg⟩ : ∃ g, w.heap.size = g := ⟨_, rfl⟩
  have hBg : B ≤ g := by omega
  have ME := Lib.hid (fun W (hW : Below g w W) => meet_any l o A A' n c m c' B W (h.below (hW.mono hBg)) (h'.below (hW.mono hBg)) (by have := hW.size; omega))
  clear h h'
  generalize (meetN l o.bi o.bt o.es : Int) = MN at *
  generalize meetE l o.bi o.bt o.es = MEr at *
  obtain ⟨bi, bt, es⟩ := l
  obtain ⟨pi, pt, es'⟩ := o
  simp only at ME ⊢
  have B0 := Lib.hid (show Blk ((w.alloc (.cells #[.int .u64 bi, .int .u64 bt, .slice A n c] 27)).alloc (.cells #[.int .u64 pi, .int .u64 pt] 24)).drew g 27 #[.int .u64 bi, .int .u64 bt, .slice A n c] from hg ▸ (((Blk.new w 27 _).alloc _).drewN 1))
  have B1 := Lib.hid (show Blk ((w.alloc (.cells #[.int .u64 bi, .int .u64 bt, .slice A n c] 27)).alloc (.cells #[.int .u64 pi, .int .u64 pt] 24)).drew (g + 1) 24 #[.int .u64 pi, .int .u64 pt] from hg ▸ ((Blk.fresh (by simp)).drewN 1))
  have HB := Lib.hid (show Below g w ((w.alloc (.cells #[.int .u64 bi, .int .u64 bt, .slice A n c] 27)).alloc (.cells #[.int .u64 pi, .int .u64 pt] 24)).drew from hg ▸ (((Below.refl _ _).alloc (Nat.le_refl _) _).alloc (by simp) _).drew)
  have HD : Hid (∀ W, Blk W g 27 #[.int .u64 bi, .int .u64 bt, .slice A n c] → Blk W (g + 1) 24 #[.int .u64 pi, .int .u64 pt] → (W.cell? ⟨g, 0, none⟩ = some (.int .u64 bi) ∧ W.cell? ⟨g, 1, none⟩ = some (.int .u64 bt) ∧ W.cell? ⟨g, 2, none⟩ = some (.slice A n c)) ∧ W.cell? ⟨g + 1, 0, none⟩ = some (.int .u64 pi) ∧ W.cell? ⟨g + 1, 1, none⟩ = some (.int .u64 pt)) := fun W h1 h2 => ⟨⟨h1.cell 0, h1.cell 1, h1.cell 2⟩, h2.cell 0, h2.cell 1⟩
  have hS0 := HD.out _ B0.out B1.out
  go_enter Try.func14, Try.ntmps14
  go_wp2
  refine wp_region_noPanic ?_
  refine wp_region_held_drew (S := fun w' => (w'.cell? ⟨g, 0, none⟩ = some (.int .u64 bi) ∧ w'.cell? ⟨g, 1, none⟩ = some (.int .u64 bt) ∧ w'.cell? ⟨g, 2, none⟩ = some (.slice A n c)) ∧ w'.cell? ⟨g + 1, 0, none⟩ = some (.int .u64 pi) ∧ w'.cell? ⟨g + 1, 1, none⟩ = some (.int .u64 pt)) (by kernel_rfl) hS0 (fun hHeld => ?_)
  generalize ((w.alloc (.cells #[.int .u64 bi, .int .u64 bt, .slice A n c] 27)).alloc (.cells #[.int .u64 pi, .int .u64 pt] 24)).drew = w1 at *
  refine take_d (i := 0) (d := 8) (v := ?c8) rfl rfl (by kernel_rfl) (by kernel_rfl) (by kernel_rfl) (fun _ _ _ h => h) (Or.inl ⟨by kernel_rfl, ?c8h⟩) hHeld ?c8n
  case c8h => (intro w hSw; (try dsimp only at hSw); go_split_ands; go_simp; (try exact rfl))
  try simp only [Act.put, List.setIfInBounds_toArray, List.set_cons_zero, List.set_cons_succ]
  refine take_d (i := 1) (d := 9) (v := ?c9) rfl rfl (by kernel_rfl) (by kernel_rfl) (by kernel_rfl) (fun _ _ _ h => h) (Or.inl ⟨by kernel_rfl, ?c9h⟩) hHeld ?c9n
  case c9h => (intro w hSw; (try dsimp only at hSw); go_split_ands; go_simp; (try exact rfl))
  try simp only [Act.put, List.setIfInBounds_toArray, List.set_cons_zero, List.set_cons_succ]
  refine take_d (i := 2) (d := 10) (v := ?c10) rfl rfl (by kernel_rfl) (by kernel_rfl) (by kernel_rfl) (fun _ _ _ h => h) (Or.inl ⟨by kernel_rfl, ?c10h⟩) hHeld ?c10n
  case c10h => (intro w hSw; (try dsimp only at hSw); go_split_ands; go_simp; (try exact rfl))
  try simp only [Act.put, List.setIfInBounds_toArray, List.set_cons_zero, List.set_cons_succ]
  refine take_d (i := 3) (d := 11) (v := ?c11) rfl rfl (by kernel_rfl) (by kernel_rfl) (by kernel_rfl) (fun _ _ _ h => h) (Or.inl ⟨by kernel_rfl, ?c11h⟩) hHeld ?c11n
  case c11h => (intro w hSw; (try dsimp only at hSw); go_split_ands; go_simp; (try exact rfl))
  try simp only [Act.put, List.setIfInBounds_toArray, List.set_cons_zero, List.set_cons_succ]
  refine wpAnyH_ready (rs := [4]) (by kernel_rfl) (by simp) ?_
  refine AllReadyH.cons rfl (fun K hK => ?_) AllReadyH.nil
  go_simp
  refine (offer_any _ _ _ _ _ _).mono ?_
  rintro e w2 ⟨rfl, hb2⟩
  have B02 := Lib.hid (B0.out.below hb2 B0.out.lt)
  have B12 := Lib.hid (B1.out.below hb2 B1.out.lt)
  have HB2 := Lib.hid (HB.out.trans (hb2.mono (by have := B0.out.lt; omega)))
  clear hb2
  refine hK.out _ _ (HD.out _ B02.out B12.out) (fun hHeld => ?_)
  clear hK K
  try simp only [Act.put, List.setIfInBounds_toArray, List.set_cons_zero, List.set_cons_succ]
  refine wpAnyH_ready (rs := [5]) (by kernel_rfl) (by simp) ?_
  refine AllReadyH.cons rfl (fun K hK => ?_) AllReadyH.nil
  go_simp
  refine (ME.out _ HB2.out).mono ?_
  rintro e w3 ⟨rfl, hb3⟩
  have B03 := Lib.hid (B02.out.below hb3 B02.out.lt)
  have B13 := Lib.hid (B12.out.below hb3 B12.out.lt)
  have HB3 := Lib.hid (HB2.out.trans (hb3.mono (by have := B02.out.lt; omega)))
  clear hb3
  refine hK.out _ _ (HD.out _ B03.out B13.out) (fun hHeld => ?_)
  clear hK K
  try simp only [Act.put, List.setIfInBounds_toArray, List.set_cons_zero, List.set_cons_succ]
  refine take_d (i := 6) (d := 14) (v := ?c14) rfl rfl (by kernel_rfl) (by kernel_rfl) (by kernel_rfl) (fun _ _ _ h => h) (Or.inl ⟨by kernel_rfl, ?c14h⟩) hHeld ?c14n
  case c14h => (intro w hSw; (try dsimp only at hSw); go_split_ands; go_simp; (try exact rfl))
  try simp only [Act.put, List.setIfInBounds_toArray, List.set_cons_zero, List.set_cons_succ]
  refine take_d (i := 7) (d := 15) (v := ?c15) rfl rfl (by kernel_rfl) (by kernel_rfl) (by kernel_rfl) (fun _ _ _ h => h) (Or.inl ⟨by kernel_rfl, ?c15h⟩) hHeld ?c15n
  case c15h => (intro w hSw; (try dsimp only at hSw); go_split_ands; go_simp; (try exact rfl))
  try simp only [Act.put, List.setIfInBounds_toArray, List.set_cons_zero, List.set_cons_succ]
  refine take_d (i := 8) (d := 6) (v := ?c6) rfl rfl (by kernel_rfl) (by kernel_rfl) (by kernel_rfl) (fun _ _ _ h => h) (Or.inl ⟨by kernel_rfl, ?c6h⟩) hHeld ?c6n
  case c6h => (intro w hSw; (try dsimp only at hSw); go_split_ands; go_simp; (try exact rfl))
  try simp only [Act.put, List.setIfInBounds_toArray, List.set_cons_zero, List.set_cons_succ]
  refine take_d (i := 9) (d := 7) (v := ?c7) rfl rfl (by kernel_rfl) (by kernel_rfl) (by kernel_rfl) (fun _ _ _ h => h) (Or.inl ⟨by kernel_rfl, ?c7h⟩) hHeld ?c7n
  case c7h => (intro w hSw; (try dsimp only at hSw); go_split_ands; go_simp; (try exact rfl))
  try simp only [Act.put, List.setIfInBounds_toArray, List.set_cons_zero, List.set_cons_succ]
  refine wpAnyH_done (by kernel_rfl) ?_ _
  refine NoPanic.normal ?_
  go_wp2
  all_goals exact bodyPost_ret (resTT rfl _ _ _ _ rfl rfl) rfl ⟨rfl, by rw [hg]; exact HB3.out⟩

/-- What Extend answers. -/
def pExtE (l : Lg) (more : List En) : Int := if right l = true then rExtE l more else 160
def pExtL (l : Lg) (more : List En) : Lg := if pExtE l more = 0 then rExtL l more else lg0
def pExtI (l : Lg) (more : List En) : Int := if pExtE l more = 0 then rExtI l more else 0
def pExtT (l : Lg) (more : List En) : Int := if pExtE l more = 0 then rExtT l more else 0
theorem pExt_bad {l : Lg} {more : List En} (h : pExtE l more ≠ 0) : pExtL l more = lg0 ∧ pExtI l more = 0 ∧ pExtT l more = 0 := ⟨if_neg h, if_neg h, if_neg h⟩
theorem pExt_ok {l : Lg} {more : List En} (hr : right l = true) (h : rExtE l more = 0) : pExtE l more = 0 ∧ pExtL l more = rExtL l more ∧ pExtI l more = (rExtL l more).lastI ∧ pExtT l more = (rExtL l more).lastT := by
  have e : pExtE l more = 0 := by unfold pExtE; rw [if_pos hr]; exact h
  refine ⟨e, if_pos e, ?_, ?_⟩
  · unfold pExtI rExtI rExtL; rw [if_pos e, if_pos h, if_pos h]
  · unfold pExtT rExtT rExtL; rw [if_pos e, if_pos h, if_pos h]

set_option linter.unusedSimpArgs false in
set_option maxRecDepth 100000 in
set_option maxHeartbeats 4000000 in
theorem Extend_any (l : Lg) (A : Option Addr) (n c B : Nat) (w : World) (h : Lr w B A n c l) (hB : B ≤ w.heap.size) (A' : Option Addr) (m c' : Nat) (more : List En) (h' : Es w B A' m more) (hm : m ≤ 900) :
    Calls Try.prog 21 #[.agg #[.int .u64 l.bi, .int .u64 l.bt, .slice A n c], .slice A' m c'] w (Lgx w (pExtL l more) (pExtI l more) (pExtT l more) (pExtE l more)) := by
  obtain ⟨g, hg⟩ : ∃ g, w.heap.size = g := ⟨_, rfl⟩
  have hBg : B ≤ g := by omega
  have MB := Lib.hid (fun W (hW : Below g w W) => maybe_any l A n c B W (h.below (hW.mono hBg)) (by have := hW.size; omega))
  have hEX := fun (hr : right l = true) W (hW : Below g w W) => extended_any l A n c B W (h.below (hW.mono hBg)) (by have := hW.size; omega) hr A' m c' more (h'.below (hW.mono hBg)) hm
  have hbad := fun (hr : right l = false) => (show pExtE l more = 160 from if_neg (by rw [hr]; simp))
  have hP : right l = true → pExtE l more = rExtE l more := fun hr => if_pos hr
  have hok := fun (hr : right l = true) => @pExt_ok l more hr
  have hno := @pExt_bad l more
  generalize pExtE l more = E at *
  generalize pExtL l more = PL at *
  generalize pExtI l more = PI at *
  generalize pExtT l more = PT at *
  generalize rExtE l more = RE at *
  generalize rExtL l more = L at *
  generalize right l = R at *
  obtain ⟨bi, bt, es⟩ := l
  simp only at MB hEX
  simp only
  clear h h'
  have B41 := Lib.hid (show Blk ((((w.alloc (.cells #[.int .u64 bi, .int .u64 bt, .slice A n c] 27)).alloc (.cells #[.int .u64 0, .int .u64 0, .slice none 0 0] 27)).alloc (.cells #[.int .u64 0, .int .u64 0] 24)).alloc (.cells #[.int .u64 bi, .int .u64 bt, .slice A n c] 81)) (g + 1) 27 #[.int .u64 0, .int .u64 0, .slice none 0 0] from hg ▸ ((Blk.fresh (by simp)).alloc _).alloc _)
  have B51 := Lib.hid (show Blk ((((w.alloc (.cells #[.int .u64 bi, .int .u64 bt, .slice A n c] 27)).alloc (.cells #[.int .u64 0, .int .u64 0, .slice none 0 0] 27)).alloc (.cells #[.int .u64 0, .int .u64 0] 24)).alloc (.cells #[.int .u64 bi, .int .u64 bt, .slice A n c] 81)) (g + 2) 24 #[.int .u64 0, .int .u64 0] from hg ▸ (Blk.fresh (by simp)).alloc _)
  have B71 := Lib.hid (show Blk ((((w.alloc (.cells #[.int .u64 bi, .int .u64 bt, .slice A n c] 27)).alloc (.cells #[.int .u64 0, .int .u64 0, .slice none 0 0] 27)).alloc (.cells #[.int .u64 0, .int .u64 0] 24)).alloc (.cells #[.int .u64 bi, .int .u64 bt, .slice A n c] 81)) (g + 3) 81 #[.int .u64 bi, .int .u64 bt, .slice A n c] from hg ▸ Blk.fresh (by simp))
  have HB1 := Lib.hid (show Below g w ((((w.alloc (.cells #[.int .u64 bi, .int .u64 bt, .slice A n c] 27)).alloc (.cells #[.int .u64 0, .int .u64 0, .slice none 0 0] 27)).alloc (.cells #[.int .u64 0, .int .u64 0] 24)).alloc (.cells #[.int .u64 bi, .int .u64 bt, .slice A n c] 81)) from hg ▸ ((((Below.refl _ _).alloc (Nat.le_refl _) _).alloc (by simp) _).alloc (by simp; omega) _).alloc (by simp; omega) _)
  have C7 : Hid (∀ W, Blk W (g + 3) 81 #[.int .u64 bi, .int .u64 bt, .slice A n c] → W.cell? ⟨g + 3, 0, none⟩ = some (.int .u64 bi) ∧ W.cell? ⟨g + 3, 1, none⟩ = some (.int .u64 bt) ∧ W.cell? ⟨g + 3, 2, none⟩ = some (.slice A n c)) := fun W hb => ⟨hb.cell 0, hb.cell 1, hb.cell 2⟩
  have F7 : Hid (∀ W, Blk W (g + 3) 81 #[.int .u64 bi, .int .u64 bt, .slice A n c] → W.frozen? ⟨g + 3, 0, none⟩ = false ∧ W.frozen? ⟨g + 3, 1, none⟩ = false ∧ W.frozen? ⟨g + 3, 2, none⟩ = false) := fun W hb => ⟨hb.frozen 0, hb.frozen 1, hb.frozen 2⟩
  have C45 : Hid (∀ W, Blk W (g + 1) 27 #[.int .u64 0, .int .u64 0, .slice none 0 0] → Blk W (g + 2) 24 #[.int .u64 0, .int .u64 0] → (W.cell? ⟨g + 1, 0, none⟩ = some (.int .u64 0) ∧ W.cell? ⟨g + 1, 1, none⟩ = some (.int .u64 0) ∧ W.cell? ⟨g + 1, 2, none⟩ = some (.slice none 0 0) ∧ W.cell? ⟨g + 2, 0, none⟩ = some (.int .u64 0) ∧ W.cell? ⟨g + 2, 1, none⟩ = some (.int .u64 0)) ∧
      (W.frozen? ⟨g + 1, 0, none⟩ = false ∧ W.frozen? ⟨g + 1, 1, none⟩ = false ∧ W.frozen? ⟨g + 1, 2, none⟩ = false ∧ W.frozen? ⟨g + 2, 0, none⟩ = false ∧ W.frozen? ⟨g + 2, 1, none⟩ = false)) := fun W h1 h2 => ⟨⟨h1.cell 0, h1.cell 1, h1.cell 2, h2.cell 0, h2.cell 1⟩, h1.frozen 0, h1.frozen 1, h1.frozen 2, h2.frozen 0, h2.frozen 1⟩
  cases R with
  | false =>
    obtain rfl := hbad rfl
    obtain ⟨rfl, rfl, rfl⟩ := hno (by omega)
    clear hEX hP hok hno hbad
    go_enter Try.func21, Try.ntmps21
    go_wp2
    refine wp_scope_jumps 0 (fun a W => (Blk W (g + 1) 27 #[.int .u64 0, .int .u64 0, .slice none 0 0] ∧ Blk W (g + 2) 24 #[.int .u64 0, .int .u64 0] ∧ Below g w W) ∧ ∃ v0 v1 v2 v3 v6 v7 v9 v10 v11 v12 v13 v14 v15 v16 v17 v18 v19 v20 v21 v22 v23 v24 v25 v26 v27 v28 : Value, a = { tmps := #[v0, v1, v2, v3, .pointer (some ⟨g + 1, 0, none⟩), .pointer (some ⟨g + 1 + 1, 0, none⟩), v6, v7, .int .i64 160, v9, v10, v11, v12, v13, v14, v15, v16, v17, v18, v19, v20, v21, v22, v23, v24, v25, v26, v27, v28], defers := [] }) (fun _ _ => 0) rfl ?first ?pass
    case pass =>
      rintro a W ⟨⟨hb4, hb5, hbW⟩, v0, v1, v2, v3, v6, v7, v9, v10, v11, v12, v13, v14, v15, v16, v17, v18, v19, v20, v21, v22, v23, v24, v25, v26, v27, v28, rfl⟩
      obtain ⟨⟨d0, d1, d2, d3, d4⟩, f0, f1, f2, f3, f4⟩ := C45.out _ hb4 hb5
      go_wp2
      obtain ⟨k4, k5, kb⟩ := set5 hb4 hb5 hbW (show g ≤ g + 1 by omega) (show g ≤ g + 2 by omega) (by omega) (a := .int .u64 0) (b := .int .u64 0) (c := .slice none 0 0) (d := .int .u64 0) (e := .int .u64 0)
      exact bodyPost_ret (ret27x rfl _ _ (g + 1) (g + 2) _ _ _ _ _ _ rfl rfl rfl k4 k5) rfl ⟨none, 0, 0, rfl, Eo.nothing _ _, by rw [hg]; exact kb⟩
    case first =>
      go_wp2_with (go_at_call 56; refine (MB.out _ HB1.out).mono ?_; rintro e w2 ⟨rfl, hb2⟩; have B42 := Lib.hid (B41.out.below hb2 B41.out.lt); have B52 := Lib.hid (B51.out.below hb2 B51.out.lt); have B72 := Lib.hid (B71.out.below hb2 B71.out.lt); have HB2 := Lib.hid (HB1.out.trans (hb2.mono (by have := B41.out.lt; omega))); obtain ⟨x0, x1, x2⟩ := C7.out _ B72.out; have hgl : g + 3 < w2.heap.size := B72.out.lt; clear hb2)
      go_step3
      exact ⟨rfl, ⟨B42.out, B52.out, HB2.out⟩, _, _, _, _, _, _, _, _, _, _, _, _, _, _, _, _, _, _, _, _, _, _, _, _, _, _, rfl⟩
  | true =>
    have EX := Lib.hid (hEX rfl)
    obtain rfl := hP rfl
    have hok := hok rfl
    clear hEX hP hbad
    by_cases hE : E = 0
    rotate_left
    · obtain ⟨rfl, rfl, rfl⟩ := hno hE
      have hE1 : (E == 0) = false := by simp [hE]
      have hE2 : (E != 0) = true := by simp [hE]
      clear hno hok hE
      go_enter Try.func21, Try.ntmps21
      go_wp2
      refine wp_scope_jumps 0 (fun a W => (Blk W (g + 1) 27 #[.int .u64 0, .int .u64 0, .slice none 0 0] ∧ Blk W (g + 2) 24 #[.int .u64 0, .int .u64 0] ∧ Below g w W) ∧ ∃ v0 v1 v2 v3 v6 v7 v9 v10 v11 v12 v13 v14 v15 v16 v17 v18 v19 v20 v21 v22 v23 v24 v25 v26 v27 v28 : Value, a = { tmps := #[v0, v1, v2, v3, .pointer (some ⟨g + 1, 0, none⟩), .pointer (some ⟨g + 1 + 1, 0, none⟩), v6, v7, .int .i64 E, v9, v10, v11, v12, v13, v14, v15, v16, v17, v18, v19, v20, v21, v22, v23, v24, v25, v26, v27, v28], defers := [] }) (fun _ _ => 0) rfl ?first ?pass
      case pass =>
        rintro a W ⟨⟨hb4, hb5, hbW⟩, v0, v1, v2, v3, v6, v7, v9, v10, v11, v12, v13, v14, v15, v16, v17, v18, v19, v20, v21, v22, v23, v24, v25, v26, v27, v28, rfl⟩
        obtain ⟨⟨d0, d1, d2, d3, d4⟩, f0, f1, f2, f3, f4⟩ := C45.out _ hb4 hb5
        go_wp2
        obtain ⟨k4, k5, kb⟩ := set5 hb4 hb5 hbW (show g ≤ g + 1 by omega) (show g ≤ g + 2 by omega) (by omega) (a := .int .u64 0) (b := .int .u64 0) (c := .slice none 0 0) (d := .int .u64 0) (e := .int .u64 0)
        exact bodyPost_ret (ret27x rfl _ _ (g + 1) (g + 2) _ _ _ _ _ _ rfl rfl rfl k4 k5) rfl ⟨none, 0, 0, rfl, Eo.nothing _ _, by rw [hg]; exact kb⟩
      case first =>
        go_wp2_with (first | (go_at_call 56; refine (MB.out _ HB1.out).mono ?_; rintro e w2 ⟨rfl, hb2⟩; have B42 := Lib.hid (B41.out.below hb2 B41.out.lt); have B52 := Lib.hid (B51.out.below hb2 B51.out.lt); have B72 := Lib.hid (B71.out.below hb2 B71.out.lt); have HB2 := Lib.hid (HB1.out.trans (hb2.mono (by have := B41.out.lt; omega))); obtain ⟨x0, x1, x2⟩ := C7.out _ B72.out; have hgl : g + 3 < w2.heap.size := B72.out.lt; clear hb2) | (go_at_call 52; refine (EX.out _ HB2.out).mono ?_; rintro e w3 ⟨A3, n3, c3, rfl, lz3, hb3⟩; have B43 := Lib.hid (B42.out.below hb3 B42.out.lt); have B53 := Lib.hid (B52.out.below hb3 B52.out.lt); have B73 := Lib.hid (B72.out.below hb3 B72.out.lt); have HB3 := Lib.hid (HB2.out.trans (hb3.mono (by have := B42.out.lt; omega))); have LZ3 := Lib.hid lz3; have hs3 := Lib.hid hb3.size; have hl2 := Lib.hid B72.out.lt; clear x0 x1 x2 hgl lz3 hb3; obtain ⟨x0, x1, x2⟩ := C7.out _ B73.out; obtain ⟨y0, y1, y2⟩ := F7.out _ B73.out))
        have ho3 := set3_only w3 (g + 3) (.int .u64 L.bi) (.int .u64 L.bt) (.slice A3 n3 c3)
        have B74 : Hid (Blk _ (g + 3) 81 #[.int .u64 L.bi, .int .u64 L.bt, .slice A3 n3 c3]) := Lib.hid (((B73.out.set_ 0 _).set_ 1 _).set_ 2 _)
        have B44 := Lib.hid (ho3.keep B43.out (by omega))
        have B54 := Lib.hid (ho3.keep B53.out (by omega))
        have HB4 := Lib.hid (HB3.out.trans (ho3.below (by omega)))
        have LZ4 := Lib.hid (LZ3.out.keep (ho3.below (by omega)) (fun b hb _ => ho3.block b (by have := hl2.out; omega)))
        go_step3
        exact ⟨rfl, ⟨B44.out, B54.out, HB4.out⟩, _, _, _, _, _, _, _, _, _, _, _, _, _, _, _, _, _, _, _, _, _, _, _, _, _, _, rfl⟩
    · subst hE
      obtain ⟨_, rfl, rfl, rfl⟩ := hok rfl
      clear hno hok
      have CL := Lib.hid (fun W {A3 : Option Addr} {n3 c3 s : Nat} (hz : Lz W B s A3 n3 c3 PL) (hB : B ≤ W.heap.size) => clone_any_log PL A3 n3 c3 _ W (hz.lr hB) (Nat.le_refl _))
      have LA := Lib.hid (fun W {A3 : Option Addr} {n3 c3 s : Nat} (hz : Lz W B s A3 n3 c3 PL) (hB : B ≤ W.heap.size) => last_any PL A3 n3 c3 _ W (hz.lr hB) (Nat.le_refl _))
      go_enter Try.func21, Try.ntmps21
      go_wp2
      go_step3
      go_wp2_with (first | (go_at_call 56; refine (MB.out _ HB1.out).mono ?_; rintro e w2 ⟨rfl, hb2⟩; have B42 := Lib.hid (B41.out.below hb2 B41.out.lt); have B52 := Lib.hid (B51.out.below hb2 B51.out.lt); have B72 := Lib.hid (B71.out.below hb2 B71.out.lt); have HB2 := Lib.hid (HB1.out.trans (hb2.mono (by have := B41.out.lt; omega))); obtain ⟨x0, x1, x2⟩ := C7.out _ B72.out; have hgl : g + 3 < w2.heap.size := B72.out.lt; clear hb2) | (go_at_call 52; refine (EX.out _ HB2.out).mono ?_; rintro e w3 ⟨A3, n3, c3, rfl, lz3, hb3⟩; have B43 := Lib.hid (B42.out.below hb3 B42.out.lt); have B53 := Lib.hid (B52.out.below hb3 B52.out.lt); have B73 := Lib.hid (B72.out.below hb3 B72.out.lt); have HB3 := Lib.hid (HB2.out.trans (hb3.mono (by have := B42.out.lt; omega))); have LZ3 := Lib.hid lz3; have hs3 := Lib.hid hb3.size; have hl2 := Lib.hid B72.out.lt; clear x0 x1 x2 hgl lz3 hb3; obtain ⟨x0, x1, x2⟩ := C7.out _ B73.out; obtain ⟨y0, y1, y2⟩ := F7.out _ B73.out))
      have ho3 := set3_only w3 (g + 3) (.int .u64 PL.bi) (.int .u64 PL.bt) (.slice A3 n3 c3)
      have B74 : Hid (Blk _ (g + 3) 81 #[.int .u64 PL.bi, .int .u64 PL.bt, .slice A3 n3 c3]) := Lib.hid (((B73.out.set_ 0 _).set_ 1 _).set_ 2 _)
      have B44 := Lib.hid (ho3.keep B43.out (by omega))
      have B54 := Lib.hid (ho3.keep B53.out (by omega))
      have HB4 := Lib.hid (HB3.out.trans (ho3.below (by omega)))
      have LZ4 := Lib.hid (LZ3.out.keep (ho3.below (by omega)) (fun b hb _ => ho3.block b (by have := hl2.out; omega)))
      have D7 : Hid (∀ W, Blk W (g + 3) 81 #[.int .u64 PL.bi, .int .u64 PL.bt, .slice A3 n3 c3] → W.cell? ⟨g + 3, 0, none⟩ = some (.int .u64 PL.bi) ∧ W.cell? ⟨g + 3, 1, none⟩ = some (.int .u64 PL.bt) ∧ W.cell? ⟨g + 3, 2, none⟩ = some (.slice A3 n3 c3)) := fun W hb => ⟨hb.cell 0, hb.cell 1, hb.cell 2⟩
      replace B74 : Hid (Blk (((w3.setCell ⟨g + 3, 0, none⟩ (.int .u64 PL.bi)).setCell ⟨g + 3, 1, none⟩ (.int .u64 PL.bt)).setCell ⟨g + 3, 2, none⟩ (.slice A3 n3 c3)).drew (g + 3) 81 #[.int .u64 PL.bi, .int .u64 PL.bt, .slice A3 n3 c3]) := B74.out.drewN 1
      replace B44 : Hid (Blk (((w3.setCell ⟨g + 3, 0, none⟩ (.int .u64 PL.bi)).setCell ⟨g + 3, 1, none⟩ (.int .u64 PL.bt)).setCell ⟨g + 3, 2, none⟩ (.slice A3 n3 c3)).drew (g + 1) 27 #[.int .u64 0, .int .u64 0, .slice none 0 0]) := Lib.hid (B44.out.drewN 1)
      replace B54 : Hid (Blk (((w3.setCell ⟨g + 3, 0, none⟩ (.int .u64 PL.bi)).setCell ⟨g + 3, 1, none⟩ (.int .u64 PL.bt)).setCell ⟨g + 3, 2, none⟩ (.slice A3 n3 c3)).drew (g + 2) 24 #[.int .u64 0, .int .u64 0]) := Lib.hid (B54.out.drewN 1)
      replace HB4 := Lib.hid HB4.out.drew
      replace LZ4 : Hid (Lz (((w3.setCell ⟨g + 3, 0, none⟩ (.int .u64 PL.bi)).setCell ⟨g + 3, 1, none⟩ (.int .u64 PL.bt)).setCell ⟨g + 3, 2, none⟩ (.slice A3 n3 c3)).drew B _ A3 n3 c3 PL) := Lib.hid (LZ4.out.keep (Below.refl _ _).drew (fun _ _ _ => rfl))
      have hS0 := D7.out _ B74.out
      clear ho3
      refine wp_region_noPanic ?_
      refine wp_region_held_drew (S := fun w' => w'.cell? ⟨g + 3, 0, none⟩ = some (.int .u64 PL.bi) ∧ w'.cell? ⟨g + 3, 1, none⟩ = some (.int .u64 PL.bt) ∧ w'.cell? ⟨g + 3, 2, none⟩ = some (.slice A3 n3 c3)) (by kernel_rfl) hS0 (fun hHeld => ?_)
      generalize (((w3.setCell ⟨g + 3, 0, none⟩ (.int .u64 PL.bi)).setCell ⟨g + 3, 1, none⟩ (.int .u64 PL.bt)).setCell ⟨g + 3, 2, none⟩ (.slice A3 n3 c3)).drew = w4 at *
      refine take_d (i := 0) (d := 22) (v := ?c22) rfl rfl (by kernel_rfl) (by kernel_rfl) (by kernel_rfl) (fun _ _ _ h => h) (Or.inl ⟨by kernel_rfl, ?c22h⟩) hHeld ?c22n
      case c22h => (intro w hSw; (try dsimp only at hSw); go_split_ands; go_simp; (try exact rfl))
      try simp only [Act.put, List.setIfInBounds_toArray, List.set_cons_zero, List.set_cons_succ]
      refine take_d (i := 2) (d := 24) (v := ?c24) rfl rfl (by kernel_rfl) (by kernel_rfl) (by kernel_rfl) (fun _ _ _ h => h) (Or.inl ⟨by kernel_rfl, ?c24h⟩) hHeld ?c24n
      case c24h => (intro w hSw; (try dsimp only at hSw); go_split_ands; go_simp; (try exact rfl))
      try simp only [Act.put, List.setIfInBounds_toArray, List.set_cons_zero, List.set_cons_succ]
      refine wpAnyH_ready (rs := [1]) (by kernel_rfl) (by simp) ?_
      refine AllReadyH.cons rfl (fun K hK => ?_) AllReadyH.nil
      go_simp
      refine (CL.out w4 LZ4.out (by have := HB4.out.size; omega)).mono ?_
      rintro e w5 ⟨A5, n5, c5, rfl, ho5, hb5⟩
      have B45 := Lib.hid (B44.out.below hb5 B44.out.lt)
      have B55 := Lib.hid (B54.out.below hb5 B54.out.lt)
      have B75 := Lib.hid (B74.out.below hb5 B74.out.lt)
      have HB5 := Lib.hid (HB4.out.trans (hb5.mono (by have := B44.out.lt; omega)))
      have LZ5 := Lib.hid (LZ4.out.keep (hb5.mono (by have := HB4.out.size; omega)) (fun b _ hb => hb5.block b hb))
      have HO5 := Lib.hid (ho5.down (show g ≤ w4.heap.size by have := HB4.out.size; omega))
      clear ho5 hb5
      refine hK.out _ _ (D7.out _ B75.out) (fun hHeld => ?_)
      clear hK K
      try simp only [Act.put, List.setIfInBounds_toArray, List.set_cons_zero, List.set_cons_succ]
      refine wpAnyH_ready (rs := [3]) (by kernel_rfl) (by simp) ?_
      refine AllReadyH.cons rfl (fun K hK => ?_) AllReadyH.nil
      go_simp
      refine (LA.out w5 LZ5.out (by have := HB5.out.size; omega)).mono ?_
      rintro e w6 ⟨rfl, hb6⟩
      have B46 := Lib.hid (B45.out.below hb6 B45.out.lt)
      have B56 := Lib.hid (B55.out.below hb6 B55.out.lt)
      have B76 := Lib.hid (B75.out.below hb6 B75.out.lt)
      have HB6 := Lib.hid (HB5.out.trans (hb6.mono (by have := B45.out.lt; omega)))
      have HO6 := Lib.hid (HO5.out.below hb6)
      clear hb6
      refine hK.out _ _ (D7.out _ B76.out) (fun hHeld => ?_)
      clear hK K
      try simp only [Act.put, List.setIfInBounds_toArray, List.set_cons_zero, List.set_cons_succ]
      refine wpAnyH_ready (rs := [4]) (by kernel_rfl) (by simp) ?_
      refine AllReadyH.cons rfl (fun K hK => ?_) AllReadyH.nil
      refine wp_store_blk 27 _ _ rfl (g + 1) #[.int .u64 0, .int .u64 0, .slice none 0 0] 27 [.int .u64 PL.bi, .int .u64 PL.bt, .slice A5 n5 c5] rfl rfl B46.out rfl Try.i27 (by simp [Value.oneCell']) ?_
      intro w7 hb7 ho7
      have B47 := Lib.hid hb7
      have B57 := Lib.hid (ho7.keep B56.out (by omega))
      have B77 := Lib.hid (ho7.keep B76.out (by omega))
      have HB7 := Lib.hid (HB6.out.trans (ho7.below (by omega)))
      have HO7 := Lib.hid (HO6.out.only27 B46.out ho7)
      clear hb7 ho7
      refine hK.out _ _ (D7.out _ B77.out) (fun hHeld => ?_)
      clear hK K
      try simp only [Act.put, List.setIfInBounds_toArray, List.set_cons_zero, List.set_cons_succ]
      refine wpAnyH_ready (rs := [5]) (by kernel_rfl) (by simp) ?_
      refine AllReadyH.cons rfl (fun K hK => ?_) AllReadyH.nil
      refine wp_store_blk 24 _ _ rfl (g + 2) #[.int .u64 0, .int .u64 0] 24 [.int .u64 PL.lastI, .int .u64 PL.lastT] rfl rfl B57.out rfl Try.i24 (by simp [Value.oneCell']) ?_
      intro w8 hb8 ho8
      have B58 := Lib.hid hb8
      have B48 := Lib.hid (ho8.keep B47.out (by omega))
      have B78 := Lib.hid (ho8.keep B77.out (by omega))
      have HB8 := Lib.hid (HB7.out.trans (ho8.below (by omega)))
      have HO8 := Lib.hid (HO7.out.only B57.out (by decide) (by decide) ho8)
      clear hb8 ho8
      refine hK.out _ _ (D7.out _ B78.out) (fun hHeld => ?_)
      clear hK K
      try simp only [Act.put, List.setIfInBounds_toArray, List.set_cons_zero, List.set_cons_succ]
      refine take_d (i := 6) (d := 6) (v := ?c6) rfl rfl (by kernel_rfl) (by kernel_rfl) (by kernel_rfl) (fun _ _ _ h => h) (Or.inl ⟨by kernel_rfl, ?c6h⟩) hHeld ?c6n
      case c6h => (intro w hSw; (try dsimp only at hSw); go_split_ands; go_simp; (try exact rfl))
      try simp only [Act.put, List.setIfInBounds_toArray, List.set_cons_zero, List.set_cons_succ]
      refine wpAnyH_done (by kernel_rfl) ?_ _
      refine NoPanic.normal ?_
      go_wp2
      all_goals exact bodyPost_ret (ret27x rfl _ _ (g + 1) (g + 2) _ _ _ _ _ _ rfl rfl rfl B48.out B58.out) rfl ⟨A5, n5, c5, rfl, by rw [hg]; exact HO8.out, by rw [hg]; exact HB8.out⟩
end Go.Proofs.Ytmgaihdepglahaa
