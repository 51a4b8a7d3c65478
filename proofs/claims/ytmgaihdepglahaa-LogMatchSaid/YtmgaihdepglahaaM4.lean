/-
  The document's spots of a log, and the number of an Index.
-/
import Derived.Test.YtmgaihdepglahaaM3
import Derived.Test.YtmgaihdepglahaaAK
namespace Go.Proofs.Ytmgaihdepglahaa
open Go.RowKit

/-- The first m spots. -/
def spotL (bi bt : Int) (es : List En) (m : Nat) : List (Int × Int) := (List.range m).map fun n => (spI bi n, spT bt es n)
theorem spotL_succ (bi bt : Int) (es : List En) (m : Nat) : spotL bi bt es (m + 1) = spotL bi bt es m ++ [(spI bi m, spT bt es m)] := by
  unfold spotL
  rw [List.range_succ, List.map_append]
  rfl
theorem spotL_len (bi bt : Int) (es : List En) (m : Nat) : (spotL bi bt es m).length = m := by simp [spotL]
def rowA : List (Int × Int) → List Value
  | [] => []
  | x :: r => .int .u64 x.1 :: .int .u64 x.2 :: rowA r
theorem rowA_len : ∀ l : List (Int × Int), (rowA l).length = l.length * 2
  | [] => rfl
  | x :: r => by
    rw [rowA, List.length_cons, List.length_cons, rowA_len r, List.length_cons]
    omega
theorem rowA_append : ∀ l m : List (Int × Int), rowA (l ++ m) = rowA l ++ rowA m
  | [], _ => rfl
  | x :: r, m => by rw [List.cons_append, rowA, rowA_append r m, rowA, List.cons_append, List.cons_append]
theorem rowA_at : ∀ (l : List (Int × Int)) (j : Nat) (x : Int × Int), l[j]? = some x → (rowA l)[j * 2]? = some (.int .u64 x.1) ∧ (rowA l)[j * 2 + 1]? = some (.int .u64 x.2)
  | [], j, _, h => by simp at h
  | y :: r, 0, x, h => by
    rw [List.getElem?_cons_zero, Option.some.injEq] at h
    subst h
    exact ⟨rfl, rfl⟩
  | y :: r, j + 1, x, h => by
    rw [List.getElem?_cons_succ] at h
    have := rowA_at r j x h
    rw [rowA, show (j + 1) * 2 = j * 2 + 1 + 1 by omega]
    exact this
theorem spotL_at (bi bt : Int) (es : List En) (m j : Nat) (h : j < m) : (spotL bi bt es m)[j]? = some (spI bi j, spT bt es j) := by
  simp [spotL, h]

/-- The slice owns the spots of a log, m of them. -/
def So (w : World) (base : Nat) (A : Option Addr) (m c : Nat) (bi bt : Int) (es : List En) : Prop := w.ownsRow base 24 2 (.slice A m c) m (rowA (spotL bi bt es m))
theorem So.below {w w' : World} {base m c : Nat} {A : Option Addr} {bi bt : Int} {es : List En} (h : So w base A m c bi bt es) (hb : Below w.heap.size w w') : So w' base A m c bi bt es := World.ownsRow.below h hb
theorem So.at_ {w : World} {base m c j : Nat} {A : Option Addr} {bi bt : Int} {es : List En} (h : So w base A m c bi bt es) (hj : j < m) :
    ∃ g, A = some ⟨g, 0, none⟩ ∧ base ≤ g ∧ g < w.heap.size ∧ w.cell? ⟨g, j * 2, none⟩ = some (.int .u64 (spI bi j)) ∧ w.cell? ⟨g, j * 2 + 1, none⟩ = some (.int .u64 (spT bt es j)) := by
  unfold So at h
  obtain ⟨g, cap, hv, hb, hg⟩ := h.form (by omega)
  injection hv with hA _ hc
  subst hA hc
  have := rowA_at _ j _ (spotL_at bi bt es m j hj)
  exact ⟨g, rfl, hb, hg, (h.cellAt _ (by omega)).trans this.1, (h.cellAt _ (by omega)).trans this.2⟩

theorem Try.info24 : (Try.prog.info? 24).map (fun i => (i.zero, i.size, i.bytes)) = some (some (.agg #[.int .u64 0, .int .u64 0]), 2, 16) := by kernel_rfl

/-- What Spots leaves. -/
def Spd (w : World) (n : Nat) (bi bt : Int) (es : List En) (e : Ending) (w' : World) : Prop := ∃ A c, e = .returned (.slice A (n + 1) c) ∧ So w' w.heap.size A (n + 1) c bi bt es ∧ Below w.heap.size w w'
def Spr (w0 : World) (k : Nat) (bi bt : Int) (es : List En) (v : Value) (w : World) : Prop := ∃ A c, v = .slice A (k + 1) c ∧ So w w0.heap.size A (k + 1) c bi bt es ∧ Below w0.heap.size w0 w

set_option linter.unusedSimpArgs false in
set_option maxRecDepth 100000 in
set_option maxHeartbeats 2000000 in
theorem refspots_any (bi bt : Int) (A : Option Addr) (n c B : Nat) (es : List En) (w : World) (h : Es w B A n es) (hn : n ≤ 1000000) (hB : B ≤ w.heap.size) (hi0 : 0 ≤ bi) (hi1 : bi < 18446744073709551616) :
    Calls Try.prog 49 #[.agg #[.int .u64 bi, .int .u64 bt], .slice A n c] w (Spd w n bi bt es) := by
  have HL := Lib.hid h.len
  have H := Lib.hid h
  obtain ⟨i0, hi, hz0, hz1, hz2⟩ := info_parts Try.info24
  have HI := Lib.hid hi
  have HZ := Lib.hid hz0
  have H1 := Lib.hid hz1
  have H2 := Lib.hid hz2
  have hst : Spr w 0 bi bt es (.slice (some ⟨w.heap.size + 1, 0, none⟩) 1 1) ((w.alloc (.cells #[.int .u64 bi, .int .u64 bt] 24)).alloc (.cells #[.int .u64 bi, .int .u64 bt] 24)) := by
    refine ⟨_, _, rfl, ?_, ((Below.refl _ w).alloc (Nat.le_refl _) _).alloc (by simp) _⟩
    have := World.ownsRow_lit (base := w.heap.size) (e := 24) (size := 2) (w.alloc (.cells #[.int .u64 bi, .int .u64 bt] 24)) #[.int .u64 bi, .int .u64 bt] 1 (by simp) (by unfold maxLen; omega) rfl
    rw [show (w.alloc (.cells #[.int .u64 bi, .int .u64 bt] 24)).heap.size = w.heap.size + 1 by simp] at this
    unfold So
    rw [show rowA (spotL bi bt es (0 + 1)) = [.int .u64 bi, .int .u64 bt] by unfold spotL; simp [rowA, spI_zero bi hi0 hi1, spT]]
    exact this
  have HST := Lib.hid hst
  clear h hi hz0 hz1 hz2 hst
  go_enter Try.func49, Try.ntmps49
  go_wp2
  go_loopw [5, 11] (fun v i wr => ∃ k : Nat, k ≤ n ∧ i = .int .i64 k ∧ Spr w k bi bt es v wr) (fun _ i _ => n - (intOf i).toNat)
  case atStart => exact ⟨0, Nat.zero_le _, rfl, HST.out⟩
  case round =>
    obtain ⟨k, hk, rfl, Av, cv, rfl, hoo, hb⟩ := hrel
    by_cases hlt : k < n
    · obtain ⟨b, o, x, rfl, hbB, hx, hok, hr⟩ := (H.out.below (hb.mono hB)).at_ hlt
      obtain ⟨c0, _, _⟩ := rng3 hr
      obtain ⟨g, rfl, hgb, hgl, d0, _⟩ := hoo.at_ (show k < k + 1 by omega)
      have hwr : IntKind.u64.wrap (spI bi k + 1) = spI bi (k + 1) := by rw [IntKind.wrap_u64, spI_succ]
      have hT : spT bt es (k + 1) = x.t := by show (es.getD k e0).t = x.t; rw [← hx]; rfl
      have HT := Lib.hid hT
      have HO := Lib.hid hoo
      have HBW := Lib.hid hb
      have G1 := Lib.hid hgb
      have G2 := Lib.hid hgl
      have HS : Hid (spotL bi bt es (k + 1 + 1) = spotL bi bt es (k + 1) ++ [(spI bi (k + 1), x.t)]) := by rw [← hT]; exact spotL_succ _ _ _ _
      generalize x.t = xt at *
      generalize hJ : spI bi (k + 1) = J at *
      generalize hI : spI bi k = I at *
      have k0 : (0 : Int) ≤ (k : Int) := by omega
      have k1 : (k : Int) < (k : Int) + 1 := by omega
      clear hr hx hoo hb hok hT hgb hgl hJ hI
      go_upto_region 5 with (fail)
      have hS0 : wr.drew.cell? ⟨g, k * 2, none⟩ = some (.int .u64 I) ∧ wr.drew.cell? ⟨b, o + k * 3, none⟩ = some (.int .u64 xt) := ⟨d0, c0⟩
      refine wp_region_noPanic ?_
      refine wp_region_held_drew (S := fun w' => w'.cell? ⟨g, k * 2, none⟩ = some (.int .u64 I) ∧ w'.cell? ⟨b, o + k * 3, none⟩ = some (.int .u64 xt)) (by kernel_rfl) hS0 (fun hHeld => ?_)
      refine take_d (i := 0) (d := 14) (v := ?s14) rfl rfl (by kernel_rfl) (by kernel_rfl) (by kernel_rfl) (fun _ _ _ h => h) (Or.inl ⟨by kernel_rfl, ?s14h⟩) hHeld ?s14n
      case s14h => (intro w hSw; (try dsimp only at hSw); go_split_ands; go_simp; (try exact rfl))
      try simp only [Act.put, List.setIfInBounds_toArray, List.set_cons_zero, List.set_cons_succ]
      refine take_d (i := 1) (d := 15) (v := ?s15) rfl rfl (by kernel_rfl) (by kernel_rfl) (by kernel_rfl) (fun _ _ _ h => h) (Or.inl ⟨by kernel_rfl, ?s15h⟩) hHeld ?s15n
      case s15h => (intro w hSw; (try dsimp only at hSw); go_split_ands; go_simp; (try exact rfl))
      try simp only [Act.put, List.setIfInBounds_toArray, List.set_cons_zero, List.set_cons_succ]
      refine take_d (i := 2) (d := 16) (v := ?s16) rfl rfl (by kernel_rfl) (by kernel_rfl) (by kernel_rfl) (fun _ _ _ h => h) (Or.inl ⟨by kernel_rfl, ?s16h⟩) hHeld ?s16n
      case s16h => (intro w hSw; (try dsimp only at hSw); go_split_ands; go_simp; (try exact rfl))
      try simp only [Act.put, List.setIfInBounds_toArray, List.set_cons_zero, List.set_cons_succ]
      refine take_d (i := 3) (d := 17) (v := ?s17) rfl rfl (by kernel_rfl) (by kernel_rfl) (by kernel_rfl) (fun _ _ _ h => h) (Or.inl ⟨by kernel_rfl, ?s17h⟩) hHeld ?s17n
      case s17h => (intro w hSw; (try dsimp only at hSw); go_split_ands; go_simp; (try exact rfl))
      try simp only [Act.put, List.setIfInBounds_toArray, List.set_cons_zero, List.set_cons_succ]
      refine take_d (i := 4) (d := 18) (v := ?s18) rfl rfl (by kernel_rfl) (by kernel_rfl) (by kernel_rfl) (fun _ _ _ h => h) (Or.inl ⟨by kernel_rfl, ?s18h⟩) hHeld ?s18n
      case s18h => (intro w hSw; (try dsimp only at hSw); go_split_ands; go_simp; (try exact rfl))
      try simp only [Act.put, List.setIfInBounds_toArray, List.set_cons_zero, List.set_cons_succ]
      refine take_d (i := 5) (d := 19) (v := ?s19) rfl rfl (by kernel_rfl) (by kernel_rfl) (by kernel_rfl) (fun _ _ _ h => h) (Or.inl ⟨by kernel_rfl, ?s19h⟩) hHeld ?s19n
      case s19h => (intro w hSw; (try dsimp only at hSw); go_split_ands; go_simp; (try exact rfl))
      try simp only [Act.put, List.setIfInBounds_toArray, List.set_cons_zero, List.set_cons_succ]
      refine take_d (i := 6) (d := 20) (v := ?s20) rfl rfl (by kernel_rfl) (by kernel_rfl) (by kernel_rfl) (fun _ _ _ h => h) (Or.inl ⟨by kernel_rfl, ?s20h⟩) hHeld ?s20n
      case s20h => (intro w hSw; (try dsimp only at hSw); go_split_ands; go_simp; (try exact rfl))
      try simp only [Act.put, List.setIfInBounds_toArray, List.set_cons_zero, List.set_cons_succ]
      refine take_d (i := 7) (d := 21) (v := ?s21) rfl rfl (by kernel_rfl) (by kernel_rfl) (by kernel_rfl) (fun _ _ _ h => h) (Or.inl ⟨by kernel_rfl, ?s21h⟩) hHeld ?s21n
      case s21h => (intro w hSw; (try dsimp only at hSw); go_split_ands; go_simp; (try exact rfl))
      try simp only [Act.put, List.setIfInBounds_toArray, List.set_cons_zero, List.set_cons_succ]
      refine take_d (i := 8) (d := 22) (v := ?s22) rfl rfl (by kernel_rfl) (by kernel_rfl) (by kernel_rfl) (fun _ _ _ h => h) (Or.inl ⟨by kernel_rfl, ?s22h⟩) hHeld ?s22n
      case s22h => (intro w hSw; (try dsimp only at hSw); go_split_ands; go_simp; (try exact rfl))
      try simp only [Act.put, List.setIfInBounds_toArray, List.set_cons_zero, List.set_cons_succ]
      refine take_d (i := 9) (d := 23) (v := ?s23) rfl rfl (by kernel_rfl) (by kernel_rfl) (by kernel_rfl) (fun _ _ _ h => h) (Or.inl ⟨by kernel_rfl, ?s23h⟩) hHeld ?s23n
      case s23h => (intro w hSw; (try dsimp only at hSw); go_split_ands; go_simp; (try exact rfl))
      try simp only [Act.put, List.setIfInBounds_toArray, List.set_cons_zero, List.set_cons_succ]
      refine take_d (i := 10) (d := 24) (v := ?s24) rfl rfl (by kernel_rfl) (by kernel_rfl) (by kernel_rfl) (fun _ _ _ h => h) (Or.inl ⟨by kernel_rfl, ?s24h⟩) hHeld ?s24n
      case s24h => (intro w hSw; (try dsimp only at hSw); go_split_ands; go_simp; (try exact rfl))
      try simp only [Act.put, List.setIfInBounds_toArray, List.set_cons_zero, List.set_cons_succ]
      refine take_d (i := 11) (d := 25) (v := ?s25) rfl rfl (by kernel_rfl) (by kernel_rfl) (by kernel_rfl) (fun _ _ _ h => h) (Or.inl ⟨by kernel_rfl, ?s25h⟩) hHeld ?s25n
      case s25h => (intro w hSw; (try dsimp only at hSw); go_split_ands; go_simp; (try exact rfl))
      try simp only [Act.put, List.setIfInBounds_toArray, List.set_cons_zero, List.set_cons_succ]
      refine take_d (i := 12) (d := 26) (v := ?s26) rfl rfl (by kernel_rfl) (by kernel_rfl) (by kernel_rfl) (fun _ _ _ h => h) (Or.inl ⟨by kernel_rfl, ?s26h⟩) hHeld ?s26n
      case s26h => (intro w hSw; (try dsimp only at hSw); go_split_ands; go_simp; (try exact rfl))
      try simp only [Act.put, List.setIfInBounds_toArray, List.set_cons_zero, List.set_cons_succ]
      refine wpAnyH_ready (rs := [13]) (by kernel_rfl) (by simp) ?_
      refine AllReadyH.cons rfl (fun K hK => ?_) AllReadyH.nil
      go_simp
      refine hK.out _ _ ⟨(World.cell?_alloc_lt _ _ _ G2.out).trans d0, (World.cell?_alloc_lt _ _ _ (show b < wr.heap.size by have := HBW.out.size; omega)).trans c0⟩ (fun hHeld => ?_)
      clear hK K
      have B7 : Hid (Blk ((wr.alloc (.cells #[.int .u64 J, .int .u64 xt] 24)).drew) wr.heap.size 24 #[.int .u64 J, .int .u64 xt]) := Lib.hid (show Blk (wr.alloc _) _ _ _ from Blk.new wr 24 _)
      have O7 : Hid (So ((wr.alloc (.cells #[.int .u64 J, .int .u64 xt] 24)).drew) w.heap.size (some ⟨g, 0, none⟩) (k + 1) cv bi bt es) := Lib.hid (HO.out.below (((Below.refl _ wr).alloc (Nat.le_refl _) _).drew))
      have L7 : Hid (Below w.heap.size w ((wr.alloc (.cells #[.int .u64 J, .int .u64 xt] 24)).drew)) := Lib.hid ((HBW.out.alloc HBW.out.size _).drew)
      have e0 : ((wr.alloc (.cells #[.int .u64 J, .int .u64 xt] 24)).drew).cell? ⟨b, o + k * 3, none⟩ = some (.int .u64 xt) := hHeld.2
      have G3 : Hid (b < w.heap.size) := Lib.hid (by omega)
      generalize (wr.alloc (.cells #[.int .u64 J, .int .u64 xt] 24)).drew = w7 at *
      try simp only [Act.put, List.setIfInBounds_toArray, List.set_cons_zero, List.set_cons_succ]
      refine wpAnyH_ready (rs := [14]) (by kernel_rfl) (by simp) ?_
      refine AllReadyH.cons rfl (fun K hK => ?_) AllReadyH.nil
      refine step_append_keep w7 rfl (.tmp 14) (.tmp 27) 56 rfl w.heap.size 24 i0 _ 2 16 Try.underlying56 HI.out HZ.out H1.out H2.out rfl (by decide) g (k + 1) cv (rowA (spotL bi bt es (k + 1))) rfl O7.out ⟨wr.heap.size, 0, none⟩ 1 1 [.int .u64 J, .int .u64 xt] rfl rfl (fun j u hu => by rw [add_at, Nat.zero_add, B7.out.cell, List.getElem?_toArray]; exact hu) (by simp [Value.oneCell']) (by decide) (by unfold maxLen; omega) (by omega) L7.out.size ?_
      intro g8 cap8 w8 hown8 hgrow8 hkeep8
      have hd8 := hkeep8 (k * 2) (.int .u64 I) ((World.ownsRow.cellAt O7.out _ (by omega)).symm.trans hHeld.1)
      have he8 : w8.cell? ⟨b, o + k * 3, none⟩ = some (.int .u64 xt) := (World.cell?_of_block (hgrow8.block b (Nat.lt_of_lt_of_le G3.out L7.out.size) (fun e => absurd (Option.some.inj e) (by have := G3.out; have := G1.out; omega)))).trans e0
      have L8 := Lib.hid (L7.out.grown hgrow8 L7.out.size (fun kk hk => by have := Option.some.inj hk; have := G1.out; omega))
      have O8 : Hid (So w8 w.heap.size (some ⟨g8, 0, none⟩) (k + 1 + 1) cap8 bi bt es) := by unfold So; rw [HS.out, rowA_append]; exact Lib.hid hown8
      clear hown8 hgrow8 hkeep8
      refine hK.out _ _ ⟨hd8, he8⟩ (fun hHeld => ?_)
      clear hK K
      try simp only [Act.put, List.setIfInBounds_toArray, List.set_cons_zero, List.set_cons_succ]
      refine take_d (i := 15) (d := 5) (v := ?s5) rfl rfl (by kernel_rfl) (by kernel_rfl) (by kernel_rfl) (fun _ _ _ h => h) (Or.inl ⟨by kernel_rfl, ?s5h⟩) hHeld ?s5n
      case s5h => (intro w hSw; (try dsimp only at hSw); go_split_ands; go_simp; (try exact rfl))
      try simp only [Act.put, List.setIfInBounds_toArray, List.set_cons_zero, List.set_cons_succ]
      refine wpAnyH_done (by kernel_rfl) ?_ _
      refine NoPanic.normal ?_
      go_wp2
      go_roundw
      case rel => exact ⟨k + 1, by omega, by go_num, _, _, rfl, O8.out, L8.out⟩
      case measure => simp [intOf]; omega
    · obtain rfl : k = n := by omega
      have F := Lib.hid hoo
      clear hoo
      go_wp2
      go_ret
      exact ⟨Av, cv, rfl, F.out, hb⟩

end Go.Proofs.Ytmgaihdepglahaa
