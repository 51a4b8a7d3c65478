/-
  The program's Take.
-/
import Derived.Test.YtmgaihdepglahaaQT
import Derived.Test.YtmgaihdepglahaaN8
namespace Go.Proofs.Ytmgaihdepglahaa
open Go.RowKit

theorem ret_cell_two {P : Program} {fn : Func} {p u v : Tmp} {ty : TypeId} (h : fn.results = #[.cell p ty, .tmp u, .tmp v]) (tmps : Array Value) (w : World) (g : Nat) (t : TypeId) (cs : Array Value) (d : TypeDesc)
    (hp : tmps.getD p undef = .pointer (some ⟨g, 0, none⟩)) (hg : Blk w g t cs) (hu : P.underlying ty = some d) (hd : (match d with | .struct _ | .array _ _ => true | _ => false) = true) (hi : (P.info? ty).map (·.size) = some cs.size) :
    (results fn tmps).run P w = .ok (.tuple #[.agg cs, tmps.getD u undef, tmps.getD v undef]) w := by
  have hp' : tmps[p]?.getD undef = .pointer (some ⟨g, 0, none⟩) := by simpa using hp
  simp [results, h, hp', asAddr, run_loadVar_row w g t ty cs (0, 0) d hg hu hd hi]
theorem ret27tt {fn : Func} {p u v : Tmp} (h : fn.results = #[.cell p 27, .tmp u, .tmp v]) (tmps : Array Value) (w : World) (g : Nat) (a b c x y : Value)
    (hp : tmps.getD p undef = .pointer (some ⟨g, 0, none⟩)) (hx : tmps.getD u undef = x) (hy : tmps.getD v undef = y) (hg : Blk w g 27 #[a, b, c]) : (results fn tmps).run Try.prog w = .ok (.tuple #[.agg #[a, b, c], x, y]) w := by
  subst hx hy
  exact ret_cell_two h tmps w g 27 #[a, b, c] _ hp hg Try.underlying27 rfl Try.i27

/-- What Take leaves: a log of its own, an Index, an error. -/
def Ltk (w : World) (l : Lg) (I : Int) (er : Int) (e : Ending) (w' : World) : Prop := ∃ A n c, e = .returned (.tuple #[.agg #[.int .u64 l.bi, .int .u64 l.bt, .slice A n c], .int .u64 I, .int .i64 er]) ∧ Eo w' w.heap.size A n c l.es ∧ Below w.heap.size w w'
theorem Lr.cut {w : World} {B : Nat} {A : Option Addr} {n c k : Nat} {l : Lg} (h : Lr w B A n c l) (hk : k ≤ n) : Lr w B A k k ⟨l.bi, l.bt, l.es.take k⟩ :=
  ⟨h.es.take hk, Nat.le_refl _, fun e => by have := h.nil e; have := h.nc; omega, Nat.le_trans hk h.n, h.bi0, h.bi1, h.bt0, h.bt1⟩
theorem Blk.three' {w : World} {p : Nat} {t : TypeId} {a b c : Value} (h : Blk w p t #[a, b, c]) : w.cell? ⟨p, 0, none⟩ = some a ∧ w.cell? ⟨p, 1, none⟩ = some b ∧ w.cell? ⟨p, 2, none⟩ = some c := ⟨h.cell 0, h.cell 1, h.cell 2⟩

set_option linter.unusedSimpArgs false in
set_option maxRecDepth 100000 in
set_option maxHeartbeats 8000000 in
theorem Take_any (l o : Lg) (A A' : Option Addr) (n c m c' B : Nat) (w : World) (h : Lr w B A n c l) (h' : Lr w B A' m c' o) (hB : B ≤ w.heap.size) (hm9 : m ≤ 900) :
    Calls Try.prog 16 #[.agg #[.int .u64 l.bi, .int .u64 l.bt, .slice A n c], .agg #[.int .u64 o.bi, .int .u64 o.bt], .slice A' m c'] w (Ltk w (pTakeL l o.bi o.bt o.es) (pTakeI l o.bi o.bt o.es) (pTakeE l o.bi o.bt o.es)) := by
  obtain ⟨g, hg⟩ : ∃ g, w.heap.size = g := ⟨_, rfl⟩
  have hBg : B ≤ g := by omega
  have ME := Lib.hid (fun W (hW : Below g w W) => meet_any l o A A' n c m c' B W (h.below (hW.mono hBg)) (h'.below (hW.mono hBg)) (by have := hW.size; omega))
  have hH := Lib.hid (fun W (hW : Below g w W) => h.below (hW.mono hBg))
  have hO := Lib.hid (fun W (hW : Below g w W) => h'.below (hW.mono hBg))
  have hlen := Lib.hid h.len
  have hm := Lib.hid h'.len
  have hmn := Lib.hid hm9
  have hbi0 := Lib.hid h.bi0
  have hnc := Lib.hid h.nc
  have hmc := Lib.hid h'.nc
  clear h h' hm9
  have hR := @meetE_right l o.bi o.bt o.es
  obtain ⟨k, hk⟩ : ∃ k, meetN l o.bi o.bt o.es = k := ⟨_, rfl⟩
  obtain ⟨E, hE⟩ : ∃ E, meetE l o.bi o.bt o.es = E := ⟨_, rfl⟩
  have hkl := Lib.hid (meetN_le l o.bi o.bt o.es)
  rw [hE] at hR
  rw [hk] at hkl
  have hTE : pTakeE l o.bi o.bt o.es = if E ≠ 0 then E else if k < o.es.length then rExtE (tkL l o.bi o.bt o.es) (o.es.drop k) else 0 := by unfold pTakeE; rw [hE, hk]
  have hTL : pTakeL l o.bi o.bt o.es = if pTakeE l o.bi o.bt o.es ≠ 0 then lg0 else if k < o.es.length then rExtL (tkL l o.bi o.bt o.es) (o.es.drop k) else l := by unfold pTakeL; rw [hk]
  have hTI : pTakeI l o.bi o.bt o.es = if pTakeE l o.bi o.bt o.es ≠ 0 then 0 else spI o.bi o.es.length := rfl
  have htk : tkL l o.bi o.bt o.es = ⟨l.bi, l.bt, l.es.take (spotN l (spI o.bi k))⟩ := by unfold tkL; rw [hk]
  rw [hE, hk] at ME
  generalize pTakeE l o.bi o.bt o.es = TE at *
  generalize pTakeL l o.bi o.bt o.es = TL at *
  generalize pTakeI l o.bi o.bt o.es = TI at *
  rw [htk] at hTE hTL
  clear htk hk hE
  obtain ⟨bi, bt, es⟩ := l
  obtain ⟨pi, pt, es'⟩ := o
  simp only at ME hH hO hlen hm hbi0 hkl hTE hTL hTI ⊢
  have B41 := Lib.hid (show Blk ((((w.alloc (.cells #[.int .u64 bi, .int .u64 bt, .slice A n c] 27)).alloc (.cells #[.int .u64 pi, .int .u64 pt] 24)).alloc (.cells #[.int .u64 0, .int .u64 0, .slice none 0 0] 27)).alloc (.cells #[.int .u64 bi, .int .u64 bt, .slice A n c] 81)).drew (g + 2) 27 #[.int .u64 0, .int .u64 0, .slice none 0 0] from hg ▸ ((Blk.fresh (by simp)).alloc _).drewN 1)
  have B51 := Lib.hid (show Blk ((((w.alloc (.cells #[.int .u64 bi, .int .u64 bt, .slice A n c] 27)).alloc (.cells #[.int .u64 pi, .int .u64 pt] 24)).alloc (.cells #[.int .u64 0, .int .u64 0, .slice none 0 0] 27)).alloc (.cells #[.int .u64 bi, .int .u64 bt, .slice A n c] 81)).drew (g + 1) 24 #[.int .u64 pi, .int .u64 pt] from hg ▸ (((Blk.fresh (by simp)).alloc _).alloc _).drewN 1)
  have B71 := Lib.hid (show Blk ((((w.alloc (.cells #[.int .u64 bi, .int .u64 bt, .slice A n c] 27)).alloc (.cells #[.int .u64 pi, .int .u64 pt] 24)).alloc (.cells #[.int .u64 0, .int .u64 0, .slice none 0 0] 27)).alloc (.cells #[.int .u64 bi, .int .u64 bt, .slice A n c] 81)).drew (g + 3) 81 #[.int .u64 bi, .int .u64 bt, .slice A n c] from hg ▸ (Blk.fresh (by simp)).drewN 1)
  have HB1 := Lib.hid (show Below g w ((((w.alloc (.cells #[.int .u64 bi, .int .u64 bt, .slice A n c] 27)).alloc (.cells #[.int .u64 pi, .int .u64 pt] 24)).alloc (.cells #[.int .u64 0, .int .u64 0, .slice none 0 0] 27)).alloc (.cells #[.int .u64 bi, .int .u64 bt, .slice A n c] 81)).drew from hg ▸ (((((Below.refl _ _).alloc (Nat.le_refl _) _).alloc (by simp) _).alloc (by simp; omega) _).alloc (by simp; omega) _).drew)
  have C7 : Hid (∀ W, Blk W (g + 3) 81 #[.int .u64 bi, .int .u64 bt, .slice A n c] → W.cell? ⟨g + 3, 0, none⟩ = some (.int .u64 bi) ∧ W.cell? ⟨g + 3, 1, none⟩ = some (.int .u64 bt) ∧ W.cell? ⟨g + 3, 2, none⟩ = some (.slice A n c)) := fun W hb => ⟨hb.cell 0, hb.cell 1, hb.cell 2⟩
  have C5 : Hid (∀ W, Blk W (g + 1) 24 #[.int .u64 pi, .int .u64 pt] → W.cell? ⟨g + 1, 0, none⟩ = some (.int .u64 pi) ∧ W.cell? ⟨g + 1, 1, none⟩ = some (.int .u64 pt)) := fun W hb => ⟨hb.cell 0, hb.cell 1⟩
  have C4 : Hid (∀ W, Blk W (g + 2) 27 #[.int .u64 0, .int .u64 0, .slice none 0 0] → (W.cell? ⟨g + 2, 0, none⟩ = some (.int .u64 0) ∧ W.cell? ⟨g + 2, 1, none⟩ = some (.int .u64 0) ∧ W.cell? ⟨g + 2, 2, none⟩ = some (.slice none 0 0)) ∧ (W.frozen? ⟨g + 2, 0, none⟩ = false ∧ W.frozen? ⟨g + 2, 1, none⟩ = false ∧ W.frozen? ⟨g + 2, 2, none⟩ = false)) := fun W hb => ⟨⟨hb.cell 0, hb.cell 1, hb.cell 2⟩, hb.frozen 0, hb.frozen 1, hb.frozen 2⟩
  by_cases hE0 : E = 0
  rotate_left
  · rw [if_pos hE0] at hTE
    subst hTE
    rw [if_pos hE0] at hTL hTI
    subst hTL hTI
    have hE2 : (TE != 0) = true := by simp [hE0]
    clear hH hO hlen hm hmn hbi0 hnc hmc hR hkl hE0
    go_enter Try.func16, Try.ntmps16
    go_wp2
    refine wp_scope_jumps 0 (fun a W => (Blk W (g + 2) 27 #[.int .u64 0, .int .u64 0, .slice none 0 0] ∧ Below g w W) ∧ ∃ v0 v1 v2 v3 v4 v5 v7 v8 v9 v10 v12 v13 v14 v15 v16 v17 v18 v19 v20 v21 v22 v23 v24 v25 v26 v27 v28 v29 v30 v31 v32 v33 v34 v35 v36 v37 v38 v39 v40 v41 v42 v43 v44 v45 v46 v47 v48 v49 v50 v51 v52 v53 v54 v55 v56 v57 v58 v59 v60 v61 v62 v63 : Value, a = { tmps := #[v0, v1, v2, v3, v4, v5, .pointer (some ⟨g + 1 + 1, 0, none⟩), v7, v8, v9, v10, .int .i64 TE, v12, v13, v14, v15, v16, v17, v18, v19, v20, v21, v22, v23, v24, v25, v26, v27, v28, v29, v30, v31, v32, v33, v34, v35, v36, v37, v38, v39, v40, v41, v42, v43, v44, v45, v46, v47, v48, v49, v50, v51, v52, v53, v54, v55, v56, v57, v58, v59, v60, v61, v62, v63], defers := [] }) (fun _ _ => 0) rfl ?first ?pass
    case pass =>
      rintro a W ⟨⟨hb4, hbW⟩, v0, v1, v2, v3, v4, v5, v7, v8, v9, v10, v12, v13, v14, v15, v16, v17, v18, v19, v20, v21, v22, v23, v24, v25, v26, v27, v28, v29, v30, v31, v32, v33, v34, v35, v36, v37, v38, v39, v40, v41, v42, v43, v44, v45, v46, v47, v48, v49, v50, v51, v52, v53, v54, v55, v56, v57, v58, v59, v60, v61, v62, v63, rfl⟩
      obtain ⟨⟨d0, d1, d2⟩, f0, f1, f2⟩ := C4.out _ hb4
      go_wp2
      exact bodyPost_ret (ret27tt rfl _ _ (g + 2) _ _ _ _ _ rfl rfl rfl (((hb4.set_ 0 _).set_ 1 _).set_ 2 _)) rfl ⟨none, 0, 0, rfl, Eo.nothing _ _, by rw [hg]; exact ((hbW.setCell (by show g ≤ g + 2; omega) _).setCell (by show g ≤ g + 2; omega) _).setCell (by show g ≤ g + 2; omega) _⟩
    case first =>
      go_wp2
      have hS0 := And.intro (C7.out _ B71.out) (C5.out _ B51.out)
      refine wp_region_noPanic ?_
      refine wp_region_held_drew (S := fun w' => (w'.cell? ⟨g + 3, 0, none⟩ = some (.int .u64 bi) ∧ w'.cell? ⟨g + 3, 1, none⟩ = some (.int .u64 bt) ∧ w'.cell? ⟨g + 3, 2, none⟩ = some (.slice A n c)) ∧ (w'.cell? ⟨g + 1, 0, none⟩ = some (.int .u64 pi) ∧ w'.cell? ⟨g + 1, 1, none⟩ = some (.int .u64 pt))) (by kernel_rfl) hS0 (fun hHeld => ?_)
      generalize ((((w.alloc (.cells #[.int .u64 bi, .int .u64 bt, .slice A n c] 27)).alloc (.cells #[.int .u64 pi, .int .u64 pt] 24)).alloc (.cells #[.int .u64 0, .int .u64 0, .slice none 0 0] 27)).alloc (.cells #[.int .u64 bi, .int .u64 bt, .slice A n c] 81)).drew = w1 at *
      refine take_d (i := 0) (d := 18) (v := ?ca18) rfl rfl (by kernel_rfl) (by kernel_rfl) (by kernel_rfl) (fun _ _ _ h => h) (Or.inl ⟨by kernel_rfl, ?ca18h⟩) hHeld ?ca18n
      case ca18h => (intro w hSw; (try dsimp only at hSw); go_split_ands; go_simp; (try exact rfl))
      try simp only [Act.put, List.setIfInBounds_toArray, List.set_cons_zero, List.set_cons_succ]
      refine take_d (i := 1) (d := 19) (v := ?ca19) rfl rfl (by kernel_rfl) (by kernel_rfl) (by kernel_rfl) (fun _ _ _ h => h) (Or.inl ⟨by kernel_rfl, ?ca19h⟩) hHeld ?ca19n
      case ca19h => (intro w hSw; (try dsimp only at hSw); go_split_ands; go_simp; (try exact rfl))
      try simp only [Act.put, List.setIfInBounds_toArray, List.set_cons_zero, List.set_cons_succ]
      refine take_d (i := 2) (d := 20) (v := ?ca20) rfl rfl (by kernel_rfl) (by kernel_rfl) (by kernel_rfl) (fun _ _ _ h => h) (Or.inl ⟨by kernel_rfl, ?ca20h⟩) hHeld ?ca20n
      case ca20h => (intro w hSw; (try dsimp only at hSw); go_split_ands; go_simp; (try exact rfl))
      try simp only [Act.put, List.setIfInBounds_toArray, List.set_cons_zero, List.set_cons_succ]
      refine wpAnyH_ready (rs := [3]) (by kernel_rfl) (by simp) ?_
      refine AllReadyH.cons rfl (fun K hK => ?_) AllReadyH.nil
      go_simp
      refine (offer_any _ _ _ _ _ _).mono ?_
      rintro e w2 ⟨rfl, hb2⟩
      have B42 := Lib.hid (B41.out.below hb2 B41.out.lt)
      have B52 := Lib.hid (B51.out.below hb2 B51.out.lt)
      have B72 := Lib.hid (B71.out.below hb2 B71.out.lt)
      have HB2 := Lib.hid (HB1.out.trans (hb2.mono (by have := B41.out.lt; omega)))
      clear hb2
      refine hK.out _ _ (And.intro (C7.out _ B72.out) (C5.out _ B52.out)) (fun hHeld => ?_)
      clear hK K
      try simp only [Act.put, List.setIfInBounds_toArray, List.set_cons_zero, List.set_cons_succ]
      refine wpAnyH_ready (rs := [4]) (by kernel_rfl) (by simp) ?_
      refine AllReadyH.cons rfl (fun K hK => ?_) AllReadyH.nil
      go_simp
      refine (ME.out _ HB2.out).mono ?_
      rintro e w3 ⟨rfl, hb3⟩
      have B43 := Lib.hid (B42.out.below hb3 B42.out.lt)
      have B53 := Lib.hid (B52.out.below hb3 B52.out.lt)
      have B73 := Lib.hid (B72.out.below hb3 B72.out.lt)
      have HB3 := Lib.hid (HB2.out.trans (hb3.mono (by have := B42.out.lt; omega)))
      clear hb3
      refine hK.out _ _ (And.intro (C7.out _ B73.out) (C5.out _ B53.out)) (fun hHeld => ?_)
      clear hK K
      try simp only [Act.put, List.setIfInBounds_toArray, List.set_cons_zero, List.set_cons_succ]
      refine take_d (i := 5) (d := 17) (v := ?ca17) rfl rfl (by kernel_rfl) (by kernel_rfl) (by kernel_rfl) (fun _ _ _ h => h) (Or.inl ⟨by kernel_rfl, ?ca17h⟩) hHeld ?ca17n
      case ca17h => (intro w hSw; (try dsimp only at hSw); go_split_ands; go_simp; (try exact rfl))
      try simp only [Act.put, List.setIfInBounds_toArray, List.set_cons_zero, List.set_cons_succ]
      refine take_d (i := 6) (d := 23) (v := ?ca23) rfl rfl (by kernel_rfl) (by kernel_rfl) (by kernel_rfl) (fun _ _ _ h => h) (Or.inl ⟨by kernel_rfl, ?ca23h⟩) hHeld ?ca23n
      case ca23h => (intro w hSw; (try dsimp only at hSw); go_split_ands; go_simp; (try exact rfl))
      try simp only [Act.put, List.setIfInBounds_toArray, List.set_cons_zero, List.set_cons_succ]
      refine take_d (i := 7) (d := 24) (v := ?ca24) rfl rfl (by kernel_rfl) (by kernel_rfl) (by kernel_rfl) (fun _ _ _ h => h) (Or.inl ⟨by kernel_rfl, ?ca24h⟩) hHeld ?ca24n
      case ca24h => (intro w hSw; (try dsimp only at hSw); go_split_ands; go_simp; (try exact rfl))
      try simp only [Act.put, List.setIfInBounds_toArray, List.set_cons_zero, List.set_cons_succ]
      refine take_d (i := 8) (d := 10) (v := ?ca10) rfl rfl (by kernel_rfl) (by kernel_rfl) (by kernel_rfl) (fun _ _ _ h => h) (Or.inl ⟨by kernel_rfl, ?ca10h⟩) hHeld ?ca10n
      case ca10h => (intro w hSw; (try dsimp only at hSw); go_split_ands; go_simp; (try exact rfl))
      try simp only [Act.put, List.setIfInBounds_toArray, List.set_cons_zero, List.set_cons_succ]
      refine take_d (i := 9) (d := 11) (v := ?ca11) rfl rfl (by kernel_rfl) (by kernel_rfl) (by kernel_rfl) (fun _ _ _ h => h) (Or.inl ⟨by kernel_rfl, ?ca11h⟩) hHeld ?ca11n
      case ca11h => (intro w hSw; (try dsimp only at hSw); go_split_ands; go_simp; (try exact rfl))
      try simp only [Act.put, List.setIfInBounds_toArray, List.set_cons_zero, List.set_cons_succ]
      refine wpAnyH_done (by kernel_rfl) ?_ _
      refine NoPanic.normal ?_
      go_wp2
      all_goals (go_step3; exact ⟨rfl, ⟨B43.out, HB3.out⟩, _, _, _, _, _, _, _, _, _, _, _, _, _, _, _, _, _, _, _, _, _, _, _, _, _, _, _, _, _, _, _, _, _, _, _, _, _, _, _, _, _, _, _, _, _, _, _, _, _, _, _, _, _, _, _, _, _, _, _, _, _, _, rfl⟩)
  · subst hE0
    have hr := hR rfl
    clear hR
    rw [if_neg (by decide)] at hTE
    have hIm : IntKind.u64.wrap (pi + (m : Int)) = spI pi es'.length := by rw [IntKind.wrap_u64, hm.out]; rfl
    have hm64 : IntKind.u64.wrap (m : Int) = (m : Int) := by rw [IntKind.wrap_u64]; have := hmn.out; omega
    generalize spI pi es'.length = SI at *
    by_cases hlt : k < es'.length
    rotate_left
    · rw [if_neg hlt] at hTE
      subst hTE
      rw [if_neg (by decide), if_neg hlt] at hTL
      rw [if_neg (by decide)] at hTI
      subst hTL hTI
      have hlt' : ¬ (k : Int) < (m : Int) := by have := hm.out; omega
      have CL := Lib.hid (fun W (hW : Below g w W) => clone_any_log ⟨bi, bt, es⟩ A n c B W (hH.out W hW) (by have := hW.size; omega))
      simp only at CL
      clear hH hO hlen hm hmn hbi0 hnc hmc hkl hlt hr
      go_enter Try.func16, Try.ntmps16
      go_wp2
      go_step3
      go_wp2
      have hS0 := And.intro (C7.out _ B71.out) (C5.out _ B51.out)
      refine wp_region_noPanic ?_
      refine wp_region_held_drew (S := fun w' => (w'.cell? ⟨g + 3, 0, none⟩ = some (.int .u64 bi) ∧ w'.cell? ⟨g + 3, 1, none⟩ = some (.int .u64 bt) ∧ w'.cell? ⟨g + 3, 2, none⟩ = some (.slice A n c)) ∧ (w'.cell? ⟨g + 1, 0, none⟩ = some (.int .u64 pi) ∧ w'.cell? ⟨g + 1, 1, none⟩ = some (.int .u64 pt))) (by kernel_rfl) hS0 (fun hHeld => ?_)
      generalize ((((w.alloc (.cells #[.int .u64 bi, .int .u64 bt, .slice A n c] 27)).alloc (.cells #[.int .u64 pi, .int .u64 pt] 24)).alloc (.cells #[.int .u64 0, .int .u64 0, .slice none 0 0] 27)).alloc (.cells #[.int .u64 bi, .int .u64 bt, .slice A n c] 81)).drew = w1 at *
      refine take_d (i := 0) (d := 18) (v := ?cb18) rfl rfl (by kernel_rfl) (by kernel_rfl) (by kernel_rfl) (fun _ _ _ h => h) (Or.inl ⟨by kernel_rfl, ?cb18h⟩) hHeld ?cb18n
      case cb18h => (intro w hSw; (try dsimp only at hSw); go_split_ands; go_simp; (try exact rfl))
      try simp only [Act.put, List.setIfInBounds_toArray, List.set_cons_zero, List.set_cons_succ]
      refine take_d (i := 1) (d := 19) (v := ?cb19) rfl rfl (by kernel_rfl) (by kernel_rfl) (by kernel_rfl) (fun _ _ _ h => h) (Or.inl ⟨by kernel_rfl, ?cb19h⟩) hHeld ?cb19n
      case cb19h => (intro w hSw; (try dsimp only at hSw); go_split_ands; go_simp; (try exact rfl))
      try simp only [Act.put, List.setIfInBounds_toArray, List.set_cons_zero, List.set_cons_succ]
      refine take_d (i := 2) (d := 20) (v := ?cb20) rfl rfl (by kernel_rfl) (by kernel_rfl) (by kernel_rfl) (fun _ _ _ h => h) (Or.inl ⟨by kernel_rfl, ?cb20h⟩) hHeld ?cb20n
      case cb20h => (intro w hSw; (try dsimp only at hSw); go_split_ands; go_simp; (try exact rfl))
      try simp only [Act.put, List.setIfInBounds_toArray, List.set_cons_zero, List.set_cons_succ]
      refine wpAnyH_ready (rs := [3]) (by kernel_rfl) (by simp) ?_
      refine AllReadyH.cons rfl (fun K hK => ?_) AllReadyH.nil
      go_simp
      refine (offer_any _ _ _ _ _ _).mono ?_
      rintro e w2 ⟨rfl, hb2⟩
      have B42 := Lib.hid (B41.out.below hb2 B41.out.lt)
      have B52 := Lib.hid (B51.out.below hb2 B51.out.lt)
      have B72 := Lib.hid (B71.out.below hb2 B71.out.lt)
      have HB2 := Lib.hid (HB1.out.trans (hb2.mono (by have := B41.out.lt; omega)))
      clear hb2
      refine hK.out _ _ (And.intro (C7.out _ B72.out) (C5.out _ B52.out)) (fun hHeld => ?_)
      clear hK K
      try simp only [Act.put, List.setIfInBounds_toArray, List.set_cons_zero, List.set_cons_succ]
      refine wpAnyH_ready (rs := [4]) (by kernel_rfl) (by simp) ?_
      refine AllReadyH.cons rfl (fun K hK => ?_) AllReadyH.nil
      go_simp
      refine (ME.out _ HB2.out).mono ?_
      rintro e w3 ⟨rfl, hb3⟩
      have B43 := Lib.hid (B42.out.below hb3 B42.out.lt)
      have B53 := Lib.hid (B52.out.below hb3 B52.out.lt)
      have B73 := Lib.hid (B72.out.below hb3 B72.out.lt)
      have HB3 := Lib.hid (HB2.out.trans (hb3.mono (by have := B42.out.lt; omega)))
      clear hb3
      refine hK.out _ _ (And.intro (C7.out _ B73.out) (C5.out _ B53.out)) (fun hHeld => ?_)
      clear hK K
      try simp only [Act.put, List.setIfInBounds_toArray, List.set_cons_zero, List.set_cons_succ]
      refine take_d (i := 5) (d := 17) (v := ?cb17) rfl rfl (by kernel_rfl) (by kernel_rfl) (by kernel_rfl) (fun _ _ _ h => h) (Or.inl ⟨by kernel_rfl, ?cb17h⟩) hHeld ?cb17n
      case cb17h => (intro w hSw; (try dsimp only at hSw); go_split_ands; go_simp; (try exact rfl))
      try simp only [Act.put, List.setIfInBounds_toArray, List.set_cons_zero, List.set_cons_succ]
      refine take_d (i := 6) (d := 23) (v := ?cb23) rfl rfl (by kernel_rfl) (by kernel_rfl) (by kernel_rfl) (fun _ _ _ h => h) (Or.inl ⟨by kernel_rfl, ?cb23h⟩) hHeld ?cb23n
      case cb23h => (intro w hSw; (try dsimp only at hSw); go_split_ands; go_simp; (try exact rfl))
      try simp only [Act.put, List.setIfInBounds_toArray, List.set_cons_zero, List.set_cons_succ]
      refine take_d (i := 7) (d := 24) (v := ?cb24) rfl rfl (by kernel_rfl) (by kernel_rfl) (by kernel_rfl) (fun _ _ _ h => h) (Or.inl ⟨by kernel_rfl, ?cb24h⟩) hHeld ?cb24n
      case cb24h => (intro w hSw; (try dsimp only at hSw); go_split_ands; go_simp; (try exact rfl))
      try simp only [Act.put, List.setIfInBounds_toArray, List.set_cons_zero, List.set_cons_succ]
      refine take_d (i := 8) (d := 10) (v := ?cb10) rfl rfl (by kernel_rfl) (by kernel_rfl) (by kernel_rfl) (fun _ _ _ h => h) (Or.inl ⟨by kernel_rfl, ?cb10h⟩) hHeld ?cb10n
      case cb10h => (intro w hSw; (try dsimp only at hSw); go_split_ands; go_simp; (try exact rfl))
      try simp only [Act.put, List.setIfInBounds_toArray, List.set_cons_zero, List.set_cons_succ]
      refine take_d (i := 9) (d := 11) (v := ?cb11) rfl rfl (by kernel_rfl) (by kernel_rfl) (by kernel_rfl) (fun _ _ _ h => h) (Or.inl ⟨by kernel_rfl, ?cb11h⟩) hHeld ?cb11n
      case cb11h => (intro w hSw; (try dsimp only at hSw); go_split_ands; go_simp; (try exact rfl))
      try simp only [Act.put, List.setIfInBounds_toArray, List.set_cons_zero, List.set_cons_succ]
      refine wpAnyH_done (by kernel_rfl) ?_ _
      refine NoPanic.normal ?_
      go_wp2
      have hb : Below w3.heap.size w3 w3.drew := (Below.refl _ _).drew
      have B44 := Lib.hid (B43.out.below hb B43.out.lt)
      have B54 := Lib.hid (B53.out.below hb B53.out.lt)
      have B74 := Lib.hid (B73.out.below hb B73.out.lt)
      have HB4 := Lib.hid (HB3.out.trans (hb.mono (by have := B43.out.lt; omega)))
      clear hb
      have hS8 := And.intro (C7.out _ B74.out) (C5.out _ B54.out)
      refine wp_region_noPanic ?_
      refine wp_region_held_drew (S := fun w' => (w'.cell? ⟨g + 3, 0, none⟩ = some (.int .u64 bi) ∧ w'.cell? ⟨g + 3, 1, none⟩ = some (.int .u64 bt) ∧ w'.cell? ⟨g + 3, 2, none⟩ = some (.slice A n c)) ∧ (w'.cell? ⟨g + 1, 0, none⟩ = some (.int .u64 pi) ∧ w'.cell? ⟨g + 1, 1, none⟩ = some (.int .u64 pt))) (by kernel_rfl) hS8 (fun hHeld => ?_)
      generalize w3.drew = w4 at *
      refine take_d (i := 0) (d := 54) (v := ?d54) rfl rfl (by kernel_rfl) (by kernel_rfl) (by kernel_rfl) (fun _ _ _ h => h) (Or.inl ⟨by kernel_rfl, ?d54h⟩) hHeld ?d54n
      case d54h => (intro w hSw; (try dsimp only at hSw); go_split_ands; go_simp; (try exact rfl))
      try simp only [Act.put, List.setIfInBounds_toArray, List.set_cons_zero, List.set_cons_succ]
      refine take_d (i := 2) (d := 56) (v := ?d56) rfl rfl (by kernel_rfl) (by kernel_rfl) (by kernel_rfl) (fun _ _ _ h => h) (Or.inl ⟨by kernel_rfl, ?d56h⟩) hHeld ?d56n
      case d56h => (intro w hSw; (try dsimp only at hSw); go_split_ands; go_simp; (try exact rfl))
      try simp only [Act.put, List.setIfInBounds_toArray, List.set_cons_zero, List.set_cons_succ]
      refine take_d (i := 3) (d := 57) (v := ?d57) rfl rfl (by kernel_rfl) (by kernel_rfl) (by kernel_rfl) (fun _ _ _ h => h) (Or.inl ⟨by kernel_rfl, ?d57h⟩) hHeld ?d57n
      case d57h => (intro w hSw; (try dsimp only at hSw); go_split_ands; go_simp; (try exact rfl))
      try simp only [Act.put, List.setIfInBounds_toArray, List.set_cons_zero, List.set_cons_succ]
      refine take_d (i := 4) (d := 58) (v := ?d58) rfl rfl (by kernel_rfl) (by kernel_rfl) (by kernel_rfl) (fun _ _ _ h => h) (Or.inl ⟨by kernel_rfl, ?d58h⟩) hHeld ?d58n
      case d58h => (intro w hSw; (try dsimp only at hSw); go_split_ands; go_simp; (try exact rfl))
      try simp only [Act.put, List.setIfInBounds_toArray, List.set_cons_zero, List.set_cons_succ]
      refine take_d (i := 5) (d := 59) (v := ?d59) rfl rfl (by kernel_rfl) (by kernel_rfl) (by kernel_rfl) (fun _ _ _ h => h) (Or.inl ⟨by kernel_rfl, ?d59h⟩) hHeld ?d59n
      case d59h => (intro w hSw; (try dsimp only at hSw); go_split_ands; go_simp; (try exact rfl))
      try simp only [Act.put, List.setIfInBounds_toArray, List.set_cons_zero, List.set_cons_succ]
      refine take_d (i := 6) (d := 60) (v := ?d60) rfl rfl (by kernel_rfl) (by kernel_rfl) (by kernel_rfl) (fun _ _ _ h => h) (Or.inl ⟨by kernel_rfl, ?d60h⟩) hHeld ?d60n
      case d60h => (intro w hSw; (try dsimp only at hSw); go_split_ands; go_simp; (try exact rfl))
      try simp only [Act.put, List.setIfInBounds_toArray, List.set_cons_zero, List.set_cons_succ]
      refine take_d (i := 7) (d := 61) (v := ?d61) rfl rfl (by kernel_rfl) (by kernel_rfl) (by kernel_rfl) (fun _ _ _ h => h) (Or.inl ⟨by kernel_rfl, ?d61h⟩) hHeld ?d61n
      case d61h => (intro w hSw; (try dsimp only at hSw); go_split_ands; go_simp; (try exact rfl))
      try simp only [Act.put, List.setIfInBounds_toArray, List.set_cons_zero, List.set_cons_succ]
      refine wpAnyH_ready (rs := [1]) (by kernel_rfl) (by simp) ?_
      refine AllReadyH.cons rfl (fun K hK => ?_) AllReadyH.nil
      go_simp
      refine (CL.out _ HB4.out).mono ?_
      rintro e w5 ⟨A5, n5, c5, rfl, ho5, hb⟩
      have B45 := Lib.hid (B44.out.below hb B44.out.lt)
      have B55 := Lib.hid (B54.out.below hb B54.out.lt)
      have B75 := Lib.hid (B74.out.below hb B74.out.lt)
      have HB5 := Lib.hid (HB4.out.trans (hb.mono (by have := B44.out.lt; omega)))
      have HO5 := Lib.hid (ho5.down (show g ≤ w4.heap.size by have := HB4.out.size; omega))
      clear ho5
      clear hb
      refine hK.out _ _ (And.intro (C7.out _ B75.out) (C5.out _ B55.out)) (fun hHeld => ?_)
      clear hK K
      try simp only [Act.put, List.setIfInBounds_toArray, List.set_cons_zero, List.set_cons_succ]
      refine wpAnyH_ready (rs := [8]) (by kernel_rfl) (by simp) ?_
      refine AllReadyH.cons rfl (fun K hK => ?_) AllReadyH.nil
      refine wp_store_blk 27 _ _ rfl (g + 2) #[.int .u64 0, .int .u64 0, .slice none 0 0] 27 [.int .u64 bi, .int .u64 bt, .slice A5 n5 c5] rfl rfl B45.out rfl Try.i27 (by simp [Value.oneCell']) ?_
      intro w6 hb ho
      have B46 := Lib.hid hb
      have B56 := Lib.hid (ho.keep B55.out (by omega))
      have B76 := Lib.hid (ho.keep B75.out (by omega))
      have HB6 := Lib.hid (HB5.out.trans (ho.below (by omega)))
      have HO6 := Lib.hid (HO5.out.only27 B45.out ho)
      clear hb ho
      refine hK.out _ _ (And.intro (C7.out _ B76.out) (C5.out _ B56.out)) (fun hHeld => ?_)
      clear hK K
      try simp only [Act.put, List.setIfInBounds_toArray, List.set_cons_zero, List.set_cons_succ]
      refine take_d (i := 9) (d := 7) (v := ?d7) rfl rfl (by kernel_rfl) (by kernel_rfl) (by kernel_rfl) (fun _ _ _ h => h) (Or.inl ⟨by kernel_rfl, ?d7h⟩) hHeld ?d7n
      case d7h => (intro w hSw; (try dsimp only at hSw); go_split_ands; go_simp; (try exact rfl))
      try simp only [Act.put, List.setIfInBounds_toArray, List.set_cons_zero, List.set_cons_succ]
      refine take_d (i := 10) (d := 8) (v := ?d8) rfl rfl (by kernel_rfl) (by kernel_rfl) (by kernel_rfl) (fun _ _ _ h => h) (Or.inl ⟨by kernel_rfl, ?d8h⟩) hHeld ?d8n
      case d8h => (intro w hSw; (try dsimp only at hSw); go_split_ands; go_simp; (try exact rfl))
      try simp only [Act.put, List.setIfInBounds_toArray, List.set_cons_zero, List.set_cons_succ]
      refine wpAnyH_done (by kernel_rfl) ?_ _
      refine NoPanic.normal ?_
      go_wp2
      all_goals exact bodyPost_ret (ret27tt rfl _ _ (g + 2) _ _ _ _ _ rfl rfl rfl B46.out) rfl ⟨A5, n5, c5, rfl, by rw [hg]; exact HO6.out, by rw [hg]; exact HB6.out⟩
    · rw [if_pos hlt] at hTE hTL
      have hj := spI_lt pi k
      have hlt' : (k : Int) < (m : Int) := by have := hm.out; omega
      have hk64 : IntKind.u64.wrap (k : Int) = (k : Int) := by rw [IntKind.wrap_u64]; have := hmn.out; omega
      have hJ : IntKind.u64.wrap (pi + (k : Int)) = spI pi k := by rw [IntKind.wrap_u64]; rfl
      have SP := Lib.hid (fun W (hW : Below g w W) => spot_any ⟨bi, bt, es⟩ A n c B W (hH.out W hW) (by have := hW.size; omega) (spI pi k) hj.1 hj.2)
      unfold spotV at SP
      have hjn : spotN ⟨bi, bt, es⟩ (spI pi k) ≤ n := by have := spotN_le hr hbi0.out hj.1 hj.2; rw [← hlen.out]; exact this
      generalize spotI ⟨bi, bt, es⟩ (spI pi k) = SPI at *
      generalize spotT ⟨bi, bt, es⟩ (spI pi k) = SPT at *
      generalize spotE ⟨bi, bt, es⟩ (spI pi k) = SPE at *
      generalize spotN ⟨bi, bt, es⟩ (spI pi k) = q at *
      generalize spI pi k = J at *
      simp only at SP
      have hcr := cut_right hr (k := q) (by show q ≤ es.length; rw [hlen.out]; exact hjn)
      simp only at hcr
      have hk0 : (0 : Int) ≤ (k : Int) := by omega
      have hkc : (k : Int) ≤ (c' : Int) := by have := hmc.out; omega
      have hkm : (k : Int) ≤ (m : Int) := by omega
      have hkm' : k ≤ m := by omega
      have CT := Lib.hid (fun W => cut_any bi bt A n c q W hjn hnc.out)
      have EX := Lib.hid (fun W (hW : Below g w W) => extended_any ⟨bi, bt, es.take q⟩ A q q B W ((hH.out W hW).cut hjn) (by have := hW.size; omega) hcr (if c' = k then A' else A'.map (·.add (k * 3))) (m - k) (c' - k) (es'.drop k) ((hO.out W hW).drop hkm' 0 0 (by decide) (by decide) (by decide) (by decide)).es (by have := hmn.out; omega))
      simp only at EX
      generalize rExtE ⟨bi, bt, es.take q⟩ (es'.drop k) = XE at *
      generalize rExtL ⟨bi, bt, es.take q⟩ (es'.drop k) = XL at *
      clear hH hO hlen hm hmn hbi0 hnc hmc hkl hr hj hcr hjn
      by_cases hX : XE = 0
      rotate_left
      · subst hTE
        rw [if_pos hX] at hTL hTI
        subst hTL hTI
        have hX2 : (TE != 0) = true := by simp [hX]
        clear hX hlt hkm'
        go_enter Try.func16, Try.ntmps16
        go_wp2
        refine wp_scope_jumps 0 (fun a W => (Blk W (g + 2) 27 #[.int .u64 0, .int .u64 0, .slice none 0 0] ∧ Below g w W) ∧ ∃ v0 v1 v2 v3 v4 v5 v7 v8 v9 v10 v12 v13 v14 v15 v16 v17 v18 v19 v20 v21 v22 v23 v24 v25 v26 v27 v28 v29 v30 v31 v32 v33 v34 v35 v36 v37 v38 v39 v40 v41 v42 v43 v44 v45 v46 v47 v48 v49 v50 v51 v52 v53 v54 v55 v56 v57 v58 v59 v60 v61 v62 v63 : Value, a = { tmps := #[v0, v1, v2, v3, v4, v5, .pointer (some ⟨g + 1 + 1, 0, none⟩), v7, v8, v9, v10, .int .i64 TE, v12, v13, v14, v15, v16, v17, v18, v19, v20, v21, v22, v23, v24, v25, v26, v27, v28, v29, v30, v31, v32, v33, v34, v35, v36, v37, v38, v39, v40, v41, v42, v43, v44, v45, v46, v47, v48, v49, v50, v51, v52, v53, v54, v55, v56, v57, v58, v59, v60, v61, v62, v63], defers := [] }) (fun _ _ => 0) rfl ?first ?pass
        case pass =>
          rintro a W ⟨⟨hb4, hbW⟩, v0, v1, v2, v3, v4, v5, v7, v8, v9, v10, v12, v13, v14, v15, v16, v17, v18, v19, v20, v21, v22, v23, v24, v25, v26, v27, v28, v29, v30, v31, v32, v33, v34, v35, v36, v37, v38, v39, v40, v41, v42, v43, v44, v45, v46, v47, v48, v49, v50, v51, v52, v53, v54, v55, v56, v57, v58, v59, v60, v61, v62, v63, rfl⟩
          obtain ⟨⟨d0, d1, d2⟩, f0, f1, f2⟩ := C4.out _ hb4
          go_wp2
          exact bodyPost_ret (ret27tt rfl _ _ (g + 2) _ _ _ _ _ rfl rfl rfl (((hb4.set_ 0 _).set_ 1 _).set_ 2 _)) rfl ⟨none, 0, 0, rfl, Eo.nothing _ _, by rw [hg]; exact ((hbW.setCell (by show g ≤ g + 2; omega) _).setCell (by show g ≤ g + 2; omega) _).setCell (by show g ≤ g + 2; omega) _⟩
        case first =>
          go_wp2
          have hS0 := And.intro (C7.out _ B71.out) (C5.out _ B51.out)
          refine wp_region_noPanic ?_
          refine wp_region_held_drew (S := fun w' => (w'.cell? ⟨g + 3, 0, none⟩ = some (.int .u64 bi) ∧ w'.cell? ⟨g + 3, 1, none⟩ = some (.int .u64 bt) ∧ w'.cell? ⟨g + 3, 2, none⟩ = some (.slice A n c)) ∧ (w'.cell? ⟨g + 1, 0, none⟩ = some (.int .u64 pi) ∧ w'.cell? ⟨g + 1, 1, none⟩ = some (.int .u64 pt))) (by kernel_rfl) hS0 (fun hHeld => ?_)
          generalize ((((w.alloc (.cells #[.int .u64 bi, .int .u64 bt, .slice A n c] 27)).alloc (.cells #[.int .u64 pi, .int .u64 pt] 24)).alloc (.cells #[.int .u64 0, .int .u64 0, .slice none 0 0] 27)).alloc (.cells #[.int .u64 bi, .int .u64 bt, .slice A n c] 81)).drew = w1 at *
          refine take_d (i := 0) (d := 18) (v := ?cc18) rfl rfl (by kernel_rfl) (by kernel_rfl) (by kernel_rfl) (fun _ _ _ h => h) (Or.inl ⟨by kernel_rfl, ?cc18h⟩) hHeld ?cc18n
          case cc18h => (intro w hSw; (try dsimp only at hSw); go_split_ands; go_simp; (try exact rfl))
          try simp only [Act.put, List.setIfInBounds_toArray, List.set_cons_zero, List.set_cons_succ]
          refine take_d (i := 1) (d := 19) (v := ?cc19) rfl rfl (by kernel_rfl) (by kernel_rfl) (by kernel_rfl) (fun _ _ _ h => h) (Or.inl ⟨by kernel_rfl, ?cc19h⟩) hHeld ?cc19n
          case cc19h => (intro w hSw; (try dsimp only at hSw); go_split_ands; go_simp; (try exact rfl))
          try simp only [Act.put, List.setIfInBounds_toArray, List.set_cons_zero, List.set_cons_succ]
          refine take_d (i := 2) (d := 20) (v := ?cc20) rfl rfl (by kernel_rfl) (by kernel_rfl) (by kernel_rfl) (fun _ _ _ h => h) (Or.inl ⟨by kernel_rfl, ?cc20h⟩) hHeld ?cc20n
          case cc20h => (intro w hSw; (try dsimp only at hSw); go_split_ands; go_simp; (try exact rfl))
          try simp only [Act.put, List.setIfInBounds_toArray, List.set_cons_zero, List.set_cons_succ]
          refine wpAnyH_ready (rs := [3]) (by kernel_rfl) (by simp) ?_
          refine AllReadyH.cons rfl (fun K hK => ?_) AllReadyH.nil
          go_simp
          refine (offer_any _ _ _ _ _ _).mono ?_
          rintro e w2 ⟨rfl, hb2⟩
          have B42 := Lib.hid (B41.out.below hb2 B41.out.lt)
          have B52 := Lib.hid (B51.out.below hb2 B51.out.lt)
          have B72 := Lib.hid (B71.out.below hb2 B71.out.lt)
          have HB2 := Lib.hid (HB1.out.trans (hb2.mono (by have := B41.out.lt; omega)))
          clear hb2
          refine hK.out _ _ (And.intro (C7.out _ B72.out) (C5.out _ B52.out)) (fun hHeld => ?_)
          clear hK K
          try simp only [Act.put, List.setIfInBounds_toArray, List.set_cons_zero, List.set_cons_succ]
          refine wpAnyH_ready (rs := [4]) (by kernel_rfl) (by simp) ?_
          refine AllReadyH.cons rfl (fun K hK => ?_) AllReadyH.nil
          go_simp
          refine (ME.out _ HB2.out).mono ?_
          rintro e w3 ⟨rfl, hb3⟩
          have B43 := Lib.hid (B42.out.below hb3 B42.out.lt)
          have B53 := Lib.hid (B52.out.below hb3 B52.out.lt)
          have B73 := Lib.hid (B72.out.below hb3 B72.out.lt)
          have HB3 := Lib.hid (HB2.out.trans (hb3.mono (by have := B42.out.lt; omega)))
          clear hb3
          refine hK.out _ _ (And.intro (C7.out _ B73.out) (C5.out _ B53.out)) (fun hHeld => ?_)
          clear hK K
          try simp only [Act.put, List.setIfInBounds_toArray, List.set_cons_zero, List.set_cons_succ]
          refine take_d (i := 5) (d := 17) (v := ?cc17) rfl rfl (by kernel_rfl) (by kernel_rfl) (by kernel_rfl) (fun _ _ _ h => h) (Or.inl ⟨by kernel_rfl, ?cc17h⟩) hHeld ?cc17n
          case cc17h => (intro w hSw; (try dsimp only at hSw); go_split_ands; go_simp; (try exact rfl))
          try simp only [Act.put, List.setIfInBounds_toArray, List.set_cons_zero, List.set_cons_succ]
          refine take_d (i := 6) (d := 23) (v := ?cc23) rfl rfl (by kernel_rfl) (by kernel_rfl) (by kernel_rfl) (fun _ _ _ h => h) (Or.inl ⟨by kernel_rfl, ?cc23h⟩) hHeld ?cc23n
          case cc23h => (intro w hSw; (try dsimp only at hSw); go_split_ands; go_simp; (try exact rfl))
          try simp only [Act.put, List.setIfInBounds_toArray, List.set_cons_zero, List.set_cons_succ]
          refine take_d (i := 7) (d := 24) (v := ?cc24) rfl rfl (by kernel_rfl) (by kernel_rfl) (by kernel_rfl) (fun _ _ _ h => h) (Or.inl ⟨by kernel_rfl, ?cc24h⟩) hHeld ?cc24n
          case cc24h => (intro w hSw; (try dsimp only at hSw); go_split_ands; go_simp; (try exact rfl))
          try simp only [Act.put, List.setIfInBounds_toArray, List.set_cons_zero, List.set_cons_succ]
          refine take_d (i := 8) (d := 10) (v := ?cc10) rfl rfl (by kernel_rfl) (by kernel_rfl) (by kernel_rfl) (fun _ _ _ h => h) (Or.inl ⟨by kernel_rfl, ?cc10h⟩) hHeld ?cc10n
          case cc10h => (intro w hSw; (try dsimp only at hSw); go_split_ands; go_simp; (try exact rfl))
          try simp only [Act.put, List.setIfInBounds_toArray, List.set_cons_zero, List.set_cons_succ]
          refine take_d (i := 9) (d := 11) (v := ?cc11) rfl rfl (by kernel_rfl) (by kernel_rfl) (by kernel_rfl) (fun _ _ _ h => h) (Or.inl ⟨by kernel_rfl, ?cc11h⟩) hHeld ?cc11n
          case cc11h => (intro w hSw; (try dsimp only at hSw); go_split_ands; go_simp; (try exact rfl))
          try simp only [Act.put, List.setIfInBounds_toArray, List.set_cons_zero, List.set_cons_succ]
          refine wpAnyH_done (by kernel_rfl) ?_ _
          refine NoPanic.normal ?_
          go_wp2_with fail
          obtain ⟨x0, x1, x2⟩ := C7.out _ B73.out
          obtain ⟨y0, y1⟩ := C5.out _ B53.out
          go_wp2_with (go_at_call 50; refine (SP.out _ HB3.out).mono ?_; rintro e w4 ⟨rfl, hb⟩; have B44 := Lib.hid (B43.out.below hb B43.out.lt); have B54 := Lib.hid (B53.out.below hb B53.out.lt); have B74 := Lib.hid (B73.out.below hb B73.out.lt); have HB4 := Lib.hid (HB3.out.trans (hb.mono (by have := B43.out.lt; omega))); clear hb x0 x1 x2 y0 y1; obtain ⟨x0, x1, x2⟩ := C7.out _ B74.out; obtain ⟨y0, y1⟩ := C5.out _ B54.out)
          clear x0 x1 x2 y0 y1
          have hb : Below w4.heap.size w4 (w4.alloc (.cells #[.int .u64 SPI, .int .u64 SPT] 24)).drew := ((Below.refl _ _).alloc (Nat.le_refl _) _).drew
          have B45 := Lib.hid (B44.out.below hb B44.out.lt)
          have B55 := Lib.hid (B54.out.below hb B54.out.lt)
          have B75 := Lib.hid (B74.out.below hb B74.out.lt)
          have HB5 := Lib.hid (HB4.out.trans (hb.mono (by have := B44.out.lt; omega)))
          clear hb
          have hS6b := C5.out _ B55.out
          refine wp_region_noPanic ?_
          refine wp_region_held_drew (S := fun w' => w'.cell? ⟨g + 1, 0, none⟩ = some (.int .u64 pi) ∧ w'.cell? ⟨g + 1, 1, none⟩ = some (.int .u64 pt)) (by kernel_rfl) hS6b (fun hHeld => ?_)
          generalize (w4.alloc (.cells #[.int .u64 SPI, .int .u64 SPT] 24)).drew = w5 at *
          refine take_d (i := 1) (d := 44) (v := ?f44) rfl rfl (by kernel_rfl) (by kernel_rfl) (by kernel_rfl) (fun _ _ _ h => h) (Or.inl ⟨by kernel_rfl, ?f44h⟩) hHeld ?f44n
          case f44h => (intro w hSw; (try dsimp only at hSw); go_split_ands; go_simp; (try exact rfl))
          try simp only [Act.put, List.setIfInBounds_toArray, List.set_cons_zero, List.set_cons_succ]
          refine take_d (i := 3) (d := 46) (v := ?f46) rfl rfl (by kernel_rfl) (by kernel_rfl) (by kernel_rfl) (fun _ _ _ h => h) (Or.inl ⟨by kernel_rfl, ?f46h⟩) hHeld ?f46n
          case f46h => (intro w hSw; (try dsimp only at hSw); go_split_ands; go_simp; (try exact rfl))
          try simp only [Act.put, List.setIfInBounds_toArray, List.set_cons_zero, List.set_cons_succ]
          refine take_d (i := 4) (d := 47) (v := ?f47) rfl rfl (by kernel_rfl) (by kernel_rfl) (by kernel_rfl) (fun _ _ _ h => h) (Or.inl ⟨by kernel_rfl, ?f47h⟩) hHeld ?f47n
          case f47h => (intro w hSw; (try dsimp only at hSw); go_split_ands; go_simp; (try exact rfl))
          try simp only [Act.put, List.setIfInBounds_toArray, List.set_cons_zero, List.set_cons_succ]
          refine take_d (i := 5) (d := 48) (v := ?f48) rfl rfl (by kernel_rfl) (by kernel_rfl) (by kernel_rfl) (fun _ _ _ h => h) (Or.inl ⟨by kernel_rfl, ?f48h⟩) hHeld ?f48n
          case f48h => (intro w hSw; (try dsimp only at hSw); go_split_ands; go_simp; (try exact rfl))
          try simp only [Act.put, List.setIfInBounds_toArray, List.set_cons_zero, List.set_cons_succ]
          refine wpAnyH_ready (rs := [0]) (by kernel_rfl) (by simp) ?_
          refine AllReadyH.cons rfl (fun K hK => ?_) AllReadyH.nil
          refine wp_load_mid 81 _ rfl (g + 3) 0 rfl [.int .u64 bi, .int .u64 bt, .slice A n c] _ B75.out.rng Try.underlying81 rfl Try.i81 ?_
          refine hK.out _ _ hHeld (fun hHeld => ?_)
          clear hK K
          try simp only [Act.put, List.setIfInBounds_toArray, List.set_cons_zero, List.set_cons_succ]
          refine wpAnyH_ready (rs := [2]) (by kernel_rfl) (by simp) ?_
          refine AllReadyH.cons rfl (fun K hK => ?_) AllReadyH.nil
          go_simp
          refine (CT.out _).mono ?_
          rintro e w6 ⟨rfl, hb⟩
          have B46 := Lib.hid (B45.out.below hb B45.out.lt)
          have B56 := Lib.hid (B55.out.below hb B55.out.lt)
          have B76 := Lib.hid (B75.out.below hb B75.out.lt)
          have HB6 := Lib.hid (HB5.out.trans (hb.mono (by have := B45.out.lt; omega)))
          clear hb
          refine hK.out _ _ (C5.out _ B56.out) (fun hHeld => ?_)
          clear hK K
          try simp only [Act.put, List.setIfInBounds_toArray, List.set_cons_zero, List.set_cons_succ]
          refine wpAnyH_ready (rs := [6]) (by kernel_rfl) (by simp) ?_
          refine AllReadyH.cons rfl (fun K hK => ?_) AllReadyH.nil
          go_simp
          refine (EX.out _ HB6.out).mono ?_
          rintro e w7 ⟨A7, n7, c7, rfl, lz7, hb⟩
          have B47 := Lib.hid (B46.out.below hb B46.out.lt)
          have B57 := Lib.hid (B56.out.below hb B56.out.lt)
          have B77 := Lib.hid (B76.out.below hb B76.out.lt)
          have HB7 := Lib.hid (HB6.out.trans (hb.mono (by have := B46.out.lt; omega)))
          have LZ7 := Lib.hid lz7
          have hs6 := Lib.hid B76.out.lt
          clear lz7 hb
          refine hK.out _ _ (C5.out _ B57.out) (fun hHeld => ?_)
          clear hK K
          try simp only [Act.put, List.setIfInBounds_toArray, List.set_cons_zero, List.set_cons_succ]
          refine take_d (i := 7) (d := 42) (v := ?f42) rfl rfl (by kernel_rfl) (by kernel_rfl) (by kernel_rfl) (fun _ _ _ h => h) (Or.inl ⟨by kernel_rfl, ?f42h⟩) hHeld ?f42n
          case f42h => (intro w hSw; (try dsimp only at hSw); go_split_ands; go_simp; (try exact rfl))
          try simp only [Act.put, List.setIfInBounds_toArray, List.set_cons_zero, List.set_cons_succ]
          refine take_d (i := 8) (d := 50) (v := ?f50) rfl rfl (by kernel_rfl) (by kernel_rfl) (by kernel_rfl) (fun _ _ _ h => h) (Or.inl ⟨by kernel_rfl, ?f50h⟩) hHeld ?f50n
          case f50h => (intro w hSw; (try dsimp only at hSw); go_split_ands; go_simp; (try exact rfl))
          try simp only [Act.put, List.setIfInBounds_toArray, List.set_cons_zero, List.set_cons_succ]
          refine take_d (i := 9) (d := 51) (v := ?f51) rfl rfl (by kernel_rfl) (by kernel_rfl) (by kernel_rfl) (fun _ _ _ h => h) (Or.inl ⟨by kernel_rfl, ?f51h⟩) hHeld ?f51n
          case f51h => (intro w hSw; (try dsimp only at hSw); go_split_ands; go_simp; (try exact rfl))
          try simp only [Act.put, List.setIfInBounds_toArray, List.set_cons_zero, List.set_cons_succ]
          refine wpAnyH_ready (rs := [10]) (by kernel_rfl) (by simp) ?_
          refine AllReadyH.cons rfl (fun K hK => ?_) AllReadyH.nil
          refine wp_store_blk 81 _ _ rfl (g + 3) #[.int .u64 bi, .int .u64 bt, .slice A n c] 81 [.int .u64 XL.bi, .int .u64 XL.bt, .slice A7 n7 c7] rfl rfl B77.out rfl Try.i81 (by simp [Value.oneCell']) ?_
          intro w8 hb ho
          have B78 := Lib.hid hb
          have B48 := Lib.hid (ho.keep B47.out (by omega))
          have B58 := Lib.hid (ho.keep B57.out (by omega))
          have HB8 := Lib.hid (HB7.out.trans (ho.below (by omega)))
          have LZ8 := Lib.hid (LZ7.out.keep (ho.below (by omega)) (fun b hb _ => ho.block b (by have := hs6.out; omega)))
          clear hb ho
          refine hK.out _ _ (C5.out _ B58.out) (fun hHeld => ?_)
          clear hK K
          try simp only [Act.put, List.setIfInBounds_toArray, List.set_cons_zero, List.set_cons_succ]
          refine take_d (i := 11) (d := 11) (v := ?f11) rfl rfl (by kernel_rfl) (by kernel_rfl) (by kernel_rfl) (fun _ _ _ h => h) (Or.inl ⟨by kernel_rfl, ?f11h⟩) hHeld ?f11n
          case f11h => (intro w hSw; (try dsimp only at hSw); go_split_ands; go_simp; (try exact rfl))
          try simp only [Act.put, List.setIfInBounds_toArray, List.set_cons_zero, List.set_cons_succ]
          refine wpAnyH_done (by kernel_rfl) ?_ _
          refine NoPanic.normal ?_
          go_wp2
          all_goals (go_step3; exact ⟨rfl, ⟨B48.out, HB8.out⟩, _, _, _, _, _, _, _, _, _, _, _, _, _, _, _, _, _, _, _, _, _, _, _, _, _, _, _, _, _, _, _, _, _, _, _, _, _, _, _, _, _, _, _, _, _, _, _, _, _, _, _, _, _, _, _, _, _, _, _, _, _, _, rfl⟩)
      · subst hX
        subst hTE
        rw [if_neg (by decide)] at hTL hTI
        subst hTL hTI
        have CL := Lib.hid (fun W {A3 : Option Addr} {n3 c3 s : Nat} (hz : Lz W B s A3 n3 c3 TL) (hB : B ≤ W.heap.size) => clone_any_log TL A3 n3 c3 _ W (hz.lr hB) (Nat.le_refl _))
        clear hlt hkm'
        go_enter Try.func16, Try.ntmps16
        go_wp2
        go_step3
        go_wp2
        have hS0 := And.intro (C7.out _ B71.out) (C5.out _ B51.out)
        refine wp_region_noPanic ?_
        refine wp_region_held_drew (S := fun w' => (w'.cell? ⟨g + 3, 0, none⟩ = some (.int .u64 bi) ∧ w'.cell? ⟨g + 3, 1, none⟩ = some (.int .u64 bt) ∧ w'.cell? ⟨g + 3, 2, none⟩ = some (.slice A n c)) ∧ (w'.cell? ⟨g + 1, 0, none⟩ = some (.int .u64 pi) ∧ w'.cell? ⟨g + 1, 1, none⟩ = some (.int .u64 pt))) (by kernel_rfl) hS0 (fun hHeld => ?_)
        generalize ((((w.alloc (.cells #[.int .u64 bi, .int .u64 bt, .slice A n c] 27)).alloc (.cells #[.int .u64 pi, .int .u64 pt] 24)).alloc (.cells #[.int .u64 0, .int .u64 0, .slice none 0 0] 27)).alloc (.cells #[.int .u64 bi, .int .u64 bt, .slice A n c] 81)).drew = w1 at *
        refine take_d (i := 0) (d := 18) (v := ?cd18) rfl rfl (by kernel_rfl) (by kernel_rfl) (by kernel_rfl) (fun _ _ _ h => h) (Or.inl ⟨by kernel_rfl, ?cd18h⟩) hHeld ?cd18n
        case cd18h => (intro w hSw; (try dsimp only at hSw); go_split_ands; go_simp; (try exact rfl))
        try simp only [Act.put, List.setIfInBounds_toArray, List.set_cons_zero, List.set_cons_succ]
        refine take_d (i := 1) (d := 19) (v := ?cd19) rfl rfl (by kernel_rfl) (by kernel_rfl) (by kernel_rfl) (fun _ _ _ h => h) (Or.inl ⟨by kernel_rfl, ?cd19h⟩) hHeld ?cd19n
        case cd19h => (intro w hSw; (try dsimp only at hSw); go_split_ands; go_simp; (try exact rfl))
        try simp only [Act.put, List.setIfInBounds_toArray, List.set_cons_zero, List.set_cons_succ]
        refine take_d (i := 2) (d := 20) (v := ?cd20) rfl rfl (by kernel_rfl) (by kernel_rfl) (by kernel_rfl) (fun _ _ _ h => h) (Or.inl ⟨by kernel_rfl, ?cd20h⟩) hHeld ?cd20n
        case cd20h => (intro w hSw; (try dsimp only at hSw); go_split_ands; go_simp; (try exact rfl))
        try simp only [Act.put, List.setIfInBounds_toArray, List.set_cons_zero, List.set_cons_succ]
        refine wpAnyH_ready (rs := [3]) (by kernel_rfl) (by simp) ?_
        refine AllReadyH.cons rfl (fun K hK => ?_) AllReadyH.nil
        go_simp
        refine (offer_any _ _ _ _ _ _).mono ?_
        rintro e w2 ⟨rfl, hb2⟩
        have B42 := Lib.hid (B41.out.below hb2 B41.out.lt)
        have B52 := Lib.hid (B51.out.below hb2 B51.out.lt)
        have B72 := Lib.hid (B71.out.below hb2 B71.out.lt)
        have HB2 := Lib.hid (HB1.out.trans (hb2.mono (by have := B41.out.lt; omega)))
        clear hb2
        refine hK.out _ _ (And.intro (C7.out _ B72.out) (C5.out _ B52.out)) (fun hHeld => ?_)
        clear hK K
        try simp only [Act.put, List.setIfInBounds_toArray, List.set_cons_zero, List.set_cons_succ]
        refine wpAnyH_ready (rs := [4]) (by kernel_rfl) (by simp) ?_
        refine AllReadyH.cons rfl (fun K hK => ?_) AllReadyH.nil
        go_simp
        refine (ME.out _ HB2.out).mono ?_
        rintro e w3 ⟨rfl, hb3⟩
        have B43 := Lib.hid (B42.out.below hb3 B42.out.lt)
        have B53 := Lib.hid (B52.out.below hb3 B52.out.lt)
        have B73 := Lib.hid (B72.out.below hb3 B72.out.lt)
        have HB3 := Lib.hid (HB2.out.trans (hb3.mono (by have := B42.out.lt; omega)))
        clear hb3
        refine hK.out _ _ (And.intro (C7.out _ B73.out) (C5.out _ B53.out)) (fun hHeld => ?_)
        clear hK K
        try simp only [Act.put, List.setIfInBounds_toArray, List.set_cons_zero, List.set_cons_succ]
        refine take_d (i := 5) (d := 17) (v := ?cd17) rfl rfl (by kernel_rfl) (by kernel_rfl) (by kernel_rfl) (fun _ _ _ h => h) (Or.inl ⟨by kernel_rfl, ?cd17h⟩) hHeld ?cd17n
        case cd17h => (intro w hSw; (try dsimp only at hSw); go_split_ands; go_simp; (try exact rfl))
        try simp only [Act.put, List.setIfInBounds_toArray, List.set_cons_zero, List.set_cons_succ]
        refine take_d (i := 6) (d := 23) (v := ?cd23) rfl rfl (by kernel_rfl) (by kernel_rfl) (by kernel_rfl) (fun _ _ _ h => h) (Or.inl ⟨by kernel_rfl, ?cd23h⟩) hHeld ?cd23n
        case cd23h => (intro w hSw; (try dsimp only at hSw); go_split_ands; go_simp; (try exact rfl))
        try simp only [Act.put, List.setIfInBounds_toArray, List.set_cons_zero, List.set_cons_succ]
        refine take_d (i := 7) (d := 24) (v := ?cd24) rfl rfl (by kernel_rfl) (by kernel_rfl) (by kernel_rfl) (fun _ _ _ h => h) (Or.inl ⟨by kernel_rfl, ?cd24h⟩) hHeld ?cd24n
        case cd24h => (intro w hSw; (try dsimp only at hSw); go_split_ands; go_simp; (try exact rfl))
        try simp only [Act.put, List.setIfInBounds_toArray, List.set_cons_zero, List.set_cons_succ]
        refine take_d (i := 8) (d := 10) (v := ?cd10) rfl rfl (by kernel_rfl) (by kernel_rfl) (by kernel_rfl) (fun _ _ _ h => h) (Or.inl ⟨by kernel_rfl, ?cd10h⟩) hHeld ?cd10n
        case cd10h => (intro w hSw; (try dsimp only at hSw); go_split_ands; go_simp; (try exact rfl))
        try simp only [Act.put, List.setIfInBounds_toArray, List.set_cons_zero, List.set_cons_succ]
        refine take_d (i := 9) (d := 11) (v := ?cd11) rfl rfl (by kernel_rfl) (by kernel_rfl) (by kernel_rfl) (fun _ _ _ h => h) (Or.inl ⟨by kernel_rfl, ?cd11h⟩) hHeld ?cd11n
        case cd11h => (intro w hSw; (try dsimp only at hSw); go_split_ands; go_simp; (try exact rfl))
        try simp only [Act.put, List.setIfInBounds_toArray, List.set_cons_zero, List.set_cons_succ]
        refine wpAnyH_done (by kernel_rfl) ?_ _
        refine NoPanic.normal ?_
        go_wp2_with fail
        obtain ⟨x0, x1, x2⟩ := C7.out _ B73.out
        obtain ⟨y0, y1⟩ := C5.out _ B53.out
        go_wp2_with (go_at_call 50; refine (SP.out _ HB3.out).mono ?_; rintro e w4 ⟨rfl, hb⟩; have B44 := Lib.hid (B43.out.below hb B43.out.lt); have B54 := Lib.hid (B53.out.below hb B53.out.lt); have B74 := Lib.hid (B73.out.below hb B73.out.lt); have HB4 := Lib.hid (HB3.out.trans (hb.mono (by have := B43.out.lt; omega))); clear hb x0 x1 x2 y0 y1; obtain ⟨x0, x1, x2⟩ := C7.out _ B74.out; obtain ⟨y0, y1⟩ := C5.out _ B54.out)
        clear x0 x1 x2 y0 y1
        have hb : Below w4.heap.size w4 (w4.alloc (.cells #[.int .u64 SPI, .int .u64 SPT] 24)).drew := ((Below.refl _ _).alloc (Nat.le_refl _) _).drew
        have B45 := Lib.hid (B44.out.below hb B44.out.lt)
        have B55 := Lib.hid (B54.out.below hb B54.out.lt)
        have B75 := Lib.hid (B74.out.below hb B74.out.lt)
        have HB5 := Lib.hid (HB4.out.trans (hb.mono (by have := B44.out.lt; omega)))
        clear hb
        have hS6b := C5.out _ B55.out
        refine wp_region_noPanic ?_
        refine wp_region_held_drew (S := fun w' => w'.cell? ⟨g + 1, 0, none⟩ = some (.int .u64 pi) ∧ w'.cell? ⟨g + 1, 1, none⟩ = some (.int .u64 pt)) (by kernel_rfl) hS6b (fun hHeld => ?_)
        generalize (w4.alloc (.cells #[.int .u64 SPI, .int .u64 SPT] 24)).drew = w5 at *
        refine take_d (i := 1) (d := 44) (v := ?k44) rfl rfl (by kernel_rfl) (by kernel_rfl) (by kernel_rfl) (fun _ _ _ h => h) (Or.inl ⟨by kernel_rfl, ?k44h⟩) hHeld ?k44n
        case k44h => (intro w hSw; (try dsimp only at hSw); go_split_ands; go_simp; (try exact rfl))
        try simp only [Act.put, List.setIfInBounds_toArray, List.set_cons_zero, List.set_cons_succ]
        refine take_d (i := 3) (d := 46) (v := ?k46) rfl rfl (by kernel_rfl) (by kernel_rfl) (by kernel_rfl) (fun _ _ _ h => h) (Or.inl ⟨by kernel_rfl, ?k46h⟩) hHeld ?k46n
        case k46h => (intro w hSw; (try dsimp only at hSw); go_split_ands; go_simp; (try exact rfl))
        try simp only [Act.put, List.setIfInBounds_toArray, List.set_cons_zero, List.set_cons_succ]
        refine take_d (i := 4) (d := 47) (v := ?k47) rfl rfl (by kernel_rfl) (by kernel_rfl) (by kernel_rfl) (fun _ _ _ h => h) (Or.inl ⟨by kernel_rfl, ?k47h⟩) hHeld ?k47n
        case k47h => (intro w hSw; (try dsimp only at hSw); go_split_ands; go_simp; (try exact rfl))
        try simp only [Act.put, List.setIfInBounds_toArray, List.set_cons_zero, List.set_cons_succ]
        refine take_d (i := 5) (d := 48) (v := ?k48) rfl rfl (by kernel_rfl) (by kernel_rfl) (by kernel_rfl) (fun _ _ _ h => h) (Or.inl ⟨by kernel_rfl, ?k48h⟩) hHeld ?k48n
        case k48h => (intro w hSw; (try dsimp only at hSw); go_split_ands; go_simp; (try exact rfl))
        try simp only [Act.put, List.setIfInBounds_toArray, List.set_cons_zero, List.set_cons_succ]
        refine wpAnyH_ready (rs := [0]) (by kernel_rfl) (by simp) ?_
        refine AllReadyH.cons rfl (fun K hK => ?_) AllReadyH.nil
        refine wp_load_mid 81 _ rfl (g + 3) 0 rfl [.int .u64 bi, .int .u64 bt, .slice A n c] _ B75.out.rng Try.underlying81 rfl Try.i81 ?_
        refine hK.out _ _ hHeld (fun hHeld => ?_)
        clear hK K
        try simp only [Act.put, List.setIfInBounds_toArray, List.set_cons_zero, List.set_cons_succ]
        refine wpAnyH_ready (rs := [2]) (by kernel_rfl) (by simp) ?_
        refine AllReadyH.cons rfl (fun K hK => ?_) AllReadyH.nil
        go_simp
        refine (CT.out _).mono ?_
        rintro e w6 ⟨rfl, hb⟩
        have B46 := Lib.hid (B45.out.below hb B45.out.lt)
        have B56 := Lib.hid (B55.out.below hb B55.out.lt)
        have B76 := Lib.hid (B75.out.below hb B75.out.lt)
        have HB6 := Lib.hid (HB5.out.trans (hb.mono (by have := B45.out.lt; omega)))
        clear hb
        refine hK.out _ _ (C5.out _ B56.out) (fun hHeld => ?_)
        clear hK K
        try simp only [Act.put, List.setIfInBounds_toArray, List.set_cons_zero, List.set_cons_succ]
        refine wpAnyH_ready (rs := [6]) (by kernel_rfl) (by simp) ?_
        refine AllReadyH.cons rfl (fun K hK => ?_) AllReadyH.nil
        go_simp
        refine (EX.out _ HB6.out).mono ?_
        rintro e w7 ⟨A7, n7, c7, rfl, lz7, hb⟩
        have B47 := Lib.hid (B46.out.below hb B46.out.lt)
        have B57 := Lib.hid (B56.out.below hb B56.out.lt)
        have B77 := Lib.hid (B76.out.below hb B76.out.lt)
        have HB7 := Lib.hid (HB6.out.trans (hb.mono (by have := B46.out.lt; omega)))
        have LZ7 := Lib.hid lz7
        have hs6 := Lib.hid B76.out.lt
        clear lz7 hb
        refine hK.out _ _ (C5.out _ B57.out) (fun hHeld => ?_)
        clear hK K
        try simp only [Act.put, List.setIfInBounds_toArray, List.set_cons_zero, List.set_cons_succ]
        refine take_d (i := 7) (d := 42) (v := ?k42) rfl rfl (by kernel_rfl) (by kernel_rfl) (by kernel_rfl) (fun _ _ _ h => h) (Or.inl ⟨by kernel_rfl, ?k42h⟩) hHeld ?k42n
        case k42h => (intro w hSw; (try dsimp only at hSw); go_split_ands; go_simp; (try exact rfl))
        try simp only [Act.put, List.setIfInBounds_toArray, List.set_cons_zero, List.set_cons_succ]
        refine take_d (i := 8) (d := 50) (v := ?k50) rfl rfl (by kernel_rfl) (by kernel_rfl) (by kernel_rfl) (fun _ _ _ h => h) (Or.inl ⟨by kernel_rfl, ?k50h⟩) hHeld ?k50n
        case k50h => (intro w hSw; (try dsimp only at hSw); go_split_ands; go_simp; (try exact rfl))
        try simp only [Act.put, List.setIfInBounds_toArray, List.set_cons_zero, List.set_cons_succ]
        refine take_d (i := 9) (d := 51) (v := ?k51) rfl rfl (by kernel_rfl) (by kernel_rfl) (by kernel_rfl) (fun _ _ _ h => h) (Or.inl ⟨by kernel_rfl, ?k51h⟩) hHeld ?k51n
        case k51h => (intro w hSw; (try dsimp only at hSw); go_split_ands; go_simp; (try exact rfl))
        try simp only [Act.put, List.setIfInBounds_toArray, List.set_cons_zero, List.set_cons_succ]
        refine wpAnyH_ready (rs := [10]) (by kernel_rfl) (by simp) ?_
        refine AllReadyH.cons rfl (fun K hK => ?_) AllReadyH.nil
        refine wp_store_blk 81 _ _ rfl (g + 3) #[.int .u64 bi, .int .u64 bt, .slice A n c] 81 [.int .u64 TL.bi, .int .u64 TL.bt, .slice A7 n7 c7] rfl rfl B77.out rfl Try.i81 (by simp [Value.oneCell']) ?_
        intro w8 hb ho
        have B78 := Lib.hid hb
        have B48 := Lib.hid (ho.keep B47.out (by omega))
        have B58 := Lib.hid (ho.keep B57.out (by omega))
        have HB8 := Lib.hid (HB7.out.trans (ho.below (by omega)))
        have LZ8 := Lib.hid (LZ7.out.keep (ho.below (by omega)) (fun b hb _ => ho.block b (by have := hs6.out; omega)))
        clear hb ho
        refine hK.out _ _ (C5.out _ B58.out) (fun hHeld => ?_)
        clear hK K
        try simp only [Act.put, List.setIfInBounds_toArray, List.set_cons_zero, List.set_cons_succ]
        refine take_d (i := 11) (d := 11) (v := ?k11) rfl rfl (by kernel_rfl) (by kernel_rfl) (by kernel_rfl) (fun _ _ _ h => h) (Or.inl ⟨by kernel_rfl, ?k11h⟩) hHeld ?k11n
        case k11h => (intro w hSw; (try dsimp only at hSw); go_split_ands; go_simp; (try exact rfl))
        try simp only [Act.put, List.setIfInBounds_toArray, List.set_cons_zero, List.set_cons_succ]
        refine wpAnyH_done (by kernel_rfl) ?_ _
        refine NoPanic.normal ?_
        generalize hA6 : (if c' = k then A' else Option.map (fun x => x.add (k * 3)) A') = A6 at *
        clear EX hA6
        go_wp2
        have hb : Below w8.heap.size w8 w8.drew := (Below.refl _ _).drew
        have B49 := Lib.hid (B48.out.below hb B48.out.lt)
        have B59 := Lib.hid (B58.out.below hb B58.out.lt)
        have B79 := Lib.hid (B78.out.below hb B78.out.lt)
        have HB9 := Lib.hid (HB8.out.trans (hb.mono (by have := B48.out.lt; omega)))
        have LZ9 := Lib.hid (LZ8.out.keep (hb.mono (by have := HB8.out.size; omega)) (fun _ _ _ => rfl))
        clear hb
        have hS8 := And.intro B79.out.three' (C5.out _ B59.out)
        refine wp_region_noPanic ?_
        refine wp_region_held_drew (S := fun w' => (w'.cell? ⟨g + 3, 0, none⟩ = some (.int .u64 TL.bi) ∧ w'.cell? ⟨g + 3, 1, none⟩ = some (.int .u64 TL.bt) ∧ w'.cell? ⟨g + 3, 2, none⟩ = some (.slice A7 n7 c7)) ∧ (w'.cell? ⟨g + 1, 0, none⟩ = some (.int .u64 pi) ∧ w'.cell? ⟨g + 1, 1, none⟩ = some (.int .u64 pt))) (by kernel_rfl) hS8 (fun hHeld => ?_)
        generalize w8.drew = w9 at *
        refine take_d (i := 0) (d := 54) (v := ?h54) rfl rfl (by kernel_rfl) (by kernel_rfl) (by kernel_rfl) (fun _ _ _ h => h) (Or.inl ⟨by kernel_rfl, ?h54h⟩) hHeld ?h54n
        case h54h => (intro w hSw; (try dsimp only at hSw); go_split_ands; go_simp; (try exact rfl))
        try simp only [Act.put, List.setIfInBounds_toArray, List.set_cons_zero, List.set_cons_succ]
        refine take_d (i := 2) (d := 56) (v := ?h56) rfl rfl (by kernel_rfl) (by kernel_rfl) (by kernel_rfl) (fun _ _ _ h => h) (Or.inl ⟨by kernel_rfl, ?h56h⟩) hHeld ?h56n
        case h56h => (intro w hSw; (try dsimp only at hSw); go_split_ands; go_simp; (try exact rfl))
        try simp only [Act.put, List.setIfInBounds_toArray, List.set_cons_zero, List.set_cons_succ]
        refine take_d (i := 3) (d := 57) (v := ?h57) rfl rfl (by kernel_rfl) (by kernel_rfl) (by kernel_rfl) (fun _ _ _ h => h) (Or.inl ⟨by kernel_rfl, ?h57h⟩) hHeld ?h57n
        case h57h => (intro w hSw; (try dsimp only at hSw); go_split_ands; go_simp; (try exact rfl))
        try simp only [Act.put, List.setIfInBounds_toArray, List.set_cons_zero, List.set_cons_succ]
        refine take_d (i := 4) (d := 58) (v := ?h58) rfl rfl (by kernel_rfl) (by kernel_rfl) (by kernel_rfl) (fun _ _ _ h => h) (Or.inl ⟨by kernel_rfl, ?h58h⟩) hHeld ?h58n
        case h58h => (intro w hSw; (try dsimp only at hSw); go_split_ands; go_simp; (try exact rfl))
        try simp only [Act.put, List.setIfInBounds_toArray, List.set_cons_zero, List.set_cons_succ]
        refine take_d (i := 5) (d := 59) (v := ?h59) rfl rfl (by kernel_rfl) (by kernel_rfl) (by kernel_rfl) (fun _ _ _ h => h) (Or.inl ⟨by kernel_rfl, ?h59h⟩) hHeld ?h59n
        case h59h => (intro w hSw; (try dsimp only at hSw); go_split_ands; go_simp; (try exact rfl))
        try simp only [Act.put, List.setIfInBounds_toArray, List.set_cons_zero, List.set_cons_succ]
        refine take_d (i := 6) (d := 60) (v := ?h60) rfl rfl (by kernel_rfl) (by kernel_rfl) (by kernel_rfl) (fun _ _ _ h => h) (Or.inl ⟨by kernel_rfl, ?h60h⟩) hHeld ?h60n
        case h60h => (intro w hSw; (try dsimp only at hSw); go_split_ands; go_simp; (try exact rfl))
        try simp only [Act.put, List.setIfInBounds_toArray, List.set_cons_zero, List.set_cons_succ]
        refine take_d (i := 7) (d := 61) (v := ?h61) rfl rfl (by kernel_rfl) (by kernel_rfl) (by kernel_rfl) (fun _ _ _ h => h) (Or.inl ⟨by kernel_rfl, ?h61h⟩) hHeld ?h61n
        case h61h => (intro w hSw; (try dsimp only at hSw); go_split_ands; go_simp; (try exact rfl))
        try simp only [Act.put, List.setIfInBounds_toArray, List.set_cons_zero, List.set_cons_succ]
        refine wpAnyH_ready (rs := [1]) (by kernel_rfl) (by simp) ?_
        refine AllReadyH.cons rfl (fun K hK => ?_) AllReadyH.nil
        go_simp
        refine (CL.out w9 LZ9.out (by have := HB9.out.size; omega)).mono ?_
        rintro e w10 ⟨A5, n5, c5, rfl, ho5, hb⟩
        have B410 := Lib.hid (B49.out.below hb B49.out.lt)
        have B510 := Lib.hid (B59.out.below hb B59.out.lt)
        have B710 := Lib.hid (B79.out.below hb B79.out.lt)
        have HB10 := Lib.hid (HB9.out.trans (hb.mono (by have := B49.out.lt; omega)))
        have HO10 := Lib.hid (ho5.down (show g ≤ w9.heap.size by have := HB9.out.size; omega))
        clear ho5
        clear hb
        refine hK.out _ _ (And.intro B710.out.three' (C5.out _ B510.out)) (fun hHeld => ?_)
        clear hK K
        try simp only [Act.put, List.setIfInBounds_toArray, List.set_cons_zero, List.set_cons_succ]
        refine wpAnyH_ready (rs := [8]) (by kernel_rfl) (by simp) ?_
        refine AllReadyH.cons rfl (fun K hK => ?_) AllReadyH.nil
        refine wp_store_blk 27 _ _ rfl (g + 2) #[.int .u64 0, .int .u64 0, .slice none 0 0] 27 [.int .u64 TL.bi, .int .u64 TL.bt, .slice A5 n5 c5] rfl rfl B410.out rfl Try.i27 (by simp [Value.oneCell']) ?_
        intro w11 hb ho
        have B411 := Lib.hid hb
        have B511 := Lib.hid (ho.keep B510.out (by omega))
        have B711 := Lib.hid (ho.keep B710.out (by omega))
        have HB11 := Lib.hid (HB10.out.trans (ho.below (by omega)))
        have HO11 := Lib.hid (HO10.out.only27 B410.out ho)
        clear hb ho
        refine hK.out _ _ (And.intro B711.out.three' (C5.out _ B511.out)) (fun hHeld => ?_)
        clear hK K
        try simp only [Act.put, List.setIfInBounds_toArray, List.set_cons_zero, List.set_cons_succ]
        refine take_d (i := 9) (d := 7) (v := ?h7) rfl rfl (by kernel_rfl) (by kernel_rfl) (by kernel_rfl) (fun _ _ _ h => h) (Or.inl ⟨by kernel_rfl, ?h7h⟩) hHeld ?h7n
        case h7h => (intro w hSw; (try dsimp only at hSw); go_split_ands; go_simp; (try exact rfl))
        try simp only [Act.put, List.setIfInBounds_toArray, List.set_cons_zero, List.set_cons_succ]
        refine take_d (i := 10) (d := 8) (v := ?h8) rfl rfl (by kernel_rfl) (by kernel_rfl) (by kernel_rfl) (fun _ _ _ h => h) (Or.inl ⟨by kernel_rfl, ?h8h⟩) hHeld ?h8n
        case h8h => (intro w hSw; (try dsimp only at hSw); go_split_ands; go_simp; (try exact rfl))
        try simp only [Act.put, List.setIfInBounds_toArray, List.set_cons_zero, List.set_cons_succ]
        refine wpAnyH_done (by kernel_rfl) ?_ _
        refine NoPanic.normal ?_
        go_wp2
        all_goals exact bodyPost_ret (ret27tt rfl _ _ (g + 2) _ _ _ _ _ rfl rfl rfl B411.out) rfl ⟨A5, n5, c5, rfl, by rw [hg]; exact HO11.out, by rw [hg]; exact HB11.out⟩

end Go.Proofs.Ytmgaihdepglahaa
