/-
  How far an offer is met: the program's meet.
-/
import Derived.Test.YtmgaihdepglahaaN4
namespace Go.Proofs.Ytmgaihdepglahaa
open Go.RowKit
attribute [local go_sem] Oper.semAt_some

/-- Is the spot of that number of an offer met? -/
def okS (l : Lg) (pi pt : Int) (es : List En) (j : Nat) : Bool := decide (spI pi j ≤ l.bi) || hasB l (spI pi j) (spT pt es j)
theorem metN_eq (l : Lg) : ∀ (es : List En) (pi pt : Int) (m : Nat), m ≤ es.length → (∀ j, 1 ≤ j → j ≤ m → met1 l (spI pi j) (spT pt es j) = true) → (m = es.length ∨ met1 l (spI pi (m + 1)) (spT pt es (m + 1)) = false) → metN l pi es = m
  | [], _, _, m, hm, _, _ => by
    have : m = 0 := by simpa using hm
    subst this
    rfl
  | e :: r, pi, pt, m, hm, h1, h2 => by
    have e1 : (pi + 1) % 18446744073709551616 = spI pi 1 := rfl
    have e2 : ∀ j, spI (spI pi 1) j = spI pi (j + 1) := fun j => by unfold spI; omega
    have e3 : ∀ j, spT e.t r j = spT pt (e :: r) (j + 1) := fun j => by cases j <;> rfl
    rw [metN, e1]
    cases m with
    | zero =>
      have h2' : met1 l (spI pi 1) e.t = false := by
        rcases h2 with h | h
        · simp at h
        · exact h
      rw [h2']
      rfl
    | succ k =>
      have h0 : met1 l (spI pi 1) e.t = true := h1 1 (Nat.le_refl _) (by omega)
      rw [if_pos h0, metN_eq l r (spI pi 1) e.t k (by simpa using hm)]
      · intro j hj1 hj2
        rw [e2, e3]
        exact h1 (j + 1) (by omega) (by omega)
      · rcases h2 with h | h
        · exact .inl (by simpa using h)
        · refine .inr ?_
          rw [e2, e3]
          exact h

theorem okS_met {l : Lg} (hr : right l = true) (pi pt : Int) (es : List En) (j : Nat) : okS l pi pt es j = met1 l (spI pi j) (spT pt es j) := by unfold okS met1 hasB; rw [hr]; rfl
theorem ok_succ {OK : Nat → Bool} {k : Nat} (h : ∀ j, j < k → OK j = true) (hk : OK k = true) : ∀ j, j < k + 1 → OK j = true := fun j hj => by
  by_cases e : j = k
  · rw [e]; exact hk
  · exact h j (by omega)
theorem Fixed.setCell {n₀ m : Nat} {A B : World} (h : Fixed n₀ m A B) {q : Addr} (h1 : n₀ ≤ q.block) (h2 : q.block < m) (v : Value) : Fixed n₀ m A (B.setCell q v) :=
  ⟨h.low.setCell h1 v, fun j hj hjl => (Below.heap_setCell _ _ _ _ (by omega)).trans (h.high j hj hjl)⟩

/-- What meet answers. -/
def meetE (l : Lg) (pi pt : Int) (es : List En) : Int := if right l = true then rMeetE l pi pt es else 160
def meetN (l : Lg) (pi pt : Int) (es : List En) : Nat := if right l = true then rMeetN l pi pt es else 0

theorem resultsTT {fn : Func} {p q : Tmp} (h : fn.results = #[.tmp p, .tmp q]) (tmps : Array Value) (w : World) (x y : Value) (hp : tmps.getD p undef = x) (hq : tmps.getD q undef = y) : (results fn tmps).run Try.prog w = .ok (.tuple #[x, y]) w := by
  subst hp hq
  simp [results, h, go_sem]

set_option linter.unusedSimpArgs false in
set_option maxRecDepth 100000 in
set_option maxHeartbeats 8000000 in
theorem meet_any (l o : Lg) (A A' : Option Addr) (n c m c' B : Nat) (w : World) (h : Lr w B A n c l) (h' : Lr w B A' m c' o) (hB : B ≤ w.heap.size) :
    Calls Try.prog 47 #[.agg #[.int .u64 l.bi, .int .u64 l.bt, .slice A n c], .agg #[.int .u64 o.bi, .int .u64 o.bt, .slice A' m c']] w fun e w' =>
      e = .returned (.tuple #[.int .i64 (meetN l o.bi o.bt o.es : Int), .int .i64 (meetE l o.bi o.bt o.es)]) ∧ Below w.heap.size w w' := by
  obtain ⟨g, hg⟩ : ∃ g, w.heap.size = g := ⟨_, rfl⟩
  have hBg : B ≤ g := by omega
  have MB := Lib.hid (fun W (hW : Below g w W) => maybe_any l A n c B W (h.below (hW.mono hBg)) (by have := hW.size; omega))
  have EN := Lib.hid (fun W => ends_any o.bi o.bt A' m c' h'.bi0 h'.bi1 (by have := h'.n; omega) W)
  have MS := Lib.hid (fun W (hW : Below g w W) => maystand_any o.bt A' m c' o.es B W h'.bt0 (by have := h'.n; omega) (h'.es.below (hW.mono hBg)) (by have := hW.size; omega))
  have HA := Lib.hid (fun W (hW : Below g w W) i t (h0 : 0 ≤ i) (h1 : i < 18446744073709551616) => has_any l A n c B W (h.below (hW.mono hBg)) (by have := hW.size; omega) i t h0 h1)
  have HP : Hid (0 ≤ o.bi ∧ o.bi < 18446744073709551616) := Lib.hid ⟨h'.bi0, h'.bi1⟩
  have H := Lib.hid h
  have H' := Lib.hid h'
  have hlen' := h'.len
  have hm1000 := h'.n
  obtain ⟨bi, bt, es⟩ := l
  obtain ⟨pi, pt, es'⟩ := o
  simp only at MB EN MS HA HP hlen' hm1000 ⊢
  obtain ⟨W1, hW1⟩ : ∃ W1, (((w.alloc (.cells #[.int .u64 bi, .int .u64 bt, .slice A n c] 81)).alloc (.cells #[.int .u64 pi, .int .u64 pt, .slice A' m c'] 81)).alloc (.cells #[.int .i64 0] 3)) = W1 := ⟨_, rfl⟩
  have B01 : Hid (Blk W1 g 81 #[.int .u64 bi, .int .u64 bt, .slice A n c]) := by rw [← hW1, ← hg]; exact Lib.hid (((Blk.new _ _ _).alloc _).alloc _)
  have B11 : Hid (Blk W1 (g + 1) 81 #[.int .u64 pi, .int .u64 pt, .slice A' m c']) := by rw [← hW1, ← hg]; exact Lib.hid ((Blk.fresh (by simp)).alloc _)
  have B21 : Hid (Blk W1 (g + 2) 3 #[.int .i64 0]) := by rw [← hW1, ← hg]; exact Lib.hid (Blk.fresh (by simp))
  have HB1 : Hid (Below g w W1) := by rw [← hW1, ← hg]; exact Lib.hid ((((Below.refl _ _).alloc (Nat.le_refl _) _).alloc (by simp) _).alloc (by simp; omega) _)
  have C3 : Hid (∀ W, Blk W g 81 #[.int .u64 bi, .int .u64 bt, .slice A n c] → W.cell? ⟨g, 0, none⟩ = some (.int .u64 bi) ∧ W.cell? ⟨g, 1, none⟩ = some (.int .u64 bt) ∧ W.cell? ⟨g, 2, none⟩ = some (.slice A n c)) := fun W hb => ⟨hb.cell 0, hb.cell 1, hb.cell 2⟩
  have C4 : Hid (∀ W, Blk W (g + 1) 81 #[.int .u64 pi, .int .u64 pt, .slice A' m c'] → W.cell? ⟨g + 1, 0, none⟩ = some (.int .u64 pi) ∧ W.cell? ⟨g + 1, 1, none⟩ = some (.int .u64 pt) ∧ W.cell? ⟨g + 1, 2, none⟩ = some (.slice A' m c')) := fun W hb => ⟨hb.cell 0, hb.cell 1, hb.cell 2⟩
  obtain ⟨x0, x1, x2⟩ := C3.out _ B01.out
  obtain ⟨x3, x4, x5⟩ := C4.out _ B11.out
  clear h h'
  subst hW1
  refine (callsIn_wide (n := 9)).1 ?_
  refine callsIn_of_wp_marks Try.func47 rfl trivial ?_ rfl
  simp only [Try.ntmps47, List.size_toArray, List.length_cons, List.length_nil, Nat.reduceAdd, Nat.reduceSub, Array.replicate_succ, Array.replicate_zero, List.push_toArray, List.append_toArray, List.nil_append, List.cons_append]
  refine wpIn_wide.2 ?_
  unfold meetN meetE
  cases hr : right (⟨bi, bt, es⟩ : Lg) with
  | false =>
    rw [if_neg (by simp), if_neg (by simp)]
    rw [hr] at MB
    go_wp2
    refine wp_scope_jumps 0 (fun a W => (Below g w W) ∧ ∃ v0 v1 v2 v3 v4 v5 v6 v8 v9 v10 v11 v12 v13 v14 v15 v16 v17 v18 v19 v20 v21 v22 v23 v24 v25 v26 v27 v28 v29 v30 v31 v32 v33 v34 v35 v36 v37 v38 v39 v40 v41 v42 v43 v44 v45 v46 v47 v48 v49 v50 v51 v52 v53 v54 v55 v56 v57 v58 v59 v60 v61 v62 v63 : Value, a = { tmps := #[v0, v1, v2, v3, v4, v5, v6, .int .i64 160, v8, v9, v10, v11, v12, v13, v14, v15, v16, v17, v18, v19, v20, v21, v22, v23, v24, v25, v26, v27, v28, v29, v30, v31, v32, v33, v34, v35, v36, v37, v38, v39, v40, v41, v42, v43, v44, v45, v46, v47, v48, v49, v50, v51, v52, v53, v54, v55, v56, v57, v58, v59, v60, v61, v62, v63], defers := [] }) (fun _ _ => 0) rfl ?first ?pass
    case pass =>
      rintro a W ⟨hbW, v0, v1, v2, v3, v4, v5, v6, v8, v9, v10, v11, v12, v13, v14, v15, v16, v17, v18, v19, v20, v21, v22, v23, v24, v25, v26, v27, v28, v29, v30, v31, v32, v33, v34, v35, v36, v37, v38, v39, v40, v41, v42, v43, v44, v45, v46, v47, v48, v49, v50, v51, v52, v53, v54, v55, v56, v57, v58, v59, v60, v61, v62, v63, rfl⟩
      go_wp2
      show LeavesInM _ _ _ _ _ _ _ _ _
      exact ⟨_, resultsTT (x := .int .i64 0) (y := .int .i64 160) rfl _ _ rfl rfl, rfl, by rw [hg]; exact hbW⟩
    case first =>
      go_wp2_with (go_at_call 56; refine (MB.out _ HB1.out).mono ?_; rintro e w2 ⟨rfl, hb2⟩; clear x0 x1 x2 x3 x4 x5; have B02 := Lib.hid (B01.out.below hb2 B01.out.lt); have B12 := Lib.hid (B11.out.below hb2 B11.out.lt); have B22 := Lib.hid (B21.out.below hb2 B21.out.lt); have HB2 := Lib.hid (HB1.out.trans (hb2.mono (by have := B11.out.lt; omega))); obtain ⟨x0, x1, x2⟩ := C3.out _ B02.out; obtain ⟨x3, x4, x5⟩ := C4.out _ B12.out; have hz2 : g + 2 < w2.heap.size := B22.out.lt; clear hb2)
      go_step3
      exact ⟨rfl, HB2.out, _, _, _, _, _, _, _, _, _, _, _, _, _, _, _, _, _, _, _, _, _, _, _, _, _, _, _, _, _, _, _, _, _, _, _, _, _, _, _, _, _, _, _, _, _, _, _, _, _, _, _, _, _, _, _, _, _, _, _, _, _, _, _, rfl⟩
  | true =>
    rw [if_pos rfl, if_pos rfl]
    rw [hr] at MB
    have hE : rMeetE ⟨bi, bt, es⟩ pi pt es' = if (behind pt es' && room pi m) = false then 2 else if bi ≤ pi ∧ rHas ⟨bi, bt, es⟩ pi pt = false then 4 else 0 := by unfold rMeetE; rw [hlen']
    have hN0 : rMeetE ⟨bi, bt, es⟩ pi pt es' ≠ 0 → rMeetN ⟨bi, bt, es⟩ pi pt es' = 0 := fun e => by unfold rMeetN; rw [if_neg e]
    have hN : rMeetE ⟨bi, bt, es⟩ pi pt es' = 0 → rMeetN ⟨bi, bt, es⟩ pi pt es' = metN ⟨bi, bt, es⟩ pi es' := fun e => by unfold rMeetN; rw [if_pos e]
    generalize rMeetE ⟨bi, bt, es⟩ pi pt es' = E at *
    generalize rMeetN ⟨bi, bt, es⟩ pi pt es' = N at *
    cases hro : room pi m with
    | false =>
      have e2 : E = 2 := by rw [hE, hro, Bool.and_false]; rfl
      have n2 : N = 0 := hN0 (by omega)
      rw [hro] at EN
      clear hE hN hN0
      rw [e2, n2]
      go_wp2
      refine wp_scope_jumps 0 (fun a W => (Below g w W) ∧ ∃ v0 v1 v2 v3 v4 v5 v6 v8 v9 v10 v11 v12 v13 v14 v15 v16 v17 v18 v19 v20 v21 v22 v23 v24 v25 v26 v27 v28 v29 v30 v31 v32 v33 v34 v35 v36 v37 v38 v39 v40 v41 v42 v43 v44 v45 v46 v47 v48 v49 v50 v51 v52 v53 v54 v55 v56 v57 v58 v59 v60 v61 v62 v63 : Value, a = { tmps := #[v0, v1, v2, v3, v4, v5, v6, .int .i64 2, v8, v9, v10, v11, v12, v13, v14, v15, v16, v17, v18, v19, v20, v21, v22, v23, v24, v25, v26, v27, v28, v29, v30, v31, v32, v33, v34, v35, v36, v37, v38, v39, v40, v41, v42, v43, v44, v45, v46, v47, v48, v49, v50, v51, v52, v53, v54, v55, v56, v57, v58, v59, v60, v61, v62, v63], defers := [] }) (fun _ _ => 0) rfl ?first ?pass
      case pass =>
        rintro a W ⟨hbW, v0, v1, v2, v3, v4, v5, v6, v8, v9, v10, v11, v12, v13, v14, v15, v16, v17, v18, v19, v20, v21, v22, v23, v24, v25, v26, v27, v28, v29, v30, v31, v32, v33, v34, v35, v36, v37, v38, v39, v40, v41, v42, v43, v44, v45, v46, v47, v48, v49, v50, v51, v52, v53, v54, v55, v56, v57, v58, v59, v60, v61, v62, v63, rfl⟩
        go_wp2
        show LeavesInM _ _ _ _ _ _ _ _ _
        exact ⟨_, resultsTT (x := .int .i64 0) (y := .int .i64 2) rfl _ _ rfl rfl, rfl, by rw [hg]; exact hbW⟩
      case first =>
        go_wp2_with (first | (go_at_call 56; refine (MB.out _ HB1.out).mono ?_; rintro e w2 ⟨rfl, hb2⟩; clear x0 x1 x2 x3 x4 x5; have B02 := Lib.hid (B01.out.below hb2 B01.out.lt); have B12 := Lib.hid (B11.out.below hb2 B11.out.lt); have B22 := Lib.hid (B21.out.below hb2 B21.out.lt); have HB2 := Lib.hid (HB1.out.trans (hb2.mono (by have := B11.out.lt; omega))); obtain ⟨x0, x1, x2⟩ := C3.out _ B02.out; obtain ⟨x3, x4, x5⟩ := C4.out _ B12.out; have hz2 : g + 2 < w2.heap.size := B22.out.lt; clear hb2) | (go_at_call 70; refine (EN.out _).mono ?_; rintro e w3 ⟨rfl, hb3⟩; clear x0 x1 x2 x3 x4 x5; have B03 := Lib.hid (B02.out.below hb3 B02.out.lt); have B13 := Lib.hid (B12.out.below hb3 B12.out.lt); have B23 := Lib.hid (B22.out.below hb3 B22.out.lt); have HB3 := Lib.hid (HB2.out.trans (hb3.mono (by have := B12.out.lt; omega))); obtain ⟨x0, x1, x2⟩ := C3.out _ B03.out; obtain ⟨x3, x4, x5⟩ := C4.out _ B13.out; have hz3 : g + 2 < w3.heap.size := B23.out.lt; clear hb3))
        go_step3
        exact ⟨rfl, HB3.out, _, _, _, _, _, _, _, _, _, _, _, _, _, _, _, _, _, _, _, _, _, _, _, _, _, _, _, _, _, _, _, _, _, _, _, _, _, _, _, _, _, _, _, _, _, _, _, _, _, _, _, _, _, _, _, _, _, _, _, _, _, _, _, rfl⟩
    | true =>
      rw [hro] at EN
      cases hbe : behind pt es' with
      | false =>
        have e2 : E = 2 := by rw [hE, hbe, Bool.false_and]; rfl
        have n2 : N = 0 := hN0 (by omega)
        rw [hbe] at MS
        clear hE hN hN0
        rw [e2, n2]
        go_wp2
        refine wp_scope_jumps 0 (fun a W => (Below g w W) ∧ ∃ v0 v1 v2 v3 v4 v5 v6 v8 v9 v10 v11 v12 v13 v14 v15 v16 v17 v18 v19 v20 v21 v22 v23 v24 v25 v26 v27 v28 v29 v30 v31 v32 v33 v34 v35 v36 v37 v38 v39 v40 v41 v42 v43 v44 v45 v46 v47 v48 v49 v50 v51 v52 v53 v54 v55 v56 v57 v58 v59 v60 v61 v62 v63 : Value, a = { tmps := #[v0, v1, v2, v3, v4, v5, v6, .int .i64 2, v8, v9, v10, v11, v12, v13, v14, v15, v16, v17, v18, v19, v20, v21, v22, v23, v24, v25, v26, v27, v28, v29, v30, v31, v32, v33, v34, v35, v36, v37, v38, v39, v40, v41, v42, v43, v44, v45, v46, v47, v48, v49, v50, v51, v52, v53, v54, v55, v56, v57, v58, v59, v60, v61, v62, v63], defers := [] }) (fun _ _ => 0) rfl ?first ?pass
        case pass =>
          rintro a W ⟨hbW, v0, v1, v2, v3, v4, v5, v6, v8, v9, v10, v11, v12, v13, v14, v15, v16, v17, v18, v19, v20, v21, v22, v23, v24, v25, v26, v27, v28, v29, v30, v31, v32, v33, v34, v35, v36, v37, v38, v39, v40, v41, v42, v43, v44, v45, v46, v47, v48, v49, v50, v51, v52, v53, v54, v55, v56, v57, v58, v59, v60, v61, v62, v63, rfl⟩
          go_wp2
          show LeavesInM _ _ _ _ _ _ _ _ _
          exact ⟨_, resultsTT (x := .int .i64 0) (y := .int .i64 2) rfl _ _ rfl rfl, rfl, by rw [hg]; exact hbW⟩
        case first =>
          go_wp2_with (first | (go_at_call 56; refine (MB.out _ HB1.out).mono ?_; rintro e w2 ⟨rfl, hb2⟩; clear x0 x1 x2 x3 x4 x5; have B02 := Lib.hid (B01.out.below hb2 B01.out.lt); have B12 := Lib.hid (B11.out.below hb2 B11.out.lt); have B22 := Lib.hid (B21.out.below hb2 B21.out.lt); have HB2 := Lib.hid (HB1.out.trans (hb2.mono (by have := B11.out.lt; omega))); obtain ⟨x0, x1, x2⟩ := C3.out _ B02.out; obtain ⟨x3, x4, x5⟩ := C4.out _ B12.out; have hz2 : g + 2 < w2.heap.size := B22.out.lt; clear hb2) | (go_at_call 70; refine (EN.out _).mono ?_; rintro e w3 ⟨rfl, hb3⟩; clear x0 x1 x2 x3 x4 x5; have B03 := Lib.hid (B02.out.below hb3 B02.out.lt); have B13 := Lib.hid (B12.out.below hb3 B12.out.lt); have B23 := Lib.hid (B22.out.below hb3 B22.out.lt); have HB3 := Lib.hid (HB2.out.trans (hb3.mono (by have := B12.out.lt; omega))); obtain ⟨x0, x1, x2⟩ := C3.out _ B03.out; obtain ⟨x3, x4, x5⟩ := C4.out _ B13.out; have hz3 : g + 2 < w3.heap.size := B23.out.lt; clear hb3) | (go_at_call 71; refine (MS.out _ HB3.out).mono ?_; rintro e w4 ⟨rfl, hb4⟩; clear x0 x1 x2 x3 x4 x5; have B04 := Lib.hid (B03.out.below hb4 B03.out.lt); have B14 := Lib.hid (B13.out.below hb4 B13.out.lt); have B24 := Lib.hid (B23.out.below hb4 B23.out.lt); have HB4 := Lib.hid (HB3.out.trans (hb4.mono (by have := B13.out.lt; omega))); obtain ⟨x0, x1, x2⟩ := C3.out _ B04.out; obtain ⟨x3, x4, x5⟩ := C4.out _ B14.out; have hz4 : g + 2 < w4.heap.size := B24.out.lt; clear hb4))
          go_step3
          exact ⟨rfl, HB4.out, _, _, _, _, _, _, _, _, _, _, _, _, _, _, _, _, _, _, _, _, _, _, _, _, _, _, _, _, _, _, _, _, _, _, _, _, _, _, _, _, _, _, _, _, _, _, _, _, _, _, _, _, _, _, _, _, _, _, _, _, _, _, _, rfl⟩
      | true =>
        rw [hbe] at MS
        rw [hro, hbe] at hE
        by_cases hge : bi ≤ pi
        · have hge' : decide (bi ≤ pi) = true := decide_eq_true hge
          have hhas : hasB ⟨bi, bt, es⟩ pi pt = rHas ⟨bi, bt, es⟩ pi pt := by unfold hasB; rw [hr]; rfl
          cases hh : rHas (⟨bi, bt, es⟩ : Lg) pi pt with
          | false =>
            have e2 : E = 4 := by rw [hE, hh, if_neg (by simp), if_pos ⟨hge, rfl⟩]
            have n2 : N = 0 := hN0 (by omega)
            have HA2 := Lib.hid (fun W (hW : Below g w W) => HA.out W hW pi pt HP.out.1 HP.out.2)
            rw [hhas, hh] at HA2
            clear hE hN hN0 hh hhas hge
            rw [e2, n2]
            go_wp2
            refine wp_scope_jumps 0 (fun a W => (Below g w W) ∧ ∃ v0 v1 v2 v3 v4 v5 v6 v8 v9 v10 v11 v12 v13 v14 v15 v16 v17 v18 v19 v20 v21 v22 v23 v24 v25 v26 v27 v28 v29 v30 v31 v32 v33 v34 v35 v36 v37 v38 v39 v40 v41 v42 v43 v44 v45 v46 v47 v48 v49 v50 v51 v52 v53 v54 v55 v56 v57 v58 v59 v60 v61 v62 v63 : Value, a = { tmps := #[v0, v1, v2, v3, v4, v5, v6, .int .i64 4, v8, v9, v10, v11, v12, v13, v14, v15, v16, v17, v18, v19, v20, v21, v22, v23, v24, v25, v26, v27, v28, v29, v30, v31, v32, v33, v34, v35, v36, v37, v38, v39, v40, v41, v42, v43, v44, v45, v46, v47, v48, v49, v50, v51, v52, v53, v54, v55, v56, v57, v58, v59, v60, v61, v62, v63], defers := [] }) (fun _ _ => 0) rfl ?first ?pass
            case pass =>
              rintro a W ⟨hbW, v0, v1, v2, v3, v4, v5, v6, v8, v9, v10, v11, v12, v13, v14, v15, v16, v17, v18, v19, v20, v21, v22, v23, v24, v25, v26, v27, v28, v29, v30, v31, v32, v33, v34, v35, v36, v37, v38, v39, v40, v41, v42, v43, v44, v45, v46, v47, v48, v49, v50, v51, v52, v53, v54, v55, v56, v57, v58, v59, v60, v61, v62, v63, rfl⟩
              go_wp2
              show LeavesInM _ _ _ _ _ _ _ _ _
              exact ⟨_, resultsTT (x := .int .i64 0) (y := .int .i64 4) rfl _ _ rfl rfl, rfl, by rw [hg]; exact hbW⟩
            case first =>
              go_wp2_with (first | (go_at_call 56; refine (MB.out _ HB1.out).mono ?_; rintro e w2 ⟨rfl, hb2⟩; clear x0 x1 x2 x3 x4 x5; have B02 := Lib.hid (B01.out.below hb2 B01.out.lt); have B12 := Lib.hid (B11.out.below hb2 B11.out.lt); have B22 := Lib.hid (B21.out.below hb2 B21.out.lt); have HB2 := Lib.hid (HB1.out.trans (hb2.mono (by have := B11.out.lt; omega))); obtain ⟨x0, x1, x2⟩ := C3.out _ B02.out; obtain ⟨x3, x4, x5⟩ := C4.out _ B12.out; have hz2 : g + 2 < w2.heap.size := B22.out.lt; clear hb2) | (go_at_call 70; refine (EN.out _).mono ?_; rintro e w3 ⟨rfl, hb3⟩; clear x0 x1 x2 x3 x4 x5; have B03 := Lib.hid (B02.out.below hb3 B02.out.lt); have B13 := Lib.hid (B12.out.below hb3 B12.out.lt); have B23 := Lib.hid (B22.out.below hb3 B22.out.lt); have HB3 := Lib.hid (HB2.out.trans (hb3.mono (by have := B12.out.lt; omega))); obtain ⟨x0, x1, x2⟩ := C3.out _ B03.out; obtain ⟨x3, x4, x5⟩ := C4.out _ B13.out; have hz3 : g + 2 < w3.heap.size := B23.out.lt; clear hb3) | (go_at_call 71; refine (MS.out _ HB3.out).mono ?_; rintro e w4 ⟨rfl, hb4⟩; clear x0 x1 x2 x3 x4 x5; have B04 := Lib.hid (B03.out.below hb4 B03.out.lt); have B14 := Lib.hid (B13.out.below hb4 B13.out.lt); have B24 := Lib.hid (B23.out.below hb4 B23.out.lt); have HB4 := Lib.hid (HB3.out.trans (hb4.mono (by have := B13.out.lt; omega))); obtain ⟨x0, x1, x2⟩ := C3.out _ B04.out; obtain ⟨x3, x4, x5⟩ := C4.out _ B14.out; have hz4 : g + 2 < w4.heap.size := B24.out.lt; clear hb4) | (go_at_call 64; refine (HA2.out _ HB4.out).mono ?_; rintro e w5 ⟨rfl, hb5⟩; clear x0 x1 x2 x3 x4 x5; have B05 := Lib.hid (B04.out.below hb5 B04.out.lt); have B15 := Lib.hid (B14.out.below hb5 B14.out.lt); have B25 := Lib.hid (B24.out.below hb5 B24.out.lt); have HB5 := Lib.hid (HB4.out.trans (hb5.mono (by have := B14.out.lt; omega))); obtain ⟨x0, x1, x2⟩ := C3.out _ B05.out; obtain ⟨x3, x4, x5⟩ := C4.out _ B15.out; have hz5 : g + 2 < w5.heap.size := B25.out.lt; clear hb5))
              go_step3
              exact ⟨rfl, HB5.out, _, _, _, _, _, _, _, _, _, _, _, _, _, _, _, _, _, _, _, _, _, _, _, _, _, _, _, _, _, _, _, _, _, _, _, _, _, _, _, _, _, _, _, _, _, _, _, _, _, _, _, _, _, _, _, _, _, _, _, _, _, _, _, rfl⟩
          | true =>
            have e2 : E = 0 := by rw [hE, hh, if_neg (by simp), if_neg (by simp)]
            have HA2 := Lib.hid (fun W (hW : Below g w W) => HA.out W hW pi pt HP.out.1 HP.out.2)
            rw [hhas, hh] at HA2
            have hok0 : okS ⟨bi, bt, es⟩ pi pt es' 0 = true := by unfold okS; rw [spI_zero pi HP.out.1 HP.out.2]; show (_ || hasB _ pi pt) = true; rw [hhas, hh, Bool.or_true]
            have n2 : N = metN ⟨bi, bt, es⟩ pi es' := hN e2
            clear hE hN hN0 hh hhas hge
            rw [e2, n2]
            go_wp2
            go_step3
            go_wp2_with (first | (go_at_call 56; refine (MB.out _ HB1.out).mono ?_; rintro e w2 ⟨rfl, hb2⟩; clear x0 x1 x2 x3 x4 x5; have B02 := Lib.hid (B01.out.below hb2 B01.out.lt); have B12 := Lib.hid (B11.out.below hb2 B11.out.lt); have B22 := Lib.hid (B21.out.below hb2 B21.out.lt); have HB2 := Lib.hid (HB1.out.trans (hb2.mono (by have := B11.out.lt; omega))); obtain ⟨x0, x1, x2⟩ := C3.out _ B02.out; obtain ⟨x3, x4, x5⟩ := C4.out _ B12.out; have hz2 : g + 2 < w2.heap.size := B22.out.lt; clear hb2) | (go_at_call 70; refine (EN.out _).mono ?_; rintro e w3 ⟨rfl, hb3⟩; clear x0 x1 x2 x3 x4 x5; have B03 := Lib.hid (B02.out.below hb3 B02.out.lt); have B13 := Lib.hid (B12.out.below hb3 B12.out.lt); have B23 := Lib.hid (B22.out.below hb3 B22.out.lt); have HB3 := Lib.hid (HB2.out.trans (hb3.mono (by have := B12.out.lt; omega))); obtain ⟨x0, x1, x2⟩ := C3.out _ B03.out; obtain ⟨x3, x4, x5⟩ := C4.out _ B13.out; have hz3 : g + 2 < w3.heap.size := B23.out.lt; clear hb3) | (go_at_call 71; refine (MS.out _ HB3.out).mono ?_; rintro e w4 ⟨rfl, hb4⟩; clear x0 x1 x2 x3 x4 x5; have B04 := Lib.hid (B03.out.below hb4 B03.out.lt); have B14 := Lib.hid (B13.out.below hb4 B13.out.lt); have B24 := Lib.hid (B23.out.below hb4 B23.out.lt); have HB4 := Lib.hid (HB3.out.trans (hb4.mono (by have := B13.out.lt; omega))); obtain ⟨x0, x1, x2⟩ := C3.out _ B04.out; obtain ⟨x3, x4, x5⟩ := C4.out _ B14.out; have hz4 : g + 2 < w4.heap.size := B24.out.lt; clear hb4) | (go_at_call 64; refine (HA2.out _ HB4.out).mono ?_; rintro e w5 ⟨rfl, hb5⟩; clear x0 x1 x2 x3 x4 x5; have B05 := Lib.hid (B04.out.below hb5 B04.out.lt); have B15 := Lib.hid (B14.out.below hb5 B14.out.lt); have B25 := Lib.hid (B24.out.below hb5 B24.out.lt); have HB5 := Lib.hid (HB4.out.trans (hb5.mono (by have := B14.out.lt; omega))); obtain ⟨x0, x1, x2⟩ := C3.out _ B05.out; obtain ⟨x3, x4, x5⟩ := C4.out _ B15.out; have hz5 : g + 2 < w5.heap.size := B25.out.lt; clear hb5) | (go_at_call 62; refine (spots_any _ _ _ _).mono ?_; rintro e w' ⟨rfl, rfl⟩))
            refine (wpIn_wide (n := 9)).1 ?_
            obtain ⟨mm, hmm⟩ : ∃ mm, w5.heap.size = mm := ⟨_, rfl⟩
            obtain ⟨W2, hW2⟩ : ∃ W2, w5.alloc (.cells #[.int .u64 pi, .int .u64 pt, .slice A' m c'] 81) = W2 := ⟨_, rfl⟩
            have b3 : Blk W2 mm 81 #[.int .u64 pi, .int .u64 pt, .slice A' m c'] := by rw [← hW2, ← hmm]; exact Blk.new _ _ _
            have hb12 : Below w5.heap.size w5 W2 := by rw [← hW2]; exact (Below.refl _ _).alloc (Nat.le_refl _) _
            have E0 := B05.out.below hb12 B05.out.lt
            have E1 := B15.out.below hb12 B15.out.lt
            have E2 := B25.out.below hb12 B25.out.lt
            have hgs : g + 2 < mm := by have := B25.out.lt; omega
            have hb02 : Below g w W2 := HB5.out.trans (hb12.mono (by omega))
            have hs2 : W2.heap.size = mm + 1 := by rw [← hW2, ← hmm]; simp
            rw [hW2, hmm]
            clear hW2 x0 x1 x2 x3 x4 x5 hb12
            generalize hOK : okS (⟨bi, bt, es⟩ : Lg) pi pt es' = OK at *
            refine wpIn_rangeFunc_mem rfl (by omega) (gf := 75) (lb := #[.pointer (some ⟨mm, 0, none⟩)]) rfl trivial (enters_of Try.func75 (by kernel_rfl) rfl)
              (spots1_mem 8 (by omega) pi pt A' m c' es' g mm W2 (by omega) (by omega) HP.out.1 HP.out.2 b3 ((H'.out.es.more (by omega)).below hb02)) (by omega) (by omega) (fun _ => rfl)
              (fun k W => (∀ j, j < k → OK j = true) ∧ Blk W g 81 #[.int .u64 bi, .int .u64 bt, .slice A n c] ∧ Blk W (g + 1) 81 #[.int .u64 pi, .int .u64 pt, .slice A' m c'] ∧ Blk W (g + 2) 3 #[.int .i64 ((k - 1 : Nat) : Int)] ∧ Below g w W)
              (fun c2 k W => c2 = .exit 0 ∧ (∀ j, j < k → OK j = true) ∧ OK k = false ∧ Blk W (g + 2) 3 #[.int .i64 ((k - 1 : Nat) : Int)] ∧ Below g w W)
              (fun k X Y hs hb => ⟨hs.1, hs.2.1.below hb (by omega), hs.2.2.1.below hb (by omega), hs.2.2.2.1.below hb (by omega), hs.2.2.2.2.trans (hb.mono (by omega))⟩)
              (fun c2 k X Y hs hb => ⟨hs.1, hs.2.1, hs.2.2.1, hs.2.2.2.1.below hb (by omega), hs.2.2.2.2.trans (hb.mono (by omega))⟩) ⟨fun j hj => absurd hj (by omega), E0, E1, E2, hb02⟩
              (fun k a W => ∃ p, mm < p ∧ Blk W p 24 #[.int .u64 (spI pi k), .int .u64 (spT pt es' k)] ∧ ∃ v0 v1 v3 v4 v5 v7 v10 v11 v12 v13 v14 v15 v16 v17 v18 v19 v20 v21 v22 v23 v24 v25 v26 v27 v28 v29 v30 v31 v32 v33 v34 v35 v36 v37 v38 v39 v40 v41 v42 v43 v44 v45 v46 v47 v48 v49 v50 v51 v52 v53 v54 v55 v56 v57 v58 v59 v60 v61 v62 v63 : Value, a = { tmps := #[v0, v1, .pointer (some ⟨g, 0, none⟩), v3, v4, v5, .pointer (some ⟨g + 1 + 1, 0, none⟩), v7, .int .i64 (k : Int), .pointer (some ⟨p, 0, none⟩), v10, v11, v12, v13, v14, v15, v16, v17, v18, v19, v20, v21, v22, v23, v24, v25, v26, v27, v28, v29, v30, v31, v32, v33, v34, v35, v36, v37, v38, v39, v40, v41, v42, v43, v44, v45, v46, v47, v48, v49, v50, v51, v52, v53, v54, v55, v56, v57, v58, v59, v60, v61, v62, v63], defers := [] })
              (fun k a X r o o' hs hr ho => by
                obtain ⟨p, hp, hbp, hv⟩ := hs
                exact ⟨p, hp, hbp.putR hr ho o', hv⟩) ?assign ?body ?done ?stop
            case assign =>
              intro l k W hI hsz hk
              simp only [spE]
              gi_wp2
              exact ⟨Fixed.of_below ((Below.refl _ _).alloc (Nat.le_refl _) _) (by omega), ⟨hI.1, hI.2.1.alloc _, hI.2.2.1.alloc _, hI.2.2.2.1.alloc _, hI.2.2.2.2.alloc (by omega) _⟩, W.heap.size, by omega, Blk.new W 24 _, _, _, _, _, _, _, _, _, _, _, _, _, _, _, _, _, _, _, _, _, _, _, _, _, _, _, _, _, _, _, _, _, _, _, _, _, _, _, _, _, _, _, _, _, _, _, _, _, _, _, _, _, _, _, _, _, _, _, _, _, rfl⟩
            case body =>
              rintro l k a1 W ⟨i0, i1, i2, i3, i4⟩ ⟨p, hp, hbp, v0, v1, v3, v4, v5, v7, v10, v11, v12, v13, v14, v15, v16, v17, v18, v19, v20, v21, v22, v23, v24, v25, v26, v27, v28, v29, v30, v31, v32, v33, v34, v35, v36, v37, v38, v39, v40, v41, v42, v43, v44, v45, v46, v47, v48, v49, v50, v51, v52, v53, v54, v55, v56, v57, v58, v59, v60, v61, v62, v63, rfl⟩ hsz hk
              have p0 : W.cell? ⟨p, 0, none⟩ = some (.int .u64 (spI pi k)) := hbp.cell 0
              have p1 : W.cell? ⟨p, 1, none⟩ = some (.int .u64 (spT pt es' k)) := hbp.cell 1
              obtain ⟨x0, x1, x2⟩ := C3.out _ i1
              have z0 : W.cell? ⟨g + 1 + 1, 0, none⟩ = some (.int .i64 ((k - 1 : Nat) : Int)) := i3.cell 0
              have z1 : W.frozen? ⟨g + 1 + 1, 0, none⟩ = false := i3.frozen 0
              have hs0 := spI_lt pi k
              by_cases hx : spI pi k ≤ bi
              · have hx' : decide (bi < spI pi k) = false := decide_eq_false (by omega)
                have hok : OK k = true := by rw [← hOK]; unfold okS; rw [decide_eq_true hx]; rfl
                clear hx hs0
                gi_wp2
                refine ⟨trivial, ?_⟩
                gi_wp2
                exact ⟨(Fixed.refl _ _ _).setCell (q := ⟨g + 2, 0, none⟩) (by show g ≤ g + 2; omega) (by show g + 2 < mm; omega) _, ok_succ i0 hok, i1.far (p := ⟨g + 2, 0, none⟩) (by show g ≠ g + 2; omega) _, i2.far (p := ⟨g + 2, 0, none⟩) (by show g + 1 ≠ g + 2; omega) _, i3.set_ 0 _, i4.setCell (p := ⟨g + 2, 0, none⟩) (by show g ≤ g + 2; omega) _⟩
              · have hx' : decide (bi < spI pi k) = true := decide_eq_true (by omega)
                have hok : OK k = hasB ⟨bi, bt, es⟩ (spI pi k) (spT pt es' k) := by rw [← hOK]; unfold okS; rw [decide_eq_false hx]; rfl
                have HK := Lib.hid (HA.out W i4 (spI pi k) (spT pt es' k) hs0.1 hs0.2)
                rw [← hok] at HK
                clear hx hs0 hok
                cases hq : OK k with
                | true =>
                  rw [hq] at HK
                  gi_wp2_with (refine ⟨trivial, ?_⟩; gi_at_call 64; refine (CallsIn.inRound l (callsIn_wide.2 HK.out)).mono ?_; rintro e w5 ⟨rfl, hb5⟩; have j1 := i1.below hb5 i1.lt; have j2 := i2.below hb5 i2.lt; have j3 := i3.below hb5 i3.lt; have z0 : w5.cell? ⟨g + 1 + 1, 0, none⟩ = some (.int .i64 ((k - 1 : Nat) : Int)) := j3.cell 0; have z1 : w5.frozen? ⟨g + 1 + 1, 0, none⟩ = false := j3.frozen 0)
                  exact ⟨(Fixed.of_below hb5 (by omega)).setCell (q := ⟨g + 2, 0, none⟩) (by show g ≤ g + 2; omega) (by show g + 2 < mm; omega) _, ok_succ i0 hq, j1.far (p := ⟨g + 2, 0, none⟩) (by show g ≠ g + 2; omega) _, j2.far (p := ⟨g + 2, 0, none⟩) (by show g + 1 ≠ g + 2; omega) _, j3.set_ 0 _, (i4.trans (hb5.mono (by omega))).setCell (p := ⟨g + 2, 0, none⟩) (by show g ≤ g + 2; omega) _⟩
                | false =>
                  rw [hq] at HK
                  gi_wp2_with (refine ⟨trivial, ?_⟩; gi_at_call 64; refine (CallsIn.inRound l (callsIn_wide.2 HK.out)).mono ?_; rintro e w5 ⟨rfl, hb5⟩)
                  exact ⟨Fixed.of_below hb5 (by omega), rfl, i0, hq, i3.below hb5 i3.lt, i4.trans (hb5.mono (by omega))⟩
            case done =>
              rintro D W hD ⟨i0, i1, i2, i3, i4⟩ hK
              have z0 : W.cell? ⟨g + 1 + 1, 0, none⟩ = some (.int .i64 (m : Int)) := i3.cell 0
              have hmet : metN ⟨bi, bt, es⟩ pi es' = m := metN_eq _ es' pi pt m (by omega) (fun j h1 h2 => by rw [← okS_met hr, hOK]; exact i0 j (by omega)) (.inl hlen'.symm)
              go_wp2
              refine ⟨by simp, .inl ⟨_, _, rfl, run_takeDeferred hK, ?_⟩⟩
              exact ⟨_, resultsTT (x := .int .i64 (m : Int)) (y := .int .i64 0) rfl _ _ rfl rfl, by rw [hmet], by rw [hg]; exact i4.trans (below_shut _ (.deferred none) (by omega))⟩
            case stop =>
              rintro D c2 k W hD hk ⟨rfl, i0, hq, i3, i4⟩ hK
              have hk0 : k ≠ 0 := fun e => by subst e; rw [hok0] at hq; cases hq
              obtain ⟨k, rfl⟩ : ∃ k', k = k' + 1 := ⟨k - 1, by omega⟩
              have z0 : W.cell? ⟨g + 1 + 1, 0, none⟩ = some (.int .i64 (k : Int)) := i3.cell 0
              have hmet : metN ⟨bi, bt, es⟩ pi es' = k := metN_eq _ es' pi pt k (by omega) (fun j h1 h2 => by rw [← okS_met hr, hOK]; exact i0 j (by omega)) (.inr (by rw [← okS_met hr, hOK]; exact hq))
              gi_wp2
              go_wp2
              refine ⟨by simp, .inl ⟨_, _, rfl, run_takeDeferred hK, ?_⟩⟩
              exact ⟨_, resultsTT (x := .int .i64 (k : Int)) (y := .int .i64 0) rfl _ _ rfl rfl, by rw [hmet], by rw [hg]; exact i4.trans (below_shut _ (.deferred none) (by omega))⟩

        · have hge' : decide (bi ≤ pi) = false := decide_eq_false hge
          have e2 : E = 0 := by rw [hE, if_neg (by simp), if_neg (fun e => hge e.1)]
          have n2 : N = metN ⟨bi, bt, es⟩ pi es' := hN e2
          have hok0 : okS ⟨bi, bt, es⟩ pi pt es' 0 = true := by unfold okS; rw [spI_zero pi HP.out.1 HP.out.2, decide_eq_true (show pi ≤ bi by omega)]; rfl
          clear hE hN hN0 hge
          rw [e2, n2]
          go_wp2
          go_step3
          go_wp2_with (first | (go_at_call 56; refine (MB.out _ HB1.out).mono ?_; rintro e w2 ⟨rfl, hb2⟩; clear x0 x1 x2 x3 x4 x5; have B02 := Lib.hid (B01.out.below hb2 B01.out.lt); have B12 := Lib.hid (B11.out.below hb2 B11.out.lt); have B22 := Lib.hid (B21.out.below hb2 B21.out.lt); have HB2 := Lib.hid (HB1.out.trans (hb2.mono (by have := B11.out.lt; omega))); obtain ⟨x0, x1, x2⟩ := C3.out _ B02.out; obtain ⟨x3, x4, x5⟩ := C4.out _ B12.out; have hz2 : g + 2 < w2.heap.size := B22.out.lt; clear hb2) | (go_at_call 70; refine (EN.out _).mono ?_; rintro e w3 ⟨rfl, hb3⟩; clear x0 x1 x2 x3 x4 x5; have B03 := Lib.hid (B02.out.below hb3 B02.out.lt); have B13 := Lib.hid (B12.out.below hb3 B12.out.lt); have B23 := Lib.hid (B22.out.below hb3 B22.out.lt); have HB3 := Lib.hid (HB2.out.trans (hb3.mono (by have := B12.out.lt; omega))); obtain ⟨x0, x1, x2⟩ := C3.out _ B03.out; obtain ⟨x3, x4, x5⟩ := C4.out _ B13.out; have hz3 : g + 2 < w3.heap.size := B23.out.lt; clear hb3) | (go_at_call 71; refine (MS.out _ HB3.out).mono ?_; rintro e w4 ⟨rfl, hb4⟩; clear x0 x1 x2 x3 x4 x5; have B04 := Lib.hid (B03.out.below hb4 B03.out.lt); have B14 := Lib.hid (B13.out.below hb4 B13.out.lt); have B24 := Lib.hid (B23.out.below hb4 B23.out.lt); have HB4 := Lib.hid (HB3.out.trans (hb4.mono (by have := B13.out.lt; omega))); obtain ⟨x0, x1, x2⟩ := C3.out _ B04.out; obtain ⟨x3, x4, x5⟩ := C4.out _ B14.out; have hz4 : g + 2 < w4.heap.size := B24.out.lt; clear hb4) | (go_at_call 62; refine (spots_any _ _ _ _).mono ?_; rintro e w' ⟨rfl, rfl⟩))
          refine (wpIn_wide (n := 9)).1 ?_
          obtain ⟨mm, hmm⟩ : ∃ mm, w4.heap.size = mm := ⟨_, rfl⟩
          obtain ⟨W2, hW2⟩ : ∃ W2, w4.alloc (.cells #[.int .u64 pi, .int .u64 pt, .slice A' m c'] 81) = W2 := ⟨_, rfl⟩
          have b3 : Blk W2 mm 81 #[.int .u64 pi, .int .u64 pt, .slice A' m c'] := by rw [← hW2, ← hmm]; exact Blk.new _ _ _
          have hb12 : Below w4.heap.size w4 W2 := by rw [← hW2]; exact (Below.refl _ _).alloc (Nat.le_refl _) _
          have E0 := B04.out.below hb12 B04.out.lt
          have E1 := B14.out.below hb12 B14.out.lt
          have E2 := B24.out.below hb12 B24.out.lt
          have hgs : g + 2 < mm := by have := B24.out.lt; omega
          have hb02 : Below g w W2 := HB4.out.trans (hb12.mono (by omega))
          have hs2 : W2.heap.size = mm + 1 := by rw [← hW2, ← hmm]; simp
          rw [hW2, hmm]
          clear hW2 x0 x1 x2 x3 x4 x5 hb12
          generalize hOK : okS (⟨bi, bt, es⟩ : Lg) pi pt es' = OK at *
          refine wpIn_rangeFunc_mem rfl (by omega) (gf := 75) (lb := #[.pointer (some ⟨mm, 0, none⟩)]) rfl trivial (enters_of Try.func75 (by kernel_rfl) rfl)
            (spots1_mem 8 (by omega) pi pt A' m c' es' g mm W2 (by omega) (by omega) HP.out.1 HP.out.2 b3 ((H'.out.es.more (by omega)).below hb02)) (by omega) (by omega) (fun _ => rfl)
            (fun k W => (∀ j, j < k → OK j = true) ∧ Blk W g 81 #[.int .u64 bi, .int .u64 bt, .slice A n c] ∧ Blk W (g + 1) 81 #[.int .u64 pi, .int .u64 pt, .slice A' m c'] ∧ Blk W (g + 2) 3 #[.int .i64 ((k - 1 : Nat) : Int)] ∧ Below g w W)
            (fun c2 k W => c2 = .exit 0 ∧ (∀ j, j < k → OK j = true) ∧ OK k = false ∧ Blk W (g + 2) 3 #[.int .i64 ((k - 1 : Nat) : Int)] ∧ Below g w W)
            (fun k X Y hs hb => ⟨hs.1, hs.2.1.below hb (by omega), hs.2.2.1.below hb (by omega), hs.2.2.2.1.below hb (by omega), hs.2.2.2.2.trans (hb.mono (by omega))⟩)
            (fun c2 k X Y hs hb => ⟨hs.1, hs.2.1, hs.2.2.1, hs.2.2.2.1.below hb (by omega), hs.2.2.2.2.trans (hb.mono (by omega))⟩) ⟨fun j hj => absurd hj (by omega), E0, E1, E2, hb02⟩
            (fun k a W => ∃ p, mm < p ∧ Blk W p 24 #[.int .u64 (spI pi k), .int .u64 (spT pt es' k)] ∧ ∃ v0 v1 v3 v4 v5 v7 v10 v11 v12 v13 v14 v15 v16 v17 v18 v19 v20 v21 v22 v23 v24 v25 v26 v27 v28 v29 v30 v31 v32 v33 v34 v35 v36 v37 v38 v39 v40 v41 v42 v43 v44 v45 v46 v47 v48 v49 v50 v51 v52 v53 v54 v55 v56 v57 v58 v59 v60 v61 v62 v63 : Value, a = { tmps := #[v0, v1, .pointer (some ⟨g, 0, none⟩), v3, v4, v5, .pointer (some ⟨g + 1 + 1, 0, none⟩), v7, .int .i64 (k : Int), .pointer (some ⟨p, 0, none⟩), v10, v11, v12, v13, v14, v15, v16, v17, v18, v19, v20, v21, v22, v23, v24, v25, v26, v27, v28, v29, v30, v31, v32, v33, v34, v35, v36, v37, v38, v39, v40, v41, v42, v43, v44, v45, v46, v47, v48, v49, v50, v51, v52, v53, v54, v55, v56, v57, v58, v59, v60, v61, v62, v63], defers := [] })
            (fun k a X r o o' hs hr ho => by
              obtain ⟨p, hp, hbp, hv⟩ := hs
              exact ⟨p, hp, hbp.putR hr ho o', hv⟩) ?assign ?body ?done ?stop
          case assign =>
            intro l k W hI hsz hk
            simp only [spE]
            gi_wp2
            exact ⟨Fixed.of_below ((Below.refl _ _).alloc (Nat.le_refl _) _) (by omega), ⟨hI.1, hI.2.1.alloc _, hI.2.2.1.alloc _, hI.2.2.2.1.alloc _, hI.2.2.2.2.alloc (by omega) _⟩, W.heap.size, by omega, Blk.new W 24 _, _, _, _, _, _, _, _, _, _, _, _, _, _, _, _, _, _, _, _, _, _, _, _, _, _, _, _, _, _, _, _, _, _, _, _, _, _, _, _, _, _, _, _, _, _, _, _, _, _, _, _, _, _, _, _, _, _, _, _, _, rfl⟩
          case body =>
            rintro l k a1 W ⟨i0, i1, i2, i3, i4⟩ ⟨p, hp, hbp, v0, v1, v3, v4, v5, v7, v10, v11, v12, v13, v14, v15, v16, v17, v18, v19, v20, v21, v22, v23, v24, v25, v26, v27, v28, v29, v30, v31, v32, v33, v34, v35, v36, v37, v38, v39, v40, v41, v42, v43, v44, v45, v46, v47, v48, v49, v50, v51, v52, v53, v54, v55, v56, v57, v58, v59, v60, v61, v62, v63, rfl⟩ hsz hk
            have p0 : W.cell? ⟨p, 0, none⟩ = some (.int .u64 (spI pi k)) := hbp.cell 0
            have p1 : W.cell? ⟨p, 1, none⟩ = some (.int .u64 (spT pt es' k)) := hbp.cell 1
            obtain ⟨x0, x1, x2⟩ := C3.out _ i1
            have z0 : W.cell? ⟨g + 1 + 1, 0, none⟩ = some (.int .i64 ((k - 1 : Nat) : Int)) := i3.cell 0
            have z1 : W.frozen? ⟨g + 1 + 1, 0, none⟩ = false := i3.frozen 0
            have hs0 := spI_lt pi k
            by_cases hx : spI pi k ≤ bi
            · have hx' : decide (bi < spI pi k) = false := decide_eq_false (by omega)
              have hok : OK k = true := by rw [← hOK]; unfold okS; rw [decide_eq_true hx]; rfl
              clear hx hs0
              gi_wp2
              refine ⟨trivial, ?_⟩
              gi_wp2
              exact ⟨(Fixed.refl _ _ _).setCell (q := ⟨g + 2, 0, none⟩) (by show g ≤ g + 2; omega) (by show g + 2 < mm; omega) _, ok_succ i0 hok, i1.far (p := ⟨g + 2, 0, none⟩) (by show g ≠ g + 2; omega) _, i2.far (p := ⟨g + 2, 0, none⟩) (by show g + 1 ≠ g + 2; omega) _, i3.set_ 0 _, i4.setCell (p := ⟨g + 2, 0, none⟩) (by show g ≤ g + 2; omega) _⟩
            · have hx' : decide (bi < spI pi k) = true := decide_eq_true (by omega)
              have hok : OK k = hasB ⟨bi, bt, es⟩ (spI pi k) (spT pt es' k) := by rw [← hOK]; unfold okS; rw [decide_eq_false hx]; rfl
              have HK := Lib.hid (HA.out W i4 (spI pi k) (spT pt es' k) hs0.1 hs0.2)
              rw [← hok] at HK
              clear hx hs0 hok
              cases hq : OK k with
              | true =>
                rw [hq] at HK
                gi_wp2_with (refine ⟨trivial, ?_⟩; gi_at_call 64; refine (CallsIn.inRound l (callsIn_wide.2 HK.out)).mono ?_; rintro e w5 ⟨rfl, hb5⟩; have j1 := i1.below hb5 i1.lt; have j2 := i2.below hb5 i2.lt; have j3 := i3.below hb5 i3.lt; have z0 : w5.cell? ⟨g + 1 + 1, 0, none⟩ = some (.int .i64 ((k - 1 : Nat) : Int)) := j3.cell 0; have z1 : w5.frozen? ⟨g + 1 + 1, 0, none⟩ = false := j3.frozen 0)
                exact ⟨(Fixed.of_below hb5 (by omega)).setCell (q := ⟨g + 2, 0, none⟩) (by show g ≤ g + 2; omega) (by show g + 2 < mm; omega) _, ok_succ i0 hq, j1.far (p := ⟨g + 2, 0, none⟩) (by show g ≠ g + 2; omega) _, j2.far (p := ⟨g + 2, 0, none⟩) (by show g + 1 ≠ g + 2; omega) _, j3.set_ 0 _, (i4.trans (hb5.mono (by omega))).setCell (p := ⟨g + 2, 0, none⟩) (by show g ≤ g + 2; omega) _⟩
              | false =>
                rw [hq] at HK
                gi_wp2_with (refine ⟨trivial, ?_⟩; gi_at_call 64; refine (CallsIn.inRound l (callsIn_wide.2 HK.out)).mono ?_; rintro e w5 ⟨rfl, hb5⟩)
                exact ⟨Fixed.of_below hb5 (by omega), rfl, i0, hq, i3.below hb5 i3.lt, i4.trans (hb5.mono (by omega))⟩
          case done =>
            rintro D W hD ⟨i0, i1, i2, i3, i4⟩ hK
            have z0 : W.cell? ⟨g + 1 + 1, 0, none⟩ = some (.int .i64 (m : Int)) := i3.cell 0
            have hmet : metN ⟨bi, bt, es⟩ pi es' = m := metN_eq _ es' pi pt m (by omega) (fun j h1 h2 => by rw [← okS_met hr, hOK]; exact i0 j (by omega)) (.inl hlen'.symm)
            go_wp2
            refine ⟨by simp, .inl ⟨_, _, rfl, run_takeDeferred hK, ?_⟩⟩
            exact ⟨_, resultsTT (x := .int .i64 (m : Int)) (y := .int .i64 0) rfl _ _ rfl rfl, by rw [hmet], by rw [hg]; exact i4.trans (below_shut _ (.deferred none) (by omega))⟩
          case stop =>
            rintro D c2 k W hD hk ⟨rfl, i0, hq, i3, i4⟩ hK
            have hk0 : k ≠ 0 := fun e => by subst e; rw [hok0] at hq; cases hq
            obtain ⟨k, rfl⟩ : ∃ k', k = k' + 1 := ⟨k - 1, by omega⟩
            have z0 : W.cell? ⟨g + 1 + 1, 0, none⟩ = some (.int .i64 (k : Int)) := i3.cell 0
            have hmet : metN ⟨bi, bt, es⟩ pi es' = k := metN_eq _ es' pi pt k (by omega) (fun j h1 h2 => by rw [← okS_met hr, hOK]; exact i0 j (by omega)) (.inr (by rw [← okS_met hr, hOK]; exact hq))
            gi_wp2
            go_wp2
            refine ⟨by simp, .inl ⟨_, _, rfl, run_takeDeferred hK, ?_⟩⟩
            exact ⟨_, resultsTT (x := .int .i64 (k : Int)) (y := .int .i64 0) rfl _ _ rfl rfl, by rw [hmet], by rw [hg]; exact i4.trans (below_shut _ (.deferred none) (by omega))⟩

end Go.Proofs.Ytmgaihdepglahaa
