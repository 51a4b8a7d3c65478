/-
  The last change of members up to an Index: the program's Conf.
-/
import Derived.Test.YtmgaihdepglahaaN13
import Derived.Test.YtmgaihdepglahaaN5
import Derived.Test.YtmgaihdepglahaaRW
import Derived.Test.YtmgaihdepglahaaBys
namespace Go.Proofs.Ytmgaihdepglahaa
open Go.RowKit
attribute [local go_sem] Oper.semAt_some

theorem i22 : (Try.prog.info? 22).map (·.size) = some 1 := by kernel_rfl
theorem w64 {n : Int} (h : -9223372036854775808 ≤ n) (h2 : n ≤ 9223372036854775807) : wrap64 n = n := by unfold wrap64; omega
/-- What Conf answers. -/
def pConfI (l : Lg) (i : Int) : Int := if right l = true then rConfI l i else 0
def pConfD (l : Lg) (i : Int) : List Int := if right l = true then rConfD l i else []
def pConfB (l : Lg) (i : Int) : Bool := if right l = true then rConfB l i else false
def Cfo (w : World) (I : Int) (D : List Int) (b : Bool) (e : Ending) (w' : World) : Prop := ∃ A m c, e = .returned (.tuple #[.int .u64 I, .slice A m c, .bool b]) ∧ Own w' w.heap.size A m c D ∧ Below w.heap.size w w'
theorem cf_pos {l : Lg} (hr : right l = true) (h0 : 0 ≤ l.bi) (i : Int) : ∀ k, k ≤ l.es.length → decide (0 < cfI l i k) = cfB l i k
  | 0, _ => rfl
  | k + 1, hk => by
    by_cases h : (l.es.getD k e0).k = 3 ∧ l.I (k + 1) ≤ i
    · obtain ⟨a, _, b⟩ := cf_hit h.1 h.2
      rw [a, b]
      refine decide_eq_true ?_
      have : l.I (k + 1) = l.bi + ((k + 1 : Nat) : Int) := spI_right hr h0 hk
      rw [this]
      omega
    · obtain ⟨a, _, b⟩ := cf_miss h
      rw [a, b]
      exact cf_pos hr h0 i k (by omega)

set_option linter.unusedSimpArgs false in
set_option maxRecDepth 100000 in
set_option maxHeartbeats 2000000 in
theorem Conf_any (l : Lg) (A : Option Addr) (n c B : Nat) (w : World) (h : Lr w B A n c l) (hB : B ≤ w.heap.size) (i : Int) :
    Calls Try.prog 34 #[.agg #[.int .u64 l.bi, .int .u64 l.bt, .slice A n c], .int .u64 i] w (Cfo w (pConfI l i) (pConfD l i) (pConfB l i)) := by
  obtain ⟨g, hg⟩ : ∃ g, w.heap.size = g := ⟨_, rfl⟩
  have hBg : B ≤ g := by omega
  have MB := Lib.hid (fun W (hW : Below g w W) => maybe_any l A n c B W (h.below (hW.mono hBg)) (by have := hW.size; omega))
  have POS : Hid (right l = true → ∀ k, k ≤ n → decide (0 < cfI l i k) = cfB l i k) := Lib.hid (fun hr k hk => cf_pos hr h.bi0 i k (by rw [h.len]; exact hk))
  have HIT : Hid (∀ k, (l.es.getD k e0).k = 3 → spI l.bi (k + 1) ≤ i → cfI l i (k + 1) = spI l.bi (k + 1) ∧ cfD l i (k + 1) = (l.es.getD k e0).d ∧ cfB l i (k + 1) = true) := Lib.hid (fun k h3 hI => cf_hit h3 hI)
  have MISS : Hid (∀ k, ¬((l.es.getD k e0).k = 3 ∧ spI l.bi (k + 1) ≤ i) → cfI l i (k + 1) = cfI l i k ∧ cfD l i (k + 1) = cfD l i k ∧ cfB l i (k + 1) = cfB l i k) := Lib.hid (fun k hk => cf_miss hk)
  have e1 : right l = true → pConfI l i = cfI l i n := fun hr => by rw [← h.len]; unfold pConfI; rw [if_pos hr]; rfl
  have e2 : right l = true → pConfD l i = cfD l i n := fun hr => by rw [← h.len]; unfold pConfD; rw [if_pos hr]; rfl
  have e3 : right l = true → pConfB l i = cfB l i n := fun hr => by rw [← h.len]; unfold pConfB; rw [if_pos hr]; rfl
  have n1 : right l = false → pConfI l i = 0 := fun hr => by unfold pConfI; rw [if_neg (by rw [hr]; decide)]
  have n2 : right l = false → pConfD l i = [] := fun hr => by unfold pConfD; rw [if_neg (by rw [hr]; decide)]
  have n3 : right l = false → pConfB l i = false := fun hr => by unfold pConfB; rw [if_neg (by rw [hr]; decide)]
  have z1 : cfI l i 0 = 0 := rfl
  have z2 : cfD l i 0 = [] := rfl
  have H := Lib.hid h
  have Z := Lib.hid (And.intro z1 z2)
  clear z1 z2
  have HL := h.len
  have hn := h.n
  have hbi0 := h.bi0
  have hbi1 := h.bi1
  clear h
  obtain ⟨bi, bt, es⟩ := l
  simp only at MB HIT MISS HL hbi0 hbi1 ⊢
  generalize cfI ⟨bi, bt, es⟩ i = CI at *
  generalize cfD ⟨bi, bt, es⟩ i = CD at *
  generalize cfB ⟨bi, bt, es⟩ i = CB at *
  generalize pConfI ⟨bi, bt, es⟩ i = PI at *
  generalize pConfD ⟨bi, bt, es⟩ i = PD at *
  generalize pConfB ⟨bi, bt, es⟩ i = PB at *
  obtain ⟨W1, hW1⟩ : ∃ W1, (((w.alloc (.cells #[.int .u64 bi, .int .u64 bt, .slice A n c] 27)).alloc (.cells #[.int .u64 i] 22)).alloc (.cells #[.int .u64 bi, .int .u64 bt, .slice A n c] 81)) = W1 := ⟨_, rfl⟩
  have B01 : Hid (Blk W1 (g + 1) 22 #[.int .u64 i]) := by rw [← hW1, ← hg]; exact Lib.hid ((Blk.fresh (by simp)).alloc _)
  have B11 : Hid (Blk W1 (g + 2) 81 #[.int .u64 bi, .int .u64 bt, .slice A n c]) := by rw [← hW1, ← hg]; exact Lib.hid (Blk.fresh (by simp))
  have HB1 : Hid (Below g w W1) := by rw [← hW1, ← hg]; exact Lib.hid ((((Below.refl _ _).alloc (Nat.le_refl _) _).alloc (by simp) _).alloc (by simp; omega) _)
  have C3 : Hid (∀ W, Blk W (g + 1) 22 #[.int .u64 i] → Blk W (g + 2) 81 #[.int .u64 bi, .int .u64 bt, .slice A n c] → W.cell? ⟨g + 1, 0, none⟩ = some (.int .u64 i) ∧ W.cell? ⟨g + 2, 0, none⟩ = some (.int .u64 bi) ∧ W.cell? ⟨g + 2, 1, none⟩ = some (.int .u64 bt) ∧ W.cell? ⟨g + 2, 2, none⟩ = some (.slice A n c)) := fun W h1 h2 => ⟨h1.cell 0, h2.cell 0, h2.cell 1, h2.cell 2⟩
  obtain ⟨x, x0, x1, x2⟩ := C3.out _ B01.out B11.out
  subst hW1
  cases hr : right (⟨bi, bt, es⟩ : Lg) with
  | false =>
    rw [hr] at MB n1 n2 n3
    rw [n1 rfl, n2 rfl, n3 rfl]
    clear n1 n2 n3 e1 e2 e3 POS HIT MISS
    go_enter Try.func34, Try.ntmps34
    go_wp2_with (go_at_call 56; refine (MB.out _ HB1.out).mono ?_; rintro e w2 ⟨rfl, hb2⟩; clear x x0 x1 x2)
    exact bodyPost_ret (resTTT rfl _ _ _ _ _ rfl rfl rfl) rfl ⟨none, 0, 0, rfl, nothing _ _, by rw [hg]; exact HB1.out.trans (hb2.mono (by have := B11.out.lt; omega))⟩
  | true =>
    rw [hr] at MB e1 e2 e3 POS
    rw [e1 rfl, e2 rfl, e3 rfl]
    have PS := Lib.hid (POS.out rfl)
    clear n1 n2 n3 e1 e2 e3 POS
    refine (callsIn_wide (n := 9)).1 ?_
    refine callsIn_of_wp_marks Try.func34 rfl trivial ?_ rfl
    simp only [Try.ntmps34, List.size_toArray, List.length_cons, List.length_nil, Nat.reduceAdd, Nat.reduceSub, Array.replicate_succ, Array.replicate_zero, List.push_toArray, List.append_toArray, List.nil_append, List.cons_append]
    refine wpIn_wide.2 ?_
    go_upto_region 5 with (go_at_call 56; refine (MB.out _ HB1.out).mono ?_; rintro e w2 ⟨rfl, hb2⟩; clear x x0 x1 x2; have B02 := Lib.hid (B01.out.below hb2 B01.out.lt); have B12 := Lib.hid (B11.out.below hb2 B11.out.lt); have HB2 := Lib.hid (HB1.out.trans (hb2.mono (by have := B11.out.lt; omega))); obtain ⟨x, x0, x1, x2⟩ := C3.out _ B02.out B12.out; have hz2 : g + 2 < w2.heap.size := B12.out.lt; clear hb2)
    clear x x0 x1 x2
    have hb3 : Below w2.heap.size w2 ((w2.alloc (.cells #[.int .u64 0] 22)).alloc (.cells #[.int .u64 0, .int .i64 0, .slice none 0 0] 54)) := ((Below.refl _ _).alloc (Nat.le_refl _) _).alloc (by simp) _
    have B03 := Lib.hid (B02.out.below hb3 B02.out.lt)
    have B13 := Lib.hid (B12.out.below hb3 B12.out.lt)
    have HB3 := Lib.hid (HB2.out.trans (hb3.mono (by have := B12.out.lt; omega)))
    have B23 : Hid (Blk ((w2.alloc (.cells #[.int .u64 0] 22)).alloc (.cells #[.int .u64 0, .int .i64 0, .slice none 0 0] 54)) w2.heap.size 22 #[.int .u64 0]) := Lib.hid ((Blk.new _ _ _).alloc _)
    have B33 : Hid (Blk ((w2.alloc (.cells #[.int .u64 0] 22)).alloc (.cells #[.int .u64 0, .int .i64 0, .slice none 0 0] 54)) (w2.heap.size + 1) 54 #[.int .u64 0, .int .i64 0, .slice none 0 0]) := Lib.hid (Blk.fresh (by simp))
    have HQ := Lib.hid hz2
    clear hb3 hz2 HB2 B02 B12 HB1 B01 B11
    generalize ((w2.alloc (.cells #[.int .u64 0] 22)).alloc (.cells #[.int .u64 0, .int .i64 0, .slice none 0 0] 54)) = w3 at *
    generalize w2.heap.size = p at *
    obtain ⟨x, x0, x1, x2⟩ := C3.out _ B03.out B13.out
    go_wp2_with (go_at_call 62; refine (spots_any _ _ _ _).mono ?_; rintro e w' ⟨rfl, rfl⟩)
    refine (wpIn_wide (n := 9)).1 ?_
    obtain ⟨mm, hmm⟩ : ∃ mm, w3.heap.size = mm := ⟨_, rfl⟩
    obtain ⟨W2, hW2⟩ : ∃ W2, w3.alloc (.cells #[.int .u64 bi, .int .u64 bt, .slice A n c] 81) = W2 := ⟨_, rfl⟩
    have b3 : Blk W2 mm 81 #[.int .u64 bi, .int .u64 bt, .slice A n c] := by rw [← hW2, ← hmm]; exact Blk.new _ _ _
    have hb12 : Below w3.heap.size w3 W2 := by rw [← hW2]; exact (Below.refl _ _).alloc (Nat.le_refl _) _
    have E0 := B03.out.below hb12 B03.out.lt
    have E1 := B13.out.below hb12 B13.out.lt
    have E2 := B23.out.below hb12 B23.out.lt
    have E3 := B33.out.below hb12 B33.out.lt
    have hgs : g + 2 < p := HQ.out
    have hps : p + 1 < mm := by have := B33.out.lt; omega
    have hb02 : Below g w W2 := HB3.out.trans (hb12.mono (by have := B33.out.lt; omega))
    have hs2 : W2.heap.size = mm + 1 := by rw [← hW2, ← hmm]; simp
    rw [hW2, hmm]
    clear hW2 x x0 x1 x2 hb12 B03 B13 B23 B33 HB3 HQ
    refine wpIn_rangeFunc_mem rfl (by omega) (gf := 75) (lb := #[.pointer (some ⟨mm, 0, none⟩)]) rfl trivial (enters_of Try.func75 (by kernel_rfl) rfl)
      (spots1_mem 8 (by omega) bi bt A n c es g mm W2 (by omega) (by omega) hbi0 hbi1 b3 ((H.out.es.more (by omega)).below hb02)) (by omega) (by omega) (fun _ => rfl)
      (fun k W => Blk W (g + 1) 22 #[.int .u64 i] ∧ Blk W (g + 2) 81 #[.int .u64 bi, .int .u64 bt, .slice A n c] ∧ Blk W p 22 #[.int .u64 (CI (k - 1))] ∧ (∃ t q Ad nd cd, Blk W (p + 1) 54 #[.int .u64 t, .int .i64 q, .slice Ad nd cd] ∧ By W g Ad nd (CD (k - 1)) ∧ nd ≤ 1000000) ∧ Below g w W)
      (fun _ _ _ => False)
      (fun k X Y hs hb => ⟨hs.1.below hb (by omega), hs.2.1.below hb (by omega), hs.2.2.1.below hb (by omega), (by obtain ⟨t, q, Ad, nd, cd, h1, h2, h3⟩ := hs.2.2.2.1; exact ⟨t, q, Ad, nd, cd, h1.below hb (by omega), h2.below (hb.mono (by omega)), h3⟩), hs.2.2.2.2.trans (hb.mono (by omega))⟩)
      (fun _ _ _ _ hs _ => hs) ⟨E0, E1, by rw [Z.out.1]; exact E2, ⟨0, 0, none, 0, 0, E3, by rw [Z.out.2]; exact By.none_, by omega⟩, hb02⟩
      (fun k a W => ∃ r, mm < r ∧ Blk W r 24 #[.int .u64 (spI bi k), .int .u64 (spT bt es k)] ∧ ∃ v0 v1 v4 v5 v6 v12 v13 v14 v15 v16 v17 v18 v19 v20 v21 v22 v23 v24 v25 v26 v27 v28 v29 v30 v31 v32 v33 v34 v35 v36 v37 v38 v39 v40 v41 v42 v43 v44 v45 v46 v47 v48 v49 v50 v51 v52 v53 v54 v55 : Value, a = { tmps := #[v0, v1, .pointer (some ⟨g, 0, none⟩), .pointer (some ⟨g + 1, 0, none⟩), v4, v5, v6, .pointer (some ⟨g + 1 + 1, 0, none⟩), .pointer (some ⟨p, 0, none⟩), .pointer (some ⟨p + 1, 0, none⟩), .int .i64 (k : Int), .pointer (some ⟨r, 0, none⟩), v12, v13, v14, v15, v16, v17, v18, v19, v20, v21, v22, v23, v24, v25, v26, v27, v28, v29, v30, v31, v32, v33, v34, v35, v36, v37, v38, v39, v40, v41, v42, v43, v44, v45, v46, v47, v48, v49, v50, v51, v52, v53, v54, v55], defers := [] })
      (fun k a X r o o' hs hr ho => by
        obtain ⟨r1, hp, hbp, hv⟩ := hs
        exact ⟨r1, hp, hbp.putR hr ho o', hv⟩) ?assign ?body ?done ?stop
    case assign =>
      intro l k W hI hsz hk
      simp only [spE]
      gi_wp2
      obtain ⟨i0, i1, i2, ⟨t, q, Ad, nd, cd, i3, i4, i5⟩, i6⟩ := hI
      exact ⟨Fixed.of_below ((Below.refl _ _).alloc (Nat.le_refl _) _) (by omega), ⟨i0.alloc _, i1.alloc _, i2.alloc _, ⟨t, q, Ad, nd, cd, i3.alloc _, i4.alloc (by have := i3.lt; omega) _, i5⟩, i6.alloc (by have := i3.lt; omega) _⟩, W.heap.size, by omega, Blk.new W 24 _, _, _, _, _, _, _, _, _, _, _, _, _, _, _, _, _, _, _, _, _, _, _, _, _, _, _, _, _, _, _, _, _, _, _, _, _, _, _, _, _, _, _, _, _, _, _, _, _, _, rfl⟩
    case body =>
      rintro l k a1 W ⟨i0, i1, i2, ⟨t, q, Ad, nd, cd, i3, i4, i5⟩, i6⟩ ⟨r, hp, hbp, v0, v1, v4, v5, v6, v12, v13, v14, v15, v16, v17, v18, v19, v20, v21, v22, v23, v24, v25, v26, v27, v28, v29, v30, v31, v32, v33, v34, v35, v36, v37, v38, v39, v40, v41, v42, v43, v44, v45, v46, v47, v48, v49, v50, v51, v52, v53, v54, v55, rfl⟩ hsz hk
      cases k with
      | zero =>
        gi_wp2
        exact ⟨Fixed.refl _ _ _, i0, i1, i2, ⟨t, q, Ad, nd, cd, i3, i4, i5⟩, i6⟩
      | succ j =>
        obtain ⟨b, o, x, rfl, hbl, hx, hxo, hxc⟩ := ((H.out.es.more (by omega)).below i6).at_ (show j < n by omega)
        obtain ⟨c0, c1, c2⟩ := rng3 hxc
        have hit := HIT.out j
        have miss := MISS.out j
        rw [← hx] at hit miss
        have HX : By W g x.A x.n x.d := hxo.by_
        have hxn : x.n ≤ 1000000 := by have := hxo.n; omega
        obtain ⟨xt, xk, xA, xn, xc, xd⟩ := x
        simp only [Ec.en] at c0 c1 c2 hit miss HX hxn
        have p0 : W.cell? ⟨r, 0, none⟩ = some (.int .u64 (spI bi (j + 1))) := hbp.cell 0
        have p1 : W.cell? ⟨r, 1, none⟩ = some (.int .u64 (spT bt es (j + 1))) := hbp.cell 1
        have q0 : W.cell? ⟨g + 1, 0, none⟩ = some (.int .u64 i) := i0.cell 0
        have s2 : W.cell? ⟨g + 1 + 1, 2, none⟩ = some (.slice (some ⟨b, o, none⟩) n c) := i1.cell 2
        generalize spI bi (j + 1) = I at *
        obtain ⟨K, hK⟩ : ∃ K : Int, ((j + 1 : Nat) : Int) = K := ⟨_, rfl⟩
        rw [hK]
        have K0 : decide (0 < K) = true := decide_eq_true (by omega)
        have K1 : wrap64 (K - 1) = (j : Int) := by rw [show K - 1 = (j : Int) by omega, w64 (by omega) (by omega)]
        have K2 : IntKind.i64.wrap (K - 1) = (j : Int) := by rw [IntKind.wrap_i64]; omega
        have K3 : (0 : Int) ≤ (j : Int) := by omega
        have K4 : (j : Int) < (n : Int) := by omega
        have HKK := Lib.hid hK
        clear hK hx hxo hxc
        by_cases hI : I ≤ i
        · have hI' : decide (I ≤ i) = true := decide_eq_true hI
          by_cases h3 : xk = 3
          · subst h3
            obtain ⟨u1, u2, _⟩ := hit rfl hI
            have Q := Lib.hid (And.intro u1 u2)
            have z0 : W.cell? ⟨p, 0, none⟩ = some (.int .u64 (CI j)) := i2.cell 0
            have z1 : W.frozen? ⟨p, 0, none⟩ = false := i2.frozen 0
            have y0 : W.cell? ⟨p + 1, 0, none⟩ = some (.int .u64 t) := i3.cell 0
            have y1 : W.cell? ⟨p + 1, 1, none⟩ = some (.int .i64 q) := i3.cell 1
            have y2 : W.cell? ⟨p + 1, 2, none⟩ = some (.slice Ad nd cd) := i3.cell 2
            have f0 : W.frozen? ⟨p + 1, 0, none⟩ = false := i3.frozen 0
            have f1 : W.frozen? ⟨p + 1, 1, none⟩ = false := i3.frozen 1
            have f2 : W.frozen? ⟨p + 1, 2, none⟩ = false := i3.frozen 2
            clear hit miss u1 u2 hI
            gi_wp2_with fail
            have hS0 : (W.drew.cell? ⟨r, 0, none⟩ = some (.int .u64 I)) ∧ (W.drew.cell? ⟨g + 1 + 1, 2, none⟩ = some (.slice (some ⟨b, o, none⟩) n c)) ∧ (W.drew.cell? ⟨b, o + j * 3, none⟩ = some (.int .u64 xt) ∧ W.drew.cell? ⟨b, o + j * 3 + 1, none⟩ = some (.int .i64 3) ∧ W.drew.cell? ⟨b, o + j * 3 + 2, none⟩ = some (.slice xA xn xc)) := ⟨p0, s2, c0, c1, c2⟩
            have i2 : Blk W.drew p 22 #[.int .u64 (CI j)] := i2.drewN 1
            have i3 : Blk W.drew (p + 1) 54 #[.int .u64 t, .int .i64 q, .slice Ad nd cd] := i3.drewN 1
            have hbg : b < g := hbl
            have i0 : Blk W.drew (g + 1) 22 #[.int .u64 i] := i0.drewN 1
            have i1 : Blk W.drew (g + 2) 81 #[.int .u64 bi, .int .u64 bt, .slice (some ⟨b, o, none⟩) n c] := i1.drewN 1
            have HX : By W.drew g xA xn xd := HX.drewN 1
            have hwd : Below g W W.drew := (Below.refl g W).drew
            have hwh : ∀ j : Nat, W.drew.heap[j]? = W.heap[j]? := fun _ => rfl
            have z0 : W.drew.cell? ⟨p, 0, none⟩ = some (.int .u64 (CI j)) := i2.cell 0
            have z1 : W.drew.frozen? ⟨p, 0, none⟩ = false := i2.frozen 0
            refine wpIn_region_round (S := fun w' => (w'.cell? ⟨r, 0, none⟩ = some (.int .u64 I)) ∧ (w'.cell? ⟨g + 1 + 1, 2, none⟩ = some (.slice (some ⟨b, o, none⟩) n c)) ∧ (w'.cell? ⟨b, o + j * 3, none⟩ = some (.int .u64 xt) ∧ w'.cell? ⟨b, o + j * 3 + 1, none⟩ = some (.int .i64 3) ∧ w'.cell? ⟨b, o + j * 3 + 2, none⟩ = some (.slice xA xn xc))) (by kernel_rfl) (by kernel_rfl) hS0 (fun hHeld => ?_)
            generalize W.drew = w3 at *
            refine take_d (i := 0) (d := 41) (v := ?s41) rfl rfl (by kernel_rfl) (by kernel_rfl) (by kernel_rfl) (fun _ _ _ h => h) (Or.inl ⟨by kernel_rfl, ?s41h⟩) hHeld ?s41n
            case s41h => (intro w hSw; (try dsimp only at hSw); go_split_ands; go_simp; (try exact rfl))
            try simp only [Act.put, List.setIfInBounds_toArray, List.set_cons_zero, List.set_cons_succ]
            refine take_d (i := 1) (d := 42) (v := ?s42) rfl rfl (by kernel_rfl) (by kernel_rfl) (by kernel_rfl) (fun _ _ _ h => h) (Or.inl ⟨by kernel_rfl, ?s42h⟩) hHeld ?s42n
            case s42h => (intro w hSw; (try dsimp only at hSw); go_split_ands; go_simp; (try exact rfl))
            try simp only [Act.put, List.setIfInBounds_toArray, List.set_cons_zero, List.set_cons_succ]
            refine take_d (i := 2) (d := 43) (v := ?s43) rfl rfl (by kernel_rfl) (by kernel_rfl) (by kernel_rfl) (fun _ _ _ h => h) (Or.inl ⟨by kernel_rfl, ?s43h⟩) hHeld ?s43n
            case s43h => (intro w hSw; (try dsimp only at hSw); go_split_ands; go_simp; (try exact rfl))
            try simp only [Act.put, List.setIfInBounds_toArray, List.set_cons_zero, List.set_cons_succ]
            refine take_d (i := 3) (d := 44) (v := ?s44) rfl rfl (by kernel_rfl) (by kernel_rfl) (by kernel_rfl) (fun _ _ _ h => h) (Or.inl ⟨by kernel_rfl, ?s44h⟩) hHeld ?s44n
            case s44h => (intro w hSw; (try dsimp only at hSw); go_split_ands; go_simp; (try exact rfl))
            try simp only [Act.put, List.setIfInBounds_toArray, List.set_cons_zero, List.set_cons_succ]
            refine take_d (i := 4) (d := 45) (v := ?s45) rfl rfl (by kernel_rfl) (by kernel_rfl) (by kernel_rfl) (fun _ _ _ h => h) (Or.inl ⟨by kernel_rfl, ?s45h⟩) hHeld ?s45n
            case s45h => (intro w hSw; (try dsimp only at hSw); go_split_ands; go_simp; (try exact rfl))
            try simp only [Act.put, List.setIfInBounds_toArray, List.set_cons_zero, List.set_cons_succ]
            refine take_d (i := 5) (d := 46) (v := ?s46) rfl rfl (by kernel_rfl) (by kernel_rfl) (by kernel_rfl) (fun _ _ _ h => h) (Or.inl ⟨by kernel_rfl, ?s46h⟩) hHeld ?s46n
            case s46h => (intro w hSw; (try dsimp only at hSw); go_split_ands; go_simp; (try exact rfl))
            try simp only [Act.put, List.setIfInBounds_toArray, List.set_cons_zero, List.set_cons_succ]
            refine take_d (i := 6) (d := 47) (v := ?s47) rfl rfl (by kernel_rfl) (by kernel_rfl) (by kernel_rfl) (fun _ _ _ h => h) (Or.inl ⟨by kernel_rfl, ?s47h⟩) hHeld ?s47n
            case s47h => (intro w hSw; (try dsimp only at hSw); go_split_ands; go_simp; (try exact rfl))
            try simp only [Act.put, List.setIfInBounds_toArray, List.set_cons_zero, List.set_cons_succ]
            refine take_d (i := 7) (d := 48) (v := ?s48) rfl rfl (by kernel_rfl) (by kernel_rfl) (by kernel_rfl) (fun _ _ _ h => h) (Or.inl ⟨by kernel_rfl, ?s48h⟩) hHeld ?s48n
            case s48h => (intro w hSw; (try dsimp only at hSw); go_split_ands; go_simp; (try exact rfl))
            try simp only [Act.put, List.setIfInBounds_toArray, List.set_cons_zero, List.set_cons_succ]
            refine take_d (i := 8) (d := 49) (v := ?s49) rfl rfl (by kernel_rfl) (by kernel_rfl) (by kernel_rfl) (fun _ _ _ h => h) (Or.inl ⟨by kernel_rfl, ?s49h⟩) hHeld ?s49n
            case s49h => (intro w hSw; (try dsimp only at hSw); go_split_ands; go_simp; (try exact rfl))
            try simp only [Act.put, List.setIfInBounds_toArray, List.set_cons_zero, List.set_cons_succ]
            refine wpAnyH_ready (rs := [9]) (by kernel_rfl) (by simp) ?_
            refine AllReadyH.cons rfl (fun K hK => ?_) AllReadyH.nil
            go_simp
            have ho4 := setCell_only w3 p 0 (.int .u64 I)
            have hb4 : Blk (w3.setCell ⟨p, 0, none⟩ (.int .u64 I)) p 22 #[.int .u64 I] := i2.set_ 0 _
            generalize w3.setCell ⟨p, 0, none⟩ (.int .u64 I) = w4 at *
            have i3 := ho4.keep i3 (by omega)
            have HS4 : (w4.cell? ⟨r, 0, none⟩ = some (.int .u64 I)) ∧ (w4.cell? ⟨g + 1 + 1, 2, none⟩ = some (.slice (some ⟨b, o, none⟩) n c)) ∧ (w4.cell? ⟨b, o + j * 3, none⟩ = some (.int .u64 xt) ∧ w4.cell? ⟨b, o + j * 3 + 1, none⟩ = some (.int .i64 3) ∧ w4.cell? ⟨b, o + j * 3 + 2, none⟩ = some (.slice xA xn xc)) := ⟨(World.cell?_of_block (ho4.block r (by omega))).trans hHeld.1, (World.cell?_of_block (ho4.block (g + 1 + 1) (by omega))).trans hHeld.2.1, (World.cell?_of_block (ho4.block b (by omega))).trans hHeld.2.2.1, (World.cell?_of_block (ho4.block b (by omega))).trans hHeld.2.2.2.1, (World.cell?_of_block (ho4.block b (by omega))).trans hHeld.2.2.2.2⟩
            refine hK.out _ _ HS4 (fun hHeld => ?_)
            clear hK K
            try simp only [Act.put, List.setIfInBounds_toArray, List.set_cons_zero, List.set_cons_succ]
            refine wpAnyH_ready (rs := [10]) (by kernel_rfl) (by simp) ?_
            refine AllReadyH.cons rfl (fun K hK => ?_) AllReadyH.nil
            refine wp_store_blk 54 _ _ rfl (p + 1) #[.int .u64 t, .int .i64 q, .slice Ad nd cd] 54 [.int .u64 xt, .int .i64 3, .slice xA xn xc] rfl rfl i3 rfl Try.i54 (by simp [Value.oneCell']) ?_
            intro w5 hb5 ho5
            have HS5 : (w5.cell? ⟨r, 0, none⟩ = some (.int .u64 I)) ∧ (w5.cell? ⟨g + 1 + 1, 2, none⟩ = some (.slice (some ⟨b, o, none⟩) n c)) ∧ (w5.cell? ⟨b, o + j * 3, none⟩ = some (.int .u64 xt) ∧ w5.cell? ⟨b, o + j * 3 + 1, none⟩ = some (.int .i64 3) ∧ w5.cell? ⟨b, o + j * 3 + 2, none⟩ = some (.slice xA xn xc)) := ⟨(World.cell?_of_block (ho5.block r (by omega))).trans hHeld.1, (World.cell?_of_block (ho5.block (g + 1 + 1) (by omega))).trans hHeld.2.1, (World.cell?_of_block (ho5.block b (by omega))).trans hHeld.2.2.1, (World.cell?_of_block (ho5.block b (by omega))).trans hHeld.2.2.2.1, (World.cell?_of_block (ho5.block b (by omega))).trans hHeld.2.2.2.2⟩
            refine hK.out _ _ HS5 (fun hHeld => ?_)
            clear hK K
            try simp only [Act.put, List.setIfInBounds_toArray, List.set_cons_zero, List.set_cons_succ]
            refine wpAnyH_done (by kernel_rfl) ?_ _
            refine JustN.normal ?_
            gi_wp2
            have hw3 : Below g w3 w5 := (ho4.below (by omega)).trans (ho5.below (by omega))
            have hw : Below g W w5 := hwd.trans hw3
            exact ⟨⟨hw, fun j hj hjl => (ho5.block j (by omega)).trans ((ho4.block j (by omega)).trans (hwh j))⟩, ho5.keep (ho4.keep i0 (by omega)) (by omega), ho5.keep (ho4.keep i1 (by omega)) (by omega), (by rw [Nat.add_sub_cancel, Q.out.1]; exact ho5.keep hb4 (by omega)), ⟨xt, 3, xA, xn, xc, hb5, (by rw [Nat.add_sub_cancel, Q.out.2]; exact HX.below hw3), hxn⟩, i6.trans hw⟩
          · have h3' : (xk == 3) = false := by simp [h3]
            obtain ⟨u1, u2, _⟩ := miss (fun e => h3 e.1)
            have Q := Lib.hid (And.intro u1 u2)
            clear hit miss u1 u2 hI h3
            gi_wp2
            exact ⟨Fixed.refl _ _ _, i0, i1, (by rw [Nat.add_sub_cancel, Q.out.1]; exact i2), ⟨t, q, Ad, nd, cd, i3, (by rw [Nat.add_sub_cancel, Q.out.2]; exact i4), i5⟩, i6⟩
        · have hI' : decide (I ≤ i) = false := decide_eq_false hI
          obtain ⟨u1, u2, _⟩ := miss (fun e => hI e.2)
          have Q := Lib.hid (And.intro u1 u2)
          clear hit miss u1 u2 hI
          gi_wp2
          exact ⟨Fixed.refl _ _ _, i0, i1, (by rw [Nat.add_sub_cancel, Q.out.1]; exact i2), ⟨t, q, Ad, nd, cd, i3, (by rw [Nat.add_sub_cancel, Q.out.2]; exact i4), i5⟩, i6⟩
    case done =>
      rintro D W hD ⟨i0, i1, i2, ⟨t, q, Ad, nd, cd, i3, i4, i5⟩, i6⟩ hKD
      rw [Nat.add_sub_cancel] at i2 i4
      have C5 : Hid (∀ W, Blk W p 22 #[.int .u64 (CI n)] → Blk W (p + 1) 54 #[.int .u64 t, .int .i64 q, .slice Ad nd cd] → W.cell? ⟨p, 0, none⟩ = some (.int .u64 (CI n)) ∧ W.cell? ⟨p + 1, 2, none⟩ = some (.slice Ad nd cd)) := Lib.hid (fun W h1 h2 => ⟨h1.cell 0, h2.cell 2⟩)
      go_upto_region 10 with (fail)
      have i2 : Blk W.drew p 22 #[.int .u64 (CI n)] := i2.drewN 1
      have i3 : Blk W.drew (p + 1) 54 #[.int .u64 t, .int .i64 q, .slice Ad nd cd] := i3.drewN 1
      have i4 : By W.drew g Ad nd (CD n) := i4.drewN 1
      have i6 := i6.drew
      have hKD : W.drew.heap[D]? = some (.deferred (some [])) := hKD
      have hS0 := C5.out W.drew i2 i3
      refine wp_region_noPanic ?_
      refine wp_region_held_drew (S := fun w' => w'.cell? ⟨p, 0, none⟩ = some (.int .u64 (CI n)) ∧ w'.cell? ⟨p + 1, 2, none⟩ = some (.slice Ad nd cd)) (by kernel_rfl) hS0 (fun hHeld => ?_)
      have hDl : D < W.drew.heap.size := (Array.getElem?_eq_some_iff.1 hKD).1
      generalize W.drew = W5 at *
      refine take_d (i := 0) (d := 50) (v := ?d50) rfl rfl (by kernel_rfl) (by kernel_rfl) (by kernel_rfl) (fun _ _ _ h => h) (Or.inl ⟨by kernel_rfl, ?d50h⟩) hHeld ?d50n
      case d50h => (intro w hSw; (try dsimp only at hSw); go_split_ands; go_simp; (try exact rfl))
      try simp only [Act.put, List.setIfInBounds_toArray, List.set_cons_zero, List.set_cons_succ]
      refine take_d (i := 1) (d := 51) (v := ?d51) rfl rfl (by kernel_rfl) (by kernel_rfl) (by kernel_rfl) (fun _ _ _ h => h) (Or.inl ⟨by kernel_rfl, ?d51h⟩) hHeld ?d51n
      case d51h => (intro w hSw; (try dsimp only at hSw); go_split_ands; go_simp; (try exact rfl))
      try simp only [Act.put, List.setIfInBounds_toArray, List.set_cons_zero, List.set_cons_succ]
      refine take_d (i := 2) (d := 52) (v := ?d52) rfl rfl (by kernel_rfl) (by kernel_rfl) (by kernel_rfl) (fun _ _ _ h => h) (Or.inl ⟨by kernel_rfl, ?d52h⟩) hHeld ?d52n
      case d52h => (intro w hSw; (try dsimp only at hSw); go_split_ands; go_simp; (try exact rfl))
      try simp only [Act.put, List.setIfInBounds_toArray, List.set_cons_zero, List.set_cons_succ]
      refine take_d (i := 4) (d := 54) (v := ?d54) rfl rfl (by kernel_rfl) (by kernel_rfl) (by kernel_rfl) (fun _ _ _ h => h) (Or.inl ⟨by kernel_rfl, ?d54h⟩) hHeld ?d54n
      case d54h => (intro w hSw; (try dsimp only at hSw); go_split_ands; go_simp; (try exact rfl))
      try simp only [Act.put, List.setIfInBounds_toArray, List.set_cons_zero, List.set_cons_succ]
      refine take_d (i := 5) (d := 55) (v := ?d55) rfl rfl (by kernel_rfl) (by kernel_rfl) (by kernel_rfl) (fun _ _ _ h => h) (Or.inl ⟨by kernel_rfl, ?d55h⟩) hHeld ?d55n
      case d55h => (intro w hSw; (try dsimp only at hSw); go_split_ands; go_simp; (try exact rfl))
      try simp only [Act.put, List.setIfInBounds_toArray, List.set_cons_zero, List.set_cons_succ]
      refine wpAnyH_ready (rs := [3]) (by kernel_rfl) (by simp) ?_
      refine AllReadyH.cons rfl (fun K hK => ?_) AllReadyH.nil
      go_simp
      refine (bclone_any Ad nd cd (CD n) W5 g i4 (by omega)).mono ?_
      rintro e w6 ⟨Ac, cc, rfl, hown, hb6⟩
      have C6 := C5.out w6 (i2.below hb6 i2.lt) (i3.below hb6 i3.lt)
      refine hK.out _ _ (C6) (fun hHeld => ?_)
      clear hK K
      try simp only [Act.put, List.setIfInBounds_toArray, List.set_cons_zero, List.set_cons_succ]
      refine take_d (i := 6) (d := 4) (v := ?d4) rfl rfl (by kernel_rfl) (by kernel_rfl) (by kernel_rfl) (fun _ _ _ h => h) (Or.inl ⟨by kernel_rfl, ?d4h⟩) hHeld ?d4n
      case d4h => (intro w hSw; (try dsimp only at hSw); go_split_ands; go_simp; (try exact rfl))
      try simp only [Act.put, List.setIfInBounds_toArray, List.set_cons_zero, List.set_cons_succ]
      refine take_d (i := 7) (d := 5) (v := ?d5) rfl rfl (by kernel_rfl) (by kernel_rfl) (by kernel_rfl) (fun _ _ _ h => h) (Or.inl ⟨by kernel_rfl, ?d5h⟩) hHeld ?d5n
      case d5h => (intro w hSw; (try dsimp only at hSw); go_split_ands; go_simp; (try exact rfl))
      try simp only [Act.put, List.setIfInBounds_toArray, List.set_cons_zero, List.set_cons_succ]
      refine take_d (i := 8) (d := 6) (v := ?d6) rfl rfl (by kernel_rfl) (by kernel_rfl) (by kernel_rfl) (fun _ _ _ h => h) (Or.inl ⟨by kernel_rfl, ?d6h⟩) hHeld ?d6n
      case d6h => (intro w hSw; (try dsimp only at hSw); go_split_ands; go_simp; (try exact rfl))
      try simp only [Act.put, List.setIfInBounds_toArray, List.set_cons_zero, List.set_cons_succ]
      refine wpAnyH_done (by kernel_rfl) ?_ _
      refine NoPanic.normal ?_
      go_wp2
      refine ⟨by simp, .inl ⟨_, _, rfl, run_takeDeferred ((hb6.block D hDl).trans hKD), ?_⟩⟩
      have ho7 : Own (w6.putObj D (.deferred none)) W5.heap.size Ac nd cc (CD n) := ⟨hown.1.kept (w' := w6.putObj D (.deferred none)) (Only.grown (g := D) ⟨rfl, rfl, rfl, by simp, fun j hj => World.putObj_heap_other hj⟩) (.inr (fun e => by have := (hown.1.lt D e).1; omega)), hown.2⟩
      have hb7 : Below g w (w6.putObj D (.deferred none)) := (i6.trans (hb6.mono (by have := i3.lt; omega))).trans (below_shut _ (.deferred none) (by omega))
      have hgW : g ≤ W5.heap.size := by have := i3.lt; omega
      refine ⟨_, resTTT rfl _ _ _ _ _ rfl rfl rfl, ⟨Ac, nd, cc, by rw [← PS.out n (Nat.le_refl _)]; rfl, ?_, ?_⟩⟩
      · rw [hg]
        exact ho7.down hgW
      · rw [hg]
        exact hb7
    case stop =>
      rintro D c2 k W _ _ hf _
      exact hf.elim

end Go.Proofs.Ytmgaihdepglahaa
