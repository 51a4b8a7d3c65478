/-
  The law ParseBlanks, walked: what it wants of statements in memory, and of its number.
-/
import Derived.Test.YtiipglmbfgmbbaaGreatDoorP59
import Derived.Test.YtiipglmbfgmbbaaGreatDoorP52
namespace Go.Proofs.YtiipglmbfgmbbaaGreatDoor
open Go.RowKit Go.Shelf
attribute [local go_sem] Oper.semAt_some
attribute [local go_sem ↓] eq26 eqG26

theorem smC_len (s : Sm) (x : Cx) : (smC s x).length = 15 := rfl
theorem SlC.len15 {w : World} {D : Nat} : ∀ {vs : List Value} {l : List Sm}, SlC w D vs l → vs.length = l.length * 15
  | _, [], h => by rw [show _ = [] from h]; rfl
  | _, s :: l, ⟨x, rest, e, _, h⟩ => by rw [e, List.length_append, smC_len, h.len15, List.length_cons]; omega
theorem SlC.get15 {w : World} {D : Nat} : ∀ {vs : List Value} {l : List Sm} {i : Nat} {s : Sm}, SlC w D vs l → l[i]? = some s → ∃ x, (∀ k, k < 15 → vs[i * 15 + k]? = (smC s x)[k]?) ∧ Ox w D s x
  | _, [], i, s, _, hx => by cases hx
  | _, t :: l, 0, s, ⟨x, rest, e, hO, h⟩, hx => by
    simp only [List.getElem?_cons_zero, Option.some.injEq] at hx
    subst hx
    refine ⟨x, fun k hk => ?_, hO⟩
    rw [Nat.zero_mul, Nat.zero_add, e, List.getElem?_append_left (by rw [smC_len]; exact hk)]
  | _, t :: l, i + 1, s, ⟨x, rest, e, hO, h⟩, hx => by
    obtain ⟨y, h1, h2⟩ := h.get15 (i := i) (s := s) (by simpa using hx)
    refine ⟨y, fun k hk => ?_, h2⟩
    rw [e, List.getElem?_append_right (by rw [smC_len]; omega), smC_len, show (i + 1) * 15 + k - 15 = i * 15 + k from by omega]
    exact h1 k hk
theorem Sls.below {w w' : World} {D n c : Nat} {A : Option Addr} {l : List Sm} (h : Sls w D A n c l) (hb : Below w.heap.size w w') : Sls w' D A n c l := h.kt (Kt.below hb) (K4.below hb)
theorem Sls.len {w : World} {D n c : Nat} {A : Option Addr} {l : List Sm} (h : Sls w D A n c l) : l.length = n := by
  obtain ⟨vs, ho, hr⟩ := h
  have h1 := ho.1
  have h2 := hr.len15
  omega
theorem Sls.at_ {w : World} {D n c : Nat} {A : Option Addr} {l : List Sm} (h : Sls w D A n c l) {i : Nat} {s : Sm} (hx : l[i]? = some s) :
    ∃ b o x, A = some ⟨b, o, none⟩ ∧ b < w.heap.size ∧ w.rangeAt b (o + i * 15) (smC s x) ∧ Ox w D s x := by
  have hi : i < l.length := (List.getElem?_eq_some_iff.1 hx).1
  have hn := h.len
  obtain ⟨vs, ho, hr⟩ := h
  obtain ⟨g, cap, hv⟩ : ∃ g cap, Value.slice A n c = .slice (some ⟨g, 0, none⟩) n cap := by
    rcases ho.2 with ⟨hv, h0⟩ | ⟨g, cap, cur, hv, _⟩
    · omega
    · exact ⟨g, cap, hv⟩
  injection hv with h1 h2 h3
  subst h1
  have hw : w.ownsRow D 38 15 (.slice (some ⟨g, 0, none⟩) n c) n vs := ho
  have hlt := (hw.lt g rfl).2
  obtain ⟨x, k1, k2⟩ := hr.get15 hx
  refine ⟨g, 0, x, rfl, hlt, fun j v hj => ?_, k2⟩
  have hj' : j < 15 := (List.getElem?_eq_some_iff.1 hj).1
  rw [Nat.zero_add, hw.cellAt (i * 15 + j) (by omega), k1 j hj']
  exact hj
theorem psF_place {n : Nat} {l : List UInt8} {ss : List Sm} {er : Int} {a : Nat} (h : psF n l = some (ss, er, a)) : a ≤ l.length := by
  unfold psF at h
  rcases lexF_cases l with ⟨ts, hx⟩ | ⟨e, p, hx, he, hp⟩
  · obtain ⟨PL, -, -, -⟩ := lexF_plc hx
    rw [hx] at h
    rw [if_neg (by simp)] at h
    simp only at h
    cases hs : stsF ts l.length 0 n 0 [] with
    | none => rw [hs] at h; cases h
    | some z =>
      rw [hs] at h
      rcases z with ⟨x, i⟩ | ls
      · simp only [Option.some.injEq, Prod.mk.injEq] at h
        obtain ⟨-, -, rfl⟩ := h
        by_cases hi : i < ts.length
        · rw [tokAt_in hi]
          exact Nat.le_of_lt (plc_inc ts 0 i PL hi).2.1
        · have : tokAt ts l.length i = endT l.length := by unfold tokAt; simp [List.getD, List.getElem?_eq_none (Nat.le_of_not_lt hi)]
          rw [this]
          exact Nat.le_refl _
      · simp only [Option.some.injEq, Prod.mk.injEq] at h
        omega
  · rw [hx] at h
    rw [if_pos he] at h
    simp only [Option.some.injEq, Prod.mk.injEq] at h
    omega
theorem u30 (n : Int) : ∃ k : Nat, k < 30 ∧ max n 0 % 30 = (k : Int) := ⟨(max n 0 % 30).toNat, by omega, by omega⟩
set_option maxRecDepth 100000 in
set_option maxHeartbeats 8000000 in
theorem blanks_walk (l : List UInt8) (n : Int) (w : World) (hG : Gl w) (hP : Gp w) :
    Calls Tryz.prog 5 #[tx l, .int .i64 n] w fun e w' => e = .returned (.bool true) ∧ Below w.heap.size w w' := by
  have WK := Lib.hid (wakes_any w hG hP)
  have GH := Lib.hid hG
  have QH := Lib.hid hP
  have h9 := hG.lt
  clear hG hP
  obtain ⟨k, hk, hw⟩ := u30 n
  by_cases hbig : 900 < l.length
  · have d1 : decide ((900 : Int) < (l.length : Int)) = true := decide_eq_true (by omega)
    have d2 : decide (900 < l.length) = true := decide_eq_true hbig
    go_enter Tryz.func5, Tryz.ntmps5
    go_wp2_with (go_at_call 7; refine WK.out.mono ?_; rintro e w1 ⟨rfl, hb⟩; have H1 := Lib.hid hb; clear hb WK)
    go_ret
    exact ⟨rfl, H1.out⟩
  · have d1 : decide ((900 : Int) < (l.length : Int)) = false := decide_eq_false (by omega)
    have d2 : decide (900 < l.length) = false := decide_eq_false hbig
    go_enter Tryz.func5, Tryz.ntmps5
    go_upto_region 7 with (go_at_call 7; refine WK.out.mono ?_; rintro e w1 ⟨rfl, hb⟩; have H1 := Lib.hid hb; clear hb WK)
    rw [hw]
    clear hw
    go_wp2_with fail
    go_loopw [5, 20] (fun sv iv wr => ∃ i : Nat, i ≤ k ∧ iv = .int .i64 (i : Int) ∧ (∃ r, Hid (r = List.replicate i 32) ∧ sv = tx r) ∧ wr = w1) (fun _ iv _ => k - (intOf iv).toNat)
    case atStart => exact ⟨0, Nat.zero_le _, rfl, ⟨[], Lib.hid rfl, rfl⟩, rfl⟩
    case round =>
      obtain ⟨i, hi, rfl, ⟨r0, hr0, rfl⟩, rfl⟩ := hrel
      have hlen : r0.length = i := by rw [hr0.out, List.length_replicate]
      by_cases hlt : i < k
      · have i0 : (0 : Int) ≤ (i : Int) := by omega
        have i1 : (i : Int) < (k : Int) := by omega
        have C1 := ba_cat r0 [32]
        have n1 : ¬ 9223372036854775807 < r0.length + 1 := by omega
        have HR : Hid (r0 ++ [32] = List.replicate (i + 1) 32) := Lib.hid (by rw [hr0.out]; exact List.replicate_succ'.symm)
        go_wp2_with fail
        go_roundw
        case rel => exact ⟨i + 1, by omega, by go_num, ⟨r0 ++ [32], HR, congrArg Value.string C1⟩, trivial⟩
        case measure => simp [intOf]; omega
      · obtain rfl : i = k := by omega
        have HBL : Hid (blkN false (r0 ++ l) = r0.length + blkN false l) := Lib.hid (by rw [hlen, hr0.out]; exact blk_rep i l)
        have CA := ba_cat r0 l
        have n2 : ¬ 9223372036854775807 < r0.length + l.length := by omega
        have PA := Lib.hid (fun W h1 h2 => parse_any l (by omega) W h1 h2)
        have PB := Lib.hid (fun W h1 h2 => parse_any (r0 ++ l) (by rw [List.length_append]; omega) W h1 h2)
        clear hr0
        go_upto_region 12 with (go_at_call 11; refine (PA.out _ (GH.out.below H1.out h9) (QH.out.below H1.out (by omega))).mono ?_; rintro e w2 ⟨m1, ss, er, a, A2, c2, hx, rfl, hS, hb⟩; have X2 := Lib.hid hx; have S2 := Lib.hid hS; have H2 := Lib.hid (H1.out.trans (hb.mono H1.out.size)); clear hx hS hb PA)
        have AL : Below w2.heap.size w2 (w2.alloc (.cells #[.int .i64 er, .int .i64 (a : Int)] 26)) := (Below.refl _ _).alloc (Nat.le_refl _) _
        have H3 := Lib.hid (H2.out.trans (AL.mono H2.out.size))
        have S3 := Lib.hid (S2.out.below AL)
        have K3 : Hid (Blk (w2.alloc (.cells #[.int .i64 er, .int .i64 (a : Int)] 26)) w2.heap.size 26 #[.int .i64 er, .int .i64 (a : Int)]) := Lib.hid (Blk.new _ _ _)
        clear AL S2 H2
        generalize w2.heap.size = g7 at *
        generalize w2.alloc (.cells #[.int .i64 er, .int .i64 (a : Int)] 26) = w3 at *
        have hpl := psF_place X2.out
        obtain ⟨p', hps, hpe⟩ := psF_ahead HBL.out (by omega) X2.out
        have PS := Lib.hid hps
        have PE := Lib.hid hpe
        clear hps hpe X2 HBL
        go_upto_region 13 with (go_at_call 11; refine (PB.out _ (GH.out.below H3.out h9) (QH.out.below H3.out (by omega))).mono ?_; rintro e w4 ⟨m2, ss', er', a', A4, c4, hx, rfl, hS, hb⟩; have hone := psF_one hx PS.out; simp only [Prod.mk.injEq] at hone; obtain ⟨rfl, rfl, rfl⟩ := hone; have S4 := Lib.hid hS; have S4' := Lib.hid (S3.out.below hb); have K4' := Lib.hid (K3.out.below hb K3.out.lt); have H4 := Lib.hid (H3.out.trans (hb.mono H3.out.size)); clear hx hS hb PB S3 K3 H3)
        have AL : Below w4.heap.size w4 (w4.alloc (.cells #[.int .i64 er', .int .i64 (a' : Int)] 26)) := (Below.refl _ _).alloc (Nat.le_refl _) _
        have H5 := Lib.hid (H4.out.trans (AL.mono H4.out.size))
        have T5 := Lib.hid (S4'.out.below AL)
        have U5 := Lib.hid (S4.out.below AL)
        have K5 := Lib.hid (K4'.out.below AL K4'.out.lt)
        have L5 : Hid (Blk (w4.alloc (.cells #[.int .i64 er', .int .i64 (a' : Int)] 26)) w4.heap.size 26 #[.int .i64 er', .int .i64 (a' : Int)]) := Lib.hid (Blk.new _ _ _)
        clear AL S4 S4' K4' H4
        generalize w4.heap.size = g9 at *
        generalize w4.alloc (.cells #[.int .i64 er', .int .i64 (a' : Int)] 26) = w5 at *
        have x0 : w5.cell? ⟨g7, 0, none⟩ = some (.int .i64 er') := K5.out.cell 0
        have x1 : w5.cell? ⟨g7, 1, none⟩ = some (.int .i64 (a : Int)) := K5.out.cell 1
        have y0 : w5.cell? ⟨g9, 0, none⟩ = some (.int .i64 er') := L5.out.cell 0
        have y1 : w5.cell? ⟨g9, 1, none⟩ = some (.int .i64 (a' : Int)) := L5.out.cell 1
        have hq : wrap64 ((a : Int) + (i : Int)) = (a : Int) + (i : Int) := by unfold wrap64; omega
        have PE2 : Hid (er' ≠ 0 → ((a' : Int) != (a : Int) + (i : Int)) = false) := Lib.hid (fun h => by rw [PE.out h, hlen]; simp)
        clear PE
        have E0 : (er' != er') = false := by simp
        go_cut [62] from 37 (fun v62 wx => v62 = .bool false ∧ w5 = wx)
        case first =>
          by_cases h0 : er' = 0
          · subst h0
            go_wp2_with fail
            go_meet
            case rel => exact ⟨rfl, rfl⟩
          · have e1 : (er' != 0) = true := by simp [h0]
            have e2 := PE2.out h0
            go_wp2_with fail
            go_meet
            case rel => exact ⟨rfl, rfl⟩
        case rest =>
          obtain ⟨rfl, rfl⟩ := hcut
          have hn5 : ss'.length ≤ 9223372036854775807 := own_le T5.out.choose_spec.1
          clear x0 x1 y0 y1 PE2 E0 hq K5 L5
          go_wp2_with fail
          go_loopw [65] (fun iv wr => ∃ j : Nat, j ≤ ss'.length ∧ iv = .int .i64 (j : Int) ∧ Hid (Below w5.heap.size w5 wr)) (fun iv _ => ss'.length - (intOf iv).toNat)
          case atStart => exact ⟨0, Nat.zero_le _, rfl, Lib.hid (Below.refl _ _)⟩
          case round =>
            obtain ⟨j, hj, rfl, HB⟩ := hrel
            by_cases hlt2 : j < ss'.length
            · have j0 : (0 : Int) ≤ (j : Int) := by omega
              have j1 : (j : Int) < (ss'.length : Int) := by omega
              obtain ⟨s, hs⟩ : ∃ s, ss'[j]? = some s := ⟨_, List.getElem?_eq_getElem hlt2⟩
              obtain ⟨b, o, x, rfl, hbB, hr, hO⟩ := (T5.out.below HB.out).at_ hs
              obtain ⟨b', o', x', rfl, hbB', hr', hO'⟩ := (U5.out.below HB.out).at_ hs
              have SA := Lib.hid (fun W (hW : Below wr.heap.size wr W) => same_stmt s x x' _ _ W (hO.on_ hW) (hO'.on_ hW))
              have z0 : wr.cell? ⟨b, o + j * 15, none⟩ = some (Value.int .i64 (s.kind : Int)) := hr 0 _ rfl
              have z1 : wr.cell? ⟨b, o + j * 15 + 1, none⟩ = some (tx s.table) := hr 1 _ rfl
              have z2 : wr.cell? ⟨b, o + j * 15 + 2, none⟩ = some (tx s.join) := hr 2 _ rfl
              have z3 : wr.cell? ⟨b, o + j * 15 + 3, none⟩ = some (.slice x.a1 s.cols.length x.c1) := hr 3 _ rfl
              have z4 : wr.cell? ⟨b, o + j * 15 + 4, none⟩ = some (.slice x.a2 s.sets.length x.c2) := hr 4 _ rfl
              have z5 : wr.cell? ⟨b, o + j * 15 + 5, none⟩ = some (.bool s.star) := hr 5 _ rfl
              have z6 : wr.cell? ⟨b, o + j * 15 + 6, none⟩ = some (.slice x.a3 s.items.length x.c3) := hr 6 _ rfl
              have z7 : wr.cell? ⟨b, o + j * 15 + 7, none⟩ = some (.slice x.a4 s.on.length x.c4) := hr 7 _ rfl
              have z8 : wr.cell? ⟨b, o + j * 15 + 8, none⟩ = some (.slice x.a5 s.wh.length x.c5) := hr 8 _ rfl
              have z9 : wr.cell? ⟨b, o + j * 15 + 9, none⟩ = some (tx s.gt) := hr 9 _ rfl
              have z10 : wr.cell? ⟨b, o + j * 15 + 10, none⟩ = some (tx s.gn) := hr 10 _ rfl
              have z11 : wr.cell? ⟨b, o + j * 15 + 11, none⟩ = some (tx s.ot) := hr 11 _ rfl
              have z12 : wr.cell? ⟨b, o + j * 15 + 12, none⟩ = some (tx s.on_) := hr 12 _ rfl
              have z13 : wr.cell? ⟨b, o + j * 15 + 13, none⟩ = some (.bool s.desc) := hr 13 _ rfl
              have z14 : wr.cell? ⟨b, o + j * 15 + 14, none⟩ = some (.int .i64 s.limit) := hr 14 _ rfl
              have y0 : wr.cell? ⟨b', o' + j * 15, none⟩ = some (Value.int .i64 (s.kind : Int)) := hr' 0 _ rfl
              have y1 : wr.cell? ⟨b', o' + j * 15 + 1, none⟩ = some (tx s.table) := hr' 1 _ rfl
              have y2 : wr.cell? ⟨b', o' + j * 15 + 2, none⟩ = some (tx s.join) := hr' 2 _ rfl
              have y3 : wr.cell? ⟨b', o' + j * 15 + 3, none⟩ = some (.slice x'.a1 s.cols.length x'.c1) := hr' 3 _ rfl
              have y4 : wr.cell? ⟨b', o' + j * 15 + 4, none⟩ = some (.slice x'.a2 s.sets.length x'.c2) := hr' 4 _ rfl
              have y5 : wr.cell? ⟨b', o' + j * 15 + 5, none⟩ = some (.bool s.star) := hr' 5 _ rfl
              have y6 : wr.cell? ⟨b', o' + j * 15 + 6, none⟩ = some (.slice x'.a3 s.items.length x'.c3) := hr' 6 _ rfl
              have y7 : wr.cell? ⟨b', o' + j * 15 + 7, none⟩ = some (.slice x'.a4 s.on.length x'.c4) := hr' 7 _ rfl
              have y8 : wr.cell? ⟨b', o' + j * 15 + 8, none⟩ = some (.slice x'.a5 s.wh.length x'.c5) := hr' 8 _ rfl
              have y9 : wr.cell? ⟨b', o' + j * 15 + 9, none⟩ = some (tx s.gt) := hr' 9 _ rfl
              have y10 : wr.cell? ⟨b', o' + j * 15 + 10, none⟩ = some (tx s.gn) := hr' 10 _ rfl
              have y11 : wr.cell? ⟨b', o' + j * 15 + 11, none⟩ = some (tx s.ot) := hr' 11 _ rfl
              have y12 : wr.cell? ⟨b', o' + j * 15 + 12, none⟩ = some (tx s.on_) := hr' 12 _ rfl
              have y13 : wr.cell? ⟨b', o' + j * 15 + 13, none⟩ = some (.bool s.desc) := hr' 13 _ rfl
              have y14 : wr.cell? ⟨b', o' + j * 15 + 14, none⟩ = some (.int .i64 s.limit) := hr' 14 _ rfl
              have DR : Hid (Below wr.heap.size wr wr.drew) := Lib.hid ⟨rfl, rfl, rfl, Nat.le_refl _, fun _ _ => rfl⟩
              clear hO hO' hr hr' hs
              go_upto_region 18 with fail
              go_region_with (go_at_call 9; go_loud (refine (SA.out _ DR.out).mono ?_; rintro e w7 ⟨rfl, hb7⟩; have H7 := Lib.hid (HB.out.trans ((DR.out.trans (hb7.mono (Nat.le_refl _))).mono HB.out.size)); clear hb7))
              all_goals (go_wp2_with fail)
              all_goals go_roundw
              all_goals first | exact ⟨j + 1, by omega, by go_num, H7⟩ | (simp [intOf]; omega)
            · obtain rfl : j = ss'.length := by omega
              go_wp2_with fail
              go_ret
              exact ⟨rfl, H5.out.trans (HB.out.mono H5.out.size)⟩
end Go.Proofs.YtiipglmbfgmbbaaGreatDoor
