/-
  Several texts in one: P18, P19.
-/
import Derived.Test.YtiipglmbfgmbbaaGreatDoorPkK
namespace Go.Proofs.YtiipglmbfgmbbaaGreatDoor
open Go.RowKit Go.Shelf
attribute [local go_sem] Oper.semAt_some

theorem ex_test {L : List Tk} {E n r o : Nat} {ns : List Nd} : ex L E (n + 1) (.lv .test) r o ns = bnd (ex L E n (.lv .sum) r o ns) fun row r ns =>
      if (opX L E r 3).2 = true then bnd (ex L E n (.lv .sum) (r + 1) o ns) fun row2 r2 ns => one_ (nd2 (opX L E r 3).1 row row2) r2 ns
      else if isB (tokAt L E r) [73, 83] = true then (match wordsF L E (if isB (tokAt L E (r + 1)) NOTs = true then r + 2 else r + 1) [NULLs] with
        | .error x => some (.error x)
        | .ok r3 => one_ (nd1 (if isB (tokAt L E (r + 1)) NOTs = true then 10 else 9) row) r3 ns)
      else some (.ok (row, r, ns)) := rfl
theorem ex_det {L : List Tk} {E n m : Nat} {g : Gx} {r o : Nat} {ns : List Nd} {x y : Except (Int × Nat) (Nat × Nat × List Nd)} (h : ex L E n g r o ns = some x) (k : ex L E m g r o ns = some y) : x = y := by
  have h' := ex_mono L E n (max n m) _ _ _ _ _ (Nat.le_max_left _ _) h
  have k' := ex_mono L E m (max n m) _ _ _ _ _ (Nat.le_max_right _ _) k
  rw [h'] at k'
  exact Option.some.inj k'
section
variable {f : Nat} {args : Array Value} {w : World} {base q c E m r o : Nat} {A : Option Addr} {L : List Tk} {ns : List Nd} {g : Gx}
/-- It is known to be wrong. -/
theorem Out.bad {n : Nat} {er : Int} {i : Nat} (h : Calls Tryz.prog f args w (Out w base q A c L E m r o ns g)) (hx : ex L E n g r o ns = some (.error (er, i))) :
    Calls Tryz.prog f args w fun e w' => e = .panicked [{ v := .iface 26 (.agg #[.int .i64 er, .int .i64 ((tokAt L E i).at_ : Int)]), recovered := false }] ∧ Fq base q w w' :=
  h.mono fun e w' ⟨n1, x, hx1, hF, hy⟩ => by
    have := ex_det hx1 hx
    subst this
    exact ⟨hy, hF⟩
/-- It is known not to be wrong. -/
theorem Out.good (h : Calls Tryz.prog f args w (Out w base q A c L E m r o ns g)) (hx : ¬ ∃ n er i, ex L E n g r o ns = some (.error (er, i))) :
    Calls Tryz.prog f args w fun e w' => ∃ n row r' ns', ex L E n g r o ns = some (.ok (row, r', ns')) ∧ Fq base q w w' ∧ e = .returned (.int .i64 (row : Int)) ∧ r ≤ r' ∧ ns'.length + r ≤ ns.length + r' ∧ Fy q w w' ∧ ∃ B' nc', St w' base q A c L E m r' o B' nc' ns' :=
  h.mono fun e w' ⟨n1, x, hx1, hF, hy⟩ => by
    rcases x with ⟨er, i⟩ | ⟨row, r', ns'⟩
    · exact absurd ⟨n1, er, i, hx1⟩ hx
    · exact ⟨n1, row, r', ns', hx1, hF, hy⟩
end
set_option maxRecDepth 100000 in
set_option maxHeartbeats 8000000 in
theorem test_lv (N : Nat) (hs : LvOk N .sum 170) : LvOk N .test 168 := by
  intro w base q A c L E m r o B nc ns h hN ho
  have C1 := Lib.hid (hs w base q A c L E m r o B nc ns h hN ho)
  have HF := Lib.hid hs
  have hle := h.pt.le
  have hmany := h.pt.many
  have hfew := h.few
  clear hs h
  go_enter Tryz.func168, Tryz.ntmps168
  go_upto_region 2 with (go_at_call 170; refine C1.out.mono ?_; rintro e w1 ⟨n1, x1, hx, hF, hy⟩; have X1 := Lib.hid hx; have F1 := Lib.hid (hF); clear hx hF; rcases x1 with ⟨er, i⟩ | ⟨row1, r1, ns1⟩ <;> first | (have hz : e = .panicked [{ v := .iface 26 (.agg #[.int .i64 er, .int .i64 ((tokAt L E i).at_ : Int)]), recovered := false }] := hy; subst hz; clear hy) | (obtain ⟨rfl, hr1, hn1, hY, B1, nc1, hS⟩ := hy; have S1 := Lib.hid hS; have Y1 := Lib.hid hY; clear hS hY))
  · exact ⟨rfl, n1 + 1, .error (er, i), by rw [ex_test, X1.out]; rfl, F1.out, rfl⟩
  · have OP1 := Lib.hid (op_any 3 m w1 base q c E r1 o A L _ S1.out.pt S1.out.mo S1.out.hm S1.out.hq)
    have hfew1 := S1.out.few
    obtain ⟨⟨⟨y1, y2, y3⟩, isb⟩, hop⟩ : ∃ x, opX L E r1 3 = x := ⟨_, rfl⟩
    rw [hop] at OP1
    have OH : Hid (Calls Tryz.prog 162 #[.pointer (some ⟨q, 0, none⟩), .int .i64 3] w1 fun e w' => e = .returned (.tuple #[.agg #[.int .i64 (y1 : Int), .int .i64 (y2 : Int), .int .i64 (y3 : Int)], .bool isb]) ∧ Pt w' base q A c L E (.map (some m)) (.slice B1 ns1.length nc1) (if isb = true then r1 + 1 else r1) o ∧ Fq w1.heap.size q w1 w') := OP1
    have HOP := Lib.hid hop
    clear OP1 hop
    go_upto_region 3 with (go_at_call 162; refine OH.out.mono ?_; rintro e w2 ⟨rfl, hP, hF⟩; have S2 := Lib.hid (S1.out.read hP hF (by split <;> omega)); have F2 := Lib.hid (F1.out.trans (hF.mono S1.out.pt.le)); have Y2 := Lib.hid (Y1.out.trans (Fy.ofq hF)); clear hP hF)
    have AL : Below w2.heap.size w2 (w2.alloc (.cells #[.int .i64 (y1 : Int), .int .i64 (y2 : Int), .int .i64 (y3 : Int)] 111)) := (Below.refl _ _).alloc (Nat.le_refl _) _
    have S3 := Lib.hid (S2.out.on AL)
    have F3 := Lib.hid (F2.out.trans (Fq.of (q := q) AL S2.out.pt.le))
    have Y3 := Lib.hid (Y2.out.trans (Fy.of (q := q) AL))
    have K3 : Hid (Blk (w2.alloc (.cells #[.int .i64 (y1 : Int), .int .i64 (y2 : Int), .int .i64 (y3 : Int)] 111)) w2.heap.size 111 #[.int .i64 (y1 : Int), .int .i64 (y2 : Int), .int .i64 (y3 : Int)]) := Lib.hid (Blk.new _ _ _)
    have hkq : w2.heap.size ≠ q := by have := S2.out.pt.lt; have := S2.out.pt.le; omega
    clear AL S2 F2 Y2 OH C1
    generalize w2.heap.size = k3 at *
    generalize w2.alloc (.cells #[.int .i64 (y1 : Int), .int .i64 (y2 : Int), .int .i64 (y3 : Int)] 111) = w3 at *
    cases isb with
    | true =>
      have hrd : r1 + 1 ≤ L.length := S3.out.pt.rd
      go_upto_region 4 with fail
      have S4 := Lib.hid (S3.out.on (w' := w3.drew) ⟨rfl, rfl, rfl, Nat.le_refl _, fun _ _ => rfl⟩)
      have C5 := Lib.hid (HF.out w3.drew base q A c L E m (r1 + 1) o B1 nc1 ns1 S4.out (by omega) ho)
      have F3' := Lib.hid (F3.out.trans (Fq.drew base q 1 w3))
      replace Y3 : Hid (Fy q w w3.drew) := Lib.hid (Y3.out.trans (Fy.of (below_drewN' _ w3 1)))
      replace K3 : Hid (Blk w3.drew k3 111 #[.int .i64 (y1 : Int), .int .i64 (y2 : Int), .int .i64 (y3 : Int)]) := Lib.hid K3.out
      have u1 : w3.cell? ⟨k3, 1, none⟩ = some (.int .i64 (y2 : Int)) := K3.out.cell 1
      have u2 : w3.cell? ⟨k3, 2, none⟩ = some (.int .i64 (y3 : Int)) := K3.out.cell 2
      go_region_with (first
        | (go_at_call 170; refine C5.out.mono ?_; rintro e w5 ⟨n5, x5, hx, hF, hy⟩; have X5 := Lib.hid hx; have F5 := Lib.hid (F3'.out.trans hF); clear hx hF; rcases x5 with ⟨er, i⟩ | ⟨row5, r5, ns5⟩ <;> first | (have hz : e = .panicked [{ v := .iface 26 (.agg #[.int .i64 er, .int .i64 ((tokAt L E i).at_ : Int)]), recovered := false }] := hy; subst hz; exact ⟨rfl, max n1 n5 + 1, .error (er, i), by rw [ex_test, ex_mono L E n1 _ _ _ _ _ _ (Nat.le_max_left _ _) X1.out]; show (if (opX L E r1 3).2 = true then _ else _) = _; rw [HOP.out, if_pos rfl, ex_mono L E n5 _ _ _ _ _ _ (Nat.le_max_right _ _) X5.out]; rfl, F5.out, rfl⟩) | (obtain ⟨rfl, hr5, hn5, hY, B5, nc5, hS⟩ := hy; have S5 := Lib.hid hS; have K5 : Hid (Blk w5 k3 111 #[.int .i64 (y1 : Int), .int .i64 (y2 : Int), .int .i64 (y3 : Int)]) := Lib.hid (hY.keep k3 111 _ K3.out hkq (by decide)); have Y6 := Lib.hid (Y3.out.trans hY); have u1 : w5.cell? ⟨k3, 1, none⟩ = some (.int .i64 (y2 : Int)) := K5.out.cell 1; have u2 : w5.cell? ⟨k3, 2, none⟩ = some (.int .i64 (y3 : Int)) := K5.out.cell 2; clear hS hY))
        | (go_at_call 163; refine (show Calls Tryz.prog 163 #[.pointer (some ⟨q, 0, none⟩), .agg #[.int .i64 (y2 : Int), .int .i64 (y3 : Int), .int .i64 (row1 : Int), .int .i64 (row5 : Int), .string ⟨#[]⟩, .string ⟨#[]⟩, .int .i64 0, .int .i64 0, .string ⟨#[]⟩]] w5 _ from row_any (nd2 (y1, y2, y3) row1 row5) w5 base q c E r5 o ns5.length nc5 A B5 L _ ns5 S5.out.pt S5.out.nds (by have := S5.out.few; have := S5.out.pt.rd; have := S5.out.pt.many; omega)).mono ?_; rintro e w7 ⟨rfl, A2, c2, hP, hN2, hF, hY⟩; have S7 : Hid (St w7 base q A c L E m r5 o A2 c2 (ns5 ++ [nd2 (y1, y2, y3) row1 row5])) := Lib.hid ⟨by rw [List.length_append]; exact hP, by rw [List.length_append]; exact hN2, (hF.block m S5.out.hm S5.out.hq).trans S5.out.mo, S5.out.hm, S5.out.hq, by rw [List.length_append]; simp; omega⟩; have F7 := Lib.hid (F5.out.trans hF); have Y7 := Lib.hid (Y6.out.trans hY); clear hP hN2 hF hY))
      all_goals (try go_wp2_with fail)
      all_goals (try go_ret)
      all_goals exact ⟨max n1 n5 + 1, .ok (ns5.length, r5, ns5 ++ [nd2 (y1, y2, y3) row1 row5]), by rw [ex_test, ex_mono L E n1 _ _ _ _ _ _ (Nat.le_max_left _ _) X1.out]; show (if (opX L E r1 3).2 = true then _ else _) = _; rw [HOP.out, if_pos rfl, ex_mono L E n5 _ _ _ _ _ _ (Nat.le_max_right _ _) X5.out]; rfl, F7.out, rfl, by omega, by rw [List.length_append]; simp; omega, Y7.out, A2, c2, S7.out⟩
    | false =>
      replace S3 : Hid (St w3 base q A c L E m r1 o B1 nc1 ns1) := S3
      have FDI := Lib.hid (fun W (hP : Pt W base q A c L E (.map (some m)) (.slice B1 ns1.length nc1) r1 o) => found_any [73, 83] W base q c E r1 o A L _ _ hP)
      have FDN := Lib.hid (fun W (hP : Pt W base q A c L E (.map (some m)) (.slice B1 ns1.length nc1) (r1 + 1) o) => found_any [78, 79, 84] W base q c E (r1 + 1) o A L _ _ hP)
      have hmy1 := S3.out.pt.rd
      cases hI : isB (tokAt L E r1) [73, 83] with
      | false =>
        rw [hI] at FDI
        go_wp2_with (go_at_call 82; with_reducible refine (FDI.out _ S3.out.pt).mono ?_; rintro e w4 ⟨rfl, hP, hF⟩; have S4 := Lib.hid (S3.out.read (r' := r1) hP hF (by omega)); have F4 := Lib.hid (F3.out.trans (hF.mono S3.out.pt.le)); have Y4 := Lib.hid (Y3.out.trans (Fy.ofq hF)); clear hP hF)
        go_ret
        exact ⟨n1 + 1, .ok (row1, r1, ns1), by rw [ex_test, X1.out]; show (if (opX L E r1 3).2 = true then _ else if isB (tokAt L E r1) [73, 83] = true then _ else some (Except.ok (row1, r1, ns1)) : Rs) = _; rw [HOP.out, if_neg (by simp), if_neg (by rw [hI]; decide)], F4.out, rfl, hr1, hn1, Y4.out, B1, nc1, S4.out⟩
      | true =>
        rw [hI] at FDI
        cases hN0 : isB (tokAt L E (r1 + 1)) [78, 79, 84] with
        | false =>
          rw [hN0] at FDN
          have hN' : isB (tokAt L E (r1 + 1)) NOTs = false := hN0
          go_upto_region 10 with (first
            | (go_at_call 82; with_reducible refine (FDI.out _ S3.out.pt).mono ?_; rintro e w4 ⟨rfl, hP, hF⟩; have S4 := Lib.hid (S3.out.read (r' := r1 + 1) hP hF (by omega)); have F4 := Lib.hid (F3.out.trans (hF.mono S3.out.pt.le)); have Y4 := Lib.hid (Y3.out.trans (Fy.ofq hF)); clear hP hF)
            | (go_at_call 82; with_reducible refine (FDN.out _ S4.out.pt).mono ?_; rintro e w5 ⟨rfl, hP, hF⟩; have S5 := Lib.hid (S4.out.read (r' := r1 + 1) hP hF (by omega)); have F5 := Lib.hid (F4.out.trans (hF.mono S4.out.pt.le)); have Y5 := Lib.hid (Y4.out.trans (Fy.ofq hF)); clear hP hF))
          have AL : Below w5.heap.size w5 (w5.alloc (.cells #[.string ⟨#[78, 85, 76, 76]⟩] 9)) := (Below.refl _ _).alloc (Nat.le_refl _) _
          have S6 := Lib.hid (S5.out.on AL)
          have F6 := Lib.hid (F5.out.trans (Fq.of (q := q) AL S5.out.pt.le))
          have Y6 := Lib.hid (Y5.out.trans (Fy.of (q := q) AL))
          have hq5 : q < w5.heap.size := S5.out.pt.blk.lt
          have WD := words_any [[78, 85, 76, 76]] 1 w5.heap.size (w5.alloc (.cells #[.string ⟨#[78, 85, 76, 76]⟩] 9)) base q c E (r1 + 1) o A L _ _ S6.out.pt rfl (by omega) ⟨by simp, fun i hi => by
            obtain rfl : i = 0 := by simp at hi; omega
            exact (Blk.new w5 9 #[.string ⟨#[78, 85, 76, 76]⟩]).cell 0⟩ (by omega)
          unfold wordsF wordsF at WD
          have HW : wordsF L E (r1 + 1) [NULLs] = if isB (tokAt L E (r1 + 1)) [78, 85, 76, 76] = true then .ok ((r1 + 1) + 1) else .error (210, (r1 + 1)) := rfl
          clear AL
          cases hc : isB (tokAt L E (r1 + 1)) [78, 85, 76, 76] with
          | true =>
            rw [hc] at WD
            rw [hc, if_pos rfl] at HW
            have WH : Hid (Calls Tryz.prog 49 #[.pointer (some ⟨q, 0, none⟩), .slice (some ⟨w5.heap.size, 0, none⟩) 1 1] (w5.alloc (.cells #[.string ⟨#[78, 85, 76, 76]⟩] 9)) fun e w' => e = .returned (.tuple #[]) ∧ Pt w' base q A c L E (.map (some m)) (.slice B1 ns1.length nc1) ((r1 + 1) + 1) o ∧ Fq (w5.alloc (.cells #[.string ⟨#[78, 85, 76, 76]⟩] 9)).heap.size q (w5.alloc (.cells #[.string ⟨#[78, 85, 76, 76]⟩] 9)) w') := Lib.hid WD
            clear WD
            go_wp2_with (first
              | (go_at_call 49; refine WH.out.mono ?_; rintro e w8 ⟨rfl, hP, hF⟩; have S8 := Lib.hid (S6.out.read hP hF (by omega)); have F8 := Lib.hid (F6.out.trans (hF.mono S6.out.pt.le)); have Y8 := Lib.hid (Y6.out.trans (Fy.ofq hF)); clear hP hF)
              | (go_at_call 163; refine (show Calls Tryz.prog 163 #[.pointer (some ⟨q, 0, none⟩), .agg #[.int .i64 9, .int .i64 0, .int .i64 (row1 : Int), .int .i64 0, .string ⟨#[]⟩, .string ⟨#[]⟩, .int .i64 0, .int .i64 0, .string ⟨#[]⟩]] w8 _ from row_any (nd1 9 row1) w8 base q c E ((r1 + 1) + 1) o ns1.length nc1 A B1 L _ ns1 S8.out.pt S8.out.nds (by have := S8.out.few; have := S8.out.pt.rd; have := S8.out.pt.many; omega)).mono ?_; rintro e w9 ⟨rfl, A2, c2, hP, hN2, hF, hY⟩; have S9 : Hid (St w9 base q A c L E m ((r1 + 1) + 1) o A2 c2 (ns1 ++ [nd1 9 row1])) := Lib.hid ⟨by rw [List.length_append]; exact hP, by rw [List.length_append]; exact hN2, (hF.block m S8.out.hm S8.out.hq).trans S8.out.mo, S8.out.hm, S8.out.hq, by rw [List.length_append]; simp; omega⟩; have F9 := Lib.hid (F8.out.trans hF); have Y9 := Lib.hid (Y8.out.trans hY); clear hP hN2 hF hY))
            go_ret
            exact ⟨n1 + 1, .ok (ns1.length, (r1 + 1) + 1, ns1 ++ [nd1 9 row1]), by rw [ex_test, X1.out]; show (if (opX L E r1 3).2 = true then _ else if isB (tokAt L E r1) [73, 83] = true then _ else _ : Rs) = _; rw [HOP.out, if_neg (by simp), if_pos hI, hN']; simp only [Bool.false_eq_true, if_false]; rw [HW]; rfl, F9.out, rfl, by omega, by rw [List.length_append]; simp; omega, Y9.out, A2, c2, S9.out⟩
          | false =>
            rw [hc] at WD
            rw [hc, if_neg (by decide)] at HW
            have WH : Hid (Calls Tryz.prog 49 #[.pointer (some ⟨q, 0, none⟩), .slice (some ⟨w5.heap.size, 0, none⟩) 1 1] (w5.alloc (.cells #[.string ⟨#[78, 85, 76, 76]⟩] 9)) (Rd (w5.alloc (.cells #[.string ⟨#[78, 85, 76, 76]⟩] 9)) base q A c L E (.map (some m)) (.slice B1 ns1.length nc1) o (.error (210, (r1 + 1))))) := Lib.hid WD
            clear WD
            go_wp2_with (go_at_call 49; refine WH.out.mono ?_; rintro e w8 hR; obtain ⟨rfl, hF⟩ := Rd.err hR; have F8 := Lib.hid (F6.out.trans (hF.mono S6.out.pt.le)); clear hR hF)
            exact ⟨rfl, n1 + 1, .error (210, (r1 + 1)), by rw [ex_test, X1.out]; show (if (opX L E r1 3).2 = true then _ else if isB (tokAt L E r1) [73, 83] = true then _ else _ : Rs) = _; rw [HOP.out, if_neg (by simp), if_pos hI, hN']; simp only [Bool.false_eq_true, if_false]; rw [HW], F8.out, rfl⟩
        | true =>
          rw [hN0] at FDN
          have hN' : isB (tokAt L E (r1 + 1)) NOTs = true := hN0
          go_upto_region 10 with (first
            | (go_at_call 82; with_reducible refine (FDI.out _ S3.out.pt).mono ?_; rintro e w4 ⟨rfl, hP, hF⟩; have S4 := Lib.hid (S3.out.read (r' := r1 + 1) hP hF (by omega)); have F4 := Lib.hid (F3.out.trans (hF.mono S3.out.pt.le)); have Y4 := Lib.hid (Y3.out.trans (Fy.ofq hF)); clear hP hF)
            | (go_at_call 82; with_reducible refine (FDN.out _ S4.out.pt).mono ?_; rintro e w5 ⟨rfl, hP, hF⟩; have S5 := Lib.hid (S4.out.read (r' := r1 + 2) hP hF (by omega)); have F5 := Lib.hid (F4.out.trans (hF.mono S4.out.pt.le)); have Y5 := Lib.hid (Y4.out.trans (Fy.ofq hF)); clear hP hF))
          have AL : Below w5.heap.size w5 (w5.alloc (.cells #[.string ⟨#[78, 85, 76, 76]⟩] 9)) := (Below.refl _ _).alloc (Nat.le_refl _) _
          have S6 := Lib.hid (S5.out.on AL)
          have F6 := Lib.hid (F5.out.trans (Fq.of (q := q) AL S5.out.pt.le))
          have Y6 := Lib.hid (Y5.out.trans (Fy.of (q := q) AL))
          have hq5 : q < w5.heap.size := S5.out.pt.blk.lt
          have WD := words_any [[78, 85, 76, 76]] 1 w5.heap.size (w5.alloc (.cells #[.string ⟨#[78, 85, 76, 76]⟩] 9)) base q c E (r1 + 2) o A L _ _ S6.out.pt rfl (by omega) ⟨by simp, fun i hi => by
            obtain rfl : i = 0 := by simp at hi; omega
            exact (Blk.new w5 9 #[.string ⟨#[78, 85, 76, 76]⟩]).cell 0⟩ (by omega)
          unfold wordsF wordsF at WD
          have HW : wordsF L E (r1 + 2) [NULLs] = if isB (tokAt L E (r1 + 2)) [78, 85, 76, 76] = true then .ok ((r1 + 2) + 1) else .error (210, (r1 + 2)) := rfl
          clear AL
          cases hc : isB (tokAt L E (r1 + 2)) [78, 85, 76, 76] with
          | true =>
            rw [hc] at WD
            rw [hc, if_pos rfl] at HW
            have WH : Hid (Calls Tryz.prog 49 #[.pointer (some ⟨q, 0, none⟩), .slice (some ⟨w5.heap.size, 0, none⟩) 1 1] (w5.alloc (.cells #[.string ⟨#[78, 85, 76, 76]⟩] 9)) fun e w' => e = .returned (.tuple #[]) ∧ Pt w' base q A c L E (.map (some m)) (.slice B1 ns1.length nc1) ((r1 + 2) + 1) o ∧ Fq (w5.alloc (.cells #[.string ⟨#[78, 85, 76, 76]⟩] 9)).heap.size q (w5.alloc (.cells #[.string ⟨#[78, 85, 76, 76]⟩] 9)) w') := Lib.hid WD
            clear WD
            go_wp2_with (first
              | (go_at_call 49; refine WH.out.mono ?_; rintro e w8 ⟨rfl, hP, hF⟩; have S8 := Lib.hid (S6.out.read hP hF (by omega)); have F8 := Lib.hid (F6.out.trans (hF.mono S6.out.pt.le)); have Y8 := Lib.hid (Y6.out.trans (Fy.ofq hF)); clear hP hF)
              | (go_at_call 163; refine (show Calls Tryz.prog 163 #[.pointer (some ⟨q, 0, none⟩), .agg #[.int .i64 10, .int .i64 0, .int .i64 (row1 : Int), .int .i64 0, .string ⟨#[]⟩, .string ⟨#[]⟩, .int .i64 0, .int .i64 0, .string ⟨#[]⟩]] w8 _ from row_any (nd1 10 row1) w8 base q c E ((r1 + 2) + 1) o ns1.length nc1 A B1 L _ ns1 S8.out.pt S8.out.nds (by have := S8.out.few; have := S8.out.pt.rd; have := S8.out.pt.many; omega)).mono ?_; rintro e w9 ⟨rfl, A2, c2, hP, hN2, hF, hY⟩; have S9 : Hid (St w9 base q A c L E m ((r1 + 2) + 1) o A2 c2 (ns1 ++ [nd1 10 row1])) := Lib.hid ⟨by rw [List.length_append]; exact hP, by rw [List.length_append]; exact hN2, (hF.block m S8.out.hm S8.out.hq).trans S8.out.mo, S8.out.hm, S8.out.hq, by rw [List.length_append]; simp; omega⟩; have F9 := Lib.hid (F8.out.trans hF); have Y9 := Lib.hid (Y8.out.trans hY); clear hP hN2 hF hY))
            go_ret
            exact ⟨n1 + 1, .ok (ns1.length, (r1 + 2) + 1, ns1 ++ [nd1 10 row1]), by rw [ex_test, X1.out]; show (if (opX L E r1 3).2 = true then _ else if isB (tokAt L E r1) [73, 83] = true then _ else _ : Rs) = _; rw [HOP.out, if_neg (by simp), if_pos hI, hN']; simp only [if_pos]; rw [HW]; rfl, F9.out, rfl, by omega, by rw [List.length_append]; simp; omega, Y9.out, A2, c2, S9.out⟩
          | false =>
            rw [hc] at WD
            rw [hc, if_neg (by decide)] at HW
            have WH : Hid (Calls Tryz.prog 49 #[.pointer (some ⟨q, 0, none⟩), .slice (some ⟨w5.heap.size, 0, none⟩) 1 1] (w5.alloc (.cells #[.string ⟨#[78, 85, 76, 76]⟩] 9)) (Rd (w5.alloc (.cells #[.string ⟨#[78, 85, 76, 76]⟩] 9)) base q A c L E (.map (some m)) (.slice B1 ns1.length nc1) o (.error (210, (r1 + 2))))) := Lib.hid WD
            clear WD
            go_wp2_with (go_at_call 49; refine WH.out.mono ?_; rintro e w8 hR; obtain ⟨rfl, hF⟩ := Rd.err hR; have F8 := Lib.hid (F6.out.trans (hF.mono S6.out.pt.le)); clear hR hF)
            exact ⟨rfl, n1 + 1, .error (210, (r1 + 2)), by rw [ex_test, X1.out]; show (if (opX L E r1 3).2 = true then _ else if isB (tokAt L E r1) [73, 83] = true then _ else _ : Rs) = _; rw [HOP.out, if_neg (by simp), if_pos hI, hN']; simp only [if_pos]; rw [HW], F8.out, rfl⟩
end Go.Proofs.YtiipglmbfgmbbaaGreatDoor

namespace Go.Proofs.YtiipglmbfgmbbaaGreatDoor
open Go.RowKit Go.Shelf
attribute [local go_sem] Oper.semAt_some

theorem lv_none (lv : Lv) (f : Nat) : LvOk 0 lv f := by
  intro w base q A c L E m r o B nc ns h hN ho
  have := h.pt.rd
  omega
theorem levels (N : Nat) : LvOk N .or 139 ∧ LvOk N .not 164 ∧ LvOk N .minus 172 := by
  induction N with
  | zero => exact ⟨lv_none _ _, lv_none _ _, lv_none _ _⟩
  | succ N ih =>
    have h1 := single_lv N ih.1
    have h2 := minus_lv N ih.2.2 h1
    have h3 := test_lv (N + 1) (sum_lv (N + 1) (prod_lv (N + 1) h2))
    have h4 := not_lv N ih.2.1 h3
    exact ⟨or_lv _ (and_lv _ h4), h4, h2⟩
/-- An expression, read. -/
theorem or_any (w : World) (base q : Nat) (A : Option Addr) (c : Nat) (L : List Tk) (E m r o : Nat) (B : Option Addr) (nc : Nat) (ns : List Nd) (h : St w base q A c L E m r o B nc ns) (ho : o ≤ 16) : Calls Tryz.prog 139 #[.pointer (some ⟨q, 0, none⟩)] w (Out w base q A c L E m r o ns (.lv .or)) :=
  (levels (L.length + 1)).1 w base q A c L E m r o B nc ns h (by omega) ho
end Go.Proofs.YtiipglmbfgmbbaaGreatDoor
