/-
  Whether two messages are the same: the document's Same.
-/
import Derived.Test.YtemfnckaehjhcaaDoorFG5
import Derived.Test.YtemfnckaehjhcaaDoorFX
namespace Go.Proofs.YtemfnckaehjhcaaDoor
open Go.RowKit
attribute [local go_sem ↓] eqA neA eqGA field1

theorem ms_ne (a b : Ms) (h : a.kind ≠ b.kind ∨ a.fr ≠ b.fr ∨ a.to ≠ b.to ∨ a.t ≠ b.t ∨ Eqa a.pi a.pt b.pi b.pt = false ∨ a.co ≠ b.co ∨ a.ok ≠ b.ok ∨ a.mem ≠ b.mem ∨ decide (a.es = b.es) = false ∨ (a.da == b.da) = false) : decide (a = b) = false := by
  apply decide_eq_false
  rintro rfl
  rcases h with h | h | h | h | h | h | h | h | h | h
  · exact h rfl
  · exact h rfl
  · exact h rfl
  · exact h rfl
  · simp [Eqa] at h
  · exact h rfl
  · exact h rfl
  · exact h rfl
  · simp at h
  · simp at h
theorem ms_same (a b : Ms) (h0 : a.kind = b.kind) (h1 : a.fr = b.fr) (h2 : a.to = b.to) (h3 : a.t = b.t) (h4 : Eqa a.pi a.pt b.pi b.pt = true) (h5 : a.co = b.co) (h6 : a.ok = b.ok) (h7 : a.mem = b.mem) (h8 : decide (a.es = b.es) = true) (h9 : (a.da == b.da) = true) : decide (a = b) = true := by
  apply decide_eq_true
  obtain ⟨k, f, t, u, p, q, es, co, ok, me, da⟩ := a
  obtain ⟨k', f', t', u', p', q', es', co', ok', me', da'⟩ := b
  simp only [Eqa, decide_eq_true_eq, beq_iff_eq] at h0 h1 h2 h3 h4 h5 h6 h7 h8 h9
  obtain ⟨h4, h4'⟩ := h4
  subst h0 h1 h2 h3 h4 h4' h5 h6 h7 h8 h9
  rfl

set_option maxRecDepth 100000 in
set_option maxHeartbeats 40000000 in
theorem refmsame_any (a b : Ms) (xA : Option Addr) (xn xc : Nat) (xA1 : Option Addr) (xn1 xc1 : Nat) (xA2 : Option Addr) (xn2 xc2 : Nat) (yA : Option Addr) (yn yc : Nat) (yA1 : Option Addr) (yn1 yc1 : Nat) (yA2 : Option Addr) (yn2 yc2 : Nat) (B : Nat) (w : World) (h : Mr w B a xA xn xc xA1 xn1 xc1 xA2 xn2 xc2) (h' : Mr w B b yA yn yc yA1 yn1 yc1 yA2 yn2 yc2) (hB : B ≤ w.heap.size) :
    Calls Tryd.prog 15 #[.agg #[.int .i64 a.kind, .int .i64 a.fr, .int .i64 a.to, .int .u64 a.t, .int .u64 a.pi, .int .u64 a.pt, .slice xA xn xc, .int .u64 a.co, .bool a.ok, .slice xA1 xn1 xc1, .slice xA2 xn2 xc2], .agg #[.int .i64 b.kind, .int .i64 b.fr, .int .i64 b.to, .int .u64 b.t, .int .u64 b.pi, .int .u64 b.pt, .slice yA yn yc, .int .u64 b.co, .bool b.ok, .slice yA1 yn1 yc1, .slice yA2 yn2 yc2]] w fun e w' => e = .returned (.bool (decide (a = b))) ∧ Below w.heap.size w w' := by
  have SE := Lib.hid (fun W (hW : Below w.heap.size w W) => sameentries_any xA yA xn yn xc yc B a.es b.es W (h.es.below (hW.mono hB)) (h'.es.below (hW.mono hB)) (Nat.le_trans hB hW.size) (by have := h.n; omega))
  have SB := Lib.hid (fun W (hW : Below w.heap.size w W) => same_any xA2 yA2 xn2 xc2 yn2 yc2 a.da b.da W B B (h.da.below (hW.mono hB)) (h'.da.below (hW.mono hB)) (by have := h.n2; omega) (by have := h'.n2; omega))
  have IX : Hid (∀ W, Below w.heap.size w W → Is W w.heap.size xA1 xn1 a.mem) := Lib.hid (fun W hW => (h.mem.below (hW.mono hB)).more hB)
  have IY : Hid (∀ W, Below w.heap.size w W → Is W w.heap.size yA1 yn1 b.mem) := Lib.hid (fun W hW => (h'.mem.below (hW.mono hB)).more hB)
  have hl := Lib.hid h.mem.1
  have hl' := Lib.hid h'.mem.1
  have hnn := h.n1
  have NE := Lib.hid (ms_ne a b)
  have EQ := Lib.hid (ms_same a b)
  clear h h'
  generalize decide (a = b) = R at *
  obtain ⟨xkind, xfr, xto, xt, xpi, xpt, xes, xco, xok, xmem, xda⟩ := a
  obtain ⟨ykind, yfr, yto, yt, ypi, ypt, yes, yco, yok, ymem, yda⟩ := b
  simp only at SE SB IX IY hl hl' NE EQ ⊢
  have X := Lib.hid (Bt.new_ w xkind xfr xto xt xpi xpt xco xok xA xn xc xA1 xn1 xc1 xA2 xn2 xc2 ykind yfr yto yt ypi ypt yco yok yA yn yc yA1 yn1 yc1 yA2 yn2 yc2)
  by_cases h0 : xkind = ykind
  rotate_left
  · have hR := Lib.hid (NE.out (.inl h0))
    have n0 : (xkind != ykind) = true := by simpa using h0
    clear SE SB IX IY EQ NE
    clear h0
    go_enter Tryd.func15, Tryd.ntmps15
    go_upto_region 1 with (fail)
    generalize (w.alloc (.cells #[.int .i64 xkind, .int .i64 xfr, .int .i64 xto, .int .u64 xt, .int .u64 xpi, .int .u64 xpt, .slice xA xn xc, .int .u64 xco, .bool xok, .slice xA1 xn1 xc1, .slice xA2 xn2 xc2] 31)).alloc (.cells #[.int .i64 ykind, .int .i64 yfr, .int .i64 yto, .int .u64 yt, .int .u64 ypi, .int .u64 ypt, .slice yA yn yc, .int .u64 yco, .bool yok, .slice yA1 yn1 yc1, .slice yA2 yn2 yc2] 31) = W at *
    have D0 := X.out
    clear X
    obtain ⟨d0, d1, d2, d3, d4, d5, d6, d7, d8, d9, d10, d11, d12, d13, d14, d15, d16, d17, d18, d19, d20, d21⟩ := D0.cells
    go_wp2_with (fail)
    go_ret
    exact ⟨by rw [hR.out]; rfl, D0.bel⟩
  subst h0
  have n0 : (xkind != xkind) = false := by simp
  by_cases h1 : xfr = yfr
  rotate_left
  · have hR := Lib.hid (NE.out (.inr (.inl h1)))
    have n1 : (xfr != yfr) = true := by simpa using h1
    clear SE SB IX IY EQ NE
    clear h1
    go_enter Tryd.func15, Tryd.ntmps15
    go_upto_region 1 with (fail)
    generalize (w.alloc (.cells #[.int .i64 xkind, .int .i64 xfr, .int .i64 xto, .int .u64 xt, .int .u64 xpi, .int .u64 xpt, .slice xA xn xc, .int .u64 xco, .bool xok, .slice xA1 xn1 xc1, .slice xA2 xn2 xc2] 31)).alloc (.cells #[.int .i64 xkind, .int .i64 yfr, .int .i64 yto, .int .u64 yt, .int .u64 ypi, .int .u64 ypt, .slice yA yn yc, .int .u64 yco, .bool yok, .slice yA1 yn1 yc1, .slice yA2 yn2 yc2] 31) = W at *
    have D0 := X.out
    clear X
    obtain ⟨d0, d1, d2, d3, d4, d5, d6, d7, d8, d9, d10, d11, d12, d13, d14, d15, d16, d17, d18, d19, d20, d21⟩ := D0.cells
    go_wp2_with (fail)
    go_ret
    exact ⟨by rw [hR.out]; rfl, D0.bel⟩
  subst h1
  have n1 : (xfr != xfr) = false := by simp
  by_cases h2 : xto = yto
  rotate_left
  · have hR := Lib.hid (NE.out (.inr (.inr (.inl h2))))
    have n2 : (xto != yto) = true := by simpa using h2
    clear SE SB IX IY EQ NE
    clear h2
    go_enter Tryd.func15, Tryd.ntmps15
    go_upto_region 1 with (fail)
    generalize (w.alloc (.cells #[.int .i64 xkind, .int .i64 xfr, .int .i64 xto, .int .u64 xt, .int .u64 xpi, .int .u64 xpt, .slice xA xn xc, .int .u64 xco, .bool xok, .slice xA1 xn1 xc1, .slice xA2 xn2 xc2] 31)).alloc (.cells #[.int .i64 xkind, .int .i64 xfr, .int .i64 yto, .int .u64 yt, .int .u64 ypi, .int .u64 ypt, .slice yA yn yc, .int .u64 yco, .bool yok, .slice yA1 yn1 yc1, .slice yA2 yn2 yc2] 31) = W at *
    have D0 := X.out
    clear X
    obtain ⟨d0, d1, d2, d3, d4, d5, d6, d7, d8, d9, d10, d11, d12, d13, d14, d15, d16, d17, d18, d19, d20, d21⟩ := D0.cells
    go_wp2_with (fail)
    go_ret
    exact ⟨by rw [hR.out]; rfl, D0.bel⟩
  subst h2
  have n2 : (xto != xto) = false := by simp
  by_cases h3 : xt = yt
  rotate_left
  · have hR := Lib.hid (NE.out (.inr (.inr (.inr (.inl h3)))))
    have n3 : (xt != yt) = true := by simpa using h3
    clear SE SB IX IY EQ NE
    clear h3
    go_enter Tryd.func15, Tryd.ntmps15
    go_upto_region 1 with (fail)
    generalize (w.alloc (.cells #[.int .i64 xkind, .int .i64 xfr, .int .i64 xto, .int .u64 xt, .int .u64 xpi, .int .u64 xpt, .slice xA xn xc, .int .u64 xco, .bool xok, .slice xA1 xn1 xc1, .slice xA2 xn2 xc2] 31)).alloc (.cells #[.int .i64 xkind, .int .i64 xfr, .int .i64 xto, .int .u64 yt, .int .u64 ypi, .int .u64 ypt, .slice yA yn yc, .int .u64 yco, .bool yok, .slice yA1 yn1 yc1, .slice yA2 yn2 yc2] 31) = W at *
    have D0 := X.out
    clear X
    obtain ⟨d0, d1, d2, d3, d4, d5, d6, d7, d8, d9, d10, d11, d12, d13, d14, d15, d16, d17, d18, d19, d20, d21⟩ := D0.cells
    go_wp2_with (fail)
    go_ret
    exact ⟨by rw [hR.out]; rfl, D0.bel⟩
  subst h3
  have n3 : (xt != xt) = false := by simp
  rcases hp : Eqa xpi xpt ypi ypt with _ | _
  · have hR := Lib.hid (NE.out (.inr (.inr (.inr (.inr (.inl hp))))))
    have n4 : (!Eqa xpi xpt ypi ypt) = true := by rw [hp]; rfl
    clear SE SB IX IY EQ NE
    go_enter Tryd.func15, Tryd.ntmps15
    go_upto_region 1 with (fail)
    generalize (w.alloc (.cells #[.int .i64 xkind, .int .i64 xfr, .int .i64 xto, .int .u64 xt, .int .u64 xpi, .int .u64 xpt, .slice xA xn xc, .int .u64 xco, .bool xok, .slice xA1 xn1 xc1, .slice xA2 xn2 xc2] 31)).alloc (.cells #[.int .i64 xkind, .int .i64 xfr, .int .i64 xto, .int .u64 xt, .int .u64 ypi, .int .u64 ypt, .slice yA yn yc, .int .u64 yco, .bool yok, .slice yA1 yn1 yc1, .slice yA2 yn2 yc2] 31) = W at *
    have D0 := X.out
    clear X
    obtain ⟨d0, d1, d2, d3, d4, d5, d6, d7, d8, d9, d10, d11, d12, d13, d14, d15, d16, d17, d18, d19, d20, d21⟩ := D0.cells
    go_wp2_with (fail)
    go_ret
    exact ⟨by rw [hR.out]; rfl, D0.bel⟩
  · have n4 : (!Eqa xpi xpt ypi ypt) = false := by rw [hp]; rfl
    by_cases h5 : xco = yco
    rotate_left
    · have hR := Lib.hid (NE.out (.inr (.inr (.inr (.inr (.inr (.inl h5)))))))
      have n5 : (xco != yco) = true := by simpa using h5
      clear SE SB IX IY EQ NE
      clear h5
      go_enter Tryd.func15, Tryd.ntmps15
      go_upto_region 1 with (fail)
      generalize (w.alloc (.cells #[.int .i64 xkind, .int .i64 xfr, .int .i64 xto, .int .u64 xt, .int .u64 xpi, .int .u64 xpt, .slice xA xn xc, .int .u64 xco, .bool xok, .slice xA1 xn1 xc1, .slice xA2 xn2 xc2] 31)).alloc (.cells #[.int .i64 xkind, .int .i64 xfr, .int .i64 xto, .int .u64 xt, .int .u64 ypi, .int .u64 ypt, .slice yA yn yc, .int .u64 yco, .bool yok, .slice yA1 yn1 yc1, .slice yA2 yn2 yc2] 31) = W at *
      have D0 := X.out
      clear X
      obtain ⟨d0, d1, d2, d3, d4, d5, d6, d7, d8, d9, d10, d11, d12, d13, d14, d15, d16, d17, d18, d19, d20, d21⟩ := D0.cells
      go_wp2_with (fail)
      go_ret
      exact ⟨by rw [hR.out]; rfl, D0.bel⟩
    subst h5
    have n5 : (xco != xco) = false := by simp
    by_cases h6 : xok = yok
    rotate_left
    · have hR := Lib.hid (NE.out (.inr (.inr (.inr (.inr (.inr (.inr (.inl h6))))))))
      have n6 : (xok != yok) = true := by revert h6; cases xok <;> cases yok <;> simp
      clear SE SB IX IY EQ NE
      go_enter Tryd.func15, Tryd.ntmps15
      go_upto_region 1 with (fail)
      generalize (w.alloc (.cells #[.int .i64 xkind, .int .i64 xfr, .int .i64 xto, .int .u64 xt, .int .u64 xpi, .int .u64 xpt, .slice xA xn xc, .int .u64 xco, .bool xok, .slice xA1 xn1 xc1, .slice xA2 xn2 xc2] 31)).alloc (.cells #[.int .i64 xkind, .int .i64 xfr, .int .i64 xto, .int .u64 xt, .int .u64 ypi, .int .u64 ypt, .slice yA yn yc, .int .u64 xco, .bool yok, .slice yA1 yn1 yc1, .slice yA2 yn2 yc2] 31) = W at *
      have D0 := X.out
      clear X
      obtain ⟨d0, d1, d2, d3, d4, d5, d6, d7, d8, d9, d10, d11, d12, d13, d14, d15, d16, d17, d18, d19, d20, d21⟩ := D0.cells
      go_wp2_with (fail)
      go_ret
      exact ⟨by rw [hR.out]; rfl, D0.bel⟩
    subst h6
    have n6 : (xok != xok) = false := by simp
    by_cases h7 : xn1 = yn1
    rotate_left
    · have hR := Lib.hid (NE.out (.inr (.inr (.inr (.inr (.inr (.inr (.inr (.inl (fun e => h7 (hl.out.symm.trans ((congrArg List.length e).trans hl'.out))))))))))))
      have n7 : ((xn1 : Int) != (yn1 : Int)) = true := by simp; omega
      clear SE SB IX IY EQ NE
      clear h7
      go_enter Tryd.func15, Tryd.ntmps15
      go_upto_region 1 with (fail)
      generalize (w.alloc (.cells #[.int .i64 xkind, .int .i64 xfr, .int .i64 xto, .int .u64 xt, .int .u64 xpi, .int .u64 xpt, .slice xA xn xc, .int .u64 xco, .bool xok, .slice xA1 xn1 xc1, .slice xA2 xn2 xc2] 31)).alloc (.cells #[.int .i64 xkind, .int .i64 xfr, .int .i64 xto, .int .u64 xt, .int .u64 ypi, .int .u64 ypt, .slice yA yn yc, .int .u64 xco, .bool xok, .slice yA1 yn1 yc1, .slice yA2 yn2 yc2] 31) = W at *
      have D0 := X.out
      clear X
      obtain ⟨d0, d1, d2, d3, d4, d5, d6, d7, d8, d9, d10, d11, d12, d13, d14, d15, d16, d17, d18, d19, d20, d21⟩ := D0.cells
      go_wp2_with (fail)
      go_ret
      exact ⟨by rw [hR.out]; rfl, D0.bel⟩
    subst h7
    have n7 : ((xn1 : Int) != (xn1 : Int)) = false := by simp
    have HP := Lib.hid hp
    clear hp
    go_enter Tryd.func15, Tryd.ntmps15
    go_upto_region 1 with (fail)
    generalize (w.alloc (.cells #[.int .i64 xkind, .int .i64 xfr, .int .i64 xto, .int .u64 xt, .int .u64 xpi, .int .u64 xpt, .slice xA xn xc, .int .u64 xco, .bool xok, .slice xA1 xn1 xc1, .slice xA2 xn2 xc2] 31)).alloc (.cells #[.int .i64 xkind, .int .i64 xfr, .int .i64 xto, .int .u64 xt, .int .u64 ypi, .int .u64 ypt, .slice yA yn yc, .int .u64 xco, .bool xok, .slice yA1 xn1 yc1, .slice yA2 yn2 yc2] 31) = W at *
    have D0 := X.out
    clear X
    obtain ⟨d0, d1, d2, d3, d4, d5, d6, d7, d8, d9, d10, d11, d12, d13, d14, d15, d16, d17, d18, d19, d20, d21⟩ := D0.cells
    go_upto_region 4 with (fail)
    go_loopw [68] (fun i wr => ∃ k : Nat, k ≤ xn1 ∧ i = .int .i64 k ∧ Hid (xmem.take k = ymem.take k) ∧ ∃ q, wr = W.drewN q) (fun i _ => xn1 - (intOf i).toNat)
    case atStart => exact ⟨0, Nat.zero_le _, rfl, rfl, 0, rfl⟩
    case round =>
      obtain ⟨k, hk, rfl, hs, q, rfl⟩ := hrel
      by_cases hlt : k < xn1
      · obtain ⟨b, o, rfl, hb, hc⟩ := (IX.out W D0.bel).2 (by omega)
        obtain ⟨b', o', rfl, hb', hc'⟩ := (IY.out W D0.bel).2 (by omega)
        have c1 := hc k hlt
        have c2 := hc' k hlt
        have k0 : (0 : Int) ≤ k := by omega
        clear hc hc'
        by_cases he : xmem.getD k 0 = ymem.getD k 0
        · have hst := Lib.hid (same_step hs.out (by rw [hl.out]; exact hlt) (by rw [hl'.out]; exact hlt) he)
          rw [he] at c1
          generalize ymem.getD k 0 = z at c1 c2
          clear he
          have hz : (z != z) = false := by simp
          go_wp2
          go_quiet (fail)
          go_wp2
          go_roundw
          case rel => exact ⟨k + 1, by omega, by go_num, hst.out, _, rfl⟩
          case measure => simp [intOf]; omega
        · have hf := Lib.hid (NE.out (.inr (.inr (.inr (.inr (.inr (.inr (.inr (.inl (by rintro rfl; exact he rfl))))))))))
          have hz : (xmem.getD k 0 != ymem.getD k 0) = true := by simpa using he
          generalize xmem.getD k 0 = z at c1 hz
          generalize ymem.getD k 0 = y at c2 hz
          clear he
          go_wp2
          go_quiet (fail)
          go_wp2
          go_ret
          exact ⟨by rw [hf.out]; rfl, below_drewN (below_drewN D0.bel _) _⟩
      · have ht : Hid (xmem = ymem) := by
          have := hs.out
          rw [List.take_of_length_le (by rw [hl.out]; omega), List.take_of_length_le (by rw [hl'.out]; omega)] at this
          exact this
        have D1 := D0.drewN q
        generalize W.drewN q = W1 at *
        clear d0 d1 d2 d3 d4 d5 d6 d7 d8 d9 d10 d11 d12 d13 d14 d15 d16 d17 d18 d19 d20 d21
        obtain ⟨d0, d1, d2, d3, d4, d5, d6, d7, d8, d9, d10, d11, d12, d13, d14, d15, d16, d17, d18, d19, d20, d21⟩ := D1.cells
        obtain ⟨E, hE⟩ : ∃ E, decide (xes = yes) = E := ⟨_, rfl⟩
        obtain ⟨F, hF⟩ : ∃ F, (xda == yda) = F := ⟨_, rfl⟩
        rw [hE] at SE
        rw [hF] at SB
        have NE8 : Hid (E = false → R = false) := Lib.hid (fun e => NE.out (.inr (.inr (.inr (.inr (.inr (.inr (.inr (.inr (.inl (hE.trans e)))))))))))
        have NE9 : Hid (F = false → R = false) := Lib.hid (fun e => NE.out (.inr (.inr (.inr (.inr (.inr (.inr (.inr (.inr (.inr (hF.trans e)))))))))))
        have EQ9 : Hid (E = true → F = true → R = true) := Lib.hid (fun e f => EQ.out (by first | rfl | trivial) (by first | rfl | trivial) (by first | rfl | trivial) (by first | rfl | trivial) HP.out (by first | rfl | trivial) (by first | rfl | trivial) ht.out (hE.trans e) (hF.trans f))
        clear hE hF NE EQ HP
        cases E with
        | false =>
          go_wp2_with (go_at_call 38; refine (SE.out _ D1.bel).mono ?_; rintro e w1 ⟨rfl, hb⟩; have D2 := Lib.hid (D1.on (hb.mono (Nat.le_refl _))); clear hb)
          go_ret
          exact ⟨by rw [NE8.out (by first | rfl | trivial)]; rfl, D2.out.bel⟩
        | true =>
          go_wp2_with (first
            | (go_at_call 38; refine (SE.out _ D1.bel).mono ?_; rintro e w1 ⟨rfl, hb⟩; have D2 := Lib.hid (D1.on hb); clear hb; clear d0 d1 d2 d3 d4 d5 d6 d7 d8 d9 d10 d11 d12 d13 d14 d15 d16 d17 d18 d19 d20 d21; obtain ⟨d0, d1, d2, d3, d4, d5, d6, d7, d8, d9, d10, d11, d12, d13, d14, d15, d16, d17, d18, d19, d20, d21⟩ := D2.out.cells)
            | (go_at_call 13; refine (SB.out _ D2.out.bel).mono ?_; rintro e w2 ⟨rfl, q2, rfl⟩))
          go_ret
          cases F with
          | false => exact ⟨by rw [NE9.out (by first | rfl | trivial)]; rfl, below_drewN D2.out.bel _⟩
          | true => exact ⟨by rw [EQ9.out (by first | rfl | trivial) (by first | rfl | trivial)]; rfl, below_drewN D2.out.bel _⟩

end Go.Proofs.YtemfnckaehjhcaaDoor
