/-
  Several texts in one: P16, P17.
-/
import Derived.Test.YtiipglmbfgmbbaaGreatDoorPkJ
namespace Go.Proofs.YtiipglmbfgmbbaaGreatDoor
open Go.RowKit Go.Shelf
attribute [local go_sem] Oper.semAt_some

theorem field50_0t (t : Tk) (W : World) : (Instr.field 50 (.agg #[.int .i64 t.kind, tx t.text, .int .i64 t.num, .int .i64 (t.at_ : Int), .int .i64 (t.to_ : Int)]) 0).run Tryz.prog W = .ok (.int .i64 t.kind) W := by kernel_rfl
theorem field50_2t (t : Tk) (W : World) : (Instr.field 50 (.agg #[.int .i64 t.kind, tx t.text, .int .i64 t.num, .int .i64 (t.at_ : Int), .int .i64 (t.to_ : Int)]) 2).run Tryz.prog W = .ok (.int .i64 t.num) W := by kernel_rfl
set_option maxRecDepth 100000 in
set_option maxHeartbeats 8000000 in
theorem value_any (w : World) (base q c E r o : Nat) (A : Option Addr) (L : List Tk) (M V : Value) (h : Pt w base q A c L E M V r o) :
    Calls Tryz.prog 174 #[.pointer (some ⟨q, 0, none⟩)] w (Rd w base q A c L E M V o ((valF L E r).map fun p => (.agg #[.int .i64 p.1.1, .int .i64 p.1.2.1, tx p.1.2.2], p.2))) := by
  obtain ⟨g, hg⟩ : ∃ g, w.heap.size = g := ⟨_, rfl⟩
  have b0 : Hid (Blk (w.alloc (.cells #[.int .i64 0, .int .i64 0, .string ⟨#[]⟩] 107)) g 107 #[.int .i64 0, .int .i64 0, .string ⟨#[]⟩]) := Lib.hid (by rw [← hg]; exact Blk.new _ _ _)
  have h0 : Hid (Below g w (w.alloc (.cells #[.int .i64 0, .int .i64 0, .string ⟨#[]⟩] 107))) := Lib.hid (by rw [← hg]; exact (Below.refl _ _).alloc (Nat.le_refl _) _)
  have PH := Lib.hid (h.on (h0.out.mono (by omega)))
  have hle := h.le
  have hlt := h.lt
  have hz : (w.alloc (.cells #[.int .i64 0, .int .i64 0, .string ⟨#[]⟩] 107)).heap.size = g + 1 := by simp [hg]
  have NX := next_any _ base q c E r o A L M V PH.out
  have OX := Lib.hid (fun k (hk : k ≠ 0) W (hP : Pt W base q A c L E M V r o) => one_any k hk W base q c E r o A L M V hP)
  have FDT := Lib.hid (fun W (hP : Pt W base q A c L E M V r o) => found_any [84, 82, 85, 69] W base q c E r o A L M V hP)
  have FDF := Lib.hid (fun W (hP : Pt W base q A c L E M V r o) => found_any [70, 65, 76, 83, 69] W base q c E r o A L M V hP)
  have FDN := Lib.hid (fun W (hP : Pt W base q A c L E M V r o) => found_any [78, 85, 76, 76] W base q c E r o A L M V hP)
  unfold valF
  unfold oneF at OX
  clear h
  obtain ⟨t, ht⟩ : ∃ t, tokAt L E r = t := ⟨_, rfl⟩
  have HT := Lib.hid ht
  rw [ht] at NX OX FDT FDF FDN ⊢
  have FL0 := field50_0t t
  have FL1 := field50_1t t
  have FL2 := field50_2t t
  have NH : Hid (Calls Tryz.prog 110 #[.pointer (some ⟨q, 0, none⟩)] (w.alloc (.cells #[.int .i64 0, .int .i64 0, .string ⟨#[]⟩] 107)) fun e w' => e = .returned (.agg #[.int .i64 t.kind, tx t.text, .int .i64 t.num, .int .i64 (t.at_ : Int), .int .i64 (t.to_ : Int)]) ∧ Below (w.alloc (.cells #[.int .i64 0, .int .i64 0, .string ⟨#[]⟩] 107)).heap.size (w.alloc (.cells #[.int .i64 0, .int .i64 0, .string ⟨#[]⟩] 107)) w') := Lib.hid NX
  clear NX ht
  cases h4 : (t.kind == 4) with
  | true =>
    have OH : Hid (∀ W, Pt W base q A c L E M V r o → Calls Tryz.prog 114 #[.pointer (some ⟨q, 0, none⟩), .int .i64 4] W fun e w' => e = .returned (.agg #[.int .i64 t.kind, tx t.text, .int .i64 t.num, .int .i64 (t.at_ : Int), .int .i64 (t.to_ : Int)]) ∧ Pt w' base q A c L E M V (r + 1) o ∧ Fq W.heap.size q W w') := Lib.hid (fun W hP => by have := OX.out 4 (by decide) W hP; rw [h4] at this; exact this)
    go_enter Tryz.func174, Tryz.ntmps174
    go_upto_region 1 with fail
    generalize w.alloc (.cells #[.int .i64 0, .int .i64 0, .string ⟨#[]⟩] 107) = w1 at *
    go_wp2_with (first
      | (go_at_call 110; refine NH.out.mono ?_; rintro e w2 ⟨rfl, hb⟩; have P2 := Lib.hid (PH.out.on hb); have B2 : Hid (Blk w2 g 107 #[.int .i64 0, .int .i64 0, .string ⟨#[]⟩]) := Lib.hid (b0.out.below hb b0.out.lt); have F2 := Lib.hid ((Fq.of (q := q) h0.out (Nat.le_refl g)).trans (Fq.of (q := q) hb (by omega))); clear hb)
      | (go_at_call 114; refine (OH.out _ P2.out).mono ?_; rintro e w3 ⟨rfl, hP, hF⟩; have P3 := Lib.hid hP; have B3 : Hid (Blk w3 g 107 #[.int .i64 0, .int .i64 0, .string ⟨#[]⟩]) := Lib.hid ((Fy.ofq hF).keep g 107 _ B2.out (by omega) (by decide)); have F3 := Lib.hid (F2.out.trans (hF.mono (by have := B2.out.lt; omega))); clear hP hF)
      | (go_at_call 175; refine (vtext_any t.text _).mono ?_; rintro e w4 ⟨rfl, hb⟩; have P4 := Lib.hid (P3.out.on hb); have B4 : Hid (Blk w4 g 107 #[.int .i64 0, .int .i64 0, .string ⟨#[]⟩]) := Lib.hid (B3.out.below hb B3.out.lt); have F4 := Lib.hid (F3.out.trans (Fq.of (q := q) hb (by have := B3.out.lt; omega))); clear hb)
      | ((with_reducible refine at_store (t := 107) ?_); refine wpList_store_blk _ rfl 107 _ _ rfl g _ 107 [.int .i64 4, .int .i64 0, tx t.text] rfl rfl B4.out rfl Tryz.i107 (by simp [Value.oneCell']) ?_; intro w8 hb8 ho8; have X8 := Lib.hid hb8; have P8 := Lib.hid (P4.out.keep (ho8.below (by omega))); have F8 := Lib.hid (F4.out.trans (Fq.of (q := q) (ho8.below (Nat.le_refl g)) (Nat.le_refl g))); clear hb8 ho8))
    exact bodyPost_ret (ret_cell1_tmp rfl _ _ g 107 _ _ rfl X8.out Tryz.underlying107 rfl Tryz.i107) rfl ⟨rfl, P8.out, by rw [hg]; exact F8.out⟩
  | false =>
    rw [if_neg (by decide)]
    cases hT : isB t [84, 82, 85, 69] with
    | true =>
      rw [hT] at FDT
      rw [if_pos rfl]
      go_enter Tryz.func174, Tryz.ntmps174
      go_upto_region 1 with fail
      generalize w.alloc (.cells #[.int .i64 0, .int .i64 0, .string ⟨#[]⟩] 107) = w1 at *
      go_wp2_with (first
        | (go_at_call 110; refine NH.out.mono ?_; rintro e w2 ⟨rfl, hb⟩; have P2 := Lib.hid (PH.out.on hb); have B2 : Hid (Blk w2 g 107 #[.int .i64 0, .int .i64 0, .string ⟨#[]⟩]) := Lib.hid (b0.out.below hb b0.out.lt); have F2 := Lib.hid ((Fq.of (q := q) h0.out (Nat.le_refl g)).trans (Fq.of (q := q) hb (by omega))); clear hb)
        | (go_at_call 82; with_reducible refine (FDT.out _ P2.out).mono ?_; rintro e w3 ⟨rfl, hP, hF⟩; have P3 := Lib.hid hP; have B3 : Hid (Blk w3 g 107 #[.int .i64 0, .int .i64 0, .string ⟨#[]⟩]) := Lib.hid ((Fy.ofq hF).keep g 107 _ B2.out (by omega) (by decide)); have F3 := Lib.hid (F2.out.trans (hF.mono (by have := B2.out.lt; omega))); clear hP hF)
        | (go_at_call 176; refine (vbool_true _).mono ?_; rintro e w4 ⟨rfl, hb⟩; have P4 := Lib.hid (P3.out.on hb); have B4 : Hid (Blk w4 g 107 #[.int .i64 0, .int .i64 0, .string ⟨#[]⟩]) := Lib.hid (B3.out.below hb B3.out.lt); have F4 := Lib.hid (F3.out.trans (Fq.of (q := q) hb (by have := B3.out.lt; omega))); clear hb)
        | ((with_reducible refine at_store (t := 107) ?_); refine wpList_store_blk _ rfl 107 _ _ rfl g _ 107 [.int .i64 2, .int .i64 1, .string ⟨#[]⟩] rfl rfl B4.out rfl Tryz.i107 (by simp [Value.oneCell']) ?_; intro w8 hb8 ho8; have X8 := Lib.hid hb8; have P8 := Lib.hid (P4.out.keep (ho8.below (by omega))); have F8 := Lib.hid (F4.out.trans (Fq.of (q := q) (ho8.below (Nat.le_refl g)) (Nat.le_refl g))); clear hb8 ho8))
      exact bodyPost_ret (ret_cell1_tmp rfl _ _ g 107 _ _ rfl X8.out Tryz.underlying107 rfl Tryz.i107) rfl ⟨rfl, P8.out, by rw [hg]; exact F8.out⟩
    | false =>
      rw [hT] at FDT
      rw [if_neg (by decide)]
      cases hF0 : isB t [70, 65, 76, 83, 69] with
      | true =>
        rw [hF0] at FDF
        rw [if_pos rfl]
        go_enter Tryz.func174, Tryz.ntmps174
        go_upto_region 1 with fail
        generalize w.alloc (.cells #[.int .i64 0, .int .i64 0, .string ⟨#[]⟩] 107) = w1 at *
        go_wp2_with (first
          | (go_at_call 110; refine NH.out.mono ?_; rintro e w2 ⟨rfl, hb⟩; have P2 := Lib.hid (PH.out.on hb); have B2 : Hid (Blk w2 g 107 #[.int .i64 0, .int .i64 0, .string ⟨#[]⟩]) := Lib.hid (b0.out.below hb b0.out.lt); have F2 := Lib.hid ((Fq.of (q := q) h0.out (Nat.le_refl g)).trans (Fq.of (q := q) hb (by omega))); clear hb)
          | (go_at_call 82; with_reducible refine (FDT.out _ P2.out).mono ?_; rintro e w3 ⟨rfl, hP, hF⟩; have P3 := Lib.hid hP; have B3 : Hid (Blk w3 g 107 #[.int .i64 0, .int .i64 0, .string ⟨#[]⟩]) := Lib.hid ((Fy.ofq hF).keep g 107 _ B2.out (by omega) (by decide)); have F3 := Lib.hid (F2.out.trans (hF.mono (by have := B2.out.lt; omega))); clear hP hF)
          | (go_at_call 82; with_reducible refine (FDF.out _ P3.out).mono ?_; rintro e w4 ⟨rfl, hP, hF⟩; have P4 := Lib.hid hP; have B4 : Hid (Blk w4 g 107 #[.int .i64 0, .int .i64 0, .string ⟨#[]⟩]) := Lib.hid ((Fy.ofq hF).keep g 107 _ B3.out (by omega) (by decide)); have F4 := Lib.hid (F3.out.trans (hF.mono (by have := B3.out.lt; omega))); clear hP hF)
          | (go_at_call 176; refine (vbool_false _).mono ?_; rintro e w5 ⟨rfl, hb⟩; have P5 := Lib.hid (P4.out.on hb); have B5 : Hid (Blk w5 g 107 #[.int .i64 0, .int .i64 0, .string ⟨#[]⟩]) := Lib.hid (B4.out.below hb B4.out.lt); have F5 := Lib.hid (F4.out.trans (Fq.of (q := q) hb (by have := B4.out.lt; omega))); clear hb)
          | ((with_reducible refine at_store (t := 107) ?_); refine wpList_store_blk _ rfl 107 _ _ rfl g _ 107 [.int .i64 2, .int .i64 0, .string ⟨#[]⟩] rfl rfl B5.out rfl Tryz.i107 (by simp [Value.oneCell']) ?_; intro w8 hb8 ho8; have X8 := Lib.hid hb8; have P8 := Lib.hid (P5.out.keep (ho8.below (by omega))); have F8 := Lib.hid (F5.out.trans (Fq.of (q := q) (ho8.below (Nat.le_refl g)) (Nat.le_refl g))); clear hb8 ho8))
        exact bodyPost_ret (ret_cell1_tmp rfl _ _ g 107 _ _ rfl X8.out Tryz.underlying107 rfl Tryz.i107) rfl ⟨rfl, P8.out, by rw [hg]; exact F8.out⟩
      | false =>
        rw [hF0] at FDF
        rw [if_neg (by decide)]
        cases hN : isB t [78, 85, 76, 76] with
        | true =>
          rw [hN] at FDN
          rw [if_pos rfl]
          go_enter Tryz.func174, Tryz.ntmps174
          go_upto_region 1 with fail
          generalize w.alloc (.cells #[.int .i64 0, .int .i64 0, .string ⟨#[]⟩] 107) = w1 at *
          go_wp2_with (first
            | (go_at_call 110; refine NH.out.mono ?_; rintro e w2 ⟨rfl, hb⟩; have P2 := Lib.hid (PH.out.on hb); have B2 : Hid (Blk w2 g 107 #[.int .i64 0, .int .i64 0, .string ⟨#[]⟩]) := Lib.hid (b0.out.below hb b0.out.lt); have F2 := Lib.hid ((Fq.of (q := q) h0.out (Nat.le_refl g)).trans (Fq.of (q := q) hb (by omega))); clear hb)
            | (go_at_call 82; with_reducible refine (FDT.out _ P2.out).mono ?_; rintro e w3 ⟨rfl, hP, hF⟩; have P3 := Lib.hid hP; have B3 : Hid (Blk w3 g 107 #[.int .i64 0, .int .i64 0, .string ⟨#[]⟩]) := Lib.hid ((Fy.ofq hF).keep g 107 _ B2.out (by omega) (by decide)); have F3 := Lib.hid (F2.out.trans (hF.mono (by have := B2.out.lt; omega))); clear hP hF)
            | (go_at_call 82; with_reducible refine (FDF.out _ P3.out).mono ?_; rintro e w4 ⟨rfl, hP, hF⟩; have P4 := Lib.hid hP; have B4 : Hid (Blk w4 g 107 #[.int .i64 0, .int .i64 0, .string ⟨#[]⟩]) := Lib.hid ((Fy.ofq hF).keep g 107 _ B3.out (by omega) (by decide)); have F4 := Lib.hid (F3.out.trans (hF.mono (by have := B3.out.lt; omega))); clear hP hF)
            | (go_at_call 82; with_reducible refine (FDN.out _ P4.out).mono ?_; rintro e w5 ⟨rfl, hP, hF⟩; have P5 := Lib.hid hP; have B5 : Hid (Blk w5 g 107 #[.int .i64 0, .int .i64 0, .string ⟨#[]⟩]) := Lib.hid ((Fy.ofq hF).keep g 107 _ B4.out (by omega) (by decide)); have F5 := Lib.hid (F4.out.trans (hF.mono (by have := B4.out.lt; omega))); clear hP hF)
            | (go_at_call 177; refine (vnull_any _).mono ?_; rintro e w6 ⟨rfl, hb⟩; have P6 := Lib.hid (P5.out.on hb); have B6 : Hid (Blk w6 g 107 #[.int .i64 0, .int .i64 0, .string ⟨#[]⟩]) := Lib.hid (B5.out.below hb B5.out.lt); have F6 := Lib.hid (F5.out.trans (Fq.of (q := q) hb (by have := B5.out.lt; omega))); clear hb)
            | ((with_reducible refine at_store (t := 107) ?_); refine wpList_store_blk _ rfl 107 _ _ rfl g _ 107 [.int .i64 1, .int .i64 0, .string ⟨#[]⟩] rfl rfl B6.out rfl Tryz.i107 (by simp [Value.oneCell']) ?_; intro w8 hb8 ho8; have X8 := Lib.hid hb8; have P8 := Lib.hid (P6.out.keep (ho8.below (by omega))); have F8 := Lib.hid (F6.out.trans (Fq.of (q := q) (ho8.below (Nat.le_refl g)) (Nat.le_refl g))); clear hb8 ho8))
          exact bodyPost_ret (ret_cell1_tmp rfl _ _ g 107 _ _ rfl X8.out Tryz.underlying107 rfl Tryz.i107) rfl ⟨rfl, P8.out, by rw [hg]; exact F8.out⟩
        | false =>
          rw [hN] at FDN
          rw [if_neg (by decide)]
          cases h3 : (t.kind == 3) with
          | true =>
            have OH : Hid (∀ W, Pt W base q A c L E M V r o → Calls Tryz.prog 114 #[.pointer (some ⟨q, 0, none⟩), .int .i64 3] W fun e w' => e = .returned (.agg #[.int .i64 t.kind, tx t.text, .int .i64 t.num, .int .i64 (t.at_ : Int), .int .i64 (t.to_ : Int)]) ∧ Pt w' base q A c L E M V (r + 1) o ∧ Fq W.heap.size q W w') := Lib.hid (fun W hP => by have := OX.out 3 (by decide) W hP; rw [h3] at this; exact this)
            go_enter Tryz.func174, Tryz.ntmps174
            go_upto_region 1 with fail
            generalize w.alloc (.cells #[.int .i64 0, .int .i64 0, .string ⟨#[]⟩] 107) = w1 at *
            go_wp2_with (first
              | (go_at_call 110; refine NH.out.mono ?_; rintro e w2 ⟨rfl, hb⟩; have P2 := Lib.hid (PH.out.on hb); have B2 : Hid (Blk w2 g 107 #[.int .i64 0, .int .i64 0, .string ⟨#[]⟩]) := Lib.hid (b0.out.below hb b0.out.lt); have F2 := Lib.hid ((Fq.of (q := q) h0.out (Nat.le_refl g)).trans (Fq.of (q := q) hb (by omega))); clear hb)
              | (go_at_call 82; with_reducible refine (FDT.out _ P2.out).mono ?_; rintro e w3 ⟨rfl, hP, hF⟩; have P3 := Lib.hid hP; have B3 : Hid (Blk w3 g 107 #[.int .i64 0, .int .i64 0, .string ⟨#[]⟩]) := Lib.hid ((Fy.ofq hF).keep g 107 _ B2.out (by omega) (by decide)); have F3 := Lib.hid (F2.out.trans (hF.mono (by have := B2.out.lt; omega))); clear hP hF)
              | (go_at_call 82; with_reducible refine (FDF.out _ P3.out).mono ?_; rintro e w4 ⟨rfl, hP, hF⟩; have P4 := Lib.hid hP; have B4 : Hid (Blk w4 g 107 #[.int .i64 0, .int .i64 0, .string ⟨#[]⟩]) := Lib.hid ((Fy.ofq hF).keep g 107 _ B3.out (by omega) (by decide)); have F4 := Lib.hid (F3.out.trans (hF.mono (by have := B3.out.lt; omega))); clear hP hF)
              | (go_at_call 82; with_reducible refine (FDN.out _ P4.out).mono ?_; rintro e w5 ⟨rfl, hP, hF⟩; have P5 := Lib.hid hP; have B5 : Hid (Blk w5 g 107 #[.int .i64 0, .int .i64 0, .string ⟨#[]⟩]) := Lib.hid ((Fy.ofq hF).keep g 107 _ B4.out (by omega) (by decide)); have F5 := Lib.hid (F4.out.trans (hF.mono (by have := B4.out.lt; omega))); clear hP hF)
              | (go_at_call 114; refine (OH.out _ P5.out).mono ?_; rintro e w6 ⟨rfl, hP, hF⟩; have P6 := Lib.hid hP; have B6 : Hid (Blk w6 g 107 #[.int .i64 0, .int .i64 0, .string ⟨#[]⟩]) := Lib.hid ((Fy.ofq hF).keep g 107 _ B5.out (by omega) (by decide)); have F6 := Lib.hid (F5.out.trans (hF.mono (by have := B5.out.lt; omega))); clear hP hF)
              | (go_at_call 178; refine (vint_any t.num _).mono ?_; rintro e w7 ⟨rfl, hb⟩; have P7 := Lib.hid (P6.out.on hb); have B7 : Hid (Blk w7 g 107 #[.int .i64 0, .int .i64 0, .string ⟨#[]⟩]) := Lib.hid (B6.out.below hb B6.out.lt); have F7 := Lib.hid (F6.out.trans (Fq.of (q := q) hb (by have := B6.out.lt; omega))); clear hb)
              | ((with_reducible refine at_store (t := 107) ?_); refine wpList_store_blk _ rfl 107 _ _ rfl g _ 107 [.int .i64 3, .int .i64 t.num, .string ⟨#[]⟩] rfl rfl B7.out rfl Tryz.i107 (by simp [Value.oneCell']) ?_; intro w8 hb8 ho8; have X8 := Lib.hid hb8; have P8 := Lib.hid (P7.out.keep (ho8.below (by omega))); have F8 := Lib.hid (F7.out.trans (Fq.of (q := q) (ho8.below (Nat.le_refl g)) (Nat.le_refl g))); clear hb8 ho8))
            exact bodyPost_ret (ret_cell1_tmp rfl _ _ g 107 _ _ rfl X8.out Tryz.underlying107 rfl Tryz.i107) rfl ⟨rfl, P8.out, by rw [hg]; exact F8.out⟩
          | false =>
            have OH : Hid (∀ W, Pt W base q A c L E M V r o → Calls Tryz.prog 114 #[.pointer (some ⟨q, 0, none⟩), .int .i64 3] W (Rd W base q A c L E M V o (.error (210, r)))) := Lib.hid (fun W hP => by have := OX.out 3 (by decide) W hP; rw [h3] at this; exact this)
            go_enter Tryz.func174, Tryz.ntmps174
            go_upto_region 1 with fail
            generalize w.alloc (.cells #[.int .i64 0, .int .i64 0, .string ⟨#[]⟩] 107) = w1 at *
            go_wp2_with (first
              | (go_at_call 110; refine NH.out.mono ?_; rintro e w2 ⟨rfl, hb⟩; have P2 := Lib.hid (PH.out.on hb); have B2 : Hid (Blk w2 g 107 #[.int .i64 0, .int .i64 0, .string ⟨#[]⟩]) := Lib.hid (b0.out.below hb b0.out.lt); have F2 := Lib.hid ((Fq.of (q := q) h0.out (Nat.le_refl g)).trans (Fq.of (q := q) hb (by omega))); clear hb)
              | (go_at_call 82; with_reducible refine (FDT.out _ P2.out).mono ?_; rintro e w3 ⟨rfl, hP, hF⟩; have P3 := Lib.hid hP; have B3 : Hid (Blk w3 g 107 #[.int .i64 0, .int .i64 0, .string ⟨#[]⟩]) := Lib.hid ((Fy.ofq hF).keep g 107 _ B2.out (by omega) (by decide)); have F3 := Lib.hid (F2.out.trans (hF.mono (by have := B2.out.lt; omega))); clear hP hF)
              | (go_at_call 82; with_reducible refine (FDF.out _ P3.out).mono ?_; rintro e w4 ⟨rfl, hP, hF⟩; have P4 := Lib.hid hP; have B4 : Hid (Blk w4 g 107 #[.int .i64 0, .int .i64 0, .string ⟨#[]⟩]) := Lib.hid ((Fy.ofq hF).keep g 107 _ B3.out (by omega) (by decide)); have F4 := Lib.hid (F3.out.trans (hF.mono (by have := B3.out.lt; omega))); clear hP hF)
              | (go_at_call 82; with_reducible refine (FDN.out _ P4.out).mono ?_; rintro e w5 ⟨rfl, hP, hF⟩; have P5 := Lib.hid hP; have B5 : Hid (Blk w5 g 107 #[.int .i64 0, .int .i64 0, .string ⟨#[]⟩]) := Lib.hid ((Fy.ofq hF).keep g 107 _ B4.out (by omega) (by decide)); have F5 := Lib.hid (F4.out.trans (hF.mono (by have := B4.out.lt; omega))); clear hP hF)
              | (go_at_call 114; refine (OH.out _ P5.out).mono ?_; rintro e w6 hR; obtain ⟨rfl, hF⟩ := Rd.err hR; have F6 := Lib.hid (F5.out.trans (hF.mono (by have := B5.out.lt; omega))); clear hR hF))
            exact ⟨rfl, by rw [HT.out]; rfl, by rw [hg]; exact F6.out⟩
end Go.Proofs.YtiipglmbfgmbbaaGreatDoor

namespace Go.Proofs.YtiipglmbfgmbbaaGreatDoor
open Go.RowKit Go.Shelf
attribute [local go_sem] Oper.semAt_some

theorem ex_par_full {L : List Tk} {E n r : Nat} {ns : List Nd} (hb : isB (tokAt L E r) [40] = true) : ex L E (n + 1) (.lv .single) r 16 ns = some (.error (211, r)) := by
  show (if isB (tokAt L E r) [40] = true then (if 16 = 16 then some (Except.error (211, r)) else _) else _ : Rs) = _
  rw [if_pos hb, if_pos rfl]
theorem ex_par {L : List Tk} {E n r o : Nat} {ns : List Nd} (hb : isB (tokAt L E r) [40] = true) (ho : o ≠ 16) : ex L E (n + 1) (.lv .single) r o ns = bnd (ex L E n (.lv .or) (r + 1) (o + 1) ns) fun row r ns => if isB (tokAt L E r) [41] = true then some (.ok (row, r + 1, ns)) else some (.error (210, r)) := by
  show (if isB (tokAt L E r) [40] = true then (if o = 16 then some (Except.error (211, r)) else bnd (ex L E n (.lv .or) (r + 1) (o + 1) ns) fun row r ns => if isB (tokAt L E r) [41] = true then some (.ok (row, r + 1, ns)) else some (.error (210, r))) else _) = _
  rw [if_pos hb, if_neg ho]
theorem ex_col {L : List Tk} {E n r o : Nat} {ns : List Nd} (hb : isB (tokAt L E r) [40] = false) (hk : ((tokAt L E r).kind == 2) = true) : ex L E (n + 1) (.lv .single) r o ns = match refF L E r with | .error x => some (.error x) | .ok ((u, v), r2) => one_ (ndC u v) r2 ns := by
  show (if isB (tokAt L E r) [40] = true then _ else if ((tokAt L E r).kind == 2) = true then (match refF L E r with | .error x => some (.error x) | .ok ((u, v), r2) => one_ (ndC u v) r2 ns) else _ : Rs) = _
  rw [if_neg (by rw [hb]; decide), if_pos hk]
theorem ex_val {L : List Tk} {E n r o : Nat} {ns : List Nd} (hb : isB (tokAt L E r) [40] = false) (hk : ((tokAt L E r).kind == 2) = false) : ex L E (n + 1) (.lv .single) r o ns = match valF L E r with | .error x => some (.error x) | .ok ((k, v, t), r2) => one_ (ndV1 k v t) r2 ns := by
  show (if isB (tokAt L E r) [40] = true then _ else if ((tokAt L E r).kind == 2) = true then _ else (match valF L E r with | .error x => some (.error x) | .ok ((k, v, t), r2) => one_ (ndV1 k v t) r2 ns) : Rs) = _
  rw [if_neg (by rw [hb]; decide), if_neg (by rw [hk]; decide)]
theorem refF_gt {L : List Tk} {E r : Nat} {p : List UInt8 × List UInt8} {r2 : Nat} (h : refF L E r = .ok (p, r2)) : r < r2 := by
  unfold refF nameF at h
  split at h
  · cases h
  · rename_i h1
    split at h1
    · injection h1 with h1
      injection h1 with h1 h2
      subst h2
      split at h
      · split at h
        · cases h
        · rename_i h3
          split at h3
          · injection h3 with h3
            injection h3 with h3 h4
            injection h with h
            injection h with h5 h6
            omega
          · cases h3
      · injection h with h
        injection h with h5 h6
        omega
    · cases h1
theorem valF_gt {L : List Tk} {E r : Nat} {p : Int × Int × List UInt8} {r2 : Nat} (h : valF L E r = .ok (p, r2)) : r < r2 := by
  unfold valF at h
  repeat' split at h
  all_goals first
    | (injection h with h; injection h with h1 h2; omega)
    | cases h
set_option maxRecDepth 100000 in
set_option maxHeartbeats 8000000 in
theorem single_lv (N : Nat) (hor : LvOk N .or 139) : LvOk (N + 1) .single 173 := by
  intro w base q A c L E m r o B nc ns h hN ho
  have IS := is_any [40] w base q c E r o A L _ _ h.pt
  have SH := Lib.hid h
  have hle := h.pt.le
  have HN := Lib.hid hor
  have hfew := h.few
  clear hor h
  cases hb : isB (tokAt L E r) [40] with
  | false =>
    rw [hb] at IS
    have IH := Lib.hid IS
    clear IS
    have NX := Lib.hid (fun W (hP : Pt W base q A c L E (.map (some m)) (.slice B ns.length nc) r o) => next_any W base q c E r o A L _ _ hP)
    have RX := Lib.hid (fun W (hP : Pt W base q A c L E (.map (some m)) (.slice B ns.length nc) r o) => ref_any W base q c E r o A L _ _ hP)
    have VX := Lib.hid (fun W (hP : Pt W base q A c L E (.map (some m)) (.slice B ns.length nc) r o) => value_any W base q c E r o A L _ _ hP)
    obtain ⟨t, ht⟩ : ∃ t, tokAt L E r = t := ⟨_, rfl⟩
    have FL := field50_0t t
    have NH : Hid (∀ W, Pt W base q A c L E (.map (some m)) (.slice B ns.length nc) r o → Calls Tryz.prog 110 #[.pointer (some ⟨q, 0, none⟩)] W fun e w' => e = .returned (.agg #[.int .i64 t.kind, tx t.text, .int .i64 t.num, .int .i64 (t.at_ : Int), .int .i64 (t.to_ : Int)]) ∧ Below W.heap.size W w') := Lib.hid (fun W hP => by have := NX.out W hP; rw [ht] at this; exact this)
    cases hk : (t.kind == 2) with
    | true =>
      have hk' : ((tokAt L E r).kind == 2) = true := by rw [ht]; exact hk
      have EX := Lib.hid (fun n => ex_col (n := n) (o := o) (ns := ns) hb hk')
      have RG := Lib.hid (fun p r2 => refF_gt (L := L) (E := E) (r := r) (p := p) (r2 := r2))
      clear ht hk' VX NX
      cases hr : refF L E r with
      | error x =>
        obtain ⟨er, i⟩ := x
        rw [hr] at RX
        have RH := RX
        rw [hr] at EX
        go_enter Tryz.func173, Tryz.ntmps173
        go_wp2_with (first
          | (go_at_call 109; refine IH.out.mono ?_; rintro e w2 ⟨rfl, hbl⟩; have S2 := Lib.hid (SH.out.on hbl); have F2 := Lib.hid (Fq.of (q := q) hbl hle); have Y2 := Lib.hid (Fy.of (q := q) hbl); clear hbl)
          | (go_at_call 110; refine (NH.out _ S2.out.pt).mono ?_; rintro e w3 ⟨rfl, hbl⟩; have S3 := Lib.hid (S2.out.on hbl); have F3 := Lib.hid (F2.out.trans (Fq.of (q := q) hbl S2.out.pt.le)); have Y3 := Lib.hid (Y2.out.trans (Fy.of (q := q) hbl)); clear hbl)
          | (go_at_call 140; refine (RH.out _ S3.out.pt).mono ?_; rintro e w4 hR; obtain ⟨rfl, hF⟩ := Rd.err hR; have F4 := Lib.hid (F3.out.trans (hF.mono S3.out.pt.le)); clear hR hF))
        exact ⟨rfl, 1, .error (er, i), EX.out 0, F4.out, rfl⟩
      | ok y =>
        obtain ⟨⟨u, v⟩, r4⟩ := y
        rw [hr] at RX
        have RH : Hid (∀ W, Pt W base q A c L E (.map (some m)) (.slice B ns.length nc) r o → Calls Tryz.prog 140 #[.pointer (some ⟨q, 0, none⟩)] W fun e w' => e = .returned (.agg #[tx u, tx v]) ∧ Pt w' base q A c L E (.map (some m)) (.slice B ns.length nc) r4 o ∧ Fq W.heap.size q W w') := RX
        have hr4 := RG.out _ _ hr
        rw [hr] at EX
        clear RX RG
        go_enter Tryz.func173, Tryz.ntmps173
        go_upto_region 7 with (first
          | (go_at_call 109; refine IH.out.mono ?_; rintro e w2 ⟨rfl, hbl⟩; have S2 := Lib.hid (SH.out.on hbl); have F2 := Lib.hid (Fq.of (q := q) hbl hle); have Y2 := Lib.hid (Fy.of (q := q) hbl); clear hbl)
          | (go_at_call 110; refine (NH.out _ S2.out.pt).mono ?_; rintro e w3 ⟨rfl, hbl⟩; have S3 := Lib.hid (S2.out.on hbl); have F3 := Lib.hid (F2.out.trans (Fq.of (q := q) hbl S2.out.pt.le)); have Y3 := Lib.hid (Y2.out.trans (Fy.of (q := q) hbl)); clear hbl)
          | (go_at_call 140; refine (RH.out _ S3.out.pt).mono ?_; rintro e w4 ⟨rfl, hP, hF⟩; have S4 := Lib.hid (S3.out.read hP hF (by omega)); have F4 := Lib.hid (F3.out.trans (hF.mono S3.out.pt.le)); have Y4 := Lib.hid (Y3.out.trans (Fy.ofq hF)); clear hP hF))
        have AL : Below w4.heap.size w4 (w4.alloc (.cells #[tx u, tx v] 36)) := (Below.refl _ _).alloc (Nat.le_refl _) _
        have S6 := Lib.hid (S4.out.on AL)
        have F6 := Lib.hid (F4.out.trans (Fq.of (q := q) AL S4.out.pt.le))
        have Y6 := Lib.hid (Y4.out.trans (Fy.of (q := q) AL))
        clear AL
        obtain ⟨w6, hw6⟩ : ∃ x, x = w4.alloc (.cells #[tx u, tx v] 36) := ⟨_, rfl⟩
        rw [← hw6] at S6 F6 Y6
        have e6 : w4.alloc (.cells #[.string ⟨u.toArray⟩, .string ⟨v.toArray⟩] 36) = w6 := hw6.symm
        first | rw [e6] | skip
        clear e6
        subst hw6
        go_wp2_with (go_at_call 163; refine (show Calls Tryz.prog 163 #[.pointer (some ⟨q, 0, none⟩), .agg #[.int .i64 2, .int .i64 0, .int .i64 0, .int .i64 0, tx u, tx v, .int .i64 0, .int .i64 0, .string ⟨#[]⟩]] (w4.alloc (.cells #[tx u, tx v] 36)) _ from row_any (ndC u v) (w4.alloc (.cells #[tx u, tx v] 36)) base q c E r4 o ns.length nc A B L _ ns S6.out.pt S6.out.nds (by have := S6.out.few; have := S6.out.pt.rd; have := S6.out.pt.many; omega)).mono ?_; rintro e w7 ⟨rfl, A2, c2, hP, hN2, hF, hY⟩; have S7 : Hid (St w7 base q A c L E m r4 o A2 c2 (ns ++ [ndC u v])) := Lib.hid ⟨by rw [List.length_append]; exact hP, by rw [List.length_append]; exact hN2, (hF.block m S6.out.hm S6.out.hq).trans S6.out.mo, S6.out.hm, S6.out.hq, by rw [List.length_append]; simp; omega⟩; have F7 := Lib.hid (F6.out.trans hF); have Y7 := Lib.hid (Y6.out.trans hY); clear hP hN2 hF hY)
        go_ret
        exact ⟨1, .ok (ns.length, r4, ns ++ [ndC u v]), EX.out 0, F7.out, rfl, by omega, by rw [List.length_append]; simp; omega, Y7.out, A2, c2, S7.out⟩
    | false =>
      have hk' : ((tokAt L E r).kind == 2) = false := by rw [ht]; exact hk
      have EX := Lib.hid (fun n => ex_val (n := n) (o := o) (ns := ns) hb hk')
      have RG := Lib.hid (fun p r2 => valF_gt (L := L) (E := E) (r := r) (p := p) (r2 := r2))
      clear ht hk' RX NX
      cases hr : valF L E r with
      | error x =>
        obtain ⟨er, i⟩ := x
        rw [hr] at VX
        have VH := VX
        rw [hr] at EX
        go_enter Tryz.func173, Tryz.ntmps173
        go_wp2_with (first
          | (go_at_call 109; refine IH.out.mono ?_; rintro e w2 ⟨rfl, hbl⟩; have S2 := Lib.hid (SH.out.on hbl); have F2 := Lib.hid (Fq.of (q := q) hbl hle); have Y2 := Lib.hid (Fy.of (q := q) hbl); clear hbl)
          | (go_at_call 110; refine (NH.out _ S2.out.pt).mono ?_; rintro e w3 ⟨rfl, hbl⟩; have S3 := Lib.hid (S2.out.on hbl); have F3 := Lib.hid (F2.out.trans (Fq.of (q := q) hbl S2.out.pt.le)); have Y3 := Lib.hid (Y2.out.trans (Fy.of (q := q) hbl)); clear hbl)
          | (go_at_call 174; refine (VH.out _ S3.out.pt).mono ?_; rintro e w4 hR; obtain ⟨rfl, hF⟩ := Rd.err hR; have F4 := Lib.hid (F3.out.trans (hF.mono S3.out.pt.le)); clear hR hF))
        exact ⟨rfl, 1, .error (er, i), EX.out 0, F4.out, rfl⟩
      | ok y =>
        obtain ⟨⟨k, v, u⟩, r4⟩ := y
        rw [hr] at VX
        have VH : Hid (∀ W, Pt W base q A c L E (.map (some m)) (.slice B ns.length nc) r o → Calls Tryz.prog 174 #[.pointer (some ⟨q, 0, none⟩)] W fun e w' => e = .returned (.agg #[.int .i64 k, .int .i64 v, tx u]) ∧ Pt w' base q A c L E (.map (some m)) (.slice B ns.length nc) r4 o ∧ Fq W.heap.size q W w') := VX
        have hr4 := RG.out _ _ hr
        rw [hr] at EX
        clear VX RG
        go_enter Tryz.func173, Tryz.ntmps173
        go_wp2_with (first
          | (go_at_call 109; refine IH.out.mono ?_; rintro e w2 ⟨rfl, hbl⟩; have S2 := Lib.hid (SH.out.on hbl); have F2 := Lib.hid (Fq.of (q := q) hbl hle); have Y2 := Lib.hid (Fy.of (q := q) hbl); clear hbl)
          | (go_at_call 110; refine (NH.out _ S2.out.pt).mono ?_; rintro e w3 ⟨rfl, hbl⟩; have S3 := Lib.hid (S2.out.on hbl); have F3 := Lib.hid (F2.out.trans (Fq.of (q := q) hbl S2.out.pt.le)); have Y3 := Lib.hid (Y2.out.trans (Fy.of (q := q) hbl)); clear hbl)
          | (go_at_call 174; refine (VH.out _ S3.out.pt).mono ?_; rintro e w4 ⟨rfl, hP, hF⟩; have S4 := Lib.hid (S3.out.read hP hF (by omega)); have F4 := Lib.hid (F3.out.trans (hF.mono S3.out.pt.le)); have Y4 := Lib.hid (Y3.out.trans (Fy.ofq hF)); clear hP hF)
          | (go_at_call 163; refine (show Calls Tryz.prog 163 #[.pointer (some ⟨q, 0, none⟩), .agg #[.int .i64 1, .int .i64 0, .int .i64 0, .int .i64 0, .string ⟨#[]⟩, .string ⟨#[]⟩, .int .i64 k, .int .i64 v, tx u]] w4 _ from row_any (ndV1 k v u) w4 base q c E r4 o ns.length nc A B L _ ns S4.out.pt S4.out.nds (by have := S4.out.few; have := S4.out.pt.rd; have := S4.out.pt.many; omega)).mono ?_; rintro e w7 ⟨rfl, A2, c2, hP, hN2, hF, hY⟩; have S7 : Hid (St w7 base q A c L E m r4 o A2 c2 (ns ++ [ndV1 k v u])) := Lib.hid ⟨by rw [List.length_append]; exact hP, by rw [List.length_append]; exact hN2, (hF.block m S4.out.hm S4.out.hq).trans S4.out.mo, S4.out.hm, S4.out.hq, by rw [List.length_append]; simp; omega⟩; have F7 := Lib.hid (F4.out.trans hF); have Y7 := Lib.hid (Y4.out.trans hY); clear hP hN2 hF hY))
        go_ret
        exact ⟨1, .ok (ns.length, r4, ns ++ [ndV1 k v u]), EX.out 0, F7.out, rfl, by omega, by rw [List.length_append]; simp; omega, Y7.out, A2, c2, S7.out⟩
  | true =>
    rw [hb] at IS
    have IH := Lib.hid IS
    clear IS
    by_cases h16 : o = 16
    · subst h16
      go_enter Tryz.func173, Tryz.ntmps173
      go_upto_region 2 with (go_at_call 109; refine IH.out.mono ?_; rintro e w2 ⟨rfl, hbl⟩; have S2 := Lib.hid (SH.out.on hbl); have F2 := Lib.hid (Fq.of (q := q) hbl hle); have Y2 := Lib.hid (Fy.of (q := q) hbl); clear hbl)
      have FU := Lib.hid (full_139 w2 base q c E m r nc A B L ns S2.out)
      go_wp2_with (go_at_call 169; refine FU.out.mono ?_; rintro e w3 ⟨he, hF⟩; have F3 := Lib.hid (F2.out.trans hF); have hz : e = .panicked [{ v := .iface 26 (.agg #[.int .i64 211, .int .i64 ((tokAt L E r).at_ : Int)]), recovered := false }] := he; subst hz; clear he hF)
      exact ⟨rfl, 1, .error (211, r), ex_par_full hb, F3.out, rfl⟩
    · go_enter Tryz.func173, Tryz.ntmps173
      go_upto_region 2 with (go_at_call 109; refine IH.out.mono ?_; rintro e w2 ⟨rfl, hbl⟩; have S2 := Lib.hid (SH.out.on hbl); have F2 := Lib.hid (Fq.of (q := q) hbl hle); have Y2 := Lib.hid (Fy.of (q := q) hbl); clear hbl)
      have O1 := Lib.hid (opened_139 N HN.out w2 base q c E m r o nc A B L ns S2.out (by omega) (by omega) hb)
      go_upto_region 3 with (go_at_call 169; refine O1.out.mono ?_; rintro e w3 ⟨n3, x3, hx, hF, hy⟩; have X3 := Lib.hid hx; have F3 := Lib.hid (F2.out.trans hF); clear hx hF; rcases x3 with ⟨er, i⟩ | ⟨row3, r3, ns3⟩ <;> first | (have hz : e = .panicked [{ v := .iface 26 (.agg #[.int .i64 er, .int .i64 ((tokAt L E i).at_ : Int)]), recovered := false }] := hy; subst hz; clear hy) | (obtain ⟨rfl, hr3, hn3, hY, B3, nc3, hS⟩ := hy; have S3 := Lib.hid hS; have Y3 := Lib.hid hY; clear hS hY))
      · exact ⟨rfl, n3 + 1, .error (er, i), by rw [ex_par hb h16, X3.out]; rfl, F3.out, rfl⟩
      · have AL : Below w3.heap.size w3 (w3.alloc (.cells #[.string ⟨#[41]⟩] 9)) := (Below.refl _ _).alloc (Nat.le_refl _) _
        have S4 := Lib.hid (S3.out.on AL)
        have F4 := Lib.hid (F3.out.trans (Fq.of (q := q) AL S3.out.pt.le))
        have Y4 := Lib.hid ((Y2.out.trans Y3.out).trans (Fy.of (q := q) AL))
        have hq3 : q < w3.heap.size := S3.out.pt.blk.lt
        have WD := words_any [[41]] 1 w3.heap.size (w3.alloc (.cells #[.string ⟨#[41]⟩] 9)) base q c E r3 o A L _ _ S4.out.pt rfl (by omega) ⟨by simp, fun i hi => by
          obtain rfl : i = 0 := by simp at hi; omega
          exact (Blk.new w3 9 #[.string ⟨#[41]⟩]).cell 0⟩ (by omega)
        unfold wordsF wordsF at WD
        clear AL
        cases hc : isB (tokAt L E r3) [41] with
        | true =>
          rw [hc] at WD
          have WH : Hid (Calls Tryz.prog 49 #[.pointer (some ⟨q, 0, none⟩), .slice (some ⟨w3.heap.size, 0, none⟩) 1 1] (w3.alloc (.cells #[.string ⟨#[41]⟩] 9)) fun e w' => e = .returned (.tuple #[]) ∧ Pt w' base q A c L E (.map (some m)) (.slice B3 ns3.length nc3) (r3 + 1) o ∧ Fq (w3.alloc (.cells #[.string ⟨#[41]⟩] 9)).heap.size q (w3.alloc (.cells #[.string ⟨#[41]⟩] 9)) w') := Lib.hid WD
          clear WD
          go_wp2_with (go_at_call 49; refine WH.out.mono ?_; rintro e w5 ⟨rfl, hP, hF⟩; have S5 := Lib.hid (S4.out.read hP hF (by omega)); have F5 := Lib.hid (F4.out.trans (hF.mono S4.out.pt.le)); have Y5 := Lib.hid (Y4.out.trans (Fy.ofq hF)); clear hP hF)
          go_ret
          exact ⟨n3 + 1, .ok (row3, r3 + 1, ns3), by rw [ex_par hb h16, X3.out]; show (if isB (tokAt L E r3) [41] = true then _ else _) = _; rw [if_pos hc], F5.out, rfl, by omega, by omega, Y5.out, B3, nc3, S5.out⟩
        | false =>
          rw [hc] at WD
          have WH : Hid (Calls Tryz.prog 49 #[.pointer (some ⟨q, 0, none⟩), .slice (some ⟨w3.heap.size, 0, none⟩) 1 1] (w3.alloc (.cells #[.string ⟨#[41]⟩] 9)) (Rd (w3.alloc (.cells #[.string ⟨#[41]⟩] 9)) base q A c L E (.map (some m)) (.slice B3 ns3.length nc3) o (.error (210, r3)))) := Lib.hid WD
          clear WD
          go_wp2_with (go_at_call 49; refine WH.out.mono ?_; rintro e w5 hR; obtain ⟨rfl, hF⟩ := Rd.err hR; have F5 := Lib.hid (F4.out.trans (hF.mono S4.out.pt.le)); clear hR hF)
          exact ⟨rfl, n3 + 1, .error (210, r3), by rw [ex_par hb h16, X3.out]; show (if isB (tokAt L E r3) [41] = true then _ else _) = _; rw [if_neg (by rw [hc]; decide)], F5.out, rfl⟩
end Go.Proofs.YtiipglmbfgmbbaaGreatDoor
