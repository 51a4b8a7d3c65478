/-
  A column of CREATE.
-/
import Derived.Test.YtiipglmbfgmbbaaGreatDoorP25
namespace Go.Proofs.YtiipglmbfgmbbaaGreatDoor
open Go.RowKit Go.Shelf
attribute [local go_sem] Oper.semAt_some

theorem Gp.fq {w w' : World} {base q : Nat} (h : Gp w) (hF : Fq base q w w') (hb : 2 ≤ base) (hq : 2 ≤ q) : Gp w' :=
  ⟨fun i hi => by rw [← h.fw i hi]; simp only [World.cell?, hF.block 0 (by omega) (by omega)], fun i hi => by rw [← h.tw i hi]; simp only [World.cell?, hF.block 1 (by omega) (by omega)]⟩
/-- A column, and where it ends. -/
def colF (L : List Tk) (E r : Nat) : Except (Int × Nat) ((List UInt8 × Nat × Bool × Bool) × Nat) :=
  match nameF L E r with
  | .error x => .error x
  | .ok (nm, r2) => match typeF L E r2 with
    | .error x => .error x
    | .ok (ty, r3) =>
      if isB (tokAt L E r3) [80, 82, 73, 77, 65, 82, 89] = true then (if isB (tokAt L E (r3 + 1)) [75, 69, 89] = true then .ok ((nm, ty, true, false), r3 + 2) else .error (210, r3 + 1))
      else if isB (tokAt L E r3) [78, 79, 84] = true then (if isB (tokAt L E (r3 + 1)) [78, 85, 76, 76] = true then .ok ((nm, ty, false, true), r3 + 2) else .error (210, r3 + 1))
      else .ok ((nm, ty, false, false), r3)
theorem Tryz.i62 : (Tryz.prog.info? 62).map (·.size) = some 4 := by kernel_rfl
set_option maxRecDepth 100000 in
set_option maxHeartbeats 8000000 in
theorem column_any (w : World) (base q c E r o : Nat) (A : Option Addr) (L : List Tk) (M V : Value) (h : Pt w base q A c L E M V r o) (hG : Gp w) (hb2 : 2 ≤ base) (hq2 : 2 ≤ q) :
    Calls Tryz.prog 113 #[.pointer (some ⟨q, 0, none⟩)] w (Rd w base q A c L E M V o ((colF L E r).map fun p => (.agg #[tx p.1.1, .int .i64 (p.1.2.1 : Int), .bool p.1.2.2.1, .bool p.1.2.2.2], p.2))) := by
  obtain ⟨g, hg⟩ : ∃ g, w.heap.size = g := ⟨_, rfl⟩
  have b0 : Hid (Blk (w.alloc (.cells #[.string ⟨#[]⟩, .int .i64 0, .bool false, .bool false] 62)) g 62 #[.string ⟨#[]⟩, .int .i64 0, .bool false, .bool false]) := Lib.hid (by rw [← hg]; exact Blk.new _ _ _)
  have h0 : Hid (Below g w (w.alloc (.cells #[.string ⟨#[]⟩, .int .i64 0, .bool false, .bool false] 62))) := Lib.hid (by rw [← hg]; exact (Below.refl _ _).alloc (Nat.le_refl _) _)
  have hle := h.le
  have hlt := h.lt
  have P1 := Lib.hid (h.on (h0.out.mono (by omega)))
  have hz : (w.alloc (.cells #[.string ⟨#[]⟩, .int .i64 0, .bool false, .bool false] 62)).heap.size = g + 1 := by simp [hg]
  have F1 := Lib.hid (Fq.of (q := q) h0.out (Nat.le_refl g))
  have G1 := Lib.hid (hG.fq F1.out (by omega) hq2)
  have NM := name_any _ base q c E r o A L M V P1.out
  clear h hG
  obtain ⟨Y, hY⟩ : ∃ Y, colF L E r = Y := ⟨_, rfl⟩
  rw [hY]
  unfold colF at hY
  obtain ⟨y1, hy1⟩ : ∃ y, nameF L E r = y := ⟨_, rfl⟩
  rw [hy1] at NM hY
  clear hy1
  rcases y1 with ⟨er, i⟩ | ⟨nm, r2⟩
  · subst hY
    have NH := Lib.hid NM
    clear NM
    go_enter Tryz.func113, Tryz.ntmps113
    go_upto_region 1 with fail
    generalize w.alloc (.cells #[.string ⟨#[]⟩, .int .i64 0, .bool false, .bool false] 62) = w1 at *
    go_wp2_with (go_at_call 77; refine NH.out.mono ?_; rintro e w2 hR; obtain ⟨rfl, hF⟩ := Rd.err hR; have F2 := Lib.hid (F1.out.trans (hF.mono (by omega))); clear hR hF)
    exact ⟨rfl, rfl, by rw [hg]; exact F2.out⟩
  obtain ⟨T, hT⟩ : ∃ T : ByteArray, (⟨nm.toArray⟩ : ByteArray) = T := ⟨_, rfl⟩
  have eT : tx nm = .string T := by rw [← hT]
  have NH : Hid (Calls Tryz.prog 77 #[.pointer (some ⟨q, 0, none⟩)] (w.alloc (.cells #[.string ⟨#[]⟩, .int .i64 0, .bool false, .bool false] 62)) fun e w' => e = .returned (.string T) ∧ Pt w' base q A c L E M V r2 o ∧ Fq (w.alloc (.cells #[.string ⟨#[]⟩, .int .i64 0, .bool false, .bool false] 62)).heap.size q (w.alloc (.cells #[.string ⟨#[]⟩, .int .i64 0, .bool false, .bool false] 62)) w') := Lib.hid (by rw [← eT]; exact NM)
  clear NM
  have TY := Lib.hid (fun W (hP : Pt W base q A c L E M V r2 o) (hG : Gp W) => typed_any W base q c E r2 o A L M V hP hG)
  simp only at hY
  obtain ⟨y2, hy2⟩ : ∃ y, typeF L E r2 = y := ⟨_, rfl⟩
  rw [hy2] at TY hY
  clear hy2
  have HN := Lib.hid eT
  clear hT eT
  have ARM : True := trivial
  rcases y2 with ⟨er, i⟩ | ⟨ty, r3⟩
  · subst hY
    go_enter Tryz.func113, Tryz.ntmps113
    go_upto_region 1 with fail
    generalize w.alloc (.cells #[.string ⟨#[]⟩, .int .i64 0, .bool false, .bool false] 62) = w1 at *
    go_wp2_with (first
      | (go_at_call 77; refine NH.out.mono ?_; rintro e w2 ⟨rfl, hP, hF⟩; have P2 := Lib.hid hP; have F2 := Lib.hid (F1.out.trans (hF.mono (by omega))); have G2 := Lib.hid (G1.out.fq (hF.mono (Nat.le_refl _)) (by omega) hq2); have hl2 := hF.size; clear hP hF)
      | (go_at_call 138; refine (TY.out _ P2.out G2.out).mono ?_; rintro e w3 hR; obtain ⟨rfl, hF⟩ := Rd.err hR; have F3 := Lib.hid (F2.out.trans (hF.mono (by omega))); clear hR hF))
    exact ⟨rfl, rfl, by rw [hg]; exact F3.out⟩
  have TY2 : Hid (∀ W, Pt W base q A c L E M V r2 o → Gp W → Calls Tryz.prog 138 #[.pointer (some ⟨q, 0, none⟩)] W fun e w' => e = .returned (.int .i64 (ty : Int)) ∧ Pt w' base q A c L E M V r3 o ∧ Fq W.heap.size q W w') := Lib.hid (fun W hP hG => TY.out W hP hG)
  clear TY
  simp only at hY
  have HY := Lib.hid hY
  clear hY
  go_enter Tryz.func113, Tryz.ntmps113
  go_upto_region 1 with fail
  generalize w.alloc (.cells #[.string ⟨#[]⟩, .int .i64 0, .bool false, .bool false] 62) = w1 at *
  go_upto_region 2 with (first
    | (go_at_call 77; refine NH.out.mono ?_; rintro e w2 ⟨rfl, hP, hF⟩; have P2 := Lib.hid hP; have F2 := Lib.hid (F1.out.trans (hF.mono (by omega))); have G2 := Lib.hid (G1.out.fq (hF.mono (Nat.le_refl _)) (by omega) hq2); have hl2 := hF.size; have B2 : Hid (Blk w2 g 62 #[.string ⟨#[]⟩, .int .i64 0, .bool false, .bool false]) := Lib.hid ((Fy.ofq hF).keep g 62 _ b0.out (by omega) (by decide)); clear hP hF)
    | (go_at_call 138; refine (TY2.out _ P2.out G2.out).mono ?_; rintro e w3 ⟨rfl, hP, hF⟩; have P3 := Lib.hid hP; have F3 := Lib.hid (F2.out.trans (hF.mono (by omega))); have B3 : Hid (Blk w3 g 62 #[.string ⟨#[]⟩, .int .i64 0, .bool false, .bool false]) := Lib.hid ((Fy.ofq hF).keep g 62 _ B2.out (by omega) (by decide)); have hl3 := B3.out.lt; clear hP hF)
    | ((with_reducible refine at_store (t := 62) ?_); have AL3 : Below w3.heap.size w3 (w3.alloc (.cells #[.string ⟨#[]⟩, .int .i64 0, .bool false, .bool false] 62)) := (Below.refl _ _).alloc (Nat.le_refl _) _; have K3 : Blk (w3.alloc (.cells #[.string ⟨#[]⟩, .int .i64 0, .bool false, .bool false] 62)) w3.heap.size 62 #[.string ⟨#[]⟩, .int .i64 0, .bool false, .bool false] := Blk.new _ _ _; refine wpList_store_blk _ rfl 62 _ _ rfl w3.heap.size _ 62 [.string T, .int .i64 (ty : Int), .bool false, .bool false] rfl rfl K3 rfl Tryz.i62 (by simp [Value.oneCell']) ?_; intro w4 hb4 ho4; have K4 : Hid (Blk w4 w3.heap.size 62 #[.string T, .int .i64 (ty : Int), .bool false, .bool false]) := Lib.hid hb4; have hle3 := P3.out.le; have P4 := Lib.hid ((P3.out.on AL3).keep (ho4.below hle3)); have B4 : Hid (Blk w4 g 62 #[.string ⟨#[]⟩, .int .i64 0, .bool false, .bool false]) := Lib.hid ((ho4.block g (by omega)).trans (B3.out.below AL3 hl3)); have F4 := Lib.hid ((F3.out.trans (Fq.of (q := q) AL3 (Nat.le_of_lt hl3))).trans (Fq.of (q := q) (ho4.below (Nat.le_of_lt hl3)) (Nat.le_refl g))); clear hb4 ho4 AL3 K3))
  have hq3 : q < w3.heap.size := P3.out.blk.lt
  clear P2 B2 F2 G2 NH TY2 F3 B3 P3 b0 F1 P1 G1
  generalize w3.heap.size = g3 at *
  have FDP := found_any [80, 82, 73, 77, 65, 82, 89] w4 base q c E r3 o A L M V P4.out
  cases hp : isB (tokAt L E r3) [80, 82, 73, 77, 65, 82, 89] with
  | true =>
    rw [hp] at FDP
    have hY2 := (if_pos hp).symm.trans HY.out
    have FH := Lib.hid FDP
    clear FDP
    go_upto_region 3 with (go_at_call 82; refine FH.out.mono ?_; rintro e w5 ⟨rfl, hP, hF⟩; have P5 : Hid (Pt w5 base q A c L E M V (r3 + 1) o) := Lib.hid hP; have B5 : Hid (Blk w5 g 62 #[.string ⟨#[]⟩, .int .i64 0, .bool false, .bool false]) := Lib.hid ((Fy.ofq hF).keep g 62 _ B4.out (by omega) (by decide)); have K5 : Hid (Blk w5 g3 62 #[.string T, .int .i64 (ty : Int), .bool false, .bool false]) := Lib.hid ((Fy.ofq hF).keep g3 62 _ K4.out (by omega) (by decide)); have F5 := Lib.hid (F4.out.trans (hF.mono (Nat.le_of_lt B4.out.lt))); clear hP hF)
    have AL : Below w5.heap.size w5 (w5.alloc (.cells #[.string ⟨#[75, 69, 89]⟩] 9)) := (Below.refl _ _).alloc (Nat.le_refl _) _
    have hq5 : q < w5.heap.size := P5.out.blk.lt
    have hl5 := B5.out.lt
    have hk5 := K5.out.lt
    have P7 := Lib.hid (P5.out.on AL)
    have B7 : Hid (Blk (w5.alloc (.cells #[.string ⟨#[75, 69, 89]⟩] 9)) g 62 #[.string ⟨#[]⟩, .int .i64 0, .bool false, .bool false]) := Lib.hid (B5.out.below AL hl5)
    have K7 : Hid (Blk (w5.alloc (.cells #[.string ⟨#[75, 69, 89]⟩] 9)) g3 62 #[.string T, .int .i64 (ty : Int), .bool false, .bool false]) := Lib.hid (K5.out.below AL hk5)
    have F7 := Lib.hid (F5.out.trans (Fq.of (q := q) AL (Nat.le_of_lt hl5)))
    have hz7 : (w5.alloc (.cells #[.string ⟨#[75, 69, 89]⟩] 9)).heap.size = w5.heap.size + 1 := by simp
    have WD := words_any [[75, 69, 89]] 1 w5.heap.size (w5.alloc (.cells #[.string ⟨#[75, 69, 89]⟩] 9)) base q c E (r3 + 1) o A L _ _ P7.out rfl (by omega) ⟨by simp, fun i hi => by
      obtain rfl : i = 0 := by simp at hi; omega
      exact (Blk.new w5 9 #[.string ⟨#[75, 69, 89]⟩]).cell 0⟩ (by omega)
    unfold wordsF wordsF at WD
    clear AL
    cases hk : isB (tokAt L E (r3 + 1)) [75, 69, 89] with
    | false =>
      rw [hk] at WD
      have hY3 := (if_neg (by rw [hk]; decide)).symm.trans hY2
      subst hY3
      have WH : Hid (Calls Tryz.prog 49 #[.pointer (some ⟨q, 0, none⟩), .slice (some ⟨w5.heap.size, 0, none⟩) 1 1] (w5.alloc (.cells #[.string ⟨#[75, 69, 89]⟩] 9)) (Rd (w5.alloc (.cells #[.string ⟨#[75, 69, 89]⟩] 9)) base q A c L E M V o (.error (210, (r3 + 1))))) := Lib.hid WD
      clear WD
      go_wp2_with (go_at_call 49; refine WH.out.mono ?_; rintro e w8 hR; obtain ⟨rfl, hF⟩ := Rd.err hR; have F8 := Lib.hid (F7.out.trans (hF.mono (by omega))); clear hR hF)
      exact ⟨rfl, rfl, by rw [hg]; exact F8.out⟩
    | true =>
      rw [hk] at WD
      have hY3 := (if_pos hk).symm.trans hY2
      subst hY3
      have WH : Hid (Calls Tryz.prog 49 #[.pointer (some ⟨q, 0, none⟩), .slice (some ⟨w5.heap.size, 0, none⟩) 1 1] (w5.alloc (.cells #[.string ⟨#[75, 69, 89]⟩] 9)) fun e w' => e = .returned (.tuple #[]) ∧ Pt w' base q A c L E M V (r3 + 2) o ∧ Fq (w5.alloc (.cells #[.string ⟨#[75, 69, 89]⟩] 9)).heap.size q (w5.alloc (.cells #[.string ⟨#[75, 69, 89]⟩] 9)) w') := Lib.hid WD
      clear WD
      go_upto_region 8 with (go_at_call 49; refine WH.out.mono ?_; rintro e w8 ⟨rfl, hP, hF⟩; have P8 := Lib.hid hP; have F8 := Lib.hid (F7.out.trans (hF.mono (by omega))); have B8 : Hid (Blk w8 g 62 #[.string ⟨#[]⟩, .int .i64 0, .bool false, .bool false]) := Lib.hid ((Fy.ofq hF).keep g 62 _ B7.out (by omega) (by decide)); have K8 : Hid (Blk w8 g3 62 #[.string T, .int .i64 (ty : Int), .bool false, .bool false]) := Lib.hid ((Fy.ofq hF).keep g3 62 _ K7.out (by omega) (by decide)); have u2 : w8.cell? ⟨g3, 2, none⟩ = some (.bool false) := K8.out.cell 2; have y2 : w8.frozen? ⟨g3, 2, none⟩ = false := K8.out.frozen 2; clear hP hF)
      clear u2 y2
      have K9 : Hid (Blk (w8.setCell ⟨g3, 2, none⟩ (.bool true)) g3 62 #[.string T, .int .i64 (ty : Int), .bool true, .bool false]) := Lib.hid (K8.out.set_ 2 (.bool true))
      have P9 := Lib.hid (P8.out.keep ((Below.refl base w8).setCell (p := ⟨g3, 2, none⟩) (by show base ≤ g3; omega) (.bool true)))
      have B9 : Hid (Blk (w8.setCell ⟨g3, 2, none⟩ (.bool true)) g 62 #[.string ⟨#[]⟩, .int .i64 0, .bool false, .bool false]) := Lib.hid (B8.out.far (by show g ≠ g3; omega) _)
      have F9 := Lib.hid (F8.out.trans (Fq.of (q := q) ((Below.refl g w8).setCell (p := ⟨g3, 2, none⟩) (by show g ≤ g3; omega) (.bool true)) (Nat.le_refl g)))
      generalize w8.setCell ⟨g3, 2, none⟩ (.bool true) = w9 at *
      go_wp2_with (first
        | ((with_reducible refine at_load (t := 62) ?_); refine wpList_load_mid rfl 62 _ rfl g3 0 rfl [.string T, .int .i64 (ty : Int), .bool true, .bool false] _ (Blk.rng (cs := [.string T, .int .i64 (ty : Int), .bool true, .bool false]) K9.out) Tryz.underlying62 rfl Tryz.i62 ?_)
        | ((with_reducible refine at_store (t := 62) ?_); refine wpList_store_blk _ rfl 62 _ _ rfl g _ 62 [.string T, .int .i64 (ty : Int), .bool true, .bool false] rfl rfl B9.out rfl Tryz.i62 (by simp [Value.oneCell']) ?_; intro w11 hb11 ho11; have X11 := Lib.hid hb11; have P11 := Lib.hid (P9.out.keep (ho11.below (by omega))); have F11 := Lib.hid (F9.out.trans (Fq.of (q := q) (ho11.below (Nat.le_refl g)) (Nat.le_refl g))); clear hb11 ho11))
      exact bodyPost_ret (ret_cell1_tmp rfl _ _ g 62 _ _ rfl X11.out Tryz.underlying62 rfl Tryz.i62) rfl ⟨congrArg (fun x => Ending.returned (.agg #[x, .int .i64 (ty : Int), .bool true, .bool false])) HN.out.symm, P11.out, by rw [hg]; exact F11.out⟩
    
  | false =>
    rw [hp] at FDP
    have hY1 := (if_neg (by rw [hp]; decide)).symm.trans HY.out
    have FH := Lib.hid FDP
    have FN := Lib.hid (fun W (hP : Pt W base q A c L E M V r3 o) => found_any [78, 79, 84] W base q c E r3 o A L M V hP)
    clear FDP
    cases hn : isB (tokAt L E r3) [78, 79, 84] with
    | true =>
      rw [hn] at FN
      have hY2 := (if_pos hn).symm.trans hY1
      go_upto_region 6 with (first
        | (go_at_call 82; refine FH.out.mono ?_; rintro e w5 ⟨rfl, hP, hF⟩; have P5 : Hid (Pt w5 base q A c L E M V r3 o) := Lib.hid hP; have B5 : Hid (Blk w5 g 62 #[.string ⟨#[]⟩, .int .i64 0, .bool false, .bool false]) := Lib.hid ((Fy.ofq hF).keep g 62 _ B4.out (by omega) (by decide)); have K5 : Hid (Blk w5 g3 62 #[.string T, .int .i64 (ty : Int), .bool false, .bool false]) := Lib.hid ((Fy.ofq hF).keep g3 62 _ K4.out (by omega) (by decide)); have F5 := Lib.hid (F4.out.trans (hF.mono (Nat.le_of_lt B4.out.lt))); clear hP hF FH)
        | (go_at_call 82; refine (FN.out _ P5.out).mono ?_; rintro e w6 ⟨rfl, hP, hF⟩; have P6 : Hid (Pt w6 base q A c L E M V (r3 + 1) o) := Lib.hid hP; have B6 : Hid (Blk w6 g 62 #[.string ⟨#[]⟩, .int .i64 0, .bool false, .bool false]) := Lib.hid ((Fy.ofq hF).keep g 62 _ B5.out (by omega) (by decide)); have K6 : Hid (Blk w6 g3 62 #[.string T, .int .i64 (ty : Int), .bool false, .bool false]) := Lib.hid ((Fy.ofq hF).keep g3 62 _ K5.out (by omega) (by decide)); have F6 := Lib.hid (F5.out.trans (hF.mono (Nat.le_of_lt B5.out.lt))); clear hP hF))
      have AL : Below w6.heap.size w6 (w6.alloc (.cells #[.string ⟨#[78, 85, 76, 76]⟩] 9)) := (Below.refl _ _).alloc (Nat.le_refl _) _
      have hq5 : q < w6.heap.size := P6.out.blk.lt
      have hl5 := B6.out.lt
      have hk5 := K6.out.lt
      have P7 := Lib.hid (P6.out.on AL)
      have B7 : Hid (Blk (w6.alloc (.cells #[.string ⟨#[78, 85, 76, 76]⟩] 9)) g 62 #[.string ⟨#[]⟩, .int .i64 0, .bool false, .bool false]) := Lib.hid (B6.out.below AL hl5)
      have K7 : Hid (Blk (w6.alloc (.cells #[.string ⟨#[78, 85, 76, 76]⟩] 9)) g3 62 #[.string T, .int .i64 (ty : Int), .bool false, .bool false]) := Lib.hid (K6.out.below AL hk5)
      have F7 := Lib.hid (F6.out.trans (Fq.of (q := q) AL (Nat.le_of_lt hl5)))
      have hz7 : (w6.alloc (.cells #[.string ⟨#[78, 85, 76, 76]⟩] 9)).heap.size = w6.heap.size + 1 := by simp
      have WD := words_any [[78, 85, 76, 76]] 1 w6.heap.size (w6.alloc (.cells #[.string ⟨#[78, 85, 76, 76]⟩] 9)) base q c E (r3 + 1) o A L _ _ P7.out rfl (by omega) ⟨by simp, fun i hi => by
        obtain rfl : i = 0 := by simp at hi; omega
        exact (Blk.new w6 9 #[.string ⟨#[78, 85, 76, 76]⟩]).cell 0⟩ (by omega)
      unfold wordsF wordsF at WD
      clear AL
      cases hk : isB (tokAt L E (r3 + 1)) [78, 85, 76, 76] with
      | false =>
        rw [hk] at WD
        have hY3 := (if_neg (by rw [hk]; decide)).symm.trans hY2
        subst hY3
        have WH : Hid (Calls Tryz.prog 49 #[.pointer (some ⟨q, 0, none⟩), .slice (some ⟨w6.heap.size, 0, none⟩) 1 1] (w6.alloc (.cells #[.string ⟨#[78, 85, 76, 76]⟩] 9)) (Rd (w6.alloc (.cells #[.string ⟨#[78, 85, 76, 76]⟩] 9)) base q A c L E M V o (.error (210, (r3 + 1))))) := Lib.hid WD
        clear WD
        go_wp2_with (go_at_call 49; refine WH.out.mono ?_; rintro e w8 hR; obtain ⟨rfl, hF⟩ := Rd.err hR; have F8 := Lib.hid (F7.out.trans (hF.mono (by omega))); clear hR hF)
        exact ⟨rfl, rfl, by rw [hg]; exact F8.out⟩
      | true =>
        rw [hk] at WD
        have hY3 := (if_pos hk).symm.trans hY2
        subst hY3
        have WH : Hid (Calls Tryz.prog 49 #[.pointer (some ⟨q, 0, none⟩), .slice (some ⟨w6.heap.size, 0, none⟩) 1 1] (w6.alloc (.cells #[.string ⟨#[78, 85, 76, 76]⟩] 9)) fun e w' => e = .returned (.tuple #[]) ∧ Pt w' base q A c L E M V (r3 + 2) o ∧ Fq (w6.alloc (.cells #[.string ⟨#[78, 85, 76, 76]⟩] 9)).heap.size q (w6.alloc (.cells #[.string ⟨#[78, 85, 76, 76]⟩] 9)) w') := Lib.hid WD
        clear WD
        go_upto_region 8 with (go_at_call 49; refine WH.out.mono ?_; rintro e w8 ⟨rfl, hP, hF⟩; have P8 := Lib.hid hP; have F8 := Lib.hid (F7.out.trans (hF.mono (by omega))); have B8 : Hid (Blk w8 g 62 #[.string ⟨#[]⟩, .int .i64 0, .bool false, .bool false]) := Lib.hid ((Fy.ofq hF).keep g 62 _ B7.out (by omega) (by decide)); have K8 : Hid (Blk w8 g3 62 #[.string T, .int .i64 (ty : Int), .bool false, .bool false]) := Lib.hid ((Fy.ofq hF).keep g3 62 _ K7.out (by omega) (by decide)); have u2 : w8.cell? ⟨g3, 3, none⟩ = some (.bool false) := K8.out.cell 3; have y2 : w8.frozen? ⟨g3, 3, none⟩ = false := K8.out.frozen 3; clear hP hF)
        clear u2 y2
        have K9 : Hid (Blk (w8.setCell ⟨g3, 3, none⟩ (.bool true)) g3 62 #[.string T, .int .i64 (ty : Int), .bool false, .bool true]) := Lib.hid (K8.out.set_ 3 (.bool true))
        have P9 := Lib.hid (P8.out.keep ((Below.refl base w8).setCell (p := ⟨g3, 3, none⟩) (by show base ≤ g3; omega) (.bool true)))
        have B9 : Hid (Blk (w8.setCell ⟨g3, 3, none⟩ (.bool true)) g 62 #[.string ⟨#[]⟩, .int .i64 0, .bool false, .bool false]) := Lib.hid (B8.out.far (by show g ≠ g3; omega) _)
        have F9 := Lib.hid (F8.out.trans (Fq.of (q := q) ((Below.refl g w8).setCell (p := ⟨g3, 3, none⟩) (by show g ≤ g3; omega) (.bool true)) (Nat.le_refl g)))
        generalize w8.setCell ⟨g3, 3, none⟩ (.bool true) = w9 at *
        go_wp2_with (first
          | ((with_reducible refine at_load (t := 62) ?_); refine wpList_load_mid rfl 62 _ rfl g3 0 rfl [.string T, .int .i64 (ty : Int), .bool false, .bool true] _ (Blk.rng (cs := [.string T, .int .i64 (ty : Int), .bool false, .bool true]) K9.out) Tryz.underlying62 rfl Tryz.i62 ?_)
          | ((with_reducible refine at_store (t := 62) ?_); refine wpList_store_blk _ rfl 62 _ _ rfl g _ 62 [.string T, .int .i64 (ty : Int), .bool false, .bool true] rfl rfl B9.out rfl Tryz.i62 (by simp [Value.oneCell']) ?_; intro w11 hb11 ho11; have X11 := Lib.hid hb11; have P11 := Lib.hid (P9.out.keep (ho11.below (by omega))); have F11 := Lib.hid (F9.out.trans (Fq.of (q := q) (ho11.below (Nat.le_refl g)) (Nat.le_refl g))); clear hb11 ho11))
        exact bodyPost_ret (ret_cell1_tmp rfl _ _ g 62 _ _ rfl X11.out Tryz.underlying62 rfl Tryz.i62) rfl ⟨congrArg (fun x => Ending.returned (.agg #[x, .int .i64 (ty : Int), .bool false, .bool true])) HN.out.symm, P11.out, by rw [hg]; exact F11.out⟩
      
    | false =>
      rw [hn] at FN
      have hY3 := (if_neg (by rw [hn]; decide)).symm.trans hY1
      subst hY3
      go_upto_region 8 with (first
        | (go_at_call 82; refine FH.out.mono ?_; rintro e w5 ⟨rfl, hP, hF⟩; have P5 : Hid (Pt w5 base q A c L E M V r3 o) := Lib.hid hP; have B5 : Hid (Blk w5 g 62 #[.string ⟨#[]⟩, .int .i64 0, .bool false, .bool false]) := Lib.hid ((Fy.ofq hF).keep g 62 _ B4.out (by omega) (by decide)); have K5 : Hid (Blk w5 g3 62 #[.string T, .int .i64 (ty : Int), .bool false, .bool false]) := Lib.hid ((Fy.ofq hF).keep g3 62 _ K4.out (by omega) (by decide)); have F5 := Lib.hid (F4.out.trans (hF.mono (Nat.le_of_lt B4.out.lt))); clear hP hF FH)
        | (go_at_call 82; refine (FN.out _ P5.out).mono ?_; rintro e w6 ⟨rfl, hP, hF⟩; have P6 : Hid (Pt w6 base q A c L E M V r3 o) := Lib.hid hP; have B6 : Hid (Blk w6 g 62 #[.string ⟨#[]⟩, .int .i64 0, .bool false, .bool false]) := Lib.hid ((Fy.ofq hF).keep g 62 _ B5.out (by omega) (by decide)); have K6 : Hid (Blk w6 g3 62 #[.string T, .int .i64 (ty : Int), .bool false, .bool false]) := Lib.hid ((Fy.ofq hF).keep g3 62 _ K5.out (by omega) (by decide)); have F6 := Lib.hid (F5.out.trans (hF.mono (Nat.le_of_lt B5.out.lt))); clear hP hF))
      go_wp2_with (first
        | ((with_reducible refine at_load (t := 62) ?_); refine wpList_load_mid rfl 62 _ rfl g3 0 rfl [.string T, .int .i64 (ty : Int), .bool false, .bool false] _ (Blk.rng (cs := [.string T, .int .i64 (ty : Int), .bool false, .bool false]) K6.out) Tryz.underlying62 rfl Tryz.i62 ?_)
        | ((with_reducible refine at_store (t := 62) ?_); refine wpList_store_blk _ rfl 62 _ _ rfl g _ 62 [.string T, .int .i64 (ty : Int), .bool false, .bool false] rfl rfl B6.out rfl Tryz.i62 (by simp [Value.oneCell']) ?_; intro w11 hb11 ho11; have X11 := Lib.hid hb11; have P11 := Lib.hid (P6.out.keep (ho11.below (by omega))); have F11 := Lib.hid (F6.out.trans (Fq.of (q := q) (ho11.below (Nat.le_refl g)) (Nat.le_refl g))); clear hb11 ho11))
      exact bodyPost_ret (ret_cell1_tmp rfl _ _ g 62 _ _ rfl X11.out Tryz.underlying62 rfl Tryz.i62) rfl ⟨congrArg (fun x => Ending.returned (.agg #[x, .int .i64 (ty : Int), .bool false, .bool false])) HN.out.symm, P11.out, by rw [hg]; exact F11.out⟩
end Go.Proofs.YtiipglmbfgmbbaaGreatDoor
