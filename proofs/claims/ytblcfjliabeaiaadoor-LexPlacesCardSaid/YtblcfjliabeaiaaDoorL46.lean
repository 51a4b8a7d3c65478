/-
  Tokens stand one behind the other: LexPlaces.
-/
import Derived.Test.YtblcfjliabeaiaaDoorL45
namespace Go.Proofs.YtblcfjliabeaiaaDoor
open Go.RowKit Go.Shelf
attribute [local go_sem] Oper.semAt_some

theorem map_getD {ts : List Tk} {i : Nat} (hi : i < ts.length) : (ts.map Tk.q).getD i errQ = (ts.getD i (errT 0)).q := by simp [List.getD, hi]

set_option maxRecDepth 100000 in
set_option maxHeartbeats 8000000 in
theorem places_walk (s : List UInt8) (w : World) (hG : Gl w) :
    Calls Tryd.prog 6 #[tx s] w fun e w' => e = .returned (.bool true) ∧ Below w.heap.size w w' := by
  have WK := Lib.hid (wakes_any w hG)
  have GH := Lib.hid hG
  have TE := Lib.hid (fun W => text_any s W)
  have SL : (s.take 1025).length ≤ 1025 := by rw [List.length_take]; omega
  generalize s.take 1025 = l at *
  have LS := Lib.hid (fun W h => lex_any l (by omega) W h)
  have LX := Lib.hid (fun (p q : Nat) (h : p ≤ q) (hq : q ≤ l.length) W hW => lex_any (cutF l p q) (by rw [cut_len h hq]; omega) W hW)
  unfold Lexd at LS LX
  clear hG
  rcases lexF_cases l with ⟨ts, hl⟩ | ⟨e, a, hl, he, ha⟩
  · rw [hl] at LS
    obtain ⟨PL, UL, -, L1⟩ := lexF_plc hl
    have P1 := Lib.hid (fun i (hi : i < ts.length) => plc_one L1 PL hi)
    obtain ⟨E1, E2⟩ := plc_end L1 PL
    have E2 := Lib.hid E2
    clear hl PL
    go_enter Tryd.func6, Tryd.ntmps6
    go_upto_region 7 with (first
      | (go_at_call 8; refine WK.out.mono ?_; rintro e w1 ⟨rfl, hb⟩; have H1 := Lib.hid hb; clear hb WK)
      | (go_at_call 26; refine (TE.out _).mono ?_; rintro e w2 ⟨rfl, rfl⟩; clear TE)
      | (go_at_call 25; refine (LS.out _ (GH.out.on H1.out)).mono ?_; rintro e w3 ⟨A, n, c, rfl, ht, hb⟩; have T3 := Lib.hid ht; have H3 := Lib.hid (H1.out.trans (hb.mono H1.out.size)); clear ht hb LS))
    have nl : ts.length = n := T3.out.len
    have AL := Lib.hid ((Below.refl _ _ : Below w3.heap.size w3 w3).alloc (Nat.le_refl _) (.cells #[.int .i64 0, .int .i64 0] 42))
    have H4 := Lib.hid (H3.out.trans (AL.out.mono H3.out.size))
    have T4 := Lib.hid ((T3.out.below AL.out).trd)
    clear T3 H3
    generalize w3.alloc (.cells #[.int .i64 0, .int .i64 0] 42) = w4 at *
    go_wp2_with fail
    go_loopw [5, 31] (fun v5 v31 wr => ∃ i : Nat, i ≤ n ∧ v5 = .int .i64 ((endF ts i : Nat) : Int) ∧ v31 = .int .i64 (i : Int) ∧ Hid (Below w4.heap.size w4 wr)) (fun _ v31 _ => n - (intOf v31).toNat)
    case atStart => exact ⟨0, Nat.zero_le _, rfl, rfl, Lib.hid (Below.refl _ _)⟩
    case round =>
      obtain ⟨i, hi, rfl, rfl, HB⟩ := hrel
      by_cases hlt : i < n
      · have i0 : (0 : Int) ≤ (i : Int) := by omega
        have i1 : (i : Int) < (n : Int) := by omega
        obtain ⟨b, o, rfl, hbB, x0, x1, x2, x3, x4⟩ := (T4.out.below HB.out).at_ hlt
        rw [map_getD (by omega)] at x0 x1 x2 x3 x4
        have Q := Lib.hid (P1.out i (by omega))
        obtain ⟨t, ht⟩ : ∃ t, ts.getD i (errT 0) = t := ⟨_, rfl⟩
        have ET : Hid (endF ts (i + 1) = t.to_) := Lib.hid (by rw [← ht]; rfl)
        rw [ht] at x0 x1 x2 x3 x4 Q
        clear ht
        generalize endF ts i = E at *
        obtain ⟨kind, text, num, aa, to_⟩ := t
        simp only [Tk.q] at x0 x1 x2 x3 x4
        obtain ⟨qa, qb, qc⟩ : E ≤ aa ∧ aa < to_ ∧ to_ ≤ l.length := ⟨Q.out.a, Q.out.b, Q.out.c⟩
        have f1 : decide ((aa : Int) < (E : Int)) = false := decide_eq_false (by omega)
        have f2 : decide ((to_ : Int) ≤ (aa : Int)) = false := decide_eq_false (by omega)
        have f3 : decide ((l.length : Int) < (to_ : Int)) = false := decide_eq_false (by omega)
        have f4 : decide (aa < E) = false := decide_eq_false (by omega)
        have f5 : decide (to_ ≤ aa) = false := decide_eq_false (by omega)
        have f6 : decide (l.length < to_) = false := decide_eq_false (by omega)
        have p0 : (0 : Int) ≤ (E : Int) := by omega
        have p1 : (E : Int) ≤ (aa : Int) := by omega
        have p2 : (aa : Int) ≤ (l.length : Int) := by omega
        have p3 : (0 : Int) ≤ (aa : Int) := by omega
        have p4 : (aa : Int) ≤ (to_ : Int) := by omega
        have p5 : (to_ : Int) ≤ (l.length : Int) := by omega
        have EX1 := ext_eq l E aa
        have EX2 := ext_eq l aa to_
        have G1 := Lib.hid (LX.out E aa qa (by omega))
        have G2 := Lib.hid (LX.out aa to_ (by omega) qc)
        rw [Q.out.gap] at G1
        rw [Q.out.own] at G2
        clear Q qa qb qc
        generalize cutF l E aa = c1 at *
        generalize cutF l aa to_ = c2 at *
        obtain ⟨T, hT⟩ : ∃ T : ByteArray, (⟨text.toArray⟩ : ByteArray) = T := ⟨_, rfl⟩
        replace x1 : wr.cell? ⟨b, o + i * 5 + 1, none⟩ = some (.string T) := by rw [← hT]; exact x1
        have HT := Lib.hid hT
        clear hT
        have B6 : Hid (Blk (wr.alloc (.cells #[.int .i64 kind, .string T, .int .i64 num, .int .i64 (aa : Int), .int .i64 (to_ : Int)] 47)) wr.heap.size 47 #[.int .i64 kind, .string T, .int .i64 num, .int .i64 (aa : Int), .int .i64 (to_ : Int)]) := Lib.hid (Blk.new _ _ _)
        have K6 := Lib.hid (HB.out.alloc HB.out.size (.cells #[.int .i64 kind, .string T, .int .i64 num, .int .i64 (aa : Int), .int .i64 (to_ : Int)] 47))
        go_upto_region 11 with fail
        obtain ⟨q, hq⟩ : ∃ q, wr.heap.size = q := ⟨_, rfl⟩
        rw [hq] at B6 ⊢
        clear hq x0 x1 x2 x3 x4
        generalize wr.alloc (.cells #[.int .i64 kind, .string T, .int .i64 num, .int .i64 (aa : Int), .int .i64 (to_ : Int)] 47) = w6 at *
        have z3 : w6.cell? ⟨q, 3, none⟩ = some (.int .i64 (aa : Int)) := B6.out.cell 3
        have z4 : w6.cell? ⟨q, 4, none⟩ = some (.int .i64 (to_ : Int)) := B6.out.cell 4
        go_upto_region 14 with (go_at_call 25; refine (G1.out w6 (GH.out.on (H4.out.trans (K6.out.mono H4.out.size)))).mono ?_; rintro e w7 ⟨A7, n7, c7, rfl, ht, hb⟩; obtain rfl : 0 = n7 := ht.len; have K7 := Lib.hid (K6.out.trans (hb.mono K6.out.size)); have B7 : Hid (Blk w7 q 47 #[.int .i64 kind, .string T, .int .i64 num, .int .i64 (aa : Int), .int .i64 (to_ : Int)]) := Lib.hid (B6.out.below hb B6.out.lt); clear ht hb)
        have B8 : Hid (Blk (w7.alloc (.cells #[.int .i64 0, .int .i64 0] 42)) q 47 #[.int .i64 kind, .string T, .int .i64 num, .int .i64 (aa : Int), .int .i64 (to_ : Int)]) := Lib.hid (Blk.alloc B7.out _)
        have K8 := Lib.hid (K7.out.alloc K7.out.size (.cells #[.int .i64 0, .int .i64 0] 42))
        have C8 : Hid (Blk (w7.alloc (.cells #[.int .i64 0, .int .i64 0] 42)) w7.heap.size 42 #[.int .i64 0, .int .i64 0]) := Lib.hid (Blk.new _ _ _)
        generalize w7.heap.size = r7 at *
        clear B6 B7 K6 K7 z3 z4
        generalize w7.alloc (.cells #[.int .i64 0, .int .i64 0] 42) = w8 at *
        have s0 : w8.cell? ⟨r7, 0, none⟩ = some (.int .i64 0) := C8.out.cell 0
        have s1 : w8.cell? ⟨r7, 1, none⟩ = some (.int .i64 0) := C8.out.cell 1
        have y0 : w8.cell? ⟨q, 0, none⟩ = some (.int .i64 kind) := B8.out.cell 0
        have y1 : w8.cell? ⟨q, 1, none⟩ = some (.string T) := B8.out.cell 1
        have y2 : w8.cell? ⟨q, 2, none⟩ = some (.int .i64 num) := B8.out.cell 2
        have y3 : w8.cell? ⟨q, 3, none⟩ = some (.int .i64 (aa : Int)) := B8.out.cell 3
        have y4 : w8.cell? ⟨q, 4, none⟩ = some (.int .i64 (to_ : Int)) := B8.out.cell 4
        go_upto_region 17 with (go_at_call 25; refine (G2.out w8 (GH.out.on (H4.out.trans (K8.out.mono H4.out.size)))).mono ?_; rintro e w9 ⟨A9, n9, c9, rfl, ht, hb⟩; obtain rfl : 1 = n9 := ht.len; have K9 := Lib.hid (K8.out.trans (hb.mono K8.out.size)); have B9 : Hid (Blk w9 q 47 #[.int .i64 kind, .string T, .int .i64 num, .int .i64 (aa : Int), .int .i64 (to_ : Int)]) := Lib.hid (B8.out.below hb B8.out.lt); have T9 := Lib.hid ht; clear ht hb)
        have B10 : Hid (Blk (w9.alloc (.cells #[.int .i64 0, .int .i64 0] 42)) q 47 #[.int .i64 kind, .string T, .int .i64 num, .int .i64 (aa : Int), .int .i64 (to_ : Int)]) := Lib.hid (Blk.alloc B9.out _)
        have K10 := Lib.hid (K9.out.alloc K9.out.size (.cells #[.int .i64 0, .int .i64 0] 42))
        have T10 := Lib.hid (T9.out.below ((Below.refl _ _).alloc (Nat.le_refl _) (.cells #[.int .i64 0, .int .i64 0] 42))).trd
        have C10 : Hid (Blk (w9.alloc (.cells #[.int .i64 0, .int .i64 0] 42)) w9.heap.size 42 #[.int .i64 0, .int .i64 0]) := Lib.hid (Blk.new _ _ _)
        clear y0 y1 y2 y3 y4 B8 K8 B9 K9 T9 C8 s0 s1
        generalize w9.heap.size = r9 at *
        generalize w9.alloc (.cells #[.int .i64 0, .int .i64 0] 42) = w10 at *
        have s0 : w10.cell? ⟨r9, 0, none⟩ = some (.int .i64 0) := C10.out.cell 0
        have s1 : w10.cell? ⟨r9, 1, none⟩ = some (.int .i64 0) := C10.out.cell 1
        have y0 : w10.cell? ⟨q, 0, none⟩ = some (.int .i64 kind) := B10.out.cell 0
        have y1 : w10.cell? ⟨q, 1, none⟩ = some (.string T) := B10.out.cell 1
        have y2 : w10.cell? ⟨q, 2, none⟩ = some (.int .i64 num) := B10.out.cell 2
        have y3 : w10.cell? ⟨q, 3, none⟩ = some (.int .i64 (aa : Int)) := B10.out.cell 3
        have y4 : w10.cell? ⟨q, 4, none⟩ = some (.int .i64 (to_ : Int)) := B10.out.cell 4
        have AL11 : Below w10.heap.size w10 (w10.alloc (.cells #[.int .i64 kind, .string T, .int .i64 num, .int .i64 (aa : Int), .int .i64 (to_ : Int)] 47)) := (Below.refl _ _).alloc (Nat.le_refl _) _
        have T11 := T10.out.on AL11
        have N11 : Trd (w10.alloc (.cells #[.int .i64 kind, .string T, .int .i64 num, .int .i64 (aa : Int), .int .i64 (to_ : Int)] 47)) (w10.alloc (.cells #[.int .i64 kind, .string T, .int .i64 num, .int .i64 (aa : Int), .int .i64 (to_ : Int)] 47)).heap.size (some ⟨w10.heap.size, 0, none⟩) 1 [⟨kind, text, num, (aa : Int), (to_ : Int)⟩] :=
          ⟨rfl, fun _ => ⟨w10.heap.size, 0, rfl, by simp, fun j hj k hk => by
            obtain rfl : j = 0 := by omega
            have := (Blk.new w10 47 #[.int .i64 kind, .string T, .int .i64 num, .int .i64 (aa : Int), .int .i64 (to_ : Int)]).cell k
            rw [Nat.zero_mul, Nat.zero_add, this]
            show _ = [Value.int .i64 kind, Value.string ⟨text.toArray⟩, Value.int .i64 num, Value.int .i64 (aa : Int), Value.int .i64 (to_ : Int)][k]?
            rw [HT.out]
            simp⟩⟩
        have S11 := same_any A9 (some ⟨w10.heap.size, 0, none⟩) 1 1 c9 1 _ _ _ (w10.alloc (.cells #[.int .i64 kind, .string T, .int .i64 num, .int .i64 (aa : Int), .int .i64 (to_ : Int)] 47)) T11 N11 (by omega) (by omega) (Nat.le_refl _)
        rw [show samR ([(⟨kind, text, num, 0, to_ - aa⟩ : Tk)].map Tk.q) [⟨kind, text, num, (aa : Int), (to_ : Int)⟩] = true from decide_eq_true rfl] at S11
        have SH := Lib.hid S11
        have K11 := Lib.hid (K10.out.trans (AL11.mono K10.out.size))
        have B11 : Hid (Blk (w10.alloc (.cells #[.int .i64 kind, .string T, .int .i64 num, .int .i64 (aa : Int), .int .i64 (to_ : Int)] 47)) q 47 #[.int .i64 kind, .string T, .int .i64 num, .int .i64 (aa : Int), .int .i64 (to_ : Int)]) := Lib.hid (Blk.alloc B10.out _)
        clear AL11 T11 N11 S11 HT
        go_upto_region 19 with (go_at_call 12; refine SH.out.mono ?_; rintro e w12 ⟨rfl, hb⟩; have K12 := Lib.hid (K11.out.trans (hb.mono K11.out.size)); have B12 : Hid (Blk w12 q 47 #[.int .i64 kind, .string T, .int .i64 num, .int .i64 (aa : Int), .int .i64 (to_ : Int)]) := Lib.hid (B11.out.below hb B11.out.lt); clear hb)
        have z4 : w12.cell? ⟨q, 4, none⟩ = some (.int .i64 (to_ : Int)) := B12.out.cell 4
        go_wp2_with fail
        go_roundw
        case rel => exact ⟨i + 1, by omega, by rw [ET.out], by go_num, K12⟩
        case measure => simp [intOf]; omega
      · obtain rfl : i = n := by omega
        have p0 : (0 : Int) ≤ (endF ts i : Int) := by omega
        have p1 : (endF ts i : Int) ≤ (l.length : Int) := by rw [nl] at E1; omega
        have EX1 := ext_eq l (endF ts i) l.length
        rw [cut_all_drop] at EX1
        have G1 := Lib.hid (fun W hW => lex_any (l.drop (endF ts i)) (by rw [List.length_drop]; omega) W hW)
        unfold Lexd at G1
        rw [nl] at E2
        rw [E2.out] at G1
        generalize l.drop (endF ts i) = d1 at *
        generalize endF ts i = E at *
        go_wp2_with (go_at_call 25; refine (G1.out _ (GH.out.on (H4.out.trans (HB.out.mono H4.out.size)))).mono ?_; rintro e w7 ⟨A7, n7, c7, rfl, ht, hb⟩; obtain rfl : 0 = n7 := ht.len; have K7 := Lib.hid ((H4.out.trans (HB.out.mono H4.out.size)).trans (hb.mono (H4.out.trans (HB.out.mono H4.out.size)).size)); clear ht hb)
        go_ret
        exact ⟨by simp, K7.out.alloc K7.out.size _⟩
  · rw [hl] at LS
    have e1 : (e == 0) = false := by simpa using he
    go_enter Tryd.func6, Tryd.ntmps6
    go_wp2_with (first
      | (go_at_call 8; refine WK.out.mono ?_; rintro e w1 ⟨rfl, hb⟩; have H1 := Lib.hid hb; clear hb WK)
      | (go_at_call 26; refine (TE.out _).mono ?_; rintro e w2 ⟨rfl, rfl⟩; clear TE)
      | (go_at_call 25; refine (LS.out _ (GH.out.on H1.out)).mono ?_; rintro e w3 ⟨A, n, c, rfl, ht, hb⟩; obtain rfl : 0 = n := ht.len; have H3 := Lib.hid (H1.out.trans (hb.mono H1.out.size)); clear ht hb LS))
    go_ret
    exact ⟨by simp, H3.out.alloc H3.out.size _⟩
end Go.Proofs.YtblcfjliabeaiaaDoor
