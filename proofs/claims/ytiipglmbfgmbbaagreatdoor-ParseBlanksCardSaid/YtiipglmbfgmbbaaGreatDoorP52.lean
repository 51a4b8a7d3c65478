/-
  The law ParseFirst, walked.
-/
import Derived.Test.YtiipglmbfgmbbaaGreatDoorP51
namespace Go.Proofs.YtiipglmbfgmbbaaGreatDoor
open Go.RowKit Go.Shelf
attribute [local go_sem] Oper.semAt_some
attribute [local go_sem ↓] eq26 eqG26

theorem ba_cat (a b : List UInt8) : (⟨a.toArray⟩ : ByteArray) ++ (⟨b.toArray⟩ : ByteArray) = ⟨(a ++ b).toArray⟩ := by
  apply ByteArray.ext
  rw [ByteArray.data_append]
  simp
theorem Gp.below {w w' : World} (h : Gp w) {B : Nat} (hb : Below B w w') (h1 : 2 ≤ B) : Gp w' := h.fq (Fq.of (q := 2) hb (Nat.le_refl _)) h1 (Nat.le_refl _)
theorem Tks.at5 {w : World} {base n c i : Nat} {A : Option Addr} {ts : List Tk} (h : Tks w base A n c ts) (hi : i < n) : ∃ g, A = some ⟨g, 0, none⟩ ∧ ∀ k, k < 5 → w.cell? ⟨g, i * 5 + k, none⟩ = (ts.getD i (errT 0)).cells[k]? := by
  have hl := h.len
  rcases h.form with ⟨_, h0, _⟩ | ⟨g, rfl, _, _, _⟩
  · omega
  · refine ⟨g, rfl, fun k hk => ?_⟩
    rw [World.ownsRow.cellAt (w := w) (g := g) h (i * 5 + k) (by omega), tkRow_at2 ts i k (by omega) hk]
set_option maxRecDepth 100000 in
set_option maxHeartbeats 4000000 in
theorem first_walk (l b : List UInt8) (w : World) (hG : Gl w) (hP : Gp w) :
    Calls Tryz.prog 6 #[tx l, tx b] w fun e w' => e = .returned (.bool true) ∧ Below w.heap.size w w' := by
  have WK := Lib.hid (wakes_any w hG hP)
  have GH := Lib.hid hG
  have QH := Lib.hid hP
  have h9 := hG.lt
  clear hG hP
  by_cases hbig : l.length ≤ 900 ∧ b.length ≤ 900
  · have b1 : ¬ 9223372036854775807 < l.length + b.length := by omega
    by_cases hsum : 900 < l.length + b.length
    · have d1 : decide ((900 : Int) < (l.length : Int) + (b.length : Int)) = true := decide_eq_true (by omega)
      have d2 : decide (900 < l.length + b.length) = true := decide_eq_true hsum
      go_enter Tryz.func6, Tryz.ntmps6
      go_wp2_with (go_at_call 7; refine WK.out.mono ?_; rintro e w1 ⟨rfl, hb⟩; have H1 := Lib.hid hb; clear hb WK)
      go_ret
      exact ⟨rfl, H1.out⟩
    · have d1 : decide ((900 : Int) < (l.length : Int) + (b.length : Int)) = false := decide_eq_false (by omega)
      have d2 : decide (900 < l.length + b.length) = false := decide_eq_false hsum
      have d3 : decide ((900 : Int) < (l.length : Int)) = false := decide_eq_false (by omega)
      have d4 : decide (900 < l.length) = false := decide_eq_false (by omega)
      have d5 : decide ((900 : Int) < (b.length : Int)) = false := decide_eq_false (by omega)
      have d6 : decide (900 < b.length) = false := decide_eq_false (by omega)
      have PA := Lib.hid (fun W h1 h2 => parse_any l (by omega) W h1 h2)
      go_enter Tryz.func6, Tryz.ntmps6
      go_upto_region 6 with (first
        | (go_at_call 7; refine WK.out.mono ?_; rintro e w1 ⟨rfl, hb⟩; have H1 := Lib.hid hb; clear hb WK)
        | (go_at_call 11; refine (PA.out _ (GH.out.below H1.out h9) (QH.out.below H1.out (by omega))).mono ?_; rintro e w2 ⟨n, ss, er, a, A9, c9, hx, rfl, hS, hb⟩; have X2 := Lib.hid hx; have H2 := Lib.hid (H1.out.trans (hb.mono H1.out.size)); clear hx hS hb PA))
      have H3 := Lib.hid (H2.out.alloc H2.out.size (.cells #[.int .i64 er, .int .i64 (a : Int)] 26))
      have K3 : Hid (Blk (w2.alloc (.cells #[.int .i64 er, .int .i64 (a : Int)] 26)) w2.heap.size 26 #[.int .i64 er, .int .i64 (a : Int)]) := Lib.hid (Blk.new _ _ _)
      generalize w2.heap.size = g6 at *
      generalize w2.alloc (.cells #[.int .i64 er, .int .i64 (a : Int)] 26) = w3 at *
      have x0 : w3.cell? ⟨g6, 0, none⟩ = some (.int .i64 er) := K3.out.cell 0
      go_cut [46] from 39 (fun v46 wx => v46 = .bool (decide (¬ (er = 210 ∨ er = 211))) ∧ wx = w3)
      case first =>
        by_cases h0 : er = 210
        · have HD : Hid (decide (¬ (er = 210 ∨ er = 211)) = false) := Lib.hid (by simp [h0])
          subst h0
          go_wp2_with fail
          go_meet
          case rel => exact ⟨congrArg Value.bool HD.out.symm, rfl⟩
        · by_cases h1 : er = 211
          · have HD : Hid (decide (¬ (er = 210 ∨ er = 211)) = false) := Lib.hid (by simp [h1])
            subst h1
            go_wp2_with fail
            go_meet
            case rel => exact ⟨congrArg Value.bool HD.out.symm, rfl⟩
          · have HD : Hid (decide (¬ (er = 210 ∨ er = 211)) = true) := Lib.hid (by simp [h0, h1])
            have e0 : (er == 210) = false := by simp [h0]
            have e1 : (er == 211) = false := by simp [h1]
            have e2 : (er != 210) = true := by simp [h0]
            have e3 : (er != 211) = true := by simp [h1]
            go_wp2_with fail
            go_meet
            case rel => exact ⟨congrArg Value.bool HD.out.symm, rfl⟩
      case rest =>
        obtain ⟨rfl, rfl⟩ := hcut
        by_cases her : er = 210 ∨ er = 211
        · rw [decide_eq_false (fun h => h her)]
          obtain ⟨ts, hlex, h300, hcase⟩ := psF_first X2.out her
          have HC := Lib.hid hcase
          have LS := Lib.hid (fun W h => lex_any l (by omega) W h)
          unfold Lexd at LS
          rw [hlex] at LS
          clear hcase hlex her X2 x0
          go_upto_region 9 with (go_at_call 13; refine (LS.out _ (GH.out.below H3.out h9)).mono ?_; rintro e w4 ⟨A4, n4, c4, rfl, ht, hb⟩; have T4 := Lib.hid ht; have H4 := Lib.hid (H3.out.trans (hb.mono H3.out.size)); have K4' : Hid (Blk w4 g6 26 #[.int .i64 er, .int .i64 (a : Int)]) := Lib.hid (K3.out.below hb K3.out.lt); clear ht hb LS)
          have hn4 : ts.length = n4 := T4.out.len
          have AL : Below w4.heap.size w4 (w4.alloc (.cells #[.int .i64 0, .int .i64 0] 26)) := (Below.refl _ _).alloc (Nat.le_refl _) _
          have H5 := Lib.hid (H4.out.trans (AL.mono H4.out.size))
          have K5 : Hid (Blk (w4.alloc (.cells #[.int .i64 0, .int .i64 0] 26)) g6 26 #[.int .i64 er, .int .i64 (a : Int)]) := Lib.hid (K4'.out.below AL K4'.out.lt)
          have T5 := Lib.hid (T4.out.below AL)
          have z0 : (w4.alloc (.cells #[.int .i64 0, .int .i64 0] 26)).cell? ⟨w4.heap.size, 0, none⟩ = some (.int .i64 0) := (Blk.new w4 26 #[.int .i64 0, .int .i64 0]).cell 0
          clear AL T4 K3 K4' H4
          generalize w4.heap.size = g8 at *
          generalize w4.alloc (.cells #[.int .i64 0, .int .i64 0] 26) = w5 at *
          go_wp2_with fail
          clear z0
          go_loopw [57] (fun v57 wr => ∃ i : Nat, i ≤ n4 ∧ v57 = .int .i64 (i : Int) ∧ Hid (∀ j, j < i → (ts.getD j (errT 0)).at_ ≠ a) ∧ Hid (Below w5.heap.size w5 wr)) (fun v57 _ => n4 - (intOf v57).toNat)
          case atStart => exact ⟨0, Nat.zero_le _, rfl, Lib.hid (fun j hj => by omega), Lib.hid (Below.refl _ _)⟩
          case round =>
            obtain ⟨i, hi, rfl, HN, HB⟩ := hrel
            have KR : Hid (Blk wr g6 26 #[.int .i64 er, .int .i64 (a : Int)]) := Lib.hid (K5.out.below HB.out K5.out.lt)
            by_cases hlt : i < n4
            · have i0 : (0 : Int) ≤ (i : Int) := by omega
              have i1 : (i : Int) < (n4 : Int) := by omega
              obtain ⟨gb, rfl, hz⟩ := (T5.out.below HB.out).at5 hlt
              obtain ⟨t, ht⟩ : ∃ t, ts.getD i (errT 0) = t := ⟨_, rfl⟩
              have HT := Lib.hid ht
              rw [ht] at hz
              obtain ⟨kind, text, num, aa, to_⟩ := t
              obtain ⟨T, hT⟩ : ∃ T : ByteArray, (⟨text.toArray⟩ : ByteArray) = T := ⟨_, rfl⟩
              have x0 : wr.cell? ⟨gb, i * 5, none⟩ = some (.int .i64 kind) := hz 0 (by omega)
              have x1 : wr.cell? ⟨gb, i * 5 + 1, none⟩ = some (.string T) := by rw [← hT]; exact hz 1 (by omega)
              have x2 : wr.cell? ⟨gb, i * 5 + 2, none⟩ = some (.int .i64 num) := hz 2 (by omega)
              have x3 : wr.cell? ⟨gb, i * 5 + 3, none⟩ = some (.int .i64 (aa : Int)) := hz 3 (by omega)
              have x4 : wr.cell? ⟨gb, i * 5 + 4, none⟩ = some (.int .i64 (to_ : Int)) := hz 4 (by omega)
              clear hz ht hT
              have B6 : Hid (Blk (wr.alloc (.cells #[.int .i64 kind, .string T, .int .i64 num, .int .i64 (aa : Int), .int .i64 (to_ : Int)] 50)) wr.heap.size 50 #[.int .i64 kind, .string T, .int .i64 num, .int .i64 (aa : Int), .int .i64 (to_ : Int)]) := Lib.hid (Blk.new _ _ _)
              have H6 := Lib.hid (HB.out.alloc HB.out.size (.cells #[.int .i64 kind, .string T, .int .i64 num, .int .i64 (aa : Int), .int .i64 (to_ : Int)] 50))
              have K6 : Hid (Blk (wr.alloc (.cells #[.int .i64 kind, .string T, .int .i64 num, .int .i64 (aa : Int), .int .i64 (to_ : Int)] 50)) g6 26 #[.int .i64 er, .int .i64 (a : Int)]) := Lib.hid (KR.out.alloc _)
              go_upto_region 14 with fail
              clear x0 x1 x2 x3 x4
              generalize wr.heap.size = g10 at *
              generalize wr.alloc (.cells #[.int .i64 kind, .string T, .int .i64 num, .int .i64 (aa : Int), .int .i64 (to_ : Int)] 50) = w6 at *
              have y3 : w6.cell? ⟨g10, 3, none⟩ = some (.int .i64 (aa : Int)) := B6.out.cell 3
              have y1 : w6.cell? ⟨g6, 1, none⟩ = some (.int .i64 (a : Int)) := K6.out.cell 1
              by_cases haa : aa = a
              · subst haa
                have e1 : ((aa : Int) == (aa : Int)) = true := by simp
                have hto : to_ ≤ l.length ∧ ∀ b ts' a', lexF (l.take to_ ++ 32 :: b) = (ts', 0, a') → psF n (l.take to_ ++ 32 :: b) = some ([], er, aa) := by
                  rcases HC.out with ⟨_, hno⟩ | ⟨k, hk, hka, hkt, hkb, hkf⟩
                  · exact absurd (by rw [HT.out]) (hno i (by omega))
                  · have hki : k = i := by
                      rcases Nat.lt_trichotomy k i with h | h | h
                      · exact absurd hka (HN.out k h)
                      · exact h
                      · exact absurd (by rw [HT.out]) (hkb i h)
                    subst hki
                    rw [HT.out] at hkt hkf
                    exact ⟨hkt, hkf⟩
                have HF := Lib.hid hto.2
                have p0 : (0 : Int) ≤ (to_ : Int) := by omega
                have p1 : (to_ : Int) ≤ (l.length : Int) := by omega
                have y4 : w6.cell? ⟨g10, 4, none⟩ = some (.int .i64 (to_ : Int)) := B6.out.cell 4
                have EX := ext_eq l 0 to_
                have ec : cutF l 0 to_ = l.take to_ := rfl
                rw [ec] at EX
                have hlw : (l.take to_).length ≤ 900 := by rw [List.length_take]; omega
                have C1 := ba_cat (l.take to_) [32]
                have C2 := ba_cat (l.take to_ ++ [32]) b
                have ew : l.take to_ ++ [32] ++ b = l.take to_ ++ 32 :: b := by simp
                have n1 : ¬ 9223372036854775807 < (l.take to_).length + 1 := by omega
                have n2 : ¬ 9223372036854775807 < (l.take to_ ++ [32]).length + b.length := by rw [List.length_append]; simp; omega
                rw [ew] at C2
                have LS2 := Lib.hid (fun W h => lex_any (l.take to_ ++ 32 :: b) (by rw [List.length_append]; simp; omega) W h)
                have PA2 := Lib.hid (fun W h1 h2 => parse_any (l.take to_ ++ 32 :: b) (by rw [List.length_append]; simp; omega) W h1 h2)
                have HFb := Lib.hid (fun ts' a' h => HF.out b ts' a' h)
                clear HF hto ew ec HT HN HC hlt
                obtain ⟨⟨ts', e', a'⟩, hX'⟩ : ∃ X, lexF (l.take to_ ++ 32 :: b) = X := ⟨_, rfl⟩
                unfold Lexd at LS2
                rw [hX'] at LS2
                have PF : Hid (e' = 0 → psF n (l.take to_ ++ 32 :: b) = some ([], er, aa)) := Lib.hid (fun h => HFb.out ts' a' (by rw [← h]; exact hX'))
                have HX := Lib.hid hX'
                clear HFb hX'
                have HO6 := Lib.hid (H5.out.trans (H6.out.mono H5.out.size))
                go_upto_region 17 with (go_at_call 13; refine (LS2.out _ (GH.out.below HO6.out h9)).mono ?_; rintro e w7 ⟨A7, n7, c7, rfl, ht, hb⟩; have H7 := Lib.hid (HO6.out.trans (hb.mono HO6.out.size)); have K7 : Hid (Blk w7 g6 26 #[.int .i64 er, .int .i64 (aa : Int)]) := Lib.hid (K6.out.below hb K6.out.lt); clear ht hb LS2)
                have H8 := Lib.hid (H7.out.alloc H7.out.size (.cells #[.int .i64 e', .int .i64 (a' : Int)] 26))
                have K8 : Hid (Blk (w7.alloc (.cells #[.int .i64 e', .int .i64 (a' : Int)] 26)) g6 26 #[.int .i64 er, .int .i64 (aa : Int)]) := Lib.hid (K7.out.alloc _)
                have z0 : (w7.alloc (.cells #[.int .i64 e', .int .i64 (a' : Int)] 26)).cell? ⟨w7.heap.size, 0, none⟩ = some (.int .i64 e') := (Blk.new w7 26 #[.int .i64 e', .int .i64 (a' : Int)]).cell 0
                clear y1 y3 y4 H7 K7 K6 B6 EX C1 C2
                generalize w7.heap.size = g13 at *
                generalize w7.alloc (.cells #[.int .i64 e', .int .i64 (a' : Int)] 26) = w8 at *
                by_cases he : e' = 0
                · have PF2 := Lib.hid (PF.out he)
                  subst he
                  by_cases hn : n7 = 0
                  · have q0 : ((n7 : Int) == 0) = true := by simp [hn]
                    subst hn
                    go_wp2_with fail
                    go_ret
                    exact ⟨rfl, H8.out⟩
                  · have q0 : ((n7 : Int) == 0) = false := by simp [hn]
                    go_upto_region 20 with (go_at_call 11; refine (PA2.out _ (GH.out.below H8.out h9) (QH.out.below H8.out (by omega))).mono ?_; rintro e w9 ⟨m9, ss9, er9, a9, A9', c9', hx, rfl, hS, hb⟩; have hone := psF_one hx PF2.out; simp only [Prod.mk.injEq] at hone; obtain ⟨rfl, rfl, rfl⟩ := hone; have H9 := Lib.hid (H8.out.trans (hb.mono H8.out.size)); have K9 : Hid (Blk w9 g6 26 #[.int .i64 er9, .int .i64 (a9 : Int)]) := Lib.hid (K8.out.below hb K8.out.lt); clear hx hS hb PA2)
                    have H10 := Lib.hid (H9.out.alloc H9.out.size (.cells #[.int .i64 er9, .int .i64 (a9 : Int)] 26))
                    have K10 : Hid (Blk (w9.alloc (.cells #[.int .i64 er9, .int .i64 (a9 : Int)] 26)) g6 26 #[.int .i64 er9, .int .i64 (a9 : Int)]) := Lib.hid (K9.out.alloc _)
                    have L10 : Hid (Blk (w9.alloc (.cells #[.int .i64 er9, .int .i64 (a9 : Int)] 26)) w9.heap.size 26 #[.int .i64 er9, .int .i64 (a9 : Int)]) := Lib.hid (Blk.new _ _ _)
                    have EQ : Eqp er9 (a9 : Int) er9 (a9 : Int) = true := decide_eq_true ⟨rfl, rfl⟩
                    clear H9 K9 z0
                    generalize w9.heap.size = g15 at *
                    generalize w9.alloc (.cells #[.int .i64 er9, .int .i64 (a9 : Int)] 26) = w10 at *
                    go_wp2_with (first
                      | ((with_reducible refine at_load (t := 26) ?_); refine wpList_load_mid rfl 26 _ rfl g15 0 rfl [.int .i64 er9, .int .i64 (a9 : Int)] _ (Blk.rng (cs := [.int .i64 er9, .int .i64 (a9 : Int)]) L10.out) Tryz.underlying26 rfl Tryz.i26' ?_)
                      | ((with_reducible refine at_load (t := 26) ?_); refine wpList_load_mid rfl 26 _ rfl g6 0 rfl [.int .i64 er9, .int .i64 (a9 : Int)] _ (Blk.rng (cs := [.int .i64 er9, .int .i64 (a9 : Int)]) K10.out) Tryz.underlying26 rfl Tryz.i26' ?_))
                    go_ret
                    exact ⟨rfl, H10.out⟩
                · have q0 : (e' == 0) = false := by simp [he]
                  have q1 : (e' != 0) = true := by simp [he]
                  go_wp2_with fail
                  go_ret
                  exact ⟨rfl, H8.out⟩
              · have e1 : ((aa : Int) == (a : Int)) = false := by simp; omega
                have HN2 : Hid (∀ j, j < i + 1 → (ts.getD j (errT 0)).at_ ≠ a) := Lib.hid (fun j hj => by
                  by_cases hji : j = i
                  · subst hji
                    rw [HT.out]
                    exact haa
                  · exact HN.out j (by omega))
                clear HN
                have e2 : ((aa : Int) != (a : Int)) = true := by simp; omega
                go_wp2_with fail
                go_roundw
                case rel => exact ⟨i + 1, by omega, by go_num, HN2, H6⟩
                case measure => simp [intOf]; omega
            · obtain rfl : i = n4 := by omega
              have y1 : wr.cell? ⟨g6, 1, none⟩ = some (.int .i64 (a : Int)) := KR.out.cell 1
              have hal : a = l.length := by
                rcases HC.out with ⟨h, _⟩ | ⟨k, hk, hka, _⟩
                · exact h
                · exact absurd hka (HN.out k (by omega))
              have e1 : ((a : Int) == (l.length : Int)) = true := by simp [hal]
              have HE := Lib.hid (H5.out.trans (HB.out.mono H5.out.size))
              clear hal
              go_wp2_with fail
              go_ret
              exact ⟨rfl, HE.out⟩
        · rw [decide_eq_true her]
          go_wp2_with fail
          go_ret
          exact ⟨rfl, H3.out⟩
  · by_cases hov : 9223372036854775807 < l.length + b.length
    · obtain ⟨S, hS⟩ : ∃ S, wrap64 ((l.length : Int) + (b.length : Int)) = S := ⟨_, rfl⟩
      by_cases h0 : 900 < S
      · have d0 : decide (900 < S) = true := decide_eq_true h0
        clear hov hbig
        go_enter Tryz.func6, Tryz.ntmps6
        go_upto_region 3 with (go_at_call 7; refine WK.out.mono ?_; rintro e w1 ⟨rfl, hb⟩; have H1 := Lib.hid hb; clear hb WK)
        go_wp2_with fail
        go_ret
        exact ⟨rfl, H1.out⟩
      · have d0 : decide (900 < S) = false := decide_eq_false h0
        by_cases h1 : 900 < l.length
        · have d3 : decide ((900 : Int) < (l.length : Int)) = true := decide_eq_true (by omega)
          have d4 : decide (900 < l.length) = true := decide_eq_true h1
          clear hov hbig
          go_enter Tryz.func6, Tryz.ntmps6
          go_upto_region 3 with (go_at_call 7; refine WK.out.mono ?_; rintro e w1 ⟨rfl, hb⟩; have H1 := Lib.hid hb; clear hb WK)
          go_wp2_with fail
          go_ret
          exact ⟨rfl, H1.out⟩
        · have d3 : decide ((900 : Int) < (l.length : Int)) = false := decide_eq_false (by omega)
          have d4 : decide (900 < l.length) = false := decide_eq_false h1
          have h2 : 900 < b.length := by omega
          have d5 : decide ((900 : Int) < (b.length : Int)) = true := decide_eq_true (by omega)
          have d6 : decide (900 < b.length) = true := decide_eq_true h2
          clear hov hbig
          go_enter Tryz.func6, Tryz.ntmps6
          go_upto_region 3 with (go_at_call 7; refine WK.out.mono ?_; rintro e w1 ⟨rfl, hb⟩; have H1 := Lib.hid hb; clear hb WK)
          go_wp2_with fail
          go_ret
          exact ⟨rfl, H1.out⟩
    · have b1 : ¬ 9223372036854775807 < l.length + b.length := hov
      have d1 : decide ((900 : Int) < (l.length : Int) + (b.length : Int)) = true := decide_eq_true (by omega)
      have d2 : decide (900 < l.length + b.length) = true := decide_eq_true (by omega)
      go_enter Tryz.func6, Tryz.ntmps6
      go_wp2_with (go_at_call 7; refine WK.out.mono ?_; rintro e w1 ⟨rfl, hb⟩; have H1 := Lib.hid hb; clear hb WK)
      go_ret
      exact ⟨rfl, H1.out⟩
end Go.Proofs.YtiipglmbfgmbbaaGreatDoor
