/-
  The law's text, at most so long; what Print says; LexBack.
-/
import Derived.Test.YtblcfjliabeaiaaDoorL18
import Derived.Test.YtblcfjliabeaiaaDoorLGv
import Derived.Test.YtblcfjliabeaiaaDoorL44
namespace Go.Proofs.YtblcfjliabeaiaaDoor
open Go.RowKit Go.Shelf
attribute [local go_sem] Oper.semAt_some

set_option maxRecDepth 100000 in
set_option maxHeartbeats 4000000 in
theorem text_any (l : List UInt8) (w : World) : Calls Tryd.prog 26 #[tx l] w fun e w' => e = .returned (tx (l.take 1025)) ∧ w' = w := by
  obtain ⟨q, hq⟩ : ∃ q : Nat, min (l.length : Int) 1025 = (q : Int) := ⟨min l.length 1025, by omega⟩
  have q0 : (0 : Int) ≤ (q : Int) := by omega
  have q1 : (q : Int) ≤ (l.length : Int) := by omega
  have CE : cutF l 0 q = l.take 1025 := by
    unfold cutF
    rw [List.drop_zero]
    rcases Nat.lt_or_ge l.length 1025 with hl | hl
    · rw [show q = l.length by omega, List.take_length, List.take_of_length_le (by omega)]
    · rw [show q = 1025 by omega]
  have EX := ext_eq l 0 q
  rw [CE] at EX
  go_enter Tryd.func26, Tryd.ntmps26
  go_wp2_with fail
  go_ret
  exact ⟨rfl, rfl⟩

/-- What Print says: that they may not be, or are too long; or a text that has these tokens. -/
theorem prn_cases {ts : List Tq} (hN : ∀ t ∈ ts, t.num ≤ 9223372036854775807) : (∃ l e, prnF ts = (l, e) ∧ e ≠ 0) ∨
    ∃ l us, prnF ts = (l, 0) ∧ l.length ≤ 1024 ∧ lexF l = (us, 0, 0) ∧ samR ts (us.map Tk.q) = true := by
  unfold prnF
  by_cases hc : chkF ts = 0
  · rw [if_pos hc]
    by_cases hl : 1024 < (jnR 0 ts).length
    · rw [if_pos hl]
      exact .inl ⟨_, _, rfl, by decide⟩
    · rw [if_neg hl]
      obtain ⟨us, h1, h2⟩ := lex_back hc hN (by omega)
      exact .inr ⟨_, us, rfl, by omega, h1, h2⟩
  · rw [if_neg hc]
    exact .inl ⟨_, _, rfl, by decide⟩
theorem bad_ne {kind : Int} {text : List UInt8} {num : Int} {k : Nat} {e : Int} (he : e ≠ 0) (h : bad e = ((kind, text, num), k, 0)) : False := he (congrArg (fun x => x.2.2) h)
/-- A token's parts are no larger than they can be. -/
theorem beg_ok {m : List UInt8} {kind : Int} {text : List UInt8} {num : Int} {k : Nat} (h : begS m = ((kind, text, num), k, 0)) : text.length ≤ 400000 ∧ -9223372036854775808 ≤ num ∧ num ≤ 9223372036854775807 := by
  unfold begS at h
  split at h
  · unfold wordS at h
    cases hk : keyF (m.take (runN innB m)) with
    | some k =>
      rw [hk] at h
      simp only [Prod.mk.injEq] at h
      obtain ⟨⟨-, rfl, rfl⟩, -, -⟩ := h
      have := kept_len _ (keyF_mem hk)
      exact ⟨by omega, by decide, by decide⟩
    | none =>
      rw [hk] at h
      simp only at h
      by_cases c24 : 24 < (m.take (runN innB m)).length
      · rw [if_pos c24] at h; exact (bad_ne (by decide) h).elim
      · rw [if_neg c24] at h
        simp only [Prod.mk.injEq] at h
        obtain ⟨⟨-, rfl, rfl⟩, -, -⟩ := h
        exact ⟨by omega, by decide, by decide⟩
  · split at h
    · unfold numS at h
      split at h
      · rename_i hc
        simp only [Prod.mk.injEq] at h
        obtain ⟨⟨-, rfl, rfl⟩, -, -⟩ := h
        exact ⟨by simp, by omega, by omega⟩
      · exact (bad_ne (by decide) h).elim
    · split at h
      · unfold quotedS at h
        cases hq : quoN false [] 1 0 (m.drop 1) with
        | none => rw [hq] at h; exact (bad_ne (by decide) h).elim
        | some x =>
          obtain ⟨sd, t⟩ := x
          rw [hq] at h
          simp only at h
          by_cases c64 : 64 < sd.length
          · rw [if_pos c64] at h; exact (bad_ne (by decide) h).elim
          · rw [if_neg c64] at h
            simp only [Prod.mk.injEq] at h
            obtain ⟨⟨-, rfl, rfl⟩, -, -⟩ := h
            exact ⟨by omega, by decide, by decide⟩
      · split at h
        · exact (bad_ne (by decide) h).elim
        · simp only [Prod.mk.injEq] at h
          obtain ⟨⟨-, rfl, rfl⟩, -, -⟩ := h
          have := sgnN_2 m
          exact ⟨by rw [List.length_take]; omega, by decide, by decide⟩
theorem plc_ok {l : List UInt8} : ∀ (ts : List Tk) (e : Nat), Plc l e ts → ∀ t ∈ ts.map Tk.q, TkOk t
  | [], _, _, t, ht => by cases ht
  | t :: r, e, h, x, hx => by
    obtain ⟨-, -, -, h4, h5, h6⟩ := h
    rw [List.map_cons] at hx
    rcases List.mem_cons.1 hx with rfl | hx
    · obtain ⟨a, b, c⟩ := beg_ok h5
      exact ⟨a, b, c⟩
    · exact plc_ok r _ h6 x hx
theorem tks_ok {l : List UInt8} {ts : List Tk} (h : lexF l = (ts, 0, 0)) : ∀ t ∈ ts.map Tk.q, TkOk t := plc_ok ts 0 (lexF_plc h).1

set_option maxRecDepth 100000 in
set_option maxHeartbeats 8000000 in
theorem back_walk (A : Option Addr) (n c : Nat) (ts : List Tq) (s : List UInt8) (w : World) (hX : Gv w A n c ts) (hG : Gl w) :
    Calls Tryd.prog 5 #[.slice A n c, tx s] w fun e w' => e = .returned (.bool true) ∧ Below w.heap.size w w' := by
  have WK := Lib.hid (wakes_any w hG)
  have GH := Lib.hid hG
  have XH := Lib.hid hX
  have OK := Lib.hid (Zt_ok hX.nums)
  have ZN : Hid (∀ t ∈ Zt ts, t.num ≤ 9223372036854775807) := Lib.hid (fun t ht => (OK.out t ht).n1)
  have TE := Lib.hid (fun W => text_any s W)
  have LS := Lib.hid (fun W h => lex_any (s.take 1025) (by rw [List.length_take]; omega) W h)
  have LQ := lexF_cases (s.take 1025)
  have LK : Hid (∀ us, lexF (s.take 1025) = (us, 0, 0) → chkF (us.map Tk.q) = 0 ∧ (∀ t ∈ us.map Tk.q, TkOk t) ∧ us.length ≤ 300) := Lib.hid (fun us h => ⟨lexF_chk h, tks_ok h, (lexF_plc h).2.1⟩)
  have SL : (s.take 1025).length ≤ s.length := by rw [List.length_take]; omega
  generalize s.take 1025 = s1 at *
  unfold Lexd at LS
  clear hG hX
  go_enter Tryd.func5, Tryd.ntmps5
  go_upto_region 4 with (first
    | (go_at_call 8; refine WK.out.mono ?_; rintro e w1 ⟨rfl, hb⟩; have H1 := Lib.hid hb; clear hb WK)
    | (go_at_call 9; refine (toks_at XH.out H1.out).mono ?_; rintro e w2 ⟨A2, c2, rfl, ht, hb⟩; have H2 := Lib.hid (H1.out.trans (hb.mono H1.out.size)); have T2 := Lib.hid ht; clear ht hb))
  have m1 : min n 301 ≤ 301 := by omega
  generalize min n 301 = m at *
  generalize Zt ts = Z at *
  have PR := Lib.hid (print_any A2 m c2 w2.heap.size Z w2 T2.out OK.out (by omega) (Nat.le_refl _) (GH.out.on H2.out))
  have PC := prn_cases ZN.out
  rcases PC with ⟨l, e, hp, he⟩ | ⟨l, us, hp, hl, hx, hsm⟩
  · rw [hp] at PR
    have e1 : (e == 0) = false := by simpa using he
    clear hp he
    go_upto_region 9 with (go_at_call 11; refine PR.out.mono ?_; rintro e wz ⟨rfl, hb⟩; have HZ := Lib.hid (H2.out.trans (hb.mono H2.out.size)); clear hb)
    rcases LQ with ⟨vs, hl2⟩ | ⟨er, a, hl2, he2, ha⟩
    · obtain ⟨k1, k2, k3⟩ := LK.out vs hl2
      rw [hl2] at LS
      have K2 := Lib.hid k2
      have K3 := Lib.hid k3
      clear hl2 LK k2 k3
      go_wp2_with (first
        | (go_at_call 26; refine (TE.out _).mono ?_; rintro e y1 ⟨rfl, rfl⟩; clear TE)
        | (go_at_call 25; refine (LS.out _ (GH.out.on HZ.out)).mono ?_; rintro e y2 ⟨A7, n7, c7, rfl, ht, hb⟩; have H7 := Lib.hid (HZ.out.trans (hb.mono HZ.out.size)); have U7 := Lib.hid ht; have AL7 := Lib.hid ((Below.refl _ _ : Below y2.heap.size y2 y2).alloc (Nat.le_refl _) (.cells #[.int .i64 0, .int .i64 0] 42)); have H8 := Lib.hid (H7.out.trans (AL7.out.mono H7.out.size)); have U8 := Lib.hid ((U7.out.below AL7.out).trd); clear ht hb)
        | (go_at_call 10; refine (check_any A7 n7 c7 _ (vs.map Tk.q) _ U8.out K2.out (by have := U7.out.len; have := K3.out; omega) (Nat.le_refl _) (GH.out.on H8.out)).mono ?_; rintro e y3 ⟨rfl, hb⟩; have H9 := Lib.hid (H8.out.trans (hb.mono H8.out.size)); rw [k1]; clear hb))
      go_ret
      exact ⟨rfl, H9.out⟩
    · rw [hl2] at LS
      have e2 : (er == 0) = false := by simpa using he2
      have e3 : (er != 0) = true := by simpa using he2
      have a0 : (0 : Int) ≤ (a : Int) := by omega
      have a1 : (a : Int) ≤ (s.length : Int) := by omega
      clear hl2 LK ha SL
      go_wp2_with (first
        | (go_at_call 26; refine (TE.out _).mono ?_; rintro e y1 ⟨rfl, rfl⟩; clear TE)
        | (go_at_call 25; refine (LS.out _ (GH.out.on HZ.out)).mono ?_; rintro e y2 ⟨A7, n7, c7, rfl, ht, hb⟩; obtain rfl : 0 = n7 := ht.len; have H7 := Lib.hid (HZ.out.trans (hb.mono HZ.out.size)); have H8 := Lib.hid (H7.out.alloc H7.out.size (.cells #[.int .i64 er, .int .i64 (a : Int)] 42)); clear ht hb))
      go_ret
      exact ⟨by simp, H8.out⟩
  · rw [hp] at PR
    have LX := Lib.hid (fun W h => lex_any l (by omega) W h)
    unfold Lexd at LX
    rw [hx] at LX
    have HS := Lib.hid hsm
    have UL := Lib.hid (lexF_plc hx).2.1
    clear hp hx hsm
    go_upto_region 9 with (first
      | (go_at_call 11; refine PR.out.mono ?_; rintro e w3 ⟨rfl, hb⟩; have H3 := Lib.hid (H2.out.trans (hb.mono H2.out.size)); have T3 := Lib.hid (T2.out.on hb); clear hb)
      | (go_at_call 25; refine (LX.out _ (GH.out.on H3.out)).mono ?_; rintro e w4 ⟨A4, n4, c4, rfl, ht, hb⟩; have H4 := Lib.hid (H3.out.trans (hb.mono H3.out.size)); have T4 := Lib.hid (T3.out.on hb); have U4 := Lib.hid ht; have AL := Lib.hid ((Below.refl _ _ : Below w4.heap.size w4 w4).alloc (Nat.le_refl _) (.cells #[.int .i64 0, .int .i64 0] 42)); have H5 := Lib.hid (H4.out.trans (AL.out.mono H4.out.size)); have T5 := Lib.hid (T4.out.on AL.out); have U5 := Lib.hid ((U4.out.below AL.out).trd); clear ht hb)
      | (go_at_call 12; refine (same_any A2 A4 m n4 c2 c4 _ Z (us.map Tk.q) _ T5.out U5.out (by omega) (by have := U4.out.len; have := UL.out; omega) (Nat.le_refl _)).mono ?_; rintro e wz ⟨rfl, hb⟩; have HZ := Lib.hid (H5.out.trans (hb.mono H5.out.size)); rw [HS.out]; clear hb))
    rcases LQ with ⟨vs, hl2⟩ | ⟨er, a, hl2, he2, ha⟩
    · obtain ⟨k1, k2, k3⟩ := LK.out vs hl2
      rw [hl2] at LS
      have K2 := Lib.hid k2
      have K3 := Lib.hid k3
      clear hl2 LK k2 k3
      go_wp2_with (first
        | (go_at_call 26; refine (TE.out _).mono ?_; rintro e y1 ⟨rfl, rfl⟩; clear TE)
        | (go_at_call 25; refine (LS.out _ (GH.out.on HZ.out)).mono ?_; rintro e y2 ⟨A7, n7, c7, rfl, ht, hb⟩; have H7 := Lib.hid (HZ.out.trans (hb.mono HZ.out.size)); have U7 := Lib.hid ht; have AL7 := Lib.hid ((Below.refl _ _ : Below y2.heap.size y2 y2).alloc (Nat.le_refl _) (.cells #[.int .i64 0, .int .i64 0] 42)); have H8 := Lib.hid (H7.out.trans (AL7.out.mono H7.out.size)); have U8 := Lib.hid ((U7.out.below AL7.out).trd); clear ht hb)
        | (go_at_call 10; refine (check_any A7 n7 c7 _ (vs.map Tk.q) _ U8.out K2.out (by have := U7.out.len; have := K3.out; omega) (Nat.le_refl _) (GH.out.on H8.out)).mono ?_; rintro e y3 ⟨rfl, hb⟩; have H9 := Lib.hid (H8.out.trans (hb.mono H8.out.size)); rw [k1]; clear hb))
      go_ret
      exact ⟨rfl, H9.out⟩
    · rw [hl2] at LS
      have e2 : (er == 0) = false := by simpa using he2
      have e3 : (er != 0) = true := by simpa using he2
      have a0 : (0 : Int) ≤ (a : Int) := by omega
      have a1 : (a : Int) ≤ (s.length : Int) := by omega
      clear hl2 LK ha SL
      go_wp2_with (first
        | (go_at_call 26; refine (TE.out _).mono ?_; rintro e y1 ⟨rfl, rfl⟩; clear TE)
        | (go_at_call 25; refine (LS.out _ (GH.out.on HZ.out)).mono ?_; rintro e y2 ⟨A7, n7, c7, rfl, ht, hb⟩; obtain rfl : 0 = n7 := ht.len; have H7 := Lib.hid (HZ.out.trans (hb.mono HZ.out.size)); have H8 := Lib.hid (H7.out.alloc H7.out.size (.cells #[.int .i64 er, .int .i64 (a : Int)] 42)); clear ht hb))
      go_ret
      exact ⟨by simp, H8.out⟩
end Go.Proofs.YtblcfjliabeaiaaDoor
