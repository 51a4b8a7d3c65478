/-
  Words and numbers that begin at a place: the program's word and number.
-/
import Derived.Test.YtblcfjliabeaiaaDoorL6
namespace Go.Proofs.YtblcfjliabeaiaaDoor
open Go.RowKit Go.Shelf

/-- A token, with its places. -/
structure Tk where
  kind : Int
  text : List UInt8
  num : Int
  at_ : Nat
  to_ : Nat
def Tk.cells (t : Tk) : List Value := [.int .i64 t.kind, tx t.text, .int .i64 t.num, .int .i64 (t.at_ : Int), .int .i64 (t.to_ : Int)]
def tkV (t : Tk) : Value := .agg t.cells.toArray
/-- Where none begins: its place alone. -/
def errT (p : Nat) : Tk := ⟨0, [], 0, p, 0⟩
def cutF (l : List UInt8) (p q : Nat) : List UInt8 := (l.take q).drop p
theorem ext_eq (l : List UInt8) (i j : Nat) : (⟨l.toArray⟩ : ByteArray).extract i j = ⟨(cutF l i j).toArray⟩ := by
  unfold cutF
  apply ByteArray.ext
  rw [ByteArray.data_extract]
  apply Array.ext'
  simp [List.drop_take]
theorem cut_len {l : List UInt8} {p q : Nat} (h : p ≤ q) (hq : q ≤ l.length) : (cutF l p q).length = q - p := by
  unfold cutF
  rw [List.length_drop, List.length_take]
  omega
theorem Tryd.i47 : (Tryd.prog.info? 47).map (·.size) = some 5 := by kernel_rfl
theorem Tryd.i47a (t : Tk) : (Tryd.prog.info? 47).map (·.size) = some t.cells.toArray.size := by kernel_rfl
/-- What begin and its parts answer. -/
def begR (r : Tk × Int) : Value := .tuple #[tkV r.1, .int .i64 r.2]
/-- The word that begins at a place. -/
def wordF (l : List UInt8) (p : Nat) : Tk × Int :=
  match keyF (cutF l p (runE innB l p)) with
  | some k => (⟨1, k, 0, p, runE innB l p⟩, 0)
  | none => if 24 < (cutF l p (runE innB l p)).length then (errT p, 200) else (⟨2, cutF l p (runE innB l p), 0, p, runE innB l p⟩, 0)
/-- What digits spell, behind those that came. -/
def dgA : Nat → List UInt8 → Nat
  | acc, [] => acc
  | acc, c :: r => dgA (acc * 10 + (c.toNat - 48)) r
theorem dgA_ge : ∀ (l : List UInt8) (acc : Nat), acc ≤ dgA acc l
  | [], _ => Nat.le_refl _
  | c :: r, acc => by have := dgA_ge r (acc * 10 + (c.toNat - 48)); unfold dgA; omega
theorem pum (M : Nat) (hM : M < 18446744073709551620) : ∀ (l : List UInt8) (acc : Nat), acc ≤ M → (∀ x ∈ l, 48 ≤ x.toNat ∧ x.toNat ≤ 57) → Lib.parseUintM M acc l = if dgA acc l ≤ M then .ok (dgA acc l) else .range
  | [], acc, h, _ => by
    unfold Lib.parseUintM dgA
    rw [if_pos h]
  | c :: r, acc, h, hd => by
    have hc := hd c (by simp)
    have hg := dgA_ge r (acc * 10 + (c.toNat - 48))
    unfold Lib.parseUintM dgA
    rw [if_pos hc]
    by_cases h1 : 1844674407370955162 ≤ acc
    · rw [if_pos h1, if_neg (by omega)]
    · rw [if_neg h1]
      by_cases h2 : M < acc * 10 + (c.toNat - 48)
      · rw [if_pos h2, if_neg (by omega)]
      · rw [if_neg h2]
        exact pum M hM r _ (by omega) (fun x hx => hd x (by simp [hx]))
theorem parse_digits {l : List UInt8} (h0 : l ≠ []) (hd : ∀ x ∈ l, 48 ≤ x.toNat ∧ x.toNat ≤ 57) : Lib.parseIntB 64 l = if dgA 0 l < 9223372036854775808 then .ok (dgA 0 l : Nat) else .range := by
  cases l with
  | nil => exact absurd rfl h0
  | cons c r =>
    have hc := hd c (by simp)
    have e := pum 18446744073709551615 (by omega) (c :: r) 0 (by omega) hd
    have n43 : ¬ c.toNat = 43 := by omega
    have n45 : ¬ c.toNat = 45 := by omega
    unfold Lib.parseIntB Lib.parseUintB
    simp only [n43, n45, or_self, if_false, not_false_eq_true, true_and, false_and, reduceCtorEq]
    rw [show (2 : Nat) ^ 64 - 1 = 18446744073709551615 from rfl, e, show (2 : Nat) ^ (64 - 1) = 9223372036854775808 from rfl]
    by_cases h1 : dgA 0 (c :: r) < 9223372036854775808
    · rw [if_pos h1, if_pos (by omega)]
      simp only
      rw [if_neg (by omega)]
    · rw [if_neg h1]
      by_cases h2 : dgA 0 (c :: r) ≤ 18446744073709551615
      · rw [if_pos h2]
        simp only
        rw [if_pos (by omega)]
      · rw [if_neg h2]
theorem runN_all (q : Int → Bool) : ∀ (l : List UInt8), ∀ x ∈ l.take (runN q l), q (x.toNat : Int) = true
  | [], x, hx => by simp at hx
  | b :: r, x, hx => by
    unfold runN at hx
    by_cases hb : q (b.toNat : Int) = true
    · rw [if_pos hb, List.take_succ_cons] at hx
      rcases List.mem_cons.1 hx with rfl | hx
      · exact hb
      · exact runN_all q r x hx
    · rw [if_neg hb] at hx
      simp at hx
theorem cut_all {q : Int → Bool} {l : List UInt8} {p : Nat} : ∀ x ∈ cutF l p (runE q l p), q (x.toNat : Int) = true := fun x hx => by
  have e : cutF l p (runE q l p) = (l.drop p).take (runN q (l.drop p)) := by
    unfold cutF runE
    rw [List.drop_take, Nat.add_sub_cancel_left]
  rw [e] at hx
  exact runN_all q _ x hx
theorem runE_gt {q : Int → Bool} {l : List UInt8} {p : Nat} (hp : p < l.length) (h : q (bt l p) = true) : p < runE q l p := by
  obtain ⟨b, r, hd, _, hb⟩ := drop_at hp
  unfold runE
  rw [hd]
  unfold runN
  rw [hb, if_pos h]
  omega
/-- The number that begins at a place. -/
def numF (l : List UInt8) (p : Nat) : Tk × Int :=
  if dgA 0 (cutF l p (runE digB l p)) < 9223372036854775808 ∧ ¬ (runE digB l p < l.length ∧ letB (bt l (runE digB l p)) = true) then (⟨3, [], (dgA 0 (cutF l p (runE digB l p)) : Nat), p, runE digB l p⟩, 0) else (errT p, 201)

theorem clone_any (l : List UInt8) (hl : l.length ≤ 1000000) (w : World) : Calls Tryd.prog 73 #[tx l] w fun e w' => e = .returned (tx l) ∧ Below w.heap.size w w' := by
  have C := Lib.hid (Tryd.stringslite_Clone ⟨l.toArray⟩ w (show l.length ≤ _ by omega))
  go_enter Tryd.func73, Tryd.ntmps73
  go_wp2_with (go_at_call 85; refine C.out.mono ?_; rintro e w2 ⟨rfl, hb⟩; have B2 := Lib.hid hb; clear hb)
  go_ret
  exact ⟨rfl, B2.out⟩

set_option maxRecDepth 100000 in
set_option maxHeartbeats 4000000 in
theorem word_any (l : List UInt8) (p : Nat) (hl : l.length ≤ 1000000) (hp : p ≤ l.length) (w : World) (hG : Gl w) :
    Calls Tryd.prog 70 #[tx l, .int .i64 (p : Int)] w fun e w' => e = .returned (begR (wordF l p)) ∧ Below w.heap.size w w' := by
  have RU := Lib.hid (fun W => run54_any l p hl hp W)
  obtain ⟨rp, rl⟩ := runE_le (q := innB) hp
  obtain ⟨WR, hWR⟩ : ∃ x, x = wordF l p := ⟨_, rfl⟩
  rw [← hWR]
  unfold wordF at hWR
  have WF := Lib.hid hWR
  clear hWR
  generalize runE innB l p = R at *
  have CL := cut_len rp rl
  have EX := ext_eq l p R
  have KY := Lib.hid (fun W hg => key_any (cutF l p R) (by omega) W hg)
  have CN := Lib.hid (fun W => clone_any (cutF l p R) (by omega) W)
  generalize cutF l p R = own at *
  obtain ⟨g, hg⟩ : ∃ g, w.heap.size = g := ⟨_, rfl⟩
  have b0 : Hid (Blk (w.alloc (.cells #[.int .i64 0, .string ⟨#[]⟩, .int .i64 0, .int .i64 0, .int .i64 0] 47)) g 47 #[.int .i64 0, .string ⟨#[]⟩, .int .i64 0, .int .i64 0, .int .i64 0]) := Lib.hid (by rw [← hg]; exact Blk.new _ _ _)
  have h0 : Hid (Below g w (w.alloc (.cells #[.int .i64 0, .string ⟨#[]⟩, .int .i64 0, .int .i64 0, .int .i64 0] 47))) := Lib.hid (by rw [← hg]; exact (Below.refl _ _).alloc (Nat.le_refl _) _)
  have GH := Lib.hid hG
  have p0 : (0 : Int) ≤ (p : Int) := by omega
  have p1 : (p : Int) ≤ (R : Int) := by omega
  have p2 : (R : Int) ≤ (l.length : Int) := by omega
  have G7 : 7 ≤ g := by rw [← hg]; exact hG.lt
  clear hG
  go_enter Tryd.func70, Tryd.ntmps70
  go_upto_region 3 with (go_at_call 46; refine (RU.out _).mono ?_; rintro e w1 ⟨rfl, hb⟩; have B1 := Lib.hid (b0.out.below hb b0.out.lt); have H1 := Lib.hid (h0.out.trans (hb.mono (by have := b0.out.lt; omega))); clear hb)
  cases hk : keyF own with
  | some k =>
    rw [hk] at WF
    have KR : keyR own = .tuple #[tx k, .bool true] := by unfold keyR; rw [hk]
    rw [KR] at KY
    go_wp2_with (first
      | (go_at_call 19; refine (KY.out _ (GH.out.below H1.out G7)).mono ?_; rintro e w2 ⟨rfl, hb⟩; have B2 := Lib.hid (B1.out.below hb B1.out.lt); have H2 := Lib.hid (H1.out.trans (hb.mono (by have := B1.out.lt; omega))); clear hb)
      | ((with_reducible refine at_store (t := 47) ?_); refine wpList_store_blk _ rfl 47 _ _ rfl g _ 47 [.int .i64 1, tx k, .int .i64 0, .int .i64 (p : Int), .int .i64 (R : Int)] rfl rfl B2.out rfl Tryd.i47 (by simp [Value.oneCell']) ?_; intro w8 hb8 ho8; have X8 := Lib.hid hb8; have H8 := Lib.hid (H2.out.trans (ho8.below (Nat.le_refl _))); clear hb8 ho8))
    exact bodyPost_ret (ret_cell_tmp rfl _ _ g 47 _ _ rfl X8.out Tryd.underlying47 rfl Tryd.i47) rfl ⟨by rw [WF.out]; rfl, by rw [hg]; exact H8.out⟩
  | none =>
    rw [hk] at WF
    have KR : keyR own = .tuple #[tx [], .bool false] := by unfold keyR; rw [hk]
    rw [KR] at KY
    by_cases h24 : 24 < own.length
    · have d24 : (24 : Int) < (own.length : Int) := by omega
      go_wp2_with (first
        | (go_at_call 19; refine (KY.out _ (GH.out.below H1.out G7)).mono ?_; rintro e w2 ⟨rfl, hb⟩; have B2 := Lib.hid (B1.out.below hb B1.out.lt); have H2 := Lib.hid (H1.out.trans (hb.mono (by have := B1.out.lt; omega))); clear hb)
        | ((with_reducible refine at_store (t := 47) ?_); refine wpList_store_blk _ rfl 47 _ _ rfl g _ 47 [.int .i64 0, tx [], .int .i64 0, .int .i64 (p : Int), .int .i64 0] rfl rfl B2.out rfl Tryd.i47 (by simp [Value.oneCell']) ?_; intro w8 hb8 ho8; have X8 := Lib.hid hb8; have H8 := Lib.hid (H2.out.trans (ho8.below (Nat.le_refl _))); clear hb8 ho8))
      exact bodyPost_ret (ret_cell_tmp rfl _ _ g 47 _ _ rfl X8.out Tryd.underlying47 rfl Tryd.i47) rfl ⟨by rw [WF.out, if_pos h24]; rfl, by rw [hg]; exact H8.out⟩
    · have d24 : ¬ (24 : Int) < (own.length : Int) := by omega
      go_wp2_with (first
        | (go_at_call 19; refine (KY.out _ (GH.out.below H1.out G7)).mono ?_; rintro e w2 ⟨rfl, hb⟩; have B2 := Lib.hid (B1.out.below hb B1.out.lt); have H2 := Lib.hid (H1.out.trans (hb.mono (by have := B1.out.lt; omega))); clear hb)
        | (go_at_call 73; refine (CN.out _).mono ?_; rintro e w3 ⟨rfl, hb⟩; have B3 := Lib.hid (B2.out.below hb B2.out.lt); have H3 := Lib.hid (H2.out.trans (hb.mono (by have := B2.out.lt; omega))); clear hb)
        | ((with_reducible refine at_store (t := 47) ?_); refine wpList_store_blk _ rfl 47 _ _ rfl g _ 47 [.int .i64 2, tx own, .int .i64 0, .int .i64 (p : Int), .int .i64 (R : Int)] rfl rfl B3.out rfl Tryd.i47 (by simp [Value.oneCell']) ?_; intro w8 hb8 ho8; have X8 := Lib.hid hb8; have H8 := Lib.hid (H3.out.trans (ho8.below (Nat.le_refl _))); clear hb8 ho8))
      exact bodyPost_ret (ret_cell_tmp rfl _ _ g 47 _ _ rfl X8.out Tryd.underlying47 rfl Tryd.i47) rfl ⟨by rw [WF.out, if_neg h24]; rfl, by rw [hg]; exact H8.out⟩

set_option maxRecDepth 100000 in
set_option maxHeartbeats 4000000 in
theorem number_any (l : List UInt8) (p : Nat) (hl : l.length ≤ 1000000) (hp : p < l.length) (hd : digB (bt l p) = true) (w : World) (hG : Gl w) :
    Calls Tryd.prog 71 #[tx l, .int .i64 (p : Int)] w fun e w' => e = .returned (begR (numF l p)) ∧ Below w.heap.size w w' := by
  have RU := Lib.hid (fun W => run69_any l p hl (Nat.le_of_lt hp) W)
  obtain ⟨rp, rl⟩ := runE_le (q := digB) (Nat.le_of_lt hp)
  have rg := runE_gt (q := digB) hp hd
  obtain ⟨WR, hWR⟩ : ∃ x, x = numF l p := ⟨_, rfl⟩
  rw [← hWR]
  have AD := Lib.hid (cut_all (q := digB) (l := l) (p := p))
  unfold numF at hWR
  have WF := Lib.hid hWR
  clear hWR
  have LT := Lib.hid (fun (h : runE digB l p < l.length) W => letter_any (((⟨l.toArray⟩ : ByteArray)[runE digB l p]'(by simpa [ByteArray.size] using h)).toNat : Int) (by omega) (by rw [bt_of h]; exact bt1 _ _) W)
  have LB := Lib.hid (fun (h : runE digB l p < l.length) => bt_of h)
  generalize runE digB l p = R at *
  have CL := cut_len rp rl
  have EX := ext_eq l p R
  have PD := parse_digits (l := cutF l p R) (by intro e; rw [e] at CL; simp at CL; omega) (fun x hx => by
    have := AD.out x hx
    unfold digB at this
    rw [Bool.and_eq_true, decide_eq_true_eq, decide_eq_true_eq] at this
    omega)
  have OKC := Lib.hid (fun v (h : Lib.parseIntB 64 (cutF l p R) = .ok v) W => Tryd.strconv_ParseInt_10_at64_ok ⟨(cutF l p R).toArray⟩ (show (cutF l p R).length ≤ _ by omega) v h W)
  have RGC := Lib.hid (fun (h : Lib.parseIntB 64 (cutF l p R) = .range) tp pv W hv => Tryd.strconv_ParseInt_10_at64_range_var ⟨(cutF l p R).toArray⟩ (show (cutF l p R).length ≤ _ by omega) h tp pv W hv)
  generalize cutF l p R = own at *
  obtain ⟨g, hg⟩ : ∃ g, w.heap.size = g := ⟨_, rfl⟩
  have b0 : Hid (Blk (w.alloc (.cells #[.int .i64 0, .string ⟨#[]⟩, .int .i64 0, .int .i64 0, .int .i64 0] 47)) g 47 #[.int .i64 0, .string ⟨#[]⟩, .int .i64 0, .int .i64 0, .int .i64 0]) := Lib.hid (by rw [← hg]; exact Blk.new _ _ _)
  have h0 : Hid (Below g w (w.alloc (.cells #[.int .i64 0, .string ⟨#[]⟩, .int .i64 0, .int .i64 0, .int .i64 0] 47))) := Lib.hid (by rw [← hg]; exact (Below.refl _ _).alloc (Nat.le_refl _) _)
  have GH := Lib.hid hG
  have p0 : (0 : Int) ≤ (p : Int) := by omega
  have p1 : (p : Int) ≤ (R : Int) := by omega
  have p2 : (R : Int) ≤ (l.length : Int) := by omega
  have r0 : (0 : Int) ≤ (R : Int) := by omega
  have G7 : 7 ≤ g := by rw [← hg]; exact hG.lt
  clear hG AD
  have OK2 : Hid (∀ v, Lib.parseIntB 64 own = .ok v → ∀ W, Calls Tryd.prog 84 #[.string ⟨own.toArray⟩, .int .i64 10, .int .i64 64] W fun e w' => e = .returned (.tuple #[.int .i64 v, .nilIface]) ∧ Below W.heap.size W w') := Lib.hid (fun v hv W => (OKC.out v hv W).mono (by
    rintro e w' ⟨rfl, h | ⟨t, h⟩⟩
    · subst h; exact ⟨rfl, Below.refl _ _⟩
    · subst h; exact ⟨rfl, Lib.bytesWorld_below _ _ _⟩))
  by_cases h63 : dgA 0 own < 9223372036854775808
  · rw [if_pos h63] at PD
    have CC := Lib.hid (OK2.out _ PD)
    by_cases hR : R < l.length
    · have rd : (R : Int) < (l.length : Int) := by omega
      have LC := Lib.hid (LT.out hR)
      have LB1 := LB.out hR
      rw [LB1] at LC
      cases hb : letB (bt l R) with
      | true =>
        rw [hb] at LC
        rw [← LB1] at LC
        have hW : WR = (errT p, 201) := by rw [WF.out, if_neg (fun h => h.2 ⟨hR, hb⟩)]
        rw [hW]
        clear LB1 hb
        go_enter Tryd.func71, Tryd.ntmps71
        go_wp2_with (first
          | (go_at_call 46; refine (RU.out _).mono ?_; rintro e w1 ⟨rfl, hb⟩; have B1 := Lib.hid (b0.out.below hb b0.out.lt); have H1 := Lib.hid (h0.out.trans (hb.mono (by have := b0.out.lt; omega))); clear hb)
          | (go_at_call 84; refine (CC.out _).mono ?_; rintro e w2 ⟨rfl, hb⟩; have B2 := Lib.hid (B1.out.below hb B1.out.lt); have H2 := Lib.hid (H1.out.trans (hb.mono (by have := B1.out.lt; omega))); clear hb)
          | (go_at_call 53; refine (LC.out _).mono ?_; rintro e w3 ⟨rfl, rfl⟩)
          | ((with_reducible refine at_store (t := 47) ?_); refine wpList_store_blk _ rfl 47 _ _ rfl g _ 47 [.int .i64 0, tx [], .int .i64 0, .int .i64 (p : Int), .int .i64 0] rfl rfl B2.out rfl Tryd.i47 (by simp [Value.oneCell']) ?_; intro w8 hb8 ho8; have X8 := Lib.hid hb8; have H8 := Lib.hid (H2.out.trans (ho8.below (Nat.le_refl _))); clear hb8 ho8))
        exact bodyPost_ret (ret_cell_tmp rfl _ _ g 47 _ _ rfl X8.out Tryd.underlying47 rfl Tryd.i47) rfl ⟨rfl, by rw [hg]; exact H8.out⟩
      | false =>
        rw [hb] at LC
        rw [← LB1] at LC
        have hW : WR = (⟨3, [], (dgA 0 own : Nat), p, R⟩, 0) := by rw [WF.out, if_pos ⟨h63, fun h => by rw [hb] at h; cases h.2⟩]
        rw [hW]
        clear LB1 hb
        go_enter Tryd.func71, Tryd.ntmps71
        go_wp2_with (first
          | (go_at_call 46; refine (RU.out _).mono ?_; rintro e w1 ⟨rfl, hb⟩; have B1 := Lib.hid (b0.out.below hb b0.out.lt); have H1 := Lib.hid (h0.out.trans (hb.mono (by have := b0.out.lt; omega))); clear hb)
          | (go_at_call 84; refine (CC.out _).mono ?_; rintro e w2 ⟨rfl, hb⟩; have B2 := Lib.hid (B1.out.below hb B1.out.lt); have H2 := Lib.hid (H1.out.trans (hb.mono (by have := B1.out.lt; omega))); clear hb)
          | (go_at_call 53; refine (LC.out _).mono ?_; rintro e w3 ⟨rfl, rfl⟩)
          | ((with_reducible refine at_store (t := 47) ?_); refine wpList_store_blk _ rfl 47 _ _ rfl g _ 47 [.int .i64 3, tx [], .int .i64 (dgA 0 own : Nat), .int .i64 (p : Int), .int .i64 (R : Int)] rfl rfl B2.out rfl Tryd.i47 (by simp [Value.oneCell']) ?_; intro w8 hb8 ho8; have X8 := Lib.hid hb8; have H8 := Lib.hid (H2.out.trans (ho8.below (Nat.le_refl _))); clear hb8 ho8))
        exact bodyPost_ret (ret_cell_tmp rfl _ _ g 47 _ _ rfl X8.out Tryd.underlying47 rfl Tryd.i47) rfl ⟨rfl, by rw [hg]; exact H8.out⟩
    · have rd : ¬ (R : Int) < (l.length : Int) := by omega
      have hW : WR = (⟨3, [], (dgA 0 own : Nat), p, R⟩, 0) := by rw [WF.out, if_pos ⟨h63, fun h => hR h.1⟩]
      rw [hW]
      go_enter Tryd.func71, Tryd.ntmps71
      go_wp2_with (first
        | (go_at_call 46; refine (RU.out _).mono ?_; rintro e w1 ⟨rfl, hb⟩; have B1 := Lib.hid (b0.out.below hb b0.out.lt); have H1 := Lib.hid (h0.out.trans (hb.mono (by have := b0.out.lt; omega))); clear hb)
        | (go_at_call 84; refine (CC.out _).mono ?_; rintro e w2 ⟨rfl, hb⟩; have B2 := Lib.hid (B1.out.below hb B1.out.lt); have H2 := Lib.hid (H1.out.trans (hb.mono (by have := B1.out.lt; omega))); clear hb)
        | ((with_reducible refine at_store (t := 47) ?_); refine wpList_store_blk _ rfl 47 _ _ rfl g _ 47 [.int .i64 3, tx [], .int .i64 (dgA 0 own : Nat), .int .i64 (p : Int), .int .i64 (R : Int)] rfl rfl B2.out rfl Tryd.i47 (by simp [Value.oneCell']) ?_; intro w8 hb8 ho8; have X8 := Lib.hid hb8; have H8 := Lib.hid (H2.out.trans (ho8.below (Nat.le_refl _))); clear hb8 ho8))
      exact bodyPost_ret (ret_cell_tmp rfl _ _ g 47 _ _ rfl X8.out Tryd.underlying47 rfl Tryd.i47) rfl ⟨rfl, by rw [hg]; exact H8.out⟩
  · rw [if_neg h63] at PD
    have hW : WR = (errT p, 201) := by rw [WF.out, if_neg (fun h => h63 h.1)]
    rw [hW]
    have RC := Lib.hid (RGC.out PD)
    go_enter Tryd.func71, Tryd.ntmps71
    go_wp2_with (first
      | (go_at_call 46; refine (RU.out _).mono ?_; rintro e w1 ⟨rfl, hb⟩; have B1 := Lib.hid (b0.out.below hb b0.out.lt); have H1 := Lib.hid (h0.out.trans (hb.mono (by have := b0.out.lt; omega))); obtain ⟨tp, pv, hv⟩ := (GH.out.below H1.out G7).rng; clear hb)
      | (go_at_call 84; refine (RC.out tp pv _ hv).mono ?_; rintro e w2 ⟨N, rfl, _, _, hb⟩; have B2 := Lib.hid (B1.out.below hb B1.out.lt); have H2 := Lib.hid (H1.out.trans (hb.mono (by have := B1.out.lt; omega))); clear hb)
      | ((with_reducible refine at_store (t := 47) ?_); refine wpList_store_blk _ rfl 47 _ _ rfl g _ 47 [.int .i64 0, tx [], .int .i64 0, .int .i64 (p : Int), .int .i64 0] rfl rfl B2.out rfl Tryd.i47 (by simp [Value.oneCell']) ?_; intro w8 hb8 ho8; have X8 := Lib.hid hb8; have H8 := Lib.hid (H2.out.trans (ho8.below (Nat.le_refl _))); clear hb8 ho8))
    exact bodyPost_ret (ret_cell_tmp rfl _ _ g 47 _ _ rfl X8.out Tryd.underlying47 rfl Tryd.i47) rfl ⟨rfl, by rw [hg]; exact H8.out⟩
end Go.Proofs.YtblcfjliabeaiaaDoor
