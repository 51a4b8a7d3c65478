/-
  Several texts in one: L7, L8.
-/
import Derived.Test.YtiipglmbfgmbbaaGreatDoorPkC
import Derived.Lib.OwnKind
import Derived.Lib.BufferKept
import Derived.Laws.Externs
namespace Go.Proofs.YtiipglmbfgmbbaaGreatDoor
open Go.RowKit Go.Shelf

/-- A token, with its places. -/
structure Tk where
  kind : Int
  text : List UInt8
  num : Int
  at_ : Nat
  to_ : Nat
def Tk.cells (t : Tk) : List Value := [.int .i64 t.kind, tx t.text, .int .i64 t.num, .int .i64 (t.at_ : Int), .int .i64 (t.to_ : Int)]
def tkV (t : Tk) : Value := .agg t.cells.toArray
/-- Where none begins: its place alone. -/
def errT (p : Nat) : Tk := ⟨0, [], 0, p, 0⟩
def cutF (l : List UInt8) (p q : Nat) : List UInt8 := (l.take q).drop p
theorem ext_eq (l : List UInt8) (i j : Nat) : (⟨l.toArray⟩ : ByteArray).extract i j = ⟨(cutF l i j).toArray⟩ := by
  unfold cutF
  apply ByteArray.ext
  rw [ByteArray.data_extract]
  apply Array.ext'
  simp [List.drop_take]
theorem cut_len {l : List UInt8} {p q : Nat} (h : p ≤ q) (hq : q ≤ l.length) : (cutF l p q).length = q - p := by
  unfold cutF
  rw [List.length_drop, List.length_take]
  omega
theorem Tryz.i47 : (Tryz.prog.info? 50).map (·.size) = some 5 := by kernel_rfl
theorem Tryz.i47a (t : Tk) : (Tryz.prog.info? 50).map (·.size) = some t.cells.toArray.size := by kernel_rfl
/-- What begin and its parts answer. -/
def begR (r : Tk × Int) : Value := .tuple #[tkV r.1, .int .i64 r.2]
/-- The word that begins at a place. -/
def wordF (l : List UInt8) (p : Nat) : Tk × Int :=
  match keyF (cutF l p (runE innB l p)) with
  | some k => (⟨1, k, 0, p, runE innB l p⟩, 0)
  | none => if 24 < (cutF l p (runE innB l p)).length then (errT p, 200) else (⟨2, cutF l p (runE innB l p), 0, p, runE innB l p⟩, 0)
/-- What digits spell, behind those that came. -/
def dgA : Nat → List UInt8 → Nat
  | acc, [] => acc
  | acc, c :: r => dgA (acc * 10 + (c.toNat - 48)) r
theorem dgA_ge : ∀ (l : List UInt8) (acc : Nat), acc ≤ dgA acc l
  | [], _ => Nat.le_refl _
  | c :: r, acc => by have := dgA_ge r (acc * 10 + (c.toNat - 48)); unfold dgA; omega
theorem pum (M : Nat) (hM : M < 18446744073709551620) : ∀ (l : List UInt8) (acc : Nat), acc ≤ M → (∀ x ∈ l, 48 ≤ x.toNat ∧ x.toNat ≤ 57) → Lib.parseUintM M acc l = if dgA acc l ≤ M then .ok (dgA acc l) else .range
  | [], acc, h, _ => by
    unfold Lib.parseUintM dgA
    rw [if_pos h]
  | c :: r, acc, h, hd => by
    have hc := hd c (by simp)
    have hg := dgA_ge r (acc * 10 + (c.toNat - 48))
    unfold Lib.parseUintM dgA
    rw [if_pos hc]
    by_cases h1 : 1844674407370955162 ≤ acc
    · rw [if_pos h1, if_neg (by omega)]
    · rw [if_neg h1]
      by_cases h2 : M < acc * 10 + (c.toNat - 48)
      · rw [if_pos h2, if_neg (by omega)]
      · rw [if_neg h2]
        exact pum M hM r _ (by omega) (fun x hx => hd x (by simp [hx]))
theorem parse_digits {l : List UInt8} (h0 : l ≠ []) (hd : ∀ x ∈ l, 48 ≤ x.toNat ∧ x.toNat ≤ 57) : Lib.parseIntB 64 l = if dgA 0 l < 9223372036854775808 then .ok (dgA 0 l : Nat) else .range := by
  cases l with
  | nil => exact absurd rfl h0
  | cons c r =>
    have hc := hd c (by simp)
    have e := pum 18446744073709551615 (by omega) (c :: r) 0 (by omega) hd
    have n43 : ¬ c.toNat = 43 := by omega
    have n45 : ¬ c.toNat = 45 := by omega
    unfold Lib.parseIntB Lib.parseUintB
    simp only [n43, n45, or_self, if_false, not_false_eq_true, true_and, false_and, reduceCtorEq]
    rw [show (2 : Nat) ^ 64 - 1 = 18446744073709551615 from rfl, e, show (2 : Nat) ^ (64 - 1) = 9223372036854775808 from rfl]
    by_cases h1 : dgA 0 (c :: r) < 9223372036854775808
    · rw [if_pos h1, if_pos (by omega)]
      simp only
      rw [if_neg (by omega)]
    · rw [if_neg h1]
      by_cases h2 : dgA 0 (c :: r) ≤ 18446744073709551615
      · rw [if_pos h2]
        simp only
        rw [if_pos (by omega)]
      · rw [if_neg h2]
theorem runN_all (q : Int → Bool) : ∀ (l : List UInt8), ∀ x ∈ l.take (runN q l), q (x.toNat : Int) = true
  | [], x, hx => by simp at hx
  | b :: r, x, hx => by
    unfold runN at hx
    by_cases hb : q (b.toNat : Int) = true
    · rw [if_pos hb, List.take_succ_cons] at hx
      rcases List.mem_cons.1 hx with rfl | hx
      · exact hb
      · exact runN_all q r x hx
    · rw [if_neg hb] at hx
      simp at hx
theorem cut_all {q : Int → Bool} {l : List UInt8} {p : Nat} : ∀ x ∈ cutF l p (runE q l p), q (x.toNat : Int) = true := fun x hx => by
  have e : cutF l p (runE q l p) = (l.drop p).take (runN q (l.drop p)) := by
    unfold cutF runE
    rw [List.drop_take, Nat.add_sub_cancel_left]
  rw [e] at hx
  exact runN_all q _ x hx
theorem runE_gt {q : Int → Bool} {l : List UInt8} {p : Nat} (hp : p < l.length) (h : q (bt l p) = true) : p < runE q l p := by
  obtain ⟨b, r, hd, _, hb⟩ := drop_at hp
  unfold runE
  rw [hd]
  unfold runN
  rw [hb, if_pos h]
  omega
/-- The number that begins at a place. -/
def numF (l : List UInt8) (p : Nat) : Tk × Int :=
  if dgA 0 (cutF l p (runE digB l p)) < 9223372036854775808 ∧ ¬ (runE digB l p < l.length ∧ letB (bt l (runE digB l p)) = true) then (⟨3, [], (dgA 0 (cutF l p (runE digB l p)) : Nat), p, runE digB l p⟩, 0) else (errT p, 201)

theorem clone_any (l : List UInt8) (hl : l.length ≤ 1000000) (w : World) : Calls Tryz.prog 96 #[tx l] w fun e w' => e = .returned (tx l) ∧ Below w.heap.size w w' := by
  have C := Lib.hid (Tryz.stringslite_Clone ⟨l.toArray⟩ w (show l.length ≤ _ by omega))
  go_enter Tryz.func96, Tryz.ntmps96
  go_wp2_with (go_at_call 130; refine C.out.mono ?_; rintro e w2 ⟨rfl, hb⟩; have B2 := Lib.hid hb; clear hb)
  go_ret
  exact ⟨rfl, B2.out⟩

set_option maxRecDepth 100000 in
set_option maxHeartbeats 4000000 in
theorem word_any (l : List UInt8) (p : Nat) (hl : l.length ≤ 1000000) (hp : p ≤ l.length) (w : World) (hG : Gl w) :
    Calls Tryz.prog 91 #[tx l, .int .i64 (p : Int)] w fun e w' => e = .returned (begR (wordF l p)) ∧ Below w.heap.size w w' := by
  have RU := Lib.hid (fun W => run54_any l p hl hp W)
  obtain ⟨rp, rl⟩ := runE_le (q := innB) hp
  obtain ⟨WR, hWR⟩ : ∃ x, x = wordF l p := ⟨_, rfl⟩
  rw [← hWR]
  unfold wordF at hWR
  have WF := Lib.hid hWR
  clear hWR
  generalize runE innB l p = R at *
  have CL := cut_len rp rl
  have EX := ext_eq l p R
  have KY := Lib.hid (fun W hg => key_any (cutF l p R) (by omega) W hg)
  have CN := Lib.hid (fun W => clone_any (cutF l p R) (by omega) W)
  generalize cutF l p R = own at *
  obtain ⟨g, hg⟩ : ∃ g, w.heap.size = g := ⟨_, rfl⟩
  have b0 : Hid (Blk (w.alloc (.cells #[.int .i64 0, .string ⟨#[]⟩, .int .i64 0, .int .i64 0, .int .i64 0] 50)) g 50 #[.int .i64 0, .string ⟨#[]⟩, .int .i64 0, .int .i64 0, .int .i64 0]) := Lib.hid (by rw [← hg]; exact Blk.new _ _ _)
  have h0 : Hid (Below g w (w.alloc (.cells #[.int .i64 0, .string ⟨#[]⟩, .int .i64 0, .int .i64 0, .int .i64 0] 50))) := Lib.hid (by rw [← hg]; exact (Below.refl _ _).alloc (Nat.le_refl _) _)
  have GH := Lib.hid hG
  have p0 : (0 : Int) ≤ (p : Int) := by omega
  have p1 : (p : Int) ≤ (R : Int) := by omega
  have p2 : (R : Int) ≤ (l.length : Int) := by omega
  have G7 : 9 ≤ g := by rw [← hg]; exact hG.lt
  clear hG
  go_enter Tryz.func91, Tryz.ntmps91
  go_upto_region 3 with (go_at_call 99; refine (RU.out _).mono ?_; rintro e w1 ⟨rfl, hb⟩; have B1 := Lib.hid (b0.out.below hb b0.out.lt); have H1 := Lib.hid (h0.out.trans (hb.mono (by have := b0.out.lt; omega))); clear hb)
  cases hk : keyF own with
  | some k =>
    rw [hk] at WF
    have KR : keyR own = .tuple #[tx k, .bool true] := by unfold keyR; rw [hk]
    rw [KR] at KY
    go_wp2_with (first
      | (go_at_call 97; refine (KY.out _ (GH.out.below H1.out G7)).mono ?_; rintro e w2 ⟨rfl, hb⟩; have B2 := Lib.hid (B1.out.below hb B1.out.lt); have H2 := Lib.hid (H1.out.trans (hb.mono (by have := B1.out.lt; omega))); clear hb)
      | ((with_reducible refine at_store (t := 50) ?_); refine wpList_store_blk _ rfl 50 _ _ rfl g _ 50 [.int .i64 1, tx k, .int .i64 0, .int .i64 (p : Int), .int .i64 (R : Int)] rfl rfl B2.out rfl Tryz.i47 (by simp [Value.oneCell']) ?_; intro w8 hb8 ho8; have X8 := Lib.hid hb8; have H8 := Lib.hid (H2.out.trans (ho8.below (Nat.le_refl _))); clear hb8 ho8))
    exact bodyPost_ret (ret_cell_tmp rfl _ _ g 50 _ _ rfl X8.out Tryz.underlying50 rfl Tryz.i47) rfl ⟨by rw [WF.out]; rfl, by rw [hg]; exact H8.out⟩
  | none =>
    rw [hk] at WF
    have KR : keyR own = .tuple #[tx [], .bool false] := by unfold keyR; rw [hk]
    rw [KR] at KY
    by_cases h24 : 24 < own.length
    · have d24 : (24 : Int) < (own.length : Int) := by omega
      go_wp2_with (first
        | (go_at_call 97; refine (KY.out _ (GH.out.below H1.out G7)).mono ?_; rintro e w2 ⟨rfl, hb⟩; have B2 := Lib.hid (B1.out.below hb B1.out.lt); have H2 := Lib.hid (H1.out.trans (hb.mono (by have := B1.out.lt; omega))); clear hb)
        | ((with_reducible refine at_store (t := 50) ?_); refine wpList_store_blk _ rfl 50 _ _ rfl g _ 50 [.int .i64 0, tx [], .int .i64 0, .int .i64 (p : Int), .int .i64 0] rfl rfl B2.out rfl Tryz.i47 (by simp [Value.oneCell']) ?_; intro w8 hb8 ho8; have X8 := Lib.hid hb8; have H8 := Lib.hid (H2.out.trans (ho8.below (Nat.le_refl _))); clear hb8 ho8))
      exact bodyPost_ret (ret_cell_tmp rfl _ _ g 50 _ _ rfl X8.out Tryz.underlying50 rfl Tryz.i47) rfl ⟨by rw [WF.out, if_pos h24]; rfl, by rw [hg]; exact H8.out⟩
    · have d24 : ¬ (24 : Int) < (own.length : Int) := by omega
      go_wp2_with (first
        | (go_at_call 97; refine (KY.out _ (GH.out.below H1.out G7)).mono ?_; rintro e w2 ⟨rfl, hb⟩; have B2 := Lib.hid (B1.out.below hb B1.out.lt); have H2 := Lib.hid (H1.out.trans (hb.mono (by have := B1.out.lt; omega))); clear hb)
        | (go_at_call 96; refine (CN.out _).mono ?_; rintro e w3 ⟨rfl, hb⟩; have B3 := Lib.hid (B2.out.below hb B2.out.lt); have H3 := Lib.hid (H2.out.trans (hb.mono (by have := B2.out.lt; omega))); clear hb)
        | ((with_reducible refine at_store (t := 50) ?_); refine wpList_store_blk _ rfl 50 _ _ rfl g _ 50 [.int .i64 2, tx own, .int .i64 0, .int .i64 (p : Int), .int .i64 (R : Int)] rfl rfl B3.out rfl Tryz.i47 (by simp [Value.oneCell']) ?_; intro w8 hb8 ho8; have X8 := Lib.hid hb8; have H8 := Lib.hid (H3.out.trans (ho8.below (Nat.le_refl _))); clear hb8 ho8))
      exact bodyPost_ret (ret_cell_tmp rfl _ _ g 50 _ _ rfl X8.out Tryz.underlying50 rfl Tryz.i47) rfl ⟨by rw [WF.out, if_neg h24]; rfl, by rw [hg]; exact H8.out⟩

set_option maxRecDepth 100000 in
set_option maxHeartbeats 4000000 in
theorem number_any (l : List UInt8) (p : Nat) (hl : l.length ≤ 1000000) (hp : p < l.length) (hd : digB (bt l p) = true) (w : World) (hG : Gl w) :
    Calls Tryz.prog 93 #[tx l, .int .i64 (p : Int)] w fun e w' => e = .returned (begR (numF l p)) ∧ Below w.heap.size w w' := by
  have RU := Lib.hid (fun W => run69_any l p hl (Nat.le_of_lt hp) W)
  obtain ⟨rp, rl⟩ := runE_le (q := digB) (Nat.le_of_lt hp)
  have rg := runE_gt (q := digB) hp hd
  obtain ⟨WR, hWR⟩ : ∃ x, x = numF l p := ⟨_, rfl⟩
  rw [← hWR]
  have AD := Lib.hid (cut_all (q := digB) (l := l) (p := p))
  unfold numF at hWR
  have WF := Lib.hid hWR
  clear hWR
  have LT := Lib.hid (fun (h : runE digB l p < l.length) W => letter_any (((⟨l.toArray⟩ : ByteArray)[runE digB l p]'(by simpa [ByteArray.size] using h)).toNat : Int) (by omega) (by rw [bt_of h]; exact bt1 _ _) W)
  have LB := Lib.hid (fun (h : runE digB l p < l.length) => bt_of h)
  generalize runE digB l p = R at *
  have CL := cut_len rp rl
  have EX := ext_eq l p R
  have PD := parse_digits (l := cutF l p R) (by intro e; rw [e] at CL; simp at CL; omega) (fun x hx => by
    have := AD.out x hx
    unfold digB at this
    rw [Bool.and_eq_true, decide_eq_true_eq, decide_eq_true_eq] at this
    omega)
  have OKC := Lib.hid (fun v (h : Lib.parseIntB 64 (cutF l p R) = .ok v) W => Tryz.strconv_ParseInt_10_at64_ok ⟨(cutF l p R).toArray⟩ (show (cutF l p R).length ≤ _ by omega) v h W)
  have RGC := Lib.hid (fun (h : Lib.parseIntB 64 (cutF l p R) = .range) tp pv W hv => Tryz.strconv_ParseInt_10_at64_range_var ⟨(cutF l p R).toArray⟩ (show (cutF l p R).length ≤ _ by omega) h tp pv W hv)
  generalize cutF l p R = own at *
  obtain ⟨g, hg⟩ : ∃ g, w.heap.size = g := ⟨_, rfl⟩
  have b0 : Hid (Blk (w.alloc (.cells #[.int .i64 0, .string ⟨#[]⟩, .int .i64 0, .int .i64 0, .int .i64 0] 50)) g 50 #[.int .i64 0, .string ⟨#[]⟩, .int .i64 0, .int .i64 0, .int .i64 0]) := Lib.hid (by rw [← hg]; exact Blk.new _ _ _)
  have h0 : Hid (Below g w (w.alloc (.cells #[.int .i64 0, .string ⟨#[]⟩, .int .i64 0, .int .i64 0, .int .i64 0] 50))) := Lib.hid (by rw [← hg]; exact (Below.refl _ _).alloc (Nat.le_refl _) _)
  have GH := Lib.hid hG
  have p0 : (0 : Int) ≤ (p : Int) := by omega
  have p1 : (p : Int) ≤ (R : Int) := by omega
  have p2 : (R : Int) ≤ (l.length : Int) := by omega
  have r0 : (0 : Int) ≤ (R : Int) := by omega
  have G7 : 9 ≤ g := by rw [← hg]; exact hG.lt
  clear hG AD
  have OK2 : Hid (∀ v, Lib.parseIntB 64 own = .ok v → ∀ W, Calls Tryz.prog 128 #[.string ⟨own.toArray⟩, .int .i64 10, .int .i64 64] W fun e w' => e = .returned (.tuple #[.int .i64 v, .nilIface]) ∧ Below W.heap.size W w') := Lib.hid (fun v hv W => (OKC.out v hv W).mono (by
    rintro e w' ⟨rfl, h | ⟨t, h⟩⟩
    · subst h; exact ⟨rfl, Below.refl _ _⟩
    · subst h; exact ⟨rfl, Lib.bytesWorld_below _ _ _⟩))
  by_cases h63 : dgA 0 own < 9223372036854775808
  · rw [if_pos h63] at PD
    have CC := Lib.hid (OK2.out _ PD)
    by_cases hR : R < l.length
    · have rd : (R : Int) < (l.length : Int) := by omega
      have LC := Lib.hid (LT.out hR)
      have LB1 := LB.out hR
      rw [LB1] at LC
      cases hb : letB (bt l R) with
      | true =>
        rw [hb] at LC
        rw [← LB1] at LC
        have hW : WR = (errT p, 201) := by rw [WF.out, if_neg (fun h => h.2 ⟨hR, hb⟩)]
        rw [hW]
        clear LB1 hb
        go_enter Tryz.func93, Tryz.ntmps93
        go_wp2_with (first
          | (go_at_call 99; refine (RU.out _).mono ?_; rintro e w1 ⟨rfl, hb⟩; have B1 := Lib.hid (b0.out.below hb b0.out.lt); have H1 := Lib.hid (h0.out.trans (hb.mono (by have := b0.out.lt; omega))); clear hb)
          | (go_at_call 128; refine (CC.out _).mono ?_; rintro e w2 ⟨rfl, hb⟩; have B2 := Lib.hid (B1.out.below hb B1.out.lt); have H2 := Lib.hid (H1.out.trans (hb.mono (by have := B1.out.lt; omega))); clear hb)
          | (go_at_call 90; refine (LC.out _).mono ?_; rintro e w3 ⟨rfl, rfl⟩)
          | ((with_reducible refine at_store (t := 50) ?_); refine wpList_store_blk _ rfl 50 _ _ rfl g _ 50 [.int .i64 0, tx [], .int .i64 0, .int .i64 (p : Int), .int .i64 0] rfl rfl B2.out rfl Tryz.i47 (by simp [Value.oneCell']) ?_; intro w8 hb8 ho8; have X8 := Lib.hid hb8; have H8 := Lib.hid (H2.out.trans (ho8.below (Nat.le_refl _))); clear hb8 ho8))
        exact bodyPost_ret (ret_cell_tmp rfl _ _ g 50 _ _ rfl X8.out Tryz.underlying50 rfl Tryz.i47) rfl ⟨rfl, by rw [hg]; exact H8.out⟩
      | false =>
        rw [hb] at LC
        rw [← LB1] at LC
        have hW : WR = (⟨3, [], (dgA 0 own : Nat), p, R⟩, 0) := by rw [WF.out, if_pos ⟨h63, fun h => by rw [hb] at h; cases h.2⟩]
        rw [hW]
        clear LB1 hb
        go_enter Tryz.func93, Tryz.ntmps93
        go_wp2_with (first
          | (go_at_call 99; refine (RU.out _).mono ?_; rintro e w1 ⟨rfl, hb⟩; have B1 := Lib.hid (b0.out.below hb b0.out.lt); have H1 := Lib.hid (h0.out.trans (hb.mono (by have := b0.out.lt; omega))); clear hb)
          | (go_at_call 128; refine (CC.out _).mono ?_; rintro e w2 ⟨rfl, hb⟩; have B2 := Lib.hid (B1.out.below hb B1.out.lt); have H2 := Lib.hid (H1.out.trans (hb.mono (by have := B1.out.lt; omega))); clear hb)
          | (go_at_call 90; refine (LC.out _).mono ?_; rintro e w3 ⟨rfl, rfl⟩)
          | ((with_reducible refine at_store (t := 50) ?_); refine wpList_store_blk _ rfl 50 _ _ rfl g _ 50 [.int .i64 3, tx [], .int .i64 (dgA 0 own : Nat), .int .i64 (p : Int), .int .i64 (R : Int)] rfl rfl B2.out rfl Tryz.i47 (by simp [Value.oneCell']) ?_; intro w8 hb8 ho8; have X8 := Lib.hid hb8; have H8 := Lib.hid (H2.out.trans (ho8.below (Nat.le_refl _))); clear hb8 ho8))
        exact bodyPost_ret (ret_cell_tmp rfl _ _ g 50 _ _ rfl X8.out Tryz.underlying50 rfl Tryz.i47) rfl ⟨rfl, by rw [hg]; exact H8.out⟩
    · have rd : ¬ (R : Int) < (l.length : Int) := by omega
      have hW : WR = (⟨3, [], (dgA 0 own : Nat), p, R⟩, 0) := by rw [WF.out, if_pos ⟨h63, fun h => hR h.1⟩]
      rw [hW]
      go_enter Tryz.func93, Tryz.ntmps93
      go_wp2_with (first
        | (go_at_call 99; refine (RU.out _).mono ?_; rintro e w1 ⟨rfl, hb⟩; have B1 := Lib.hid (b0.out.below hb b0.out.lt); have H1 := Lib.hid (h0.out.trans (hb.mono (by have := b0.out.lt; omega))); clear hb)
        | (go_at_call 128; refine (CC.out _).mono ?_; rintro e w2 ⟨rfl, hb⟩; have B2 := Lib.hid (B1.out.below hb B1.out.lt); have H2 := Lib.hid (H1.out.trans (hb.mono (by have := B1.out.lt; omega))); clear hb)
        | ((with_reducible refine at_store (t := 50) ?_); refine wpList_store_blk _ rfl 50 _ _ rfl g _ 50 [.int .i64 3, tx [], .int .i64 (dgA 0 own : Nat), .int .i64 (p : Int), .int .i64 (R : Int)] rfl rfl B2.out rfl Tryz.i47 (by simp [Value.oneCell']) ?_; intro w8 hb8 ho8; have X8 := Lib.hid hb8; have H8 := Lib.hid (H2.out.trans (ho8.below (Nat.le_refl _))); clear hb8 ho8))
      exact bodyPost_ret (ret_cell_tmp rfl _ _ g 50 _ _ rfl X8.out Tryz.underlying50 rfl Tryz.i47) rfl ⟨rfl, by rw [hg]; exact H8.out⟩
  · rw [if_neg h63] at PD
    have hW : WR = (errT p, 201) := by rw [WF.out, if_neg (fun h => h63 h.1)]
    rw [hW]
    have RC := Lib.hid (RGC.out PD)
    go_enter Tryz.func93, Tryz.ntmps93
    go_wp2_with (first
      | (go_at_call 99; refine (RU.out _).mono ?_; rintro e w1 ⟨rfl, hb⟩; have B1 := Lib.hid (b0.out.below hb b0.out.lt); have H1 := Lib.hid (h0.out.trans (hb.mono (by have := b0.out.lt; omega))); obtain ⟨tp, pv, hv⟩ := (GH.out.below H1.out G7).rng; clear hb)
      | (go_at_call 128; refine (RC.out tp pv _ hv).mono ?_; rintro e w2 ⟨N, rfl, _, _, hb⟩; have B2 := Lib.hid (B1.out.below hb B1.out.lt); have H2 := Lib.hid (H1.out.trans (hb.mono (by have := B1.out.lt; omega))); clear hb)
      | ((with_reducible refine at_store (t := 50) ?_); refine wpList_store_blk _ rfl 50 _ _ rfl g _ 50 [.int .i64 0, tx [], .int .i64 0, .int .i64 (p : Int), .int .i64 0] rfl rfl B2.out rfl Tryz.i47 (by simp [Value.oneCell']) ?_; intro w8 hb8 ho8; have X8 := Lib.hid hb8; have H8 := Lib.hid (H2.out.trans (ho8.below (Nat.le_refl _))); clear hb8 ho8))
    exact bodyPost_ret (ret_cell_tmp rfl _ _ g 50 _ _ rfl X8.out Tryz.underlying50 rfl Tryz.i47) rfl ⟨rfl, by rw [hg]; exact H8.out⟩
end Go.Proofs.YtiipglmbfgmbbaaGreatDoor

namespace Go.Proofs.YtiipglmbfgmbbaaGreatDoor
open Go.RowKit Go.Shelf

theorem bs56 : (Tryz.prog.info? 80).map (·.size) = some 2 := by kernel_rfl
theorem bl56 : liesAt Tryz.prog Tryz.prog.depth 80 (2 / Tryz.prog.cellsOf 80) 0 80 1 = true := by kernel_rfl
theorem bi5 : (Tryz.prog.info? 5).map (fun i => (i.zero, i.size, i.bytes)) = some (some (.int .u8 0), 1, 1) := by kernel_rfl

set_option maxHeartbeats 1000000 in
set_option maxRecDepth 100000 in
theorem bcheck_any (B b : Nat) (bs : List Value) (w : World) (h : Lib.IsBuilder 80 5 B b bs w) :
    Calls Tryz.prog 63 #[.pointer (some ⟨b, 0, none⟩)] w fun e w' => e = .returned (.tuple #[]) ∧ Lib.BuilderAt 80 5 B b (.pointer (some ⟨b, 0, none⟩)) bs w' ∧ Below B w w' ∧ Lib.OthersKept 5 (some b) w w' := by
  obtain ⟨j, hj, hjs⟩ := Option.map_eq_some_iff.1 bs56
  rcases h with h | h
  · have h0 : w.cell? ⟨b, 0, none⟩ = some (.pointer none) := h.cell0
    have hsh := h.shape
    have hfz := h.frozen0
    have hB := h.1
    have HU := Lib.hid (h.used (.pointer (some ⟨b, 0, none⟩)))
    clear h
    go_enter Tryz.func63, Tryz.ntmps63
    go_wp2
    rw [Lib.run_to_unsafe w ⟨b, 0, none⟩ Tryz.underlying77 Tryz.underlying150 hj (by rw [hjs]; decide) hsh (Nat.zero_lt_succ 1)]
    simp only [Result.andThen]
    rw [Oper.upon_value]
    go_wp2
    rw [run_callFunc_extern Tryz.func101 (by kernel_rfl) (by kernel_rfl) (by kernel_rfl) (e := Extern.AbiNoEscape.same) (by kernel_rfl)]
    rw [Lib.run_noEscape]
    simp only [Result.andThen]
    rw [Oper.upon_value]
    go_wp2
    rw [Lib.run_from_unsafe w ⟨b, 0, none⟩ Tryz.underlying150 Tryz.underlying77 hj hsh bl56]
    simp only [Result.andThen]
    rw [Oper.upon_value]
    go_wp2
    go_end0
    exact ⟨rfl, HU.out, (Below.refl B w).setCell (p := ⟨b, 0, none⟩) hB _, (Lib.OthersKept.refl _ _ w).setCell ⟨b, 0, none⟩ rfl _⟩
  · have h0 : w.cell? ⟨b, 0, none⟩ = some (.pointer (some ⟨b, 0, none⟩)) := h.cell0
    have HU := Lib.hid h
    clear h
    go_enter Tryz.func63, Tryz.ntmps63
    go_wp2
    rw [Lib.run_neq_ptr_same w _ Tryz.underlying77 hj]
    go_wp2
    go_end0
    exact ⟨rfl, HU.out, Below.refl B _, Lib.OthersKept.refl _ _ _⟩

set_option maxHeartbeats 2000000 in
set_option maxRecDepth 100000 in
theorem bbyte_any (B b : Nat) (bs : List Value) (c : Int) (w : World) (h : Lib.IsBuilder 80 5 B b bs w) (hlen : bs.length ≤ 1000000) (hBw : B ≤ w.heap.size) :
    Calls Tryz.prog 33 #[.pointer (some ⟨b, 0, none⟩), .int .u8 c] w fun e w' => e = .returned .nilIface ∧ Lib.IsBuilder 80 5 B b (bs ++ [.int .u8 c]) w' ∧ Below B w w' ∧ Lib.OthersKept 5 (some b) w w' := by
  obtain ⟨i0, hi, hz0, hz1, hz2⟩ := info_parts bi5
  have CK := Lib.hid (bcheck_any B b bs w h)
  go_enter Tryz.func33, Tryz.ntmps33
  go_wp2_with (go_at_call 63; refine CK.out.mono ?_)
  rintro e w1 ⟨rfl, h1, hb1, hk1⟩
  obtain ⟨hB, v, hbk, hown, hne⟩ := h1
  have c0 : w1.cell? ⟨b, 0, none⟩ = some (.pointer (some ⟨b, 0, none⟩)) := by rw [Lib.cell_of_heap hbk]; rfl
  have c1 : w1.cell? ⟨b, 1, none⟩ = some v := by rw [Lib.cell_of_heap hbk]; rfl
  go_wp2_with (at_builtin; refine wpList_append_own _ rfl _ _ 78 rfl B 5 i0 (.int .u8 0) 1 1 Tryz.underlying78 hi hz0 hz1 hz2 rfl (by decide) _ _ _ rfl (hown.alloc _) ⟨w1.heap.size, 0, none⟩ 1 1 [.int .u8 c] rfl rfl ?c1 ?c2 ?c3 ?c4 ?c5 ?_)
  case c1 =>
    intro j u hj
    match j, hj with
    | 0, hj => simp at hj; subst hj; simp [Addr.add]
  case c2 => intro u hu; simp at hu; subst hu; rfl
  case c3 => unfold maxLen; omega
  case c4 => omega
  case c5 => have := hb1.size; simp; omega
  intro v' w2 hown' hgrow _
  have hlt : b < w1.heap.size := (Array.getElem?_eq_some_iff.1 hbk).1
  have hb2 : w2.heap[b]? = some (.cells #[.pointer (some ⟨b, 0, none⟩), v] 80 (0, 0)) := by
    rw [hgrow.block b (by simp; omega) (fun e => hne e.symm), Lib.alloc_old w1 _ b hlt]
    exact hbk
  have d0 : w2.cell? ⟨b, 0, none⟩ = some (.pointer (some ⟨b, 0, none⟩)) := by rw [Lib.cell_of_heap hb2]; rfl
  have d1 : w2.cell? ⟨b, 1, none⟩ = some v := by rw [Lib.cell_of_heap hb2]; rfl
  have f1 : w2.frozen? ⟨b, 1, none⟩ = false := Lib.frozen_of_heap hb2 1
  obtain ⟨g, cap, rfl⟩ : ∃ g cap, v' = .slice (some ⟨g, 0, none⟩) (bs.length + 1) cap := by
    rcases hown'.2 with ⟨_, h0⟩ | ⟨g, cap, cur, hv, _⟩
    · omega
    · exact ⟨g, cap, hv⟩
  go_wp2
  go_ret
  refine ⟨rfl, .inr ?_, ?_, ((hk1.alloc _).grown hgrow (Lib.ownsRow_kind (hown.alloc _))).setCell ⟨b, 1, none⟩ rfl _⟩
  · exact Lib.BuilderAt.put (T := 80) (e := 5) hB hb2 (bs' := bs ++ [.int .u8 c]) (by simpa using hown') (by decide)
  · exact ((hb1.alloc (by have := hb1.size; omega) _).grown hgrow (by have := hb1.size; simp; omega) (fun k hk => (hown.lt k hk).1)).setCell (p := ⟨b, 1, none⟩) hB _

set_option maxHeartbeats 2000000 in
set_option maxRecDepth 100000 in
theorem bstring_any (B b : Nat) (bs : List Value) (l : List UInt8) (w : World) (h : Lib.IsBuilder 80 5 B b bs w) (hlen : bs.length ≤ 1000000) (hl : l.length ≤ 1000000) (hBw : B ≤ w.heap.size) :
    Calls Tryz.prog 34 #[.pointer (some ⟨b, 0, none⟩), tx l] w fun e w' => (∃ v, e = .returned v) ∧ Lib.IsBuilder 80 5 B b (bs ++ Lib.byteCells l) w' ∧ Below B w w' ∧ Lib.OthersKept 5 (some b) w w' := by
  obtain ⟨i0, hi, hz0, hz1, hz2⟩ := info_parts bi5
  have CK := Lib.hid (bcheck_any B b bs w h)
  have hsz : (⟨l.toArray⟩ : ByteArray).size = l.length := rfl
  go_enter Tryz.func34, Tryz.ntmps34
  go_wp2_with (go_at_call 63; refine CK.out.mono ?_)
  rintro e w1 ⟨rfl, h1, hb1, hk1⟩
  obtain ⟨hB, v, hbk, hown, hne⟩ := h1
  have c0 : w1.cell? ⟨b, 0, none⟩ = some (.pointer (some ⟨b, 0, none⟩)) := by rw [Lib.cell_of_heap hbk]; rfl
  have c1 : w1.cell? ⟨b, 1, none⟩ = some v := by rw [Lib.cell_of_heap hbk]; rfl
  go_wp2_with (at_builtin; refine Lib.wpList_append_own_string _ rfl _ _ 78 9 rfl B 5 i0 Tryz.underlying78 Tryz.underlying9 hi hz0 hz1 hz2 _ _ _ rfl hown ⟨l.toArray⟩ rfl ?c3 ?c4 ?c5 ?_)
  case c3 => rw [hsz]; unfold maxLen; omega
  case c4 => rw [hsz]; omega
  case c5 => have := hb1.size; omega
  intro v' w2 hown' hgrow _
  have hlt : b < w1.heap.size := (Array.getElem?_eq_some_iff.1 hbk).1
  have hb2 : w2.heap[b]? = some (.cells #[.pointer (some ⟨b, 0, none⟩), v] 80 (0, 0)) := by
    rw [hgrow.block b hlt (fun e => hne e.symm)]
    exact hbk
  have d0 : w2.cell? ⟨b, 0, none⟩ = some (.pointer (some ⟨b, 0, none⟩)) := by rw [Lib.cell_of_heap hb2]; rfl
  have d1 : w2.cell? ⟨b, 1, none⟩ = some v := by rw [Lib.cell_of_heap hb2]; rfl
  have f1 : w2.frozen? ⟨b, 1, none⟩ = false := Lib.frozen_of_heap hb2 1
  obtain ⟨ao, n', cap, rfl⟩ : ∃ ao n' cap, v' = .slice ao n' cap := by
    rcases hown'.2 with ⟨hv, _⟩ | ⟨g, cap, cur, hv, _⟩
    · exact ⟨_, _, _, hv⟩
    · exact ⟨_, _, _, hv⟩
  go_wp2
  go_ret2
  refine ⟨⟨_, rfl⟩, .inr ?_, ?_, (hk1.grown hgrow (Lib.ownsRow_kind hown)).setCell ⟨b, 1, none⟩ rfl _⟩
  · exact Lib.BuilderAt.put (T := 80) (e := 5) hB hb2 (bs' := bs ++ Lib.byteCells l) (by rw [List.length_append, Lib.byteCells_length]; exact hown') (by decide)
  · exact (hb1.grown hgrow (by have := hb1.size; omega) (fun k hk => (hown.lt k hk).1)).setCell (p := ⟨b, 1, none⟩) hB _
end Go.Proofs.YtiipglmbfgmbbaaGreatDoor
