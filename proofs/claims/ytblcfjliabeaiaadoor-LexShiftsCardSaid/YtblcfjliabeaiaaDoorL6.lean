/-
  Words that are kept: the program's Key; how many bytes a sign has: its signSize.
-/
import Derived.Test.YtblcfjliabeaiaaDoorL5
namespace Go.Proofs.YtblcfjliabeaiaaDoor
open Go.RowKit Go.Shelf

def keptV : List Value := keptL.map tx
theorem ix66 (w : World) : ∀ i : Nat, i < 35 → (Instr.index 66 (.agg keptV.toArray) (.int .i64 (i : Int))).run Tryd.prog w = .ok (tx (keptL.getD i [])) w
  | 0, _ => by kernel_rfl
  | 1, _ => by kernel_rfl
  | 2, _ => by kernel_rfl
  | 3, _ => by kernel_rfl
  | 4, _ => by kernel_rfl
  | 5, _ => by kernel_rfl
  | 6, _ => by kernel_rfl
  | 7, _ => by kernel_rfl
  | 8, _ => by kernel_rfl
  | 9, _ => by kernel_rfl
  | 10, _ => by kernel_rfl
  | 11, _ => by kernel_rfl
  | 12, _ => by kernel_rfl
  | 13, _ => by kernel_rfl
  | 14, _ => by kernel_rfl
  | 15, _ => by kernel_rfl
  | 16, _ => by kernel_rfl
  | 17, _ => by kernel_rfl
  | 18, _ => by kernel_rfl
  | 19, _ => by kernel_rfl
  | 20, _ => by kernel_rfl
  | 21, _ => by kernel_rfl
  | 22, _ => by kernel_rfl
  | 23, _ => by kernel_rfl
  | 24, _ => by kernel_rfl
  | 25, _ => by kernel_rfl
  | 26, _ => by kernel_rfl
  | 27, _ => by kernel_rfl
  | 28, _ => by kernel_rfl
  | 29, _ => by kernel_rfl
  | 30, _ => by kernel_rfl
  | 31, _ => by kernel_rfl
  | 32, _ => by kernel_rfl
  | 33, _ => by kernel_rfl
  | 34, _ => by kernel_rfl
  | i + 35, h => by omega
theorem Tryd.i66 : (Tryd.prog.info? 66).map (·.size) = some 35 := by kernel_rfl
theorem kept_rng {w : World} (h : Gl w) : w.rangeAt 0 0 keptV := fun j v hj => by
  have hl : j < 35 := by
    have := (List.getElem?_eq_some_iff.1 hj).1
    exact this
  rw [Nat.zero_add, h.kept j hl, ← hj]
  have h2 : j < keptL.length := hl
  simp [keptV, List.getD, h2]
def keyR (l : List UInt8) : Value := match keyF l with
  | some k => .tuple #[tx k, .bool true]
  | none => .tuple #[tx [], .bool false]
theorem find_at (q : List UInt8 → Bool) : ∀ (L : List (List UInt8)) (i : Nat), i < L.length → (∀ j, j < i → q (L.getD j []) = false) → q (L.getD i []) = true → L.find? q = some (L.getD i [])
  | [], i, h, _, _ => by simp at h
  | a :: L, 0, _, _, h => by
    have : q a = true := h
    simp [List.find?, this]
  | a :: L, i + 1, hi, ha, h => by
    have h0 : q a = false := ha 0 (by omega)
    simp only [List.find?, h0]
    exact find_at q L i (by simpa using hi) (fun j hj => ha (j + 1) (by omega)) h
theorem find_no (q : List UInt8 → Bool) : ∀ (L : List (List UInt8)), (∀ j, j < L.length → q (L.getD j []) = false) → L.find? q = none
  | [], _ => rfl
  | a :: L, ha => by
    have h0 : q a = false := ha 0 (by simp)
    simp only [List.find?, h0]
    exact find_no q L (fun j hj => ha (j + 1) (by simpa using hj))

set_option maxRecDepth 100000 in
set_option maxHeartbeats 4000000 in
theorem key_any (l : List UInt8) (hl : l.length ≤ 1000000) (w : World) (hG : Gl w) :
    Calls Tryd.prog 19 #[tx l] w fun e w' => e = .returned (keyR l) ∧ Below w.heap.size w w' := by
  have Y : Hid (∀ i, i < 35 → (∀ j, j < i → isKeyF l (keptL.getD j []) = false) → isKeyF l (keptL.getD i []) = true → keyR l = .tuple #[tx (keptL.getD i []), .bool true]) := Lib.hid (fun i hi ha h => by
    have : keyF l = some (keptL.getD i []) := find_at _ _ i hi ha h
    unfold keyR
    rw [this])
  have N : Hid ((∀ j, j < 35 → isKeyF l (keptL.getD j []) = false) → keyR l = .tuple #[tx [], .bool false]) := Lib.hid (fun ha => by
    have : keyF l = none := find_no _ _ ha
    unfold keyR
    rw [this])
  have K := Lib.hid (fun i (hi : i < 35) W => isKey_any l (keptL.getD i []) hl (Nat.le_trans (keptL_len ⟨i, hi⟩) (by omega)) W)
  have KR := Lib.hid (kept_rng hG)
  have IXH := Lib.hid (fun i hi W => ix66 W i hi)
  generalize keyR l = R at *
  generalize hV : keptV.toArray = KV at *
  have hV2 : KV.toList = keptV := by rw [← hV]
  clear hV hG
  go_enter Tryd.func19, Tryd.ntmps19
  go_upto_region 2 with ((with_reducible refine at_load (t := 66) ?_); refine wpList_load_mid rfl 66 _ rfl 0 0 rfl keptV _ KR.out Tryd.underlying66 rfl Tryd.i66 ?_)
  rw [← hV2]
  simp only [Array.toArray_toList]
  go_loopw [7] (fun iv wr => ∃ i : Nat, i ≤ 35 ∧ iv = .int .i64 (i : Int) ∧ Hid (∀ j, j < i → isKeyF l (keptL.getD j []) = false) ∧ Below w.heap.size w wr) (fun iv _ => 35 - (intOf iv).toNat)
  case atStart => exact ⟨0, Nat.zero_le _, rfl, Lib.hid (fun j hj => absurd hj (by omega)), Below.refl _ _⟩
  case round =>
    obtain ⟨i, hi, rfl, HA, HB⟩ := hrel
    by_cases hlt : i < 35
    · have i0 : (0 : Int) ≤ (i : Int) := by omega
      have i1 : (i : Int) < 35 := by omega
      have IX := IXH.out i hlt
      have KK := Lib.hid (K.out i hlt)
      have YY := Lib.hid (Y.out i hlt HA.out)
      have HB1 := Lib.hid HB
      clear HB
      cases hq : isKeyF l (keptL.getD i []) with
      | true =>
        have hR := YY.out hq
        rw [hq] at KK
        generalize keptL.getD i [] = kk at *
        go_wp2_with (go_at_call 37; refine (KK.out _).mono ?_; rintro e w2 ⟨rfl, hb⟩; have B2 := Lib.hid (HB1.out.trans (hb.mono HB1.out.size)); clear hb)
        go_ret2
        exact ⟨by rw [hR]; rfl, B2.out⟩
      | false =>
        have HA2 : Hid (∀ j, j < i + 1 → isKeyF l (keptL.getD j []) = false) := Lib.hid (fun j hj => by
          by_cases hji : j = i
          · subst hji; exact hq
          · exact HA.out j (by omega))
        rw [hq] at KK
        generalize keptL.getD i [] = kk at *
        go_wp2_with (go_at_call 37; refine (KK.out _).mono ?_; rintro e w2 ⟨rfl, hb⟩; have B2 := Lib.hid (HB1.out.trans (hb.mono HB1.out.size)); clear hb)
        go_roundw
        case rel => exact ⟨i + 1, by omega, by go_num, HA2, B2.out⟩
        case measure => simp [intOf]; omega
    · obtain rfl : i = 35 := by omega
      have hR := N.out HA.out
      go_wp2_with fail
      go_ret2
      exact ⟨by rw [hR]; rfl, HB⟩

/-- The bytes that are a sign. -/
def sgnL : List UInt8 := [40, 41, 44, 59, 61, 60, 62, 43, 45, 42, 47, 37, 46]
/-- How many bytes the longest sign has with which a text begins; 0: it begins with none. -/
def sgnN : List UInt8 → Nat
  | [] => 0
  | b :: r => if (Lib.hasPrefix (b :: r) [60, 61] || Lib.hasPrefix (b :: r) [62, 61] || Lib.hasPrefix (b :: r) [60, 62]) = true then 2 else if 0 ≤ Lib.indexByte sgnL b then 1 else 0
set_option maxRecDepth 100000 in
set_option maxHeartbeats 4000000 in
theorem sign_any (l : List UInt8) (w : World) : Calls Tryd.prog 48 #[tx l] w fun e w' => e = .returned (.int .i64 (sgnN l : Nat)) ∧ w' = w := by
  cases l with
  | nil =>
    go_enter Tryd.func48, Tryd.ntmps48
    go_wp2
    go_ret
    exact ⟨rfl, rfl⟩
  | cons b r =>
    have hs : ((⟨(b :: r).toArray⟩ : ByteArray) == ⟨#[]⟩) = false := by first | rfl | kernel_rfl
    have P1 : Hid (∀ W, _) := Lib.hid (Tryd.strings_HasPrefix ⟨(b :: r).toArray⟩ ⟨#[60, 61]⟩)
    have P2 : Hid (∀ W, _) := Lib.hid (Tryd.strings_HasPrefix ⟨(b :: r).toArray⟩ ⟨#[62, 61]⟩)
    have P3 : Hid (∀ W, _) := Lib.hid (Tryd.strings_HasPrefix ⟨(b :: r).toArray⟩ ⟨#[60, 62]⟩)
    have IB : Hid (∀ W, _) := Lib.hid (Tryd.strings_IndexByte ⟨sgnL.toArray⟩ ((b.toNat : Nat) : Int))
    simp only [show (⟨(b :: r).toArray⟩ : ByteArray).data.toList = b :: r from rfl, show (⟨#[60, 61]⟩ : ByteArray).data.toList = [60, 61] from rfl, show (⟨#[62, 61]⟩ : ByteArray).data.toList = [62, 61] from rfl, show (⟨#[60, 62]⟩ : ByteArray).data.toList = [60, 62] from rfl] at P1 P2 P3
    rw [show (⟨sgnL.toArray⟩ : ByteArray).data.toList = sgnL from rfl, show ((b.toNat : Nat) : Int).toNat.toUInt8 = b from by rw [Int.toNat_natCast]; exact UInt8.ofNat_toNat] at IB
    show Calls Tryd.prog 48 #[tx (b :: r)] w fun e w' => e = .returned (.int .i64 (((if (Lib.hasPrefix (b :: r) [60, 61] || Lib.hasPrefix (b :: r) [62, 61] || Lib.hasPrefix (b :: r) [60, 62]) = true then 2 else if 0 ≤ Lib.indexByte sgnL b then 1 else 0) : Nat) : Int)) ∧ w' = w
    generalize Lib.hasPrefix (b :: r) [60, 61] = p1 at *
    generalize Lib.hasPrefix (b :: r) [62, 61] = p2 at *
    generalize Lib.hasPrefix (b :: r) [60, 62] = p3 at *
    generalize Lib.indexByte sgnL b = ib at *
    unfold sgnL at IB
    cases p1 with
    | true =>
      simp only [Bool.true_or, Bool.false_or, if_true, Bool.false_eq_true, if_false]
      go_enter Tryd.func48, Tryd.ntmps48
      go_wp2_with (go_at_call 43; refine (P1.out _).mono ?_; rintro e w2 ⟨rfl, rfl⟩)
      go_ret
      exact ⟨rfl, rfl⟩
    | false =>
      cases p2 with
      | true =>
        simp only [Bool.true_or, Bool.false_or, if_true, Bool.false_eq_true, if_false]
        go_enter Tryd.func48, Tryd.ntmps48
        go_upto_region 4 with (go_at_call 43; refine (P1.out _).mono ?_; rintro e w2 ⟨rfl, rfl⟩)
        go_wp2_with (go_at_call 43; refine (P2.out _).mono ?_; rintro e w2 ⟨rfl, rfl⟩)
        go_ret
        exact ⟨rfl, rfl⟩
      | false =>
        cases p3 with
        | true =>
          simp only [Bool.true_or, Bool.false_or, if_true, Bool.false_eq_true, if_false]
          go_enter Tryd.func48, Tryd.ntmps48
          go_upto_region 4 with (go_at_call 43; refine (P1.out _).mono ?_; rintro e w2 ⟨rfl, rfl⟩)
          go_upto_region 5 with (go_at_call 43; refine (P2.out _).mono ?_; rintro e w2 ⟨rfl, rfl⟩)
          go_wp2_with (go_at_call 43; refine (P3.out _).mono ?_; rintro e w2 ⟨rfl, rfl⟩)
          go_ret
          exact ⟨rfl, rfl⟩
        | false =>
          by_cases hi : 0 ≤ ib
          · simp only [Bool.false_or, Bool.false_eq_true, if_false, if_pos hi]
            have hd : decide (0 ≤ ib) = true := decide_eq_true hi
            go_enter Tryd.func48, Tryd.ntmps48
            go_upto_region 4 with (go_at_call 43; refine (P1.out _).mono ?_; rintro e w2 ⟨rfl, rfl⟩)
            go_upto_region 5 with (go_at_call 43; refine (P2.out _).mono ?_; rintro e w2 ⟨rfl, rfl⟩)
            go_upto_region 7 with (go_at_call 43; refine (P3.out _).mono ?_; rintro e w2 ⟨rfl, rfl⟩)
            go_wp2_with (go_at_call 66; refine (IB.out _).mono ?_; rintro e w2 ⟨rfl, rfl⟩)
            go_ret
            exact ⟨rfl, rfl⟩
          · simp only [Bool.false_or, Bool.false_eq_true, if_false, if_neg hi]
            have hd : decide (0 ≤ ib) = false := decide_eq_false hi
            go_enter Tryd.func48, Tryd.ntmps48
            go_upto_region 4 with (go_at_call 43; refine (P1.out _).mono ?_; rintro e w2 ⟨rfl, rfl⟩)
            go_upto_region 5 with (go_at_call 43; refine (P2.out _).mono ?_; rintro e w2 ⟨rfl, rfl⟩)
            go_upto_region 7 with (go_at_call 43; refine (P3.out _).mono ?_; rintro e w2 ⟨rfl, rfl⟩)
            go_wp2_with (go_at_call 66; refine (IB.out _).mono ?_; rintro e w2 ⟨rfl, rfl⟩)
            go_ret
            exact ⟨rfl, rfl⟩
end Go.Proofs.YtblcfjliabeaiaaDoor
