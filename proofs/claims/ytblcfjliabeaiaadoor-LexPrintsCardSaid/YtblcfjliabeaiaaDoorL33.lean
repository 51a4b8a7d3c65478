/-
  Tokens as a text: the document's Text.
-/
import Derived.Test.YtblcfjliabeaiaaDoorL32
import Derived.Test.YtblcfjliabeaiaaDoorL23
namespace Go.Proofs.YtblcfjliabeaiaaDoor
open Go.RowKit Go.Shelf
attribute [local go_sem] Oper.semAt_some

theorem ba_app2 (a b : List UInt8) : (⟨a.toArray⟩ : ByteArray) ++ (⟨b.toArray⟩ : ByteArray) = ⟨(a ++ b).toArray⟩ := by
  apply ByteArray.ext
  rw [ByteArray.data_append]
  simp
theorem txtF_len {t : Tq} (h : TkOk t) : (txtF t).length ≤ 900000 := by
  unfold txtF
  split
  · exact Nat.le_trans (Lib.itoa_length_le t.num h.n0 h.n1) (by omega)
  · split
    · unfold quoteF
      have := dbl_len t.text
      have := h.len
      simp
      omega
    · exact Nat.le_trans h.len (by omega)
theorem jnR_take {ts : List Tq} {i : Nat} (h : i < ts.length) : jnR 0 (ts.take (i + 1)) = jnR 0 (ts.take i) ++ (if 0 < i then [32] else []) ++ txtF (ts.getD i errQ) := by
  have e : ts.getD i errQ = ts[i] := by simp [List.getD, h]
  rw [List.take_succ_eq_append_getElem h, jnR_snoc, List.length_take, Nat.min_eq_left (Nat.le_of_lt h), Nat.zero_add, e]
theorem jnR_len0 {ts : List Tq} (hok : ∀ t ∈ ts, TkOk t) : ∀ i, i ≤ ts.length → (jnR 0 (ts.take i)).length ≤ i * 1000000
  | 0, _ => by simp [jnR]
  | i + 1, h => by
    have h1 := jnR_len0 hok i (by omega)
    have h2 := txtF_len (getD_ok hok i)
    have h3 : (if 0 < i then [32] else [] : List UInt8).length ≤ 1 := by split <;> simp
    rw [jnR_take (by omega), List.length_append, List.length_append]
    omega

set_option maxRecDepth 100000 in
set_option maxHeartbeats 8000000 in
theorem rtext_any (A : Option Addr) (n c B : Nat) (ts : List Tq) (w : World) (h : Trd w B A n ts) (hok : ∀ t ∈ ts, TkOk t) (hr : ∀ j, j < n → (ts.getD j errQ).kind = 3 → 0 ≤ (ts.getD j errQ).num) (hn : n ≤ 1000000) (hB : B ≤ w.heap.size) :
    Calls Tryd.prog 16 #[.slice A n c] w fun e w' => e = .returned (tx (jnR 0 ts)) ∧ Below w.heap.size w w' := by
  have hlen := h.len
  have JT := Lib.hid (fun i (hi : i < n) => jnR_take (ts := ts) (i := i) (by omega))
  have JL := Lib.hid (fun i (hi : i ≤ n) => jnR_len0 hok i (by omega))
  have JE : Hid (jnR 0 (ts.take n) = jnR 0 ts) := Lib.hid (by rw [← hlen, List.take_length])
  have OK := Lib.hid (getD_ok hok)
  have HR := Lib.hid hr
  have BA := Lib.hid ba_app2
  have H := Lib.hid h
  generalize jnR 0 ts = R at *
  clear h hok hr hlen
  go_enter Tryd.func16, Tryd.ntmps16
  go_upto_region 3 with fail
  go_loopw [3, 8] (fun sv iv wr => ∃ (i : Nat) (S : List UInt8), i ≤ n ∧ iv = .int .i64 (i : Int) ∧ sv = tx S ∧ Hid (S = jnR 0 (ts.take i)) ∧ Hid (Below w.heap.size w wr)) (fun _ iv _ => n - (intOf iv).toNat)
  case atStart => exact ⟨0, [], Nat.zero_le _, rfl, rfl, Lib.hid rfl, Lib.hid (Below.refl _ _)⟩
  case round =>
    obtain ⟨i, S, hi, rfl, rfl, HS, HB⟩ := hrel
    have hS : S.length ≤ i * 1000000 := by rw [HS.out]; exact JL.out i hi
    by_cases hlt : i < n
    · have i0 : (0 : Int) ≤ (i : Int) := by omega
      have i1 : (i : Int) < (n : Int) := by omega
      obtain ⟨b, o, rfl, hbB, x0, x1, x2, x3, x4⟩ := (H.out.below (HB.out.mono hB)).at_ hlt
      have J1 : Hid (jnR 0 (ts.take (i + 1)) = S ++ (if 0 < i then [32] else []) ++ txtF (ts.getD i errQ)) := Lib.hid (by rw [JT.out i hlt, HS.out])
      have OK1 := OK.out i
      have HR1 := HR.out i hlt
      generalize ts.getD i errQ = t at *
      have T1 := txtF_len OK1
      obtain ⟨kind, text, num, aa, to_⟩ := t
      have q0 := OK1.len
      have q2 := OK1.n1
      simp only at x0 x1 x2 x3 x4 q0 q2 HR1
      have AL : Below wr.heap.size wr (wr.alloc (.cells #[.int .i64 kind, tx text, .int .i64 num, .int .i64 (aa : Int), .int .i64 (to_ : Int)] 47)) := (Below.refl _ _).alloc (Nat.le_refl _) _
      have H2 := Lib.hid (HB.out.trans (AL.mono HB.out.size))
      clear AL OK1 HS
      obtain ⟨S1, hS1⟩ : ∃ S1, S ++ (if 0 < i then [32] else []) = S1 := ⟨_, rfl⟩
      have hS1l : S1.length ≤ S.length + 1 := by rw [← hS1, List.length_append]; split <;> simp
      have BA1 : 0 < i → (⟨S.toArray⟩ : ByteArray) ++ ⟨#[32]⟩ = ⟨S1.toArray⟩ := fun hp => by rw [← hS1, if_pos hp]; exact BA.out S [32]
      have SE : ¬ 0 < i → S1 = S := fun hp => by rw [← hS1, if_neg hp, List.append_nil]
      rw [hS1] at J1
      clear hS1
      have hov1 : ¬ 9223372036854775807 < S.length + 1 := by omega
      by_cases k3 : kind = 3
      · subst k3
        have hnum := HR1 rfl
        obtain ⟨N, hN⟩ : ∃ N : Nat, num = (N : Int) := ⟨num.toNat, by omega⟩
        subst hN
        have e : txtF ⟨3, text, (N : Int), aa, to_⟩ = Lib.itoa (N : Int) := rfl
        rw [e] at J1 T1
        have DG := Lib.hid (fun W => rdigits_any N q2 W)
        generalize Lib.itoa (N : Int) = T at *
        have BA2 := BA.out S1 T
        have hov2 : ¬ 9223372036854775807 < S1.length + T.length := by omega
        by_cases hp : 0 < i
        · have BB := BA1 hp
          have hgt : decide ((i : Int) > 0) = true := decide_eq_true (by omega)
          clear BA1 SE
          go_wp2_with (go_at_call 36; refine (DG.out _).mono ?_; rintro e w3 ⟨rfl, hb⟩; have H3 := Lib.hid (H2.out.trans (hb.mono H2.out.size)); clear hb)
          go_roundw
          case rel => exact ⟨i + 1, _, by omega, by go_num, rfl, Lib.hid J1.out.symm, H3⟩
          case measure => simp [intOf]; omega
        · obtain rfl := SE hp
          have hgt : decide ((i : Int) > 0) = false := decide_eq_false (by omega)
          clear BA1 SE
          go_wp2_with (go_at_call 36; refine (DG.out _).mono ?_; rintro e w3 ⟨rfl, hb⟩; have H3 := Lib.hid (H2.out.trans (hb.mono H2.out.size)); clear hb)
          go_roundw
          case rel => exact ⟨i + 1, _, by omega, by go_num, rfl, Lib.hid J1.out.symm, H3⟩
          case measure => simp [intOf]; omega
      · have f3 : (kind == 3) = false := beq_eq_false_iff_ne.2 k3
        by_cases k4 : kind = 4
        · subst k4
          clear f3 k3
          have e : txtF ⟨4, text, num, aa, to_⟩ = quoteF text := rfl
          rw [e] at J1 T1
          have QT := Lib.hid (fun W => rquote_any text q0 W)
          generalize quoteF text = T at *
          have BA2 := BA.out S1 T
          have hov2 : ¬ 9223372036854775807 < S1.length + T.length := by omega
          by_cases hp : 0 < i
          · have BB := BA1 hp
            have hgt : decide ((i : Int) > 0) = true := decide_eq_true (by omega)
            clear BA1 SE
            go_wp2_with (go_at_call 24; refine (QT.out _).mono ?_; rintro e w3 ⟨rfl, hb⟩; have H3 := Lib.hid (H2.out.trans (hb.mono H2.out.size)); clear hb)
            go_roundw
            case rel => exact ⟨i + 1, _, by omega, by go_num, rfl, Lib.hid J1.out.symm, H3⟩
            case measure => simp [intOf]; omega
          · obtain rfl := SE hp
            have hgt : decide ((i : Int) > 0) = false := decide_eq_false (by omega)
            clear BA1 SE
            go_wp2_with (go_at_call 24; refine (QT.out _).mono ?_; rintro e w3 ⟨rfl, hb⟩; have H3 := Lib.hid (H2.out.trans (hb.mono H2.out.size)); clear hb)
            go_roundw
            case rel => exact ⟨i + 1, _, by omega, by go_num, rfl, Lib.hid J1.out.symm, H3⟩
            case measure => simp [intOf]; omega
        · have f4 : (kind == 4) = false := beq_eq_false_iff_ne.2 k4
          have e : txtF ⟨kind, text, num, aa, to_⟩ = text := by
            unfold txtF
            simp only
            rw [if_neg (by simpa using k3), if_neg (by simpa using k4)]
          rw [e] at J1 T1
          have BA2 := BA.out S1 text
          have hov2 : ¬ 9223372036854775807 < S1.length + text.length := by omega
          by_cases hp : 0 < i
          · have BB := BA1 hp
            have hgt : decide ((i : Int) > 0) = true := decide_eq_true (by omega)
            clear BA1 SE
            go_wp2_with fail
            go_roundw
            case rel => exact ⟨i + 1, _, by omega, by go_num, rfl, Lib.hid J1.out.symm, H2⟩
            case measure => simp [intOf]; omega
          · obtain rfl := SE hp
            have hgt : decide ((i : Int) > 0) = false := decide_eq_false (by omega)
            clear BA1 SE
            go_wp2_with fail
            go_roundw
            case rel => exact ⟨i + 1, _, by omega, by go_num, rfl, Lib.hid J1.out.symm, H2⟩
            case measure => simp [intOf]; omega
    · obtain rfl : i = n := by omega
      have hR := Lib.hid (HS.out.trans JE.out)
      go_wp2_with fail
      go_ret
      exact ⟨by rw [← hR.out]; rfl, HB.out⟩
end Go.Proofs.YtblcfjliabeaiaaDoor
