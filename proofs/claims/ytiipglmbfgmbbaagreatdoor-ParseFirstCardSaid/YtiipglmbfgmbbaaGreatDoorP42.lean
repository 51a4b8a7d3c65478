/-
  A statement, whatever stands there.
-/
import Derived.Test.YtiipglmbfgmbbaaGreatDoorP41
namespace Go.Proofs.YtiipglmbfgmbbaaGreatDoor
open Go.RowKit Go.Shelf
attribute [local go_sem] Oper.semAt_some

set_option maxRecDepth 100000 in
set_option maxHeartbeats 8000000 in
theorem stmt_err (w : World) (base q : Nat) (A : Option Addr) (c : Nat) (L : List Tk) (E m r o : Nat) (B : Option Addr) (n nc : Nat) (h : Sx w base q A c L E m r o B n nc) (hG : Gp w) (h2 : 2 ≤ base) (hq2 : 2 ≤ q) (a : Nat) (er : Int) (i : Nat) (hk : kindF L E r = .error (er, i)) :
    Calls Tryz.prog 48 #[.pointer (some ⟨q, 0, none⟩), .int .i64 (a : Int)] w (Stx w base q A c L E m r o a) := by
  have h0 : Below w.heap.size w (w.alloc (.cells #[.int .i64 0, .string ⟨#[]⟩, .string ⟨#[]⟩, .slice none 0 0, .slice none 0 0, .bool false, .slice none 0 0, .slice none 0 0, .slice none 0 0, .string ⟨#[]⟩, .string ⟨#[]⟩, .string ⟨#[]⟩, .string ⟨#[]⟩, .bool false, .int .i64 0] 38)) := (Below.refl _ _).alloc (Nat.le_refl _) _
  have hb0 := h.pt.le
  have P1 := Lib.hid (h.pt.on h0)
  have F1 := Lib.hid (Fq.of (q := q) h0 (Nat.le_refl _))
  have G1 := Lib.hid (hG.fq F1.out (by omega) hq2)
  have KA := kind_any _ base q c E r o A L _ _ P1.out G1.out
  rw [hk] at KA
  have KH := Lib.hid KA
  have ST : Hid (stF L E o 0 a r = some (.error (er, i))) := Lib.hid (by unfold stF; rw [rb_err (congrArg some hk)])
  clear KA h hG hk
  go_enter Tryz.func48, Tryz.ntmps48
  go_upto_region 1 with fail
  generalize w.alloc (.cells #[.int .i64 0, .string ⟨#[]⟩, .string ⟨#[]⟩, .slice none 0 0, .slice none 0 0, .bool false, .slice none 0 0, .slice none 0 0, .slice none 0 0, .string ⟨#[]⟩, .string ⟨#[]⟩, .string ⟨#[]⟩, .string ⟨#[]⟩, .bool false, .int .i64 0] 38) = w1 at *
  go_wp2_with (go_at_call 74; refine KH.out.mono ?_; rintro e w2 hR; obtain ⟨rfl, hF⟩ := Rd.err hR; have F2 := Lib.hid (F1.out.trans (hF.mono F1.out.size)); clear hR hF)
  exact ⟨rfl, 0, .error (er, i), ST.out, F2.out, rfl⟩
set_option maxRecDepth 100000 in
set_option maxHeartbeats 8000000 in
theorem stmt_many (w : World) (base q : Nat) (A : Option Addr) (c : Nat) (L : List Tk) (E m r o : Nat) (B : Option Addr) (n nc : Nat) (h : Sx w base q A c L E m r o B n nc) (hG : Gp w) (h2 : 2 ≤ base) (hq2 : 2 ≤ q) (k : Nat) (hk : kindF L E r = .ok (k, r)) :
    Calls Tryz.prog 48 #[.pointer (some ⟨q, 0, none⟩), .int .i64 8] w (Stx w base q A c L E m r o 8) := by
  have h0 : Below w.heap.size w (w.alloc (.cells #[.int .i64 0, .string ⟨#[]⟩, .string ⟨#[]⟩, .slice none 0 0, .slice none 0 0, .bool false, .slice none 0 0, .slice none 0 0, .slice none 0 0, .string ⟨#[]⟩, .string ⟨#[]⟩, .string ⟨#[]⟩, .string ⟨#[]⟩, .bool false, .int .i64 0] 38)) := (Below.refl _ _).alloc (Nat.le_refl _) _
  have hb0 := h.pt.le
  have P1 := Lib.hid (h.pt.on h0)
  have F1 := Lib.hid (Fq.of (q := q) h0 (Nat.le_refl _))
  have G1 := Lib.hid (hG.fq F1.out (by omega) hq2)
  have KA := kind_any _ base q c E r o A L _ _ P1.out G1.out
  rw [hk] at KA
  have KH : Hid (Calls Tryz.prog 74 #[.pointer (some ⟨q, 0, none⟩)] (w.alloc (.cells #[.int .i64 0, .string ⟨#[]⟩, .string ⟨#[]⟩, .slice none 0 0, .slice none 0 0, .bool false, .slice none 0 0, .slice none 0 0, .slice none 0 0, .string ⟨#[]⟩, .string ⟨#[]⟩, .string ⟨#[]⟩, .string ⟨#[]⟩, .bool false, .int .i64 0] 38)) fun e w' => e = .returned (.int .i64 (k : Int)) ∧ Pt w' base q A c L E (.map (some m)) (.slice B n nc) r o ∧ Fq (w.alloc (.cells #[.int .i64 0, .string ⟨#[]⟩, .string ⟨#[]⟩, .slice none 0 0, .slice none 0 0, .bool false, .slice none 0 0, .slice none 0 0, .slice none 0 0, .string ⟨#[]⟩, .string ⟨#[]⟩, .string ⟨#[]⟩, .string ⟨#[]⟩, .bool false, .int .i64 0] 38)).heap.size q (w.alloc (.cells #[.int .i64 0, .string ⟨#[]⟩, .string ⟨#[]⟩, .slice none 0 0, .slice none 0 0, .bool false, .slice none 0 0, .slice none 0 0, .slice none 0 0, .string ⟨#[]⟩, .string ⟨#[]⟩, .string ⟨#[]⟩, .string ⟨#[]⟩, .bool false, .int .i64 0] 38)) w') := Lib.hid KA
  have ST : Hid (stF L E o 0 8 r = some (.error (212, r))) := Lib.hid (by unfold stF; rw [rb_ok (congrArg some hk)]; rfl)
  have SP := Lib.hid (fun W (hP : Pt W base q A c L E (.map (some m)) (.slice B n nc) r o) => spot_any 212 W base q c E r o A L _ _ hP)
  clear KA h hG hk
  go_enter Tryz.func48, Tryz.ntmps48
  go_upto_region 1 with fail
  generalize w.alloc (.cells #[.int .i64 0, .string ⟨#[]⟩, .string ⟨#[]⟩, .slice none 0 0, .slice none 0 0, .bool false, .slice none 0 0, .slice none 0 0, .slice none 0 0, .string ⟨#[]⟩, .string ⟨#[]⟩, .string ⟨#[]⟩, .string ⟨#[]⟩, .bool false, .int .i64 0] 38) = w1 at *
  go_upto_region 3 with (first
    | (go_at_call 74; refine KH.out.mono ?_; rintro e w2 ⟨rfl, hP, hF⟩; have P2 := Lib.hid hP; have F2 := Lib.hid (F1.out.trans (hF.mono F1.out.size)); have hs2 := F2.out.size; clear hP hF)
    | ((with_reducible refine at_store (t := 38) ?_); have AL3 : Below w2.heap.size w2 (w2.alloc (.cells #[.int .i64 0, .string ⟨#[]⟩, .string ⟨#[]⟩, .slice none 0 0, .slice none 0 0, .bool false, .slice none 0 0, .slice none 0 0, .slice none 0 0, .string ⟨#[]⟩, .string ⟨#[]⟩, .string ⟨#[]⟩, .string ⟨#[]⟩, .bool false, .int .i64 0] 38)) := (Below.refl _ _).alloc (Nat.le_refl _) _; have K3 : Blk (w2.alloc (.cells #[.int .i64 0, .string ⟨#[]⟩, .string ⟨#[]⟩, .slice none 0 0, .slice none 0 0, .bool false, .slice none 0 0, .slice none 0 0, .slice none 0 0, .string ⟨#[]⟩, .string ⟨#[]⟩, .string ⟨#[]⟩, .string ⟨#[]⟩, .bool false, .int .i64 0] 38)) w2.heap.size 38 #[.int .i64 0, .string ⟨#[]⟩, .string ⟨#[]⟩, .slice none 0 0, .slice none 0 0, .bool false, .slice none 0 0, .slice none 0 0, .slice none 0 0, .string ⟨#[]⟩, .string ⟨#[]⟩, .string ⟨#[]⟩, .string ⟨#[]⟩, .bool false, .int .i64 0] := Blk.new _ _ _; refine wpList_store_blk _ rfl 38 _ _ rfl w2.heap.size _ 38 [.int .i64 (k : Int), .string ⟨#[]⟩, .string ⟨#[]⟩, .slice none 0 0, .slice none 0 0, .bool false, .slice none 0 0, .slice none 0 0, .slice none 0 0, .string ⟨#[]⟩, .string ⟨#[]⟩, .string ⟨#[]⟩, .string ⟨#[]⟩, .bool false, .int .i64 (-1)] rfl rfl K3 rfl Tryz.i38 (by simp [Value.oneCell']) ?_; intro w3 hb3 ho3; have B3 := Lib.hid (AL3.trans (ho3.below (Nat.le_refl _))); clear hb3 ho3 AL3 K3))
  have P3 := Lib.hid (P2.out.on B3.out)
  have F3 := Lib.hid (F2.out.trans (Fq.of (q := q) B3.out hs2))
  go_wp2_with (go_at_call 75; refine (SP.out _ P3.out).mono ?_; rintro e w4 ⟨rfl, hb4⟩; have F4 := Lib.hid (F3.out.trans ((Fq.of (q := q) hb4 (Nat.le_refl _)).mono F3.out.size)); clear hb4)
  exact ⟨rfl, 0, .error (212, r), ST.out, F4.out, rfl⟩
theorem stmt_any (w : World) (base q : Nat) (A : Option Addr) (c : Nat) (L : List Tk) (E m r o : Nat) (B : Option Addr) (n nc : Nat) (h : Sx w base q A c L E m r o B n nc) (hG : Gp w) (h2 : 2 ≤ base) (hq2 : 2 ≤ q) (ho : o ≤ 16) (a : Nat) (ha : a ≤ 8) :
    Calls Tryz.prog 48 #[.pointer (some ⟨q, 0, none⟩), .int .i64 (a : Int)] w (Stx w base q A c L E m r o a) := by
  cases hk : kindF L E r with
  | error ei =>
    obtain ⟨er, i⟩ := ei
    exact stmt_err w base q A c L E m r o B n nc h hG h2 hq2 a er i hk
  | ok kr =>
    obtain ⟨k, r'⟩ := kr
    obtain ⟨rfl, hk7⟩ := kindF_ok hk
    by_cases h8 : a = 8
    · subst h8
      exact stmt_many w base q A c L E m _ o B n nc h hG h2 hq2 k hk
    · have ha : a < 8 := by omega
      match k, hk7, hk with
      | 0, _, hk => exact stmt_0 w base q A c L E m _ o B n nc h hG h2 hq2 ho a ha hk
      | 1, _, hk => exact stmt_1 w base q A c L E m _ o B n nc h hG h2 hq2 ho a ha hk
      | 2, _, hk => exact stmt_2 w base q A c L E m _ o B n nc h hG h2 hq2 ho a ha hk
      | 3, _, hk => exact stmt_3 w base q A c L E m _ o B n nc h hG h2 hq2 ho a ha hk
      | 4, _, hk => exact stmt_4 w base q A c L E m _ o B n nc h hG h2 hq2 ho a ha hk
      | 5, _, hk => exact stmt_5 w base q A c L E m _ o B n nc h hG h2 hq2 ho a ha hk
      | 6, _, hk => exact stmt_6 w base q A c L E m _ o B n nc h hG h2 hq2 ho a ha hk
      | k + 7, h, _ => exact absurd h (by omega)
end Go.Proofs.YtiipglmbfgmbbaaGreatDoor
