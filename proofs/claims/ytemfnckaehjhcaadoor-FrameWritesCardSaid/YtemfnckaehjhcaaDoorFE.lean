/-
  A message's bytes: the program's Encode.
-/
import Derived.Test.YtemfnckaehjhcaaDoorFD
import Derived.Test.YtemfnckaehjhcaaDoorFC
import Derived.Test.YtemfnckaehjhcaaDoorF8
namespace Go.Proofs.YtemfnckaehjhcaaDoor
open Go.RowKit
attribute [local go_sem ↓] eqA neA eqGA field1

/-- A message's bytes. -/
def encB (m : Ms) : List Int := sealF (plainB m) ++ plainB m
/-- What Encode answers. -/
def Enc (w : World) (m : Ms) (e : Ending) (w' : World) : Prop :=
  ∃ A n c, e = .returned (.tuple #[.slice A n c, .int .i64 (chkM m)]) ∧ Own w' w.heap.size A n c (if rightM m = true then encB m else []) ∧ Below w.heap.size w w'
theorem Bk.Gl.on {w w' : World} (h : Bk.Gl w) (hb : Below w.heap.size w w') : Bk.Gl w' := h.below hb h.lt
theorem Own.capmax {w : World} {base n c : Nat} {A : Option Addr} {zs : List Int} (h : Own w base A n c zs) : c ≤ 9223372036854775807 := by
  rcases h.1.2 with ⟨hv, _⟩ | ⟨g, cap, cur, hv, _, _, _, hm, _⟩
  · injection hv with _ _ h3
    omega
  · injection hv with _ _ h3
    unfold maxLen at hm
    omega
theorem By.new_ {w : World} {B n : Nat} {A : Option Addr} {zs : List Int} (h : By w B A n zs) (hB : B ≤ w.heap.size) (o : Obj) : By (w.alloc o) (w.alloc o).heap.size A n zs := (h.alloc hB o).more (by simp; omega)

set_option maxRecDepth 100000 in
set_option maxHeartbeats 8000000 in
theorem encode_any (m : Ms) (A : Option Addr) (n c : Nat) (A1 : Option Addr) (n1 c1 : Nat) (A2 : Option Addr) (n2 c2 B : Nat) (w : World) (h : Mr w B m A n c A1 n1 c1 A2 n2 c2) (hB : B ≤ w.heap.size) (hG : Bk.Gl w) :
    Calls Tryd.prog 10 #[.agg #[.int .i64 m.kind, .int .i64 m.fr, .int .i64 m.to, .int .u64 m.t, .int .u64 m.pi, .int .u64 m.pt, .slice A n c, .int .u64 m.co, .bool m.ok, .slice A1 n1 c1, .slice A2 n2 c2]] w (Enc w m) := by
  have CK := Lib.hid (fun W (hW : Below w.heap.size w W) => check_any m A n c A1 n1 c1 A2 n2 c2 B W (h.below (hW.mono hB)) (Nat.le_trans hB hW.size))
  have GLH := Lib.hid hG
  cases hR : rightM m with
  | false =>
    have hc : chkM m = 170 := by unfold chkM; rw [hR]; rfl
    unfold Enc
    rw [hc] at CK
    rw [hc, hR]
    clear hc hR h
    obtain ⟨kind, fr, to, t, pi, pt, es, co, ok, mem, da⟩ := m
    simp only at CK ⊢
    have X := Lib.hid (Bx.new_ kind fr to t pi pt co ok A n c A1 n1 c1 A2 n2 c2 w)
    go_enter Tryd.func10, Tryd.ntmps10
    go_upto_region 1 with (fail)
    generalize w.alloc (.cells #[.int .i64 kind, .int .i64 fr, .int .i64 to, .int .u64 t, .int .u64 pi, .int .u64 pt, .slice A n c, .int .u64 co, .bool ok, .slice A1 n1 c1, .slice A2 n2 c2] 31) = W at *
    obtain ⟨d0, d1, d2, d3, d4, d5, d6, d7, d8, d9, d10⟩ := X.out.cells
    go_wp2_with (go_at_call 11; refine (CK.out _ X.out.bel).mono ?_; rintro e w1 ⟨rfl, hb⟩; have X1 := Lib.hid (X.out.on hb); clear hb)
    exact bodyPost_ret (resTT rfl _ _ _ _ rfl rfl) rfl ⟨none, 0, 0, rfl, ⟨World.ownsRow_nil _ _ _ _, fun j => by simp⟩, X1.out.bel⟩
  | true =>
    have hc : chkM m = 0 := by unfold chkM; rw [hR]; rfl
    have PB := Lib.hid (fun W (hW : Below w.heap.size w W) => plainbytes_any m A n c A1 n1 c1 A2 n2 c2 B W (h.below (hW.mono hB)) (Nat.le_trans hB hW.size) hR)
    have PL := plain_len hR h.in_
    have HE : Hid (encB m = sealF (plainB m) ++ plainB m) := Lib.hid rfl
    unfold Enc
    rw [hc] at CK
    rw [hc, hR]
    clear hc hR h
    generalize encB m = EN at *
    generalize plainB m = PP at *
    have SL := sealF_len PP
    obtain ⟨kind, fr, to, t, pi, pt, es, co, ok, mem, da⟩ := m
    simp only at CK PB ⊢
    have X := Lib.hid (Bx.new_ kind fr to t pi pt co ok A n c A1 n1 c1 A2 n2 c2 w)
    go_enter Tryd.func10, Tryd.ntmps10
    go_upto_region 1 with (fail)
    generalize w.alloc (.cells #[.int .i64 kind, .int .i64 fr, .int .i64 to, .int .u64 t, .int .u64 pi, .int .u64 pt, .slice A n c, .int .u64 co, .bool ok, .slice A1 n1 c1, .slice A2 n2 c2] 31) = W at *
    obtain ⟨d0, d1, d2, d3, d4, d5, d6, d7, d8, d9, d10⟩ := X.out.cells
    go_upto_region 5 with (first
      | (go_at_call 11; refine (CK.out _ X.out.bel).mono ?_; rintro e w1 ⟨rfl, hb⟩; have X1 := Lib.hid (X.out.on hb); clear hb d0 d1 d2 d3 d4 d5 d6 d7 d8 d9 d10; obtain ⟨d0, d1, d2, d3, d4, d5, d6, d7, d8, d9, d10⟩ := X1.out.cells)
      | (go_at_call 26; refine (PB.out _ X1.out.bel).mono ?_; rintro e w2 ⟨A3, c3, rfl, o3, hb⟩; have O3 := Lib.hid o3; have X2 := Lib.hid (X1.out.on hb); clear hb o3 d0 d1 d2 d3 d4 d5 d6 d7 d8 d9 d10))
    have nc := O3.out.cap
    have hmx := O3.out.capmax
    have SE := Lib.hid (seal_any A3 PP.length c3 PP w2 O3.out.by (by omega) nc hmx (GLH.out.on X2.out.bel))
    go_wp2_with (first
      | (go_at_call 28; refine SE.out.mono ?_; rintro e w3 ⟨g, rfl, hy, hb⟩; have Y := Lib.hid hy; have O4 := Lib.hid (O3.out.below hb); have X3 := Lib.hid (X2.out.on hb); clear hb hy SE O3)
      | (go_at_call 27; refine (concat_any w3.heap.size (some ⟨g, 0, none⟩) A3 16 32 PP.length c3 (sealF PP) PP _ (Blk.new w3 29 _) (Y.out.new_ (Nat.le_refl _) _) (O4.out.by.new_ (Nat.le_refl _) _) (fun e => by cases e) O4.out.nil (by omega) (by omega)).mono ?_; rintro e w4 ⟨A5, c5, rfl, o5, hb⟩; have O5 := Lib.hid o5; have B5 := Lib.hid (X3.out.bel.trans (((Below.refl _ w3).alloc (Nat.le_refl _) _).trans (hb.mono (by simp)) |>.mono X3.out.bel.size)); clear hb o5))
    exact bodyPost_ret (resTT rfl _ _ _ _ rfl rfl) rfl ⟨A5, _, c5, rfl, by rw [HE.out]; exact O5.out.down (Nat.le_trans X3.out.bel.size (by simp)), B5.out⟩

end Go.Proofs.YtemfnckaehjhcaaDoor
