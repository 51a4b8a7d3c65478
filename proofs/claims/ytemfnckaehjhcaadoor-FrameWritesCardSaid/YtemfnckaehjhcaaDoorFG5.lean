/-
  The document's Sealed, Bytes.
-/
import Derived.Test.YtemfnckaehjhcaaDoorFG4
namespace Go.Proofs.YtemfnckaehjhcaaDoor
open Go.RowKit
attribute [local go_sem ↓] eqA neA eqGA field1

set_option maxRecDepth 100000 in
set_option maxHeartbeats 4000000 in
theorem sealed7_any (A : Option Addr) (n c : Nat) (zs : List Int) (w : World) (B : Nat) (hz : By w B A n zs) (hB : B ≤ w.heap.size) (hn : n ≤ 100000) (hc : A = none → c = 0) :
    Calls Tryd.prog 36 #[.slice A n c] w (Cloned w (16 + n) (sealF zs ++ zs)) := by
  have hz0 : By w w.heap.size A n zs := hz.more hB
  have SM := Lib.hid (Bk.refsum_any A n c zs w hz0.bk hn)
  have ZH := Lib.hid hz0
  have NC := Lib.hid hc
  have NH := Lib.hid hn
  clear hz hz0 hB hc hn
  have i80 : Hid ((Tryd.prog.info? 80).map (·.size) = some (Bk.BL (Bk.sumF zs)).length) := Lib.hid (by rw [Bk.BL.len, sumF_len]; kernel_rfl)
  have one := Lib.hid (Bk.BL.one (Bk.sumF zs))
  have zl : Hid ((Array.replicate 32 (Value.int .u8 0)).size = (Bk.BL (Bk.sumF zs)).length) := Lib.hid (by rw [Bk.BL.len, sumF_len]; rfl)
  have SL := sealF_len zs
  have BS : Hid (∀ j, 0 ≤ (sealF zs).getD j 0 ∧ (sealF zs).getD j 0 ≤ 255) := Lib.hid (fun j => by
    have h := sumF_bs zs j
    unfold sealF
    simp only [List.getD, List.getElem?_take] at h ⊢
    split
    · exact h
    · simp)
  have GT : Hid (∀ j, j < 16 → (Bk.BL (Bk.sumF zs))[j]? = some (.int .u8 ((sealF zs).getD j 0))) := Lib.hid (fun j hj => by
    rw [Bk.BL.get _ j (by rw [sumF_len]; omega)]
    unfold sealF
    simp [List.getD, List.getElem?_take, hj])
  have SLH := Lib.hid SL
  clear SL
  generalize Bk.sumF zs = F at *
  generalize sealF zs = G at *
  go_enter Tryd.func36, Tryd.ntmps36
  go_wp2_with (first
    | (go_at_call 55; refine SM.out.mono ?_; rintro e w1 ⟨rfl, hb⟩; have B1 := Lib.hid hb; clear SM hb)
    | ((with_reducible refine at_store (t := 80) ?_); refine wpList_store_blk _ rfl 80 _ _ rfl w1.heap.size (Array.replicate 32 (Value.int .u8 0)) 80 (Bk.BL F) rfl rfl (Blk.new w1 80 _) zl.out i80.out one.out ?_; intro w2 hb2 ho2; have X2 := Lib.hid hb2; have B2 : Hid (Below w.heap.size w w2) := Lib.hid ((B1.out.alloc B1.out.size _).trans (ho2.below B1.out.size)); clear hb2 ho2
       have Y2 : Hid (By w2 w2.heap.size (some ⟨w1.heap.size, 0, none⟩) 16 G) := Lib.hid ⟨SLH.out, BS.out, fun _ => ⟨w1.heap.size, 0, rfl, X2.out.lt, fun j hj => by
         rw [Nat.zero_add, X2.out.cell, List.getElem?_toArray]
         exact GT.out j hj⟩⟩
       have Z2 : Hid (By w2 w2.heap.size A n zs) := Lib.hid ((ZH.out.below B2.out).more B2.out.size))
    | (go_at_call 56; refine (both_any (some ⟨w1.heap.size, 0, none⟩) 16 32 G A n c zs w2 w2.heap.size Y2.out (fun e => by cases e) Z2.out NC.out (Nat.le_refl _) (by omega) NH.out).mono ?_; rintro e w3 ⟨A3, c3, rfl, o3, hb3⟩; have O3 := Lib.hid o3; have B3 := Lib.hid hb3; clear o3 hb3))
  go_ret
  exact ⟨A3, c3, rfl, O3.out.down B2.out.size, B2.out.trans (B3.out.mono B2.out.size)⟩

set_option maxRecDepth 100000 in
set_option maxHeartbeats 4000000 in
theorem bytes7_any (m : Ms) (A : Option Addr) (n c : Nat) (A1 : Option Addr) (n1 c1 : Nat) (A2 : Option Addr) (n2 c2 B : Nat) (w : World) (h : Mr w B m A n c A1 n1 c1 A2 n2 c2) (hB : B ≤ w.heap.size) (hr : rightM m = true) :
    Calls Tryd.prog 14 #[.agg #[.int .i64 m.kind, .int .i64 m.fr, .int .i64 m.to, .int .u64 m.t, .int .u64 m.pi, .int .u64 m.pt, .slice A n c, .int .u64 m.co, .bool m.ok, .slice A1 n1 c1, .slice A2 n2 c2]] w (Cloned w (encB m).length (encB m)) := by
  have PL7 := Lib.hid (fun W (hW : Below w.heap.size w W) => plain7_any m A n c A1 n1 c1 A2 n2 c2 B W (h.below (hW.mono hB)) (Nat.le_trans hB hW.size) hr)
  have PL := plain_len hr h.in_
  have SL := sealF_len (plainB m)
  have HE : Hid (encB m = sealF (plainB m) ++ plainB m) := Lib.hid rfl
  have HL : Hid ((encB m).length = 16 + (plainB m).length) := Lib.hid (by rw [HE.out, List.length_append, SL])
  clear SL hr h
  generalize encB m = EN at *
  generalize plainB m = PP at *
  obtain ⟨kind, fr, tu, t, pi, pt, es, co, ok, mem, da⟩ := m
  simp only at PL7 ⊢
  have X := Lib.hid (Bx.new_ kind fr tu t pi pt co ok A n c A1 n1 c1 A2 n2 c2 w)
  go_enter Tryd.func14, Tryd.ntmps14
  go_upto_region 1 with (fail)
  generalize w.alloc (.cells #[.int .i64 kind, .int .i64 fr, .int .i64 tu, .int .u64 t, .int .u64 pi, .int .u64 pt, .slice A n c, .int .u64 co, .bool ok, .slice A1 n1 c1, .slice A2 n2 c2] 31) = W at *
  obtain ⟨d0, d1, d2, d3, d4, d5, d6, d7, d8, d9, d10⟩ := X.out.cells
  go_wp2_with (first
    | (go_at_call 37; refine (PL7.out _ X.out.bel).mono ?_; rintro e w1 ⟨A1', c1', rfl, o1, hb⟩; have O1 := Lib.hid o1; have X1 := Lib.hid (X.out.on hb); clear hb o1)
    | (go_at_call 36; refine (sealed7_any A1' PP.length c1' PP w1 w1.heap.size (O1.out.by) (Nat.le_refl _) (by omega) O1.out.nil).mono ?_; rintro e w2 ⟨A2', c2', rfl, o2, hb⟩; have O2 := Lib.hid o2; have B2 := Lib.hid (X1.out.bel.trans (hb.mono X1.out.bel.size)); clear hb o2))
  go_ret
  refine ⟨A2', c2', by rw [HL.out]; rfl, ?_, B2.out⟩
  rw [HL.out, HE.out]
  exact O2.out.down X1.out.bel.size

end Go.Proofs.YtemfnckaehjhcaaDoor
