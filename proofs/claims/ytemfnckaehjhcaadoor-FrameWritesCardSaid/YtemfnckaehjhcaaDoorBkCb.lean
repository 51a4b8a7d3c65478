/-
  Several texts in one: BkB9, BkC0.
-/
import Derived.Test.YtemfnckaehjhcaaDoorBkB8
import Derived.Test.YtemfnckaehjhcaaDoorBkA
import Derived.StillTailTactics
/-
  Block.
-/
namespace Go.Proofs.YtemfnckaehjhcaaDoor.Bk
open Go.RowKit
attribute [local go_sem ↓] Tryd.z42 Tryd.z70 Tryd.z27 Tryd.z45 Tryd.z37 Tryd.z38

/-- A load of an array in a region whose tail is forced. -/
theorem wpStill_load_mid {P : Program} {ops : Array Oper} {w : World} {Q : Act → Prop} {rest : List Oper} {op : Oper} {a : Act} (hw : Region.wanted op (yielded ops a.tmps) = true) (ty : TypeId) (x : Operand) (ho : op.op = .load ty x)
    (b o : Nat) (hx : a.eval x = .pointer (some ⟨b, o, none⟩)) (cs : List Value) (d : TypeDesc) (hc : w.rangeAt b o cs) (hu : P.underlying ty = some d) (hd : d.isRow = true) (hi : (P.info? ty).map (·.size) = some cs.length)
    (h : wpStill P ops w Q rest (a.put op.dst (.agg cs.toArray))) : wpStill P ops w Q (op :: rest) a :=
  wpStill_step fun K hK => by
    rw [if_pos hw]
    unfold Oper.still execOp
    simp only [ho, hx, Sem.run_bind, Sem.run_pure, Result.andThen_ok, run_loadAt_mid w b o ty cs d hc hu hd hi]
    exact ⟨rfl, hK _ h⟩

/-- Behind so many orders. -/
def roundsL (v m : List (BitVec 32)) : Nat → List (BitVec 32)
  | 0 => v
  | k + 1 => roundF (roundsL v m k) m (ordersL.getD k [])
theorem roundsL_len (v m : List (BitVec 32)) : ∀ k, (roundsL v m k).length = v.length
  | 0 => rfl
  | k + 1 => by rw [roundsL, roundF, roundL_len, roundsL_len v m k]
/-- What the numbers become, as far as they are gone through. -/
def outL (h v : List (BitVec 32)) : Nat → List (BitVec 32)
  | 0 => h
  | k + 1 => (outL h v k).set k (gt (outL h v k) k ^^^ (gt v k ^^^ gt v (k + 8)))
theorem outL_len (h v : List (BitVec 32)) : ∀ k, (outL h v k).length = h.length
  | 0 => rfl
  | k + 1 => by rw [outL, List.length_set, outL_len h v k]
def vF (h : List (BitVec 32)) (b : List Int) (t : Int) (last : Bool) : List (BitVec 32) := roundsL (spreadF h t last) (numbersF b) 10
def blockF (h : List (BitVec 32)) (b : List Int) (t : Int) (last : Bool) : List (BitVec 32) := outL h (vF h b t last) 8
theorem blockF_len (h : List (BitVec 32)) (b : List Int) (t : Int) (last : Bool) (hh : h.length = 8) : (blockF h b t last).length = 8 := by rw [blockF, outL_len, hh]

theorem orders_len (k : Nat) (hk : k < 10) : (ordersL.getD k []).length = 16 := by
  have all : ∀ k : Fin 10, (ordersL.getD k.val []).length = 16 := by decide
  exact all ⟨k, hk⟩
theorem orders_lt (k : Nat) (hk : k < 10) (i : Nat) : (ordersL.getD k []).getD i 0 < 16 := by
  have all : ∀ k : Fin 10, ∀ i : Fin 16, (ordersL.getD k.val []).getD i.val 0 < 16 := by decide
  by_cases hi : i < 16
  · exact all ⟨k, hk⟩ ⟨i, hi⟩
  · rw [List.getD_eq_getElem?_getD, List.getElem?_eq_none (by rw [orders_len k hk]; omega)]
    decide
theorem orders_at (k : Nat) (hk : k < 10) (j : Nat) (hj : j < 16) : (IL ordersL.flatten)[k * 16 + j]? = (IL (ordersL.getD k []))[j]? := by
  have all : ∀ k : Fin 10, ∀ j : Fin 16, ordersL.flatten[k.val * 16 + j.val]? = (ordersL.getD k.val [])[j.val]? := by decide
  have := all ⟨k, hk⟩ ⟨j, hj⟩
  unfold IL
  rw [List.getElem?_map, List.getElem?_map, this]

/-- Where one stands. -/
structure BW (w0 : World) (gv gm : Nat) (h v m : List (BitVec 32)) (w : World) : Prop where
  below : Below w0.heap.size w0 w
  gl : Gl w
  g3 : 3 ≤ w0.heap.size
  hb : Blk w w0.heap.size 107 (UL h).toArray
  res : Blk w (w0.heap.size + 1 + 1) 107 (ZU 8).toArray
  vb : Blk w gv 125 (UL v).toArray
  mb : Blk w gm 125 (UL m).toArray
  lo : w0.heap.size + 1 + 1 < gv ∧ gv ≠ gm ∧ w0.heap.size + 1 + 1 < gm
section
variable {w0 w w' : World} {gv gm : Nat} {h v m : List (BitVec 32)}
theorem BW.low (s : BW w0 gv gm h v m w) (hb : Below w.heap.size w w') : BW w0 gv gm h v m w' :=
  ⟨s.below.trans (hb.mono s.below.size), s.gl.low hb, s.g3, s.hb.below hb s.hb.lt, s.res.below hb s.res.lt, s.vb.below hb s.vb.lt, s.mb.below hb s.mb.lt, s.lo⟩
theorem BW.drew (s : BW w0 gv gm h v m w) : BW w0 gv gm h v m w.drew := ⟨s.below.drew, ⟨s.gl.s, s.gl.o, s.gl.f, s.gl.lt⟩, s.g3, s.hb, s.res, s.vb, s.mb, s.lo⟩
/-- The numbers are written over. -/
theorem BW.put (s : BW w0 gv gm h v m w) {v' : List (BitVec 32)} (ho : Only gv w w') (hv : Blk w' gv 125 (UL v').toArray) : BW w0 gv gm h v' m w' := by
  have hl := s.lo
  exact ⟨s.below.trans (ho.below (by omega)), s.gl.below (ho.below (Nat.le_refl _)) (by have := s.g3; omega), s.g3, ho.keep s.hb (by omega), ho.keep s.res (by omega), hv, ho.keep s.mb (fun e => hl.2.1 e.symm), s.lo⟩
theorem BW.set (s : BW w0 gv gm h v m w) (i : Nat) (x : BitVec 32) (z : Int) (hz : z = tn x) : BW w0 gv gm (h.set i x) v m (w.setCell ⟨w0.heap.size, i, none⟩ (.int .u32 z)) := by
  subst hz
  have hl := s.lo
  refine ⟨s.below.setCell (Nat.le_refl _) _, s.gl.below ((Below.refl _ w).setCell (B := w0.heap.size) (p := ⟨w0.heap.size, i, none⟩) (Nat.le_refl _) _) s.g3, s.g3, ?_, s.res.far (by show _ ≠ w0.heap.size; omega) _, s.vb.far (by show _ ≠ w0.heap.size; omega) _, s.mb.far (by show _ ≠ w0.heap.size; omega) _, s.lo⟩
  have := s.hb.set_ i (.int .u32 (tn x : Int))
  rwa [UL.set] at this
end

/-- At the beginning. -/
structure B0S (w0 : World) (X Y : List Value) (w : World) : Prop where
  below : Below w0.heap.size w0 w
  gl : Gl w
  g3 : 3 ≤ w0.heap.size
  hb : Blk w w0.heap.size 107 X.toArray
  bb : Blk w (w0.heap.size + 1) 108 Y.toArray
  res : Blk w (w0.heap.size + 1 + 1) 107 (ZU 8).toArray
theorem B0S.low {w0 w w' : World} {X Y : List Value} (s : B0S w0 X Y w) (hb : Below w.heap.size w w') : B0S w0 X Y w' :=
  ⟨s.below.trans (hb.mono s.below.size), s.gl.low hb, s.g3, s.hb.below hb s.hb.lt, s.bb.below hb s.bb.lt, s.res.below hb s.res.lt⟩
/-- A new block, written whole. -/
theorem B0S.new {w0 w w' : World} {X Y : List Value} (s : B0S w0 X Y w) (o : Obj) (ho : Only w.heap.size (w.alloc o) w') : B0S w0 X Y w' :=
  s.low (((Below.refl _ w).alloc (Nat.le_refl _) o).trans (ho.below (Nat.le_refl _)))
theorem B0S.lt {w0 w : World} {X Y : List Value} (s : B0S w0 X Y w) : w0.heap.size + 1 + 1 < w.heap.size := s.res.lt

set_option maxRecDepth 100000 in
set_option maxHeartbeats 4000000 in
theorem block_any (h : List (BitVec 32)) (hh : h.length = 8) (b : List Int) (hb : b.length = 64) (bs : Bs b) (t : Int) (t0 : 0 ≤ t) (t1 : t < 18446744073709551616) (last : Bool) (w : World) (hG : Gl w) :
    Calls Tryd.prog 76 #[.agg (UL h).toArray, .agg (BL b).toArray, .int .u64 t, .bool last] w fun e w' => e = .returned (.agg (UL (blockF h b t last)).toArray) ∧ Below w.heap.size w w' := by
  have H0 : Hid (B0S w (UL h) (BL b) (((w.alloc (.cells (UL h).toArray 107)).alloc (.cells (BL b).toArray 108)).alloc (.cells (ZU 8).toArray 107))) :=
    have b0 := (((Below.refl _ w).alloc (Nat.le_refl _) (.cells (UL h).toArray 107)).alloc (by simp) (.cells (BL b).toArray 108)).alloc (by simp; omega) (.cells (ZU 8).toArray 107)
    ⟨b0, hG.low b0, hG.lt, ((Blk.new w 107 _).alloc _).alloc _, (Blk.new' _ 108 _ (by simp)).alloc _, Blk.new' _ 107 _ (by simp)⟩
  clear hG
  have SP := Lib.hid (fun W (g : Gl W) => spread_any h hh t t0 t1 last W g)
  have NU := Lib.hid (fun W => numbers_any b hb bs W)
  have HH := Lib.hid hh
  have hl8 : (UL h).length = 8 := by rw [UL.len, hh]
  have i42 : Hid ((Tryd.prog.info? 107).map (·.size) = some (UL h).length) := show _ = _ by rw [hl8]; exact Tryd.i42
  have hl64 : (BL b).length = 64 := by rw [BL.len, hb]
  have i45 : Hid ((Tryd.prog.info? 108).map (·.size) = some (BL b).length) := show _ = _ by rw [hl64]; exact Tryd.i45
  have sl : (UL (spreadF h t last)).length = 16 := by rw [UL.len, spreadF_len]
  have nl : (UL (numbersF b)).length = 16 := by rw [UL.len]; exact numbersL_len b 16
  have iS : Hid ((Tryd.prog.info? 125).map (·.size) = some (UL (spreadF h t last)).length) := show _ = _ by rw [sl]; exact Tryd.i70
  have iN : Hid ((Tryd.prog.info? 125).map (·.size) = some (UL (numbersF b)).length) := show _ = _ by rw [nl]; exact Tryd.i70
  have zS : Hid ((ZU 16).toArray.size = (UL (spreadF h t last)).length) := show _ = _ by rw [sl]; rfl
  have zN : Hid ((ZU 16).toArray.size = (UL (numbersF b)).length) := show _ = _ by rw [nl]; rfl
  have oS := Lib.hid (UL.one (spreadF h t last))
  have oN := Lib.hid (UL.one (numbersF b))
  have SL : Hid ((spreadF h t last).length = 16) := spreadF_len h t last
  have NL : Hid ((numbersF b).length = 16) := numbersL_len b 16
  have HBF : Hid (blockF h b t last = outL h (roundsL (spreadF h t last) (numbersF b) 10) 8) := show _ = _ from rfl
  clear hh hb bs hl8 hl64 sl nl
  generalize spreadF h t last = v0 at *
  generalize numbersF b = m at *
  generalize hX : UL h = X at *
  generalize hY : BL b = Y at *
  generalize hS : UL v0 = S0 at *
  generalize hN : UL m = M0 at *
  have HX := Lib.hid hX
  have HS := Lib.hid hS
  have HN := Lib.hid hN
  clear hX hY hS hN
  go_enter Tryd.func76, Tryd.ntmps76
  go_wp2_with ((with_reducible refine at_load (t := 107) ?_); refine wpList_load_mid rfl 107 _ rfl w.heap.size 0 rfl X _ H0.out.hb.rng Tryd.underlying107 rfl i42.out ?_)
  refine (SP.out _ H0.out.gl).mono ?_
  rintro e w1 ⟨rfl, hb1⟩
  have H1 := Lib.hid (H0.out.low hb1)
  clear H0 hb1 SP
  go_wp2_with (first
    | ((with_reducible refine at_store (t := 125) ?_); refine wpList_store_blk _ rfl 125 _ _ rfl w1.heap.size (ZU 16).toArray 125 S0 rfl rfl (Blk.new w1 125 _) zS.out iS.out oS.out ?_; intro w2 hv2 ho2; have H2 := Lib.hid (H1.out.new _ ho2); have HV2 := Lib.hid hv2; have G1 := Lib.hid H1.out.lt; clear H1 hv2 ho2; generalize w1.heap.size = gv at *)
    | ((with_reducible refine at_load (t := 108) ?_); refine wpList_load_mid rfl 108 _ rfl (w.heap.size + 1) 0 rfl Y _ H2.out.bb.rng Tryd.underlying108 rfl i45.out ?_))
  refine (NU.out _).mono ?_
  rintro e w3 ⟨rfl, hb3⟩
  have H3 := Lib.hid (H2.out.low hb3)
  have HV3 := Lib.hid (HV2.out.below hb3 HV2.out.lt)
  clear H2 HV2 hb3 NU
  go_wp2_with ((with_reducible refine at_store (t := 125) ?_); refine wpList_store_blk _ rfl 125 _ _ rfl w3.heap.size (ZU 16).toArray 125 M0 rfl rfl (Blk.new w3 125 _) zN.out iN.out oN.out ?_; intro w4 hm4 ho4)
  have B4 : Hid (BW w gv w3.heap.size h v0 m w4) :=
    have k := H3.out.new _ ho4
    ⟨k.below, k.gl, k.g3, by rw [HX.out]; exact k.hb, k.res, by rw [HS.out]; exact ho4.keep (HV3.out.alloc _) (by have := HV3.out.lt; omega), by rw [HN.out]; exact hm4, G1.out, by have := HV3.out.lt; omega, H3.out.lt⟩
  clear H3 HV3 hm4 ho4 G1
  generalize w3.heap.size = gm at *
  go_loopw [19] (fun i wr => ∃ k : Nat, k ≤ 10 ∧ i = .int .i64 k ∧ BW w gv gm h (roundsL v0 m k) m wr) (fun i _ => 10 - (intOf i).toNat)
  case atStart => exact ⟨0, Nat.zero_le _, rfl, B4.out⟩
  case round =>
    obtain ⟨k, hk, rfl, hbw⟩ := hrel
    have B := Lib.hid hbw
    clear B4 hbw
    by_cases hlt : k < 10
    · have hlt' : (k : Int) < 10 := by omega
      have k0 : (0 : Int) ≤ k := by omega
      have vl : (roundsL v0 m k).length = 16 := by rw [roundsL_len, SL.out]
      have ol := orders_len k hlt
      have RA := Lib.hid (fun W (g : Gl W) => round_any (roundsL v0 m k) m (ordersL.getD k []) vl NL.out ol (orders_lt k hlt) W g)
      have RO : Hid (wr.drew.rangeAt 1 (k * 16) (IL (ordersL.getD k []))) := fun j v hj => by
        have hj16 : j < 16 := by
          have := (List.getElem?_eq_some_iff.1 hj).1
          rw [IL.len, ol] at this
          exact this
        have := B.out.gl.o (k * 16 + j) v (by rw [orders_at k hlt j hj16]; exact hj)
        rw [Nat.zero_add] at this
        exact this
      have RV : Hid (wr.drew.rangeAt gv 0 (UL (roundsL v0 m k))) := B.out.drew.vb.rng
      have RM : Hid (wr.drew.rangeAt gm 0 (UL m)) := B.out.drew.mb.rng
      have iV : Hid ((Tryd.prog.info? 125).map (·.size) = some (UL (roundsL v0 m k)).length) := show _ = _ by rw [UL.len, vl]; exact Tryd.i70
      have iM : Hid ((Tryd.prog.info? 125).map (·.size) = some (UL m).length) := show _ = _ by rw [UL.len, NL.out]; exact Tryd.i70
      have iO : Hid ((Tryd.prog.info? 129).map (·.size) = some (IL (ordersL.getD k [])).length) := show _ = _ by rw [IL.len, ol]; exact Tryd.i37
      have nv : (roundsL v0 m (k + 1)).length = 16 := by rw [roundsL_len, SL.out]
      have iW : Hid ((Tryd.prog.info? 125).map (·.size) = some (UL (roundsL v0 m (k + 1))).length) := show _ = _ by rw [UL.len, nv]; exact Tryd.i70
      have zW : Hid ((UL (roundsL v0 m k)).toArray.size = (UL (roundsL v0 m (k + 1))).length) := show _ = _ by rw [List.size_toArray, UL.len, UL.len, nv, vl]
      have oW := Lib.hid (UL.one (roundsL v0 m (k + 1)))
      have RE : Hid (UL (roundF (roundsL v0 m k) m (ordersL.getD k [])) = UL (roundsL v0 m (k + 1))) := show _ = _ from rfl
      clear vl ol nv
      go_wp2_with fail
      refine wp_region_still_tail 5 (by kernel_rfl) (by kernel_rfl) ?_
      simp only [List.take_succ_cons, List.take_zero, List.drop_succ_cons, List.drop_zero]
      refine wpStill_load_mid rfl 125 _ rfl gv 0 rfl (UL (roundsL v0 m k)) _ RV.out Tryd.underlying125 rfl iV.out ?_
      refine wpStill_load_mid rfl 125 _ rfl gm 0 rfl (UL m) _ RM.out Tryd.underlying125 rfl iM.out ?_
      still_step
      still_step
      refine wpStill_load_mid rfl 129 _ rfl 1 (k * 16) rfl (IL (ordersL.getD k [])) _ RO.out Tryd.underlying129 rfl iO.out ?_
      refine wpStill_nil ?_
      change wpList _ _ _ _ _ wr.drew
      have B1 := Lib.hid B.out.drew
      clear B RO RV RM
      generalize wr.drew = W1 at *
      go_wp2_with fail
      refine (RA.out _ B1.out.gl).mono ?_
      rintro e w2 ⟨rfl, hb2⟩
      rw [RE.out]
      have B2 := Lib.hid (B1.out.low hb2)
      clear B1 hb2 RA RE
      go_wp2_with ((with_reducible refine at_store (t := 125) ?_); refine wpList_store_blk _ rfl 125 _ _ rfl gv (UL (roundsL v0 m k)).toArray 125 (UL (roundsL v0 m (k + 1))) rfl rfl B2.out.vb zW.out iW.out oW.out ?_; intro w5 hb5 ho5)
      exact ⟨⟨k + 1, by omega, by go_num, B2.out.put ho5 hb5⟩, by simp [intOf]; omega⟩
    · obtain rfl : k = 10 := by omega
      have vl : (roundsL v0 m 10).length = 16 := by rw [roundsL_len, SL.out]
      have VL := Lib.hid vl
      clear vl
      generalize roundsL v0 m 10 = V at *
      have B0 : Hid (BW w gv gm (outL h V 0) V m wr) := B.out
      clear B
      go_wp2_with fail
      go_loopw [29] (fun i wr => ∃ k : Nat, k ≤ 8 ∧ i = .int .i64 k ∧ BW w gv gm (outL h V k) V m wr) (fun i _ => 8 - (intOf i).toNat)
      case atStart => exact ⟨0, Nat.zero_le _, rfl, B0.out⟩
      case round =>
        obtain ⟨k, hk, rfl, hbw⟩ := hrel
        have B := Lib.hid hbw
        clear B0 hbw
        by_cases hlt : k < 8
        · have c1 : wr.cell? ⟨w.heap.size, k, none⟩ = some (.int .u32 (tn (gt (outL h V k) k) : Int)) := (B.out.hb.cell k).trans (UL.gt (by rw [outL_len, HH.out]; exact hlt))
          have c2 : wr.cell? ⟨gv, k, none⟩ = some (.int .u32 (tn (gt V k) : Int)) := (B.out.vb.cell k).trans (UL.gt (by rw [VL.out]; omega))
          have c3 : wr.cell? ⟨gv, k + 8, none⟩ = some (.int .u32 (tn (gt V (k + 8)) : Int)) := (B.out.vb.cell (k + 8)).trans (UL.gt (by rw [VL.out]; omega))
          have f1 := B.out.hb.frozen k
          go_wp2_with fail
          have e1 : IntKind.i64.wrap ((k : Int) + 8) = (k : Int) + 8 := IntWalk.i64_in _ (by omega)
          have e2 : 0 ≤ (k : Int) + 8 := by omega
          have e3 : (k : Int) + 8 < 16 := by omega
          have e4 : ((k : Int) + 8).toNat = k + 8 := by omega
          go_region
          clear e1 e2 e3 e4
          go_wp2_with fail
          exact ⟨⟨k + 1, by omega, by go_num, (B.out.set k (gt (outL h V k) k ^^^ (gt V k ^^^ gt V (k + 8))) _ (by simp only [xor_bv, bv_tn])).drew⟩, by simp [intOf]; omega⟩
        · obtain rfl : k = 8 := by omega
          have HV := Lib.hid B.out.hb
          have HR := Lib.hid B.out.res
          have HB := Lib.hid B.out.below
          have hlen : (UL (outL h V 8)).length = 8 := by rw [UL.len, outL_len, HH.out]
          have HZ2 : Hid ((ZU 8).toArray.size = (UL (outL h V 8)).length) := show _ = _ by rw [hlen]; rfl
          have H2 : Hid ((Tryd.prog.info? 107).map (·.size) = some (UL (outL h V 8)).length) := show _ = _ by rw [hlen]; exact Tryd.i42
          have H2A : Hid ((Tryd.prog.info? 107).map (·.size) = some (UL (outL h V 8)).toArray.size) := show _ = _ by rw [List.size_toArray, hlen]; exact Tryd.i42
          have H1 := Lib.hid (UL.one (outL h V 8))
          have HE : Hid (UL (blockF h b t last) = UL (outL h V 8)) := show _ = _ by rw [HBF.out]
          clear B hlen
          generalize UL (outL h V 8) = O at *
          go_wp2_with (first
            | ((with_reducible refine at_load (t := 107) ?_); refine wpList_load_mid rfl 107 _ rfl w.heap.size 0 rfl O _ HV.out.rng Tryd.underlying107 rfl H2.out ?_)
            | ((with_reducible refine at_store (t := 107) ?_); refine wpList_store_blk _ rfl 107 _ _ rfl (w.heap.size + 1 + 1) (ZU 8).toArray 107 O rfl rfl HR.out HZ2.out H2.out H1.out ?_; intro w9 hb9 ho9))
          refine bodyPost_ret (results_cell_row (p := 8) (ty := 107) rfl _ _ (w.heap.size + 1 + 1) 107 _ (0, 0) _ rfl hb9 Tryd.underlying107 rfl H2A.out) rfl ?_
          rw [HE.out]
          exact ⟨rfl, HB.out.trans (ho9.below (by omega))⟩

end Go.Proofs.YtemfnckaehjhcaaDoor.Bk

/-
  Sum, in plain words.
-/
namespace Go.Proofs.YtemfnckaehjhcaaDoor.Bk
open Go.RowKit
attribute [local go_sem ↓] Tryd.z42 Tryd.z70 Tryd.z27 Tryd.z45 Tryd.z37 Tryd.z38

/-- How many blocks. -/
def cnt64 (n : Nat) : Nat := if 1 < (n + 63) / 64 then (n + 63) / 64 else 1
def end64 (n k : Nat) : Nat := if n < (k + 1) * 64 then n else (k + 1) * 64
/-- A block's bytes, noughts behind the last. -/
def blk64 (zs : List Int) (k : Nat) : List Int := (zs.drop (k * 64)).take 64 ++ List.replicate (64 - ((zs.drop (k * 64)).take 64).length) 0
theorem blk64_len (zs : List Int) (k : Nat) : (blk64 zs k).length = 64 := by
  unfold blk64
  rw [List.length_append, List.length_replicate, List.length_take]
  omega
theorem blk64_bs {zs : List Int} (h : Bs zs) (k : Nat) : Bs (blk64 zs k) := Bs.append ((h.drop _).take _) (fun j => by
  rw [List.getD_eq_getElem?_getD, List.getElem?_replicate]
  split <;> simp)
theorem blk64_splice (zs : List Int) (k : Nat) (X : List Int) (hX : X = (zs.drop (k * 64)).take 64) : splice (ZB 64) 0 (BL X) = BL (blk64 zs k) := by
  subst hX
  have hl : ((zs.drop (k * 64)).take 64).length ≤ 64 := by rw [List.length_take]; omega
  unfold splice blk64
  generalize (zs.drop (k * 64)).take 64 = Y at hl
  rw [BL.len, Nat.zero_add, List.take_zero, List.nil_append]
  have e : BL (Y ++ List.replicate (64 - Y.length) 0) = BL Y ++ ZB (64 - Y.length) := by rw [ZB.bl]; simp [BL]
  rw [e]
  congr 1
  unfold ZB
  rw [List.drop_replicate]
def start0 : List (BitVec 32) := startL.set 0 (gt startL 0 ^^^ bv 16842784)
def sumL (zs : List Int) : Nat → List (BitVec 32)
  | 0 => start0
  | k + 1 => blockF (sumL zs k) (blk64 zs k) (end64 zs.length k : Int) (k == cnt64 zs.length - 1)
theorem sumL_len (zs : List Int) : ∀ k, (sumL zs k).length = 8
  | 0 => rfl
  | k + 1 => by rw [sumL]; exact blockF_len _ _ _ _ (sumL_len zs k)
def sumF (zs : List Int) : List Int := digestF (sumL zs (cnt64 zs.length))

/-- Where one stands. -/
structure TW (w0 : World) (A : Option Addr) (n : Nat) (zs : List Int) (h : List (BitVec 32)) (w : World) : Prop where
  below : Below w0.heap.size w0 w
  gl : Gl w
  g3 : 3 ≤ w0.heap.size
  by_ : By w w0.heap.size A n zs
  res : Blk w w0.heap.size 80 (ZB 32).toArray
  hb : Blk w (w0.heap.size + 1) 107 (UL h).toArray
section
variable {w0 w w' : World} {A : Option Addr} {n : Nat} {zs : List Int} {h : List (BitVec 32)}
theorem TW.low (s : TW w0 A n zs h w) (hb : Below w.heap.size w w') : TW w0 A n zs h w' :=
  ⟨s.below.trans (hb.mono s.below.size), s.gl.low hb, s.g3, s.by_.below (hb.mono s.below.size), s.res.below hb s.res.lt, s.hb.below hb s.hb.lt⟩
theorem TW.drew (s : TW w0 A n zs h w) : TW w0 A n zs h w.drew := ⟨s.below.drew, ⟨s.gl.s, s.gl.o, s.gl.f, s.gl.lt⟩, s.g3, s.by_, s.res, s.hb⟩
theorem TW.put (s : TW w0 A n zs h w) {h' : List (BitVec 32)} (ho : Only (w0.heap.size + 1) w w') (hv : Blk w' (w0.heap.size + 1) 107 (UL h').toArray) : TW w0 A n zs h' w' :=
  ⟨s.below.trans (ho.below (by omega)), s.gl.below (ho.below (Nat.le_refl _)) (by have := s.g3; omega), s.g3, s.by_.below (ho.below (by omega)), ho.keep s.res (by omega), hv⟩
end

end Go.Proofs.YtemfnckaehjhcaaDoor.Bk
