/-
  The law's said, a sync.
-/
import Derived.Test.YtdhompiapklnaaaEC
namespace Go.Proofs.Ytdhompiapklnaaa
open Go.RowKit
attribute [local go_sem ↓] Try.z39 Try.z86 Try.z75 Try.z32

/-- A store of what lies there. -/
theorem RRow.same {F : Nat → Prop} {w w' : World} {S : DSt} {r : List Value} {g : Nat} {t : TypeId} {c : Array Value} (h : RRow F w S r) (ho : Only g w w') (hb : Blk w g t c) (hb' : Blk w' g t c) : RRow F w' S r := by
  have e : ∀ k, w'.heap[k]? = w.heap[k]? := fun k => by
    by_cases hk : k = g
    · subst hk
      exact hb'.trans hb.symm
    · exact ho.block k hk
  obtain ⟨Ah, ch, Aq, cq, dm, h1, h2, h3, h4, h5⟩ := h
  exact ⟨Ah, ch, Aq, cq, dm, h1, h2, h3.keep fun g2 _ _ _ _ => e g2, h4.keep fun g2 _ _ _ _ => e g2, h5⟩

set_option linter.unusedSimpArgs false in
set_option linter.unusedVariables false in
set_option maxRecDepth 100000 in
set_option maxHeartbeats 2000000 in
theorem said3 (at_ n : Int) (A : Option Addr) (nk c : Nat) (Ah : Option Addr) (ch : Nat) (Aq : Option Addr) (cq : Nat) (S : DSt) (ok : S.ok) (hq : S.q.length ≤ 1000000) (hn : S.has.length ≤ 1000000) (dm : Int) (w : World) (hd : S.dead = false → dm = S.doomed)
    (oh : Own w 0 39 64 (.slice Ah S.has.length ch) S.has) (oq : Own w 0 75 65 (.slice Aq S.q.length cq) (S.q.map put1)) (F : Nat → Prop) (hF : ∀ g, w.heap.size ≤ g → F g) (hA : ∀ g, Ah = some ⟨g, 0, none⟩ → F g) :
    Calls Try.prog 15 #[.agg (askv 3 at_ n A nk c), .agg (rrow Ah S.has.length ch Aq S.q.length cq S.armed dm S.dead S.ops).toArray] w (RSaid F w (syncSt S) Z0 (askErr S true 0)) := by
  have HF := Lib.hid hF
  have HA := Lib.hid hA
  clear hF hA
  have SY := Lib.hid (fun W (hb : Below w.heap.size w W) => refsync_any Ah ch Aq cq S ok hq hn dm W hd (oh.below hb) (oq.below hb) F (fun g h => HF.out g (Nat.le_trans hb.size h)) HA.out)
  have X0 := Lib.hid (SDW.start w #[.int .i64 3, .int .i64 at_, .int .i64 n, .slice A nk c] (rrow Ah S.has.length ch Aq S.q.length cq S.armed dm S.dead S.ops))
  have iI : Hid ((Try.prog.info? 32).map (·.size) = some (rrow Ah S.has.length ch Aq S.q.length cq S.armed dm S.dead S.ops).length) := Try.i32
  have zI : Hid ((rrow Ah S.has.length ch Aq S.q.length cq S.armed dm S.dead S.ops).toArray.size = 6) := show _ = _ from rfl
  have HBZ := buildZ39
  have i39 : Hid ((Try.prog.info? 39).map (·.size) = some Z0.length) := show _ = _ from Try.i39
  have z39' : Hid (Z0.toArray.size = Z0.length) := show _ = _ from rfl
  have o39 := Lib.hid Z0.ok.one
  clear oh oq ok hd
  unfold askv
  generalize rrow Ah S.has.length ch Aq S.q.length cq S.armed dm S.dead S.ops = rI at *
  obtain ⟨zz, hzz⟩ : ∃ z, z = Z0 := ⟨_, rfl⟩
  go_enter Try.func15, Try.ntmps15
  go_upto_region 1 with (fail)
  generalize (((w.alloc (.cells #[.int .i64 3, .int .i64 at_, .int .i64 n, .slice A nk c] 37)).alloc (.cells rI.toArray 32)).alloc (.cells ZZ 32)).alloc (.cells Z0.toArray 39) = W0 at *
  have k0 : W0.cell? ⟨w.heap.size, 0, none⟩ = some (.int .i64 3) := X0.out.b2.cell 0
  go_wp2_with ((with_reducible refine at_load (t := 32) ?_); refine wpList_load_mid rfl 32 _ rfl (w.heap.size + 1) 0 rfl rI _ X0.out.b3.rng Try.underlying32 rfl iI.out ?_)
  refine (SY.out _ X0.out.below).mono ?_
  rintro e w5 ⟨rN, rfl, hrr, k5⟩
  have X5 := Lib.hid (X0.out.low k5)
  have RN := Lib.hid hrr
  have iN : Hid ((Try.prog.info? 32).map (·.size) = some rN.length) := show _ = _ by rw [hrr.one.1]; exact Try.i32
  have iNA : Hid ((Try.prog.info? 32).map (·.size) = some rN.toArray.size) := show _ = _ by rw [List.size_toArray, hrr.one.1]; exact Try.i32
  have zN : Hid (rI.toArray.size = rN.length) := show _ = _ by rw [hrr.one.1]; exact zI.out
  have zM : Hid (ZZ.size = rN.length) := show _ = _ by rw [hrr.one.1]; rfl
  have oN := Lib.hid hrr.one.2
  clear hrr k5 SY X0 k0 hzz
  go_wp2_with (first
    | ((with_reducible refine at_store (t := 32) ?_); refine wpList_store_blk _ rfl 32 _ _ rfl (w.heap.size + 1) rI.toArray 32 rN rfl rfl X5.out.b3 zN.out iN.out oN.out ?_; intro w6 hb6 ho6; have X6 := Lib.hid (X5.out.put3 ho6 hb6); have R6 := Lib.hid (RN.out.only ho6 X5.out.b3); clear hb6 ho6)
    | ((with_reducible refine at_load (t := 32) ?_); refine wpList_load_mid rfl 32 _ rfl (w.heap.size + 1) 0 rfl rN _ X6.out.b3.rng Try.underlying32 rfl iN.out ?_)
    | ((with_reducible refine at_store (t := 32) ?_); refine wpList_store_blk _ rfl 32 _ _ rfl (w.heap.size + 1 + 1) ZZ 32 rN rfl rfl X6.out.b4 zM.out iN.out oN.out ?_; intro w7 hb7 ho7; have X7 := Lib.hid (X6.out.put4 ho7 hb7); have R7 := Lib.hid (R6.out.only ho7 X6.out.b4); clear hb7 ho7)
    | ((with_reducible refine at_store (t := 39) ?_); refine wpList_store_blk _ rfl 39 _ _ rfl (w.heap.size + 1 + 1 + 1) Z0.toArray 39 Z0 rfl rfl X7.out.b5 z39'.out i39.out o39.out ?_; intro w8 hb8 ho8; have X8 := Lib.hid (X7.out.put5 ho8 hb8); have R8 := Lib.hid (R7.out.same ho8 X7.out.b5 hb8); clear hb8 ho8))
  refine bodyPost_ret (ret_cell2_tmp (p := 4) (q := 5) (u := 6) (ty := 32) (ty2 := 39) rfl _ _ (w.heap.size + 1 + 1) (w.heap.size + 1 + 1 + 1) 32 39 _ _ _ _ rfl X8.out.b4 Try.underlying32 rfl iNA.out rfl X8.out.b5 Try.underlying39 rfl Try.i39) rfl ?_
  exact ⟨rN, rfl, R8.out, X8.out.below⟩

end Go.Proofs.Ytdhompiapklnaaa
