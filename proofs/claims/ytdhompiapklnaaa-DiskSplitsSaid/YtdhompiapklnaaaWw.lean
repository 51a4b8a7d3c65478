/-
  Write.
-/
import Derived.Test.YtdhompiapklnaaaWr
namespace Go.Proofs.Ytdhompiapklnaaa
open Go.RowKit
attribute [local go_sem ↓] Try.z39 Try.z86

theorem write_nil (i : Int) (B : List Value) (w : World) : Calls Try.prog 32 #[.pointer none, .int .i64 i, .agg B.toArray] w fun e w' => e = .returned (.int .i64 1) ∧ Below w.heap.size w w' := by
  go_enter Try.func32, Try.ntmps32
  go_wp2_with (go_at_call 49; refine (ask_nil _ _ _ _).mono ?_; rintro e w' ⟨rfl, rfl⟩)
  go_ret
  exact ⟨rfl, (((Below.refl _ w).alloc (Nat.le_refl _) _).alloc (by simp) _).alloc (by simp; omega) _⟩

set_option maxHeartbeats 1000000 in
theorem write_any (i : Int) (B : List Value) (hB64 : B64 B) (w : World) (base p gs : Nat) (S : DSt) (h : Dk w base p gs S) (hq : S.q.length < 1000000) :
    Calls Try.prog 32 #[.pointer (some ⟨p, 0, none⟩), .int .i64 i, .agg B.toArray] w (Left w base p gs (writeSt S i B) (askErr S true i)) := by
  obtain ⟨cs0, vq0, hb0, ho0, _⟩ := h.own
  obtain ⟨_, cur0, hgl0⟩ := ho0.gs
  have hgs := hgl0.lt
  have hpl := hb0.lt
  have hB : Below w.heap.size w (((w.alloc (.cells #[.pointer (some ⟨p, 0, none⟩)] 24)).alloc (.cells #[.int .i64 i] 3)).alloc (.cells B.toArray 39)) := (((Below.refl _ w).alloc (Nat.le_refl _) _).alloc (by simp) _).alloc (by simp; omega) _
  have b0 : Blk (((w.alloc (.cells #[.pointer (some ⟨p, 0, none⟩)] 24)).alloc (.cells #[.int .i64 i] 3)).alloc (.cells B.toArray 39)) w.heap.size 24 #[.pointer (some ⟨p, 0, none⟩)] := ((Blk.new w 24 _).alloc _).alloc _
  have b1 : Blk (((w.alloc (.cells #[.pointer (some ⟨p, 0, none⟩)] 24)).alloc (.cells #[.int .i64 i] 3)).alloc (.cells B.toArray 39)) (w.heap.size + 1) 3 #[.int .i64 i] := (Blk.new' (w.alloc _) 3 _ (by simp)).alloc _
  have b2 : Blk (((w.alloc (.cells #[.pointer (some ⟨p, 0, none⟩)] 24)).alloc (.cells #[.int .i64 i] 3)).alloc (.cells B.toArray 39)) (w.heap.size + 1 + 1) 39 B.toArray := Blk.new' ((w.alloc _).alloc _) 39 _ (by simp)
  have d1 := h.below hB
  have f1 : Fr base p gs w _ := Fr.of_below hB
  have hcall : Calls Try.prog 49 #[.pointer (some ⟨p, 0, none⟩), .bool true, .int .i64 i, .func (.func 56) #[] #[.pointer (some ⟨w.heap.size, 0, none⟩), .pointer (some ⟨w.heap.size + 1, 0, none⟩), .pointer (some ⟨w.heap.size + 1 + 1, 0, none⟩)]] (((w.alloc (.cells #[.pointer (some ⟨p, 0, none⟩)] 24)).alloc (.cells #[.int .i64 i] 3)).alloc (.cells B.toArray 39))
      (Left w base p gs (writeSt S i B) (askErr S true i)) := by
    generalize ((w.alloc (.cells #[.pointer (some ⟨p, 0, none⟩)] 24)).alloc (.cells #[.int .i64 i] 3)).alloc (.cells B.toArray 39) = W at *
    by_cases he : askErr S true i = 0
    · obtain ⟨_, h0, h1⟩ := askErr_ok he
      have q1 := askSt_q S true i
      have q2 := askSt_has S true i
      rw [show writeSt S i B = { askSt S true i with has := S.has, q := S.q ++ [(i, B)] } by simp only [writeSt]; rw [if_pos he]; simp only [wrote, q1, q2], he]
      refine (ask_write _ _ _ i W base p gs S S.has (S.q ++ [(i, B)]) (Fr base p gs w) d1 he (fun w1 hd hf => ?_) (fun w2 u hx => hx.set h.base _ _)).mono ?_
      · have c0 := b0.fr hf (by omega) (by omega) (by decide)
        have c1 := b1.fr hf (by omega) (by omega) (by decide)
        have c2 := b2.fr hf (by omega) (by omega) (by decide)
        have e1 : (ahead S true i).q = S.q := q1
        have e2 : (ahead S true i).has = S.has := q2
        refine (write1 w1 base p gs w.heap.size (w.heap.size + 1) (w.heap.size + 1 + 1) i B (ahead S true i) hd (by rw [e1]; exact hq) hB64 c0 c1 c2 h0 (by rw [e2]; exact h1)).mono ?_
        rintro e w2 ⟨hv, d2, f2⟩
        have e3 : wrote (ahead S true i) i B = { ahead S true i with has := S.has, q := S.q ++ [(i, B)] } := by simp only [wrote, e1, e2]
        rw [e3] at d2
        exact ⟨hv, d2, (f1.trans hf).trans f2⟩
      · rintro e w' ⟨he', hd, hf⟩
        exact ⟨he', hd, hf⟩
    · rw [show writeSt S i B = askSt S true i by simp only [writeSt]; rw [if_neg he]]
      refine (ask_err 56 _ true i W base p gs S d1 he).mono ?_
      rintro e w' ⟨he', hd, hf⟩
      exact ⟨he', hd, f1.trans hf⟩
  have HC := Lib.hid hcall
  clear hcall h b0 b1 b2 d1 f1 hB hgl0 hb0 ho0 hB64
  show Calls Try.prog 32 _ w fun e w' => e = .returned (.int .i64 (askErr S true i)) ∧ Dk w' base p gs (writeSt S i B) ∧ Fr base p gs w w'
  unfold Left at HC
  generalize askErr S true i = er at *
  generalize writeSt S i B = S' at *
  go_enter Try.func32, Try.ntmps32
  go_wp2_with fail
  refine HC.out.mono ?_
  rintro e w2 ⟨rfl, d2, f2⟩
  clear HC
  go_wp2
  go_ret
  exact ⟨rfl, d2, f2⟩

end Go.Proofs.Ytdhompiapklnaaa
