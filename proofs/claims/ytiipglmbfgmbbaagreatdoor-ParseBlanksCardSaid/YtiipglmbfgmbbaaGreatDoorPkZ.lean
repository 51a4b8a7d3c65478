/-
  Several texts in one: P55, P56, P57, P58.
-/
import Derived.Test.YtiipglmbfgmbbaaGreatDoorPkY
import Derived.DeepKeys
import Derived.BigQuiet
namespace Go.Proofs.YtiipglmbfgmbbaaGreatDoor
open Go.RowKit Go.Shelf
attribute [local go_sem] Oper.semAt_some

/-- A part that is the same as itself. -/
def SelfOk (w : World) (d : Nat) (xs : Array Value) (p : TypeId × Nat) : Prop := ∃ v, (part p.1 xs p.2).run Tryz.prog w = .ok v w ∧ (Op.equalIn d p.1 v v).run Tryz.prog w = .ok true w
theorem eqF_self (w : World) (d : Nat) (xs : Array Value) : ∀ fs : List Field, (∀ f ∈ fs, SelfOk w d xs (f.type, f.offset)) → (Op.eqFields d xs xs fs).run Tryz.prog w = .ok true w
  | [], _ => by simp [Op.eqFields]
  | f :: fs, h => by
    have ih := eqF_self w d xs fs fun g hg => h g (List.mem_cons_of_mem _ hg)
    obtain ⟨v, h1, h2⟩ := h f List.mem_cons_self
    simp only at h1 h2
    unfold Op.eqFields
    by_cases hn : f.name ≠ "_"
    · rw [if_pos hn, Sem.run_bind, h1, Result.andThen_ok, Sem.run_bind, h1, Result.andThen_ok, Sem.run_bind, h2, Result.andThen_ok, if_neg (by simp)]
      exact ih
    · rw [if_neg hn]
      exact ih
theorem eq_self {t : TypeId} {xs : Array Value} {l : List (TypeId × Nat)} (hu : Tryz.prog.underlying t = some (.struct (Tryz.prog.fieldsOf t))) (hs : Tryz.prog.stoodInHeld t = false)
    (hl : ((Tryz.prog.fieldsOf t).toList.all fun f => decide ((f.type, f.offset) ∈ l)) = true) (w : World) (d : Nat) (h : ∀ p ∈ l, SelfOk w d xs p) : (Op.equalIn (d + 1) t (.agg xs) (.agg xs)).run Tryz.prog w = .ok true w := by
  rw [run_equalIn_struct w d t _ _ hu hs]
  exact eqF_self w d xs _ fun f hf => h _ (of_decide_eq_true (List.all_eq_true.1 hl f hf))
theorem un2 : Tryz.prog.underlying 2 = some (.int .i64) := by kernel_rfl
theorem un4 : Tryz.prog.underlying 4 = some .bool := by kernel_rfl
theorem self_i {w : World} {d : Nat} {xs : Array Value} {t : TypeId} {k : IntKind} {i : Nat} {n : Int} (h : Tryz.prog.underlying t = some (.int k)) (hv : xs[i]? = some (.int k n)) : SelfOk w (d + 1) xs (t, i) :=
  ⟨_, part_i w t k h xs i _ hv, by rw [run_equalIn_int w d t k k n n h]; simp⟩
theorem self_s {w : World} {d : Nat} {xs : Array Value} {t : TypeId} {i : Nat} {b : ByteArray} (h : Tryz.prog.underlying t = some .string) (hv : xs[i]? = some (.string b)) : SelfOk w (d + 1) xs (t, i) :=
  ⟨.string b, by simp [part, isAgg, run_underlying h, hv], by rw [run_equalIn_string w d t b b h]; simp⟩
theorem self_b {w : World} {d : Nat} {xs : Array Value} {t : TypeId} {i : Nat} {b : Bool} (h : Tryz.prog.underlying t = some .bool) (hv : xs[i]? = some (.bool b)) : SelfOk w (d + 1) xs (t, i) :=
  ⟨.bool b, by simp [part, isAgg, run_underlying h, hv], by rw [run_equalIn_bool w d t b b h]; simp⟩
theorem u107 : Tryz.prog.underlying 107 = some (.struct (Tryz.prog.fieldsOf 107)) := by kernel_rfl
theorem u109 : Tryz.prog.underlying 109 = some (.struct (Tryz.prog.fieldsOf 109)) := by kernel_rfl
theorem st107 : Tryz.prog.stoodInHeld 107 = false := by kernel_rfl
theorem st109 : Tryz.prog.stoodInHeld 109 = false := by kernel_rfl
theorem l107 : ((Tryz.prog.fieldsOf 107).toList.all fun f => decide ((f.type, f.offset) ∈ [(3, 0), (2, 1), (9, 2)])) = true := by kernel_rfl
theorem l109 : ((Tryz.prog.fieldsOf 109).toList.all fun f => decide ((f.type, f.offset) ∈ [(3, 0), (3, 1), (3, 2), (3, 3), (9, 4), (9, 5), (107, 6)])) = true := by kernel_rfl
theorem g109 : Tryz.prog.eqGuardType Tryz.prog.depth 109 = false := by kernel_rfl
theorem n107 : (Tryz.prog.info? 107).map (·.size) = some 3 := by kernel_rfl
theorem self107 (w : World) (d : Nat) (vk vn : Int) (vt : ByteArray) : (Op.equalIn (d + 2) 107 (.agg #[.int .i64 vk, .int .i64 vn, .string vt]) (.agg #[.int .i64 vk, .int .i64 vn, .string vt])).run Tryz.prog w = .ok true w := by
  refine eq_self u107 st107 l107 w (d + 1) fun p hp => ?_
  simp only [List.mem_cons, List.not_mem_nil, or_false] at hp
  rcases hp with rfl | rfl | rfl
  · exact self_i un3 rfl
  · exact self_i un2 rfl
  · exact self_s Tryz.underlying9 rfl
theorem neq109 (w : World) (k o a b vk vn : Int) (tb nm vt : ByteArray) :
    (binOp .neq 109 (.agg #[.int .i64 k, .int .i64 o, .int .i64 a, .int .i64 b, .string tb, .string nm, .int .i64 vk, .int .i64 vn, .string vt]) (.agg #[.int .i64 k, .int .i64 o, .int .i64 a, .int .i64 b, .string tb, .string nm, .int .i64 vk, .int .i64 vn, .string vt])).run Tryz.prog w = .ok (.bool false) w := by
  have e := eq_self (xs := #[.int .i64 k, .int .i64 o, .int .i64 a, .int .i64 b, .string tb, .string nm, .int .i64 vk, .int .i64 vn, .string vt]) u109 st109 l109 w 9999 (fun p hp => by
    simp only [List.mem_cons, List.not_mem_nil, or_false] at hp
    rcases hp with rfl | rfl | rfl | rfl | rfl | rfl | rfl
    · exact self_i un3 rfl
    · exact self_i un3 rfl
    · exact self_i un3 rfl
    · exact self_i un3 rfl
    · exact self_s Tryz.underlying9 rfl
    · exact self_s Tryz.underlying9 rfl
    · obtain ⟨i, hi, hz⟩ := Option.map_eq_some_iff.1 n107
      refine ⟨.agg #[.int .i64 vk, .int .i64 vn, .string vt], ?_, self107 w 9997 vk vn vt⟩
      simp [part, isAgg, run_underlying u107, run_sizeOf w hi, hz])
  rw [run_neq_struct, e]
  rfl
theorem eqG109 (op : BinOp) (x y : Operand) (xs ys : Array Value) (w : World) : (eqGuard op 109 x y (.agg xs) (.agg ys)).run Tryz.prog w = .ok () w := run_eqGuard_agg w op 109 x y xs ys g109
attribute [local go_sem ↓] neq109 eqG109
theorem ndRow_at : ∀ (ns : List Nd) (i k : Nat) (x : Nd), ns[i]? = some x → k < 9 → (ndRow ns)[i * 9 + k]? = x.cells[k]?
  | [], i, k, x, h, _ => by cases h
  | t :: r, 0, k, x, h, hk => by
    simp only [List.getElem?_cons_zero, Option.some.injEq] at h
    subst h
    rw [Nat.zero_mul, Nat.zero_add, ndRow, List.getElem?_append_left (by simp [Nd.cells]; omega)]
  | t :: r, i + 1, k, x, h, hk => by
    rw [ndRow, List.getElem?_append_right (by simp [Nd.cells]; omega), show (i + 1) * 9 + k - t.cells.length = i * 9 + k from by simp [Nd.cells]; omega]
    exact ndRow_at r i k x (by simpa using h) hk
theorem Nds.at_ {w : World} {base n c : Nat} {A : Option Addr} {ns : List Nd} (h : Nds w base A n c ns) {i : Nat} {x : Nd} (hx : ns[i]? = some x) :
    ∃ b o, A = some ⟨b, o, none⟩ ∧ b < w.heap.size ∧ w.cell? ⟨b, o + i * 9, none⟩ = some (.int .i64 x.kind) ∧ w.cell? ⟨b, o + i * 9 + 1, none⟩ = some (.int .i64 x.op) ∧ w.cell? ⟨b, o + i * 9 + 2, none⟩ = some (.int .i64 x.a) ∧
      w.cell? ⟨b, o + i * 9 + 3, none⟩ = some (.int .i64 x.b) ∧ w.cell? ⟨b, o + i * 9 + 4, none⟩ = some (tx x.table) ∧ w.cell? ⟨b, o + i * 9 + 5, none⟩ = some (tx x.name) ∧ w.cell? ⟨b, o + i * 9 + 6, none⟩ = some (.int .i64 x.vk) ∧
      w.cell? ⟨b, o + i * 9 + 7, none⟩ = some (.int .i64 x.vn) ∧ w.cell? ⟨b, o + i * 9 + 8, none⟩ = some (tx x.vt) := by
  have hi : i < ns.length := (List.getElem?_eq_some_iff.1 hx).1
  have hn := h.len
  obtain ⟨g, cap, hv⟩ : ∃ g cap, Value.slice A n c = .slice (some ⟨g, 0, none⟩) n cap := by
    rcases h.2 with ⟨hv, h0⟩ | ⟨g, cap, cur, hv, _⟩
    · omega
    · exact ⟨g, cap, hv⟩
  injection hv with h1 h2 h3
  subst h1
  have hlt := (h.lt g rfl).2
  have hc : ∀ k, k < 9 → w.cell? ⟨g, i * 9 + k, none⟩ = x.cells[k]? := fun k hk => by
    have hw : w.ownsRow base 109 9 (.slice (some ⟨g, 0, none⟩) n c) n (ndRow ns) := h
    rw [hw.cellAt (i * 9 + k) (by omega)]
    exact ndRow_at ns i k x hx hk
  refine ⟨g, 0, rfl, hlt, ?_, ?_, ?_, ?_, ?_, ?_, ?_, ?_, ?_⟩
  all_goals simp only [Nat.zero_add]
  · exact hc 0 (by omega)
  · exact hc 1 (by omega)
  · exact hc 2 (by omega)
  · exact hc 3 (by omega)
  · exact hc 4 (by omega)
  · exact hc 5 (by omega)
  · exact hc 6 (by omega)
  · exact hc 7 (by omega)
  · exact hc 8 (by omega)
theorem own_le {w : World} {D n size : Nat} {t : TypeId} {A : Option Addr} {c : Nat} {xs : List Value} (h : w.ownsRow D t size (.slice A n c) n xs) : n ≤ 9223372036854775807 := by
  rcases h.2 with ⟨_, h0⟩ | ⟨g, cap, cur, _, _, _, h1, h2, _⟩
  · omega
  · unfold maxLen at h2
    omega
set_option maxRecDepth 100000 in
set_option maxHeartbeats 8000000 in
theorem nodes_same (A A' : Option Addr) (n c c' B B' : Nat) (ns : List Nd) (w : World) (h : Nds w B A n c ns) (h' : Nds w B' A' n c' ns) :
    Calls Tryz.prog 46 #[.slice A n c, .slice A' n c'] w fun e w' => e = .returned (.bool true) ∧ Below w.heap.size w w' := by
  have hn : n ≤ 9223372036854775807 := own_le h
  have H := Lib.hid h
  have H' := Lib.hid h'
  clear h h'
  go_enter Tryz.func46, Tryz.ntmps46
  go_upto_region 4 with fail
  go_loopw [13] (fun iv wr => ∃ i : Nat, i ≤ n ∧ iv = .int .i64 (i : Int) ∧ Hid (Below w.heap.size w wr)) (fun iv _ => n - (intOf iv).toNat)
  case atStart => exact ⟨0, Nat.zero_le _, rfl, Lib.hid (Below.refl _ _)⟩
  case round =>
    obtain ⟨i, hi, rfl, HB⟩ := hrel
    by_cases hlt : i < n
    · have i0 : (0 : Int) ≤ (i : Int) := by omega
      have i1 : (i : Int) < (n : Int) := by omega
      obtain ⟨x, hx⟩ : ∃ x, ns[i]? = some x := ⟨ns[i]'(by rw [H.out.len]; exact hlt), List.getElem?_eq_getElem _⟩
      obtain ⟨b, o, rfl, hbB, x0, x1, x2, x3, x4, x5, x6, x7, x8⟩ := (H.out.below HB.out).at_ hx
      obtain ⟨b', o', rfl, hbB', y0, y1, y2, y3, y4, y5, y6, y7, y8⟩ := (H'.out.below HB.out).at_ hx
      clear hx
      obtain ⟨kind, op, xa, xb, table, name, vk, vn, vt⟩ := x
      simp only at x0 x1 x2 x3 x4 x5 x6 x7 x8 y0 y1 y2 y3 y4 y5 y6 y7 y8
      go_upto_region 6 with fail
      go_quiet (fail)
      go_wp2_with fail
      go_roundw
      case rel => exact ⟨i + 1, by omega, by go_num, Lib.hid ⟨HB.out.os, HB.out.tape, HB.out.output, HB.out.size, HB.out.block⟩⟩
      case measure => simp [intOf]; omega
    · obtain rfl : i = n := by omega
      go_wp2_with fail
      go_ret
      exact ⟨rfl, HB.out⟩
end Go.Proofs.YtiipglmbfgmbbaaGreatDoor

namespace Go.Proofs.YtiipglmbfgmbbaaGreatDoor
open Go.RowKit Go.Shelf
attribute [local go_sem] Oper.semAt_some

theorem u62 : Tryz.prog.underlying 62 = some (.struct (Tryz.prog.fieldsOf 62)) := by kernel_rfl
theorem st62 : Tryz.prog.stoodInHeld 62 = false := by kernel_rfl
theorem l62 : ((Tryz.prog.fieldsOf 62).toList.all fun f => decide ((f.type, f.offset) ∈ [(9, 0), (3, 1), (4, 2), (4, 3)])) = true := by kernel_rfl
theorem g62 : Tryz.prog.eqGuardType Tryz.prog.depth 62 = false := by kernel_rfl
theorem neq62 (w : World) (u : ByteArray) (k : Int) (a b : Bool) :
    (binOp .neq 62 (.agg #[.string u, .int .i64 k, .bool a, .bool b]) (.agg #[.string u, .int .i64 k, .bool a, .bool b])).run Tryz.prog w = .ok (.bool false) w := by
  have e := eq_self (xs := #[.string u, .int .i64 k, .bool a, .bool b]) u62 st62 l62 w 9999 (fun p hp => by
    simp only [List.mem_cons, List.not_mem_nil, or_false] at hp
    rcases hp with rfl | rfl | rfl | rfl
    · exact self_s Tryz.underlying9 rfl
    · exact self_i un3 rfl
    · exact self_b un4 rfl
    · exact self_b un4 rfl)
  rw [run_neq_struct, e]
  rfl
theorem eqG62 (op : BinOp) (x y : Operand) (xs ys : Array Value) (w : World) : (eqGuard op 62 x y (.agg xs) (.agg ys)).run Tryz.prog w = .ok () w := run_eqGuard_agg w op 62 x y xs ys g62
attribute [local go_sem ↓] neq62 eqG62
theorem clRow_len : ∀ a : List Cl, (clRow a).length = a.length * 4
  | [] => rfl
  | t :: a => by rw [clRow, List.length_append, clRow_len a, List.length_cons]; simp [clC]; omega
theorem clRow_at : ∀ (ns : List Cl) (i k : Nat) (x : Cl), ns[i]? = some x → k < 4 → (clRow ns)[i * 4 + k]? = (clC x)[k]?
  | [], i, k, x, h, _ => by cases h
  | t :: r, 0, k, x, h, hk => by
    simp only [List.getElem?_cons_zero, Option.some.injEq] at h
    subst h
    rw [Nat.zero_mul, Nat.zero_add, clRow, List.getElem?_append_left (by simp [clC]; omega)]
  | t :: r, i + 1, k, x, h, hk => by
    rw [clRow, List.getElem?_append_right (by simp [clC]; omega), show (i + 1) * 4 + k - (clC t).length = i * 4 + k from by simp [clC]; omega]
    exact clRow_at r i k x (by simpa using h) hk
theorem Cs.len {w : World} {D n c : Nat} {A : Option Addr} {l : List Cl} (h : Cs w D A n c l) : l.length = n := by
  have := h.1
  rw [clRow_len] at this
  omega
theorem Cs.at_ {w : World} {D n c : Nat} {A : Option Addr} {l : List Cl} (h : Cs w D A n c l) {i : Nat} {x : Cl} (hx : l[i]? = some x) :
    ∃ b o, A = some ⟨b, o, none⟩ ∧ b < w.heap.size ∧ w.cell? ⟨b, o + i * 4, none⟩ = some (tx x.1) ∧ w.cell? ⟨b, o + i * 4 + 1, none⟩ = some (.int .i64 (x.2.1 : Int)) ∧ w.cell? ⟨b, o + i * 4 + 2, none⟩ = some (.bool x.2.2.1) ∧
      w.cell? ⟨b, o + i * 4 + 3, none⟩ = some (.bool x.2.2.2) := by
  have hi : i < l.length := (List.getElem?_eq_some_iff.1 hx).1
  have hn := h.len
  obtain ⟨g, cap, hv⟩ : ∃ g cap, Value.slice A n c = .slice (some ⟨g, 0, none⟩) n cap := by
    rcases h.2 with ⟨hv, h0⟩ | ⟨g, cap, cur, hv, _⟩
    · omega
    · exact ⟨g, cap, hv⟩
  injection hv with h1 h2 h3
  subst h1
  have hw : w.ownsRow D 62 4 (.slice (some ⟨g, 0, none⟩) n c) n (clRow l) := h
  have hlt := (hw.lt g rfl).2
  have hc : ∀ k, k < 4 → w.cell? ⟨g, i * 4 + k, none⟩ = (clC x)[k]? := fun k hk => by
    rw [hw.cellAt (i * 4 + k) (by omega)]
    exact clRow_at l i k x hx hk
  refine ⟨g, 0, rfl, hlt, ?_, ?_, ?_, ?_⟩
  all_goals simp only [Nat.zero_add]
  · exact hc 0 (by omega)
  · exact hc 1 (by omega)
  · exact hc 2 (by omega)
  · exact hc 3 (by omega)
theorem Cs.below {w w' : World} {D n c : Nat} {A : Option Addr} {l : List Cl} (h : Cs w D A n c l) (hb : Below w.heap.size w w') : Cs w' D A n c l := World.ownsRow.below h hb
set_option maxRecDepth 100000 in
set_option maxHeartbeats 8000000 in
theorem cols_same (A A' : Option Addr) (n c c' B B' : Nat) (ns : List Cl) (w : World) (h : Cs w B A n c ns) (h' : Cs w B' A' n c' ns) :
    Calls Tryz.prog 20 #[.slice A n c, .slice A' n c'] w fun e w' => e = .returned (.bool true) ∧ Below w.heap.size w w' := by
  have hn : n ≤ 9223372036854775807 := own_le h
  have H := Lib.hid h
  have H' := Lib.hid h'
  clear h h'
  go_enter Tryz.func20, Tryz.ntmps20
  go_upto_region 4 with fail
  go_loopw [13] (fun iv wr => ∃ i : Nat, i ≤ n ∧ iv = .int .i64 (i : Int) ∧ Hid (Below w.heap.size w wr)) (fun iv _ => n - (intOf iv).toNat)
  case atStart => exact ⟨0, Nat.zero_le _, rfl, Lib.hid (Below.refl _ _)⟩
  case round =>
    obtain ⟨i, hi, rfl, HB⟩ := hrel
    by_cases hlt : i < n
    · have i0 : (0 : Int) ≤ (i : Int) := by omega
      have i1 : (i : Int) < (n : Int) := by omega
      obtain ⟨x, hx⟩ : ∃ x, ns[i]? = some x := ⟨ns[i]'(by rw [H.out.len]; exact hlt), List.getElem?_eq_getElem _⟩
      obtain ⟨b, o, rfl, hbB, x0, x1, x2, x3⟩ := (H.out.below HB.out).at_ hx
      obtain ⟨b', o', rfl, hbB', y0, y1, y2, y3⟩ := (H'.out.below HB.out).at_ hx
      clear hx
      obtain ⟨nm, ty, pk, nn⟩ := x
      simp only at x0 x1 x2 x3 y0 y1 y2 y3
      go_upto_region 6 with fail
      go_quiet (fail)
      go_wp2_with fail
      go_roundw
      case rel => exact ⟨i + 1, by omega, by go_num, Lib.hid ⟨HB.out.os, HB.out.tape, HB.out.output, HB.out.size, HB.out.block⟩⟩
      case measure => simp [intOf]; omega
    · obtain rfl : i = n := by omega
      go_wp2_with fail
      go_ret
      exact ⟨rfl, HB.out⟩
set_option maxRecDepth 100000 in
set_option maxHeartbeats 8000000 in
theorem expr_same (A A' : Option Addr) (n c c' B B' : Nat) (ns : List Nd) (w : World) (h : Nds w B A n c ns) (h' : Nds w B' A' n c' ns) :
    Calls Tryz.prog 25 #[.agg #[.slice A n c], .agg #[.slice A' n c']] w fun e w' => e = .returned (.bool true) ∧ Below w.heap.size w w' := by
  have HA : Below w.heap.size w ((w.alloc (.cells #[.slice A n c] 34)).alloc (.cells #[.slice A' n c'] 34)) := ((Below.refl _ _).alloc (Nat.le_refl _) _).alloc (by simp) _
  go_enter Tryz.func25, Tryz.ntmps25
  go_upto_region 1 with fail
  go_wp2_with (go_at_call 46; refine (nodes_same A A' n c c' B B' ns _ (h.below HA) (h'.below HA)).mono ?_; rintro e w1 ⟨rfl, hb⟩; have H1 := Lib.hid (HA.trans (hb.mono HA.size)); clear hb HA)
  go_ret
  exact ⟨rfl, H1.out⟩
end Go.Proofs.YtiipglmbfgmbbaaGreatDoor

namespace Go.Proofs.YtiipglmbfgmbbaaGreatDoor
open Go.RowKit Go.Shelf
attribute [local go_sem] Oper.semAt_some

set_option maxRecDepth 100000 in
set_option maxHeartbeats 8000000 in
theorem set_same (u : List UInt8) (A A' : Option Addr) (n c c' B B' : Nat) (ns : List Nd) (w : World) (h : Nds w B A n c ns) (h' : Nds w B' A' n c' ns) :
    Calls Tryz.prog 22 #[.agg #[tx u, .slice A n c], .agg #[tx u, .slice A' n c']] w fun e w' => e = .returned (.bool true) ∧ Below w.heap.size w w' := by
  have HA : Below w.heap.size w ((w.alloc (.cells #[tx u, .slice A n c] 65)).alloc (.cells #[tx u, .slice A' n c'] 65)) := ((Below.refl _ _).alloc (Nat.le_refl _) _).alloc (by simp) _
  go_enter Tryz.func22, Tryz.ntmps22
  go_upto_region 1 with fail
  go_wp2_with (go_at_call 25; refine (expr_same A A' n c c' B B' ns _ (h.below HA) (h'.below HA)).mono ?_; rintro e w1 ⟨rfl, hb⟩; have H1 := Lib.hid (HA.trans (hb.mono HA.size)); clear hb HA)
  go_ret
  exact ⟨rfl, H1.out⟩
set_option maxRecDepth 100000 in
set_option maxHeartbeats 8000000 in
theorem item_same (k : Int) (A A' : Option Addr) (n c c' B B' : Nat) (ns : List Nd) (w : World) (h : Nds w B A n c ns) (h' : Nds w B' A' n c' ns) :
    Calls Tryz.prog 24 #[.agg #[.int .i64 k, .slice A n c], .agg #[.int .i64 k, .slice A' n c']] w fun e w' => e = .returned (.bool true) ∧ Below w.heap.size w w' := by
  have HA : Below w.heap.size w ((w.alloc (.cells #[.int .i64 k, .slice A n c] 53)).alloc (.cells #[.int .i64 k, .slice A' n c'] 53)) := ((Below.refl _ _).alloc (Nat.le_refl _) _).alloc (by simp) _
  go_enter Tryz.func24, Tryz.ntmps24
  go_upto_region 1 with fail
  go_wp2_with (go_at_call 25; refine (expr_same A A' n c c' B B' ns _ (h.below HA) (h'.below HA)).mono ?_; rintro e w1 ⟨rfl, hb⟩; have H1 := Lib.hid (HA.trans (hb.mono HA.size)); clear hb HA)
  go_ret
  exact ⟨rfl, H1.out⟩
end Go.Proofs.YtiipglmbfgmbbaaGreatDoor

namespace Go.Proofs.YtiipglmbfgmbbaaGreatDoor
open Go.RowKit Go.Shelf
attribute [local go_sem] Oper.semAt_some

section
variable {α : Type} {hd : α → Value} {w : World} {D : Nat}
theorem RwC.len2 : ∀ {vs : List Value} {l : List (α × List Nd)}, RwC hd w D vs l → vs.length = l.length * 2
  | _, [], h => by rw [show _ = [] from h]; rfl
  | _, x :: l, ⟨B, c, rest, e, _, h⟩ => by rw [e, List.length_cons, List.length_cons, h.len2, List.length_cons]; omega
theorem RwC.get2 : ∀ {vs : List Value} {l : List (α × List Nd)} {i : Nat} {x : α × List Nd}, RwC hd w D vs l → l[i]? = some x → ∃ B c, vs[i * 2]? = some (hd x.1) ∧ vs[i * 2 + 1]? = some (.slice B x.2.length c) ∧ Nds w D B x.2.length c x.2
  | _, [], i, x, _, hx => by cases hx
  | _, y :: l, 0, x, ⟨B, c, rest, e, hN, h⟩, hx => by
    simp only [List.getElem?_cons_zero, Option.some.injEq] at hx
    subst hx
    exact ⟨B, c, by rw [e]; rfl, by rw [e]; rfl, hN⟩
  | _, y :: l, i + 1, x, ⟨B, c, rest, e, hN, h⟩, hx => by
    obtain ⟨B2, c2, h1, h2, h3⟩ := h.get2 (i := i) (x := x) (by simpa using hx)
    refine ⟨B2, c2, ?_, ?_, h3⟩
    · rw [e, show (i + 1) * 2 = i * 2 + 1 + 1 from by omega, List.getElem?_cons_succ, List.getElem?_cons_succ]
      exact h1
    · rw [e, show (i + 1) * 2 + 1 = i * 2 + 1 + 1 + 1 from by omega, List.getElem?_cons_succ, List.getElem?_cons_succ]
      exact h2
end
theorem RwC.below {α : Type} {hd : α → Value} {w w' : World} {D : Nat} {vs : List Value} {l : List (α × List Nd)} (h : RwC hd w D vs l) (hb : Below w.heap.size w w') : RwC hd w' D vs l := h.kt (Kt.below hb)
theorem Rws.below {α : Type} {t : TypeId} {hd : α → Value} {w w' : World} {D n c : Nat} {A : Option Addr} {l : List (α × List Nd)} (h : Rws t hd w D A n c l) (hb : Below w.heap.size w w') : Rws t hd w' D A n c l := h.kt (Kt.below hb) (Kt.below hb)
theorem Rws.len {α : Type} {t : TypeId} {hd : α → Value} {w : World} {D n c : Nat} {A : Option Addr} {l : List (α × List Nd)} (h : Rws t hd w D A n c l) : l.length = n := by
  obtain ⟨vs, ho, hr⟩ := h
  have h1 := ho.1
  have h2 := hr.len2
  omega
theorem Rws.at_ {α : Type} {t : TypeId} {hd : α → Value} {w : World} {D n c : Nat} {A : Option Addr} {l : List (α × List Nd)} (h : Rws t hd w D A n c l) {i : Nat} {x : α × List Nd} (hx : l[i]? = some x) :
    ∃ b o E d, A = some ⟨b, o, none⟩ ∧ b < w.heap.size ∧ w.cell? ⟨b, o + i * 2, none⟩ = some (hd x.1) ∧ w.cell? ⟨b, o + i * 2 + 1, none⟩ = some (.slice E x.2.length d) ∧ Nds w D E x.2.length d x.2 := by
  have hi : i < l.length := (List.getElem?_eq_some_iff.1 hx).1
  have hn := h.len
  obtain ⟨vs, ho, hr⟩ := h
  obtain ⟨g, cap, hv⟩ : ∃ g cap, Value.slice A n c = .slice (some ⟨g, 0, none⟩) n cap := by
    rcases ho.2 with ⟨hv, h0⟩ | ⟨g, cap, cur, hv, _⟩
    · omega
    · exact ⟨g, cap, hv⟩
  injection hv with h1 h2 h3
  subst h1
  have hw : w.ownsRow D t 2 (.slice (some ⟨g, 0, none⟩) n c) n vs := ho
  have hlt := (hw.lt g rfl).2
  obtain ⟨E, d, k0, k1, k2⟩ := hr.get2 hx
  refine ⟨g, 0, E, d, rfl, hlt, ?_, ?_, k2⟩
  all_goals simp only [Nat.zero_add]
  · rw [hw.cellAt (i * 2) (by omega)]; exact k0
  · rw [hw.cellAt (i * 2 + 1) (by omega)]; exact k1
set_option maxRecDepth 100000 in
set_option maxHeartbeats 8000000 in
theorem sets_same (A A' : Option Addr) (n c c' B B' : Nat) (ns : List (List UInt8 × List Nd)) (w : World) (h : Rws 65 tx w B A n c ns) (h' : Rws 65 tx w B' A' n c' ns) :
    Calls Tryz.prog 21 #[.slice A n c, .slice A' n c', .func (.func 22) #[] #[]] w fun e w' => e = .returned (.bool true) ∧ Below w.heap.size w w' := by
  have hn : n ≤ 9223372036854775807 := own_le h.choose_spec.1
  have H := Lib.hid h
  have H' := Lib.hid h'
  clear h h'
  go_enter Tryz.func21, Tryz.ntmps21
  go_upto_region 4 with fail
  go_loopw [17] (fun iv wr => ∃ i : Nat, i ≤ n ∧ iv = .int .i64 (i : Int) ∧ Hid (Below w.heap.size w wr)) (fun iv _ => n - (intOf iv).toNat)
  case atStart => exact ⟨0, Nat.zero_le _, rfl, Lib.hid (Below.refl _ _)⟩
  case round =>
    obtain ⟨i, hi, rfl, HB⟩ := hrel
    by_cases hlt : i < n
    · have i0 : (0 : Int) ≤ (i : Int) := by omega
      have i1 : (i : Int) < (n : Int) := by omega
      obtain ⟨x, hx⟩ : ∃ x, ns[i]? = some x := ⟨ns[i]'(by rw [H.out.len]; exact hlt), List.getElem?_eq_getElem _⟩
      obtain ⟨b, o, E, d, rfl, hbB, x0, x1, HN⟩ := (H.out.below HB.out).at_ hx
      obtain ⟨b', o', E', d', rfl, hbB', y0, y1, HN'⟩ := (H'.out.below HB.out).at_ hx
      clear hx
      obtain ⟨u, xs⟩ := x
      simp only at x0 x1 y0 y1 HN HN'
      have F2 := Lib.hid (show Below wr.heap.size wr ((wr.alloc (.cells #[tx u, .slice E xs.length d] 65)).alloc (.cells #[tx u, .slice E' xs.length d'] 65)) from ((Below.refl _ _).alloc (Nat.le_refl _) _).alloc (by simp) _)
      have SE := Lib.hid (fun W (hW : Below wr.heap.size wr W) => set_same u E E' xs.length d d' B B' xs W (HN.below hW) (HN'.below hW))
      clear HN HN'
      generalize xs.length = m at *
      go_wp2_with (go_at_call 22; go_loud (refine (SE.out _ F2.out).mono ?_; rintro e w1 ⟨rfl, hb1⟩; have HB1 := Lib.hid (HB.out.trans ((F2.out.trans (hb1.mono F2.out.size)).mono HB.out.size)); clear hb1))
      go_roundw
      case rel => exact ⟨i + 1, by omega, by go_num, HB1⟩
      case measure => simp [intOf]; omega
    · obtain rfl : i = n := by omega
      go_wp2_with fail
      go_ret
      exact ⟨rfl, HB.out⟩
set_option maxRecDepth 100000 in
set_option maxHeartbeats 8000000 in
theorem items_same (A A' : Option Addr) (n c c' B B' : Nat) (ns : List (Int × List Nd)) (w : World) (h : Rws 53 intV w B A n c ns) (h' : Rws 53 intV w B' A' n c' ns) :
    Calls Tryz.prog 23 #[.slice A n c, .slice A' n c', .func (.func 24) #[] #[]] w fun e w' => e = .returned (.bool true) ∧ Below w.heap.size w w' := by
  have hn : n ≤ 9223372036854775807 := own_le h.choose_spec.1
  have H := Lib.hid h
  have H' := Lib.hid h'
  clear h h'
  go_enter Tryz.func23, Tryz.ntmps23
  go_upto_region 4 with fail
  go_loopw [17] (fun iv wr => ∃ i : Nat, i ≤ n ∧ iv = .int .i64 (i : Int) ∧ Hid (Below w.heap.size w wr)) (fun iv _ => n - (intOf iv).toNat)
  case atStart => exact ⟨0, Nat.zero_le _, rfl, Lib.hid (Below.refl _ _)⟩
  case round =>
    obtain ⟨i, hi, rfl, HB⟩ := hrel
    by_cases hlt : i < n
    · have i0 : (0 : Int) ≤ (i : Int) := by omega
      have i1 : (i : Int) < (n : Int) := by omega
      obtain ⟨x, hx⟩ : ∃ x, ns[i]? = some x := ⟨ns[i]'(by rw [H.out.len]; exact hlt), List.getElem?_eq_getElem _⟩
      obtain ⟨b, o, E, d, rfl, hbB, x0, x1, HN⟩ := (H.out.below HB.out).at_ hx
      obtain ⟨b', o', E', d', rfl, hbB', y0, y1, HN'⟩ := (H'.out.below HB.out).at_ hx
      clear hx
      obtain ⟨u, xs⟩ := x
      simp only [intV] at x0 x1 y0 y1 HN HN'
      have F2 := Lib.hid (show Below wr.heap.size wr ((wr.alloc (.cells #[.int .i64 u, .slice E xs.length d] 53)).alloc (.cells #[.int .i64 u, .slice E' xs.length d'] 53)) from ((Below.refl _ _).alloc (Nat.le_refl _) _).alloc (by simp) _)
      have SE := Lib.hid (fun W (hW : Below wr.heap.size wr W) => item_same u E E' xs.length d d' B B' xs W (HN.below hW) (HN'.below hW))
      clear HN HN'
      generalize xs.length = m at *
      go_wp2_with (go_at_call 24; go_loud (refine (SE.out _ F2.out).mono ?_; rintro e w1 ⟨rfl, hb1⟩; have HB1 := Lib.hid (HB.out.trans ((F2.out.trans (hb1.mono F2.out.size)).mono HB.out.size)); clear hb1))
      go_roundw
      case rel => exact ⟨i + 1, by omega, by go_num, HB1⟩
      case measure => simp [intOf]; omega
    · obtain rfl : i = n := by omega
      go_wp2_with fail
      go_ret
      exact ⟨rfl, HB.out⟩
end Go.Proofs.YtiipglmbfgmbbaaGreatDoor
