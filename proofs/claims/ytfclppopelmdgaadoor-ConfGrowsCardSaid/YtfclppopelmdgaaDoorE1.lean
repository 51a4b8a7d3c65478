/-
  Lists of how far: in memory; the document's come.
-/
import Derived.Test.YtfclppopelmdgaaDoorD1
namespace Go.Proofs.YtfclppopelmdgaaDoor
open Go.RowKit

/-- The slice '.slice A n _' holds these pairs, below block B. -/
def Mt (w : World) (B : Nat) (A : Option Addr) (n : Nat) (l : List (Int × Int)) : Prop :=
  l.length = n ∧ (∀ j, 0 ≤ (l.getD j (0, 0)).2 ∧ (l.getD j (0, 0)).2 ≤ 18446744073709551615) ∧
    (0 < n → ∃ b o, A = some ⟨b, o, none⟩ ∧ b < B ∧ ∀ j, j < n → w.cell? ⟨b, o + j * 2, none⟩ = some (.int .i64 (l.getD j (0, 0)).1) ∧ w.cell? ⟨b, o + j * 2 + 1, none⟩ = some (.int .u64 (l.getD j (0, 0)).2))
section
variable {w w' : World} {B B' n : Nat} {A : Option Addr} {l : List (Int × Int)}
theorem Mt.below (h : Mt w B A n l) (hb : Below B w w') : Mt w' B A n l :=
  ⟨h.1, h.2.1, fun hn => by
    obtain ⟨b, o, e, hl, hc⟩ := h.2.2 hn
    exact ⟨b, o, e, hl, fun j hj => ⟨(hb.cell (p := ⟨b, o + j * 2, none⟩) hl).trans (hc j hj).1, (hb.cell (p := ⟨b, o + j * 2 + 1, none⟩) hl).trans (hc j hj).2⟩⟩⟩
theorem Mt.more (h : Mt w B A n l) (hB : B ≤ B') : Mt w B' A n l := ⟨h.1, h.2.1, fun hn => by
    obtain ⟨b, o, e, hb, hc⟩ := h.2.2 hn
    exact ⟨b, o, e, by omega, hc⟩⟩
end
theorem come_take {l : List (Int × Int)} {k : Nat} (h : k < l.length) (m : Int) : comeF (l.take (k + 1)) m = if (l.getD k (0, 0)).1 = m ∧ comeF (l.take k) m < (l.getD k (0, 0)).2 then (l.getD k (0, 0)).2 else comeF (l.take k) m := by
  unfold comeF
  rw [List.take_succ_eq_append_getElem h, List.foldl_append]
  have e : l.getD k (0, 0) = l[k] := by simp [List.getD, h]
  rw [e]
  rfl
theorem come_bound (m : Int) : ∀ (l : List (Int × Int)) (f : Int), 0 ≤ f → f ≤ 18446744073709551615 → (∀ x ∈ l, 0 ≤ x.2 ∧ x.2 ≤ 18446744073709551615) →
    0 ≤ l.foldl (fun f x => if x.1 = m ∧ f < x.2 then x.2 else f) f ∧ l.foldl (fun f x => if x.1 = m ∧ f < x.2 then x.2 else f) f ≤ 18446744073709551615
  | [], f, h0, h1, _ => ⟨h0, h1⟩
  | x :: r, f, h0, h1, hx => by
    rw [List.foldl_cons]
    refine come_bound m r _ ?_ ?_ fun y hy => hx y (List.mem_cons_of_mem _ hy)
    · split
      · exact (hx x List.mem_cons_self).1
      · exact h0
    · split
      · exact (hx x List.mem_cons_self).2
      · exact h1

set_option maxRecDepth 100000 in
set_option maxHeartbeats 4000000 in
theorem come_any (m : Int) (A : Option Addr) (n c B : Nat) (l : List (Int × Int)) (w : World) (h : Mt w B A n l) (hn : n ≤ 1000000) (hB : B ≤ w.heap.size) :
    Calls Tryd.prog 44 #[.slice A n c, .int .i64 m] w fun e w' => e = .returned (.int .u64 (comeF l m)) ∧ Below w.heap.size w w' := by
  have HL := Lib.hid h.1
  have HB2 := Lib.hid h.2.1
  have H := Lib.hid (fun W (hW : Below w.heap.size w W) => (h.below (hW.mono hB)).2.2)
  have E : Hid (comeF (l.take n) m = comeF l m) := Lib.hid (by rw [List.take_of_length_le (by rw [h.1]; omega)])
  have Z : Hid (comeF (l.take 0) m = 0) := Lib.hid rfl
  have S := Lib.hid (fun k (hk : k < l.length) => come_take hk m)
  clear h
  obtain ⟨CK, hCK⟩ : ∃ CK : Nat → Int, CK = fun k => comeF (l.take k) m := ⟨_, rfl⟩
  have E' : Hid (CK n = comeF l m) := Lib.hid (by rw [hCK]; exact E.out)
  have Z' : Hid (CK 0 = 0) := Lib.hid (by rw [hCK]; exact Z.out)
  have S' : Hid (∀ k, k < n → CK (k + 1) = if (l.getD k (0, 0)).1 = m ∧ CK k < (l.getD k (0, 0)).2 then (l.getD k (0, 0)).2 else CK k) := Lib.hid (fun k hk => by rw [hCK]; exact S.out k (by rw [HL.out]; exact hk))
  clear hCK E Z S
  go_enter Tryd.func44, Tryd.ntmps44
  go_wp2
  go_loopw [5, 10] (fun v i wr => ∃ k : Nat, k ≤ n ∧ i = .int .i64 (k : Int) ∧ v = .int .u64 (CK k) ∧ Hid (Below w.heap.size w wr)) (fun _ i _ => n - (intOf i).toNat)
  case atStart => exact ⟨0, Nat.zero_le _, rfl, by rw [Z'.out], Lib.hid (Below.refl _ _)⟩
  case round =>
    obtain ⟨k, hk, rfl, rfl, IB⟩ := hrel
    by_cases hlt : k < n
    · obtain ⟨b, o, rfl, hb, hc⟩ := H.out _ IB.out (by omega)
      obtain ⟨c1, c2⟩ := hc k hlt
      have k0 : (0 : Int) ≤ (k : Int) := by omega
      have SU := S'.out k hlt
      obtain ⟨y0, y1⟩ := HB2.out k
      have WS : Hid (w.heap.size ≤ wr.heap.size) := Lib.hid IB.out.size
      clear hc
      generalize (l.getD k (0, 0)).1 = x at *
      generalize (l.getD k (0, 0)).2 = y at *
      by_cases hx : x = m
      · subst hx
        have hq : (x == x) = true := by simp
        by_cases hy : CK k < y
        · have SE : Hid (CK (k + 1) = y) := Lib.hid (by rw [SU, if_pos ⟨rfl, hy⟩])
          clear SU
          go_wp2
          go_roundw
          case rel => exact ⟨k + 1, by omega, by go_num, by rw [SE.out], Lib.hid (IB.out.alloc WS.out _)⟩
          case measure => simp [intOf]; omega
        · have SE : Hid (CK (k + 1) = CK k) := Lib.hid (by rw [SU, if_neg (fun e => hy e.2)])
          have hy2 : decide (CK k < y) = false := decide_eq_false hy
          clear SU
          go_wp2
          go_roundw
          case rel => exact ⟨k + 1, by omega, by go_num, by rw [SE.out], Lib.hid (IB.out.alloc WS.out _)⟩
          case measure => simp [intOf]; omega
      · have SE : Hid (CK (k + 1) = CK k) := Lib.hid (by rw [SU, if_neg (fun e => hx e.1)])
        have hq : (x == m) = false := by simpa using hx
        clear SU hx
        go_wp2
        go_roundw
        case rel => exact ⟨k + 1, by omega, by go_num, by rw [SE.out], Lib.hid (IB.out.alloc WS.out _)⟩
        case measure => simp [intOf]; omega
    · obtain rfl : k = n := by omega
      go_wp2
      go_ret
      exact ⟨ret_int E'.out, IB.out⟩

/-- The closure over which Agreed asks: is a member as far as another one? -/
theorem asfar_any (p q : Nat) (o m : Int) (h0 : 0 ≤ o) (h5 : o ≤ 5) (m0 : 0 ≤ m) (m5 : m ≤ 5) (f0 f1 f2 f3 f4 f5 : Int) (w : World) (hp : Blk w p 71 #[.int .u64 f0, .int .u64 f1, .int .u64 f2, .int .u64 f3, .int .u64 f4, .int .u64 f5]) (hq : Blk w q 3 #[.int .i64 m]) :
    Calls Tryd.prog 47 #[.int .i64 o, .pointer (some ⟨p, 0, none⟩), .pointer (some ⟨q, 0, none⟩)] w fun e w' => e = .returned (.bool (decide (([f0, f1, f2, f3, f4, f5] : List Int).getD m.toNat 0 ≤ ([f0, f1, f2, f3, f4, f5] : List Int).getD o.toNat 0))) ∧ Below w.heap.size w w' := by
  have at_ : ∀ x : Int, 0 ≤ x → x ≤ 5 → w.cell? ⟨p, x.toNat, none⟩ = some (.int .u64 (([f0, f1, f2, f3, f4, f5] : List Int).getD x.toNat 0)) := fun x h0 h5 => by
    rw [hp.cell]
    have : x = 0 ∨ x = 1 ∨ x = 2 ∨ x = 3 ∨ x = 4 ∨ x = 5 := by omega
    rcases this with rfl | rfl | rfl | rfl | rfl | rfl <;> rfl
  have c1 := at_ o h0 h5
  have c2 := at_ m m0 m5
  have c3 : w.cell? ⟨q, 0, none⟩ = some (.int .i64 m) := hq.cell 0
  have o6 : o < 6 := by omega
  have m6 : m < 6 := by omega
  generalize ([f0, f1, f2, f3, f4, f5] : List Int).getD o.toNat 0 = fo at *
  generalize ([f0, f1, f2, f3, f4, f5] : List Int).getD m.toNat 0 = fm at *
  clear at_ hp hq
  go_enter Tryd.func47, Tryd.ntmps47
  go_wp2
  go_quiet (fail)
  go_wp2
  go_ret
  exact ⟨rfl, below_drewN _ _ _⟩
end Go.Proofs.YtfclppopelmdgaaDoor
