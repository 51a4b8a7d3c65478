/-
  Bits: the program's alone, has, size; what the two tables of math/bits tell.
-/
import Derived.Test.YtfclppopelmdgaaDoorCP
import Derived.Test.YtfclppopelmdgaaDoorBys
import Derived.Test.YtfclppopelmdgaaDoorVW
import Derived.BigQuiet
import Derived.Lib.Tables
import Derived.Lib.BitFns
namespace Go.Proofs.YtfclppopelmdgaaDoor
open Go.RowKit

theorem alone_any (n : Int) (w : World) : Calls Tryd.prog 49 #[.int .i64 n] w fun e w' => e = .returned (.int .u8 (alo n : Nat)) ∧ w = w' := by
  rcases alo_cases n with ⟨rfl, h⟩ | ⟨rfl, h⟩ | ⟨rfl, h⟩ | ⟨rfl, h⟩ | ⟨rfl, h⟩ | ⟨hr, h⟩
  · rw [h]; clear h
    go_enter Tryd.func49, Tryd.ntmps49
    go_wp2
    go_ret
    exact ⟨rfl, rfl⟩
  · rw [h]; clear h
    go_enter Tryd.func49, Tryd.ntmps49
    go_wp2
    go_ret
    exact ⟨rfl, rfl⟩
  · rw [h]; clear h
    go_enter Tryd.func49, Tryd.ntmps49
    go_wp2
    go_ret
    exact ⟨rfl, rfl⟩
  · rw [h]; clear h
    go_enter Tryd.func49, Tryd.ntmps49
    go_wp2
    go_ret
    exact ⟨rfl, rfl⟩
  · rw [h]; clear h
    go_enter Tryd.func49, Tryd.ntmps49
    go_wp2
    go_ret
    exact ⟨rfl, rfl⟩
  · rw [h]; clear h
    by_cases h1 : n < 1
    · clear hr
      go_enter Tryd.func49, Tryd.ntmps49
      go_wp2
      go_ret
      exact ⟨rfl, rfl⟩
    · have h2 : 5 < n := by omega
      clear hr
      go_enter Tryd.func49, Tryd.ntmps49
      go_wp2
      go_ret
      exact ⟨rfl, rfl⟩

theorem pop_ones : ∀ G : Fin 32, wrap64 (Lib.pop8 (G.val : Int)) = (pop G.val : Nat) := by decide +kernel
theorem ones_any (G : Nat) (h : G < 32) (w : World) : Calls Tryd.prog 54 #[.int .u8 (G : Int)] w fun e w' => e = .returned (.int .i64 (pop G : Nat)) ∧ w = w' := by
  have HP := Lib.hid (pop_ones ⟨G, h⟩)
  have g0 : (0 : Int) ≤ (G : Int) := by omega
  have g1 : (G : Int) ≤ 255 := by omega
  go_enter Tryd.func54, Tryd.ntmps54
  go_wp2
  go_ret
  exact ⟨ret_int HP.out, rfl⟩
theorem size_any (G : Nat) (h : G < 32) (w : World) : Calls Tryd.prog 48 #[.int .u8 (G : Int)] w fun e w' => e = .returned (.int .i64 (pop G : Nat)) ∧ w = w' := by
  have OA := Lib.hid (ones_any G h)
  go_enter Tryd.func48, Tryd.ntmps48
  go_wp2_with (go_at_call 54; refine (OA.out _).mono ?_; rintro e w1 ⟨rfl, rfl⟩)
  go_ret
  exact ⟨rfl, rfl⟩
/-- What is left of a set behind so many of its numbers. -/
def lf (G : Nat) : Nat → Nat
  | 0 => G
  | k + 1 => Nat.land (lf G k) (lf G k - 1)
theorem lf_lt (G : Nat) (h : G < 32) : ∀ k, lf G k < 32
  | 0 => h
  | k + 1 => Nat.lt_of_le_of_lt Nat.and_le_left (lf_lt G h k)
theorem ntz_left : ∀ G : Fin 32, ∀ k : Fin 5, k.val < pop G.val → wrap64 (Lib.ntz8 (lf G.val k.val : Int)) = (row G.val).getD k.val 0 - 1 := by decide +kernel
theorem lf_pos : ∀ G : Fin 32, ∀ k : Fin 5, k.val < pop G.val → lf G.val k.val ≠ 0 := by decide +kernel
theorem lf_end : ∀ G : Fin 32, lf G.val (pop G.val) = 0 := by decide +kernel
theorem lf_step : ∀ x : Fin 32, x.val ≠ 0 → bits .and .u8 (x.val : Int) ((x.val : Int) - 1) = (Nat.land x.val (x.val - 1) : Nat) := by decide +kernel
theorem trail_any (G : Nat) (h : G < 32) (w : World) : Calls Tryd.prog 53 #[.int .u8 (G : Int)] w fun e w' => e = .returned (.int .i64 (wrap64 (Lib.ntz8 (G : Int)))) ∧ w = w' := by
  have g0 : (0 : Int) ≤ (G : Int) := by omega
  have g1 : (G : Int) ≤ 255 := by omega
  go_enter Tryd.func53, Tryd.ntmps53
  go_wp2
  go_ret
  exact ⟨rfl, rfl⟩

theorem and_alo : ∀ G : Fin 32, (bits .and .u8 (G.val : Int) ((1 : Nat) : Int) == 0) = !inG G.val 1 ∧ (bits .and .u8 (G.val : Int) ((2 : Nat) : Int) == 0) = !inG G.val 2 ∧ (bits .and .u8 (G.val : Int) ((4 : Nat) : Int) == 0) = !inG G.val 3 ∧
    (bits .and .u8 (G.val : Int) ((8 : Nat) : Int) == 0) = !inG G.val 4 ∧ (bits .and .u8 (G.val : Int) ((16 : Nat) : Int) == 0) = !inG G.val 5 ∧ (bits .and .u8 (G.val : Int) ((0 : Nat) : Int) == 0) = true := by decide +kernel
theorem and_in (G : Nat) (h : G < 32) (m : Int) : (!(bits .and .u8 (G : Int) (alo m : Nat) == 0)) = inG G m := by
  have := and_alo ⟨G, h⟩
  rcases alo_cases m with ⟨rfl, e⟩ | ⟨rfl, e⟩ | ⟨rfl, e⟩ | ⟨rfl, e⟩ | ⟨rfl, e⟩ | ⟨hr, e⟩
  · rw [e, this.1, Bool.not_not]
  · rw [e, this.2.1, Bool.not_not]
  · rw [e, this.2.2.1, Bool.not_not]
  · rw [e, this.2.2.2.1, Bool.not_not]
  · rw [e, this.2.2.2.2.1, Bool.not_not]
  · rw [e]
    refine (congrArg (fun b => !b) this.2.2.2.2.2).trans ?_
    unfold inG
    rcases hr with hr | hr
    · rw [decide_eq_false (by omega)]; rfl
    · rw [decide_eq_false (show ¬ m ≤ 5 by omega)]; simp
theorem has_any (G : Nat) (h : G < 32) (m : Int) (w : World) : Calls Tryd.prog 41 #[.int .u8 (G : Int), .int .i64 m] w fun e w' => e = .returned (.bool (inG G m)) ∧ w = w' := by
  have OA := Lib.hid (alone_any m)
  have HA := Lib.hid (and_in G h m)
  go_enter Tryd.func41, Tryd.ntmps41
  go_wp2_with (go_at_call 49; refine (OA.out _).mono ?_; rintro e w1 ⟨rfl, rfl⟩)
  go_ret
  exact ⟨ret_bool HA.out, rfl⟩

/-! ### Ints in memory -/
/-- The slice '.slice A n _' holds these ints, below block B. -/
def Is (w : World) (B : Nat) (A : Option Addr) (n : Nat) (xs : List Int) : Prop :=
  xs.length = n ∧ (0 < n → ∃ b o, A = some ⟨b, o, none⟩ ∧ b < B ∧ ∀ j, j < n → w.cell? ⟨b, o + j, none⟩ = some (.int .i64 (xs.getD j 0)))
section
variable {w w' : World} {B B' n : Nat} {A : Option Addr} {xs : List Int}
theorem Is.keep (h : Is w B A n xs) (hk : ∀ p : Addr, p.block < B → w'.cell? p = w.cell? p) : Is w' B A n xs :=
  ⟨h.1, fun hn => by
    obtain ⟨b, o, e, hb, hc⟩ := h.2 hn
    exact ⟨b, o, e, hb, fun j hj => (hk ⟨b, o + j, none⟩ hb).trans (hc j hj)⟩⟩
theorem Is.below (h : Is w B A n xs) (hb : Below B w w') : Is w' B A n xs := h.keep fun _ hp => hb.cell hp
theorem Is.more (h : Is w B A n xs) (hB : B ≤ B') : Is w B' A n xs := ⟨h.1, fun hn => by
    obtain ⟨b, o, e, hb, hc⟩ := h.2 hn
    exact ⟨b, o, e, by omega, hc⟩⟩
theorem Is.none_ : Is w B A 0 [] := ⟨rfl, fun h => absurd h (by omega)⟩
theorem Is.take (h : Is w B A n xs) {m : Nat} (hm : m ≤ n) : Is w B A m (xs.take m) := by
  refine ⟨by rw [List.length_take, h.1]; omega, fun hp => ?_⟩
  obtain ⟨b, o, hA, hb, hcl⟩ := h.2 (by omega)
  refine ⟨b, o, hA, hb, fun j hj => ?_⟩
  rw [hcl j (by omega)]
  simp [List.getD, List.getElem?_take, hj]
end
/-- The slice owns its ints. -/
def Ios (w : World) (base : Nat) (A : Option Addr) (n c : Nat) (xs : List Int) : Prop := w.ownsRow base 3 1 (.slice A n c) n (xs.map (Value.int .i64))
theorem World.ownsRow.below {w w' : World} {base e size n : Nat} {v : Value} {xs : List Value} (h : w.ownsRow base e size v n xs) (hb : Below w.heap.size w w') : w'.ownsRow base e size v n xs := by
  refine ⟨h.1, ?_⟩
  rcases h.2 with hv | ⟨g, cap, cur, hv, hbs, hh, r⟩
  · exact .inl hv
  · exact .inr ⟨g, cap, cur, hv, hbs, (hb.block g (Blk.lt (t := e) hh)).trans hh, r⟩
theorem World.ownsRow.down {w : World} {base base' e size n : Nat} {v : Value} {xs : List Value} (h : w.ownsRow base e size v n xs) (hb : base' ≤ base) : w.ownsRow base' e size v n xs := by
  refine ⟨h.1, ?_⟩
  rcases h.2 with hv | ⟨g, cap, cur, hv, hbs, r⟩
  · exact .inl hv
  · exact .inr ⟨g, cap, cur, hv, by omega, r⟩
theorem Ios.below {w w' : World} {base n c : Nat} {A : Option Addr} {xs : List Int} (h : Ios w base A n c xs) (hb : Below w.heap.size w w') : Ios w' base A n c xs := World.ownsRow.below h hb
theorem Ios.down {w : World} {base base' n c : Nat} {A : Option Addr} {xs : List Int} (h : Ios w base A n c xs) (hb : base' ≤ base) : Ios w base' A n c xs := World.ownsRow.down h hb
theorem Ios.is_ {w : World} {base n c : Nat} {A : Option Addr} {xs : List Int} (h : Ios w base A n c xs) : Is w w.heap.size A n xs ∧ n ≤ c ∧ (A = none → c = 0) := by
  have hl : xs.length = n := by simpa using h.1
  rcases h.2 with ⟨hv, hn⟩ | ⟨g, cap, cur, hv, hb, hh, hnc, _, _, ht⟩
  · injection hv with h1 h2 h3
    exact ⟨⟨hl, fun hp => by omega⟩, by omega, fun _ => h3⟩
  · injection hv with h1 h2 h3
    refine ⟨⟨hl, fun hp => ⟨g, 0, h1, Blk.lt (t := 3) hh, fun j hj => ?_⟩⟩, by omega, fun e => by rw [h1] at e; cases e⟩
    rw [Nat.zero_add]
    subst h1
    have hj' : j < xs.length := by omega
    rw [World.ownsRow.cellAt h j (by omega)]
    simp [List.getD, hj']
theorem Tryd.info3 : (Tryd.prog.info? 3).map (fun i => (i.zero, i.size, i.bytes)) = some (some (.int .i64 0), 1, 8) := by kernel_rfl

end Go.Proofs.YtfclppopelmdgaaDoor
