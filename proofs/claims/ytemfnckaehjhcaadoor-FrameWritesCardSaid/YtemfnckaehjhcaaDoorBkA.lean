/-
  Several texts in one: BkWords, BkRead1, BkRead2, BkRead3, BkClone, BkB0, BkBW, BkBL, BkCmp, BkPut, BkB2, BkB3, BkB4, BkB5, BkB6, BkC1, BkRead4, BkRead5, BkB7.
-/
import Derived.Below
import Derived.Laws.OwnMore
import Derived.Deep.Draws
import Derived.Laws.Rows
import Derived.Deep.AppendLies
import Derived.Test.YtemfnckaehjhcaaDoorProg
import Derived.WalkKit
import Derived.WalkSpells
import Derived.WalkLawsBesides
import Derived.Lib.Hide
import Derived.Deep.QuietTactic
import Derived.BigQuiet
import Derived.Laws.BitsAllLaws
import Derived.Deep.MidRow
import Derived.Deep.WholeRow
import Derived.Deep.RegionHeld3
import Derived.Deep.DrawnRows
import Derived.Lib.BytesEntry
import Derived.Laws.Externs
import Derived.Laws.CopyOwn
import Derived.RegionTactic
import Derived.BigRegion
/-
  Words for bytes in memory, and the plain lemmas on lists that the walks lean on. Nothing of the program is looked at here.
-/
namespace Go.Proofs.YtemfnckaehjhcaaDoor.Bk
open Go.RowKit

/-- The slice value '.slice A n c' holds the bytes zs, below block B. -/
def By (w : World) (B : Nat) (A : Option Addr) (n : Nat) (zs : List Int) : Prop :=
  zs.length = n ∧ (∀ j, 0 ≤ zs.getD j 0 ∧ zs.getD j 0 ≤ 255) ∧
    (0 < n → ∃ b o, A = some ⟨b, o, none⟩ ∧ b < B ∧ ∀ j, j < n → w.cell? ⟨b, o + j, none⟩ = some (.int .u8 (zs.getD j 0)))

section
variable {w w' : World} {B B' n : Nat} {A : Option Addr} {zs : List Int}
theorem By.none_ : By w B A 0 [] := ⟨rfl, fun j => by simp, fun h => absurd h (by omega)⟩
theorem By.keep (h : By w B A n zs) (hk : ∀ p : Addr, p.block < B → w'.cell? p = w.cell? p) : By w' B A n zs :=
  ⟨h.1, h.2.1, fun hn => by
    obtain ⟨b, o, e, hb, hc⟩ := h.2.2 hn
    exact ⟨b, o, e, hb, fun j hj => (hk ⟨b, o + j, none⟩ hb).trans (hc j hj)⟩⟩
theorem By.more (h : By w B A n zs) (hB : B ≤ B') : By w B' A n zs :=
  ⟨h.1, h.2.1, fun hn => by
    obtain ⟨b, o, e, hb, hc⟩ := h.2.2 hn
    exact ⟨b, o, e, by omega, hc⟩⟩
theorem By.below (h : By w B A n zs) (hb : Below B w w') : By w' B A n zs := h.keep fun _ hp => hb.cell hp
theorem By.drewN (h : By w B A n zs) (k : Nat) : By (w.drewN k) B A n zs := h
theorem By.alloc (h : By w B A n zs) (hB : B ≤ w.heap.size) (o : Obj) : By (w.alloc o) B A n zs := h.keep fun p hp => World.cell?_alloc_lt w o p (by omega)
theorem By.setCell (h : By w B A n zs) {p : Addr} (hB : B ≤ p.block) (u : Value) : By (w.setCell p u) B A n zs :=
  h.keep fun q hq => World.cell?_setCell_other w p q u (fun e => by subst e; omega)
end

/-- Block g is just the cells cs of element type t, none frozen. -/
def Blk (w : World) (g : Nat) (t : TypeId) (cs : Array Value) : Prop := w.heap[g]? = some (.cells cs t (0, 0))

section
variable {w w' : World} {g : Nat} {t : TypeId} {cs : Array Value}
theorem Blk.lt (h : Blk w g t cs) : g < w.heap.size := by
  rcases Nat.lt_or_ge g w.heap.size with hlt | hge
  · exact hlt
  · unfold Blk at h; rw [Array.getElem?_eq_none hge] at h; cases h
theorem Blk.cell (h : Blk w g t cs) (i : Nat) : w.cell? ⟨g, i, none⟩ = cs[i]? := cell_of_row w g i cs t (0, 0) h
theorem Blk.frozen (h : Blk w g t cs) (i : Nat) : w.frozen? ⟨g, i, none⟩ = false := by
  unfold Blk at h
  simp [World.frozen?, h]
theorem Blk.new (w : World) (t : TypeId) (cs : Array Value) : Blk (w.alloc (.cells cs t)) w.heap.size t cs := heap_alloc_new w _
theorem Blk.drewN (h : Blk w g t cs) (n : Nat) : Blk (w.drewN n) g t cs := h
theorem Blk.alloc (h : Blk w g t cs) (o : Obj) : Blk (w.alloc o) g t cs := (Below.heap_alloc w o g h.lt).trans h
theorem Blk.set_ (h : Blk w g t cs) (i : Nat) (u : Value) : Blk (w.setCell ⟨g, i, none⟩ u) g t (cs.setIfInBounds i u) := by
  unfold Blk at h ⊢
  simp [World.setCell, Array.getElem?_modify, h]
theorem Blk.far (h : Blk w g t cs) {p : Addr} (hp : g ≠ p.block) (u : Value) : Blk (w.setCell p u) g t cs := (Below.heap_setCell w p u g hp).trans h
theorem Blk.below {B : Nat} (h : Blk w g t cs) (hb : Below B w w') (hg : g < B) : Blk w' g t cs := (hb.block g hg).trans h
end

/-- How many of the bytes are c. -/
def cnt (c : Int) (zs : List Int) : Nat := (zs.filter (fun z => z == c)).length
theorem cnt_le (c : Int) (zs : List Int) : cnt c zs ≤ zs.length := List.length_filter_le _ _
theorem cnt_snoc (c : Int) (zs : List Int) (k : Nat) (hk : k < zs.length) : cnt c (zs.take (k + 1)) = cnt c (zs.take k) + if (zs.getD k 0 == c) = true then 1 else 0 := by
  rw [List.take_succ_eq_append_getElem hk]
  unfold cnt
  rw [List.filter_append, List.length_append]
  have e : zs.getD k 0 = zs[k] := by simp [List.getD, hk]
  rw [e]
  by_cases h : (zs[k] == c) = true
  · simp [h]
  · simp [h]

theorem ret_int {k : IntKind} {a b : Int} (h : a = b) : Ending.returned (.int k a) = .returned (.int k b) := by rw [h]
theorem ret_bool {a b : Bool} (h : a = b) : Ending.returned (.bool a) = .returned (.bool b) := by rw [h]

end Go.Proofs.YtemfnckaehjhcaaDoor.Bk

/-
  What a Reader answers: Read, At, Left, Err, sound.
-/
namespace Go.Proofs.YtemfnckaehjhcaaDoor.Bk
open Go.RowKit

/-- A Reader at block p: its place, its error, its bytes. -/
def Rd (w : World) (p : Nat) (at_ er : Int) (A : Option Addr) (n c : Nat) : Prop := Blk w p 120 #[.int .i64 at_, .int .i64 er, .slice A n c]

theorem Rd.c0 {w : World} {p : Nat} {a e : Int} {A : Option Addr} {n c : Nat} (h : Rd w p a e A n c) : w.cell? ⟨p, 0, none⟩ = some (.int .i64 a) := Blk.cell h 0
theorem Rd.c1 {w : World} {p : Nat} {a e : Int} {A : Option Addr} {n c : Nat} (h : Rd w p a e A n c) : w.cell? ⟨p, 1, none⟩ = some (.int .i64 e) := Blk.cell h 1
theorem Rd.c2 {w : World} {p : Nat} {a e : Int} {A : Option Addr} {n c : Nat} (h : Rd w p a e A n c) : w.cell? ⟨p, 2, none⟩ = some (.slice A n c) := Blk.cell h 2

theorem read_any (A : Option Addr) (n c : Nat) (w : World) :
    Calls Tryd.prog 61 #[.slice A n c] w fun e w' => e = .returned (.pointer (some ⟨w.heap.size, 0, none⟩)) ∧ w' = w.alloc (.cells #[.int .i64 0, .int .i64 0, .slice A n c] 120) := by
  go_enter Tryd.func61, Tryd.ntmps61
  go_wp2
  go_ret
  exact ⟨rfl, rfl⟩

theorem err_nil (w : World) : Calls Tryd.prog 64 #[.pointer none] w fun e w' => e = .returned (.int .i64 1) ∧ w = w' := by
  go_enter Tryd.func64, Tryd.ntmps64
  go_wp2
  go_ret
  exact ⟨rfl, rfl⟩

theorem err_any (p : Nat) (a er : Int) (A : Option Addr) (n c : Nat) (w : World) (h : Rd w p a er A n c) :
    Calls Tryd.prog 64 #[.pointer (some ⟨p, 0, none⟩)] w fun e w' => e = .returned (.int .i64 er) ∧ w = w' := by
  have h0 := h.c1
  go_enter Tryd.func64, Tryd.ntmps64
  go_wp2
  go_ret
  exact ⟨rfl, rfl⟩

theorem left_nil (w : World) : Calls Tryd.prog 65 #[.pointer none] w fun e w' => e = .returned (.int .i64 0) ∧ w = w' := by
  go_enter Tryd.func65, Tryd.ntmps65
  go_wp2
  go_ret
  exact ⟨rfl, rfl⟩

theorem left_any (p k : Nat) (er : Int) (A : Option Addr) (n c : Nat) (w : World) (h : Rd w p k er A n c) (hk : k ≤ n) (hn : n ≤ 140737488355328) :
    Calls Tryd.prog 65 #[.pointer (some ⟨p, 0, none⟩)] w fun e w' => e = .returned (.int .i64 (n - k)) ∧ ∃ m, w' = w.drewN m := by
  have h0 := h.c0
  have h2 := h.c2
  have hw : IntKind.i64.wrap ((n : Int) - k) = (n : Int) - k := IntWalk.i64_in _ (by omega)
  clear h
  go_enter Tryd.func65, Tryd.ntmps65
  go_wp2
  go_quiet (fail)
  go_wp2
  go_ret
  exact ⟨rfl, _, rfl⟩

theorem sound_nil (w : World) : Calls Tryd.prog 120 #[.pointer none] w fun e w' => e = .returned (.bool false) ∧ w = w' := by
  go_enter Tryd.func120, Tryd.ntmps120
  go_wp2_with (go_at_call 64; refine (err_nil _).mono ?_; rintro e w' ⟨rfl, rfl⟩)
  go_ret
  exact ⟨rfl, rfl⟩

theorem sound_any (p : Nat) (a er : Int) (A : Option Addr) (n c : Nat) (w : World) (h : Rd w p a er A n c) :
    Calls Tryd.prog 120 #[.pointer (some ⟨p, 0, none⟩)] w fun e w' => e = .returned (.bool (er == 0)) ∧ w = w' := by
  go_enter Tryd.func120, Tryd.ntmps120
  go_wp2_with (go_at_call 64; refine (err_any _ _ _ _ _ _ _ h).mono ?_; rintro e w' ⟨rfl, rfl⟩)
  go_ret
  exact ⟨rfl, rfl⟩

end Go.Proofs.YtemfnckaehjhcaaDoor.Bk

/-
  What a Reader's next, number and Raw answer.
-/
namespace Go.Proofs.YtemfnckaehjhcaaDoor.Bk
open Go.RowKit

theorem set_drewN (w : World) (a : Addr) (v : Value) (q r : Nat) : ((w.drewN q).setCell a v).drewN r = (w.setCell a v).drewN (q + r) := by
  rw [← World.drewN_drewN]; rfl

theorem next_nil (m : Int) (w : World) : Calls Tryd.prog 119 #[.pointer none, .int .i64 m] w fun e w' => e = .returned (.slice none 0 0) ∧ w = w' := by
  go_enter Tryd.func119, Tryd.ntmps119
  go_wp2_with (go_at_call 120; refine (sound_nil _).mono ?_; rintro e w' ⟨rfl, rfl⟩)
  go_ret
  exact ⟨rfl, rfl⟩

theorem next_bad (p : Nat) (a er m : Int) (A : Option Addr) (n c : Nat) (w : World) (h : Rd w p a er A n c) (he : (er == 0) = false) :
    Calls Tryd.prog 119 #[.pointer (some ⟨p, 0, none⟩), .int .i64 m] w fun e w' => e = .returned (.slice none 0 0) ∧ w = w' := by
  go_enter Tryd.func119, Tryd.ntmps119
  go_wp2_with (go_at_call 120; refine (sound_any _ _ _ _ _ _ _ h).mono ?_; rintro e w' ⟨rfl, rfl⟩)
  go_ret
  exact ⟨rfl, rfl⟩

theorem next_neg (p : Nat) (a m : Int) (A : Option Addr) (n c : Nat) (w : World) (h : Rd w p a 0 A n c) (hm : m < 0) :
    Calls Tryd.prog 119 #[.pointer (some ⟨p, 0, none⟩), .int .i64 m] w fun e w' => e = .returned (.slice none 0 0) ∧ w' = w.setCell ⟨p, 1, none⟩ (.int .i64 2) := by
  have h1 := h.c1
  have f1 : w.frozen? ⟨p, 1, none⟩ = false := Blk.frozen h 1
  go_enter Tryd.func119, Tryd.ntmps119
  go_wp2_with (go_at_call 120; refine (sound_any _ _ _ _ _ _ _ h).mono ?_; rintro e w' ⟨rfl, rfl⟩)
  go_ret
  exact ⟨rfl, rfl⟩

theorem next_short (p k : Nat) (m : Int) (A : Option Addr) (n c : Nat) (w : World) (h : Rd w p k 0 A n c) (hk : k ≤ n) (hn : n ≤ 140737488355328) (hm : (n : Int) - k < m) :
    Calls Tryd.prog 119 #[.pointer (some ⟨p, 0, none⟩), .int .i64 m] w fun e w' => e = .returned (.slice none 0 0) ∧ ∃ q, w' = (w.setCell ⟨p, 1, none⟩ (.int .i64 7)).drewN q := by
  have h1 := h.c1
  have f1 : w.frozen? ⟨p, 1, none⟩ = false := Blk.frozen h 1
  have hm0 : ¬ m < 0 := by omega
  go_enter Tryd.func119, Tryd.ntmps119
  go_wp2_with (first | (go_at_call 120; refine (sound_any _ _ _ _ _ _ _ h).mono ?_; rintro e w' ⟨rfl, rfl⟩) | (go_at_call 65; refine (left_any _ _ _ _ _ _ _ h hk hn).mono ?_; rintro e w' ⟨rfl, q, rfl⟩))
  go_ret
  exact ⟨rfl, _, rfl⟩

def NextOk (p k m : Nat) (A : Option Addr) (c : Nat) (w : World) (e : Ending) (w' : World) : Prop :=
  e = .returned (.slice (if c = k then A else A.map (·.add k)) m (c - k)) ∧ ∃ q, w' = (w.setCell ⟨p, 0, none⟩ (.int .i64 (k + m))).drewN q

theorem next_ok (p k m : Nat) (A : Option Addr) (n c : Nat) (w : World) (h : Rd w p k 0 A n c) (hk : k ≤ n) (hnc : n ≤ c) (hn : n ≤ 140737488355328) (hm : m ≤ n - k) :
    Calls Tryd.prog 119 #[.pointer (some ⟨p, 0, none⟩), .int .i64 m] w (NextOk p k m A c w) := by
  have h0 := h.c0
  have h2 := h.c2
  have f0 : w.frozen? ⟨p, 0, none⟩ = false := Blk.frozen h 0
  have hm0 : ¬ (m : Int) < 0 := by omega
  have hm1 : ¬ ((n : Int) - k < m) := by omega
  go_enter Tryd.func119, Tryd.ntmps119
  go_wp2_with (first | (go_at_call 120; refine (sound_any _ _ _ _ _ _ _ h).mono ?_; rintro e w' ⟨rfl, rfl⟩) | (go_at_call 65; refine (left_any _ _ _ _ _ _ _ h hk hn).mono ?_; rintro e w' ⟨rfl, q, rfl⟩))
  go_quiet (fail)
  go_wp2
  all_goals go_ret
  · exact ⟨by simp [*], _, set_drewN _ _ _ _ _⟩
  · exact ⟨by simp [*], _, set_drewN _ _ _ _ _⟩

/-- The bytes behind a cut. -/
theorem By.cut {w : World} {B : Nat} {A : Option Addr} {n : Nat} {zs : List Int} (h : By w B A n zs) {k m c : Nat} (hm : m ≤ n - k) (hk : k ≤ n) (hc : n ≤ c) :
    By w B (if c = k then A else A.map (·.add k)) m ((zs.drop k).take m) := by
  refine ⟨by rw [List.length_take, List.length_drop, h.1]; omega, fun j => ?_, fun hp => ?_⟩
  · have := h.2.1 (k + j)
    by_cases hj : j < m
    · simpa [List.getD, List.getElem?_take, hj] using this
    · simp [List.getD, List.getElem?_take, hj]
  · obtain ⟨b, o, rfl, hb, hcell⟩ := h.2.2 (by omega)
    rw [if_neg (by omega)]
    refine ⟨b, o + k, ?_, hb, fun j hj => ?_⟩
    · by_cases h0 : k = 0 <;> simp [Addr.add, h0]
    · rw [Nat.add_assoc, hcell (k + j) (by omega)]
      simp [List.getD, hj]

/-- The number that bytes are, the highest first. -/
def num (zs : List Int) : Int := zs.foldl (fun x z => (x * 256 + z) % 18446744073709551616) 0

theorem num_snoc (zs : List Int) (k : Nat) (hk : k < zs.length) : num (zs.take (k + 1)) = (num (zs.take k) * 256 + zs.getD k 0) % 18446744073709551616 := by
  rw [List.take_succ_eq_append_getElem hk]
  have e : zs.getD k 0 = zs[k] := by simp [List.getD, hk]
  rw [e]
  unfold num
  rw [List.foldl_append]
  rfl
theorem num_range (zs : List Int) : 0 ≤ num zs ∧ num zs < 18446744073709551616 := by
  rcases List.eq_nil_or_concat zs with rfl | ⟨l, a, rfl⟩
  · simp [num]
  · simp only [num, List.concat_eq_append, List.foldl_append, List.foldl_cons, List.foldl_nil]
    omega

end Go.Proofs.YtemfnckaehjhcaaDoor.Bk

/-
  What a Reader's number answers.
-/
namespace Go.Proofs.YtemfnckaehjhcaaDoor.Bk
open Go.RowKit

theorem or_byte (X z : Int) (hz : 0 ≤ z ∧ z ≤ 255) : bits .or .u64 (IntKind.u64.wrap (X * 256)) z = (X * 256 + z) % 18446744073709551616 := by
  have hw : IntKind.u64.wrap (X * 256) = 256 * (X % 72057594037927936) := by rw [IntKind.wrap_u64]; omega
  rw [hw]
  obtain ⟨y, hy⟩ := Int.eq_ofNat_of_zero_le (show 0 ≤ X % 72057594037927936 by omega)
  obtain ⟨v, rfl⟩ := Int.eq_ofNat_of_zero_le hz.1
  rw [hy, show (256 * (y : Int)) = ((256 * y : Nat) : Int) by omega, u64_or_nat _ _ (by omega) (by omega)]
  have := Nat.two_pow_add_eq_or_of_lt (i := 8) (b := v) (by omega) y
  rw [show 256 * y = 2 ^ 8 * y by omega, ← this]
  omega

set_option maxHeartbeats 400000 in
theorem number_ok (p k m : Nat) (A : Option Addr) (n c : Nat) (zs : List Int) (w : World) (h : Rd w p k 0 A n c) (hb : By w p A n zs) (hk : k ≤ n) (hnc : n ≤ c) (hn : n ≤ 140737488355328) (hm : m ≤ n - k) :
    Calls Tryd.prog 106 #[.pointer (some ⟨p, 0, none⟩), .int .i64 m] w fun e w' => e = .returned (.int .u64 (num ((zs.drop k).take m))) ∧ ∃ q, w' = (w.setCell ⟨p, 0, none⟩ (.int .i64 (k + m))).drewN q := by
  have hby := hb.cut hm hk hnc
  go_enter Tryd.func106, Tryd.ntmps106
  go_wp2_with (go_at_call 119; refine (next_ok _ _ _ _ _ _ _ h hk hnc hn hm).mono ?_; rintro e w' ⟨rfl, q, rfl⟩; generalize (if c = k then A else A.map (·.add k)) = A' at hby ⊢)
  have hl := Lib.hid hby.1
  go_loop [5, 12] (fun t i => ∃ j : Nat, j ≤ m ∧ i = .int .i64 j ∧ t = .int .u64 (num (((zs.drop k).take m).take j))) (fun _ i => m - (intOf i).toNat)
  case atStart => exact ⟨0, Nat.zero_le _, rfl, rfl⟩
  case round =>
    obtain ⟨j, hj, rfl, rfl⟩ := hrel
    by_cases hlt : j < m
    · obtain ⟨b, o, rfl, hbb, hc⟩ := hby.2.2 (by omega)
      have hcell : (w.setCell ⟨p, 0, none⟩ (.int .i64 (k + m))).cell? ⟨b, o + j, none⟩ = some (.int .u8 (((zs.drop k).take m).getD j 0)) := (World.cell?_setCell_other w _ _ _ (by intro e; injection e with e; omega)).trans (hc j hlt)
      have hz := hby.2.1 j
      generalize hz0 : ((zs.drop k).take m).getD j 0 = z at hcell hz
      have hs := Lib.hid (num_snoc _ j (by rw [hl.out]; exact hlt))
      rw [hz0] at hs
      have hr := num_range (((zs.drop k).take m).take j)
      have HZ := Lib.hid hz0
      clear hc h hz0 hby hb
      generalize hX : num (((zs.drop k).take m).take j) = X at hs hr
      clear hX
      go_wp2
      go_round
      case rel =>
        refine ⟨j + 1, by omega, by go_num, ?_⟩
        rw [hs.out]
        rw [or_byte X z hz]
      case measure => simp [intOf]; omega
    · go_wp2
      go_ret
      exact ⟨ret_int (by rw [List.take_of_length_le (by rw [hl.out]; omega)]), _, rfl⟩

theorem number_nil (m : Int) (w : World) : Calls Tryd.prog 106 #[.pointer none, .int .i64 m] w fun e w' => e = .returned (.int .u64 0) ∧ w = w' := by
  go_enter Tryd.func106, Tryd.ntmps106
  go_wp2_with (go_at_call 119; refine (next_nil _ _).mono ?_; rintro e w' ⟨rfl, rfl⟩)
  refine wp_loop_rounds 1 ?_
  rw [rounds_succ]
  go_wp2
  go_ret
  exact ⟨rfl, rfl⟩

theorem number_bad (p : Nat) (a er m : Int) (A : Option Addr) (n c : Nat) (w : World) (h : Rd w p a er A n c) (he : (er == 0) = false) :
    Calls Tryd.prog 106 #[.pointer (some ⟨p, 0, none⟩), .int .i64 m] w fun e w' => e = .returned (.int .u64 0) ∧ w = w' := by
  go_enter Tryd.func106, Tryd.ntmps106
  go_wp2_with (go_at_call 119; refine (next_bad _ _ _ _ _ _ _ _ h he).mono ?_; rintro e w' ⟨rfl, rfl⟩)
  refine wp_loop_rounds 1 ?_
  rw [rounds_succ]
  go_wp2
  go_ret
  exact ⟨rfl, rfl⟩

theorem number_short (p k : Nat) (m : Int) (A : Option Addr) (n c : Nat) (w : World) (h : Rd w p k 0 A n c) (hk : k ≤ n) (hn : n ≤ 140737488355328) (hm : (n : Int) - k < m) :
    Calls Tryd.prog 106 #[.pointer (some ⟨p, 0, none⟩), .int .i64 m] w fun e w' => e = .returned (.int .u64 0) ∧ ∃ q, w' = (w.setCell ⟨p, 1, none⟩ (.int .i64 7)).drewN q := by
  go_enter Tryd.func106, Tryd.ntmps106
  go_wp2_with (go_at_call 119; refine (next_short _ _ _ _ _ _ _ h hk hn hm).mono ?_; rintro e w' ⟨rfl, q, rfl⟩)
  refine wp_loop_rounds 1 ?_
  rw [rounds_succ]
  go_wp2
  go_ret
  exact ⟨rfl, _, rfl⟩

end Go.Proofs.YtemfnckaehjhcaaDoor.Bk

/-
  What slices.Clone, bytes.Clone and few answer: the same bytes, in memory of their own.
-/
namespace Go.Proofs.YtemfnckaehjhcaaDoor.Bk
open Go.RowKit

/-- All are bytes. -/
def Bs (zs : List Int) : Prop := ∀ j, 0 ≤ zs.getD j 0 ∧ zs.getD j 0 ≤ 255

/-- The slice holds the bytes zs in a row of its own, in a block from base on. -/
def Own (w : World) (base : Nat) (A : Option Addr) (n c : Nat) (zs : List Int) : Prop := w.ownsRow base 5 1 (.slice A n c) n (zs.map (Value.int .u8)) ∧ Bs zs

section
variable {w w' : World} {base n c : Nat} {A : Option Addr} {zs : List Int}
theorem Own.len (h : Own w base A n c zs) : zs.length = n := by simpa using h.1.1
theorem Own.form (h : Own w base A n c zs) : (A = none ∧ n = 0 ∧ c = 0) ∨ ∃ g, A = some ⟨g, 0, none⟩ ∧ base ≤ g ∧ g < w.heap.size ∧ n ≤ c := by
  rcases h.1.2 with ⟨hv, hn⟩ | ⟨g, cap, cur, hv, hb, hh, hnc, _⟩
  · injection hv with h1 h2 h3
    exact .inl ⟨h1, hn, h3⟩
  · injection hv with h1 h2 h3
    exact .inr ⟨g, h1, hb, Blk.lt (t := 5) hh, by omega⟩
theorem Own.cap (h : Own w base A n c zs) : n ≤ c := by
  rcases h.form with ⟨_, h1, h2⟩ | ⟨g, _, _, _, h1⟩ <;> omega
theorem Own.nil (h : Own w base A n c zs) (hA : A = none) : c = 0 := by
  rcases h.form with ⟨_, _, h2⟩ | ⟨g, h1, _⟩
  · exact h2
  · rw [hA] at h1; cases h1
theorem Own.at_ (h : Own w base A n c zs) {g : Nat} (hA : A = some ⟨g, 0, none⟩) (j : Nat) (hj : j < n) : w.cell? ⟨g, j, none⟩ = some (.int .u8 (zs.getD j 0)) := by
  subst hA
  rw [h.1.cellAt j (by omega)]
  have : j < zs.length := by rw [h.len]; exact hj
  simp [List.getD, this]
theorem Own.by (h : Own w base A n c zs) : By w w.heap.size A n zs := by
  refine ⟨h.len, h.2, fun hn => ?_⟩
  rcases h.form with ⟨_, h1, _⟩ | ⟨g, hA, _, hg, _⟩
  · omega
  · exact ⟨g, 0, hA, hg, fun j hj => by rw [Nat.zero_add]; exact h.at_ hA j hj⟩
theorem Own.below (h : Own w base A n c zs) (hb : Below w.heap.size w w') : Own w' base A n c zs := by
  refine ⟨⟨h.1.1, ?_⟩, h.2⟩
  rcases h.1.2 with hv | ⟨g, cap, cur, hv, hbs, hh, r⟩
  · exact .inl hv
  · exact .inr ⟨g, cap, cur, hv, hbs, (hb.block g (Blk.lt (t := 5) hh)).trans hh, r⟩
theorem Own.down (h : Own w base A n c zs) {base' : Nat} (hb : base' ≤ base) : Own w base' A n c zs := by
  refine ⟨⟨h.1.1, ?_⟩, h.2⟩
  rcases h.1.2 with hv | ⟨g, cap, cur, hv, hbs, r⟩
  · exact .inl hv
  · exact .inr ⟨g, cap, cur, hv, by omega, r⟩
theorem Own.of_row {v : Value} (h : w.ownsRow base 5 1 v n (zs.map (Value.int .u8))) (hb : Bs zs) : ∃ A c, v = .slice A n c ∧ Own w base A n c zs := by
  rcases h.2 with ⟨rfl, rfl⟩ | ⟨g, cap, cur, rfl, r⟩
  · exact ⟨_, _, rfl, h, hb⟩
  · exact ⟨_, _, rfl, h, hb⟩
theorem By.bs {B : Nat} (h : By w B A n zs) : Bs zs := h.2.1
end

theorem Tryd.info5 : (Tryd.prog.info? 5).map (fun i => (i.zero, i.size, i.bytes)) = some (some (.int .u8 0), 1, 1) := by kernel_rfl

/-- What a copy leaves. -/
def Cloned (w : World) (n : Nat) (zs : List Int) (e : Ending) (w' : World) : Prop := ∃ A c, e = .returned (.slice A n c) ∧ Own w' w.heap.size A n c zs ∧ Below w.heap.size w w'

set_option maxHeartbeats 400000 in
theorem clone_at (a : Addr) (n c : Nat) (xs : List Int) (w : World) (hx : xs.length = n) (hbs : Bs xs) (hbig : n ≤ 140737488355328) (hc : ∀ i, i < n → w.cell? (a.add i) = some (.int .u8 (xs.getD i 0))) :
    Calls Tryd.prog 24 #[.slice (some a) n c] w (Cloned w n xs) := by
  obtain ⟨i0, hi, hz0, hz1, hz2⟩ := info_parts Tryd.info5
  have q22 : ∀ (w : World) (a : Option Addr) (n c n' c' : Nat), (binOp .eql 29 (.slice a n c) (.slice none n' c')).run Tryd.prog w = .ok (.bool a.isNone) w := fun w a n c n' c' => Lib.run_eql_slice_nil w _ _ a n c n' c' Tryd.underlying29
  have A := Lib.hid hc
  have hx' := Lib.hid hx
  have hb := Lib.hid hbs
  clear hc hx hbs
  go_enter Tryd.func24, Tryd.ntmps24
  go_wp2_with (at_builtin; refine wpList_append_own _ rfl _ _ 29 rfl w.heap.size 5 i0 (.int .u8 0) 1 1 Tryd.underlying29 hi hz0 hz1 hz2 rfl (by decide) _ _ _ rfl (World.ownsRow_made w #[] 0 (Nat.le_refl _) (Nat.zero_le _) rfl) a n c (xs.map (Value.int .u8)) rfl ?qc1 ?qc2 ?qc3 ?qc4 ?qc5 ?qc6 ?_)
  case qc1 => have := hx'.out; simp; omega
  case qc2 =>
    have hx := hx'.out
    intro j u hj
    have hjn : j < n := by
      have := (List.getElem?_eq_some_iff.1 hj).1
      simp at this
      omega
    refine Lib.cell?_alloc_some _ ?_
    rw [A.out j hjn]
    have e : (xs.map (Value.int .u8))[j]? = some (Value.int .u8 (xs.getD j 0)) := by simp [List.getD, List.getElem?_eq_getElem (show j < xs.length by omega)]
    rw [e] at hj
    exact hj
  case qc3 => intro u hu; obtain ⟨x, _, rfl⟩ := List.mem_map.1 hu; rfl
  case qc4 => unfold maxLen; omega
  case qc5 => omega
  case qc6 => simp
  intro v' w1 hown hgrow hnil
  go_wp2
  go_ret
  obtain ⟨A', c', rfl, ho⟩ := Own.of_row (zs := xs) (n := n) (by simpa using hown) hb.out
  exact ⟨A', c', rfl, ho, ((Below.refl _ w).alloc (Nat.le_refl _) _).grown hgrow (by simp) (by intro k hk; simp [Value.ownBlock] at hk; omega)⟩

theorem clone_nil (n c : Nat) (w : World) : Calls Tryd.prog 24 #[.slice none n c] w fun e w' => e = .returned (.slice none 0 0) ∧ w = w' := by
  have q22 : ∀ (w : World) (a : Option Addr) (n c n' c' : Nat), (binOp .eql 29 (.slice a n c) (.slice none n' c')).run Tryd.prog w = .ok (.bool a.isNone) w := fun w a n c n' c' => Lib.run_eql_slice_nil w _ _ a n c n' c' Tryd.underlying29
  go_enter Tryd.func24, Tryd.ntmps24
  go_wp2
  go_ret
  exact ⟨rfl, rfl⟩

theorem clone_any (A : Option Addr) (n c : Nat) (zs : List Int) (w : World) (B : Nat) (h : By w B A n zs) (hbig : n ≤ 140737488355328) :
    Calls Tryd.prog 24 #[.slice A n c] w (Cloned w n zs) := by
  cases A with
  | none =>
    obtain rfl : n = 0 := by
      rcases Nat.eq_zero_or_pos n with h0 | h0
      · exact h0
      · obtain ⟨b, o, hA, _⟩ := h.2.2 h0
        cases hA
    obtain rfl : zs = [] := List.eq_nil_of_length_eq_zero h.1
    refine (clone_nil 0 c w).mono ?_
    rintro e w' ⟨rfl, rfl⟩
    exact ⟨none, 0, rfl, ⟨World.ownsRow_nil _ _ _ _, h.bs⟩, Below.refl _ _⟩
  | some a =>
    refine clone_at a n c zs w h.1 h.bs hbig fun i hi => ?_
    obtain ⟨b, o, hA, _, hc⟩ := h.2.2 (by omega)
    injection hA with hA
    subst hA
    rw [← hc i hi]
    by_cases h0 : i = 0 <;> simp [Addr.add, h0]





end Go.Proofs.YtemfnckaehjhcaaDoor.Bk

/-
  BLAKE2s as plain functions on numbers of 32 bits. Nothing of the program is looked at here.
-/
namespace Go.Proofs.YtemfnckaehjhcaaDoor.Bk

/-- A number of 32 bits as a natural one. -/
def tn (x : BitVec 32) : Nat := x.toNat
theorem tn_lt (x : BitVec 32) : tn x < 4294967296 := x.isLt
theorem tn_inj {x y : BitVec 32} (h : tn x = tn y) : x = y := BitVec.eq_of_toNat_eq h
theorem tn_add (x y : BitVec 32) : IntKind.u32.wrap ((tn x : Int) + (tn y : Int)) = (tn (x + y) : Int) := by
  rw [IntKind.wrap_u32']
  unfold tn
  rw [BitVec.toNat_add]
  omega
theorem tn_sub (x y : BitVec 32) : IntKind.u32.wrap ((tn x : Int) - (tn y : Int)) = (tn (x - y) : Int) := by
  have hx := x.isLt
  have hy := y.isLt
  rw [IntKind.wrap_u32']
  unfold tn
  rw [BitVec.toNat_sub]
  omega
theorem ofInt_tn (x : BitVec 32) : BitVec.ofInt 32 (tn x : Int) = x := by
  unfold tn
  apply BitVec.eq_of_toNat_eq
  rw [BitVec.toNat_ofInt]
  have := x.isLt
  omega
theorem wrap_tn (x : BitVec 32) : IntKind.u32.wrap (x.toNat : Int) = (tn x : Int) := by
  rw [IntKind.wrap_u32']
  have := x.isLt
  unfold tn
  omega
theorem tn_xor (x y : BitVec 32) : bits .xor .u32 (tn x : Int) (tn y : Int) = (tn (x ^^^ y) : Int) := by
  show IntKind.u32.wrap ((BitVec.ofInt 32 (tn x : Int) ^^^ BitVec.ofInt 32 (tn y : Int)).toNat : Int) = _
  rw [ofInt_tn, ofInt_tn, wrap_tn]
theorem tn_or (x y : BitVec 32) : bits .or .u32 (tn x : Int) (tn y : Int) = (tn (x ||| y) : Int) := by
  show IntKind.u32.wrap ((BitVec.ofInt 32 (tn x : Int) ||| BitVec.ofInt 32 (tn y : Int)).toNat : Int) = _
  rw [ofInt_tn, ofInt_tn, wrap_tn]
theorem tn_and (x y : BitVec 32) : bits .and .u32 (tn x : Int) (tn y : Int) = (tn (x &&& y) : Int) := by
  show IntKind.u32.wrap ((BitVec.ofInt 32 (tn x : Int) &&& BitVec.ofInt 32 (tn y : Int)).toNat : Int) = _
  rw [ofInt_tn, ofInt_tn, wrap_tn]
theorem tn_shr (x : BitVec 32) (n : Nat) : (tn x : Int) / 2 ^ n = (tn (x >>> n) : Int) := by
  unfold tn
  rw [BitVec.toNat_ushiftRight, Nat.shiftRight_eq_div_pow]
  simp
theorem tn_shl (x : BitVec 32) (n : Nat) : ((tn x : Int) * 2 ^ n) % 4294967296 = (tn (x <<< n) : Int) := by
  unfold tn
  rw [BitVec.toNat_shiftLeft, Nat.shiftLeft_eq]
  simp

/-- The number of 32 bits that any number is. -/
def bv (x : Int) : BitVec 32 := BitVec.ofInt 32 x
theorem mod_tn (x : Int) : x % 4294967296 = (tn (bv x) : Int) := by
  unfold tn bv
  rw [BitVec.toNat_ofInt]
  omega
theorem bv_mod (x : Int) : bv (x % 4294967296) = bv x := by
  apply tn_inj
  have h1 := mod_tn x
  have h2 := mod_tn (x % 4294967296)
  omega
theorem bv_add (x y : Int) : bv (x + y) = bv x + bv y := BitVec.ofInt_add _ _
theorem bv_sub (x y : Int) : bv (x - y) = bv x - bv y := by
  apply tn_inj
  have h1 := mod_tn (x - y)
  have h2 := tn_sub (bv x) (bv y)
  have h3 := mod_tn x
  have h4 := mod_tn y
  rw [IntKind.wrap_u32'] at h2
  omega
theorem bv_tn (x : BitVec 32) : bv (tn x : Int) = x := ofInt_tn x
theorem xor_bv (x y : Int) : bits .xor .u32 x y = (tn (bv x ^^^ bv y) : Int) := by
  show IntKind.u32.wrap ((BitVec.ofInt 32 x ^^^ BitVec.ofInt 32 y).toNat : Int) = _
  rw [wrap_tn]
  rfl
theorem or_bv (x y : Int) : bits .or .u32 x y = (tn (bv x ||| bv y) : Int) := by
  show IntKind.u32.wrap ((BitVec.ofInt 32 x ||| BitVec.ofInt 32 y).toNat : Int) = _
  rw [wrap_tn]
  rfl
theorem and_bv (x y : Int) : bits .and .u32 x y = (tn (bv x &&& bv y) : Int) := by
  show IntKind.u32.wrap ((BitVec.ofInt 32 x &&& BitVec.ofInt 32 y).toNat : Int) = _
  rw [wrap_tn]
  rfl

/-- Turned right. -/
def rr (x : BitVec 32) (n : Nat) : BitVec 32 := x >>> n ||| x <<< (32 - n)
theorem rr_bit (x : BitVec 32) (n : Nat) (h0 : 0 < n) (h1 : n < 32) (i : Nat) (hi : i < 32) : (rr x n).getLsbD i = if i + n < 32 then x.getLsbD (i + n) else x.getLsbD (i + n - 32) := by
  unfold rr
  simp only [BitVec.getLsbD_or, BitVec.getLsbD_ushiftRight, BitVec.getLsbD_shiftLeft]
  split
  · rename_i h
    have e : decide (i < 32 - n) = true := by simp; omega
    rw [e]
    simp [Nat.add_comm]
  · rename_i h
    have e : decide (i < 32 - n) = false := by simp; omega
    rw [e]
    have e2 : x.getLsbD (n + i) = false := BitVec.getLsbD_of_ge _ _ (by omega)
    rw [e2]
    have e3 : i - (32 - n) = i + n - 32 := by omega
    simp [hi, e3]
theorem rr_back (x : BitVec 32) (n : Nat) (h0 : 0 < n) (h1 : n < 32) : rr (rr x n) (32 - n) = x := by
  apply BitVec.eq_of_getLsbD_eq
  intro i hi
  rw [rr_bit _ _ (by omega) (by omega) i hi]
  split
  · rename_i h
    rw [rr_bit _ _ h0 h1 _ (by omega), if_neg (by omega)]
    congr 1
    omega
  · rename_i h
    rw [rr_bit _ _ h0 h1 _ (by omega), if_pos (by omega)]
    congr 1
    omega

/-- Four numbers. -/
structure Q where
  a : BitVec 32
  b : BitVec 32
  c : BitVec 32
  d : BitVec 32

def half (q : Q) (x : BitVec 32) (m n : Nat) : Q :=
  let a := q.a + (q.b + x)
  let d := rr (q.d ^^^ a) m
  let c := q.c + d
  let b := rr (q.b ^^^ c) n
  ⟨a, b, c, d⟩
def unhalf (q : Q) (x : BitVec 32) (m n : Nat) : Q :=
  let b := rr q.b (32 - n) ^^^ q.c
  let c := q.c - q.d
  let d := rr q.d (32 - m) ^^^ q.a
  let a := q.a - (b + x)
  ⟨a, b, c, d⟩
def mixQ (q : Q) (x y : BitVec 32) : Q := half (half q x 16 12) y 8 7
def unmixQ (q : Q) (x y : BitVec 32) : Q := unhalf (unhalf q y 8 7) x 16 12

theorem xor_cancel (x y : BitVec 32) : x ^^^ y ^^^ y = x := by rw [BitVec.xor_assoc, BitVec.xor_self, BitVec.xor_zero]
theorem rr_back' (x : BitVec 32) (n : Nat) (h0 : 0 < n) (h1 : n < 32) : rr (rr x (32 - n)) n = x := by
  have := rr_back x (32 - n) (by omega) (by omega)
  rwa [show 32 - (32 - n) = n by omega] at this
theorem unhalf_half (q : Q) (x : BitVec 32) (m n : Nat) (hm : 0 < m ∧ m < 32) (hn : 0 < n ∧ n < 32) : unhalf (half q x m n) x m n = q := by
  obtain ⟨a, b, c, d⟩ := q
  simp only [half, unhalf]
  rw [rr_back _ n hn.1 hn.2, rr_back _ m hm.1 hm.2, xor_cancel, xor_cancel, BitVec.add_sub_cancel, BitVec.add_sub_cancel]
theorem half_unhalf (q : Q) (x : BitVec 32) (m n : Nat) (hm : 0 < m ∧ m < 32) (hn : 0 < n ∧ n < 32) : half (unhalf q x m n) x m n = q := by
  obtain ⟨a, b, c, d⟩ := q
  simp only [half, unhalf]
  rw [BitVec.sub_add_cancel, xor_cancel, rr_back' _ m hm.1 hm.2, BitVec.sub_add_cancel, xor_cancel, rr_back' _ n hn.1 hn.2]
theorem unmix_mix (q : Q) (x y : BitVec 32) : unmixQ (mixQ q x y) x y = q := by
  unfold unmixQ mixQ
  rw [unhalf_half _ _ _ _ (by omega) (by omega), unhalf_half _ _ _ _ (by omega) (by omega)]
theorem mix_unmix (q : Q) (x y : BitVec 32) : mixQ (unmixQ q x y) x y = q := by
  unfold unmixQ mixQ
  rw [half_unhalf _ _ _ _ (by omega) (by omega), half_unhalf _ _ _ _ (by omega) (by omega)]

end Go.Proofs.YtemfnckaehjhcaaDoor.Bk

/-
  Words for rows of cells in memory (out of disk's texts).
-/
namespace Go.Proofs.YtemfnckaehjhcaaDoor.Bk
open Go.RowKit

section
variable {w w' : World} {g : Nat} {t : TypeId} {cs : Array Value}
theorem Blk.ne {g' : Nat} {t' : TypeId} {cs' : Array Value} (h : Blk w g t cs) (h' : Blk w g' t' cs') (ht : t ≠ t') : g ≠ g' := by
  rintro rfl
  unfold Blk at h h'
  rw [h] at h'
  injection h' with h'
  injection h' with _ h'
  exact ht h'
end

/-- A list with the cells vs laid over it from o on. -/
def lay (l : Array Value) (o : Nat) : List Value → Array Value
  | [] => l
  | v :: r => lay (l.setIfInBounds o v) (o + 1) r

theorem lay_size : ∀ (vs : List Value) (l : Array Value) (o : Nat), (lay l o vs).size = l.size
  | [], _, _ => rfl
  | v :: r, l, o => by rw [lay, lay_size r]; simp

theorem lay_get : ∀ (vs : List Value) (l : Array Value) (o j : Nat), o + vs.length ≤ l.size → (lay l o vs)[j]? = if o ≤ j ∧ j < o + vs.length then vs[j - o]? else l[j]?
  | [], l, o, j, _ => by simp [lay]; intro h1 h2; omega
  | v :: r, l, o, j, h => by
    rw [lay, lay_get r _ (o + 1) j (by simp at h ⊢; omega)]
    simp only [List.length_cons] at h ⊢
    rw [Array.getElem?_setIfInBounds]
    by_cases h1 : o + 1 ≤ j ∧ j < o + 1 + r.length
    · rw [if_pos h1, if_pos (by omega)]
      obtain ⟨k, hk⟩ : ∃ k, j - o = k + 1 := ⟨j - o - 1, by omega⟩
      rw [hk, List.getElem?_cons_succ]
      congr 1
      omega
    · rw [if_neg h1]
      by_cases h2 : o = j
      · subst h2
        rw [if_pos rfl, if_pos (by omega), if_pos (by omega)]
        simp
      · rw [if_neg h2, if_neg (by omega)]

theorem heap_setCells_same : ∀ (vs : List Value) (w : World) (g o : Nat) (cur : Array Value) (t : TypeId), w.heap[g]? = some (.cells cur t (0, 0)) →
    (w.setCells g o vs).heap[g]? = some (.cells (lay cur o vs) t (0, 0))
  | [], _, _, _, _, _, h => h
  | v :: r, w, g, o, cur, t, h => by
    rw [World.setCells, lay]
    exact heap_setCells_same r _ g (o + 1) _ t (heap_setCell_same w g o cur t v h)

theorem heap_setCells_other : ∀ (vs : List Value) (w : World) (g o k : Nat), k ≠ g → (w.setCells g o vs).heap[k]? = w.heap[k]?
  | [], _, _, _, _, _ => rfl
  | v :: r, w, g, o, k, h => by
    rw [World.setCells, heap_setCells_other r _ g (o + 1) k h]
    exact Below.heap_setCell w ⟨g, o, none⟩ v k h

theorem setCells_rest : ∀ (vs : List Value) (w : World) (g o : Nat), (w.setCells g o vs).os = w.os ∧ (w.setCells g o vs).tape = w.tape ∧ (w.setCells g o vs).output = w.output ∧ (w.setCells g o vs).heap.size = w.heap.size
  | [], _, _, _ => ⟨rfl, rfl, rfl, rfl⟩
  | v :: r, w, g, o => by
    rw [World.setCells]
    obtain ⟨h1, h2, h3, h4⟩ := setCells_rest r (w.setCell ⟨g, o, none⟩ v) g (o + 1)
    exact ⟨h1, h2, h3, by rw [h4]; simp [World.setCell]⟩

theorem Below.setCells {B : Nat} {a w : World} (h : Below B a w) {g : Nat} (hg : B ≤ g) (o : Nat) (vs : List Value) : Below B a (w.setCells g o vs) := by
  obtain ⟨h1, h2, h3, h4⟩ := setCells_rest vs w g o
  exact ⟨h1.trans h.os, h2.trans h.tape, h3.trans h.output, by rw [h4]; exact h.size, fun k hk => (heap_setCells_other vs w g o k (by omega)).trans (h.block k hk)⟩

theorem Blk.setCells {w : World} {g : Nat} {t : TypeId} {cs : Array Value} (h : Blk w g t cs) (o : Nat) (vs : List Value) : Blk (w.setCells g o vs) g t (lay cs o vs) := heap_setCells_same vs w g o cs t h
theorem Blk.setCells_far {w : World} {g k : Nat} {t : TypeId} {cs : Array Value} (h : Blk w g t cs) (hk : g ≠ k) (o : Nat) (vs : List Value) : Blk (w.setCells k o vs) g t cs := (heap_setCells_other vs w k o g hk).trans h
/-- A whole block written over. -/
theorem lay_whole (c : Array Value) (vs : List Value) (h : c.size = vs.length) : lay c 0 vs = vs.toArray := by
  apply Array.ext_getElem?
  intro j
  rw [lay_get vs c 0 j (by omega)]
  simp only [Nat.zero_le, true_and, Nat.zero_add, Nat.sub_zero, List.getElem?_toArray]
  by_cases hj : j < vs.length
  · rw [if_pos hj]
  · rw [if_neg hj, Array.getElem?_eq_none (by omega), List.getElem?_eq_none (by omega)]

/-! ### Rows of equal parts -/
/-- All parts have k cells. -/
def Parts (k : Nat) (l : List (List Value)) : Prop := ∀ b ∈ l, b.length = k

theorem Parts.len {k : Nat} : ∀ {l : List (List Value)}, Parts k l → l.flatten.length = l.length * k
  | [], _ => by simp
  | b :: l, h => by
    rw [List.flatten_cons, List.length_append, Parts.len (fun c hc => h c (List.mem_cons_of_mem _ hc)), h b List.mem_cons_self, List.length_cons, Nat.succ_mul]
    omega

theorem Parts.get {k : Nat} : ∀ {l : List (List Value)} (_ : Parts k l) (i j : Nat), i < l.length → j < k → l.flatten[i * k + j]? = (l.getD i [])[j]?
  | [], _, i, j, hi, _ => absurd hi (by simp)
  | b :: l, h, 0, j, _, hj => by
    have hb := h b List.mem_cons_self
    rw [List.flatten_cons, List.getElem?_append_left (by omega)]
    simp
  | b :: l, h, i + 1, j, hi, hj => by
    have hb := h b List.mem_cons_self
    rw [List.flatten_cons, List.getElem?_append_right (by rw [Nat.succ_mul]; omega)]
    have e : (i + 1) * k + j - b.length = i * k + j := by rw [Nat.succ_mul]; omega
    rw [e, Parts.get (fun c hc => h c (List.mem_cons_of_mem _ hc)) i j (by simpa using hi) hj]
    simp

theorem Parts.set {k : Nat} {l : List (List Value)} (h : Parts k l) (i : Nat) {b : List Value} (hb : b.length = k) : Parts k (l.set i b) := fun c hc => by
  rcases List.mem_or_eq_of_mem_set hc with hc | rfl
  · exact h c hc
  · exact hb
theorem Parts.getD {k : Nat} {l : List (List Value)} (h : Parts k l) {i : Nat} (hi : i < l.length) : (l.getD i []).length = k := by
  have e : l.getD i [] = l[i] := by simp [List.getD, hi]
  rw [e]
  exact h _ (List.getElem_mem hi)
theorem Parts.snoc {k : Nat} {l : List (List Value)} (h : Parts k l) {b : List Value} (hb : b.length = k) : Parts k (l ++ [b]) := fun c hc => by
  rcases List.mem_append.1 hc with hc | hc
  · exact h c hc
  · rw [List.mem_singleton.1 hc]; exact hb


end Go.Proofs.YtemfnckaehjhcaaDoor.Bk

/-
  Laws on whole arrays in blocks of their own: what is loaded out of them, and stored into them.
-/
namespace Go.Proofs.YtemfnckaehjhcaaDoor.Bk
open Go.RowKit

/-- Nothing but block g has turned. -/
structure Only (g : Nat) (w w' : World) : Prop where
  os : w'.os = w.os
  tape : w'.tape = w.tape
  output : w'.output = w.output
  size : w'.heap.size = w.heap.size
  block : ∀ k, k ≠ g → w'.heap[k]? = w.heap[k]?
theorem Only.below {g base : Nat} {w w' : World} (h : Only g w w') (hb : base ≤ g) : Below base w w' := ⟨h.os, h.tape, h.output, Nat.le_of_eq h.size.symm, fun i hi => h.block i (by omega)⟩
theorem Only.keep {g g' : Nat} {w w' : World} {t : TypeId} {cs : Array Value} (h : Only g w w') (hb : Blk w g' t cs) (hn : g' ≠ g) : Blk w' g' t cs := (h.block g' hn).trans hb

theorem setCells_only (vs : List Value) : ∀ (w : World) (g o : Nat), Only g w (w.setCells g o vs) := by
  induction vs with
  | nil => intro w g o; exact ⟨rfl, rfl, rfl, rfl, fun _ _ => rfl⟩
  | cons v r ih =>
    intro w g o
    rw [World.setCells]
    have h := ih (w.setCell ⟨g, o, none⟩ v) g (o + 1)
    exact ⟨h.os, h.tape, h.output, by rw [h.size]; simp [World.setCell], fun k hk => (h.block k hk).trans (Below.heap_setCell w _ v k hk)⟩

theorem Blk.rng {w : World} {g : Nat} {t : TypeId} {cs : List Value} (h : Blk w g t cs.toArray) : w.rangeAt g 0 cs := fun j v hj => by
  rw [Nat.zero_add, h.cell, List.getElem?_toArray]
  exact hj

/-- A whole array into a block that is known whole. -/
theorem wpList_store_blk {P : Program} {ops : Array Oper} {rest : List Oper} {op : Oper} {a : Act} {Q : Exit → Act → World → Prop} (w : World) (hgd : op.guard = none) (ty : TypeId) (x y : Operand) (ho : op.op = .store ty x y)
    (g : Nat) (c : Array Value) (t : TypeId) (cells : List Value) (hx : a.eval x = .pointer (some ⟨g, 0, none⟩)) (hy : a.eval y = .agg cells.toArray) (hb : Blk w g t c)
    (hc : c.size = cells.length) (hi : (P.info? ty).map (·.size) = some cells.length) (h1 : ∀ v ∈ cells, v.oneCell' = true)
    (h : ∀ w', Blk w' g t cells.toArray → Only g w w' → wpList P ops Q rest (a.put op.dst undef) w') : wpList P ops Q (op :: rest) a w := by
  refine wpList_store_mid hgd ty x y ho g 0 cells.toArray hx hy ?_ (by simpa using hi) (all_oneCell_toArray h1) ?_
  · intro j hj
    simp only [Nat.zero_add]
    have hj' : j < c.size := by simpa [hc] using hj
    refine ⟨?_, hb.frozen j⟩
    rw [hb.cell j]
    simp [hj']
  · rw [List.toList_toArray]
    refine h _ ?_ (setCells_only _ _ _ _)
    unfold Blk
    rw [heap_setCells_same cells w g 0 c t hb, lay_whole c cells hc]

/-- The next operation is a load. -/
theorem at_load {P : Program} {ops : Array Oper} {Q : Exit → Act → World → Prop} {rest : List Oper} {dst : Option Tmp} {t ty : TypeId} {x : Operand} {pos : String} {aft : Array Edge} {g : Option (Nat × Bool)} {a : Act} {w : World}
    (h : wpList P ops Q (⟨dst, .load t x, ty, pos, aft, g⟩ :: rest) a w) : wpList P ops Q (⟨dst, .load t x, ty, pos, aft, g⟩ :: rest) a w := h
/-- The next operation is a store. -/
theorem at_store {P : Program} {ops : Array Oper} {Q : Exit → Act → World → Prop} {rest : List Oper} {dst : Option Tmp} {t ty : TypeId} {x y : Operand} {pos : String} {aft : Array Edge} {g : Option (Nat × Bool)} {a : Act} {w : World}
    (h : wpList P ops Q (⟨dst, .store t x y, ty, pos, aft, g⟩ :: rest) a w) : wpList P ops Q (⟨dst, .store t x y, ty, pos, aft, g⟩ :: rest) a w := h

theorem Blk.new' (w : World) (t : TypeId) (cs : Array Value) {n : Nat} (hn : n = w.heap.size) : Blk (w.alloc (.cells cs t)) n t cs := by subst hn; exact Blk.new w t cs

/-- Numbers of 32 bits as cells. -/
def UL (l : List (BitVec 32)) : List Value := l.map fun x => .int .u32 (tn x : Int)
theorem UL.len (l : List (BitVec 32)) : (UL l).length = l.length := by simp [UL]
theorem UL.one (l : List (BitVec 32)) : ∀ v ∈ UL l, v.oneCell' = true := fun v hv => by
  obtain ⟨x, _, rfl⟩ := List.mem_map.1 hv
  rfl
theorem UL.get (l : List (BitVec 32)) (i : Nat) (hi : i < l.length) : (UL l)[i]? = some (.int .u32 (tn (l.getD i 0) : Int)) := by
  simp [UL, List.getD, hi]
theorem UL.set (l : List (BitVec 32)) (i : Nat) (x : BitVec 32) : (UL l).toArray.setIfInBounds i (.int .u32 (tn x : Int)) = (UL (l.set i x)).toArray := by
  simp [UL, List.map_set]
/-- Bytes as cells. -/
def BL (l : List Int) : List Value := l.map (Value.int .u8)
theorem BL.len (l : List Int) : (BL l).length = l.length := by simp [BL]
theorem BL.one (l : List Int) : ∀ v ∈ BL l, v.oneCell' = true := fun v hv => by
  obtain ⟨x, _, rfl⟩ := List.mem_map.1 hv
  rfl
theorem BL.get (l : List Int) (i : Nat) (hi : i < l.length) : (BL l)[i]? = some (.int .u8 (l.getD i 0)) := by
  simp [BL, List.getD, hi]

end Go.Proofs.YtemfnckaehjhcaaDoor.Bk

/-
  What bytes.Compare answers (out of octet's texts).
-/
namespace Go.Proofs.YtemfnckaehjhcaaDoor.Bk
open Go.RowKit

theorem run_compareSlice (w : World) (g g' n c m d : Nat) (xs ys : List Int) (hx : xs.length = n) (hy : ys.length = m)
    (h : ∀ j, j < n → w.cell? ⟨g, j, none⟩ = some (.int .u8 (xs.getD j 0))) (h' : ∀ j, j < m → w.cell? ⟨g', j, none⟩ = some (.int .u8 (ys.getD j 0))) :
    (Extern.BytealgCompare.compare #[.slice (some ⟨g, 0, none⟩) n c, .slice (some ⟨g', 0, none⟩) m d]).run Tryd.prog w = .ok (.int .i64 (Lib.compareBytes (Lib.bytesOf xs) (Lib.bytesOf ys))) w := by
  have at_ : ∀ (b j : Nat), (⟨b, 0, none⟩ : Addr).add j = ⟨b, j, none⟩ := fun b j => by by_cases h0 : j = 0 <;> simp [Addr.add, h0]
  have l1 := Lib.run_loadBytesX (P := Tryd.prog) w xs ⟨g, 0, none⟩ .empty (fun j x hj => by
    have hjl : j < xs.length := (List.getElem?_eq_some_iff.1 hj).1
    rw [at_, h j (by omega), List.getD_eq_getElem?_getD, hj]
    rfl)
  have l2 := Lib.run_loadBytesX (P := Tryd.prog) w ys ⟨g', 0, none⟩ .empty (fun j x hj => by
    have hjl : j < ys.length := (List.getElem?_eq_some_iff.1 hj).1
    rw [at_, h' j (by omega), List.getD_eq_getElem?_getD, hj]
    rfl)
  have he : ∀ l : List UInt8, (⟨ByteArray.empty.data ++ l.toArray⟩ : ByteArray) = ⟨l.toArray⟩ := fun l => by
    apply ByteArray.ext
    show (#[] : Array UInt8) ++ l.toArray = l.toArray
    simp
  rw [hx, he] at l1
  rw [hy, he] at l2
  change Sem.run Tryd.prog (do pure (goInt (Extern.BytealgCompare.cmp (← Extern.Bytes.bytesOf (.slice (some ⟨g, 0, none⟩) n c)) (← Extern.Bytes.bytesOf (.slice (some ⟨g', 0, none⟩) m d))))) w = _
  simp only [Extern.Bytes.bytesOf, Sem.run_bind, Sem.run_pure, l1, l2, Result.andThen]
  rw [Lib.cmp_eq]
  rfl

end Go.Proofs.YtemfnckaehjhcaaDoor.Bk

/-
  What Put16, Put32 and Put64 answer: the bytes, and behind them those of the number, in memory of their own.
-/
namespace Go.Proofs.YtemfnckaehjhcaaDoor.Bk
open Go.RowKit

/-- The bytes of a number, the highest first. -/
def be (s : Nat) (x : Int) : List Int := (List.range s).map fun i => (x / ((256 ^ (s - 1 - i) : Nat) : Int)) % 256
theorem be_len (s : Nat) (x : Int) : (be s x).length = s := by simp [be]
theorem be_bs (s : Nat) (x : Int) : Bs (be s x) := fun j => by
  unfold be List.getD
  rw [List.getElem?_map]
  cases (List.range s)[j]? with
  | none => simp
  | some i => simp only [Option.map_some, Option.getD_some]; omega
theorem Bs.append {xs ys : List Int} (h : Bs xs) (h' : Bs ys) : Bs (xs ++ ys) := fun j => by
  unfold List.getD
  rw [List.getElem?_append]
  split
  · exact h j
  · exact h' _

/-- The row as the loop has filled it. -/
def rowL (zs : List Int) (x : Int) (s j : Nat) : List Value := (zs ++ (be s x).take j ++ List.replicate (s - j) 0).map (Value.int .u8)
def rowA (zs : List Int) (x : Int) (s j : Nat) : Array Value := (rowL zs x s j).toArray
theorem rowA_full (zs : List Int) (x : Int) (s : Nat) : rowA zs x s s = ((zs ++ be s x).map (Value.int .u8)).toArray := by
  unfold rowA rowL
  rw [List.take_of_length_le (by rw [be_len]; exact Nat.le_refl _)]
  simp
theorem rowA_step (zs : List Int) (x : Int) (s j n : Nat) (hn : zs.length = n) (hj : j < s) (v : Int) (hv : v = (x / ((256 ^ (s - 1 - j) : Nat) : Int)) % 256) :
    (rowA zs x s j).setIfInBounds (n + j) (.int .u8 v) = rowA zs x s (j + 1) := by
  subst hn hv
  unfold rowA rowL
  have e1 : (be s x).take (j + 1) = (be s x).take j ++ [(x / ((256 ^ (s - 1 - j) : Nat) : Int)) % 256] := by
    rw [List.take_succ_eq_append_getElem (by rw [be_len]; exact hj)]
    simp [be]
  have e2 : List.replicate (s - j) (0 : Int) = 0 :: List.replicate (s - (j + 1)) 0 := by
    rw [← List.replicate_succ]; congr 1; omega
  rw [e1, e2]
  have hl : ((be s x).take j).length = j := by rw [List.length_take, be_len]; omega
  generalize (be s x).take j = L at hl
  generalize (x / ((256 ^ (s - 1 - j) : Nat) : Int)) % 256 = u
  subst hl
  simp only [List.setIfInBounds_toArray, List.map_append, List.map_cons, List.append_assoc, List.map_nil]
  congr 1
  rw [List.set_append_right _ _ (by simp), List.set_append_right _ _ (by simp)]
  simp
theorem rowA_at (zs : List Int) (x : Int) (s j n : Nat) (hn : zs.length = n) (hj : j < s) : (rowA zs x s j)[n + j]? = some (.int .u8 0) := by
  subst hn
  have hl : ((be s x).take j).length = j := by rw [List.length_take, be_len]; omega
  unfold rowA rowL
  generalize (be s x).take j = L at hl
  subst hl
  simp only [List.getElem?_toArray, List.getElem?_map, List.append_assoc]
  rw [List.getElem?_append_right (by omega), List.getElem?_append_right (by omega), List.getElem?_replicate, if_pos (by omega)]
  rfl

theorem makeB (n : Nat) (hn : n ≤ 140737488355400) (W : World) : (Instr.makeSlice 29 (.int .i64 (n : Int)) (.int .i64 (n : Int))).run Tryd.prog W = .ok (.slice (some ⟨W.heap.size, 0, none⟩) n n) (W.alloc (.cells (madeCells #[.int .u8 0] n) 5)) := by
  obtain ⟨i0, hi, hz0, hz1, hz2⟩ := info_parts Tryd.info5
  have h := run_make (P := Tryd.prog) W 29 5 i0 (.int .u8 0) Tryd.underlying29 hi hz0 .i64 .i64 n n (by omega) (by omega) (by rw [hz2]; omega) (by omega)
  simp only [Int.toNat_natCast, hz1, Nat.mul_one] at h
  exact h

theorem src_of {w : World} {B : Nat} {A : Option Addr} {n : Nat} {zs : List Int} (h : By w B A n zs) (o : Obj) :
    Hid (0 < (zs.map (Value.int .u8)).length → ∃ ad, A = some ad ∧ ∀ j v, (zs.map (Value.int .u8))[j]? = some v → (w.alloc o).cell? (ad.add j) = some v) := by
  intro hp
  obtain ⟨b, o', rfl, _, hc⟩ := h.2.2 (by rw [List.length_map, h.1] at hp; exact hp)
  refine ⟨_, rfl, fun j v hj => ?_⟩
  have hjn : j < n := by
    have := (List.getElem?_eq_some_iff.1 hj).1
    rw [List.length_map, h.1] at this
    exact this
  refine Lib.cell?_alloc_some _ ?_
  have e : (⟨b, o', none⟩ : Addr).add j = ⟨b, o' + j, none⟩ := by by_cases h0 : j = 0 <;> simp [Addr.add, h0]
  rw [e, hc j hjn, ← hj]
  have := h.1
  simp [List.getD, List.getElem?_eq_getElem (show j < zs.length by omega)]

theorem made_row (w : World) (n : Nat) : Hid ((w.alloc (.cells (madeCells #[.int .u8 0] n) 5)).heap[w.heap.size]? = some (.cells (List.replicate n (.int .u8 0)).toArray 5 (0, 0))) := by
  have e : (madeCells #[Value.int .u8 0] n) = (List.replicate n (.int .u8 0)).toArray := by rw [← toList_madeCells_one]
  rw [e]
  exact heap_alloc_new w _
theorem rowA_zero (zs : List Int) (x : Int) (s n : Nat) (hn : zs.length = n) : rowA zs x s 0 = (splice (List.replicate (n + s) (Value.int .u8 0)) 0 (zs.map (Value.int .u8))).toArray := by
  subst hn
  simp [rowA, rowL, splice]

theorem pow_256 (a : Nat) : (2 : Int) ^ (8 * a) = ((256 ^ a : Nat) : Int) := by
  rw [show (256 : Nat) = 2 ^ 8 from rfl, ← Nat.pow_mul, Int.natCast_pow]
  rfl

/-- What a put leaves. -/
def Putted (w : World) (n s : Nat) (zs : List Int) (x : Int) (e : Ending) (w' : World) : Prop :=
  e = .returned (.slice (some ⟨w.heap.size, 0, none⟩) (n + s) (n + s)) ∧ Blk w' w.heap.size 5 ((zs ++ be s x).map (Value.int .u8)).toArray ∧ Below w.heap.size w w'


set_option maxHeartbeats 400000 in
set_option maxRecDepth 100000 in
theorem put32_any (A : Option Addr) (n c : Nat) (zs : List Int) (x : Int) (w : World) (B : Nat) (h : By w B A n zs) (hn : n ≤ 140737488355328) (_hx : 0 ≤ x ∧ x < 4294967296) :
    Calls Tryd.prog 114 #[.slice A n c, .int .u32 x, .int .i64 4] w (Putted w n 4 zs x) := by
  have hmk := makeB (n + 4) (by omega)
  rw [show (((n + 4 : Nat)) : Int) = (n : Int) + 4 by omega] at hmk
  have hsz : (Tryd.prog.info? 5).map (·.size) = some 1 := by kernel_rfl
  have hl := Lib.hid h.1
  have H := Lib.hid h
  have hld := Lib.hid (show ((zs.map (Value.int .u8))).length = Nat.min n (n + 4) by rw [List.length_map, h.1]; exact (Nat.min_eq_left (by omega)).symm)
  have hsrc := src_of h (.cells (madeCells #[.int .u8 0] (n + 4)) 5)
  have ha1 : Hid ((w.alloc (.cells (madeCells #[.int .u8 0] (n + 4)) 5)).heap[w.heap.size]? = some (.cells (List.replicate (n + 4) (.int .u8 0)).toArray 5 (0, 0))) := made_row w (n + 4)
  have ha4 : Hid (0 + (zs.map (Value.int .u8)).length ≤ (List.replicate (n + 4) (Value.int .u8 0)).length) := show _ ≤ _ by rw [List.length_map, h.1, List.length_replicate]; omega
  have ha6 : Hid (Below w.heap.size w (w.alloc (.cells (madeCells #[.int .u8 0] (n + 4)) 5))) := (Below.refl _ _).alloc (Nat.le_refl _) _
  clear h
  go_enter Tryd.func114, Tryd.ntmps114
  go_wp2_with (with_reducible refine wpList_copy_splice rfl (.tmp 14) (.tmp 15) 29 29 rfl 5 Tryd.underlying29 hsz (some ⟨w.heap.size, 0, none⟩) A (n + 4) (n + 4) n c rfl rfl w.heap.size 0 (List.replicate (n + 4) (.int .u8 0)) 5 ha1.out (zs.map (Value.int .u8)) hld.out (fun hp => ⟨rfl, hsrc.out hp⟩) ha4.out (ints_oneCell _ _) w.heap.size w ha6.out (Nat.le_refl _) ?_; intro w2 HG hB2)
  have G0 : Hid (Blk w2 w.heap.size 5 (rowA zs x 4 0)) := by rw [rowA_zero zs x 4 n hl.out]; exact HG.out
  clear HG ha1 ha4 ha6 hsrc hld hmk
  go_loopw [18] (fun i wr => ∃ j : Nat, j ≤ 4 ∧ i = .int .i64 j ∧ Blk wr w.heap.size 5 (rowA zs x 4 j) ∧ Below w.heap.size w wr) (fun i _ => 4 - (intOf i).toNat)
  case atStart => exact ⟨0, Nat.zero_le _, rfl, G0.out, hB2⟩
  case round =>
    obtain ⟨j, hj, rfl, hblk, hbel⟩ := hrel
    by_cases hlt : j < 4
    · have hcell : wr.cell? ⟨w.heap.size, n + j, none⟩ = some (.int .u8 0) := (hblk.cell _).trans (rowA_at zs x 4 j n hl.out hlt)
      have hfr := hblk.frozen (n + j)
      have HB := Lib.hid hblk
      clear hblk G0 hB2
      go_wp2
      go_roundw
      case rel =>
        refine ⟨j + 1, by omega, by go_num, ?_, hbel.setCell (Nat.le_refl _) _⟩
        have := HB.out.set_ (n + j) (.int .u8 (x / 2 ^ (8 * (3 - j)) % 256))
        rwa [rowA_step zs x 4 j n hl.out hlt _ (by rw [pow_256])] at this
      case measure => simp [intOf]; omega
    · have hj2 : j = 4 := by omega
      subst hj2
      have HB := Lib.hid hblk
      clear hblk G0 hB2
      go_wp2
      go_ret
      exact ⟨rfl, by have := HB.out; rwa [rowA_full] at this, hbel⟩


theorem Put32_any (A : Option Addr) (n c : Nat) (zs : List Int) (x : Int) (w : World) (B : Nat) (h : By w B A n zs) (hn : n ≤ 140737488355328) (hx : 0 ≤ x ∧ x < 4294967296) :
    Calls Tryd.prog 97 #[.slice A n c, .int .u32 x] w (Putted w n 4 zs x) := by
  go_enter Tryd.func97, Tryd.ntmps97
  go_wp2_with (go_at_call 114; refine (put32_any A n c zs x w B h hn hx).mono ?_; rintro e w' ⟨rfl, hb, hbel⟩)
  go_ret
  exact ⟨rfl, hb, hbel⟩

end Go.Proofs.YtemfnckaehjhcaaDoor.Bk

/-
  The bytes of a number turned round.
-/
namespace Go.Proofs.YtemfnckaehjhcaaDoor.Bk
open Go.RowKit

/-- The bytes turned round. -/
def rev1 (x : BitVec 32) : BitVec 32 := (x >>> 8 &&& 16711935#32) ||| ((x &&& 16711935#32) <<< 8)
def rev (x : BitVec 32) : BitVec 32 := rev1 x >>> 16 ||| rev1 x <<< 16

theorem shr8 (x : BitVec 32) : (tn x : Int) / (256 : Int) = (tn (x >>> 8) : Int) := tn_shr x 8
theorem shl8 (x : BitVec 32) : ((tn x : Int) * (256 : Int)) % (4294967296 : Int) = (tn (x <<< 8) : Int) := tn_shl x 8
theorem shr16 (x : BitVec 32) : (tn x : Int) / (65536 : Int) = (tn (x >>> 16) : Int) := tn_shr x 16
theorem shl16 (x : BitVec 32) : ((tn x : Int) * (65536 : Int)) % (4294967296 : Int) = (tn (x <<< 16) : Int) := tn_shl x 16
theorem bv_mask : bv 16711935 = 16711935#32 := by decide

theorem rev_any (x : BitVec 32) (w : World) : Calls Tryd.prog 98 #[.int .u32 (tn x : Int)] w fun e w' => e = .returned (.int .u32 (tn (rev x) : Int)) ∧ w = w' := by
  have hx := tn_lt x
  go_enter Tryd.func98, Tryd.ntmps98
  go_wp2
  go_ret
  refine ⟨ret_int ?_, rfl⟩
  simp only [shr8, and_bv, bv_tn, bv_mask, shl8, or_bv, shr16, shl16]
  rfl

theorem rev_parts (x : BitVec 32) : rev x = ((x >>> 0 &&& 255#32) <<< 24 ||| ((x >>> 8 &&& 255#32) <<< 16 ||| ((x >>> 16 &&& 255#32) <<< 8 ||| (x >>> 24 &&& 255#32)))) := by
  apply BitVec.eq_of_getLsbD_eq
  intro i hi
  unfold rev rev1
  have h : i = 0 ∨ i = 1 ∨ i = 2 ∨ i = 3 ∨ i = 4 ∨ i = 5 ∨ i = 6 ∨ i = 7 ∨ i = 8 ∨ i = 9 ∨ i = 10 ∨ i = 11 ∨ i = 12 ∨ i = 13 ∨ i = 14 ∨ i = 15 ∨ i = 16 ∨ i = 17 ∨ i = 18 ∨ i = 19 ∨ i = 20 ∨ i = 21 ∨ i = 22 ∨ i = 23 ∨ i = 24 ∨ i = 25 ∨ i = 26 ∨ i = 27 ∨ i = 28 ∨ i = 29 ∨ i = 30 ∨ i = 31 := by omega
  rcases h with rfl | rfl | rfl | rfl | rfl | rfl | rfl | rfl | rfl | rfl | rfl | rfl | rfl | rfl | rfl | rfl | rfl | rfl | rfl | rfl | rfl | rfl | rfl | rfl | rfl | rfl | rfl | rfl | rfl | rfl | rfl | rfl <;> simp

/-- Byte i of a number, the lowest first. -/
def byt (x : BitVec 32) (i : Nat) : Nat := tn x / 256 ^ i % 256
theorem byt_lt (x : BitVec 32) (i : Nat) : byt x i < 256 := Nat.mod_lt _ (by omega)
theorem byt_sum (x : BitVec 32) : tn x = byt x 0 + 256 * byt x 1 + 65536 * byt x 2 + 16777216 * byt x 3 := by
  have := tn_lt x
  simp only [byt, show (256 : Nat) ^ 0 = 1 from rfl, show (256 : Nat) ^ 1 = 256 from rfl, show (256 : Nat) ^ 2 = 65536 from rfl, show (256 : Nat) ^ 3 = 16777216 from rfl]
  omega
theorem ext_byt (x : BitVec 32) (i : Nat) : (x >>> (8 * i) &&& 255#32).toNat = byt x i := by
  rw [BitVec.toNat_and, BitVec.toNat_ushiftRight, Nat.shiftRight_eq_div_pow, Nat.pow_mul, show (255#32).toNat = 2 ^ 8 - 1 from rfl, Nat.and_two_pow_sub_one_eq_mod]
  rfl
theorem shl_byt (x : BitVec 32) (i k : Nat) (hk : k ≤ 24) : ((x >>> (8 * i) &&& 255#32) <<< k).toNat = byt x i <<< k := by
  rw [BitVec.toNat_shiftLeft, ext_byt]
  have h0 := byt_lt x i
  have h1 : 2 ^ k ≤ 2 ^ 24 := Nat.pow_le_pow_right (by omega) hk
  have h2 : byt x i * 2 ^ k ≤ 255 * 2 ^ 24 := Nat.mul_le_mul (by omega) h1
  rw [Nat.shiftLeft_eq]
  omega
theorem or_add (a b n : Nat) (h : b < 2 ^ n) : a <<< n ||| b = a * 2 ^ n + b := by
  rw [← Nat.shiftLeft_add_eq_or_of_lt h, Nat.shiftLeft_eq]
theorem tn_rev (x : BitVec 32) : tn (rev x) = 16777216 * byt x 0 + 65536 * byt x 1 + 256 * byt x 2 + byt x 3 := by
  have h0 := byt_lt x 0
  have h1 := byt_lt x 1
  have h2 := byt_lt x 2
  have h3 := byt_lt x 3
  have e0 := shl_byt x 0 24 (by omega)
  have e1 := shl_byt x 1 16 (by omega)
  have e2 := shl_byt x 2 8 (by omega)
  have e3 := ext_byt x 3
  unfold tn
  rw [rev_parts, BitVec.toNat_or, BitVec.toNat_or, BitVec.toNat_or, e0, e1, e2, e3]
  rw [or_add _ (byt x 3) 8 (by omega), or_add (byt x 1) _ 16 (by omega), or_add (byt x 0) _ 24 (by omega)]
  omega
theorem tn_rev_div (x : BitVec 32) (i : Nat) (hi : i < 4) : tn (rev x) / 256 ^ (3 - i) % 256 = byt x i := by
  have h0 := byt_lt x 0
  have h1 := byt_lt x 1
  have h2 := byt_lt x 2
  have h3 := byt_lt x 3
  rw [tn_rev]
  have h : i = 0 ∨ i = 1 ∨ i = 2 ∨ i = 3 := by omega
  rcases h with rfl | rfl | rfl | rfl
  · show _ / 16777216 % 256 = _; omega
  · show _ / 65536 % 256 = _; omega
  · show _ / 256 % 256 = _; omega
  · show _ / 1 % 256 = _; omega
/-- The bytes of a number, the lowest first. -/
def le4 (x : BitVec 32) : List Int := [(byt x 0 : Int), (byt x 1 : Int), (byt x 2 : Int), (byt x 3 : Int)]
theorem be_rev (x : BitVec 32) : be 4 (tn (rev x) : Int) = le4 x := by
  have e (i : Nat) (hi : i < 4) : ((tn (rev x) : Int) / ((256 ^ (3 - i) : Nat) : Int)) % 256 = (byt x i : Int) := by
    rw [← tn_rev_div x i hi]
    simp
  have h : be 4 (tn (rev x) : Int) = [((tn (rev x) : Int) / ((256 ^ (3 - 0) : Nat) : Int)) % 256, ((tn (rev x) : Int) / ((256 ^ (3 - 1) : Nat) : Int)) % 256, ((tn (rev x) : Int) / ((256 ^ (3 - 2) : Nat) : Int)) % 256, ((tn (rev x) : Int) / ((256 ^ (3 - 3) : Nat) : Int)) % 256] := rfl
  rw [h, e 0 (by omega), e 1 (by omega), e 2 (by omega), e 3 (by omega)]
  rfl

end Go.Proofs.YtemfnckaehjhcaaDoor.Bk

/-
  The tables; Start, Orders, Less.
-/
namespace Go.Proofs.YtemfnckaehjhcaaDoor.Bk
open Go.RowKit

def startL : List (BitVec 32) := [1779033703#32, 3144134277#32, 1013904242#32, 2773480762#32, 1359893119#32, 2600822924#32, 528734635#32, 1541459225#32]
def ordersL : List (List Nat) := [[0, 1, 2, 3, 4, 5, 6, 7, 8, 9, 10, 11, 12, 13, 14, 15], [14, 10, 4, 8, 9, 15, 13, 6, 1, 12, 0, 2, 11, 7, 5, 3], [11, 8, 12, 0, 5, 2, 15, 13, 10, 14, 3, 6, 7, 1, 9, 4], [7, 9, 3, 1, 13, 12, 11, 14, 2, 6, 5, 10, 4, 0, 15, 8], [9, 0, 5, 7, 2, 4, 10, 15, 14, 1, 11, 12, 6, 8, 3, 13], [2, 12, 6, 10, 0, 11, 8, 3, 4, 13, 7, 5, 15, 14, 1, 9], [12, 5, 1, 15, 14, 13, 4, 10, 0, 7, 6, 3, 9, 2, 8, 11], [13, 11, 7, 14, 12, 1, 3, 9, 5, 0, 15, 4, 8, 6, 2, 10], [6, 15, 14, 9, 11, 3, 0, 8, 12, 2, 13, 7, 1, 4, 10, 5], [10, 2, 8, 4, 7, 6, 1, 5, 15, 11, 9, 14, 3, 12, 13, 0]]
def foursL : List (List Nat) := [[0, 4, 8, 12], [1, 5, 9, 13], [2, 6, 10, 14], [3, 7, 11, 15], [0, 5, 10, 15], [1, 6, 11, 12], [2, 7, 8, 13], [3, 4, 9, 14]]
/-- Places as cells. -/
def IL (l : List Nat) : List Value := l.map fun (n : Nat) => Value.int .i64 (n : Int)
theorem IL.len (l : List Nat) : (IL l).length = l.length := by simp [IL]
theorem IL.one (l : List Nat) : ∀ v ∈ IL l, v.oneCell' = true := fun v hv => by
  obtain ⟨x, _, rfl⟩ := List.mem_map.1 hv
  rfl
theorem IL.get (l : List Nat) (i : Nat) (hi : i < l.length) : (IL l)[i]? = some (.int .i64 (l.getD i 0 : Int)) := by
  simp [IL, List.getD, hi]

/-- What the tables hold. -/
structure Gl (w : World) : Prop where
  s : w.rangeAt 0 0 (UL startL)
  o : w.rangeAt 1 0 (IL ordersL.flatten)
  f : w.rangeAt 2 0 (IL foursL.flatten)
  lt : 3 ≤ w.heap.size
theorem Gl.below {w w' : World} (h : Gl w) {B : Nat} (hb : Below B w w') (h3 : 3 ≤ B) : Gl w' :=
  ⟨fun j v hj => (hb.cell (p := ⟨0, 0 + j, none⟩) (by show 0 < B; omega)).trans (h.s j v hj), fun j v hj => (hb.cell (p := ⟨1, 0 + j, none⟩) (by show 1 < B; omega)).trans (h.o j v hj),
   fun j v hj => (hb.cell (p := ⟨2, 0 + j, none⟩) (by show 2 < B; omega)).trans (h.f j v hj), Nat.le_trans h.lt (by
     rcases Nat.lt_or_ge w'.heap.size w.heap.size with h' | h'
     · exact absurd hb.size (by omega)
     · exact h')⟩
theorem Gl.low {w w' : World} (h : Gl w) (hb : Below w.heap.size w w') : Gl w' := h.below hb h.lt

/-- Noughts. -/
def ZU (n : Nat) : List Value := List.replicate n (.int .u32 0)
def ZB (n : Nat) : List Value := List.replicate n (.int .u8 0)
def ZI (n : Nat) : List Value := List.replicate n (.int .i64 0)
theorem Tryd.z42 : ∀ w, (zeroValue 107).run Tryd.prog w = .ok (.agg (ZU 8).toArray) w := (zero_of_info (n := 8) (by kernel_rfl)).1
theorem Tryd.z70 : ∀ w, (zeroValue 125).run Tryd.prog w = .ok (.agg (ZU 16).toArray) w := (zero_of_info (n := 16) (by kernel_rfl)).1
theorem Tryd.z27 : ∀ w, (zeroValue 80).run Tryd.prog w = .ok (.agg (ZB 32).toArray) w := (zero_of_info (n := 32) (by kernel_rfl)).1
theorem Tryd.z45 : ∀ w, (zeroValue 108).run Tryd.prog w = .ok (.agg (ZB 64).toArray) w := (zero_of_info (n := 64) (by kernel_rfl)).1
theorem Tryd.z37 : ∀ w, (zeroValue 129).run Tryd.prog w = .ok (.agg (ZI 16).toArray) w := (zero_of_info (n := 16) (by kernel_rfl)).1
theorem Tryd.z38 : ∀ w, (zeroValue 130).run Tryd.prog w = .ok (.agg (ZI 160).toArray) w := (zero_of_info (n := 160) (by kernel_rfl)).1
theorem Tryd.i42 : (Tryd.prog.info? 107).map (·.size) = some 8 := by kernel_rfl
theorem Tryd.i70 : (Tryd.prog.info? 125).map (·.size) = some 16 := by kernel_rfl
theorem Tryd.i27 : (Tryd.prog.info? 80).map (·.size) = some 32 := by kernel_rfl
theorem Tryd.i45 : (Tryd.prog.info? 108).map (·.size) = some 64 := by kernel_rfl
theorem Tryd.i37 : (Tryd.prog.info? 129).map (·.size) = some 16 := by kernel_rfl
theorem Tryd.i38 : (Tryd.prog.info? 130).map (·.size) = some 160 := by kernel_rfl

attribute [local go_sem ↓] Tryd.z42 Tryd.z70 Tryd.z27 Tryd.z45 Tryd.z37 Tryd.z38

end Go.Proofs.YtemfnckaehjhcaaDoor.Bk

/-
  Less, and what a digit counts.
-/
namespace Go.Proofs.YtemfnckaehjhcaaDoor.Bk
open Go.RowKit
attribute [local go_sem ↓] Tryd.z42 Tryd.z70 Tryd.z27 Tryd.z45 Tryd.z37 Tryd.z38

theorem quiet_l {P : Program} {f : FuncId} {args : Array Value} {w : World} {n : Nat} {v : Value}
    (h : Calls P f args (w.drewN n) fun e w' => e = .returned v ∧ w.drewN n = w') : Calls P f args (w.drewN n) fun e w'' => e = .returned v ∧ ∃ m, w'' = w.drewN m :=
  h.mono fun _ _ hh => ⟨hh.1, n, hh.2.symm⟩

/-- How two digests stand. -/
def cmpL (a b : List Int) : Int := Lib.compareBytes (Lib.bytesOf a) (Lib.bytesOf b)

/-- What a digit counts; -1: it is none. -/
def dig (c : Int) : Int := if 48 ≤ c ∧ c ≤ 57 then c - 48 else if 97 ≤ c ∧ c ≤ 102 then c - 87 else -1
theorem dig_range (c : Int) : -1 ≤ dig c ∧ dig c ≤ 15 := by
  unfold dig
  repeat' split
  all_goals omega
theorem dig_idx (c : Int) (h0 : 0 ≤ c) (h1 : c ≤ 255) : Lib.indexByte [48, 49, 50, 51, 52, 53, 54, 55, 56, 57, 97, 98, 99, 100, 101, 102] c.toNat.toUInt8 = dig c := by
  have all : ∀ n : Fin 256, Lib.indexByte [48, 49, 50, 51, 52, 53, 54, 55, 56, 57, 97, 98, 99, 100, 101, 102] n.val.toUInt8 = dig (n.val : Int) := by decide +kernel
  obtain ⟨n, rfl⟩ := Int.eq_ofNat_of_zero_le h0
  exact all ⟨n, by omega⟩

/-- Bytes are numbers from 0 to 255. -/
theorem u8_range (s : ByteArray) (k : Nat) (h : k < s.size) : 0 ≤ ((s[k]).toNat : Int) ∧ ((s[k]).toNat : Int) ≤ 255 := by have := (s[k]).toNat_lt; omega

/-- What stands at a place of a text, as a digit. -/
def dg (s : ByteArray) (k : Nat) : Int := dig ((s.data.toList.getD k 0).toNat : Int)
theorem dg_at (s : ByteArray) (k : Nat) (h : k < s.size) : dg s k = dig ((s[k]).toNat : Int) := by
  unfold dg
  have h' : k < s.data.toList.length := by simpa using h
  have e : s.data.toList.getD k 0 = s[k] := by
    simp [List.getD, List.getElem?_eq_getElem h']
    rfl
  rw [e]
theorem dg_range (s : ByteArray) (k : Nat) : -1 ≤ dg s k ∧ dg s k ≤ 15 := dig_range _
/-- Are the first k bytes in digits? -/
def okd (s : ByteArray) (k : Nat) : Prop := ∀ i, i < k → 0 ≤ dg s (2 * i) ∧ 0 ≤ dg s (2 * i + 1)
instance (s : ByteArray) (k : Nat) : Decidable (okd s k) := inferInstanceAs (Decidable (∀ i, i < k → _))
/-- The bytes of a text. -/
def ofd (s : ByteArray) (k : Nat) : List Int := (List.range k).map fun i => 16 * dg s (2 * i) + dg s (2 * i + 1)
theorem ofd_succ (s : ByteArray) (k : Nat) : ofd s (k + 1) = ofd s k ++ [16 * dg s (2 * k) + dg s (2 * k + 1)] := by simp [ofd, List.range_succ]
theorem ofd_len (s : ByteArray) (k : Nat) : (ofd s k).length = k := by simp [ofd]

/-- An answer of Parse. -/
def Parsed (w : World) (id : List Int) (er : Int) (e : Ending) (w' : World) : Prop := e = .returned (.tuple #[.agg (BL id).toArray, .int .i64 er]) ∧ Below w.heap.size w w'
def Z32 : List Int := List.replicate 32 0

theorem ZB.len (n : Nat) : (ZB n).length = n := by simp [ZB]
theorem ZB.one (n : Nat) : ∀ v ∈ ZB n, v.oneCell' = true := fun v hv => by rw [(List.mem_replicate.1 hv).2]; rfl
theorem ZB.bl (n : Nat) : ZB n = BL (List.replicate n 0) := by simp [ZB, BL]
theorem BL.set (l : List Int) (i : Nat) (x : Int) : (BL l).toArray.setIfInBounds i (.int .u8 x) = (BL (l.set i x)).toArray := by
  simp [BL, List.map_set]
theorem ret_cell_tmp {P : Program} {fn : Func} {p u : Tmp} {ty : TypeId} (h : fn.results = #[.cell p ty, .tmp u]) (tmps : Array Value) (w : World) (g : Nat) (t : TypeId) (cs : Array Value) (d : TypeDesc)
    (hp : tmps.getD p undef = .pointer (some ⟨g, 0, none⟩)) (hg : Blk w g t cs) (hu : P.underlying ty = some d) (hd : (match d with | .struct _ | .array _ _ => true | _ => false) = true) (hi : (P.info? ty).map (·.size) = some cs.size) :
    (results fn tmps).run P w = .ok (.tuple #[.agg cs, tmps.getD u undef]) w := by
  rw [results_cell_tmp h, hp]
  simp only [asAddr, Sem.run_pure, Result.andThen_ok, run_loadVar_row w g t ty cs (0, 0) d hg hu hd hi]

end Go.Proofs.YtemfnckaehjhcaaDoor.Bk

/-
  Parse.
-/
namespace Go.Proofs.YtemfnckaehjhcaaDoor.Bk
open Go.RowKit
attribute [local go_sem ↓] Tryd.z42 Tryd.z70 Tryd.z27 Tryd.z45 Tryd.z37 Tryd.z38

theorem u8_le (x : UInt8) : (x.toNat : Int) ≤ 255 := by have := x.toNat_lt; omega
/-- What Parse answers to a text of 64 bytes. -/
def pId (s : ByteArray) : List Int := if okd s 32 then ofd s 32 else Z32
def pEr (s : ByteArray) : Int := if okd s 32 then 0 else 130

theorem okd_succ {s : ByteArray} {k : Nat} (h : okd s k) : okd s (k + 1) ↔ 0 ≤ dg s (2 * k) ∧ 0 ≤ dg s (2 * k + 1) :=
  ⟨fun h' => h' k (by omega), fun h' i hi => by
    by_cases e : i = k
    · subst e; exact h'
    · exact h i (by omega)⟩
theorem okd_less {s : ByteArray} {k : Nat} (h : okd s 32) (hk : k ≤ 32) : okd s k := fun i hi => h i (by omega)

/-- Where one stands. -/
structure PW (w0 : World) (s : ByteArray) (k : Nat) (w : World) : Prop where
  below : Below w0.heap.size w0 w
  res : Blk w w0.heap.size 80 (ZB 32).toArray
  id : Blk w (w0.heap.size + 1) 80 (BL (ofd s k ++ List.replicate (32 - k) 0)).toArray

theorem or_dig (h l : Int) (h0 : 0 ≤ h) (h1 : h ≤ 15) (l0 : 0 ≤ l) (l1 : l ≤ 15) : bits .or .i64 (h * 16) l % 256 = 16 * h + l := by
  have all : ∀ a b : Fin 16, bits .or .i64 ((a.val : Int) * 16) (b.val : Int) % 256 = 16 * (a.val : Int) + (b.val : Int) := by decide +kernel
  obtain ⟨a, rfl⟩ := Int.eq_ofNat_of_zero_le h0
  obtain ⟨b, rfl⟩ := Int.eq_ofNat_of_zero_le l0
  exact all ⟨a, by omega⟩ ⟨b, by omega⟩
theorem PW.step {w0 w : World} {s : ByteArray} {k : Nat} (h : PW w0 s k w) (hk : k < 32) (v : Int) (hv : ofd s (k + 1) = ofd s k ++ [v]) (n : Nat) : PW w0 s (k + 1) ((w.drewN n).setCell ⟨w0.heap.size + 1, k, none⟩ (.int .u8 v)) := by
  have hb := h.res.drewN n
  have hi := h.id.drewN n
  refine ⟨(below_drewN h.below n).setCell (by show _ ≤ w0.heap.size + 1; omega) _, hb.far (by show w0.heap.size ≠ w0.heap.size + 1; omega) _, ?_⟩
  have := hi.set_ k (.int .u8 v)
  rw [BL.set] at this
  have e : (ofd s k ++ List.replicate (32 - k) (0 : Int)).set k v = ofd s (k + 1) ++ List.replicate (32 - (k + 1)) 0 := by
    rw [List.set_append_right _ _ (by rw [ofd_len]; exact Nat.le_refl _), ofd_len, Nat.sub_self, hv, List.append_assoc]
    congr 1
    rw [show 32 - k = (32 - (k + 1)) + 1 by omega, List.replicate_succ]
    rfl
  rw [e] at this
  exact this

end Go.Proofs.YtemfnckaehjhcaaDoor.Bk

/-
  spread.
-/
namespace Go.Proofs.YtemfnckaehjhcaaDoor.Bk
open Go.RowKit
attribute [local go_sem ↓] Tryd.z42 Tryd.z70 Tryd.z27 Tryd.z45 Tryd.z37 Tryd.z38

theorem max_if (d : Decidable (IntKind.u32.signed = true)) : @ite Int (IntKind.u32.signed = true) d (-1) IntKind.u32.max = 4294967295 := by
  have h : ¬ IntKind.u32.signed = true := fun h => absurd (show false = true from h) (by simp)
  rw [if_neg h]
  decide

def gt (l : List (BitVec 32)) (i : Nat) : BitVec 32 := l.getD i 0
theorem UL.gt {l : List (BitVec 32)} {i : Nat} (hi : i < l.length) : (UL l).toArray[i]? = some (.int .u32 (tn (gt l i) : Int)) := by
  rw [List.getElem?_toArray]; exact UL.get l i hi

/-- The sixteen numbers, as far as they are laid. -/
def lay16 (h : List (BitVec 32)) : Nat → List (BitVec 32)
  | 0 => List.replicate 16 0
  | k + 1 => ((lay16 h k).set k (gt h k)).set (k + 8) (gt startL k)
theorem lay16_len (h : List (BitVec 32)) : ∀ k, (lay16 h k).length = 16
  | 0 => rfl
  | k + 1 => by rw [lay16, List.length_set, List.length_set, lay16_len h k]
def v12 (h : List (BitVec 32)) (t : Int) : BitVec 32 := gt (lay16 h 8) 12 ^^^ bv t
def v13 (h : List (BitVec 32)) (t : Int) : BitVec 32 := gt (lay16 h 8) 13 ^^^ bv (t / 4294967296)
def v14 (h : List (BitVec 32)) : BitVec 32 := bv 4294967295 ^^^ gt (lay16 h 8) 14
def spreadF (h : List (BitVec 32)) (t : Int) (last : Bool) : List (BitVec 32) :=
  if last then (((lay16 h 8).set 12 (v12 h t)).set 13 (v13 h t)).set 14 (v14 h) else ((lay16 h 8).set 12 (v12 h t)).set 13 (v13 h t)
theorem spreadF_len (h : List (BitVec 32)) (t : Int) (last : Bool) : (spreadF h t last).length = 16 := by
  unfold spreadF
  split <;> simp only [List.length_set, lay16_len]

/-- Where one stands. -/
structure SW (w0 : World) (h v : List (BitVec 32)) (w : World) : Prop where
  below : Below w0.heap.size w0 w
  gl : Gl w
  g2 : 3 ≤ w0.heap.size
  hb : Blk w w0.heap.size 107 (UL h).toArray
  res : Blk w (w0.heap.size + 1) 125 (ZU 16).toArray
  vb : Blk w (w0.heap.size + 1 + 1) 125 (UL v).toArray
theorem SW.setI {w0 w : World} {h v : List (BitVec 32)} (s : SW w0 h v w) (i : Nat) (x : BitVec 32) (z : Int) (hz : z = tn x) : SW w0 h (v.set i x) (w.setCell ⟨w0.heap.size + 1 + 1, i, none⟩ (.int .u32 z)) := by
  subst hz
  have b := s.below.setCell (p := ⟨w0.heap.size + 1 + 1, i, none⟩) (by show _ ≤ w0.heap.size + 1 + 1; omega) (.int .u32 (tn x : Int))
  refine ⟨b, s.gl.below ((Below.refl _ w).setCell (B := w0.heap.size) (p := ⟨w0.heap.size + 1 + 1, i, none⟩) (by show _ ≤ w0.heap.size + 1 + 1; omega) _) s.g2, s.g2, s.hb.far (by show w0.heap.size ≠ w0.heap.size + 1 + 1; omega) _, s.res.far (by show w0.heap.size + 1 ≠ w0.heap.size + 1 + 1; omega) _, ?_⟩
  have := s.vb.set_ i (.int .u32 (tn x : Int))
  rwa [UL.set] at this
theorem SW.drew {w0 w : World} {h v : List (BitVec 32)} (s : SW w0 h v w) : SW w0 h v w.drew := ⟨s.below.drew, ⟨s.gl.s, s.gl.o, s.gl.f, s.gl.lt⟩, s.g2, s.hb, s.res, s.vb⟩

/-- The end. -/
structure SV (w0 : World) (V : List Value) (w : World) : Prop where
  below : Below w0.heap.size w0 w
  res : Blk w (w0.heap.size + 1) 125 (ZU 16).toArray
  vb' : Blk w (w0.heap.size + 1 + 1) 125 V.toArray

set_option maxRecDepth 100000 in
set_option maxHeartbeats 1000000 in
theorem spread_any (h : List (BitVec 32)) (hh : h.length = 8) (t : Int) (t0 : 0 ≤ t) (t1 : t < 18446744073709551616) (last : Bool) (w : World) (hG : Gl w) :
    Calls Tryd.prog 94 #[.agg (UL h).toArray, .int .u64 t, .bool last] w fun e w' => e = .returned (.agg (UL (spreadF h t last)).toArray) ∧ Below w.heap.size w w' := by
  have s0 : Hid (SW w h (lay16 h 0) (((w.alloc (.cells (UL h).toArray 107)).alloc (.cells (ZU 16).toArray 125)).alloc (.cells (ZU 16).toArray 125))) :=
    have b := (((Below.refl _ w).alloc (Nat.le_refl _) (.cells (UL h).toArray 107)).alloc (by simp) (.cells (ZU 16).toArray 125)).alloc (by simp; omega) (.cells (ZU 16).toArray 125)
    ⟨b, hG.low b, hG.lt, ((Blk.new w 107 _).alloc _).alloc _, (Blk.new' _ 125 _ (by simp)).alloc _, Blk.new' _ 125 _ (by simp)⟩
  clear hG
  generalize hX : UL h = X at *
  have HX := Lib.hid hX
  have HH := Lib.hid hh
  clear hX hh
  go_enter Tryd.func94, Tryd.ntmps94
  go_wp2_with fail
  generalize ((w.alloc (.cells X.toArray 107)).alloc (.cells (ZU 16).toArray 125)).alloc (.cells (ZU 16).toArray 125) = W at *
  go_loopw [9] (fun i wr => ∃ k : Nat, k ≤ 8 ∧ i = .int .i64 k ∧ SW w h (lay16 h k) wr) (fun i _ => 8 - (intOf i).toNat)
  case atStart => exact ⟨0, Nat.zero_le _, rfl, s0.out⟩
  case round =>
    obtain ⟨k, hk, rfl, hsw⟩ := hrel
    have S := Lib.hid hsw
    clear s0 hsw
    by_cases hlt : k < 8
    · have c1 : wr.cell? ⟨w.heap.size, k, none⟩ = some (.int .u32 (tn (gt h k) : Int)) := (S.out.hb.cell k).trans (UL.gt (by rw [HH.out]; exact hlt))
      have c2 : wr.cell? ⟨0, k, none⟩ = some (.int .u32 (tn (gt startL k) : Int)) := by
        have := S.out.gl.s k _ (UL.get startL k hlt)
        rwa [Nat.zero_add] at this
      have c3 := (S.out.vb.cell k).trans (UL.gt (by rw [lay16_len]; omega))
      have c4 := (S.out.vb.cell (k + 8)).trans (UL.gt (by rw [lay16_len]; omega))
      have f3 := S.out.vb.frozen k
      have f4 := S.out.vb.frozen (k + 8)
      go_wp2_with fail
      have e1 : IntKind.i64.wrap ((k : Int) + 8) = (k : Int) + 8 := IntWalk.i64_in _ (by omega)
      have e2 : 0 ≤ (k : Int) + 8 := by omega
      have e3 : (k : Int) + 8 < 16 := by omega
      have e4 : ((k : Int) + 8).toNat = k + 8 := by omega
      go_region
      clear e1 e2 e3 e4
      go_wp2_with fail
      exact ⟨⟨k + 1, by omega, by go_num, ((S.out.setI k _ _ rfl).setI (k + 8) _ _ rfl).drew⟩, by simp [intOf]; omega⟩
    · obtain rfl : k = 8 := by omega
      have c12 := (S.out.vb.cell 12).trans (UL.gt (by rw [lay16_len]; omega))
      have c13 := (S.out.vb.cell 13).trans (UL.gt (by rw [lay16_len]; omega))
      have c14 := (S.out.vb.cell 14).trans (UL.gt (by rw [lay16_len]; omega))
      have f12 := S.out.vb.frozen 12
      have f13 := S.out.vb.frozen 13
      have f14 := S.out.vb.frozen 14
      cases last with
      | false =>
        have hR : Hid (∀ a b : Int, a = bits .xor .u32 (tn (gt (lay16 h 8) 12) : Int) (t % 4294967296) → b = bits .xor .u32 (tn (gt (lay16 h 8) 13) : Int) (t / 4294967296) →
            SV w (UL (spreadF h t false)) ((wr.setCell ⟨w.heap.size + 1 + 1, 12, none⟩ (.int .u32 a)).setCell ⟨w.heap.size + 1 + 1, 13, none⟩ (.int .u32 b))) := fun a b ha hb => by
          have q := (S.out.setI 12 (v12 h t) a (by rw [ha, xor_bv, bv_tn, bv_mod]; rfl)).setI 13 (v13 h t) b (by rw [hb, xor_bv, bv_tn]; rfl)
          exact ⟨q.below, q.res, q.vb⟩
        have HL : Hid ((Tryd.prog.info? 125).map (·.size) = some (UL (spreadF h t false)).length) := show _ = _ by rw [UL.len, spreadF_len]; exact Tryd.i70
        have HZ : Hid ((ZU 16).toArray.size = (UL (spreadF h t false)).length) := show _ = _ by rw [UL.len, spreadF_len]; rfl
        have HLA : Hid ((Tryd.prog.info? 125).map (·.size) = some (UL (spreadF h t false)).toArray.size) := show _ = _ by rw [List.size_toArray, UL.len, spreadF_len]; exact Tryd.i70
        have H1 := Lib.hid (UL.one (spreadF h t false))
        have Q := Lib.hid (hR.out _ _ rfl rfl)
        clear S hR
        generalize hV : UL (spreadF h t false) = V at *
        have HV := Lib.hid hV
        clear hV
        go_wp2_with (first
          | ((with_reducible refine at_load (t := 125) ?_); refine wpList_load_mid rfl 125 _ rfl (w.heap.size + 1 + 1) 0 rfl V _ Q.out.vb'.rng Tryd.underlying125 rfl HL.out ?_)
          | ((with_reducible refine at_store (t := 125) ?_); refine wpList_store_blk _ rfl 125 _ _ rfl (w.heap.size + 1) (ZU 16).toArray 125 V rfl rfl Q.out.res HZ.out HL.out H1.out ?_; intro w9 hb9 ho9))
        refine bodyPost_ret (results_cell_row (p := 6) (ty := 125) rfl _ _ (w.heap.size + 1) 125 _ (0, 0) _ rfl hb9 Tryd.underlying125 rfl HLA.out) rfl ?_
        rw [HV.out]
        exact ⟨rfl, Q.out.below.trans (ho9.below (by omega))⟩
      | true =>
        have hR : Hid (∀ a b c : Int, a = bits .xor .u32 (tn (gt (lay16 h 8) 12) : Int) (t % 4294967296) → b = bits .xor .u32 (tn (gt (lay16 h 8) 13) : Int) (t / 4294967296) → c = bits .xor .u32 4294967295 (tn (gt (lay16 h 8) 14) : Int) →
            SV w (UL (spreadF h t true)) (((wr.setCell ⟨w.heap.size + 1 + 1, 12, none⟩ (.int .u32 a)).setCell ⟨w.heap.size + 1 + 1, 13, none⟩ (.int .u32 b)).setCell ⟨w.heap.size + 1 + 1, 14, none⟩ (.int .u32 c))) := fun a b c ha hb hc => by
          have q := ((S.out.setI 12 (v12 h t) a (by rw [ha, xor_bv, bv_tn, bv_mod]; rfl)).setI 13 (v13 h t) b (by rw [hb, xor_bv, bv_tn]; rfl)).setI 14 (v14 h) c (by rw [hc, xor_bv, bv_tn]; rfl)
          exact ⟨q.below, q.res, q.vb⟩
        have HL : Hid ((Tryd.prog.info? 125).map (·.size) = some (UL (spreadF h t true)).length) := show _ = _ by rw [UL.len, spreadF_len]; exact Tryd.i70
        have HZ : Hid ((ZU 16).toArray.size = (UL (spreadF h t true)).length) := show _ = _ by rw [UL.len, spreadF_len]; rfl
        have HLA : Hid ((Tryd.prog.info? 125).map (·.size) = some (UL (spreadF h t true)).toArray.size) := show _ = _ by rw [List.size_toArray, UL.len, spreadF_len]; exact Tryd.i70
        have H1 := Lib.hid (UL.one (spreadF h t true))
        have Q := Lib.hid (hR.out _ _ _ rfl rfl rfl)
        clear S hR
        generalize hV : UL (spreadF h t true) = V at *
        have HV := Lib.hid hV
        clear hV
        go_wp2_with (first
          | ((with_reducible refine at_load (t := 125) ?_); simp only [max_if]; refine wpList_load_mid rfl 125 _ rfl (w.heap.size + 1 + 1) 0 rfl V _ Q.out.vb'.rng Tryd.underlying125 rfl HL.out ?_)
          | ((with_reducible refine at_store (t := 125) ?_); refine wpList_store_blk _ rfl 125 _ _ rfl (w.heap.size + 1) (ZU 16).toArray 125 V rfl rfl Q.out.res HZ.out HL.out H1.out ?_; intro w9 hb9 ho9))
        refine bodyPost_ret (results_cell_row (p := 6) (ty := 125) rfl _ _ (w.heap.size + 1) 125 _ (0, 0) _ rfl hb9 Tryd.underlying125 rfl HLA.out) rfl ?_
        rw [HV.out]
        exact ⟨rfl, Q.out.below.trans (ho9.below (by omega))⟩

end Go.Proofs.YtemfnckaehjhcaaDoor.Bk

/-
  digest.
-/
namespace Go.Proofs.YtemfnckaehjhcaaDoor.Bk
open Go.RowKit
attribute [local go_sem ↓] Tryd.z42 Tryd.z70 Tryd.z27 Tryd.z45 Tryd.z37 Tryd.z38

theorem idx_one {P : Program} (t e : TypeId) (n : Nat) (cs : Array Value) (k : Nat) (v : Value) (w : World) (i : IntKind) (ht : P.underlying t = some (.array n e)) (hk : k < n) (hv : cs[k]? = some v) (hi : (P.info? e).map (·.size) = some 1) (he : P.underlying e = some (.int i)) :
    (Instr.index t (.agg cs) (.int .i64 (k : Int))).run P w = .ok v w := by
  cases hq : P.info? e with
  | none => simp [hq] at hi
  | some i0 =>
    have hs : i0.size = 1 := by simpa [hq] using hi
    have h1 : (0 : Int) ≤ k ∧ (k : Int) < n := by omega
    simp [Instr.index, run_underlying ht, asIntOf, sizeOf, typeInfo, hq, hs, part, isAgg, run_underlying he, hk, hv]
theorem Tryd.s32 : (Tryd.prog.info? 106).map (·.size) = some 1 := by kernel_rfl
theorem Tryd.s5 : (Tryd.prog.info? 5).map (·.size) = some 1 := by kernel_rfl

/-- The bytes of the first k numbers, the lowest first. -/
def idL (h : List (BitVec 32)) : Nat → List Int
  | 0 => []
  | k + 1 => idL h k ++ le4 (gt h k)
theorem idL_len (h : List (BitVec 32)) : ∀ k, (idL h k).length = 4 * k
  | 0 => rfl
  | k + 1 => by rw [idL, List.length_append, idL_len h k]; show 4 * k + 4 = _; omega
def digestF (h : List (BitVec 32)) : List Int := idL h 8

structure IW (w0 : World) (h : List (BitVec 32)) (k : Nat) (w : World) : Prop where
  below : Below w0.heap.size w0 w
  res : Blk w (w0.heap.size + 1) 80 (ZB 32).toArray
  id : Blk w (w0.heap.size + 1 + 1) 80 (BL (idL h k ++ List.replicate (32 - 4 * k) 0)).toArray

theorem le4.len (x : BitVec 32) : (le4 x).length = 4 := rfl
theorem IW.step {w0 wr w2 : World} {h : List (BitVec 32)} {k : Nat} (i : IW w0 h k wr) (hk : k < 8) (hb : Below (w0.heap.size + 1 + 1) wr w2)
    (hg : w2.heap[w0.heap.size + 1 + 1]? = some (.cells (splice (BL (idL h k ++ List.replicate (32 - 4 * k) 0)) (4 * k) (BL (le4 (gt h k)))).toArray 80 (0, 0))) : IW w0 h (k + 1) w2 := by
  refine ⟨i.below.trans (hb.mono (by omega)), i.res.below hb (by omega), ?_⟩
  unfold Blk
  rw [hg]
  have e : splice (BL (idL h k ++ List.replicate (32 - 4 * k) 0)) (4 * k) (BL (le4 (gt h k))) = BL (idL h (k + 1) ++ List.replicate (32 - 4 * (k + 1)) 0) := by
    have h0 : (BL (idL h k)).length = 4 * k := by rw [BL.len, idL_len]
    have h4 : (BL (le4 (gt h k))).length = 4 := rfl
    have ha : BL (idL h k ++ List.replicate (32 - 4 * k) 0) = BL (idL h k) ++ BL (List.replicate (32 - 4 * k) 0) := by simp [BL]
    have hr : BL (List.replicate (32 - 4 * k) 0) = ZB (32 - 4 * k) := (ZB.bl _).symm
    have hb' : BL (idL h (k + 1) ++ List.replicate (32 - 4 * (k + 1)) 0) = BL (idL h k) ++ (BL (le4 (gt h k)) ++ ZB (32 - 4 * (k + 1))) := by
      rw [ZB.bl, idL]
      simp [BL]
    rw [ha, hr, hb']
    unfold splice
    rw [h4, List.take_append_of_le_length (by omega), List.take_of_length_le (by omega), List.drop_append, List.drop_of_length_le (by omega), h0, List.nil_append]
    congr 2
    unfold ZB
    rw [List.drop_replicate]
    congr 1
    omega
  rw [e]

set_option maxRecDepth 100000 in
set_option maxHeartbeats 4000000 in
theorem digest_any (h : List (BitVec 32)) (hh : h.length = 8) (w : World) :
    Calls Tryd.prog 77 #[.agg (UL h).toArray] w fun e w' => e = .returned (.agg (BL (digestF h)).toArray) ∧ Below w.heap.size w w' := by
  have I0 : Hid (IW w h 0 (((w.alloc (.cells (UL h).toArray 107)).alloc (.cells (ZB 32).toArray 80)).alloc (.cells (ZB 32).toArray 80))) :=
    ⟨(((Below.refl _ w).alloc (Nat.le_refl _) _).alloc (by simp) _).alloc (by simp; omega) _, (Blk.new' _ 80 _ (by simp)).alloc _, Blk.new' _ 80 _ (by simp)⟩
  have HB : Hid (Blk (((w.alloc (.cells (UL h).toArray 107)).alloc (.cells (ZB 32).toArray 80)).alloc (.cells (ZB 32).toArray 80)) w.heap.size 107 (UL h).toArray) := ((Blk.new w 107 _).alloc _).alloc _
  have hl8 : (UL h).length = 8 := by rw [UL.len, hh]
  have i42 : Hid ((Tryd.prog.info? 107).map (·.size) = some (UL h).length) := show _ = _ by rw [hl8]; exact Tryd.i42
  have IX : Hid (∀ (k : Nat) (W : World), k < 8 → (Instr.index 107 (.agg (UL h).toArray) (.int .i64 (k : Int))).run Tryd.prog W = .ok (.int .u32 (tn (gt h k) : Int)) W) := fun k W hk => idx_one 107 106 8 _ k _ W .u32 Tryd.underlying107 hk (UL.gt (by rw [hh]; exact hk)) Tryd.s32 Tryd.underlying106
  go_enter Tryd.func77, Tryd.ntmps77
  go_wp2_with ((with_reducible refine at_load (t := 107) ?_); refine wpList_load_mid rfl 107 _ rfl w.heap.size 0 rfl (UL h) _ HB.out.rng Tryd.underlying107 rfl i42.out ?_)
  generalize ((w.alloc (.cells (UL h).toArray 107)).alloc (.cells (ZB 32).toArray 80)).alloc (.cells (ZB 32).toArray 80) = W0 at *
  clear HB i42 hl8
  go_loopw [7] (fun i wr => ∃ k : Nat, k ≤ 8 ∧ i = .int .i64 k ∧ IW w h k wr) (fun i _ => 8 - (intOf i).toNat)
  case atStart => exact ⟨0, Nat.zero_le _, rfl, I0.out⟩
  case round =>
    obtain ⟨k, hk, rfl, hi⟩ := hrel
    have I := Lib.hid hi
    clear I0 hi
    by_cases hlt : k < 8
    · have ix : ∀ W, (Instr.index 107 (.agg (UL h).toArray) (.int .i64 (k : Int))).run Tryd.prog W = .ok (.int .u32 (tn (gt h k) : Int)) W := fun W => IX.out k W hlt
      have k0 : (0 : Int) ≤ k := by omega
      have PT : Hid (∀ W, Calls Tryd.prog 97 #[.slice none 0 0, .int .u32 (tn (rev (gt h k)) : Int)] W (Putted W 0 4 [] (tn (rev (gt h k))))) := fun W =>
        Put32_any none 0 0 [] _ W 0 By.none_ (by omega) ⟨by omega, by have := tn_lt (rev (gt h k)); omega⟩
      have FG : Hid (∀ w1, Below wr.heap.size wr.drew w1 → w1.heap[w.heap.size + 1 + 1]? = some (.cells (BL (idL h k ++ List.replicate (32 - 4 * k) 0)).toArray 80 (0, 0))) := fun w1 hb => (hb.block _ I.out.id.lt).trans I.out.id
      have FB : Hid (∀ w1, Below wr.heap.size wr.drew w1 → Below (w.heap.size + 1 + 1) wr w1) := fun w1 hb => ((Below.refl _ wr).drew).trans (hb.mono (Nat.le_of_lt I.out.id.lt))
      have FS : Hid (∀ w1 g, Blk w1 g 5 ((([] : List Int) ++ be 4 (tn (rev (gt h k)) : Int)).map (Value.int .u8)).toArray → ∀ j v, (BL (le4 (gt h k)))[j]? = some v → w1.cell? ((⟨g, 0, none⟩ : Addr).add j) = some v) := fun w1 g hg j v hj => by
        have e : (⟨g, 0, none⟩ : Addr).add j = ⟨g, j, none⟩ := by by_cases h0 : j = 0 <;> simp [Addr.add, h0]
        rw [e, hg.cell, List.getElem?_toArray, List.nil_append, be_rev]
        exact hj
      have FN : Hid ((BL (le4 (gt h k))).length = Nat.min (0 + 4) (32 - 4 * k)) := show _ = _ by
        show 4 = min (0 + 4) (32 - 4 * k)
        omega
      have FF : Hid (4 * k + (BL (le4 (gt h k))).length ≤ (BL (idL h k ++ List.replicate (32 - 4 * k) 0)).length) := show _ ≤ _ by
        rw [BL.len, BL.len, List.length_append, idL_len, List.length_replicate, le4.len]
        omega
      have F1 := Lib.hid (BL.one (le4 (gt h k)))
      have RV := Lib.hid (rev_any (gt h k))
      have ST : Hid (∀ w2, Below (w.heap.size + 1 + 1) wr w2 → w2.heap[w.heap.size + 1 + 1]? = some (.cells (splice (BL (idL h k ++ List.replicate (32 - 4 * k) 0)) (4 * k) (BL (le4 (gt h k)))).toArray 80 (0, 0)) → IW w h (k + 1) w2) := fun w2 hb hg => I.out.step hlt hb hg
      clear I
      go_wp2_with fail
      clear ix
      have e1 : IntKind.i64.wrap (4 * (k : Int)) = 4 * (k : Int) := IntWalk.i64_in _ (by omega)
      have e2 : 0 ≤ 4 * (k : Int) := by omega
      have e3 : 4 * (k : Int) < 32 := by omega
      have e4 : (4 * (k : Int)).toNat = 4 * k := by omega
      have e5 : 4 * (k : Int) ≤ 32 := by omega
      have e6 : ¬ (32 = 4 * k) := by omega
      have e7 : ¬ (4 * k = 32) := by omega
      generalize BL (idL h k ++ List.replicate (32 - 4 * k) 0) = C at *
      generalize BL (le4 (gt h k)) = S at *
      generalize rev (gt h k) = r at *
      generalize gt h k = x at *
      go_region_law (first
        | (refine step_copy_splice rfl (.tmp 13) (.tmp 16) 29 29 rfl 5 Tryd.underlying29 Tryd.s5 (some ⟨w.heap.size + 1 + 1, 4 * k, none⟩) (some ⟨wr.heap.size, 0, none⟩) (32 - 4 * k) (32 - 4 * k) (0 + 4) (0 + 4) (by rfl) (by rfl) (w.heap.size + 1 + 1) (4 * k) C 80 (FG.out _ hb) S FN.out (fun _ => ⟨rfl, ⟨wr.heap.size, 0, none⟩, rfl, FS.out _ _ hp⟩) FF.out F1.out (w.heap.size + 1 + 1) wr (FB.out _ hb) (Nat.le_refl _) ?_; intro w4 hg4 hb4)
        | (go_simp; go_at_call 98; refine (RV.out _).mono ?_; rintro e w5 ⟨rfl, rfl⟩)
        | (go_simp; go_at_call 97; refine (PT.out _).mono ?_; rintro e w1 ⟨rfl, hp, hb⟩))
      have T := Lib.hid (ST.out _ hb4 hg4.out)
      clear e1 e2 e3 e4 e5 e6 e7 hb4 hg4 ST
      go_wp2_with fail
      exact ⟨⟨k + 1, by omega, by go_num, T.out⟩, by simp [intOf]; omega⟩
    · obtain rfl : k = 8 := by omega
      have hi := I.out.id
      rw [show List.replicate (32 - 4 * 8) (0 : Int) = [] from rfl, List.append_nil] at hi
      have HI := Lib.hid hi
      have HR := Lib.hid I.out.res
      have HB := Lib.hid I.out.below
      have hlen : (BL (idL h 8)).length = 32 := by rw [BL.len, idL_len]
      have HZ : Hid ((ZB 32).toArray.size = (BL (idL h 8)).length) := show _ = _ by rw [hlen]; rfl
      have H2 : Hid ((Tryd.prog.info? 80).map (·.size) = some (BL (idL h 8)).length) := show _ = _ by rw [hlen]; exact Tryd.i27
      have H2A : Hid ((Tryd.prog.info? 80).map (·.size) = some (BL (idL h 8)).toArray.size) := show _ = _ by rw [List.size_toArray, hlen]; exact Tryd.i27
      have H1 := Lib.hid (BL.one (idL h 8))
      have HE : Hid (BL (digestF h) = BL (idL h 8)) := show _ = _ from rfl
      clear I hi hlen
      generalize BL (idL h 8) = O at *
      go_wp2_with (first
        | ((with_reducible refine at_load (t := 80) ?_); refine wpList_load_mid rfl 80 _ rfl (w.heap.size + 1 + 1) 0 rfl O _ HI.out.rng Tryd.underlying80 rfl H2.out ?_)
        | ((with_reducible refine at_store (t := 80) ?_); refine wpList_store_blk _ rfl 80 _ _ rfl (w.heap.size + 1) (ZB 32).toArray 80 O rfl rfl HR.out HZ.out H2.out H1.out ?_; intro w9 hb9 ho9))
      refine bodyPost_ret (results_cell_row (p := 2) (ty := 80) rfl _ _ (w.heap.size + 1) 80 _ (0, 0) _ rfl hb9 Tryd.underlying80 rfl H2A.out) rfl ?_
      rw [HE.out]
      exact ⟨rfl, HB.out.trans (ho9.below (by omega))⟩

end Go.Proofs.YtemfnckaehjhcaaDoor.Bk

/-
  What a Reader answers, whatever its state: U8, U16, U32, U64, Raw, Go.
-/
namespace Go.Proofs.YtemfnckaehjhcaaDoor.Bk
open Go.RowKit

/-- Behind a step the Reader stands so, and of what was there nothing but the Reader has turned. -/
def Moved (w : World) (p : Nat) (k' er' : Int) (A : Option Addr) (n c : Nat) (w' : World) : Prop := Rd w' p k' er' A n c ∧ w.grownBy w' (some p)

/-- The document's reader: is there something to take? where it stands then, its error, what it took. -/
def okN (L k : Nat) (er m : Int) : Bool := (er == 0) && (decide (0 ≤ m) && decide (m ≤ (L : Int) - k))
def nAt (L k : Nat) (er m : Int) : Nat := if okN L k er m = true then k + m.toNat else k
def nErr (L k : Nat) (er m : Int) : Int := if (er == 0) = true then (if m < 0 then 2 else if (L : Int) - k < m then 7 else 0) else er
def nBytes (zs : List Int) (k : Nat) (er m : Int) : List Int := if okN zs.length k er m = true then (zs.drop k).take m.toNat else []
def okG (L k : Nat) (er m : Int) : Bool := (er == 0) && (decide (-(k : Int) ≤ m) && decide (m ≤ (L : Int) - k))
def gAt (L k : Nat) (er m : Int) : Nat := if okG L k er m = true then (k + m).toNat else k
def gErr (L k : Nat) (er m : Int) : Int := if (er == 0) = true then (if okG L k er m = true then 0 else 2) else er

theorem nAt_le (L k : Nat) (er m : Int) (h : k ≤ L) : nAt L k er m ≤ L := by
  unfold nAt okN
  split
  · rename_i h1
    simp at h1
    omega
  · exact h
theorem gAt_le (L k : Nat) (er m : Int) (h : k ≤ L) : gAt L k er m ≤ L := by
  unfold gAt okG
  split
  · rename_i h1
    simp at h1
    omega
  · exact h

section
variable {w w' : World} {p n c : Nat} {k er : Int} {A : Option Addr}
theorem Moved.same (h : Rd w p k er A n c) : Moved w p k er A n c w := ⟨h, World.grownBy.refl _ _⟩
theorem Moved.set0 (h : Rd w p k er A n c) (k' : Int) (q : Nat) : Moved w p k' er A n c ((w.setCell ⟨p, 0, none⟩ (.int .i64 k')).drewN q) :=
  ⟨Blk.drewN (Blk.set_ h 0 (.int .i64 k')) q, ⟨rfl, rfl, rfl, by simp [World.setCell, World.drewN], fun i _ hne => Below.heap_setCell w _ _ i (fun e => hne (by rw [e]))⟩⟩
theorem Moved.set1 (h : Rd w p k er A n c) (e' : Int) (q : Nat) : Moved w p k e' A n c ((w.setCell ⟨p, 1, none⟩ (.int .i64 e')).drewN q) :=
  ⟨Blk.drewN (Blk.set_ h 1 (.int .i64 e')) q, ⟨rfl, rfl, rfl, by simp [World.setCell, World.drewN], fun i _ hne => Below.heap_setCell w _ _ i (fun e => hne (by rw [e]))⟩⟩
theorem By.moved {zs : List Int} {k' er' : Int} (h : By w p A n zs) (hp : p < w.heap.size) (hm : Moved w p k' er' A n c w') : By w' p A n zs :=
  h.keep fun q hq => World.cell?_of_block (hm.2.block q.block (by omega) (fun e => by injection e with e; omega))
end

theorem number_any (p k m : Nat) (er : Int) (A : Option Addr) (n c : Nat) (zs : List Int) (w : World) (h : Rd w p k er A n c) (hb : By w p A n zs) (hk : k ≤ n) (hnc : n ≤ c) (hn : n ≤ 140737488355328) :
    Calls Tryd.prog 106 #[.pointer (some ⟨p, 0, none⟩), .int .i64 m] w fun e w' => e = .returned (.int .u64 (num (nBytes zs k er m))) ∧ Moved w p (nAt n k er m) (nErr n k er m) A n c w' := by
  by_cases he : (er == 0) = true
  · obtain rfl : er = 0 := by simpa using he
    by_cases hm : m ≤ n - k
    · refine (number_ok p k m A n c zs w h hb hk hnc hn hm).mono ?_
      rintro e w' ⟨rfl, q, rfl⟩
      have h1 : okN n k 0 m = true := by simp [okN]; omega
      have h2 : nAt n k 0 m = k + m := by simp [nAt, h1]
      have h3 : nErr n k 0 m = 0 := by simp only [nErr]; rw [if_pos (by decide), if_neg (by omega), if_neg (by omega)]
      have h4 : nBytes zs k 0 m = (zs.drop k).take m := by simp [nBytes, hb.1, h1]
      rw [h2, h3, h4]
      exact ⟨rfl, Moved.set0 h _ q⟩
    · refine (number_short p k m A n c w h hk hn (by omega)).mono ?_
      rintro e w' ⟨rfl, q, rfl⟩
      have h1 : okN n k 0 m = false := by simp [okN]; omega
      have h2 : nAt n k 0 m = k := by simp [nAt, h1]
      have h3 : nErr n k 0 m = 7 := by simp only [nErr]; rw [if_pos (by decide), if_neg (by omega), if_pos (by omega)]
      have h4 : nBytes zs k 0 m = [] := by simp [nBytes, hb.1, h1]
      rw [h2, h3, h4]
      exact ⟨rfl, Moved.set1 h _ q⟩
  · have he' : (er == 0) = false := by simpa using he
    refine (number_bad p k er m A n c w h he').mono ?_
    rintro e w' ⟨rfl, rfl⟩
    have h1 : okN n k er m = false := by simp [okN, he']
    have h2 : nAt n k er m = k := by simp [nAt, h1]
    have h3 : nErr n k er m = er := by simp only [nErr]; rw [if_neg (by simp [he'])]
    have h4 : nBytes zs k er m = [] := by simp [nBytes, hb.1, h1]
    rw [h2, h3, h4]
    exact ⟨rfl, Moved.same h⟩

end Go.Proofs.YtemfnckaehjhcaaDoor.Bk

/-
  What a Reader answers, whatever its state: U8, U16, U32, U64, Raw, Go.
-/
namespace Go.Proofs.YtemfnckaehjhcaaDoor.Bk
open Go.RowKit

theorem Bs.take {zs : List Int} (h : Bs zs) (k : Nat) : Bs (zs.take k) := fun j => by
  have := h j
  simp only [List.getD, List.getElem?_take] at this ⊢
  split
  · exact this
  · simp
theorem Bs.drop {zs : List Int} (h : Bs zs) (k : Nat) : Bs (zs.drop k) := fun j => by
  have := h (k + j)
  simpa only [List.getD, List.getElem?_drop] using this

theorem num_lt : ∀ (k : Nat) (zs : List Int), zs.length = k → k ≤ 8 → Bs zs → num zs < ((256 ^ k : Nat) : Int)
  | 0, zs, h, _, _ => by
    obtain rfl : zs = [] := List.eq_nil_of_length_eq_zero h
    simp [num]
  | k + 1, zs, h, h8, hb => by
    have e := num_snoc zs k (by omega)
    rw [List.take_of_length_le (by omega)] at e
    have hz := hb k
    have ih := num_lt k (zs.take k) (by rw [List.length_take]; omega) (by omega) (hb.take k)
    have h0 := (num_range (zs.take k)).1
    have h7 : (256 : Nat) ^ k ≤ 256 ^ 7 := Nat.pow_le_pow_right (by omega) (by omega)
    rw [show (256 : Nat) ^ 7 = 72057594037927936 from rfl] at h7
    rw [e, Nat.pow_succ]
    generalize (256 : Nat) ^ k = X at *
    omega

theorem nBytes_len (zs : List Int) (k : Nat) (er m : Int) : (nBytes zs k er m).length ≤ m.toNat := by
  unfold nBytes
  split
  · rw [List.length_take]; omega
  · simp
theorem nBytes_bs {zs : List Int} (h : Bs zs) (k : Nat) (er m : Int) : Bs (nBytes zs k er m) := by
  unfold nBytes
  split
  · exact (h.drop k).take _
  · intro j; simp
theorem num_nBytes {zs : List Int} (h : Bs zs) (k : Nat) (er : Int) (m : Nat) (hm : m ≤ 8) : 0 ≤ num (nBytes zs k er m) ∧ num (nBytes zs k er m) < ((256 ^ m : Nat) : Int) := by
  refine ⟨(num_range _).1, ?_⟩
  have h1 := nBytes_len zs k er m
  have h2 := num_lt _ _ rfl (by omega) (nBytes_bs h k er m)
  have h3 : (256 : Nat) ^ (nBytes zs k er m).length ≤ 256 ^ m := Nat.pow_le_pow_right (by omega) (by omega)
  generalize (256 : Nat) ^ (nBytes zs k er m).length = X at *
  generalize (256 : Nat) ^ m = Y at *
  omega

section
variable (p k : Nat) (er : Int) (A : Option Addr) (n c : Nat) (zs : List Int) (w : World) (h : Rd w p k er A n c) (hb : By w p A n zs) (hk : k ≤ n) (hnc : n ≤ c) (hn : n ≤ 140737488355328)
include h hb hk hnc hn
theorem u32_any : Calls Tryd.prog 112 #[.pointer (some ⟨p, 0, none⟩)] w fun e w' => e = .returned (.int .u32 (num (nBytes zs k er 4))) ∧ Moved w p (nAt n k er 4) (nErr n k er 4) A n c w' := by
  have hr := num_nBytes hb.bs k er 4 (by omega)
  go_enter Tryd.func112, Tryd.ntmps112
  go_wp2_with (go_at_call 106; refine (number_any p k 4 er A n c zs w h hb hk hnc hn).mono ?_; rintro e w' ⟨rfl, hm⟩)
  go_ret
  exact ⟨ret_int (Int.emod_eq_of_lt hr.1 (by simpa using hr.2)), hm⟩
end

theorem u32_nil (w : World) : Calls Tryd.prog 112 #[.pointer none] w fun e w' => e = .returned (.int .u32 0) ∧ w = w' := by
  go_enter Tryd.func112, Tryd.ntmps112
  go_wp2_with (go_at_call 106; refine (number_nil _ _).mono ?_; rintro e w' ⟨rfl, rfl⟩)
  go_ret
  exact ⟨rfl, rfl⟩



/-- What Raw leaves: the bytes in memory of their own. -/
def Rawed (w : World) (p k : Nat) (er m : Int) (A : Option Addr) (n c : Nat) (zs : List Int) (e : Ending) (w' : World) : Prop :=
  ∃ A' c', e = .returned (.slice A' (nBytes zs k er m).length c') ∧ Own w' w.heap.size A' (nBytes zs k er m).length c' (nBytes zs k er m) ∧ Moved w p (nAt n k er m) (nErr n k er m) A n c w'

theorem nothing (w : World) (b : Nat) : Own w b none 0 0 [] := ⟨World.ownsRow_nil _ _ _ _, fun j => by simp⟩

theorem Moved.below {w w1 w' : World} {p n c : Nat} {k er : Int} {A : Option Addr} (h : Moved w p k er A n c w1) (hb : Below w1.heap.size w1 w') : Moved w p k er A n c w' :=
  ⟨Blk.below h.1 hb (Blk.lt h.1), ⟨hb.os.trans h.2.os, hb.tape.trans h.2.tape, hb.output.trans h.2.output, Nat.le_trans h.2.size hb.size, fun i hi hne => (hb.block i (Nat.lt_of_lt_of_le hi h.2.size)).trans (h.2.block i hi hne)⟩⟩



end Go.Proofs.YtemfnckaehjhcaaDoor.Bk

/-
  numbers.
-/
namespace Go.Proofs.YtemfnckaehjhcaaDoor.Bk
open Go.RowKit
attribute [local go_sem ↓] Tryd.z42 Tryd.z70 Tryd.z27 Tryd.z45 Tryd.z37 Tryd.z38

/-- Number j of a block, its bytes the highest first. -/
def numw (b : List Int) (j : Nat) : BitVec 32 := bv (num ((b.drop (4 * j)).take 4))
def numbersL (b : List Int) (j : Nat) : List (BitVec 32) := (List.range j).map fun i => rev (numw b i)
def numbersF (b : List Int) : List (BitVec 32) := numbersL b 16
theorem numbersL_len (b : List Int) (j : Nat) : (numbersL b j).length = j := by simp [numbersL]
theorem numbersL_succ (b : List Int) (j : Nat) : numbersL b (j + 1) = numbersL b j ++ [rev (numw b j)] := by simp [numbersL, List.range_succ]

/-- Where one stands. -/
structure NW (w0 : World) (b : List Int) (j : Nat) (w : World) : Prop where
  below : Below w0.heap.size w0 w
  rd : Rd w (w0.heap.size + 1 + 1 + 1) ((4 * j : Nat) : Int) 0 (some ⟨w0.heap.size, 0, none⟩) 64 64
  bb : Blk w w0.heap.size 108 (BL b).toArray
  res : Blk w (w0.heap.size + 1) 125 (ZU 16).toArray
  mb : Blk w (w0.heap.size + 1 + 1) 125 (UL (numbersL b j ++ List.replicate (16 - j) 0)).toArray
  len : b.length = 64
  bs : Bs b

theorem NW.by_ {w0 w : World} {b : List Int} {j : Nat} (h : NW w0 b j w) : By w (w0.heap.size + 1 + 1 + 1) (some ⟨w0.heap.size, 0, none⟩) 64 b :=
  ⟨h.len, h.bs, fun _ => ⟨w0.heap.size, 0, rfl, by omega, fun i hi => by
    rw [Nat.zero_add, h.bb.cell, List.getElem?_toArray]
    exact BL.get b i (by rw [h.len]; exact hi)⟩⟩
theorem NW.word {w0 w : World} {b : List Int} {j : Nat} (h : NW w0 b j w) (hj : j < 16) :
    Calls Tryd.prog 112 #[.pointer (some ⟨w0.heap.size + 1 + 1 + 1, 0, none⟩)] w fun e w' => e = .returned (.int .u32 (tn (numw b j) : Int)) ∧ Rd w' (w0.heap.size + 1 + 1 + 1) ((4 * (j + 1) : Nat) : Int) 0 (some ⟨w0.heap.size, 0, none⟩) 64 64 ∧ w.grownBy w' (some (w0.heap.size + 1 + 1 + 1)) := by
  refine (u32_any (w0.heap.size + 1 + 1 + 1) (4 * j) 0 _ 64 64 b w h.rd h.by_ (by omega) (by omega) (by omega)).mono fun e w' ⟨he, hm⟩ => ?_
  have h1 : okN 64 (4 * j) 0 4 = true := by simp [okN]; omega
  have h2 : nAt 64 (4 * j) 0 4 = 4 * (j + 1) := by simp [nAt, h1]; omega
  have h3 : nErr 64 (4 * j) 0 4 = 0 := by simp only [nErr]; rw [if_pos (by decide), if_neg (by omega), if_neg (by omega)]
  have h4 : nBytes b (4 * j) 0 4 = (b.drop (4 * j)).take 4 := by simp [nBytes, h.len, h1]
  have hr : 0 ≤ num (nBytes b (4 * j) 0 4) ∧ num (nBytes b (4 * j) 0 4) < ((256 ^ 4 : Nat) : Int) := num_nBytes h.bs (4 * j) 0 4 (by omega)
  rw [h2, h3] at hm
  rw [h4] at he hr
  refine ⟨?_, hm.1, hm.2⟩
  rw [he]
  unfold numw
  have := mod_tn (num ((b.drop (4 * j)).take 4))
  rw [← this]
  exact ret_int (Int.emod_eq_of_lt hr.1 (by simpa using hr.2)).symm
theorem NW.step {w0 w w' : World} {b : List Int} {j : Nat} (h : NW w0 b j w) (hj : j < 16) (hr : Rd w' (w0.heap.size + 1 + 1 + 1) ((4 * (j + 1) : Nat) : Int) 0 (some ⟨w0.heap.size, 0, none⟩) 64 64) (hg : w.grownBy w' (some (w0.heap.size + 1 + 1 + 1))) :
    NW w0 b (j + 1) (w'.setCell ⟨w0.heap.size + 1 + 1, j, none⟩ (.int .u32 (tn (rev (numw b j)) : Int))) := by
  have hk : ∀ g t cs, g ≠ w0.heap.size + 1 + 1 + 1 → Blk w g t cs → Blk w' g t cs := fun g t cs hn hb => (hg.block g hb.lt (fun e => by injection e with e; exact hn e)).trans hb
  have b1 := hk _ _ _ (by omega) h.bb
  have b2 := hk _ _ _ (by omega) h.res
  have b3 := hk _ _ _ (by omega) h.mb
  refine ⟨?_, Blk.far hr (by show _ ≠ w0.heap.size + 1 + 1; omega) _, b1.far (by show _ ≠ w0.heap.size + 1 + 1; omega) _, b2.far (by show _ ≠ w0.heap.size + 1 + 1; omega) _, ?_, h.len, h.bs⟩
  · exact (h.below.grown hg h.below.size (fun k hk => by injection hk with hk; omega)).setCell (by show _ ≤ w0.heap.size + 1 + 1; omega) _
  · have := b3.set_ j (.int .u32 (tn (rev (numw b j)) : Int))
    rw [UL.set] at this
    have e : (numbersL b j ++ List.replicate (16 - j) 0).set j (rev (numw b j)) = numbersL b (j + 1) ++ List.replicate (16 - (j + 1)) 0 := by
      rw [List.set_append_right _ _ (by rw [numbersL_len]; exact Nat.le_refl _), numbersL_len, Nat.sub_self, numbersL_succ, List.append_assoc]
      congr 1
      rw [show 16 - j = (16 - (j + 1)) + 1 by omega, List.replicate_succ]
      rfl
    rw [e] at this
    exact this
theorem NW.cell {w0 w w' : World} {b : List Int} {j : Nat} (h : NW w0 b j w) (hj : j < 16) (hg : w.grownBy w' (some (w0.heap.size + 1 + 1 + 1))) :
    w'.cell? ⟨w0.heap.size + 1 + 1, j, none⟩ = some (.int .u32 (tn (gt (numbersL b j ++ List.replicate (16 - j) 0) j) : Int)) ∧ w'.frozen? ⟨w0.heap.size + 1 + 1, j, none⟩ = false := by
  have b3 : Blk w' (w0.heap.size + 1 + 1) 125 _ := (hg.block _ h.mb.lt (fun e => by injection e with e; omega)).trans h.mb
  exact ⟨(b3.cell j).trans (UL.gt (by rw [List.length_append, numbersL_len, List.length_replicate]; omega)), b3.frozen j⟩

set_option maxRecDepth 100000 in
set_option maxHeartbeats 1000000 in
theorem numbers_any (b : List Int) (hb : b.length = 64) (bs : Bs b) (w : World) :
    Calls Tryd.prog 95 #[.agg (BL b).toArray] w fun e w' => e = .returned (.agg (UL (numbersF b)).toArray) ∧ Below w.heap.size w w' := by
  have n0 : Hid (NW w b 0 ((((w.alloc (.cells (BL b).toArray 108)).alloc (.cells (ZU 16).toArray 125)).alloc (.cells (ZU 16).toArray 125)).alloc (.cells #[.int .i64 0, .int .i64 0, .slice (some ⟨w.heap.size, 0, none⟩) 64 64] 120))) :=
    ⟨((((Below.refl _ w).alloc (Nat.le_refl _) _).alloc (by simp) _).alloc (by simp; omega) _).alloc (by simp; omega) _, Blk.new' _ 120 _ (by simp), (((Blk.new w 108 _).alloc _).alloc _).alloc _, ((Blk.new' _ 125 _ (by simp)).alloc _).alloc _, (Blk.new' _ 125 _ (by simp)).alloc _, hb, bs⟩
  clear hb bs
  generalize hX : BL b = X at *
  have HX := Lib.hid hX
  clear hX
  go_enter Tryd.func95, Tryd.ntmps95
  go_wp2_with (go_at_call 61; refine (read_any _ _ _ _).mono ?_; rintro e w' ⟨rfl, rfl⟩)
  go_loopw [8] (fun i wr => ∃ k : Nat, k ≤ 16 ∧ i = .int .i64 k ∧ NW w b k wr) (fun i _ => 16 - (intOf i).toNat)
  case atStart => exact ⟨0, Nat.zero_le _, rfl, n0.out⟩
  case round =>
    obtain ⟨k, hk, rfl, hn⟩ := hrel
    have N := Lib.hid hn
    clear n0 hn
    by_cases hlt : k < 16
    · go_wp2_with fail
      refine (N.out.word hlt).mono ?_
      rintro e w1 ⟨rfl, hr, hg⟩
      obtain ⟨c3, f3⟩ := N.out.cell hlt hg
      have NS := Lib.hid (N.out.step hlt hr hg)
      clear N hr hg
      generalize numw b k = x at *
      go_wp2_with (go_at_call 98; refine (rev_any _ _).mono ?_; rintro e w2 ⟨rfl, rfl⟩)
      exact ⟨⟨k + 1, by omega, by go_num, NS.out⟩, by simp [intOf]; omega⟩
    · obtain rfl : k = 16 := by omega
      have hm := N.out.mb
      rw [show List.replicate (16 - 16) (0 : BitVec 32) = [] from rfl, List.append_nil] at hm
      have HM := Lib.hid hm
      have HR := Lib.hid N.out.res
      have HB := Lib.hid N.out.below
      have hlen : (UL (numbersL b 16)).length = 16 := by rw [UL.len, numbersL_len]
      have HZ : Hid ((ZU 16).toArray.size = (UL (numbersL b 16)).length) := show _ = _ by rw [hlen]; rfl
      have H2 : Hid ((Tryd.prog.info? 125).map (·.size) = some (UL (numbersL b 16)).length) := show _ = _ by rw [hlen]; exact Tryd.i70
      have H2A : Hid ((Tryd.prog.info? 125).map (·.size) = some (UL (numbersL b 16)).toArray.size) := show _ = _ by rw [List.size_toArray, hlen]; exact Tryd.i70
      have H1 := Lib.hid (UL.one (numbersL b 16))
      clear N hm hlen
      generalize hV : UL (numbersL b 16) = V at *
      have HV : Hid (UL (numbersF b) = V) := hV
      clear hV
      go_wp2_with (first
        | ((with_reducible refine at_load (t := 125) ?_); refine wpList_load_mid rfl 125 _ rfl (w.heap.size + 1 + 1) 0 rfl V _ HM.out.rng Tryd.underlying125 rfl H2.out ?_)
        | ((with_reducible refine at_store (t := 125) ?_); refine wpList_store_blk _ rfl 125 _ _ rfl (w.heap.size + 1) (ZU 16).toArray 125 V rfl rfl HR.out HZ.out H2.out H1.out ?_; intro w9 hb9 ho9))
      refine bodyPost_ret (results_cell_row (p := 2) (ty := 125) rfl _ _ (w.heap.size + 1) 125 _ (0, 0) _ rfl hb9 Tryd.underlying125 rfl H2A.out) rfl ?_
      rw [HV.out]
      exact ⟨rfl, HB.out.trans (ho9.below (by omega))⟩

end Go.Proofs.YtemfnckaehjhcaaDoor.Bk
