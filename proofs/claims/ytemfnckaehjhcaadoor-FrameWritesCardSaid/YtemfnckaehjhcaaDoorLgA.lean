/-
  Several texts in one: Words, Bys, P0, VW, B0, L1, L2, L3, L4, L5, M6.
-/
import Derived.Below
import Derived.Laws.OwnMore
import Derived.Deep.Draws
import Derived.Laws.Rows
import Derived.Deep.AppendLies
import Derived.Test.YtemfnckaehjhcaaDoorProg
import Derived.WalkKit
import Derived.WalkSpells
import Derived.WalkLawsBesides
import Derived.Lib.Hide
import Derived.Deep.QuietTactic
import Derived.BigQuiet
import Derived.Laws.AppendOwnNone
import Derived.Shelf.Bytes.SlEqualAll
import Derived.Deep.MidRow
import Derived.Laws.ResultCell
import Derived.Deep.RegionHeld3
import Derived.Deep.RegionWith
import Derived.Deep.Cut
import Derived.StillTailTactics
import Derived.ChangeKeysEq
import Derived.Laws.StructEq
/-
  Words for bytes in memory, and the plain lemmas on lists that the walks lean on. Nothing of the program is looked at here.
-/
namespace Go.Proofs.YtemfnckaehjhcaaDoor
open Go.RowKit

/-- The slice value '.slice A n c' holds the bytes zs, below block B. -/
def By (w : World) (B : Nat) (A : Option Addr) (n : Nat) (zs : List Int) : Prop :=
  zs.length = n ∧ (∀ j, 0 ≤ zs.getD j 0 ∧ zs.getD j 0 ≤ 255) ∧
    (0 < n → ∃ b o, A = some ⟨b, o, none⟩ ∧ b < B ∧ ∀ j, j < n → w.cell? ⟨b, o + j, none⟩ = some (.int .u8 (zs.getD j 0)))

section
variable {w w' : World} {B B' n : Nat} {A : Option Addr} {zs : List Int}
theorem By.none_ : By w B A 0 [] := ⟨rfl, fun j => by simp, fun h => absurd h (by omega)⟩
theorem By.keep (h : By w B A n zs) (hk : ∀ p : Addr, p.block < B → w'.cell? p = w.cell? p) : By w' B A n zs :=
  ⟨h.1, h.2.1, fun hn => by
    obtain ⟨b, o, e, hb, hc⟩ := h.2.2 hn
    exact ⟨b, o, e, hb, fun j hj => (hk ⟨b, o + j, none⟩ hb).trans (hc j hj)⟩⟩
theorem By.more (h : By w B A n zs) (hB : B ≤ B') : By w B' A n zs :=
  ⟨h.1, h.2.1, fun hn => by
    obtain ⟨b, o, e, hb, hc⟩ := h.2.2 hn
    exact ⟨b, o, e, by omega, hc⟩⟩
theorem By.below (h : By w B A n zs) (hb : Below B w w') : By w' B A n zs := h.keep fun _ hp => hb.cell hp
theorem By.drewN (h : By w B A n zs) (k : Nat) : By (w.drewN k) B A n zs := h
theorem By.alloc (h : By w B A n zs) (hB : B ≤ w.heap.size) (o : Obj) : By (w.alloc o) B A n zs := h.keep fun p hp => World.cell?_alloc_lt w o p (by omega)
theorem By.setCell (h : By w B A n zs) {p : Addr} (hB : B ≤ p.block) (u : Value) : By (w.setCell p u) B A n zs :=
  h.keep fun q hq => World.cell?_setCell_other w p q u (fun e => by subst e; omega)
end

/-- Block g is just the cells cs of element type t, none frozen. -/
def Blk (w : World) (g : Nat) (t : TypeId) (cs : Array Value) : Prop := w.heap[g]? = some (.cells cs t (0, 0))

section
variable {w w' : World} {g : Nat} {t : TypeId} {cs : Array Value}
theorem Blk.lt (h : Blk w g t cs) : g < w.heap.size := by
  rcases Nat.lt_or_ge g w.heap.size with hlt | hge
  · exact hlt
  · unfold Blk at h; rw [Array.getElem?_eq_none hge] at h; cases h
theorem Blk.cell (h : Blk w g t cs) (i : Nat) : w.cell? ⟨g, i, none⟩ = cs[i]? := cell_of_row w g i cs t (0, 0) h
theorem Blk.frozen (h : Blk w g t cs) (i : Nat) : w.frozen? ⟨g, i, none⟩ = false := by
  unfold Blk at h
  simp [World.frozen?, h]
theorem Blk.new (w : World) (t : TypeId) (cs : Array Value) : Blk (w.alloc (.cells cs t)) w.heap.size t cs := heap_alloc_new w _
theorem Blk.drewN (h : Blk w g t cs) (n : Nat) : Blk (w.drewN n) g t cs := h
theorem Blk.alloc (h : Blk w g t cs) (o : Obj) : Blk (w.alloc o) g t cs := (Below.heap_alloc w o g h.lt).trans h
theorem Blk.set_ (h : Blk w g t cs) (i : Nat) (u : Value) : Blk (w.setCell ⟨g, i, none⟩ u) g t (cs.setIfInBounds i u) := by
  unfold Blk at h ⊢
  simp [World.setCell, Array.getElem?_modify, h]
theorem Blk.far (h : Blk w g t cs) {p : Addr} (hp : g ≠ p.block) (u : Value) : Blk (w.setCell p u) g t cs := (Below.heap_setCell w p u g hp).trans h
theorem Blk.below {B : Nat} (h : Blk w g t cs) (hb : Below B w w') (hg : g < B) : Blk w' g t cs := (hb.block g hg).trans h
end

/-- How many of the bytes are c. -/
def cnt (c : Int) (zs : List Int) : Nat := (zs.filter (fun z => z == c)).length
theorem cnt_le (c : Int) (zs : List Int) : cnt c zs ≤ zs.length := List.length_filter_le _ _
theorem cnt_snoc (c : Int) (zs : List Int) (k : Nat) (hk : k < zs.length) : cnt c (zs.take (k + 1)) = cnt c (zs.take k) + if (zs.getD k 0 == c) = true then 1 else 0 := by
  rw [List.take_succ_eq_append_getElem hk]
  unfold cnt
  rw [List.filter_append, List.length_append]
  have e : zs.getD k 0 = zs[k] := by simp [List.getD, hk]
  rw [e]
  by_cases h : (zs[k] == c) = true
  · simp [h]
  · simp [h]

theorem ret_int {k : IntKind} {a b : Int} (h : a = b) : Ending.returned (.int k a) = .returned (.int k b) := by rw [h]
theorem ret_bool {a b : Bool} (h : a = b) : Ending.returned (.bool a) = .returned (.bool b) := by rw [h]

end Go.Proofs.YtemfnckaehjhcaaDoor

/-
  Bytes in memory without a Reader: cuts, copies, append, which are the same.
-/
namespace Go.Proofs.YtemfnckaehjhcaaDoor
open Go.RowKit

theorem set_drewN (w : World) (a : Addr) (v : Value) (q r : Nat) : ((w.drewN q).setCell a v).drewN r = (w.setCell a v).drewN (q + r) := by
  rw [← World.drewN_drewN]; rfl

/-- The bytes behind a cut. -/
theorem By.cut {w : World} {B : Nat} {A : Option Addr} {n : Nat} {zs : List Int} (h : By w B A n zs) {k m c : Nat} (hm : m ≤ n - k) (hk : k ≤ n) (hc : n ≤ c) :
    By w B (if c = k then A else A.map (·.add k)) m ((zs.drop k).take m) := by
  refine ⟨by rw [List.length_take, List.length_drop, h.1]; omega, fun j => ?_, fun hp => ?_⟩
  · have := h.2.1 (k + j)
    by_cases hj : j < m
    · simpa [List.getD, List.getElem?_take, hj] using this
    · simp [List.getD, List.getElem?_take, hj]
  · obtain ⟨b, o, rfl, hb, hcell⟩ := h.2.2 (by omega)
    rw [if_neg (by omega)]
    refine ⟨b, o + k, ?_, hb, fun j hj => ?_⟩
    · by_cases h0 : k = 0 <;> simp [Addr.add, h0]
    · rw [Nat.add_assoc, hcell (k + j) (by omega)]
      simp [List.getD, hj]


/-- All are bytes. -/
def Bs (zs : List Int) : Prop := ∀ j, 0 ≤ zs.getD j 0 ∧ zs.getD j 0 ≤ 255

/-- The slice holds the bytes zs in a row of its own, in a block from base on. -/
def Own (w : World) (base : Nat) (A : Option Addr) (n c : Nat) (zs : List Int) : Prop := w.ownsRow base 5 1 (.slice A n c) n (zs.map (Value.int .u8)) ∧ Bs zs

section
variable {w w' : World} {base n c : Nat} {A : Option Addr} {zs : List Int}
theorem Own.len (h : Own w base A n c zs) : zs.length = n := by simpa using h.1.1
theorem Own.form (h : Own w base A n c zs) : (A = none ∧ n = 0 ∧ c = 0) ∨ ∃ g, A = some ⟨g, 0, none⟩ ∧ base ≤ g ∧ g < w.heap.size ∧ n ≤ c := by
  rcases h.1.2 with ⟨hv, hn⟩ | ⟨g, cap, cur, hv, hb, hh, hnc, _⟩
  · injection hv with h1 h2 h3
    exact .inl ⟨h1, hn, h3⟩
  · injection hv with h1 h2 h3
    exact .inr ⟨g, h1, hb, Blk.lt (t := 5) hh, by omega⟩
theorem Own.cap (h : Own w base A n c zs) : n ≤ c := by
  rcases h.form with ⟨_, h1, h2⟩ | ⟨g, _, _, _, h1⟩ <;> omega
theorem Own.nil (h : Own w base A n c zs) (hA : A = none) : c = 0 := by
  rcases h.form with ⟨_, _, h2⟩ | ⟨g, h1, _⟩
  · exact h2
  · rw [hA] at h1; cases h1
theorem Own.at_ (h : Own w base A n c zs) {g : Nat} (hA : A = some ⟨g, 0, none⟩) (j : Nat) (hj : j < n) : w.cell? ⟨g, j, none⟩ = some (.int .u8 (zs.getD j 0)) := by
  subst hA
  rw [h.1.cellAt j (by omega)]
  have : j < zs.length := by rw [h.len]; exact hj
  simp [List.getD, this]
theorem Own.by (h : Own w base A n c zs) : By w w.heap.size A n zs := by
  refine ⟨h.len, h.2, fun hn => ?_⟩
  rcases h.form with ⟨_, h1, _⟩ | ⟨g, hA, _, hg, _⟩
  · omega
  · exact ⟨g, 0, hA, hg, fun j hj => by rw [Nat.zero_add]; exact h.at_ hA j hj⟩
theorem Own.below (h : Own w base A n c zs) (hb : Below w.heap.size w w') : Own w' base A n c zs := by
  refine ⟨⟨h.1.1, ?_⟩, h.2⟩
  rcases h.1.2 with hv | ⟨g, cap, cur, hv, hbs, hh, r⟩
  · exact .inl hv
  · exact .inr ⟨g, cap, cur, hv, hbs, (hb.block g (Blk.lt (t := 5) hh)).trans hh, r⟩
theorem Own.down (h : Own w base A n c zs) {base' : Nat} (hb : base' ≤ base) : Own w base' A n c zs := by
  refine ⟨⟨h.1.1, ?_⟩, h.2⟩
  rcases h.1.2 with hv | ⟨g, cap, cur, hv, hbs, r⟩
  · exact .inl hv
  · exact .inr ⟨g, cap, cur, hv, by omega, r⟩
theorem Own.of_row {v : Value} (h : w.ownsRow base 5 1 v n (zs.map (Value.int .u8))) (hb : Bs zs) : ∃ A c, v = .slice A n c ∧ Own w base A n c zs := by
  rcases h.2 with ⟨rfl, rfl⟩ | ⟨g, cap, cur, rfl, r⟩
  · exact ⟨_, _, rfl, h, hb⟩
  · exact ⟨_, _, rfl, h, hb⟩
theorem By.bs {B : Nat} (h : By w B A n zs) : Bs zs := h.2.1
end

theorem Tryd.info5 : (Tryd.prog.info? 5).map (fun i => (i.zero, i.size, i.bytes)) = some (some (.int .u8 0), 1, 1) := by kernel_rfl

/-- What a copy leaves. -/
def Cloned (w : World) (n : Nat) (zs : List Int) (e : Ending) (w' : World) : Prop := ∃ A c, e = .returned (.slice A n c) ∧ Own w' w.heap.size A n c zs ∧ Below w.heap.size w w'

set_option maxHeartbeats 400000 in
theorem clone_at (a : Addr) (n c : Nat) (xs : List Int) (w : World) (hx : xs.length = n) (hbs : Bs xs) (hbig : n ≤ 140737488355328) (hc : ∀ i, i < n → w.cell? (a.add i) = some (.int .u8 (xs.getD i 0))) :
    Calls Tryd.prog 24 #[.slice (some a) n c] w (Cloned w n xs) := by
  obtain ⟨i0, hi, hz0, hz1, hz2⟩ := info_parts Tryd.info5
  have q22 : ∀ (w : World) (a : Option Addr) (n c n' c' : Nat), (binOp .eql 29 (.slice a n c) (.slice none n' c')).run Tryd.prog w = .ok (.bool a.isNone) w := fun w a n c n' c' => Lib.run_eql_slice_nil w _ _ a n c n' c' Tryd.underlying29
  have A := Lib.hid hc
  have hx' := Lib.hid hx
  have hb := Lib.hid hbs
  clear hc hx hbs
  go_enter Tryd.func24, Tryd.ntmps24
  go_wp2_with (at_builtin; refine wpList_append_own _ rfl _ _ 29 rfl w.heap.size 5 i0 (.int .u8 0) 1 1 Tryd.underlying29 hi hz0 hz1 hz2 rfl (by decide) _ _ _ rfl (World.ownsRow_made w #[] 0 (Nat.le_refl _) (Nat.zero_le _) rfl) a n c (xs.map (Value.int .u8)) rfl ?qc1 ?qc2 ?qc3 ?qc4 ?qc5 ?qc6 ?_)
  case qc1 => have := hx'.out; simp; omega
  case qc2 =>
    have hx := hx'.out
    intro j u hj
    have hjn : j < n := by
      have := (List.getElem?_eq_some_iff.1 hj).1
      simp at this
      omega
    refine Lib.cell?_alloc_some _ ?_
    rw [A.out j hjn]
    have e : (xs.map (Value.int .u8))[j]? = some (Value.int .u8 (xs.getD j 0)) := by simp [List.getD, List.getElem?_eq_getElem (show j < xs.length by omega)]
    rw [e] at hj
    exact hj
  case qc3 => intro u hu; obtain ⟨x, _, rfl⟩ := List.mem_map.1 hu; rfl
  case qc4 => unfold maxLen; omega
  case qc5 => omega
  case qc6 => simp
  intro v' w1 hown hgrow hnil
  go_wp2
  go_ret
  obtain ⟨A', c', rfl, ho⟩ := Own.of_row (zs := xs) (n := n) (by simpa using hown) hb.out
  exact ⟨A', c', rfl, ho, ((Below.refl _ w).alloc (Nat.le_refl _) _).grown hgrow (by simp) (by intro k hk; simp [Value.ownBlock] at hk; omega)⟩

theorem clone_nil (n c : Nat) (w : World) : Calls Tryd.prog 24 #[.slice none n c] w fun e w' => e = .returned (.slice none 0 0) ∧ w = w' := by
  have q22 : ∀ (w : World) (a : Option Addr) (n c n' c' : Nat), (binOp .eql 29 (.slice a n c) (.slice none n' c')).run Tryd.prog w = .ok (.bool a.isNone) w := fun w a n c n' c' => Lib.run_eql_slice_nil w _ _ a n c n' c' Tryd.underlying29
  go_enter Tryd.func24, Tryd.ntmps24
  go_wp2
  go_ret
  exact ⟨rfl, rfl⟩

theorem clone_any (A : Option Addr) (n c : Nat) (zs : List Int) (w : World) (B : Nat) (h : By w B A n zs) (hbig : n ≤ 140737488355328) :
    Calls Tryd.prog 24 #[.slice A n c] w (Cloned w n zs) := by
  cases A with
  | none =>
    obtain rfl : n = 0 := by
      rcases Nat.eq_zero_or_pos n with h0 | h0
      · exact h0
      · obtain ⟨b, o, hA, _⟩ := h.2.2 h0
        cases hA
    obtain rfl : zs = [] := List.eq_nil_of_length_eq_zero h.1
    refine (clone_nil 0 c w).mono ?_
    rintro e w' ⟨rfl, rfl⟩
    exact ⟨none, 0, rfl, ⟨World.ownsRow_nil _ _ _ _, h.bs⟩, Below.refl _ _⟩
  | some a =>
    refine clone_at a n c zs w h.1 h.bs hbig fun i hi => ?_
    obtain ⟨b, o, hA, _, hc⟩ := h.2.2 (by omega)
    injection hA with hA
    subst hA
    rw [← hc i hi]
    by_cases h0 : i = 0 <;> simp [Addr.add, h0]

set_option maxHeartbeats 400000 in
theorem bclone_at (a : Addr) (n c : Nat) (xs : List Int) (w : World) (hx : xs.length = n) (hbs : Bs xs) (hbig : n ≤ 140737488355328) (hc : ∀ i, i < n → w.cell? (a.add i) = some (.int .u8 (xs.getD i 0))) :
    Calls Tryd.prog 23 #[.slice (some a) n c] w (Cloned w n xs) := by
  obtain ⟨i0, hi, hz0, hz1, hz2⟩ := info_parts Tryd.info5
  have q22 : ∀ (w : World) (a : Option Addr) (n c n' c' : Nat), (binOp .eql 29 (.slice a n c) (.slice none n' c')).run Tryd.prog w = .ok (.bool a.isNone) w := fun w a n c n' c' => Lib.run_eql_slice_nil w _ _ a n c n' c' Tryd.underlying29
  have A := Lib.hid hc
  have hx' := Lib.hid hx
  have hb := Lib.hid hbs
  clear hc hx hbs
  go_enter Tryd.func23, Tryd.ntmps23
  go_wp2_with (at_builtin; refine wpList_append_own _ rfl _ _ 29 rfl w.heap.size 5 i0 (.int .u8 0) 1 1 Tryd.underlying29 hi hz0 hz1 hz2 rfl (by decide) _ _ _ rfl (World.ownsRow_made w #[] 0 (Nat.le_refl _) (Nat.zero_le _) rfl) a n c (xs.map (Value.int .u8)) rfl ?qc1 ?qc2 ?qc3 ?qc4 ?qc5 ?qc6 ?_)
  case qc1 => have := hx'.out; simp; omega
  case qc2 =>
    have hx := hx'.out
    intro j u hj
    have hjn : j < n := by
      have := (List.getElem?_eq_some_iff.1 hj).1
      simp at this
      omega
    refine Lib.cell?_alloc_some _ ?_
    rw [A.out j hjn]
    have e : (xs.map (Value.int .u8))[j]? = some (Value.int .u8 (xs.getD j 0)) := by simp [List.getD, List.getElem?_eq_getElem (show j < xs.length by omega)]
    rw [e] at hj
    exact hj
  case qc3 => intro u hu; obtain ⟨x, _, rfl⟩ := List.mem_map.1 hu; rfl
  case qc4 => unfold maxLen; omega
  case qc5 => omega
  case qc6 => simp
  intro v' w1 hown hgrow hnil
  go_wp2
  go_ret
  obtain ⟨A', c', rfl, ho⟩ := Own.of_row (zs := xs) (n := n) (by simpa using hown) hb.out
  exact ⟨A', c', rfl, ho, ((Below.refl _ w).alloc (Nat.le_refl _) _).grown hgrow (by simp) (by intro k hk; simp [Value.ownBlock] at hk; omega)⟩

theorem bclone_nil (n c : Nat) (w : World) : Calls Tryd.prog 23 #[.slice none n c] w fun e w' => e = .returned (.slice none 0 0) ∧ w = w' := by
  have q22 : ∀ (w : World) (a : Option Addr) (n c n' c' : Nat), (binOp .eql 29 (.slice a n c) (.slice none n' c')).run Tryd.prog w = .ok (.bool a.isNone) w := fun w a n c n' c' => Lib.run_eql_slice_nil w _ _ a n c n' c' Tryd.underlying29
  go_enter Tryd.func23, Tryd.ntmps23
  go_wp2
  go_ret
  exact ⟨rfl, rfl⟩

theorem bclone_any (A : Option Addr) (n c : Nat) (zs : List Int) (w : World) (B : Nat) (h : By w B A n zs) (hbig : n ≤ 140737488355328) :
    Calls Tryd.prog 23 #[.slice A n c] w (Cloned w n zs) := by
  cases A with
  | none =>
    obtain rfl : n = 0 := by
      rcases Nat.eq_zero_or_pos n with h0 | h0
      · exact h0
      · obtain ⟨b, o, hA, _⟩ := h.2.2 h0
        cases hA
    obtain rfl : zs = [] := List.eq_nil_of_length_eq_zero h.1
    refine (bclone_nil 0 c w).mono ?_
    rintro e w' ⟨rfl, rfl⟩
    exact ⟨none, 0, rfl, ⟨World.ownsRow_nil _ _ _ _, h.bs⟩, Below.refl _ _⟩
  | some a =>
    refine bclone_at a n c zs w h.1 h.bs hbig fun i hi => ?_
    obtain ⟨b, o, hA, _, hc⟩ := h.2.2 (by omega)
    injection hA with hA
    subst hA
    rw [← hc i hi]
    by_cases h0 : i = 0 <;> simp [Addr.add, h0]


theorem Bs.take {zs : List Int} (h : Bs zs) (k : Nat) : Bs (zs.take k) := fun j => by
  have := h j
  simp only [List.getD, List.getElem?_take] at this ⊢
  split
  · exact this
  · simp
theorem Bs.drop {zs : List Int} (h : Bs zs) (k : Nat) : Bs (zs.drop k) := fun j => by
  have := h (k + j)
  simpa only [List.getD, List.getElem?_drop] using this

theorem nothing (w : World) (b : Nat) : Own w b none 0 0 [] := ⟨World.ownsRow_nil _ _ _ _, fun j => by simp⟩

theorem Bs.append {xs ys : List Int} (h : Bs xs) (h' : Bs ys) : Bs (xs ++ ys) := fun j => by
  unfold List.getD
  rw [List.getElem?_append]
  split
  · exact h j
  · exact h' _

theorem By.of_blk {w : World} {g n : Nat} {zs : List Int} (h : Blk w g 5 (zs.map (Value.int .u8)).toArray) (hb : Bs zs) (hn : zs.length = n) : By w (g + 1) (some ⟨g, 0, none⟩) n zs := by
  refine ⟨hn, hb, fun _ => ⟨g, 0, rfl, by omega, fun j hj => ?_⟩⟩
  rw [Nat.zero_add, h.cell j]
  simp [List.getD, List.getElem?_eq_getElem (show j < zs.length by omega)]


theorem By.zero {w : World} {B n : Nat} {zs : List Int} (h : By w B none n zs) : n = 0 ∧ zs = [] := by
  have : n = 0 := by
    rcases Nat.eq_zero_or_pos n with h0 | h0
    · exact h0
    · obtain ⟨b, o, hA, _⟩ := h.2.2 h0
      cases hA
  subst this
  exact ⟨rfl, List.eq_nil_of_length_eq_zero h.1⟩

theorem By.news {w : World} {B n : Nat} {a : Addr} {zs : List Int} (h : By w B (some a) n zs) : ∀ j u, (zs.map (Value.int .u8))[j]? = some u → w.cell? (a.add j) = some u := by
  intro j u hj
  have hjn : j < n := by
    have := (List.getElem?_eq_some_iff.1 hj).1
    rw [List.length_map, h.1] at this
    exact this
  obtain ⟨b, o, hA, _, hc⟩ := h.2.2 (by omega)
  injection hA with hA
  subst hA
  have e : (⟨b, o, none⟩ : Addr).add j = ⟨b, o + j, none⟩ := by by_cases h0 : j = 0 <;> simp [Addr.add, h0]
  rw [e, hc j hjn, ← hj]
  have := h.1
  simp [List.getD, List.getElem?_eq_getElem (show j < zs.length by omega)]

/-- append of bytes, wherever they lie, onto bytes of one's own. -/
theorem append_by {w : World} {ops : Array Oper} {rest : List Oper} {o : Oper} {a : Act} {Q : Exit → Act → World → Prop} (hgd : o.guard = none) (s x : Operand)
    (ho : o.op = .call { callee := .builtin .append, args := #[s, x], argTypes := #[29, 29] }) (base : Nat) (A : Option Addr) (n c : Nat) (zs : List Int) (hs : a.eval s = .slice A n c) (hown : Own w base A n c zs)
    (B : Nat) (A' : Option Addr) (m d : Nat) (ys : List Int) (hx : a.eval x = .slice A' m d) (hr : By w B A' m ys) (hd : A' = none → d = 0) (hsum : n + m ≤ 140737488355328) (hbase : base ≤ w.heap.size)
    (h : ∀ A2 c2 w', Own w' base A2 (n + m) c2 (zs ++ ys) → w.grownBy w' (Value.slice A n c).ownBlock → wpList Tryd.prog ops Q rest (a.put o.dst (.slice A2 (n + m) c2)) w') : wpList Tryd.prog ops Q (o :: rest) a w := by
  obtain ⟨i0, hi, hz0, hz1, hz2⟩ := info_parts Tryd.info5
  cases A' with
  | none =>
    obtain ⟨rfl, rfl⟩ := hr.zero
    rw [hd rfl] at hx
    refine wpList_append_own_none hgd s x 29 ho base 5 i0 1 Tryd.underlying29 hi _ n _ hs hown.1 hx ?_
    have := h A c w (by rw [List.append_nil]; exact hown) (World.grownBy.refl _ _)
    exact this
  | some ad =>
    refine wpList_append_own _ hgd s x 29 ho base 5 i0 (.int .u8 0) 1 1 Tryd.underlying29 hi hz0 hz1 hz2 rfl (by decide) _ n _ hs hown.1 ad m d (ys.map (Value.int .u8)) hx (by rw [List.length_map, hr.1, Nat.mul_one]) hr.news (ints_oneCell _ _) (by unfold maxLen; omega) (by omega) hbase ?_
    intro v' w' hown' hg _
    rw [← List.map_append] at hown'
    obtain ⟨A2, c2, rfl, ho2⟩ := Own.of_row hown' (hown.2.append hr.bs)
    exact h A2 c2 w' ho2 hg

/-- The first k bytes are the same. -/
theorem same_step {xs ys : List Int} {k : Nat} (h : xs.take k = ys.take k) (hx : k < xs.length) (hy : k < ys.length) (he : xs.getD k 0 = ys.getD k 0) : xs.take (k + 1) = ys.take (k + 1) := by
  rw [List.take_succ_eq_append_getElem hx, List.take_succ_eq_append_getElem hy, h]
  simp [List.getD, hx, hy] at he
  rw [he]

set_option maxHeartbeats 400000 in
theorem same_any (A A' : Option Addr) (n c m d : Nat) (xs ys : List Int) (w : World) (B B' : Nat) (h : By w B A n xs) (h' : By w B' A' m ys) (hn : n ≤ 140737488355328) (hm : m ≤ 140737488355328) :
    Calls Tryd.prog 13 #[.slice A n c, .slice A' m d] w fun e w' => e = .returned (.bool (xs == ys)) ∧ ∃ q, w' = w.drewN q := by
  by_cases hnm : n = m
  · subst hnm
    have hl := Lib.hid h.1
    have hl' := Lib.hid h'.1
    have H := Lib.hid h
    have H' := Lib.hid h'
    clear h h'
    have hne : ((n : Int) != (n : Int)) = false := by simp
    go_enter Tryd.func13, Tryd.ntmps13
    go_wp2
    go_loopw [13] (fun i wr => ∃ k : Nat, k ≤ n ∧ i = .int .i64 k ∧ Hid (xs.take k = ys.take k) ∧ ∃ q, wr = w.drewN q) (fun i _ => n - (intOf i).toNat)
    case atStart => exact ⟨0, Nat.zero_le _, rfl, rfl, 0, rfl⟩
    case round =>
      obtain ⟨k, hk, rfl, hs, q, rfl⟩ := hrel
      by_cases hlt : k < n
      · obtain ⟨b, o, rfl, hb, hc⟩ := H.out.2.2 (by omega)
        obtain ⟨b', o', rfl, hb', hc'⟩ := H'.out.2.2 (by omega)
        have c1 := hc k hlt
        have c2 := hc' k hlt
        have k0 : (0 : Int) ≤ k := by omega
        clear hc hc'
        by_cases he : xs.getD k 0 = ys.getD k 0
        · have hst := Lib.hid (same_step hs.out (by rw [hl.out]; exact hlt) (by rw [hl'.out]; exact hlt) he)
          rw [he] at c1
          generalize ys.getD k 0 = z at c1 c2
          clear he
          have hz : (z != z) = false := by simp
          go_wp2
          go_quiet (fail)
          go_wp2
          go_roundw
          case rel => exact ⟨k + 1, by omega, by go_num, hst.out, _, rfl⟩
          case measure => simp [intOf]; omega
        · have hf : (xs == ys) = false := by
            rw [beq_eq_false_iff_ne]
            rintro rfl
            exact he rfl
          have hz : (xs.getD k 0 != ys.getD k 0) = true := by simpa using he
          generalize xs.getD k 0 = z at c1 hz
          generalize ys.getD k 0 = y at c2 hz
          clear he
          go_wp2
          go_quiet (fail)
          go_wp2
          go_ret
          exact ⟨ret_bool hf.symm, _, World.drewN_drewN _ _ _⟩
      · have ht : Hid ((xs == ys) = true) := by
          have := hs.out
          rw [List.take_of_length_le (by rw [hl.out]; omega), List.take_of_length_le (by rw [hl'.out]; omega)] at this
          exact beq_iff_eq.2 this
        go_wp2
        go_ret
        exact ⟨ret_bool ht.out.symm, _, rfl⟩
  · have hf : (xs == ys) = false := by
      rw [beq_eq_false_iff_ne]
      rintro rfl
      exact hnm (h.1.symm.trans h'.1)
    have hne : ((n : Int) != (m : Int)) = true := by simp; omega
    go_enter Tryd.func13, Tryd.ntmps13
    go_wp2
    go_ret
    exact ⟨ret_bool hf.symm, 0, rfl⟩

theorem By.bytesIn {w : World} {B : Nat} {A : Option Addr} {n : Nat} {zs : List Int} (h : By w B A n zs) : Lib.BytesIn w A n zs := by
  rcases Nat.eq_zero_or_pos n with h0 | h0
  · subst h0; exact Lib.BytesIn.nil _ _ _
  · obtain ⟨b, o, rfl, _, hc⟩ := h.2.2 h0
    exact Lib.BytesIn.of_cells (fun i hi => by
      have e : (⟨b, o, none⟩ : Addr).add i = ⟨b, o + i, none⟩ := by by_cases h0 : i = 0 <;> simp [Addr.add, h0]
      rw [e]; exact hc i hi)

theorem bytesOf_inj : ∀ {xs ys : List Int}, Bs xs → Bs ys → Lib.bytesOf xs = Lib.bytesOf ys → xs = ys
  | [], [], _, _, _ => rfl
  | [], _ :: _, _, _, h => by simp [Lib.bytesOf] at h
  | _ :: _, [], _, _, h => by simp [Lib.bytesOf] at h
  | x :: xs, y :: ys, hx, hy, h => by
    simp only [Lib.bytesOf, List.map_cons, List.cons.injEq] at h
    have h1 : 0 ≤ x ∧ x ≤ 255 := hx 0
    have h2 : 0 ≤ y ∧ y ≤ 255 := hy 0
    have e := congrArg UInt8.toNat h.1
    simp only [UInt8.toNat_ofNat'] at e
    have exy : x = y := by omega
    rw [exy, bytesOf_inj (fun j => hx (j + 1)) (fun j => hy (j + 1)) h.2]

theorem bequal_any (A A' : Option Addr) (n c m d : Nat) (xs ys : List Int) (w : World) (B B' : Nat) (h : By w B A n xs) (h' : By w B' A' m ys) :
    Calls Tryd.prog 22 #[.slice A n c, .slice A' m d] w fun e w' => e = .returned (.bool (xs == ys)) ∧ w = w' := by
  have c1 := h.bytesIn.convert (P := Tryd.prog) h.1 c 29 5 9 Tryd.underlying29 Tryd.underlying5 Tryd.underlying9
  have c2 := h'.bytesIn.convert (P := Tryd.prog) h'.1 d 29 5 9 Tryd.underlying29 Tryd.underlying5 Tryd.underlying9
  have he : ((strOfNums xs).toList == (strOfNums ys).toList) = (xs == ys) := by
    rw [Lib.strOfNums_toList, Lib.strOfNums_toList, Bool.eq_iff_iff, beq_iff_eq, beq_iff_eq]
    exact ⟨bytesOf_inj h.bs h'.bs, fun e => by rw [e]⟩
  have HE := Lib.hid he
  clear he h h'
  go_enter Tryd.func22, Tryd.ntmps22
  go_wp2
  go_ret
  exact ⟨ret_bool HE.out, rfl⟩

theorem equal_any (A A' : Option Addr) (n c m d : Nat) (xs ys : List Int) (w : World) (B B' : Nat) (h : By w B A n xs) (h' : By w B' A' m ys) :
    Calls Tryd.prog 43 #[.slice A n c, .slice A' m d] w fun e w' => e = .returned (.bool (xs == ys)) ∧ w = w' := by
  go_enter Tryd.func43, Tryd.ntmps43
  go_wp2_with (go_at_call 22; refine (bequal_any A A' n c m d xs ys w B B' h h').mono ?_; rintro e w' ⟨rfl, rfl⟩)
  go_ret
  exact ⟨rfl, rfl⟩

theorem makeC (n : Nat) (hn : n ≤ 140737488355400) (W : World) : (Instr.makeSlice 29 (.int .i64 0) (.int .i64 (n : Int))).run Tryd.prog W = .ok (.slice (some ⟨W.heap.size, 0, none⟩) 0 n) (W.alloc (.cells (madeCells #[.int .u8 0] n) 5)) := by
  obtain ⟨i0, hi, hz0, hz1, hz2⟩ := info_parts Tryd.info5
  have h := run_make (P := Tryd.prog) W 29 5 i0 (.int .u8 0) Tryd.underlying29 hi hz0 .i64 .i64 0 n (by omega) (by omega) (by rw [hz2]; omega) (by omega)
  simp only [Int.toNat_natCast, hz1, Nat.mul_one] at h
  exact h

set_option maxHeartbeats 1000000 in
theorem both_any (A : Option Addr) (n c : Nat) (xs : List Int) (A' : Option Addr) (m d : Nat) (ys : List Int) (w : World) (B : Nat) (hx : By w B A n xs) (hc : A = none → c = 0) (hy : By w B A' m ys) (hd : A' = none → d = 0) (hB : B ≤ w.heap.size) (hn : n ≤ 100000) (hm : m ≤ 100000) :
    Calls Tryd.prog 56 #[.slice A n c, .slice A' m d] w (Cloned w (n + m) (xs ++ ys)) := by
  have hmk := makeC (n + m) (by omega)
  rw [show ((n + m : Nat) : Int) = (n : Int) + m by omega] at hmk
  have ho0 : Own (w.alloc (.cells (madeCells #[.int .u8 0] (n + m)) 5)) w.heap.size (some ⟨w.heap.size, 0, none⟩) 0 (n + m) [] := ⟨World.ownsRow_made w _ _ (Nat.le_refl _) (by unfold maxLen; omega) (by rw [size_madeCells, Nat.mul_one]), fun j => by simp⟩
  have hx0 := hx.alloc hB (.cells (madeCells #[.int .u8 0] (n + m)) 5)
  have hy0 := hy.alloc hB (.cells (madeCells #[.int .u8 0] (n + m)) 5)
  have hb0 : Below w.heap.size w (w.alloc (.cells (madeCells #[.int .u8 0] (n + m)) 5)) := (Below.refl _ _).alloc (Nat.le_refl _) _
  have HO := Lib.hid ho0
  have HX := Lib.hid hx0
  have HY := Lib.hid hy0
  have HB := Lib.hid hb0
  clear ho0 hx0 hy0 hb0 hx hy
  go_enter Tryd.func56, Tryd.ntmps56
  go_wp2_with (first
    | (at_builtin; refine append_by rfl (.tmp 12) (.tmp 13) rfl w.heap.size (some ⟨w.heap.size, 0, none⟩) 0 (n + m) [] rfl HO.out B A n c xs rfl HX.out hc (by omega) (by simp) ?_; intro A1 c1 w1 ho1 hg1; have hB1 : Below w.heap.size w w1 := HB.out.grown hg1 (by simp) (fun k hk => Nat.le_of_eq (Option.some.inj hk)); have hY1 : By w1 B A' m ys := HY.out.below (((Below.refl _ _).grown hg1 (by simp) (fun k hk => Nat.le_of_eq (Option.some.inj hk)) : Below w.heap.size _ w1).mono hB); have ho1' : Own w1 w.heap.size A1 n c1 xs := (by simpa using ho1); have hs1 := hB1.size; clear ho1 hg1)
    | (at_builtin; refine append_by rfl (.tmp 14) (.tmp 15) rfl w.heap.size A1 n c1 xs rfl ho1' B A' m d ys rfl hY1 hd (by omega) hs1 ?_; intro A2 c2 w2 ho2 hg2))
  go_ret
  have hlo := ho1'.1.lt
  exact ⟨A2, c2, rfl, ho2, hB1.grown hg2 hs1 (fun k hk => (hlo k hk).1)⟩

end Go.Proofs.YtemfnckaehjhcaaDoor

/-
  Plain words on logs: spots, which entries may stand behind a Term, which logs may be. Nothing of the program is looked at here.
-/
namespace Go.Proofs.YtemfnckaehjhcaaDoor

/-- An entry: its Term, its Kind, its Data. -/
structure En where
  t : Int
  k : Int
  d : List Int
deriving DecidableEq
/-- A log: Base's Index and Term, and the entries. -/
structure Lg where
  bi : Int
  bt : Int
  es : List En
deriving DecidableEq

def e0 : En := ⟨0, 0, []⟩
def lg0 : Lg := ⟨0, 0, []⟩

/-- The Index of the spot behind n entries, and its Term. -/
def spI (bi : Int) (n : Nat) : Int := (bi + n) % 18446744073709551616
def spT (bt : Int) (es : List En) : Nat → Int
  | 0 => bt
  | n + 1 => (es.getD n e0).t
/-- Behind how many entries the spot of that Index is. -/
def numB (bi : Int) (n : Nat) (i : Int) : Option Nat := if ((i - bi) % 18446744073709551616).toNat ≤ n then some ((i - bi) % 18446744073709551616).toNat else none

theorem spI_lt (bi : Int) (n : Nat) : 0 ≤ spI bi n ∧ spI bi n < 18446744073709551616 := by unfold spI; omega
theorem spI_zero (bi : Int) (h : 0 ≤ bi) (h' : bi < 18446744073709551616) : spI bi 0 = bi := by unfold spI; omega
theorem spI_succ (bi : Int) (n : Nat) : (spI bi n + 1) % 18446744073709551616 = spI bi (n + 1) := by unfold spI; omega
theorem numB_hit {bi i : Int} {n k : Nat} (hk : k ≤ n) (hn : n ≤ 1000000) (h : spI bi k = i) : numB bi n i = some k := by
  unfold numB
  unfold spI at h
  have : ((i - bi) % 18446744073709551616).toNat = k := by omega
  rw [this, if_pos hk]
theorem numB_miss {bi i : Int} {n : Nat} (h0 : 0 ≤ i) (h1 : i < 18446744073709551616) (h : ∀ k, k ≤ n → spI bi k ≠ i) : numB bi n i = none := by
  unfold numB
  by_cases hc : ((i - bi) % 18446744073709551616).toNat ≤ n
  · exact absurd (by unfold spI; omega) (h _ hc)
  · rw [if_neg hc]
theorem numB_some {bi i : Int} {n k : Nat} (h0 : 0 ≤ i) (h1 : i < 18446744073709551616) (h : numB bi n i = some k) : k ≤ n ∧ spI bi k = i := by
  unfold numB at h
  by_cases hc : ((i - bi) % 18446744073709551616).toNat ≤ n
  · rw [if_pos hc] at h
    injection h with h
    unfold spI
    omega
  · rw [if_neg hc] at h
    cases h

/-- May an entry be? -/
def rightE (e : En) : Bool := decide (e.t ≠ 0) && (decide (e.d.length ≤ 1024) && (if e.k = 1 then decide (e.d.length = 0) else decide (e.k = 2 ∨ e.k = 3)))
/-- May entries stand behind a Term? -/
def behind (t : Int) : List En → Bool
  | [] => true
  | e :: r => rightE e && (decide (t ≤ e.t) && behind e.t r)
/-- Is there an Index for each of so many behind one? -/
def room (i : Int) (n : Nat) : Bool := decide (i + n ≤ 18446744073709551614)
/-- May a log be? -/
def right (l : Lg) : Bool := (decide (l.bi = 0) == decide (l.bt = 0)) && (decide (l.es.length ≤ 16) && (behind l.bt l.es && room l.bi l.es.length))

theorem right_parts {l : Lg} (h : right l = true) : (l.bi = 0 ↔ l.bt = 0) ∧ l.es.length ≤ 16 ∧ behind l.bt l.es = true ∧ l.bi + l.es.length ≤ 18446744073709551614 := by
  unfold right room at h
  simp only [Bool.and_eq_true, beq_iff_eq, decide_eq_true_eq, decide_eq_decide] at h
  exact h
theorem right_mk {l : Lg} (h1 : l.bi = 0 ↔ l.bt = 0) (h2 : l.es.length ≤ 16) (h3 : behind l.bt l.es = true) (h4 : l.bi + l.es.length ≤ 18446744073709551614) : right l = true := by
  unfold right room
  simp only [Bool.and_eq_true, beq_iff_eq, decide_eq_true_eq, decide_eq_decide]
  exact ⟨h1, h2, h3, h4⟩
theorem spI_right {l : Lg} (h : right l = true) (h0 : 0 ≤ l.bi) {k : Nat} (hk : k ≤ l.es.length) : spI l.bi k = l.bi + k := by
  have := (right_parts h).2.2.2
  unfold spI
  omega
theorem numB_right {l : Lg} (h : right l = true) (h0 : 0 ≤ l.bi) {i : Int} (hi : 0 ≤ i) (hi' : i < 18446744073709551616) : numB l.bi l.es.length i = if l.bi ≤ i ∧ i ≤ l.bi + l.es.length then some (i - l.bi).toNat else none := by
  have hp := right_parts h
  by_cases hc : l.bi ≤ i ∧ i ≤ l.bi + l.es.length
  · rw [if_pos hc]
    exact numB_hit (by omega) (by omega) (by unfold spI; omega)
  · rw [if_neg hc]
    exact numB_miss hi hi' fun k hk => by unfold spI; omega

/-- What a log tells of an Index: the number of the spot. -/
def Lg.num (l : Lg) (i : Int) : Option Nat := numB l.bi l.es.length i
def Lg.T (l : Lg) (n : Nat) : Int := spT l.bt l.es n
def Lg.I (l : Lg) (n : Nat) : Int := spI l.bi n
def Lg.lastI (l : Lg) : Int := l.I l.es.length
def Lg.lastT (l : Lg) : Int := l.T l.es.length

/-- The document's answers, of whatever log. -/
def rTerm (l : Lg) (i : Int) : Int × Bool := match l.num i with | some k => (l.T k, true) | none => (0, false)
def rHas (l : Lg) (i t : Int) : Bool := match l.num i with | some k => decide (l.T k = t) | none => false
def rNewer (ai at_ bi bt : Int) : Bool := if at_ ≠ bt then decide (bt < at_) else decide (bi < ai)
/-- Extend: the log, its end, the error. -/
def rExtE (l : Lg) (more : List En) : Int := if behind l.lastT more = false then 2 else if 16 < l.es.length + more.length ∨ room l.lastI more.length = false then 6 else 0
def rExtL (l : Lg) (more : List En) : Lg := if rExtE l more = 0 then ⟨l.bi, l.bt, l.es ++ more⟩ else lg0
def rExtI (l : Lg) (more : List En) : Int := if rExtE l more = 0 then (⟨l.bi, l.bt, l.es ++ more⟩ : Lg).lastI else 0
def rExtT (l : Lg) (more : List En) : Int := if rExtE l more = 0 then (⟨l.bi, l.bt, l.es ++ more⟩ : Lg).lastT else 0
/-- Behind how many entries the spot ahead of that Index is. -/
def Lg.ahead (l : Lg) (i : Int) : Option Nat := if i = 0 then none else l.num (i - 1)
def rCutE (l : Lg) (i : Int) : Int := if (l.ahead i).isSome then 0 else 4
def rCutL (l : Lg) (i : Int) : Lg := match l.ahead i with | some k => ⟨l.bi, l.bt, l.es.take k⟩ | none => lg0
def rComL (l : Lg) (i : Int) : Lg := match l.num i with | some k => ⟨i, l.T k, l.es.drop k⟩ | none => lg0
def rComB (l : Lg) (i : Int) : Bool := (l.num i).isSome
/-- From: the spot, the entries, the error. -/
def rFromE (l : Lg) (i n : Int) : Int := if (l.ahead i).isNone then 4 else if n < 0 then 2 else 0
def rFromI (l : Lg) (i n : Int) : Int := if rFromE l i n = 0 then i - 1 else 0
def rFromT (l : Lg) (i n : Int) : Int := if rFromE l i n = 0 then l.T ((l.ahead i).getD 0) else 0
def rFromL (l : Lg) (i n : Int) : List En := if rFromE l i n = 0 then (l.es.drop ((l.ahead i).getD 0)).take n.toNat else []
/-- Conf: which entry, of the first n. -/
def confN (l : Lg) (i : Int) : Nat → Option Nat
  | 0 => none
  | n + 1 => if (l.es.getD n e0).k = 3 ∧ l.I (n + 1) ≤ i then some n else confN l i n
def rConfI (l : Lg) (i : Int) : Int := match confN l i l.es.length with | some n => l.I (n + 1) | none => 0
def rConfD (l : Lg) (i : Int) : List Int := match confN l i l.es.length with | some n => (l.es.getD n e0).d | none => []
def rConfB (l : Lg) (i : Int) : Bool := (confN l i l.es.length).isSome
/-- Does a log meet an entry of that spot? -/
def met1 (l : Lg) (i t : Int) : Bool := decide (i ≤ l.bi) || rHas l i t
/-- How many of the entries behind a spot's Index are met. -/
def metN (l : Lg) (i : Int) : List En → Nat
  | [] => 0
  | e :: r => if met1 l ((i + 1) % 18446744073709551616) e.t = true then metN l ((i + 1) % 18446744073709551616) r + 1 else 0
def rMeetE (l : Lg) (pi pt : Int) (es : List En) : Int := if (behind pt es && room pi es.length) = false then 2 else if l.bi ≤ pi ∧ rHas l pi pt = false then 4 else 0
def rMeetN (l : Lg) (pi pt : Int) (es : List En) : Nat := if rMeetE l pi pt es = 0 then metN l pi es else 0
/-- Take: the log cut at the first that is not met, with it and all behind it. -/
def takeC (l : Lg) (pi pt : Int) (es : List En) : Lg := rCutL l (spI pi (rMeetN l pi pt es + 1))
def rTakeE (l : Lg) (pi pt : Int) (es : List En) : Int :=
  if rMeetE l pi pt es ≠ 0 then rMeetE l pi pt es else if rMeetN l pi pt es = es.length then 0
  else if rCutE l (spI pi (rMeetN l pi pt es + 1)) ≠ 0 then rCutE l (spI pi (rMeetN l pi pt es + 1)) else rExtE (takeC l pi pt es) (es.drop (rMeetN l pi pt es))
def rTakeL (l : Lg) (pi pt : Int) (es : List En) : Lg := if rTakeE l pi pt es ≠ 0 then lg0 else if rMeetN l pi pt es = es.length then l else rExtL (takeC l pi pt es) (es.drop (rMeetN l pi pt es))
def rTakeI (l : Lg) (pi pt : Int) (es : List En) : Int := if rTakeE l pi pt es ≠ 0 then 0 else spI pi es.length

theorem metN_le (l : Lg) : ∀ (es : List En) (i : Int), metN l i es ≤ es.length
  | [], _ => Nat.le_refl _
  | e :: r, i => by
    rw [metN]
    have := metN_le l r ((i + 1) % 18446744073709551616)
    split
    · simp; omega
    · exact Nat.zero_le _

/-- What the program answers: the document's answer of a log that may be. -/
def pw {α : Type} (l : Lg) (x y : α) : α := if right l = true then x else y

end Go.Proofs.YtemfnckaehjhcaaDoor

/-
  Words for whole structs in blocks of their own, and what is stored into them.
-/
namespace Go.Proofs.YtemfnckaehjhcaaDoor
open Go.RowKit

theorem heap_setCell_same (w : World) (g j : Nat) (cur : Array Value) (t : TypeId) (v : Value) (h : w.heap[g]? = some (.cells cur t (0, 0))) : (w.setCell ⟨g, j, none⟩ v).heap[g]? = some (.cells (cur.setIfInBounds j v) t (0, 0)) := Blk.set_ (w := w) (g := g) (t := t) (cs := cur) h j v
/-! ### Many cells stored -/
/-- A list with the cells vs laid over it from o on. -/
def lay (l : Array Value) (o : Nat) : List Value → Array Value
  | [] => l
  | v :: r => lay (l.setIfInBounds o v) (o + 1) r

theorem lay_size : ∀ (vs : List Value) (l : Array Value) (o : Nat), (lay l o vs).size = l.size
  | [], _, _ => rfl
  | v :: r, l, o => by rw [lay, lay_size r]; simp

theorem lay_get : ∀ (vs : List Value) (l : Array Value) (o j : Nat), o + vs.length ≤ l.size → (lay l o vs)[j]? = if o ≤ j ∧ j < o + vs.length then vs[j - o]? else l[j]?
  | [], l, o, j, _ => by simp [lay]; intro h1 h2; omega
  | v :: r, l, o, j, h => by
    rw [lay, lay_get r _ (o + 1) j (by simp at h ⊢; omega)]
    simp only [List.length_cons] at h ⊢
    rw [Array.getElem?_setIfInBounds]
    by_cases h1 : o + 1 ≤ j ∧ j < o + 1 + r.length
    · rw [if_pos h1, if_pos (by omega)]
      obtain ⟨k, hk⟩ : ∃ k, j - o = k + 1 := ⟨j - o - 1, by omega⟩
      rw [hk, List.getElem?_cons_succ]
      congr 1
      omega
    · rw [if_neg h1]
      by_cases h2 : o = j
      · subst h2
        rw [if_pos rfl, if_pos (by omega), if_pos (by omega)]
        simp
      · rw [if_neg h2, if_neg (by omega)]

theorem heap_setCells_same : ∀ (vs : List Value) (w : World) (g o : Nat) (cur : Array Value) (t : TypeId), w.heap[g]? = some (.cells cur t (0, 0)) →
    (w.setCells g o vs).heap[g]? = some (.cells (lay cur o vs) t (0, 0))
  | [], _, _, _, _, _, h => h
  | v :: r, w, g, o, cur, t, h => by
    rw [World.setCells, lay]
    exact heap_setCells_same r _ g (o + 1) _ t (heap_setCell_same w g o cur t v h)

theorem heap_setCells_other : ∀ (vs : List Value) (w : World) (g o k : Nat), k ≠ g → (w.setCells g o vs).heap[k]? = w.heap[k]?
  | [], _, _, _, _, _ => rfl
  | v :: r, w, g, o, k, h => by
    rw [World.setCells, heap_setCells_other r _ g (o + 1) k h]
    exact Below.heap_setCell w ⟨g, o, none⟩ v k h

theorem setCells_rest : ∀ (vs : List Value) (w : World) (g o : Nat), (w.setCells g o vs).os = w.os ∧ (w.setCells g o vs).tape = w.tape ∧ (w.setCells g o vs).output = w.output ∧ (w.setCells g o vs).heap.size = w.heap.size
  | [], _, _, _ => ⟨rfl, rfl, rfl, rfl⟩
  | v :: r, w, g, o => by
    rw [World.setCells]
    obtain ⟨h1, h2, h3, h4⟩ := setCells_rest r (w.setCell ⟨g, o, none⟩ v) g (o + 1)
    exact ⟨h1, h2, h3, by rw [h4]; simp [World.setCell]⟩

theorem Below.setCells {B : Nat} {a w : World} (h : Below B a w) {g : Nat} (hg : B ≤ g) (o : Nat) (vs : List Value) : Below B a (w.setCells g o vs) := by
  obtain ⟨h1, h2, h3, h4⟩ := setCells_rest vs w g o
  exact ⟨h1.trans h.os, h2.trans h.tape, h3.trans h.output, by rw [h4]; exact h.size, fun k hk => (heap_setCells_other vs w g o k (by omega)).trans (h.block k hk)⟩

theorem Blk.setCells {w : World} {g : Nat} {t : TypeId} {cs : Array Value} (h : Blk w g t cs) (o : Nat) (vs : List Value) : Blk (w.setCells g o vs) g t (lay cs o vs) := heap_setCells_same vs w g o cs t h
theorem Blk.setCells_far {w : World} {g k : Nat} {t : TypeId} {cs : Array Value} (h : Blk w g t cs) (hk : g ≠ k) (o : Nat) (vs : List Value) : Blk (w.setCells k o vs) g t cs := (heap_setCells_other vs w k o g hk).trans h
/-- A whole block written over. -/
theorem lay_whole (c : Array Value) (vs : List Value) (h : c.size = vs.length) : lay c 0 vs = vs.toArray := by
  apply Array.ext_getElem?
  intro j
  rw [lay_get vs c 0 j (by omega)]
  simp only [Nat.zero_le, true_and, Nat.zero_add, Nat.sub_zero, List.getElem?_toArray]
  by_cases hj : j < vs.length
  · rw [if_pos hj]
  · rw [if_neg hj, Array.getElem?_eq_none (by omega), List.getElem?_eq_none (by omega)]

/-- Nothing but block g has turned. -/
structure Only (g : Nat) (w w' : World) : Prop where
  os : w'.os = w.os
  tape : w'.tape = w.tape
  output : w'.output = w.output
  size : w'.heap.size = w.heap.size
  block : ∀ k, k ≠ g → w'.heap[k]? = w.heap[k]?
theorem Only.below {g base : Nat} {w w' : World} (h : Only g w w') (hb : base ≤ g) : Below base w w' := ⟨h.os, h.tape, h.output, Nat.le_of_eq h.size.symm, fun i hi => h.block i (by omega)⟩
theorem Only.keep {g g' : Nat} {w w' : World} {t : TypeId} {cs : Array Value} (h : Only g w w') (hb : Blk w g' t cs) (hn : g' ≠ g) : Blk w' g' t cs := (h.block g' hn).trans hb
theorem setCells_only (vs : List Value) : ∀ (w : World) (g o : Nat), Only g w (w.setCells g o vs) := by
  induction vs with
  | nil => intro w g o; exact ⟨rfl, rfl, rfl, rfl, fun _ _ => rfl⟩
  | cons v r ih =>
    intro w g o
    rw [World.setCells]
    have h := ih (w.setCell ⟨g, o, none⟩ v) g (o + 1)
    exact ⟨h.os, h.tape, h.output, by rw [h.size]; simp [World.setCell], fun k hk => (h.block k hk).trans (Below.heap_setCell w _ v k hk)⟩
theorem Blk.rng {w : World} {g : Nat} {t : TypeId} {cs : List Value} (h : Blk w g t cs.toArray) : w.rangeAt g 0 cs := fun j v hj => by
  rw [Nat.zero_add, h.cell, List.getElem?_toArray]
  exact hj
/-- A whole struct into a block that is known whole. -/
theorem wpList_store_blk {P : Program} {ops : Array Oper} {rest : List Oper} {op : Oper} {a : Act} {Q : Exit → Act → World → Prop} (w : World) (hgd : op.guard = none) (ty : TypeId) (x y : Operand) (ho : op.op = .store ty x y)
    (g : Nat) (c : Array Value) (t : TypeId) (cells : List Value) (hx : a.eval x = .pointer (some ⟨g, 0, none⟩)) (hy : a.eval y = .agg cells.toArray) (hb : Blk w g t c)
    (hc : c.size = cells.length) (hi : (P.info? ty).map (·.size) = some cells.length) (h1 : ∀ v ∈ cells, v.oneCell' = true)
    (h : ∀ w', Blk w' g t cells.toArray → Only g w w' → wpList P ops Q rest (a.put op.dst undef) w') : wpList P ops Q (op :: rest) a w := by
  refine wpList_store_mid hgd ty x y ho g 0 cells.toArray hx hy ?_ (by simpa using hi) (all_oneCell_toArray h1) ?_
  · intro j hj
    simp only [Nat.zero_add]
    have hj' : j < c.size := by simpa [hc] using hj
    refine ⟨?_, hb.frozen j⟩
    rw [hb.cell j]
    simp [hj']
  · rw [List.toList_toArray]
    refine h _ ?_ (setCells_only _ _ _ _)
    unfold Blk
    rw [heap_setCells_same cells w g 0 c t hb, lay_whole c cells hc]
/-- A store of a whole struct, at the operation. -/
theorem wp_store_blk {P : Program} {o : Oper} {a : Act} {K : Act → World → Prop} {Q : Exit → Act → World → Prop} {w : World} (ty : TypeId) (x y : Operand) (ho : o.op = .store ty x y)
    (g : Nat) (c : Array Value) (t : TypeId) (cells : List Value) (hx : a.eval x = .pointer (some ⟨g, 0, none⟩)) (hy : a.eval y = .agg cells.toArray) (hb : Blk w g t c)
    (hc : c.size = cells.length) (hi : (P.info? ty).map (·.size) = some cells.length) (h1 : ∀ v ∈ cells, v.oneCell' = true)
    (h : ∀ w', Blk w' g t cells.toArray → Only g w w' → K (a.put o.dst undef) w') : Oper.wp P o a w K Q := by
  refine wp_store_mid ty x y ho g 0 cells.toArray hx hy ?_ (by simpa using hi) (all_oneCell_toArray h1) ?_
  · intro j hj
    simp only [Nat.zero_add]
    have hj' : j < c.size := by simpa [hc] using hj
    refine ⟨?_, hb.frozen j⟩
    rw [hb.cell j]
    simp [hj']
  · rw [List.toList_toArray]
    refine h _ ?_ (setCells_only _ _ _ _)
    unfold Blk
    rw [heap_setCells_same cells w g 0 c t hb, lay_whole c cells hc]
theorem ret_cell_tmp {P : Program} {fn : Func} {p u : Tmp} {ty : TypeId} (h : fn.results = #[.cell p ty, .tmp u]) (tmps : Array Value) (w : World) (g : Nat) (t : TypeId) (cs : Array Value) (d : TypeDesc)
    (hp : tmps.getD p undef = .pointer (some ⟨g, 0, none⟩)) (hg : Blk w g t cs) (hu : P.underlying ty = some d) (hd : (match d with | .struct _ | .array _ _ => true | _ => false) = true) (hi : (P.info? ty).map (·.size) = some cs.size) :
    (results fn tmps).run P w = .ok (.tuple #[.agg cs, tmps.getD u undef]) w := by
  rw [results_cell_tmp h, hp]
  simp only [asAddr, Sem.run_pure, Result.andThen_ok, run_loadVar_row w g t ty cs (0, 0) d hg hu hd hi]

theorem ret_cell2_tmp {P : Program} {fn : Func} {p q u : Tmp} {ty ty2 : TypeId} (h : fn.results = #[.cell p ty, .cell q ty2, .tmp u]) (tmps : Array Value) (w : World) (g g2 : Nat) (t t2 : TypeId) (cs cs2 : Array Value) (d d2 : TypeDesc)
    (hp : tmps.getD p undef = .pointer (some ⟨g, 0, none⟩)) (hg : Blk w g t cs) (hu : P.underlying ty = some d) (hd : (match d with | .struct _ | .array _ _ => true | _ => false) = true) (hi : (P.info? ty).map (·.size) = some cs.size)
    (hp2 : tmps.getD q undef = .pointer (some ⟨g2, 0, none⟩)) (hg2 : Blk w g2 t2 cs2) (hu2 : P.underlying ty2 = some d2) (hd2 : (match d2 with | .struct _ | .array _ _ => true | _ => false) = true) (hi2 : (P.info? ty2).map (·.size) = some cs2.size) :
    (results fn tmps).run P w = .ok (.tuple #[.agg cs, .agg cs2, tmps.getD u undef]) w := by
  have hp' : tmps[p]?.getD undef = .pointer (some ⟨g, 0, none⟩) := by simpa using hp
  have hp2' : tmps[q]?.getD undef = .pointer (some ⟨g2, 0, none⟩) := by simpa using hp2
  simp [results, h, hp', hp2', asAddr, run_loadVar_row w g t ty cs (0, 0) d hg hu hd hi, run_loadVar_row w g2 t2 ty2 cs2 (0, 0) d2 hg2 hu2 hd2 hi2]

/-- The next operation is a load. -/
theorem at_load {P : Program} {ops : Array Oper} {Q : Exit → Act → World → Prop} {rest : List Oper} {dst : Option Tmp} {t ty : TypeId} {x : Operand} {pos : String} {aft : Array Edge} {g : Option (Nat × Bool)} {a : Act} {w : World}
    (h : wpList P ops Q (⟨dst, .load t x, ty, pos, aft, g⟩ :: rest) a w) : wpList P ops Q (⟨dst, .load t x, ty, pos, aft, g⟩ :: rest) a w := h
/-- The next operation is a store. -/
theorem at_store {P : Program} {ops : Array Oper} {Q : Exit → Act → World → Prop} {rest : List Oper} {dst : Option Tmp} {t ty : TypeId} {x y : Operand} {pos : String} {aft : Array Edge} {g : Option (Nat × Bool)} {a : Act} {w : World}
    (h : wpList P ops Q (⟨dst, .store t x y, ty, pos, aft, g⟩ :: rest) a w) : wpList P ops Q (⟨dst, .store t x y, ty, pos, aft, g⟩ :: rest) a w := h
/-- Number i is taken first; its slot is told. -/
theorem take_d {P : Program} {ops : Array Oper} {Q : Exit → Act → World → Prop} {md : Region.Mode} {S : World → Prop} {i : Nat} {d : Tmp} {oi : Oper} {v : Value} {fuel : Nat} {listed : Array Bool} {a : Act} {w : World} (hi : ops[i]? = some oi) (hd : oi.dst = some d)
    (hs : Region.noSelect ops = true) (hf : Region.free md ops listed i = true) (hr : (Region.ready md ops listed).contains i = true)
    (hQ : ∀ c a w, Q (.panic c) (a.put (some d) v) w → Q (.panic c) a w) (hy : YieldsIf P ops S oi v a) (hS : S w)
    (h : wpAnyH P md ops Q S fuel (listed.setIfInBounds i true) (a.put (some d) v) w) : wpAnyH P md ops Q S (fuel + 1) listed a w :=
  wpAnyH_take hi hs hf hr (by rw [hd]; exact hQ) hy hS (by rw [hd]; exact h)
/-- A load of a row under a guard that holds. -/
theorem wpList_load_if {P : Program} {ops : Array Oper} {rest : List Oper} {op : Oper} {a : Act} {w : World} {Q : Exit → Act → World → Prop} (hw : Region.wanted op (yielded ops a.tmps) = true) (ty : TypeId) (x : Operand) (ho : op.op = .load ty x)
    (b o : Nat) (hx : a.eval x = .pointer (some ⟨b, o, none⟩)) (cs : List Value) (d : TypeDesc) (hc : w.rangeAt b o cs)
    (hu : P.underlying ty = some d) (hd : d.isRow = true) (hi : (P.info? ty).map (·.size) = some cs.length)
    (h : wpList P ops Q rest (a.put op.dst (.agg cs.toArray)) w) : wpList P ops Q (op :: rest) a w := by
  unfold wpList
  rw [if_pos hw]
  exact .inl (wp_load_mid ty x ho b o hx cs d hc hu hd hi h)

end Go.Proofs.YtemfnckaehjhcaaDoor

/-
  Entries in memory: rows of them, read and owned.
-/
namespace Go.Proofs.YtemfnckaehjhcaaDoor
open Go.RowKit

theorem add_at (b o i : Nat) : (⟨b, o, none⟩ : Addr).add i = ⟨b, o + i, none⟩ := by by_cases h0 : i = 0 <;> simp [Addr.add, h0]
/-- An entry as it lies in memory. -/
structure Ec where
  t : Int
  k : Int
  A : Option Addr
  n : Nat
  c : Nat
  d : List Int
def Ec.en (x : Ec) : En := ⟨x.t, x.k, x.d⟩
def Ec.cs (x : Ec) : List Value := [.int .u64 x.t, .int .i64 x.k, .slice x.A x.n x.c]
theorem Ec.cs_len (x : Ec) : x.cs.length = 3 := rfl
theorem Ec.one (x : Ec) : ∀ v ∈ x.cs, v.oneCell' = true := by simp [Ec.cs, Value.oneCell']
def rowE : List Ec → List Value
  | [] => []
  | x :: r => x.cs ++ rowE r
theorem rowE_len : ∀ xs : List Ec, (rowE xs).length = xs.length * 3
  | [] => rfl
  | x :: r => by
    rw [rowE, List.length_append, rowE_len r, Ec.cs_len, List.length_cons]
    omega
theorem rowE_append : ∀ xs ys : List Ec, rowE (xs ++ ys) = rowE xs ++ rowE ys
  | [], _ => rfl
  | x :: r, ys => by rw [List.cons_append, rowE, rowE_append r ys, rowE, List.append_assoc]
theorem rowE_at : ∀ (xs : List Ec) (j i : Nat) (x : Ec), xs[j]? = some x → i < 3 → (rowE xs)[j * 3 + i]? = x.cs[i]?
  | [], j, _, _, h, _ => by simp at h
  | y :: r, 0, i, x, h, hi => by
    rw [List.getElem?_cons_zero, Option.some.injEq] at h
    subst h
    rw [rowE, Nat.zero_mul, Nat.zero_add, List.getElem?_append_left (by rw [Ec.cs_len]; exact hi)]
  | y :: r, j + 1, i, x, h, hi => by
    rw [List.getElem?_cons_succ] at h
    rw [rowE, List.getElem?_append_right (by rw [Ec.cs_len]; omega), Ec.cs_len, show (j + 1) * 3 + i - 3 = j * 3 + i by omega]
    exact rowE_at r j i x h hi
theorem rowE_one : ∀ xs : List Ec, ∀ v ∈ rowE xs, v.oneCell' = true
  | [], v, h => by cases h
  | x :: r, v, h => by
    rw [rowE] at h
    rcases List.mem_append.1 h with h | h
    · exact x.one v h
    · exact rowE_one r v h
theorem rowE_drop : ∀ (k : Nat) (xs : List Ec), (rowE xs).drop (k * 3) = rowE (xs.drop k)
  | 0, xs => by simp
  | k + 1, [] => by simp [rowE]
  | k + 1, x :: r => by
    rw [rowE, List.drop_succ_cons, ← rowE_drop k r, List.drop_append, Ec.cs_len, List.drop_eq_nil_of_le (by rw [Ec.cs_len]; omega), List.nil_append, show (k + 1) * 3 - 3 = k * 3 by omega]
theorem rowE_take : ∀ (k : Nat) (xs : List Ec), (rowE xs).take (k * 3) = rowE (xs.take k)
  | 0, xs => by simp [rowE]
  | k + 1, [] => by simp [rowE]
  | k + 1, x :: r => by
    rw [rowE, List.take_succ_cons, rowE, ← rowE_take k r, List.take_append, Ec.cs_len, List.take_of_length_le (by rw [Ec.cs_len]; omega), show (k + 1) * 3 - 3 = k * 3 by omega]

/-- Its Data lie below block B. -/
structure Ec.ok (w : World) (B : Nat) (x : Ec) : Prop where
  by_ : By w B x.A x.n x.d
  nc : x.n ≤ x.c
  nil : x.A = none → x.c = 0
  n : x.n ≤ 100000
  t0 : 0 ≤ x.t
  t1 : x.t < 18446744073709551616
section
variable {w w' : World} {B B' n c : Nat} {A : Option Addr} {x : Ec} {es : List En}
theorem Ec.ok.below (h : x.ok w B) (hb : Below B w w') : x.ok w' B := ⟨h.by_.below hb, h.nc, h.nil, h.n, h.t0, h.t1⟩
theorem Ec.ok.more (h : x.ok w B) (hb : B ≤ B') : x.ok w B' := ⟨h.by_.more hb, h.nc, h.nil, h.n, h.t0, h.t1⟩
theorem Ec.ok.alloc (h : x.ok w B) (hB : B ≤ w.heap.size) (o : Obj) : x.ok (w.alloc o) B := ⟨h.by_.alloc hB o, h.nc, h.nil, h.n, h.t0, h.t1⟩

/-- The slice '.slice A n _' holds these entries, below block B. -/
def Es (w : World) (B : Nat) (A : Option Addr) (n : Nat) (es : List En) : Prop :=
  ∃ xs : List Ec, xs.map Ec.en = es ∧ xs.length = n ∧ (∀ x ∈ xs, x.ok w B) ∧ (0 < n → ∃ b o, A = some ⟨b, o, none⟩ ∧ b < B ∧ w.rangeAt b o (rowE xs))
theorem Es.len (h : Es w B A n es) : es.length = n := by
  obtain ⟨xs, rfl, rfl, _⟩ := h
  simp
theorem Es.none_ : Es w B A 0 [] := ⟨[], rfl, rfl, fun x hx => (by cases hx), fun h => absurd h (by omega)⟩
theorem Es.keep (h : Es w B A n es) (hk : ∀ p : Addr, p.block < B → w'.cell? p = w.cell? p) : Es w' B A n es := by
  obtain ⟨xs, h1, h2, h3, h4⟩ := h
  refine ⟨xs, h1, h2, fun x hx => ?_, fun hn => ?_⟩
  · have := h3 x hx
    exact ⟨this.by_.keep hk, this.nc, this.nil, this.n, this.t0, this.t1⟩
  · obtain ⟨b, o, e, hb, hc⟩ := h4 hn
    exact ⟨b, o, e, hb, fun j v hj => (hk ⟨b, o + j, none⟩ hb).trans (hc j v hj)⟩
theorem Es.below (h : Es w B A n es) (hb : Below B w w') : Es w' B A n es := h.keep fun _ hp => hb.cell hp
theorem Es.more (h : Es w B A n es) (hB : B ≤ B') : Es w B' A n es := by
  obtain ⟨xs, h1, h2, h3, h4⟩ := h
  refine ⟨xs, h1, h2, fun x hx => (h3 x hx).more hB, fun hn => ?_⟩
  obtain ⟨b, o, e, hb, hc⟩ := h4 hn
  exact ⟨b, o, e, by omega, hc⟩
theorem Es.alloc (h : Es w B A n es) (hB : B ≤ w.heap.size) (o : Obj) : Es (w.alloc o) B A n es := h.keep fun p hp => World.cell?_alloc_lt w o p (by omega)
theorem Es.drew (h : Es w B A n es) : Es w.drew B A n es := h.keep fun _ _ => rfl
theorem Es.drewN (h : Es w B A n es) (k : Nat) : Es (w.drewN k) B A n es := h.keep fun _ _ => rfl
theorem Es.setCell (h : Es w B A n es) {p : Addr} (hB : B ≤ p.block) (u : Value) : Es (w.setCell p u) B A n es :=
  h.keep fun q hq => World.cell?_setCell_other w p q u (fun e => by subst e; omega)
/-- What lies at place j. -/
theorem Es.at_ (h : Es w B A n es) {j : Nat} (hj : j < n) : ∃ b o x, A = some ⟨b, o, none⟩ ∧ b < B ∧ Ec.en x = es.getD j e0 ∧ x.ok w B ∧ w.rangeAt b (o + j * 3) x.cs := by
  obtain ⟨xs, h1, h2, h3, h4⟩ := h
  obtain ⟨b, o, e, hb, hc⟩ := h4 (by omega)
  have hx : xs[j]? = some (xs[j]'(by omega)) := List.getElem?_eq_getElem (by omega)
  refine ⟨b, o, xs[j]'(by omega), e, hb, ?_, h3 _ (List.getElem_mem _), fun i v hi => ?_⟩
  · subst h1
    simp [List.getD, hx]
  · have hi3 : i < 3 := (List.getElem?_eq_some_iff.1 hi).1
    rw [Nat.add_assoc]
    exact hc _ _ ((rowE_at xs j i _ hx hi3).trans hi)
/-- A part of the entries. -/
theorem Es.cut (h : Es w B A n es) {k m : Nat} (hm : m ≤ n - k) (hk : k ≤ n) (hc : n ≤ c) : Es w B (if c = k then A else A.map (·.add (k * 3))) m ((es.drop k).take m) := by
  obtain ⟨xs, h1, h2, h3, h4⟩ := h
  refine ⟨(xs.drop k).take m, ?_, ?_, fun x hx => h3 x (List.mem_of_mem_drop (List.mem_of_mem_take hx)), fun hp => ?_⟩
  · rw [← h1, List.map_take, List.map_drop]
  · rw [List.length_take, List.length_drop]
    omega
  · obtain ⟨b, o, rfl, hb, hcell⟩ := h4 (by omega)
    rw [if_neg (by omega)]
    refine ⟨b, o + k * 3, ?_, hb, fun j v hj => ?_⟩
    · by_cases h0 : k = 0
      · simp [Addr.add, h0]
      · have : ¬ k * 3 = 0 := by omega
        exact congrArg some (if_neg this)
    · rw [Nat.add_assoc]
      refine hcell _ _ ?_
      rw [← rowE_take, ← rowE_drop, List.getElem?_take] at hj
      split at hj
      · rw [List.getElem?_drop] at hj
        exact hj
      · cases hj
theorem Es.take (h : Es w B A n es) {m : Nat} (hm : m ≤ n) : Es w B A m (es.take m) := by
  have := h.cut (k := 0) (c := n + 1) (m := m) (by omega) (Nat.zero_le _) (by omega)
  rw [if_neg (by omega), List.drop_zero] at this
  have e : A.map (·.add (0 * 3)) = A := by cases A <;> simp [Addr.add]
  rw [e] at this
  exact this

/-- The slice owns its entries, and their Data, in blocks from base on. -/
def Eo (w : World) (base : Nat) (A : Option Addr) (n c : Nat) (es : List En) : Prop :=
  ∃ xs : List Ec, xs.map Ec.en = es ∧ w.ownsRow base 56 3 (.slice A n c) n (rowE xs) ∧ ∀ x ∈ xs, Own w base x.A x.n x.c x.d ∧ x.n ≤ 100000 ∧ 0 ≤ x.t ∧ x.t < 18446744073709551616
theorem Eo.len {base : Nat} (h : Eo w base A n c es) : es.length = n := by
  obtain ⟨xs, rfl, h2, _⟩ := h
  have := h2.1
  rw [rowE_len] at this
  simp
  omega
theorem Eo.form {base : Nat} (h : Eo w base A n c es) : (A = none ∧ n = 0 ∧ c = 0) ∨ ∃ g, A = some ⟨g, 0, none⟩ ∧ base ≤ g ∧ g < w.heap.size ∧ n ≤ c := by
  obtain ⟨xs, _, h, _⟩ := h
  rcases h.2 with ⟨hv, hn⟩ | ⟨g, cap, cur, hv, hb, hh, hnc, _⟩
  · injection hv with h1 h2 h3
    exact .inl ⟨h1, hn, h3⟩
  · injection hv with h1 h2 h3
    exact .inr ⟨g, h1, hb, Blk.lt (t := 56) hh, by omega⟩
theorem Eo.cap {base : Nat} (h : Eo w base A n c es) : n ≤ c := by
  rcases h.form with ⟨_, h1, h2⟩ | ⟨g, _, _, _, h1⟩ <;> omega
theorem Eo.nil {base : Nat} (h : Eo w base A n c es) (hA : A = none) : c = 0 := by
  rcases h.form with ⟨_, _, h2⟩ | ⟨g, h1, _⟩
  · exact h2
  · rw [hA] at h1; cases h1
theorem Eo.read {base : Nat} (h : Eo w base A n c es) : Es w w.heap.size A n es := by
  have hf := h.form
  obtain ⟨xs, h1, h2, h3⟩ := h
  refine ⟨xs, h1, ?_, fun x hx => ?_, fun hn => ?_⟩
  · have := h2.1
    rw [rowE_len] at this
    omega
  · obtain ⟨ho, hn, ht0, ht1⟩ := h3 x hx
    exact ⟨ho.by, ho.cap, ho.nil, hn, ht0, ht1⟩
  · rcases hf with ⟨_, h0, _⟩ | ⟨g, rfl, _, hlt, _⟩
    · omega
    · refine ⟨g, 0, rfl, hlt, fun j v hj => ?_⟩
      rw [Nat.zero_add, h2.cellAt j (by rw [← h2.1]; exact (List.getElem?_eq_some_iff.1 hj).1)]
      exact hj
theorem World.ownsRow.below {base e size n : Nat} {v : Value} {xs : List Value} (h : w.ownsRow base e size v n xs) (hb : Below w.heap.size w w') : w'.ownsRow base e size v n xs := by
  refine ⟨h.1, ?_⟩
  rcases h.2 with hv | ⟨g, cap, cur, hv, hbs, hh, r⟩
  · exact .inl hv
  · exact .inr ⟨g, cap, cur, hv, hbs, (hb.block g (Blk.lt (t := e) hh)).trans hh, r⟩
theorem World.ownsRow.down {base base' e size n : Nat} {v : Value} {xs : List Value} (h : w.ownsRow base e size v n xs) (hb : base' ≤ base) : w.ownsRow base' e size v n xs := by
  refine ⟨h.1, ?_⟩
  rcases h.2 with hv | ⟨g, cap, cur, hv, hbs, r⟩
  · exact .inl hv
  · exact .inr ⟨g, cap, cur, hv, by omega, r⟩
theorem Eo.below {base : Nat} (h : Eo w base A n c es) (hb : Below w.heap.size w w') : Eo w' base A n c es := by
  obtain ⟨xs, h1, h2, h3⟩ := h
  exact ⟨xs, h1, World.ownsRow.below h2 hb, fun x hx => ⟨(h3 x hx).1.below hb, (h3 x hx).2⟩⟩
theorem Eo.down {base base' : Nat} (h : Eo w base A n c es) (hb : base' ≤ base) : Eo w base' A n c es := by
  obtain ⟨xs, h1, h2, h3⟩ := h
  exact ⟨xs, h1, World.ownsRow.down h2 hb, fun x hx => ⟨(h3 x hx).1.down hb, (h3 x hx).2⟩⟩
theorem Eo.nothing (w : World) (base : Nat) : Eo w base none 0 0 [] := ⟨[], rfl, World.ownsRow_nil _ _ _ _, fun x hx => by cases hx⟩
end

theorem Tryd.i54 : (Tryd.prog.info? 56).map (·.size) = some 3 := by kernel_rfl
theorem Tryd.i24 : (Tryd.prog.info? 24).map (·.size) = some 2 := by kernel_rfl
theorem Tryd.i27 : (Tryd.prog.info? 65).map (·.size) = some 3 := by kernel_rfl
theorem Tryd.i81 : (Tryd.prog.info? 113).map (·.size) = some 3 := by kernel_rfl

end Go.Proofs.YtemfnckaehjhcaaDoor

/-
  Which entries may be: the program's entryMayBe, the document's RightEntry.
-/
namespace Go.Proofs.YtemfnckaehjhcaaDoor
open Go.RowKit

theorem rightE_zero (k : Int) (d : List Int) : rightE ⟨0, k, d⟩ = false := rfl
theorem rightE_long (t k : Int) (d : List Int) (h : 1024 < d.length) : rightE ⟨t, k, d⟩ = false := by
  unfold rightE
  rw [decide_eq_false (show ¬ d.length ≤ 1024 by omega)]
  simp
theorem rightE_one (t : Int) (d : List Int) (h0 : t ≠ 0) (h : d.length ≤ 1024) : rightE ⟨t, 1, d⟩ = decide (d.length = 0) := by
  unfold rightE
  simp [h0, h]
theorem rightE_two (t : Int) (k : Int) (d : List Int) (h0 : t ≠ 0) (h : d.length ≤ 1024) (hk : k = 2 ∨ k = 3) : rightE ⟨t, k, d⟩ = true := by
  unfold rightE
  rcases hk with rfl | rfl <;> simp [h0, h]
theorem rightE_else (t : Int) (k : Int) (d : List Int) (hk : k ≠ 1) (hk2 : k ≠ 2) (hk3 : k ≠ 3) : rightE ⟨t, k, d⟩ = false := by
  unfold rightE
  simp [hk, hk2, hk3]

section
variable (t k : Int) (A : Option Addr) (n c : Nat) (d : List Int) (hd : d.length = n) (ht : 0 ≤ t) (w : World)
include hd ht
theorem rightentry_any : Calls Tryd.prog 35 #[.agg #[.int .u64 t, .int .i64 k, .slice A n c]] w fun e w' => e = .returned (.bool (rightE ⟨t, k, d⟩)) ∧ Below w.heap.size w w' := by
  have HB := Lib.hid (show Below w.heap.size w (w.alloc (.cells #[.int .u64 t, .int .i64 k, .slice A n c] 56)) from (Below.refl _ _).alloc (Nat.le_refl _) _)
  by_cases h0 : t = 0
  · subst h0
    rw [rightE_zero]
    clear hd
    go_enter Tryd.func35, Tryd.ntmps35
    go_wp2
    go_ret
    exact ⟨rfl, HB.out⟩
  · have h0' : (t == 0) = false := by simp [h0]
    by_cases hn : n ≤ 1024
    · have hn' : decide (1024 < (n : Int)) = false := decide_eq_false (by omega)
      by_cases h1 : k = 1
      · subst h1
        rw [rightE_one t d h0 (by omega), hd]
        clear hd h0 ht
        go_enter Tryd.func35, Tryd.ntmps35
        go_wp2
        go_ret
        exact ⟨ret_bool (by rw [Bool.eq_iff_iff]; simp), HB.out⟩
      · have h1' : (k == 1) = false := by simp [h1]
        by_cases h2 : k = 2
        · subst h2
          rw [rightE_two t 2 d h0 (by omega) (.inl rfl)]
          clear hd h0 ht h1
          go_enter Tryd.func35, Tryd.ntmps35
          go_wp2
          go_ret
          exact ⟨rfl, HB.out⟩
        · have h2' : (k == 2) = false := by simp [h2]
          by_cases h3 : k = 3
          · subst h3
            rw [rightE_two t 3 d h0 (by omega) (.inr rfl)]
            clear hd h0 ht h1 h2
            go_enter Tryd.func35, Tryd.ntmps35
            go_wp2
            go_ret
            exact ⟨rfl, HB.out⟩
          · have h3' : (k == 3) = false := by simp [h3]
            rw [rightE_else t k d h1 h2 h3]
            clear hd h0 ht h1 h2 h3
            go_enter Tryd.func35, Tryd.ntmps35
            go_wp2
            go_ret
            exact ⟨rfl, HB.out⟩
    · have hn' : decide (1024 < (n : Int)) = true := decide_eq_true (by omega)
      rw [rightE_long t k d (by omega)]
      clear hd h0 ht hn
      go_enter Tryd.func35, Tryd.ntmps35
      go_wp2
      go_ret
      exact ⟨rfl, HB.out⟩

theorem entrymaybe_any : Calls Tryd.prog 116 #[.agg #[.int .u64 t, .int .i64 k, .slice A n c]] w fun e w' => e = .returned (.bool (rightE ⟨t, k, d⟩)) ∧ Below w.heap.size w w' := by
  have HB := Lib.hid (show Below w.heap.size w (w.alloc (.cells #[.int .u64 t, .int .i64 k, .slice A n c] 56)) from (Below.refl _ _).alloc (Nat.le_refl _) _)
  by_cases h1 : k = 1
  · subst h1
    by_cases h0 : t = 0
    · subst h0
      rw [rightE_zero]
      clear hd
      go_enter Tryd.func116, Tryd.ntmps116
      go_wp2
      go_ret
      exact ⟨rfl, HB.out⟩
    · have h0' : decide (0 < t) = true := decide_eq_true (by omega)
      have hz : rightE ⟨t, 1, d⟩ = ((n : Int) == 0) := by
        by_cases hn : n ≤ 1024
        · rw [rightE_one t d h0 (by omega), hd, Bool.eq_iff_iff]; simp
        · rw [rightE_long t 1 d (by omega), Bool.eq_iff_iff]; simp; omega
      rw [hz]
      clear hd h0 ht hz
      go_enter Tryd.func116, Tryd.ntmps116
      go_wp2
      go_ret
      exact ⟨rfl, HB.out⟩
  · have h1' : (k == 1) = false := by simp [h1]
    by_cases h23 : k = 2 ∨ k = 3
    · have hz : rightE ⟨t, k, d⟩ = (decide (0 < t) && decide ((n : Int) ≤ 1024)) := by
        by_cases h0 : t = 0
        · subst h0
          rw [rightE_zero]; rfl
        · rw [decide_eq_true (show 0 < t by omega), Bool.true_and]
          by_cases hn : n ≤ 1024
          · rw [rightE_two t k d h0 (by omega) h23, decide_eq_true (show (n : Int) ≤ 1024 by omega)]
          · rw [rightE_long t k d (by omega), decide_eq_false (show ¬ (n : Int) ≤ 1024 by omega)]
      rw [hz]
      clear hz hd
      by_cases h0 : t = 0
      · subst h0
        rcases h23 with rfl | rfl
        all_goals
          go_enter Tryd.func116, Tryd.ntmps116
          go_wp2
          go_ret
          exact ⟨rfl, HB.out⟩
      · have h0' : decide (0 < t) = true := decide_eq_true (by omega)
        rw [h0', Bool.true_and]
        clear h0 ht
        rcases h23 with rfl | rfl
        all_goals
          clear h1
          go_enter Tryd.func116, Tryd.ntmps116
          go_wp2
          go_ret
          exact ⟨rfl, HB.out⟩
    · have h2' : (k == 2) = false := by simp; omega
      have h3' : (k == 3) = false := by simp; omega
      rw [rightE_else t k d h1 (by omega) (by omega)]
      clear hd ht h23 h1
      go_enter Tryd.func116, Tryd.ntmps116
      go_wp2
      go_ret
      exact ⟨rfl, HB.out⟩
end

end Go.Proofs.YtemfnckaehjhcaaDoor

/-
  Room for numbers: the document's Room, the program's ends and fits.
-/
namespace Go.Proofs.YtemfnckaehjhcaaDoor
open Go.RowKit

section
variable (bi bt : Int) (A : Option Addr) (n c : Nat) (h0 : 0 ≤ bi) (h1 : bi < 18446744073709551616) (hn : n ≤ 1000000) (w : World)
include h0 h1 hn
theorem ends_any : Calls Tryd.prog 115 #[.agg #[.int .u64 bi, .int .u64 bt, .slice A n c]] w fun e w' => e = .returned (.bool (room bi n)) ∧ Below w.heap.size w w' := by
  have HB := Lib.hid (show Below w.heap.size w (w.alloc (.cells #[.int .u64 bi, .int .u64 bt, .slice A n c] 113)) from (Below.refl _ _).alloc (Nat.le_refl _) _)
  by_cases hi : bi + n < 18446744073709551616
  · have e1 : (bi + (n : Int)) % 18446744073709551616 = bi + n := by omega
    have e2 : decide (bi ≤ bi + (n : Int)) = true := decide_eq_true (by omega)
    have hr : room bi n = decide (bi + (n : Int) ≤ 18446744073709551614) := rfl
    rw [hr]
    clear hr
    go_enter Tryd.func115, Tryd.ntmps115
    go_wp2
    go_ret
    exact ⟨rfl, HB.out⟩
  · have e1 : IntKind.u64.wrap (bi + (n : Int)) = bi + n - 18446744073709551616 := by rw [IntKind.wrap_u64]; omega
    have e2 : decide (bi ≤ bi + (n : Int) - 18446744073709551616) = false := decide_eq_false (by omega)
    have hr : room bi n = false := by unfold room; rw [decide_eq_false_iff_not]; omega
    rw [hr]
    clear hr hi
    go_enter Tryd.func115, Tryd.ntmps115
    go_wp2
    go_ret
    exact ⟨rfl, HB.out⟩

theorem fits_any : Calls Tryd.prog 99 #[.agg #[.int .u64 bi, .int .u64 bt, .slice A n c]] w fun e w' => e = .returned (.bool (decide (n ≤ 16) && room bi n)) ∧ Below w.heap.size w w' := by
  have b0 : Blk (w.alloc (.cells #[.int .u64 bi, .int .u64 bt, .slice A n c] 113)) w.heap.size 113 #[.int .u64 bi, .int .u64 bt, .slice A n c] := Blk.new w 113 _
  have hb0 : Below w.heap.size w (w.alloc (.cells #[.int .u64 bi, .int .u64 bt, .slice A n c] 113)) := (Below.refl _ _).alloc (Nat.le_refl _) _
  have HB := Lib.hid hb0
  have HS := Lib.hid hb0.size
  by_cases hi : n ≤ 16
  · have e1 : decide ((n : Int) ≤ 16) = true := decide_eq_true (by omega)
    have EN := Lib.hid (fun w => ends_any bi bt A n c h0 h1 hn w)
    rw [decide_eq_true hi, Bool.true_and]
    clear hi
    go_enter Tryd.func99, Tryd.ntmps99
    go_wp2_with (go_at_call 115; refine (EN.out _).mono ?_; rintro e w' ⟨rfl, hb⟩)
    go_ret
    exact ⟨rfl, HB.out.trans (hb.mono HS.out)⟩
  · have e1 : decide ((n : Int) ≤ 16) = false := decide_eq_false (by omega)
    rw [decide_eq_false hi, Bool.false_and]
    clear hi
    go_enter Tryd.func99, Tryd.ntmps99
    go_wp2
    go_ret
    exact ⟨rfl, HB.out⟩
end

end Go.Proofs.YtemfnckaehjhcaaDoor

/-
  Which entries may stand behind a Term: the program's mayStand.
-/
namespace Go.Proofs.YtemfnckaehjhcaaDoor
open Go.RowKit

theorem drop_en (es : List En) (k : Nat) (h : k < es.length) : es.drop k = es.getD k e0 :: es.drop (k + 1) := by
  rw [List.drop_eq_getElem_cons h]
  congr 1
  simp [List.getD, h]
theorem behind_step (t : Int) (es : List En) (k : Nat) (h : k < es.length) : behind t (es.drop k) = (rightE (es.getD k e0) && (decide (t ≤ (es.getD k e0).t) && behind (es.getD k e0).t (es.drop (k + 1)))) := by
  rw [drop_en es k h, behind]

/-- The three cells of an entry. -/
theorem rng3 {w : World} {b o : Nat} {x : Ec} (h : w.rangeAt b o x.cs) : w.cell? ⟨b, o, none⟩ = some (.int .u64 x.t) ∧ w.cell? ⟨b, o + 1, none⟩ = some (.int .i64 x.k) ∧ w.cell? ⟨b, o + 2, none⟩ = some (.slice x.A x.n x.c) :=
  ⟨h 0 _ rfl, h 1 _ rfl, h 2 _ rfl⟩

set_option maxHeartbeats 1000000 in
theorem maystand_any (t : Int) (A : Option Addr) (n c : Nat) (es : List En) (B : Nat) (w : World) (h0 : 0 ≤ t) (hn : n ≤ 1000000) (h : Es w B A n es) (hB : B ≤ w.heap.size) :
    Calls Tryd.prog 100 #[.int .u64 t, .slice A n c] w fun e w' => e = .returned (.bool (behind t es)) ∧ Below w.heap.size w w' := by
  have HL := Lib.hid h.len
  have H := Lib.hid h
  clear h
  go_enter Tryd.func100, Tryd.ntmps100
  go_wp2
  go_loopw [0, 9] (fun tv i wr => ∃ (k : Nat) (u : Int), k ≤ n ∧ i = .int .i64 k ∧ tv = .int .u64 u ∧ 0 ≤ u ∧ Hid (behind t es = behind u (es.drop k)) ∧ Below w.heap.size w wr) (fun _ i _ => n - (intOf i).toNat)
  case atStart => exact ⟨0, t, Nat.zero_le _, rfl, rfl, h0, Lib.hid (by rw [List.drop_zero]), Below.refl _ _⟩
  case round =>
    obtain ⟨k, u, hk, rfl, rfl, hu, hbe, hb⟩ := hrel
    by_cases hlt : k < n
    · obtain ⟨b, o, x, rfl, hbB, hx, hok, hr⟩ := (H.out.below (hb.mono hB)).at_ hlt
      have hst := behind_step u es k (by rw [HL.out]; exact hlt)
      obtain ⟨c0, c1, c2⟩ := rng3 hr
      rw [← hx] at hst
      have ht0 := hok.t0
      have HN := Lib.hid hok.by_.1
      obtain ⟨xt, xk, xA, xn, xc, xd⟩ := x
      simp only [Ec.en] at hst c0 c1 c2 ht0 HN
      have EM := Lib.hid (fun w => entrymaybe_any xt xk xA xn xc xd HN.out ht0 w)
      have HST := Lib.hid (hbe.out.trans hst)
      clear hst hr hok hx hbe
      go_wp2_with fail
      refine (EM.out _).mono ?_
      rintro e w1 ⟨rfl, hb1⟩
      have bx := (Blk.new wr 56 #[.int .u64 xt, .int .i64 xk, .slice xA xn xc]).below hb1 (by simp)
      have d0 : w1.cell? ⟨wr.heap.size, 0, none⟩ = some (.int .u64 xt) := bx.cell 0
      have hB1 : Below w.heap.size w w1 := (hb.alloc hb.size _).trans (hb1.mono (by have := hb.size; simp; omega))
      have HB1 := Lib.hid hB1
      clear hb1 bx hB1 c0 c1 c2
      cases hre : rightE ⟨xt, xk, xd⟩ with
      | false =>
        rw [hre] at HST
        clear hre
        go_wp2
        go_ret
        exact ⟨ret_bool (by rw [HST.out]; rfl), HB1.out⟩
      | true =>
        rw [hre] at HST
        clear hre
        by_cases hle : u ≤ xt
        · have hle' : decide (xt < u) = false := decide_eq_false (by omega)
          have HS2 : Hid (behind t es = behind xt (es.drop (k + 1))) := Lib.hid (HST.out.trans (by simp [hle]))
          clear HST
          go_wp2
          go_roundw
          case rel => exact ⟨k + 1, xt, by omega, by go_num, rfl, ht0, HS2, HB1.out⟩
          case measure => simp [intOf]; omega
        · have hle' : decide (xt < u) = true := decide_eq_true (by omega)
          have HS2 : Hid (behind t es = false) := Lib.hid (HST.out.trans (by simp [hle]))
          clear HST hle
          go_wp2
          go_ret
          exact ⟨ret_bool HS2.out.symm, HB1.out⟩
    · obtain rfl : k = n := by omega
      have ht : Hid (behind t es = true) := by
        rw [hbe.out, List.drop_of_length_le (by rw [HL.out]; omega)]
        exact Lib.hid rfl
      go_wp2
      go_ret
      exact ⟨ret_bool ht.out.symm, hb⟩

end Go.Proofs.YtemfnckaehjhcaaDoor

/-
  Which entries may stand behind a Term: the document's Behind.
-/
namespace Go.Proofs.YtemfnckaehjhcaaDoor
open Go.RowKit

end Go.Proofs.YtemfnckaehjhcaaDoor

/-
  Logs as values in memory; which may be: the program's mayBe, the document's Right.
-/
namespace Go.Proofs.YtemfnckaehjhcaaDoor
open Go.RowKit
theorem Blk.fresh {w : World} {t : TypeId} {cs : Array Value} {n : Nat} (h : n = w.heap.size) : Blk (w.alloc (.cells cs t)) n t cs := by subst h; exact Blk.new w t cs

/-- A log's value: its entries below block B, its numbers in their bounds. -/
structure Lr (w : World) (B : Nat) (A : Option Addr) (n c : Nat) (l : Lg) : Prop where
  es : Es w B A n l.es
  nc : n ≤ c
  nil : A = none → c = 0
  n : n ≤ 1000
  bi0 : 0 ≤ l.bi
  bi1 : l.bi < 18446744073709551616
  bt0 : 0 ≤ l.bt
  bt1 : l.bt < 18446744073709551616
section
variable {w w' : World} {B B' n c : Nat} {A : Option Addr} {l : Lg}
theorem Lr.below (h : Lr w B A n c l) (hb : Below B w w') : Lr w' B A n c l := ⟨h.es.below hb, h.nc, h.nil, h.n, h.bi0, h.bi1, h.bt0, h.bt1⟩
theorem Lr.more (h : Lr w B A n c l) (hb : B ≤ B') : Lr w B' A n c l := ⟨h.es.more hb, h.nc, h.nil, h.n, h.bi0, h.bi1, h.bt0, h.bt1⟩
theorem Lr.alloc (h : Lr w B A n c l) (hB : B ≤ w.heap.size) (o : Obj) : Lr (w.alloc o) B A n c l := ⟨h.es.alloc hB o, h.nc, h.nil, h.n, h.bi0, h.bi1, h.bt0, h.bt1⟩
theorem Lr.drew (h : Lr w B A n c l) : Lr w.drew B A n c l := ⟨h.es.drew, h.nc, h.nil, h.n, h.bi0, h.bi1, h.bt0, h.bt1⟩
theorem Lr.len (h : Lr w B A n c l) : l.es.length = n := h.es.len
end

set_option maxHeartbeats 1000000 in
theorem maybe_any (l : Lg) (A : Option Addr) (n c B : Nat) (w : World) (h : Lr w B A n c l) (hB : B ≤ w.heap.size) :
    Calls Tryd.prog 78 #[.agg #[.int .u64 l.bi, .int .u64 l.bt, .slice A n c]] w fun e w' => e = .returned (.bool (right l)) ∧ Below w.heap.size w w' := by
  obtain ⟨bi, bt, es⟩ := l
  obtain ⟨hes, hnc, hnil, hn, hi0, hi1, ht0, ht1⟩ := h
  simp only at hes hi0 hi1 ht0 ht1
  have hr : right ⟨bi, bt, es⟩ = ((decide (n ≤ 16) && room bi n) && (((bi == 0) == (bt == 0)) && behind bt es)) := by
    unfold right
    simp only [hes.len]
    rw [show (decide (bi = 0) == decide (bt = 0)) = ((bi == 0) == (bt == 0)) from rfl]
    generalize ((bi == 0) == (bt == 0)) = X
    generalize decide (n ≤ 16) = Y
    generalize room bi n = Z
    generalize behind bt es = U
    revert X Y Z U
    decide
  have FT := Lib.hid (fun w => fits_any bi bt A n c hi0 hi1 (by omega) w)
  have MS := Lib.hid (fun W (hW : Below B w W) => maystand_any bt A n c es B W ht0 (by omega) (hes.below hW) (Nat.le_trans hB hW.size))
  have HB := Lib.hid (show Below w.heap.size w (w.alloc (.cells #[.int .u64 bi, .int .u64 bt, .slice A n c] 113)) from (Below.refl _ _).alloc (Nat.le_refl _) _)
  have B0 := Lib.hid (Blk.new w 113 #[.int .u64 bi, .int .u64 bt, .slice A n c])
  rw [hr]
  clear hr hes
  generalize (decide (n ≤ 16) && room bi n) = X at *
  cases X with
  | false =>
    go_enter Tryd.func78, Tryd.ntmps78
    go_wp2_with (go_at_call 99; refine (FT.out _).mono ?_; rintro e w1 ⟨rfl, hb1⟩)
    go_ret
    exact ⟨rfl, HB.out.trans (hb1.mono HB.out.size)⟩
  | true =>
    rw [Bool.true_and]
    cases hY : ((bi == 0) == (bt == 0)) with
    | false =>
      go_enter Tryd.func78, Tryd.ntmps78
      go_wp2_with (go_at_call 99; refine (FT.out _).mono ?_; rintro e w1 ⟨rfl, hb1⟩; have bx := B0.out.below hb1 (by simp); have d0 : w1.cell? ⟨w.heap.size, 0, none⟩ = some (.int .u64 bi) := bx.cell 0; have d1 : w1.cell? ⟨w.heap.size, 1, none⟩ = some (.int .u64 bt) := bx.cell 1; have d2 : w1.cell? ⟨w.heap.size, 2, none⟩ = some (.slice A n c) := bx.cell 2; have HB1 := Lib.hid (HB.out.trans (hb1.mono HB.out.size)); clear hb1 bx)
      go_ret
      exact ⟨rfl, HB1.out⟩
    | true =>
      rw [Bool.true_and]
      go_enter Tryd.func78, Tryd.ntmps78
      go_wp2_with (first | (go_at_call 99; refine (FT.out _).mono ?_; rintro e w1 ⟨rfl, hb1⟩; have bx := B0.out.below hb1 (by simp); have d0 : w1.cell? ⟨w.heap.size, 0, none⟩ = some (.int .u64 bi) := bx.cell 0; have d1 : w1.cell? ⟨w.heap.size, 1, none⟩ = some (.int .u64 bt) := bx.cell 1; have d2 : w1.cell? ⟨w.heap.size, 2, none⟩ = some (.slice A n c) := bx.cell 2; have HB1 := Lib.hid (HB.out.trans (hb1.mono HB.out.size)); clear hb1 bx) | (go_at_call 100; refine (MS.out _ (HB1.out.mono hB)).mono ?_; rintro e w2 ⟨rfl, hb2⟩))
      go_ret
      exact ⟨rfl, HB1.out.trans (hb2.mono HB1.out.size)⟩

end Go.Proofs.YtemfnckaehjhcaaDoor

/-
  Whether two spots are the same.
-/
namespace Go.Proofs.YtemfnckaehjhcaaDoor
open Go.RowKit

theorem u24 : Tryd.prog.underlying 24 = some (.struct (Tryd.prog.fieldsOf 24)) := by kernel_rfl
theorem st24 : Tryd.prog.stoodInHeld 24 = false := by kernel_rfl
theorem g24 : Tryd.prog.eqGuardType Tryd.prog.depth 24 = false := by kernel_rfl
theorem f24 : (Tryd.prog.fieldsOf 24).toList = [⟨"Index", 22, 0, false, "", "", 0⟩, ⟨"Term", 22, 1, false, "", "", 8⟩] := by kernel_rfl
theorem part_int (w : World) (t : TypeId) (k : IntKind) (h : Tryd.prog.underlying t = some (.int k)) (xs : Array Value) (i : Nat) (v : Value) (hv : xs[i]? = some v) : (part t xs i).run Tryd.prog w = .ok v w := by
  simp [part, isAgg, run_underlying h, hv]
theorem eqAin (w : World) (a b a' b' : Int) : (Op.equalIn 10000 24 (.agg #[.int .u64 a, .int .u64 b]) (.agg #[.int .u64 a', .int .u64 b'])).run Tryd.prog w = .ok (decide (a = a' ∧ b = b')) w := by
  have p1 := fun xs i v hv => part_int w 22 .u64 Tryd.underlying22 xs i v hv
  have q1 : (Op.equalIn 9999 22 (.int .u64 a) (.int .u64 a')).run Tryd.prog w = .ok (a == a') w := run_equalIn_int w 9998 22 .u64 .u64 a a' Tryd.underlying22
  have q2 : (Op.equalIn 9999 22 (.int .u64 b) (.int .u64 b')).run Tryd.prog w = .ok (b == b') w := run_equalIn_int w 9998 22 .u64 .u64 b b' Tryd.underlying22
  rw [run_equalIn_struct w 9999 24 _ _ u24 st24, f24]
  unfold Op.eqFields
  rw [if_pos (by decide), Sem.run_bind, p1 _ 0 (.int .u64 a) rfl, Result.andThen_ok, Sem.run_bind, p1 _ 0 (.int .u64 a') rfl, Result.andThen_ok, Sem.run_bind, q1, Result.andThen_ok]
  by_cases h1 : a = a'
  · subst h1
    rw [if_neg (by simp)]
    unfold Op.eqFields
    rw [if_pos (by decide), Sem.run_bind, p1 _ 1 (.int .u64 b) rfl, Result.andThen_ok, Sem.run_bind, p1 _ 1 (.int .u64 b') rfl, Result.andThen_ok, Sem.run_bind, q2, Result.andThen_ok]
    by_cases h2 : b = b'
    · subst h2
      rw [if_neg (by simp)]
      simp [Op.eqFields]
    · rw [if_pos (by simp [h2])]
      simp [h2]
  · rw [if_pos (by simp [h1])]
    simp [h1]
/-- Are two spots the same? -/
def Eqa (a b a' b' : Int) : Bool := decide (a = a' ∧ b = b')
theorem eqA (w : World) (a b a' b' : Int) : (binOp .eql 24 (.agg #[.int .u64 a, .int .u64 b]) (.agg #[.int .u64 a', .int .u64 b'])).run Tryd.prog w = .ok (.bool (Eqa a b a' b')) w := by
  rw [run_eql_struct, eqAin]
  rfl
theorem neA (w : World) (a b a' b' : Int) : (binOp .neq 24 (.agg #[.int .u64 a, .int .u64 b]) (.agg #[.int .u64 a', .int .u64 b'])).run Tryd.prog w = .ok (.bool (!Eqa a b a' b')) w := by
  rw [run_neq_struct, eqAin]
  rfl
theorem eqGA (op : BinOp) (x y : Operand) (xs ys : Array Value) (w : World) : (eqGuard op 24 x y (.agg xs) (.agg ys)).run Tryd.prog w = .ok () w := run_eqGuard_agg w op 24 x y xs ys g24
end Go.Proofs.YtemfnckaehjhcaaDoor
