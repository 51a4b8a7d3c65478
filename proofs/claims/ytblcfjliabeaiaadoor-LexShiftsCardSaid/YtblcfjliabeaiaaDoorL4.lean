/-
  The place behind the blanks and remarks that stand at a place: the program's behindBlanks.
-/
import Derived.Test.YtblcfjliabeaiaaDoorL3
import Derived.Test.YtblcfjliabeaiaaDoorShelf
namespace Go.Proofs.YtblcfjliabeaiaaDoor
open Go.RowKit Go.Shelf
attribute [local go_sem] Oper.semAt_some

def blkB (b : Int) : Bool := b == 9 || b == 10 || b == 13 || b == 32
/-- How many bytes of blanks and remarks a text begins with; within a remark, or not. -/
def blkN : Bool → List UInt8 → Nat
  | _, [] => 0
  | true, b :: r => blkN ((b.toNat : Int) != 10) r + 1
  | false, b :: r => if Lib.hasPrefix (b :: r) [45, 45] = true then blkN true r + 1 else if blkB (b.toNat : Int) = true then blkN false r + 1 else 0
def blkE (l : List UInt8) (p : Nat) : Nat := p + blkN false (l.drop p)
theorem blkN_le : ∀ (rm : Bool) (l : List UInt8), blkN rm l ≤ l.length
  | _, [] => by simp [blkN]
  | true, b :: r => by have := blkN_le ((b.toNat : Int) != 10) r; simp [blkN]; omega
  | false, b :: r => by
    have h1 := blkN_le true r
    have h2 := blkN_le false r
    simp only [blkN, List.length_cons]
    split
    · omega
    · split <;> omega
theorem blkE_le {l : List UInt8} {p : Nat} (h : p ≤ l.length) : p ≤ blkE l p ∧ blkE l p ≤ l.length := by
  have := blkN_le false (l.drop p)
  rw [List.length_drop] at this
  unfold blkE
  omega
theorem drop_at {l : List UInt8} {i : Nat} (h : i < l.length) : ∃ b r, l.drop i = b :: r ∧ l.drop (i + 1) = r ∧ (b.toNat : Int) = bt l i := by
  refine ⟨l[i], l.drop (i + 1), (List.drop_eq_getElem_cons h), rfl, ?_⟩
  simp [bt, List.getD, h]
theorem ext_list (l : List UInt8) (i : Nat) : ((⟨l.toArray⟩ : ByteArray).extract i l.length).data.toList = l.drop i := by
  simp [ByteArray.data_extract]
  exact List.take_of_length_le (by simp)

set_option maxRecDepth 100000 in
set_option maxHeartbeats 4000000 in
theorem blanks_any (l : List UInt8) (p : Nat) (hl : l.length ≤ 1000000) (hp : p ≤ l.length) (w : World) :
    Calls Tryd.prog 58 #[tx l, .int .i64 (p : Int)] w fun e w' => e = .returned (.int .i64 (blkE l p : Nat)) ∧ Below w.heap.size w w' := by
  have HS : Hid (blkE l p = p + blkN false (l.drop p)) := Lib.hid rfl
  generalize blkE l p = R at *
  refine (callsIn_wide (n := 9)).1 ?_
  refine callsIn_of_wp_marks Tryd.func58 rfl trivial ?_ rfl
  simp only [Tryd.ntmps58, List.size_toArray, List.length_cons, List.length_nil, Nat.reduceAdd, Nat.reduceSub, Array.replicate_succ, Array.replicate_zero, List.push_toArray, List.append_toArray, List.nil_append, List.cons_append]
  gi_wp2_with (refine ⟨trivial, ?_⟩; gi_at_call 65; refine (callsIn_wide.2 (from_any _ _ _)).mono ?_; rintro e w' ⟨rfl, rfl⟩)
  obtain ⟨g, hg⟩ : ∃ g, w.heap.size = g := ⟨_, rfl⟩
  obtain ⟨W0, hW0⟩ : ∃ W0, (((((w.alloc (.cells #[tx l] 9)).alloc (.cells #[.int .i64 0] 3)).alloc (.cells #[.bool false] 4)).alloc (.cells #[tx l] 9)).alloc (.cells #[.int .i64 (p : Int)] 3)) = W0 := ⟨_, rfl⟩
  have b0 : Blk W0 g 9 #[tx l] := by rw [← hW0, ← hg]; exact ((((Blk.new _ _ _).alloc _).alloc _).alloc _).alloc _
  have b1 : Blk W0 (g + 1) 3 #[.int .i64 0] := by rw [← hW0, ← hg]; exact (((Blk.fresh (by simp)).alloc _).alloc _).alloc _
  have b2 : Blk W0 (g + 2) 4 #[.bool false] := by rw [← hW0, ← hg]; exact ((Blk.fresh (by simp)).alloc _).alloc _
  have b3 : Blk W0 (g + 3) 9 #[tx l] := by rw [← hW0, ← hg]; exact (Blk.fresh (by simp)).alloc _
  have b4 : Blk W0 (g + 3 + 1) 3 #[.int .i64 (p : Int)] := by rw [← hW0, ← hg]; exact Blk.fresh (by simp)
  have hb0 : Below g w W0 := by rw [← hW0, ← hg]; exact (((((Below.refl _ _).alloc (Nat.le_refl _) _).alloc (by simp) _).alloc (by simp; omega) _).alloc (by simp; omega) _).alloc (by simp; omega) _
  have hs0 : W0.heap.size = g + 5 := by rw [← hW0, ← hg]; simp
  rw [hW0]
  rw [hg]
  clear hW0
  refine wpIn_rangeFunc_mem rfl (by omega) (gf := 79) (lb := #[.pointer (some ⟨g + 3 + 1, 0, none⟩), .pointer (some ⟨g + 3, 0, none⟩)]) rfl trivial (enters_of Tryd.func79 (by kernel_rfl) rfl)
    (from1_mem 8 (by omega) l p hl (by omega) g (g + 3) W0 (by omega) b3 b4) (by omega) (by omega) (fun _ => rfl)
    (fun k W => ∃ rm, Hid (blkN false (l.drop p) = k + blkN rm (l.drop (p + k))) ∧ Blk W g 9 #[tx l] ∧ Blk W (g + 1) 3 #[.int .i64 0] ∧ Blk W (g + 2) 4 #[.bool rm] ∧ Below g w W)
    (fun c k W => c = .ret ∧ Hid (blkN false (l.drop p) = k) ∧ Blk W (g + 1) 3 #[.int .i64 ((p + k : Nat) : Int)] ∧ Below g w W)
    (fun k X Y hs hb => by
      obtain ⟨rm, h0, h1, h2, h3, h4⟩ := hs
      exact ⟨rm, h0, h1.below hb (by omega), h2.below hb (by omega), h3.below hb (by omega), h4.trans (hb.mono (by omega))⟩)
    (fun _ _ _ _ hs hb => ⟨hs.1, hs.2.1, hs.2.2.1.below hb (by omega), hs.2.2.2.trans (hb.mono (by omega))⟩) ⟨false, Lib.hid (by simp), b0, b1, b2, hb0⟩
    (fun k a _ => a = { tmps := #[tx l, .int .i64 (p : Int), .pointer (some ⟨g, 0, none⟩), undef, .pointer (some ⟨g + 1, 0, none⟩), .pointer (some ⟨g + 1 + 1, 0, none⟩), .int .i64 ((p + k : Nat) : Int), .int .u8 (bt l (p + k)), tx l, .int .i64 (p : Int), .func (.func 79) #[] #[.pointer (some ⟨g + 1 + 1 + 1 + 1, 0, none⟩), .pointer (some ⟨g + 1 + 1 + 1, 0, none⟩)], .int .i64 ((p + k : Nat) : Int), .int .u8 (bt l (p + k)), undef, undef, undef, undef, undef, undef, undef, undef, undef, undef, undef, undef, undef, undef, undef, undef, undef, undef, undef, undef, undef, undef, undef, undef, undef, undef, undef], defers := [] })
    (fun k a X r o o' hs hr ho => hs) ?assign ?body ?done ?stop
  case assign =>
    intro lb k W hI hsz hk
    simp only [byE]
    gi_wp2
    exact ⟨Fixed.refl _ _ _, hI, rfl⟩
  case body =>
    rintro lb k a1 W ⟨rm, i0, i1, i2, i3, i4⟩ rfl hsz hk
    have e0 : W.cell? ⟨g, 0, none⟩ = some (.string ⟨l.toArray⟩) := i1.cell 0
    have e1 : W.cell? ⟨g + 1, 0, none⟩ = some (.int .i64 0) := i2.cell 0
    have f1 : W.frozen? ⟨g + 1, 0, none⟩ = false := i2.frozen 0
    have e2 : W.cell? ⟨g + 1 + 1, 0, none⟩ = some (.bool rm) := i3.cell 0
    have f2 : W.frozen? ⟨g + 1 + 1, 0, none⟩ = false := i3.frozen 0
    obtain ⟨b, r, hd, hd1, hb⟩ := drop_at (l := l) (i := p + k) (by omega)
    have HP := Lib.hid (fun W' => Tryd.strings_HasPrefix ((⟨l.toArray⟩ : ByteArray).extract (p + k) l.length) ⟨#[45, 45]⟩ W')
    rw [ext_list, hd] at HP
    rw [hd] at i0
    have q0 : (0 : Int) ≤ ((p + k : Nat) : Int) := by omega
    have q1 : ((p + k : Nat) : Int) ≤ (l.length : Int) := by omega
    have fr : ∀ v, Fixed g (g + 3) W (W.setCell ⟨g + 2, 0, none⟩ v) := fun v => ⟨(Below.refl _ _).setCell (p := ⟨g + 2, 0, none⟩) (by simp) _, fun j hj _ => Below.heap_setCell _ _ _ _ (by simp; omega)⟩
    have fr1 : ∀ v, Fixed g (g + 3) W (W.setCell ⟨g + 1, 0, none⟩ v) := fun v => ⟨(Below.refl _ _).setCell (p := ⟨g + 1, 0, none⟩) (by simp) _, fun j hj _ => Below.heap_setCell _ _ _ _ (by simp; omega)⟩
    have hpk : p + (k + 1) = p + k + 1 := by omega
    rw [← hb]
    cases rm with
    | true =>
      have st : Hid (blkN false (l.drop p) = k + 1 + blkN ((b.toNat : Int) != 10) (l.drop (p + (k + 1)))) := Lib.hid (by rw [i0.out, hpk, hd1]; simp only [blkN]; omega)
      clear i0 HP hd hb
      gi_wp2
      exact ⟨fr _, _, st, i1.far (by simp <;> omega) _, i2.far (by simp <;> omega) _, i3.set_ 0 _, i4.setCell (p := ⟨g + 2, 0, none⟩) (by simp) _⟩
    | false =>
      cases hh : Lib.hasPrefix (b :: r) [45, 45] with
      | true =>
        have st : Hid (blkN false (l.drop p) = k + 1 + blkN true (l.drop (p + (k + 1)))) := Lib.hid (by rw [i0.out, hpk, hd1]; simp only [blkN, hh, if_true]; omega)
        have HP2 : Hid (∀ W', Calls Tryd.prog 43 #[.string ((⟨l.toArray⟩ : ByteArray).extract (p + k) l.length), .string ⟨#[45, 45]⟩] W' fun e w' => e = .returned (.bool true) ∧ w' = W') := Lib.hid (fun W' => by have := HP.out W'; rw [show Lib.hasPrefix (b :: r) (⟨#[45, 45]⟩ : ByteArray).data.toList = true from hh] at this; exact this)
        clear i0 HP hd hb
        gi_wp2_with (refine ⟨trivial, ?_⟩; gi_at_call 43; refine (callsIn_wide.2 (HP2.out _)).mono ?_; rintro e w' ⟨rfl, rfl⟩)
        exact ⟨fr _, true, st, i1.far (by simp <;> omega) _, i2.far (by simp <;> omega) _, i3.set_ 0 _, i4.setCell (p := ⟨g + 2, 0, none⟩) (by simp) _⟩
      | false =>
        have HP2 : Hid (∀ W', Calls Tryd.prog 43 #[.string ((⟨l.toArray⟩ : ByteArray).extract (p + k) l.length), .string ⟨#[45, 45]⟩] W' fun e w' => e = .returned (.bool false) ∧ w' = W') := Lib.hid (fun W' => by have := HP.out W'; rw [show Lib.hasPrefix (b :: r) (⟨#[45, 45]⟩ : ByteArray).data.toList = false from hh] at this; exact this)
        cases hk2 : blkB (b.toNat : Int) with
        | true =>
          have st : Hid (blkN false (l.drop p) = k + 1 + blkN false (l.drop (p + (k + 1)))) := Lib.hid (by rw [i0.out, hpk, hd1]; simp only [blkN, hh, hk2, if_true]; simp; omega)
          unfold blkB at hk2
          have hx : (b.toNat : Int) = 9 ∨ (b.toNat : Int) = 10 ∨ (b.toNat : Int) = 13 ∨ (b.toNat : Int) = 32 := by simpa [or_assoc] using hk2
          clear i0 HP hd hb hk2
          generalize (b.toNat : Int) = z at *
          rcases hx with rfl | rfl | rfl | rfl <;> (
            gi_wp2_with (refine ⟨trivial, ?_⟩; gi_at_call 43; refine (callsIn_wide.2 (HP2.out _)).mono ?_; rintro e w' ⟨rfl, rfl⟩)
            exact ⟨Fixed.refl _ _ _, false, st, i1, i2, i3, i4⟩)
        | false =>
          have st : Hid (blkN false (l.drop p) = k) := Lib.hid (by rw [i0.out]; simp only [blkN, hh, hk2]; simp)
          have z1 : ((b.toNat : Int) != 9) = true ∧ ((b.toNat : Int) != 10) = true ∧ ((b.toNat : Int) != 13) = true ∧ ((b.toNat : Int) != 32) = true := by
            unfold blkB at hk2
            simp only [Bool.or_eq_false_iff] at hk2
            obtain ⟨⟨⟨x1, x2⟩, x3⟩, x4⟩ := hk2
            simp only [bne, x1, x2, x3, x4, Bool.not_false, and_self]
          clear i0 HP hd hb hk2
          generalize (b.toNat : Int) = z at *
          obtain ⟨z1, z2, z3, z4⟩ := z1
          gi_wp2_with (refine ⟨trivial, ?_⟩; gi_at_call 43; refine (callsIn_wide.2 (HP2.out _)).mono ?_; rintro e w' ⟨rfl, rfl⟩)
          exact ⟨fr1 _, rfl, st, i2.set_ 0 _, i4.setCell (p := ⟨g + 1, 0, none⟩) (by simp) _⟩
  case done =>
    rintro D W hD ⟨rm, i0, i1, i2, i3, i4⟩ hK
    have e0 : W.cell? ⟨g, 0, none⟩ = some (.string ⟨l.toArray⟩) := i1.cell 0
    have e1 : W.cell? ⟨g + 1, 0, none⟩ = some (.int .i64 0) := i2.cell 0
    have f1 : W.frozen? ⟨g + 1, 0, none⟩ = false := i2.frozen 0
    have hR : R = l.length := by
      rw [HS.out, i0.out, show l.drop (p + (l.length - p)) = [] by rw [List.drop_eq_nil_iff]; omega]
      simp only [blkN]
      omega
    gi_wp2
    have r1 : Blk (W.setCell ⟨g + 1, 0, none⟩ (.int .i64 (l.length : Int))) (g + 1) 3 #[.int .i64 (l.length : Int)] := i2.set_ 0 _
    have r2 : Below g w (W.setCell ⟨g + 1, 0, none⟩ (.int .i64 (l.length : Int))) := i4.setCell (p := ⟨g + 1, 0, none⟩) (by simp) _
    have r3 : (W.setCell ⟨g + 1, 0, none⟩ (.int .i64 (l.length : Int))).heap[D]? = some (.deferred (some [])) := (Below.heap_setCell _ _ _ _ (by simp; omega)).trans hK
    generalize W.setCell ⟨g + 1, 0, none⟩ (.int .i64 (l.length : Int)) = W5 at *
    refine ⟨by simp, .inl ⟨_, _, rfl, run_takeDeferred r3, ?_⟩⟩
    exact ⟨_, resT rfl _ _ (g + 1) _ rfl rfl (r1.putR r3 rfl _), by rw [hR], by rw [hg]; exact r2.trans (below_shut _ (.deferred none) (by omega))⟩
  case stop =>
    rintro D c k W hD hk ⟨rfl, i0, i2, i3⟩ hK
    have hR : R = p + k := by rw [HS.out, i0.out]
    gi_wp2
    refine ⟨by simp, .inl ⟨_, _, rfl, run_takeDeferred hK, ?_⟩⟩
    exact ⟨_, resT rfl _ _ (g + 1) _ rfl rfl (i2.putR hK rfl _), by rw [hR], by rw [hg]; exact i3.trans (below_shut _ (.deferred none) (by omega))⟩

end Go.Proofs.YtblcfjliabeaiaaDoor
