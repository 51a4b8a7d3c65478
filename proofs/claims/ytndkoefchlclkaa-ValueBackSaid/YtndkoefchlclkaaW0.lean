/-
  The bytes of a value: what Encode adds of a text.
-/
import Derived.Test.YtndkoefchlclkaaV2
import Derived.Test.YtndkoefchlclkaaPuts0
namespace Go.Proofs.Ytndkoefchlclkaa
open Go.RowKit

/-- A string's bytes. -/
def sb (s : ByteArray) : List Int := s.data.toList.map (fun b => (b.toNat : Int))
theorem sb_len (s : ByteArray) : (sb s).length = s.size := by unfold sb; rw [List.length_map]; rfl
theorem sb_at (s : ByteArray) (k : Nat) (h : k < s.size) : (sb s).getD k 0 = ((s[k]).toNat : Int) := by
  unfold sb
  rw [List.getD_eq_getElem?_getD, List.getElem?_map, Array.getElem?_toList, Array.getElem?_eq_getElem (show k < s.data.size from h)]
  rfl
theorem sb_bs (s : ByteArray) : Bs (sb s) := fun j => by
  by_cases hj : j < s.size
  · rw [sb_at s j hj]
    have := (s[j]).toNat_lt
    omega
  · rw [List.getD_eq_getElem?_getD, List.getElem?_eq_none (by rw [sb_len]; omega)]
    decide
/-- A text's bytes, each nought as two. -/
def txt : List Int → List Int
  | [] => []
  | z :: r => if z = 0 then 0 :: 255 :: txt r else z :: txt r
theorem txt_append : ∀ x y : List Int, txt (x ++ y) = txt x ++ txt y
  | [], _ => rfl
  | z :: r, y => by
    rw [List.cons_append, txt, txt, txt_append r y]
    split <;> rfl
theorem txt_bs : ∀ x : List Int, Bs x → Bs (txt x)
  | [], h => h
  | z :: r, h => by
    have ih := txt_bs r (fun j => h (j + 1))
    have hz : 0 ≤ z ∧ z ≤ 255 := h 0
    rw [txt]
    split
    · exact fun j => match j with
        | 0 => by simp
        | 1 => by simp
        | j + 2 => ih j
    · exact fun j => match j with
        | 0 => hz
        | j + 1 => ih j
theorem txt_len : ∀ x : List Int, (txt x).length ≤ 2 * x.length
  | [] => Nat.le_refl _
  | z :: r => by
    have ih := txt_len r
    rw [txt]
    split <;> simp only [List.length_cons] <;> omega
theorem take_snoc (x : List Int) (k : Nat) (h : k < x.length) : x.take (k + 1) = x.take k ++ [x.getD k 0] := by
  rw [List.take_succ_eq_append_getElem h]
  congr 2
  simp [List.getD, h]

theorem By.one {w : World} {z : Int} (hz : 0 ≤ z ∧ z ≤ 255) : By (w.alloc (.cells #[.int .u8 z] 5)) (w.heap.size + 1) (some ⟨w.heap.size, 0, none⟩) 1 [z] :=
  By.of_blk (Blk.new w 5 #[.int .u8 z]) (fun j => match j with
    | 0 => hz
    | j + 1 => by simp) rfl
theorem By.two {w : World} : By (w.alloc (.cells #[.int .u8 0, .int .u8 0] 5)) (w.heap.size + 1) (some ⟨w.heap.size, 0, none⟩) 2 [0, 0] :=
  By.of_blk (Blk.new w 5 #[.int .u8 0, .int .u8 0]) (fun j => match j with
    | 0 => by simp
    | 1 => by simp
    | j + 2 => by simp) rfl
theorem Own.new1 {w : World} {base : Nat} {A : Option Addr} {n c : Nat} {zs : List Int} (h : Own w base A n c zs) (o : Obj) : Own (w.alloc o) base A n c zs := h.below ((Below.refl _ _).alloc (Nat.le_refl _) o)

/-- Bytes of one's own, of which the first n are zs. -/
def Grown (w0 : World) (base : Nat) (zs : List Int) (e : Ending) (w : World) : Prop := ∃ A c, e = .returned (.slice A zs.length c) ∧ Own w base A zs.length c zs ∧ Below base w0 w

set_option maxRecDepth 100000 in
set_option maxHeartbeats 2000000 in
theorem putText_any (A : Option Addr) (n c : Nat) (zs : List Int) (s : ByteArray) (w : World) (base : Nat) (h : Own w base A n c zs) (hb : base ≤ w.heap.size) (hn : n ≤ 1000) (hs : s.size ≤ 1000) :
    Calls Try.prog 61 #[.slice A n c, .string s] w (Grown w base (zs ++ txt (sb s) ++ [0, 0])) := by
  have hl := h.len
  subst hl
  have H := Lib.hid h
  have SL := Lib.hid (sb_len s)
  have SB := Lib.hid (sb_bs s)
  clear h
  unfold Grown
  go_enter Try.func61, Try.ntmps61
  go_wp2
  go_loopw [0, 8] (fun v i wr => ∃ k A' c', k ≤ s.size ∧ i = .int .i64 k ∧ v = .slice A' (zs ++ txt ((sb s).take k)).length c' ∧ Own wr base A' (zs ++ txt ((sb s).take k)).length c' (zs ++ txt ((sb s).take k)) ∧ Below base w wr ∧ base ≤ wr.heap.size) (fun _ i _ => s.size - (intOf i).toNat)
  case atStart => exact ⟨0, A, c, Nat.zero_le _, rfl, by simp [txt], by simpa [txt] using H.out, Below.refl _ _, hb⟩
  case round =>
    obtain ⟨k, A', c', hk, rfl, rfl, ho, hB, hsz⟩ := hrel
    have LN : Hid ((zs ++ txt ((sb s).take k)).length ≤ 3000) := show _ ≤ _ by
      have := txt_len ((sb s).take k)
      rw [List.length_take, SL.out] at this
      rw [List.length_append]
      omega
    by_cases hlt : k < s.size
    · have hz := sb_at s k hlt
      have hzb := SB.out k
      have hnext := take_snoc (sb s) k (by rw [SL.out]; exact hlt)
      rw [hz] at hzb hnext
      have hT := txt_append ((sb s).take k) [((s[k]).toNat : Int)]
      rw [← hnext] at hT
      have HO := Lib.hid ho
      have HB := Lib.hid hB
      have HS := Lib.hid hsz
      have k0 : (0 : Int) ≤ (k : Int) := Int.natCast_nonneg k
      have kn : (k : Int) < (s.size : Int) := by omega
      have HZ := Lib.hid hzb
      have HT : Hid (zs ++ txt ((sb s).take (k + 1)) = (zs ++ txt ((sb s).take k)) ++ txt [((s[k]).toNat : Int)]) := show _ = _ by rw [hT, List.append_assoc]
      clear ho hB hsz hz hzb hnext hT
      generalize zs ++ txt ((sb s).take k) = ZS at *
      by_cases hz0 : ((s[k]).toNat : Int) = 0
      · have hzz : (((s[k]).toNat : Int) == 0) = true := by rw [hz0]; rfl
        have HT' : Hid (zs ++ txt ((sb s).take (k + 1)) = ZS ++ [((s[k]).toNat : Int)] ++ [255]) := show _ = _ by rw [HT.out, hz0]; simp [txt]
        clear HT
        clear hz0
        go_wp2_with (first
          | (at_builtin; refine append_by rfl (.tmp 11) (.tmp 15) rfl base A' ZS.length c' ZS rfl (HO.out.new1 _) (wr.heap.size + 1) (some ⟨wr.heap.size, 0, none⟩) 1 1 [((s[k]).toNat : Int)] rfl (By.one HZ.out) (fun h => by cases h) (by have := LN.out; omega) (by have := HS.out; simp; omega) ?_; intro A1 c1 w1 ho1 hg1; have hB1 : Below base w w1 := (HB.out.alloc HS.out _).grown hg1 (by have := HS.out; simp; omega) (fun k hk => (HO.out.1.lt k hk).1); have hs1 : base ≤ w1.heap.size := Nat.le_trans hb hB1.size; have HB1 := Lib.hid hB1; have HS1 := Lib.hid hs1; have HO1 := Lib.hid ho1; clear hg1 hB1 hs1 ho1)
          | (at_builtin; refine append_by rfl (.tmp 21) (.tmp 22) rfl base A1 (ZS.length + 1) c1 (ZS ++ [((s[k]).toNat : Int)]) rfl (HO1.out.new1 _) (w1.heap.size + 1) (some ⟨w1.heap.size, 0, none⟩) 1 1 [255] rfl (By.one (by omega)) (fun h => by cases h) (by have := LN.out; omega) (by have := HS1.out; simp; omega) ?_; intro A2 c2 w2 ho2 hg2; have hB2 : Below base w w2 := (HB1.out.alloc HS1.out _).grown hg2 (by have := HS1.out; simp; omega) (fun k hk => (HO1.out.1.lt k hk).1); have hs2 : base ≤ w2.heap.size := Nat.le_trans hb hB2.size; have HB2 := Lib.hid hB2; have HS2 := Lib.hid hs2; have HO2 := Lib.hid ho2; clear hg2 hB2 hs2 ho2))
        go_roundw
        case rel => exact ⟨k + 1, A2, c2, by omega, by go_num, by rw [HT'.out]; simp, by rw [HT'.out]; simpa using HO2.out, HB2.out, HS2.out⟩
        case measure => simp [intOf]; omega
      · have hzz : (((s[k]).toNat : Int) == 0) = false := by simp; omega
        have HT' : Hid (zs ++ txt ((sb s).take (k + 1)) = ZS ++ [((s[k]).toNat : Int)]) := show _ = _ by rw [HT.out, show txt [((s[k]).toNat : Int)] = [((s[k]).toNat : Int)] from if_neg hz0]
        clear HT
        clear hz0
        go_wp2_with (at_builtin; refine append_by rfl (.tmp 11) (.tmp 15) rfl base A' ZS.length c' ZS rfl (HO.out.new1 _) (wr.heap.size + 1) (some ⟨wr.heap.size, 0, none⟩) 1 1 [((s[k]).toNat : Int)] rfl (By.one HZ.out) (fun h => by cases h) (by have := LN.out; omega) (by have := HS.out; simp; omega) ?_; intro A1 c1 w1 ho1 hg1; have hB1 : Below base w w1 := (HB.out.alloc HS.out _).grown hg1 (by have := HS.out; simp; omega) (fun k hk => (HO.out.1.lt k hk).1); have hs1 : base ≤ w1.heap.size := Nat.le_trans hb hB1.size; have HB1 := Lib.hid hB1; have HS1 := Lib.hid hs1; have HO1 := Lib.hid ho1; clear hg1 hB1 hs1 ho1)
        go_roundw
        case rel => exact ⟨k + 1, A1, c1, by omega, by go_num, by rw [HT'.out]; simp, by rw [HT'.out]; simpa using HO1.out, HB1.out, HS1.out⟩
        case measure => simp [intOf]; omega
    · obtain rfl : k = s.size := by omega
      have HF : Hid (txt ((sb s).take s.size) = txt (sb s)) := show _ = _ by rw [List.take_of_length_le (by rw [SL.out]; exact Nat.le_refl _)]
      rw [HF.out] at ho LN ⊢
      have HO := Lib.hid ho
      have HB := Lib.hid hB
      have HS := Lib.hid hsz
      clear ho hB hsz HF
      go_wp2_with (at_builtin; refine append_by rfl (.tmp 25) (.tmp 26) rfl base A' (zs ++ txt (sb s)).length c' (zs ++ txt (sb s)) rfl (HO.out.new1 _) (wr.heap.size + 1) (some ⟨wr.heap.size, 0, none⟩) 2 2 [0, 0] rfl By.two (fun h => by cases h) (by have := LN.out; omega) (by have := HS.out; simp; omega) ?_; intro A1 c1 w1 ho1 hg1; have hB1 : Below base w w1 := (HB.out.alloc HS.out _).grown hg1 (by have := HS.out; simp; omega) (fun k hk => (HO.out.1.lt k hk).1); have HB1 := Lib.hid hB1; have HO1 := Lib.hid ho1; clear hg1 hB1 ho1)
      go_ret
      have L2 : (zs ++ txt (sb s) ++ [0, 0]).length = (zs ++ txt (sb s)).length + 2 := by rw [List.length_append]; rfl
      exact ⟨A1, c1, by simp; omega, by rw [L2]; exact HO1.out, HB1.out⟩

end Go.Proofs.Ytndkoefchlclkaa
