/-
  The program's takeText: a text of a reader.
-/
import Derived.Test.YtndkoefchlclkaaW3
namespace Go.Proofs.Ytndkoefchlclkaa
open Go.RowKit
attribute [local go_sem ↓] eqV neV eqG

set_option maxRecDepth 100000 in
set_option maxHeartbeats 2000000 in
theorem takeText_any (p n c : Nat) (A : Option Addr) (zs : List Int) (k0 : Nat) (w : World) (h : TW w p n c A zs k0 0 w) :
    Calls Try.prog 80 #[.pointer (some ⟨p, 0, none⟩)] w (TT w p n c A zs (dtx [] k0 (zs.drop k0))) := by
  have H := Lib.hid h
  have SL := Lib.hid h.bytes.1
  have SB := Lib.hid h.bytes.2.1
  have PL := Lib.hid h.pl
  generalize hD : dtx [] k0 (zs.drop k0) = D
  have HD := Lib.hid hD
  clear h hD
  go_enter Try.func80, Try.ntmps80
  go_wp2
  go_loopw [4] (fun v wr => ∃ k acc A' c', v = .slice A' acc.length c' ∧ Own wr w.heap.size A' acc.length c' acc ∧ acc.length ≤ 64 ∧ TW w p n c A zs k 0 wr ∧ dtx acc k (zs.drop k) = D) (fun _ wr => n - (intOf ((wr.cell? ⟨p, 0, none⟩).getD (.int .i64 0))).toNat)
  case atStart => exact ⟨k0, [], none, 0, rfl, nothing w _, by simp, H.out, HD.out⟩
  case round =>
    obtain ⟨k, acc, A', c', rfl, ho, hl, hT, hd⟩ := hrel
    have HO := Lib.hid ho
    have HT := Lib.hid hT
    have HL := Lib.hid hl
    have HC := Lib.hid hT.rd.c0
    have HG := Lib.hid (show w.heap.size ≤ wr.heap.size from hT.gr.size)
    by_cases hkn : k < n
    · have hdr := drop_at zs k (by rw [SL.out]; exact hkn)
      rw [hdr] at hd
      have hzb := SB.out k
      have H1 := Lib.hid (hT.in_ hkn)
      generalize zs.getD k 0 = z at *
      have HZ := Lib.hid hzb
      have HK := Lib.hid hkn
      clear ho hT hdr hzb hkn
      by_cases hz : z = 0
      · subst hz
        by_cases hk1 : k + 1 < n
        · have hdr := drop_at zs (k + 1) (by rw [SL.out]; exact hk1)
          rw [hdr] at hd
          have hzb := SB.out (k + 1)
          have H2 := Lib.hid (fun (w' : World) (h : TW w p n c A zs (k + 1) 0 w') => h.in_ hk1)
          generalize zs.getD (k + 1) 0 = b at *
          have HZ2 := Lib.hid hzb
          have HK1 := Lib.hid hk1
          clear hdr hzb hk1
          by_cases hb0 : b = 0
          · subst hb0
            rw [dtx_end] at hd
            have HE := Lib.hid hd
            clear hd hl
            go_wp2_with fail
            refine H1.out.mono ?_
            rintro e w1 ⟨rfl, ht1, hm1⟩
            have HO1 := Lib.hid (HO.out.moved hm1 PL.out)
            have HT1 := Lib.hid ht1
            clear ht1 hm1
            go_wp2_with fail
            refine (H2.out _ HT1.out).mono ?_
            rintro e w2 ⟨rfl, ht2, hm2⟩
            have HO2 := Lib.hid (HO1.out.moved hm2 PL.out)
            have HT2 := Lib.hid ht2
            clear ht2 hm2
            have hcv := conv_own HO2.out
            go_wp2
            go_ret2
            exact ⟨_, _, _, _, rfl, HT2.out, .inr (.inr ⟨rfl, rfl, acc, HE.out.symm, rfl, HO2.out.2, HL.out⟩)⟩
          · have hb00 : (b == 0) = false := by simp [hb0]
            by_cases hb5 : b = 255
            · subst hb5
              by_cases h64 : acc.length = 64
              · rw [dtx_full0 _ _ _ h64] at hd
                have HE := Lib.hid hd
                have hl64 : ((acc.length : Int) == 64) = true := by rw [h64]; rfl
                clear hd hl h64 hb0 hb00
                go_wp2_with fail
                refine H1.out.mono ?_
                rintro e w1 ⟨rfl, ht1, hm1⟩
                have HO1 := Lib.hid (HO.out.moved hm1 PL.out)
                have HT1 := Lib.hid ht1
                clear ht1 hm1
                go_wp2_with fail
                refine (H2.out _ HT1.out).mono ?_
                rintro e w2 ⟨rfl, ht2, hm2⟩
                have HO2 := Lib.hid (HO1.out.moved hm2 PL.out)
                have HT2 := Lib.hid ht2
                clear ht2 hm2
                go_wp2
                go_ret2
                exact ⟨_, _, _, _, rfl, HT2.out, .inr (.inl ⟨rfl, rfl, HE.out.symm⟩)⟩
              · rw [dtx_next0 _ _ _ h64] at hd
                have HE := Lib.hid hd
                have hl64 : ((acc.length : Int) == 64) = false := by simp; omega
                have HL' : Hid (acc.length < 64) := show _ < _ by omega
                clear hd hl h64 hb0 hb00
                go_wp2_with fail
                refine H1.out.mono ?_
                rintro e w1 ⟨rfl, ht1, hm1⟩
                have HO1 := Lib.hid (HO.out.moved hm1 PL.out)
                have HT1 := Lib.hid ht1
                clear ht1 hm1
                go_wp2_with fail
                refine (H2.out _ HT1.out).mono ?_
                rintro e w2 ⟨rfl, ht2, hm2⟩
                have HO2 := Lib.hid (HO1.out.moved hm2 PL.out)
                have HT2 := Lib.hid ht2
                clear ht2 hm2
                go_wp2_with (at_builtin; refine append_by rfl (.tmp 22) (.tmp 24) rfl w.heap.size A' acc.length c' acc rfl (HO2.out.new1 _) (w2.heap.size + 1) (some ⟨w2.heap.size, 0, none⟩) 1 1 [0] rfl (By.one (by omega)) (fun h => by cases h) (by have := HL'.out; omega) (by have := HT2.out.gr.size; simp; omega) ?_; intro A3 c3 w3 ho3 hg3; have ht3 := (HT2.out.alloc (.cells #[.int .u8 0] 5)).grown hg3 (fun g e => (HO2.out.1.lt g e).1); have HT3 := Lib.hid ht3; have HO3 := Lib.hid ho3; clear hg3 ht3 ho3)
                go_roundw
                case rel => exact ⟨k + 1 + 1, acc ++ [0], A3, c3, by simp, by rw [List.length_append]; exact HO3.out, by rw [List.length_append]; show acc.length + 1 ≤ 64; have := HL'.out; omega, HT3.out, HE.out⟩
                case measure =>
                  have e3 := HT3.out.rd.c0
                  have hm3 := HT3.out.kn
                  rw [e3, HC.out]
                  simp only [Option.getD_some, intOf]
                  omega
            · rw [dtx_bad _ _ _ _ hb0 hb5] at hd
              have HE := Lib.hid hd
              have hb55 : (b != 255) = true := by simp [hb5]
              clear hd hl hb0 hb5
              go_wp2_with fail
              refine H1.out.mono ?_
              rintro e w1 ⟨rfl, ht1, hm1⟩
              have HO1 := Lib.hid (HO.out.moved hm1 PL.out)
              have HT1 := Lib.hid ht1
              clear ht1 hm1
              go_wp2_with fail
              refine (H2.out _ HT1.out).mono ?_
              rintro e w2 ⟨rfl, ht2, hm2⟩
              have HO2 := Lib.hid (HO1.out.moved hm2 PL.out)
              have HT2 := Lib.hid ht2
              clear ht2 hm2
              have hcv := conv_own HO2.out
              go_wp2
              go_ret2
              exact ⟨_, _, _, _, rfl, HT2.out, .inr (.inl ⟨rfl, rfl, HE.out.symm⟩)⟩
        · have hk1' : k + 1 = n := by have := HK.out; omega
          rw [List.drop_eq_nil_of_le (by rw [SL.out]; omega), dtx_short] at hd
          have HE := Lib.hid hd
          have H2 := Lib.hid (fun (w' : World) (h : TW w p n c A zs (k + 1) 0 w') => h.end_ hk1')
          clear hd hl hk1 hk1'
          go_wp2_with fail
          refine H1.out.mono ?_
          rintro e w1 ⟨rfl, ht1, hm1⟩
          have HO1 := Lib.hid (HO.out.moved hm1 PL.out)
          have HT1 := Lib.hid ht1
          clear ht1 hm1
          go_wp2_with fail
          refine (H2.out _ HT1.out).mono ?_
          rintro e w2 ⟨rfl, ht2, hm2⟩
          have HO2 := Lib.hid (HO1.out.moved hm2 PL.out)
          have HT2 := Lib.hid ht2
          clear ht2 hm2
          have hcv := conv_own HO2.out
          go_wp2
          go_ret2
          exact ⟨_, _, _, _, rfl, HT2.out, .inl ⟨rfl, HE.out.symm⟩⟩
      · have hz00 : (z == 0) = false := by simp [hz]
        by_cases h64 : acc.length = 64
        · rw [dtx_full _ _ _ _ hz h64] at hd
          have HE := Lib.hid hd
          have hl64 : ((acc.length : Int) == 64) = true := by rw [h64]; rfl
          clear hd hl h64 hz
          go_wp2_with fail
          refine H1.out.mono ?_
          rintro e w1 ⟨rfl, ht1, hm1⟩
          have HO1 := Lib.hid (HO.out.moved hm1 PL.out)
          have HT1 := Lib.hid ht1
          clear ht1 hm1
          go_wp2
          go_ret2
          exact ⟨_, _, _, _, rfl, HT1.out, .inr (.inl ⟨rfl, rfl, HE.out.symm⟩)⟩
        · rw [dtx_next _ _ _ _ hz h64] at hd
          have HE := Lib.hid hd
          have hl64 : ((acc.length : Int) == 64) = false := by simp; omega
          have HL' : Hid (acc.length < 64) := show _ < _ by omega
          clear hd hl h64 hz
          go_wp2_with fail
          refine H1.out.mono ?_
          rintro e w1 ⟨rfl, ht1, hm1⟩
          have HO1 := Lib.hid (HO.out.moved hm1 PL.out)
          have HT1 := Lib.hid ht1
          clear ht1 hm1
          go_wp2_with (at_builtin; refine append_by rfl (.tmp 22) (.tmp 24) rfl w.heap.size A' acc.length c' acc rfl (HO1.out.new1 _) (w1.heap.size + 1) (some ⟨w1.heap.size, 0, none⟩) 1 1 [z] rfl (By.one HZ.out) (fun h => by cases h) (by have := HL'.out; omega) (by have := HT1.out.gr.size; simp; omega) ?_; intro A3 c3 w3 ho3 hg3; have ht3 := (HT1.out.alloc (.cells #[.int .u8 z] 5)).grown hg3 (fun g e => (HO1.out.1.lt g e).1); have HT3 := Lib.hid ht3; have HO3 := Lib.hid ho3; clear hg3 ht3 ho3)
          go_roundw
          case rel => exact ⟨k + 1, acc ++ [z], A3, c3, by simp, by rw [List.length_append]; exact HO3.out, by rw [List.length_append]; show acc.length + 1 ≤ 64; have := HL'.out; omega, HT3.out, HE.out⟩
          case measure =>
            have e3 := HT3.out.rd.c0
            have hm3 := HT3.out.kn
            rw [e3, HC.out]
            simp only [Option.getD_some, intOf]
            omega
    · have hkn' : k = n := by have := hT.kn; omega
      rw [List.drop_eq_nil_of_le (by rw [SL.out]; omega), dtx_nil] at hd
      have HE := Lib.hid hd
      have H1 := Lib.hid (hT.end_ hkn')
      have H2 := Lib.hid (fun (w' : World) (h : TW w p n c A zs k 7 w') => h.err_ (by decide))
      clear hd hl hkn hkn' ho hT
      go_wp2_with fail
      refine H1.out.mono ?_
      rintro e w1 ⟨rfl, ht1, hm1⟩
      have HO1 := Lib.hid (HO.out.moved hm1 PL.out)
      have HT1 := Lib.hid ht1
      clear ht1 hm1
      go_wp2_with fail
      refine (H2.out _ HT1.out).mono ?_
      rintro e w2 ⟨rfl, ht2, hm2⟩
      have HO2 := Lib.hid (HO1.out.moved hm2 PL.out)
      have HT2 := Lib.hid ht2
      clear ht2 hm2
      have hcv := conv_own HO2.out
      go_wp2
      go_ret2
      exact ⟨_, _, _, _, rfl, HT2.out, .inl ⟨rfl, HE.out.symm⟩⟩

end Go.Proofs.Ytndkoefchlclkaa
