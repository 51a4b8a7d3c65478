/-
  Text of Parse, in plain words.
-/
import Derived.Test.YtbemnolgolecaaaDoorT2
namespace Go.Proofs.YtbemnolgolecaaaDoor

theorem hx_dig (c : Int) (h : 0 ≤ dig c) : hx (dig c).toNat = c := by
  unfold dig at h ⊢
  unfold hx
  split at h
  · rename_i h1
    rw [if_pos h1]
    split <;> omega
  · rename_i h1
    split at h
    · rename_i h2
      rw [if_neg h1, if_pos h2]
      split <;> omega
    · omega
theorem hx_dg (s : ByteArray) (k : Nat) (hk : k < s.data.toList.length) (h : 0 ≤ dg s k) : UInt8.ofNat (hx (dg s k).toNat).toNat = s.data.toList[k] := by
  have e : dg s k = dig ((s.data.toList[k]).toNat : Int) := by
    unfold dg
    rw [List.getD_eq_getElem?_getD, List.getElem?_eq_getElem hk]
    rfl
  rw [e] at h ⊢
  rw [hx_dig _ h]
  simp
theorem ofd_at (s : ByteArray) (i : Nat) (hi : i < 32) : (ofd s 32).getD i 0 = 16 * dg s (2 * i) + dg s (2 * i + 1) := by
  simp [ofd, List.getD, hi]
/-- Text of Parse. -/
theorem text_parse (s : ByteArray) (hs : s.size = 64) (ok : okd s 32) : strOfNums (textF (ofd s 32)) = s := by
  have hl : s.data.toList.length = 64 := by simpa using hs
  have key : (strOfNums (textF (ofd s 32))).data.toList = s.data.toList := by
    rw [strOfNums_data]
    have l : (textF (ofd s 32)).length = 64 := txtL_len _ 32
    apply List.ext_getElem
    · rw [List.length_map, l, hl]
    · intro k h1 h2
      rw [List.getElem_map]
      have hk : k < (textF (ofd s 32)).length := by omega
      have hg : (textF (ofd s 32))[k] = (textF (ofd s 32)).getD k 0 := by simp [List.getD, hk]
      rw [hg]
      have hi : k / 2 < 32 := by omega
      obtain ⟨t0, t1⟩ := txtL_at (ofd s 32) 32 (k / 2) hi
      have hv := ofd_at s (k / 2) hi
      have o := ok (k / 2) hi
      have r0 := dg_range s (2 * (k / 2))
      have r1 := dg_range s (2 * (k / 2) + 1)
      unfold textF
      by_cases he : k = 2 * (k / 2)
      · have x0 := hx_dg s k h2 (by rw [he]; exact o.1)
        have en : ((ofd s 32).getD (k / 2) 0).toNat / 16 = (dg s k).toNat := by
          rw [hv]
          have o1 := o.1
          have o2 := o.2
          rw [← he] at r0 o1 o2 r1 ⊢
          omega
        rw [en, ← he] at t0
        rw [t0]
        exact x0
      · have he' : k = 2 * (k / 2) + 1 := by omega
        have x0 := hx_dg s k h2 (by rw [he']; exact o.2)
        have en : ((ofd s 32).getD (k / 2) 0).toNat % 16 = (dg s k).toNat := by
          rw [hv]
          have o1 := o.1
          have o2 := o.2
          rw [← he'] at r1 o2 ⊢
          omega
        rw [en, ← he'] at t1
        rw [t1]
        exact x0
  have : (strOfNums (textF (ofd s 32))).data = s.data := Array.toList_inj.1 key
  exact ByteArray.ext this

end Go.Proofs.YtbemnolgolecaaaDoor
