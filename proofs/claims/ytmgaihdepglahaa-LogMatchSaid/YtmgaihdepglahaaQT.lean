/-
  Plain words on what Take answers.
-/
import Derived.Test.YtmgaihdepglahaaQ1
import Derived.Test.YtmgaihdepglahaaN5
namespace Go.Proofs.Ytmgaihdepglahaa

/-- The log that is extended when one takes. -/
def tkL (l : Lg) (pi pt : Int) (es : List En) : Lg := ⟨l.bi, l.bt, l.es.take (spotN l (spI pi (meetN l pi pt es)))⟩
/-- What Take answers. -/
def pTakeE (l : Lg) (pi pt : Int) (es : List En) : Int := if meetE l pi pt es ≠ 0 then meetE l pi pt es else if meetN l pi pt es < es.length then rExtE (tkL l pi pt es) (es.drop (meetN l pi pt es)) else 0
def pTakeL (l : Lg) (pi pt : Int) (es : List En) : Lg := if pTakeE l pi pt es ≠ 0 then lg0 else if meetN l pi pt es < es.length then rExtL (tkL l pi pt es) (es.drop (meetN l pi pt es)) else l
def pTakeI (l : Lg) (pi pt : Int) (es : List En) : Int := if pTakeE l pi pt es ≠ 0 then 0 else spI pi es.length
theorem meetE_right {l : Lg} {pi pt : Int} {es : List En} (h : meetE l pi pt es = 0) : right l = true := by
  unfold meetE at h
  by_cases hr : right l = true
  · exact hr
  · rw [if_neg hr] at h; omega
theorem meetN_le (l : Lg) (pi pt : Int) (es : List En) : meetN l pi pt es ≤ es.length := by
  unfold meetN rMeetN
  split
  · split
    · exact metN_le _ _ _
    · exact Nat.zero_le _
  · exact Nat.zero_le _
theorem spotN_le {l : Lg} {i : Int} (hr : right l = true) (h0 : 0 ≤ l.bi) (hi : 0 ≤ i) (hi' : i < 18446744073709551616) : spotN l i ≤ l.es.length := by
  by_cases h : spotE l i = 0
  · exact ((spot_at hr h0 hi hi').2 h).2.1
  · unfold spotN; rw [if_neg h]; exact Nat.zero_le _


end Go.Proofs.Ytmgaihdepglahaa
