/- Tables in which greater bundles never have smaller values: the mathematics of chapter 13. No claim of its own. -/
import Derived.Test.YtjjpfpgjpmedmaaMathVD
import Derived.Test.YtjjpfpgjpmedmaaBRank
namespace Go.Proofs.Ytjjpfpgjpmedmaa.VV
open MB (at_)
theorem rankB_in {s b : List Int} (hs : MB.okB s = true) (hl : s.length = 6) (hp : MB.P s 6 ≤ 1024) (hb : Bu b) (h : Le b s) : rankB s b = (rank s b : Nat) := by
  have hok : MB.okB b = true := by
    unfold MB.okB
    rw [List.all_eq_true]
    intro q hq
    obtain ⟨k, hk, rfl⟩ := List.getElem_of_mem hq
    have hk6 : k < 6 := by rw [← hb.len]; exact hk
    have e : b[k] = at_ b k := by unfold at_; rw [List.getD_eq_getElem?_getD, List.getElem?_eq_getElem hk]; rfl
    have h1 := hb.pos k hk6
    have h2 := h k hk6
    have h3 := okB_at hs (k := k) (by rw [hl]; exact hk6)
    rw [e]; simp; omega
  unfold rankB
  rw [if_pos]
  · rfl
  · unfold rankOk
    rw [hs, hok, decide_eq_true hp]
    exact (MB.withinB_iff b s 6).2 h
end Go.Proofs.Ytjjpfpgjpmedmaa.VV
