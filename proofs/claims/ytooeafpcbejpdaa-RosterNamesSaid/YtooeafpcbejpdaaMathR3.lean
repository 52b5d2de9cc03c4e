/- The set of the bidders with these names, step by step. No claim of its own. -/
import Derived.Test.YtooeafpcbejpdaaMathR2
namespace Go.Proofs.Ytooeafpcbejpdaa.MR
/-- The first k names are read, and make s. -/
def Mu (L : List Bd) (ns : List (List UInt8)) (k : Nat) (s : Int) : Prop := memR L (ns.drop k) s = memR L ns 0
theorem drop_at {ns : List (List UInt8)} {k : Nat} {nm : List UInt8} (h : ns[k]? = some nm) : ns.drop k = nm :: ns.drop (k + 1) := by
  obtain ⟨hk, rfl⟩ := List.getElem?_eq_some_iff.1 h
  exact List.drop_eq_getElem_cons hk
section
variable {L : List Bd} {ns : List (List UInt8)} {k j : Nat} {s : Int} {nm : List UInt8}
theorem Mu.start (L : List Bd) (ns : List (List UInt8)) : Mu L ns 0 0 := rfl
theorem Mu.none (h : Mu L ns k s) (hk : ns[k]? = some nm) (hf : findL L nm = Option.none) : memR L ns 0 = (0, 6) := by
  rw [← mem_none (r := ns.drop (k + 1)) (s := s) hf, ← drop_at hk]; exact h.symm
theorem Mu.twice (h : Mu L ns k s) (hk : ns[k]? = some nm) (hf : findL L nm = some j) (hs : has s j = true) : memR L ns 0 = (0, 7) := by
  rw [← mem_twice (r := ns.drop (k + 1)) hf hs, ← drop_at hk]; exact h.symm
theorem Mu.step (h : Mu L ns k s) (hk : ns[k]? = some nm) (hf : findL L nm = some j) (hs : has s j = false) : Mu L ns (k + 1) (s + ((2 ^ j : Nat) : Int)) := by
  show memR _ _ _ = _
  rw [← mem_on hf hs, ← drop_at hk]; exact h
theorem Mu.fin (h : Mu L ns k s) (hk : ns.length ≤ k) : memR L ns 0 = (s, 0) := by
  rw [← h, List.drop_of_length_le hk]; rfl
end
theorem members_long {L : List Bd} {ns : List (List UInt8)} (h : 8 < L.length) : membersL L ns = (0, 3) := if_pos h
theorem members_mid {L : List Bd} {ns : List (List UInt8)} (h : ¬ 8 < L.length) : membersL L ns = memR L ns 0 := if_neg h
end Go.Proofs.Ytooeafpcbejpdaa.MR
