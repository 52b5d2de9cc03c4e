/- Plain mathematics of decimal texts: no program, no claim of its own. -/
namespace Go.Proofs.YtbjkkiehpfnogaaDoor
def isDig (c : UInt8) : Prop := 48 ≤ c.toNat ∧ c.toNat ≤ 57
def decVal (l : List UInt8) : Nat := l.foldl (fun a c => 10 * a + (c.toNat - 48)) 0
theorem decVal_snoc (l : List UInt8) (c : UInt8) : decVal (l ++ [c]) = 10 * decVal l + (c.toNat - 48) := by simp [decVal, List.foldl_append]
open Classical in
noncomputable def parseErr (l : List UInt8) : Nat := if l.length = 0 then 1 else if 600 < l.length then 3 else if (l.getD 0 0 = 48 ∧ 1 < l.length) ∨ ¬ ∀ c ∈ l, isDig c then 2 else 0
theorem parseErr_short (l : List UInt8) (h : l.length = 0) : parseErr l = 1 := by simp [parseErr, h]
theorem parseErr_long (l : List UInt8) (h : 600 < l.length) : parseErr l = 3 := by unfold parseErr; rw [if_neg (by omega), if_pos h]
theorem parseErr_bad (l : List UInt8) (h0 : l.length ≠ 0) (h1 : l.length ≤ 600) (h : (l.getD 0 0 = 48 ∧ 1 < l.length) ∨ ¬ ∀ c ∈ l, isDig c) : parseErr l = 2 := by
  unfold parseErr; rw [if_neg h0, if_neg (by omega), if_pos h]
theorem parseErr_ok (l : List UInt8) (h0 : l.length ≠ 0) (h1 : l.length ≤ 600) (h : ¬ (l.getD 0 0 = 48 ∧ 1 < l.length)) (k : ∀ c ∈ l, isDig c) : parseErr l = 0 := by
  unfold parseErr; rw [if_neg h0, if_neg (by omega), if_neg (fun hh => hh.elim h (fun x => x k))]
theorem parseErr_zero (l : List UInt8) (h : parseErr l = 0) : l.length ≠ 0 ∧ l.length ≤ 600 ∧ ¬ (l.getD 0 0 = 48 ∧ 1 < l.length) ∧ ∀ c ∈ l, isDig c := by
  unfold parseErr at h
  split at h
  · cases h
  · split at h
    · cases h
    · split at h
      · cases h
      · rename_i h1 h2 h3
        exact ⟨h1, by omega, fun x => h3 (.inl x), Classical.byContradiction fun x => h3 (.inr x)⟩
theorem take_snoc' (s : ByteArray) (k : Nat) (h : k < s.size) : s.data.toList.take (k + 1) = s.data.toList.take k ++ [s[k]] := by
  rw [List.take_succ_eq_append_getElem (by simpa using h)]; rfl
theorem all_of_index (s : ByteArray) (P : UInt8 → Prop) (h : ∀ (j : Nat) (hj : j < s.size), P s[j]) : ∀ c ∈ s.data.toList, P c := by
  intro c hc
  obtain ⟨i, hi, rfl⟩ := List.mem_iff_getElem.1 hc
  exact h i (by simpa using hi)
theorem mem_index (s : ByteArray) (j : Nat) (hj : j < s.size) : s[j] ∈ s.data.toList := by
  have : s[j] = s.data.toList[j]'(by simpa using hj) := rfl
  rw [this]; exact List.getElem_mem _
theorem getD_zero (s : ByteArray) (h : 0 < s.size) : s.data.toList.getD 0 0 = s[0] := by
  rw [List.getD_eq_getElem?_getD, List.getElem?_eq_getElem (by simpa using h)]; rfl
theorem size_list (s : ByteArray) : s.data.toList.length = s.size := by simp
end Go.Proofs.YtbjkkiehpfnogaaDoor
