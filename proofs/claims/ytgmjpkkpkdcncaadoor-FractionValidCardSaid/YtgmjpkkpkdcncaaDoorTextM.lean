/- Plain mathematics of decimal texts: no program, no claim of its own. -/
namespace Go.Proofs.YtgmjpkkpkdcncaaDoor
def isDig (c : UInt8) : Prop := 48 ≤ c.toNat ∧ c.toNat ≤ 57
def decVal (l : List UInt8) : Nat := l.foldl (fun a c => 10 * a + (c.toNat - 48)) 0
theorem decVal_snoc (l : List UInt8) (c : UInt8) : decVal (l ++ [c]) = 10 * decVal l + (c.toNat - 48) := by simp [decVal, List.foldl_append]
open Classical in
noncomputable def parseErr (l : List UInt8) : Nat := if l.length = 0 then 1 else if 600 < l.length then 3 else if (l.getD 0 0 = 48 ∧ 1 < l.length) ∨ ¬ ∀ c ∈ l, isDig c then 2 else 0
theorem parseErr_short (l : List UInt8) (h : l.length = 0) : parseErr l = 1 := by simp [parseErr, h]
theorem parseErr_long (l : List UInt8) (h : 600 < l.length) : parseErr l = 3 := by unfold parseErr; rw [if_neg (by omega), if_pos h]
theorem parseErr_bad (l : List UInt8) (h0 : l.length ≠ 0) (h1 : l.length ≤ 600) (h : (l.getD 0 0 = 48 ∧ 1 < l.length) ∨ ¬ ∀ c ∈ l, isDig c) : parseErr l = 2 := by
  unfold parseErr; rw [if_neg h0, if_neg (by omega), if_pos h]
theorem parseErr_ok (l : List UInt8) (h0 : l.length ≠ 0) (h1 : l.length ≤ 600) (h : ¬ (l.getD 0 0 = 48 ∧ 1 < l.length)) (k : ∀ c ∈ l, isDig c) : parseErr l = 0 := by
  unfold parseErr; rw [if_neg h0, if_neg (by omega), if_neg (fun hh => hh.elim h (fun x => x k))]
theorem parseErr_zero (l : List UInt8) (h : parseErr l = 0) : l.length ≠ 0 ∧ l.length ≤ 600 ∧ ¬ (l.getD 0 0 = 48 ∧ 1 < l.length) ∧ ∀ c ∈ l, isDig c := by
  unfold parseErr at h
  split at h
  · cases h
  · split at h
    · cases h
    · split at h
      · cases h
      · rename_i h1 h2 h3
        exact ⟨h1, by omega, fun x => h3 (.inl x), Classical.byContradiction fun x => h3 (.inr x)⟩
theorem take_snoc' (s : ByteArray) (k : Nat) (h : k < s.size) : s.data.toList.take (k + 1) = s.data.toList.take k ++ [s[k]] := by
  rw [List.take_succ_eq_append_getElem (by simpa using h)]; rfl
theorem all_of_index (s : ByteArray) (P : UInt8 → Prop) (h : ∀ (j : Nat) (hj : j < s.size), P s[j]) : ∀ c ∈ s.data.toList, P c := by
  intro c hc
  obtain ⟨i, hi, rfl⟩ := List.mem_iff_getElem.1 hc
  exact h i (by simpa using hi)
theorem mem_index (s : ByteArray) (j : Nat) (hj : j < s.size) : s[j] ∈ s.data.toList := by
  have : s[j] = s.data.toList[j]'(by simpa using hj) := rfl
  rw [this]; exact List.getElem_mem _
theorem getD_zero (s : ByteArray) (h : 0 < s.size) : s.data.toList.getD 0 0 = s[0] := by
  rw [List.getD_eq_getElem?_getD, List.getElem?_eq_getElem (by simpa using h)]; rfl
theorem size_list (s : ByteArray) : s.data.toList.length = s.size := by simp
end Go.Proofs.YtgmjpkkpkdcncaaDoor
/- Plain mathematics of decimal texts, more: no program, no claim of its own. -/
namespace Go.Proofs.YtgmjpkkpkdcncaaDoor
def rv : List UInt8 → Nat
  | [] => 0
  | c :: cs => (c.toNat - 48) + 10 * rv cs
def TopD (r : List UInt8) : Prop := r.length = 0 ∨ r.getD (r.length - 1) 0 ≠ 48
theorem decVal_reverse (r : List UInt8) : decVal r.reverse = rv r := by
  induction r with
  | nil => rfl
  | cons c cs ih => rw [List.reverse_cons, decVal_snoc, ih]; simp only [rv]; omega
theorem topD_tail (c : UInt8) (cs : List UInt8) (h : TopD (c :: cs)) : TopD cs := by
  rcases Nat.eq_zero_or_pos cs.length with hz | hp
  · exact .inl hz
  · right
    have h' : (c :: cs).getD (cs.length + 1 - 1) 0 ≠ 48 := by simpa [TopD] using h
    rw [show cs.length + 1 - 1 = (cs.length - 1) + 1 by omega, List.getD_cons_succ] at h'
    exact h'
theorem rv_ge (r : List UInt8) (h0 : r.length ≠ 0) (hd : ∀ c ∈ r, isDig c) (h : TopD r) : 10 ^ (r.length - 1) ≤ rv r := by
  induction r with
  | nil => simp at h0
  | cons c cs ih =>
    rcases Nat.eq_zero_or_pos cs.length with hz | hp
    · have : cs = [] := List.eq_nil_of_length_eq_zero hz
      subst this
      have h1 : c ≠ 48 := by simpa [TopD] using h
      have h2 := (hd c (by simp)).1
      have h3 : c.toNat ≠ 48 := fun e => h1 (UInt8.toNat_inj.1 e)
      simp [rv]; omega
    · have := ih (by omega) (fun x hx => hd x (by simp [hx])) (topD_tail c cs h)
      simp only [rv, List.length_cons]
      rw [show cs.length + 1 - 1 = (cs.length - 1) + 1 by omega, Nat.pow_succ]
      omega
theorem rv_inj : ∀ (r s : List UInt8), (∀ c ∈ r, isDig c) → (∀ c ∈ s, isDig c) → TopD r → TopD s → rv r = rv s → r = s := by
  intro r
  induction r with
  | nil =>
    intro s _ hs _ ht he
    rcases s with _ | ⟨d, ds⟩
    · rfl
    · have := rv_ge (d :: ds) (by simp) hs ht
      have h1 : 0 < 10 ^ ((d :: ds).length - 1) := Nat.pow_pos (by decide)
      rw [← he] at this
      simp only [rv] at this
      omega
  | cons c cs ih =>
    intro s hr hs hrt hst he
    rcases s with _ | ⟨d, ds⟩
    · have := rv_ge (c :: cs) (by simp) hr hrt
      have h1 : 0 < 10 ^ ((c :: cs).length - 1) := Nat.pow_pos (by decide)
      rw [he] at this
      simp only [rv] at this
      omega
    · simp only [rv] at he
      have h1 := hr c (by simp)
      have h2 := hs d (by simp)
      unfold isDig at h1 h2
      have e1 : c = d := UInt8.toNat_inj.1 (by omega)
      have e2 : rv cs = rv ds := by omega
      rw [e1, ih ds (fun x hx => hr x (by simp [hx])) (fun x hx => hs x (by simp [hx])) (topD_tail _ _ hrt) (topD_tail _ _ hst) e2]
/-- s is the decimal text of a. -/
def isText (s : List UInt8) (a : Nat) : Prop := ∃ r, s = r.reverse ∧ r.length ≠ 0 ∧ (∀ c ∈ r, isDig c) ∧ (TopD r ∨ r = [48]) ∧ rv r = a
theorem isText_inj (s t : List UInt8) (a : Nat) (h : isText s a) (k : isText t a) : s = t := by
  obtain ⟨r, rfl, h0, hd, ht, hv⟩ := h
  obtain ⟨r', rfl, h0', hd', ht', hv'⟩ := k
  have z : rv [48] = 0 := rfl
  rcases ht with ht | rfl <;> rcases ht' with ht' | rfl
  · rw [rv_inj r r' hd hd' ht ht' (hv.trans hv'.symm)]
  · have := rv_ge r h0 hd ht
    have h1 : 0 < 10 ^ (r.length - 1) := Nat.pow_pos (by decide)
    omega
  · have := rv_ge r' h0' hd' ht'
    have h1 : 0 < 10 ^ (r'.length - 1) := Nat.pow_pos (by decide)
    omega
  · rfl
theorem isText_dec (s : List UInt8) (a : Nat) (h : isText s a) : decVal s = a := by
  obtain ⟨r, rfl, h0, hd, ht, hv⟩ := h
  rw [decVal_reverse, hv]
theorem isText_len (s : List UInt8) (a k : Nat) (h : isText s a) (ha : a < 10 ^ k) : s.length ≤ k + 1 := by
  obtain ⟨r, rfl, h0, hd, ht, hv⟩ := h
  rw [List.length_reverse]
  rcases ht with ht | rfl
  · have := rv_ge r h0 hd ht
    rw [hv] at this
    have h2 : 10 ^ (r.length - 1) < 10 ^ k := by omega
    have h3 := (Nat.pow_lt_pow_iff_right (by decide : 1 < 10)).1 h2
    omega
  · simp
theorem getD_reverse_zero (r : List UInt8) (h : r.length ≠ 0) : r.reverse.getD 0 0 = r.getD (r.length - 1) 0 := by
  rw [List.getD_eq_getElem?_getD, List.getD_eq_getElem?_getD, List.getElem?_reverse (by omega)]
  simp
theorem isText_ok (s : List UInt8) (a : Nat) (h : isText s a) (hl : s.length ≤ 600) : parseErr s = 0 := by
  obtain ⟨r, rfl, h0, hd, ht, hv⟩ := h
  refine parseErr_ok _ (by simpa using h0) hl ?_ (fun c hc => hd c (by simpa using hc))
  rintro ⟨h1, h2⟩
  rw [getD_reverse_zero r h0] at h1
  rcases ht with (ht | ht) | rfl
  · exact h0 ht
  · exact ht h1
  · simp at h2
theorem isText_of_ok (s : List UInt8) (h : parseErr s = 0) : isText s (decVal s) := by
  obtain ⟨h0, h1, h2, h3⟩ := parseErr_zero s h
  refine ⟨s.reverse, by simp, by simpa using h0, fun c hc => h3 c (by simpa using hc), ?_, by rw [← decVal_reverse, List.reverse_reverse]⟩
  by_cases hf : s.getD 0 0 = 48
  · right
    have hl : s.length = 1 := by
      rcases Nat.lt_or_ge 1 s.length with h | h
      · exact absurd ⟨hf, h⟩ h2
      · omega
    rcases s with _ | ⟨c, _ | ⟨d, ds⟩⟩
    · simp at hl
    · simpa using hf
    · simp at hl
  · left; right
    rw [← List.reverse_reverse s] at hf
    rw [getD_reverse_zero s.reverse (by simpa using h0)] at hf
    exact hf
/-- The same over numbers. -/
def rn : List Nat → Nat
  | [] => 0
  | c :: cs => (c - 48) + 10 * rn cs
theorem rn_append (l m : List Nat) : rn (l ++ m) = rn l + 10 ^ l.length * rn m := by
  induction l with
  | nil => simp [rn]
  | cons c cs ih => simp only [List.cons_append, rn, ih, List.length_cons, Nat.pow_succ]; grind
theorem rn_zeros (l : List Nat) (h : ∀ d ∈ l, d = 48) : rn l = 0 := by
  induction l with
  | nil => rfl
  | cons x xs ih =>
    have h1 := h x (by simp)
    have h2 := ih fun d hd => h d (by simp [hd])
    simp [rn, h1, h2]
theorem rv_map (l : List Nat) (h : ∀ d ∈ l, 48 ≤ d ∧ d ≤ 57) : rv (l.map UInt8.ofNat) = rn l := by
  induction l with
  | nil => rfl
  | cons x xs ih =>
    have h1 := h x (by simp)
    simp only [List.map_cons, rv, rn, ih fun d hd => h d (by simp [hd])]
    rw [UInt8.toNat_ofNat', Nat.mod_eq_of_lt (by omega)]
theorem text_of (l : List Nat) (k a : Nat) (hd : ∀ d ∈ l, 48 ≤ d ∧ d ≤ 57) (hk : k ≤ l.length) (h1 : ∀ j, k ≤ j → j < l.length → l.getD j 0 = 48) (h2 : 0 < k → l.getD (k - 1) 0 ≠ 48) (hv : rn l = a) (ha : 0 < a) :
    0 < k ∧ isText ((l.take k).reverse.map UInt8.ofNat) a := by
  have e : rn (l.take k) = a := by
    have e1 := rn_append (l.take k) (l.drop k)
    rw [List.take_append_drop, hv, rn_zeros (l.drop k) fun d hd => by
      obtain ⟨i, hi, rfl⟩ := List.mem_iff_getElem.1 hd
      rw [List.length_drop] at hi
      have := h1 (k + i) (by omega) (by omega)
      rw [List.getD_eq_getElem?_getD, List.getElem?_eq_getElem (by omega)] at this
      simpa using this] at e1
    simpa using e1.symm
  have hk0 : 0 < k := by
    rcases Nat.eq_zero_or_pos k with h | h
    · subst h; simp [rn] at e; omega
    · exact h
  refine ⟨hk0, (l.take k).map UInt8.ofNat, by rw [List.map_reverse], by rw [List.length_map, List.length_take]; omega, fun c hc => ?_, .inl (.inr ?_), ?_⟩
  · obtain ⟨d, hd', rfl⟩ := List.mem_map.1 hc
    have := hd d (List.mem_of_mem_take hd')
    unfold isDig
    rw [UInt8.toNat_ofNat', Nat.mod_eq_of_lt (by omega)]
    exact this
  · intro h
    have hlen : ((l.take k).map UInt8.ofNat).length = k := by simp; omega
    rw [hlen] at h
    have hx := h2 hk0
    have hm : l.getD (k - 1) 0 ∈ l := by
      rw [List.getD_eq_getElem?_getD, List.getElem?_eq_getElem (by omega)]
      exact List.getElem_mem _
    have hb := hd _ hm
    have e2 : ((l.take k).map UInt8.ofNat).getD (k - 1) 0 = UInt8.ofNat (l.getD (k - 1) 0) := by
      rw [List.getD_eq_getElem?_getD, List.getElem?_map, List.getElem?_take_of_lt (by omega), List.getD_eq_getElem?_getD, List.getElem?_eq_getElem (by omega)]
      simp
    rw [e2] at h
    have h8 := congrArg UInt8.toNat h
    have e3 : (UInt8.ofNat (l.getD (k - 1) 0)).toNat = l.getD (k - 1) 0 := by
      rw [UInt8.toNat_ofNat']
      exact Nat.mod_eq_of_lt (Nat.lt_of_le_of_lt hb.2 (by decide))
    rw [e3] at h8
    exact hx h8
  · rw [rv_map _ fun d hd' => hd d (List.mem_of_mem_take hd'), e]
end Go.Proofs.YtgmjpkkpkdcncaaDoor
