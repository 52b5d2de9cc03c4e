/- The parts of a fraction's text: no claim of its own. -/
import Derived.Test.YtbllnkhbahenkaaGreatDoorShelf
import Derived.Test.YtbllnkhbahenkaaGreatDoorFFormat
import Derived.Lib.IndexLaws
namespace Go.Proofs.YtbllnkhbahenkaaGreatDoor
open Go.RowKit
/-- l is a sign, a text with no slash, and maybe a slash and more. -/
structure Parts (l : List UInt8) (u : Bool) (N : List UInt8) (z : Bool) (D : List UInt8) : Prop where
  eq : l = (if u then [45] else []) ++ (N ++ (if z then 47 :: D else []))
  ns : (47 : UInt8) ∉ N
  nm : u = false → ∀ t, l ≠ 45 :: t
  nd : z = false → D = []
theorem slash_parts (b : List UInt8) : ∃ N z D, b = N ++ (if z then 47 :: D else []) ∧ (47 : UInt8) ∉ N ∧ (z = false → D = []) := by
  induction b with
  | nil => exact ⟨[], false, [], rfl, by simp, fun _ => rfl⟩
  | cons c b ih =>
    by_cases hc : c = 47
    · subst hc
      exact ⟨[], true, b, rfl, by simp, fun h => by cases h⟩
    · obtain ⟨N, z, D, h1, h2, h3⟩ := ih
      exact ⟨c :: N, z, D, by rw [h1]; rfl, by simp [h2]; exact fun h => hc h.symm, h3⟩
theorem Parts.exist (l : List UInt8) : ∃ u N z D, Parts l u N z D := by
  by_cases h : ∃ t, l = 45 :: t
  · obtain ⟨t, rfl⟩ := h
    obtain ⟨N, z, D, h1, h2, h3⟩ := slash_parts t
    exact ⟨true, N, z, D, by rw [h1]; rfl, h2, (fun h => by cases h), h3⟩
  · obtain ⟨N, z, D, h1, h2, h3⟩ := slash_parts l
    exact ⟨false, N, z, D, by rw [← h1]; rfl, h2, fun _ t ht => h ⟨t, ht⟩, h3⟩
theorem Parts.pre {l N D : List UInt8} {u z : Bool} (h : Parts l u N z D) : Lib.hasPrefix l [45] = u := by
  cases u with
  | true => rw [h.eq]; rfl
  | false =>
    cases l with
    | nil => rfl
    | cons c t =>
      have hc : c ≠ 45 := fun e => h.nm rfl t (by rw [e])
      show (45 == c && List.isPrefixOf [] t) = false
      rw [beq_eq_false_iff_ne.2 (Ne.symm hc)]
      rfl
theorem Parts.trim {l N D : List UInt8} {u z : Bool} (h : Parts l u N z D) : Lib.trimPrefix l [45] = N ++ (if z then 47 :: D else []) := by
  unfold Lib.trimPrefix
  rw [h.pre]
  cases u with
  | true => rw [h.eq]; rfl
  | false => exact h.eq
theorem idx_no (b : List UInt8) (h : (47 : UInt8) ∉ b) : Lib.indexByte b 47 = -1 := by
  induction b with
  | nil => rfl
  | cons c b ih =>
    have hc : c ≠ 47 := fun e => h (by simp [e])
    have hb := ih (fun e => h (by simp [e]))
    unfold Lib.indexByte
    rw [hb, beq_eq_false_iff_ne.2 hc]
    rfl
theorem idx_yes (N D : List UInt8) (h : (47 : UInt8) ∉ N) : Lib.indexByte (N ++ 47 :: D) 47 = (N.length : Nat) := by
  induction N with
  | nil => rfl
  | cons c b ih =>
    have hc : c ≠ 47 := fun e => h (by simp [e])
    have hb := ih (fun e => h (by simp [e]))
    show Lib.indexByte (c :: (b ++ 47 :: D)) 47 = _
    unfold Lib.indexByte
    rw [hb, beq_eq_false_iff_ne.2 hc]
    have : ((b.length : Int) == -1) = false := beq_eq_false_iff_ne.2 (by omega)
    rw [this]
    simp
theorem Parts.unique {l N D N' D' : List UInt8} {u z u' z' : Bool} (h : Parts l u N z D) (k : Parts l u' N' z' D') : u = u' ∧ N = N' ∧ z = z' ∧ D = D' := by
  have e1 : u = u' := by rw [← h.pre, k.pre]
  have e2 : N ++ (if z then 47 :: D else []) = N' ++ (if z' then 47 :: D' else []) := by rw [← h.trim, k.trim]
  refine ⟨e1, ?_⟩
  have hs := h.ns
  have ks := k.ns
  have hd := h.nd
  have kd := k.nd
  cases z <;> cases z'
  · exact ⟨by simpa using e2, rfl, by rw [hd rfl, kd rfl]⟩
  · exfalso
    simp only [Bool.false_eq_true, if_false, List.append_nil, if_true] at e2
    exact hs (by rw [e2]; simp)
  · exfalso
    simp only [Bool.false_eq_true, if_false, List.append_nil, if_true] at e2
    exact ks (by rw [← e2]; simp)
  · simp only [if_true] at e2
    have i1 := idx_yes N D hs
    have i2 := idx_yes N' D' ks
    rw [e2, i2] at i1
    have hl : N.length = N'.length := by omega
    obtain ⟨a, b⟩ := List.append_inj e2 hl
    injection b with _ b
    exact ⟨a, rfl, b⟩
theorem dig_no {a : List UInt8} {p : Nat} (h : isText a p) : (47 : UInt8) ∉ a ∧ ∀ t, a ≠ 45 :: t := by
  obtain ⟨r, rfl, h0, hd, _, _⟩ := h
  refine ⟨fun hm => ?_, fun t ht => ?_⟩
  · have := (hd 47 (by simpa using hm)).1
    exact absurd this (by decide)
  · have : (45 : UInt8) ∈ r.reverse := by rw [ht]; simp
    have := (hd 45 (by simpa using this)).1
    exact absurd this (by decide)
theorem text_ne {a : List UInt8} {p : Nat} (h : isText a p) : a ≠ [] := by
  obtain ⟨r, rfl, h0, _, _, _⟩ := h
  intro e
  exact h0 (by rw [← List.length_reverse, e]; rfl)
theorem fText_parts {s : Bool} {p q : Nat} {l : List UInt8} (h : fText s p q l) : ∃ a b, Parts l s a (!decide (q = 1)) b ∧ isText a p ∧ (q ≠ 1 → isText b q) := by
  obtain ⟨a, b, h1, h2, rfl⟩ := h
  have hd := dig_no h1
  by_cases hq : q = 1
  · refine ⟨a, [], ⟨?_, hd.1, ?_, fun _ => rfl⟩, h1, fun h => absurd hq h⟩
    · simp [hq]
    · intro hs t
      subst hs
      simpa [hq] using hd.2 t
  · refine ⟨a, b, ⟨?_, hd.1, ?_, fun h => ?_⟩, h1, h2⟩
    · simp [hq]
    · intro hs t ht
      subst hs
      have hn := text_ne h1
      cases a with
      | nil => exact hn rfl
      | cons c a =>
        simp [hq] at ht
        exact hd.2 a (by rw [ht.1])
    · simp [hq] at h
/-- l is the text of the fraction T in lowest terms, of at most 600 digits above and below. -/
def IsFr (l : List UInt8) (T : Fr) : Prop := ∃ N z D, Parts l T.s N z D ∧ parseErr N = 0 ∧ decVal N = T.p ∧ z = !decide (T.q = 1) ∧ (z = true → parseErr D = 0 ∧ decVal D = T.q) ∧ Fr.Ok T
theorem IsFr.text {l : List UInt8} {T : Fr} (h : IsFr l T) : fText T.s T.p T.q l := by
  obtain ⟨N, z, D, h1, h2, h3, h4, h5, _⟩ := h
  refine ⟨N, D, by rw [← h3]; exact isText_of_ok N h2, fun hq => ?_, ?_⟩
  · have hz : z = true := by rw [h4]; simp [hq]
    rw [← (h5 hz).2]
    exact isText_of_ok D (h5 hz).1
  · rw [h1.eq, h4]
    by_cases hq : T.q = 1 <;> simp [hq]
theorem IsFr.of_text {l : List UInt8} {T : Fr} (h : fText T.s T.p T.q l) (ho : Fr.Ok T) {k : Nat} (hp : T.p < 10 ^ k) (hq : T.q < 10 ^ k) (hk : k ≤ 599) : IsFr l T := by
  obtain ⟨a, b, h1, h2, h3⟩ := fText_parts h
  have la := isText_len _ _ _ h2 hp
  refine ⟨a, _, b, h1, isText_ok _ _ h2 (by omega), isText_dec _ _ h2, rfl, fun hz => ?_, ho⟩
  have hq1 : T.q ≠ 1 := by simpa using hz
  have lb := isText_len _ _ _ (h3 hq1) hq
  exact ⟨isText_ok _ _ (h3 hq1) (by omega), isText_dec _ _ (h3 hq1)⟩
/-- If the parts can be read, but what they are in lowest terms has another text: none. -/
theorem IsFr.of_parts {l N D : List UInt8} {u z : Bool} {T : Fr} (h : Parts l u N z D) (hn : parseErr N = 0) (hd : z = true → parseErr D = 0) (ho : Fr.Ok T) (e1 : T.s = u) (e2 : decVal N = T.p) (e3 : z = !decide (T.q = 1)) (e4 : z = true → decVal D = T.q) : IsFr l T := by
  subst e1
  exact ⟨N, z, D, h, hn, e2, e3, fun hz => ⟨hd hz, e4 hz⟩, ho⟩
theorem IsFr.of_same {l N D : List UInt8} {u z : Bool} {T : Fr} (h : Parts l u N z D) (hn : parseErr N = 0) (hd : z = true → parseErr D = 0) (ho : Fr.Ok T) (ht : fText T.s T.p T.q l) : IsFr l T := by
  obtain ⟨a, b, h1, h2, h3⟩ := fText_parts ht
  obtain ⟨e1, e2, e3, e4⟩ := h.unique h1
  subst e2 e4
  refine .of_parts h hn hd ho e1.symm (isText_dec _ _ h2) e3 (fun hz => isText_dec _ _ (h3 ?_))
  rw [e3] at hz
  simpa using hz
/-- A text denotes one fraction at most. -/
theorem IsFr.mk {l N D : List UInt8} {u z : Bool} {T : Fr} (h : Parts l u N z D) (hT : IsFr l T) : parseErr N = 0 ∧ (z = true → parseErr D = 0) ∧ 0 < (if z then decVal D else 1) ∧ Fr.mk' u (decVal N) (if z then decVal D else 1) = T ∧ T.s = u ∧ decVal N = T.p ∧ z = !decide (T.q = 1) ∧ (z = true → decVal D = T.q) := by
  obtain ⟨N', z', D', h1, h2, h3, h4, h5, ho⟩ := hT
  obtain ⟨e1, e2, e3, e4⟩ := h.unique h1
  subst e2 e3 e4
  have hq : (if z then decVal D else 1) = T.q := by
    cases hz : z with
    | true => exact (h5 hz).2
    | false =>
      rw [hz] at h4
      have : T.q = 1 := by simpa using h4.symm
      rw [this]; rfl
  rw [hq, h3, e1]
  refine ⟨h2, fun hz => (h5 hz).1, ho.1, ?_, rfl, rfl, h4, fun hz => (h5 hz).2⟩
  exact (Fr.eq_mk' ho ho.1 rfl).symm
end Go.Proofs.YtbllnkhbahenkaaGreatDoor
