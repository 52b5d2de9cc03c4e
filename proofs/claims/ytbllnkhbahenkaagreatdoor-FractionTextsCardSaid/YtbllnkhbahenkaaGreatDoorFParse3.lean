/- fraction.Parse accepts exactly the texts of fractions in lowest terms: no claim of its own. -/
import Derived.Test.YtbllnkhbahenkaaGreatDoorFParse2
namespace Go.Proofs.YtbllnkhbahenkaaGreatDoor
open Go.RowKit
/-- The number that a part denotes is not too large. -/
theorem Split.bounds {s N D : ByteArray} {u z : Bool} (h : Split s u N z D) (hs : s.size ≤ 1202) (hn : parseErr N.data.toList = 0) (hd : z = true → parseErr D.data.toList = 0) {p q : Nat} (hp : decVal N.data.toList = p) (hq : (if z then decVal D.data.toList else 1) = q) :
    (Fr.mk' u p q).p < 4294967296 ^ s.size ∧ (Fr.mk' u p q).q < 4294967296 ^ s.size ∧ p < 4294967296 ^ s.size ∧ q < 4294967296 ^ s.size := by
  have hz := h.sizes
  have h1 : p < 4294967296 ^ s.size := by rw [← hp]; exact dec_pow hn (by rw [size_list]; exact hz.1)
  have h0 : 0 < s.size := by
    have := (parseErr_zero _ hn).1
    rw [size_list] at this
    omega
  have h2 : q < 4294967296 ^ s.size := by
    rw [← hq]
    cases z with
    | true => exact dec_pow (hd rfl) (by rw [size_list]; exact hz.2)
    | false => exact Nat.lt_of_lt_of_le (show 1 < 4294967296 ^ Nat.succ 0 by decide) (Nat.pow_le_pow_right (n := 4294967296) (by decide) h0)
  exact ⟨Nat.lt_of_le_of_lt (Nat.div_le_self _ _) h1, Nat.lt_of_le_of_lt (Nat.div_le_self _ _) h2, h1, h2⟩
/-- read of parts that are numbers, the lower one not zero. -/
theorem read_good {s N D : ByteArray} {u z : Bool} (h : Split s u N z D) (hs : s.size ≤ 1202) (hn : parseErr N.data.toList = 0) (hd : z = true → parseErr D.data.toList = 0) {p q : Nat} (hp : decVal N.data.toList = p) (hq : (if z then decVal D.data.toList else 1) = q) (q0 : 0 < q) (w : World) :
    Calls Tryz.prog 25 #[.agg #[.bool u, .string N, .bool z, .string D]] w (GivesFrE (Fr.mk' u p q) 0 w) := by
  have hz := h.sizes
  cases z with
  | true => exact read_both u N D p q w (by omega) (by omega) hn (hd rfl) hp hq q0
  | false =>
    obtain rfl : 1 = q := hq
    exact read_whole u N D p w (by omega) hn hp
/-- read of other parts. -/
theorem read_fails {s N D : ByteArray} {u z : Bool} (h : Split s u N z D) (hs : s.size ≤ 1202) (hb : ¬ (parseErr N.data.toList = 0 ∧ (z = true → parseErr D.data.toList = 0) ∧ 0 < (if z then decVal D.data.toList else 1))) :
    ∃ k : Int, (k != 0) = true ∧ ∀ w, Calls Tryz.prog 25 #[.agg #[.bool u, .string N, .bool z, .string D]] w (GivesFrE ⟨false, 0, 0⟩ k w) := by
  have hz := h.sizes
  by_cases hn : parseErr N.data.toList = 0
  · cases z with
    | false => exact absurd ⟨hn, (fun h => by cases h), (show 0 < 1 by decide)⟩ hb
    | true =>
      by_cases hd : parseErr D.data.toList = 0
      · have h0 : decVal D.data.toList = 0 := by
          rcases Nat.eq_zero_or_pos (decVal D.data.toList) with h0 | h0
          · exact h0
          · exact absurd ⟨hn, fun _ => hd, h0⟩ hb
        exact ⟨8, by decide, fun w => read_nought u N D _ _ w (by omega) (by omega) hn hd rfl h0 rfl⟩
      · exact ⟨((parseErr D.data.toList : Nat) : Int), bne_iff_ne.2 (by omega), fun w => read_below u N D _ _ w (by omega) (by omega) hn rfl hd rfl⟩
  · exact ⟨((parseErr N.data.toList : Nat) : Int), bne_iff_ne.2 (by omega), fun w => read_above u N D _ w (by omega) rfl hn z⟩
theorem bytes_list {s t : ByteArray} (h : s = t) : s.data.toList = t.data.toList := by rw [h]
theorem fparse_yes (s : ByteArray) (T : Fr) (h : IsFr s.data.toList T) (hs : s.size ≤ 1202) (w : World) : Calls Tryz.prog 8 #[.string s] w (GivesFrE T 0 w) := by
  obtain ⟨u, N, z, D, sp⟩ := Split.exist s
  obtain ⟨hn, hd, q0, hT, e1, e2, e3, e4⟩ := h.mk sp.parts
  have hb := sp.bounds hs hn hd rfl rfl (u := u)
  have hg := read_good sp hs hn hd rfl rfl q0
  rw [hT] at hb hg
  have hz := sp.sizes
  obtain ⟨b, p, q⟩ := T
  simp only at e1 e2 e3 e4 hb
  refine parse_kept s N D u z sp hs b (!decide (q = 1)) p q s.size hb.1 hb.2.1 (by omega) rfl hg (fun s' t' h1 h2 h3 w' => ?_) w
  have i1 : s' = N := bytes_eq _ _ (isText_inj _ _ _ h1 (by rw [← e2]; exact isText_of_ok _ hn))
  have i2 : t' = D := by
    by_cases hq : q = 1
    · rw [h2 hq]
      exact (sp.empty (by rw [e3]; simp [hq])).symm
    · have hz : z = true := by rw [e3]; simp [hq]
      exact bytes_eq _ _ (isText_inj _ _ _ (h3 hq) (by rw [← e4 hz]; exact isText_of_ok _ (hd hz)))
  subst i1 i2
  obtain ⟨r, hr, hiff⟩ := neq_any b (!decide (q = 1)) u z s' t' s' t' (by omega) (by omega) (by omega) (by omega) w'
  obtain rfl : r = true := hiff.2 ⟨e1, rfl, e3.symm, rfl⟩
  exact hr
theorem fparse_no (s : ByteArray) (h : ∀ T, ¬ IsFr s.data.toList T) (hs : s.size ≤ 1202) (w : World) : Calls Tryz.prog 8 #[.string s] w (GivesFrE ⟨false, 0, 0⟩ 2 w) := by
  obtain ⟨u, N, z, D, sp⟩ := Split.exist s
  by_cases hb : parseErr N.data.toList = 0 ∧ (z = true → parseErr D.data.toList = 0) ∧ 0 < (if z then decVal D.data.toList else 1)
  · obtain ⟨hn, hd, q0⟩ := hb
    have hb := sp.bounds hs hn hd rfl rfl (u := u)
    have hg := read_good sp hs hn hd rfl rfl q0
    have ho := Fr.mk'_ok u (decVal N.data.toList) _ q0
    generalize Fr.mk' u (decVal N.data.toList) (if z then decVal D.data.toList else 1) = T at hb hg ho
    have hz := sp.sizes
    obtain ⟨b, p, q⟩ := T
    simp only at hb
    refine parse_other s N D u z sp hs b (!decide (q = 1)) p q s.size hb.1 hb.2.1 (by omega) rfl hg (fun s' t' h1 h2 h3 w' => ?_) w
    have l1 := text_size h1 hb.1
    have l2 : t'.size ≤ 10 * s.size + 1 := by
      by_cases hq : q = 1
      · rw [h2 hq]; exact Nat.zero_le _
      · exact text_size (h3 hq) hb.2.1
    obtain ⟨r, hr, hiff⟩ := neq_any b (!decide (q = 1)) u z s' t' N D (by omega) (by omega) (by omega) (by omega) w'
    cases r with
    | false => exact hr
    | true =>
      obtain ⟨e1, e2, e3, e4⟩ := hiff.1 rfl
      subst e2 e4
      refine absurd (IsFr.of_parts sp.parts hn hd ho e1 (isText_dec _ _ h1) e3.symm (fun hz => isText_dec _ _ (h3 ?_))) (h _)
      rw [← e3] at hz
      simpa using hz
  · obtain ⟨k, hk, rd⟩ := read_fails sp hs hb
    exact parse_bad s N D u z sp hs k hk rd w
end Go.Proofs.YtbllnkhbahenkaaGreatDoor
