/- The mathematics of CRC-32C, FNV-1a, byte texts and hexadecimal digits: no program, no claim of its own. -/
namespace Go.Proofs.YtohamhejmmangaaDoor
/-- One shift of the register of CRC-32C. -/
def bitStep (r : Nat) : Nat := if r % 2 = 1 then r / 2 ^^^ 2197175160 else r / 2
def bits4 (r : Nat) : Nat := bitStep (bitStep (bitStep (bitStep r)))
def nibs : List Nat := [0x00000000, 0x105ec76f, 0x20bd8ede, 0x30e349b1, 0x417b1dbc, 0x5125dad3, 0x61c69362, 0x7198540d, 0x82f63b78, 0x92a8fc17, 0xa24bb5a6, 0xb21572c9, 0xc38d26c4, 0xd3d3e1ab, 0xe330a81a, 0xf36e6f75]
def nibStep (r : Nat) : Nat := r / 16 ^^^ nibs.getD (r % 16) 0
/-- The register step. -/
def byteStep (r b : Nat) : Nat := bits4 (bits4 (r ^^^ b))
theorem xor_swap4 (a b p : Nat) : (a ^^^ p) ^^^ (b ^^^ p) = a ^^^ b := by
  apply Nat.eq_of_testBit_eq
  intro i
  simp only [Nat.testBit_xor]
  cases a.testBit i <;> cases b.testBit i <;> cases p.testBit i <;> rfl
theorem bitStep_xor (x y : Nat) : bitStep (x ^^^ y) = bitStep x ^^^ bitStep y := by
  unfold bitStep
  have h := @Nat.xor_mod_two_eq_one x y
  rcases Nat.mod_two_eq_zero_or_one x with hx | hx <;> rcases Nat.mod_two_eq_zero_or_one y with hy | hy
  · rw [if_neg (by rw [h]; simp [hx, hy]), if_neg (by omega), if_neg (by omega), Nat.xor_div_two]
  · rw [if_pos (by rw [h]; simp [hx, hy]), if_neg (by omega), if_pos hy, Nat.xor_div_two, Nat.xor_assoc]
  · rw [if_pos (by rw [h]; simp [hx, hy]), if_pos hx, if_neg (by omega), Nat.xor_div_two, Nat.xor_assoc, Nat.xor_assoc, Nat.xor_comm (y / 2)]
  · rw [if_neg (by rw [h]; simp [hx, hy]), if_pos hx, if_pos hy, Nat.xor_div_two, xor_swap4]
theorem bits4_xor (x y : Nat) : bits4 (x ^^^ y) = bits4 x ^^^ bits4 y := by
  unfold bits4; simp only [bitStep_xor]
theorem bitStep_double (x : Nat) : bitStep (2 * x) = x := by
  unfold bitStep
  rw [if_neg (by omega)]; omega
theorem bits4_sixteen (x : Nat) : bits4 (16 * x) = x := by
  unfold bits4
  rw [show 16 * x = 2 * (2 * (2 * (2 * x))) by omega, bitStep_double, bitStep_double, bitStep_double, bitStep_double]
theorem split16 (r : Nat) : r = (16 * (r / 16)) ^^^ (r % 16) := by
  apply Nat.eq_of_testBit_eq
  intro i
  rw [show (16 : Nat) = 2 ^ 4 from rfl, Nat.testBit_xor, Nat.testBit_two_pow_mul, Nat.testBit_mod_two_pow, Nat.testBit_div_two_pow]
  rcases Nat.lt_or_ge i 4 with h | h
  · simp [h, show ¬ 4 ≤ i by omega]
  · simp [h, show ¬ i < 4 by omega, show i - 4 + 4 = i by omega]
theorem bits4_small : ∀ t, t < 16 → bits4 t = nibs.getD t 0 := by decide
theorem nibStep_eq (r : Nat) : nibStep r = bits4 r := by
  unfold nibStep
  rw [← bits4_small _ (Nat.mod_lt _ (by decide))]
  conv => rhs; rw [split16 r, bits4_xor, bits4_sixteen]
theorem bitStep_lt {r : Nat} (h : r < 4294967296) : bitStep r < 4294967296 := by
  unfold bitStep
  split
  · exact Nat.xor_lt_two_pow (n := 32) (by omega) (by decide)
  · omega
theorem bits4_lt {r : Nat} (h : r < 4294967296) : bits4 r < 4294967296 := bitStep_lt (bitStep_lt (bitStep_lt (bitStep_lt h)))
theorem byteStep_lt {r b : Nat} (h : r < 4294967296) (hb : b < 4294967296) : byteStep r b < 4294967296 :=
  bits4_lt (bits4_lt (Nat.xor_lt_two_pow (n := 32) h hb))
theorem xor_cancel_right {a b p : Nat} (h : a ^^^ p = b ^^^ p) : a = b := by
  have : (a ^^^ p) ^^^ p = (b ^^^ p) ^^^ p := by rw [h]
  simpa [Nat.xor_assoc] using this
theorem xor_cancel_left {a b p : Nat} (h : p ^^^ a = p ^^^ b) : a = b := by
  rw [Nat.xor_comm p a, Nat.xor_comm p b] at h
  exact xor_cancel_right h
theorem bitStep_top {r : Nat} (h : r < 4294967296) : (bitStep r).testBit 31 = decide (r % 2 = 1) := by
  have h2 : (r / 2).testBit 31 = false := Nat.testBit_lt_two_pow (by omega)
  unfold bitStep
  split
  · rw [Nat.testBit_xor, h2, show (2197175160 : Nat).testBit 31 = true by decide]; simp [*]
  · rw [h2]; simp [*]
theorem bitStep_inj {x y : Nat} (hx : x < 4294967296) (hy : y < 4294967296) (h : bitStep x = bitStep y) : x = y := by
  have t : decide (x % 2 = 1) = decide (y % 2 = 1) := by rw [← bitStep_top hx, ← bitStep_top hy, h]
  have t' : x % 2 = 1 ↔ y % 2 = 1 := by simpa using t
  unfold bitStep at h
  by_cases p : x % 2 = 1
  · rw [if_pos p, if_pos (t'.1 p)] at h
    have := xor_cancel_right h
    have := t'.1 p
    omega
  · have q : ¬ y % 2 = 1 := fun q => p (t'.2 q)
    rw [if_neg p, if_neg q] at h
    omega
theorem bits4_inj {x y : Nat} (hx : x < 4294967296) (hy : y < 4294967296) (h : bits4 x = bits4 y) : x = y := by
  have a1 := bitStep_lt hx
  have a2 := bitStep_lt a1
  have a3 := bitStep_lt a2
  have b1 := bitStep_lt hy
  have b2 := bitStep_lt b1
  have b3 := bitStep_lt b2
  exact bitStep_inj hx hy (bitStep_inj a1 b1 (bitStep_inj a2 b2 (bitStep_inj a3 b3 h)))
theorem byteStep_inj {r r' b b' : Nat} (h1 : r < 4294967296) (h2 : r' < 4294967296) (h3 : b < 4294967296) (h4 : b' < 4294967296) (h : byteStep r b = byteStep r' b') : r ^^^ b = r' ^^^ b' := by
  have a : r ^^^ b < 4294967296 := Nat.xor_lt_two_pow (n := 32) h1 h3
  have a' : r' ^^^ b' < 4294967296 := Nat.xor_lt_two_pow (n := 32) h2 h4
  exact bits4_inj a a' (bits4_inj (bits4_lt a) (bits4_lt a') h)
theorem byteStep_nib (r b : Nat) : byteStep r b = nibStep (nibStep (r ^^^ b)) := by rw [nibStep_eq, nibStep_eq]; rfl
/-- The register after the register steps of the bytes of l. -/
def crcFold (r : Nat) : List UInt8 → Nat
  | [] => r
  | b :: l => crcFold (byteStep r b.toNat) l
/-- What Update answers. -/
def crcOf (c : Nat) (l : List UInt8) : Nat := 4294967295 - crcFold (4294967295 - c) l
theorem u8_lt (b : UInt8) : b.toNat < 4294967296 := by have := b.toNat_lt; omega
theorem crcFold_lt {r : Nat} (h : r < 4294967296) (l : List UInt8) : crcFold r l < 4294967296 := by
  induction l generalizing r with
  | nil => exact h
  | cons b l ih => exact ih (byteStep_lt h (u8_lt b))
theorem crcFold_append (r : Nat) (l m : List UInt8) : crcFold r (l ++ m) = crcFold (crcFold r l) m := by
  induction l generalizing r with
  | nil => rfl
  | cons b l ih => exact ih _
theorem crcFold_snoc (r : Nat) (l : List UInt8) (b : UInt8) : crcFold r (l ++ [b]) = byteStep (crcFold r l) b.toNat := by
  rw [crcFold_append]; rfl
theorem crcFold_inj {r r' : Nat} (h : r < 4294967296) (h' : r' < 4294967296) (l : List UInt8) (e : crcFold r l = crcFold r' l) : r = r' := by
  induction l generalizing r r' with
  | nil => exact e
  | cons b l ih => exact xor_cancel_right (byteStep_inj h h' (u8_lt b) (u8_lt b) (ih (byteStep_lt h (u8_lt b)) (byteStep_lt h' (u8_lt b)) e))
theorem crcOf_lt (c : Nat) (l : List UInt8) : crcOf c l < 4294967296 := by unfold crcOf; omega
theorem crcOf_append {c : Nat} (h : c < 4294967296) (l m : List UInt8) : crcOf (crcOf c l) m = crcOf c (l ++ m) := by
  unfold crcOf
  have := crcFold_lt (r := 4294967295 - c) (by omega) l
  rw [crcFold_append, show 4294967295 - (4294967295 - crcFold (4294967295 - c) l) = crcFold (4294967295 - c) l by omega]
theorem crcOf_nil {c : Nat} (h : c < 4294967296) : crcOf c [] = c := by
  unfold crcOf crcFold; omega
theorem crcOf_fold_inj {c : Nat} (l l' : List UInt8) (h : crcOf c l = crcOf c l') (hc : c < 4294967296) : crcFold (4294967295 - c) l = crcFold (4294967295 - c) l' := by
  unfold crcOf at h
  have := crcFold_lt (r := 4294967295 - c) (by omega) l
  have := crcFold_lt (r := 4294967295 - c) (by omega) l'
  omega
/-- A list with one byte changed. -/
theorem set_split {l : List UInt8} {i : Nat} (h : i < l.length) (b : UInt8) : l.set i b = l.take i ++ b :: l.drop (i + 1) := by
  rw [List.set_eq_take_append_cons_drop, if_pos h]
theorem self_split {l : List UInt8} {i : Nat} (h : i < l.length) : l = l.take i ++ l[i] :: l.drop (i + 1) := by
  rw [List.getElem_cons_drop, List.take_append_drop]
theorem crcFold_set {r : Nat} (hr : r < 4294967296) {l : List UInt8} {i : Nat} (h : i < l.length) (b : UInt8) (e : crcFold r (l.set i b) = crcFold r l) : b = l[i] := by
  rw [set_split h b] at e
  have e' : crcFold r (l.take i ++ b :: l.drop (i + 1)) = crcFold r (l.take i ++ l[i] :: l.drop (i + 1)) := by rw [e, ← self_split h]
  rw [crcFold_append, crcFold_append] at e'
  have g := crcFold_lt hr (l.take i)
  have := crcFold_inj (byteStep_lt g (u8_lt b)) (byteStep_lt g (u8_lt _)) _ e'
  exact UInt8.toNat_inj.1 (xor_cancel_left (byteStep_inj g g (u8_lt b) (u8_lt _) this))
theorem crcOf_set {c : Nat} (hc : c < 4294967296) {l : List UInt8} {i : Nat} (h : i < l.length) (b : UInt8) (e : crcOf c (l.set i b) = crcOf c l) : b = l[i] :=
  crcFold_set (r := 4294967295 - c) (by omega) h b (crcOf_fold_inj _ _ e hc)
/-- The hash step. -/
def fnvStep (h b : Nat) : Nat := (h ^^^ b) * 1099511628211 % 18446744073709551616
def fnvFold (h : Nat) : List UInt8 → Nat
  | [] => h
  | b :: l => fnvFold (fnvStep h b.toNat) l
theorem fnvStep_lt (h b : Nat) : fnvStep h b < 18446744073709551616 := Nat.mod_lt _ (by decide)
theorem fnvFold_lt {h : Nat} (hh : h < 18446744073709551616) (l : List UInt8) : fnvFold h l < 18446744073709551616 := by
  induction l generalizing h with
  | nil => exact hh
  | cons b l ih => exact ih (fnvStep_lt _ _)
theorem fnvFold_append (h : Nat) (l m : List UInt8) : fnvFold h (l ++ m) = fnvFold (fnvFold h l) m := by
  induction l generalizing h with
  | nil => rfl
  | cons b l ih => exact ih _
theorem fnvFold_snoc (r : Nat) (l : List UInt8) (b : UInt8) : fnvFold r (l ++ [b]) = fnvStep (fnvFold r l) b.toNat := by
  rw [fnvFold_append]; rfl
theorem odd_inv (F I M x : Nat) (h : F * I % M = 1 % M) (hx : x < M) : x * F % M * I % M = x := by
  rw [Nat.mod_mul_mod, Nat.mul_assoc, Nat.mul_mod, h, ← Nat.mul_mod, Nat.mul_one, Nat.mod_eq_of_lt hx]
theorem fnv_unit : 1099511628211 * 14886173955864302971 % 18446744073709551616 = 1 % 18446744073709551616 := by decide
theorem fnvStep_inj {r r' b b' : Nat} (h1 : r < 18446744073709551616) (h2 : r' < 18446744073709551616) (h3 : b < 18446744073709551616) (h4 : b' < 18446744073709551616) (h : fnvStep r b = fnvStep r' b') : r ^^^ b = r' ^^^ b' := by
  have a : r ^^^ b < 18446744073709551616 := Nat.xor_lt_two_pow (n := 64) h1 h3
  have a' : r' ^^^ b' < 18446744073709551616 := Nat.xor_lt_two_pow (n := 64) h2 h4
  unfold fnvStep at h
  rw [← odd_inv _ _ _ _ fnv_unit a, h, odd_inv _ _ _ _ fnv_unit a']
theorem u8_lt64 (b : UInt8) : b.toNat < 18446744073709551616 := by have := b.toNat_lt; omega
theorem fnvFold_inj {r r' : Nat} (h : r < 18446744073709551616) (h' : r' < 18446744073709551616) (l : List UInt8) (e : fnvFold r l = fnvFold r' l) : r = r' := by
  induction l generalizing r r' with
  | nil => exact e
  | cons b l ih => exact xor_cancel_right (fnvStep_inj h h' (u8_lt64 b) (u8_lt64 b) (ih (fnvStep_lt _ _) (fnvStep_lt _ _) e))
theorem fnvFold_set {r : Nat} (hr : r < 18446744073709551616) {l : List UInt8} {i : Nat} (h : i < l.length) (b : UInt8) (e : fnvFold r (l.set i b) = fnvFold r l) : b = l[i] := by
  rw [set_split h b] at e
  have e' : fnvFold r (l.take i ++ b :: l.drop (i + 1)) = fnvFold r (l.take i ++ l[i] :: l.drop (i + 1)) := by rw [e, ← self_split h]
  rw [fnvFold_append, fnvFold_append] at e'
  have g := fnvFold_lt hr (l.take i)
  have := fnvFold_inj (fnvStep_lt _ _) (fnvStep_lt _ _) _ e'
  exact UInt8.toNat_inj.1 (xor_cancel_left (fnvStep_inj g g (u8_lt64 b) (u8_lt64 _) this))
/-- The k lowest bytes of x, least significant byte first. -/
def lowB (x k : Nat) : List UInt8 := (List.range k).map fun i => UInt8.ofNat (x / 256 ^ i % 256)
theorem lowB_length (x k : Nat) : (lowB x k).length = k := by simp [lowB]
theorem lowB_succ (x k : Nat) : lowB x (k + 1) = lowB x k ++ [UInt8.ofNat (x / 256 ^ k % 256)] := by
  simp [lowB, List.range_succ]
theorem ofNat_inj {a b : Nat} (ha : a < 256) (hb : b < 256) (h : UInt8.ofNat a = UInt8.ofNat b) : a = b := by
  have := congrArg UInt8.toNat h
  simpa [Nat.mod_eq_of_lt ha, Nat.mod_eq_of_lt hb] using this
theorem lowB_inj4 {x y : Nat} (hx : x < 4294967296) (hy : y < 4294967296) (h : lowB x 4 = lowB y 4) : x = y := by
  simp only [lowB_succ, show ∀ x, lowB x 0 = [] from fun _ => rfl, List.nil_append, List.cons_append, List.cons.injEq, and_true] at h
  obtain ⟨h0, h1, h2, h3⟩ := h
  have e0 := ofNat_inj (Nat.mod_lt _ (by decide)) (Nat.mod_lt _ (by decide)) h0
  have e1 := ofNat_inj (Nat.mod_lt _ (by decide)) (Nat.mod_lt _ (by decide)) h1
  have e2 := ofNat_inj (Nat.mod_lt _ (by decide)) (Nat.mod_lt _ (by decide)) h2
  have e3 := ofNat_inj (Nat.mod_lt _ (by decide)) (Nat.mod_lt _ (by decide)) h3
  simp only [show (256 : Nat) ^ 0 = 1 from rfl, show (256 : Nat) ^ 1 = 256 from rfl, show (256 : Nat) ^ 2 = 65536 from rfl, show (256 : Nat) ^ 3 = 16777216 from rfl] at e0 e1 e2 e3
  omega
/-- What Chain answers. -/
def chainOf (prev : Nat) (l : List UInt8) : Nat := fnvFold 14695981039346656037 (lowB prev 8 ++ lowB l.length 8 ++ l)
theorem chainOf_lt (prev : Nat) (l : List UInt8) : chainOf prev l < 18446744073709551616 := fnvFold_lt (by decide) _
theorem chainOf_set (prev : Nat) {l : List UInt8} {i : Nat} (h : i < l.length) (b : UInt8) (e : chainOf prev (l.set i b) = chainOf prev l) : b = l[i] := by
  unfold chainOf at e
  rw [List.length_set, fnvFold_append, fnvFold_append _ _ l] at e
  exact fnvFold_set (fnvFold_lt (by decide) _) h b e
/-- What Seal answers. -/
def sealOf (l : List UInt8) : List UInt8 := lowB (crcOf 0 l) 4
theorem sealOf_length (l : List UInt8) : (sealOf l).length = 4 := lowB_length _ _
theorem sealOf_set {l : List UInt8} {i : Nat} (h : i < l.length) (b : UInt8) (e : sealOf (l.set i b) = sealOf l) : b = l[i] :=
  crcOf_set (by decide) h b (lowB_inj4 (crcOf_lt _ _) (crcOf_lt _ _) e)
/-- What Open answers: the error; the text where there is none. -/
def openErr (l : List UInt8) : Nat := if l.length < 4 then 1 else if l.take 4 = sealOf (l.drop 4) then 0 else 11
def openText (l : List UInt8) : List UInt8 := if openErr l = 0 then l.drop 4 else []
theorem openErr_seal (l : List UInt8) : openErr (sealOf l ++ l) = 0 := by
  unfold openErr
  have := sealOf_length l
  rw [if_neg (by simp; omega), if_pos]
  rw [List.take_left' this, List.drop_left' this]
theorem openText_seal (l : List UInt8) : openText (sealOf l ++ l) = l := by
  unfold openText
  rw [if_pos (openErr_seal l), List.drop_left' (sealOf_length l)]
/-- A change of a single byte of a sealed text is detected. -/
theorem openErr_set (l : List UInt8) {i : Nat} (h : i < l.length + 4) (b : UInt8) (hb : b ≠ (sealOf l ++ l)[i]'(by simp [sealOf_length]; omega)) : openErr ((sealOf l ++ l).set i b) = 11 := by
  have h4 := sealOf_length l
  have hl : (sealOf l ++ l).length = l.length + 4 := by rw [List.length_append, h4]; omega
  unfold openErr
  rw [if_neg (by simp [h4]), if_neg]
  intro e
  rcases Nat.lt_or_ge i 4 with hi | hi
  · rw [List.set_append, if_pos (by omega), List.take_left' (by simpa using h4), List.drop_left' (by simpa using h4)] at e
    have : (sealOf l).set i b = sealOf l := e
    have g : ((sealOf l).set i b)[i]? = (sealOf l)[i]? := by rw [this]
    rw [List.getElem?_set_self (by omega), List.getElem?_eq_getElem (by omega)] at g
    have g' := Option.some.inj g
    rw [List.getElem_append_left (by omega)] at hb
    exact hb g'
  · rw [List.set_append, if_neg (by omega), List.take_left' h4, List.drop_left' h4, h4] at e
    rw [List.getElem_append_right (by omega)] at hb
    have := sealOf_set (l := l) (i := i - 4) (by omega) b e.symm
    simp only [h4] at hb
    exact hb this
/-- A hexadecimal digit. -/
def hexD (d : Nat) : UInt8 := UInt8.ofNat (if d < 10 then 48 + d else 87 + d)
def isHex (c : UInt8) : Bool := (48 ≤ c.toNat && c.toNat ≤ 57) || (97 ≤ c.toNat && c.toNat ≤ 102)
def hexV (c : UInt8) : Nat := if c.toNat ≤ 57 then c.toNat - 48 else c.toNat - 87
/-- The k lowest hexadecimal digits of x, most significant digit first. -/
def hexLow (x : Nat) : Nat → List UInt8
  | 0 => []
  | k + 1 => hexD (x / 16 ^ k % 16) :: hexLow x k
def hexVal (l : List UInt8) : Nat := l.foldl (fun x c => x * 16 + hexV c) 0
/-- What Unhex answers. -/
def unhexErr (l : List UInt8) : Nat := if l.length = 16 ∧ l.all isHex = true then 0 else 2
def unhexVal (l : List UInt8) : Nat := if unhexErr l = 0 then hexVal l else 0
theorem hexLow_length (x k : Nat) : (hexLow x k).length = k := by
  induction k with
  | zero => rfl
  | succ k ih => simp [hexLow, ih]
theorem hexLow_at (x k i : Nat) (h : i < k) : (hexLow x k)[i]? = some (hexD (x / 16 ^ (k - 1 - i) % 16)) := by
  induction k generalizing i with
  | zero => omega
  | succ k ih =>
    cases i with
    | zero => simp [hexLow]
    | succ i =>
      rw [hexLow, List.getElem?_cons_succ, ih i (by omega)]
      rw [show k + 1 - 1 - (i + 1) = k - 1 - i by omega]
theorem hexD_hex : ∀ d, d < 16 → isHex (hexD d) = true := by decide
theorem hexV_D : ∀ d, d < 16 → hexV (hexD d) = d := by decide
theorem hexD_V (c : UInt8) (h : isHex c = true) : hexD (hexV c) = c ∧ hexV c < 16 := by
  simp only [isHex, Bool.or_eq_true, Bool.and_eq_true, decide_eq_true_eq] at h
  rcases h with ⟨h1, h2⟩ | ⟨h1, h2⟩
  · have e : hexV c = c.toNat - 48 := if_pos h2
    rw [e]
    refine ⟨?_, by omega⟩
    unfold hexD
    rw [if_pos (by omega), show 48 + (c.toNat - 48) = c.toNat by omega]
    exact UInt8.ofNat_toNat
  · have e : hexV c = c.toNat - 87 := if_neg (by omega)
    rw [e]
    refine ⟨?_, by omega⟩
    unfold hexD
    rw [if_neg (by omega), show 87 + (c.toNat - 87) = c.toNat by omega]
    exact UInt8.ofNat_toNat
theorem hexLow_all (x k : Nat) : (hexLow x k).all isHex = true := by
  induction k with
  | zero => rfl
  | succ k ih => simp only [hexLow, List.all_cons, ih, Bool.and_true]; exact hexD_hex _ (Nat.mod_lt _ (by decide))
theorem fold_hexLow (a x k : Nat) : (hexLow x k).foldl (fun x c => x * 16 + hexV c) a = a * 16 ^ k + x % 16 ^ k := by
  induction k generalizing a with
  | zero => simp [hexLow, Nat.mod_one]
  | succ k ih =>
    rw [hexLow, List.foldl_cons, ih, hexV_D _ (Nat.mod_lt _ (by decide)), Nat.pow_succ, Nat.mod_mul]
    grind
theorem hexVal_low (x k : Nat) (h : x < 16 ^ k) : hexVal (hexLow x k) = x := by
  unfold hexVal
  rw [fold_hexLow, Nat.zero_mul, Nat.zero_add, Nat.mod_eq_of_lt h]
theorem hexVal_from (a : Nat) (l : List UInt8) : l.foldl (fun x c => x * 16 + hexV c) a = a * 16 ^ l.length + hexVal l := by
  unfold hexVal
  induction l generalizing a with
  | nil => simp
  | cons c l ih =>
    rw [List.foldl_cons, ih, List.foldl_cons, ih (0 * 16 + hexV c), List.length_cons, Nat.pow_succ]
    grind
theorem hexVal_cons (c : UInt8) (l : List UInt8) : hexVal (c :: l) = hexV c * 16 ^ l.length + hexVal l := by
  have := hexVal_from (0 * 16 + hexV c) l
  rw [show 0 * 16 + hexV c = hexV c by omega] at this
  rw [← this]
  unfold hexVal
  rw [List.foldl_cons, show 0 * 16 + hexV c = hexV c by omega]
theorem hexVal_snoc (l : List UInt8) (c : UInt8) : hexVal (l ++ [c]) = hexVal l * 16 + hexV c := by simp [hexVal, List.foldl_append]
theorem hexVal_lt (l : List UInt8) (h : l.all isHex = true) : hexVal l < 16 ^ l.length := by
  induction l with
  | nil => decide
  | cons c l ih =>
    simp only [List.all_cons, Bool.and_eq_true] at h
    have h1 := (hexD_V c h.1).2
    have h2 := ih h.2
    rw [hexVal_cons, List.length_cons, Nat.pow_succ]
    have : hexV c * 16 ^ l.length ≤ 15 * 16 ^ l.length := Nat.mul_le_mul_right _ (by omega)
    omega
theorem hexLow_mod (q r n k : Nat) (h : k ≤ n) : hexLow (q * 16 ^ n + r) k = hexLow r k := by
  induction k with
  | zero => rfl
  | succ k ih =>
    rw [hexLow, hexLow, ih (by omega)]
    have e : q * 16 ^ n + r = r + 16 ^ k * (16 * (q * 16 ^ (n - k - 1))) := by
      have : 16 ^ n = 16 ^ k * (16 * 16 ^ (n - k - 1)) := by
        rw [← Nat.pow_succ', ← Nat.pow_add, show k + (n - k - 1 + 1) = n by omega]
      rw [this]; grind
    rw [e, Nat.add_mul_div_left _ _ (Nat.pow_pos (by decide)), Nat.add_mul_mod_self_left]
theorem hexLow_val (l : List UInt8) (h : l.all isHex = true) : hexLow (hexVal l) l.length = l := by
  induction l with
  | nil => rfl
  | cons c l ih =>
    simp only [List.all_cons, Bool.and_eq_true] at h
    have h1 := hexD_V c h.1
    have h2 := hexVal_lt l h.2
    rw [hexVal_cons, List.length_cons, hexLow, hexLow_mod _ _ _ _ (Nat.le_refl _), ih h.2]
    have e : (hexV c * 16 ^ l.length + hexVal l) / 16 ^ l.length % 16 = hexV c := by
      rw [Nat.add_comm, Nat.add_mul_div_right _ _ (Nat.pow_pos (by decide)), Nat.div_eq_of_lt h2, Nat.zero_add, Nat.mod_eq_of_lt h1.2]
    rw [e, h1.1]
/-- What Hex answers. -/
def hexOf (x : Nat) : List UInt8 := hexLow x 16
theorem unhexErr_hex (x : Nat) : unhexErr (hexOf x) = 0 := if_pos ⟨hexLow_length _ _, hexLow_all _ _⟩
theorem unhexVal_hex (x : Nat) (h : x < 18446744073709551616) : unhexVal (hexOf x) = x := by
  unfold unhexVal
  rw [if_pos (unhexErr_hex x)]
  exact hexVal_low x 16 h
theorem hexOf_unhex (l : List UInt8) (h : unhexErr l = 0) : hexOf (unhexVal l) = l := by
  unfold unhexVal
  rw [if_pos h]
  unfold unhexErr at h
  split at h
  · rename_i g
    have := hexLow_val l g.2
    rw [g.1] at this
    exact this
  · cases h
theorem unhexErr_two (l : List UInt8) (h : unhexErr l ≠ 0) : unhexErr l = 2 := by
  unfold unhexErr at *
  split at h
  · exact absurd rfl h
  · rename_i g; rw [if_neg g]
theorem unhexVal_lt (l : List UInt8) : unhexVal l < 18446744073709551616 := by
  unfold unhexVal
  split
  · rename_i h
    unfold unhexErr at h
    split at h
    · rename_i g
      have := hexVal_lt l g.2
      rw [g.1] at this
      exact this
    · cases h
  · decide
/-- The digit that Hex takes from the top of what is left of x. -/
theorem top_digit (x i : Nat) (h : i < 16) : x * 16 ^ i % 18446744073709551616 / 1152921504606846976 = x / 16 ^ (15 - i) % 16 := by
  have e1 : (18446744073709551616 : Nat) = 16 ^ i * (16 ^ (15 - i) * 16) := by
    rw [← Nat.pow_succ, ← Nat.pow_add, show i + (15 - i).succ = 16 by omega]
  have e2 : (1152921504606846976 : Nat) = 16 ^ i * 16 ^ (15 - i) := by
    rw [← Nat.pow_add, show i + (15 - i) = 15 by omega]
  rw [e1, e2, Nat.mul_comm x, Nat.mul_mod_mul_left, Nat.mul_div_mul_left _ _ (Nat.pow_pos (by decide)), Nat.mod_mul_right_div_self]
end Go.Proofs.YtohamhejmmangaaDoor
