/- Plain mathematics of fractions: no program, no claim of its own. -/
namespace Go.Proofs.YtgmjpkkpkdcncaaDoor
/-- A fraction's three fields, as numbers. -/
structure Fr where
  s : Bool
  p : Nat
  q : Nat
theorem one_of_dvd {n : Nat} (h : n ∣ 1) : n = 1 := Nat.dvd_one.1 h
namespace Fr
/-- In lowest terms. -/
def Ok (t : Fr) : Prop := 0 < t.q ∧ Nat.gcd t.p t.q = 1 ∧ (t.s = true → 0 < t.p)
/-- The numerator with its sign. -/
def num (s : Bool) (p : Nat) : Int := if s then -(p : Int) else (p : Int)
def n (t : Fr) : Int := num t.s t.p
/-- P / Q in lowest terms. -/
def mk' (s : Bool) (P Q : Nat) : Fr := ⟨s && decide (0 < P), P / Nat.gcd P Q, Q / Nat.gcd P Q⟩
def ofInt (N : Int) (Q : Nat) : Fr := mk' (decide (N < 0)) N.natAbs Q
theorem num_true (p : Nat) : num true p = -(p : Int) := rfl
theorem num_false (p : Nat) : num false p = (p : Int) := rfl
theorem num_natAbs (s : Bool) (p : Nat) : (num s p).natAbs = p := by cases s <;> simp [num]
theorem num_zero (s : Bool) : num s 0 = 0 := by cases s <;> rfl
theorem num_and (s : Bool) (P x : Nat) (h : P = 0 → x = 0) : num (s && decide (0 < P)) x = num s x := by
  rcases Nat.eq_zero_or_pos P with h0 | h0
  · rw [h h0, num_zero, num_zero]
  · rw [decide_eq_true h0, Bool.and_true]
theorem num_mul (s : Bool) (a b : Nat) : num s (a * b) = num s a * (b : Int) := by cases s <;> simp [num, Int.neg_mul]
theorem num_mul2 (s t : Bool) (a b : Nat) : num (s != t) (a * b) = num s a * num t b := by
  cases s <;> cases t <;> simp [num, Int.neg_mul, Int.mul_neg]
theorem mk'_ok (s : Bool) (P Q : Nat) (hQ : 0 < Q) : Ok (mk' s P Q) := by
  have hg : 0 < Nat.gcd P Q := Nat.gcd_pos_of_pos_right _ hQ
  refine ⟨Nat.div_pos (Nat.le_of_dvd hQ (Nat.gcd_dvd_right _ _)) hg, ?_, ?_⟩
  · exact Nat.coprime_div_gcd_div_gcd hg
  · intro h
    have h1 : 0 < P := by
      simp only [mk', Bool.and_eq_true, decide_eq_true_eq] at h
      exact h.2
    exact Nat.div_pos (Nat.le_of_dvd h1 (Nat.gcd_dvd_left _ _)) hg
theorem mk'_cross (s : Bool) (P Q : Nat) : (mk' s P Q).n * (Q : Int) = num s P * ((mk' s P Q).q : Int) := by
  have h1 : P / Nat.gcd P Q * Q = P * (Q / Nat.gcd P Q) := by
    rw [Nat.mul_comm, ← Nat.mul_div_assoc Q (Nat.gcd_dvd_left P Q), ← Nat.mul_div_assoc P (Nat.gcd_dvd_right P Q), Nat.mul_comm]
  show num (s && decide (0 < P)) (P / Nat.gcd P Q) * (Q : Int) = _
  rw [num_and s P _ (fun h => by rw [h]; exact Nat.zero_div _), ← num_mul, h1, num_mul]
  rfl
theorem cop_eq {p q p' q' : Nat} (h : Nat.gcd p q = 1) (h' : Nat.gcd p' q' = 1) (e : p * q' = p' * q) (hq : 0 < q) (hq' : 0 < q') : p = p' ∧ q = q' := by
  have c : Nat.Coprime q p := by rw [Nat.Coprime, Nat.gcd_comm]; exact h
  have c' : Nat.Coprime q' p' := by rw [Nat.Coprime, Nat.gcd_comm]; exact h'
  have d1 : q ∣ q' := c.dvd_of_dvd_mul_left ⟨p', by rw [e, Nat.mul_comm]⟩
  have d2 : q' ∣ q := c'.dvd_of_dvd_mul_left ⟨p, by rw [← e, Nat.mul_comm]⟩
  have eq : q = q' := Nat.dvd_antisymm d1 d2
  subst eq
  exact ⟨Nat.eq_of_mul_eq_mul_right hq e, rfl⟩
/-- Two fractions in lowest terms with one value are one. -/
theorem uniq {a b : Fr} (ha : Ok a) (hb : Ok b) (h : a.n * (b.q : Int) = b.n * (a.q : Int)) : a = b := by
  obtain ⟨s, p, q⟩ := a
  obtain ⟨s', p', q'⟩ := b
  obtain ⟨h1, h2, h3⟩ := ha
  obtain ⟨h1', h2', h3'⟩ := hb
  simp only at h1 h2 h3 h1' h2' h3'
  simp only [n] at h
  have e : p * q' = p' * q := by
    have := congrArg Int.natAbs h
    rwa [Int.natAbs_mul, Int.natAbs_mul, num_natAbs, num_natAbs, Int.natAbs_natCast, Int.natAbs_natCast] at this
  obtain ⟨rfl, rfl⟩ := cop_eq h2 h2' e h1 h1'
  have : s = s' := by
    have hs : num s p = num s' p := Int.eq_of_mul_eq_mul_right (by omega) h
    cases s <;> cases s'
    · rfl
    · have := h3' rfl; simp [num] at hs; omega
    · have := h3 rfl; simp [num] at hs; omega
    · rfl
  rw [this]
theorem eq_mk' {a : Fr} (ha : Ok a) {s : Bool} {P Q : Nat} (hQ : 0 < Q) (h : a.n * (Q : Int) = num s P * (a.q : Int)) : a = mk' s P Q := by
  refine uniq ha (mk'_ok s P Q hQ) ?_
  have c := mk'_cross s P Q
  have hq : (Q : Int) ≠ 0 := by omega
  refine Int.eq_of_mul_eq_mul_right hq ?_
  generalize (mk' s P Q).n = x at *
  generalize ((mk' s P Q).q : Int) = y at *
  generalize num s P = z at *
  generalize a.n = u at *
  generalize (a.q : Int) = v at *
  grind
theorem num_ofInt (N : Int) : num (decide (N < 0)) N.natAbs = N := by
  by_cases h : N < 0
  · rw [decide_eq_true h]; simp only [num, if_pos]; omega
  · rw [decide_eq_false h]; simp only [num]; rw [if_neg (by decide)]; omega
theorem mk'_ofInt (s : Bool) (P Q : Nat) : mk' s P Q = ofInt (num s P) Q := by
  unfold ofInt mk'
  rw [num_natAbs]
  congr 1
  cases s
  · have : ¬ num false P < 0 := by rw [num_false]; omega
    rw [decide_eq_false this]
  · rcases Nat.eq_zero_or_pos P with h | h
    · subst h; simp
    · have : num true P < 0 := by rw [num_true]; omega
      rw [decide_eq_true this]
theorem ofInt_ok (N : Int) (Q : Nat) (h : 0 < Q) : Ok (ofInt N Q) := mk'_ok _ _ _ h
theorem ofInt_cross (N : Int) (Q : Nat) : (ofInt N Q).n * (Q : Int) = N * ((ofInt N Q).q : Int) := by
  have := mk'_cross (decide (N < 0)) N.natAbs Q
  rw [num_ofInt] at this
  exact this
theorem ofInt_q (N : Int) (Q : Nat) (h : 0 < Q) : 0 < (ofInt N Q).q := (ofInt_ok N Q h).1
theorem ofInt_eq {N M : Int} {Q R : Nat} (hQ : 0 < Q) (hR : 0 < R) (h : N * (R : Int) = M * (Q : Int)) : ofInt N Q = ofInt M R := by
  refine uniq (ofInt_ok _ _ hQ) (ofInt_ok _ _ hR) ?_
  have c1 := ofInt_cross N Q
  have c2 := ofInt_cross M R
  have h1 : (Q : Int) ≠ 0 := by omega
  have h2 : (R : Int) ≠ 0 := by omega
  have h3 : (Q : Int) * (R : Int) ≠ 0 := Int.mul_ne_zero h1 h2
  refine Int.eq_of_mul_eq_mul_right h3 ?_
  generalize (ofInt N Q).n = a at *
  generalize ((ofInt N Q).q : Int) = b at *
  generalize (ofInt M R).n = c at *
  generalize ((ofInt M R).q : Int) = d at *
  generalize (Q : Int) = x at *
  generalize (R : Int) = y at *
  grind
theorem eq_ofInt {a : Fr} (ha : Ok a) {N : Int} {Q : Nat} (hQ : 0 < Q) (h : a.n * (Q : Int) = N * (a.q : Int)) : a = ofInt N Q := by
  refine uniq ha (ofInt_ok N Q hQ) ?_
  have c := ofInt_cross N Q
  have hq : (Q : Int) ≠ 0 := by omega
  refine Int.eq_of_mul_eq_mul_right hq ?_
  generalize (ofInt N Q).n = x at *
  generalize ((ofInt N Q).q : Int) = y at *
  generalize a.n = u at *
  generalize (a.q : Int) = v at *
  grind
/-- A fraction in lowest terms is what its fields give. -/
theorem self {a : Fr} (ha : Ok a) : a = ofInt a.n a.q := eq_ofInt ha ha.1 rfl
def add (a b : Fr) : Fr := ofInt (a.n * b.q + b.n * a.q) (a.q * b.q)
def mul (a b : Fr) : Fr := ofInt (a.n * b.n) (a.q * b.q)
def neg (a : Fr) : Fr := ⟨!a.s && decide (0 < a.p), a.p, a.q⟩
def zero : Fr := ⟨false, 0, 1⟩
def inv (a : Fr) : Fr := ⟨a.s, a.q, a.p⟩
def div (a b : Fr) : Fr := mul a (inv b)
theorem zero_ok : Ok zero := ⟨by decide, by decide, by intro h; cases h⟩
theorem neg_ok {a : Fr} (h : Ok a) : Ok (neg a) := ⟨h.1, h.2.1, fun e => by
  simp only [neg, Bool.and_eq_true, decide_eq_true_eq] at e; exact e.2⟩
theorem neg_n {a : Fr} (h : Ok a) : (neg a).n = -a.n := by
  obtain ⟨s, p, q⟩ := a
  obtain ⟨h1, h2, h3⟩ := h
  simp only at h1 h2 h3
  show num (!s && decide (0 < p)) p = -num s p
  rw [num_and _ _ _ (fun h => h)]
  cases s <;> simp [num]
theorem inv_ok {a : Fr} (h : Ok a) (hp : 0 < a.p) : Ok (inv a) := ⟨hp, by show Nat.gcd a.q a.p = 1; rw [Nat.gcd_comm]; exact h.2.1, fun _ => h.1⟩
theorem pos_mul {a b : Fr} (ha : Ok a) (hb : Ok b) : 0 < a.q * b.q := Nat.mul_pos ha.1 hb.1
theorem add_ok {a b : Fr} (ha : Ok a) (hb : Ok b) : Ok (add a b) := ofInt_ok _ _ (pos_mul ha hb)
theorem mul_ok {a b : Fr} (ha : Ok a) (hb : Ok b) : Ok (mul a b) := ofInt_ok _ _ (pos_mul ha hb)
theorem add_comm (a b : Fr) : add a b = add b a := by
  unfold add; rw [Int.add_comm, Nat.mul_comm]
theorem mul_comm (a b : Fr) : mul a b = mul b a := by
  unfold mul; rw [Int.mul_comm, Nat.mul_comm]
theorem add_cross (a b : Fr) : (add a b).n * ((a.q : Int) * (b.q : Int)) = (a.n * b.q + b.n * a.q) * ((add a b).q : Int) := by
  have := ofInt_cross (a.n * b.q + b.n * a.q) (a.q * b.q)
  rwa [Int.natCast_mul] at this
theorem mul_cross (a b : Fr) : (mul a b).n * ((a.q : Int) * (b.q : Int)) = (a.n * b.n) * ((mul a b).q : Int) := by
  have := ofInt_cross (a.n * b.n) (a.q * b.q)
  rwa [Int.natCast_mul] at this
theorem qne {a : Fr} (h : Ok a) : (a.q : Int) ≠ 0 := by have := h.1; omega
theorem add_assoc {a b c : Fr} (ha : Ok a) (hb : Ok b) (hc : Ok c) : add (add a b) c = add a (add b c) := by
  have s := add_ok ha hb
  have t := add_ok hb hc
  refine ofInt_eq (pos_mul s hc) (pos_mul ha t) ?_
  have c1 := add_cross a b
  have c2 := add_cross b c
  have hbq := qne hb
  simp only [Int.natCast_mul]
  refine Int.eq_of_mul_eq_mul_right hbq ?_
  generalize (add a b).n = sn at *
  generalize ((add a b).q : Int) = sq at *
  generalize (add b c).n = tn at *
  generalize ((add b c).q : Int) = tq at *
  generalize a.n = an at *
  generalize b.n = bn at *
  generalize c.n = cn at *
  generalize (a.q : Int) = aq at *
  generalize (b.q : Int) = bq at *
  generalize (c.q : Int) = cq at *
  clear s t ha hb hc hbq
  grind
theorem mul_assoc {a b c : Fr} (ha : Ok a) (hb : Ok b) (hc : Ok c) : mul (mul a b) c = mul a (mul b c) := by
  have s := mul_ok ha hb
  have t := mul_ok hb hc
  refine ofInt_eq (pos_mul s hc) (pos_mul ha t) ?_
  have c1 := mul_cross a b
  have c2 := mul_cross b c
  have hbq := qne hb
  simp only [Int.natCast_mul]
  refine Int.eq_of_mul_eq_mul_right hbq ?_
  generalize (mul a b).n = sn at *
  generalize ((mul a b).q : Int) = sq at *
  generalize (mul b c).n = tn at *
  generalize ((mul b c).q : Int) = tq at *
  generalize a.n = an at *
  generalize b.n = bn at *
  generalize c.n = cn at *
  generalize (a.q : Int) = aq at *
  generalize (b.q : Int) = bq at *
  generalize (c.q : Int) = cq at *
  clear s t ha hb hc hbq
  grind
theorem distrib {a b c : Fr} (ha : Ok a) (hb : Ok b) (hc : Ok c) : mul (add a b) c = add (mul a c) (mul b c) := by
  have s := add_ok ha hb
  have t := mul_ok ha hc
  have u := mul_ok hb hc
  refine ofInt_eq (pos_mul s hc) (pos_mul t u) ?_
  have c1 := add_cross a b
  have c2 := mul_cross a c
  have c3 := mul_cross b c
  have haq := qne ha
  have hbq := qne hb
  have hcq := qne hc
  simp only [Int.natCast_mul]
  refine Int.eq_of_mul_eq_mul_right (Int.mul_ne_zero (Int.mul_ne_zero haq hbq) hcq) ?_
  generalize (add a b).n = sn at *
  generalize ((add a b).q : Int) = sq at *
  generalize (mul a c).n = tn at *
  generalize ((mul a c).q : Int) = tq at *
  generalize (mul b c).n = un at *
  generalize ((mul b c).q : Int) = uq at *
  generalize a.n = an at *
  generalize b.n = bn at *
  generalize c.n = cn at *
  generalize (a.q : Int) = aq at *
  generalize (b.q : Int) = bq at *
  generalize (c.q : Int) = cq at *
  clear s t u ha hb hc haq hbq hcq
  grind
theorem add_neg_self {a : Fr} (ha : Ok a) : add a (neg a) = zero := by
  unfold add
  rw [neg_n ha, show (neg a).q = a.q from rfl]
  have : a.n * (a.q : Int) + -a.n * (a.q : Int) = 0 := by rw [← Int.add_mul]; simp [Int.add_right_neg]
  rw [this]
  have h := eq_ofInt zero_ok (N := 0) (Q := a.q * a.q) (pos_mul ha ha) (by simp [zero, n, num])
  exact h.symm
theorem zero_add {a : Fr} (ha : Ok a) : add zero a = a := by
  refine (eq_ofInt ha (pos_mul zero_ok ha) ?_).symm
  simp [zero, n, num]
theorem add_zero {a : Fr} (ha : Ok a) : add a zero = a := by rw [add_comm, zero_add ha]
theorem sub_add {a b : Fr} (ha : Ok a) (hb : Ok b) : add (add a b) (neg b) = a := by
  rw [add_assoc ha hb (neg_ok hb), add_neg_self hb, add_zero ha]
theorem inv_n (b : Fr) : (inv b).n * b.n = (b.p : Int) * b.q := by
  obtain ⟨s, p, q⟩ := b
  show num s q * num s p = (p : Int) * q
  cases s <;> simp [num, Int.mul_comm, Int.neg_mul_neg]
theorem mul_div {a b : Fr} (ha : Ok a) (hb : Ok b) (hp : 0 < b.p) : div (mul a b) b = a := by
  have hi := inv_ok hb hp
  have hm := mul_ok ha hb
  refine (eq_ofInt ha (pos_mul hm hi) ?_).symm
  have c1 := mul_cross a b
  have c2 := inv_n b
  have haq := qne ha
  have hbq := qne hb
  have hbp : (b.p : Int) ≠ 0 := by omega
  rw [show (inv b).q = b.p from rfl, Int.natCast_mul]
  have hne : (b.q : Int) ≠ 0 := hbq
  refine Int.eq_of_mul_eq_mul_right hne ?_
  generalize (mul a b).n = mn at *
  generalize ((mul a b).q : Int) = mq at *
  generalize (inv b).n = i at *
  generalize a.n = an at *
  generalize b.n = bn at *
  generalize (a.q : Int) = aq at *
  generalize (b.q : Int) = bq at *
  generalize (b.p : Int) = bp at *
  clear hi hm ha hb hp
  grind
/-- The sum, with common factors looked for only where they can be. -/
theorem add_prog {a b : Fr} (ha : Ok a) (hb : Ok b) {s : Bool} {m : Nat} (hm : num s m = a.n * ((b.q / Nat.gcd a.q b.q : Nat) : Int) + b.n * ((a.q / Nat.gcd a.q b.q : Nat) : Int)) (hs : s = true → 0 < m) :
    (⟨s, m / Nat.gcd m (Nat.gcd a.q b.q), a.q / Nat.gcd a.q b.q * (b.q / Nat.gcd m (Nat.gcd a.q b.q))⟩ : Fr) = add a b := by
  have hc : 0 < Nat.gcd a.q b.q := Nat.gcd_pos_of_pos_left _ ha.1
  have cxy := Nat.coprime_div_gcd_div_gcd hc
  have e1 := Nat.div_mul_cancel (Nat.gcd_dvd_left a.q b.q)
  have e2 := Nat.div_mul_cancel (Nat.gcd_dvd_right a.q b.q)
  generalize hx : a.q / Nat.gcd a.q b.q = x at *
  generalize hy : b.q / Nat.gcd a.q b.q = y at *
  generalize Nat.gcd a.q b.q = c at *
  have hr : 0 < Nat.gcd m c := Nat.gcd_pos_of_pos_right _ hc
  have cmc := Nat.coprime_div_gcd_div_gcd hr
  have e3 := Nat.div_mul_cancel (Nat.gcd_dvd_left m c)
  have e4 := Nat.div_mul_cancel (Nat.gcd_dvd_right m c)
  have hbq : b.q / Nat.gcd m c = y * (c / Nat.gcd m c) := by rw [← e2, Nat.mul_div_assoc _ (Nat.gcd_dvd_right m c)]
  rw [hbq]
  generalize hu : m / Nat.gcd m c = u at *
  generalize hv : c / Nat.gcd m c = v at *
  generalize Nat.gcd m c = r at *
  have xpos : 0 < x := by rcases Nat.eq_zero_or_pos x with h | h; (rw [h, Nat.zero_mul] at e1; have := ha.1; omega); exact h
  have ypos : 0 < y := by rcases Nat.eq_zero_or_pos y with h | h; (rw [h, Nat.zero_mul] at e2; have := hb.1; omega); exact h
  have vpos : 0 < v := by rcases Nat.eq_zero_or_pos v with h | h; (rw [h, Nat.zero_mul] at e4; omega); exact h
  have cax : Nat.Coprime a.p x := Nat.Coprime.coprime_dvd_right ⟨c, e1.symm⟩ ha.2.1
  have cby : Nat.Coprime b.p y := Nat.Coprime.coprime_dvd_right ⟨c, e2.symm⟩ hb.2.1
  have ua : (a.n).natAbs = a.p := num_natAbs _ _
  have ub : (b.n).natAbs = b.p := num_natAbs _ _
  have um : (num s m).natAbs = m := num_natAbs _ _
  have cmx : Nat.Coprime m x := by
    refine one_of_dvd ?_
    have d1 : Nat.gcd m x ∣ m := Nat.gcd_dvd_left _ _
    have d2 : Nat.gcd m x ∣ x := Nat.gcd_dvd_right _ _
    have d3 : ((Nat.gcd m x : Nat) : Int) ∣ num s m := Int.dvd_natAbs.1 (by rw [um]; exact Int.natCast_dvd_natCast.2 d1)
    rw [hm] at d3
    have d4 : ((Nat.gcd m x : Nat) : Int) ∣ b.n * (x : Int) := Int.dvd_trans (Int.natCast_dvd_natCast.2 d2) (Int.dvd_mul_left _ _)
    have d5 : ((Nat.gcd m x : Nat) : Int) ∣ a.n * (y : Int) := (Int.dvd_add_left d4).1 d3
    have d6 : Nat.gcd m x ∣ a.p * y := by
      have := Int.natAbs_dvd_natAbs.2 d5
      rwa [Int.natAbs_natCast, Int.natAbs_mul, ua, Int.natAbs_natCast] at this
    have k1 : Nat.Coprime (Nat.gcd m x) a.p := (Nat.Coprime.coprime_dvd_right d2 cax).symm
    have k2 : Nat.Coprime (Nat.gcd m x) y := Nat.Coprime.coprime_dvd_left d2 cxy
    have k3 := k1.dvd_of_dvd_mul_left d6
    have k4 : Nat.gcd m x ∣ Nat.gcd (Nat.gcd m x) y := Nat.dvd_gcd (Nat.dvd_refl _) k3
    rwa [k2] at k4
  have cmy : Nat.Coprime m y := by
    refine one_of_dvd ?_
    have d1 : Nat.gcd m y ∣ m := Nat.gcd_dvd_left _ _
    have d2 : Nat.gcd m y ∣ y := Nat.gcd_dvd_right _ _
    have d3 : ((Nat.gcd m y : Nat) : Int) ∣ num s m := Int.dvd_natAbs.1 (by rw [um]; exact Int.natCast_dvd_natCast.2 d1)
    rw [hm] at d3
    have d4 : ((Nat.gcd m y : Nat) : Int) ∣ a.n * (y : Int) := Int.dvd_trans (Int.natCast_dvd_natCast.2 d2) (Int.dvd_mul_left _ _)
    have d5 : ((Nat.gcd m y : Nat) : Int) ∣ b.n * (x : Int) := (Int.dvd_add_right d4).1 d3
    have d6 : Nat.gcd m y ∣ b.p * x := by
      have := Int.natAbs_dvd_natAbs.2 d5
      rwa [Int.natAbs_natCast, Int.natAbs_mul, ub, Int.natAbs_natCast] at this
    have k1 : Nat.Coprime (Nat.gcd m y) b.p := (Nat.Coprime.coprime_dvd_right d2 cby).symm
    have k2 : Nat.Coprime (Nat.gcd m y) x := Nat.Coprime.coprime_dvd_left d2 cxy.symm
    have k3 := k1.dvd_of_dvd_mul_left d6
    have k4 : Nat.gcd m y ∣ Nat.gcd (Nat.gcd m y) x := Nat.dvd_gcd (Nat.dvd_refl _) k3
    rwa [k2] at k4
  have dum : u ∣ m := ⟨r, e3.symm⟩
  have ok : Ok ⟨s, u, x * (y * v)⟩ := by
    refine ⟨Nat.mul_pos xpos (Nat.mul_pos ypos vpos), ?_, fun h => ?_⟩
    · exact Nat.Coprime.mul_right (Nat.Coprime.coprime_dvd_left dum cmx) (Nat.Coprime.mul_right (Nat.Coprime.coprime_dvd_left dum cmy) cmc)
    · have := hs h
      rcases Nat.eq_zero_or_pos u with h0 | h0
      · rw [h0, Nat.zero_mul] at e3; omega
      · exact h0
  refine eq_ofInt ok (pos_mul ha hb) ?_
  have hn : num s m = num s u * (r : Int) := by rw [← e3, num_mul]
  rw [hn] at hm
  show num s u * ((a.q * b.q : Nat) : Int) = (a.n * (b.q : Int) + b.n * (a.q : Int)) * ((x * (y * v) : Nat) : Int)
  rw [← e1, ← e2, ← e4]
  simp only [Int.natCast_mul]
  generalize num s u = k at *
  generalize a.n = an at *
  generalize b.n = bn at *
  clear e1 e2 e3 e4 hu hv hx hy hbq cxy cmc cax cby ua ub um cmx cmy dum ok hs hn ha hb
  grind
theorem mul_prog {a b : Fr} (ha : Ok a) (hb : Ok b) (hpa : 0 < a.p) (hpb : 0 < b.p) :
    (⟨a.s != b.s, a.p / Nat.gcd a.p b.q * (b.p / Nat.gcd b.p a.q), a.q / Nat.gcd b.p a.q * (b.q / Nat.gcd a.p b.q)⟩ : Fr) = mul a b := by
  have h1 : 0 < Nat.gcd a.p b.q := Nat.gcd_pos_of_pos_left _ hpa
  have h2 : 0 < Nat.gcd b.p a.q := Nat.gcd_pos_of_pos_left _ hpb
  have c1 := Nat.coprime_div_gcd_div_gcd h1
  have c2 := Nat.coprime_div_gcd_div_gcd h2
  have e1 := Nat.div_mul_cancel (Nat.gcd_dvd_left a.p b.q)
  have e2 := Nat.div_mul_cancel (Nat.gcd_dvd_right a.p b.q)
  have e3 := Nat.div_mul_cancel (Nat.gcd_dvd_left b.p a.q)
  have e4 := Nat.div_mul_cancel (Nat.gcd_dvd_right b.p a.q)
  generalize hx : a.p / Nat.gcd a.p b.q = x at *
  generalize hy : b.q / Nat.gcd a.p b.q = y at *
  generalize hz : b.p / Nat.gcd b.p a.q = z at *
  generalize hw : a.q / Nat.gcd b.p a.q = w at *
  generalize Nat.gcd a.p b.q = l at *
  generalize Nat.gcd b.p a.q = r at *
  have pos : ∀ {u v k : Nat}, u * v = k → 0 < k → 0 < u := fun {u v k} e h => by
    rcases Nat.eq_zero_or_pos u with h0 | h0
    · rw [h0, Nat.zero_mul] at e; omega
    · exact h0
  have k1 : Nat.Coprime x w := Nat.Coprime.coprime_dvd_left ⟨l, e1.symm⟩ (Nat.Coprime.coprime_dvd_right ⟨r, e4.symm⟩ ha.2.1)
  have k2 : Nat.Coprime z y := Nat.Coprime.coprime_dvd_left ⟨r, e3.symm⟩ (Nat.Coprime.coprime_dvd_right ⟨l, e2.symm⟩ hb.2.1)
  have ok : Ok ⟨a.s != b.s, x * z, w * y⟩ :=
    ⟨Nat.mul_pos (pos e4 ha.1) (pos e2 hb.1), Nat.Coprime.mul_left (Nat.Coprime.mul_right k1 c1) (Nat.Coprime.mul_right c2 k2), fun _ => Nat.mul_pos (pos e1 hpa) (pos e3 hpb)⟩
  refine eq_ofInt ok (pos_mul ha hb) ?_
  show num (a.s != b.s) (x * z) * ((a.q * b.q : Nat) : Int) = num a.s a.p * num b.s b.p * ((w * y : Nat) : Int)
  rw [← num_mul2, ← e1, ← e2, ← e3, ← e4, ← num_mul, ← num_mul]
  congr 1
  clear pos k1 k2 ok c1 c2 h1 h2 hx hy hz hw
  grind
end Fr
end Go.Proofs.YtgmjpkkpkdcncaaDoor
