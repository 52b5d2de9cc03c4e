/- CRCheck, MathV, CRSum, joined: no claim of its own. -/
import Derived.Test.YtcokplikmjegcaaDoorJG
import Derived.Test.YtcokplikmjegcaaDoorJC
import Derived.Test.YtcokplikmjegcaaDoorJB
namespace Go.Proofs.YtcokplikmjegcaaDoor
open Go.RowKit
open MC (Pr)
theorem not_ok {p : Pr} (ho : ¬ p.ok) : p.supply < 1 ∨ (¬ p.supply < 1 ∧ 4 < p.supply) ∨ (¬ p.supply < 1 ∧ ¬ 4 < p.supply ∧ p.reserve < 0) ∨ (¬ p.supply < 1 ∧ ¬ 4 < p.supply ∧ ¬ p.reserve < 0 ∧ 1000000 < p.reserve) ∨
    (¬ p.supply < 1 ∧ ¬ 4 < p.supply ∧ ¬ p.reserve < 0 ∧ ¬ 1000000 < p.reserve ∧ p.points < 0) ∨ (¬ p.supply < 1 ∧ ¬ 4 < p.supply ∧ ¬ p.reserve < 0 ∧ ¬ 1000000 < p.reserve ∧ ¬ p.points < 0 ∧ 1000 < p.points) ∨
    (¬ p.supply < 1 ∧ ¬ 4 < p.supply ∧ ¬ p.reserve < 0 ∧ ¬ 1000000 < p.reserve ∧ ¬ p.points < 0 ∧ ¬ 1000 < p.points ∧ p.group < 0) ∨ (¬ p.supply < 1 ∧ ¬ 4 < p.supply ∧ ¬ p.reserve < 0 ∧ ¬ 1000000 < p.reserve ∧ ¬ p.points < 0 ∧ ¬ 1000 < p.points ∧ ¬ p.group < 0 ∧ 4 < p.group) := by
  unfold Pr.ok at ho
  omega
end Go.Proofs.YtcokplikmjegcaaDoor
namespace Go.Proofs.YtcokplikmjegcaaDoor
open Go.RowKit
open MC (Pr)
/-- The weights of the first k. -/
def padF (f : Pr → Int) (L : List Pr) (k : Nat) : List Int := MB.pad ((L.take k).map f)
theorem padF_zero (f : Pr → Int) (L : List Pr) : padF f L 0 = [0, 0, 0, 0, 0, 0] := rfl
theorem padF_step {f : Pr → Int} {L : List Pr} {k : Nat} {p : Pr} (h : L[k]? = some p) (h6 : k < 6) : (padF f L k).set k (f p) = padF f L (k + 1) := by
  have hl := (List.getElem?_eq_some_iff.1 h).1
  have hlen : ((L.take k).map f).length = k := by rw [List.length_map, List.length_take]; omega
  unfold padF
  rw [MC.take_snoc h, List.map_append]
  have := MC.pad_put (l := (L.take k).map f) (v := f p) (by rw [hlen]; exact h6)
  rw [hlen] at this
  exact this
theorem padF_at {f : Pr → Int} {L : List Pr} (j : Nat) : MB.at_ (padF f L L.length) j = MC.of f L j := by
  unfold padF
  rw [List.take_length]
  by_cases hj : j < L.length
  · have hp : L[j]? = some L[j] := List.getElem?_eq_getElem hj
    rw [MB.pad_at (by rw [List.length_map]; exact hj), MC.of_at hp]
    unfold MB.at_
    rw [List.getD_eq_getElem?_getD, List.getElem?_map, hp]; rfl
  · rw [MB.pad_rest (by rw [List.length_map]; omega), MC.of_rest (by omega)]
/-- What the weights of a valid list are. -/
def Small (f : Pr → Int) : Prop := ∀ p : Pr, p.ok → 0 ≤ f p ∧ f p ≤ 1000000
theorem small_of {f : Pr → Int} {L : List Pr} (hf : Small f) (h : MC.Good L) (j : Nat) : 0 ≤ MC.of f L j ∧ MC.of f L j ≤ 1000000 := by
  by_cases hj : j < L.length
  · have hp : L[j]? = some L[j] := List.getElem?_eq_getElem hj
    rw [MC.of_at hp]
    exact hf _ (h.each j _ hp).2
  · rw [MC.of_rest (by omega)]; omega
theorem sumK_small {f : Pr → Int} {L : List Pr} {b : List Int} (hf : Small f) (h : MC.Good L) (hb : MB.okB b = true) {k : Nat} (hk : k ≤ 6) : 0 ≤ MC.sumK f L b k ∧ MC.sumK f L b k ≤ 24000000 := by
  have := MC.sumK_range (f := f) (l := L) (b := b) (M := 1000000) (by decide) k fun j _ => ⟨MC.okB_at hb j, small_of hf h j⟩
  omega
theorem wrap_in {x : Int} (h0 : 0 ≤ x) (h1 : x ≤ 1000000000) : wrap64 x = x := by unfold wrap64; omega
theorem cst_sum {f : Pr → Int} {L : List Pr} {b : List Int} (hf : Small f) (h : MC.Good L) (hb : MB.okB b = true) : ∀ k, k ≤ 6 → cstB (padF f L L.length) b k = MC.sumK f L b k
  | 0, _ => rfl
  | k + 1, hk => by
    have ih := cst_sum hf h hb k (by omega)
    have h1 := sumK_small hf h hb (k := k) (by omega)
    have h2 := sumK_small hf h hb (k := k + 1) hk
    obtain ⟨a1, a2⟩ := MC.okB_at hb k
    obtain ⟨b1, b2⟩ := small_of hf h k
    have h3 : 0 ≤ MB.at_ b k * MC.of f L k := Int.mul_nonneg a1 b1
    rw [MC.sumK] at h2 ⊢
    rw [cstB, ih, padF_at, Int.mul_comm, wrap_in h3 (by omega), wrap_in h2.1 (by omega)]
theorem cst_end {f : Pr → Int} {L : List Pr} {b : List Int} (hf : Small f) (h : MC.Good L) (hb : MB.okB b = true) : cstB (padF f L L.length) b 6 = MC.sumK f L b L.length := by
  rw [cst_sum hf h hb 6 (by decide)]
  have := MC.sumK_rest (f := f) (l := L) (b := b) (6 - L.length)
  rwa [show L.length + (6 - L.length) = 6 by have := h.few; omega] at this
/-- Points, reserve, units of a group. -/
def fP (p : Pr) : Int := p.points
def fR (p : Pr) : Int := p.reserve
def fU (g : Int) (p : Pr) : Int := if p.group = g then 1 else 0
theorem small_P : Small fP := fun p h => by unfold fP; have := h.2.2.1; omega
theorem small_R : Small fR := fun p h => by unfold fR; have := h.2.1; omega
theorem small_U (g : Int) : Small (fU g) := fun p _ => by unfold fU; split <;> omega
theorem fU_yes {g : Int} {p : Pr} (h : p.group = g) : fU g p = 1 := if_pos h
theorem fU_no {g : Int} {p : Pr} (h : p.group ≠ g) : fU g p = 0 := if_neg h
/-- One unit more. -/
theorem add_unit {S v s : Int} {k : Nat} (h : s = S + k * v) (hS : 0 ≤ S ∧ S ≤ 24000000) (hv : 0 ≤ v ∧ v ≤ 1000000) (hk : k < 4) : wrap64 (s + v) = S + ((k + 1 : Nat) : Int) * v := by
  have hk1 : 0 ≤ (k : Int) * v := Int.mul_nonneg (by omega) hv.1
  have hk2 : (k : Int) * v ≤ 4 * 1000000 := Int.mul_le_mul (by omega) hv.2 hv.1 (by decide)
  have e : ((k + 1 : Nat) : Int) * v = k * v + v := by rw [Int.natCast_succ, Int.add_mul, Int.one_mul]
  rw [e, h, wrap_in (by omega) (by omega)]
  omega
theorem sum_next {f : Pr → Int} {L : List Pr} {b : List Int} {i : Nat} {p : Pr} {s : Int} {k : Nat} (hp : L[i]? = some p) (hk : (k : Int) = MB.at_ b i) (h : s = MC.sumK f L b i + k * f p) : s = MC.sumK f L b (i + 1) := by
  rw [MC.sumK, MC.of_at hp, ← hk, h]
theorem Good_of {L : List Pr} (h : MC.chkL L = 0) : MC.Good L := MC.chk_good h
end Go.Proofs.YtcokplikmjegcaaDoor
namespace Go.Proofs.YtcokplikmjegcaaDoor
open Go.RowKit
open MC (Pr)
theorem nameK_len {L : List Pr} (h : MC.Good L) (k : Nat) : (MC.nameK L k).length ≤ 12 := by
  unfold MC.nameK
  cases e : L[k]? with
  | none => simp
  | some p => exact MC.nameB_len (h.each k p e).1
theorem inK_short {L : List Pr} (h : MC.Good L) (b : List Int) (k : Nat) : (MC.inK L b k).length ≤ k * 15 := by
  have h1 := MC.joinT_len (f := MC.entT L b) (m := 14) (MC.upK b k) fun j _ => by
    have := nameK_len h j
    simp [MC.entT]; omega
  have h2 := MC.upK_len b k
  have h3 : (MC.upK b k).length * (14 + 1) ≤ k * 15 := Nat.mul_le_mul h2 (Nat.le_refl _)
  unfold MC.inK
  omega
/-- The digit as a string. -/
theorem dig_nat' (q : Nat) : MC.dig (q : Int) = UInt8.ofNat (48 + q) := by unfold MC.dig; rw [Int.toNat_natCast]
theorem dig5_lit (k : Nat) (h : k < 5) : (⟨#[48, 49, 50, 51, 52]⟩ : ByteArray).extract k (k + 1) = str [UInt8.ofNat (48 + k)] := by
  have : k = 0 ∨ k = 1 ∨ k = 2 ∨ k = 3 ∨ k = 4 := by omega
  rcases this with rfl | rfl | rfl | rfl | rfl <;> rfl
theorem colon_lit : (⟨#[58]⟩ : ByteArray) = str [58] := rfl
theorem comma_lit : (⟨#[44]⟩ : ByteArray) = str [44] := rfl
theorem ent_str {L : List Pr} {b : List Int} {k : Nat} {p : Pr} {q : Nat} (hp : L[k]? = some p) (hq : MB.at_ b k = (q : Int)) : str p.name ++ ⟨#[58]⟩ ++ str [UInt8.ofNat (48 + q)] = str (MC.entT L b k) := by
  rw [colon_lit, str_append, str_append]
  unfold MC.entT
  rw [MC.nameK_at hp, hq, dig_nat', List.append_assoc]; rfl
theorem in_first {L : List Pr} {b : List Int} {k : Nat} {p : Pr} {q : Nat} (hp : L[k]? = some p) (hq : MB.at_ b k = (q : Int)) (h0 : 0 < q) (he : MC.inK L b k = []) :
    str (MC.inK L b k) ++ str p.name ++ ⟨#[58]⟩ ++ str [UInt8.ofNat (48 + q)] = str (MC.inK L b (k + 1)) := by
  rw [MC.inK_first (by rw [hq]; omega) he, he, ← ent_str hp hq]
  rw [str_append]; rfl
theorem in_more {L : List Pr} {b : List Int} {k : Nat} {p : Pr} {q : Nat} (hp : L[k]? = some p) (hq : MB.at_ b k = (q : Int)) (h0 : 0 < q) (he : MC.inK L b k ≠ []) :
    str (MC.inK L b k) ++ ⟨#[44]⟩ ++ str p.name ++ ⟨#[58]⟩ ++ str [UInt8.ofNat (48 + q)] = str (MC.inK L b (k + 1)) := by
  rw [MC.inK_more (by rw [hq]; omega) he]
  have e := ent_str (b := b) hp hq
  rw [colon_lit, str_append, str_append] at e
  rw [comma_lit, colon_lit, str_append, str_append, str_append, str_append]
  have e2 := congrArg (fun x : ByteArray => x.data.toList) e
  simp only [str_data] at e2
  rw [← e2]
  simp
theorem text_str (L : List Pr) (b : List Int) : (⟨#[123]⟩ : ByteArray) ++ str (MC.inK L b L.length) ++ ⟨#[125]⟩ = str (MC.textL L b) := by
  rw [show (⟨#[123]⟩ : ByteArray) = str [123] from rfl, show (⟨#[125]⟩ : ByteArray) = str [125] from rfl, str_append, str_append]
  rfl
theorem fmt_yes {L : List Pr} {b : List Int} (h : MC.Fits L b) : MC.fmtL L b = MC.textL L b := by unfold MC.fmtL; rw [if_pos h]
theorem fmt_no {L : List Pr} {b : List Int} (h : ¬ MC.Fits L b) : MC.fmtL L b = [] := by unfold MC.fmtL; rw [if_neg h]
theorem ret_str {a b : ByteArray} (h : a = b) : Ending.returned (.string a) = .returned (.string b) := by rw [h]
theorem val_str {a b : ByteArray} (h : a = b) : Value.string a = .string b := by rw [h]
end Go.Proofs.YtcokplikmjegcaaDoor
namespace Go.Proofs.YtcokplikmjegcaaDoor
open Go.RowKit
open MC (Pr)
theorem okB_bad {b : List Int} {k : Nat} (hl : b.length = 6) (hk : k < 6) (h : MB.at_ b k < 0 ∨ 4 < MB.at_ b k) : MB.okB b = false := by
  cases e : MB.okB b with
  | false => rfl
  | true => have := okB_at e (k := k) (by rw [hl]; exact hk); omega
theorem okB_good {b : List Int} (hl : b.length = 6) (h : ∀ k, k < 6 → 0 ≤ MB.at_ b k ∧ MB.at_ b k ≤ 4) : MB.okB b = true := by
  unfold MB.okB
  rw [List.all_eq_true]
  intro q hq
  obtain ⟨k, hk, rfl⟩ := List.getElem_of_mem hq
  have := h k (by omega)
  unfold MB.at_ at this
  rw [List.getD_eq_getElem?_getD, List.getElem?_eq_getElem hk] at this
  simp at this
  simp [this]
/-- What the reference's sums answer. -/
def sumsV (g : Int) (L : List Pr) (b : List Int) : Value := .tuple #[.int .i64 (MC.sumG fP L b), .int .i64 (MC.sumG fR L b), .int .i64 (MC.sumG (fU g) L b)]
theorem sums_no {g : Int} {L : List Pr} {b : List Int} (h : ¬ (MC.chkL L = 0 ∧ MB.okB b = true)) : Ending.returned (.tuple #[.int .i64 0, .int .i64 0, .int .i64 0]) = .returned (sumsV g L b) := by
  unfold sumsV; rw [MC.sumG_no h, MC.sumG_no h, MC.sumG_no h]
theorem sums_yes {g : Int} {L : List Pr} {b : List Int} {x y z : Int} (h : MC.chkL L = 0) (hb : MB.okB b = true) (hx : x = MC.sumK fP L b L.length) (hy : y = MC.sumK fR L b L.length) (hz : z = MC.sumK (fU g) L b L.length) :
    Ending.returned (.tuple #[.int .i64 x, .int .i64 y, .int .i64 z]) = .returned (sumsV g L b) := by
  unfold sumsV; rw [MC.sumG_yes h hb, MC.sumG_yes h hb, MC.sumG_yes h hb, hx, hy, hz]
/-- The three sums over the first i products and k units of the next. -/
structure Part (g : Int) (L : List Pr) (b : List Int) (i : Nat) (p : Pr) (k : Nat) (x y z : Int) : Prop where
  x_ : x = MC.sumK fP L b i + k * fP p
  y_ : y = MC.sumK fR L b i + k * fR p
  z_ : z = MC.sumK (fU g) L b i + k * fU g p
structure Whole (g : Int) (L : List Pr) (b : List Int) (i : Nat) (x y z : Int) : Prop where
  x_ : x = MC.sumK fP L b i
  y_ : y = MC.sumK fR L b i
  z_ : z = MC.sumK (fU g) L b i
theorem Whole.start (g : Int) (L : List Pr) (b : List Int) : Whole g L b 0 0 0 0 := ⟨rfl, rfl, rfl⟩
theorem Whole.part {g : Int} {L : List Pr} {b : List Int} {i : Nat} {x y z : Int} (h : Whole g L b i x y z) (p : Pr) : Part g L b i p 0 x y z :=
  ⟨by rw [h.x_]; simp, by rw [h.y_]; simp, by rw [h.z_]; simp⟩
theorem Part.whole {g : Int} {L : List Pr} {b : List Int} {i : Nat} {p : Pr} {k : Nat} {x y z : Int} (h : Part g L b i p k x y z) (hp : L[i]? = some p) (hk : (k : Int) = MB.at_ b i) : Whole g L b (i + 1) x y z :=
  ⟨sum_next hp hk h.x_, sum_next hp hk h.y_, sum_next hp hk h.z_⟩
theorem Part.yes {g : Int} {L : List Pr} {b : List Int} {i : Nat} {p : Pr} {k : Nat} {x y z : Int} (h : Part g L b i p k x y z) (hL : MC.Good L) (hb : MB.okB b = true) (hi : i ≤ 6) (ho : p.ok) (hk : k < 4) (hg : p.group = g) :
    Part g L b i p (k + 1) (wrap64 (x + p.points)) (wrap64 (y + p.reserve)) (wrap64 (z + 1)) :=
  ⟨add_unit h.x_ (sumK_small small_P hL hb hi) (small_P p ho) hk, add_unit h.y_ (sumK_small small_R hL hb hi) (small_R p ho) hk, by
    have := add_unit h.z_ (sumK_small (small_U g) hL hb hi) (small_U g p ho) hk
    rw [fU_yes hg] at this ⊢; exact this⟩
theorem Part.no {g : Int} {L : List Pr} {b : List Int} {i : Nat} {p : Pr} {k : Nat} {x y z : Int} (h : Part g L b i p k x y z) (hL : MC.Good L) (hb : MB.okB b = true) (hi : i ≤ 6) (ho : p.ok) (hk : k < 4) (hg : p.group ≠ g) :
    Part g L b i p (k + 1) (wrap64 (x + p.points)) (wrap64 (y + p.reserve)) z :=
  ⟨add_unit h.x_ (sumK_small small_P hL hb hi) (small_P p ho) hk, add_unit h.y_ (sumK_small small_R hL hb hi) (small_R p ho) hk, by
    have := h.z_
    rw [fU_no hg] at this ⊢; rw [this]; simp⟩
end Go.Proofs.YtcokplikmjegcaaDoor
