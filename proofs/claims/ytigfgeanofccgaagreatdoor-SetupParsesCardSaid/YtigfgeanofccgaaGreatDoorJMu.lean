/- MathV, MathU, MathUT, MathUR, MathUS, MathUO, joined: no claim of its own. -/
import Derived.Test.YtigfgeanofccgaaGreatDoorJMb
import Derived.Test.YtigfgeanofccgaaGreatDoorJBb
import Derived.Test.YtigfgeanofccgaaGreatDoorJMr
import Derived.Test.YtigfgeanofccgaaGreatDoorJGl
import Derived.Test.YtigfgeanofccgaaGreatDoorBArith
namespace Go.Proofs.YtigfgeanofccgaaGreatDoor
open Go.RowKit
open MC (Pr)
/-- The weights of the first k. -/
def padF (f : Pr → Int) (L : List Pr) (k : Nat) : List Int := MB.pad ((L.take k).map f)
theorem padF_zero (f : Pr → Int) (L : List Pr) : padF f L 0 = [0, 0, 0, 0, 0, 0] := rfl
theorem padF_step {f : Pr → Int} {L : List Pr} {k : Nat} {p : Pr} (h : L[k]? = some p) (h6 : k < 6) : (padF f L k).set k (f p) = padF f L (k + 1) := by
  have hl := (List.getElem?_eq_some_iff.1 h).1
  have hlen : ((L.take k).map f).length = k := by rw [List.length_map, List.length_take]; omega
  unfold padF
  rw [MC.take_snoc h, List.map_append]
  have := MC.pad_put (l := (L.take k).map f) (v := f p) (by rw [hlen]; exact h6)
  rw [hlen] at this
  exact this
theorem padF_at {f : Pr → Int} {L : List Pr} (j : Nat) : MB.at_ (padF f L L.length) j = MC.of f L j := by
  unfold padF
  rw [List.take_length]
  by_cases hj : j < L.length
  · have hp : L[j]? = some L[j] := List.getElem?_eq_getElem hj
    rw [MB.pad_at (by rw [List.length_map]; exact hj), MC.of_at hp]
    unfold MB.at_
    rw [List.getD_eq_getElem?_getD, List.getElem?_map, hp]; rfl
  · rw [MB.pad_rest (by rw [List.length_map]; omega), MC.of_rest (by omega)]
/-- What the weights of a valid list are. -/
def Small (f : Pr → Int) : Prop := ∀ p : Pr, p.ok → 0 ≤ f p ∧ f p ≤ 1000000
theorem small_of {f : Pr → Int} {L : List Pr} (hf : Small f) (h : MC.Good L) (j : Nat) : 0 ≤ MC.of f L j ∧ MC.of f L j ≤ 1000000 := by
  by_cases hj : j < L.length
  · have hp : L[j]? = some L[j] := List.getElem?_eq_getElem hj
    rw [MC.of_at hp]
    exact hf _ (h.each j _ hp).2
  · rw [MC.of_rest (by omega)]; omega
theorem sumK_small {f : Pr → Int} {L : List Pr} {b : List Int} (hf : Small f) (h : MC.Good L) (hb : MB.okB b = true) {k : Nat} (hk : k ≤ 6) : 0 ≤ MC.sumK f L b k ∧ MC.sumK f L b k ≤ 24000000 := by
  have := MC.sumK_range (f := f) (l := L) (b := b) (M := 1000000) (by decide) k fun j _ => ⟨MC.okB_at hb j, small_of hf h j⟩
  omega
theorem wrap_in {x : Int} (h0 : 0 ≤ x) (h1 : x ≤ 1000000000) : wrap64 x = x := by unfold wrap64; omega
theorem cst_sum {f : Pr → Int} {L : List Pr} {b : List Int} (hf : Small f) (h : MC.Good L) (hb : MB.okB b = true) : ∀ k, k ≤ 6 → cstB (padF f L L.length) b k = MC.sumK f L b k
  | 0, _ => rfl
  | k + 1, hk => by
    have ih := cst_sum hf h hb k (by omega)
    have h1 := sumK_small hf h hb (k := k) (by omega)
    have h2 := sumK_small hf h hb (k := k + 1) hk
    obtain ⟨a1, a2⟩ := MC.okB_at hb k
    obtain ⟨b1, b2⟩ := small_of hf h k
    have h3 : 0 ≤ MB.at_ b k * MC.of f L k := Int.mul_nonneg a1 b1
    rw [MC.sumK] at h2 ⊢
    rw [cstB, ih, padF_at, Int.mul_comm, wrap_in h3 (by omega), wrap_in h2.1 (by omega)]
theorem cst_end {f : Pr → Int} {L : List Pr} {b : List Int} (hf : Small f) (h : MC.Good L) (hb : MB.okB b = true) : cstB (padF f L L.length) b 6 = MC.sumK f L b L.length := by
  rw [cst_sum hf h hb 6 (by decide)]
  have := MC.sumK_rest (f := f) (l := L) (b := b) (6 - L.length)
  rwa [show L.length + (6 - L.length) = 6 by have := h.few; omega] at this
/-- Points, reserve, units of a group. -/
def fP (p : Pr) : Int := p.points
def fR (p : Pr) : Int := p.reserve
def fU (g : Int) (p : Pr) : Int := if p.group = g then 1 else 0
theorem small_P : Small fP := fun p h => by unfold fP; have := h.2.2.1; omega
theorem small_R : Small fR := fun p h => by unfold fR; have := h.2.1; omega
theorem small_U (g : Int) : Small (fU g) := fun p _ => by unfold fU; split <;> omega
theorem fU_yes {g : Int} {p : Pr} (h : p.group = g) : fU g p = 1 := if_pos h
theorem fU_no {g : Int} {p : Pr} (h : p.group ≠ g) : fU g p = 0 := if_neg h
/-- One unit more. -/
theorem add_unit {S v s : Int} {k : Nat} (h : s = S + k * v) (hS : 0 ≤ S ∧ S ≤ 24000000) (hv : 0 ≤ v ∧ v ≤ 1000000) (hk : k < 4) : wrap64 (s + v) = S + ((k + 1 : Nat) : Int) * v := by
  have hk1 : 0 ≤ (k : Int) * v := Int.mul_nonneg (by omega) hv.1
  have hk2 : (k : Int) * v ≤ 4 * 1000000 := Int.mul_le_mul (by omega) hv.2 hv.1 (by decide)
  have e : ((k + 1 : Nat) : Int) * v = k * v + v := by rw [Int.natCast_succ, Int.add_mul, Int.one_mul]
  rw [e, h, wrap_in (by omega) (by omega)]
  omega
theorem sum_next {f : Pr → Int} {L : List Pr} {b : List Int} {i : Nat} {p : Pr} {s : Int} {k : Nat} (hp : L[i]? = some p) (hk : (k : Int) = MB.at_ b i) (h : s = MC.sumK f L b i + k * f p) : s = MC.sumK f L b (i + 1) := by
  rw [MC.sumK, MC.of_at hp, ← hk, h]
theorem Good_of {L : List Pr} (h : MC.chkL L = 0) : MC.Good L := MC.chk_good h
end Go.Proofs.YtigfgeanofccgaaGreatDoor
namespace Go.Proofs.YtigfgeanofccgaaGreatDoor
open Go.RowKit
open MC (Pr)
theorem nameK_len {L : List Pr} (h : MC.Good L) (k : Nat) : (MC.nameK L k).length ≤ 12 := by
  unfold MC.nameK
  cases e : L[k]? with
  | none => simp
  | some p => exact MC.nameB_len (h.each k p e).1
theorem inK_short {L : List Pr} (h : MC.Good L) (b : List Int) (k : Nat) : (MC.inK L b k).length ≤ k * 15 := by
  have h1 := MC.joinT_len (f := MC.entT L b) (m := 14) (MC.upK b k) fun j _ => by
    have := nameK_len h j
    simp [MC.entT]; omega
  have h2 := MC.upK_len b k
  have h3 : (MC.upK b k).length * (14 + 1) ≤ k * 15 := Nat.mul_le_mul h2 (Nat.le_refl _)
  unfold MC.inK
  omega
/-- The digit as a string. -/
theorem dig_nat' (q : Nat) : MC.dig (q : Int) = UInt8.ofNat (48 + q) := by unfold MC.dig; rw [Int.toNat_natCast]
theorem dig5_lit (k : Nat) (h : k < 5) : (⟨#[48, 49, 50, 51, 52]⟩ : ByteArray).extract k (k + 1) = str [UInt8.ofNat (48 + k)] := by
  have : k = 0 ∨ k = 1 ∨ k = 2 ∨ k = 3 ∨ k = 4 := by omega
  rcases this with rfl | rfl | rfl | rfl | rfl <;> rfl
theorem colon_lit : (⟨#[58]⟩ : ByteArray) = str [58] := rfl
theorem comma_lit : (⟨#[44]⟩ : ByteArray) = str [44] := rfl
theorem ent_str {L : List Pr} {b : List Int} {k : Nat} {p : Pr} {q : Nat} (hp : L[k]? = some p) (hq : MB.at_ b k = (q : Int)) : str p.name ++ ⟨#[58]⟩ ++ str [UInt8.ofNat (48 + q)] = str (MC.entT L b k) := by
  rw [colon_lit, str_append, str_append]
  unfold MC.entT
  rw [MC.nameK_at hp, hq, dig_nat', List.append_assoc]; rfl
theorem in_first {L : List Pr} {b : List Int} {k : Nat} {p : Pr} {q : Nat} (hp : L[k]? = some p) (hq : MB.at_ b k = (q : Int)) (h0 : 0 < q) (he : MC.inK L b k = []) :
    str (MC.inK L b k) ++ str p.name ++ ⟨#[58]⟩ ++ str [UInt8.ofNat (48 + q)] = str (MC.inK L b (k + 1)) := by
  rw [MC.inK_first (by rw [hq]; omega) he, he, ← ent_str hp hq]
  rw [str_append]; rfl
theorem in_more {L : List Pr} {b : List Int} {k : Nat} {p : Pr} {q : Nat} (hp : L[k]? = some p) (hq : MB.at_ b k = (q : Int)) (h0 : 0 < q) (he : MC.inK L b k ≠ []) :
    str (MC.inK L b k) ++ ⟨#[44]⟩ ++ str p.name ++ ⟨#[58]⟩ ++ str [UInt8.ofNat (48 + q)] = str (MC.inK L b (k + 1)) := by
  rw [MC.inK_more (by rw [hq]; omega) he]
  have e := ent_str (b := b) hp hq
  rw [colon_lit, str_append, str_append] at e
  rw [comma_lit, colon_lit, str_append, str_append, str_append, str_append]
  have e2 := congrArg (fun x : ByteArray => x.data.toList) e
  simp only [str_data] at e2
  rw [← e2]
  simp
theorem text_str (L : List Pr) (b : List Int) : (⟨#[123]⟩ : ByteArray) ++ str (MC.inK L b L.length) ++ ⟨#[125]⟩ = str (MC.textL L b) := by
  rw [show (⟨#[123]⟩ : ByteArray) = str [123] from rfl, show (⟨#[125]⟩ : ByteArray) = str [125] from rfl, str_append, str_append]
  rfl
theorem fmt_yes {L : List Pr} {b : List Int} (h : MC.Fits L b) : MC.fmtL L b = MC.textL L b := by unfold MC.fmtL; rw [if_pos h]
theorem fmt_no {L : List Pr} {b : List Int} (h : ¬ MC.Fits L b) : MC.fmtL L b = [] := by unfold MC.fmtL; rw [if_neg h]
theorem ret_str {a b : ByteArray} (h : a = b) : Ending.returned (.string a) = .returned (.string b) := by rw [h]
theorem val_str {a b : ByteArray} (h : a = b) : Value.string a = .string b := by rw [h]
end Go.Proofs.YtigfgeanofccgaaGreatDoor
namespace Go.Proofs.YtigfgeanofccgaaGreatDoor.MU
open MC (Pr)
open MR (Bd)
structure Cp where
  bidder : Int
  group : Int
  units : Int
structure As where
  product : Int
  cls : Int
  units : Int
structure Su where
  ps : List Pr
  bs : List Bd
  cs : List Cp
  as_ : List As
def Su.none : Su := ⟨[], [], [], []⟩
/-- One cap, the earlier ones being seen; one set-aside likewise. -/
def capE (nb : Nat) (seen : List Cp) (c : Cp) : Int :=
  if c.bidder < -1 ∨ (nb : Int) ≤ c.bidder then 6
  else if ¬ ((0 ≤ c.group ∧ c.group ≤ 4) ∧ 0 ≤ c.units ∧ c.units ≤ 24) then 4
  else if (seen.any fun d => decide (d.bidder = c.bidder) && decide (d.group = c.group)) = true then 7 else 0
def asE (ps : List Pr) (seen : List As) (a : As) : Int :=
  if a.product < 0 ∨ (ps.length : Int) ≤ a.product then 6
  else if ¬ ((1 ≤ a.cls ∧ a.cls ≤ 4) ∧ 1 ≤ a.units ∧ a.units ≤ MC.of (·.supply) ps a.product.toNat) then 4
  else if (seen.any fun d => decide (d.product = a.product)) = true then 7 else 0
def capF (nb : Nat) (cs : List Cp) (k : Nat) : Int := match cs[k]? with
  | some c => capE nb (cs.take k) c
  | none => 0
def asF (ps : List Pr) (l : List As) (k : Nat) : Int := match l[k]? with
  | some a => asE ps (l.take k) a
  | none => 0
theorem capF_at {nb : Nat} {cs : List Cp} {k : Nat} {c : Cp} (h : cs[k]? = some c) : capF nb cs k = capE nb (cs.take k) c := by unfold capF; rw [h]
theorem asF_at {ps : List Pr} {l : List As} {k : Nat} {a : As} (h : l[k]? = some a) : asF ps l k = asE ps (l.take k) a := by unfold asF; rw [h]
def capsE (s : Su) : Int := if 16 < s.cs.length then 3 else firstE (capF s.bs.length s.cs) s.cs.length
def asidesE (s : Su) : Int := if 6 < s.as_.length then 3 else firstE (asF s.ps s.as_) s.as_.length
/-- The error of a setup. -/
def chkS (s : Su) : Int :=
  if MC.chkL s.ps ≠ 0 then MC.chkL s.ps
  else if MR.chkL s.bs ≠ 0 then MR.chkL s.bs
  else if capsE s ≠ 0 then capsE s
  else asidesE s
theorem chkS_ps {s : Su} (h : MC.chkL s.ps ≠ 0) : chkS s = MC.chkL s.ps := if_pos h
theorem chkS_bs {s : Su} (h : MC.chkL s.ps = 0) (h1 : MR.chkL s.bs ≠ 0) : chkS s = MR.chkL s.bs := by unfold chkS; rw [if_neg (by simpa using h), if_pos h1]
theorem chkS_caps {s : Su} (h : MC.chkL s.ps = 0) (h1 : MR.chkL s.bs = 0) (h2 : capsE s ≠ 0) : chkS s = capsE s := by
  unfold chkS; rw [if_neg (by simpa using h), if_neg (by simpa using h1), if_pos h2]
theorem chkS_as {s : Su} (h : MC.chkL s.ps = 0) (h1 : MR.chkL s.bs = 0) (h2 : capsE s = 0) : chkS s = asidesE s := by
  unfold chkS; rw [if_neg (by simpa using h), if_neg (by simpa using h1), if_neg (by simpa using h2)]
theorem capsE_long {s : Su} (h : 16 < s.cs.length) : capsE s = 3 := if_pos h
theorem capsE_mid {s : Su} (h : ¬ 16 < s.cs.length) : capsE s = firstE (capF s.bs.length s.cs) s.cs.length := if_neg h
theorem asidesE_long {s : Su} (h : 6 < s.as_.length) : asidesE s = 3 := if_pos h
theorem asidesE_mid {s : Su} (h : ¬ 6 < s.as_.length) : asidesE s = firstE (asF s.ps s.as_) s.as_.length := if_neg h
theorem capE_zero {nb : Nat} {seen : List Cp} {c : Cp} : capE nb seen c = 0 ↔ ((-1 ≤ c.bidder ∧ c.bidder < nb) ∧ ((0 ≤ c.group ∧ c.group ≤ 4) ∧ 0 ≤ c.units ∧ c.units ≤ 24)) ∧ ∀ d ∈ seen, ¬ (d.bidder = c.bidder ∧ d.group = c.group) := by
  unfold capE
  by_cases h1 : c.bidder < -1 ∨ (nb : Int) ≤ c.bidder
  · rw [if_pos h1]
    constructor
    · intro h; cases h
    · rintro ⟨⟨⟨h2, h3⟩, _⟩, _⟩; omega
  · rw [if_neg h1]
    by_cases h2 : (0 ≤ c.group ∧ c.group ≤ 4) ∧ 0 ≤ c.units ∧ c.units ≤ 24
    · rw [if_neg (fun g => g h2)]
      by_cases h3 : (seen.any fun d => decide (d.bidder = c.bidder) && decide (d.group = c.group)) = true
      · rw [if_pos h3]
        constructor
        · intro h; cases h
        · rintro ⟨_, h4⟩
          obtain ⟨d, hd, he⟩ := List.any_eq_true.1 h3
          simp only [Bool.and_eq_true, decide_eq_true_eq] at he
          exact absurd he (h4 d hd)
      · rw [if_neg h3]
        refine ⟨fun _ => ⟨⟨⟨by omega, by omega⟩, h2⟩, fun d hd he => h3 (List.any_eq_true.2 ⟨d, hd, by simp [he.1, he.2]⟩)⟩, fun _ => rfl⟩
    · rw [if_pos h2]
      constructor
      · intro h; cases h
      · rintro ⟨⟨_, h3⟩, _⟩; exact absurd h3 h2
theorem asE_zero {ps : List Pr} {seen : List As} {a : As} : asE ps seen a = 0 ↔ ((0 ≤ a.product ∧ a.product < ps.length) ∧ ((1 ≤ a.cls ∧ a.cls ≤ 4) ∧ 1 ≤ a.units ∧ a.units ≤ MC.of (·.supply) ps a.product.toNat)) ∧ ∀ d ∈ seen, d.product ≠ a.product := by
  unfold asE
  by_cases h1 : a.product < 0 ∨ (ps.length : Int) ≤ a.product
  · rw [if_pos h1]
    constructor
    · intro h; cases h
    · rintro ⟨⟨⟨h2, h3⟩, _⟩, _⟩; omega
  · rw [if_neg h1]
    by_cases h2 : (1 ≤ a.cls ∧ a.cls ≤ 4) ∧ 1 ≤ a.units ∧ a.units ≤ MC.of (·.supply) ps a.product.toNat
    · rw [if_neg (fun g => g h2)]
      by_cases h3 : (seen.any fun d => decide (d.product = a.product)) = true
      · rw [if_pos h3]
        constructor
        · intro h; cases h
        · rintro ⟨_, h4⟩
          obtain ⟨d, hd, he⟩ := List.any_eq_true.1 h3
          exact absurd (of_decide_eq_true he) (h4 d hd)
      · rw [if_neg h3]
        refine ⟨fun _ => ⟨⟨⟨by omega, by omega⟩, h2⟩, fun d hd he => h3 (List.any_eq_true.2 ⟨d, hd, decide_eq_true he⟩)⟩, fun _ => rfl⟩
    · rw [if_pos h2]
      constructor
      · intro h; cases h
      · rintro ⟨⟨_, h3⟩, _⟩; exact absurd h3 h2
/-- A valid setup. -/
structure GoodS (s : Su) : Prop where
  ps : MC.chkL s.ps = 0
  bs : MR.chkL s.bs = 0
  fewC : s.cs.length ≤ 16
  fewA : s.as_.length ≤ 6
  caps : ∀ (k : Nat) (c : Cp), s.cs[k]? = some c → (-1 ≤ c.bidder ∧ c.bidder < s.bs.length) ∧ ((0 ≤ c.group ∧ c.group ≤ 4) ∧ 0 ≤ c.units ∧ c.units ≤ 24)
  asides : ∀ (k : Nat) (a : As), s.as_[k]? = some a → (0 ≤ a.product ∧ a.product < s.ps.length) ∧ ((1 ≤ a.cls ∧ a.cls ≤ 4) ∧ 1 ≤ a.units ∧ a.units ≤ MC.of (·.supply) s.ps a.product.toNat)
  apart : ∀ (i j : Nat) (a b : As), i < j → s.as_[i]? = some a → s.as_[j]? = some b → a.product ≠ b.product
theorem chkS_good {s : Su} (h : chkS s = 0) : GoodS s := by
  by_cases h1 : MC.chkL s.ps = 0
  · by_cases h2 : MR.chkL s.bs = 0
    · by_cases h3 : capsE s = 0
      · rw [chkS_as h1 h2 h3] at h
        have f3 : ¬ 16 < s.cs.length := fun g => by rw [capsE_long g] at h3; cases h3
        have f4 : ¬ 6 < s.as_.length := fun g => by rw [asidesE_long g] at h; cases h
        rw [capsE_mid f3] at h3
        rw [asidesE_mid f4] at h
        have c3 := firstE_zero.1 h3
        have c4 := firstE_zero.1 h
        refine ⟨h1, h2, by omega, by omega, fun k c hk => ?_, fun k a hk => ?_, fun i j a b hij ha hb e => ?_⟩
        · have := c3 k (List.getElem?_eq_some_iff.1 hk).1
          rw [capF_at hk] at this
          exact (capE_zero.1 this).1
        · have := c4 k (List.getElem?_eq_some_iff.1 hk).1
          rw [asF_at hk] at this
          exact (asE_zero.1 this).1
        · have := c4 j (List.getElem?_eq_some_iff.1 hb).1
          rw [asF_at hb] at this
          exact (asE_zero.1 this).2 a (List.mem_of_getElem? (i := i) (by rw [List.getElem?_take_of_lt hij]; exact ha)) e
      · rw [chkS_caps h1 h2 h3] at h; exact absurd h h3
    · rw [chkS_bs h1 h2] at h; exact absurd h h2
  · rw [chkS_ps h1] at h; exact absurd h h1
/-- The open units, the set-asides' classes, after the first k set-asides. -/
def openK (s : Su) (k : Nat) : List Int := (s.as_.take k).foldl (fun o a => o.set a.product.toNat (MB.at_ o a.product.toNat - a.units)) (MC.supB s.ps)
def classK (s : Su) (k : Nat) : List Int := (s.as_.take k).foldl (fun o a => o.set a.product.toNat a.cls) MC.Z6
theorem openK_step {s : Su} {k : Nat} {a : As} (h : s.as_[k]? = some a) : openK s (k + 1) = (openK s k).set a.product.toNat (MB.at_ (openK s k) a.product.toNat - a.units) := by
  unfold openK
  rw [List.take_add_one, h, List.foldl_append]; rfl
theorem classK_step {s : Su} {k : Nat} {a : As} (h : s.as_[k]? = some a) : classK s (k + 1) = (classK s k).set a.product.toNat a.cls := by
  unfold classK
  rw [List.take_add_one, h, List.foldl_append]; rfl
theorem openK_len (s : Su) (k : Nat) : (openK s k).length = 6 := by
  unfold openK
  have : ∀ (l : List As) (o : List Int), (l.foldl (fun o a => o.set a.product.toNat (MB.at_ o a.product.toNat - a.units)) o).length = o.length := by
    intro l
    induction l with
    | nil => intro o; rfl
    | cons a r ih => intro o; rw [List.foldl_cons, ih, List.length_set]
  rw [this, MC.supB_length]
theorem classK_len (s : Su) (k : Nat) : (classK s k).length = 6 := by
  unfold classK
  have : ∀ (l : List As) (o : List Int), (l.foldl (fun o a => o.set a.product.toNat a.cls) o).length = o.length := by
    intro l
    induction l with
    | nil => intro o; rfl
    | cons a r ih => intro o; rw [List.foldl_cons, ih, List.length_set]
  rw [this]; rfl
def openB (s : Su) : List Int := if chkS s = 0 then openK s s.as_.length else MC.Z6
def classB (s : Su) : List Int := if chkS s = 0 then classK s s.as_.length else MC.Z6
theorem openB_len (s : Su) : (openB s).length = 6 := by unfold openB; split; exact openK_len _ _; rfl
theorem classB_len (s : Su) : (classB s).length = 6 := by unfold classB; split; exact classK_len _ _; rfl
/-- The class of a bidder. -/
def clsOf (s : Su) (i : Nat) : Int := ((s.bs[i]?).map (·.cls)).getD 0
theorem clsOf_at {s : Su} {i : Nat} {p : Bd} (h : s.bs[i]? = some p) : clsOf s i = p.cls := by unfold clsOf; rw [h]; rfl
/-- What the k-th product, the k-th cap says against it. -/
def ruleB (s : Su) (i : Nat) (b : List Int) (k : Nat) : Bool :=
  decide (MB.at_ (MC.supB s.ps) k < MB.at_ b k) || ((decide (MB.at_ (classB s) k ≠ 0) && decide (MB.at_ (classB s) k ≠ clsOf s i)) && decide (MB.at_ (openB s) k < MB.at_ b k))
def capB (s : Su) (i : Nat) (b : List Int) (k : Nat) : Bool := match s.cs[k]? with
  | some c => (decide (c.bidder = -1) || decide (c.bidder = (i : Int))) && decide (c.units < MC.sumG (fU c.group) s.ps b)
  | none => false
def ruleE (s : Su) (i : Nat) (b : List Int) (k : Nat) : Int := if ruleB s i b k = true then 14 else 0
def capRE (s : Su) (i : Nat) (b : List Int) (k : Nat) : Int := if capB s i b k = true then 14 else 0
def allowE (s : Su) (i : Int) (b : List Int) : Int :=
  if chkS s ≠ 0 then chkS s
  else if i < 0 ∨ (s.bs.length : Int) ≤ i then 6
  else if MB.okB b = false then 4
  else if firstE (ruleE s i.toNat b) 6 ≠ 0 then 14
  else firstE (capRE s i.toNat b) s.cs.length
theorem ruleE_ne {s : Su} {i : Nat} {b : List Int} {k : Nat} (h : ruleE s i b k ≠ 0) : ruleE s i b k = 14 := by
  unfold ruleE at h ⊢; split <;> simp_all
theorem capRE_ne {s : Su} {i : Nat} {b : List Int} {k : Nat} (h : capRE s i b k ≠ 0) : capRE s i b k = 14 := by
  unfold capRE at h ⊢; split <;> simp_all
theorem allowE_chk {s : Su} {i : Int} {b : List Int} (h : chkS s ≠ 0) : allowE s i b = chkS s := if_pos h
theorem allowE_none {s : Su} {i : Int} {b : List Int} (h : chkS s = 0) (h1 : i < 0 ∨ (s.bs.length : Int) ≤ i) : allowE s i b = 6 := by
  unfold allowE; rw [if_neg (by simpa using h), if_pos h1]
theorem allowE_bad {s : Su} {i : Nat} {b : List Int} (h : chkS s = 0) (h1 : i < s.bs.length) (h2 : MB.okB b = false) : allowE s i b = 4 := by
  unfold allowE; rw [if_neg (by simpa using h), if_neg (by omega), if_pos h2]
theorem allowE_rule {s : Su} {i : Nat} {b : List Int} (h : chkS s = 0) (h1 : i < s.bs.length) (h2 : MB.okB b = true) {k : Nat} (hk : k < 6) (hr : ruleB s i b k = true) : allowE s i b = 14 := by
  unfold allowE
  rw [if_neg (by simpa using h), if_neg (by omega), if_neg (by rw [h2]; decide), if_pos]
  intro h0
  have := firstE_zero.1 h0 k hk
  rw [Int.toNat_natCast, ruleE, if_pos hr] at this
  cases this
theorem allowE_caps {s : Su} {i : Nat} {b : List Int} (h : chkS s = 0) (h1 : i < s.bs.length) (h2 : MB.okB b = true) (hr : ∀ k, k < 6 → ruleB s i b k = false) : allowE s i b = firstE (capRE s i b) s.cs.length := by
  unfold allowE
  rw [if_neg (by simpa using h), if_neg (by omega), if_neg (by rw [h2]; decide), Int.toNat_natCast, if_neg]
  have : firstE (ruleE s i b) 6 = 0 := firstE_zero.2 fun k hk => by rw [ruleE, hr k hk]; rfl
  simp [this]
theorem allowE_zero {s : Su} {i : Nat} {b : List Int} (h : allowE s i b = 0) : chkS s = 0 ∧ i < s.bs.length ∧ MB.okB b = true ∧ (∀ k, k < 6 → ruleB s i b k = false) ∧ ∀ k, k < s.cs.length → capB s i b k = false := by
  by_cases h1 : chkS s = 0
  · by_cases h2 : i < s.bs.length
    · cases h3 : MB.okB b with
      | false => rw [allowE_bad h1 h2 h3] at h; cases h
      | true =>
        have hr : ∀ k, k < 6 → ruleB s i b k = false := fun k hk => by
          cases g : ruleB s i b k with
          | false => rfl
          | true => rw [allowE_rule h1 h2 h3 hk g] at h; cases h
        rw [allowE_caps h1 h2 h3 hr] at h
        refine ⟨h1, h2, rfl, hr, fun k hk => ?_⟩
        have := firstE_zero.1 h k hk
        cases g : capB s i b k with
        | false => rfl
        | true => rw [capRE, if_pos g] at this; cases this
    · rw [allowE_none h1 (by omega)] at h; cases h
  · rw [allowE_chk h1] at h; exact absurd h h1
theorem allowE_ok {s : Su} {i : Nat} {b : List Int} (h1 : chkS s = 0) (h2 : i < s.bs.length) (h3 : MB.okB b = true) (hr : ∀ k, k < 6 → ruleB s i b k = false) (hc : ∀ k, k < s.cs.length → capB s i b k = false) : allowE s i b = 0 := by
  rw [allowE_caps h1 h2 h3 hr]
  exact firstE_zero.2 fun k hk => by rw [capRE, hc k hk]; rfl
/-- Of product k: all that the first n bundles hold; what the outsiders' hold. -/
def totK (l : List (List Int)) (k : Nat) : Nat → Int
  | 0 => 0
  | n + 1 => totK l k n + MB.at_ (l.getD n []) k
def outK (s : Su) (l : List (List Int)) (k : Nat) : Nat → Int
  | 0 => 0
  | n + 1 => if MB.at_ (classB s) k ≠ 0 ∧ MB.at_ (classB s) k ≠ clsOf s n then outK s l k n + MB.at_ (l.getD n []) k else outK s l k n
theorem totK_at {l : List (List Int)} {k n : Nat} {b : List Int} (h : l[n]? = some b) : totK l k (n + 1) = totK l k n + MB.at_ b k := by
  rw [totK, List.getD_eq_getElem?_getD, h]; rfl
theorem outK_yes {s : Su} {l : List (List Int)} {k n : Nat} {b : List Int} (h : l[n]? = some b) (hc : MB.at_ (classB s) k ≠ 0 ∧ MB.at_ (classB s) k ≠ clsOf s n) : outK s l k (n + 1) = outK s l k n + MB.at_ b k := by
  rw [outK, if_pos hc, List.getD_eq_getElem?_getD, h]; rfl
theorem outK_no {s : Su} {l : List (List Int)} {k n : Nat} (hc : ¬ (MB.at_ (classB s) k ≠ 0 ∧ MB.at_ (classB s) k ≠ clsOf s n)) : outK s l k (n + 1) = outK s l k n := by rw [outK, if_neg hc]
def overE (s : Su) (l : List (List Int)) (k : Nat) : Int := if MC.of (·.supply) s.ps k < totK l k l.length ∨ MB.at_ (openB s) k < outK s l k l.length then 14 else 0
def eachE (s : Su) (l : List (List Int)) (i : Nat) : Int := allowE s i (l.getD i [])
theorem eachE_at {s : Su} {l : List (List Int)} {i : Nat} {b : List Int} (h : l[i]? = some b) : eachE s l i = allowE s i b := by
  unfold eachE; rw [List.getD_eq_getElem?_getD, h]; rfl
def feasE (s : Su) (l : List (List Int)) : Int :=
  if chkS s ≠ 0 then chkS s
  else if l.length ≠ s.bs.length then 3
  else if firstE (eachE s l) l.length ≠ 0 then firstE (eachE s l) l.length
  else firstE (overE s l) s.ps.length
theorem feasE_chk {s : Su} {l : List (List Int)} (h : chkS s ≠ 0) : feasE s l = chkS s := if_pos h
theorem feasE_long {s : Su} {l : List (List Int)} (h : chkS s = 0) (h1 : l.length ≠ s.bs.length) : feasE s l = 3 := by unfold feasE; rw [if_neg (by simpa using h), if_pos h1]
theorem feasE_each {s : Su} {l : List (List Int)} (h : chkS s = 0) (h1 : l.length = s.bs.length) (h2 : firstE (eachE s l) l.length ≠ 0) : feasE s l = firstE (eachE s l) l.length := by
  unfold feasE; rw [if_neg (by simpa using h), if_neg (by simpa using h1), if_pos h2]
theorem feasE_over {s : Su} {l : List (List Int)} (h : chkS s = 0) (h1 : l.length = s.bs.length) (h2 : NoE (eachE s l) l.length) : feasE s l = firstE (overE s l) s.ps.length := by
  unfold feasE; rw [if_neg (by simpa using h), if_neg (by simpa using h1), if_neg (by rw [firstE_zero.2 h2]; simp)]
theorem feasE_zero {s : Su} {l : List (List Int)} (h : feasE s l = 0) : chkS s = 0 ∧ l.length = s.bs.length ∧ NoE (eachE s l) l.length ∧ NoE (overE s l) s.ps.length := by
  by_cases h1 : chkS s = 0
  · by_cases h2 : l.length = s.bs.length
    · by_cases h3 : firstE (eachE s l) l.length = 0
      · have h3 := firstE_zero.1 h3
        rw [feasE_over h1 h2 h3] at h
        exact ⟨h1, h2, h3, firstE_zero.1 h⟩
      · rw [feasE_each h1 h2 h3] at h; exact absurd h h3
    · rw [feasE_long h1 h2] at h; cases h
  · rw [feasE_chk h1] at h; exact absurd h h1
/-- The unsold units. -/
def remB (s : Su) (l : List (List Int)) : List Int := if feasE s l = 0 then (List.range 6).map fun k => MB.at_ (MC.supB s.ps) k - totK l k l.length else MC.Z6
/-- What lies within what is allowed is allowed. -/
theorem sumK_le {f : Pr → Int} {L : List Pr} {b c : List Int} (hf : ∀ k, 0 ≤ MC.of f L k) : ∀ k, (∀ j, j < k → MB.at_ c j ≤ MB.at_ b j) → MC.sumK f L c k ≤ MC.sumK f L b k
  | 0, _ => Int.le_refl _
  | k + 1, h => by
    have h1 := sumK_le hf k fun j hj => h j (by omega)
    have h2 := h k (by omega)
    show MC.sumK f L c k + _ ≤ MC.sumK f L b k + _
    have h3 : MB.at_ c k * MC.of f L k ≤ MB.at_ b k * MC.of f L k := Int.mul_le_mul_of_nonneg_right h2 (hf k)
    omega
end Go.Proofs.YtigfgeanofccgaaGreatDoor.MU
namespace Go.Proofs.YtigfgeanofccgaaGreatDoor.MU
open MC (Pr)
open MR (Bd)
/-- A number in decimal. -/
def dec (n : Nat) : List UInt8 := if n < 10 then [UInt8.ofNat (48 + n)] else dec (n / 10) ++ [UInt8.ofNat (48 + n % 10)]
decreasing_by omega
theorem dec_small {n : Nat} (h : n < 10) : dec n = [UInt8.ofNat (48 + n)] := by rw [dec, if_pos h]
theorem dec_big {n : Nat} (h : ¬ n < 10) : dec n = dec (n / 10) ++ [UInt8.ofNat (48 + n % 10)] := by rw [dec, if_neg h]
def num (z : Int) : List UInt8 := if z < 0 then 45 :: dec (-z).toNat else dec z.toNat
theorem num_pos {z : Int} (h : 0 ≤ z) : num z = dec z.toNat := if_neg (by omega)
theorem num_neg {z : Int} (h : z < 0) : num z = 45 :: dec (-z).toNat := if_pos h
theorem dig_at {k : Nat} (h : k < 10) : (UInt8.ofNat (48 + k)).toNat = 48 + k := by
  have : 48 + k < 256 := by omega
  simp; omega
theorem dec_ne (n : Nat) : dec n ≠ [] := by
  by_cases h : n < 10
  · rw [dec_small h]; simp
  · rw [dec_big h]; simp
theorem dec_digits : ∀ (n : Nat), ∀ c ∈ dec n, digitN c.toNat = true := by
  intro n
  induction n using Nat.strongRecOn with
  | ind n ih =>
    intro c hc
    by_cases h : n < 10
    · rw [dec_small h] at hc
      rw [List.mem_singleton.1 hc, dig_at h]
      exact digitN_yes.2 ⟨by omega, by omega⟩
    · rw [dec_big h] at hc
      rcases List.mem_append.1 hc with g | g
      · exact ih (n / 10) (by omega) c g
      · rw [List.mem_singleton.1 g, dig_at (Nat.mod_lt _ (by omega))]
        exact digitN_yes.2 ⟨by omega, by omega⟩
theorem numV_dec (n : Nat) : numV (dec n) = n := by
  induction n using Nat.strongRecOn with
  | ind n ih =>
    by_cases h : n < 10
    · rw [dec_small h]
      show 0 * 10 + ((UInt8.ofNat (48 + n)).toNat - 48) = n
      rw [dig_at h]; omega
    · rw [dec_big h, numV_snoc, ih (n / 10) (by omega), dig_at (Nat.mod_lt _ (by omega))]; omega
theorem dec_len {m : Nat} : ∀ {n : Nat}, n < 10 ^ (m + 1) → (dec n).length ≤ m + 1 := by
  induction m with
  | zero => intro n h; rw [dec_small (by simpa using h)]; simp
  | succ m ih =>
    intro n h
    by_cases h10 : n < 10
    · rw [dec_small h10]; simp
    · rw [dec_big h10, List.length_append]
      have := ih (n := n / 10) (by rw [Nat.pow_succ] at h; omega)
      simp; omega
theorem dec_head {n : Nat} (h : 0 < n) : ∃ c r, dec n = c :: r ∧ c.toNat ≠ 48 := by
  induction n using Nat.strongRecOn with
  | ind n ih =>
    by_cases h10 : n < 10
    · exact ⟨_, _, dec_small h10, by rw [dig_at h10]; omega⟩
    · obtain ⟨c, r, e, hc⟩ := ih (n / 10) (by omega) (by omega)
      rw [dec_big h10, e]
      exact ⟨c, _, rfl, hc⟩
/-- A string's parts between separators. -/
def splitB (c : UInt8) : List UInt8 → List (List UInt8)
  | [] => [[]]
  | x :: r => if x = c then [] :: splitB c r else match splitB c r with
    | [] => [[x]]
    | w :: ws => (x :: w) :: ws
theorem split_ne (c : UInt8) : ∀ s, splitB c s ≠ []
  | [] => by simp [splitB]
  | x :: r => by
    rw [splitB]
    split
    · simp
    · split <;> simp
theorem split_cons {c x : UInt8} {r w : List UInt8} {ws : List (List UInt8)} (hx : x ≠ c) (h : splitB c r = w :: ws) : splitB c (x :: r) = (x :: w) :: ws := by
  rw [splitB, if_neg hx, h]
theorem split_sep {c : UInt8} {r : List UInt8} : splitB c (c :: r) = [] :: splitB c r := by rw [splitB, if_pos rfl]
/-- The last part is what lies behind the last separator: one byte more. -/
theorem split_snoc_sep (c : UInt8) : ∀ s : List UInt8, splitB c (s ++ [c]) = splitB c s ++ [[]]
  | [] => by simp [splitB]
  | x :: r => by
    have ih := split_snoc_sep c r
    by_cases hx : x = c
    · subst hx; rw [List.cons_append, split_sep, split_sep, ih]; rfl
    · cases h : splitB c r with
      | nil => exact absurd h (split_ne c r)
      | cons w ws =>
        rw [h] at ih
        rw [List.cons_append, split_cons hx (w := w) (ws := ws ++ [[]]) (by rw [ih]; rfl), split_cons hx h]; rfl
theorem split_snoc {c y : UInt8} (hy : y ≠ c) : ∀ s : List UInt8, ∃ (ws : List (List UInt8)) (w : List UInt8), splitB c s = ws ++ [w] ∧ splitB c (s ++ [y]) = ws ++ [w ++ [y]]
  | [] => ⟨[], [], rfl, by rw [List.nil_append, split_cons hy (w := []) (ws := []) rfl]; rfl⟩
  | x :: r => by
    obtain ⟨ws, w, h1, h2⟩ := split_snoc hy r
    by_cases hx : x = c
    · subst hx
      exact ⟨[] :: ws, w, by rw [split_sep, h1]; rfl, by rw [List.cons_append, split_sep, h2]; rfl⟩
    · cases ws with
      | nil => exact ⟨[], x :: w, by rw [split_cons hx (w := w) (ws := []) h1]; rfl, by rw [List.cons_append, split_cons hx (w := w ++ [y]) (ws := []) h2]; rfl⟩
      | cons v vs => exact ⟨(x :: v) :: vs, w, by rw [split_cons hx (w := v) (ws := vs ++ [w]) h1]; rfl, by rw [List.cons_append, split_cons hx (w := v) (ws := vs ++ [w ++ [y]]) h2]; rfl⟩
theorem split_free {c : UInt8} : ∀ {a : List UInt8}, c ∉ a → ∀ r : List UInt8, splitB c (a ++ c :: r) = a :: splitB c r
  | [], _, r => split_sep
  | x :: a, h, r => by
    have hx : x ≠ c := fun e => h (by simp [e])
    rw [List.cons_append, split_cons hx (split_free (fun g => h (by simp [g])) r)]
theorem split_all {c : UInt8} : ∀ {a : List UInt8}, c ∉ a → splitB c a = [a]
  | [], _ => rfl
  | x :: a, h => by
    have hx : x ≠ c := fun e => h (by simp [e])
    rw [split_cons hx (split_all fun g => h (by simp [g]))]
/-- Words with single spaces between. -/
def joinW : List (List UInt8) → List UInt8
  | [] => []
  | [w] => w
  | w :: v :: r => w ++ 32 :: joinW (v :: r)
theorem joinW_cons (w v : List UInt8) (r : List (List UInt8)) : joinW (w :: v :: r) = w ++ 32 :: joinW (v :: r) := rfl
theorem split_join : ∀ {ws : List (List UInt8)}, ws ≠ [] → (∀ w ∈ ws, (32 : UInt8) ∉ w) → splitB 32 (joinW ws) = ws
  | [], h, _ => absurd rfl h
  | [w], _, h => split_all (h w (by simp))
  | w :: v :: r, _, h => by
    rw [joinW_cons, split_free (h w (by simp)), split_join (by simp) fun u hu => h u (by simp [hu])]
theorem split_lines : ∀ {ls : List (List UInt8)}, (∀ l ∈ ls, (10 : UInt8) ∉ l) → splitB 10 (ls.flatMap fun l => l ++ [10]) = ls ++ [[]]
  | [], _ => rfl
  | l :: r, h => by
    show splitB 10 ((l ++ [10]) ++ r.flatMap fun l => l ++ [10]) = _
    rw [List.append_assoc]
    show splitB 10 (l ++ 10 :: r.flatMap fun l => l ++ [10]) = _
    rw [split_free (h l (by simp)), split_lines fun m hm => h m (by simp [hm])]; rfl
/-- A number of a line, and its error. -/
def digE (w : List UInt8) : Int × Int :=
  if w = [] ∨ (1 < w.length ∧ (w.getD 0 0).toNat = 48) then (0, 2)
  else if (w.all fun c => digitN c.toNat) = false then (0, 2)
  else if 9 < w.length then (0, 4)
  else ((numV w : Int), 0)
theorem digE_dec {n : Nat} (h : n < 1000000000) : digE (dec n) = ((n : Int), 0) := by
  unfold digE
  have h1 : ¬ (dec n = [] ∨ (1 < (dec n).length ∧ ((dec n).getD 0 0).toNat = 48)) := by
    rintro (g | ⟨g1, g2⟩)
    · exact dec_ne n g
    · rcases Nat.eq_zero_or_pos n with rfl | hp
      · rw [dec_small (by decide)] at g1; simp at g1
      · obtain ⟨c, r, e, hc⟩ := dec_head hp
        rw [e] at g2
        exact hc g2
  rw [if_neg h1, if_neg (by rw [List.all_eq_true.2 (dec_digits n)]; decide), if_neg (by have := dec_len (m := 8) (n := n) (by omega); omega), numV_dec]
def numsE : List (List UInt8) → List Int × Int
  | [] => ([], 0)
  | w :: r => if (digE w).2 ≠ 0 then ([], (digE w).2) else if (numsE r).2 ≠ 0 then ([], (numsE r).2) else ((digE w).1 :: (numsE r).1, 0)
theorem nums_nil : numsE [] = ([], 0) := rfl
theorem nums_cons {n : Nat} {r : List (List UInt8)} {l : List Int} (h : n < 1000000000) (hr : numsE r = (l, 0)) : numsE (dec n :: r) = ((n : Int) :: l, 0) := by
  rw [numsE, digE_dec h, hr]; simp
/-- What a line adds to a setup. -/
def wProduct : List UInt8 := [112, 114, 111, 100, 117, 99, 116]
def wBidder : List UInt8 := [98, 105, 100, 100, 101, 114]
def wCap : List UInt8 := [99, 97, 112]
def wAside : List UInt8 := [97, 115, 105, 100, 101]
def at0 (ws : List (List UInt8)) (k : Nat) : List UInt8 := ws.getD k []
def atI (l : List Int) (k : Nat) : Int := l.getD k 0
def lineE (s : Su) (ws : List (List UInt8)) : Su × Int :=
  if at0 ws 0 = wProduct then
    if ws.length ≠ 6 then (s, 2) else if nameB (at0 ws 1) = false then (s, 5) else
    if (numsE (ws.drop 2)).2 ≠ 0 then (s, (numsE (ws.drop 2)).2) else
    ({ s with ps := s.ps ++ [⟨at0 ws 1, atI (numsE (ws.drop 2)).1 0, atI (numsE (ws.drop 2)).1 1, atI (numsE (ws.drop 2)).1 2, atI (numsE (ws.drop 2)).1 3⟩] }, 0)
  else if at0 ws 0 = wBidder then
    if ws.length ≠ 5 then (s, 2) else if nameB (at0 ws 1) = false then (s, 5) else
    if (numsE (ws.drop 2)).2 ≠ 0 then (s, (numsE (ws.drop 2)).2) else
    ({ s with bs := s.bs ++ [⟨at0 ws 1, atI (numsE (ws.drop 2)).1 0, atI (numsE (ws.drop 2)).1 1, atI (numsE (ws.drop 2)).1 2⟩] }, 0)
  else if at0 ws 0 = wCap then
    if ws.length ≠ 4 then (s, 2) else if MR.findL s.bs (at0 ws 1) = none ∧ at0 ws 1 ≠ [42] then (s, 6) else
    if (numsE (ws.drop 2)).2 ≠ 0 then (s, (numsE (ws.drop 2)).2) else
    ({ s with cs := s.cs ++ [⟨((MR.findL s.bs (at0 ws 1)).map Int.ofNat).getD (-1), atI (numsE (ws.drop 2)).1 0, atI (numsE (ws.drop 2)).1 1⟩] }, 0)
  else if at0 ws 0 = wAside then
    if ws.length ≠ 4 then (s, 2) else if MC.findL s.ps (at0 ws 1) = none then (s, 6) else
    if (numsE (ws.drop 2)).2 ≠ 0 then (s, (numsE (ws.drop 2)).2) else
    ({ s with as_ := s.as_ ++ [⟨((MC.findL s.ps (at0 ws 1)).map Int.ofNat).getD 0, atI (numsE (ws.drop 2)).1 0, atI (numsE (ws.drop 2)).1 1⟩] }, 0)
  else (s, 22)
/-- The lines one after another, i of them read. -/
def linesE : List (List UInt8) → Nat → Su → Su × Int × Int
  | [], _, s => if chkS s ≠ 0 then (Su.none, 0, chkS s) else (s, 0, 0)
  | l :: r, i, s => if l = [] then linesE r (i + 1) s else if (lineE s (splitB 32 l)).2 ≠ 0 then (Su.none, (i : Int) + 1, (lineE s (splitB 32 l)).2) else linesE r (i + 1) (lineE s (splitB 32 l)).1
def parseS (t : List UInt8) : Su × Int × Int := if 4000 < t.length then (Su.none, 0, 3) else linesE (splitB 10 t) 0 Su.none
theorem lines_end {i : Nat} {s : Su} (h : chkS s = 0) : linesE [] i s = (s, 0, 0) := by rw [linesE, if_neg (by simpa using h)]
theorem lines_empty {r : List (List UInt8)} {i : Nat} {s : Su} : linesE ([] :: r) i s = linesE r (i + 1) s := by rw [linesE, if_pos rfl]
theorem lines_bad {l : List UInt8} {r : List (List UInt8)} {i : Nat} {s : Su} (h : l ≠ []) (he : (lineE s (splitB 32 l)).2 ≠ 0) : linesE (l :: r) i s = (Su.none, (i : Int) + 1, (lineE s (splitB 32 l)).2) := by rw [linesE, if_neg h, if_pos he]
theorem lines_on {l : List UInt8} {r : List (List UInt8)} {i : Nat} {s t : Su} (h : l ≠ []) (he : lineE s (splitB 32 l) = (t, 0)) : linesE (l :: r) i s = linesE r (i + 1) t := by rw [linesE, if_neg h, he]; simp
/-- The words of an element's line. -/
def prW (p : Pr) : List (List UInt8) := [wProduct, p.name, num p.supply, num p.reserve, num p.points, num p.group]
def bdW (p : Bd) : List (List UInt8) := [wBidder, p.name, num p.cls, num p.budget, num p.points]
def cpName (s : Su) (c : Cp) : List UInt8 := if 0 ≤ c.bidder then ((s.bs[c.bidder.toNat]?).map (·.name)).getD [] else [42]
def cpW (s : Su) (c : Cp) : List (List UInt8) := [wCap, cpName s c, num c.group, num c.units]
def asName (s : Su) (a : As) : List UInt8 := ((s.ps[a.product.toNat]?).map (·.name)).getD []
def asW (s : Su) (a : As) : List (List UInt8) := [wAside, asName s a, num a.cls, num a.units]
def wordsS (s : Su) : List (List (List UInt8)) := s.ps.map prW ++ s.bs.map bdW ++ s.cs.map (cpW s) ++ s.as_.map (asW s)
def textS (s : Su) : List UInt8 := ((wordsS s).map joinW).flatMap fun l => l ++ [10]
def fmtS (s : Su) : List UInt8 × Int := if chkS s ≠ 0 then ([], chkS s) else (textS s, 0)
end Go.Proofs.YtigfgeanofccgaaGreatDoor.MU
namespace Go.Proofs.YtigfgeanofccgaaGreatDoor.MU
open MC (Pr)
open MR (Bd)
/-- No space, no line feed. -/
def Clean (w : List UInt8) : Prop := (32 : UInt8) ∉ w ∧ (10 : UInt8) ∉ w
theorem clean_of {w : List UInt8} (h : ∀ c ∈ w, c.toNat ≠ 32 ∧ c.toNat ≠ 10) : Clean w := ⟨fun g => (h _ g).1 rfl, fun g => (h _ g).2 rfl⟩
theorem clean_dec (n : Nat) : Clean (dec n) := clean_of fun c hc => by
  have := digitN_yes.1 (dec_digits n c hc)
  omega
theorem clean_num {z : Int} (h : 0 ≤ z) : Clean (num z) := by rw [num_pos h]; exact clean_dec _
theorem clean_name {n : List UInt8} (h : nameB n = true) : Clean n := by
  cases n with
  | nil => cases h
  | cons c r =>
    have h2 : (decide ((c :: r).length ≤ 12) && (letterN c.toNat && decide (fits partN (c :: r) = c :: r))) = true := h
    simp only [Bool.and_eq_true, decide_eq_true_eq] at h2
    have hf := h2.2.2
    refine clean_of fun d hd => ?_
    obtain ⟨k, hk, e⟩ := List.mem_iff_getElem.1 hd
    obtain ⟨d', e', hp⟩ := fits_in partN (c :: r) k (by rw [hf]; exact hk)
    rw [List.getElem?_eq_getElem hk, e] at e'
    injection e' with e'
    subst e'
    unfold partN at hp
    simp only [Bool.or_eq_true, decide_eq_true_eq] at hp
    rcases hp with g | g | g
    · have := letterN_yes.1 g; omega
    · have := digitN_yes.1 g; omega
    · omega
theorem name_ne_star {n : List UInt8} (h : nameB n = true) : n ≠ [42] := by
  rintro rfl
  revert h; decide
theorem join_ne : ∀ {ws : List (List UInt8)}, at0 ws 0 ≠ [] → joinW ws ≠ []
  | [], h => absurd rfl h
  | [w], h => h
  | w :: v :: r, _ => by rw [joinW_cons]; simp
theorem join_no10 : ∀ {ws : List (List UInt8)}, (∀ w ∈ ws, Clean w) → (10 : UInt8) ∉ joinW ws
  | [], _ => by simp [joinW]
  | [w], h => (h w (by simp)).2
  | w :: v :: r, h => by
    rw [joinW_cons]
    intro g
    rcases List.mem_append.1 g with g | g
    · exact (h w (by simp)).2 g
    · rcases List.mem_cons.1 g with g | g
      · cases g
      · exact join_no10 (fun u hu => h u (by simp [hu])) g
theorem join_len : ∀ {ws : List (List UInt8)}, ws ≠ [] → (joinW ws).length + 1 = (ws.map fun w => w.length + 1).sum
  | [], h => absurd rfl h
  | [w], _ => by simp [joinW]
  | w :: v :: r, _ => by
    have ih := join_len (ws := v :: r) (by simp)
    rw [joinW_cons, List.length_append, List.length_cons, List.map_cons, List.sum_cons, ← ih]
    omega
theorem flat_len' {M : Nat} : ∀ {ls : List (List UInt8)}, (∀ l ∈ ls, l.length + 1 ≤ M) → (ls.flatMap fun l => l ++ [10]).length ≤ ls.length * M
  | [], _ => by simp
  | l :: r, h => by
    have ih := flat_len' (ls := r) fun m hm => h m (by simp [hm])
    have h1 := h l (by simp)
    show ((l ++ [10]) ++ r.flatMap fun l => l ++ [10]).length ≤ _
    rw [List.length_append, List.length_append, List.length_singleton, List.length_cons (a := l), Nat.succ_mul]
    omega
/-- One element's line: its words, and what it adds. -/
structure LineOk (s : Su) (ws : List (List UInt8)) (t : Su) : Prop where
  head : at0 ws 0 ≠ []
  clean : ∀ w ∈ ws, Clean w
  reads : lineE s ws = (t, 0)
theorem LineOk.on {s t : Su} {ws : List (List UInt8)} (h : LineOk s ws t) (r : List (List UInt8)) (i : Nat) : linesE (joinW ws :: r) i s = linesE r (i + 1) t := by
  refine lines_on (join_ne h.head) ?_
  rw [split_join (fun e => h.head (by rw [e]; rfl)) fun w hw => (h.clean w hw).1]
  exact h.reads
theorem toNat_back {z : Int} (h : 0 ≤ z) : ((z.toNat : Nat) : Int) = z := by omega
theorem nums2 {a b : Int} (ha : 0 ≤ a ∧ a < 1000000000) (hb : 0 ≤ b ∧ b < 1000000000) : numsE [num a, num b] = ([a, b], 0) := by
  rw [num_pos ha.1, num_pos hb.1, nums_cons (by omega) (nums_cons (by omega) nums_nil), toNat_back ha.1, toNat_back hb.1]
theorem nums3 {a b c : Int} (ha : 0 ≤ a ∧ a < 1000000000) (hb : 0 ≤ b ∧ b < 1000000000) (hc : 0 ≤ c ∧ c < 1000000000) : numsE [num a, num b, num c] = ([a, b, c], 0) := by
  rw [num_pos ha.1, nums_cons (by omega) (nums2 hb hc), toNat_back ha.1]
theorem nums4 {a b c d : Int} (ha : 0 ≤ a ∧ a < 1000000000) (hb : 0 ≤ b ∧ b < 1000000000) (hc : 0 ≤ c ∧ c < 1000000000) (hd : 0 ≤ d ∧ d < 1000000000) : numsE [num a, num b, num c, num d] = ([a, b, c, d], 0) := by
  rw [num_pos ha.1, nums_cons (by omega) (nums3 hb hc hd), toNat_back ha.1]
theorem clean_word {w : List UInt8} (h : (w.all fun c => decide (c.toNat ≠ 32) && decide (c.toNat ≠ 10)) = true) : Clean w := clean_of fun c hc => by
  have := List.all_eq_true.1 h c hc
  simpa using this
theorem pr_ok (s : Su) {p : Pr} (hn : nameB p.name = true) (h : p.ok) : LineOk s (prW p) { s with ps := s.ps ++ [p] } := by
  obtain ⟨h1, h2, h3, h4⟩ := h
  refine ⟨by show wProduct ≠ []; decide, fun w hw => ?_, ?_⟩
  · simp only [prW, List.mem_cons, List.not_mem_nil, or_false] at hw
    rcases hw with rfl | rfl | rfl | rfl | rfl | rfl
    · exact clean_word (by decide)
    · exact clean_name hn
    · exact clean_num (by omega)
    · exact clean_num (by omega)
    · exact clean_num (by omega)
    · exact clean_num (by omega)
  · have hx := nums4 (a := p.supply) (b := p.reserve) (c := p.points) (d := p.group) (by omega) (by omega) (by omega) (by omega)
    have e : lineE s (prW p) = _ := if_pos rfl
    rw [e, if_neg (by simp [prW]), if_neg (by show ¬ nameB p.name = false; rw [hn]; decide)]
    show (if (numsE [num p.supply, num p.reserve, num p.points, num p.group]).2 ≠ 0 then _ else _) = _
    rw [if_neg (by rw [hx]; simp)]
    show (({ s with ps := s.ps ++ [⟨p.name, atI (numsE [num p.supply, num p.reserve, num p.points, num p.group]).1 0, atI (numsE [num p.supply, num p.reserve, num p.points, num p.group]).1 1, atI (numsE [num p.supply, num p.reserve, num p.points, num p.group]).1 2, atI (numsE [num p.supply, num p.reserve, num p.points, num p.group]).1 3⟩] } : Su), (0 : Int)) = _
    rw [hx]; rfl
theorem bd_ok (s : Su) {p : Bd} (hn : nameB p.name = true) (h : p.ok) : LineOk s (bdW p) { s with bs := s.bs ++ [p] } := by
  obtain ⟨h1, h2, h3⟩ := h
  refine ⟨by show wBidder ≠ []; decide, fun w hw => ?_, ?_⟩
  · simp only [bdW, List.mem_cons, List.not_mem_nil, or_false] at hw
    rcases hw with rfl | rfl | rfl | rfl | rfl
    · exact clean_word (by decide)
    · exact clean_name hn
    · exact clean_num (by omega)
    · exact clean_num (by omega)
    · exact clean_num (by omega)
  · have hx := nums3 (a := p.cls) (b := p.budget) (c := p.points) (by omega) (by omega) (by omega)
    have e : lineE s (bdW p) = _ := (if_neg (by decide : ¬ wBidder = wProduct)).trans (if_pos rfl)
    rw [e, if_neg (by simp [bdW]), if_neg (by show ¬ nameB p.name = false; rw [hn]; decide)]
    show (if (numsE [num p.cls, num p.budget, num p.points]).2 ≠ 0 then _ else _) = _
    rw [if_neg (by rw [hx]; simp)]
    show (({ s with bs := s.bs ++ [⟨p.name, atI (numsE [num p.cls, num p.budget, num p.points]).1 0, atI (numsE [num p.cls, num p.budget, num p.points]).1 1, atI (numsE [num p.cls, num p.budget, num p.points]).1 2⟩] } : Su), (0 : Int)) = _
    rw [hx]; rfl
/-- The name in a cap's line, and what it is read as. -/
theorem cap_name {s : Su} (hb : MR.Good s.bs) {c : Cp} (h : -1 ≤ c.bidder ∧ c.bidder < s.bs.length) :
    Clean (cpName s c) ∧ ¬ (MR.findL s.bs (cpName s c) = none ∧ cpName s c ≠ [42]) ∧ ((MR.findL s.bs (cpName s c)).map Int.ofNat).getD (-1) = c.bidder := by
  by_cases h0 : 0 ≤ c.bidder
  · have hp : s.bs[c.bidder.toNat]? = some s.bs[c.bidder.toNat] := List.getElem?_eq_getElem (by omega)
    have hf := hb.find hp
    have e : cpName s c = s.bs[c.bidder.toNat].name := by unfold cpName; rw [if_pos h0, hp]; rfl
    rw [e, hf]
    refine ⟨clean_name (hb.each _ _ hp).1, (fun g => by cases g.1), ?_⟩
    show Int.ofNat c.bidder.toNat = c.bidder
    exact toNat_back h0
  · have e : cpName s c = [42] := by unfold cpName; rw [if_neg h0]
    have hf : MR.findL s.bs [42] = none := MR.find_none fun p hp he => by
      obtain ⟨k, hk, e2⟩ := List.mem_iff_getElem.1 hp
      exact name_ne_star (hb.each k p (by rw [List.getElem?_eq_getElem hk, e2])).1 he
    rw [e, hf]
    exact ⟨clean_word (by decide), fun g => g.2 rfl, by show (-1 : Int) = _; omega⟩
theorem cap_ok {s : Su} (hb : MR.Good s.bs) (S : Su) (hS : S.bs = s.bs) {c : Cp} (h : (-1 ≤ c.bidder ∧ c.bidder < s.bs.length) ∧ ((0 ≤ c.group ∧ c.group ≤ 4) ∧ 0 ≤ c.units ∧ c.units ≤ 24)) : LineOk S (cpW s c) { S with cs := S.cs ++ [c] } := by
  obtain ⟨h0, h1, h2⟩ := h
  obtain ⟨n1, n2, n3⟩ := cap_name hb h0
  rw [← hS] at n2 n3
  refine ⟨by show wCap ≠ []; decide, fun w hw => ?_, ?_⟩
  · simp only [cpW, List.mem_cons, List.not_mem_nil, or_false] at hw
    rcases hw with rfl | rfl | rfl | rfl
    · exact clean_word (by decide)
    · exact n1
    · exact clean_num (by omega)
    · exact clean_num (by omega)
  · have hx := nums2 (a := c.group) (b := c.units) (by omega) (by omega)
    have e : lineE S (cpW s c) = _ := (if_neg (by decide : ¬ wCap = wProduct)).trans ((if_neg (by decide : ¬ wCap = wBidder)).trans (if_pos rfl))
    rw [e, if_neg (by simp [cpW]), if_neg (by exact n2)]
    show (if (numsE [num c.group, num c.units]).2 ≠ 0 then _ else _) = _
    rw [if_neg (by rw [hx]; simp)]
    show (({ S with cs := S.cs ++ [⟨((MR.findL S.bs (cpName s c)).map Int.ofNat).getD (-1), atI (numsE [num c.group, num c.units]).1 0, atI (numsE [num c.group, num c.units]).1 1⟩] } : Su), (0 : Int)) = _
    rw [hx, n3]; rfl
theorem aside_name {s : Su} (hp : MC.Good s.ps) {a : As} (h : 0 ≤ a.product ∧ a.product < s.ps.length) : Clean (asName s a) ∧ MC.findL s.ps (asName s a) = some a.product.toNat := by
  have hp2 : s.ps[a.product.toNat]? = some s.ps[a.product.toNat] := List.getElem?_eq_getElem (by omega)
  have e : asName s a = s.ps[a.product.toNat].name := by unfold asName; rw [hp2]; rfl
  rw [e]
  exact ⟨clean_name (hp.each _ _ hp2).1, hp.find hp2⟩
theorem aside_ok {s : Su} (hp : MC.Good s.ps) (S : Su) (hS : S.ps = s.ps) {a : As} (h : (0 ≤ a.product ∧ a.product < s.ps.length) ∧ ((1 ≤ a.cls ∧ a.cls ≤ 4) ∧ 1 ≤ a.units ∧ a.units ≤ 4)) : LineOk S (asW s a) { S with as_ := S.as_ ++ [a] } := by
  obtain ⟨h0, h1, h2⟩ := h
  obtain ⟨n1, n2⟩ := aside_name hp h0
  refine ⟨by show wAside ≠ []; decide, fun w hw => ?_, ?_⟩
  · simp only [asW, List.mem_cons, List.not_mem_nil, or_false] at hw
    rcases hw with rfl | rfl | rfl | rfl
    · exact clean_word (by decide)
    · exact n1
    · exact clean_num (by omega)
    · exact clean_num (by omega)
  · have hx := nums2 (a := a.cls) (b := a.units) (by omega) (by omega)
    have e : lineE S (asW s a) = _ := (if_neg (by decide : ¬ wAside = wProduct)).trans ((if_neg (by decide : ¬ wAside = wBidder)).trans ((if_neg (by decide : ¬ wAside = wCap)).trans (if_pos rfl)))
    have hn : MC.findL S.ps (asName s a) = some a.product.toNat := by rw [hS]; exact n2
    rw [e, if_neg (by simp [asW]), if_neg (by show ¬ MC.findL S.ps (asName s a) = none; rw [hn]; simp)]
    show (if (numsE [num a.cls, num a.units]).2 ≠ 0 then _ else _) = _
    rw [if_neg (by rw [hx]; simp)]
    show (({ S with as_ := S.as_ ++ [⟨((MC.findL S.ps (asName s a)).map Int.ofNat).getD 0, atI (numsE [num a.cls, num a.units]).1 0, atI (numsE [num a.cls, num a.units]).1 1⟩] } : Su), (0 : Int)) = _
    rw [hx, hn]
    have : Int.ofNat a.product.toNat = a.product := toNat_back h0.1
    show (({ S with as_ := S.as_ ++ [⟨Int.ofNat a.product.toNat, a.cls, a.units⟩] } : Su), (0 : Int)) = _
    rw [this]
theorem sup_le {ps : List Pr} (h : MC.Good ps) {k : Nat} (hk : k < ps.length) : MC.of (·.supply) ps k ≤ 4 := by
  have hp : ps[k]? = some ps[k] := List.getElem?_eq_getElem hk
  rw [MC.of_at hp]
  exact (h.each k _ hp).2.1.2
theorem back_ps {s : Su} (h : MC.Good s.ps) : ∀ (r d : List Pr) (rest : List (List UInt8)) (i : Nat) (S : Su), (∀ p ∈ r, p ∈ s.ps) → S.ps = d → linesE ((r.map prW).map joinW ++ rest) i S = linesE rest (i + r.length) { S with ps := d ++ r }
  | [], d, rest, i, S, _, hS => by subst hS; simp
  | p :: r, d, rest, i, S, hr, hS => by
    obtain ⟨k, hk, e⟩ := List.mem_iff_getElem.1 (hr p (by simp))
    have hp := h.each k p (by rw [List.getElem?_eq_getElem hk, e])
    show linesE (joinW (prW p) :: ((r.map prW).map joinW ++ rest)) i S = _
    rw [(pr_ok S hp.1 hp.2).on, back_ps h r (d ++ [p]) rest (i + 1) _ (fun q hq => hr q (by simp [hq])) (by show S.ps ++ [p] = _; rw [hS])]
    simp only [List.length_cons, List.append_assoc, List.cons_append, List.nil_append]
    congr 1
    omega
theorem back_bs {s : Su} (h : MR.Good s.bs) : ∀ (r d : List Bd) (rest : List (List UInt8)) (i : Nat) (S : Su), (∀ p ∈ r, p ∈ s.bs) → S.bs = d → linesE ((r.map bdW).map joinW ++ rest) i S = linesE rest (i + r.length) { S with bs := d ++ r }
  | [], d, rest, i, S, _, hS => by subst hS; simp
  | p :: r, d, rest, i, S, hr, hS => by
    obtain ⟨k, hk, e⟩ := List.mem_iff_getElem.1 (hr p (by simp))
    have hp := h.each k p (by rw [List.getElem?_eq_getElem hk, e])
    show linesE (joinW (bdW p) :: ((r.map bdW).map joinW ++ rest)) i S = _
    rw [(bd_ok S hp.1 hp.2).on, back_bs h r (d ++ [p]) rest (i + 1) _ (fun q hq => hr q (by simp [hq])) (by show S.bs ++ [p] = _; rw [hS])]
    simp only [List.length_cons, List.append_assoc, List.cons_append, List.nil_append]
    congr 1
    omega
theorem back_cs {s : Su} (h : GoodS s) : ∀ (r d : List Cp) (rest : List (List UInt8)) (i : Nat) (S : Su), (∀ c ∈ r, c ∈ s.cs) → S.bs = s.bs → S.cs = d → linesE ((r.map (cpW s)).map joinW ++ rest) i S = linesE rest (i + r.length) { S with cs := d ++ r }
  | [], d, rest, i, S, _, _, hS => by subst hS; simp
  | c :: r, d, rest, i, S, hr, hb, hS => by
    obtain ⟨k, hk, e⟩ := List.mem_iff_getElem.1 (hr c (by simp))
    have hc := h.caps k c (by rw [List.getElem?_eq_getElem hk, e])
    show linesE (joinW (cpW s c) :: ((r.map (cpW s)).map joinW ++ rest)) i S = _
    rw [(cap_ok (MR.chk_good h.bs) S hb hc).on, back_cs h r (d ++ [c]) rest (i + 1) { S with cs := S.cs ++ [c] } (fun q hq => hr q (by simp [hq])) hb (by show S.cs ++ [c] = _; rw [hS])]
    simp only [List.length_cons, List.append_assoc, List.cons_append, List.nil_append]
    congr 1
    omega
theorem back_as {s : Su} (h : GoodS s) : ∀ (r d : List As) (rest : List (List UInt8)) (i : Nat) (S : Su), (∀ a ∈ r, a ∈ s.as_) → S.ps = s.ps → S.as_ = d → linesE ((r.map (asW s)).map joinW ++ rest) i S = linesE rest (i + r.length) { S with as_ := d ++ r }
  | [], d, rest, i, S, _, _, hS => by subst hS; simp
  | a :: r, d, rest, i, S, hr, hp, hS => by
    obtain ⟨k, hk, e⟩ := List.mem_iff_getElem.1 (hr a (by simp))
    have ha := h.asides k a (by rw [List.getElem?_eq_getElem hk, e])
    have hs := sup_le (MC.chk_good h.ps) (k := a.product.toNat) (by omega)
    show linesE (joinW (asW s a) :: ((r.map (asW s)).map joinW ++ rest)) i S = _
    rw [(aside_ok (MC.chk_good h.ps) S hp ⟨ha.1, ha.2.1, ha.2.2.1, by omega⟩).on, back_as h r (d ++ [a]) rest (i + 1) { S with as_ := S.as_ ++ [a] } (fun q hq => hr q (by simp [hq])) hp (by show S.as_ ++ [a] = _; rw [hS])]
    simp only [List.length_cons, List.append_assoc, List.cons_append, List.nil_append]
    congr 1
    omega
theorem lineB {s : Su} (h : GoodS s) : ∀ ws ∈ wordsS s, at0 ws 0 ≠ [] ∧ (∀ w ∈ ws, Clean w) := by
  intro ws hw
  unfold wordsS at hw
  simp only [List.mem_append, List.mem_map] at hw
  rcases hw with ((⟨p, hp, rfl⟩ | ⟨p, hp, rfl⟩) | ⟨c, hc, rfl⟩) | ⟨a, ha, rfl⟩
  · obtain ⟨k, hk, e⟩ := List.mem_iff_getElem.1 hp
    have := (MC.chk_good h.ps).each k p (by rw [List.getElem?_eq_getElem hk, e])
    have L := pr_ok s this.1 this.2
    exact ⟨L.head, L.clean⟩
  · obtain ⟨k, hk, e⟩ := List.mem_iff_getElem.1 hp
    have := (MR.chk_good h.bs).each k p (by rw [List.getElem?_eq_getElem hk, e])
    have L := bd_ok s this.1 this.2
    exact ⟨L.head, L.clean⟩
  · obtain ⟨k, hk, e⟩ := List.mem_iff_getElem.1 hc
    have := h.caps k c (by rw [List.getElem?_eq_getElem hk, e])
    have L := cap_ok (MR.chk_good h.bs) s rfl this
    exact ⟨L.head, L.clean⟩
  · obtain ⟨k, hk, e⟩ := List.mem_iff_getElem.1 ha
    have hx := h.asides k a (by rw [List.getElem?_eq_getElem hk, e])
    have hs := sup_le (MC.chk_good h.ps) (k := a.product.toNat) (by omega)
    have L := aside_ok (MC.chk_good h.ps) s rfl ⟨hx.1, hx.2.1, hx.2.2.1, by omega⟩
    exact ⟨L.head, L.clean⟩
theorem num_len {z : Int} {m : Nat} (h0 : 0 ≤ z) (h : z.toNat < 10 ^ (m + 1)) : (num z).length ≤ m + 1 := by rw [num_pos h0]; exact dec_len h
theorem name12 {n : List UInt8} (h : nameB n = true) : n.length ≤ 12 := MC.nameB_len h
theorem cp_len {s : Su} (hb : MR.Good s.bs) {c : Cp} (h : -1 ≤ c.bidder ∧ c.bidder < s.bs.length) : (cpName s c).length ≤ 12 := by
  unfold cpName
  split
  · have hp : s.bs[c.bidder.toNat]? = some s.bs[c.bidder.toNat] := List.getElem?_eq_getElem (by omega)
    rw [hp]
    exact name12 (hb.each _ _ hp).1
  · decide
theorem as_len {s : Su} (hp : MC.Good s.ps) {a : As} (h : 0 ≤ a.product ∧ a.product < s.ps.length) : (asName s a).length ≤ 12 := by
  have hp2 : s.ps[a.product.toNat]? = some s.ps[a.product.toNat] := List.getElem?_eq_getElem (by omega)
  unfold asName
  rw [hp2]
  exact name12 (hp.each _ _ hp2).1
/-- No line is longer than 53 bytes. -/
theorem line_len {s : Su} (h : GoodS s) : ∀ l ∈ (wordsS s).map joinW, l.length + 1 ≤ 53 := by
  intro l hl
  obtain ⟨ws, hw, rfl⟩ := List.mem_map.1 hl
  have hne : ws ≠ [] := fun e => (lineB h ws hw).1 (by rw [e]; rfl)
  rw [join_len hne]
  unfold wordsS at hw
  simp only [List.mem_append, List.mem_map] at hw
  rcases hw with ((⟨p, hp, rfl⟩ | ⟨p, hp, rfl⟩) | ⟨c, hc, rfl⟩) | ⟨a, ha, rfl⟩
  · obtain ⟨k, hk, e⟩ := List.mem_iff_getElem.1 hp
    obtain ⟨h1, h2, h3, h4, h5⟩ := (MC.chk_good h.ps).each k p (by rw [List.getElem?_eq_getElem hk, e])
    have n1 := name12 h1
    have n2 := num_len (z := p.supply) (m := 0) (by omega) (by omega)
    have n3 := num_len (z := p.reserve) (m := 6) (by omega) (by omega)
    have n4 := num_len (z := p.points) (m := 3) (by omega) (by omega)
    have n5 := num_len (z := p.group) (m := 0) (by omega) (by omega)
    simp only [prW, wProduct, List.map_cons, List.map_nil, List.sum_cons, List.sum_nil, List.length_cons, List.length_nil]
    omega
  · obtain ⟨k, hk, e⟩ := List.mem_iff_getElem.1 hp
    obtain ⟨h1, h2, h3, h4⟩ := (MR.chk_good h.bs).each k p (by rw [List.getElem?_eq_getElem hk, e])
    have n1 := name12 h1
    have n2 := num_len (z := p.cls) (m := 0) (by omega) (by omega)
    have n3 := num_len (z := p.budget) (m := 6) (by omega) (by omega)
    have n4 := num_len (z := p.points) (m := 4) (by omega) (by omega)
    simp only [bdW, wBidder, List.map_cons, List.map_nil, List.sum_cons, List.sum_nil, List.length_cons, List.length_nil]
    omega
  · obtain ⟨k, hk, e⟩ := List.mem_iff_getElem.1 hc
    obtain ⟨h1, h2, h3⟩ := h.caps k c (by rw [List.getElem?_eq_getElem hk, e])
    have n1 := cp_len (MR.chk_good h.bs) h1
    have n2 := num_len (z := c.group) (m := 0) (by omega) (by omega)
    have n3 := num_len (z := c.units) (m := 1) (by omega) (by omega)
    simp only [cpW, wCap, List.map_cons, List.map_nil, List.sum_cons, List.sum_nil, List.length_cons, List.length_nil]
    omega
  · obtain ⟨k, hk, e⟩ := List.mem_iff_getElem.1 ha
    obtain ⟨h1, h2, h3⟩ := h.asides k a (by rw [List.getElem?_eq_getElem hk, e])
    have hs := sup_le (MC.chk_good h.ps) (k := a.product.toNat) (by omega)
    have n1 := as_len (MC.chk_good h.ps) h1
    have n2 := num_len (z := a.cls) (m := 0) (by omega) (by omega)
    have n3 := num_len (z := a.units) (m := 0) (by omega) (by omega)
    simp only [asW, wAside, List.map_cons, List.map_nil, List.sum_cons, List.sum_nil, List.length_cons, List.length_nil]
    omega
theorem words_len {s : Su} (h : GoodS s) : (wordsS s).length ≤ 36 := by
  have h1 := (MC.chk_good h.ps).few
  have h2 := (MR.chk_good h.bs).few
  have h3 := h.fewC
  have h4 := h.fewA
  unfold wordsS
  simp only [List.length_append, List.length_map]
  omega
theorem text_len {s : Su} (h : GoodS s) : (textS s).length ≤ 1908 := by
  have h1 := flat_len' (line_len h)
  have h2 := words_len h
  unfold textS
  rw [List.length_map] at h1
  omega
/-- What Format prints Parse reads back. -/
theorem back {s : Su} (hs : chkS s = 0) : parseS (textS s) = (s, 0, 0) := by
  have h := chkS_good hs
  have hl := text_len h
  unfold parseS
  rw [if_neg (by omega)]
  unfold textS
  rw [split_lines fun l hm => by
    obtain ⟨ws, hw, rfl⟩ := List.mem_map.1 hm
    exact join_no10 (lineB h ws hw).2]
  unfold wordsS
  rw [List.map_append, List.map_append, List.map_append, List.append_assoc, List.append_assoc, List.append_assoc]
  rw [back_ps (MC.chk_good h.ps) s.ps [] _ 0 Su.none (fun _ h => h) rfl]
  rw [back_bs (MR.chk_good h.bs) s.bs [] _ _ _ (fun _ h => h) rfl]
  rw [back_cs h s.cs [] _ _ { Su.none with ps := [] ++ s.ps, bs := [] ++ s.bs } (fun _ h => h) rfl rfl]
  rw [back_as h s.as_ [] _ _ { Su.none with ps := [] ++ s.ps, bs := [] ++ s.bs, cs := [] ++ s.cs } (fun _ h => h) rfl rfl]
  rw [lines_empty]
  exact lines_end hs
end Go.Proofs.YtigfgeanofccgaaGreatDoor.MU
namespace Go.Proofs.YtigfgeanofccgaaGreatDoor.MU
open MC (Pr)
open MR (Bd)
theorem of_fU (g : Int) (L : List Pr) (k : Nat) : 0 ≤ MC.of (fU g) L k := by
  unfold MC.of
  cases L[k]? with
  | none => exact Int.le_refl _
  | some p => show 0 ≤ fU g p; unfold fU; split <;> omega
theorem sumG_le {g : Int} {L : List Pr} {b c : List Int} (hL : MC.chkL L = 0) (hb : MB.okB b = true) (hc : MB.okB c = true) (hl : L.length ≤ 6) (h : ∀ j, j < 6 → MB.at_ c j ≤ MB.at_ b j) : MC.sumG (fU g) L c ≤ MC.sumG (fU g) L b := by
  rw [MC.sumG_yes hL hc, MC.sumG_yes hL hb]
  exact sumK_le (of_fU g L) _ fun j hj => h j (by omega)
theorem allow_le {s : Su} {i : Nat} {b c : List Int} (h : allowE s i b = 0) (hc : MB.okB c = true) (hle : ∀ j, j < 6 → MB.at_ c j ≤ MB.at_ b j) : allowE s i c = 0 := by
  obtain ⟨h1, h2, h3, h4, h5⟩ := allowE_zero h
  have hG := chkS_good h1
  have h6 := (MC.chk_good hG.ps).few
  refine allowE_ok h1 h2 hc (fun k hk => ?_) fun k hk => ?_
  · have := h4 k hk
    have hl := hle k hk
    unfold ruleB at this ⊢
    simp only [Bool.or_eq_false_iff, Bool.and_eq_false_iff, decide_eq_false_iff_not] at this ⊢
    refine ⟨by omega, ?_⟩
    rcases this.2 with g | g
    · exact .inl g
    · exact .inr (by omega)
  · have := h5 k hk
    unfold capB at this ⊢
    cases e : s.cs[k]? with
    | none => rfl
    | some d =>
      rw [e] at this
      simp only at this ⊢
      rw [Bool.and_eq_false_iff] at this ⊢
      rcases this with g | g
      · exact .inl g
      · have hs := sumG_le (g := d.group) hG.ps h3 hc h6 hle
        rw [decide_eq_false_iff_not] at g ⊢
        exact .inr (by omega)
/-- m lies within l, bundle by bundle. -/
structure Less (m l : List (List Int)) : Prop where
  len : m.length = l.length
  ok : ∀ i, i < m.length → MB.okB (m.getD i []) = true
  le : ∀ i, i < m.length → ∀ j, j < 6 → MB.at_ (m.getD i []) j ≤ MB.at_ (l.getD i []) j
theorem totK_le {m l : List (List Int)} (h : Less m l) {k : Nat} (hk : k < 6) : ∀ n, n ≤ m.length → totK m k n ≤ totK l k n
  | 0, _ => Int.le_refl _
  | n + 1, hn => by
    have h1 := totK_le h hk n (by omega)
    have h2 := h.le n (by omega) k hk
    rw [totK, totK]; omega
theorem outK_le {s : Su} {m l : List (List Int)} (h : Less m l) {k : Nat} (hk : k < 6) : ∀ n, n ≤ m.length → outK s m k n ≤ outK s l k n
  | 0, _ => Int.le_refl _
  | n + 1, hn => by
    have h1 := outK_le (s := s) h hk n (by omega)
    have h2 := h.le n (by omega) k hk
    rw [outK, outK]
    split <;> omega
theorem shrink {s : Su} {m l : List (List Int)} (h : feasE s l = 0) (hm : Less m l) : feasE s m = 0 := by
  obtain ⟨h1, h2, h3, h4⟩ := feasE_zero h
  have h6 := (MC.chk_good (chkS_good h1).ps).few
  have hm2 : m.length = s.bs.length := hm.len.trans h2
  have e3 : NoE (eachE s m) m.length := fun i hi => allow_le (h3 i (by rw [← hm.len]; exact hi)) (hm.ok i hi) (hm.le i hi)
  rw [feasE_over h1 hm2 e3]
  refine firstE_zero.2 fun k hk => ?_
  have := h4 k hk
  unfold overE at this ⊢
  have t := totK_le hm (k := k) (by omega) m.length (Nat.le_refl _)
  have o := outK_le (s := s) hm (k := k) (by omega) m.length (Nat.le_refl _)
  rw [← hm.len] at this
  split at this
  · cases this
  · rw [if_neg (by omega)]
end Go.Proofs.YtigfgeanofccgaaGreatDoor.MU
namespace Go.Proofs.YtigfgeanofccgaaGreatDoor.MU
open MC (Pr)
open MR (Bd)
open Go.RowKit
/-- The set-aside of product k among the first n. -/
def asideK (s : Su) (k n : Nat) : Option As := (s.as_.take n).find? fun a => decide (a.product = (k : Int))
def openV (s : Su) (k n : Nat) : Int := match asideK s k n with
  | some a => MB.at_ (MC.supB s.ps) k - a.units
  | none => MB.at_ (MC.supB s.ps) k
def classV (s : Su) (k n : Nat) : Int := match asideK s k n with
  | some a => a.cls
  | none => 0
theorem asideK_zero (s : Su) (k : Nat) : asideK s k 0 = none := rfl
theorem asideK_step {s : Su} {k n : Nat} {a : As} (h : s.as_[n]? = some a) : asideK s k (n + 1) = (asideK s k n).or (if a.product = (k : Int) then some a else none) := by
  unfold asideK
  rw [List.take_add_one, h, List.find?_append]
  by_cases g : a.product = (k : Int)
  · rw [if_pos g]; simp [g]
  · rw [if_neg g]; simp [g]
theorem asideK_mem {s : Su} {k n : Nat} {a : As} (h : asideK s k n = some a) : a.product = (k : Int) ∧ ∃ j, j < n ∧ s.as_[j]? = some a := by
  unfold asideK at h
  refine ⟨by simpa using List.find?_some h, ?_⟩
  obtain ⟨j, hj, e⟩ := List.mem_iff_getElem.1 (List.mem_of_find?_eq_some h)
  rw [List.length_take] at hj
  refine ⟨j, by omega, ?_⟩
  rw [List.getElem_take] at e
  rw [List.getElem?_eq_getElem (by omega), e]
theorem asideK_none {s : Su} (h : GoodS s) {n : Nat} {a : As} (ha : s.as_[n]? = some a) {k : Nat} (hk : a.product = (k : Int)) : asideK s k n = none := by
  cases e : asideK s k n with
  | none => rfl
  | some b =>
    obtain ⟨h1, j, hj, hb⟩ := asideK_mem e
    exact absurd (h1.trans hk.symm) (h.apart j n b a hj hb ha)
theorem openV_step {s : Su} (h : GoodS s) {n k : Nat} {a : As} (ha : s.as_[n]? = some a) : openV s k (n + 1) = if a.product = (k : Int) then openV s k n - a.units else openV s k n := by
  unfold openV
  rw [asideK_step ha]
  by_cases g : a.product = (k : Int)
  · rw [if_pos g, if_pos g, asideK_none h ha g]; rfl
  · rw [if_neg g, if_neg g, Option.or_none]
theorem classV_step {s : Su} (h : GoodS s) {n k : Nat} {a : As} (ha : s.as_[n]? = some a) : classV s k (n + 1) = if a.product = (k : Int) then a.cls else classV s k n := by
  unfold classV
  rw [asideK_step ha]
  by_cases g : a.product = (k : Int)
  · rw [if_pos g, if_pos g, asideK_none h ha g]; rfl
  · rw [if_neg g, if_neg g, Option.or_none]
theorem openK_V {s : Su} (h : GoodS s) : ∀ n, n ≤ s.as_.length → ∀ j, MB.at_ (openK s n) j = openV s j n
  | 0, _, j => rfl
  | n + 1, hn, j => by
    have hp : s.as_[n]? = some s.as_[n] := List.getElem?_eq_getElem hn
    have hg := h.asides n _ hp
    have h6 := (MC.chk_good h.ps).few
    rw [openK_step hp, MC.at_set (by rw [openK_len]; omega), openK_V h n (by omega), openK_V h n (by omega), openV_step h hp]
    by_cases g : j = s.as_[n].product.toNat
    · rw [if_pos g, if_pos (by omega), g]
    · rw [if_neg g, if_neg (by omega)]
theorem classK_V {s : Su} (h : GoodS s) : ∀ n, n ≤ s.as_.length → ∀ j, MB.at_ (classK s n) j = classV s j n
  | 0, _, j => by
    show MB.at_ MC.Z6 j = 0
    unfold MB.at_ MC.Z6
    match j with
    | 0 | 1 | 2 | 3 | 4 | 5 => rfl
    | j + 6 => rfl
  | n + 1, hn, j => by
    have hp : s.as_[n]? = some s.as_[n] := List.getElem?_eq_getElem hn
    have hg := h.asides n _ hp
    have h6 := (MC.chk_good h.ps).few
    rw [classK_step hp, MC.at_set (by rw [classK_len]; omega), classK_V h n (by omega), classV_step h hp]
    by_cases g : j = s.as_[n].product.toNat
    · rw [if_pos g, if_pos (by omega)]
    · rw [if_neg g, if_neg (by omega)]
/-- The open units that the program has reckoned of the first k products. -/
def openP (s : Su) (k : Nat) : List Int := mapB fun j => if j < k then openV s j s.as_.length else 0
def classP (s : Su) (k : Nat) : List Int := mapB fun j => if j < k then classV s j s.as_.length else 0
theorem openP_zero (s : Su) : openP s 0 = [0, 0, 0, 0, 0, 0] := by unfold openP mapB; simp
theorem classP_zero (s : Su) : classP s 0 = [0, 0, 0, 0, 0, 0] := by unfold classP mapB; simp
theorem mapB_len (F : Nat → Int) : (mapB F).length = 6 := rfl
theorem mapB_set {F : Nat → Int} {k : Nat} (hk : k < 6) {v : Int} {G : Nat → Int} (hv : G k = v) (ho : ∀ j, j < 6 → j ≠ k → G j = F j) : (mapB F).set k v = mapB G := by
  refine MB.ext6 (by rw [List.length_set]; rfl) rfl fun j hj => ?_
  rw [MC.at_set (by rw [mapB_len]; exact hk), mapB_at _ hj, mapB_at _ hj]
  by_cases g : j = k
  · rw [if_pos g, g, hv]
  · rw [if_neg g, ho j hj g]
theorem openP_step {s : Su} {k : Nat} (hk : k < 6) {v : Int} (hv : openV s k s.as_.length = v) : (openP s k).set k v = openP s (k + 1) := by
  refine mapB_set hk (by rw [if_pos (by omega), hv]) fun j _ hj => ?_
  by_cases g : j < k
  · rw [if_pos g, if_pos (by omega)]
  · rw [if_neg g, if_neg (by omega)]
theorem classP_step {s : Su} {k : Nat} (hk : k < 6) {v : Int} (hv : classV s k s.as_.length = v) : (classP s k).set k v = classP s (k + 1) := by
  refine mapB_set hk (by rw [if_pos (by omega), hv]) fun j _ hj => ?_
  by_cases g : j < k
  · rw [if_pos g, if_pos (by omega)]
  · rw [if_neg g, if_neg (by omega)]
/-- A product without a set-aside is passed over in the classes. -/
theorem classP_skip {s : Su} {k : Nat} (hk : k < 6) (hv : classV s k s.as_.length = 0) : classP s k = classP s (k + 1) := by
  refine MB.ext6 rfl rfl fun j hj => ?_
  unfold classP
  rw [mapB_at _ hj, mapB_at _ hj]
  by_cases g : j < k
  · rw [if_pos g, if_pos (by omega)]
  · rw [if_neg g]
    by_cases g2 : j = k
    · subst g2; rw [if_pos (by omega), hv]
    · rw [if_neg (by omega)]
theorem aside_far {s : Su} (h : GoodS s) {j : Nat} (hj : s.ps.length ≤ j) (n : Nat) : asideK s j n = none := by
  cases e : asideK s j n with
  | none => rfl
  | some b =>
    obtain ⟨h1, i, _, hb⟩ := asideK_mem e
    have := (h.asides i b hb).1
    omega
theorem openP_end {s : Su} (hs : chkS s = 0) : openP s s.ps.length = openB s := by
  have h := chkS_good hs
  have h6 := (MC.chk_good h.ps).few
  unfold openB
  rw [if_pos hs]
  refine MB.ext6 rfl (openK_len _ _) fun j hj => ?_
  unfold openP
  rw [mapB_at _ hj, openK_V h _ (Nat.le_refl _)]
  by_cases g : j < s.ps.length
  · rw [if_pos g]
  · rw [if_neg g]
    unfold openV
    rw [aside_far h (by omega), MC.supB_rest (by omega)]
theorem classP_end {s : Su} (hs : chkS s = 0) : classP s s.ps.length = classB s := by
  have h := chkS_good hs
  unfold classB
  rw [if_pos hs]
  refine MB.ext6 rfl (classK_len _ _) fun j hj => ?_
  unfold classP
  rw [mapB_at _ hj, classK_V h _ (Nat.le_refl _)]
  by_cases g : j < s.ps.length
  · rw [if_pos g]
  · rw [if_neg g]
    unfold classV
    rw [aside_far h (by omega)]
/-- What the search for product k's set-aside finds. -/
theorem found_open {s : Su} (h : GoodS s) {k n : Nat} {a : As} (ha : s.as_[n]? = some a) (hk : a.product = (k : Int)) : asideK s k s.as_.length = some a := by
  have hl := (List.getElem?_eq_some_iff.1 ha).1
  cases e : asideK s k s.as_.length with
  | none =>
    unfold asideK at e
    rw [List.take_length, List.find?_eq_none] at e
    exact absurd (by simpa using hk) (e a (List.mem_of_getElem? ha))
  | some b =>
    obtain ⟨h1, j, hj, hb⟩ := asideK_mem e
    rcases Nat.lt_trichotomy j n with g | g | g
    · exact absurd (h1.trans hk.symm) (h.apart j n b a g hb ha)
    · subst g; rw [ha] at hb; exact hb.symm
    · exact absurd (hk.trans h1.symm) (h.apart n j a b g ha hb)
theorem missed_open {s : Su} {k : Nat} (h : ∀ (j : Nat) (a : As), s.as_[j]? = some a → a.product ≠ (k : Int)) : asideK s k s.as_.length = none := by
  cases e : asideK s k s.as_.length with
  | none => rfl
  | some b =>
    obtain ⟨h1, j, _, hb⟩ := asideK_mem e
    exact absurd h1 (h j b hb)
theorem open_nonneg {s : Su} (hs : chkS s = 0) {j : Nat} (hj : j < 6) : 0 ≤ MB.at_ (openB s) j ∧ MB.at_ (openB s) j ≤ MB.at_ (MC.supB s.ps) j := by
  have h := chkS_good hs
  have h6 := (MC.chk_good h.ps).few
  have hr := MC.okB_at (MC.chk_good h.ps).supply_ok j
  unfold openB
  rw [if_pos hs, openK_V h _ (Nat.le_refl _)]
  unfold openV
  cases e : asideK s j s.as_.length with
  | none => exact ⟨hr.1, Int.le_refl _⟩
  | some a =>
    obtain ⟨h1, i, _, hb⟩ := asideK_mem e
    obtain ⟨h2, h3, h4, h5⟩ := h.asides i a hb
    have hp : s.ps[j]? = some s.ps[j] := List.getElem?_eq_getElem (by omega)
    have e1 : MC.of (·.supply) s.ps a.product.toNat = MB.at_ (MC.supB s.ps) j := by
      rw [h1, Int.toNat_natCast, MC.of_at hp, MC.supB_at hj hp]
    rw [e1] at h5
    simp only
    omega
/-- The part of a bundle of which a bidder of class own is an outsider. -/
def outB (c : List Int) (own : Int) (b : List Int) : List Int := mapB fun k => if MB.at_ c k = 0 ∨ MB.at_ c k = own then 0 else MB.at_ b k
theorem outB_in {c b : List Int} {own : Int} {k : Nat} (hk : k < 6) (h : MB.at_ c k = 0 ∨ MB.at_ c k = own) : MB.at_ (outB c own b) k = 0 := by
  unfold outB; rw [mapB_at _ hk, if_pos h]
theorem outB_out {c b : List Int} {own : Int} {k : Nat} (hk : k < 6) (h : ¬ (MB.at_ c k = 0 ∨ MB.at_ c k = own)) : MB.at_ (outB c own b) k = MB.at_ b k := by
  unfold outB; rw [mapB_at _ hk, if_neg h]
theorem within_no {a b : List Int} (h : MB.withinB a b 6 = false) : ∃ k, k < 6 ∧ MB.at_ b k < MB.at_ a k := by
  apply Classical.byContradiction
  intro g
  have : MB.withinB a b 6 = true := (MB.withinB_iff a b 6).2 fun j hj => by
    apply Classical.byContradiction
    intro g2
    exact g ⟨j, hj, by omega⟩
  rw [h] at this; cases this
/-- The three questions of the program say what the reference's two loops say. -/
theorem allow_sup {s : Su} {i : Nat} {b : List Int} (h1 : chkS s = 0) (h2 : i < s.bs.length) (h3 : MB.okB b = true) (h : MB.withinB b (MC.supB s.ps) 6 = false) : allowE s i b = 14 := by
  obtain ⟨k, hk, g⟩ := within_no h
  exact allowE_rule h1 h2 h3 hk (by unfold ruleB; rw [decide_eq_true g]; rfl)
theorem allow_out {s : Su} {i : Nat} {b : List Int} (h1 : chkS s = 0) (h2 : i < s.bs.length) (h3 : MB.okB b = true) (h : MB.withinB (outB (classB s) (clsOf s i) b) (openB s) 6 = false) : allowE s i b = 14 := by
  obtain ⟨k, hk, g⟩ := within_no h
  by_cases hc : MB.at_ (classB s) k = 0 ∨ MB.at_ (classB s) k = clsOf s i
  · rw [outB_in hk hc] at g
    have := (open_nonneg h1 hk).1
    omega
  · rw [outB_out hk hc] at g
    have c1 : MB.at_ (classB s) k ≠ 0 := fun e => hc (.inl e)
    have c2 : MB.at_ (classB s) k ≠ clsOf s i := fun e => hc (.inr e)
    exact allowE_rule h1 h2 h3 hk (by unfold ruleB; rw [decide_eq_true g, decide_eq_true c1, decide_eq_true c2]; simp)
theorem allow_rules {s : Su} {i : Nat} {b : List Int} (h : MB.withinB b (MC.supB s.ps) 6 = true) (h' : MB.withinB (outB (classB s) (clsOf s i) b) (openB s) 6 = true) : ∀ k, k < 6 → ruleB s i b k = false := by
  intro k hk
  have g := (MB.withinB_iff _ _ _).1 h k hk
  have g' := (MB.withinB_iff _ _ _).1 h' k hk
  unfold ruleB
  rw [decide_eq_false (by omega), Bool.false_or]
  by_cases hc : MB.at_ (classB s) k = 0 ∨ MB.at_ (classB s) k = clsOf s i
  · rcases hc with e | e
    · rw [decide_eq_false (by simpa using e)]; rfl
    · rw [show decide (MB.at_ (classB s) k ≠ clsOf s i) = false from decide_eq_false (by simpa using e), Bool.and_false]; rfl
  · rw [outB_out hk hc] at g'
    rw [show decide (MB.at_ (openB s) k < MB.at_ b k) = false from decide_eq_false (by omega), Bool.and_false]
theorem allow_cap {s : Su} {i : Nat} {b : List Int} (h1 : chkS s = 0) (h2 : i < s.bs.length) (h3 : MB.okB b = true) (hr : ∀ k, k < 6 → ruleB s i b k = false) {k : Nat} (hk : k < s.cs.length) (hn : ∀ j, j < k → capB s i b j = false) (hc : capB s i b k = true) : allowE s i b = 14 := by
  rw [allowE_caps h1 h2 h3 hr]
  have e : capRE s i b k = 14 := by unfold capRE; rw [if_pos hc]
  rw [NoE.stop (f := capRE s i b) (k := k) (fun j hj => by unfold capRE; rw [hn j hj]; rfl) (by rw [e]; decide) hk, e]
/-- All the bundles together, as the program adds them up. -/
def sumB (l : List (List Int)) (n : Nat) : List Int := mapB fun k => totK l k n
def souB (s : Su) (l : List (List Int)) (n : Nat) : List Int := mapB fun k => outK s l k n
theorem sumB_zero (l : List (List Int)) : sumB l 0 = [0, 0, 0, 0, 0, 0] := rfl
theorem souB_zero (s : Su) (l : List (List Int)) : souB s l 0 = [0, 0, 0, 0, 0, 0] := rfl
structure Bnd (l : List (List Int)) (m : Nat) : Prop where
  rng : ∀ i, i < m → ∀ k, k < 6 → 0 ≤ MB.at_ (l.getD i []) k ∧ MB.at_ (l.getD i []) k ≤ 4
theorem totK_rng {l : List (List Int)} {m : Nat} (h : Bnd l m) {k : Nat} (hk : k < 6) : ∀ n, n ≤ m → 0 ≤ totK l k n ∧ totK l k n ≤ 4 * n
  | 0, _ => ⟨Int.le_refl _, Int.le_refl _⟩
  | n + 1, hn => by
    have h1 := totK_rng h hk n (by omega)
    have h2 := h.rng n (by omega) k hk
    rw [totK]
    push_cast
    omega
theorem outK_rng {s : Su} {l : List (List Int)} {m : Nat} (h : Bnd l m) {k : Nat} (hk : k < 6) : ∀ n, n ≤ m → 0 ≤ outK s l k n ∧ outK s l k n ≤ 4 * n
  | 0, _ => ⟨Int.le_refl _, Int.le_refl _⟩
  | n + 1, hn => by
    have h1 := outK_rng (s := s) h hk n (by omega)
    have h2 := h.rng n (by omega) k hk
    rw [outK]
    push_cast
    split <;> omega
theorem wrap_small {x : Int} (h : -1000000 ≤ x ∧ x ≤ 1000000) : wrap64 x = x := by unfold wrap64; omega
theorem mapB_congr {F G : Nat → Int} (h : ∀ k, k < 6 → F k = G k) : mapB F = mapB G := MB.ext6 rfl rfl fun j hj => by rw [mapB_at _ hj, mapB_at _ hj, h j hj]
theorem sumB_step {l : List (List Int)} {m n : Nat} {b : List Int} (h : Bnd l m) (hm : m ≤ 1000) (hn : n < m) (hb : l[n]? = some b) : addB (sumB l n) b = sumB l (n + 1) := by
  refine mapB_congr fun k hk => ?_
  have h1 := totK_rng h hk n (by omega)
  have h2 := h.rng n hn k hk
  rw [List.getD_eq_getElem?_getD, hb] at h2
  unfold sumB
  rw [mapB_at _ hk, totK_at hb]
  exact wrap_small (by simp at h2; omega)
theorem souB_step {s : Su} {l : List (List Int)} {m n : Nat} {b : List Int} (h : Bnd l m) (hm : m ≤ 1000) (hn : n < m) (hb : l[n]? = some b) : addB (souB s l n) (outB (classB s) (clsOf s n) b) = souB s l (n + 1) := by
  refine mapB_congr fun k hk => ?_
  have h1 := outK_rng (s := s) h hk n (by omega)
  have h2 := h.rng n hn k hk
  rw [List.getD_eq_getElem?_getD, hb] at h2
  unfold souB
  rw [mapB_at _ hk]
  by_cases hc : MB.at_ (classB s) k ≠ 0 ∧ MB.at_ (classB s) k ≠ clsOf s n
  · rw [outK_yes hb hc, outB_out hk (by rintro (e | e); exact hc.1 e; exact hc.2 e)]
    exact wrap_small (by simp at h2; omega)
  · rw [outK_no hc, outB_in hk (by
      by_cases e : MB.at_ (classB s) k = 0
      · exact .inl e
      · exact .inr (Classical.byContradiction fun e2 => hc ⟨e, e2⟩)), Int.add_zero]
    exact wrap_small (by omega)
theorem each_rng {s : Su} {l : List (List Int)} (h : NoE (eachE s l) l.length) : Bnd l l.length := ⟨fun i hi k _ => by
  have := allowE_zero (h i hi)
  exact MC.okB_at this.2.2.1 k⟩
/-- Beyond the products nothing is sold. -/
theorem tot_far {s : Su} {l : List (List Int)} (h : NoE (eachE s l) l.length) {k : Nat} (hk : k < 6) (hf : s.ps.length ≤ k) : ∀ n, n ≤ l.length → totK l k n = 0 ∧ outK s l k n = 0
  | 0, _ => ⟨rfl, rfl⟩
  | n + 1, hn => by
    obtain ⟨h1, h2⟩ := tot_far h hk hf n (by omega)
    obtain ⟨_, _, h3, h4, _⟩ := allowE_zero (h n (by omega))
    have h5 := h4 k hk
    have h6 := (MC.okB_at h3 k).1
    unfold ruleB at h5
    rw [Bool.or_eq_false_iff, decide_eq_false_iff_not, MC.supB_rest hf] at h5
    have h7 : MB.at_ (l.getD n []) k = 0 := by omega
    rw [totK, outK, h1, h2, h7]
    refine ⟨rfl, ?_⟩
    split <;> rfl
theorem of_sup {s : Su} {k : Nat} (hk : k < 6) : MC.of (·.supply) s.ps k = MB.at_ (MC.supB s.ps) k := by
  by_cases g : k < s.ps.length
  · have hp : s.ps[k]? = some s.ps[k] := List.getElem?_eq_getElem g
    rw [MC.of_at hp, MC.supB_at hk hp]
  · rw [MC.supB_rest (by omega)]
    unfold MC.of
    rw [List.getElem?_eq_none (by omega)]; rfl
theorem feas_over {s : Su} {l : List (List Int)} (h : chkS s = 0) (h1 : l.length = s.bs.length) (h2 : NoE (eachE s l) l.length) (hb : MB.withinB (sumB l l.length) (MC.supB s.ps) 6 = false ∨ MB.withinB (souB s l l.length) (openB s) 6 = false) : feasE s l = 14 := by
  have h6 := (MC.chk_good (chkS_good h).ps).few
  rw [feasE_over h h1 h2]
  have key : ∃ k, k < s.ps.length ∧ overE s l k ≠ 0 := by
    rcases hb with hb | hb
    · obtain ⟨k, hk, g⟩ := within_no hb
      unfold sumB at g
      rw [mapB_at _ hk] at g
      by_cases hf : k < s.ps.length
      · exact ⟨k, hf, by unfold overE; rw [if_pos (.inl (by rw [of_sup hk]; exact g))]; decide⟩
      · rw [(tot_far h2 hk (by omega) _ (Nat.le_refl _)).1, MC.supB_rest (by omega)] at g
        omega
    · obtain ⟨k, hk, g⟩ := within_no hb
      unfold souB at g
      rw [mapB_at _ hk] at g
      by_cases hf : k < s.ps.length
      · exact ⟨k, hf, by unfold overE; rw [if_pos (.inr g)]; decide⟩
      · rw [(tot_far h2 hk (by omega) _ (Nat.le_refl _)).2] at g
        have := (open_nonneg h hk).1
        omega
  obtain ⟨k, hk, hne⟩ := key
  have hz : firstE (overE s l) s.ps.length ≠ 0 := fun e => hne (firstE_zero.1 e k hk)
  obtain ⟨j, _, _, h3, h4⟩ := firstE_some hz
  rw [h4]
  unfold overE at h3 ⊢
  split at h3
  · next g => rw [if_pos g]
  · exact absurd rfl h3
theorem feas_fine {s : Su} {l : List (List Int)} (h : chkS s = 0) (h1 : l.length = s.bs.length) (h2 : NoE (eachE s l) l.length) (ha : MB.withinB (sumB l l.length) (MC.supB s.ps) 6 = true) (hb : MB.withinB (souB s l l.length) (openB s) 6 = true) : feasE s l = 0 := by
  have h6 := (MC.chk_good (chkS_good h).ps).few
  rw [feasE_over h h1 h2]
  refine firstE_zero.2 fun k hk => ?_
  have g := (MB.withinB_iff _ _ _).1 ha k (by omega)
  have g' := (MB.withinB_iff _ _ _).1 hb k (by omega)
  unfold sumB at g
  unfold souB at g'
  rw [mapB_at _ (by omega)] at g g'
  unfold overE
  rw [if_neg]
  rw [of_sup (by omega)]
  omega
/-- What is left after the first n bundles. -/
def leftB (s : Su) (l : List (List Int)) (n : Nat) : List Int := mapB fun k => MB.at_ (MC.supB s.ps) k - totK l k n
theorem leftB_zero (s : Su) (l : List (List Int)) : leftB s l 0 = MC.supB s.ps := by
  refine MB.ext6 rfl (MC.supB_length _) fun j hj => ?_
  unfold leftB
  rw [mapB_at _ hj, totK]; omega
theorem leftB_step {s : Su} {l : List (List Int)} {m n : Nat} {b : List Int} (hs : chkS s = 0) (h : Bnd l m) (hm : m ≤ 1000) (hn : n < m) (hb : l[n]? = some b) : subB (leftB s l n) b = leftB s l (n + 1) := by
  refine mapB_congr fun k hk => ?_
  have h0 := MC.okB_at (MC.chk_good (chkS_good hs).ps).supply_ok k
  have h1 := totK_rng h hk n (by omega)
  have h2 := h.rng n hn k hk
  rw [List.getD_eq_getElem?_getD, hb] at h2
  unfold leftB
  rw [mapB_at _ hk, totK_at hb, wrap_small (by simp at h2; omega)]
  omega
theorem leftB_end {s : Su} {l : List (List Int)} (h : feasE s l = 0) : leftB s l l.length = remB s l := by
  unfold remB
  rw [if_pos h]
  rfl
end Go.Proofs.YtigfgeanofccgaaGreatDoor.MU
