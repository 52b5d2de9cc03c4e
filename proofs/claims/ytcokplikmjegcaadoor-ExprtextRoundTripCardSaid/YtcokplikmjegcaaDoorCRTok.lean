/- CRTokA, CRTok, joined: no claim of its own. -/
import Derived.Test.YtcokplikmjegcaaDoorJU
import Derived.Test.YtcokplikmjegcaaDoorJI
namespace Go.Proofs.YtcokplikmjegcaaDoor
open Go.RowKit
open MC (Pr)
theorem Tks.reads' {w : World} {A : Option Addr} {n c : Nat} {ts : List Tk} (h : Tks w A n c ts) {k : Nat} {t : Tk} (ht : ts[k]? = some t) : k < n := by
  have := (List.getElem?_eq_some_iff.1 ht).1
  rw [h.len] at this; exact this
/-- How many tokens were consumed. -/
def used (ts : List Tk) (R : List Int × List Tk × Int) : Nat := if R.2.2 = 0 then ts.length - R.2.1.length else 0
/-- What the reference's Tokens answers. -/
def tokV (ts : List Tk) (R : List Int × List Tk × Int) : Value := .tuple #[aggB R.1, .int .i64 (used ts R : Nat), .int .i64 R.2.2]
theorem ret_bad {ts : List Tk} {R : List Int × List Tk × Int} {er : Int} (h : R = (MC.Z6, [], er)) (he : er ≠ 0) : Ending.returned (.tuple #[.agg #[.int .i64 0, .int .i64 0, .int .i64 0, .int .i64 0, .int .i64 0, .int .i64 0], .int .i64 0, .int .i64 er]) = .returned (tokV ts R) := by
  subst h
  have hu : used ts (MC.Z6, [], er) = 0 := if_neg he
  unfold tokV
  rw [hu]; rfl
theorem ret_good {ts us : List Tk} {R : List Int × List Tk × Int} {a b c d e f : Int} {k : Nat} (h : R = ([a, b, c, d, e, f], us, 0)) (hk : ts.length - us.length = k) : Ending.returned (.tuple #[.agg #[.int .i64 a, .int .i64 b, .int .i64 c, .int .i64 d, .int .i64 e, .int .i64 f], .int .i64 (k : Int), .int .i64 0]) = .returned (tokV ts R) := by
  subst h
  have hu : used ts ([a, b, c, d, e, f], us, 0) = k := by unfold used; rw [if_pos rfl]; exact hk
  unfold tokV
  rw [hu]; rfl
/-- Where the loop stands. -/
structure Rl (L : List Pr) (ts : List Tk) (T : List Int × List Tk × Int) (k : Nat) (xs : List Int) : Prop where
  fin : T = MC.elems L (ts.length + 1) xs (ts.drop k)
  le : k ≤ ts.length
theorem Rl.bad {L : List Pr} {ts : List Tk} {T : List Int × List Tk × Int} {k : Nat} {xs : List Int} (h : Rl L ts T k xs) {er : Int} (he : MC.elE L xs (ts.drop k) = er) (h0 : er ≠ 0) : T = (MC.Z6, [], er) := by
  rw [h.fin, MC.elems_bad (by rw [he]; exact h0), he]
theorem drop_at (ts : List Tk) (k j : Nat) : (ts.drop k)[j]? = ts[k + j]? := by rw [List.getElem?_drop]
theorem el_none {L : List Pr} {ts : List Tk} {k : Nat} {xs : List Int} (h : ts[k]? = none) : MC.elE L xs (ts.drop k) = 1 := by unfold MC.elE; rw [drop_at, Nat.add_zero, h]
theorem el_kind {L : List Pr} {ts : List Tk} {k : Nat} {xs : List Int} {t : Tk} (h : ts[k]? = some t) (hk : t.kind ≠ 1) : MC.elE L xs (ts.drop k) = 2 := by unfold MC.elE; rw [drop_at, Nat.add_zero, h]; simp [hk]
theorem el_lack {L : List Pr} {ts : List Tk} {k : Nat} {xs : List Int} {t : Tk} (h : ts[k]? = some t) (hk : t.kind = 1) (hf : MC.findL L t.text = none) : MC.elE L xs (ts.drop k) = 6 := by unfold MC.elE; rw [drop_at, Nat.add_zero, h]; simp [hk, hf]
theorem el_twice {L : List Pr} {ts : List Tk} {k i : Nat} {xs : List Int} {t : Tk} (h : ts[k]? = some t) (hk : t.kind = 1) (hf : MC.findL L t.text = some i) (hz : MB.at_ xs i ≠ 0) : MC.elE L xs (ts.drop k) = 7 := by unfold MC.elE; rw [drop_at, Nat.add_zero, h]; simp [hk, hf, hz]
theorem el_colon {L : List Pr} {ts : List Tk} {k i : Nat} {xs : List Int} {t : Tk} (h : ts[k]? = some t) (hk : t.kind = 1) (hf : MC.findL L t.text = some i) (hz : MB.at_ xs i = 0) (hm : MC.isO 58 ts[k + 1]? = false) : MC.elE L xs (ts.drop k) = MC.wrongE ts[k + 1]? := by
  unfold MC.elE; rw [drop_at, Nat.add_zero, h, drop_at]; simp [hk, hf, hz, hm]
theorem el_number {L : List Pr} {ts : List Tk} {k i : Nat} {xs : List Int} {t : Tk} (h : ts[k]? = some t) (hk : t.kind = 1) (hf : MC.findL L t.text = some i) (hz : MB.at_ xs i = 0) (hm : MC.isO 58 ts[k + 1]? = true) (hv : ∀ v, ts[k + 2]? = some v → v.kind ≠ 2) : MC.elE L xs (ts.drop k) = MC.wrongE ts[k + 2]? := by
  unfold MC.elE; rw [drop_at, Nat.add_zero, h, drop_at, drop_at]
  cases e : ts[k + 2]? with
  | none => simp [hk, hf, hz, hm, MC.wrongE]
  | some v => simp [hk, hf, hz, hm, MC.wrongE, hv v e]
theorem el_range {L : List Pr} {ts : List Tk} {k i : Nat} {xs : List Int} {t v : Tk} (h : ts[k]? = some t) (hk : t.kind = 1) (hf : MC.findL L t.text = some i) (hz : MB.at_ xs i = 0) (hm : MC.isO 58 ts[k + 1]? = true) (hv : ts[k + 2]? = some v) (h2 : v.kind = 2) (ho : v.value < 1 ∨ 4 < v.value) : MC.elE L xs (ts.drop k) = 4 := by
  unfold MC.elE; rw [drop_at, Nat.add_zero, h, drop_at, drop_at]; simp [hk, hf, hz, hm, hv, h2]; omega
theorem el_tail {L : List Pr} {ts : List Tk} {k i : Nat} {xs : List Int} {t v : Tk} (h : ts[k]? = some t) (hk : t.kind = 1) (hf : MC.findL L t.text = some i) (hz : MB.at_ xs i = 0) (hm : MC.isO 58 ts[k + 1]? = true) (hv : ts[k + 2]? = some v) (h2 : v.kind = 2) (h1 : 1 ≤ v.value) (h4 : v.value ≤ 4) :
    MC.elE L xs (ts.drop k) = (if MC.isO 125 ts[k + 3]? = true then 0 else if MC.isO 44 ts[k + 3]? = true then 0 else MC.wrongE ts[k + 3]?) ∧ MC.elB L xs (ts.drop k) = xs.set i v.value := by
  constructor
  · unfold MC.elE; rw [drop_at, Nat.add_zero, h, drop_at, drop_at, drop_at]
    have hno : ¬ (v.value < 1 ∨ 4 < v.value) := by omega
    simp only [hk, hf, hz, hm, hv, h2, hno]
    simp
  · unfold MC.elB; rw [drop_at, Nat.add_zero, drop_at, h, hv]; simp [hf]
theorem isO_lt {ts : List Tk} {k : Nat} {c : UInt8} (h : MC.isO c ts[k]? = true) : k < ts.length := by
  rcases Nat.lt_or_ge k ts.length with g | g
  · exact g
  · rw [List.getElem?_eq_none g] at h; cases h
theorem Rl.end_ {L : List Pr} {ts : List Tk} {T : List Int × List Tk × Int} {k : Nat} {xs ys : List Int} (h : Rl L ts T k xs) (he : MC.elE L xs (ts.drop k) = 0) (hb : MC.elB L xs (ts.drop k) = ys) (h1 : MC.isO 125 ts[k + 3]? = true) : T = (ys, ts.drop (k + 4), 0) := by
  rw [h.fin, MC.elems_end he (by rw [drop_at]; exact h1), hb, List.drop_drop]
theorem Rl.on {L : List Pr} {ts : List Tk} {T : List Int × List Tk × Int} {k : Nat} {xs ys : List Int} (h : Rl L ts T k xs) (he : MC.elE L xs (ts.drop k) = 0) (hb : MC.elB L xs (ts.drop k) = ys) (h1 : MC.isO 125 ts[k + 3]? = false) (h2 : MC.isO 44 ts[k + 3]? = true) : Rl L ts T (k + 4) ys := by
  have hl := isO_lt h2
  refine ⟨?_, by omega⟩
  rw [h.fin, MC.elems_on he (by rw [drop_at]; exact h1), hb, List.drop_drop]
  exact MC.elems_fuel L _ _ _ _ (by rw [List.length_drop]; omega) (by rw [List.length_drop]; omega)
end Go.Proofs.YtcokplikmjegcaaDoor
namespace Go.Proofs.YtcokplikmjegcaaDoor
open Go.RowKit
open MC (Pr)
end Go.Proofs.YtcokplikmjegcaaDoor
