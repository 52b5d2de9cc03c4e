/- The loop of Scan, and the reference's reading. Plain theorems, no claim of their own. -/
import Derived.Test.YtdlpolnnhhnecaaDoorCScn
namespace Go.Proofs.YtdlpolnnhhnecaaDoor
open MC (Pr)
/-- A list that has no empty name. -/
def NoEmpty (L : List Pr) : Prop := MC.findL L [] = none
theorem no_empty {L : List Pr} (h : MC.Good L) : NoEmpty L := MC.find_none fun p hp e => by
  obtain ⟨j, hj, e2⟩ := List.mem_iff_getElem.1 hp
  have := (h.each j p (by rw [List.getElem?_eq_getElem hj, e2])).1
  rw [e] at this
  cases this
theorem sc_dead {L : List Pr} (hL : NoEmpty L) {xs : List Int} {er : Int} (he : er ≠ 0) (ts : List Tk) : scE L xs ts er = (xs, [], er) := by
  have h1 : nmE ts er = er := by unfold nmE; rw [if_neg he]
  have h2 : nmT' ts er = [] := by unfold nmT'; rw [if_neg (by rw [h1]; exact he)]
  unfold scE
  rw [h2, hL, h1]
  simp only
  unfold flE; rw [if_neg he]
theorem wrong_ne (o : Option Tk) : MC.wrongE o ≠ 0 := by
  cases o with
  | none => show (1 : Int) ≠ 0; decide
  | some _ => show (2 : Int) ≠ 0; decide
/-- The error of one element. -/
theorem sc_err {L : List Pr} (hL : NoEmpty L) {xs : List Int} (ts : List Tk) : (scE L xs ts 0).2.2 = MC.elE3 L xs ts ∧ (MC.elE3 L xs ts ≠ 0 → (scE L xs ts 0).2.1 = []) ∧ (MC.elE3 L xs ts = 0 → scE L xs ts 0 = (MC.elB L xs ts, ts.drop 3, 0)) := by
  cases ts with
  | nil =>
    have h1 : nmE [] 0 = 1 := rfl
    have h2 : nmT' [] 0 = [] := rfl
    have h3 : MC.elE3 L xs [] = 1 := rfl
    have e : scE L xs [] 0 = (xs, [], 1) := by unfold scE; rw [h2, hL, h1]; rfl
    rw [e, h3]
    exact ⟨rfl, fun _ => rfl, fun h => absurd h (by decide)⟩
  | cons t r =>
    by_cases hk : t.kind = 1
    · have h1 : nmE (t :: r) 0 = 0 := by unfold nmE; rw [if_pos rfl]; simp [hk]
      have h2 : nmT' (t :: r) 0 = t.text := by unfold nmT'; rw [if_pos h1]; rfl
      have fin : ∀ (ys : List Int) (x : Int), x ≠ 0 → scE L xs (t :: r) 0 = (ys, [], x) → MC.elE3 L xs (t :: r) = x → (scE L xs (t :: r) 0).2.2 = MC.elE3 L xs (t :: r) ∧ (MC.elE3 L xs (t :: r) ≠ 0 → (scE L xs (t :: r) 0).2.1 = []) ∧ (MC.elE3 L xs (t :: r) = 0 → scE L xs (t :: r) 0 = (MC.elB L xs (t :: r), (t :: r).drop 3, 0)) := fun ys x hx h3 h4 => by
        rw [h3, h4]
        exact ⟨rfl, fun _ => rfl, fun h => absurd h hx⟩
      cases hf : MC.findL L t.text with
      | none => exact fin xs 6 (by decide) (by simp [scE, h2, hf, h1, flE]) (by simp [MC.elE3, hk, hf])
      | some k =>
        by_cases hz : MB.at_ xs k = 0
        · have hdead : ∀ x : Int, x ≠ 0 → amE ([] : List Tk) x = x ∧ amV ([] : List Tk) x = 0 := fun x hx => by
            have h : amE ([] : List Tk) x = x := by unfold amE; rw [if_neg hx]
            exact ⟨h, by unfold amV; rw [if_neg (by rw [h]; exact hx)]⟩
          have hfl : ∀ x : Int, x ≠ 0 → flE 4 x = x := fun x hx => by unfold flE; rw [if_neg hx]
          cases hm : MC.isO 58 r[0]? with
          | false =>
            have he : expE 58 r 0 = MC.wrongE r[0]? := by unfold expE; rw [if_pos rfl, hm, if_neg (by decide)]
            have hw := wrong_ne r[0]?
            obtain ⟨d1, d2⟩ := hdead _ hw
            exact fin (xs.set k 0) (MC.wrongE r[0]?) hw (by simp [scE, h2, hf, h1, hz, he, hw, d1, d2, hfl _ hw]) (by simp [MC.elE3, hk, hf, hz, hm])
          | true =>
            have he : expE 58 r 0 = 0 := by unfold expE; rw [if_pos rfl, hm, if_pos rfl]
            have e1 : (r.drop 1)[0]? = r[1]? := by rw [List.getElem?_drop]
            have hgo : ∀ (x v : Int), amE (r.drop 1) 0 = x → amV (r.drop 1) 0 = v → scE L xs (t :: r) 0 = if v = 0 then (xs.set k 0, [], flE 4 x) else (xs.set k v, if x = 0 then r.drop 2 else [], x) := fun x v hx hv => by
              subst hx; subst hv
              simp [scE, h2, hf, h1, hz, he]
            cases hv : r[1]? with
            | none =>
              have h : amE (r.drop 1) 0 = 1 := by unfold amE; rw [if_pos rfl, e1, hv]
              have h' : amV (r.drop 1) 0 = 0 := by unfold amV; rw [if_neg (by rw [h]; decide)]
              exact fin (xs.set k 0) 1 (by decide) (by rw [hgo _ _ h h', if_pos rfl]; rfl) (by simp [MC.elE3, hk, hf, hz, hm, hv])
            | some v =>
              by_cases h2k : v.kind = 2
              · by_cases hout : v.value < 0 ∨ 4 < v.value
                · have h : amE (r.drop 1) 0 = 4 := by unfold amE; rw [if_pos rfl, e1, hv]; simp only; rw [if_pos h2k, if_pos hout]
                  have h' : amV (r.drop 1) 0 = 0 := by unfold amV; rw [if_neg (by rw [h]; decide)]
                  exact fin (xs.set k 0) 4 (by decide) (by rw [hgo _ _ h h', if_pos rfl]; rfl) (by simp [MC.elE3, hk, hf, hz, hm, hv, h2k]; omega)
                · have h : amE (r.drop 1) 0 = 0 := by unfold amE; rw [if_pos rfl, e1, hv]; simp only; rw [if_pos h2k, if_neg hout]
                  have h' : amV (r.drop 1) 0 = v.value := by unfold amV; rw [if_pos h, e1, hv]; rfl
                  by_cases hv0 : v.value = 0
                  · exact fin (xs.set k 0) 4 (by decide) (by rw [hgo _ _ h h', if_pos hv0]; rfl) (by simp [MC.elE3, hk, hf, hz, hm, hv, h2k, hv0])
                  · have hB : MC.elB L xs (t :: r) = xs.set k v.value := by
                      unfold MC.elB
                      simp only [List.getElem?_cons_zero, List.getElem?_cons_succ, Option.map_some, Option.getD_some, hf, hv]
                    have hs : scE L xs (t :: r) 0 = (xs.set k v.value, r.drop 2, 0) := by rw [hgo _ _ h h', if_neg hv0, if_pos rfl]
                    have h3 : MC.elE3 L xs (t :: r) = 0 := by simp [MC.elE3, hk, hf, hz, hm, hv, h2k]; omega
                    rw [hs, h3, hB]
                    exact ⟨rfl, fun h => absurd rfl h, fun _ => rfl⟩
              · have h : amE (r.drop 1) 0 = 2 := by unfold amE; rw [if_pos rfl, e1, hv]; simp only; rw [if_neg h2k]
                have h' : amV (r.drop 1) 0 = 0 := by unfold amV; rw [if_neg (by rw [h]; decide)]
                exact fin (xs.set k 0) 2 (by decide) (by rw [hgo _ _ h h', if_pos rfl]; rfl) (by simp [MC.elE3, hk, hf, hz, hm, hv, h2k])
        · exact fin xs 7 (by decide) (by simp [scE, h2, hf, h1, hz, flE]) (by simp [MC.elE3, hk, hf, hz])
    · have h1 : nmE (t :: r) 0 = 2 := by unfold nmE; rw [if_pos rfl]; simp [hk]
      have h2 : nmT' (t :: r) 0 = [] := by unfold nmT'; rw [if_neg (by rw [h1]; decide)]
      have h3 : MC.elE3 L xs (t :: r) = 2 := by unfold MC.elE3; simp [hk]
      have e : scE L xs (t :: r) 0 = (xs, [], 2) := by unfold scE; rw [h2, hL, h1]; rfl
      rw [e, h3]
      exact ⟨rfl, fun _ => rfl, fun h => absurd h (by decide)⟩
/-- What the loop of Scan still answers, at its head. -/
def loopR (L : List Pr) (R : List Int × List Tk × Int) : List Int × List Tk × Int :=
  if R.2.2 = 0 then (if MC.isO 44 R.2.1[0]? = true then MC.elems L (R.2.1.length + 1) R.1 (R.2.1.drop 1) else if MC.isO 125 R.2.1[0]? = true then (R.1, R.2.1.drop 1, 0) else (MC.Z6, [], MC.wrongE R.2.1[0]?)) else (MC.Z6, [], R.2.2)
theorem not_both {o : Option Tk} (h : MC.isO 125 o = true) : MC.isO 44 o = false := by
  cases o with
  | none => rfl
  | some t =>
    obtain ⟨h1, h2⟩ := isM_iff.1 (show MC.isM 125 t = true from h)
    cases e : MC.isM 44 t with
    | false => exact e
    | true =>
      have := (isM_iff.1 e).2
      rw [h2] at this
      cases this
/-- One element, then the loop. -/
theorem elems_loop {L : List Pr} (hL : NoEmpty L) {xs : List Int} {ts : List Tk} {f : Nat} (hf : ts.length < f) : MC.elems L f xs ts = loopR L (scE L xs ts 0) := by
  obtain ⟨f, rfl⟩ : ∃ g, f = g + 1 := ⟨f - 1, by omega⟩
  obtain ⟨h1, h2, h3⟩ := sc_err hL (xs := xs) ts
  by_cases h0 : MC.elE3 L xs ts = 0
  · rw [h3 h0]
    have hE : MC.elE L xs ts = if MC.isO 125 ts[3]? = true then 0 else if MC.isO 44 ts[3]? = true then 0 else MC.wrongE ts[3]? := by rw [MC.elE_tail, if_pos h0]
    have e3 : (ts.drop 3)[0]? = ts[3]? := by rw [List.getElem?_drop]
    have e4 : (ts.drop 3).drop 1 = ts.drop 4 := by rw [List.drop_drop]
    unfold loopR
    simp only [e3, e4]
    rw [if_pos trivial]
    cases h125 : MC.isO 125 ts[3]? with
    | true =>
      rw [h125, if_pos rfl] at hE
      rw [MC.elems_end hE h125, not_both h125, if_neg (by decide), if_pos rfl]
    | false =>
      rw [h125, if_neg (by decide)] at hE
      cases h44 : MC.isO 44 ts[3]? with
      | true =>
        rw [h44, if_pos rfl] at hE
        rw [MC.elems_on hE h125, if_pos rfl]
        have hl : 3 < ts.length := by
          rcases Nat.lt_or_ge 3 ts.length with g | g
          · exact g
          · rw [List.getElem?_eq_none g] at h44; cases h44
        exact MC.elems_fuel L _ _ _ _ (by rw [List.length_drop]; omega) (by rw [List.length_drop, List.length_drop]; omega)
      | false =>
        rw [h44, if_neg (by decide)] at hE
        rw [MC.elems_bad (by rw [hE]; exact wrong_ne _), hE, if_neg (by decide), if_neg (by decide)]
  · have hE : MC.elE L xs ts = MC.elE3 L xs ts := by rw [MC.elE_tail, if_neg h0]
    rw [MC.elems_bad (by rw [hE]; exact h0), hE]
    unfold loopR
    rw [h1, if_neg h0]
/-- A comma: another element. -/
theorem loop_on {L : List Pr} (hL : NoEmpty L) {R : List Int × List Tk × Int} (h0 : R.2.2 = 0) (h : MC.isO 44 R.2.1[0]? = true) : loopR L R = loopR L (scE L R.1 (R.2.1.drop 1) 0) := by
  have e : loopR L R = MC.elems L (R.2.1.length + 1) R.1 (R.2.1.drop 1) := by unfold loopR; rw [if_pos h0, if_pos h]
  rw [e]
  exact elems_loop hL (by rw [List.length_drop]; omega)
/-- No comma: the brace is asked. -/
theorem loop_end {L : List Pr} {R : List Int × List Tk × Int} (_hd : R.2.2 ≠ 0 → R.2.1 = []) (h : MC.isO 44 R.2.1[0]? = false) :
    loopR L R = (if expE 125 R.2.1 R.2.2 = 0 then R.1 else MC.Z6, if expE 125 R.2.1 R.2.2 = 0 then R.2.1.drop 1 else [], expE 125 R.2.1 R.2.2) := by
  unfold loopR expE
  by_cases h0 : R.2.2 = 0
  · rw [if_pos h0, if_pos h0, h, if_neg (by decide)]
    cases h1 : MC.isO 125 R.2.1[0]? with
    | true => rw [if_pos rfl, if_pos rfl, if_pos rfl, if_pos rfl]
    | false => simp [wrong_ne]
  · rw [if_neg h0, if_neg h0, if_neg h0, if_neg h0]
/-- The quantities stay at least 0. -/
theorem sc_nonneg {L : List Pr} {xs : List Int} {ts : List Tk} {er : Int} (h : ∀ k, 0 ≤ MB.at_ xs k) : ∀ k, 0 ≤ MB.at_ (scE L xs ts er).1 k := by
  have hset : ∀ (j : Nat) (v : Int), 0 ≤ v → ∀ k, 0 ≤ MB.at_ (xs.set j v) k := fun j v hv k => by
    by_cases hj : j < xs.length
    · rw [MC.at_set hj]; split
      · exact hv
      · exact h k
    · rw [List.set_eq_of_length_le (by omega)]; exact h k
  have ham : ∀ (ts : List Tk) (e : Int), 0 ≤ amV ts e := fun ts e => by
    unfold amV
    by_cases h : amE ts e = 0
    · rw [if_pos h]
      cases ht : ts[0]? with
      | none => simp
      | some t =>
        show 0 ≤ t.value
        rcases Int.lt_or_le t.value 0 with hneg | hpos
        · exfalso
          unfold amE at h
          by_cases he : e = 0
          · rw [if_pos he, ht] at h
            simp only at h
            by_cases hk : t.kind = 2
            · rw [if_pos hk, if_pos (.inl hneg)] at h
              exact absurd h (by decide)
            · rw [if_neg hk] at h
              exact absurd h (by decide)
          · rw [if_neg he] at h
            exact he h
        · exact hpos
    · rw [if_neg h]; decide
  have lem : ∀ (j : Nat) (v : Int) (A B C D), 0 ≤ v → ∀ k, 0 ≤ MB.at_ ((if v = 0 then (xs.set j 0, A, B) else (xs.set j v, C, D) : List Int × List Tk × Int)).1 k := fun j v A B C D hv => by
    by_cases h0 : v = 0
    · rw [if_pos h0]; exact hset j 0 (by decide)
    · rw [if_neg h0]; exact hset j v hv
  unfold scE
  cases MC.findL L (nmT' ts er) with
  | none => exact h
  | some j =>
    simp only
    by_cases hz : MB.at_ xs j ≠ 0
    · rw [if_pos hz]; exact h
    · rw [if_neg hz]
      exact lem j _ _ _ _ _ (ham _ _)
theorem sc_length {L : List Pr} {xs : List Int} {ts : List Tk} {er : Int} : (scE L xs ts er).1.length = xs.length := by
  have lem : ∀ (j : Nat) (v : Int) (A B C D), ((if v = 0 then (xs.set j 0, A, B) else (xs.set j v, C, D) : List Int × List Tk × Int)).1.length = xs.length := fun j v A B C D => by
    by_cases h0 : v = 0
    · rw [if_pos h0]; exact List.length_set
    · rw [if_neg h0]; exact List.length_set
  unfold scE
  cases MC.findL L (nmT' ts er) with
  | none => rfl
  | some j =>
    simp only
    by_cases hz : MB.at_ xs j ≠ 0
    · rw [if_pos hz]
    · rw [if_neg hz]
      exact lem j _ _ _ _ _
/-- The tokens become fewer. -/
theorem sc_short {L : List Pr} (hL : NoEmpty L) {xs : List Int} (ts : List Tk) : (scE L xs ts 0).2.1.length ≤ ts.length := by
  obtain ⟨h1, h2, h3⟩ := sc_err hL (xs := xs) ts
  by_cases h0 : MC.elE3 L xs ts = 0
  · rw [h3 h0]; simp
  · rw [h2 h0]; exact Nat.zero_le _
theorem sc_empty {L : List Pr} (hL : NoEmpty L) {xs : List Int} {ts : List Tk} (h : (scE L xs ts 0).2.2 ≠ 0) : (scE L xs ts 0).2.1 = [] := by
  obtain ⟨h1, h2, h3⟩ := sc_err hL (xs := xs) ts
  exact h2 (by rw [← h1]; exact h)
theorem Z6_nonneg (k : Nat) : 0 ≤ MB.at_ MC.Z6 k := by
  by_cases hk : k < 6
  · have : k = 0 ∨ k = 1 ∨ k = 2 ∨ k = 3 ∨ k = 4 ∨ k = 5 := by omega
    rcases this with rfl | rfl | rfl | rfl | rfl | rfl <;> decide
  · unfold MB.at_; rw [List.getD_eq_getElem?_getD, List.getElem?_eq_none (by show 6 ≤ k; omega)]; decide
end Go.Proofs.YtdlpolnnhhnecaaDoor
