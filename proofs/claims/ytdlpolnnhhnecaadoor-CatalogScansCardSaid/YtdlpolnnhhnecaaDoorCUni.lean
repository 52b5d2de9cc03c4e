/- The scanner's methods, whatever its state: no claim of its own. -/
import Derived.Test.YtdlpolnnhhnecaaDoorLMeth
import Derived.Test.YtdlpolnnhhnecaaDoorMathC
namespace Go.Proofs.YtdlpolnnhhnecaaDoor
open Go.RowKit
section
variable {bad : Nat → Prop} {w : World} {g : Nat} {ts : List Tk} {er : Int}
theorem SP.dead (h : SP bad w g ts er) (he : er ≠ 0) : ts = [] := by obtain ⟨A, n, c, _, h2⟩ := h; exact h2 he
theorem isM_iff {c : UInt8} {t : Tk} : MC.isM c t = true ↔ t.kind = 3 ∧ t.text = [c] := by unfold MC.isM; rw [Bool.and_eq_true, decide_eq_true_eq, decide_eq_true_eq]
/-- Accept. -/
theorem acceptU (c : UInt8) (h : SP bad w g ts er) :
    Calls Tryd.prog 51 #[.pointer (some ⟨g, 0, none⟩), .string ⟨#[c]⟩] w (Did (fun w' => SP bad w' g (if MC.isO c ts[0]? = true then ts.drop 1 else ts) er) g (.bool (MC.isO c ts[0]?)) w) := by
  obtain ⟨A, n, cp, hs, hi⟩ := h
  cases ts with
  | nil => exact accept_empty _ hs hi
  | cons t r =>
    obtain rfl : er = 0 := by
      by_cases e : er = 0
      · exact e
      · cases hi e
    cases hm : MC.isM c t with
    | true =>
      have e : MC.isO c (t :: r)[0]? = true := hm
      rw [e, if_pos rfl]
      obtain ⟨h1, h2⟩ := isM_iff.1 hm
      exact accept_yes _ hs h1 h2
    | false =>
      have e : MC.isO c (t :: r)[0]? = false := hm
      rw [e, if_neg (by decide)]
      exact accept_no _ hs fun hh => by rw [isM_iff.2 hh] at hm; cases hm
/-- The error behind Expect. -/
def expE (c : UInt8) (ts : List Tk) (er : Int) : Int := if er = 0 then (if MC.isO c ts[0]? = true then 0 else MC.wrongE ts[0]?) else er
theorem expectU (c : UInt8) (h : SP bad w g ts er) :
    Calls Tryd.prog 50 #[.pointer (some ⟨g, 0, none⟩), .string ⟨#[c]⟩] w (Did (fun w' => SP bad w' g (if expE c ts er = 0 then ts.drop 1 else []) (expE c ts er)) g (.tuple #[]) w) := by
  obtain ⟨A, n, cp, hs, hi⟩ := h
  unfold expE
  cases ts with
  | nil =>
    refine (expect_empty _ hs).mono fun e w' h => h.mono fun x hx => ?_
    by_cases e0 : er = 0
    · subst e0; exact hx
    · have : refE er = er := by unfold refE; rw [if_neg e0]
      rw [this] at hx
      rw [if_neg e0, if_neg e0]; exact hx
  | cons t r =>
    obtain rfl : er = 0 := by
      by_cases e : er = 0
      · exact e
      · cases hi e
    rw [if_pos rfl]
    cases hm : MC.isM c t with
    | true =>
      have e : MC.isO c (t :: r)[0]? = true := hm
      rw [if_pos e, if_pos rfl]
      obtain ⟨h1, h2⟩ := isM_iff.1 hm
      exact expect_yes _ hs h1 h2
    | false =>
      have e : MC.isO c (t :: r)[0]? = false := hm
      rw [e, if_neg (by decide : ¬ (false = true))]
      exact expect_no ⟨#[c]⟩ hs fun hh => by rw [isM_iff.2 hh] at hm; cases hm
/-- The error behind Name, and the name. -/
def nmE (ts : List Tk) (er : Int) : Int := if er = 0 then (match ts[0]? with | none => 1 | some t => if t.kind = 1 then 0 else 2) else er
def nmT' (ts : List Tk) (er : Int) : List UInt8 := if nmE ts er = 0 then ((ts[0]?).map (·.text)).getD [] else []
theorem nameU (h : SP bad w g ts er) :
    Calls Tryd.prog 76 #[.pointer (some ⟨g, 0, none⟩)] w (Did (fun w' => SP bad w' g (if nmE ts er = 0 then ts.drop 1 else []) (nmE ts er)) g (.string (str (nmT' ts er))) w) := by
  obtain ⟨A, n, cp, hs, hi⟩ := h
  cases ts with
  | nil =>
    have he : nmE [] er = refE er := by unfold nmE refE; rfl
    have ht : nmT' [] er = [] := by unfold nmT'; rw [if_neg (by rw [he]; exact refE_ne er)]
    rw [ht, he, if_neg (refE_ne er)]
    exact name_empty hs
  | cons t r =>
    obtain rfl : er = 0 := by
      by_cases e : er = 0
      · exact e
      · cases hi e
    by_cases hk : t.kind = 1
    · have he : nmE (t :: r) 0 = 0 := by unfold nmE; rw [if_pos rfl]; simp [hk]
      have ht : nmT' (t :: r) 0 = t.text := by unfold nmT'; rw [if_pos he]; rfl
      rw [ht, he, if_pos rfl]
      exact name_yes hs hk
    · have he : nmE (t :: r) 0 = 2 := by unfold nmE; rw [if_pos rfl]; simp [hk]
      have ht : nmT' (t :: r) 0 = [] := by unfold nmT'; rw [if_neg (by rw [he]; decide)]
      rw [ht, he, if_neg (by decide)]
      exact name_no hs hk
/-- The error behind Amount(4), and the amount. -/
def amE (ts : List Tk) (er : Int) : Int := if er = 0 then (match ts[0]? with | none => 1 | some t => if t.kind = 2 then (if t.value < 0 ∨ 4 < t.value then 4 else 0) else 2) else er
def amV (ts : List Tk) (er : Int) : Int := if amE ts er = 0 then ((ts[0]?).map (·.value)).getD 0 else 0
theorem amountU (h : SP bad w g ts er) :
    Calls Tryd.prog 77 #[.pointer (some ⟨g, 0, none⟩), .int .i64 4] w (Did (fun w' => SP bad w' g (if amE ts er = 0 then ts.drop 1 else []) (amE ts er)) g (.int .i64 (amV ts er)) w) := by
  obtain ⟨A, n, cp, hs, hi⟩ := h
  cases ts with
  | nil =>
    have he : amE [] er = refE er := by unfold amE refE; rfl
    have ht : amV [] er = 0 := by unfold amV; rw [if_neg (by rw [he]; exact refE_ne er)]
    rw [ht, he, if_neg (refE_ne er)]
    exact amount_empty 4 hs
  | cons t r =>
    obtain rfl : er = 0 := by
      by_cases e : er = 0
      · exact e
      · cases hi e
    have hno : ∀ x : Int, x ≠ 0 → amE (t :: r) 0 = x → amV (t :: r) 0 = 0 := fun x hx h => by unfold amV; rw [if_neg (by rw [h]; exact hx)]
    by_cases hk : t.kind = 2
    · by_cases hv : t.value < 0
      · have he : amE (t :: r) 0 = 4 := by unfold amE; rw [if_pos rfl]; simp [hk, hv]
        rw [hno 4 (by decide) he, he, if_neg (by decide)]
        exact amount_neg 4 hs hk hv
      · by_cases hv2 : 4 < t.value
        · have he : amE (t :: r) 0 = 4 := by unfold amE; rw [if_pos rfl]; simp [hk, hv2]
          rw [hno 4 (by decide) he, he, if_neg (by decide)]
          exact amount_most 4 hs hk (by omega) hv2
        · have he : amE (t :: r) 0 = 0 := by unfold amE; rw [if_pos rfl]; simp [hk, hv, hv2]
          have ht : amV (t :: r) 0 = t.value := by unfold amV; rw [if_pos he]; rfl
          rw [ht, he, if_pos rfl]
          exact amount_yes 4 hs hk (by omega) (by omega)
    · have he : amE (t :: r) 0 = 2 := by unfold amE; rw [if_pos rfl]; simp [hk]
      rw [hno 2 (by decide) he, he, if_neg (by decide)]
      exact amount_kind 4 hs hk
/-- The error behind Fail. -/
def flE (x : Int) (er : Int) : Int := if er = 0 then x else er
theorem failU (x : Int) (hx : x ≠ 0) (h : SP bad w g ts er) :
    Calls Tryd.prog 49 #[.pointer (some ⟨g, 0, none⟩), .int .i64 x] w (Did (fun w' => SP bad w' g [] (flE x er)) g (.tuple #[]) w) := by
  obtain ⟨A, n, cp, hs, hi⟩ := h
  unfold flE
  by_cases e : er = 0
  · subst e
    rw [if_pos rfl]
    exact fail_set x hs hx
  · obtain rfl := hi e
    rw [if_neg e]
    refine (fail_dead x hs e).mono ?_
    rintro e1 w' ⟨rfl, rfl⟩
    exact ⟨rfl, ⟨A, n, cp, hs, hi⟩, World.grownBy.refl _ _⟩
theorem errU (h : SP bad w g ts er) : Calls Tryd.prog 31 #[.pointer (some ⟨g, 0, none⟩)] w fun e w' => e = .returned (.int .i64 er) ∧ w = w' := by
  obtain ⟨A, n, cp, hs, _⟩ := h
  exact err_any hs
/-- What End answers. -/
def endE (ts : List Tk) (er : Int) : Int := if ts = [] then er else 3
theorem endU (h : SP bad w g ts er) : Calls Tryd.prog 34 #[.pointer (some ⟨g, 0, none⟩)] w fun e w' => e = .returned (.int .i64 (endE ts er)) ∧ w = w' := by
  obtain ⟨A, n, cp, hs, hi⟩ := h
  cases ts with
  | nil => exact end_empty hs
  | cons t r => exact end_live hs
/-- A block of another kind, and of the tokens of none, turns: the scanner stays. -/
theorem SP.poke {q : Nat} (h : SP bad w g ts er) (hq : bad q) (hne : g ≠ q) (i : Nat) (u : Value) : SP bad (w.setCell ⟨q, i, none⟩ u) g ts er := by
  obtain ⟨A, n, cp, hs, hi⟩ := h
  exact ⟨A, n, cp, hs.other (grown_set w q i u) hq hne, hi⟩
theorem SP.less {bad' : Nat → Prop} (h : SP bad w g ts er) (hb : ∀ k, bad' k → bad k) (hg : bad' g) : SP bad' w g ts er := by
  obtain ⟨A, n, cp, hs, hi⟩ := h
  exact ⟨A, n, cp, ⟨hs.blk, hs.tks, fun ad ha hh => hs.far ad ha (hb _ hh), hg⟩, hi⟩
end
end Go.Proofs.YtdlpolnnhhnecaaDoor
