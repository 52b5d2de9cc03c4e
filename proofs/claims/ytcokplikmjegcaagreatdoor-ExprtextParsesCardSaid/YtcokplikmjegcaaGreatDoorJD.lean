/- MathXT, MathXM, joined: no claim of its own. -/
import Derived.Test.YtcokplikmjegcaaGreatDoorJC
namespace Go.Proofs.YtcokplikmjegcaaGreatDoor.MX
open MC (Pr isO isM wrongE scanL mkT nmT)
open ME (F Nd)
/-- The error behind a mark that must stand there, an amount, a bundle. -/
def exE (c : UInt8) (ts : List Tk) (er : Int) : Int := if er = 0 then (if isO c ts[0]? = true then 0 else wrongE ts[0]?) else er
def nxt (ts : List Tk) (er : Int) : List Tk := if er = 0 then ts.drop 1 else []
def amtE (M : Int) (ts : List Tk) (er : Int) : Int := if er = 0 then (match ts[0]? with | none => 1 | some t => if t.kind = 2 then (if t.value < 0 ∨ M < t.value then 4 else 0) else 2) else er
def amtV (M : Int) (ts : List Tk) (er : Int) : Int := if amtE M ts er = 0 then ((ts[0]?).map (·.value)).getD 0 else 0
def scanU (L : List Pr) (ts : List Tk) (er : Int) : List Int × List Tk × Int := if er = 0 then scanL L ts else (MC.Z6, [], er)
/-- A bundle, @ and a value: the bundle, the value, what follows, the error. -/
def bid2 (b : List Int) (ts : List Tk) (er : Int) : List Int × Int × List Tk × Int := (b, amtV 1000000 ts er, nxt ts (amtE 1000000 ts er), amtE 1000000 ts er)
def bid1 (s : List Int × List Tk × Int) : List Int × Int × List Tk × Int := bid2 s.1 (nxt s.2.1 (exE 64 s.2.1 s.2.2)) (exE 64 s.2.1 s.2.2)
def bid (L : List Pr) (ts : List Tk) (er : Int) : List Int × Int × List Tk × Int := bid1 (scanU L ts er)
/-- The first token. -/
def hk (ts : List Tk) : Int := ((ts[0]?).map (·.kind)).getD 0
def hw (ts : List Tk) : List UInt8 := ((ts[0]?).map (·.text)).getD []
def xorW : List UInt8 := [120, 111, 114]
def orW : List UInt8 := [111, 114]
def bonusW : List UInt8 := [98, 111, 110, 117, 115]
def limitW : List UInt8 := [108, 105, 109, 105, 116]
def opW (w : List UInt8) : Int := if w = xorW then 2 else if w = orW then 3 else if w = bonusW then 4 else if w = limitW then 5 else 0
def mkF : List Nd → F
  | [] => .nil
  | n :: r => .cons n.o n.b n.v n.k (mkF r)
/-- Arguments behind commas. -/
def rdL (rd : List Tk → Int → Nd × List Tk × Int) : Nat → List Tk → Int → List Nd × List Tk × Int
  | 0, _, er => ([], [], if er = 0 then 1 else er)
  | g + 1, ts, er => if isO 44 ts[0]? = true then ((rd (ts.drop 1) er).1 :: (rdL rd g (rd (ts.drop 1) er).2.1 (rd (ts.drop 1) er).2.2).1, (rdL rd g (rd (ts.drop 1) er).2.1 (rd (ts.drop 1) er).2.2).2) else ([], ts, er)
/-- The closing parenthesis. -/
def endP (n : Nd) (ts : List Tk) (er : Int) : Nd × List Tk × Int := (n, nxt ts (exE 41 ts er), exE 41 ts er)
def body2 (L : List Pr) (o : Int) (a : Nd) (ts : List Tk) (er : Int) : Nd × List Tk × Int :=
  if o = 4 then endP ⟨4, (bid L ts er).1, (bid L ts er).2.1, mkF [a]⟩ (bid L ts er).2.2.1 (bid L ts er).2.2.2
  else endP ⟨o, MC.Z6, amtV 1000000 ts er, mkF [a]⟩ (nxt ts (amtE 1000000 ts er)) (amtE 1000000 ts er)
def body (L : List Pr) (o : Int) (a : Nd × List Tk × Int) (q : List Nd × List Tk × Int) : Nd × List Tk × Int :=
  if o = 2 ∨ o = 3 then endP ⟨o, MC.Z6, 0, mkF (a.1 :: q.1)⟩ q.2.1 q.2.2
  else body2 L o a.1 (nxt a.2.1 (exE 44 a.2.1 a.2.2)) (exE 44 a.2.1 a.2.2)
def atomR (q : List Int × Int × List Tk × Int) : Nd × List Tk × Int := (⟨1, q.1, q.2.1, .nil⟩, q.2.2)
/-- An expression at the beginning of a list of tokens: the expression, what follows, the error. -/
def rdE (L : List Pr) : Nat → List Tk → Int → Nd × List Tk × Int
  | 0, _, er => (⟨0, MC.Z6, 0, .nil⟩, [], if er = 0 then 1 else er)
  | f + 1, ts, er =>
    if hk ts ≠ 1 then atomR (bid L ts er)
    else if opW (hw ts) = 0 then (⟨0, MC.Z6, 0, .nil⟩, [], if er = 0 then 2 else er)
    else body L (opW (hw ts)) (rdE L f (nxt (ts.drop 1) (exE 40 (ts.drop 1) er)) (exE 40 (ts.drop 1) er))
      (rdL (rdE L f) f (rdE L f (nxt (ts.drop 1) (exE 40 (ts.drop 1) er)) (exE 40 (ts.drop 1) er)).2.1 (rdE L f (nxt (ts.drop 1) (exE 40 (ts.drop 1) er)) (exE 40 (ts.drop 1) er)).2.2)
def endE (ts : List Tk) (er : Int) : Int := if ts = [] then er else 3
def nd0 : Nd := ⟨0, MC.Z6, 0, .nil⟩
/-- A text read. -/
def parse2 (q : Nd × List Tk × Int) : Nd × Int := if endE q.2.1 q.2.2 ≠ 0 then (nd0, endE q.2.1 q.2.2) else if ME.checkE q.1 ≠ 0 then (nd0, ME.checkE q.1) else (q.1, 0)
def parseE (L : List Pr) (s : List UInt8) : Nd × Int :=
  if MC.chkL L ≠ 0 then (nd0, MC.chkL L) else if (toks s).2 ≠ 0 then (nd0, (toks s).2) else parse2 (rdE L ((toks s).1.length + 1) (toks s).1 0)
theorem wrong_ne (o : Option Tk) : wrongE o ≠ 0 := by
  cases o with
  | none => show (1 : Int) ≠ 0; decide
  | some _ => show (2 : Int) ≠ 0; decide
theorem isO_cons {c : UInt8} {ts : List Tk} (h : isO c ts[0]? = true) : ∃ m r, ts = m :: r ∧ isM c m = true := by
  cases ts with
  | nil => cases h
  | cons m r => exact ⟨m, r, rfl, h⟩
theorem ex_zero {c : UInt8} {ts : List Tk} {er : Int} (h : exE c ts er = 0) : er = 0 ∧ ∃ m r, ts = m :: r ∧ isM c m = true := by
  unfold exE at h
  by_cases e : er = 0
  · rw [if_pos e] at h
    by_cases g : isO c ts[0]? = true
    · exact ⟨e, isO_cons g⟩
    · rw [if_neg g] at h; exact absurd h (wrong_ne _)
  · rw [if_neg e] at h; exact absurd h e
theorem ex_yes {c : UInt8} {m : Tk} {r : List Tk} (h : isM c m = true) : exE c (m :: r) 0 = 0 := by
  unfold exE; rw [if_pos rfl]; exact if_pos h
theorem ex_dead {c : UInt8} {ts : List Tk} {er : Int} (h : er ≠ 0) : exE c ts er = er := if_neg h
theorem nxt_yes {m : Tk} {r : List Tk} : nxt (m :: r) 0 = r := rfl
theorem amt_zero {M : Int} {ts : List Tk} {er : Int} (h : amtE M ts er = 0) : er = 0 ∧ ∃ t r, ts = t :: r ∧ t.kind = 2 ∧ 0 ≤ t.value ∧ t.value ≤ M := by
  unfold amtE at h
  by_cases e : er = 0
  · rw [if_pos e] at h
    cases ts with
    | nil => cases h
    | cons t r =>
      simp only [List.getElem?_cons_zero] at h
      by_cases hk : t.kind = 2
      · rw [if_pos hk] at h
        by_cases hv : t.value < 0 ∨ M < t.value
        · rw [if_pos hv] at h; cases h
        · exact ⟨e, t, r, rfl, hk, by omega, by omega⟩
      · rw [if_neg hk] at h; cases h
  · rw [if_neg e] at h; exact absurd h e
theorem amt_yes {M : Int} {t : Tk} {r : List Tk} (h1 : t.kind = 2) (h2 : 0 ≤ t.value) (h3 : t.value ≤ M) : amtE M (t :: r) 0 = 0 := by
  unfold amtE
  rw [if_pos rfl]
  simp only [List.getElem?_cons_zero]
  rw [if_pos h1, if_neg (by omega)]
theorem amtV_yes {M : Int} {t : Tk} {r : List Tk} (h1 : t.kind = 2) (h2 : 0 ≤ t.value) (h3 : t.value ≤ M) : amtV M (t :: r) 0 = t.value := by
  unfold amtV
  rw [if_pos (amt_yes h1 h2 h3)]
  rfl
theorem bid_yes {L : List Pr} {ts r : List Tk} {b : List Int} {m t : Tk} (h : scanL L ts = (b, m :: t :: r, 0)) (hm : isM 64 m = true) (h1 : t.kind = 2) (h2 : 0 ≤ t.value) (h3 : t.value ≤ 1000000) : bid L ts 0 = (b, t.value, r, 0) := by
  unfold bid scanU
  rw [if_pos rfl, h]
  unfold bid1
  simp only [ex_yes hm, nxt_yes]
  unfold bid2
  rw [amt_yes h1 h2 h3, amtV_yes h1 h2 h3]
  rfl
theorem bid_zero {L : List Pr} {ts : List Tk} {er : Int} (h : (bid L ts er).2.2.2 = 0) : er = 0 ∧ ∃ b m t r, scanL L ts = (b, m :: t :: r, 0) ∧ isM 64 m = true ∧ t.kind = 2 ∧ 0 ≤ t.value ∧ t.value ≤ 1000000 ∧ bid L ts er = (b, t.value, r, 0) := by
  have h0 : er = 0 := by
    by_cases e : er = 0
    · exact e
    · exfalso
      unfold bid scanU at h
      rw [if_neg e] at h
      unfold bid1 bid2 at h
      obtain ⟨h1, _⟩ := amt_zero h
      simp only [ex_dead e] at h1
      exact e h1
  subst h0
  have h' := h
  unfold bid scanU at h
  rw [if_pos rfl] at h
  unfold bid1 bid2 at h
  obtain ⟨h1, t, r, e2, h3, h4, h5⟩ := amt_zero h
  obtain ⟨h6, m, r2, e7, h8⟩ := ex_zero h1
  rw [h1] at e2
  obtain ⟨b, s1, s2⟩ : ∃ b s1 s2, (b, s1, s2) = scanL L ts := ⟨_, _, _, rfl⟩
  obtain ⟨s2, hs⟩ := s2
  rw [← hs] at e2 h6 e7
  simp only at e2 h6 e7
  subst h6 e7
  rw [nxt_yes] at e2
  subst e2
  exact ⟨rfl, b, m, t, r, hs.symm, h8, h3, h4, h5, bid_yes hs.symm h8 h3 h4 h5⟩
theorem rdL_dead {rd : List Tk → Int → Nd × List Tk × Int} (hrd : ∀ ts er, er ≠ 0 → (rd ts er).2.2 ≠ 0) : ∀ (g : Nat) (ts : List Tk) (er : Int), er ≠ 0 → (rdL rd g ts er).2.2 ≠ 0
  | 0, _, er, h => by rw [rdL]; simp only; rw [if_neg h]; exact h
  | g + 1, ts, er, h => by
    rw [rdL]
    split
    · exact rdL_dead hrd g _ _ (hrd _ _ h)
    · exact h
theorem end_dead {n : Nd} {ts : List Tk} {er : Int} (h : er ≠ 0) : (endP n ts er).2.2 ≠ 0 := by unfold endP; rw [ex_dead h]; exact h
theorem bid_dead {L : List Pr} {ts : List Tk} {er : Int} (h : er ≠ 0) : (bid L ts er).2.2.2 ≠ 0 := fun e => h (bid_zero e).1
theorem amt_dead {M : Int} {ts : List Tk} {er : Int} (h : er ≠ 0) : amtE M ts er ≠ 0 := fun e => h (amt_zero e).1
theorem body2_dead {L : List Pr} {o : Int} {a : Nd} {ts : List Tk} {er : Int} (h : er ≠ 0) : (body2 L o a ts er).2.2 ≠ 0 := by
  unfold body2
  split
  · exact end_dead (bid_dead h)
  · exact end_dead (amt_dead h)
theorem body_dead {L : List Pr} {o : Int} {a : Nd × List Tk × Int} {q : List Nd × List Tk × Int} (h : a.2.2 ≠ 0) (hq : q.2.2 ≠ 0) : (body L o a q).2.2 ≠ 0 := by
  unfold body
  split
  · exact end_dead hq
  · exact body2_dead (by rw [ex_dead h]; exact h)
theorem rd_dead {L : List Pr} : ∀ (f : Nat) (ts : List Tk) (er : Int), er ≠ 0 → (rdE L f ts er).2.2 ≠ 0
  | 0, _, er, h => by rw [rdE]; simp only; rw [if_neg h]; exact h
  | f + 1, ts, er, h => by
    rw [rdE]
    split
    · exact bid_dead h
    · split
      · first | exact h | (simp only; rw [if_neg h]; exact h)
      · have h1 := rd_dead (L := L) f (nxt (ts.drop 1) (exE 40 (ts.drop 1) er)) (exE 40 (ts.drop 1) er) (by rw [ex_dead h]; exact h)
        exact body_dead h1 (rdL_dead (fun ts er => rd_dead f ts er) f _ _ h1)
theorem op_ways (w : List UInt8) : opW w = 0 ∨ opW w = 2 ∨ opW w = 3 ∨ opW w = 4 ∨ opW w = 5 := by
  unfold opW
  repeat' split
  all_goals simp
theorem rdL_nil {rd : List Tk → Int → Nd × List Tk × Int} {g : Nat} {ts : List Tk} {er : Int} (h : isO 44 ts[0]? = false) : rdL rd (g + 1) ts er = ([], ts, er) := by
  rw [rdL, if_neg (by rw [h]; decide)]
end Go.Proofs.YtcokplikmjegcaaGreatDoor.MX
namespace Go.Proofs.YtcokplikmjegcaaGreatDoor.MX
open MC (Pr isO isM wrongE scanL mkT nmT)
open ME (F Nd)
/-! What is left is an end of the tokens. -/
theorem nxt_suf (ts : List Tk) (er : Int) : nxt ts er <:+ ts := by
  unfold nxt
  split
  · exact List.drop_suffix _ _
  · exact List.nil_suffix
theorem elems_suf (l : List Pr) : ∀ (f : Nat) (b : List Int) (ts : List Tk), (MC.elems l f b ts).2.1 <:+ ts
  | 0, _, _ => List.nil_suffix
  | f + 1, b, ts => by
    rw [MC.elems]
    split
    · split
      · exact List.drop_suffix _ _
      · exact (elems_suf l f _ _).trans (List.drop_suffix _ _)
    · exact List.nil_suffix
theorem scan_suf (l : List Pr) (ts : List Tk) : (scanL l ts).2.1 <:+ ts := by
  unfold scanL
  split
  · split
    · exact List.drop_suffix _ _
    · exact (elems_suf l _ _ _).trans (List.drop_suffix _ _)
  · exact List.nil_suffix
theorem scanU_suf (l : List Pr) (ts : List Tk) (er : Int) : (scanU l ts er).2.1 <:+ ts := by
  unfold scanU
  split
  · exact scan_suf l ts
  · exact List.nil_suffix
theorem bid_suf (l : List Pr) (ts : List Tk) (er : Int) : (bid l ts er).2.2.1 <:+ ts := by
  unfold bid bid1 bid2
  exact (nxt_suf _ _).trans ((nxt_suf _ _).trans (scanU_suf l ts er))
theorem end_suf (n : Nd) (ts : List Tk) (er : Int) : (endP n ts er).2.1 <:+ ts := nxt_suf _ _
theorem rdL_suf {rd : List Tk → Int → Nd × List Tk × Int} (h : ∀ ts er, (rd ts er).2.1 <:+ ts) : ∀ (g : Nat) (ts : List Tk) (er : Int), (rdL rd g ts er).2.1 <:+ ts
  | 0, _, _ => List.nil_suffix
  | g + 1, ts, er => by
    rw [rdL]
    split
    · exact (rdL_suf h g _ _).trans ((h _ _).trans (List.drop_suffix _ _))
    · exact List.suffix_rfl
theorem rd_suf (L : List Pr) : ∀ (f : Nat) (ts : List Tk) (er : Int), (rdE L f ts er).2.1 <:+ ts
  | 0, _, _ => List.nil_suffix
  | f + 1, ts, er => by
    rw [rdE]
    split
    · exact bid_suf L ts er
    · split
      · exact List.nil_suffix
      · have h1 : (rdE L f (nxt (ts.drop 1) (exE 40 (ts.drop 1) er)) (exE 40 (ts.drop 1) er)).2.1 <:+ ts := (rd_suf L f _ _).trans ((nxt_suf _ _).trans (List.drop_suffix _ _))
        unfold body
        split
        · exact (end_suf _ _ _).trans ((rdL_suf (fun ts er => rd_suf L f ts er) _ _ _).trans h1)
        · unfold body2
          split
          · exact (end_suf _ _ _).trans ((bid_suf _ _ _).trans ((nxt_suf _ _).trans h1))
          · exact (end_suf _ _ _).trans ((nxt_suf _ _).trans ((nxt_suf _ _).trans h1))
/-! More tokens behind do not matter. -/
/-! Bundles that were read fit the products. -/
/-! Places make no difference. -/
end Go.Proofs.YtcokplikmjegcaaGreatDoor.MX
