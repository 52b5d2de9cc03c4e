/- MathXT, MathXM, joined: no claim of its own. -/
import Derived.Test.YtcokplikmjegcaaDoorJC
namespace Go.Proofs.YtcokplikmjegcaaDoor.MX
open MC (Pr isO isM wrongE scanL mkT nmT)
open ME (F Nd)
/-- The error behind a mark that must stand there, an amount, a bundle. -/
def exE (c : UInt8) (ts : List Tk) (er : Int) : Int := if er = 0 then (if isO c ts[0]? = true then 0 else wrongE ts[0]?) else er
def nxt (ts : List Tk) (er : Int) : List Tk := if er = 0 then ts.drop 1 else []
def amtE (M : Int) (ts : List Tk) (er : Int) : Int := if er = 0 then (match ts[0]? with | none => 1 | some t => if t.kind = 2 then (if t.value < 0 ∨ M < t.value then 4 else 0) else 2) else er
def amtV (M : Int) (ts : List Tk) (er : Int) : Int := if amtE M ts er = 0 then ((ts[0]?).map (·.value)).getD 0 else 0
def scanU (L : List Pr) (ts : List Tk) (er : Int) : List Int × List Tk × Int := if er = 0 then scanL L ts else (MC.Z6, [], er)
/-- A bundle, @ and a value: the bundle, the value, what follows, the error. -/
def bid2 (b : List Int) (ts : List Tk) (er : Int) : List Int × Int × List Tk × Int := (b, amtV 1000000 ts er, nxt ts (amtE 1000000 ts er), amtE 1000000 ts er)
def bid1 (s : List Int × List Tk × Int) : List Int × Int × List Tk × Int := bid2 s.1 (nxt s.2.1 (exE 64 s.2.1 s.2.2)) (exE 64 s.2.1 s.2.2)
def bid (L : List Pr) (ts : List Tk) (er : Int) : List Int × Int × List Tk × Int := bid1 (scanU L ts er)
/-- The first token. -/
def hk (ts : List Tk) : Int := ((ts[0]?).map (·.kind)).getD 0
def hw (ts : List Tk) : List UInt8 := ((ts[0]?).map (·.text)).getD []
def xorW : List UInt8 := [120, 111, 114]
def orW : List UInt8 := [111, 114]
def bonusW : List UInt8 := [98, 111, 110, 117, 115]
def limitW : List UInt8 := [108, 105, 109, 105, 116]
def opW (w : List UInt8) : Int := if w = xorW then 2 else if w = orW then 3 else if w = bonusW then 4 else if w = limitW then 5 else 0
def mkF : List Nd → F
  | [] => .nil
  | n :: r => .cons n.o n.b n.v n.k (mkF r)
/-- Arguments behind commas. -/
def rdL (rd : List Tk → Int → Nd × List Tk × Int) : Nat → List Tk → Int → List Nd × List Tk × Int
  | 0, _, er => ([], [], if er = 0 then 1 else er)
  | g + 1, ts, er => if isO 44 ts[0]? = true then ((rd (ts.drop 1) er).1 :: (rdL rd g (rd (ts.drop 1) er).2.1 (rd (ts.drop 1) er).2.2).1, (rdL rd g (rd (ts.drop 1) er).2.1 (rd (ts.drop 1) er).2.2).2) else ([], ts, er)
/-- The closing parenthesis. -/
def endP (n : Nd) (ts : List Tk) (er : Int) : Nd × List Tk × Int := (n, nxt ts (exE 41 ts er), exE 41 ts er)
def body2 (L : List Pr) (o : Int) (a : Nd) (ts : List Tk) (er : Int) : Nd × List Tk × Int :=
  if o = 4 then endP ⟨4, (bid L ts er).1, (bid L ts er).2.1, mkF [a]⟩ (bid L ts er).2.2.1 (bid L ts er).2.2.2
  else endP ⟨o, MC.Z6, amtV 1000000 ts er, mkF [a]⟩ (nxt ts (amtE 1000000 ts er)) (amtE 1000000 ts er)
def body (L : List Pr) (o : Int) (a : Nd × List Tk × Int) (q : List Nd × List Tk × Int) : Nd × List Tk × Int :=
  if o = 2 ∨ o = 3 then endP ⟨o, MC.Z6, 0, mkF (a.1 :: q.1)⟩ q.2.1 q.2.2
  else body2 L o a.1 (nxt a.2.1 (exE 44 a.2.1 a.2.2)) (exE 44 a.2.1 a.2.2)
def atomR (q : List Int × Int × List Tk × Int) : Nd × List Tk × Int := (⟨1, q.1, q.2.1, .nil⟩, q.2.2)
/-- An expression at the beginning of a list of tokens: the expression, what follows, the error. -/
def rdE (L : List Pr) : Nat → List Tk → Int → Nd × List Tk × Int
  | 0, _, er => (⟨0, MC.Z6, 0, .nil⟩, [], if er = 0 then 1 else er)
  | f + 1, ts, er =>
    if hk ts ≠ 1 then atomR (bid L ts er)
    else if opW (hw ts) = 0 then (⟨0, MC.Z6, 0, .nil⟩, [], if er = 0 then 2 else er)
    else body L (opW (hw ts)) (rdE L f (nxt (ts.drop 1) (exE 40 (ts.drop 1) er)) (exE 40 (ts.drop 1) er))
      (rdL (rdE L f) f (rdE L f (nxt (ts.drop 1) (exE 40 (ts.drop 1) er)) (exE 40 (ts.drop 1) er)).2.1 (rdE L f (nxt (ts.drop 1) (exE 40 (ts.drop 1) er)) (exE 40 (ts.drop 1) er)).2.2)
def endE (ts : List Tk) (er : Int) : Int := if ts = [] then er else 3
def nd0 : Nd := ⟨0, MC.Z6, 0, .nil⟩
/-- A text read. -/
def parse2 (q : Nd × List Tk × Int) : Nd × Int := if endE q.2.1 q.2.2 ≠ 0 then (nd0, endE q.2.1 q.2.2) else if ME.checkE q.1 ≠ 0 then (nd0, ME.checkE q.1) else (q.1, 0)
def parseE (L : List Pr) (s : List UInt8) : Nd × Int :=
  if MC.chkL L ≠ 0 then (nd0, MC.chkL L) else if (toks s).2 ≠ 0 then (nd0, (toks s).2) else parse2 (rdE L ((toks s).1.length + 1) (toks s).1 0)
theorem wrong_ne (o : Option Tk) : wrongE o ≠ 0 := by
  cases o with
  | none => show (1 : Int) ≠ 0; decide
  | some _ => show (2 : Int) ≠ 0; decide
theorem isO_cons {c : UInt8} {ts : List Tk} (h : isO c ts[0]? = true) : ∃ m r, ts = m :: r ∧ isM c m = true := by
  cases ts with
  | nil => cases h
  | cons m r => exact ⟨m, r, rfl, h⟩
theorem ex_zero {c : UInt8} {ts : List Tk} {er : Int} (h : exE c ts er = 0) : er = 0 ∧ ∃ m r, ts = m :: r ∧ isM c m = true := by
  unfold exE at h
  by_cases e : er = 0
  · rw [if_pos e] at h
    by_cases g : isO c ts[0]? = true
    · exact ⟨e, isO_cons g⟩
    · rw [if_neg g] at h; exact absurd h (wrong_ne _)
  · rw [if_neg e] at h; exact absurd h e
theorem ex_yes {c : UInt8} {m : Tk} {r : List Tk} (h : isM c m = true) : exE c (m :: r) 0 = 0 := by
  unfold exE; rw [if_pos rfl]; exact if_pos h
theorem ex_dead {c : UInt8} {ts : List Tk} {er : Int} (h : er ≠ 0) : exE c ts er = er := if_neg h
theorem nxt_yes {m : Tk} {r : List Tk} : nxt (m :: r) 0 = r := rfl
theorem amt_zero {M : Int} {ts : List Tk} {er : Int} (h : amtE M ts er = 0) : er = 0 ∧ ∃ t r, ts = t :: r ∧ t.kind = 2 ∧ 0 ≤ t.value ∧ t.value ≤ M := by
  unfold amtE at h
  by_cases e : er = 0
  · rw [if_pos e] at h
    cases ts with
    | nil => cases h
    | cons t r =>
      simp only [List.getElem?_cons_zero] at h
      by_cases hk : t.kind = 2
      · rw [if_pos hk] at h
        by_cases hv : t.value < 0 ∨ M < t.value
        · rw [if_pos hv] at h; cases h
        · exact ⟨e, t, r, rfl, hk, by omega, by omega⟩
      · rw [if_neg hk] at h; cases h
  · rw [if_neg e] at h; exact absurd h e
theorem amt_yes {M : Int} {t : Tk} {r : List Tk} (h1 : t.kind = 2) (h2 : 0 ≤ t.value) (h3 : t.value ≤ M) : amtE M (t :: r) 0 = 0 := by
  unfold amtE
  rw [if_pos rfl]
  simp only [List.getElem?_cons_zero]
  rw [if_pos h1, if_neg (by omega)]
theorem amtV_yes {M : Int} {t : Tk} {r : List Tk} (h1 : t.kind = 2) (h2 : 0 ≤ t.value) (h3 : t.value ≤ M) : amtV M (t :: r) 0 = t.value := by
  unfold amtV
  rw [if_pos (amt_yes h1 h2 h3)]
  rfl
theorem bid_yes {L : List Pr} {ts r : List Tk} {b : List Int} {m t : Tk} (h : scanL L ts = (b, m :: t :: r, 0)) (hm : isM 64 m = true) (h1 : t.kind = 2) (h2 : 0 ≤ t.value) (h3 : t.value ≤ 1000000) : bid L ts 0 = (b, t.value, r, 0) := by
  unfold bid scanU
  rw [if_pos rfl, h]
  unfold bid1
  simp only [ex_yes hm, nxt_yes]
  unfold bid2
  rw [amt_yes h1 h2 h3, amtV_yes h1 h2 h3]
  rfl
theorem bid_zero {L : List Pr} {ts : List Tk} {er : Int} (h : (bid L ts er).2.2.2 = 0) : er = 0 ∧ ∃ b m t r, scanL L ts = (b, m :: t :: r, 0) ∧ isM 64 m = true ∧ t.kind = 2 ∧ 0 ≤ t.value ∧ t.value ≤ 1000000 ∧ bid L ts er = (b, t.value, r, 0) := by
  have h0 : er = 0 := by
    by_cases e : er = 0
    · exact e
    · exfalso
      unfold bid scanU at h
      rw [if_neg e] at h
      unfold bid1 bid2 at h
      obtain ⟨h1, _⟩ := amt_zero h
      simp only [ex_dead e] at h1
      exact e h1
  subst h0
  have h' := h
  unfold bid scanU at h
  rw [if_pos rfl] at h
  unfold bid1 bid2 at h
  obtain ⟨h1, t, r, e2, h3, h4, h5⟩ := amt_zero h
  obtain ⟨h6, m, r2, e7, h8⟩ := ex_zero h1
  rw [h1] at e2
  obtain ⟨b, s1, s2⟩ : ∃ b s1 s2, (b, s1, s2) = scanL L ts := ⟨_, _, _, rfl⟩
  obtain ⟨s2, hs⟩ := s2
  rw [← hs] at e2 h6 e7
  simp only at e2 h6 e7
  subst h6 e7
  rw [nxt_yes] at e2
  subst e2
  exact ⟨rfl, b, m, t, r, hs.symm, h8, h3, h4, h5, bid_yes hs.symm h8 h3 h4 h5⟩
theorem rdL_dead {rd : List Tk → Int → Nd × List Tk × Int} (hrd : ∀ ts er, er ≠ 0 → (rd ts er).2.2 ≠ 0) : ∀ (g : Nat) (ts : List Tk) (er : Int), er ≠ 0 → (rdL rd g ts er).2.2 ≠ 0
  | 0, _, er, h => by rw [rdL]; simp only; rw [if_neg h]; exact h
  | g + 1, ts, er, h => by
    rw [rdL]
    split
    · exact rdL_dead hrd g _ _ (hrd _ _ h)
    · exact h
theorem end_dead {n : Nd} {ts : List Tk} {er : Int} (h : er ≠ 0) : (endP n ts er).2.2 ≠ 0 := by unfold endP; rw [ex_dead h]; exact h
theorem bid_dead {L : List Pr} {ts : List Tk} {er : Int} (h : er ≠ 0) : (bid L ts er).2.2.2 ≠ 0 := fun e => h (bid_zero e).1
theorem amt_dead {M : Int} {ts : List Tk} {er : Int} (h : er ≠ 0) : amtE M ts er ≠ 0 := fun e => h (amt_zero e).1
theorem body2_dead {L : List Pr} {o : Int} {a : Nd} {ts : List Tk} {er : Int} (h : er ≠ 0) : (body2 L o a ts er).2.2 ≠ 0 := by
  unfold body2
  split
  · exact end_dead (bid_dead h)
  · exact end_dead (amt_dead h)
theorem body_dead {L : List Pr} {o : Int} {a : Nd × List Tk × Int} {q : List Nd × List Tk × Int} (h : a.2.2 ≠ 0) (hq : q.2.2 ≠ 0) : (body L o a q).2.2 ≠ 0 := by
  unfold body
  split
  · exact end_dead hq
  · exact body2_dead (by rw [ex_dead h]; exact h)
theorem rd_dead {L : List Pr} : ∀ (f : Nat) (ts : List Tk) (er : Int), er ≠ 0 → (rdE L f ts er).2.2 ≠ 0
  | 0, _, er, h => by rw [rdE]; simp only; rw [if_neg h]; exact h
  | f + 1, ts, er, h => by
    rw [rdE]
    split
    · exact bid_dead h
    · split
      · first | exact h | (simp only; rw [if_neg h]; exact h)
      · have h1 := rd_dead (L := L) f (nxt (ts.drop 1) (exE 40 (ts.drop 1) er)) (exE 40 (ts.drop 1) er) (by rw [ex_dead h]; exact h)
        exact body_dead h1 (rdL_dead (fun ts er => rd_dead f ts er) f _ _ h1)
theorem op_ways (w : List UInt8) : opW w = 0 ∨ opW w = 2 ∨ opW w = 3 ∨ opW w = 4 ∨ opW w = 5 := by
  unfold opW
  repeat' split
  all_goals simp
theorem rdL_nil {rd : List Tk → Int → Nd × List Tk × Int} {g : Nat} {ts : List Tk} {er : Int} (h : isO 44 ts[0]? = false) : rdL rd (g + 1) ts er = ([], ts, er) := by
  rw [rdL, if_neg (by rw [h]; decide)]
theorem rdL_cons {rd : List Tk → Int → Nd × List Tk × Int} {g : Nat} {m : Tk} {ts r1 r : List Tk} {a : Nd} {l : List Nd} (hm : isM 44 m = true) (h1 : rd ts 0 = (a, r1, 0)) (h2 : rdL rd g r1 0 = (l, r, 0)) : rdL rd (g + 1) (m :: ts) 0 = (a :: l, r, 0) := by
  have e : isO 44 (m :: ts)[0]? = true := hm
  rw [rdL, if_pos e]
  show ((rd ts 0).1 :: (rdL rd g (rd ts 0).2.1 (rd ts 0).2.2).1, (rdL rd g (rd ts 0).2.1 (rd ts 0).2.2).2) = _
  rw [h1, h2]
theorem end_yes {n : Nd} {c : Tk} {r : List Tk} (h : isM 41 c = true) : endP n (c :: r) 0 = (n, r, 0) := by
  unfold endP
  rw [ex_yes h]; rfl
theorem end_zero {n : Nd} {ts : List Tk} {er : Int} (h : (endP n ts er).2.2 = 0) : er = 0 ∧ ∃ c r, ts = c :: r ∧ isM 41 c = true ∧ endP n ts er = (n, r, 0) := by
  obtain ⟨h1, c, r, h2, h3⟩ := ex_zero h
  subst h1 h2
  exact ⟨rfl, c, r, rfl, h3, end_yes h3⟩
theorem rd_atom {L : List Pr} {f : Nat} {ts r : List Tk} {b : List Int} {v : Int} (h : hk ts ≠ 1) (hb : bid L ts 0 = (b, v, r, 0)) : rdE L (f + 1) ts 0 = (⟨1, b, v, .nil⟩, r, 0) := by
  rw [rdE, if_pos h, hb]; rfl
theorem rd_word {L : List Pr} {f : Nat} {t m : Tk} {t2 r1 : List Tk} {a : Nd} (h1 : t.kind = 1) (ho : opW t.text ≠ 0) (hm : isM 40 m = true) (ha : rdE L f t2 0 = (a, r1, 0)) :
    rdE L (f + 1) (t :: m :: t2) 0 = body L (opW t.text) (a, r1, 0) (rdL (rdE L f) f r1 0) := by
  have e1 : hk (t :: m :: t2) = 1 := h1
  have e2 : hw (t :: m :: t2) = t.text := rfl
  rw [rdE, if_neg (by rw [e1]; simp), e2, if_neg ho]
  show body L (opW t.text) (rdE L f (nxt (m :: t2) (exE 40 (m :: t2) 0)) (exE 40 (m :: t2) 0)) (rdL (rdE L f) f (rdE L f (nxt (m :: t2) (exE 40 (m :: t2) 0)) (exE 40 (m :: t2) 0)).2.1 (rdE L f (nxt (m :: t2) (exE 40 (m :: t2) 0)) (exE 40 (m :: t2) 0)).2.2) = _
  rw [ex_yes hm, nxt_yes, ha]
theorem rd_list {L : List Pr} {f : Nat} {t m c : Tk} {t2 r1 r : List Tk} {a : Nd} {l : List Nd} (h1 : t.kind = 1) (ho : opW t.text = 2 ∨ opW t.text = 3) (hm : isM 40 m = true) (ha : rdE L f t2 0 = (a, r1, 0)) (hl : rdL (rdE L f) f r1 0 = (l, c :: r, 0)) (hc : isM 41 c = true) :
    rdE L (f + 1) (t :: m :: t2) 0 = (⟨opW t.text, MC.Z6, 0, mkF (a :: l)⟩, r, 0) := by
  rw [rd_word h1 (by omega) hm ha, hl]
  unfold body
  rw [if_pos ho]
  exact end_yes hc
theorem rd_bonus {L : List Pr} {f : Nat} {t m c d : Tk} {t2 r2 r : List Tk} {a : Nd} {b : List Int} {v : Int} (h1 : t.kind = 1) (ho : opW t.text = 4) (hm : isM 40 m = true) (ha : rdE L f t2 0 = (a, c :: r2, 0)) (hc : isM 44 c = true) (hb : bid L r2 0 = (b, v, d :: r, 0)) (hd : isM 41 d = true) :
    rdE L (f + 1) (t :: m :: t2) 0 = (⟨4, b, v, mkF [a]⟩, r, 0) := by
  rw [rd_word h1 (by omega) hm ha, ho]
  unfold body
  rw [if_neg (by decide)]
  simp only [ex_yes hc, nxt_yes]
  unfold body2
  rw [if_pos rfl, hb]
  exact end_yes hd
theorem rd_limit {L : List Pr} {f : Nat} {t m c d v : Tk} {t2 r : List Tk} {a : Nd} (h1 : t.kind = 1) (ho : opW t.text = 5) (hm : isM 40 m = true) (ha : rdE L f t2 0 = (a, c :: v :: d :: r, 0)) (hc : isM 44 c = true) (hv : v.kind = 2) (h0 : 0 ≤ v.value) (hM : v.value ≤ 1000000) (hd : isM 41 d = true) :
    rdE L (f + 1) (t :: m :: t2) 0 = (⟨5, MC.Z6, v.value, mkF [a]⟩, r, 0) := by
  rw [rd_word h1 (by omega) hm ha, ho]
  unfold body
  rw [if_neg (by decide)]
  simp only [ex_yes hc, nxt_yes]
  unfold body2
  rw [if_neg (by decide), amt_yes hv h0 hM, amtV_yes hv h0 hM]
  exact end_yes hd
/-- What is read without an error. -/
theorem rd_inv {L : List Pr} {f : Nat} {ts r : List Tk} {er : Int} {n : Nd} (h : rdE L (f + 1) ts er = (n, r, 0)) : er = 0 ∧
    ((hk ts ≠ 1 ∧ ∃ b v, bid L ts 0 = (b, v, r, 0) ∧ n = ⟨1, b, v, .nil⟩) ∨
     ∃ t m t2 a r1, ts = t :: m :: t2 ∧ t.kind = 1 ∧ isM 40 m = true ∧ rdE L f t2 0 = (a, r1, 0) ∧
      (((opW t.text = 2 ∨ opW t.text = 3) ∧ ∃ l c, rdL (rdE L f) f r1 0 = (l, c :: r, 0) ∧ isM 41 c = true ∧ n = ⟨opW t.text, MC.Z6, 0, mkF (a :: l)⟩) ∨
       (opW t.text = 4 ∧ ∃ c r2 b v d, r1 = c :: r2 ∧ isM 44 c = true ∧ bid L r2 0 = (b, v, d :: r, 0) ∧ isM 41 d = true ∧ n = ⟨4, b, v, mkF [a]⟩) ∨
       (opW t.text = 5 ∧ ∃ c v d, r1 = c :: v :: d :: r ∧ isM 44 c = true ∧ v.kind = 2 ∧ 0 ≤ v.value ∧ v.value ≤ 1000000 ∧ isM 41 d = true ∧ n = ⟨5, MC.Z6, v.value, mkF [a]⟩))) := by
  have hz : (rdE L (f + 1) ts er).2.2 = 0 := by rw [h]
  have h0 : er = 0 := by
    by_cases e : er = 0
    · exact e
    · exact absurd hz (rd_dead _ _ _ e)
  subst h0
  refine ⟨rfl, ?_⟩
  rw [rdE] at h hz
  by_cases h1 : hk ts ≠ 1
  · rw [if_pos h1] at h hz
    obtain ⟨_, b, m, t, r', _, _, _, _, _, e⟩ := bid_zero hz
    rw [e] at h
    have h2 : ((⟨1, b, t.value, .nil⟩ : Nd), r', (0 : Int)) = (n, r, 0) := h
    simp only [Prod.mk.injEq] at h2
    obtain ⟨rfl, rfl, _⟩ := h2
    exact .inl ⟨h1, b, _, e, rfl⟩
  · rw [if_neg h1] at h hz
    by_cases h2 : opW (hw ts) = 0
    · rw [if_pos h2] at h; simp at h
    · rw [if_neg h2] at h hz
      right
      cases ts with
      | nil => exact absurd (show hk [] ≠ 1 by simp [hk]) h1
      | cons t t1 =>
        have hk1 : t.kind = 1 := by simpa [hk] using h1
        have hw1 : hw (t :: t1) = t.text := rfl
        rw [hw1] at h hz h2
        rw [List.drop_succ_cons, List.drop_zero] at h hz
        have ha0 : (rdE L f (nxt t1 (exE 40 t1 0)) (exE 40 t1 0)).2.2 = 0 := by
          by_cases e : (rdE L f (nxt t1 (exE 40 t1 0)) (exE 40 t1 0)).2.2 = 0
          · exact e
          · exact absurd hz (body_dead e (rdL_dead (fun ts er => rd_dead f ts er) f _ _ e))
        have he0 : exE 40 t1 0 = 0 := by
          by_cases e : exE 40 t1 0 = 0
          · exact e
          · exact absurd ha0 (rd_dead _ _ _ e)
        obtain ⟨_, m, t2, rfl, hm⟩ := ex_zero he0
        rw [he0, nxt_yes] at h hz ha0
        obtain ⟨a, r1, e1, ha⟩ : ∃ a r1 e1, rdE L f t2 0 = (a, r1, e1) := ⟨_, _, _, rfl⟩
        rw [ha] at h hz ha0
        simp only at ha0
        subst ha0
        refine ⟨t, m, t2, a, r1, rfl, hk1, hm, ha, ?_⟩
        rcases op_ways t.text with ho | ho | ho | ho | ho
        · exact absurd ho h2
        · left
          unfold body at h hz
          rw [if_pos (.inl ho)] at h hz
          obtain ⟨q0, c, r', q1, q2, q3⟩ := end_zero hz
          rw [q3] at h
          simp only [Prod.mk.injEq] at h
          obtain ⟨rfl, rfl, _⟩ := h
          exact ⟨.inl ho, (rdL (rdE L f) f r1 0).1, c, Prod.ext rfl (Prod.ext q1 q0), q2, rfl⟩
        · left
          unfold body at h hz
          rw [if_pos (.inr ho)] at h hz
          obtain ⟨q0, c, r', q1, q2, q3⟩ := end_zero hz
          rw [q3] at h
          simp only [Prod.mk.injEq] at h
          obtain ⟨rfl, rfl, _⟩ := h
          exact ⟨.inr ho, (rdL (rdE L f) f r1 0).1, c, Prod.ext rfl (Prod.ext q1 q0), q2, rfl⟩
        · right; left
          unfold body at h hz
          rw [if_neg (by omega)] at h hz
          simp only at h hz
          unfold body2 at h hz
          rw [if_pos ho] at h hz
          obtain ⟨q0, d, r', q1, q2, q3⟩ := end_zero hz
          obtain ⟨p0, b, m', v, r2', s1, s2, s3, s4, s5, s6⟩ := bid_zero q0
          obtain ⟨_, c, r2, rfl, hc⟩ := ex_zero p0
          rw [ex_yes hc, nxt_yes] at s6 h q1
          rw [s6] at q1 h
          dsimp only at q1 h
          subst q1
          rw [show endP ⟨4, b, v.value, mkF [a]⟩ (d :: r') 0 = (⟨4, b, v.value, mkF [a]⟩, r', 0) from end_yes q2] at h
          simp only [Prod.mk.injEq] at h
          obtain ⟨rfl, rfl, _⟩ := h
          exact ⟨ho, c, r2, b, _, d, rfl, hc, s6, q2, rfl⟩
        · right; right
          unfold body at h hz
          rw [if_neg (by omega)] at h hz
          simp only at h hz
          unfold body2 at h hz
          rw [if_neg (by omega)] at h hz
          obtain ⟨q0, d, r', q1, q2, q3⟩ := end_zero hz
          obtain ⟨p0, v, r2', p1, p2, p3, p4⟩ := amt_zero q0
          obtain ⟨_, c, r2, rfl, hc⟩ := ex_zero p0
          rw [ex_yes hc, nxt_yes] at p1
          subst p1
          rw [ex_yes hc, nxt_yes, amt_yes p2 p3 p4, nxt_yes] at q1
          subst q1
          rw [ex_yes hc, nxt_yes, amt_yes p2 p3 p4, nxt_yes, amtV_yes p2 p3 p4, end_yes q2, ho] at h
          simp only [Prod.mk.injEq] at h
          obtain ⟨rfl, rfl, _⟩ := h
          exact ⟨ho, c, v, d, rfl, hc, p2, p3, p4, q2, rfl⟩
end Go.Proofs.YtcokplikmjegcaaDoor.MX
namespace Go.Proofs.YtcokplikmjegcaaDoor.MX
open MC (Pr isO isM wrongE scanL mkT nmT)
open ME (F Nd)
/-! What is left is an end of the tokens. -/
theorem nxt_suf (ts : List Tk) (er : Int) : nxt ts er <:+ ts := by
  unfold nxt
  split
  · exact List.drop_suffix _ _
  · exact List.nil_suffix
theorem elems_suf (l : List Pr) : ∀ (f : Nat) (b : List Int) (ts : List Tk), (MC.elems l f b ts).2.1 <:+ ts
  | 0, _, _ => List.nil_suffix
  | f + 1, b, ts => by
    rw [MC.elems]
    split
    · split
      · exact List.drop_suffix _ _
      · exact (elems_suf l f _ _).trans (List.drop_suffix _ _)
    · exact List.nil_suffix
theorem scan_suf (l : List Pr) (ts : List Tk) : (scanL l ts).2.1 <:+ ts := by
  unfold scanL
  split
  · split
    · exact List.drop_suffix _ _
    · exact (elems_suf l _ _ _).trans (List.drop_suffix _ _)
  · exact List.nil_suffix
theorem scanU_suf (l : List Pr) (ts : List Tk) (er : Int) : (scanU l ts er).2.1 <:+ ts := by
  unfold scanU
  split
  · exact scan_suf l ts
  · exact List.nil_suffix
theorem bid_suf (l : List Pr) (ts : List Tk) (er : Int) : (bid l ts er).2.2.1 <:+ ts := by
  unfold bid bid1 bid2
  exact (nxt_suf _ _).trans ((nxt_suf _ _).trans (scanU_suf l ts er))
theorem end_suf (n : Nd) (ts : List Tk) (er : Int) : (endP n ts er).2.1 <:+ ts := nxt_suf _ _
theorem rdL_suf {rd : List Tk → Int → Nd × List Tk × Int} (h : ∀ ts er, (rd ts er).2.1 <:+ ts) : ∀ (g : Nat) (ts : List Tk) (er : Int), (rdL rd g ts er).2.1 <:+ ts
  | 0, _, _ => List.nil_suffix
  | g + 1, ts, er => by
    rw [rdL]
    split
    · exact (rdL_suf h g _ _).trans ((h _ _).trans (List.drop_suffix _ _))
    · exact List.suffix_rfl
theorem rd_suf (L : List Pr) : ∀ (f : Nat) (ts : List Tk) (er : Int), (rdE L f ts er).2.1 <:+ ts
  | 0, _, _ => List.nil_suffix
  | f + 1, ts, er => by
    rw [rdE]
    split
    · exact bid_suf L ts er
    · split
      · exact List.nil_suffix
      · have h1 : (rdE L f (nxt (ts.drop 1) (exE 40 (ts.drop 1) er)) (exE 40 (ts.drop 1) er)).2.1 <:+ ts := (rd_suf L f _ _).trans ((nxt_suf _ _).trans (List.drop_suffix _ _))
        unfold body
        split
        · exact (end_suf _ _ _).trans ((rdL_suf (fun ts er => rd_suf L f ts er) _ _ _).trans h1)
        · unfold body2
          split
          · exact (end_suf _ _ _).trans ((bid_suf _ _ _).trans ((nxt_suf _ _).trans h1))
          · exact (end_suf _ _ _).trans ((nxt_suf _ _).trans ((nxt_suf _ _).trans h1))
/-! More tokens behind do not matter. -/
theorem elems_mono {l : List Pr} : ∀ (f : Nat) (b : List Int) (ts : List Tk) (b' : List Int) (r : List Tk), MC.elems l f b ts = (b', r, 0) → ∀ (x : List Tk) (g : Nat), (ts ++ x).length < g → MC.elems l g b (ts ++ x) = (b', r ++ x, 0)
  | 0, b, ts, b', r, h => by simp [MC.elems] at h
  | f + 1, b, ts, b', r, h => fun x g hg => by
    obtain ⟨g, rfl⟩ : ∃ g', g = g' + 1 := ⟨g - 1, by omega⟩
    by_cases h0 : MC.elE l b ts = 0
    · obtain ⟨t, m, v, e, r0, k, rfl, _⟩ := MC.elE_zero h0
      have h0' : MC.elE l b (t :: m :: v :: e :: r0 ++ x) = 0 := h0
      cases h1 : isO 125 (t :: m :: v :: e :: r0)[3]? with
      | true =>
        rw [MC.elems_end h0 h1] at h
        simp only [Prod.mk.injEq] at h
        obtain ⟨rfl, rfl, _⟩ := h
        rw [MC.elems_end h0' h1]; rfl
      | false =>
        rw [MC.elems_on h0 h1] at h
        have := elems_mono f _ _ _ _ h x g (by simp only [List.drop_succ_cons, List.drop_zero, List.length_append, List.length_cons] at hg ⊢; omega)
        rw [MC.elems_on h0' h1]
        exact this
    · rw [MC.elems_bad h0] at h
      simp only [Prod.mk.injEq] at h
      exact absurd h.2.2 h0
theorem scan_head {l : List Pr} {ts r : List Tk} {b : List Int} (h : scanL l ts = (b, r, 0)) : isO 123 ts[0]? = true := by
  cases h0 : isO 123 ts[0]? with
  | true => rfl
  | false => rw [MC.scan_bad h0] at h; simp only [Prod.mk.injEq] at h; exact absurd h.2.2 (wrong_ne _)
theorem scan_mono {l : List Pr} {ts r : List Tk} {b : List Int} (h : scanL l ts = (b, r, 0)) (x : List Tk) : scanL l (ts ++ x) = (b, r ++ x, 0) := by
  have h0 := scan_head h
  obtain ⟨m, t1, rfl, hm⟩ := isO_cons h0
  have h0' : isO 123 (m :: t1 ++ x)[0]? = true := h0
  cases h1 : isO 125 (m :: t1)[1]? with
  | true =>
    obtain ⟨u, t2, rfl, hu⟩ := isO_cons (ts := t1) h1
    rw [MC.scan_empty h0 h1] at h
    simp only [Prod.mk.injEq] at h
    obtain ⟨rfl, rfl, _⟩ := h
    rw [MC.scan_empty h0' h1]; rfl
  | false =>
    rw [MC.scan_on h0 h1] at h
    have hne : t1 ≠ [] := by
      rintro rfl
      rw [show ([m] : List Tk).length + 1 = 1 + 1 from rfl, MC.elems_bad (by show (1 : Int) ≠ 0; decide)] at h
      simp only [Prod.mk.injEq] at h
      exact absurd h.2.2 (by show (1 : Int) ≠ 0; decide)
    obtain ⟨u, t2, rfl⟩ : ∃ u t2, t1 = u :: t2 := by
      cases t1 with
      | nil => exact absurd rfl hne
      | cons u t2 => exact ⟨u, t2, rfl⟩
    have h1' : isO 125 (m :: u :: t2 ++ x)[1]? = false := h1
    rw [MC.scan_on h0' h1']
    exact elems_mono _ _ _ _ _ h x _ (by simp)
theorem bid_mono {L : List Pr} {ts r : List Tk} {b : List Int} {v : Int} (h : bid L ts 0 = (b, v, r, 0)) (x : List Tk) : bid L (ts ++ x) 0 = (b, v, r ++ x, 0) := by
  obtain ⟨_, b', m, t, r', s1, s2, s3, s4, s5, s6⟩ := bid_zero (L := L) (ts := ts) (er := 0) (by rw [h])
  rw [s6] at h
  simp only [Prod.mk.injEq] at h
  obtain ⟨rfl, rfl, rfl, _⟩ := h
  exact bid_yes (scan_mono s1 x) s2 s3 s4 s5
theorem bid_less {L : List Pr} {ts r : List Tk} {b : List Int} {v : Int} (h : bid L ts 0 = (b, v, r, 0)) : r.length < ts.length := by
  obtain ⟨_, b', m, t, r', s1, s2, s3, s4, s5, s6⟩ := bid_zero (L := L) (ts := ts) (er := 0) (by rw [h])
  rw [s6] at h
  simp only [Prod.mk.injEq] at h
  obtain ⟨rfl, rfl, rfl, _⟩ := h
  have := (scan_suf L ts).length_le
  rw [s1] at this
  simp only [List.length_cons] at this
  omega
theorem rdL_inv {rd : List Tk → Int → Nd × List Tk × Int} (hrd : ∀ ts er, er ≠ 0 → (rd ts er).2.2 ≠ 0) {g : Nat} {ts r : List Tk} {er : Int} {l : List Nd} (h : rdL rd (g + 1) ts er = (l, r, 0)) :
    er = 0 ∧ ((isO 44 ts[0]? = false ∧ l = [] ∧ r = ts) ∨ ∃ m t a r1 l', ts = m :: t ∧ isM 44 m = true ∧ rd t 0 = (a, r1, 0) ∧ rdL rd g r1 0 = (l', r, 0) ∧ l = a :: l') := by
  have hz : (rdL rd (g + 1) ts er).2.2 = 0 := by rw [h]
  have h0 : er = 0 := by
    by_cases e : er = 0
    · exact e
    · exact absurd hz (rdL_dead hrd _ _ _ e)
  subst h0
  refine ⟨rfl, ?_⟩
  cases hb : isO 44 ts[0]? with
  | false =>
    rw [rdL_nil hb] at h
    simp only [Prod.mk.injEq] at h
    exact .inl ⟨rfl, h.1.symm, h.2.1.symm⟩
  | true =>
    obtain ⟨m, t, rfl, hm⟩ := isO_cons hb
    rw [rdL, if_pos hb] at h hz
    rw [List.drop_succ_cons, List.drop_zero] at h hz
    have ha : (rd t 0).2.2 = 0 := by
      by_cases e : (rd t 0).2.2 = 0
      · exact e
      · exact absurd hz (rdL_dead hrd _ _ _ e)
    rw [ha] at h
    simp only [Prod.mk.injEq] at h
    exact .inr ⟨m, t, (rd t 0).1, (rd t 0).2.1, (rdL rd g (rd t 0).2.1 0).1, rfl, hm, Prod.ext rfl (Prod.ext rfl ha), Prod.ext rfl h.2, h.1.symm⟩
theorem rdL_mono {L : List Pr} {f : Nat} (ih : ∀ ts n r, rdE L f ts 0 = (n, r, 0) → (∀ (x : List Tk) (g : Nat), ts.length + x.length < g → rdE L g (ts ++ x) 0 = (n, r ++ x, 0)) ∧ r.length < ts.length) :
    ∀ (h : Nat) (ts : List Tk) (l : List Nd) (r : List Tk), rdL (rdE L f) h ts 0 = (l, r, 0) → r ≠ [] → (∀ (x : List Tk) (g h' : Nat), ts.length + x.length < g → ts.length + x.length < h' → rdL (rdE L g) h' (ts ++ x) 0 = (l, r ++ x, 0)) ∧ r.length ≤ ts.length
  | 0, ts, l, r, h, _ => by simp [rdL] at h
  | h0 + 1, ts, l, r, h, hr => by
    obtain ⟨_, ⟨h1, rfl, rfl⟩ | ⟨m, t, a, r1, l', rfl, hm, h2, h3, rfl⟩⟩ := rdL_inv (fun ts er => rd_dead f ts er) h
    · refine ⟨fun x g h' _ hh => ?_, Nat.le_refl _⟩
      obtain ⟨h', rfl⟩ : ∃ k, h' = k + 1 := ⟨h' - 1, by omega⟩
      cases r with
      | nil => exact absurd rfl hr
      | cons u us => exact rdL_nil h1
    · obtain ⟨i1, i2⟩ := ih _ _ _ h2
      obtain ⟨j1, j2⟩ := rdL_mono ih h0 _ _ _ h3 hr
      refine ⟨fun x g h' hg hh => ?_, by simp only [List.length_cons]; omega⟩
      obtain ⟨h', rfl⟩ : ∃ k, h' = k + 1 := ⟨h' - 1, by omega⟩
      simp only [List.length_cons] at hg hh
      exact rdL_cons hm (i1 x g (by omega)) (j1 x g h' (by omega) (by omega))
theorem rd_mono {L : List Pr} : ∀ (f : Nat) (ts : List Tk) (n : Nd) (r : List Tk), rdE L f ts 0 = (n, r, 0) → (∀ (x : List Tk) (g : Nat), ts.length + x.length < g → rdE L g (ts ++ x) 0 = (n, r ++ x, 0)) ∧ r.length < ts.length
  | 0, ts, n, r, h => by simp [rdE] at h
  | f + 1, ts, n, r, h => by
    obtain ⟨_, ⟨h1, b, v, h2, rfl⟩ | ⟨t, m, t2, a, r1, rfl, hk1, hm, ha, hw⟩⟩ := rd_inv h
    · refine ⟨fun x g hg => ?_, bid_less h2⟩
      obtain ⟨g, rfl⟩ : ∃ k, g = k + 1 := ⟨g - 1, by omega⟩
      have hne := bid_less h2
      cases ts with
      | nil => simp at hne
      | cons u us => exact rd_atom (show hk (u :: us ++ x) ≠ 1 from h1) (bid_mono h2 x)
    · obtain ⟨i1, i2⟩ := rd_mono f _ _ _ ha
      rcases hw with ⟨ho, l, c, hl, hc, rfl⟩ | ⟨ho, c, r2, b, v, d, rfl, hc, hb, hd, rfl⟩ | ⟨ho, c, v, d, rfl, hc, hv, hv0, hv1, hd, rfl⟩
      · obtain ⟨j1, j2⟩ := rdL_mono (fun ts n r => rd_mono f ts n r) _ _ _ _ hl (by simp)
        refine ⟨fun x g hg => ?_, by simp only [List.length_cons] at j2 ⊢; omega⟩
        obtain ⟨g, rfl⟩ : ∃ k, g = k + 1 := ⟨g - 1, by omega⟩
        simp only [List.length_cons] at hg j2
        exact rd_list hk1 ho hm (i1 x g (by omega)) (j1 x g g (by omega) (by omega)) hc
      · have hle := bid_less hb
        refine ⟨fun x g hg => ?_, by simp only [List.length_cons] at i2 hle ⊢; omega⟩
        obtain ⟨g, rfl⟩ : ∃ k, g = k + 1 := ⟨g - 1, by omega⟩
        simp only [List.length_cons] at hg
        exact rd_bonus hk1 ho hm (i1 x g (by omega)) hc (bid_mono hb x) hd
      · refine ⟨fun x g hg => ?_, by simp only [List.length_cons] at i2 ⊢; omega⟩
        obtain ⟨g, rfl⟩ : ∃ k, g = k + 1 := ⟨g - 1, by omega⟩
        simp only [List.length_cons] at hg
        exact rd_limit hk1 ho hm (i1 x g (by omega)) hc hv hv0 hv1 hd
/-! Bundles that were read fit the products. -/
theorem fits_set {l : List Pr} {b : List Int} {k : Nat} {v : Int} (h : MC.Fits l b ∧ b.length = 6) (hk : k < l.length) (hk6 : k < 6) (h1 : 1 ≤ v) (h4 : v ≤ 4) : MC.Fits l (b.set k v) ∧ (b.set k v).length = 6 := by
  obtain ⟨⟨a, c, d⟩, e⟩ := h
  refine ⟨⟨a, ?_, fun j hj => ?_⟩, by rw [List.length_set]; exact e⟩
  · unfold MB.okB at c ⊢
    rw [List.all_eq_true] at c ⊢
    intro q hq
    rcases List.mem_or_eq_of_mem_set hq with g | g
    · exact c q g
    · subst g; simp; omega
  · rw [MC.at_set (by rw [e]; exact hk6), if_neg (by omega)]
    exact d j hj
theorem elems_fits {l : List Pr} (hl : l.length ≤ 6) : ∀ (f : Nat) (b : List Int) (ts : List Tk) (b' : List Int) (r : List Tk), MC.elems l f b ts = (b', r, 0) → MC.Fits l b ∧ b.length = 6 → MC.Fits l b' ∧ b'.length = 6
  | 0, b, ts, b', r, h, _ => by simp [MC.elems] at h
  | f + 1, b, ts, b', r, h, hb => by
    by_cases h0 : MC.elE l b ts = 0
    · obtain ⟨t, m, v, e, r0, k, rfl, hx⟩ := MC.elE_zero h0
      obtain ⟨_, hf, _, _, _, hv1, hv4, _, hB⟩ := hx
      have hk := MC.find_lt hf
      have hF := fits_set hb hk (by omega) hv1 hv4
      cases h1 : isO 125 (t :: m :: v :: e :: r0)[3]? with
      | true =>
        rw [MC.elems_end h0 h1, hB] at h
        simp only [Prod.mk.injEq] at h
        obtain ⟨rfl, _⟩ := h
        exact hF
      | false =>
        rw [MC.elems_on h0 h1, hB] at h
        exact elems_fits hl f _ _ _ _ h hF
    · rw [MC.elems_bad h0] at h
      simp only [Prod.mk.injEq] at h
      exact absurd h.2.2 h0
theorem fits_zero {l : List Pr} (h : MC.chkL l = 0) : MC.Fits l MC.Z6 ∧ MC.Z6.length = 6 := by
  refine ⟨⟨h, rfl, fun j _ => ?_⟩, rfl⟩
  by_cases hk : j < 6
  · have : j = 0 ∨ j = 1 ∨ j = 2 ∨ j = 3 ∨ j = 4 ∨ j = 5 := by omega
    rcases this with rfl | rfl | rfl | rfl | rfl | rfl <;> rfl
  · unfold MB.at_; rw [List.getD_eq_getElem?_getD, List.getElem?_eq_none (by show 6 ≤ j; omega)]; rfl
theorem scan_fits {l : List Pr} (hc : MC.chkL l = 0) {ts r : List Tk} {b : List Int} (h : scanL l ts = (b, r, 0)) : MC.Fits l b ∧ b.length = 6 := by
  have hl := (MC.chk_good hc).few
  have h0 := scan_head h
  cases h1 : isO 125 ts[1]? with
  | true =>
    rw [MC.scan_empty h0 h1] at h
    simp only [Prod.mk.injEq] at h
    obtain ⟨rfl, _⟩ := h
    exact fits_zero hc
  | false =>
    rw [MC.scan_on h0 h1] at h
    exact elems_fits hl _ _ _ _ _ h (fits_zero hc)
theorem bid_fits {l : List Pr} (hc : MC.chkL l = 0) {ts r : List Tk} {b : List Int} {v : Int} (h : bid l ts 0 = (b, v, r, 0)) : MC.Fits l b ∧ b.length = 6 := by
  obtain ⟨_, b', m, t, r', s1, s2, s3, s4, s5, s6⟩ := bid_zero (L := l) (ts := ts) (er := 0) (by rw [h])
  rw [s6] at h
  simp only [Prod.mk.injEq] at h
  obtain ⟨rfl, _⟩ := h
  exact scan_fits hc s1
def FitF (L : List Pr) (l : List Nd) : Prop := ∀ x ∈ l, MC.Fits L x.b ∧ x.b.length = 6
theorem mkF_pre : ∀ l : List Nd, (mkF l).pre = l.flatMap Nd.pre
  | [] => rfl
  | n :: r => by rw [mkF, F.pre, mkF_pre r, List.flatMap_cons]; rfl
theorem rdL_fits {L : List Pr} {f : Nat} (ih : ∀ ts n r, rdE L f ts 0 = (n, r, 0) → FitF L n.pre) : ∀ (h : Nat) (ts : List Tk) (l : List Nd) (r : List Tk), rdL (rdE L f) h ts 0 = (l, r, 0) → FitF L (l.flatMap Nd.pre)
  | 0, ts, l, r, h => by simp [rdL] at h
  | h0 + 1, ts, l, r, h => by
    obtain ⟨_, ⟨h1, rfl, rfl⟩ | ⟨m, t, a, r1, l', rfl, hm, h2, h3, rfl⟩⟩ := rdL_inv (fun ts er => rd_dead f ts er) h
    · intro x hx; cases hx
    · intro x hx
      rw [List.flatMap_cons] at hx
      rcases List.mem_append.1 hx with g | g
      · exact ih _ _ _ h2 x g
      · exact rdL_fits ih h0 _ _ _ h3 x g
theorem rd_fits {L : List Pr} (hc : MC.chkL L = 0) : ∀ (f : Nat) (ts : List Tk) (n : Nd) (r : List Tk), rdE L f ts 0 = (n, r, 0) → FitF L n.pre
  | 0, ts, n, r, h => by simp [rdE] at h
  | f + 1, ts, n, r, h => by
    obtain ⟨_, ⟨h1, b, v, h2, rfl⟩ | ⟨t, m, t2, a, r1, rfl, hk1, hm, ha, hw⟩⟩ := rd_inv h
    · intro x hx
      have : x = ⟨1, b, v, .nil⟩ := by simpa [Nd.pre, F.pre] using hx
      rw [this]; exact bid_fits hc h2
    · have i1 := rd_fits hc f _ _ _ ha
      rcases hw with ⟨ho, l, c, hl, hc', rfl⟩ | ⟨ho, c, r2, b, v, d, rfl, hc', hb, hd, rfl⟩ | ⟨ho, c, v, d, rfl, hc', hv, hv0, hv1, hd, rfl⟩
      · intro x hx
        rcases List.mem_cons.1 hx with g | g
        · rw [g]; exact fits_zero hc
        · have g' : x ∈ (mkF (a :: l)).pre := g
          rw [mkF_pre, List.flatMap_cons] at g'
          rcases List.mem_append.1 g' with q | q
          · exact i1 x q
          · exact rdL_fits (fun ts n r => rd_fits hc f ts n r) _ _ _ _ hl x q
      · intro x hx
        rcases List.mem_cons.1 hx with g | g
        · rw [g]; exact bid_fits hc hb
        · have g' : x ∈ (mkF [a]).pre := g
          rw [mkF_pre, List.flatMap_cons, List.flatMap_nil, List.append_nil] at g'
          exact i1 x g'
      · intro x hx
        rcases List.mem_cons.1 hx with g | g
        · rw [g]; exact fits_zero hc
        · have g' : x ∈ (mkF [a]).pre := g
          rw [mkF_pre, List.flatMap_cons, List.flatMap_nil, List.append_nil] at g'
          exact i1 x g'
/-! Places make no difference. -/
theorem ex_bare (c : UInt8) (ts : List Tk) (er : Int) : exE c (ts.map MC.Tk.bare) er = exE c ts er := by
  unfold exE
  rw [List.getElem?_map, MC.isO_bare, MC.wrongE_bare]
theorem nxt_bare (ts : List Tk) (er : Int) : nxt (ts.map MC.Tk.bare) er = (nxt ts er).map MC.Tk.bare := by
  unfold nxt
  split
  · rw [List.map_drop]
  · rfl
theorem amt_bare (M : Int) (ts : List Tk) (er : Int) : amtE M (ts.map MC.Tk.bare) er = amtE M ts er := by
  unfold amtE
  cases ts <;> rfl
theorem amtV_bare (M : Int) (ts : List Tk) (er : Int) : amtV M (ts.map MC.Tk.bare) er = amtV M ts er := by
  unfold amtV
  rw [amt_bare]
  cases ts <;> rfl
theorem scanU_bare (L : List Pr) (ts : List Tk) (er : Int) : scanU L (ts.map MC.Tk.bare) er = ((scanU L ts er).1, (scanU L ts er).2.1.map MC.Tk.bare, (scanU L ts er).2.2) := by
  unfold scanU
  split
  · exact MC.scan_bare L ts
  · rfl
theorem bid_bare (L : List Pr) (ts : List Tk) (er : Int) : bid L (ts.map MC.Tk.bare) er = ((bid L ts er).1, (bid L ts er).2.1, (bid L ts er).2.2.1.map MC.Tk.bare, (bid L ts er).2.2.2) := by
  unfold bid
  rw [scanU_bare]
  unfold bid1 bid2
  simp only [ex_bare, nxt_bare, amt_bare, amtV_bare]
theorem hk_bare (ts : List Tk) : hk (ts.map MC.Tk.bare) = hk ts := by cases ts <;> rfl
theorem hw_bare (ts : List Tk) : hw (ts.map MC.Tk.bare) = hw ts := by cases ts <;> rfl
theorem end_bare (n : Nd) (ts : List Tk) (er : Int) : endP n (ts.map MC.Tk.bare) er = ((endP n ts er).1, (endP n ts er).2.1.map MC.Tk.bare, (endP n ts er).2.2) := by
  unfold endP
  simp only [ex_bare, nxt_bare]
theorem rdL_bare {rd : List Tk → Int → Nd × List Tk × Int} (h : ∀ ts er, rd (ts.map MC.Tk.bare) er = ((rd ts er).1, (rd ts er).2.1.map MC.Tk.bare, (rd ts er).2.2)) : ∀ (g : Nat) (ts : List Tk) (er : Int), rdL rd g (ts.map MC.Tk.bare) er = ((rdL rd g ts er).1, (rdL rd g ts er).2.1.map MC.Tk.bare, (rdL rd g ts er).2.2)
  | 0, _, _ => rfl
  | g + 1, ts, er => by
    rw [rdL, rdL, List.getElem?_map, MC.isO_bare]
    split
    · rw [← List.map_drop, h]
      simp only [rdL_bare h g]
    · rfl
theorem rd_bare (L : List Pr) : ∀ (f : Nat) (ts : List Tk) (er : Int), rdE L f (ts.map MC.Tk.bare) er = ((rdE L f ts er).1, (rdE L f ts er).2.1.map MC.Tk.bare, (rdE L f ts er).2.2)
  | 0, _, _ => rfl
  | f + 1, ts, er => by
    rw [rdE, rdE, hk_bare, hw_bare]
    split
    · rw [bid_bare]; rfl
    · split
      · rfl
      · rw [← List.map_drop, ex_bare, nxt_bare, rd_bare L f]
        simp only [rdL_bare (fun ts er => rd_bare L f ts er)]
        unfold body
        split
        · rw [end_bare]
        · unfold body2
          simp only [ex_bare, nxt_bare, bid_bare, amt_bare, amtV_bare]
          split
          · rw [end_bare]
          · rw [end_bare]
end Go.Proofs.YtcokplikmjegcaaDoor.MX
