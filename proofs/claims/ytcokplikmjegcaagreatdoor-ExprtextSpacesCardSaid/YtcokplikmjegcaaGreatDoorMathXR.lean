/- The text of an expression is read back: plain theorems, no claim of their own. -/
import Derived.Test.YtcokplikmjegcaaGreatDoorJD
namespace Go.Proofs.YtcokplikmjegcaaGreatDoor.MX
open MC (Pr isO isM wrongE scanL mkT nmT flat)
open ME (F Nd)
def joinC : List (List UInt8) → List UInt8
  | [] => []
  | [x] => x
  | x :: y :: r => x ++ 44 :: joinC (y :: r)
def bidT (L : List Pr) (b : List Int) (v : Int) : List UInt8 := MC.textL L b ++ 64 :: MU.num v
/-- The text of a node, by those of its arguments. -/
def nodeT (L : List Pr) (o : Int) (b : List Int) (v : Int) (ks : List (List UInt8)) : List UInt8 :=
  if o = 1 then bidT L b v
  else if o = 2 then xorW ++ 40 :: (joinC ks ++ [41])
  else if o = 3 then orW ++ 40 :: (joinC ks ++ [41])
  else if o = 4 then bonusW ++ 40 :: (joinC ks ++ 44 :: (bidT L b v ++ [41]))
  else limitW ++ 40 :: (joinC ks ++ 44 :: (MU.num v ++ [41]))
def txF (L : List Pr) : F → List (List UInt8)
  | .nil => []
  | .cons o b v k r => nodeT L o b v (txF L k) :: txF L r
def txN (L : List Pr) (n : Nd) : List UInt8 := nodeT L n.o n.b n.v (txF L n.k)
theorem txF_roots (L : List Pr) : ∀ k : F, txF L k = k.roots.map (txN L)
  | .nil => rfl
  | .cons o b v k r => by rw [txF, F.roots, List.map_cons, txF_roots L r]; rfl
def FitN (L : List Pr) (n : Nd) : Prop := ∀ x ∈ n.pre, MC.Fits L x.b
open Classical in
/-- What Format answers. -/
noncomputable def fmtE (L : List Pr) (n : Nd) : List UInt8 × Int :=
  if MC.chkL L ≠ 0 then ([], MC.chkL L) else if ME.checkE n ≠ 0 then ([], ME.checkE n) else if ¬ FitN L n then ([], 4) else if 4000 < (txN L n).length then ([], 3) else (txN L n, 0)
/-- The tokens of a text. -/
def amT (v : Int) : Tk := ⟨2, MU.num v, v, 0⟩
def bidK (L : List Pr) (b : List Int) (v : Int) : List Tk := mkT 123 :: (MC.joinK L b (MC.upK b L.length) ++ [mkT 64, amT v])
def joinKs : List (List Tk) → List Tk
  | [] => []
  | [x] => x
  | x :: y :: r => x ++ mkT 44 :: joinKs (y :: r)
def nodeK (L : List Pr) (o : Int) (b : List Int) (v : Int) (ks : List (List Tk)) : List Tk :=
  if o = 1 then bidK L b v
  else if o = 2 then nmT xorW :: mkT 40 :: (joinKs ks ++ [mkT 41])
  else if o = 3 then nmT orW :: mkT 40 :: (joinKs ks ++ [mkT 41])
  else if o = 4 then nmT bonusW :: mkT 40 :: (joinKs ks ++ mkT 44 :: (bidK L b v ++ [mkT 41]))
  else nmT limitW :: mkT 40 :: (joinKs ks ++ [mkT 44, amT v, mkT 41])
def tkF (L : List Pr) : F → List (List Tk)
  | .nil => []
  | .cons o b v k r => nodeK L o b v (tkF L k) :: tkF L r
def tkN (L : List Pr) (n : Nd) : List Tk := nodeK L n.o n.b n.v (tkF L n.k)
theorem tkF_roots (L : List Pr) : ∀ k : F, tkF L k = k.roots.map (tkN L)
  | .nil => rfl
  | .cons o b v k r => by rw [tkF, F.roots, List.map_cons, tkF_roots L r]; rfl
theorem flat_joinKs : ∀ ks : List (List Tk), flat (joinKs ks) = joinC (ks.map flat)
  | [] => rfl
  | [x] => rfl
  | x :: y :: r => by
    rw [joinKs, MC.flat_append, MC.flat, flat_joinKs (y :: r)]; rfl
theorem flat_bidK (L : List Pr) (b : List Int) (v : Int) : flat (bidK L b v) = bidT L b v := by
  unfold bidK bidT
  rw [MC.text_flat, MC.flat, MC.flat, MC.flat_append, List.append_assoc]
  simp [MC.flat, mkT, amT]
theorem flat_nodeK (L : List Pr) (o : Int) (b : List Int) (v : Int) (ks : List (List Tk)) : flat (nodeK L o b v ks) = nodeT L o b v (ks.map flat) := by
  unfold nodeK nodeT
  split
  · exact flat_bidK L b v
  · split
    · simp [MC.flat, MC.flat_append, flat_joinKs, mkT, nmT]
    · split
      · simp [MC.flat, MC.flat_append, flat_joinKs, mkT, nmT]
      · split
        · simp [MC.flat, MC.flat_append, flat_joinKs, flat_bidK, mkT, nmT]
        · simp [MC.flat, MC.flat_append, flat_joinKs, mkT, nmT, amT]
theorem flat_tkF (L : List Pr) : ∀ k : F, (tkF L k).map flat = txF L k
  | .nil => rfl
  | .cons o b v k r => by rw [tkF, txF, List.map_cons, flat_nodeK, flat_tkF L k, flat_tkF L r]
theorem flat_tkN (L : List Pr) (n : Nd) : flat (tkN L n) = txN L n := by unfold tkN txN; rw [flat_nodeK, flat_tkF]
/-! Words and numbers stand before marks. -/
def Mk (t : Tk) : Prop := ∃ c : UInt8, markN c.toNat = true ∧ t = mkT c
def Wd (t : Tk) : Prop := (∃ n, nameB n = true ∧ t = nmT n) ∨ ∃ v : Int, 0 ≤ v ∧ v ≤ 1000000 ∧ t = amT v
def Good : List Tk → Prop
  | [] => True
  | t :: r => (Mk t ∨ (Wd t ∧ ∀ u s, r = u :: s → Mk u)) ∧ Good r
theorem mk_of {c : UInt8} (h : markN c.toNat = true) : Mk (mkT c) := ⟨c, h, rfl⟩
theorem good_nil : Good [] := trivial
theorem good_mk {m : Tk} {r : List Tk} (h : Mk m) (hr : Good r) : Good (m :: r) := ⟨.inl h, hr⟩
theorem good_wd {t m : Tk} {r : List Tk} (h : Wd t) (hm : Mk m) (hr : Good (m :: r)) : Good (t :: m :: r) := ⟨.inr ⟨h, fun u s e => by injection e with e _; rw [← e]; exact hm⟩, hr⟩
theorem good_end {t : Tk} (h : Wd t) : Good [t] := ⟨.inr ⟨h, fun u s e => by cases e⟩, trivial⟩
theorem good_app {m : Tk} {b : List Tk} (hm : Mk m) (hb : Good (m :: b)) : ∀ {a : List Tk}, Good a → Good (a ++ m :: b)
  | [], _ => hb
  | [t], ⟨h, _⟩ => ⟨h.imp (fun q => q) (fun q => ⟨q.1, fun u s e => by
      have e' : m :: b = u :: s := e
      injection e' with e' _; rw [← e']; exact hm⟩), hb⟩
  | t :: u :: a, ⟨h, h2⟩ => ⟨h.imp (fun q => q) (fun q => ⟨q.1, fun x s e => by
      have e' : u :: (a ++ m :: b) = x :: s := e
      injection e' with e' _; rw [← e']; exact q.2 u a rfl⟩), good_app hm hb h2⟩
theorem dg_am {q : Int} (h0 : 0 ≤ q) (h4 : q ≤ 4) : MC.dgT q = amT q := by
  unfold MC.dgT amT
  rw [MU.num_pos h0, MU.dec_small (by omega)]
  rfl
theorem good_joinK {l : List Pr} {b : List Int} : ∀ (r : List Nat), (∀ k ∈ r, nameB (MC.nameK l k) = true ∧ 0 ≤ MB.at_ b k ∧ MB.at_ b k ≤ 4) → Good (MC.joinK l b r)
  | [], _ => good_mk (mk_of (by decide)) good_nil
  | [k], h => by
    obtain ⟨h1, h2, h3⟩ := h k (by simp)
    show Good [nmT (MC.nameK l k), mkT 58, MC.dgT (MB.at_ b k), mkT 125]
    rw [dg_am h2 h3]
    exact good_wd (.inl ⟨_, h1, rfl⟩) (mk_of (by decide)) (good_mk (mk_of (by decide)) (good_wd (.inr ⟨_, h2, by omega, rfl⟩) (mk_of (by decide)) (good_mk (mk_of (by decide)) good_nil)))
  | k :: j :: r, h => by
    obtain ⟨h1, h2, h3⟩ := h k (by simp)
    show Good (nmT (MC.nameK l k) :: mkT 58 :: MC.dgT (MB.at_ b k) :: mkT 44 :: MC.joinK l b (j :: r))
    rw [dg_am h2 h3]
    exact good_wd (.inl ⟨_, h1, rfl⟩) (mk_of (by decide)) (good_mk (mk_of (by decide)) (good_wd (.inr ⟨_, h2, by omega, rfl⟩) (mk_of (by decide)) (good_mk (mk_of (by decide)) (good_joinK (j :: r) fun i hi => h i (by simp only [List.mem_cons] at hi ⊢; exact .inr hi)))))
theorem good_bidK {L : List Pr} {b : List Int} {v : Int} (h : MC.Fits L b) (h0 : 0 ≤ v) (h1 : v ≤ 1000000) : Good (bidK L b v) :=
  good_mk (mk_of (by decide)) (good_app (mk_of (by decide)) (good_mk (mk_of (by decide)) (good_end (.inr ⟨v, h0, h1, rfl⟩))) (good_joinK _ fun k hk => by
    obtain ⟨a1, _, _, a4, a5⟩ := h.each k hk
    exact ⟨a1, by omega, a5⟩))
theorem good_joinKs : ∀ (ks : List (List Tk)), (∀ k ∈ ks, Good k) → Good (joinKs ks)
  | [], _ => trivial
  | [x], h => h x (by simp)
  | x :: y :: r, h => good_app (mk_of (by decide)) (good_mk (mk_of (by decide)) (good_joinKs (y :: r) fun k hk => h k (by simp only [List.mem_cons] at hk ⊢; exact .inr hk))) (h x (by simp))
/-- What is known of the nodes of an expression with a text. -/
def OkN (L : List Pr) (x : Nd) : Prop := ME.nodeE x = 0 ∧ MC.Fits L x.b ∧ x.b.length = 6
theorem node_form {x : Nd} (h : ME.nodeE x = 0) : ME.formB x = true ∧ ME.rangeB x = true := by
  unfold ME.nodeE at h
  cases h1 : ME.formB x with
  | false => rw [h1] at h; simp at h
  | true =>
    cases h2 : ME.rangeB x with
    | false => rw [h1, h2] at h; simp at h
    | true => exact ⟨rfl, rfl⟩
/-- The five kinds of nodes. -/
theorem node_ways {x : Nd} (h : ME.nodeE x = 0) : (x.o = 1 ∧ x.k.len = 0 ∧ 1 ≤ x.v ∧ x.v ≤ 1000000) ∨ ((x.o = 2 ∨ x.o = 3) ∧ 1 ≤ x.k.len ∧ x.b = ME.zero6 ∧ x.v = 0) ∨ (x.o = 4 ∧ x.k.len = 1 ∧ 1 ≤ x.v ∧ x.v ≤ 1000000) ∨ (x.o = 5 ∧ x.k.len = 1 ∧ x.b = ME.zero6 ∧ 1 ≤ x.v ∧ x.v ≤ 1000000) := by
  obtain ⟨h1, h2⟩ := node_form h
  unfold ME.formB at h1
  unfold ME.rangeB at h2
  by_cases c1 : x.o = 1
  · rw [if_pos c1] at h1
    rw [if_neg (by omega)] at h2
    by_cases hv : x.v < 1 ∨ 1000000 < x.v
    · rw [if_pos hv] at h2; cases h2
    · exact .inl ⟨c1, of_decide_eq_true h1, by omega, by omega⟩
  · rw [if_neg c1] at h1
    by_cases c2 : x.o = 2 ∨ x.o = 3
    · rw [if_pos c2] at h1
      simp only [Bool.and_eq_true, decide_eq_true_eq] at h1
      exact .inr (.inl ⟨c2, h1.1.1.1, h1.1.2, h1.2⟩)
    · rw [if_neg c2] at h1 h2
      have hv : ¬ (x.v < 1 ∨ 1000000 < x.v) := fun hv => by rw [if_pos hv] at h2; cases h2
      by_cases c4 : x.o = 4
      · rw [if_pos c4] at h1
        exact .inr (.inr (.inl ⟨c4, of_decide_eq_true h1, by omega, by omega⟩))
      · rw [if_neg c4] at h1
        by_cases c5 : x.o = 5
        · rw [if_pos c5] at h1
          simp only [Bool.and_eq_true, decide_eq_true_eq] at h1
          exact .inr (.inr (.inr ⟨c5, h1.1, h1.2, by omega, by omega⟩))
        · rw [if_neg c5] at h1; cases h1
theorem good_tkF {L : List Pr} : ∀ (k : F), (∀ x ∈ k.pre, OkN L x) → ∀ t ∈ tkF L k, Good t
  | .nil, _, t, ht => by cases ht
  | .cons o b v k r, h, t, ht => by
    rw [tkF] at ht
    rcases List.mem_cons.1 ht with rfl | ht
    · have hx := h ⟨o, b, v, k⟩ (by simp [F.pre])
      have hk := good_tkF k (fun x hx => h x (by simp [F.pre, hx]))
      have hj := good_joinKs _ hk
      have mk : ∀ {c : UInt8}, markN c.toNat = true → Mk (mkT c) := fun h => mk_of h
      unfold nodeK
      rcases node_ways hx.1 with ⟨c, _, v1, v2⟩ | ⟨c, _⟩ | ⟨c, _, v1, v2⟩ | ⟨c, _, _, v1, v2⟩
      · have c : o = 1 := c
        rw [if_pos c]
        exact good_bidK hx.2.1 (by have v1 : 1 ≤ v := v1; omega) v2
      · have c : o = 2 ∨ o = 3 := c
        have hz : Good (joinKs (tkF L k) ++ mkT 41 :: []) := good_app (mk (by decide)) (good_mk (mk (by decide)) good_nil) hj
        rw [if_neg (by omega)]
        rcases c with c | c
        · rw [if_pos c]
          exact good_wd (.inl ⟨_, by decide, rfl⟩) (mk (by decide)) (good_mk (mk (by decide)) hz)
        · rw [if_neg (by omega), if_pos c]
          exact good_wd (.inl ⟨_, by decide, rfl⟩) (mk (by decide)) (good_mk (mk (by decide)) hz)
      · have c : o = 4 := c
        rw [if_neg (by omega), if_neg (by omega), if_neg (by omega), if_pos c]
        exact good_wd (.inl ⟨_, by decide, rfl⟩) (mk (by decide)) (good_mk (mk (by decide)) (good_app (mk (by decide)) (good_mk (mk (by decide)) (good_app (mk (by decide)) (good_mk (mk (by decide)) good_nil) (good_bidK hx.2.1 (by have v1 : 1 ≤ v := v1; omega) v2))) hj))
      · have c : o = 5 := c
        have v1 : 1 ≤ v := v1
        rw [if_neg (by omega), if_neg (by omega), if_neg (by omega), if_neg (by omega)]
        exact good_wd (.inl ⟨_, by decide, rfl⟩) (mk (by decide)) (good_mk (mk (by decide)) (good_app (mk (by decide)) (good_mk (mk (by decide)) (good_wd (.inr ⟨v, by omega, v2, rfl⟩) (mk (by decide)) (good_mk (mk (by decide)) good_nil))) hj))
    · exact good_tkF r (fun x hx => h x (by simp [F.pre, hx])) t ht
theorem good_tkN {L : List Pr} {n : Nd} (h : ∀ x ∈ n.pre, OkN L x) : Good (tkN L n) :=
  good_tkF n.f (fun x hx => h x (by rwa [Nd.f_pre] at hx)) _ (by unfold Nd.f; rw [tkF]; exact List.mem_cons_self)
theorem lex_am {v : Int} {r : List UInt8} (h0 : 0 ≤ v) (h1 : v ≤ 1000000) (hr : ∀ c s, r = c :: s → digitN c.toNat = false) : MC.Lex (amT v) r := by
  have hn : MU.num v = MU.dec v.toNat := MU.num_pos h0
  have hl : (MU.dec v.toNat).length ≤ 7 := MU.dec_len (m := 6) (by omega)
  have hV := MU.numV_dec v.toNat
  have hf : fits digitN (MU.dec v.toNat ++ r) = MU.dec v.toNat := MC.fits_all (MU.dec_fits _) hr
  have hz : ∀ c s, MU.dec v.toNat = c :: s → ¬ (c.toNat = 48 ∧ 1 < (MU.dec v.toNat).length) := fun c s e => by
    by_cases hv : v.toNat = 0
    · rw [hv, MU.dec_small (by omega)]; simp
    · obtain ⟨c', r', e', hc'⟩ := MU.dec_head (n := v.toNat) (by omega)
      rw [e] at e'; injection e' with e' _; subst e'
      exact fun g => hc' g.1
  have hd := MU.dec_digits v.toNat
  have hne := MU.dec_ne v.toNat
  unfold MC.Lex amT
  dsimp only
  rw [hn]
  generalize MU.dec v.toNat = w at *
  cases w with
  | nil => exact absurd rfl hne
  | cons c s =>
    have hc := digitN_yes.1 (hd c (by simp))
    refine ⟨by simp, fun c' s' e => by injection e with e _; subst e; omega, ?_⟩
    rw [List.cons_append] at hf
    rw [List.cons_append, oneT_cons, if_neg (by rw [letterN_no.2 (by omega)]; decide), if_pos (hd c (by simp)), hf, if_neg (hz c s rfl), if_neg (by omega), hV, Int.toNat_of_nonneg h0]
    rfl
theorem good_lex : ∀ {ts : List Tk}, Good ts → MC.LexAll ts
  | [], _ => trivial
  | t :: r, ⟨h, hr⟩ => by
    refine ⟨?_, good_lex hr⟩
    rcases h with ⟨c, hc, rfl⟩ | ⟨hw, hn⟩
    · exact MC.lex_mark hc _
    · have hp : ∀ c s, flat r = c :: s → markN c.toNat = true := fun c s e => by
        cases r with
        | nil => cases e
        | cons u s' =>
          obtain ⟨d, hd, rfl⟩ := hn u s' rfl
          have e' : d :: flat s' = c :: s := e
          injection e' with e' _; rw [← e']; exact hd
      have hm : ∀ c : UInt8, markN c.toNat = true → partN c.toNat = false ∧ digitN c.toNat = false := fun c h => by
        have := markN_yes.1 h
        have h1 := letterN_no.2 (show c.toNat < 97 ∨ 122 < c.toNat by omega)
        have h2 := digitN_no.2 (show c.toNat < 48 ∨ 57 < c.toNat by omega)
        refine ⟨?_, h2⟩
        unfold partN
        rw [h1, h2]; simp; omega
      rcases hw with ⟨n, hn', rfl⟩ | ⟨v, h0, h1, rfl⟩
      · exact MC.lex_name hn' fun c s e => (hm c (hp c s e)).1
      · exact lex_am h0 h1 fun c s e => (hm c (hp c s e)).2
theorem good_bare : ∀ {ts : List Tk}, Good ts → ∀ t ∈ ts, t.at_ = 0
  | [], _, t, h => by cases h
  | u :: r, ⟨h, hr⟩, t, ht => by
    rcases List.mem_cons.1 ht with rfl | ht
    · rcases h with ⟨c, _, rfl⟩ | ⟨⟨n, _, rfl⟩ | ⟨v, _, _, rfl⟩, _⟩ <;> rfl
    · exact good_bare hr t ht
/-! Reading. -/
def tailK (L : List Pr) (l : List Nd) : List Tk := l.flatMap fun x => mkT 44 :: tkN L x
theorem joinKs_cons : ∀ (x : List Tk) (r : List (List Tk)), joinKs (x :: r) = x ++ r.flatMap (fun y => mkT 44 :: y)
  | x, [] => by simp [joinKs]
  | x, y :: r => by rw [joinKs, joinKs_cons y r]; simp
theorem mkF_roots : ∀ k : F, mkF k.roots = k
  | .nil => rfl
  | .cons o b v k r => by rw [F.roots, mkF, mkF_roots r]
theorem join_tail (L : List Pr) (a : Nd) (l : List Nd) : joinKs ((a :: l).map (tkN L)) = tkN L a ++ tailK L l := by
  rw [List.map_cons, joinKs_cons]
  unfold tailK
  rw [List.flatMap_map]
def Back (L : List Pr) (n : Nd) : Prop := ∀ (rest : List Tk) (f : Nat), (tkN L n).length + rest.length < f → rdE L f (tkN L n ++ rest) 0 = (n, rest, 0)
theorem rdL_back {L : List Pr} : ∀ (l : List Nd), (∀ x ∈ l, Back L x) → ∀ (rest : List Tk) (f g : Nat), (tailK L l).length + rest.length + 1 < f → (tailK L l).length < g → rdL (rdE L f) g (tailK L l ++ mkT 41 :: rest) 0 = (l, mkT 41 :: rest, 0)
  | [], _, rest, f, g, _, hg => by
    obtain ⟨g, rfl⟩ : ∃ k, g = k + 1 := ⟨g - 1, by omega⟩
    exact rdL_nil rfl
  | x :: l, h, rest, f, g, hf, hg => by
    obtain ⟨g, rfl⟩ : ∃ k, g = k + 1 := ⟨g - 1, by omega⟩
    have e : tailK L (x :: l) = mkT 44 :: (tkN L x ++ tailK L l) := by unfold tailK; rw [List.flatMap_cons]; rfl
    rw [e, List.length_cons, List.length_append] at hf hg
    rw [e, List.cons_append, List.append_assoc]
    exact rdL_cons (by rfl) (h x (by simp) _ f (by simp only [List.length_append, List.length_cons]; omega)) (rdL_back l (fun y hy => h y (by simp [hy])) rest f g (by omega) (by omega))
theorem bid_back {L : List Pr} {b : List Int} {v : Int} (h : MC.Fits L b) (h6 : b.length = 6) (h0 : 0 ≤ v) (h1 : v ≤ 1000000) (rest : List Tk) : bid L (bidK L b v ++ rest) 0 = (b, v, rest, 0) := by
  have hs := scan_mono (h.scan h6) (mkT 64 :: amT v :: rest)
  refine bid_yes (t := amT v) (m := mkT 64) ?_ (by rfl) rfl h0 h1
  rw [← show mkT 123 :: MC.joinK L b (MC.upK b L.length) ++ mkT 64 :: amT v :: rest = bidK L b v ++ rest by unfold bidK; simp]
  rw [hs]; rfl
theorem roots_one {k : F} (h : k.len = 1) : ∃ a, k.roots = [a] ∧ mkF [a] = k := by
  cases k with
  | nil => simp [F.len] at h
  | cons o b v k r =>
    simp only [F.len] at h
    have hr : r = .nil := F.len_zero (by omega)
    subst hr
    exact ⟨⟨o, b, v, k⟩, rfl, rfl⟩
theorem roots_some {k : F} (h : 1 ≤ k.len) : ∃ a l, k.roots = a :: l ∧ mkF (a :: l) = k := by
  cases k with
  | nil => simp [F.len] at h
  | cons o b v k r => exact ⟨⟨o, b, v, k⟩, r.roots, rfl, by rw [mkF, mkF_roots]⟩
theorem rd_back {L : List Pr} : ∀ (k : F), (∀ x ∈ k.pre, OkN L x) → ∀ n ∈ k.roots, Back L n
  | .nil, _, n, hn => by cases hn
  | .cons o b v k r, h, n, hn => by
    rw [F.roots] at hn
    rcases List.mem_cons.1 hn with rfl | hn
    · have hx := h ⟨o, b, v, k⟩ (by simp [F.pre])
      have hk := rd_back k (fun x hx => h x (by simp [F.pre, hx]))
      intro rest f hf
      obtain ⟨f, rfl⟩ : ∃ g, f = g + 1 := ⟨f - 1, by omega⟩
      unfold tkN at hf ⊢
      dsimp only at hf ⊢
      unfold nodeK at hf ⊢
      rcases node_ways hx.1 with ⟨c, hl, v1, v2⟩ | ⟨c, hl, hb, hv⟩ | ⟨c, hl, v1, v2⟩ | ⟨c, hl, hb, v1, v2⟩
      · have c : o = 1 := c
        have hl : k.len = 0 := hl
        have v1 : 1 ≤ v := v1
        rw [if_pos c] at hf ⊢
        rw [rd_atom (by show (3 : Int) ≠ 1; decide) (bid_back hx.2.1 hx.2.2 (by omega) v2 rest), c, F.len_zero hl]
      · have c : o = 2 ∨ o = 3 := c
        have hl : 1 ≤ k.len := hl
        have hb : b = ME.zero6 := hb
        have hv : v = 0 := hv
        obtain ⟨a, l, er, em⟩ := roots_some hl
        rw [tkF_roots, er, join_tail] at hf ⊢
        rw [if_neg (by omega)] at hf ⊢
        have main : ∀ w : List UInt8, opW w = o → (tkN L a ++ tailK L l).length + 3 + rest.length < f + 1 → rdE L (f + 1) (nmT w :: mkT 40 :: (tkN L a ++ tailK L l ++ [mkT 41]) ++ rest) 0 = (⟨o, b, v, k⟩, rest, 0) := by
          intro w hw hff
          rw [List.length_append] at hff
          have e : nmT w :: mkT 40 :: (tkN L a ++ tailK L l ++ [mkT 41]) ++ rest = nmT w :: mkT 40 :: (tkN L a ++ (tailK L l ++ mkT 41 :: rest)) := by simp
          have := rd_list (L := L) (f := f) (t := nmT w) (m := mkT 40) (c := mkT 41) (a := a) (l := l) (t2 := tkN L a ++ (tailK L l ++ mkT 41 :: rest)) (r1 := tailK L l ++ mkT 41 :: rest) (r := rest) rfl (by show opW w = 2 ∨ opW w = 3; omega) (by rfl)
            (hk a (by rw [er]; simp) _ f (by simp only [List.length_append, List.length_cons]; omega))
            (rdL_back l (fun x hx => hk x (by rw [er]; simp [hx])) rest f f (by omega) (by omega)) (by rfl)
          rw [e, this, em, hb, hv]
          show ((⟨opW w, MC.Z6, 0, k⟩ : Nd), rest, (0 : Int)) = _
          rw [hw]; rfl
        have hn : ∀ w, (nmT w :: mkT 40 :: (tkN L a ++ tailK L l ++ [mkT 41])).length = (tkN L a ++ tailK L l).length + 3 := fun w => by simp only [List.length_cons, List.length_append, List.length_nil]
        rcases c with c | c
        · rw [if_pos c] at hf ⊢
          exact main xorW (by rw [c]; rfl) (by rw [hn] at hf; omega)
        · rw [if_neg (by omega), if_pos c] at hf ⊢
          exact main orW (by rw [c]; rfl) (by rw [hn] at hf; omega)
      · have c : o = 4 := c
        have hl : k.len = 1 := hl
        have v1 : 1 ≤ v := v1
        obtain ⟨a, er, em⟩ := roots_one hl
        rw [tkF_roots, er] at hf ⊢
        rw [if_neg (by omega), if_neg (by omega), if_neg (by omega), if_pos c] at hf ⊢
        have ej : joinKs ([a].map (tkN L)) = tkN L a := rfl
        rw [ej] at hf ⊢
        have e : nmT bonusW :: mkT 40 :: (tkN L a ++ mkT 44 :: (bidK L b v ++ [mkT 41])) ++ rest = nmT bonusW :: mkT 40 :: (tkN L a ++ mkT 44 :: (bidK L b v ++ mkT 41 :: rest)) := by simp
        rw [e]
        simp only [List.length_append, List.length_cons, List.length_nil] at hf
        have := rd_bonus (L := L) (f := f) (t := nmT bonusW) (m := mkT 40) (c := mkT 44) (d := mkT 41) (a := a) rfl (by rfl) (by rfl)
          (hk a (by rw [er]; simp) (mkT 44 :: (bidK L b v ++ mkT 41 :: rest)) f (by simp only [List.length_append, List.length_cons]; omega)) (by rfl) (bid_back hx.2.1 hx.2.2 (by omega) v2 _) (by rfl)
        rw [this, em, c]
      · have c : o = 5 := c
        have hl : k.len = 1 := hl
        have v1 : 1 ≤ v := v1
        have hb : b = ME.zero6 := hb
        obtain ⟨a, er, em⟩ := roots_one hl
        rw [tkF_roots, er] at hf ⊢
        rw [if_neg (by omega), if_neg (by omega), if_neg (by omega), if_neg (by omega)] at hf ⊢
        have ej : joinKs ([a].map (tkN L)) = tkN L a := rfl
        rw [ej] at hf ⊢
        have e : nmT limitW :: mkT 40 :: (tkN L a ++ [mkT 44, amT v, mkT 41]) ++ rest = nmT limitW :: mkT 40 :: (tkN L a ++ mkT 44 :: amT v :: mkT 41 :: rest) := by simp
        rw [e]
        simp only [List.length_append, List.length_cons, List.length_nil] at hf
        have := rd_limit (L := L) (f := f) (t := nmT limitW) (m := mkT 40) (c := mkT 44) (v := amT v) (d := mkT 41) (a := a) (r := rest) rfl (by rfl) (by rfl)
          (hk a (by rw [er]; simp) (mkT 44 :: amT v :: mkT 41 :: rest) f (by simp only [List.length_cons]; omega)) (by rfl) rfl (by show 0 ≤ v; omega) v2 (by rfl)
        rw [this, em, c, hb]; rfl
    · exact rd_back r (fun x hx => h x (by simp [F.pre, hx])) n hn
theorem back_of {L : List Pr} {n : Nd} (h : ∀ x ∈ n.pre, OkN L x) : Back L n :=
  rd_back n.f (fun x hx => h x (by rwa [Nd.f_pre] at hx)) n (by unfold Nd.f F.roots; exact List.mem_cons_self)
theorem parse2_yes {n : Nd} (h : ME.checkE n = 0) : parse2 (n, [], 0) = (n, 0) := by
  unfold parse2 endE
  simp [h]
theorem parse_of {L : List Pr} {n : Nd} {s : List UInt8} {us : List Tk} (hc : MC.chkL L = 0) (hn : ME.checkE n = 0) (hok : ∀ x ∈ n.pre, OkN L x) (ht : toks s = (us, 0)) (hu : us.map MC.Tk.bare = tkN L n) : parseE L s = (n, 0) := by
  have hlen : us.length = (tkN L n).length := by rw [← hu, List.length_map]
  have hb := back_of hok [] (us.length + 1) (by rw [hlen]; simp)
  rw [List.append_nil, ← hu, rd_bare] at hb
  simp only [Prod.mk.injEq, List.map_eq_nil_iff] at hb
  unfold parseE
  rw [if_neg (by omega), ht, if_neg (by simp)]
  dsimp only
  rw [show rdE L (us.length + 1) us 0 = (n, [], 0) from Prod.ext hb.1 (Prod.ext hb.2.1 hb.2.2)]
  exact parse2_yes hn
/-- Parsing the text returns the expression. -/
theorem parse_text {L : List Pr} {n : Nd} (hc : MC.chkL L = 0) (hn : ME.checkE n = 0) (hok : ∀ x ∈ n.pre, OkN L x) (hl : (txN L n).length ≤ 4000) : parseE L (txN L n) = (n, 0) := by
  have hg := good_tkN hok
  rw [← flat_tkN] at hl ⊢
  exact parse_of hc hn hok (MC.toks_all (good_lex hg) hl) (MC.placed_bare 0 _ (good_bare hg))
/-! Spaces. -/
def spc (l : List UInt8) : List UInt8 := l.flatMap fun c => if partN c.toNat = true then [c] else [32, c, 32]
theorem spc_len : ∀ l : List UInt8, (spc l).length ≤ 3 * l.length
  | [] => Nat.zero_le _
  | c :: r => by
    have := spc_len r
    unfold spc at this ⊢
    rw [List.flatMap_cons, List.length_append, List.length_cons]
    split <;> simp only [List.length_cons, List.length_nil] <;> omega
theorem spc_part : ∀ {a : List UInt8} (r : List UInt8), (∀ c ∈ a, partN c.toNat = true) → spc (a ++ r) = a ++ spc r
  | [], _, _ => rfl
  | c :: a, r, h => by
    have := spc_part (a := a) r fun d hd => h d (by simp [hd])
    unfold spc at this ⊢
    rw [List.cons_append, List.flatMap_cons, if_pos (h c (by simp)), this]; rfl
theorem spc_mark {c : UInt8} (r : List UInt8) (h : partN c.toNat = false) : spc (c :: r) = 32 :: c :: 32 :: spc r := by
  unfold spc
  rw [List.flatMap_cons, if_neg (by rw [h]; decide)]; rfl
theorem mark_part {c : UInt8} (h : markN c.toNat = true) : partN c.toNat = false := by
  have := markN_yes.1 h
  unfold partN
  rw [letterN_no.2 (show c.toNat < 97 ∨ 122 < c.toNat by omega), digitN_no.2 (show c.toNat < 48 ∨ 57 < c.toNat by omega)]
  simp; omega
theorem fits_mem {B : Nat → Bool} : ∀ {l : List UInt8} {c : UInt8}, c ∈ fits B l → B c.toNat = true
  | [], c, h => by cases h
  | d :: r, c, h => by
    by_cases hd : B d.toNat = true
    · rw [fits_cons hd] at h
      rcases List.mem_cons.1 h with rfl | h
      · exact hd
      · exact fits_mem h
    · have : fits B (d :: r) = [] := List.takeWhile_cons_of_neg hd
      rw [this] at h; cases h
theorem name_part {n : List UInt8} (h : nameB n = true) : ∀ c ∈ n, partN c.toNat = true := by
  cases n with
  | nil => cases h
  | cons c r =>
    simp only [nameB, Bool.and_eq_true, decide_eq_true_eq] at h
    intro d hd
    rw [← h.2.2] at hd
    exact fits_mem hd
theorem toks_spc : ∀ {ts : List Tk}, Good ts → ∀ (f k : Nat) (out : List Tk), (spc (flat ts)).length < f → ∃ us, toksA f k (spc (flat ts)) out = (out ++ us, 0) ∧ us.map MC.Tk.bare = ts
  | [], _, f, k, out, hf => by
    obtain ⟨f, rfl⟩ : ∃ g, f = g + 1 := ⟨f - 1, by omega⟩
    exact ⟨[], by simp [MC.flat, spc, toksA], rfl⟩
  | t :: r, ⟨h, hr⟩, f, k, out, hf => by
    rcases h with ⟨c, hc, rfl⟩ | ⟨hw, hn⟩
    · have hp := mark_part hc
      have e : spc (flat (mkT c :: r)) = 32 :: c :: 32 :: spc (flat r) := spc_mark (flat r) hp
      rw [e] at hf ⊢
      simp only [List.length_cons] at hf
      obtain ⟨f, rfl⟩ : ∃ g, f = g + 3 := ⟨f - 3, by omega⟩
      have hm := markN_yes.1 hc
      obtain ⟨us, u1, u2⟩ := toks_spc hr f (k + 1 + 1 + 1) (out ++ [(mkT c).put ((k : Nat) + 1 : Nat)]) (by omega)
      refine ⟨(mkT c).put ((k : Nat) + 1 : Nat) :: us, ?_, by rw [List.map_cons, u2]; rfl⟩
      have h3 := (MC.lex_mark hc (32 :: spc (flat r))).2.2
      have h3' : oneT (c :: 32 :: spc (flat r)) = ((mkT c).put 0, 0) := h3
      rw [toksA, if_pos (by rfl), toksA, if_neg (by omega), h3', if_pos rfl]
      show toksA (f + 1) (k + 1 + 1) (32 :: spc (flat r)) _ = _
      rw [toksA, if_pos (by rfl)]
      rw [List.append_assoc] at u1
      exact u1
    · have hh : ∀ c s, spc (flat r) = c :: s → c.toNat = 32 := fun c s e => by
        cases r with
        | nil => cases e
        | cons u s' =>
          obtain ⟨d, hd, rfl⟩ := hn u s' rfl
          have e' : spc (d :: flat s') = c :: s := e
          rw [spc_mark _ (mark_part hd)] at e'
          injection e' with e' _; rw [← e']; rfl
      have key : (∀ c ∈ t.text, partN c.toNat = true) ∧ MC.Lex t (spc (flat r)) ∧ t.at_ = 0 := by
        rcases hw with ⟨n, hn', rfl⟩ | ⟨v, h0, h1, rfl⟩
        · exact ⟨name_part hn', MC.lex_name hn' fun c s e => by rw [hh c s e]; decide, rfl⟩
        · refine ⟨fun c hc => ?_, lex_am h0 h1 fun c s e => by rw [hh c s e]; decide, rfl⟩
          have hc' : c ∈ MU.dec v.toNat := by rw [← MU.num_pos h0]; exact hc
          unfold partN; rw [MU.dec_digits _ c hc']; simp
      obtain ⟨kp, ⟨l1, l2, l3⟩, ka⟩ := key
      have e : spc (flat (t :: r)) = t.text ++ spc (flat r) := spc_part (flat r) kp
      rw [e] at hf ⊢
      obtain ⟨f, rfl⟩ : ∃ g, f = g + 1 := ⟨f - 1, by omega⟩
      cases ht : t.text with
      | nil => exact absurd ht l1
      | cons c s =>
        rw [ht, List.cons_append, List.length_cons, List.length_append] at hf
        obtain ⟨us, u1, u2⟩ := toks_spc hr f (k + (c :: s).length) (out ++ [t.put (k : Nat)]) (by omega)
        refine ⟨t.put (k : Nat) :: us, ?_, ?_⟩
        · rw [ht, List.cons_append] at l3
          rw [List.cons_append, toksA, if_neg (l2 c s ht), l3, if_pos rfl]
          have e1 : (t.put 0).text = c :: s := ht
          have e2 : (t.put 0).put (k : Int) = t.put k := rfl
          simp only [e1, e2]
          rw [show (c :: (s ++ spc (flat r))).drop (c :: s).length = spc (flat r) by simp, u1]
          simp
        · rw [List.map_cons, u2]
          obtain ⟨a1, a2, a3, a4⟩ := t
          simp only at ka
          subst ka; rfl
theorem parse_spc {L : List Pr} {n : Nd} (hc : MC.chkL L = 0) (hn : ME.checkE n = 0) (hok : ∀ x ∈ n.pre, OkN L x) (hl : (spc (txN L n)).length ≤ 4000) : parseE L (spc (txN L n)) = (n, 0) := by
  have hg := good_tkN hok
  rw [← flat_tkN] at hl ⊢
  obtain ⟨us, u1, u2⟩ := toks_spc hg ((spc (flat (tkN L n))).length + 1) 0 [] (by omega)
  refine parse_of hc hn hok (us := us) ?_ u2
  unfold toks
  rw [if_neg (by omega), u1]; rfl
/-! A closing parenthesis behind the text. -/
theorem fits_snoc {B : Nat → Bool} {x : UInt8} (hx : B x.toNat = false) : ∀ l : List UInt8, fits B (l ++ [x]) = fits B l
  | [] => List.takeWhile_cons_of_neg (by simp [hx])
  | c :: r => by
    by_cases hc : B c.toNat = true
    · rw [List.cons_append, fits_cons hc, fits_cons hc, fits_snoc hx r]
    · have h1 : fits B (c :: (r ++ [x])) = [] := List.takeWhile_cons_of_neg hc
      have h2 : fits B (c :: r) = [] := List.takeWhile_cons_of_neg hc
      rw [List.cons_append, h1, h2]
theorem one_snoc (c : UInt8) (r : List UInt8) : oneT (c :: r ++ [41]) = oneT (c :: r) := by
  have h1 : fits partN (c :: (r ++ [41])) = fits partN (c :: r) := fits_snoc (by decide) (c :: r)
  have h2 : fits digitN (c :: (r ++ [41])) = fits digitN (c :: r) := fits_snoc (by decide) (c :: r)
  rw [List.cons_append, oneT_cons, oneT_cons, h1, h2]
theorem toksA_snoc : ∀ (f k : Nat) (l : List UInt8) (out ts : List Tk), toksA f k l out = (ts, 0) → l.length < f → ∀ f', l.length + 1 < f' → ∃ q : Int, toksA f' k (l ++ [41]) out = (ts ++ [(⟨3, [41], 0, q⟩ : Tk)], 0)
  | 0, k, l, out, ts, h, hf, _, _ => by omega
  | f + 1, k, [], out, ts, h, hf, f', hf' => by
    obtain ⟨f', rfl⟩ : ∃ g, f' = g + 2 := ⟨f' - 2, by omega⟩
    have e : ts = out := by
      rw [toksA] at h
      simp only [Prod.mk.injEq] at h
      exact h.1.symm
    subst e
    exact ⟨k, by
      rw [List.nil_append, toksA, if_neg (by decide), if_pos (by rfl)]
      show toksA (f' + 1) (k + 1) [] _ = _
      rw [toksA]; rfl⟩
  | f + 1, k, c :: r, out, ts, h, hf, f', hf' => by
    obtain ⟨f', rfl⟩ : ∃ g, f' = g + 1 := ⟨f' - 1, by omega⟩
    simp only [List.length_cons] at hf hf'
    rw [toksA] at h
    by_cases hc : c.toNat = 32
    · rw [if_pos hc] at h
      obtain ⟨q, hq⟩ := toksA_snoc f (k + 1) r out ts h (by omega) f' (by omega)
      exact ⟨q, by rw [List.cons_append, toksA, if_pos hc, hq]⟩
    · rw [if_neg hc] at h
      by_cases h1 : (oneT (c :: r)).2 = 0
      · rw [if_pos h1] at h
        obtain ⟨n1, n2⟩ := oneT_len h1
        have hd : ((c :: r).drop (oneT (c :: r)).1.text.length).length < f := by rw [List.length_drop, List.length_cons]; omega
        obtain ⟨q, hq⟩ := toksA_snoc f _ _ _ ts h hd f' (by rw [List.length_drop, List.length_cons]; omega)
        refine ⟨q, ?_⟩
        have e := one_snoc c r
        rw [List.cons_append] at e
        rw [List.cons_append, toksA, if_neg hc, e, if_pos h1]
        rw [show (c :: (r ++ [41])).drop (oneT (c :: r)).1.text.length = (c :: r).drop (oneT (c :: r)).1.text.length ++ [41] by
          rw [← List.cons_append, List.drop_append_of_le_length n2]]
        exact hq
      · rw [if_neg h1] at h
        simp only [Prod.mk.injEq] at h
        exact absurd h.2 h1
theorem toks_snoc {l : List UInt8} {ts : List Tk} (h : toks l = (ts, 0)) (hl : l.length < 4000) : ∃ q : Int, toks (l ++ [41]) = (ts ++ [(⟨3, [41], 0, q⟩ : Tk)], 0) := by
  unfold toks at h ⊢
  rw [if_neg (by omega)] at h
  rw [if_neg (by rw [List.length_append, List.length_singleton]; omega)]
  exact toksA_snoc _ 0 l [] ts h (by omega) _ (by rw [List.length_append, List.length_singleton]; omega)
/-- What a text that was read is. -/
theorem parse_inv {L : List Pr} {s : List UInt8} {n : Nd} (h : parseE L s = (n, 0)) : MC.chkL L = 0 ∧ ME.checkE n = 0 ∧ ∃ ts, toks s = (ts, 0) ∧ rdE L (ts.length + 1) ts 0 = (n, [], 0) := by
  unfold parseE at h
  by_cases h1 : MC.chkL L ≠ 0
  · rw [if_pos h1] at h
    simp only [Prod.mk.injEq] at h
    exact absurd h.2 h1
  · rw [if_neg h1] at h
    by_cases h2 : (toks s).2 ≠ 0
    · rw [if_pos h2] at h
      simp only [Prod.mk.injEq] at h
      exact absurd h.2 h2
    · rw [if_neg h2] at h
      unfold parse2 at h
      obtain ⟨q1, q2, q3, hq⟩ : ∃ q1 q2 q3, rdE L ((toks s).1.length + 1) (toks s).1 0 = (q1, q2, q3) := ⟨_, _, _, rfl⟩
      rw [hq] at h
      dsimp only at h
      by_cases h3 : endE q2 q3 ≠ 0
      · rw [if_pos h3] at h
        simp only [Prod.mk.injEq] at h
        exact absurd h.2 h3
      · rw [if_neg h3] at h
        by_cases h4 : ME.checkE q1 ≠ 0
        · rw [if_pos h4] at h
          simp only [Prod.mk.injEq] at h
          exact absurd h.2 h4
        · rw [if_neg h4] at h
          simp only [Prod.mk.injEq] at h
          obtain ⟨rfl, _⟩ := h
          have h5 : endE q2 q3 = 0 := by simpa using h3
          unfold endE at h5
          by_cases e : q2 = []
          · rw [if_pos e] at h5
            exact ⟨by simpa using h1, by simpa using h4, (toks s).1, by rw [← show (toks s).2 = 0 by simpa using h2], by rw [hq, e, h5]⟩
          · rw [if_neg e] at h5; cases h5
theorem parse_more {L : List Pr} {s : List UInt8} {n : Nd} (h : parseE L s = (n, 0)) (hl : s.length < 4000) : parseE L (s ++ [41]) = (nd0, 3) := by
  obtain ⟨h1, h2, ts, h3, h4⟩ := parse_inv h
  obtain ⟨q, hq⟩ := toks_snoc h3 hl
  have h5 := (rd_mono _ _ _ _ h4).1 [(⟨3, [41], 0, q⟩ : Tk)] ((ts ++ [(⟨3, [41], 0, q⟩ : Tk)]).length + 1) (by rw [List.length_append]; simp)
  unfold parseE
  rw [if_neg (by omega), hq, if_neg (by simp)]
  dsimp only
  rw [h5]
  rfl
theorem parse_fits {L : List Pr} {s : List UInt8} {n : Nd} (h : parseE L s = (n, 0)) : FitF L n.pre := by
  obtain ⟨h1, _, ts, _, h4⟩ := parse_inv h
  exact rd_fits h1 _ _ _ _ h4
theorem ok_of {L : List Pr} {n : Nd} (hn : ME.checkE n = 0) (hf : FitN L n) (h6 : ∀ x ∈ n.pre, x.b.length = 6) : ∀ x ∈ n.pre, OkN L x :=
  fun x hx => ⟨(ME.checkE_zero.1 hn).2.2.2 x hx, hf x hx, h6 x hx⟩
/-- What was printed. -/
theorem fmt_inv {L : List Pr} {n : Nd} (h : (fmtE L n).2 = 0) : MC.chkL L = 0 ∧ ME.checkE n = 0 ∧ FitN L n ∧ (txN L n).length ≤ 4000 ∧ fmtE L n = (txN L n, 0) := by
  unfold fmtE at h ⊢
  by_cases h1 : MC.chkL L ≠ 0
  · rw [if_pos h1] at h; exact absurd h h1
  · rw [if_neg h1] at h ⊢
    by_cases h2 : ME.checkE n ≠ 0
    · rw [if_pos h2] at h; exact absurd h h2
    · rw [if_neg h2] at h ⊢
      by_cases h3 : FitN L n
      · rw [if_neg (by simpa using h3)] at h ⊢
        by_cases h4 : 4000 < (txN L n).length
        · rw [if_pos h4] at h; cases h
        · rw [if_neg h4]
          exact ⟨by simpa using h1, by simpa using h2, h3, by omega, rfl⟩
      · rw [if_pos (by simpa using h3)] at h; cases h
theorem fmt_dead {L : List Pr} {n : Nd} (h : (fmtE L n).2 ≠ 0) : (fmtE L n).1 = [] := by
  unfold fmtE at h ⊢
  repeat' split
  all_goals first | rfl | (exfalso; apply h; simp_all)
end Go.Proofs.YtcokplikmjegcaaGreatDoor.MX
