/- The reference's Parse accepts exactly the texts of fractions in lowest terms: no claim of its own. -/
import Derived.Test.YtbllnkhbahenkaaGreatDoorRFParse1
import Derived.Test.YtbllnkhbahenkaaGreatDoorRFParse2
namespace Go.Proofs.YtbllnkhbahenkaaGreatDoor
open Go.RowKit
theorem rparsed (s : ByteArray) (a k : Nat) (hs : s.size ≤ 140737488351232) (ha : (if parseErr s.data.toList = 0 then decVal s.data.toList else 0) = a) (hk : parseErr s.data.toList = k) (w : World) :
    Calls Tryz.prog 26 #[.string s] w (GivesParse a k w) := by subst ha; subst hk; exact rparse_any s w hs
theorem rparse_one (w : World) : Calls Tryz.prog 26 #[.string ⟨#[49]⟩] w (GivesParse 1 0 w) := by
  have h := isText_ok _ _ one_text (by decide)
  exact rparsed ⟨#[49]⟩ 1 0 (by decide) (by rw [if_pos h]; exact isText_dec _ _ one_text) h w
theorem rmake_nought {s : Bool} {A B : Option Addr} {n c m d : Nat} {ys : List Nat} {w : World} (hy : Num w B m d ys 0) :
    Calls Tryz.prog 27 #[.bool s, .slice A n c, .slice B m d] w (GivesFrE ⟨false, 0, 0⟩ 8 w) := by
  obtain rfl := hy.nzero
  exact rmake_zero s A B n c d w
theorem toList_same {s t : ByteArray} (h : s.data.toList = t.data.toList) : (s.toList == t.toList) = true := by
  rw [bytes_eq _ _ h]
  exact beq_self_eq_true _
theorem toList_other {s t : ByteArray} (h : s.data.toList ≠ t.data.toList) : (s.toList == t.toList) = false := by
  refine beq_eq_false_iff_ne.2 fun e => h ?_
  rwa [ByteArray.toList_eq, ByteArray.toList_eq] at e
set_option maxRecDepth 100000 in
theorem rfparse_yes (s : ByteArray) (T : Fr) (h : IsFr s.data.toList T) (hs : s.size ≤ 1202) (w : World) : Calls Tryz.prog 9 #[.string s] w (GivesFrE T 0 w) := by
  obtain ⟨u, N, z, D, sp⟩ := Split.exist s
  obtain ⟨hn, hd, q0, hT, e1, e2, e3, e4⟩ := h.mk sp.parts
  have hb := sp.bounds hs hn hd rfl rfl (u := u)
  have hz := sp.sizes
  have h0 : 0 < s.size := by
    have := (parseErr_zero _ hn).1
    rw [size_list] at this
    omega
  have p1 := fun w' => rparsed N _ 0 (by omega) (if_pos hn) hn w'
  have ht := h.text
  obtain ⟨b, p, q⟩ := T
  have nq : ∀ t : ByteArray, fText b p q t.data.toList → (t.toList == s.toList) = true := fun t h => toList_same (fText_inj h ht)
  rw [hT] at hb
  simp only at hb
  cases z with
  | true =>
    have p2 := fun w' => rparsed D _ 0 (by omega) (if_pos (hd rfl)) (hd rfl) w'
    rw [if_pos rfl] at q0 hT hb
    have mk : ∀ (A : Option Addr) (n c : Nat) (xs : List Nat) (B : Option Addr) (m d : Nat) (ys : List Nat) (w : World), Num w A n c xs (decVal N.data.toList) → Num w B m d ys (decVal D.data.toList) → Calls Tryz.prog 27 #[.bool u, .slice A n c, .slice B m d] w (GivesRd b p q 0 w) := fun A n c xs B m d ys w' hx hy => by
      have M := rmake_any u A B n c m d _ _ s.size xs ys w' hx hy q0 hb.2.2.1 hb.2.2.2 (by omega)
      rw [hT] at M
      exact M
    cases u with
    | true => exact rfp_minus_true_kept s N D sp hs h0 _ _ p q s.size b hb.1 hb.2.1 (by omega) p1 p2 mk nq w
    | false => exact rfp_plus_true_kept s N D sp hs h0 _ _ p q s.size b hb.1 hb.2.1 (by omega) p1 p2 mk nq w
  | false =>
    simp only [Bool.false_eq_true, if_false] at q0 hT hb
    have mk : ∀ (A : Option Addr) (n c : Nat) (xs : List Nat) (B : Option Addr) (m d : Nat) (ys : List Nat) (w : World), Num w A n c xs (decVal N.data.toList) → Num w B m d ys 1 → Calls Tryz.prog 27 #[.bool u, .slice A n c, .slice B m d] w (GivesRd b p q 0 w) := fun A n c xs B m d ys w' hx hy => by
      have M := rmake_any u A B n c m d _ _ s.size xs ys w' hx hy q0 hb.2.2.1 hb.2.2.2 (by omega)
      rw [hT] at M
      exact M
    cases u with
    | true => exact rfp_minus_false_kept s N D sp hs h0 _ _ p q s.size b hb.1 hb.2.1 (by omega) p1 rparse_one mk nq w
    | false => exact rfp_plus_false_kept s N D sp hs h0 _ _ p q s.size b hb.1 hb.2.1 (by omega) p1 rparse_one mk nq w
set_option maxRecDepth 100000 in
theorem rfparse_no (s : ByteArray) (h : ∀ T, ¬ IsFr s.data.toList T) (hs : s.size ≤ 1202) (w : World) : Calls Tryz.prog 9 #[.string s] w (GivesFrE ⟨false, 0, 0⟩ 2 w) := by
  obtain ⟨u, N, z, D, sp⟩ := Split.exist s
  have hz := sp.sizes
  have p1 := fun w' => rparsed N _ _ (by omega) rfl rfl w'
  have p2 := fun w' => rparsed D _ _ (by omega) rfl rfl w'
  by_cases h0 : s.size = 0
  · have hsz := sp.size
    have hu : u = false := by
      cases u with
      | true => rw [h0, Bool.toNat_true] at hsz; omega
      | false => rfl
    have hz2 : z = false := by
      cases z with
      | true => rw [h0, if_pos rfl] at hsz; omega
      | false => rfl
    subst hu hz2
    have hk : ((parseErr N.data.toList : Int) != 0) = true := by
      rw [parseErr_short _ (by rw [size_list]; omega)]; decide
    exact rfp_empty_false_badN s N D sp hs h0 _ _ _ 0 hk p1 rparse_one w
  have h1 : 0 < s.size := by omega
  by_cases hn : parseErr N.data.toList = 0
  · by_cases hd : z = true → parseErr D.data.toList = 0
    · rcases Nat.eq_zero_or_pos (if z then decVal D.data.toList else 1) with q0 | q0
      · have hzt : z = true := by
          cases z with
          | true => rfl
          | false => exact absurd q0 (show ¬ 1 = 0 by decide)
        subst hzt
        rw [if_pos rfl] at q0
        rw [hn] at p1
        rw [hd rfl] at p2
        have mk : ∀ (A : Option Addr) (n c : Nat) (xs : List Nat) (B : Option Addr) (m d : Nat) (ys : List Nat) (w : World), Num w A n c xs (if 0 = 0 then decVal N.data.toList else 0) → Num w B m d ys (if 0 = 0 then decVal D.data.toList else 0) → Calls Tryz.prog 27 #[.bool u, .slice A n c, .slice B m d] w (GivesRd false 0 0 8 w) := fun A n c xs B m d ys w' _ hy => by
          rw [if_pos rfl, q0] at hy
          exact rmake_nought hy
        cases u with
        | true => exact rfp_minus_true_zero s N D sp hs h1 _ _ 8 (by decide) p1 p2 mk w
        | false => exact rfp_plus_true_zero s N D sp hs h1 _ _ 8 (by decide) p1 p2 mk w
      · have hb := sp.bounds hs hn hd rfl rfl (u := u)
        have ho := Fr.mk'_ok u (decVal N.data.toList) _ q0
        have nq : ∀ t : ByteArray, fText (Fr.mk' u (decVal N.data.toList) (if z then decVal D.data.toList else 1)).s (Fr.mk' u (decVal N.data.toList) (if z then decVal D.data.toList else 1)).p (Fr.mk' u (decVal N.data.toList) (if z then decVal D.data.toList else 1)).q t.data.toList → (t.toList == s.toList) = false := fun t ht => toList_other fun e => h _ (IsFr.of_same sp.parts hn hd ho (e ▸ ht))
        obtain ⟨T, hT⟩ : ∃ T, Fr.mk' u (decVal N.data.toList) (if z then decVal D.data.toList else 1) = T := ⟨_, rfl⟩
        rw [hT] at hb nq
        obtain ⟨b, p, q⟩ := T
        simp only at hb nq
        rw [hn, if_pos rfl] at p1
        cases z with
        | true =>
          rw [hd rfl, if_pos rfl] at p2
          rw [if_pos rfl] at q0 hT hb
          have mk : ∀ (A : Option Addr) (n c : Nat) (xs : List Nat) (B : Option Addr) (m d : Nat) (ys : List Nat) (w : World), Num w A n c xs (decVal N.data.toList) → Num w B m d ys (decVal D.data.toList) → Calls Tryz.prog 27 #[.bool u, .slice A n c, .slice B m d] w (GivesRd b p q 0 w) := fun A n c xs B m d ys w' hx hy => by
            have M := rmake_any u A B n c m d _ _ s.size xs ys w' hx hy q0 hb.2.2.1 hb.2.2.2 (by omega)
            rw [hT] at M
            exact M
          cases u with
          | true => exact rfp_minus_true_other s N D sp hs h1 _ _ p q s.size b hb.1 hb.2.1 (by omega) p1 p2 mk nq w
          | false => exact rfp_plus_true_other s N D sp hs h1 _ _ p q s.size b hb.1 hb.2.1 (by omega) p1 p2 mk nq w
        | false =>
          simp only [Bool.false_eq_true, if_false] at q0 hT hb
          have mk : ∀ (A : Option Addr) (n c : Nat) (xs : List Nat) (B : Option Addr) (m d : Nat) (ys : List Nat) (w : World), Num w A n c xs (decVal N.data.toList) → Num w B m d ys 1 → Calls Tryz.prog 27 #[.bool u, .slice A n c, .slice B m d] w (GivesRd b p q 0 w) := fun A n c xs B m d ys w' hx hy => by
            have M := rmake_any u A B n c m d _ _ s.size xs ys w' hx hy q0 hb.2.2.1 hb.2.2.2 (by omega)
            rw [hT] at M
            exact M
          cases u with
          | true => exact rfp_minus_false_other s N D sp hs h1 _ _ p q s.size b hb.1 hb.2.1 (by omega) p1 rparse_one mk nq w
          | false => exact rfp_plus_false_other s N D sp hs h1 _ _ p q s.size b hb.1 hb.2.1 (by omega) p1 rparse_one mk nq w
    · have hzt : z = true := by
        cases z with
        | true => rfl
        | false => exact absurd (fun h => by cases h) hd
      subst hzt
      have hk : ((parseErr D.data.toList : Int) != 0) = true := bne_iff_ne.2 fun e => hd fun _ => by omega
      rw [hn, if_pos rfl] at p1
      cases u with
      | true => exact rfp_minus_true_badD s N D sp hs h1 _ _ _ hk p1 p2 w
      | false => exact rfp_plus_true_badD s N D sp hs h1 _ _ _ hk p1 p2 w
  · have hk : ((parseErr N.data.toList : Int) != 0) = true := bne_iff_ne.2 (by omega)
    cases z with
    | true =>
      cases u with
      | true => exact rfp_minus_true_badN s N D sp hs h1 _ _ _ _ hk p1 p2 w
      | false => exact rfp_plus_true_badN s N D sp hs h1 _ _ _ _ hk p1 p2 w
    | false =>
      cases u with
      | true => exact rfp_minus_false_badN s N D sp hs h1 _ _ _ 0 hk p1 rparse_one w
      | false => exact rfp_plus_false_badN s N D sp hs h1 _ _ _ 0 hk p1 rparse_one w
set_option maxRecDepth 100000 in
set_option maxHeartbeats 1000000 in
theorem rfparse_far (s : ByteArray) (h1 : 1202 < s.size) (h2 : s.size ≤ 2000) (w : World) : Calls Tryz.prog 9 #[.string s] w (GivesFrE ⟨false, 0, 0⟩ 3 w) := by
  have B0 := Lib.hid ((Below.refl w.heap.size w).alloc (Nat.le_refl _) (.cells #[.bool false, .slice none 0 0, .slice none 0 0] 25))
  have R0 := Lib.hid (FB.new w false none 0 0 none 0 0)
  go_enter Tryz.func9, Tryz.ntmps9
  obtain ⟨Ra, Rb, Rc, Rd, Re, Rf⟩ := R0.out.facts
  go_wp2
  refine bodyPost_ret (v := .tuple #[.agg #[.bool false, .slice none 0 0, .slice none 0 0], .int .i64 3]) (by simp [results, Tryz.results9, go_sem, Ra, Rb, Rc]) rfl ?_
  exact ⟨none, 0, 0, [], none, 0, 0, [], rfl, Num.zero _, Num.zero _, B0.out⟩
end Go.Proofs.YtbllnkhbahenkaaGreatDoor
