/- MathXF, PWr3, joined: no claim of its own. -/
import Derived.Test.YtcokplikmjegcaaGreatDoorMathXR
import Derived.Test.YtcokplikmjegcaaGreatDoorJH
import Derived.Test.YtcokplikmjegcaaGreatDoorJM
namespace Go.Proofs.YtcokplikmjegcaaGreatDoor.MX
open MC (Pr)
open ME (F Nd)
theorem join_at (a b : List Int) (j : Nat) : MB.at_ (joinB a b) j = if j < 6 then (if MB.at_ a j < MB.at_ b j then MB.at_ b j else MB.at_ a j) else 0 := by
  by_cases hj : j < 6
  · rw [if_pos hj]
    have : j = 0 ∨ j = 1 ∨ j = 2 ∨ j = 3 ∨ j = 4 ∨ j = 5 := by omega
    rcases this with rfl | rfl | rfl | rfl | rfl | rfl <;> rfl
  · rw [if_neg hj]
    show List.getD (joinB a b) j 0 = 0
    rw [List.getD_eq_getElem?_getD, List.getElem?_eq_none (by show 6 ≤ j; omega)]; rfl
theorem at_far {b : List Int} (h : b.length = 6) {j : Nat} (hj : 6 ≤ j) : MB.at_ b j = 0 := by
  show List.getD b j 0 = 0
  rw [List.getD_eq_getElem?_getD, List.getElem?_eq_none (by omega)]; rfl
theorem ok_at {b : List Int} (h : MB.okB b = true) (j : Nat) : 0 ≤ MB.at_ b j ∧ MB.at_ b j ≤ 4 := by
  by_cases hj : j < b.length
  · have := List.all_eq_true.1 h b[j] (List.getElem_mem hj)
    simp only [Bool.and_eq_true, decide_eq_true_eq] at this
    show 0 ≤ List.getD b j 0 ∧ List.getD b j 0 ≤ 4
    rw [List.getD_eq_getElem?_getD, List.getElem?_eq_getElem hj]
    exact this
  · show 0 ≤ List.getD b j 0 ∧ List.getD b j 0 ≤ 4
    rw [List.getD_eq_getElem?_getD, List.getElem?_eq_none (by omega)]
    exact ⟨by decide, by decide⟩
theorem ok_of_at {b : List Int} (h : ∀ j, j < b.length → 0 ≤ MB.at_ b j ∧ MB.at_ b j ≤ 4) : MB.okB b = true := by
  refine List.all_eq_true.2 fun x hx => ?_
  obtain ⟨j, hj, rfl⟩ := List.mem_iff_getElem.1 hx
  have := h j hj
  have e : MB.at_ b j = b[j] := by
    show List.getD b j 0 = _
    rw [List.getD_eq_getElem?_getD, List.getElem?_eq_getElem hj]; rfl
  rw [e] at this
  simp only [Bool.and_eq_true, decide_eq_true_eq]
  exact this
theorem prod_fits (L : List Pr) : ∀ (l : List Nd) (z : List Int), z.length = 6 → MB.okB z = true → (∀ x ∈ l, MB.okB x.b = true) →
    (MB.okB (ME.prodL l z) = true ∧ ((∀ j, L.length ≤ j → MB.at_ (ME.prodL l z) j = 0) ↔ ((∀ j, L.length ≤ j → MB.at_ z j = 0) ∧ ∀ x ∈ l, ∀ j, L.length ≤ j → j < 6 → MB.at_ x.b j = 0)))
  | [], z, _, hz, _ => ⟨hz, ⟨fun h => ⟨h, fun x hx => by cases hx⟩, fun h => h.1⟩⟩
  | y :: r, z, h6, hz, hl => by
    have hy := hl y List.mem_cons_self
    have hok : MB.okB (joinB z y.b) = true := ok_of_at fun j hj => by
      rw [join_at]
      have h1 := ok_at hz j
      have h2 := ok_at hy j
      split
      · split
        · exact h2
        · exact h1
      · exact ⟨by decide, by decide⟩
    obtain ⟨k1, k2⟩ := prod_fits L r (joinB z y.b) rfl hok (fun x hx => hl x (List.mem_cons_of_mem _ hx))
    refine ⟨k1, ?_⟩
    show (∀ j, L.length ≤ j → MB.at_ (ME.prodL r (joinB z y.b)) j = 0) ↔ _
    rw [k2]
    constructor
    · rintro ⟨h1, h2⟩
      have key : ∀ j, L.length ≤ j → j < 6 → MB.at_ z j = 0 ∧ MB.at_ y.b j = 0 := fun j hj hj6 => by
        have := h1 j hj
        rw [join_at, if_pos hj6] at this
        have e1 := ok_at hz j
        have e2 := ok_at hy j
        split at this
        · omega
        · omega
      refine ⟨fun j hj => ?_, fun x hx j hj hj6 => ?_⟩
      · by_cases hj6 : j < 6
        · exact (key j hj hj6).1
        · exact at_far h6 (by omega)
      · rcases List.mem_cons.1 hx with rfl | hx
        · exact (key j hj hj6).2
        · exact h2 x hx j hj hj6
    · rintro ⟨h1, h2⟩
      refine ⟨fun j hj => ?_, fun x hx => h2 x (List.mem_cons_of_mem _ hx)⟩
      rw [join_at]
      by_cases hj6 : j < 6
      · rw [if_pos hj6, h1 j hj, h2 y List.mem_cons_self j hj hj6]; rfl
      · rw [if_neg hj6]
theorem node_ok {x : Nd} (h : ME.nodeE x = 0) : MB.okB x.b = true := by
  obtain ⟨h1, h2⟩ := node_form h
  rcases node_ways h with ⟨c, _⟩ | ⟨_, _, e, _⟩ | ⟨c, _⟩ | ⟨_, _, e, _⟩
  · unfold ME.rangeB at h2
    rw [if_neg (by omega)] at h2
    split at h2
    · cases h2
    · simp only [Bool.or_eq_true, decide_eq_true_eq, Bool.and_eq_true] at h2
      rcases h2 with h2 | h2
      · omega
      · have := h2.1
        unfold chk at this
        split at this
        · next h => exact h
        · cases this
  · rw [e]; decide
  · unfold ME.rangeB at h2
    rw [if_neg (by omega)] at h2
    split at h2
    · cases h2
    · simp only [Bool.or_eq_true, decide_eq_true_eq, Bool.and_eq_true] at h2
      rcases h2 with h2 | h2
      · omega
      · have := h2.1
        unfold chk at this
        split at this
        · next h => exact h
        · cases this
  · rw [e]; decide
/-- Format's test: the products of all nodes against the list. -/
theorem fit_iff {L : List Pr} {n : Nd} (hL : MC.chkL L = 0) (hn : ME.checkE n = 0) (h6 : ∀ x ∈ n.pre, x.b.length = 6) : MC.Fits L (ME.prodL n.pre ME.zero6) ↔ FitN L n := by
  have hv := (ME.checkE_zero.1 hn).2.2.2
  obtain ⟨k1, k2⟩ := prod_fits L n.pre ME.zero6 rfl (by decide) (fun x hx => node_ok (hv x hx))
  constructor
  · rintro ⟨_, _, h⟩ x hx
    refine ⟨hL, node_ok (hv x hx), fun j hj => ?_⟩
    by_cases hj6 : j < 6
    · exact (k2.1 h).2 x hx j hj hj6
    · exact at_far (h6 x hx) (by omega)
  · intro h
    refine ⟨hL, k1, k2.2 ⟨fun j _ => ?_, fun x hx j hj _ => (h x hx).2.2 j hj⟩⟩
    by_cases hj6 : j < 6
    · have : j = 0 ∨ j = 1 ∨ j = 2 ∨ j = 3 ∨ j = 4 ∨ j = 5 := by omega
      rcases this with rfl | rfl | rfl | rfl | rfl | rfl <;> rfl
    · exact at_far rfl (by omega)
theorem num_len {v : Int} (h0 : 0 ≤ v) (h1 : v ≤ 1000000) : (MU.num v).length ≤ 7 := by
  rw [MU.num_pos h0]
  have := MU.dec_len (m := 6) (n := v.toNat) (by omega)
  omega
theorem joinC_len : ∀ ks : List (List UInt8), (joinC ks).length ≤ (ks.map fun t => t.length + 1).sum
  | [] => Nat.le_refl _
  | [x] => by simp [joinC]
  | x :: y :: r => by
    have := joinC_len (y :: r)
    rw [joinC, List.map_cons, List.sum_cons, List.length_append, List.length_cons]
    omega
theorem node_val {x : Nd} (h : ME.nodeE x = 0) : 0 ≤ x.v ∧ x.v ≤ 1000000 := by
  rcases node_ways h with ⟨_, _, a, b⟩ | ⟨_, _, _, b⟩ | ⟨_, _, a, b⟩ | ⟨_, _, _, a, b⟩ <;> omega
theorem nodeT_len (L : List Pr) (o : Int) (b : List Int) (v : Int) (ks : List (List UInt8)) (hf : MC.Fits L b) (h0 : 0 ≤ v) (h1 : v ≤ 1000000) : (nodeT L o b v ks).length ≤ (ks.map fun t => t.length + 1).sum + 110 := by
  have hk := joinC_len ks
  have hv := num_len h0 h1
  have ht := hf.text_len
  unfold nodeT bidT
  repeat' split
  all_goals simp [xorW, orW, bonusW, limitW]
  all_goals omega
theorem txF_len (L : List Pr) : ∀ k : F, (∀ z ∈ k.pre, OkN L z) → ((txF L k).map fun t => t.length + 1).sum ≤ 111 * k.size
  | .nil, _ => Nat.zero_le _
  | .cons o b v k r, h => by
    have hx : OkN L ⟨o, b, v, k⟩ := h _ (by simp only [F.pre]; exact List.mem_cons_self)
    have i1 := txF_len L k (fun z hz => h z (by simp only [F.pre, List.mem_cons, List.mem_append]; exact .inr (.inl hz)))
    have i2 := txF_len L r (fun z hz => h z (by simp only [F.pre, List.mem_cons, List.mem_append]; exact .inr (.inr hz)))
    have hv := node_val hx.1
    have hn := nodeT_len L o b v (txF L k) hx.2.1 hv.1 hv.2
    rw [txF, List.map_cons, List.sum_cons]
    show _ ≤ 111 * F.size (.cons o b v k r)
    rw [F.size]
    omega
theorem tx_len {L : List Pr} {n : Nd} (h : ∀ z ∈ n.pre, OkN L z) : (txN L n).length ≤ 111 * n.size := by
  have hx : OkN L n := h _ List.mem_cons_self
  have hv := node_val hx.1
  have hn := nodeT_len L n.o n.b n.v (txF L n.k) hx.2.1 hv.1 hv.2
  have hk := txF_len L n.k (fun z hz => h z (List.mem_cons_of_mem _ hz))
  show (nodeT L n.o n.b n.v (txF L n.k)).length ≤ _
  unfold Nd.size
  omega
theorem tx_ne {L : List Pr} {n : Nd} : txN L n ≠ [] := by
  unfold txN nodeT bidT
  repeat' split
  all_goals simp [xorW, orW, bonusW, limitW]
end Go.Proofs.YtcokplikmjegcaaGreatDoor.MX
namespace Go.Proofs.YtcokplikmjegcaaGreatDoor
open Go.RowKit
open MC (Pr)
open ME (F Nd)
/-- What one part of a layout writes. -/
def partT (L : List Pr) (n : Nd) (c : UInt8) : List UInt8 := if c = 101 ∨ c = 108 then MX.joinC (MX.txF L n.k) else if c = 98 then MX.bidT L n.b n.v else if c = 118 then MU.num n.v else [c]
theorem lay_text {L : List Pr} {n : Nd} {m : Nat} (hm : n.o = m) (h1 : 1 ≤ m) (h5 : m ≤ 5) : MX.txN L n = (opWd m).data.toList ++ (opLy m).data.toList.flatMap (partT L n) := by
  obtain ⟨o, b, v, k⟩ := n
  have hm : o = m := hm
  have hc : m = 1 ∨ m = 2 ∨ m = 3 ∨ m = 4 ∨ m = 5 := by omega
  unfold MX.txN MX.nodeT
  rcases hc with rfl | rfl | rfl | rfl | rfl
  · have hm : o = 1 := hm
    subst hm
    rw [if_pos rfl]
    simp [opWd, opLy, partT]
  · have hm : o = 2 := hm
    subst hm
    rw [if_neg (show ¬ (2 : Int) = 1 by decide), if_pos rfl]
    simp [opWd, opLy, partT, MX.xorW]
  · have hm : o = 3 := hm
    subst hm
    rw [if_neg (show ¬ (3 : Int) = 1 by decide), if_neg (show ¬ (3 : Int) = 2 by decide), if_pos rfl]
    simp [opWd, opLy, partT, MX.orW]
  · have hm : o = 4 := hm
    subst hm
    rw [if_neg (show ¬ (4 : Int) = 1 by decide), if_neg (show ¬ (4 : Int) = 2 by decide), if_neg (show ¬ (4 : Int) = 3 by decide), if_pos rfl]
    simp [opWd, opLy, partT, MX.bonusW]
  · have hm : o = 5 := hm
    subst hm
    rw [if_neg (show ¬ (5 : Int) = 1 by decide), if_neg (show ¬ (5 : Int) = 2 by decide), if_neg (show ¬ (5 : Int) = 3 by decide), if_neg (show ¬ (5 : Int) = 4 by decide)]
    simp [opWd, opLy, partT, MX.limitW]
/-- The parts of a layout. -/
theorem ly_mem {m : Nat} {c : UInt8} (h : c ∈ (opLy m).data.toList) : c.toNat < 128 ∧ ((c.toNat ≠ 101 ∧ c.toNat ≠ 108 ∧ c.toNat ≠ 98 ∧ c.toNat ≠ 118) ∨ (c = 101 ∧ (m = 4 ∨ m = 5)) ∨ (c = 108 ∧ (m = 2 ∨ m = 3)) ∨ (c = 98 ∧ (m = 1 ∨ m = 4)) ∨ (c = 118 ∧ m = 5)) := by
  match m, h with
  | 0, h => simp [opLy] at h
  | 1, h => simp [opLy] at h; subst h; exact ⟨by decide, .inr (.inr (.inr (.inl ⟨rfl, .inl rfl⟩)))⟩
  | 2, h =>
    simp [opLy] at h
    rcases h with rfl | rfl | rfl
    · exact ⟨by decide, .inl (by decide)⟩
    · exact ⟨by decide, .inr (.inr (.inl ⟨rfl, .inl rfl⟩))⟩
    · exact ⟨by decide, .inl (by decide)⟩
  | 3, h =>
    simp [opLy] at h
    rcases h with rfl | rfl | rfl
    · exact ⟨by decide, .inl (by decide)⟩
    · exact ⟨by decide, .inr (.inr (.inl ⟨rfl, .inr rfl⟩))⟩
    · exact ⟨by decide, .inl (by decide)⟩
  | 4, h =>
    simp [opLy] at h
    rcases h with rfl | rfl | rfl | rfl | rfl
    · exact ⟨by decide, .inl (by decide)⟩
    · exact ⟨by decide, .inr (.inl ⟨rfl, .inl rfl⟩)⟩
    · exact ⟨by decide, .inl (by decide)⟩
    · exact ⟨by decide, .inr (.inr (.inr (.inl ⟨rfl, .inr rfl⟩)))⟩
    · exact ⟨by decide, .inl (by decide)⟩
  | 5, h =>
    simp [opLy] at h
    rcases h with rfl | rfl | rfl | rfl | rfl
    · exact ⟨by decide, .inl (by decide)⟩
    · exact ⟨by decide, .inr (.inl ⟨rfl, .inr rfl⟩)⟩
    · exact ⟨by decide, .inl (by decide)⟩
    · exact ⟨by decide, .inr (.inr (.inr (.inr ⟨rfl, rfl⟩)))⟩
    · exact ⟨by decide, .inl (by decide)⟩
  | n + 6, h => simp [opLy] at h
theorem part_any (b : Nat) (A : Option Addr) (n cp : Nat) (L : List Pr) (N : Nat) (IH : WriteOk b A n cp L N) (l : List UInt8) (o x0 x1 x2 x3 x4 x5 v : Int) (A1 : Option Addr) (c1 : Nat) (k : FT) (hk : k.size ≤ N) (w : World) (hok : NT.Ok (⟨o, [x0, x1, x2, x3, x4, x5], v, A1, c1, k⟩ : NT) w (fun k => k < b)) (hv : ∀ z ∈ (NT.n (⟨o, [x0, x1, x2, x3, x4, x5], v, A1, c1, k⟩ : NT)).pre, MX.OkN L z) (h : Wr b (.slice A n cp) l w) (he : WEnv b A n cp L w)
    {m : Nat} (hm : o = m) {c : UInt8} (hc : c ∈ (opLy m).data.toList) (hlen : l.length + (partT L (NT.n (⟨o, [x0, x1, x2, x3, x4, x5], v, A1, c1, k⟩ : NT)) c).length ≤ 1000000) :
    Calls Tryz.prog 47 #[.pointer (some ⟨b, 0, none⟩), .int .i32 (c.toNat : Int), .agg #[.int .i64 o, .int .i64 x0, .int .i64 x1, .int .i64 x2, .int .i64 x3, .int .i64 x4, .int .i64 x5, .int .i64 v, .slice A1 k.len c1]] w (Wd1 b (.slice A n cp) (l ++ partT L (NT.n (⟨o, [x0, x1, x2, x3, x4, x5], v, A1, c1, k⟩ : NT)) c) w) := by
  have hx := hv _ List.mem_cons_self
  have hkv : ∀ z ∈ k.f.pre, MX.OkN L z := fun z hz => hv z (List.mem_cons_of_mem _ hz)
  obtain ⟨hc128, hw⟩ := ly_mem hc
  rcases hw with ⟨n1, n2, n3, n4⟩ | ⟨rfl, hm2⟩ | ⟨rfl, hm2⟩ | ⟨rfl, hm2⟩ | ⟨rfl, hm2⟩
  · have e : partT L (NT.n (⟨o, [x0, x1, x2, x3, x4, x5], v, A1, c1, k⟩ : NT)) c = [c] := by
      unfold partT
      rw [if_neg (by rintro (rfl | rfl); exact n1 rfl; exact n2 rfl), if_neg (by rintro rfl; exact n3 rfl), if_neg (by rintro rfl; exact n4 rfl)]
    rw [e]
    exact part_mark c hc128 n1 n2 n3 n4 b _ l o x0 x1 x2 x3 x4 x5 v A1 c1 k w h (by rw [e] at hlen; simp only [List.length_cons, List.length_nil] at hlen; omega)
  · exact part_args101 b A n cp L N IH l o x0 x1 x2 x3 x4 x5 v A1 c1 k hk w hok hkv h he hlen
  · exact part_args108 b A n cp L N IH l o x0 x1 x2 x3 x4 x5 v A1 c1 k hk w hok hkv h he hlen
  · have hv2 : 1 ≤ v ∧ v ≤ 1000000 := by
      rcases MX.node_ways hx.1 with ⟨_, _, q1, q2⟩ | ⟨q0, _⟩ | ⟨_, _, q1, q2⟩ | ⟨q0, _⟩
      · exact ⟨q1, q2⟩
      · have q0 : o = 2 ∨ o = 3 := q0; omega
      · exact ⟨q1, q2⟩
      · have q0 : o = 5 := q0; omega
    have hl2 : l.length ≤ 1000000 := by omega
    exact part_bid b A n cp L l o x0 x1 x2 x3 x4 x5 v A1 c1 k hx.2.1 (by omega) hv2.2 w h he (by omega)
  · have hv2 : 1 ≤ v ∧ v ≤ 1000000 := by
      rcases MX.node_ways hx.1 with ⟨q0, _⟩ | ⟨q0, _⟩ | ⟨q0, _⟩ | ⟨_, _, _, q1, q2⟩
      · have q0 : o = 1 := q0; omega
      · have q0 : o = 2 ∨ o = 3 := q0; omega
      · have q0 : o = 4 := q0; omega
      · exact ⟨q1, q2⟩
    have hl2 : l.length ≤ 1000000 := by omega
    exact part_amount b A n cp L l o x0 x1 x2 x3 x4 x5 v A1 c1 k (by omega) hv2.2 w h he (by omega)
theorem Wr.iterAt {b gi : Nat} {P : Value} {l : List UInt8} {w : World} {s : ByteArray} {pos : Nat} (h : Wr b P l w) (hk : w.heap[gi]? = some (.stringIter s pos)) (pos' : Nat) : Wr b P l (w.iterAt gi s pos') := by
  have go : ∀ p, WrAt b P p l w → WrAt b P p l (w.iterAt gi s pos') := fun p h => by
    obtain ⟨v, hb, hown, hne⟩ := h.ex
    have hbg : b ≠ gi := fun e => by subst e; rw [hb] at hk; cases hk
    refine ⟨v, (Lib.iterAt_other w gi b s pos' hbg).trans hb, ⟨hown.1, ?_⟩, hne⟩
    rcases hown.2 with ⟨hv, hz⟩ | ⟨g, cap, cur, fz, hv, hbg', hg, rest⟩
    · exact .inl ⟨hv, hz⟩
    · have hgg : g ≠ gi := fun e => by subst e; rw [hg] at hk; cases hk
      exact .inr ⟨g, cap, cur, fz, hv, hbg', (Lib.iterAt_other w gi g s pos' hgg).trans hg, rest⟩
  exact h.imp (go _) (go _)
theorem Only.iterAt {b gi : Nat} {w0 w : World} {s : ByteArray} (h : Only b w0 w) (hg : w0.heap.size ≤ gi) (hb : b ≤ gi) (pos' : Nat) : Only b w0 (w.iterAt gi s pos') :=
  ⟨Lib.below_iterAt h.below hb s pos', fun i q hi hne hq => (Lib.iterAt_other w gi i s pos' (by have := (Array.getElem?_eq_some_iff.1 hi).1; omega)).trans (h.others i q hi hne hq)⟩
theorem ly_ascii (m p : Nat) (hp : p < (opLy m).size) : ((opLy m)[p]).toNat < 128 ∧ (opLy m)[p] ∈ (opLy m).data.toList := by
  have hmem : (opLy m)[p] ∈ (opLy m).data.toList := by
    have : (opLy m).data.toList[p]? = some (opLy m)[p] := at_list _ _ hp
    exact List.mem_of_getElem? this
  exact ⟨(ly_mem hmem).1, hmem⟩
theorem flat_take {f : UInt8 → List UInt8} {s : ByteArray} {p : Nat} (hp : p < s.size) : (s.data.toList.take (p + 1)).flatMap f = (s.data.toList.take p).flatMap f ++ f s[p] := by
  have h := at_list s p hp
  rw [List.take_add_one, h, List.flatMap_append]
  simp
set_option maxRecDepth 100000 in
set_option maxHeartbeats 8000000 in
theorem write_any (b : Nat) (A : Option Addr) (n cp : Nat) (L : List Pr) : ∀ N, WriteOk b A n cp L N := by
  intro N
  induction N with
  | zero => intro y l w hy; unfold NT.size at hy; omega
  | succ N ih =>
    intro x l w hsz he hok hv h hlen
    have IH := Lib.hid ih
    have hks : x.k.size ≤ N := by unfold NT.size at hsz; omega
    obtain ⟨o, bb, v, A1, c1, k⟩ := x
    obtain ⟨x0, x1, x2, x3, x4, x5, rfl⟩ := six hok.six
    dsimp only at hks
    clear ih hsz
    have HBL := Lib.hid h.lt
    have hx := hv _ List.mem_cons_self
    obtain ⟨m, hm, hm1, hm5⟩ : ∃ m : Nat, o = m ∧ 1 ≤ m ∧ m ≤ 5 := by
      rcases MX.node_ways hx.1 with ⟨q, _⟩ | ⟨q, _⟩ | ⟨q, _⟩ | ⟨q, _⟩
      · exact ⟨1, q, by omega, by omega⟩
      · rcases q with q | q
        · exact ⟨2, q, by omega, by omega⟩
        · exact ⟨3, q, by omega, by omega⟩
      · exact ⟨4, q, by omega, by omega⟩
      · exact ⟨5, q, by omega, by omega⟩
    have hTX := lay_text (L := L) (n := NT.n (⟨o, [x0, x1, x2, x3, x4, x5], v, A1, c1, k⟩ : NT)) (m := m) hm hm1 hm5
    rw [hTX] at hlen ⊢
    have hwd : (opWd m).size ≤ 10 := by
      have hc : m = 1 ∨ m = 2 ∨ m = 3 ∨ m = 4 ∨ m = 5 := by omega
      rcases hc with rfl | rfl | rfl | rfl | rfl <;> decide
    have HL := Lib.hid hlen
    have HLY := Lib.hid (ly_ascii m)
    have O0 := Only.new h.lt (.cells #[.int .i64 o, .int .i64 x0, .int .i64 x1, .int .i64 x2, .int .i64 x3, .int .i64 x4, .int .i64 x5, .int .i64 v, .slice A1 k.len c1] 27)
    have H0 := h.keep (below_new w (.cells #[.int .i64 o, .int .i64 x0, .int .i64 x1, .int .i64 x2, .int .i64 x3, .int .i64 x4, .int .i64 x5, .int .i64 v, .slice A1 k.len c1] 27))
    have X0 : B9 (w.alloc (.cells #[.int .i64 o, .int .i64 x0, .int .i64 x1, .int .i64 x2, .int .i64 x3, .int .i64 x4, .int .i64 x5, .int .i64 v, .slice A1 k.len c1] 27)) w.heap.size (.int .i64 o) (.int .i64 x0) (.int .i64 x1) (.int .i64 x2) (.int .i64 x3) (.int .i64 x4) (.int .i64 x5) (.int .i64 v) (.slice A1 k.len c1) := heap_new _ _
    have ops := (he _ O0.below).2.2
    have hmt : m = o.toNat := by omega
    have u0 := ops.wd m (by omega)
    have u1 := ops.ly m (by omega)
    have PA := Lib.hid (fun (l' : List UInt8) (w' : World) (hO : Only b w w') (hW : Wr b (.slice A n cp) l' w') (c : UInt8) (hc : c ∈ (opLy m).data.toList) hl => part_any b A n cp L N IH.out l' o x0 x1 x2 x3 x4 x5 v A1 c1 k hks w' (hok.keep (fun j hj _ => hO.below.block j hj) hO.below.size (fun _ q _ => q)) hv hW (he.next hO.below) hm hc hl)
    have hm0 : (0 : Int) ≤ o := by omega
    have hm6 : o < 6 := by omega
    rw [show m * 2 = o.toNat * 2 by omega] at u0 u1
    clear h he hok hv hTX hx hlen hm hm1 hm5 ops hmt IH
    generalize opWd m = WD at *
    generalize opLy m = LY at *
    have O1 := Lib.hid (O0.trans (Only.new H0.lt (.cells #[.string WD, .string LY] 84)))
    have H1 := Lib.hid (H0.keep (below_new (w.alloc (.cells #[.int .i64 o, .int .i64 x0, .int .i64 x1, .int .i64 x2, .int .i64 x3, .int .i64 x4, .int .i64 x5, .int .i64 v, .slice A1 k.len c1] 27)) (.cells #[.string WD, .string LY] 84)))
    have X1 := Lib.hid (X0.keep (below_new (w.alloc (.cells #[.int .i64 o, .int .i64 x0, .int .i64 x1, .int .i64 x2, .int .i64 x3, .int .i64 x4, .int .i64 x5, .int .i64 v, .slice A1 k.len c1] 27)) (.cells #[.string WD, .string LY] 84)))
    have S1 := Lib.hid (heap_new (w.alloc (.cells #[.int .i64 o, .int .i64 x0, .int .i64 x1, .int .i64 x2, .int .i64 x3, .int .i64 x4, .int .i64 x5, .int .i64 v, .slice A1 k.len c1] 27)) (.cells #[.string WD, .string LY] 84))
    have hs1 : (w.alloc (.cells #[.int .i64 o, .int .i64 x0, .int .i64 x1, .int .i64 x2, .int .i64 x3, .int .i64 x4, .int .i64 x5, .int .i64 v, .slice A1 k.len c1] 27)).heap.size = w.heap.size + 1 := by simp
    rw [hs1] at S1
    have hmo : Tryz.prog.follows .mixedOrders = true := by kernel_rfl
    have hblt : b < w.heap.size := HBL.out
    have hgb : w.heap.size ≠ b := by omega
    have hsb : w.heap.size + 1 ≠ b := by omega
    obtain ⟨a0, a1, a2, a3, a4, a5, a6, a7, a8⟩ := X0.cells
    rw [NT.val_lit]
    clear O0 H0 X0 hs1
    go_enter Tryz.func19, Tryz.ntmps19
    go_upto_region 2 with (fail)
    obtain ⟨W1, hW1⟩ : ∃ W1, W1 = (w.alloc (.cells #[.int .i64 o, .int .i64 x0, .int .i64 x1, .int .i64 x2, .int .i64 x3, .int .i64 x4, .int .i64 x5, .int .i64 v, .slice A1 k.len c1] 27)).alloc (.cells #[.string WD, .string LY] 84) := ⟨_, rfl⟩
    rw [← hW1] at O1 H1 X1 S1 ⊢
    clear hW1 u0 u1 a0 a1 a2 a3 a4 a5 a6 a7 a8
    have hb1 := H1.out.lt
    have c0 : W1.cell? ⟨w.heap.size + 1, 0, none⟩ = some (.string WD) := by rw [cell_of_row _ _ _ _ _ _ S1.out]; rfl
    have k0 := cell_regrown c0
    refine region_cut 5 hmo (by kernel_rfl) ?_
    simp only [List.take_succ_cons, List.take_zero, List.drop_succ_cons, List.drop_zero]
    quiet_step (skip)
    quiet_step (skip)
    quiet_step (skip)
    quiet_step (skip)
    quiet_step (skip)
    refine wpQuiet_nil ?_
    rintro _ ⟨pz, rfl⟩
    have BZ := below_regrown W1 pz.d pz.os
    have hlw : l.length + WD.size ≤ 1000000 := by
      have := HL.out
      rw [List.length_append, size_list WD] at this
      omega
    have HS := Lib.hid (writeString1 b (.slice A n cp) l WD _ (H1.out.keep BZ) (by omega))
    have O2 := Lib.hid (O1.out.trans (Only.quiet hb1 BZ))
    have X2 := Lib.hid (X1.out.keep BZ)
    have S2 := Lib.hid ((BZ.block _ (Array.getElem?_eq_some_iff.1 S1.out).1).trans S1.out)
    clear k0 c0 BZ O1 H1 X1 S1
    generalize Go.Sort.grow (redrawn W1 pz.d) pz.os = Z at *
    go_wp2_with fail
    refine HS.out.mono ?_
    rintro ev w2 ⟨rfl, hw, hO⟩
    have O3 := O2.out.trans hO
    have X3 := X2.out.other hO hgb
    have S3 := hO.others _ _ S2.out (fun e => hsb (Option.some.inj e)) (fun _ _ e => by injection e with _ e _; exact absurd e (by decide))
    have c1' : w2.cell? ⟨w.heap.size + 1, 1, none⟩ = some (.string LY) := by rw [cell_of_row _ _ _ _ _ _ S3]; rfl
    have hk0 : (w2.iter LY 0).heap[w2.heap.size]? = some (.stringIter LY 0) := World.iter_heap w2 LY 0
    have HK := Lib.hid hk0
    have BI : Below w2.heap.size w2 (w2.iter LY 0) := below_new w2 (.stringIter LY 0)
    have H4 := Lib.hid (hw.keep BI)
    have O4 := Lib.hid (O3.trans (Only.quiet hw.lt BI))
    have X4 := Lib.hid (X3.keep BI)
    have hgi : w.heap.size < w2.heap.size := by have := X2.out.lt; have := hO.below.size; omega
    clear hw hO HS O2 X2 S2 O3 X3 S3 hk0 BI Z
    go_wp2
    clear c1'
    generalize w2.heap.size = gi at *
    generalize w2.iter LY 0 = W3 at *
    have hbi : b ≤ gi := by omega
    have hgn : b ≠ gi := by omega
    go_loopw [6] (fun _ wr => ∃ pos : Nat, pos ≤ LY.size ∧ Hid (wr.heap[gi]? = some (.stringIter LY pos)) ∧ Hid (Wr b (.slice A n cp) (l ++ WD.data.toList ++ (LY.data.toList.take pos).flatMap (partT L (NT.n (⟨o, [x0, x1, x2, x3, x4, x5], v, A1, c1, k⟩ : NT)))) wr) ∧ Hid (Only b w wr) ∧ Hid (B9 wr w.heap.size (.int .i64 o) (.int .i64 x0) (.int .i64 x1) (.int .i64 x2) (.int .i64 x3) (.int .i64 x4) (.int .i64 x5) (.int .i64 v) (.slice A1 k.len c1)))
      (fun _ wr => LY.size - wr.iterPos gi)
    case atStart => exact ⟨0, Nat.zero_le _, HK, by simpa using H4, O4, X4⟩
    case round =>
      obtain ⟨pos, hps, hk, HW, HO, HX⟩ := hrel
      clear HK H4 O4 X4
      have hmu : ∀ {W : World} {q : Nat}, W.heap[gi]? = some (.stringIter LY q) → W.iterPos gi = q := fun h => by simp [World.iterPos, h]
      have hkk := hk.out
      have hm1 := Lib.hid (hmu hkk)
      by_cases hp : pos < LY.size
      · obtain ⟨h128, hmem⟩ := HLY.out pos hp
        have HF := Lib.hid (flat_take (f := partT L (NT.n (⟨o, [x0, x1, x2, x3, x4, x5], v, A1, c1, k⟩ : NT))) hp)
        have hnext : ∀ ty, (Instr.next (.pointer (some ⟨gi, 0, none⟩)) true ty).run Tryz.prog wr = _ := fun ty => Lib.run_next_ascii_at wr gi LY pos ty hkk hp h128
        obtain ⟨c, hc⟩ : ∃ c, c = LY[pos] := ⟨_, rfl⟩
        rw [← hc] at hnext HF hmem
        have hW1 := Lib.hid (HW.out.iterAt hkk (pos + 1))
        have hk1 := Lib.hid (Lib.iterAt_heap wr gi LY pos (pos + 1) hkk)
        have hO1 := Lib.hid (HO.out.iterAt (s := LY) (Nat.le_of_lt hgi) hbi (pos + 1))
        have hX1 : Hid (B9 (wr.iterAt gi LY (pos + 1)) w.heap.size (.int .i64 o) (.int .i64 x0) (.int .i64 x1) (.int .i64 x2) (.int .i64 x3) (.int .i64 x4) (.int .i64 x5) (.int .i64 v) (.slice A1 k.len c1)) := Lib.hid ((Lib.iterAt_other wr gi w.heap.size LY (pos + 1) (by omega)).trans HX.out)
        have hfl : l.length + WD.size + ((LY.data.toList.take (pos + 1)).flatMap (partT L (NT.n (⟨o, [x0, x1, x2, x3, x4, x5], v, A1, c1, k⟩ : NT)))).length ≤ 1000000 := by
          have h1 := HL.out
          have h2 := congrArg List.length (congrArg (List.flatMap (partT L (NT.n (⟨o, [x0, x1, x2, x3, x4, x5], v, A1, c1, k⟩ : NT)))) (List.take_append_drop (pos + 1) LY.data.toList))
          rw [List.flatMap_append, List.length_append] at h2
          rw [List.length_append, size_list WD] at h1
          omega
        rw [HF.out, List.length_append] at hfl
        have CP := Lib.hid (PA.out _ _ hO1.out hW1.out c hmem (by rw [List.length_append, List.length_append, size_list WD]; omega))
        clear hkk HW HO HX hc h128 hmem hk hfl
        generalize wr.iterAt gi LY (pos + 1) = W4 at *
        obtain ⟨a0, a1, a2, a3, a4, a5, a6, a7, a8⟩ := hX1.out.cells
        go_wp2_with fail
        refine CP.out.mono ?_
        rintro ev w5 ⟨rfl, hw, hO⟩
        have hk2 := Lib.hid (hO.others gi _ hk1.out (fun e => hgn (Option.some.inj e).symm) (fun _ _ e => by cases e))
        have hX2 := Lib.hid (hX1.out.other hO hgb)
        have hO2 := Lib.hid (hO1.out.trans hO)
        have hW2 := Lib.hid hw
        clear hw hO CP hk1 hX1 hO1 hW1 a0 a1 a2 a3 a4 a5 a6 a7 a8
        go_wp2
        go_roundw
        case rel => exact ⟨pos + 1, by omega, hk2, by rw [HF.out, ← List.append_assoc]; exact hW2, hO2, hX2⟩
        case measure => rw [hm1.out, hmu hk2.out]; omega
      · have hnext : ∀ ty, (Instr.next (.pointer (some ⟨gi, 0, none⟩)) true ty).run Tryz.prog wr = _ := fun ty => Lib.run_next_end_at wr gi LY pos ty hkk hp
        have HW2 := Lib.hid (show Wd1 b (.slice A n cp) (l ++ (WD.data.toList ++ LY.data.toList.flatMap (partT L (NT.n (⟨o, [x0, x1, x2, x3, x4, x5], v, A1, c1, k⟩ : NT))))) w (.returned (.tuple #[])) wr from ⟨rfl, by
          have := HW.out
          rw [List.take_of_length_le (by rw [size_list]; omega), List.append_assoc] at this
          exact this, HO.out⟩)
        clear hkk HW HO HX hk
        go_wp2
        go_end0
        exact HW2.out
end Go.Proofs.YtcokplikmjegcaaGreatDoor
