/- The contract of natural.Format: no claim of its own. -/
import Derived.Test.YtbllnkhbahenkaaDoorBytes
import Derived.Test.YtbllnkhbahenkaaDoorMaths
import Derived.Test.YtbllnkhbahenkaaDoorDivS
namespace Go.Proofs.YtbllnkhbahenkaaDoor
open Go.RowKit
/-- A call hands back the decimal text of a. -/
def GivesText (a : Nat) (w : World) (e : Ending) (w' : World) : Prop := ∃ s, e = .returned (.string s) ∧ isText s.data.toList a ∧ Below w.heap.size w w'
theorem natmap_getD (L : List Nat) (i : Nat) : (L.map fun x : Nat => (x : Int)).getD i 0 = ((L.getD i 0 : Nat) : Int) := by
  rw [List.getD_eq_getElem?_getD, List.getD_eq_getElem?_getD, List.getElem?_map]
  cases L[i]? <;> rfl
/-- The length of a slice in a slot: for a measure. -/
def lenOf : Value → Nat | .slice _ m _ => m | _ => 0
def FmtInv (B _n0 a : Nat) (w : World) (A : Option Addr) (n : Nat) (v : Value) (m : Nat) (wr : World) : Prop :=
  ∃ xs l, Mine wr B A n xs ∧ Tight xs ∧ OwnB wr B v l ∧ l.length = m ∧ (∀ c ∈ l, 48 ≤ c ∧ c ≤ 57) ∧ rn l + 10 ^ m * dval xs = a ∧ Below B w wr
/-- Inside: p is what is left of the part. -/
def FmtIn (B a P : Nat) (w : World) (A : Option Addr) (n : Nat) (v : Value) (m j p : Nat) (wr : World) : Prop :=
  ∃ xs l, Mine wr B A n xs ∧ Tight xs ∧ OwnB wr B v l ∧ l.length = m + j ∧ (∀ c ∈ l, 48 ≤ c ∧ c ≤ 57) ∧ rn l + 10 ^ (m + j) * p = P ∧ P + 10 ^ (m + 9) * dval xs = a ∧ p < 10 ^ (9 - j) ∧ Below B w wr
theorem fmt_short (B n0 a : Nat) (w wr : World) (A : Option Addr) (n : Nat) (v : Value) (m : Nat) (h : FmtInv B n0 a w A n v m wr) (hn : 0 < n) (ha : a < 4294967296 ^ n0) : m < 10 * n0 := by
  obtain ⟨xs, l, hm, ht, hO, hl, hd, hv, hb⟩ := h
  have h1 := dval_pos xs (by rw [hm.len]; omega) ht
  have h2 : 0 < 4294967296 ^ (xs.length - 1) := Nat.pow_pos (by decide)
  have h3 : 10 ^ m * 1 ≤ 10 ^ m * dval xs := Nat.mul_le_mul_left _ (by omega)
  have h4 : (4294967296 : Nat) ^ n0 ≤ (10 ^ 10) ^ n0 := Nat.pow_le_pow_left (by decide) _
  rw [← Nat.pow_mul] at h4
  have h5 : 10 ^ m < 10 ^ (10 * n0) := by omega
  exact (Nat.pow_lt_pow_iff_right (by decide : 1 < 10)).1 h5
theorem FmtInv.divide {B n0 a : Nat} {w wr w1 : World} {A : Option Addr} {n : Nat} {v : Value} {m : Nat} {e : Ending} (_h : FmtInv B n0 a w A n v m wr) (hn : 0 < n) (_hB : B ≤ wr.heap.size) (xs : List Nat) (hm : Mine wr B A n xs) (l : List Nat) (hO : OwnB wr B v l) (_hl : l.length = m) (_hd : ∀ c ∈ l, 48 ≤ c ∧ c ≤ 57) (hv : rn l + 10 ^ m * dval xs = a) (hb : Below B w wr)
    (k : Divides A n 1000000000 xs B wr e w1) : ∃ (p : Nat) (cur : List Nat), e = .returned (.int .u32 (p : Int)) ∧ p < 1000000000 ∧ Mine w1 B A n cur ∧ OwnB w1 B v l ∧ Below B w w1 ∧ rn l + 10 ^ m * (p + 10 ^ 9 * dval cur) = a := by
  obtain ⟨cur, rfl, hc, ⟨hb1, hg1⟩, hdv⟩ := k
  refine ⟨_, cur, rfl, Nat.mod_lt _ (show 0 < 1000000000 by decide), hc, hO.other hm hn hg1, hb.trans hb1, ?_⟩
  rw [hdv]
  have := Nat.mod_add_div (dval xs) 1000000000
  rw [show (10 : Nat) ^ 9 = 1000000000 from rfl, this]
  exact hv
theorem FmtIn.start {B a : Nat} {w w1 : World} {A : Option Addr} {n : Nat} {v : Value} {m p k : Nat} {cur l : List Nat} (hM : Mine w1 B A n cur) (hk : k ≤ cur.length) (ht : Tight (cur.take k)) (hval : dval (cur.take k) = dval cur) (hO : OwnB w1 B v l) (hl : l.length = m) (hd : ∀ c ∈ l, 48 ≤ c ∧ c ≤ 57) (hp : p < 1000000000) (hb : Below B w w1) (hv : rn l + 10 ^ m * (p + 10 ^ 9 * dval cur) = a) :
    FmtIn B a (rn l + 10 ^ m * p) w A k v m 0 p w1 := by
  refine ⟨cur.take k, l, hM.take (by rw [← hM.len]; exact hk), ht, hO, by omega, hd, rfl, ?_, by simpa using hp, hb⟩
  rw [hval, Nat.pow_add, Nat.mul_assoc]
  rw [Nat.mul_add] at hv
  omega
theorem pow_step (j : Nat) (hj : j < 9) (p : Nat) (h : p < 10 ^ (9 - j)) : p / 10 < 10 ^ (9 - (j + 1)) := by
  rw [show 9 - j = (9 - (j + 1)) + 1 by omega, Nat.pow_succ] at h
  omega
theorem FmtIn.step {B a P : Nat} {w wr w1 : World} {A : Option Addr} {n : Nat} {v v' : Value} {m j p : Nat} {xs l : List Nat} {o : Obj} {u : Int} (hM : Mine wr B A n xs) (ht : Tight xs) (hO : OwnB wr B v l) (hl : l.length = m + j) (hd : ∀ c ∈ l, 48 ≤ c ∧ c ≤ 57) (h1 : rn l + 10 ^ (m + j) * p = P) (h2 : P + 10 ^ (m + 9) * dval xs = a) (hp : p < 10 ^ (9 - j)) (hb : Below B w wr)
    (hj : j < 9) (hs : B ≤ wr.heap.size) (hu : u = ((48 + p % 10 : Nat) : Int)) (hown : w1.ownsRow B 5 1 v' (l.length + 1) (Db l ++ [.int .u8 u])) (hg : (wr.alloc o).grownBy w1 v.ownBlock) : FmtIn B a P w A n v' m (j + 1) (p / 10) w1 := by
  have R := hO.app hb hs hown hu (by omega) hg
  have hO' : OwnB (wr.alloc o) B v l := ⟨hO.own.alloc _, hO.lt⟩
  have hM' : Mine (wr.alloc o) B A n xs := hM.keep (C := wr.heap.size) ((Below.refl _ _).alloc (Nat.le_refl _) _) (Nat.le_refl _)
  refine ⟨xs, l ++ [48 + p % 10], hM'.other hO' hg, ht, R.1, by simp; omega, fun c hc => ?_, ?_, h2, pow_step j hj p hp, R.2⟩
  · rcases List.mem_append.1 hc with h | h
    · exact hd c h
    · simp at h; omega
  · rw [rn_append, hl, ← h1, show m + (j + 1) = (m + j) + 1 by omega, Nat.pow_succ]
    simp only [rn]
    have := Nat.div_add_mod p 10
    generalize p / 10 = q at *
    generalize p % 10 = r at *
    generalize 10 ^ (m + j) = T at *
    subst this
    rw [show 48 + r - 48 = r by omega]
    grind
theorem FmtIn.fin {B n0 a P : Nat} {w wr : World} {A : Option Addr} {n : Nat} {v : Value} {m p : Nat} (h : FmtIn B a P w A n v m 9 p wr) : FmtInv B n0 a w A n v (m + 9) wr := by
  obtain ⟨xs, l, hM, ht, hO, hl, hd, h1, h2, hp, hb⟩ := h
  obtain rfl : p = 0 := by simpa using hp
  exact ⟨xs, l, hM, ht, hO, hl, hd, by rw [← h2, ← h1]; simp, hb⟩
end Go.Proofs.YtbllnkhbahenkaaDoor
