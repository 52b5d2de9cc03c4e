/- The contract of timesTenPlus: no claim of its own. -/
import Derived.Test.YtbllnkhbahenkaaDoorDivS
import Derived.Test.YtbllnkhbahenkaaDoorBase
import Derived.Test.YtbllnkhbahenkaaDoorMaths
namespace Go.Proofs.YtbllnkhbahenkaaDoor
open Go.RowKit
/-- What holds after k digits. -/
def TenInv (B n : Nat) (v : Value) (xs : List Nat) (d : Nat) (w : World) (k cy : Nat) (wr : World) : Prop :=
  ∃ cur, Own wr B v cur ∧ cur.length = n ∧ Below B w wr ∧ (∀ j, k ≤ j → cur.getD j 0 = xs.getD j 0) ∧ dval cur + 4294967296 ^ k * cy = dval xs + 9 * dval (xs.take k) + d
theorem ten_math (P D r q x cy V T d S : Nat) (h1 : D + P * cy = V + 9 * T + d) (h2 : S + P * x = D + P * r) (h3 : 4294967296 * q + r = cy + 10 * x) : S + P * 4294967296 * q = V + 9 * (T + P * x) + d := by grind
theorem Own.set {w : World} {B g n c : Nat} {xs : List Nat} (h : Own w B (.slice (some ⟨g, 0, none⟩) n c) xs) (hn : xs.length = n) (k d : Nat) (hd : d < 4294967296) :
    Own (w.setCell ⟨g, k, none⟩ (.int .u32 (d : Int))) B (.slice (some ⟨g, 0, none⟩) n c) (xs.set k d) := by
  subst hn
  exact ⟨by have := (h.own.stored k (.int .u32 (d : Int))).1; simpa [Dg, List.map_set] using this, lt_set h.lt k d hd⟩
theorem Own.base {w : World} {B g n c : Nat} {xs : List Nat} (h : Own w B (.slice (some ⟨g, 0, none⟩) n c) xs) : B ≤ g := (h.own.lt g rfl).1
theorem Own.cell {w : World} {B g n c : Nat} {xs : List Nat} (h : Own w B (.slice (some ⟨g, 0, none⟩) n c) xs) (hn : xs.length = n) {k : Nat} (hk : k < n) : w.cell? ⟨g, k, none⟩ = some (.int .u32 ((xs.getD k 0 : Nat) : Int)) := by
  subst hn
  rw [h.own.cellAt k (by omega), Dg_at xs k hk]
  simp [hk]
theorem TenInv.step {B n g c : Nat} {xs : List Nat} {d : Nat} {w wr : World} {k cy x : Nat} (h : TenInv B n (.slice (some ⟨g, 0, none⟩) n c) xs d w k cy wr) (hk : k < n) (hx : xs.getD k 0 = x) (u : Int) (hu : u = (((cy + 10 * x) % 4294967296 : Nat) : Int)) :
    TenInv B n (.slice (some ⟨g, 0, none⟩) n c) xs d w (k + 1) ((cy + 10 * x) / 4294967296) (wr.setCell ⟨g, k, none⟩ (.int .u32 u)) := by
  subst hu
  obtain ⟨cur, hO, hl, hb, he, hv⟩ := h
  refine ⟨cur.set k ((cy + 10 * x) % 4294967296), hO.set hl _ _ (Nat.mod_lt _ (by decide)), by simpa using hl, hb.setCell hO.base _, fun j hj => ?_, ?_⟩
  · rw [getD_set _ _ _ _ (by omega), if_neg (by omega)]; exact he j (by omega)
  · have h1 := dval_set cur k ((cy + 10 * x) % 4294967296) (by omega)
    rw [he k (Nat.le_refl _), hx] at h1
    rw [dval_take_succ', hx, Nat.pow_succ]
    exact ten_math _ _ _ _ _ _ _ _ _ _ hv h1 (Nat.div_add_mod _ _)
theorem tight_of_ge (xs : List Nat) (hl : ∀ d ∈ xs, d < 4294967296) (h : xs.length = 0 ∨ 4294967296 ^ (xs.length - 1) ≤ dval xs) : Tight xs := by
  rcases h with h | h
  · exact .inl h
  · rcases Nat.eq_zero_or_pos xs.length with h0 | h0
    · exact .inl h0
    · right
      intro hz
      have e : dval (xs.take (xs.length - 1)) = dval xs := dval_take xs _ fun j hj => by
        rcases Nat.lt_or_ge j xs.length with h1 | h1
        · rw [show j = xs.length - 1 by omega]; exact hz
        · rw [List.getD_eq_getElem?_getD, List.getElem?_eq_none h1]; rfl
      have := dval_lt (xs.take (xs.length - 1)) fun d hd => hl d (List.mem_of_mem_take hd)
      rw [e, List.length_take, Nat.min_eq_left (by omega)] at this
      omega
theorem tight_snoc (xs : List Nat) (d : Nat) (hd : d ≠ 0) : Tight (xs ++ [d]) := by
  right; simpa [List.getD_eq_getElem?_getD] using hd
def TenGives (B n a : Nat) (w : World) (e : Ending) (w' : World) : Prop := ∃ v ys, e = .returned v ∧ Own w' B v ys ∧ ys.length ≤ n + 1 ∧ Tight ys ∧ dval ys = a ∧ Below B w w'
theorem TenInv.same {B n : Nat} {v : Value} {xs : List Nat} {d : Nat} {w wr : World} (h : TenInv B n v xs d w n 0 wr) (hn : xs.length = n) (ht : Tight xs) : TenGives B n (10 * dval xs + d) w (.returned v) wr := by
  obtain ⟨cur, hO, hl, hb, he, hv⟩ := h
  rw [List.take_of_length_le (by omega), Nat.mul_zero] at hv
  refine ⟨v, cur, rfl, hO, by omega, tight_of_ge cur hO.lt ?_, by omega, hb⟩
  rcases Nat.eq_zero_or_pos n with h0 | h0
  · left; omega
  · right
    have := dval_pos xs (by omega) ht
    rw [hn] at this
    rw [hl]
    omega
theorem TenInv.more {B n cy : Nat} {v v' : Value} {xs : List Nat} {d : Nat} {w wr w1 : World} {o : Obj} {out : List Nat} (hO : Own wr B v out) (hl : out.length = n) (hb : Below B w wr) (hv : dval out + 4294967296 ^ n * cy = dval xs + 9 * dval (xs.take n) + d) (hn : xs.length = n) (hc : cy ≠ 0) (hc2 : cy < 4294967296) (hs : B ≤ wr.heap.size) (hown : w1.ownsRow B 84 1 v' (out.length + 1) (Dg out ++ [.int .u32 (cy : Int)]))
    (hg : (wr.alloc o).grownBy w1 v.ownBlock) : TenGives B n (10 * dval xs + d) w (.returned v') w1 := by
  have R := hO.app hb hs hown rfl hc2 hg
  rw [List.take_of_length_le (by omega)] at hv
  refine ⟨v', out ++ [cy], rfl, R.1, by simp; omega, tight_snoc _ _ hc, ?_, R.2⟩
  rw [dval_append, hl]
  simp only [dval, Nat.mul_zero, Nat.add_zero]
  omega
end Go.Proofs.YtbllnkhbahenkaaDoor
/- The contract of checkDecimal: no claim of its own. -/
namespace Go.Proofs.YtbllnkhbahenkaaDoor
open Go.RowKit
end Go.Proofs.YtbllnkhbahenkaaDoor
/- The contract of natural.Parse: no claim of its own. -/
namespace Go.Proofs.YtbllnkhbahenkaaDoor
open Go.RowKit
/-- What Parse hands back: the number, or zero and the error. -/
def GivesParse (a k : Nat) (w : World) (e : Ending) (w' : World) : Prop :=
  ∃ A n c xs, e = .returned (.tuple #[.slice A n c, .int .i64 k]) ∧ Num w' A n c xs a ∧ Below w.heap.size w w'
def ParseInv (B : Nat) (l : List UInt8) (k : Nat) (w : World) (v : Value) (wr : World) : Prop :=
  ∃ ys, Own wr B v ys ∧ ys.length ≤ k ∧ Tight ys ∧ dval ys = decVal (l.take k) ∧ Below B w wr
end Go.Proofs.YtbllnkhbahenkaaDoor
