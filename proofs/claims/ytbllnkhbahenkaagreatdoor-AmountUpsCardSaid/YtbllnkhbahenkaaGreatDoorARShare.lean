/- The contract of the reference's Share, the walk: no claim of its own. -/
import Derived.Test.YtbllnkhbahenkaaGreatDoorARShr
namespace Go.Proofs.YtbllnkhbahenkaaGreatDoor
open Go.RowKit MA
theorem Rs.eq {w wr : World} {a c b d n : Nat} {f g f' g' : Nat → Int} (h : Rs w wr a c b d n f g) (hf : ∀ i, i < n → f i = f' i) (hg : ∀ i, i < n → g i = g' i) : Rs w wr a c b d n f' g' :=
  ⟨F_congr hf ▸ h.o1, F_congr hg ▸ h.o2, h.ne, h.bel, h.ca, h.cb⟩
theorem Rs.wts {w wr : World} {a c b d n : Nat} {f g : Nat → Int} (h : Rs w wr a c b d n f g) (hn : n ≤ 40) : Wts wr (some ⟨a, 0, none⟩) n c ((List.range n).map f) :=
  ⟨by rw [← F_eq]; exact Reads.of_own h.o1, by simp, h.ca, hn⟩
/-- Quotient and remainder of a share. -/
structure QR (t : Int) (ws : List Int) (k : Nat) (x p q r : Nat) : Prop where
  x1 : x ≤ 1000000
  e : p = t.toNat * x
  p1 : p ≤ 1000000000000
  hq : quo t.toNat (wN ws) ws.sum.toNat k = q
  hr : rem t.toNat (wN ws) ws.sum.toNat k = r
  dq : p / ws.sum.toNat = q
  dr : p % ws.sum.toNat = r
  q1 : q ≤ 1000000
theorem ShareIn.qr {t : Int} {ws : List Int} (h : ShareIn t ws) (k : Nat) (hk : k < ws.length) : ∃ (x p q r : Nat), (ws.getD k 0 = (x : Int)) ∧ QR t ws k x p q r := by
  have h1 := wN_le h.ok k
  have h2 := h.t1
  have h3 : t.toNat ≤ 1000000 := by omega
  refine ⟨wN ws k, t.toNat * wN ws k, _, _, (wN_cast h.ok hk).symm, h1, rfl, Nat.le_trans (Nat.mul_le_mul h3 h1) (by decide), rfl, rfl, rfl, rfl, ?_⟩
  have := S_ge (quo t.toNat (wN ws) ws.sum.toNat) ws.length k hk
  have := h.div.quo_le
  omega
/-- What is left once the first k whole parts are taken off. -/
structure Lf (t : Int) (ws : List Int) (k : Nat) (z : Int) : Prop where
  eq : z = t - (S (quo t.toNat (wN ws) ws.sum.toNat) k : Int)
theorem Lf.zero (t : Int) (ws : List Int) : Lf t ws 0 t := ⟨by simp [S]⟩
theorem Lf.range {t : Int} {ws : List Int} {k : Nat} {z : Int} (h : Lf t ws k z) (hs : ShareIn t ws) (hk : k ≤ ws.length) : 0 ≤ z ∧ z ≤ 1000000 := by
  have h1 := h.eq
  have h2 := hs.div.quo_le
  have h3 := S_mono (quo t.toNat (wN ws) ws.sum.toNat) k ws.length hk
  have := hs.t0; have := hs.t1
  omega
theorem Lf.next {t : Int} {ws : List Int} {k q : Nat} {z : Int} (h : Lf t ws k z) (hq : quo t.toNat (wN ws) ws.sum.toNat k = q) : Lf t ws (k + 1) (z - q) := by
  refine ⟨?_⟩
  have h1 := h.eq
  simp only [S]
  rw [hq]
  omega
theorem Lf.fin {t : Int} {ws : List Int} {z : Int} (h : Lf t ws ws.length z) (hs : ShareIn t ws) : z = (miss t.toNat (wN ws) ws.length ws.sum.toNat : Int) := by
  have h1 := h.eq
  have h2 := hs.div.missed
  have := hs.t0
  omega
end Go.Proofs.YtbllnkhbahenkaaGreatDoor
