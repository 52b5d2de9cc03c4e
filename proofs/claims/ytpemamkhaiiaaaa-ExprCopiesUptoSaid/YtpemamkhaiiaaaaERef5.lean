/- The reference's Same: no claim of its own. -/
import Derived.Test.YtpemamkhaiiaaaaEEq
import Derived.Test.YtpemamkhaiiaaaaEAtoms2
import Derived.Test.YtpemamkhaiiaaaaEAwk
import Derived.Test.YtpemamkhaiiaaaaERef4
namespace Go.Proofs.Ytpemamkhaiiaaaa
open Go.RowKit
open ME (F Nd)
theorem FT.of_eq : ∀ L M : List NT, L.map NT.n = M.map NT.n → (FT.of L).f = (FT.of M).f
  | [], [], _ => rfl
  | [], _ :: _, h => by cases h
  | _ :: _, [], h => by cases h
  | x :: r, y :: s, h => by
    rw [List.map_cons, List.map_cons] at h
    injection h with h1 h2
    have ih := FT.of_eq r s h2
    obtain ⟨o, b, v, A, c, k⟩ := x
    obtain ⟨p, d, u, B, e, m⟩ := y
    unfold NT.n at h1
    injection h1 with q1 q2 q3 q4
    subst q1 q2 q3
    show ME.F.cons o b v k.f (FT.of r).f = ME.F.cons o b v m.f (FT.of s).f
    rw [q4, ih]
theorem Lst.kids {w : World} {A : Option Addr} {n c : Nat} {L : List NT} (h : Lst ntE w A n c L) (hy : ∀ y ∈ L, y.Ok w (fun _ => True)) : Kids w (fun _ => True) A c (FT.of L) := by
  refine ⟨by rw [FT.of_len, h.len]; exact h.cap, by rw [FT.of_len, h.len]; exact h.few, ?_⟩
  rcases Nat.eq_zero_or_pos n with h0 | h0
  · have : L = [] := List.eq_nil_of_length_eq_zero (by rw [h.len, h0])
    subst this
    exact .inl rfl
  · obtain ⟨ad, e, hlt, hc⟩ := h.reads.2 h0
    refine .inr ⟨ad, e, lay_of L ad fun i x hx => ?_⟩
    have hb : (ad.add (i * 9)).block = ad.block := by first | rfl | (unfold Addr.add; rfl) | (unfold Addr.add; split <;> rfl)
    refine ⟨trivial, by rw [hb]; exact hlt, hy x (List.mem_of_getElem? hx), fun j u hu => ?_⟩
    rw [add_of_add]
    refine hc _ u ?_
    have hj : j < ntE.sz := by rw [← ntE.len x (h.fine x (List.mem_of_getElem? hx))]; exact (List.getElem?_eq_some_iff.1 hu).1
    exact (El.all_at h.fine hx hj).trans hu
end Go.Proofs.Ytpemamkhaiiaaaa
