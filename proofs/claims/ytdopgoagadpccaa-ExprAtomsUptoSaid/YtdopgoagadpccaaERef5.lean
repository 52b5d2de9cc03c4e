/- The reference's Same: no claim of its own. -/
import Derived.Test.YtdopgoagadpccaaEEq
import Derived.Test.YtdopgoagadpccaaEAtoms2
import Derived.Test.YtdopgoagadpccaaEAwk
import Derived.Test.YtdopgoagadpccaaERef4
namespace Go.Proofs.Ytdopgoagadpccaa
open Go.RowKit
open ME (F Nd)
theorem FT.of_eq : ∀ L M : List NT, L.map NT.n = M.map NT.n → (FT.of L).f = (FT.of M).f
  | [], [], _ => rfl
  | [], _ :: _, h => by cases h
  | _ :: _, [], h => by cases h
  | x :: r, y :: s, h => by
    rw [List.map_cons, List.map_cons] at h
    injection h with h1 h2
    have ih := FT.of_eq r s h2
    obtain ⟨o, b, v, A, c, k⟩ := x
    obtain ⟨p, d, u, B, e, m⟩ := y
    unfold NT.n at h1
    injection h1 with q1 q2 q3 q4
    subst q1 q2 q3
    show ME.F.cons o b v k.f (FT.of r).f = ME.F.cons o b v m.f (FT.of s).f
    rw [q4, ih]
theorem Lst.kids {w : World} {A : Option Addr} {n c : Nat} {L : List NT} (h : Lst ntE w A n c L) (hy : ∀ y ∈ L, y.Ok w (fun _ => True)) : Kids w (fun _ => True) A c (FT.of L) := by
  refine ⟨by rw [FT.of_len, h.len]; exact h.cap, by rw [FT.of_len, h.len]; exact h.few, ?_⟩
  rcases Nat.eq_zero_or_pos n with h0 | h0
  · have : L = [] := List.eq_nil_of_length_eq_zero (by rw [h.len, h0])
    subst this
    exact .inl rfl
  · obtain ⟨ad, e, hlt, hc⟩ := h.reads.2 h0
    refine .inr ⟨ad, e, lay_of L ad fun i x hx => ?_⟩
    have hb : (ad.add (i * 9)).block = ad.block := by first | rfl | (unfold Addr.add; rfl) | (unfold Addr.add; split <;> rfl)
    refine ⟨trivial, by rw [hb]; exact hlt, hy x (List.mem_of_getElem? hx), fun j u hu => ?_⟩
    rw [add_of_add]
    refine hc _ u ?_
    have hj : j < ntE.sz := by rw [← ntE.len x (h.fine x (List.mem_of_getElem? hx))]; exact (List.getElem?_eq_some_iff.1 hu).1
    exact (El.all_at h.fine hx hj).trans hu
set_option maxRecDepth 100000 in
set_option maxHeartbeats 4000000 in
theorem rsame_any {A B : Option Addr} {n c m d : Nat} {L M : List NT} (w : World) (h1 : Lst ntE w A n c L) (h2 : Lst ntE w B m d M) (k1 : ∀ y ∈ L, y.Ok w (fun _ => True)) (k2 : ∀ y ∈ M, y.Ok w (fun _ => True)) (he : L.map NT.n = M.map NT.n) : Calls Try.prog 23 #[.slice A n c, .slice B m d] w (Gives (.bool true) w) := by
  have O1 : NT.Ok ⟨0, [0, 0, 0, 0, 0, 0], 0, A, c, FT.of L⟩ w (fun _ => True) := ⟨rfl, in_small (z := 0) (by decide), in_small (z := 0) (by decide), six_small _ _ _ _ _ _ (by decide), Lst.kids h1 k1⟩
  have O2 : NT.Ok ⟨0, [0, 0, 0, 0, 0, 0], 0, B, d, FT.of M⟩ w (fun _ => True) := ⟨rfl, in_small (z := 0) (by decide), in_small (z := 0) (by decide), six_small _ _ _ _ _ _ (by decide), Lst.kids h2 k2⟩
  have CE := requal_any _ _ _ (Nat.le_refl _) w _ _ O1 O2
  rw [eqN_yes rfl rfl rfl, decide_eq_true (FT.of_eq L M he), NT.val_lit, NT.val_lit, FT.of_len, FT.of_len, h1.len, h2.len] at CE
  have CE := Lib.hid CE
  clear O1 O2 h1 h2 k1 k2 he
  go_enter Try.func23, Try.ntmps23
  go_wp2_with fail
  refine CE.out.mono ?_
  rintro ev w1 ⟨rfl, hb⟩
  have HB := Lib.hid hb
  clear hb
  go_wp2
  go_ret
  exact ⟨rfl, HB.out⟩
end Go.Proofs.Ytdopgoagadpccaa
