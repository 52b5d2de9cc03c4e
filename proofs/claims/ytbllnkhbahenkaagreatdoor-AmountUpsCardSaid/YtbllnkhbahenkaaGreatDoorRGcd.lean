/- The contract of the reference's GCD: no claim of its own. -/
import Derived.Test.YtbllnkhbahenkaaGreatDoorRDivMod
import Derived.Test.YtbllnkhbahenkaaGreatDoorGcd
namespace Go.Proofs.YtbllnkhbahenkaaGreatDoor
open Go.RowKit
set_option maxRecDepth 100000 in
set_option maxHeartbeats 1000000 in
theorem rgcd_any (A B : Option Addr) (n c m d a b : Nat) (xs ys : List Nat) (w : World) (hx : Num w A n c xs a) (hy : Num w B m d ys b) (hn : n ≤ 900000) (hm : m ≤ 900000) :
    Calls Tryz.prog 30 #[.slice A n c, .slice B m d] w (GivesNum (Nat.gcd a b) w) := by
  obtain ⟨G, hG⟩ : ∃ G, Nat.gcd a b = G := ⟨_, rfl⟩
  rw [hG]
  have I0 := Lib.hid (show Num w A n c xs a ∧ Num w B m d ys b ∧ Nat.gcd a b = G ∧ Below w.heap.size w w from ⟨hx, hy, hG, Below.refl _ _⟩)
  clear hx hy hG
  go_enter Tryz.func30, Tryz.ntmps30
  go_wp2
  go_loopg [0, 1] b (fun g av bv wr => ∃ (A' : Option Addr) (n' c' : Nat) (xs' : List Nat) (x' : Nat) (B' : Option Addr) (m' d' : Nat) (ys' : List Nat), n' ≤ 900000 ∧ m' ≤ 900000 ∧ av = .slice A' n' c' ∧ bv = .slice B' m' d' ∧ Hid (Num wr A' n' c' xs' x' ∧ Num wr B' m' d' ys' g ∧ Nat.gcd x' g = G ∧ Below w.heap.size w wr))
  case atStart => exact ⟨_, _, _, _, _, _, _, _, _, hn, hm, rfl, rfl, I0⟩
  case round =>
    clear I0
    obtain ⟨A', n', c', xs', x', B', m', d', ys', hn', hm', rfl, rfl, hi⟩ := hrel
    rcases Nat.eq_zero_or_pos m' with h0 | h0
    · subst h0
      have NX := Lib.hid hi.out.1
      have GX : Hid (dval xs' = G) := Lib.hid (by
        have h1 := hi.out.2.1.len
        have h3 := hi.out.2.1.val
        have h4 : ys' = [] := List.eq_nil_of_length_eq_zero h1
        rw [h4] at h3
        have h5 := hi.out.2.2.1
        rw [← h3] at h5
        rw [hi.out.1.val]
        simpa [dval] using h5)
      have BB := Lib.hid hi.out.2.2.2
      clear hi
      go_wp2_with fail
      refine (rtrim_any _ _ _ _ _ NX.out.toLst).mono ?_
      rintro e w' hg
      have R := Lib.hid ((hg.from_ BB.out rfl).eq GX.out)
      obtain ⟨A1, n1, c1, xs1, rfl, _, _⟩ := hg
      go_wp2
      go_ret
      exact R.out
    · have D := Lib.hid (rdivMod_any A' B' n' c' m' d' x' gk xs' ys' wr hi.out.1 hi.out.2.1 h0 hn' hm')
      have NY := Lib.hid hi.out.2.1
      have GP := Lib.hid (hi.out.2.1.pos h0)
      have GE := Lib.hid hi.out.2.2.1
      have BB := Lib.hid hi.out.2.2.2
      clear hi
      go_wp2_with fail
      refine D.out.mono ?_
      rintro e w1 ⟨A1, n1, c1, xs1, A2, n2, c2, xs2, rfl, h1, h2', h3⟩
      have hlt : x' % gk < gk := Nat.mod_lt _ GP.out
      have hle : n2 ≤ m' := NY.out.len_mono h2' (Nat.le_of_lt hlt)
      have HLT := Lib.hid hlt
      have R := Lib.hid (show Num w1 B' m' d' ys' gk ∧ Num w1 A2 n2 c2 xs2 (x' % gk) ∧ Nat.gcd gk (x' % gk) = G ∧ Below w.heap.size w w1 from ⟨NY.out.keep h3, h2', by rw [gcd_turn]; exact GE.out, BB.out.trans (h3.mono BB.out.size)⟩)
      clear h1 h2' h3 D hlt
      go_wp2
      go_roundg (x' % gk)
      case measure => exact HLT.out
      case rel => exact ⟨_, _, _, _, _, _, _, _, _, hm', by omega, rfl, rfl, R⟩
end Go.Proofs.YtbllnkhbahenkaaGreatDoor
