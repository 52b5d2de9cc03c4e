/- The law's spoil: no claim of its own. -/
import Derived.Test.YtpemamkhaiiaaaaESpoil
namespace Go.Proofs.Ytpemamkhaiiaaaa
open Go.RowKit
open ME (F Nd)
theorem Sp.set {D : Nat → Prop} {w w1 : World} (h : Sp D w w1) {g o : Nat} (hg : D g) (ho : o % 9 = 7) (hr : RowAt w1 g) {z u : Int} (hc : w1.cell? ⟨g, o, none⟩ = some (.int .i64 z)) (hu : In64 u) : Sp D w (w1.setCell ⟨g, o, none⟩ (.int .i64 u)) :=
  h.trans ⟨⟨rfl, rfl, rfl, by rw [World.size_setCell]; exact Nat.le_refl _, fun k _ hd => Below.heap_setCell w1 ⟨g, o, none⟩ _ k (fun e => hd (by rw [e]; exact hg))⟩,
   fun j q => by
    by_cases e : j = g
    · subst e
      obtain ⟨cs, T, hr⟩ := hr
      exact ⟨_, T, heap_setCell_same w1 j o _ T _ hr⟩
    · obtain ⟨cs, T, q⟩ := q
      exact ⟨cs, T, (Below.heap_setCell w1 ⟨g, o, none⟩ _ j e).trans q⟩,
   fun a q => by
    apply World.cell?_setCell_other
    intro e; exact q (by rw [← e]; exact ho),
   fun a z' q c i => by
    by_cases e : (⟨g, o, none⟩ : Addr) = a
    · subst e
      exact ⟨u, (by apply World.cell?_setCell_same; exact hc), hu⟩
    · exact ⟨z', Eq.trans (by apply World.cell?_setCell_other; exact e) c, i⟩⟩
/-- The q-th of a row of trees. -/
theorem Lay.node {w : World} {ok : Nat → Prop} : ∀ (t : FT) {a : Addr} (q : Nat), Lay w ok a t → FT.al a t → q < t.len → ∃ y : NT, NodeAt w ok (a.add (q * 9)) y ∧ (a.add (q * 9)).off % 9 = 0 ∧ y.Al ∧ y.size ≤ t.size
  | .nil, _, _, _, _, h => by simp [FT.len] at h
  | .cons o b v A c k r, a, 0, ⟨⟨h1, h2, h3, h4⟩, h5, h6, h7, _⟩, ⟨l1, l2, _⟩, _ => by
    rw [show a.add (0 * 9) = a by unfold Addr.add; simp]
    exact ⟨⟨o, b, v, A, c, k⟩, ⟨h1, h2, ⟨h3, h5.1, h5.2.1, h5.2.2, ⟨h6.1, h6.2, h7⟩⟩, h4⟩, l1, l2, by show k.size + 1 ≤ FT.size (.cons o b v A c k r); simp only [FT.size]; omega⟩
  | .cons o b v A c k r, a, q + 1, ⟨_, _, _, _, h8⟩, ⟨_, _, l3⟩, h => by
    obtain ⟨y, y1, y2, y3, y4⟩ := Lay.node r q h8 l3 (by simp only [FT.len] at h; omega)
    rw [add_of_add, show 9 + q * 9 = (q + 1) * 9 by omega] at y1 y2
    exact ⟨y, y1, y2, y3, by simp only [FT.size]; omega⟩
set_option maxRecDepth 100000 in
set_option maxHeartbeats 4000000 in
theorem spoil_any : ∀ (N : Nat), ∀ (x : NT) (ad : Addr) (w : World) (ok : Nat → Prop), x.size ≤ N → NodeAt w ok ad x → ad.off % 9 = 0 → x.Al → (∀ j, ok j → RowAt w j) → Calls Try.prog 9 #[.pointer (some ad)] w (fun e w' => e = .returned (.tuple #[]) ∧ Sp ok w w') := by
  intro N
  induction N with
  | zero => intro x _ _ _ hx; unfold NT.size at hx; omega
  | succ N ih =>
    intro x ad w ok hx hat h9 hal hrow
    have IH := Lib.hid ih
    have hks : x.k.size ≤ N := by unfold NT.size at hx; omega
    obtain ⟨o, b, v, A, c, k⟩ := x
    obtain ⟨x0, x1, x2, x3, x4, x5, rfl⟩ := six hat.good.six
    have c7 : w.cell? ⟨ad.block, ad.off + 7, none⟩ = some (.int .i64 v) := hat.cells 7 _ rfl
    have c8 : w.cell? ⟨ad.block, ad.off + 8, none⟩ = some (.slice A k.len c) := hat.cells 8 _ rfl
    have hsp : ad.spot = none := by
      have c0 := hat.cells 0 _ rfl
      rw [show ad.add 0 = ad by unfold Addr.add; simp] at c0
      unfold World.cell? at c0
      cases hs : ad.spot with
      | none => rfl
      | some n => rw [hs] at c0; simp at c0; split at c0 <;> cases c0
    obtain ⟨g, off, spot⟩ := ad
    dsimp only at c7 c8 hsp h9
    subst hsp
    have hr0 := hrow g hat.in_
    have f7 : w.frozen? ⟨g, off + 7, none⟩ = false := by
      obtain ⟨cs, T, hr⟩ := hr0
      exact frozen_of_row w g _ _ T hr
    have HROW := Lib.hid hrow
    have HK := Lib.hid hat.good.kids
    have HAL : Hid (k = .nil ∨ ∃ ad, A = some ad ∧ k.al ad) := Lib.hid hal
    have S1 : Hid (Sp ok w (w.setCell ⟨g, off + 7, none⟩ (.int .i64 (wrap64 (v + 1))))) := Lib.hid ((Sp.refl ok w).set hat.in_ (by omega) hr0 c7 (by unfold In64 wrap64; omega))
    have H8 : Hid (∀ w', Sp ok w w' → w'.cell? ⟨g, off + 8, none⟩ = some (.slice A k.len c)) := Lib.hid (fun w' q => (q.cell _ (by show (off + 8) % 9 ≠ 7; omega)).trans c8)
    have hn := hat.good.kids.few
    have hcp := hat.good.kids.cap
    dsimp only at hn hcp hks
    clear hx hat hal hrow hr0 ih
    go_enter Try.func9, Try.ntmps9
    go_upto_region 1 with (fail)
    clear c7 c8 f7
    obtain ⟨W1, hW1⟩ : ∃ W1, W1 = w.setCell ⟨g, off + 7, none⟩ (.int .i64 (wrap64 (v + 1))) := ⟨_, rfl⟩
    rw [← hW1] at S1 ⊢
    clear hW1
    have b8 := H8.out W1 S1.out
    go_wp2
    clear b8
    go_loopw [15] (fun i wr => ∃ q : Nat, q ≤ k.len ∧ i = .int .i64 q ∧ Hid (Sp ok w wr)) (fun i _ => k.len - (intOf i).toNat)
    case atStart => exact ⟨0, Nat.zero_le _, rfl, S1⟩
    case round =>
      clear S1
      obtain ⟨q, hq, rfl, HS⟩ := hrel
      by_cases hlt : q < k.len
      · have hlt' : (q : Int) < (k.len : Int) := by omega
        obtain ⟨ada, rfl, hlay, hal⟩ : ∃ ada, A = some ada ∧ Lay w ok ada k ∧ k.al ada := by
          rcases HK.out.lay with e | ⟨a1, e, hl⟩
          · have e : k = .nil := e
            rw [e] at hlt; simp [FT.len] at hlt
          · rcases HAL.out with e2 | ⟨a2, e2, h2⟩
            · rw [e2] at hlt; simp [FT.len] at hlt
            · have e : A = some a1 := e
              rw [e] at e2; injection e2 with e2; subst e2
              exact ⟨a1, e, hl, h2⟩
        obtain ⟨k', k1, k2, k3, k4⟩ := Lay.spoilt HS.out k hlay hal
        obtain ⟨y, y1, y2, y3, y4⟩ := Lay.node k' q k1 k2 (by omega)
        have CE := Lib.hid (IH.out y _ wr ok (by omega) y1 y2 y3 (fun j q => HS.out.row j (HROW.out j q)))
        have b8 := H8.out wr HS.out
        clear k1 k2 k3 k4 y1 y2 y3 y4 hlay hal
        go_wp2_with fail
        refine CE.out.mono ?_
        rintro ev w3 ⟨rfl, hs⟩
        have HS3 := Lib.hid (HS.out.trans hs)
        clear hs CE HS b8
        go_wp2
        go_roundw
        case rel => exact ⟨q + 1, by omega, by go_num, HS3⟩
        case measure => simp [intOf]; omega
      · have hlt' : ¬ (q : Int) < (k.len : Int) := by omega
        go_wp2
        go_end0
        exact ⟨rfl, HS.out⟩
end Go.Proofs.Ytpemamkhaiiaaaa
