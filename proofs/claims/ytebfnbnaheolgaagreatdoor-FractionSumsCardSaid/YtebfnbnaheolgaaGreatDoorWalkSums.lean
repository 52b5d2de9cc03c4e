/- The walk of FractionSums: no claim of its own. -/
import Derived.Test.YtebfnbnaheolgaaGreatDoorSumZero
namespace Go.Proofs.YtebfnbnaheolgaaGreatDoor
open Go.RowKit
/-- A list of fractions that came in. -/
structure LO (w : World) (A : Option Addr) (len cap : Nat) : Prop where
  cap_ : len ≤ cap ∧ cap ≤ maxLen
  el : ∀ k, k < len → ∃ ad, A = some ad ∧ ∃ (s : Bool) (A : Option Addr) (n c : Nat) (z0 : List Int) (B : Option Addr) (m d : Nat) (z1 : List Int), FrCell w ad k s A n c z0 B m d z1
  nil_ : A = none → len = 0 ∧ cap = 0
/-- The first k of them are fractions in lowest terms of at most two digits. -/
def Good (w : World) (A : Option Addr) (k : Nat) : Prop := ∃ L : List Fr, L.length = k ∧ ∀ j (hj : j < L.length), ∃ ad, A = some ad ∧ Bd L[j] 2 ∧ ∃ (A : Option Addr) (n c : Nat) (B : Option Addr) (m d : Nat) (xs ys : List Nat), ElFr ad j L[j] A n c B m d xs ys w
theorem Good.zero (w : World) (A : Option Addr) : Good w A 0 := ⟨[], rfl, fun j hj => absurd hj (by simp)⟩
theorem Good.more {w : World} {A : Option Addr} {k : Nat} (h : Good w A k) {ad : Addr} (ha : A = some ad) {X : Fr} (hb : Bd X 2) {A' : Option Addr} {n c : Nat} {B : Option Addr} {m d : Nat} {xs ys : List Nat} (he : ElFr ad k X A' n c B m d xs ys w) : Good w A (k + 1) := by
  obtain ⟨L, hl, hL⟩ := h
  refine ⟨L ++ [X], by simp [hl], fun j hj => ?_⟩
  rcases Nat.lt_or_ge j L.length with h1 | h1
  · obtain ⟨ad', h2, h3, h4⟩ := hL j h1
    rw [List.getElem_append_left h1]
    exact ⟨ad', h2, h3, h4⟩
  · have e : j = k := by simp at hj; omega
    subst e
    have e2 : (L ++ [X])[j] = X := by simp [hl]
    rw [e2]
    exact ⟨ad, ha, hb, A', n, c, B, m, d, xs, ys, he⟩
theorem Good.frs {w : World} {A : Option Addr} {len cap : Nat} (h : Good w A len) (ho : LO w A len cap) : ∃ L, Frs A len cap L 2 w := by
  obtain ⟨L, hl, hL⟩ := h
  refine ⟨L, hl, ho.cap_, ho.nil_, fun a ha k hk => ?_⟩
  obtain ⟨ad, h1, h2, h3⟩ := hL k hk
  rw [ha] at h1
  injection h1 with h1
  subst h1
  exact ⟨h2, h3⟩
theorem sums_both {w : World} {A : Option Addr} {len cap : Nat} (h : Good w A len) (ho : LO w A len cap) (hl : len ≤ 5) :
    ∃ T, ∀ W, Below w.heap.size w W → Calls Tryz.prog 8 #[.slice A len cap] W (GivesFr T W) ∧ Calls Tryz.prog 9 #[.slice A len cap] W (GivesFr T W) := by
  obtain ⟨L, hF⟩ := h.frs ho
  cases A with
  | none =>
    obtain ⟨rfl, rfl⟩ := ho.nil_ rfl
    exact ⟨Fr.zero, fun W _ => ⟨fsum_zero none 0 W, rsum_zero none 0 W⟩⟩
  | some a => exact ⟨sumFr L, fun W hb => ⟨fsum_any a len cap L W (hF.keep hb) hl, rsum_any a len cap L W (hF.keep hb) hl⟩⟩
theorem dots_both {w : World} {A B : Option Addr} {len cap len' cap' : Nat} (h : Good w A len) (ho : LO w A len cap) (hl : len ≤ 5) (h' : Good w B len') (ho' : LO w B len' cap') (hl' : len' ≤ 5) :
    ∃ T, ∀ W, Below w.heap.size w W → Calls Tryz.prog 10 #[.slice A len cap, .slice B len' cap'] W (GivesFr T W) ∧ Calls Tryz.prog 11 #[.slice A len cap, .slice B len' cap'] W (GivesFr T W) := by
  by_cases hz : len = 0 ∨ len' = 0
  · exact ⟨Fr.zero, fun W _ => ⟨fdot_zero A B len cap len' cap' W (by omega) hl hl', rdot_zero A B len cap len' cap' W hz hl hl'⟩⟩
  obtain ⟨L, hF⟩ := h.frs ho
  obtain ⟨M, hG⟩ := h'.frs ho'
  cases A with
  | none => exact absurd (.inl (ho.nil_ rfl).1) hz
  | some a =>
    cases B with
    | none => exact absurd (.inr (ho'.nil_ rfl).1) hz
    | some b => exact ⟨dotFr L M, fun W hb => ⟨fdot_any a b len cap len' cap' L M W (hF.keep hb) (hG.keep hb) hl hl' _ rfl, rdot_any a b len cap len' cap' L M W (hF.keep hb) (hG.keep hb) hl hl' _ rfl⟩⟩
set_option maxRecDepth 100000 in
set_option maxHeartbeats 4000000 in
theorem sums_walk (A B : Option Addr) (len cap len' cap' : Nat) (w : World) (h : LO w A len cap) (h' : LO w B len' cap') :
    Calls Tryz.prog 3 #[.slice A len cap, .slice B len' cap'] w (Gives (.bool true) w) := by
  have hm := h.cap_
  have hm' := h'.cap_
  unfold maxLen at hm hm'
  have J := Lib.hid awake2
  have H := Lib.hid h
  have H' := Lib.hid h'
  have B0 := Lib.hid (Below.refl w.heap.size w)
  clear h h'
  by_cases h5 : 5 < len ∨ 5 < len'
  · by_cases h1 : 5 < len
    all_goals
      (try have h2 : 5 < len' := by omega)
      clear h5
      go_enter Tryz.func3, Tryz.ntmps3
      go_wp2_with fail
      refine (J.out _).mono ?_
      rintro e w9 ⟨rfl, hb⟩
      have B9 := Lib.hid hb
      clear hb
      go_wp2
      go_ret
      exact ⟨rfl, B9.out⟩
  have hl : len ≤ 5 := by omega
  have hl' : len' ≤ 5 := by omega
  clear h5
  go_enter Tryz.func3, Tryz.ntmps3
  go_wp2
  go_loopw [5] (fun i wr => ∃ k : Nat, k ≤ len ∧ i = .int .i64 k ∧ Hid (Good w A k) ∧ Hid (Below w.heap.size w wr)) (fun i _ => len - (intOf i).toNat)
  case atStart => exact ⟨0, by omega, rfl, Lib.hid (Good.zero _ _), B0⟩
  case round =>
    obtain ⟨k, hk, rfl, G, HB⟩ := hrel
    by_cases hlt : k < len
    · obtain ⟨ad, hA, s, A1, n, c, z0, B1, m, d, z1, hc⟩ := H.out.el k hlt
      have Ea := (HB.out.cell (World.block_lt_of_cell? w _ hc.c0)).trans hc.c0
      have Eb := (HB.out.cell (World.block_lt_of_cell? w _ hc.c1)).trans hc.c1
      have Ec := (HB.out.cell (World.block_lt_of_cell? w _ hc.c2)).trans hc.c2
      rw [show ad.add (k * 3 + 1) = ⟨(ad.add (k * 3)).block, (ad.add (k * 3)).off + 1, none⟩ by rw [← Addr.add_add]; rfl] at Eb
      rw [show ad.add (k * 3 + 2) = ⟨(ad.add (k * 3)).block, (ad.add (k * 3)).off + 2, none⟩ by rw [← Addr.add_add]; rfl] at Ec
      have hn := hc.x.len_le
      have hm2 := hc.y.len_le
      have HC := Lib.hid hc
      have HA := Lib.hid hA
      subst hA
      clear hc
      by_cases h1 : 2 < n
      · go_wp2_with fail
        refine (J.out _).mono ?_
        rintro e w9 ⟨rfl, hb⟩
        have B9 := Lib.hid (HB.out.trans (hb.mono HB.out.size))
        clear hb HB
        go_wp2
        go_ret
        exact ⟨rfl, B9.out⟩
      by_cases h2 : 2 < m
      · go_wp2_with fail
        refine (J.out _).mono ?_
        rintro e w9 ⟨rfl, hb⟩
        have B9 := Lib.hid (HB.out.trans (hb.mono HB.out.size))
        clear hb HB
        go_wp2
        go_ret
        exact ⟨rfl, B9.out⟩
      obtain ⟨xs, hx⟩ := HC.out.x.lst (by omega)
      obtain ⟨ys, hy⟩ := HC.out.y.lst (by omega)
      obtain ⟨b, hb, hv⟩ := rvalid_ok s A1 B1 n c m d xs ys w hx hy (by omega) (by omega)
      have V := Lib.hid (hv wr HB.out)
      have HV := Lib.hid hb
      clear hx hy hb hv
      cases b
      · go_wp2_with fail
        refine V.out.mono ?_
        rintro e w8 ⟨rfl, hb⟩
        have HB := Lib.hid (HB.out.trans (hb.mono HB.out.size))
        clear hb
        go_wp2_with fail
        refine (J.out _).mono ?_
        rintro e w9 ⟨rfl, hb⟩
        have B9 := Lib.hid (HB.out.trans (hb.mono HB.out.size))
        clear hb HB
        go_wp2
        go_ret
        exact ⟨rfl, B9.out⟩
      · obtain ⟨p, q, hx, hy, ok⟩ := HV.out rfl
        have G2 : Hid (Good w (some ad) (k + 1)) := Lib.hid (G.out.more rfl (X := ⟨s, p, q⟩) ⟨hx.below (by omega), hy.below (by omega), ok⟩ ⟨HC.out.c0, HC.out.c1, HC.out.c2, hx, hy⟩)
        clear hx hy ok HV G
        go_wp2_with fail
        refine V.out.mono ?_
        rintro e w8 ⟨rfl, hb⟩
        have HB2 := Lib.hid (HB.out.trans (hb.mono HB.out.size))
        clear hb HB Ea Eb Ec V
        go_wp2
        go_roundw
        case rel => exact ⟨k + 1, by omega, by go_num, G2, HB2⟩
        case measure => simp [intOf]; omega
    · obtain rfl : k = len := by omega
      have GA := G
      have HBA := HB
      clear G HB
      go_wp2
      go_loopw [6] (fun i wr => ∃ k : Nat, k ≤ len' ∧ i = .int .i64 k ∧ Hid (Good w B k) ∧ Hid (Below w.heap.size w wr)) (fun i _ => len' - (intOf i).toNat)
      case atStart => exact ⟨0, by omega, rfl, Lib.hid (Good.zero _ _), HBA⟩
      case round =>
        obtain ⟨k, hk, rfl, G, HB⟩ := hrel
        by_cases hlt : k < len'
        · obtain ⟨ad, hA, s, A1, n, c, z0, B1, m, d, z1, hc⟩ := H'.out.el k hlt
          have Ea := (HB.out.cell (World.block_lt_of_cell? w _ hc.c0)).trans hc.c0
          have Eb := (HB.out.cell (World.block_lt_of_cell? w _ hc.c1)).trans hc.c1
          have Ec := (HB.out.cell (World.block_lt_of_cell? w _ hc.c2)).trans hc.c2
          rw [show ad.add (k * 3 + 1) = ⟨(ad.add (k * 3)).block, (ad.add (k * 3)).off + 1, none⟩ by rw [← Addr.add_add]; rfl] at Eb
          rw [show ad.add (k * 3 + 2) = ⟨(ad.add (k * 3)).block, (ad.add (k * 3)).off + 2, none⟩ by rw [← Addr.add_add]; rfl] at Ec
          have hn := hc.x.len_le
          have hm2 := hc.y.len_le
          have HC := Lib.hid hc
          have HA := Lib.hid hA
          subst hA
          clear hc
          by_cases h1 : 2 < n
          · go_wp2_with fail
            refine (J.out _).mono ?_
            rintro e w9 ⟨rfl, hb⟩
            have B9 := Lib.hid (HB.out.trans (hb.mono HB.out.size))
            clear hb HB
            go_wp2
            go_ret
            exact ⟨rfl, B9.out⟩
          by_cases h2 : 2 < m
          · go_wp2_with fail
            refine (J.out _).mono ?_
            rintro e w9 ⟨rfl, hb⟩
            have B9 := Lib.hid (HB.out.trans (hb.mono HB.out.size))
            clear hb HB
            go_wp2
            go_ret
            exact ⟨rfl, B9.out⟩
          obtain ⟨xs, hx⟩ := HC.out.x.lst (by omega)
          obtain ⟨ys, hy⟩ := HC.out.y.lst (by omega)
          obtain ⟨b, hb, hv⟩ := rvalid_ok s A1 B1 n c m d xs ys w hx hy (by omega) (by omega)
          have V := Lib.hid (hv wr HB.out)
          have HV := Lib.hid hb
          clear hx hy hb hv
          cases b
          · go_wp2_with fail
            refine V.out.mono ?_
            rintro e w8 ⟨rfl, hb⟩
            have HB := Lib.hid (HB.out.trans (hb.mono HB.out.size))
            clear hb
            go_wp2_with fail
            refine (J.out _).mono ?_
            rintro e w9 ⟨rfl, hb⟩
            have B9 := Lib.hid (HB.out.trans (hb.mono HB.out.size))
            clear hb HB
            go_wp2
            go_ret
            exact ⟨rfl, B9.out⟩
          · obtain ⟨p, q, hx, hy, ok⟩ := HV.out rfl
            have G2 : Hid (Good w (some ad) (k + 1)) := Lib.hid (G.out.more rfl (X := ⟨s, p, q⟩) ⟨hx.below (by omega), hy.below (by omega), ok⟩ ⟨HC.out.c0, HC.out.c1, HC.out.c2, hx, hy⟩)
            clear hx hy ok HV G
            go_wp2_with fail
            refine V.out.mono ?_
            rintro e w8 ⟨rfl, hb⟩
            have HB2 := Lib.hid (HB.out.trans (hb.mono HB.out.size))
            clear hb HB Ea Eb Ec V
            go_wp2
            go_roundw
            case rel => exact ⟨k + 1, by omega, by go_num, G2, HB2⟩
            case measure => simp [intOf]; omega
        · obtain rfl : k = len' := by omega
          obtain ⟨T, hT⟩ := sums_both GA.out H.out hl
          obtain ⟨U, hU⟩ := dots_both GA.out H.out hl G.out H'.out hl'
          have S := Lib.hid hT
          have D := Lib.hid hU
          clear hT hU G GA HBA
          go_wp2_with fail
          refine ((S.out _ HB.out).1).mono ?_
          rintro e w1 ⟨A1, n1, c1, x1, A2, n2, c2, x2, rfl, hn, hn', hb⟩
          have B1 := Lib.hid (HB.out.trans (hb.mono HB.out.size))
          have X1 := Lib.hid hn
          have Y1 := Lib.hid hn'
          clear hn hn' hb HB
          go_wp2_with fail
          refine ((S.out _ B1.out).2).mono ?_
          rintro e w2 ⟨A3, n3, c3, x3, A4, n4, c4, x4, rfl, hn, hn', hb⟩
          have B2 := Lib.hid (B1.out.trans (hb.mono B1.out.size))
          have SA := Lib.hid (sameFr_yes (t := T) rfl rfl (X1.out.keep hb) (Y1.out.keep hb) hn hn')
          clear hn hn' hb B1 X1 Y1 S
          go_wp2_with fail
          refine SA.out.mono ?_
          rintro e w3 ⟨rfl, hb⟩
          have B3 := Lib.hid (B2.out.trans (hb.mono B2.out.size))
          clear hb B2 SA
          go_wp2_with fail
          refine ((D.out _ B3.out).1).mono ?_
          rintro e w4 ⟨A1, n1, c1, x1, A2, n2, c2, x2, rfl, hn, hn', hb⟩
          have B4 := Lib.hid (B3.out.trans (hb.mono B3.out.size))
          have X1 := Lib.hid hn
          have Y1 := Lib.hid hn'
          clear hn hn' hb B3
          go_wp2_with fail
          refine ((D.out _ B4.out).2).mono ?_
          rintro e w5 ⟨A3, n3, c3, x3, A4, n4, c4, x4, rfl, hn, hn', hb⟩
          have B5 := Lib.hid (B4.out.trans (hb.mono B4.out.size))
          have SA := Lib.hid (sameFr_yes (t := U) rfl rfl (X1.out.keep hb) (Y1.out.keep hb) hn hn')
          clear hn hn' hb B4 X1 Y1 D
          go_wp2_with fail
          refine SA.out.mono ?_
          rintro e w6 ⟨rfl, hb⟩
          have B6 := Lib.hid (B5.out.trans (hb.mono B5.out.size))
          clear hb B5 SA
          go_wp2_with fail
          refine (J.out _).mono ?_
          rintro e w9 ⟨rfl, hb⟩
          have B9 := Lib.hid (B6.out.trans (hb.mono B6.out.size))
          clear hb B6
          go_wp2
          go_ret
          exact ⟨rfl, B9.out⟩
end Go.Proofs.YtebfnbnaheolgaaGreatDoor
