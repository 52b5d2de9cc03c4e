/- ALit, AwakeA, joined: no claim of its own. -/
import Derived.Test.YtbllnkhbahenkaaGreatDoorAF
import Derived.Test.YtbllnkhbahenkaaGreatDoorIsRow
import Derived.Test.YtbllnkhbahenkaaGreatDoorARShare
import Derived.Test.YtbllnkhbahenkaaGreatDoorAFmt
import Derived.Test.YtbllnkhbahenkaaGreatDoorAParse
import Derived.Test.YtbllnkhbahenkaaGreatDoorAUp
import Derived.Test.YtbllnkhbahenkaaGreatDoorRMake
namespace Go.Proofs.YtbllnkhbahenkaaGreatDoor
open Go.RowKit
theorem range_getD (ws : List Int) : (List.range ws.length).map (fun i => ws.getD i 0) = ws := by
  apply List.ext_getElem (by simp)
  intro i h1 h2
  simp [List.getD_eq_getElem?_getD, h2]
theorem Wts.lit {w : World} {b : Nat} {t : TypeId} (ws : List Int) (n : Nat) (h : Blk w b (ws.map (Value.int .i64)) t) (hn : ws.length = n) (h40 : n ≤ 40) : Wts w (some ⟨b, 0, none⟩) n n ws := by
  subst hn
  have := Wts.of_blk (w := w) (b := b) (t := t) (f := fun i => ws.getD i 0) (by rw [F_eq, range_getD]; exact h) h40 (Nat.le_refl _)
  rwa [range_getD] at this
theorem IsRow.wts {w : World} {A : Option Addr} {n c : Nat} {zs : List Int} (h : IsRow .i64 w A n c zs) (hs : n ≤ 40) : Wts w A n c (zs.take n) := by
  rcases h with ⟨rfl, rfl, rfl, rfl⟩ | ⟨x, rfl, h1, h2, hz, hc, hwf⟩
  · exact ⟨⟨by simp, fun h => absurd h (by decide)⟩, rfl, Nat.le_refl _, by decide⟩
  · refine ⟨⟨by simp; omega, fun hp => ⟨x, rfl, ?_, fun j u hu => ?_⟩⟩, by simp; omega, h1, hs⟩
    · have := World.block_lt_of_cell? w _ (hc 0 (by omega))
      rwa [block_of_add] at this
    · have hj : j < n := by
        have := (List.getElem?_eq_some_iff.1 hu).1
        simp at this; omega
      rw [hc j (by omega), ← hu]
      simp only [List.getElem?_map, List.getElem?_take_of_lt hj, List.getElem?_eq_getElem (show j < zs.length by omega), Option.map_some]
      rw [List.getD_eq_getElem?_getD, List.getElem?_eq_getElem (by omega)]
      rfl
theorem IsRow.le {w : World} {A : Option Addr} {n c : Nat} {zs : List Int} (h : IsRow .i64 w A n c zs) : n ≤ c ∧ n ≤ 9223372036854775807 := by
  rcases h with ⟨_, rfl, rfl, _⟩ | ⟨x, _, h1, h2, _⟩
  · omega
  · unfold maxLen at h2; omega
theorem share_a : shareR 10 [1, 1, 1] = ([4, 3, 3], 0) := by decide +kernel
theorem share_b : shareR 7 [2, 1] = ([5, 2], 0) := by decide +kernel
theorem share_c : shareR 1 [0] = ([], 6) := by decide +kernel
end Go.Proofs.YtbllnkhbahenkaaGreatDoor
namespace Go.Proofs.YtbllnkhbahenkaaGreatDoor
open Go.RowKit MA
theorem million_text : isText ([49, 48, 48, 48, 48, 48, 48] : List UInt8) 1000000 :=
  ⟨[48, 48, 48, 48, 48, 48, 49], rfl, by decide, by intro c hc; simp at hc; rcases hc with rfl | rfl <;> exact ⟨by decide, by decide⟩, .inl (.inr (by decide)), rfl⟩
theorem parse_million : parseA [49, 48, 48, 48, 48, 48, 48] = (1000000, 0) := by
  rw [parseA_text million_text (by decide), if_pos (by decide)]; rfl
theorem parse_007 : parseA [48, 48, 55] = (0, 2) := by
  rw [parseA_err (parseErr_bad _ (by decide) (by decide) (.inl ⟨rfl, by decide⟩)) (by decide)]; rfl
theorem itoa_m5 : str (Lib.itoa (-5)) = ⟨#[45, 53]⟩ := by
  unfold Lib.itoa; rw [if_pos (by decide), show (-5 : Int).natAbs = 5 from rfl, Lib.decDigits_one (by decide)]; rfl
theorem up_72 : upR false 7 2 = (4, 0) := by decide +kernel
/-- What has been made so far of what came in. -/
def GivesFE (s : Bool) (p q : Nat) (k : Int) (w : World) (e : Ending) (w' : World) : Prop :=
  ∃ A n c xs B m d ys, e = .returned (.tuple #[.agg #[.bool s, .slice A n c, .slice B m d], .int .i64 k]) ∧ Num w' A n c xs p ∧ Num w' B m d ys q ∧ Below w.heap.size w w'
theorem GivesFrE.fe {t : Fr} {s : Bool} {p q : Nat} {k : Int} {w w' : World} {e : Ending} (h : t = ⟨s, p, q⟩) (g : GivesFrE t k w e w') : GivesFE s p q k w e w' := by
  subst h
  exact g
theorem new72 (w : World) : Calls Tryz.prog 33 #[.int .i64 7, .int .i64 2] w (GivesFE false 7 2 0 w) :=
  (rnew_any 7 2 (by decide) (by decide) (by decide) (by decide) w false false rfl rfl _ 0 (.inl ⟨by decide, rfl, rfl⟩)).mono fun _ _ g => g.fe (by simp [Fr.mk'])
theorem up72 {A B : Option Addr} {n c m d : Nat} {xs ys : List Nat} {w : World} (hx : Num w A n c xs 7) (hy : Num w B m d ys 2) :
    Calls Tryz.prog 14 #[.agg #[.bool false, .slice A n c, .slice B m d]] w (Gives (.tuple #[.int .i64 4, .int .i64 0]) w) := by
  have := up_any false A B n c m d 7 2 1 xs ys w hx hy (by decide) (by decide) (by decide) (by decide)
  rw [up_72] at this
  exact this
theorem via {w w1 : World} {o : Obj} (hb : Below (w.alloc o).heap.size (w.alloc o) w1) : Below w.heap.size w w1 := (below_new w o).trans (hb.mono (below_new w o).size)
set_option maxRecDepth 100000 in
set_option maxHeartbeats 4000000 in
theorem awake5_of (SH : ∀ (t : Int) (A : Option Addr) (n c : Nat) (ws : List Int) (w : World), Wts w A n c ws → Calls Tryz.prog 31 #[.int .i64 t, .slice A n c] w (GivesL (shareR t ws).1 (shareR t ws).2 w)) (w : World) (ht : Tab w) : Calls Tryz.prog 13 #[] w (Gives (.bool true) w) := by
  have B0 := Lib.hid (Below.refl w.heap.size w)
  have T0 := Lib.hid ht
  clear ht
  have J1 : Hid (∀ W A n c, Wts W A n c [1, 1, 1] → Calls Tryz.prog 31 #[.int .i64 10, .slice A n c] W (GivesL [4, 3, 3] 0 W)) := Lib.hid fun W A n c h => by
    have := SH 10 A n c [1, 1, 1] W h
    rw [share_a] at this; exact this
  have J2 : Hid (∀ W A n c, Wts W A n c [2, 1] → Calls Tryz.prog 31 #[.int .i64 7, .slice A n c] W (GivesL [5, 2] 0 W)) := Lib.hid fun W A n c h => by
    have := SH 7 A n c [2, 1] W h
    rw [share_b] at this; exact this
  have J3 : Hid (∀ W A n c, Wts W A n c [0] → Calls Tryz.prog 31 #[.int .i64 1, .slice A n c] W (GivesL [] 6 W)) := Lib.hid fun W A n c h => by
    have := SH 1 A n c [0] W h
    rw [share_c] at this; exact this
  have J4 : Hid (∀ W, Calls Tryz.prog 32 #[.string ⟨#[49, 48, 48, 48, 48, 48, 48]⟩] W (GP (1000000, 0) W)) := Lib.hid fun W => by
    have := parse5_any ⟨#[49, 48, 48, 48, 48, 48, 48]⟩ W (by decide)
    rw [show (⟨#[49, 48, 48, 48, 48, 48, 48]⟩ : ByteArray).data.toList = [49, 48, 48, 48, 48, 48, 48] from rfl, parse_million] at this
    exact this
  have J5 : Hid (∀ W, Calls Tryz.prog 32 #[.string ⟨#[48, 48, 55]⟩] W (GP (0, 2) W)) := Lib.hid fun W => by
    have := parse5_any ⟨#[48, 48, 55]⟩ W (by decide)
    rw [show (⟨#[48, 48, 55]⟩ : ByteArray).data.toList = [48, 48, 55] from rfl, parse_007] at this
    exact this
  have J6 := Lib.hid new72
  have J7 : Hid (∀ W, Tab W → Calls Tryz.prog 35 #[.int .i64 (-5)] W (Gives (.string ⟨#[45, 53]⟩) W)) := Lib.hid fun W h => by
    have := format5_any (-5) (by decide) (by decide) W h
    rw [itoa_m5] at this
    exact this
  have J8 : Hid (∀ W, Calls Tryz.prog 36 #[.int .i64 1000001] W fun e w' => e = .returned (.int .i64 4) ∧ W = w') := Lib.hid fun W => check_any 1000001 W
  clear SH
  go_enter Tryz.func13, Tryz.ntmps13
  go_wp2_with fail
  refine (J1.out _ _ _ _ (Wts.lit [1, 1, 1] 3 (Blk.new _ _ _) rfl (by decide))).mono ?_
  rintro e w1 ⟨A1, n1, c1, rfl, hw, hb⟩
  have P1 := Lib.hid hw
  have B1 := Lib.hid (via hb)
  clear hw hb B0 J1
  go_wp2_with fail
  refine (J2.out _ _ _ _ (Wts.lit [2, 1] 2 (Blk.new _ _ _) rfl (by decide))).mono ?_
  rintro e w2 ⟨A2, n2, c2, rfl, hw, hb⟩
  have P2 := Lib.hid (P1.out.keep (via hb))
  have Q2 := Lib.hid hw
  have B2 := Lib.hid (B1.out.trans ((via hb).mono B1.out.size))
  clear hw hb B1 P1 J2
  go_wp2_with fail
  refine (J3.out _ _ _ _ (Wts.lit [0] 1 (Blk.new _ _ _) rfl (by decide))).mono ?_
  rintro e w3 ⟨A3, n3, c3, rfl, hw, hb⟩
  have P3 := Lib.hid (P2.out.keep (via hb))
  have Q3 := Lib.hid (Q2.out.keep (via hb))
  have B3 := Lib.hid (B2.out.trans ((via hb).mono B2.out.size))
  clear hw hb B2 P2 Q2 J3
  go_wp2_with fail
  refine (J4.out _).mono ?_
  rintro e w' ⟨rfl, rfl⟩
  go_wp2_with fail
  refine (J5.out _).mono ?_
  rintro e w' ⟨rfl, rfl⟩
  go_wp2_with fail
  refine (J6.out _).mono ?_
  rintro e w4 ⟨A4, n4, c4, xs, D4, m4, d4, ys, rfl, hN, hM, hb⟩
  have ba := below_new w4 (.cells #[.bool false, .slice A4 n4 c4, .slice D4 m4 d4] 25)
  have hf := FB.new w4 false A4 n4 c4 D4 m4 d4
  have hk := hb.trans (ba.mono hb.size)
  have P4 := Lib.hid (P3.out.keep hk)
  have Q4 := Lib.hid (Q3.out.keep hk)
  have B4 := Lib.hid (B3.out.trans (hk.mono B3.out.size))
  have N4 := Lib.hid (hN.keep ba)
  have M4 := Lib.hid (hM.keep ba)
  obtain ⟨l0, l1, l2, _, _, _⟩ := hf.facts
  clear hN hM hb ba hf hk B3 P3 Q3 J4 J5 J6
  go_wp2_with fail
  refine (up72 N4.out M4.out).mono ?_
  rintro e w5 ⟨rfl, hb⟩
  have P5 := Lib.hid (P4.out.keep hb)
  have Q5 := Lib.hid (Q4.out.keep hb)
  have B5 := Lib.hid (B4.out.trans (hb.mono B4.out.size))
  clear hb B4 P4 Q4 N4 M4 l0 l1 l2
  go_wp2_with fail
  refine (same5_yes A1 _ n1 c1 _ _ [4, 3, 3] _ (P5.out.keep (below_new _ _)) (Wts.lit [4, 3, 3] 3 (Blk.new _ _ _) rfl (by decide))).mono ?_
  rintro e w6 ⟨rfl, hb⟩
  have Q6 := Lib.hid (Q5.out.keep (via hb))
  have B6 := Lib.hid (B5.out.trans ((via hb).mono B5.out.size))
  clear hb B5 Q5 P5
  go_wp2_with fail
  refine (same5_yes A2 _ n2 c2 _ _ [5, 2] _ (Q6.out.keep (below_new _ _)) (Wts.lit [5, 2] 2 (Blk.new _ _ _) rfl (by decide))).mono ?_
  rintro e w7 ⟨rfl, hb⟩
  have B7 := Lib.hid (B6.out.trans ((via hb).mono B6.out.size))
  clear hb B6 Q6
  go_wp2_with fail
  refine (J7.out _ (T0.out.keep B7.out)).mono ?_
  rintro e w8 ⟨rfl, hb⟩
  have B8 := Lib.hid (B7.out.trans (hb.mono B7.out.size))
  clear hb B7 J7
  go_wp2_with fail
  refine (J8.out _).mono ?_
  rintro e w' ⟨rfl, rfl⟩
  go_wp2
  go_ret
  exact ⟨rfl, B8.out⟩
end Go.Proofs.YtbllnkhbahenkaaGreatDoor
