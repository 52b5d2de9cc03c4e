/- fraction.read of a text with no slash: no claim of its own. -/
import Derived.Test.YtbllnkhbahenkaaGreatDoorFRead
import Derived.Deep.RegionHeld3
namespace Go.Proofs.YtbllnkhbahenkaaGreatDoor
open Go.RowKit
set_option maxRecDepth 100000 in
set_option maxHeartbeats 1000000 in
theorem read_whole (u : Bool) (s t : ByteArray) (p : Nat) (w : World) (hs1 : s.size ≤ 2000) (hs : parseErr s.data.toList = 0) (hp : decVal s.data.toList = p) :
    Calls Tryz.prog 25 #[.agg #[.bool u, .string s, .bool false, .string t]] w (GivesFrE (Fr.mk' u p 1) 0 w) := by
  have B0 := Lib.hid (((Below.refl w.heap.size w).alloc (Nat.le_refl _) (.cells #[.bool u, .string s, .bool false, .string t] 44)).alloc (by simp) (.cells #[.bool false, .slice none 0 0, .slice none 0 0] 25))
  have W0 := Lib.hid ((WB.new w u s false t).alloc (.cells #[.bool false, .slice none 0 0, .slice none 0 0] 25))
  have R0 := Lib.hid (FB.new (w.alloc (.cells #[.bool u, .string s, .bool false, .string t] 44)) false none 0 0 none 0 0)
  rw [show (w.alloc (.cells #[.bool u, .string s, .bool false, .string t] 44)).heap.size = w.heap.size + 1 by simp] at R0
  have P1 := Lib.hid (fun w' => parsed s p 0 (by omega) (by rw [if_pos hs]; exact hp) hs w')
  have PP : Hid (∃ K, K ≤ 900000 ∧ p < 4294967296 ^ K) := Lib.hid ⟨s.size, by omega, by rw [← hp]; exact dec_pow hs (by rw [size_list]; exact Nat.le_refl _)⟩
  have O0 : Hid (0 < 1) := Lib.hid (by decide)
  have FU : Hid (∀ w', Calls Tryz.prog 59 #[.int .u64 1] w' (GivesNum 1 w')) := Lib.hid (fun w' => fromUint_any 1 (by decide) w')
  clear hs hp hs1
  go_enter Tryz.func25, Tryz.ntmps25
  go_wp2_with fail
  refine (P1.out _).mono ?_
  rintro e w1 ⟨AX, nX, cX, xX, rfl, hn, hb⟩
  have X1 := Lib.hid (hn)
  have W1 := Lib.hid (W0.out.keep hb)
  have R1 := Lib.hid (R0.out.keep hb)
  have B1 := Lib.hid (B0.out.trans (hb.mono B0.out.size))
  clear hb B0 W0 R0 hn
  obtain ⟨Wa, Wb, Wc, Wd, We, Wf, Wg, Wh⟩ := W1.out.facts
  go_wp2_with fail
  have D1 := Lib.hid (Below.refl w1.heap.size w1).drew
  go_region_held3 (fun w' => w'.cell? ⟨w.heap.size, 0, none⟩ = some (.bool u)) (go_keep) (first | (go_at_call 59; (with_reducible refine (FU.out _).mono ?_); rintro e w2 ⟨AY, nY, cY, xY, rfl, hn, hb⟩; have hb := D1.out.trans hb; have Y2 := Lib.hid hn; have W2 := Lib.hid (W1.out.keep hb); have R2 := Lib.hid (R1.out.keep hb); have X2 := Lib.hid (X1.out.keep hb); have B2 := Lib.hid (B1.out.trans (hb.mono B1.out.size)); clear hb hn Wa Wb Wc Wd We Wf Wg Wh; obtain ⟨Wa, Wb, Wc, Wd, We, Wf, Wg, Wh⟩ := W2.out.facts) | (go_at_call 43; (with_reducible refine (make_any u _ _ _ _ _ _ _ _ _ _ _ X2.out Y2.out O0.out (PP.out.elim fun _ h => X2.out.sh h.2 h.1) (Y2.out.sh (k := 1) (by decide) (by decide))).mono ?_); rintro e w3 ⟨AP, nP, cP, xP, AQ, nQ, cQ, xQ, rfl, hn, hn', hb⟩; have P3 := Lib.hid hn; have Q3 := Lib.hid hn'; have R3 := Lib.hid (R2.out.keep hb); have W3 := Lib.hid (W2.out.keep hb); have B3 := Lib.hid (B2.out.trans (hb.mono B2.out.size)); clear hb hn hn' Wa Wb Wc Wd We Wf Wg Wh; obtain ⟨Wa, Wb, Wc, Wd, We, Wf, Wg, Wh⟩ := W3.out.facts; obtain ⟨Ra, Rb, Rc, Rd, Re, Rf⟩ := R3.out.facts))

  obtain ⟨z, hz⟩ : ∃ z, (Fr.mk' u p 1).s = z := ⟨_, rfl⟩
  have HZ := Lib.hid hz
  rw [hz]
  clear hz
  go_wp2
  refine bodyPost_ret (v := .tuple #[.agg #[.bool z, .slice AP nP cP, .slice AQ nQ cQ], .int .i64 0]) (by simp [results, Tryz.results25, go_sem, Ra, Rb, Rc]) rfl ?_
  have G := giveFrE (t := Fr.mk' u p 1) (k := 0) B3.out (by omega) R3.out P3.out Q3.out
  rw [HZ.out] at G
  exact G
end Go.Proofs.YtbllnkhbahenkaaGreatDoor
