/- fraction.Parse at the chapter's example: no claim of its own. -/
import Derived.Test.YtbllnkhbahenkaaGreatDoorShelf
import Derived.Test.YtbllnkhbahenkaaGreatDoorFFormat
import Derived.Test.YtbllnkhbahenkaaGreatDoorFrac
namespace Go.Proofs.YtbllnkhbahenkaaGreatDoor
open Go.RowKit
theorem slCut_lit (w : World) : Calls Tryz.prog 92 #[.string ⟨#[50, 47, 52]⟩, .string ⟨#[47]⟩] w fun e w' => e = .returned (.tuple #[.string ⟨#[50]⟩, .string ⟨#[52]⟩, .bool true]) ∧ ∃ q, w' = w.drewN q := by
  have e1 : Lib.indexByte [50, 47, 52] 47 = 1 := by decide
  have C := fun w' => stringslite_Index_one ⟨#[50, 47, 52]⟩ 47 w'
  rw [show (⟨#[50, 47, 52]⟩ : ByteArray).data.toList = [50, 47, 52] from rfl, e1] at C
  have CC := Lib.hid C
  clear C e1
  go_enter Tryz.func92, Tryz.ntmps92
  go_wp2_with fail
  refine (CC.out _).mono ?_
  rintro e w' ⟨rfl, rfl⟩
  go_wp2
  go_quiet (fail)
  go_wp2
  go_ret3
  exact ⟨rfl, _, rfl⟩
theorem cut_lit (w : World) : Calls Tryz.prog 57 #[.string ⟨#[50, 47, 52]⟩, .string ⟨#[47]⟩] w fun e w' => e = .returned (.tuple #[.string ⟨#[50]⟩, .string ⟨#[52]⟩, .bool true]) ∧ ∃ q, w' = w.drewN q := by
  go_enter Tryz.func57, Tryz.ntmps57
  go_wp2_with fail
  refine (slCut_lit _).mono ?_
  rintro e w' ⟨rfl, q, rfl⟩
  go_wp2
  go_ret3
  exact ⟨rfl, _, rfl⟩
theorem prefix_lit (w : World) : Calls Tryz.prog 56 #[.string ⟨#[50, 47, 52]⟩, .string ⟨#[45]⟩] w fun e w' => e = .returned (.tuple #[.string ⟨#[50, 47, 52]⟩, .bool false]) ∧ w' = w := by
  have C := strings_CutPrefix ⟨#[50, 47, 52]⟩ ⟨#[45]⟩ w
  have e1 : Lib.hasPrefix [50, 47, 52] [45] = false := by decide
  have e2 : Lib.trimPrefix [50, 47, 52] [45] = [50, 47, 52] := by decide
  rw [show (⟨#[50, 47, 52]⟩ : ByteArray).data.toList = [50, 47, 52] from rfl, show (⟨#[45]⟩ : ByteArray).data.toList = [45] from rfl, e1, e2] at C
  exact C
set_option maxRecDepth 100000 in
set_option maxHeartbeats 1000000 in
theorem split_lit (w : World) : Calls Tryz.prog 24 #[.string ⟨#[50, 47, 52]⟩] w (Gives (.agg #[.bool false, .string ⟨#[50]⟩, .bool true, .string ⟨#[52]⟩]) w) := by
  go_enter Tryz.func24, Tryz.ntmps24
  go_wp2_with fail
  refine (prefix_lit _).mono ?_
  rintro e w' ⟨rfl, rfl⟩
  go_wp2_with fail
  refine (cut_lit _).mono ?_
  rintro e w' ⟨rfl, q, rfl⟩
  go_wp2
  refine bodyPost_ret (v := .agg #[.bool false, .string ⟨#[50]⟩, .bool true, .string ⟨#[52]⟩]) (by simp [results, Tryz.results24, go_sem]) rfl ?_
  have b := below_drewN (((Below.refl w.heap.size w).alloc (Nat.le_refl _) (.cells #[.bool false, .string ⟨#[]⟩, .bool false, .string ⟨#[]⟩] 44)).alloc (by simp) (.cells #[.bool false, .string ⟨#[]⟩, .bool false, .string ⟨#[]⟩] 44)) q
  have b2 := ((b.setCell (p := ⟨w.heap.size + 1, 1, none⟩) (Nat.le_succ _) (.string ⟨#[50]⟩)).setCell (p := ⟨w.heap.size + 1, 3, none⟩) (Nat.le_succ _) (.string ⟨#[52]⟩)).setCell (p := ⟨w.heap.size + 1, 2, none⟩) (Nat.le_succ _) (.bool true)
  have b3 := (((b2.setCell (p := ⟨w.heap.size, 0, none⟩) (Nat.le_refl _) (.bool false)).setCell (p := ⟨w.heap.size, 1, none⟩) (Nat.le_refl _) (.string ⟨#[50]⟩)).setCell (p := ⟨w.heap.size, 2, none⟩) (Nat.le_refl _) (.bool true)).setCell (p := ⟨w.heap.size, 3, none⟩) (Nat.le_refl _) (.string ⟨#[52]⟩)
  exact ⟨rfl, b3⟩
set_option maxRecDepth 100000 in
set_option maxHeartbeats 1000000 in
theorem read_slash (u : Bool) (s t : ByteArray) (p q k : Nat) (w : World) (hs : isText s.data.toList p) (ht : isText t.data.toList q) (hp : p < 10 ^ k) (hq : q < 10 ^ k) (hk : k ≤ 599) (q0 : 0 < q) :
    Calls Tryz.prog 25 #[.agg #[.bool u, .string s, .bool true, .string t]] w (GivesFrE (Fr.mk' u p q) 0 w) := by
  have B0 := Lib.hid (((Below.refl w.heap.size w).alloc (Nat.le_refl _) (.cells #[.bool u, .string s, .bool true, .string t] 44)).alloc (by simp) (.cells #[.bool false, .slice none 0 0, .slice none 0 0] 25))
  have W0 := Lib.hid ((WB.new w u s true t).alloc (.cells #[.bool false, .slice none 0 0, .slice none 0 0] 25))
  have R0 := Lib.hid (FB.new (w.alloc (.cells #[.bool u, .string s, .bool true, .string t] 44)) false none 0 0 none 0 0)
  rw [show (w.alloc (.cells #[.bool u, .string s, .bool true, .string t] 44)).heap.size = w.heap.size + 1 by simp] at R0
  have P1 := Lib.hid (fun w' => parse_text hs hp hk w')
  have P2 := Lib.hid (fun w' => parse_text ht hq hk w')
  have PP : Hid (p < 4294967296 ^ k) := Lib.hid (Nat.lt_of_lt_of_le hp (Nat.pow_le_pow_left (by decide) _))
  have PQ : Hid (q < 4294967296 ^ k) := Lib.hid (Nat.lt_of_lt_of_le hq (Nat.pow_le_pow_left (by decide) _))
  have Q0 := Lib.hid q0
  clear hs ht hp hq q0
  go_enter Tryz.func25, Tryz.ntmps25
  go_wp2_with fail
  refine (P1.out _).mono ?_
  rintro e w1 ⟨AX, nX, cX, xX, rfl, hn, hb⟩
  have X1 := Lib.hid (hn)
  have W1 := Lib.hid (W0.out.keep hb)
  have R1 := Lib.hid (R0.out.keep hb)
  have B1 := Lib.hid (B0.out.trans (hb.mono B0.out.size))
  clear hb B0 W0 R0 hn
  obtain ⟨Wa, Wb, Wc, Wd, We, Wf, Wg, Wh⟩ := W1.out.facts
  go_wp2_with fail
  refine (P2.out _).mono ?_
  rintro e w2 ⟨AY, nY, cY, xY, rfl, hn, hb⟩
  have Y2 := Lib.hid (hn)
  have W2 := Lib.hid (W1.out.keep hb)
  have R2 := Lib.hid (R1.out.keep hb)
  have X2 := Lib.hid (X1.out.keep hb)
  have B2 := Lib.hid (B1.out.trans (hb.mono B1.out.size))
  clear hb B1 W1 R1 X1 hn
  clear Wa Wb Wc Wd We Wf Wg Wh
  obtain ⟨Wa, Wb, Wc, Wd, We, Wf, Wg, Wh⟩ := W2.out.facts
  go_wp2_with fail
  refine (make_any u _ _ _ _ _ _ _ _ _ _ _ X2.out Y2.out Q0.out (X2.out.sh PP.out (by omega)) (Y2.out.sh PQ.out (by omega))).mono ?_
  rintro e w3 ⟨AP, nP, cP, xP, AQ, nQ, cQ, xQ, rfl, hn, hn', hb⟩
  have P3 := Lib.hid (hn)
  have Q3 := Lib.hid (hn')
  have W3 := Lib.hid (W2.out.keep hb)
  have R3 := Lib.hid (R2.out.keep hb)
  have B3 := Lib.hid (B2.out.trans (hb.mono B2.out.size))
  clear hb B2 W2 R2 X2 Y2 hn hn'
  clear Wa Wb Wc Wd We Wf Wg Wh
  obtain ⟨Ra, Rb, Rc, Rd, Re, Rf⟩ := R3.out.facts
  obtain ⟨z, hz⟩ : ∃ z, (Fr.mk' u p q).s = z := ⟨_, rfl⟩
  have HZ := Lib.hid hz
  rw [hz]
  clear hz
  go_wp2
  refine bodyPost_ret (v := .tuple #[.agg #[.bool z, .slice AP nP cP, .slice AQ nQ cQ], .int .i64 0]) (by simp [results, Tryz.results25, go_sem, Ra, Rb, Rc]) rfl ?_
  have G := giveFrE (t := Fr.mk' u p q) (k := 0) B3.out (by omega) R3.out P3.out Q3.out
  rw [HZ.out] at G
  exact G
theorem two_text : isText ((⟨#[50]⟩ : ByteArray).data.toList) 2 := ⟨[50], rfl, by decide, by intro c hc; simp at hc; subst hc; exact ⟨by decide, by decide⟩, .inl (.inr (by decide)), rfl⟩
theorem four_text : isText ((⟨#[52]⟩ : ByteArray).data.toList) 4 := ⟨[52], rfl, by decide, by intro c hc; simp at hc; subst hc; exact ⟨by decide, by decide⟩, .inl (.inr (by decide)), rfl⟩
theorem one_text : isText ((⟨#[49]⟩ : ByteArray).data.toList) 1 := ⟨[49], rfl, by decide, by intro c hc; simp at hc; subst hc; exact ⟨by decide, by decide⟩, .inl (.inr (by decide)), rfl⟩
theorem Num.drew2 {w : World} {A : Option Addr} {n c a : Nat} {xs : List Nat} (h : Num w A n c xs a) : Num w.drew A n c xs a := ⟨h.toLst.drew, h.tight, h.val⟩
theorem write_half {A B : Option Addr} {n c m d : Nat} {xs ys : List Nat} {w : World} (hx : Num w A n c xs 1) (hy : Num w B m d ys 2) :
    Calls Tryz.prog 23 #[.agg #[.bool false, .slice A n c, .slice B m d]] w (Gives (.agg #[.bool false, .string ⟨#[49]⟩, .bool true, .string ⟨#[50]⟩]) w) :=
  (write_any false A B n c m d 1 2 1 xs ys w hx hy (by decide) (by decide) (by decide)).mono fun e w' ⟨s, t, he, hs, _, ht, hb⟩ => by
    obtain rfl := text_eq hs one_text
    obtain rfl := text_eq (ht (by decide)) two_text
    exact ⟨he, hb⟩
theorem neq_lit (w : World) : (binOp .neq 44 (.agg #[.bool false, .string ⟨#[49]⟩, .bool true, .string ⟨#[50]⟩]) (.agg #[.bool false, .string ⟨#[50]⟩, .bool true, .string ⟨#[52]⟩])).run Tryz.prog w = .ok (.bool true) w := by kernel_rfl
set_option maxRecDepth 100000 in
set_option maxHeartbeats 1000000 in
theorem parse_lit (w : World) : Calls Tryz.prog 8 #[.string ⟨#[50, 47, 52]⟩] w (GivesFrE ⟨false, 0, 0⟩ 2 w) := by
  have B0 := Lib.hid ((Below.refl w.heap.size w).alloc (Nat.le_refl _) (.cells #[.bool false, .slice none 0 0, .slice none 0 0] 25))
  have R0 := Lib.hid (FB.new w false none 0 0 none 0 0)
  have RD := Lib.hid (fun w' => read_slash false ⟨#[50]⟩ ⟨#[52]⟩ 2 4 1 w' two_text four_text (by decide) (by decide) (by decide) (by decide))
  have em : Fr.mk' false 2 4 = ⟨false, 1, 2⟩ := by simp [Fr.mk']
  have EM := Lib.hid em
  have NQ := Lib.hid neq_lit
  clear em
  go_enter Tryz.func8, Tryz.ntmps8
  go_wp2_with fail
  refine (split_lit _).mono ?_
  rintro e w1 ⟨rfl, hb⟩
  have R1 := Lib.hid (R0.out.keep hb)
  have B1 := Lib.hid (B0.out.trans (hb.mono B0.out.size))
  clear hb B0 R0 
  have w2 := Lib.hid (WB.new w1 false ⟨#[50]⟩ true ⟨#[52]⟩)
  have bw : Below w1.heap.size w1 (w1.alloc (.cells #[.bool false, .string ⟨#[50]⟩, .bool true, .string ⟨#[52]⟩] 44)) := (Below.refl _ _).alloc (Nat.le_refl _) _
  have R2 := Lib.hid (R1.out.keep bw)
  have B2 := Lib.hid (B1.out.trans (bw.mono B1.out.size))
  clear R1 B1 bw
  go_wp2_with fail
  refine (RD.out _).mono ?_
  rintro e w3 ⟨AP, nP, cP, xP, AQ, nQ, cQ, xQ, rfl, hn, hn', hb⟩
  rw [EM.out] at hn hn'
  rw [EM.out]
  go_wp2_with fail
  have f3 : FB (w3.alloc (.cells #[.bool false, .slice AP nP cP, .slice AQ nQ cQ] 25)) w3.heap.size false AP nP cP AQ nQ cQ := FB.new _ _ _ _ _ _ _ _
  have bf : Below w3.heap.size w3 (w3.alloc (.cells #[.bool false, .slice AP nP cP, .slice AQ nQ cQ] 25)) := (Below.refl _ _).alloc (Nat.le_refl _) _
  have W3 := Lib.hid ((w2.out.keep hb).keep bf)
  have F3 := Lib.hid f3
  have R3 := Lib.hid ((R2.out.keep hb).keep bf)
  have P3 := Lib.hid (hn.keep bf).drew2
  have Q3 := Lib.hid (hn'.keep bf).drew2
  have B3 := Lib.hid ((B2.out.trans (hb.mono B2.out.size)).trans (bf.mono (Nat.le_trans B2.out.size hb.size)))
  clear hn hn' hb w2 R2 B2 f3 bf
  obtain ⟨Wa, Wb, Wc, Wd, _, _, _, _⟩ := W3.out.facts
  obtain ⟨Fa, Fb, Fc, _, _, _⟩ := F3.out.facts
  obtain ⟨G3, hG3⟩ : ∃ G3, w3.heap.size = G3 := ⟨_, rfl⟩
  obtain ⟨G1, hG1⟩ : ∃ G1, w1.heap.size = G1 := ⟨_, rfl⟩
  obtain ⟨w5, hw5⟩ : ∃ w5, w3.alloc (.cells #[.bool false, .slice AP nP cP, .slice AQ nQ cQ] 25) = w5 := ⟨_, rfl⟩
  rw [hG3] at F3 Fa Fb Fc
  rw [hG1] at W3 Wa Wb Wc Wd
  rw [hw5] at F3 Fa Fb Fc W3 Wa Wb Wc Wd R3 P3 Q3 B3
  have nq := NQ.out
  rw [hw5, hG3, hG1]
  clear hG3 hG1 hw5
  go_region_held3 (fun w' => w'.cell? ⟨G3, 0, none⟩ = some (.bool false) ∧ w'.cell? ⟨G3, 1, none⟩ = some (.slice AP nP cP) ∧ w'.cell? ⟨G3, 2, none⟩ = some (.slice AQ nQ cQ) ∧ w'.cell? ⟨G1, 0, none⟩ = some (.bool false) ∧ w'.cell? ⟨G1, 1, none⟩ = some (.string ⟨#[50]⟩) ∧ w'.cell? ⟨G1, 2, none⟩ = some (.bool true) ∧ w'.cell? ⟨G1, 3, none⟩ = some (.string ⟨#[52]⟩)) (go_keep) (first | (go_at_call 23; (with_reducible refine (write_half P3.out Q3.out).mono ?_); rintro e w6 ⟨rfl, hb⟩; have hb := ((Below.refl w5.heap.size w5).drew).trans hb; have W6 := Lib.hid (W3.out.keep hb); have F6 := Lib.hid (F3.out.keep hb); have R6 := Lib.hid (R3.out.keep hb); have B6 := Lib.hid (B3.out.trans (hb.mono B3.out.size)); clear hb Wa Wb Wc Wd Fa Fb Fc; obtain ⟨Wa, Wb, Wc, Wd, _, _, _, _⟩ := W6.out.facts; obtain ⟨Fa, Fb, Fc, _, _, _⟩ := F6.out.facts; obtain ⟨Ra, Rb, Rc, Rd, Re, Rf⟩ := R6.out.facts))
  go_wp2
  refine bodyPost_ret (v := .tuple #[.agg #[.bool false, .slice none 0 0, .slice none 0 0], .int .i64 2]) (by simp [results, Tryz.results8, go_sem, Ra, Rb, Rc]) rfl ?_
  exact giveFrE (t := ⟨false, 0, 0⟩) B6.out (Nat.le_refl _) R6.out (Num.zero _) (Num.zero _)
end Go.Proofs.YtbllnkhbahenkaaGreatDoor
