/- The contract of fraction.write: no claim of its own. -/
import Derived.Test.YtbllnkhbahenkaaGreatDoorFrac
import Derived.Test.YtbllnkhbahenkaaGreatDoorTexts
import Derived.Deep.DeepCutAuto
namespace Go.Proofs.YtbllnkhbahenkaaGreatDoor
open Go.RowKit
/-- Block g is a variable of the parts of a text. -/
def WB (w : World) (g : Nat) (a : Bool) (s : ByteArray) (b : Bool) (t : ByteArray) : Prop := w.heap[g]? = some (.cells #[.bool a, .string s, .bool b, .string t] 44 (0, 0))
section
variable {w w1 : World} {g : Nat} {a b : Bool} {s t : ByteArray}
theorem WB.lt (h : WB w g a s b t) : g < w.heap.size := (Array.getElem?_eq_some_iff.1 h).1
theorem WB.keep (h : WB w g a s b t) (hb : Below w.heap.size w w1) : WB w1 g a s b t := (hb.block g h.lt).trans h
theorem WB.drew (h : WB w g a s b t) : WB w.drew g a s b t := h
theorem WB.alloc (h : WB w g a s b t) (o : Obj) : WB (w.alloc o) g a s b t := h.keep ((Below.refl _ _).alloc (Nat.le_refl _) _)
theorem WB.new (w : World) (a : Bool) (s : ByteArray) (b : Bool) (t : ByteArray) : WB (w.alloc (.cells #[.bool a, .string s, .bool b, .string t] 44)) w.heap.size a s b t := heap_alloc_new w _
theorem WB.facts (h : WB w g a s b t) : w.cell? ⟨g, 0, none⟩ = some (.bool a) ∧ w.cell? ⟨g, 1, none⟩ = some (.string s) ∧ w.cell? ⟨g, 2, none⟩ = some (.bool b) ∧ w.cell? ⟨g, 3, none⟩ = some (.string t) ∧ w.frozen? ⟨g, 0, none⟩ = false ∧ w.frozen? ⟨g, 1, none⟩ = false ∧ w.frozen? ⟨g, 2, none⟩ = false ∧ w.frozen? ⟨g, 3, none⟩ = false := by
  have e : w.heap[g]? = some (.cells #[.bool a, .string s, .bool b, .string t] 44 (0, 0)) := h
  refine ⟨?_, ?_, ?_, ?_, ?_, ?_, ?_, ?_⟩
  all_goals first | (rw [cell_of_row w g _ _ _ _ e]; rfl) | simp [World.frozen?, e]
theorem WB.off (h : WB w g a s b t) {g' : Nat} (hg : w.grownBy w1 (some g')) (hne : g ≠ g') : WB w1 g a s b t := (hg.block g h.lt (by intro e; injection e with e; exact hne e)).trans h
theorem FB.off {A B : Option Addr} {n c m d : Nat} (h : FB w g a A n c B m d) {g' : Nat} (hg : w.grownBy w1 (some g')) (hne : g ≠ g') : FB w1 g a A n c B m d := (hg.block g h.lt (by intro e; injection e with e; exact hne e)).trans h
end
def stW (w : World) (g : Nat) (a : Bool) (s : ByteArray) (b : Bool) (t : ByteArray) : World :=
  (((w.setCell ⟨g, 0, none⟩ (.bool a)).setCell ⟨g, 1, none⟩ (.string s)).setCell ⟨g, 2, none⟩ (.bool b)).setCell ⟨g, 3, none⟩ (.string t)
theorem grown_stW (w : World) (g : Nat) (a : Bool) (s : ByteArray) (b : Bool) (t : ByteArray) : w.grownBy (stW w g a s b t) (some g) :=
  grown_trans (grown_trans (grown_trans (grown_set _ _ _ _) (grown_set _ _ _ _)) (grown_set _ _ _ _)) (grown_set _ _ _ _)
theorem WB.st {w : World} {g : Nat} {a' b' : Bool} {s' t' : ByteArray} (h : WB w g a' s' b' t') (a : Bool) (s : ByteArray) (b : Bool) (t : ByteArray) : WB (stW w g a s b t) g a s b t := by
  have e : w.heap[g]? = some (.cells #[.bool a', .string s', .bool b', .string t'] 44 (0, 0)) := h
  have h1 := heap_setCell_same w g 0 _ _ (.bool a) e
  have h2 := heap_setCell_same _ g 1 _ _ (.string s) h1
  have h3 := heap_setCell_same _ g 2 _ _ (.bool b) h2
  have h4 := heap_setCell_same _ g 3 _ _ (.string t) h3
  unfold WB stW
  rw [h4]
  rfl
theorem st_keep {w : World} {g g' o : Nat} {a b : Bool} {s t : ByteArray} {v : Value} (hne : g' ≠ g) (h : w.cell? ⟨g', o, none⟩ = some v) : (stW w g a s b t).cell? ⟨g', o, none⟩ = some v := by
  unfold stW
  rw [World.cell?_setCell_other _ _ _ _ (fun e => hne (congrArg Addr.block e).symm), World.cell?_setCell_other _ _ _ _ (fun e => hne (congrArg Addr.block e).symm), World.cell?_setCell_other _ _ _ _ (fun e => hne (congrArg Addr.block e).symm), World.cell?_setCell_other _ _ _ _ (fun e => hne (congrArg Addr.block e).symm)]
  exact h
theorem WB.set2 {w : World} {g : Nat} {a b : Bool} {s t : ByteArray} (h : WB w g a s b t) (b' : Bool) : WB (w.setCell ⟨g, 2, none⟩ (.bool b')) g a s b' t := by
  have e : w.heap[g]? = some (.cells #[.bool a, .string s, .bool b, .string t] 44 (0, 0)) := h
  have h1 := heap_setCell_same w g 2 _ _ (.bool b') e
  unfold WB
  rw [h1]
  rfl
/-- A call hands back the parts of the text of a fraction. -/
def GivesW (u : Bool) (p q : Nat) (w : World) (e : Ending) (w' : World) : Prop :=
  ∃ s t, e = .returned (.agg #[.bool u, .string s, .bool (!decide (q = 1)), .string t]) ∧ isText s.data.toList p ∧ (q = 1 → t = ⟨#[]⟩) ∧ (q ≠ 1 → isText t.data.toList q) ∧ Below w.heap.size w w'
def Wcut (u : Bool) (A : Option Addr) (n c : Nat) (B : Option Addr) (m d p q : Nat) (w : World) (g : Nat) (wx : World) : Prop :=
  ∃ s ys, isText s.data.toList p ∧ WB wx g u s false ⟨#[]⟩ ∧ FB wx w.heap.size u A n c B m d ∧ WB wx (w.heap.size + 1) false ⟨#[]⟩ false ⟨#[]⟩ ∧ Num wx B m d ys q ∧ Below w.heap.size w wx ∧ w.heap.size + 1 < g
set_option maxRecDepth 100000 in
set_option maxHeartbeats 1000000 in
theorem write_any (u : Bool) (A B : Option Addr) (n c m d p q i : Nat) (xs ys : List Nat) (w : World) (hx : Num w A n c xs p) (hy : Num w B m d ys q) (pp : p < 4294967296 ^ i) (pq : q < 4294967296 ^ i) (hi : i ≤ 900000) :
    Calls Tryz.prog 23 #[.agg #[.bool u, .slice A n c, .slice B m d]] w (GivesW u p q w) := by
  have b0 := ((Below.refl w.heap.size w).alloc (Nat.le_refl _) (.cells #[.bool u, .slice A n c, .slice B m d] 25)).alloc (by simp) (.cells #[.bool false, .string ⟨#[]⟩, .bool false, .string ⟨#[]⟩] 44)
  have X0 := Lib.hid hx
  have Y0 := Lib.hid hy
  have hnn : Hid (n ≤ 1000000) := Lib.hid (hx.sh pp (by omega))
  have hmm : Hid (m ≤ 1000000) := Lib.hid (hy.sh pq (by omega))
  have H0 := Lib.hid ((FB.new w u A n c B m d).alloc (.cells #[.bool false, .string ⟨#[]⟩, .bool false, .string ⟨#[]⟩] 44))
  have K0 := Lib.hid (WB.new (w.alloc (.cells #[.bool u, .slice A n c, .slice B m d] 25)) false ⟨#[]⟩ false ⟨#[]⟩)
  rw [show (w.alloc (.cells #[.bool u, .slice A n c, .slice B m d] 25)).heap.size = w.heap.size + 1 by simp] at K0
  have b1 := Lib.hid b0.drew
  have b2 := Lib.hid ((b0.alloc (by simp; omega) (.cells #[.bool false, .string ⟨#[]⟩, .bool false, .string ⟨#[]⟩] 44)).drew)
  have Z0 := Lib.hid ((WB.new ((w.alloc (.cells #[.bool u, .slice A n c, .slice B m d] 25)).alloc (.cells #[.bool false, .string ⟨#[]⟩, .bool false, .string ⟨#[]⟩] 44)) false ⟨#[]⟩ false ⟨#[]⟩).drew)
  rw [show ((w.alloc (.cells #[.bool u, .slice A n c, .slice B m d] 25)).alloc (.cells #[.bool false, .string ⟨#[]⟩, .bool false, .string ⟨#[]⟩] 44)).heap.size = w.heap.size + 1 + 1 by simp] at Z0
  have B0 := Lib.hid b0
  clear hx hy pp pq b0
  go_enter Tryz.func23, Tryz.ntmps23
  go_upto_region 1 with fail
  go_cut [3] (fun s3 wx => ∃ g : Nat, s3 = .pointer (some ⟨g, 0, none⟩) ∧ Hid (Wcut u A n c B m d p q w g wx))
  case first =>
    go_region_held3 (fun w' => w'.cell? ⟨w.heap.size, 0, none⟩ = some (.bool u) ∧ w'.cell? ⟨w.heap.size, 1, none⟩ = some (.slice A n c)) (first | go_keep | exact ⟨st_keep (by omega) Ha, st_keep (by omega) Hb⟩) (first | (go_at_call 54; (with_reducible refine (format_any _ _ _ _ _ _ (X0.out.keep b1.out) hnn.out).mono ?_); rintro e w1 ⟨t, rfl, ht, hb⟩; have HT := Lib.hid ht; have Y1 := Lib.hid ((Y0.out.keep b1.out).keep hb); have H1 := Lib.hid ((H0.out.drew).keep hb); have K1 := Lib.hid ((K0.out.drew).keep hb); have B1 := Lib.hid (b1.out.trans (hb.mono b1.out.size)); obtain ⟨Ha, Hb, Hc, _, _, _⟩ := H1.out.facts; clear hb ht) | (go_at_call 54; (with_reducible refine (format_any _ _ _ _ _ _ (X0.out.keep b2.out) hnn.out).mono ?_); rintro e w1 ⟨t, rfl, ht, hb⟩; have HT := Lib.hid ht; have Y1 := Lib.hid ((Y0.out.keep b2.out).keep hb); have H1 := Lib.hid (((H0.out.alloc (.cells #[.bool false, .string ⟨#[]⟩, .bool false, .string ⟨#[]⟩] 44)).drew).keep hb); have K1 := Lib.hid (((K0.out.alloc (.cells #[.bool false, .string ⟨#[]⟩, .bool false, .string ⟨#[]⟩] 44)).drew).keep hb); have B1 := Lib.hid (b2.out.trans (hb.mono b2.out.size)); have Z1 := Lib.hid (Z0.out.keep hb); obtain ⟨Za, Zb, Zc, Zd, Ze, Zf, Zg, Zh⟩ := Z1.out.facts; obtain ⟨Ha, Hb, Hc, _, _, _⟩ := H1.out.facts; clear hb ht))
    · go_wp2_with fail
      go_meet
      exact ⟨w1.heap.size, rfl, Lib.hid ⟨t, ys, HT.out, WB.new _ _ _ _ _, H1.out.alloc _, K1.out.alloc _, Y0.out.keep (B1.out.alloc B1.out.size _), B1.out.alloc B1.out.size _, K1.out.lt⟩⟩
    · have bb := B1.out.trans (grown_below (grown_stW w1 (w.heap.size + 1 + 1) u t false ⟨#[]⟩) (by omega) B1.out.size)
      go_wp2_with fail
      go_meet
      exact ⟨w.heap.size + 1 + 1, rfl, Lib.hid ⟨t, ys, HT.out, Z1.out.st _ _ _ _, H1.out.off (grown_stW _ _ _ _ _ _) (by omega), K1.out.off (grown_stW _ _ _ _ _ _) (by omega), Y0.out.keep bb, bb, by omega⟩⟩
  case rest =>
    obtain ⟨g, rfl, hc⟩ := hcut
    obtain ⟨s, zs, hs, hG, hH, hK, hY, hB, hlt⟩ := hc.out
    have HS := Lib.hid hs
    have G1 := Lib.hid hG
    have K1 := Lib.hid hK
    have H1 := Lib.hid hH
    have Y1 := Lib.hid hY
    have B1 := Lib.hid hB
    obtain ⟨Ga, Gb, Gc, Gd, Ge, Gf, Gg, Gh⟩ := hG.facts
    obtain ⟨Ha, Hb, Hc, _, _, _⟩ := hH.facts
    obtain ⟨Ka, Kb, Kc, Kd, Ke, Kf, Kg, Kh⟩ := hK.facts
    clear hs hG hH hK hY hB hc
    by_cases h1 : q = 1
    · have C := Lib.hid (isOne_any B m d q zs wc Y1.out true (decide_eq_true h1))
      have H1q := Lib.hid h1
      clear h1
      go_wp2_with fail
      refine C.out.mono ?_
      rintro e w' ⟨rfl, rfl⟩
      go_wp2
      refine bodyPost_ret (v := .agg #[.bool u, .string s, .bool false, .string ⟨#[]⟩]) (by simp [results, Tryz.results23, go_sem, Ka, Kb, Kc, Kd]) rfl ?_
      exact ⟨s, ⟨#[]⟩, by rw [decide_eq_true H1q.out]; rfl, HS.out, fun _ => rfl, fun h => absurd H1q.out h, B1.out.trans (grown_below (grown_stW wc (w.heap.size + 1) u s false ⟨#[]⟩) (by omega) B1.out.size)⟩
    · have C := Lib.hid (isOne_any B m d q zs wc Y1.out false (decide_eq_false h1))
      have H1q := Lib.hid h1
      have g2 : wc.grownBy (wc.setCell ⟨g, 2, none⟩ (.bool true)) (some g) := grown_set _ _ _ _
      have bq := B1.out.trans (grown_below g2 (by omega) B1.out.size)
      have Y2 := Lib.hid (Y0.out.keep bq)
      have G2 := Lib.hid (G1.out.set2 true)
      have K2 := Lib.hid (K1.out.off g2 (by omega))
      have B2 := Lib.hid bq
      have FM := Lib.hid (format_any B m d q ys _ Y2.out hmm.out)
      clear h1 g2 bq
      go_wp2_with fail
      refine C.out.mono ?_
      rintro e w' ⟨rfl, rfl⟩
      obtain ⟨ha2, hb2, hc2, _, _, _⟩ := (H1.out.off (grown_set wc g 2 (.bool true)) (by omega)).facts
      go_wp2_with fail
      refine FM.out.mono ?_
      rintro e w3 ⟨t2, rfl, ht2, hb⟩
      have HT2 := Lib.hid ht2
      have G3 := Lib.hid (G2.out.keep hb)
      have K3 := Lib.hid (K2.out.keep hb)
      have B3 := Lib.hid (B2.out.trans (hb.mono B2.out.size))
      clear ht2 hb Ga Gb Gc Gd Ge Gf Gg Gh Ka Kb Kc Kd Ke Kf Kg Kh
      obtain ⟨Ga, Gb, Gc, Gd, Ge, Gf, Gg, Gh⟩ := G3.out.facts
      obtain ⟨Ka, Kb, Kc, Kd, Ke, Kf, Kg, Kh⟩ := K3.out.facts
      go_wp2
      refine bodyPost_ret (v := .agg #[.bool u, .string s, .bool true, .string t2]) (by simp [results, Tryz.results23, go_sem, Ka, Kb, Kc, Kd]) rfl ?_
      have x1 := B3.out.trans (grown_below (grown_set w3 g 3 (.string t2)) (by omega) B3.out.size)
      have x2 := x1.trans (grown_below (grown_stW (w3.setCell ⟨g, 3, none⟩ (.string t2)) (w.heap.size + 1) u s true t2) (by omega) x1.size)
      exact ⟨s, t2, by rw [decide_eq_false H1q.out]; rfl, HS.out, fun h => absurd h H1q.out, fun _ => HT2.out, x2⟩
end Go.Proofs.YtbllnkhbahenkaaGreatDoor
/- The contract of fraction.Format: no claim of its own. -/
namespace Go.Proofs.YtbllnkhbahenkaaGreatDoor
open Go.RowKit
/-- l is the text of a fraction. -/
def fText (u : Bool) (p q : Nat) (l : List UInt8) : Prop :=
  ∃ a b, isText a p ∧ (q ≠ 1 → isText b q) ∧ l = (if u then [45] else []) ++ a ++ (if q = 1 then [] else 47 :: b)
theorem fText_inj {u : Bool} {p q : Nat} {l l' : List UInt8} (h : fText u p q l) (k : fText u p q l') : l = l' := by
  obtain ⟨a, b, h1, h2, rfl⟩ := h
  obtain ⟨a', b', k1, k2, rfl⟩ := k
  rw [isText_inj _ _ _ h1 k1]
  by_cases hq : q = 1
  · rw [if_pos hq, if_pos hq]
  · rw [if_neg hq, if_neg hq, isText_inj _ _ _ (h2 hq) (k2 hq)]
def GivesFT (u : Bool) (p q : Nat) (w : World) (e : Ending) (w' : World) : Prop := ∃ s, e = .returned (.string s) ∧ fText u p q s.data.toList ∧ Below w.heap.size w w'
theorem text_size {s : ByteArray} {a i : Nat} (h : isText s.data.toList a) (ha : a < 4294967296 ^ i) : s.size ≤ 10 * i + 1 := by
  have := isText_len _ _ _ h (pow_ten ha)
  rwa [size_list] at this
set_option maxRecDepth 100000 in
set_option maxHeartbeats 1000000 in
theorem fformat_false_one (A B : Option Addr) (n c m d p q i : Nat) (xs ys : List Nat) (w : World) (hx : Num w A n c xs p) (hy : Num w B m d ys q) (pp : p < 4294967296 ^ i) (pq : q < 4294967296 ^ i) (hi : i ≤ 900000) (h1 : q = 1) :
    Calls Tryz.prog 7 #[.agg #[.bool false, .slice A n c, .slice B m d]] w (GivesFT false p q w) := by
  have B0 := Lib.hid ((Below.refl w.heap.size w).alloc (Nat.le_refl _) (.cells #[.bool false, .slice A n c, .slice B m d] 25))
  have C := write_any false A B n c m d p q i xs ys _ (hx.keep B0.out) (hy.keep B0.out) pp pq hi
  have CC := Lib.hid C
  have H1 := Lib.hid h1
  have PP := Lib.hid pp
  have PQ := Lib.hid pq
  have z : Hid ((!decide (q = 1)) = false) := Lib.hid (by rw [decide_eq_true h1]; rfl)
  clear hx hy pp pq C h1
  go_enter Tryz.func7, Tryz.ntmps7
  go_wp2_with fail
  refine CC.out.mono ?_
  rintro e w1 ⟨s, t, rfl, hs, ht1, ht2, hb⟩
  rw [z.out]
  have hsz := text_size hs PP.out
  have HS := Lib.hid hs
  have B1 := Lib.hid (B0.out.trans (hb.mono B0.out.size))
  have HT := Lib.hid (ht1 H1.out)
  clear hs ht1 ht2 hb CC
  go_wp2
  go_ret
  refine ⟨_, rfl, ⟨s.data.toList, t.data.toList, HS.out, fun _ => absurd H1.out (by assumption), ?_⟩, B1.out.alloc B1.out.size _⟩
  rw [if_pos H1.out]
  simp
set_option maxRecDepth 100000 in
set_option maxHeartbeats 1000000 in
theorem fformat_false_more (A B : Option Addr) (n c m d p q i : Nat) (xs ys : List Nat) (w : World) (hx : Num w A n c xs p) (hy : Num w B m d ys q) (pp : p < 4294967296 ^ i) (pq : q < 4294967296 ^ i) (hi : i ≤ 900000) (h1 : q ≠ 1) :
    Calls Tryz.prog 7 #[.agg #[.bool false, .slice A n c, .slice B m d]] w (GivesFT false p q w) := by
  have B0 := Lib.hid ((Below.refl w.heap.size w).alloc (Nat.le_refl _) (.cells #[.bool false, .slice A n c, .slice B m d] 25))
  have C := write_any false A B n c m d p q i xs ys _ (hx.keep B0.out) (hy.keep B0.out) pp pq hi
  have CC := Lib.hid C
  have H1 := Lib.hid h1
  have PP := Lib.hid pp
  have PQ := Lib.hid pq
  have z : Hid ((!decide (q = 1)) = true) := Lib.hid (by rw [decide_eq_false h1]; rfl)
  clear hx hy pp pq C h1
  go_enter Tryz.func7, Tryz.ntmps7
  go_wp2_with fail
  refine CC.out.mono ?_
  rintro e w1 ⟨s, t, rfl, hs, ht1, ht2, hb⟩
  rw [z.out]
  have hsz := text_size hs PP.out
  have HS := Lib.hid hs
  have B1 := Lib.hid (B0.out.trans (hb.mono B0.out.size))
  have hts := text_size (ht2 H1.out) PQ.out
  have HT := Lib.hid (ht2 H1.out)
  clear hs ht1 ht2 hb CC
  go_wp2
  go_ret
  refine ⟨_, rfl, ⟨s.data.toList, t.data.toList, HS.out, fun _ => HT.out, ?_⟩, B1.out.alloc B1.out.size _⟩
  rw [if_neg H1.out]
  simp [Array.toList_append]
set_option maxRecDepth 100000 in
set_option maxHeartbeats 1000000 in
theorem fformat_true_one (A B : Option Addr) (n c m d p q i : Nat) (xs ys : List Nat) (w : World) (hx : Num w A n c xs p) (hy : Num w B m d ys q) (pp : p < 4294967296 ^ i) (pq : q < 4294967296 ^ i) (hi : i ≤ 900000) (h1 : q = 1) :
    Calls Tryz.prog 7 #[.agg #[.bool true, .slice A n c, .slice B m d]] w (GivesFT true p q w) := by
  have B0 := Lib.hid ((Below.refl w.heap.size w).alloc (Nat.le_refl _) (.cells #[.bool true, .slice A n c, .slice B m d] 25))
  have C := write_any true A B n c m d p q i xs ys _ (hx.keep B0.out) (hy.keep B0.out) pp pq hi
  have CC := Lib.hid C
  have H1 := Lib.hid h1
  have PP := Lib.hid pp
  have PQ := Lib.hid pq
  have z : Hid ((!decide (q = 1)) = false) := Lib.hid (by rw [decide_eq_true h1]; rfl)
  clear hx hy pp pq C h1
  go_enter Tryz.func7, Tryz.ntmps7
  go_wp2_with fail
  refine CC.out.mono ?_
  rintro e w1 ⟨s, t, rfl, hs, ht1, ht2, hb⟩
  rw [z.out]
  have hsz := text_size hs PP.out
  have HS := Lib.hid hs
  have B1 := Lib.hid (B0.out.trans (hb.mono B0.out.size))
  have HT := Lib.hid (ht1 H1.out)
  clear hs ht1 ht2 hb CC
  go_wp2
  go_ret
  refine ⟨_, rfl, ⟨s.data.toList, t.data.toList, HS.out, fun _ => absurd H1.out (by assumption), ?_⟩, B1.out.alloc B1.out.size _⟩
  rw [if_pos H1.out]
  simp [ByteArray.data_append, Array.toList_append]
set_option maxRecDepth 100000 in
set_option maxHeartbeats 1000000 in
theorem fformat_true_more (A B : Option Addr) (n c m d p q i : Nat) (xs ys : List Nat) (w : World) (hx : Num w A n c xs p) (hy : Num w B m d ys q) (pp : p < 4294967296 ^ i) (pq : q < 4294967296 ^ i) (hi : i ≤ 900000) (h1 : q ≠ 1) :
    Calls Tryz.prog 7 #[.agg #[.bool true, .slice A n c, .slice B m d]] w (GivesFT true p q w) := by
  have B0 := Lib.hid ((Below.refl w.heap.size w).alloc (Nat.le_refl _) (.cells #[.bool true, .slice A n c, .slice B m d] 25))
  have C := write_any true A B n c m d p q i xs ys _ (hx.keep B0.out) (hy.keep B0.out) pp pq hi
  have CC := Lib.hid C
  have H1 := Lib.hid h1
  have PP := Lib.hid pp
  have PQ := Lib.hid pq
  have z : Hid ((!decide (q = 1)) = true) := Lib.hid (by rw [decide_eq_false h1]; rfl)
  clear hx hy pp pq C h1
  go_enter Tryz.func7, Tryz.ntmps7
  go_wp2_with fail
  refine CC.out.mono ?_
  rintro e w1 ⟨s, t, rfl, hs, ht1, ht2, hb⟩
  rw [z.out]
  have hsz := text_size hs PP.out
  have HS := Lib.hid hs
  have B1 := Lib.hid (B0.out.trans (hb.mono B0.out.size))
  have hts := text_size (ht2 H1.out) PQ.out
  have HT := Lib.hid (ht2 H1.out)
  clear hs ht1 ht2 hb CC
  go_wp2
  go_ret
  refine ⟨_, rfl, ⟨s.data.toList, t.data.toList, HS.out, fun _ => HT.out, ?_⟩, B1.out.alloc B1.out.size _⟩
  rw [if_neg H1.out]
  simp [ByteArray.data_append, Array.toList_append]
theorem fformat_any (u : Bool) (A B : Option Addr) (n c m d p q i : Nat) (xs ys : List Nat) (w : World) (hx : Num w A n c xs p) (hy : Num w B m d ys q) (pp : p < 4294967296 ^ i) (pq : q < 4294967296 ^ i) (hi : i ≤ 900000) :
    Calls Tryz.prog 7 #[.agg #[.bool u, .slice A n c, .slice B m d]] w (GivesFT u p q w) := by
  by_cases h1 : q = 1 <;> cases u
  · exact fformat_false_one A B n c m d p q i xs ys w hx hy pp pq hi h1
  · exact fformat_true_one A B n c m d p q i xs ys w hx hy pp pq hi h1
  · exact fformat_false_more A B n c m d p q i xs ys w hx hy pp pq hi h1
  · exact fformat_true_more A B n c m d p q i xs ys w hx hy pp pq hi h1
end Go.Proofs.YtbllnkhbahenkaaGreatDoor
