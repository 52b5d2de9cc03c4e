/- The reference's reader in memory; its Err, Left, Fail, End, Uint: no claim of its own. -/
import Derived.Test.YtebfnbnaheolgaaWWalkFracs
namespace Go.Proofs.Ytebfnbnaheolgaa
open Go.RowKit
/-- Block g is the reference's reader that has l left, if it has no error. -/
def RR (w : World) (g : Nat) (l : List UInt8) (e : Int) : Prop := ∃ s : ByteArray, w.heap[g]? = some (.cells #[.string s, .int .i64 e] 81 (0, 0)) ∧ (e = 0 → s = str l) ∧ s.size ≤ 1000000
theorem RR.lt {w : World} {g : Nat} {l : List UInt8} {e : Int} (h : RR w g l e) : g < w.heap.size := by obtain ⟨s, h, _⟩ := h; exact (Array.getElem?_eq_some_iff.1 h).1
theorem RR.keep {w w1 : World} {g : Nat} {l : List UInt8} {e : Int} (h : RR w g l e) (hb : Below w.heap.size w w1) : RR w1 g l e := by
  have hl := h.lt
  obtain ⟨s, h1, h2⟩ := h
  exact ⟨s, (hb.block g hl).trans h1, h2⟩
theorem RR.off {w w1 : World} {g g' : Nat} {l : List UInt8} {e : Int} (h : RR w g l e) (hg : w.grownBy w1 (some g')) (hne : g ≠ g') : RR w1 g l e := by
  have hl := h.lt
  obtain ⟨s, h1, h2⟩ := h
  exact ⟨s, (hg.block g hl (by intro e; injection e with e; exact hne e)).trans h1, h2⟩
theorem RR.facts {w : World} {g : Nat} {l : List UInt8} {e : Int} (h : RR w g l e) : ∃ s : ByteArray, (e = 0 → s = str l) ∧ s.size ≤ 1000000 ∧ w.cell? ⟨g, 0, none⟩ = some (.string s) ∧ w.cell? ⟨g, 1, none⟩ = some (.int .i64 e) ∧ w.frozen? ⟨g, 0, none⟩ = false ∧ w.frozen? ⟨g, 1, none⟩ = false := by
  obtain ⟨s, h1, h2, h3⟩ := h
  refine ⟨s, h2, h3, ?_, ?_, ?_, ?_⟩
  all_goals first | (rw [cell_of_row w g _ _ _ _ h1]; rfl) | simp [World.frozen?, h1]
/-- A store of the error. -/
theorem RR.err {w : World} {g : Nat} {l : List UInt8} {e k : Int} (h : RR w g l e) (hk : k ≠ 0) : RR (w.setCell ⟨g, 1, none⟩ (.int .i64 k)) g [] k := by
  obtain ⟨s, h1, h2, h3⟩ := h
  have := heap_setCell_same w g 1 _ _ (.int .i64 k) h1
  exact ⟨s, by rw [this]; rfl, fun h => absurd h hk, h3⟩
theorem RR.rest {w : World} {g : Nat} {l l' : List UInt8} {s : ByteArray} (h : RR w g l 0) (hs : s = str l') (hl : l'.length ≤ 1000000) : RR (w.setCell ⟨g, 0, none⟩ (.string s)) g l' 0 := by
  obtain ⟨s0, h1, h2, h3⟩ := h
  have := heap_setCell_same w g 0 _ _ (.string s) h1
  exact ⟨s, by rw [this]; rfl, fun _ => hs, by rw [hs, str_size]; exact hl⟩
theorem RR.dead {w : World} {g : Nat} {l l' : List UInt8} {e : Int} (h : RR w g l e) (he : e ≠ 0) : RR w g l' e := by
  obtain ⟨s, h1, h2, h3⟩ := h
  exact ⟨s, h1, fun h => absurd h he, h3⟩
def Rr (v : Value) (g : Nat) (l : List UInt8) (e : Int) (w : World) (en : Ending) (w' : World) : Prop := en = .returned v ∧ RR w' g l e ∧ w.grownBy w' (some g)
theorem Rr.same {v : Value} {g : Nat} {l : List UInt8} {e : Int} {w : World} (h : RR w g l e) : Rr v g l e w (.returned v) w := ⟨rfl, h, World.grownBy.refl w _⟩
set_option maxRecDepth 100000 in
theorem rnewReader_any (s : ByteArray) (w : World) :
    Calls Try.prog 27 #[.string s] w fun e w' => e = .returned (.pointer (some ⟨w.heap.size, 0, none⟩)) ∧ w' = w.alloc (.cells #[.string s, .int .i64 0] 81) := by
  go_enter Try.func27, Try.ntmps27
  go_wp2
  go_ret
  exact ⟨rfl, rfl⟩
theorem RR.new (w : World) (s : ByteArray) (hs : s.size ≤ 1000000) : RR (w.alloc (.cells #[.string s, .int .i64 0] 81)) w.heap.size s.data.toList 0 := ⟨s, heap_new w _, fun _ => (str_self s).symm, hs⟩
set_option maxRecDepth 100000 in
theorem rerr_any (g : Nat) (l : List UInt8) (e : Int) (w : World) (h : RR w g l e) :
    Calls Try.prog 30 #[.pointer (some ⟨g, 0, none⟩)] w fun en w' => en = .returned (.int .i64 e) ∧ w = w' := by
  obtain ⟨s, _, _, h0, h1, h2, h3⟩ := h.facts
  go_enter Try.func30, Try.ntmps30
  go_wp2
  go_ret
  exact ⟨rfl, rfl⟩
set_option maxRecDepth 100000 in
theorem rleft_any (g : Nat) (l : List UInt8) (e : Int) (w : World) (h : RR w g l e) (hd : e ≠ 0 → l = []) :
    Calls Try.prog 31 #[.pointer (some ⟨g, 0, none⟩)] w fun en w' => en = .returned (.int .i64 (l.length : Nat)) ∧ w = w' := by
  obtain ⟨s, hs, hz, h0, h1, h2, h3⟩ := h.facts
  by_cases he : e = 0
  · subst he
    have E : Hid (s.size = l.length) := Lib.hid (by rw [hs rfl, str_size])
    clear hs h hd
    go_enter Try.func31, Try.ntmps31
    go_wp2
    go_ret
    exact ⟨ret_i (by rw [E.out]), rfl⟩
  · obtain rfl := hd he
    have n0 : (e != 0) = true := bne_iff_ne.2 he
    clear hs h hd he
    go_enter Try.func31, Try.ntmps31
    go_wp2
    go_ret
    exact ⟨rfl, rfl⟩
set_option maxRecDepth 100000 in
theorem rfail_any (g : Nat) (l : List UInt8) (e k : Int) (w : World) (h : RR w g l e) :
    Calls Try.prog 50 #[.pointer (some ⟨g, 0, none⟩), .int .i64 k] w (Rr (.tuple #[]) g (if e = 0 ∧ k ≠ 0 then [] else l) (if e = 0 then k else e) w) := by
  obtain ⟨s, hs, hz, h0, h1, h2, h3⟩ := h.facts
  by_cases he : e = 0
  · subst he
    have F0 : Rr (.tuple #[]) g (if (0 : Int) = 0 ∧ k ≠ 0 then [] else l) (if (0 : Int) = 0 then k else 0) w (.returned (.tuple #[])) (w.setCell ⟨g, 1, none⟩ (.int .i64 k)) := by
      refine ⟨rfl, ?_, grown_set _ _ _ _⟩
      rw [if_pos rfl]
      by_cases hk : k = 0
      · subst hk
        rw [if_neg (fun h => h.2 rfl)]
        obtain ⟨s0, q1, q2, q3⟩ := h
        have := heap_setCell_same w g 1 _ _ (.int .i64 0) q1
        exact ⟨s0, by rw [this]; rfl, q2, q3⟩
      · rw [if_pos ⟨rfl, hk⟩]
        exact h.err hk
    generalize (if (0 : Int) = 0 ∧ k ≠ 0 then [] else l) = l' at *
    generalize (if (0 : Int) = 0 then k else 0) = e' at *
    have F := Lib.hid F0
    clear hs h F0
    go_enter Try.func50, Try.ntmps50
    go_wp2
    go_end0
    exact F.out
  · have n0 : (e == 0) = false := beq_eq_false_iff_ne.2 he
    have F0 : Rr (.tuple #[]) g (if e = 0 ∧ k ≠ 0 then [] else l) (if e = 0 then k else e) w (.returned (.tuple #[])) w := by
      rw [if_neg (fun h => he h.1), if_neg he]; exact Rr.same h
    generalize (if e = 0 ∧ k ≠ 0 then [] else l) = l' at *
    generalize (if e = 0 then k else e) = e' at *
    have F := Lib.hid F0
    clear hs h he F0
    go_enter Try.func50, Try.ntmps50
    go_wp2
    go_end0
    exact F.out
set_option maxRecDepth 100000 in
theorem rend_any (g : Nat) (l : List UInt8) (e : Int) (w : World) (h : RR w g l e) :
    Calls Try.prog 51 #[.pointer (some ⟨g, 0, none⟩)] w (Rr (.int .i64 (if e = 0 ∧ 0 < l.length then 3 else e)) g (if e = 0 ∧ 0 < l.length then [] else l) (if e = 0 ∧ 0 < l.length then 3 else e) w) := by
  obtain ⟨s, hs, hz, h0, h1, h2, h3⟩ := h.facts
  by_cases he : e = 0
  · subst he
    have E : s.size = l.length := by rw [hs rfl, str_size]
    by_cases hl : 0 < l.length
    · have hp : 0 < s.size := by omega
      have F := Lib.hid (h.err (k := 3) (by decide))
      rw [if_pos ⟨rfl, hl⟩, if_pos ⟨rfl, hl⟩]
      clear hs h E hl
      go_enter Try.func51, Try.ntmps51
      go_wp2
      go_ret
      exact ⟨rfl, F.out, grown_set _ _ _ _⟩
    · have hp : ¬ 0 < s.size := by omega
      have F := Lib.hid h
      rw [if_neg (fun h => hl h.2), if_neg (fun h => hl h.2)]
      clear hs h E hl
      go_enter Try.func51, Try.ntmps51
      go_wp2
      go_ret
      exact Rr.same F.out
  · have n0 : (e == 0) = false := beq_eq_false_iff_ne.2 he
    have F := Lib.hid h
    rw [if_neg (fun h => he h.1), if_neg (fun h => he h.1)]
    clear hs h he
    go_enter Try.func51, Try.ntmps51
    go_wp2
    go_ret
    exact Rr.same F.out
set_option maxRecDepth 100000 in
theorem ruintR_dead (g : Nat) (l : List UInt8) (e : Int) (most : Nat) (w : World) (h : RR w g l e) (he : e ≠ 0) :
    Calls Try.prog 46 #[.pointer (some ⟨g, 0, none⟩), .int .u64 most] w fun en w' => en = .returned (.int .u64 0) ∧ w = w' := by
  obtain ⟨s, hs, hz, h0, h1, h2, h3⟩ := h.facts
  have n0 : (e != 0) = true := bne_iff_ne.2 he
  clear hs h he
  go_enter Try.func46, Try.ntmps46
  go_wp2
  go_ret
  exact ⟨rfl, rfl⟩
theorem add_val (acc b k : Nat) (hk : k ≤ 9) (ha : acc < 128 ^ k) (hb : b < 256) (h9 : k = 9 → b ≤ 1) :
    IntKind.u64.wrap ((acc : Int) + IntKind.u64.wrap ((b : Int) % 128 * 2 ^ (7 * k))) = ((acc + b % 128 * 128 ^ k : Nat) : Int) := by
  have hlt := (or_val acc b k hk ha hb h9).2
  have e2 : (2 : Int) ^ (7 * k) = ((128 ^ k : Nat) : Int) := by
    rw [Int.natCast_pow, show ((128 : Nat) : Int) = 2 ^ 7 from rfl, ← Int.pow_mul]
  have e0 : (b : Int) % 128 = ((b % 128 : Nat) : Int) := by omega
  have e4 : ((b % 128 : Nat) : Int) * ((128 ^ k : Nat) : Int) = ((b % 128 * 128 ^ k : Nat) : Int) := (Int.natCast_mul _ _).symm
  rw [e0, e2, e4]
  generalize b % 128 * 128 ^ k = M at hlt ⊢
  rw [IntKind.wrap_u64, IntKind.wrap_u64]
  omega
set_option maxRecDepth 100000 in
set_option maxHeartbeats 4000000 in
theorem ruintR_any (g : Nat) (l : List UInt8) (most : Nat) (w : World) (h : RR w g l 0) (hl : l.length ≤ 1000000) :
    Calls Try.prog 46 #[.pointer (some ⟨g, 0, none⟩), .int .u64 most] w (Rr (.int .u64 (uintS l most).1) g (uintS l most).2.1 (uintS l most).2.2 w) := by
  obtain ⟨s, hs, hz, h0, h1, h2, h3⟩ := h.facts
  have hs0 := hs rfl
  have SD := Lib.hid (show s.data.toList = l by rw [hs0, str_data])
  have HH := Lib.hid h
  have SX := Lib.hid hs0
  clear hs h hs0
  go_enter Try.func46, Try.ntmps46
  go_wp2
  go_loop [5, 6] (fun v i => ∃ (k acc : Nat), k ≤ 9 ∧ k ≤ s.size ∧ Hid (acc < 128 ^ k) ∧ i = .int .i64 k ∧ v = .int .u64 acc ∧ Hid (decGo (s.data.toList.drop k) k acc = decGo s.data.toList 0 0)) (fun _ i => s.size - (intOf i).toNat)
  case atStart => exact ⟨0, 0, by omega, by omega, Lib.hid (by decide), rfl, rfl, Lib.hid (by rw [List.drop_zero])⟩
  case round =>
    obtain ⟨k, acc, hk, hks, ha, rfl, rfl, hd⟩ := hrel
    by_cases hlt : k < s.size
    · have D := hd.out
      rw [drop_cons s k hlt, decGo] at D
      obtain ⟨b, hb⟩ : ∃ b, s[k].toNat = b := ⟨_, rfl⟩
      rw [hb] at D
      have hbl : b < 256 := by rw [← hb]; exact s[k].toNat_lt
      by_cases c1 : (k = 9 ∧ 1 < b) ∨ (0 < k ∧ b = 0)
      · rw [if_pos c1, SD.out] at D
        have F : Hid (uintS l most = (0, [], 2)) := Lib.hid (uintS_err D.symm (by decide))
        have K := Lib.hid (HH.out.err (k := 2) (by decide))
        clear D hd ha
        by_cases h9 : k = 9 ∧ 1 < b
        · obtain ⟨h9, h1b⟩ := h9
          subst h9
          go_wp2
          go_ret
          refine ⟨ret_i ?_, ?_, grown_set _ _ _ _⟩
          · rw [F.out]; rfl
          · rw [F.out]; exact K.out
        · have hk0 : 0 < k := by omega
          have hb0 : b = 0 := by omega
          have h9' : k = 9 → b ≤ 1 := by omega
          clear c1 h9
          subst hb0
          by_cases h9 : k = 9
          · subst h9
            go_wp2
            go_ret
            refine ⟨ret_i ?_, ?_, grown_set _ _ _ _⟩
            · rw [F.out]; rfl
            · rw [F.out]; exact K.out
          · have n9 : ((k : Int) == 9) = false := beq_eq_false_iff_ne.2 (by omega)
            go_wp2
            go_ret
            refine ⟨ret_i ?_, ?_, grown_set _ _ _ _⟩
            · rw [F.out]; rfl
            · rw [F.out]; exact K.out
      · have V := add_val acc b k hk ha.out hbl (by omega)
        rw [if_neg c1, SD.out] at D
        have R0 : b < 128 → Hid (decGo l 0 0 = (acc + b % 128 * 128 ^ k, k + 1, 0)) := fun h => Lib.hid (by rw [← D, if_pos h])
        have N0 : ¬ b < 128 → Hid (decGo (s.data.toList.drop (k + 1)) (k + 1) (acc + b % 128 * 128 ^ k) = decGo s.data.toList 0 0) := fun h => Lib.hid (by rw [SD.out, ← D, if_neg h])
        have P0 : Hid (acc + b % 128 * 128 ^ k < 128 ^ (k + 1)) := Lib.hid (by
          have h := ha.out
          rw [Nat.pow_succ]
          have := Nat.mul_le_mul_right (128 ^ k) (show b % 128 ≤ 127 by omega)
          omega)
        have T0 : Hid (RR (w.setCell ⟨g, 0, none⟩ (.string (s.extract (k + 1) s.size))) g (l.drop (k + 1)) 0) := Lib.hid (HH.out.rest (by rw [SX.out]; exact str_drop l (k + 1)) (by simp; omega))
        clear D hd ha
        generalize acc + b % 128 * 128 ^ k = acc' at *
        by_cases h9 : k = 9
        · have hb1 : b = 1 := by omega
          have R1 := R0 (by omega)
          have t9 : ((k : Int) == 9) = true := beq_iff_eq.2 (by omega)
          have n1 : decide ((1 : Int) < (b : Int)) = false := decide_eq_false (by omega)
          have nb : ((b : Int) == 0) = false := beq_eq_false_iff_ne.2 (by omega)
          have k0 : (0 : Int) < (k : Int) := by omega
          have h128 : (b : Int) < 128 := by omega
          clear c1 R0 N0 P0 h9 hb1
          by_cases hm : most < acc'
          · have F : Hid (uintS l most = (0, [], 4)) := Lib.hid (uintS_most R1.out hm)
            have K : Hid (RR ((w.setCell ⟨g, 0, none⟩ (.string (s.extract (k + 1) s.size))).setCell ⟨g, 1, none⟩ (.int .i64 4)) g [] 4) := Lib.hid (T0.out.err (by decide))
            clear R1 T0
            go_wp2
            go_ret
            refine ⟨ret_i ?_, ?_, grown_trans (grown_set _ _ _ _) (grown_set _ _ _ _)⟩
            · rw [F.out]; rfl
            · rw [F.out]; exact K.out
          · have F : Hid (uintS l most = (acc', l.drop (k + 1), 0)) := Lib.hid (uintS_ok R1.out (by omega))
            clear R1
            go_wp2
            go_ret
            refine ⟨ret_i ?_, ?_, grown_set _ _ _ _⟩
            · rw [F.out]
            · rw [F.out]; exact T0.out
        · have n9 : ((k : Int) == 9) = false := beq_eq_false_iff_ne.2 (by omega)
          by_cases hk0 : 0 < k
          · have hb0 : b ≠ 0 := by omega
            have nb : ((b : Int) == 0) = false := beq_eq_false_iff_ne.2 (by omega)
            by_cases h128 : b < 128
            · have R1 := R0 h128
              clear c1 R0 N0 P0
              by_cases hm : most < acc'
              · have F : Hid (uintS l most = (0, [], 4)) := Lib.hid (uintS_most R1.out hm)
                have K : Hid (RR ((w.setCell ⟨g, 0, none⟩ (.string (s.extract (k + 1) s.size))).setCell ⟨g, 1, none⟩ (.int .i64 4)) g [] 4) := Lib.hid (T0.out.err (by decide))
                clear R1 T0
                go_wp2
                go_ret
                refine ⟨ret_i ?_, ?_, grown_trans (grown_set _ _ _ _) (grown_set _ _ _ _)⟩
                · rw [F.out]; rfl
                · rw [F.out]; exact K.out
              · have F : Hid (uintS l most = (acc', l.drop (k + 1), 0)) := Lib.hid (uintS_ok R1.out (by omega))
                clear R1
                go_wp2
                go_ret
                refine ⟨ret_i ?_, ?_, grown_set _ _ _ _⟩
                · rw [F.out]
                · rw [F.out]; exact T0.out
            · have N1 := N0 h128
              clear c1 R0 N0 T0
              go_wp2
              go_round
              case rel => exact ⟨k + 1, acc', by omega, by omega, P0, by go_num, rfl, N1⟩
              case measure => simp [intOf]; omega
          · have k0 : ¬ (0 : Int) < (k : Int) := by omega
            by_cases h128 : b < 128
            · have R1 := R0 h128
              clear c1 R0 N0 P0 hk0
              by_cases hm : most < acc'
              · have F : Hid (uintS l most = (0, [], 4)) := Lib.hid (uintS_most R1.out hm)
                have K : Hid (RR ((w.setCell ⟨g, 0, none⟩ (.string (s.extract (k + 1) s.size))).setCell ⟨g, 1, none⟩ (.int .i64 4)) g [] 4) := Lib.hid (T0.out.err (by decide))
                clear R1 T0
                go_wp2
                go_ret
                refine ⟨ret_i ?_, ?_, grown_trans (grown_set _ _ _ _) (grown_set _ _ _ _)⟩
                · rw [F.out]; rfl
                · rw [F.out]; exact K.out
              · have F : Hid (uintS l most = (acc', l.drop (k + 1), 0)) := Lib.hid (uintS_ok R1.out (by omega))
                clear R1
                go_wp2
                go_ret
                refine ⟨ret_i ?_, ?_, grown_set _ _ _ _⟩
                · rw [F.out]
                · rw [F.out]; exact T0.out
            · have N1 := N0 h128
              clear c1 R0 N0 T0 hk0
              go_wp2
              go_round
              case rel => exact ⟨k + 1, acc', by omega, by omega, P0, by go_num, rfl, N1⟩
              case measure => simp [intOf]; omega
    · have F : Hid (uintS l most = (0, [], 1)) := Lib.hid (by
        have h := hd.out
        rw [List.drop_eq_nil_of_le (by simp; omega), decGo, SD.out] at h
        exact uintS_err h.symm (by decide))
      have K := Lib.hid (HH.out.err (k := 1) (by decide))
      clear hd ha
      go_wp2
      go_ret
      refine ⟨ret_i ?_, ?_, grown_set _ _ _ _⟩
      · rw [F.out]; rfl
      · rw [F.out]; exact K.out
end Go.Proofs.Ytebfnbnaheolgaa
