/- Tokens, of the package and of the reference: no claim of its own. -/
import Derived.Test.YtdlpolnnhhnecaaDoorLOne
namespace Go.Proofs.YtdlpolnnhhnecaaDoor
open Go.RowKit
theorem OwnT.keep {e : TypeId} {w w' : World} {B : Nat} {v : Value} {ts : List Tk} (h : OwnT e w B v ts) (hb : Below w.heap.size w w') : OwnT e w' B v ts :=
  World.ownsRow.kept (row := none) h ⟨hb.os, hb.tape, hb.output, hb.size, fun k hk _ => hb.block k hk⟩ (by cases hv : v.ownBlock <;> simp)
theorem OwnT.app {e : TypeId} {w wr w1 : World} {B : Nat} {v v' : Value} {out : List Tk} {t : Tk} (h : OwnT e wr B v out) (hB : Below B w wr) (hs : B ≤ wr.heap.size) (hown : w1.ownsRow B e 4 v' (out.length + 1) (cellsTs out ++ cellsT t)) (hg : wr.grownBy w1 v.ownBlock) :
    OwnT e w1 B v' (out ++ [t]) ∧ Below B w w1 := by
  refine ⟨?_, hB.grown hg hs (fun k hk => (World.ownsRow.lt h k hk).1)⟩
  unfold OwnT
  rw [cellsTs_append, cellsTs_one, List.length_append]
  exact hown
/-- Where the loop stands. -/
structure At (l : List UInt8) (f k : Nat) (out : List Tk) : Prop where
  eq : toks l = toksA f k (l.drop k) out
  fuel : l.length - k < f
  few : out.length ≤ k
theorem At.start {l : List UInt8} (h : ¬ 4000 < l.length) : At l (l.length + 1) 0 [] := ⟨by unfold toks; rw [if_neg h, List.drop_zero], by omega, by simp⟩
theorem At.space {s : ByteArray} {f k : Nat} {out : List Tk} (h : At s.data.toList f k out) (hk : k < s.size) (h32 : (s[k]).toNat = 32) : At s.data.toList (f - 1) (k + 1) out := by
  have hf := h.fuel
  rw [size_list] at hf
  obtain ⟨g, rfl⟩ : ∃ g, f = g + 1 := ⟨f - 1, by omega⟩
  exact ⟨h.eq.trans (toksA_space (at_list s k hk) h32), by rw [size_list, Nat.add_sub_cancel]; omega, by have := h.few; omega⟩
theorem At.bad {s : ByteArray} {f k : Nat} {out : List Tk} (h : At s.data.toList f k out) (hk : k < s.size) (h32 : (s[k]).toNat ≠ 32) {T : Tk × Int} (hT : oneT (s.data.toList.drop k) = T) (h0 : T.2 ≠ 0) : toks s.data.toList = ([], T.2) := by
  subst hT
  have hf := h.fuel
  rw [size_list] at hf
  obtain ⟨g, rfl⟩ : ∃ g, f = g + 1 := ⟨f - 1, by omega⟩
  exact h.eq.trans (toksA_bad (at_list s k hk) h32 h0)
theorem At.tok {s : ByteArray} {f k : Nat} {out : List Tk} (h : At s.data.toList f k out) (hk : k < s.size) (h32 : (s[k]).toNat ≠ 32) {T : Tk × Int} (hT : oneT (s.data.toList.drop k) = T) (h0 : T.2 = 0) :
    At s.data.toList (f - 1) (k + T.1.text.length) (out ++ [T.1.put k]) ∧ 1 ≤ T.1.text.length ∧ k + T.1.text.length ≤ s.size := by
  subst hT
  have hf := h.fuel
  rw [size_list] at hf
  obtain ⟨g, rfl⟩ : ∃ g, f = g + 1 := ⟨f - 1, by omega⟩
  obtain ⟨a, b⟩ := oneT_len h0
  rw [List.length_drop, size_list] at b
  exact ⟨⟨h.eq.trans (toksA_tok (at_list s k hk) h32 h0), by rw [size_list, Nat.add_sub_cancel]; omega, by have := h.few; rw [List.length_append]; simp only [List.length_singleton]; omega⟩, a, by omega⟩
theorem At.fin {s : ByteArray} {f k : Nat} {out : List Tk} (h : At s.data.toList f k out) (hk : s.size ≤ k) : toks s.data.toList = (out, 0) := h.eq.trans (toksA_end (by rw [size_list]; exact hk))
theorem toks_long {l : List UInt8} (h : 4000 < l.length) : toks l = ([], 3) := if_pos h
set_option maxRecDepth 100000 in
set_option maxHeartbeats 4000000 in
theorem tokens_any (s : ByteArray) (hs : s.size ≤ 9223372036854775807) (w : World) :
    Calls Tryd.prog 27 #[.string s] w (GivesToks (toks s.data.toList) w) := by
  by_cases h4 : 4000 < s.size
  · rw [toks_long (by rw [size_list]; exact h4)]
    have G : Hid (GivesToks ([], 3) w (.returned (.tuple #[.slice none 0 0, .int .i64 3])) w) := Lib.hid ⟨none, 0, 0, rfl, Tks.nil _, Below.refl _ _⟩
    go_enter Tryd.func27, Tryd.ntmps27
    go_wp2
    go_ret2
    exact G.out
  · obtain ⟨i0, hi, hz0, hz1, hz2⟩ := info_parts infoTok
    have A0 := Lib.hid (At.start (l := s.data.toList) (by rw [size_list]; exact h4))
    have O0 := Lib.hid (OwnT.nil 57 w w.heap.size)
    have B0 := Lib.hid (Below.refl w.heap.size w)
    go_enter Tryd.func27, Tryd.ntmps27
    go_wp2
    go_loopw [4, 5] (fun v i wr => ∃ (k f : Nat) (out : List Tk), k ≤ s.size ∧ i = .int .i64 k ∧ Hid (OwnT 57 wr w.heap.size v out) ∧ Hid (Below w.heap.size w wr) ∧ Hid (At s.data.toList f k out)) (fun _ i _ => s.size - (intOf i).toNat)
    case atStart => exact ⟨0, _, [], by omega, rfl, O0, B0, A0⟩
    case round =>
      clear A0 O0 B0
      rename_i v0 _ wr
      obtain ⟨k, f, out, hk, rfl, HO, HB, HA⟩ := hrel
      by_cases hlt : k < s.size
      · by_cases h32 : (s[k]).toNat = 32
        · have A1 := Lib.hid (HA.out.space hlt h32)
          have hb : (((s[k]).toNat : Int) == 32) = true := by rw [h32]; rfl
          clear HA h32
          go_wp2_with fail
          go_roundw
          case rel => exact ⟨k + 1, _, out, by omega, by go_num, HO, HB, A1⟩
          case measure => simp [intOf]; omega
        · have hb : (((s[k]).toNat : Int) == 32) = false := beq_eq_false_iff_ne.2 (by omega)
          obtain ⟨T, hT⟩ : ∃ T, oneT (s.data.toList.drop k) = T := ⟨_, rfl⟩
          have FT : Hid (∀ w', Calls Tryd.prog 46 #[.string (s.extract k s.size)] w' (GivesTk T w')) := Lib.hid fun w' => by
            have := first_any (s.extract k s.size) (by rw [ByteArray.size_extract]; omega) (by rw [ByteArray.size_extract]; omega) w'
            rw [drop_data, hT] at this
            exact this
          by_cases he : T.2 = 0
          · have A1 := Lib.hid (HA.out.tok hlt h32 hT he)
            have FW := Lib.hid HA.out.few
            clear HA h32 hT
            obtain ⟨⟨kd, t, vv, a⟩, er⟩ := T
            simp only at he
            subst he
            obtain ⟨a1, a2, a3⟩ := A1.out
            have A2 := Lib.hid a1
            have a2' : 1 ≤ t.length := a2
            have a3' : k + t.length ≤ s.size := a3
            clear A1 a1 a2 a3
            go_wp2_with fail
            (with_reducible refine (FT.out _).mono ?_)
            rintro e w1 ⟨rfl, hb1⟩
            have O1 := Lib.hid (HO.out.keep hb1)
            have B1 := Lib.hid (HB.out.trans (hb1.mono HB.out.size))
            clear hb1 HO HB FT
            unfold aggT
            have b1 := below_new w1 (.cells #[.int .i64 kd, .string (str t), .int .i64 vv, .int .i64 k] 57)
            have b2 := b1.trans ((below_new (w1.alloc (.cells #[.int .i64 kd, .string (str t), .int .i64 vv, .int .i64 k] 57)) (.cells #[.int .i64 kd, .string (str t), .int .i64 vv, .int .i64 k] 57)).mono b1.size)
            have O2 := Lib.hid (O1.out.keep b2)
            have B2 := Lib.hid (B1.out.trans (b2.mono B1.out.size))
            have X1 := ((TB.new w1 57 (.int .i64 kd) (.string (str t)) (.int .i64 vv) (.int .i64 k)).keep (below_new _ (.cells #[.int .i64 kd, .string (str t), .int .i64 vv, .int .i64 k] 57)))
            have X2 := TB.new (w1.alloc (.cells #[.int .i64 kd, .string (str t), .int .i64 vv, .int .i64 k] 57)) 57 (.int .i64 kd) (.string (str t)) (.int .i64 vv) (.int .i64 k)
            rw [show (w1.alloc (.cells #[.int .i64 kd, .string (str t), .int .i64 vv, .int .i64 k] 57)).heap.size = w1.heap.size + 1 by simp] at X2
            have HX1 := Lib.hid X1
            have HX2 := Lib.hid X2.row
            have LT := Lib.hid (fun g hg => (World.ownsRow.lt O1.out g hg).2)
            have hB1 := B1.out.size
            clear b1 b2 O1 B1 X1 X2
            go_wp2_with (at_builtin; refine wpList_append_own _ rfl _ _ 44 rfl w.heap.size 57 i0 (.agg #[.int .i64 0, .string ⟨#[]⟩, .int .i64 0, .int .i64 0]) 4 40 Tryd.underlying44 hi hz0 hz1 hz2 rfl (by decide) _ _ _ rfl O2.out ⟨w1.heap.size + 1, 0, none⟩ 1 1 (cellsT ⟨kd, t, vv, k⟩) rfl rfl ?c1 ?c2 ?c3 ?c4 ?c5 ?_)
            case c1 => exact HX2.out
            case c2 => exact cellsT_one _
            case c3 => have := FW.out; unfold maxLen; omega
            case c4 => have := FW.out; omega
            case c5 => simp; omega
            intro v' w2 hown' hgrow _
            have R := OwnT.app O2.out B2.out B2.out.size hown' hgrow
            have X3 : TB w2 w1.heap.size 57 (.int .i64 kd) (.string (str t)) (.int .i64 vv) (.int .i64 k) := (hgrow.block w1.heap.size (by simp; omega) (fun e => absurd (LT.out _ e.symm) (by omega))).trans HX1.out
            obtain ⟨_, c1, _, _⟩ := X3.cells
            have O3 := Lib.hid R.1
            have B3 := Lib.hid R.2
            have SZ := Lib.hid (str_size t)
            have hsb : k + (str t).size ≤ s.size := by rw [SZ.out]; exact a3'
            clear R X3 hown' hgrow HX1 HX2 LT O2 B2
            go_wp2
            go_roundw
            case rel => exact ⟨k + t.length, _, _, by omega, by rw [← SZ.out]; go_num, O3, B3, A2⟩
            case measure => simp [intOf, SZ.out]; omega
          · have E := Lib.hid (HA.out.bad hlt h32 hT he)
            clear HA h32 hT
            obtain ⟨⟨kd, t, vv, a⟩, er⟩ := T
            simp only at he
            have hne : ((er : Int) != 0) = true := bne_iff_ne.2 he
            go_wp2_with fail
            (with_reducible refine (FT.out _).mono ?_)
            rintro e w1 ⟨rfl, hb1⟩
            have B1 := Lib.hid (HB.out.trans (hb1.mono HB.out.size))
            clear hb1 HO HB FT he
            unfold aggT
            go_wp2_with fail
            go_ret2
            rw [E.out]
            exact ⟨none, 0, 0, rfl, Tks.nil _, B1.out.trans ((below_new _ _).mono B1.out.size)⟩
      · have E := Lib.hid (HA.out.fin (by omega))
        have FW := HA.out.few
        obtain ⟨A, c, hv, ht⟩ := HO.out.form (by omega)
        subst hv
        have H := Lib.hid ht
        clear HA HO ht
        go_wp2_with fail
        go_ret2
        rw [E.out]
        exact ⟨_, _, _, rfl, H.out, HB.out⟩
set_option maxRecDepth 100000 in
set_option maxHeartbeats 4000000 in
theorem rtokens_any (s : ByteArray) (hs : s.size ≤ 9223372036854775807) (w : World) :
    Calls Tryd.prog 28 #[.string s] w (GivesToks (toks s.data.toList) w) := by
  by_cases h4 : 4000 < s.size
  · rw [toks_long (by rw [size_list]; exact h4)]
    have G : Hid (GivesToks ([], 3) w (.returned (.tuple #[.slice none 0 0, .int .i64 3])) w) := Lib.hid ⟨none, 0, 0, rfl, Tks.nil _, Below.refl _ _⟩
    go_enter Tryd.func28, Tryd.ntmps28
    go_wp2
    go_ret2
    exact G.out
  · obtain ⟨i0, hi, hz0, hz1, hz2⟩ := info_parts infoRTok
    have A0 := Lib.hid (At.start (l := s.data.toList) (by rw [size_list]; exact h4))
    have O0 := Lib.hid (OwnT.nil 59 w w.heap.size)
    have B0 := Lib.hid (Below.refl w.heap.size w)
    go_enter Tryd.func28, Tryd.ntmps28
    go_wp2
    go_loopw [4, 5] (fun v i wr => ∃ (k f : Nat) (out : List Tk), k ≤ s.size ∧ i = .int .i64 k ∧ Hid (OwnT 59 wr w.heap.size v out) ∧ Hid (Below w.heap.size w wr) ∧ Hid (At s.data.toList f k out)) (fun _ i _ => s.size - (intOf i).toNat)
    case atStart => exact ⟨0, _, [], by omega, rfl, O0, B0, A0⟩
    case round =>
      clear A0 O0 B0
      rename_i v0 _ wr
      obtain ⟨k, f, out, hk, rfl, HO, HB, HA⟩ := hrel
      by_cases hlt : k < s.size
      · by_cases h32 : (s[k]).toNat = 32
        · have A1 := Lib.hid (HA.out.space hlt h32)
          have hb : (((s[k]).toNat : Int) == 32) = true := by rw [h32]; rfl
          clear HA h32
          go_wp2_with fail
          go_roundw
          case rel => exact ⟨k + 1, _, out, by omega, by go_num, HO, HB, A1⟩
          case measure => simp [intOf]; omega
        · have hb : (((s[k]).toNat : Int) == 32) = false := beq_eq_false_iff_ne.2 (by omega)
          obtain ⟨T, hT⟩ : ∃ T, oneT (s.data.toList.drop k) = T := ⟨_, rfl⟩
          have FT : Hid (∀ w', Calls Tryd.prog 47 #[.string (s.extract k s.size)] w' (GivesTk T w')) := Lib.hid fun w' => by
            have := one_any (s.extract k s.size) (by rw [ByteArray.size_extract]; omega) (by rw [ByteArray.size_extract]; omega) w'
            rw [drop_data, hT] at this
            exact this
          by_cases he : T.2 = 0
          · have A1 := Lib.hid (HA.out.tok hlt h32 hT he)
            have FW := Lib.hid HA.out.few
            clear HA h32 hT
            obtain ⟨⟨kd, t, vv, a⟩, er⟩ := T
            simp only at he
            subst he
            obtain ⟨a1, a2, a3⟩ := A1.out
            have A2 := Lib.hid a1
            have a2' : 1 ≤ t.length := a2
            have a3' : k + t.length ≤ s.size := a3
            clear A1 a1 a2 a3
            go_wp2_with fail
            (with_reducible refine (FT.out _).mono ?_)
            rintro e w1 ⟨rfl, hb1⟩
            have O1 := Lib.hid (HO.out.keep hb1)
            have B1 := Lib.hid (HB.out.trans (hb1.mono HB.out.size))
            clear hb1 HO HB FT
            unfold aggT
            have b1 := below_new w1 (.cells #[.int .i64 kd, .string (str t), .int .i64 vv, .int .i64 k] 59)
            have b2 := b1.trans ((below_new (w1.alloc (.cells #[.int .i64 kd, .string (str t), .int .i64 vv, .int .i64 k] 59)) (.cells #[.int .i64 kd, .string (str t), .int .i64 vv, .int .i64 k] 59)).mono b1.size)
            have O2 := Lib.hid (O1.out.keep b2)
            have B2 := Lib.hid (B1.out.trans (b2.mono B1.out.size))
            have X1 := ((TB.new w1 59 (.int .i64 kd) (.string (str t)) (.int .i64 vv) (.int .i64 k)).keep (below_new _ (.cells #[.int .i64 kd, .string (str t), .int .i64 vv, .int .i64 k] 59)))
            have X2 := TB.new (w1.alloc (.cells #[.int .i64 kd, .string (str t), .int .i64 vv, .int .i64 k] 59)) 59 (.int .i64 kd) (.string (str t)) (.int .i64 vv) (.int .i64 k)
            rw [show (w1.alloc (.cells #[.int .i64 kd, .string (str t), .int .i64 vv, .int .i64 k] 59)).heap.size = w1.heap.size + 1 by simp] at X2
            have HX1 := Lib.hid X1
            have HX2 := Lib.hid X2.row
            have LT := Lib.hid (fun g hg => (World.ownsRow.lt O1.out g hg).2)
            have hB1 := B1.out.size
            clear b1 b2 O1 B1 X1 X2
            go_wp2_with (at_builtin; refine wpList_append_own _ rfl _ _ 47 rfl w.heap.size 59 i0 (.agg #[.int .i64 0, .string ⟨#[]⟩, .int .i64 0, .int .i64 0]) 4 40 Tryd.underlying47 hi hz0 hz1 hz2 rfl (by decide) _ _ _ rfl O2.out ⟨w1.heap.size + 1, 0, none⟩ 1 1 (cellsT ⟨kd, t, vv, k⟩) rfl rfl ?c1 ?c2 ?c3 ?c4 ?c5 ?_)
            case c1 => exact HX2.out
            case c2 => exact cellsT_one _
            case c3 => have := FW.out; unfold maxLen; omega
            case c4 => have := FW.out; omega
            case c5 => simp; omega
            intro v' w2 hown' hgrow _
            have R := OwnT.app O2.out B2.out B2.out.size hown' hgrow
            have X3 : TB w2 w1.heap.size 59 (.int .i64 kd) (.string (str t)) (.int .i64 vv) (.int .i64 k) := (hgrow.block w1.heap.size (by simp; omega) (fun e => absurd (LT.out _ e.symm) (by omega))).trans HX1.out
            obtain ⟨_, c1, _, _⟩ := X3.cells
            have O3 := Lib.hid R.1
            have B3 := Lib.hid R.2
            have SZ := Lib.hid (str_size t)
            have hsb : k + (str t).size ≤ s.size := by rw [SZ.out]; exact a3'
            clear R X3 hown' hgrow HX1 HX2 LT O2 B2
            go_wp2
            go_roundw
            case rel => exact ⟨k + t.length, _, _, by omega, by rw [← SZ.out]; go_num, O3, B3, A2⟩
            case measure => simp [intOf, SZ.out]; omega
          · have E := Lib.hid (HA.out.bad hlt h32 hT he)
            clear HA h32 hT
            obtain ⟨⟨kd, t, vv, a⟩, er⟩ := T
            simp only at he
            have hne : ((er : Int) != 0) = true := bne_iff_ne.2 he
            go_wp2_with fail
            (with_reducible refine (FT.out _).mono ?_)
            rintro e w1 ⟨rfl, hb1⟩
            have B1 := Lib.hid (HB.out.trans (hb1.mono HB.out.size))
            clear hb1 HO HB FT he
            unfold aggT
            go_wp2_with fail
            go_ret2
            rw [E.out]
            exact ⟨none, 0, 0, rfl, Tks.nil _, B1.out.trans ((below_new _ _).mono B1.out.size)⟩
      · have E := Lib.hid (HA.out.fin (by omega))
        have FW := HA.out.few
        obtain ⟨A, c, hv, ht⟩ := HO.out.form (by omega)
        subst hv
        have H := Lib.hid ht
        clear HA HO ht
        go_wp2_with fail
        go_ret2
        rw [E.out]
        exact ⟨_, _, _, rfl, H.out, HB.out⟩
end Go.Proofs.YtdlpolnnhhnecaaDoor
