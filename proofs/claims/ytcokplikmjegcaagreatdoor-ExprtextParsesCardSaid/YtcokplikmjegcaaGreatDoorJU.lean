/- LTok, LNew, CParse, joined: no claim of its own. -/
import Derived.Test.YtcokplikmjegcaaGreatDoorLOne
import Derived.Test.YtcokplikmjegcaaGreatDoorJS
import Derived.Lib.LazyBuf
import Derived.Test.YtcokplikmjegcaaGreatDoorCScan
namespace Go.Proofs.YtcokplikmjegcaaGreatDoor
open Go.RowKit
theorem OwnT.keep {e : TypeId} {w w' : World} {B : Nat} {v : Value} {ts : List Tk} (h : OwnT e w B v ts) (hb : Below w.heap.size w w') : OwnT e w' B v ts :=
  World.ownsRow.kept (row := none) h ⟨hb.os, hb.tape, hb.output, hb.size, fun k hk _ => hb.block k hk⟩ (by cases hv : v.ownBlock <;> simp)
theorem OwnT.app {e : TypeId} {w wr w1 : World} {B : Nat} {v v' : Value} {out : List Tk} {t : Tk} (h : OwnT e wr B v out) (hB : Below B w wr) (hs : B ≤ wr.heap.size) (hown : w1.ownsRow B e 4 v' (out.length + 1) (cellsTs out ++ cellsT t)) (hg : wr.grownBy w1 v.ownBlock) :
    OwnT e w1 B v' (out ++ [t]) ∧ Below B w w1 := by
  refine ⟨?_, hB.grown hg hs (fun k hk => (World.ownsRow.lt h k hk).1)⟩
  unfold OwnT
  rw [cellsTs_append, cellsTs_one, List.length_append]
  exact hown
/-- Where the loop stands. -/
structure At (l : List UInt8) (f k : Nat) (out : List Tk) : Prop where
  eq : toks l = toksA f k (l.drop k) out
  fuel : l.length - k < f
  few : out.length ≤ k
theorem At.start {l : List UInt8} (h : ¬ 4000 < l.length) : At l (l.length + 1) 0 [] := ⟨by unfold toks; rw [if_neg h, List.drop_zero], by omega, by simp⟩
theorem At.space {s : ByteArray} {f k : Nat} {out : List Tk} (h : At s.data.toList f k out) (hk : k < s.size) (h32 : (s[k]).toNat = 32) : At s.data.toList (f - 1) (k + 1) out := by
  have hf := h.fuel
  rw [size_list] at hf
  obtain ⟨g, rfl⟩ : ∃ g, f = g + 1 := ⟨f - 1, by omega⟩
  exact ⟨h.eq.trans (toksA_space (at_list s k hk) h32), by rw [size_list, Nat.add_sub_cancel]; omega, by have := h.few; omega⟩
theorem At.bad {s : ByteArray} {f k : Nat} {out : List Tk} (h : At s.data.toList f k out) (hk : k < s.size) (h32 : (s[k]).toNat ≠ 32) {T : Tk × Int} (hT : oneT (s.data.toList.drop k) = T) (h0 : T.2 ≠ 0) : toks s.data.toList = ([], T.2) := by
  subst hT
  have hf := h.fuel
  rw [size_list] at hf
  obtain ⟨g, rfl⟩ : ∃ g, f = g + 1 := ⟨f - 1, by omega⟩
  exact h.eq.trans (toksA_bad (at_list s k hk) h32 h0)
theorem At.tok {s : ByteArray} {f k : Nat} {out : List Tk} (h : At s.data.toList f k out) (hk : k < s.size) (h32 : (s[k]).toNat ≠ 32) {T : Tk × Int} (hT : oneT (s.data.toList.drop k) = T) (h0 : T.2 = 0) :
    At s.data.toList (f - 1) (k + T.1.text.length) (out ++ [T.1.put k]) ∧ 1 ≤ T.1.text.length ∧ k + T.1.text.length ≤ s.size := by
  subst hT
  have hf := h.fuel
  rw [size_list] at hf
  obtain ⟨g, rfl⟩ : ∃ g, f = g + 1 := ⟨f - 1, by omega⟩
  obtain ⟨a, b⟩ := oneT_len h0
  rw [List.length_drop, size_list] at b
  exact ⟨⟨h.eq.trans (toksA_tok (at_list s k hk) h32 h0), by rw [size_list, Nat.add_sub_cancel]; omega, by have := h.few; rw [List.length_append]; simp only [List.length_singleton]; omega⟩, a, by omega⟩
theorem At.fin {s : ByteArray} {f k : Nat} {out : List Tk} (h : At s.data.toList f k out) (hk : s.size ≤ k) : toks s.data.toList = (out, 0) := h.eq.trans (toksA_end (by rw [size_list]; exact hk))
theorem toks_long {l : List UInt8} (h : 4000 < l.length) : toks l = ([], 3) := if_pos h
set_option maxRecDepth 100000 in
set_option maxHeartbeats 4000000 in
theorem tokens_any (s : ByteArray) (hs : s.size ≤ 9223372036854775807) (w : World) :
    Calls Tryz.prog 26 #[.string s] w (GivesToks (toks s.data.toList) w) := by
  by_cases h4 : 4000 < s.size
  · rw [toks_long (by rw [size_list]; exact h4)]
    have G : Hid (GivesToks ([], 3) w (.returned (.tuple #[.slice none 0 0, .int .i64 3])) w) := Lib.hid ⟨none, 0, 0, rfl, Tks.nil _, Below.refl _ _⟩
    go_enter Tryz.func26, Tryz.ntmps26
    go_wp2
    go_ret2
    exact G.out
  · obtain ⟨i0, hi, hz0, hz1, hz2⟩ := info_parts infoTok
    have A0 := Lib.hid (At.start (l := s.data.toList) (by rw [size_list]; exact h4))
    have O0 := Lib.hid (OwnT.nil 97 w w.heap.size)
    have B0 := Lib.hid (Below.refl w.heap.size w)
    go_enter Tryz.func26, Tryz.ntmps26
    go_wp2
    go_loopw [4, 5] (fun v i wr => ∃ (k f : Nat) (out : List Tk), k ≤ s.size ∧ i = .int .i64 k ∧ Hid (OwnT 97 wr w.heap.size v out) ∧ Hid (Below w.heap.size w wr) ∧ Hid (At s.data.toList f k out)) (fun _ i _ => s.size - (intOf i).toNat)
    case atStart => exact ⟨0, _, [], by omega, rfl, O0, B0, A0⟩
    case round =>
      clear A0 O0 B0
      rename_i v0 _ wr
      obtain ⟨k, f, out, hk, rfl, HO, HB, HA⟩ := hrel
      by_cases hlt : k < s.size
      · by_cases h32 : (s[k]).toNat = 32
        · have A1 := Lib.hid (HA.out.space hlt h32)
          have hb : (((s[k]).toNat : Int) == 32) = true := by rw [h32]; rfl
          clear HA h32
          go_wp2_with fail
          go_roundw
          case rel => exact ⟨k + 1, _, out, by omega, by go_num, HO, HB, A1⟩
          case measure => simp [intOf]; omega
        · have hb : (((s[k]).toNat : Int) == 32) = false := beq_eq_false_iff_ne.2 (by omega)
          obtain ⟨T, hT⟩ : ∃ T, oneT (s.data.toList.drop k) = T := ⟨_, rfl⟩
          have FT : Hid (∀ w', Calls Tryz.prog 56 #[.string (s.extract k s.size)] w' (GivesTk T w')) := Lib.hid fun w' => by
            have := first_any (s.extract k s.size) (by rw [ByteArray.size_extract]; omega) (by rw [ByteArray.size_extract]; omega) w'
            rw [drop_data, hT] at this
            exact this
          by_cases he : T.2 = 0
          · have A1 := Lib.hid (HA.out.tok hlt h32 hT he)
            have FW := Lib.hid HA.out.few
            clear HA h32 hT
            obtain ⟨⟨kd, t, vv, a⟩, er⟩ := T
            simp only at he
            subst he
            obtain ⟨a1, a2, a3⟩ := A1.out
            have A2 := Lib.hid a1
            have a2' : 1 ≤ t.length := a2
            have a3' : k + t.length ≤ s.size := a3
            clear A1 a1 a2 a3
            go_wp2_with fail
            (with_reducible refine (FT.out _).mono ?_)
            rintro e w1 ⟨rfl, hb1⟩
            have O1 := Lib.hid (HO.out.keep hb1)
            have B1 := Lib.hid (HB.out.trans (hb1.mono HB.out.size))
            clear hb1 HO HB FT
            unfold aggT
            have b1 := below_new w1 (.cells #[.int .i64 kd, .string (str t), .int .i64 vv, .int .i64 k] 97)
            have b2 := b1.trans ((below_new (w1.alloc (.cells #[.int .i64 kd, .string (str t), .int .i64 vv, .int .i64 k] 97)) (.cells #[.int .i64 kd, .string (str t), .int .i64 vv, .int .i64 k] 97)).mono b1.size)
            have O2 := Lib.hid (O1.out.keep b2)
            have B2 := Lib.hid (B1.out.trans (b2.mono B1.out.size))
            have X1 := ((TB.new w1 97 (.int .i64 kd) (.string (str t)) (.int .i64 vv) (.int .i64 k)).keep (below_new _ (.cells #[.int .i64 kd, .string (str t), .int .i64 vv, .int .i64 k] 97)))
            have X2 := TB.new (w1.alloc (.cells #[.int .i64 kd, .string (str t), .int .i64 vv, .int .i64 k] 97)) 97 (.int .i64 kd) (.string (str t)) (.int .i64 vv) (.int .i64 k)
            rw [show (w1.alloc (.cells #[.int .i64 kd, .string (str t), .int .i64 vv, .int .i64 k] 97)).heap.size = w1.heap.size + 1 by simp] at X2
            have HX1 := Lib.hid X1
            have HX2 := Lib.hid X2.row
            have LT := Lib.hid (fun g hg => (World.ownsRow.lt O1.out g hg).2)
            have hB1 := B1.out.size
            clear b1 b2 O1 B1 X1 X2
            go_wp2_with (at_builtin; refine wpList_append_own _ rfl _ _ 54 rfl w.heap.size 97 i0 (.agg #[.int .i64 0, .string ⟨#[]⟩, .int .i64 0, .int .i64 0]) 4 40 Tryz.underlying54 hi hz0 hz1 hz2 rfl (by decide) _ _ _ rfl O2.out ⟨w1.heap.size + 1, 0, none⟩ 1 1 (cellsT ⟨kd, t, vv, k⟩) rfl rfl ?c1 ?c2 ?c3 ?c4 ?c5 ?_)
            case c1 => exact HX2.out
            case c2 => exact cellsT_one _
            case c3 => have := FW.out; unfold maxLen; omega
            case c4 => have := FW.out; omega
            case c5 => simp; omega
            intro v' w2 hown' hgrow _
            have R := OwnT.app O2.out B2.out B2.out.size hown' hgrow
            have X3 : TB w2 w1.heap.size 97 (.int .i64 kd) (.string (str t)) (.int .i64 vv) (.int .i64 k) := (hgrow.block w1.heap.size (by simp; omega) (fun e => absurd (LT.out _ e.symm) (by omega))).trans HX1.out
            obtain ⟨_, c1, _, _⟩ := X3.cells
            have O3 := Lib.hid R.1
            have B3 := Lib.hid R.2
            have SZ := Lib.hid (str_size t)
            have hsb : k + (str t).size ≤ s.size := by rw [SZ.out]; exact a3'
            clear R X3 hown' hgrow HX1 HX2 LT O2 B2
            go_wp2
            go_roundw
            case rel => exact ⟨k + t.length, _, _, by omega, by rw [← SZ.out]; go_num, O3, B3, A2⟩
            case measure => simp [intOf, SZ.out]; omega
          · have E := Lib.hid (HA.out.bad hlt h32 hT he)
            clear HA h32 hT
            obtain ⟨⟨kd, t, vv, a⟩, er⟩ := T
            simp only at he
            have hne : ((er : Int) != 0) = true := bne_iff_ne.2 he
            go_wp2_with fail
            (with_reducible refine (FT.out _).mono ?_)
            rintro e w1 ⟨rfl, hb1⟩
            have B1 := Lib.hid (HB.out.trans (hb1.mono HB.out.size))
            clear hb1 HO HB FT he
            unfold aggT
            go_wp2_with fail
            go_ret2
            rw [E.out]
            exact ⟨none, 0, 0, rfl, Tks.nil _, B1.out.trans ((below_new _ _).mono B1.out.size)⟩
      · have E := Lib.hid (HA.out.fin (by omega))
        have FW := HA.out.few
        obtain ⟨A, c, hv, ht⟩ := HO.out.form (by omega)
        subst hv
        have H := Lib.hid ht
        clear HA HO ht
        go_wp2_with fail
        go_ret2
        rw [E.out]
        exact ⟨_, _, _, rfl, H.out, HB.out⟩
end Go.Proofs.YtcokplikmjegcaaGreatDoor
namespace Go.Proofs.YtcokplikmjegcaaGreatDoor
open Go.RowKit
/-- A copy of the tokens, in new memory. -/
def Copied (L : List Tk) (w : World) (e : Ending) (w' : World) : Prop :=
  ∃ A n c, e = .returned (.slice A n c) ∧ Tks w' A n c L ∧ (∀ ad, A = some ad → w.heap.size ≤ ad.block ∧ ad.block < w'.heap.size) ∧ Below w.heap.size w w'
set_option maxRecDepth 100000 in
set_option maxHeartbeats 1000000 in
theorem clone_any (A : Option Addr) (n c : Nat) (L : List Tk) (w : World) (h : Tks w A n c L) :
    Calls Tryz.prog 57 #[.slice A n c] w (Copied L w) := by
  have hn := h.few
  have hc := h.cap
  have hl := h.len
  rcases A with _ | ad
  · have h0 : n = 0 := by
      rcases Nat.eq_zero_or_pos n with h0 | h0
      · exact h0
      · obtain ⟨ad, e, _⟩ := h.reads.2 h0; cases e
    have hL : L = [] := List.eq_nil_of_length_eq_zero (by omega)
    subst hL
    have e1 : ∀ w' : World, (binOp .eql 54 (.slice none n c) (.slice none 0 0)).run Tryz.prog w' = .ok (.bool true) w' := fun w' => Lib.run_eql_slice_nil w' _ _ _ _ _ _ _ Tryz.underlying54
    have G : Hid (Copied [] w (.returned (.slice none 0 0)) w) := Lib.hid ⟨none, 0, 0, rfl, Tks.nil _, (fun _ h => nomatch h), Below.refl _ _⟩
    clear h hn hc hl h0
    go_enter Tryz.func57, Tryz.ntmps57
    go_wp2
    go_ret
    exact G.out
  · have e1 : ∀ w' : World, (binOp .eql 54 (.slice (some ad) n c) (.slice none 0 0)).run Tryz.prog w' = .ok (.bool false) w' := fun w' => Lib.run_eql_slice_nil w' _ _ _ _ _ _ _ Tryz.underlying54
    obtain ⟨i0, hi, hz0, hz1, hz2⟩ := info_parts infoTok
    have hne : L.length = n := hl
    have HR := Lib.hid h.reads
    have HL := Lib.hid hl
    clear h hl hne
    go_enter Tryz.func57, Tryz.ntmps57
    have O0 : Hid ((w.alloc (.cells #[] 97)).ownsRow w.heap.size 97 4 (.slice (some ⟨w.heap.size, 0, none⟩) 0 0) 0 []) := Lib.hid (World.ownsRow_made w #[] 0 (Nat.le_refl _) (Nat.zero_le _) rfl)
    go_wp2_with (at_builtin; refine wpList_append_own _ rfl _ _ 54 rfl w.heap.size 97 i0 (.agg #[.int .i64 0, .string ⟨#[]⟩, .int .i64 0, .int .i64 0]) 4 40 Tryz.underlying54 hi hz0 hz1 hz2 rfl (by decide) _ _ _ rfl O0.out ad n c (cellsTs L) rfl ?c0 ?c1 ?c2 ?c3 ?c4 ?c5 ?_)
    case c0 => rw [cellsTs_length, HL.out]
    case c1 =>
      intro j u hu
      have hp : 0 < n := by
        rcases Nat.eq_zero_or_pos n with h0 | h0
        · have : L = [] := List.eq_nil_of_length_eq_zero (by rw [HL.out]; exact h0)
          subst this; simp [cellsTs] at hu
        · exact h0
      obtain ⟨ad', ea, hb, hc'⟩ := HR.out.2 hp
      injection ea with ea
      subst ea
      rw [World.cell?_alloc_lt w _ _ (by rw [block_of_add]; exact hb)]
      exact hc' j u hu
    case c2 =>
      intro u hu
      simp only [cellsTs, List.mem_flatMap] at hu
      obtain ⟨t, _, ht⟩ := hu
      exact cellsT_one t u ht
    case c3 => unfold maxLen; omega
    case c4 => omega
    case c5 => simp
    intro v' w2 hown' hgrow _
    have O2 : OwnT 97 w2 w.heap.size v' L := by
      unfold OwnT
      rw [HL.out, ← Nat.zero_add n]
      simpa using hown'
    obtain ⟨A', c', hv, ht, hfar⟩ := O2.form2 (by rw [HL.out]; exact hn)
    rw [HL.out] at hv ht
    have B2 := Lib.hid ((below_new w (.cells #[] 97)).grown hgrow (by simp) (fun k hk => (World.ownsRow.lt O0.out k hk).1))
    have G := Lib.hid ht
    have G2 := Lib.hid hfar
    subst hv
    clear ht hfar O2 hown' hgrow
    go_wp2
    go_ret
    exact ⟨_, _, _, rfl, G.out, G2.out, B2.out⟩
/-- A new scanner of the tokens L. -/
def Fresh (L : List Tk) (w : World) (e : Ending) (w' : World) : Prop :=
  ∃ g A n c, e = .returned (.pointer (some ⟨g, 0, none⟩)) ∧ w'.heap[g]? = some (.cells #[.slice A n c, .int .i64 0] 102 (0, 0)) ∧ Tks w' A n c L ∧ (∀ ad, A = some ad → w.heap.size ≤ ad.block ∧ ad.block < g) ∧ w.heap.size ≤ g ∧ Below w.heap.size w w'
set_option maxRecDepth 100000 in
set_option maxHeartbeats 1000000 in
theorem new_any (A : Option Addr) (n c : Nat) (L : List Tk) (w : World) (h : Tks w A n c L) :
    Calls Tryz.prog 27 #[.slice A n c] w (Fresh L w) := by
  have C := Lib.hid (clone_any A n c L w h)
  clear h
  go_enter Tryz.func27, Tryz.ntmps27
  go_wp2_with fail
  refine C.out.mono ?_
  rintro e w1 ⟨A1, n1, c1, rfl, ht, hf, hb⟩
  have G : Hid (Fresh L w (.returned (.pointer (some ⟨w1.heap.size, 0, none⟩))) (w1.alloc (.cells #[.slice A1 n1 c1, .int .i64 0] 102))) :=
    Lib.hid ⟨_, A1, n1, c1, rfl, heap_new _ _, ht.keep (below_new _ _), hf, hb.size, hb.trans ((below_new _ _).mono hb.size)⟩
  clear ht hf hb C
  go_wp2
  go_ret
  exact G.out
end Go.Proofs.YtcokplikmjegcaaGreatDoor
namespace Go.Proofs.YtcokplikmjegcaaGreatDoor
open Go.RowKit
open MC (Pr)
theorem elems_length (L : List Pr) : ∀ (f : Nat) (b : List Int) (ts : List Tk), b.length = 6 → (MC.elems L f b ts).1.length = 6
  | 0, _, _, _ => rfl
  | f + 1, b, ts, h => by
    by_cases h0 : MC.elE L b ts = 0
    · have hb : (MC.elB L b ts).length = 6 := by unfold MC.elB; rw [List.length_set, h]
      cases h1 : MC.isO 125 ts[3]? with
      | true => rw [MC.elems_end h0 h1]; exact hb
      | false => rw [MC.elems_on h0 h1]; exact elems_length L f _ _ hb
    · rw [MC.elems_bad h0]; rfl
theorem scan_length (L : List Pr) (ts : List Tk) : (MC.scanL L ts).1.length = 6 := by
  cases h0 : MC.isO 123 ts[0]? with
  | false => rw [MC.scan_bad h0]; rfl
  | true =>
    cases h1 : MC.isO 125 ts[1]? with
    | true => rw [MC.scan_empty h0 h1]; rfl
    | false => rw [MC.scan_on h0 h1]; exact elems_length L _ _ _ rfl
end Go.Proofs.YtcokplikmjegcaaGreatDoor
