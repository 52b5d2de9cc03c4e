/- The reference's Parse: no claim of its own. -/
import Derived.Test.YtigfgeanofccgaaGreatDoorURLn
import Derived.Test.YtigfgeanofccgaaGreatDoorJRk
import Derived.Deep.RegionHeld3
namespace Go.Proofs.YtigfgeanofccgaaGreatDoor
open Go.RowKit
open MU (Su Cp As)
theorem g_put4 (w : World) (g : Nat) (a b c d : Value) : w.grownBy ((((w.setCell ⟨g, 0, none⟩ (a)).setCell ⟨g, 1, none⟩ (b)).setCell ⟨g, 2, none⟩ (c)).setCell ⟨g, 3, none⟩ (d)) (some g) :=
  ⟨rfl, rfl, rfl, by simp [World.setCell], fun k _ hne => by
    have h : k ≠ g := fun e => hne (by rw [e])
    rw [Below.heap_setCell _ ⟨g, 3, none⟩ _ k h, Below.heap_setCell _ ⟨g, 2, none⟩ _ k h, Below.heap_setCell _ ⟨g, 1, none⟩ _ k h, Below.heap_setCell _ ⟨g, 0, none⟩ _ k h]⟩
theorem OS.put4 {w : World} {B g : Nat} {s : Su} {v1 v2 v3 v4 a b c d : Value} (h : OS w B s v1 v2 v3 v4) (hb : TB w g 27 a b c d) (a' b' c' d' : Value) : OS ((((w.setCell ⟨g, 0, none⟩ (a')).setCell ⟨g, 1, none⟩ (b')).setCell ⟨g, 2, none⟩ (c')).setCell ⟨g, 3, none⟩ (d')) B s v1 v2 v3 v4 := h.turn (g_put4 w g a' b' c' d') hb
theorem OS.forms {w : World} {B : Nat} {s : Su} {v1 v2 v3 v4 : Value} (h : OS w B s v1 v2 v3 v4) (hi : RowsI s 5000) : ∃ A1 c1 A2 c2 A3 c3 A4 c4, v1 = .slice A1 s.ps.length c1 ∧ v2 = .slice A2 s.bs.length c2 ∧ v3 = .slice A3 s.cs.length c3 ∧ v4 = .slice A4 s.as_.length c4 ∧ SuAt w A1 s.ps.length c1 A2 s.bs.length c2 A3 s.cs.length c3 A4 s.as_.length c4 s := by
  obtain ⟨k1, k2, k3, k4, _⟩ := hi
  obtain ⟨A1, c1, e1, l1⟩ := h.p.form (by omega)
  obtain ⟨A2, c2, e2, l2⟩ := h.b.form (by omega)
  obtain ⟨A3, c3, e3, l3⟩ := h.c.form (by omega)
  obtain ⟨A4, c4, e4, l4⟩ := h.a.form (by omega)
  exact ⟨A1, c1, A2, c2, A3, c3, A4, c4, e1, e2, e3, e4, l1.prs k1, l2, l3, l4⟩
/-- Parse's variables. -/
structure PaS (w wr : World) (v1 v2 v3 v4 vl : Value) (LS : List (List UInt8)) : Prop where
  res : TB wr w.heap.size 27 (.slice none 0 0) (.slice none 0 0) (.slice none 0 0) (.slice none 0 0)
  var : TB wr (w.heap.size + 1) 27 v1 v2 v3 v4
  ls : OwnL strE 9 wr 0 vl LS
  low : Below w.heap.size w wr
section
variable {w wr wr' : World} {v1 v2 v3 v4 vl : Value} {LS : List (List UInt8)}
theorem PaS.keep (h : PaS w wr v1 v2 v3 v4 vl LS) (hb : Below wr.heap.size wr wr') : PaS w wr' v1 v2 v3 v4 vl LS := ⟨h.res.keep hb, h.var.keep hb, h.ls.keep hb, h.low.trans (hb.mono (Nat.le_of_lt h.res.lt))⟩
theorem PaS.far (h : PaS w wr v1 v2 v3 v4 vl LS) (hf : FarS wr.heap.size wr wr') (hl : Below w.heap.size wr wr') (hn : LS ≠ []) : PaS w wr' v1 v2 v3 v4 vl LS := by
  have _ := hn
  exact ⟨hf _ _ _ _ h.res.lt h.res (by decide) (by decide) (by decide) (by decide), hf _ _ _ _ h.var.lt h.var (by decide) (by decide) (by decide) (by decide),
    hf.own h.ls (fun k hk => (World.ownsRow.lt h.ls.1 k hk).2) (by decide) (by decide) (by decide) (by decide), h.low.trans hl⟩
theorem PaS.set4 {g : Nat} {a b c d : Value} (h : PaS w wr v1 v2 v3 v4 vl LS) (hb : TB wr g 27 a b c d) (hg : w.heap.size + 1 < g) (a' b' c' d' : Value) : PaS w ((((wr.setCell ⟨g, 0, none⟩ (a')).setCell ⟨g, 1, none⟩ (b')).setCell ⟨g, 2, none⟩ (c')).setCell ⟨g, 3, none⟩ (d')) v1 v2 v3 v4 vl LS := by
  have k := g_put4 wr g a' b' c' d'
  exact ⟨(k.block _ h.res.lt (fun e => by injection e with e; omega)).trans h.res, (k.block _ h.var.lt (fun e => by injection e with e; omega)).trans h.var, h.ls.turn k (h.ls.ne hb (by decide)), below_put4 h.low (by omega) _ _ _ _⟩
theorem PaS.put {a b c d : Value} (h : PaS w wr v1 v2 v3 v4 vl LS) (hb : TB wr (w.heap.size + 1) 27 a b c d) (a' b' c' d' : Value) : PaS w ((((wr.setCell ⟨(w.heap.size + 1), 0, none⟩ (a')).setCell ⟨(w.heap.size + 1), 1, none⟩ (b')).setCell ⟨(w.heap.size + 1), 2, none⟩ (c')).setCell ⟨(w.heap.size + 1), 3, none⟩ (d')) a' b' c' d' vl LS := by
  have k := g_put4 wr (w.heap.size + 1) a' b' c' d'
  exact ⟨(k.block _ h.res.lt (fun e => by injection e with e; omega)).trans h.res, hb.put4 a' b' c' d', h.ls.turn k (h.ls.ne hb (by decide)), below_put4 h.low (by omega) _ _ _ _⟩
end
theorem PaS.new (w : World) : TB ((w.alloc (.cells #[.slice none 0 0, .slice none 0 0, .slice none 0 0, .slice none 0 0] 27)).alloc (.cells #[.slice none 0 0, .slice none 0 0, .slice none 0 0, .slice none 0 0] 27)) w.heap.size 27 (.slice none 0 0) (.slice none 0 0) (.slice none 0 0) (.slice none 0 0) ∧ TB ((w.alloc (.cells #[.slice none 0 0, .slice none 0 0, .slice none 0 0, .slice none 0 0] 27)).alloc (.cells #[.slice none 0 0, .slice none 0 0, .slice none 0 0, .slice none 0 0] 27)) (w.heap.size + 1) 27 (.slice none 0 0) (.slice none 0 0) (.slice none 0 0) (.slice none 0 0) ∧ Below w.heap.size w ((w.alloc (.cells #[.slice none 0 0, .slice none 0 0, .slice none 0 0, .slice none 0 0] 27)).alloc (.cells #[.slice none 0 0, .slice none 0 0, .slice none 0 0, .slice none 0 0] 27)) := by
  have hz : (w.alloc (.cells #[.slice none 0 0, .slice none 0 0, .slice none 0 0, .slice none 0 0] 27)).heap.size = w.heap.size + 1 := by simp
  have b2 := below_new (w.alloc (.cells #[.slice none 0 0, .slice none 0 0, .slice none 0 0, .slice none 0 0] 27)) (.cells #[.slice none 0 0, .slice none 0 0, .slice none 0 0, .slice none 0 0] 27)
  have r2 := TB.new (w.alloc (.cells #[.slice none 0 0, .slice none 0 0, .slice none 0 0, .slice none 0 0] 27)) 27 (.slice none 0 0) (.slice none 0 0) (.slice none 0 0) (.slice none 0 0)
  rw [hz] at r2
  exact ⟨(TB.new w _ _ _ _ _).keep b2, r2, (below_new w _).trans (b2.mono (by omega))⟩
set_option maxRecDepth 100000 in
set_option maxHeartbeats 4000000 in
theorem rparse_long (t : ByteArray) (w : World) (hl : (4000 : Int) < t.size) : Calls Tryz.prog 11 #[.string t] w (GivesP (MU.parseS t.data.toList) w) := by
  have R := Lib.hid (fun w' (hb : Below w.heap.size w w') => show GivesP (MU.parseS t.data.toList) w (.returned (.tuple #[.agg #[.slice none 0 0, .slice none 0 0, .slice none 0 0, .slice none 0 0], .int .i64 0, .int .i64 3])) w' from by
    rw [MU.parseS, if_pos (by rw [Array.length_toList]; show 4000 < t.size; omega)]; exact GivesP.none hb)
  have T0 := Lib.hid (TB.new w 27 (.slice none 0 0) (.slice none 0 0) (.slice none 0 0) (.slice none 0 0))
  have B0 := Lib.hid (below_new w (.cells #[.slice none 0 0, .slice none 0 0, .slice none 0 0, .slice none 0 0] 27))
  go_enter Tryz.func11, Tryz.ntmps11
  go_upto_region 1 with (fail)
  obtain ⟨W1, hW1⟩ : ∃ W1, W1 = w.alloc (.cells #[.slice none 0 0, .slice none 0 0, .slice none 0 0, .slice none 0 0] 27) := ⟨_, rfl⟩
  rw [← hW1] at T0 B0 ⊢
  clear hW1
  obtain ⟨b0, b1, b2, b3⟩ := T0.out.cells
  obtain ⟨f0, f1, f2, f3⟩ := T0.out.free
  have hz := T0.out.lt
  go_wp2
  obtain ⟨W5, hW5⟩ : ∃ W5, W5 = ((((W1.setCell ⟨w.heap.size, 0, none⟩ (.slice none 0 0)).setCell ⟨w.heap.size, 1, none⟩ (.slice none 0 0)).setCell ⟨w.heap.size, 2, none⟩ (.slice none 0 0)).setCell ⟨w.heap.size, 3, none⟩ (.slice none 0 0)) := ⟨_, rfl⟩
  have T5 := Lib.hid (T0.out.put4 (.slice none 0 0) (.slice none 0 0) (.slice none 0 0) (.slice none 0 0))
  have B5 := Lib.hid (below_put4 B0.out (Nat.le_refl w.heap.size) (.slice none 0 0) (.slice none 0 0) (.slice none 0 0) (.slice none 0 0))
  rw [← hW5] at T5 B5 ⊢
  clear b0 b1 b2 b3 f0 f1 f2 f3 hW5
  obtain ⟨b0, b1, b2, b3⟩ := T5.out.cells
  refine bodyPost_ret (v := .tuple #[.agg #[.slice none 0 0, .slice none 0 0, .slice none 0 0, .slice none 0 0], .int .i64 0, .int .i64 3]) (by simp [results, Tryz.results11, go_sem, b0, b1, b2, b3]) rfl ?_
  exact R.out _ B5.out
set_option maxRecDepth 100000 in
set_option maxHeartbeats 16000000 in
theorem rparse_any (t : ByteArray) (w : World) (_ht : t.size < 4294967281) : Calls Tryz.prog 11 #[.string t] w (GivesP (MU.parseS t.data.toList) w) := by
  by_cases hl : (4000 : Int) < t.size
  · exact rparse_long t w hl
  have E0 := Lib.hid (show MU.linesE (MU.splitB 10 t.data.toList) 0 Su.none = MU.parseS t.data.toList from by
    rw [MU.parseS, if_neg (by rw [Array.length_toList]; show ¬ 4000 < t.size; omega)])
  have P0 := Lib.hid (PaS.new w)
  go_enter Tryz.func11, Tryz.ntmps11
  go_wp2_with fail
  obtain ⟨W0, hW0⟩ : ∃ W0, W0 = (w.alloc (.cells #[.slice none 0 0, .slice none 0 0, .slice none 0 0, .slice none 0 0] 27)).alloc (.cells #[.slice none 0 0, .slice none 0 0, .slice none 0 0, .slice none 0 0] 27) := ⟨_, rfl⟩
  rw [← hW0] at P0 ⊢
  clear hW0
  refine (rsplit_own t 10 (by omega) W0).mono ?_
  rintro ev W1 ⟨vl, rfl, hOl, hb⟩
  have HPs := Lib.hid (show PaS w W1 (.slice none 0 0) (.slice none 0 0) (.slice none 0 0) (.slice none 0 0) vl (MU.splitB 10 t.data.toList) from ⟨P0.out.1.keep hb, P0.out.2.1.keep hb, hOl.low0, P0.out.2.2.trans (hb.mono (Nat.le_trans (by omega) (Nat.le_of_lt P0.out.2.1.lt)))⟩)
  have HOs := Lib.hid (OS.nil W1 w.heap.size)
  clear hOl hb P0
  have hLL : (MU.splitB 10 t.data.toList).length ≤ 4001 := by
    have := split_len 10 t.data.toList
    have h2 := size_list t
    omega
  have hLW : ∀ l ∈ MU.splitB 10 t.data.toList, l.length ≤ 4000 := fun l hl2 => by
    have := split_word 10 t.data.toList l hl2
    have h2 := size_list t
    omega
  have HLW := Lib.hid hLW
  clear hLW
  obtain ⟨LS, hLS⟩ : ∃ LS, LS = MU.splitB 10 t.data.toList := ⟨_, rfl⟩
  have hsl : LS ≠ [] := by rw [hLS]; exact MU.split_ne 10 _
  rw [← hLS] at HPs E0 hLL HLW
  clear hLS
  obtain ⟨gl, cl, rfl, hgc⟩ : ∃ gl cl, vl = .slice (some ⟨gl, 0, none⟩) LS.length cl ∧ LS.length ≤ cl := by
    cases LS with
    | nil => exact absurd rfl hsl
    | cons a b =>
      obtain ⟨g, c, e, h1, _⟩ := HPs.out.ls.str_open
      exact ⟨g, c, e, h1⟩
  go_wp2
  go_loopw [7] (fun i wr => ∃ (k : Nat) (s : Su) (v1 v2 v3 v4 : Value), k ≤ LS.length ∧ i = .int .i64 k ∧ Hid (PaS w wr v1 v2 v3 v4 (.slice (some ⟨gl, 0, none⟩) LS.length cl) LS) ∧ Hid (OS wr w.heap.size s v1 v2 v3 v4) ∧ Hid (RowsI s k) ∧ Hid (MU.linesE (LS.drop k) k s = MU.parseS t.data.toList)) (fun i _ => LS.length - (intOf i).toNat)
  case atStart => exact ⟨0, Su.none, _, _, _, _, Nat.zero_le _, rfl, HPs, HOs, Lib.hid ⟨Nat.le_refl _, Nat.le_refl _, Nat.le_refl _, Nat.le_refl _, fun b h => by cases h⟩, E0⟩
  case round =>
    obtain ⟨k, s, v1, v2, v3, v4, hk, rfl, HP, HO, HR, HE⟩ := hrel
    clear HPs HOs E0
    have HR5 := HR.out.more (j := 5000) (by omega)
    obtain ⟨A1, c1, A2, c2, A3, c3, A4, c4, rfl, rfl, rfl, rfl, hsu⟩ := HO.out.forms HR5
    have HSu := Lib.hid hsu
    clear hsu
    by_cases hlt : k < LS.length
    · obtain ⟨l, q0⟩ : ∃ l, LS[k]? = some l := ⟨_, List.getElem?_eq_getElem hlt⟩
      have q1 := Lib.hid q0
      have hll := HLW.out l (List.mem_of_getElem? q0)
      have HD := Lib.hid (MU.drop_at' q0)
      rw [HD.out] at HE
      clear q0 HSu HD
      have y0 := HP.out.ls.str_cell k l q1.out
      by_cases hle : l = []
      · have q2 : ((str l).toList == []) = true := word_yes hle
        have E2 := Lib.hid (show MU.parseS t.data.toList = MU.linesE (LS.drop (k + 1)) (k + 1) s from by rw [← HE.out, hle]; first | done | exact MU.lines_empty)
        have RI := Lib.hid (HR.out.more (Nat.le_succ k))
        clear HE hle HR hll q1
        go_wp2
        go_roundw
        case rel => exact ⟨k + 1, s, _, _, _, _, by omega, by go_num, HP, HO, RI, Lib.hid E2.out.symm⟩
        case measure => simp [intOf]; omega
      have q2 : ((str l).toList == []) = false := word_no hle
      obtain ⟨x, rr, hxr⟩ : ∃ x rr, MU.splitB 32 l = x :: rr := by
        cases h : MU.splitB 32 l with
        | nil => exact absurd h (MU.split_ne 32 l)
        | cons a b => exact ⟨a, b, rfl⟩
      have hrl : rr.length ≤ 5000 := by
        have := split_len 32 l
        rw [hxr, List.length_cons] at this
        omega
      go_wp2
      clear y0
      obtain ⟨X, hX⟩ : ∃ X, X = wr.drew := ⟨_, rfl⟩
      have hbX := below_drawn wr
      rw [← hX] at hbX
      replace HP := Lib.hid (HP.out.keep hbX)
      replace HO := Lib.hid (HO.out.keep hbX)
      have HX0 := Lib.hid (show w.heap.size + 1 < X.heap.size from HP.out.var.lt)
      have hxw := HX0.out
      clear hbX
      have HF5 : X.cell? ⟨gl, k, none⟩ = some (.string (str l)) ∧ X.cell? ⟨w.heap.size + 1, 0, none⟩ = some (.slice A1 s.ps.length c1) ∧ X.cell? ⟨w.heap.size + 1, 1, none⟩ = some (.slice A2 s.bs.length c2) ∧ X.cell? ⟨w.heap.size + 1, 2, none⟩ = some (.slice A3 s.cs.length c3) ∧ X.cell? ⟨w.heap.size + 1, 3, none⟩ = some (.slice A4 s.as_.length c4) := ⟨HP.out.ls.str_cell k l q1.out, HP.out.var.cells⟩
      rw [hX] at HF5
      refine wp_region_held_drew (S := fun w' => w'.cell? ⟨gl, k, none⟩ = some (.string (str l)) ∧ w'.cell? ⟨w.heap.size + 1, 0, none⟩ = some (.slice A1 s.ps.length c1) ∧ w'.cell? ⟨w.heap.size + 1, 1, none⟩ = some (.slice A2 s.bs.length c2) ∧ w'.cell? ⟨w.heap.size + 1, 2, none⟩ = some (.slice A3 s.cs.length c3) ∧ w'.cell? ⟨w.heap.size + 1, 3, none⟩ = some (.slice A4 s.as_.length c4)) (by kernel_rfl) HF5 (fun hHeld => ?_)
      rw [← hX] at hHeld ⊢
      clear hX HF5
      refine wpAnyH_take (i := 0) (oi := { dst := some 29, op := Op.load 27 (Operand.tmp 5), type := 27, pos := "ref.go:306", after := #[], guard := none }) (v := ?_) rfl (by kernel_rfl) (by kernel_rfl) (by kernel_rfl) (fun _ _ _ h => h) (Or.inl ⟨by rfl, ?_⟩) (by assumption) ?_
      rotate_left
      · intro w hSw; (try dsimp only at hSw); obtain ⟨s0, s1, s2, s3, s4⟩ := hSw; go_simp; try with_reducible rfl
      (try simp only [Act.put, List.setIfInBounds_toArray, List.set_cons_zero, List.set_cons_succ])
      refine wpAnyH_take (i := 1) (oi := { dst := some 30, op := Op.move (Operand.tmp 6), type := 51, pos := "ref.go:306", after := #[], guard := none }) (v := ?_) rfl (by kernel_rfl) (by kernel_rfl) (by kernel_rfl) (fun _ _ _ h => h) (Or.inl ⟨by rfl, ?_⟩) (by assumption) ?_
      rotate_left
      · intro w hSw; (try dsimp only at hSw); obtain ⟨s0, s1, s2, s3, s4⟩ := hSw; go_simp; try with_reducible rfl
      (try simp only [Act.put, List.setIfInBounds_toArray, List.set_cons_zero, List.set_cons_succ])
      refine wpAnyH_take (i := 2) (oi := { dst := some 31, op := Op.move (Operand.tmp 7), type := 3, pos := "ref.go:306", after := #[], guard := none }) (v := ?_) rfl (by kernel_rfl) (by kernel_rfl) (by kernel_rfl) (fun _ _ _ h => h) (Or.inl ⟨by rfl, ?_⟩) (by assumption) ?_
      rotate_left
      · intro w hSw; (try dsimp only at hSw); obtain ⟨s0, s1, s2, s3, s4⟩ := hSw; go_simp; try with_reducible rfl
      (try simp only [Act.put, List.setIfInBounds_toArray, List.set_cons_zero, List.set_cons_succ])
      refine wpAnyH_take (i := 3) (oi := { dst := some 32, op := Op.indexAddr 51 (Operand.tmp 30) (Operand.tmp 31), type := 0, pos := "ref.go:306", after := #[{ on := 1, ground := Ground.data }, { on := 2, ground := Ground.data }], guard := none }) (v := ?_) rfl (by kernel_rfl) (by kernel_rfl) (by kernel_rfl) (fun _ _ _ h => h) (Or.inl ⟨by rfl, ?_⟩) (by assumption) ?_
      rotate_left
      · intro w hSw; (try dsimp only at hSw); obtain ⟨s0, s1, s2, s3, s4⟩ := hSw; go_simp; try with_reducible rfl
      (try simp only [Act.put, List.setIfInBounds_toArray, List.set_cons_zero, List.set_cons_succ])
      refine wpAnyH_take (i := 4) (oi := { dst := some 33, op := Op.load 9 (Operand.tmp 32), type := 9, pos := "ref.go:306", after := #[{ on := 3, ground := Ground.data }], guard := none }) (v := ?_) rfl (by kernel_rfl) (by kernel_rfl) (by kernel_rfl) (fun _ _ _ h => h) (Or.inl ⟨by rfl, ?_⟩) (by assumption) ?_
      rotate_left
      · intro w hSw; (try dsimp only at hSw); obtain ⟨s0, s1, s2, s3, s4⟩ := hSw; go_simp; try with_reducible rfl
      (try simp only [Act.put, List.setIfInBounds_toArray, List.set_cons_zero, List.set_cons_succ])
      refine wpAnyH_ready (rs := [5, 10]) (by kernel_rfl) (by simp) ?_
      refine AllReadyH.cons (o := { dst := some 34, op := Op.call { callee := Callee.value (Operand.func 31), args := #[Operand.tmp 33, Operand.const (Value.int IntKind.u8 32)], argTypes := #[9, 5] }, type := 51, pos := "ref.go:306", after := #[{ on := 4, ground := Ground.data }], guard := none }) rfl (fun K hK => ?_) (AllReadyH.cons (o := { dst := some 8, op := Op.alloc 27, type := 0, pos := "ref.go:306", after := #[], guard := none }) rfl (fun K hK => ?_) AllReadyH.nil)
      · go_simp
        refine (rsplit_own (str l) 32 (by rw [str_size]; omega) X).mono ?_
        rintro ev Y1 ⟨vw, rfl, hOw, hb⟩
        rw [str_data, hxr] at hOw
        replace HP := Lib.hid (HP.out.keep hb)
        replace HO := Lib.hid (HO.out.keep hb)
        have HWd := Lib.hid hOw.low0
        have hz1 := hb.size
        clear hOw hb
        refine hK.out _ _ ?_ (fun hHeld => ?_)
        · exact ⟨HP.out.ls.str_cell k l q1.out, HP.out.var.cells⟩
        have HVY1 := Lib.hid (show w.heap.size + 1 < Y1.heap.size from HP.out.var.lt)
        clear hK K
        (try simp only [Act.put, List.setIfInBounds_toArray, List.set_cons_zero, List.set_cons_succ])
        refine wpAnyH_ready (rs := [6, 10]) (by kernel_rfl) (by simp) ?_
        refine AllReadyH.cons (o := { dst := some 35, op := Op.call { callee := Callee.value (Operand.func 32), args := #[Operand.tmp 29, Operand.tmp 34], argTypes := #[27, 51] }, type := 76, pos := "ref.go:306", after := #[{ on := 0, ground := Ground.data }, { on := 5, ground := Ground.data }, { on := 5, ground := Ground.chain }], guard := none }) rfl (fun K hK => ?_) (AllReadyH.cons (o := { dst := some 8, op := Op.alloc 27, type := 0, pos := "ref.go:306", after := #[], guard := none }) rfl (fun K hK => ?_) AllReadyH.nil)
        · go_simp
          refine (rline_any w.heap.size s A1 A2 A3 A4 c1 c2 c3 c4 vw x rr Y1 HO.out (by omega) HWd.out (by omega) HR5).mono ?_
          rintro ev Y2 ⟨x1, x2, x3, x4, rfl, ho2, hf2, hl2⟩
          obtain ⟨B1, d1, B2, d2, B3, d3, B4, d4, rfl, rfl, rfl, rfl, _⟩ := ho2.forms ((HR.out.line (x :: rr)).more (by omega))
          have hP2 := HP.out.far hf2 hl2 hsl
          clear HO
          have HO := Lib.hid ho2
          clear HP HWd
          have HP := Lib.hid hP2
          clear hP2 ho2 hf2 hl2
          refine hK.out _ _ ?_ (fun hHeld => ?_)
          · exact ⟨HP.out.ls.str_cell k l q1.out, HP.out.var.cells⟩
          have HVY2 := Lib.hid (show w.heap.size + 1 < Y2.heap.size from HP.out.var.lt)
          clear hK K
          (try simp only [Act.put, List.setIfInBounds_toArray, List.set_cons_zero, List.set_cons_succ])
          refine wpAnyH_take (i := 7) (oi := { dst := some 28, op := Op.move (Operand.tmp 35), type := 76, pos := "ref.go:306", after := #[{ on := 6, ground := Ground.data }], guard := none }) (v := ?_) rfl (by kernel_rfl) (by kernel_rfl) (by kernel_rfl) (fun _ _ _ h => h) (Or.inl ⟨by rfl, ?_⟩) (by assumption) ?_
          rotate_left
          · intro w hSw; (try dsimp only at hSw); obtain ⟨s0, s1, s2, s3, s4⟩ := hSw; go_simp; try with_reducible rfl
          (try simp only [Act.put, List.setIfInBounds_toArray, List.set_cons_zero, List.set_cons_succ])
          refine wpAnyH_take (i := 8) (oi := { dst := some 36, op := Op.extract (Operand.tmp 28) 0, type := 27, pos := "ref.go:306", after := #[{ on := 7, ground := Ground.data }], guard := none }) (v := ?_) rfl (by kernel_rfl) (by kernel_rfl) (by kernel_rfl) (fun _ _ _ h => h) (Or.inl ⟨by rfl, ?_⟩) (by assumption) ?_
          rotate_left
          · intro w hSw; (try dsimp only at hSw); obtain ⟨s0, s1, s2, s3, s4⟩ := hSw; go_simp; try with_reducible rfl
          (try simp only [Act.put, List.setIfInBounds_toArray, List.set_cons_zero, List.set_cons_succ])
          refine wpAnyH_take (i := 9) (oi := { dst := some 37, op := Op.extract (Operand.tmp 28) 1, type := 30, pos := "ref.go:306", after := #[{ on := 7, ground := Ground.data }, { on := 11, ground := Ground.gcOnly Departure.lateStores }], guard := none }) (v := ?_) rfl (by kernel_rfl) (by kernel_rfl) (by kernel_rfl) (fun _ _ _ h => h) (Or.inl ⟨by rfl, ?_⟩) (by assumption) ?_
          rotate_left
          · intro w hSw; (try dsimp only at hSw); obtain ⟨s0, s1, s2, s3, s4⟩ := hSw; go_simp; try with_reducible rfl
          (try simp only [Act.put, List.setIfInBounds_toArray, List.set_cons_zero, List.set_cons_succ])
          refine wpAnyH_ready (rs := [10]) (by kernel_rfl) (by simp) ?_
          refine AllReadyH.cons (o := { dst := some 8, op := Op.alloc 27, type := 0, pos := "ref.go:306", after := #[], guard := none }) rfl (fun K hK => ?_) AllReadyH.nil
          go_simp
          have hbA := below_new Y2 (.cells #[.slice none 0 0, .slice none 0 0, .slice none 0 0, .slice none 0 0] 27)
          have H8 := Lib.hid (TB.new Y2 27 (.slice none 0 0) (.slice none 0 0) (.slice none 0 0) (.slice none 0 0))
          replace HP := Lib.hid (HP.out.keep hbA)
          replace HO := Lib.hid (HO.out.keep hbA)
          obtain ⟨g8, hg8⟩ : ∃ g8, g8 = Y2.heap.size := ⟨_, rfl⟩
          have hg8w : w.heap.size + 1 < g8 := by rw [hg8]; exact HVY2.out
          rw [← hg8] at H8 ⊢
          clear hg8
          obtain ⟨WY2, hW⟩ : ∃ WY2, WY2 = Y2.alloc (.cells #[.slice none 0 0, .slice none 0 0, .slice none 0 0, .slice none 0 0] 27) := ⟨_, rfl⟩
          rw [← hW] at H8 HP HO hbA ⊢
          have hzA := hbA.size
          clear hW hbA
          refine hK.out _ _ ?_ (fun hHeld => ?_)
          · exact ⟨HP.out.ls.str_cell k l q1.out, HP.out.var.cells⟩
          clear hK K
          (try simp only [Act.put, List.setIfInBounds_toArray, List.set_cons_zero, List.set_cons_succ])
          refine wpAnyH_ready (rs := [11]) (by kernel_rfl) (by simp) ?_
          refine AllReadyH.cons (o := { dst := none, op := Op.store 27 (Operand.tmp 8) (Operand.tmp 36), type := 0, pos := "ref.go:306", after := #[{ on := 10, ground := Ground.data }, { on := 8, ground := Ground.data }, { on := 6, ground := Ground.chain }, { on := 0, ground := Ground.phase }, { on := 1, ground := Ground.phase }, { on := 2, ground := Ground.phase }, { on := 3, ground := Ground.phase }, { on := 4, ground := Ground.phase }, { on := 5, ground := Ground.phase }, { on := 6, ground := Ground.phase }, { on := 7, ground := Ground.phase }, { on := 8, ground := Ground.phase }, { on := 9, ground := Ground.textOnly Departure.lateStores }, { on := 10, ground := Ground.phase }], guard := none }) rfl (fun K hK => ?_) AllReadyH.nil
          obtain ⟨e0, e1, e2, e3⟩ := H8.out.cells
          obtain ⟨f0, f1, f2, f3⟩ := H8.out.free
          have hzz := H8.out.lt
          go_simp
          have hP2 := HP.out.set4 H8.out hg8w (.slice B1 (MU.lineE s (x :: rr)).1.ps.length d1) (.slice B2 (MU.lineE s (x :: rr)).1.bs.length d2) (.slice B3 (MU.lineE s (x :: rr)).1.cs.length d3) (.slice B4 (MU.lineE s (x :: rr)).1.as_.length d4)
          have hO2 := HO.out.put4 H8.out (.slice B1 (MU.lineE s (x :: rr)).1.ps.length d1) (.slice B2 (MU.lineE s (x :: rr)).1.bs.length d2) (.slice B3 (MU.lineE s (x :: rr)).1.cs.length d3) (.slice B4 (MU.lineE s (x :: rr)).1.as_.length d4)
          have h82 := H8.out.put4 (.slice B1 (MU.lineE s (x :: rr)).1.ps.length d1) (.slice B2 (MU.lineE s (x :: rr)).1.bs.length d2) (.slice B3 (MU.lineE s (x :: rr)).1.cs.length d3) (.slice B4 (MU.lineE s (x :: rr)).1.as_.length d4)
          clear HP HO H8 e0 e1 e2 e3 f0 f1 f2 f3 hzz
          have HP := Lib.hid hP2
          have HO := Lib.hid hO2
          have H8 := Lib.hid h82
          clear hP2 hO2 h82
          refine hK.out _ _ ?_ (fun hHeld => ?_)
          · exact ⟨HP.out.ls.str_cell k l q1.out, HP.out.var.cells⟩
          clear hK K
          (try simp only [Act.put, List.setIfInBounds_toArray, List.set_cons_zero, List.set_cons_succ])
          refine wpAnyH_take (i := 12) (oi := { dst := some 9, op := Op.assign (Operand.tmp 37), type := 30, pos := "ref.go:306", after := #[{ on := 9, ground := Ground.data }, { on := 11, ground := Ground.chain }, { on := 0, ground := Ground.phase }, { on := 1, ground := Ground.phase }, { on := 2, ground := Ground.phase }, { on := 3, ground := Ground.phase }, { on := 4, ground := Ground.phase }, { on := 5, ground := Ground.phase }, { on := 6, ground := Ground.phase }, { on := 7, ground := Ground.phase }, { on := 8, ground := Ground.phase }, { on := 9, ground := Ground.phase }, { on := 10, ground := Ground.phase }, { on := 11, ground := Ground.phase }], guard := none }) (v := ?_) rfl (by kernel_rfl) (by kernel_rfl) (by kernel_rfl) (fun _ _ _ h => h) (Or.inl ⟨by rfl, ?_⟩) (by assumption) ?_
          rotate_left
          · intro w hSw; (try dsimp only at hSw); obtain ⟨s0, s1, s2, s3, s4⟩ := hSw; go_simp; try with_reducible rfl
          (try simp only [Act.put, List.setIfInBounds_toArray, List.set_cons_zero, List.set_cons_succ])
          refine wpAnyH_done (by kernel_rfl) ?_ _
          obtain ⟨W8, hW8⟩ : ∃ W8, W8 = ((((WY2.setCell ⟨g8, 0, none⟩ (.slice B1 (MU.lineE s (x :: rr)).1.ps.length d1)).setCell ⟨g8, 1, none⟩ (.slice B2 (MU.lineE s (x :: rr)).1.bs.length d2)).setCell ⟨g8, 2, none⟩ (.slice B3 (MU.lineE s (x :: rr)).1.cs.length d3)).setCell ⟨g8, 3, none⟩ (.slice B4 (MU.lineE s (x :: rr)).1.as_.length d4)) := ⟨_, rfl⟩
          rw [← hW8] at HP HO H8 ⊢
          clear hW8 hHeld
          obtain ⟨e0, e1, e2, e3⟩ := H8.out.cells
          obtain ⟨t0, t1, t2, t3⟩ := HP.out.var.cells
          obtain ⟨f0, f1, f2, f3⟩ := HP.out.var.free
          obtain ⟨r0, r1, r2, r3⟩ := HP.out.res.free
          obtain ⟨b0, b1, b2, b3⟩ := HP.out.res.cells
          have hzv := HP.out.var.lt
          have hzr := HP.out.res.lt
          by_cases he : (MU.lineE s (x :: rr)).2 = 0
          · have E2 := Lib.hid (HE.out.symm.trans (MU.lines_on (t := (MU.lineE s (x :: rr)).1) hle (by rw [hxr]; exact Prod.ext rfl he)))
            have RI := Lib.hid (HR.out.line (x :: rr))
            have EX := Lib.hid (show PaS w ((((W8.setCell ⟨(w.heap.size + 1), 0, none⟩ (.slice B1 (MU.lineE s (x :: rr)).1.ps.length d1)).setCell ⟨(w.heap.size + 1), 1, none⟩ (.slice B2 (MU.lineE s (x :: rr)).1.bs.length d2)).setCell ⟨(w.heap.size + 1), 2, none⟩ (.slice B3 (MU.lineE s (x :: rr)).1.cs.length d3)).setCell ⟨(w.heap.size + 1), 3, none⟩ (.slice B4 (MU.lineE s (x :: rr)).1.as_.length d4)) (.slice B1 (MU.lineE s (x :: rr)).1.ps.length d1) (.slice B2 (MU.lineE s (x :: rr)).1.bs.length d2) (.slice B3 (MU.lineE s (x :: rr)).1.cs.length d3) (.slice B4 (MU.lineE s (x :: rr)).1.as_.length d4) (.slice (some ⟨gl, 0, none⟩) LS.length cl) LS ∧ OS ((((W8.setCell ⟨(w.heap.size + 1), 0, none⟩ (.slice B1 (MU.lineE s (x :: rr)).1.ps.length d1)).setCell ⟨(w.heap.size + 1), 1, none⟩ (.slice B2 (MU.lineE s (x :: rr)).1.bs.length d2)).setCell ⟨(w.heap.size + 1), 2, none⟩ (.slice B3 (MU.lineE s (x :: rr)).1.cs.length d3)).setCell ⟨(w.heap.size + 1), 3, none⟩ (.slice B4 (MU.lineE s (x :: rr)).1.as_.length d4)) w.heap.size (MU.lineE s (x :: rr)).1 (.slice B1 (MU.lineE s (x :: rr)).1.ps.length d1) (.slice B2 (MU.lineE s (x :: rr)).1.bs.length d2) (.slice B3 (MU.lineE s (x :: rr)).1.cs.length d3) (.slice B4 (MU.lineE s (x :: rr)).1.as_.length d4) from ⟨HP.out.put HP.out.var (.slice B1 (MU.lineE s (x :: rr)).1.ps.length d1) (.slice B2 (MU.lineE s (x :: rr)).1.bs.length d2) (.slice B3 (MU.lineE s (x :: rr)).1.cs.length d3) (.slice B4 (MU.lineE s (x :: rr)).1.as_.length d4), HO.out.put4 HP.out.var (.slice B1 (MU.lineE s (x :: rr)).1.ps.length d1) (.slice B2 (MU.lineE s (x :: rr)).1.bs.length d2) (.slice B3 (MU.lineE s (x :: rr)).1.cs.length d3) (.slice B4 (MU.lineE s (x :: rr)).1.as_.length d4)⟩)
            rw [he]
            clear HE he HR HP HO H8
            go_wp2
            go_roundw
            case rel => exact ⟨k + 1, _, _, _, _, _, by omega, by go_num, Lib.hid EX.out.1, Lib.hid EX.out.2, RI, Lib.hid E2.out.symm⟩
            case measure => simp [intOf]; omega
          · have hb' : ((MU.lineE s (x :: rr)).2 != 0) = true := bne_iff_ne.2 he
            have hk1 : IntKind.i64.wrap ((k : Int) + 1) = (k : Int) + 1 := IntWalk.i64_in _ (by omega)
            have E2 := Lib.hid (HE.out.symm.trans (MU.lines_bad hle (by rw [hxr]; exact he)))
            rw [hxr] at E2
            generalize (MU.lineE s (x :: rr)).2 = kk at *
            have R := Lib.hid (fun w' (hb : Below w.heap.size w w') => show GivesP (MU.parseS t.data.toList) w (.returned (.tuple #[.agg #[.slice none 0 0, .slice none 0 0, .slice none 0 0, .slice none 0 0], .int .i64 ((k : Int) + 1), .int .i64 kk])) w' from by rw [E2.out]; exact GivesP.none hb)
            have B5 := Lib.hid (below_put4 HP.out.low (Nat.le_refl w.heap.size) (.slice none 0 0) (.slice none 0 0) (.slice none 0 0) (.slice none 0 0))
            have T5 := Lib.hid (HP.out.res.put4 (.slice none 0 0) (.slice none 0 0) (.slice none 0 0) (.slice none 0 0))
            clear HE he HR HP HO H8 E2 hle hxr
            go_wp2
            obtain ⟨W5, hW5⟩ : ∃ W5, W5 = ((((W8.setCell ⟨w.heap.size, 0, none⟩ (.slice none 0 0)).setCell ⟨w.heap.size, 1, none⟩ (.slice none 0 0)).setCell ⟨w.heap.size, 2, none⟩ (.slice none 0 0)).setCell ⟨w.heap.size, 3, none⟩ (.slice none 0 0)) := ⟨_, rfl⟩
            rw [← hW5] at T5 B5 ⊢
            clear e0 e1 e2 e3 t0 t1 t2 t3 f0 f1 f2 f3 r0 r1 r2 r3 b0 b1 b2 b3 hW5
            obtain ⟨b0, b1, b2, b3⟩ := T5.out.cells
            refine bodyPost_ret (v := .tuple #[.agg #[.slice none 0 0, .slice none 0 0, .slice none 0 0, .slice none 0 0], .int .i64 ((k : Int) + 1), .int .i64 kk]) (by simp [results, Tryz.results11, go_sem, b0, b1, b2, b3]) rfl ?_
            exact R.out _ B5.out
        · go_simp
          have hbA := below_new Y1 (.cells #[.slice none 0 0, .slice none 0 0, .slice none 0 0, .slice none 0 0] 27)
          have H8 := Lib.hid (TB.new Y1 27 (.slice none 0 0) (.slice none 0 0) (.slice none 0 0) (.slice none 0 0))
          replace HP := Lib.hid (HP.out.keep hbA)
          replace HO := Lib.hid (HO.out.keep hbA)
          replace HWd := Lib.hid (HWd.out.keep hbA)
          obtain ⟨g8, hg8⟩ : ∃ g8, g8 = Y1.heap.size := ⟨_, rfl⟩
          have hg8w : w.heap.size + 1 < g8 := by rw [hg8]; exact HVY1.out
          rw [← hg8] at H8 ⊢
          clear hg8
          obtain ⟨WY1, hW⟩ : ∃ WY1, WY1 = Y1.alloc (.cells #[.slice none 0 0, .slice none 0 0, .slice none 0 0, .slice none 0 0] 27) := ⟨_, rfl⟩
          rw [← hW] at H8 HP HO HWd hbA ⊢
          have hzA := hbA.size
          clear hW hbA
          refine hK.out _ _ ?_ (fun hHeld => ?_)
          · exact ⟨HP.out.ls.str_cell k l q1.out, HP.out.var.cells⟩
          clear hK K
          (try simp only [Act.put, List.setIfInBounds_toArray, List.set_cons_zero, List.set_cons_succ])
          refine wpAnyH_ready (rs := [6]) (by kernel_rfl) (by simp) ?_
          refine AllReadyH.cons (o := { dst := some 35, op := Op.call { callee := Callee.value (Operand.func 32), args := #[Operand.tmp 29, Operand.tmp 34], argTypes := #[27, 51] }, type := 76, pos := "ref.go:306", after := #[{ on := 0, ground := Ground.data }, { on := 5, ground := Ground.data }, { on := 5, ground := Ground.chain }], guard := none }) rfl (fun K hK => ?_) AllReadyH.nil
          go_simp
          refine (rline_any w.heap.size s A1 A2 A3 A4 c1 c2 c3 c4 vw x rr WY1 HO.out (by omega) HWd.out (by omega) HR5).mono ?_
          rintro ev Y2 ⟨x1, x2, x3, x4, rfl, ho2, hf2, hl2⟩
          obtain ⟨B1, d1, B2, d2, B3, d3, B4, d4, rfl, rfl, rfl, rfl, _⟩ := ho2.forms ((HR.out.line (x :: rr)).more (by omega))
          have hP2 := HP.out.far hf2 hl2 hsl
          clear HO
          have HO := Lib.hid ho2
          have H8' : TB Y2 g8 27 (.slice none 0 0) (.slice none 0 0) (.slice none 0 0) (.slice none 0 0) := hf2 g8 _ _ _ H8.out.lt H8.out (by decide) (by decide) (by decide) (by decide)
          clear H8
          have H8 := Lib.hid H8'
          clear H8'
          clear HP HWd
          have HP := Lib.hid hP2
          clear hP2 ho2 hf2 hl2
          refine hK.out _ _ ?_ (fun hHeld => ?_)
          · exact ⟨HP.out.ls.str_cell k l q1.out, HP.out.var.cells⟩
          have HVY2 := Lib.hid (show w.heap.size + 1 < Y2.heap.size from HP.out.var.lt)
          clear hK K
          (try simp only [Act.put, List.setIfInBounds_toArray, List.set_cons_zero, List.set_cons_succ])
          refine wpAnyH_take (i := 7) (oi := { dst := some 28, op := Op.move (Operand.tmp 35), type := 76, pos := "ref.go:306", after := #[{ on := 6, ground := Ground.data }], guard := none }) (v := ?_) rfl (by kernel_rfl) (by kernel_rfl) (by kernel_rfl) (fun _ _ _ h => h) (Or.inl ⟨by rfl, ?_⟩) (by assumption) ?_
          rotate_left
          · intro w hSw; (try dsimp only at hSw); obtain ⟨s0, s1, s2, s3, s4⟩ := hSw; go_simp; try with_reducible rfl
          (try simp only [Act.put, List.setIfInBounds_toArray, List.set_cons_zero, List.set_cons_succ])
          refine wpAnyH_take (i := 8) (oi := { dst := some 36, op := Op.extract (Operand.tmp 28) 0, type := 27, pos := "ref.go:306", after := #[{ on := 7, ground := Ground.data }], guard := none }) (v := ?_) rfl (by kernel_rfl) (by kernel_rfl) (by kernel_rfl) (fun _ _ _ h => h) (Or.inl ⟨by rfl, ?_⟩) (by assumption) ?_
          rotate_left
          · intro w hSw; (try dsimp only at hSw); obtain ⟨s0, s1, s2, s3, s4⟩ := hSw; go_simp; try with_reducible rfl
          (try simp only [Act.put, List.setIfInBounds_toArray, List.set_cons_zero, List.set_cons_succ])
          refine wpAnyH_take (i := 9) (oi := { dst := some 37, op := Op.extract (Operand.tmp 28) 1, type := 30, pos := "ref.go:306", after := #[{ on := 7, ground := Ground.data }, { on := 11, ground := Ground.gcOnly Departure.lateStores }], guard := none }) (v := ?_) rfl (by kernel_rfl) (by kernel_rfl) (by kernel_rfl) (fun _ _ _ h => h) (Or.inl ⟨by rfl, ?_⟩) (by assumption) ?_
          rotate_left
          · intro w hSw; (try dsimp only at hSw); obtain ⟨s0, s1, s2, s3, s4⟩ := hSw; go_simp; try with_reducible rfl
          (try simp only [Act.put, List.setIfInBounds_toArray, List.set_cons_zero, List.set_cons_succ])
          refine wpAnyH_ready (rs := [11]) (by kernel_rfl) (by simp) ?_
          refine AllReadyH.cons (o := { dst := none, op := Op.store 27 (Operand.tmp 8) (Operand.tmp 36), type := 0, pos := "ref.go:306", after := #[{ on := 10, ground := Ground.data }, { on := 8, ground := Ground.data }, { on := 6, ground := Ground.chain }, { on := 0, ground := Ground.phase }, { on := 1, ground := Ground.phase }, { on := 2, ground := Ground.phase }, { on := 3, ground := Ground.phase }, { on := 4, ground := Ground.phase }, { on := 5, ground := Ground.phase }, { on := 6, ground := Ground.phase }, { on := 7, ground := Ground.phase }, { on := 8, ground := Ground.phase }, { on := 9, ground := Ground.textOnly Departure.lateStores }, { on := 10, ground := Ground.phase }], guard := none }) rfl (fun K hK => ?_) AllReadyH.nil
          obtain ⟨e0, e1, e2, e3⟩ := H8.out.cells
          obtain ⟨f0, f1, f2, f3⟩ := H8.out.free
          have hzz := H8.out.lt
          go_simp
          have hP2 := HP.out.set4 H8.out hg8w (.slice B1 (MU.lineE s (x :: rr)).1.ps.length d1) (.slice B2 (MU.lineE s (x :: rr)).1.bs.length d2) (.slice B3 (MU.lineE s (x :: rr)).1.cs.length d3) (.slice B4 (MU.lineE s (x :: rr)).1.as_.length d4)
          have hO2 := HO.out.put4 H8.out (.slice B1 (MU.lineE s (x :: rr)).1.ps.length d1) (.slice B2 (MU.lineE s (x :: rr)).1.bs.length d2) (.slice B3 (MU.lineE s (x :: rr)).1.cs.length d3) (.slice B4 (MU.lineE s (x :: rr)).1.as_.length d4)
          have h82 := H8.out.put4 (.slice B1 (MU.lineE s (x :: rr)).1.ps.length d1) (.slice B2 (MU.lineE s (x :: rr)).1.bs.length d2) (.slice B3 (MU.lineE s (x :: rr)).1.cs.length d3) (.slice B4 (MU.lineE s (x :: rr)).1.as_.length d4)
          clear HP HO H8 e0 e1 e2 e3 f0 f1 f2 f3 hzz
          have HP := Lib.hid hP2
          have HO := Lib.hid hO2
          have H8 := Lib.hid h82
          clear hP2 hO2 h82
          refine hK.out _ _ ?_ (fun hHeld => ?_)
          · exact ⟨HP.out.ls.str_cell k l q1.out, HP.out.var.cells⟩
          clear hK K
          (try simp only [Act.put, List.setIfInBounds_toArray, List.set_cons_zero, List.set_cons_succ])
          refine wpAnyH_take (i := 12) (oi := { dst := some 9, op := Op.assign (Operand.tmp 37), type := 30, pos := "ref.go:306", after := #[{ on := 9, ground := Ground.data }, { on := 11, ground := Ground.chain }, { on := 0, ground := Ground.phase }, { on := 1, ground := Ground.phase }, { on := 2, ground := Ground.phase }, { on := 3, ground := Ground.phase }, { on := 4, ground := Ground.phase }, { on := 5, ground := Ground.phase }, { on := 6, ground := Ground.phase }, { on := 7, ground := Ground.phase }, { on := 8, ground := Ground.phase }, { on := 9, ground := Ground.phase }, { on := 10, ground := Ground.phase }, { on := 11, ground := Ground.phase }], guard := none }) (v := ?_) rfl (by kernel_rfl) (by kernel_rfl) (by kernel_rfl) (fun _ _ _ h => h) (Or.inl ⟨by rfl, ?_⟩) (by assumption) ?_
          rotate_left
          · intro w hSw; (try dsimp only at hSw); obtain ⟨s0, s1, s2, s3, s4⟩ := hSw; go_simp; try with_reducible rfl
          (try simp only [Act.put, List.setIfInBounds_toArray, List.set_cons_zero, List.set_cons_succ])
          refine wpAnyH_done (by kernel_rfl) ?_ _
          obtain ⟨W8, hW8⟩ : ∃ W8, W8 = ((((Y2.setCell ⟨g8, 0, none⟩ (.slice B1 (MU.lineE s (x :: rr)).1.ps.length d1)).setCell ⟨g8, 1, none⟩ (.slice B2 (MU.lineE s (x :: rr)).1.bs.length d2)).setCell ⟨g8, 2, none⟩ (.slice B3 (MU.lineE s (x :: rr)).1.cs.length d3)).setCell ⟨g8, 3, none⟩ (.slice B4 (MU.lineE s (x :: rr)).1.as_.length d4)) := ⟨_, rfl⟩
          rw [← hW8] at HP HO H8 ⊢
          clear hW8 hHeld
          obtain ⟨e0, e1, e2, e3⟩ := H8.out.cells
          obtain ⟨t0, t1, t2, t3⟩ := HP.out.var.cells
          obtain ⟨f0, f1, f2, f3⟩ := HP.out.var.free
          obtain ⟨r0, r1, r2, r3⟩ := HP.out.res.free
          obtain ⟨b0, b1, b2, b3⟩ := HP.out.res.cells
          have hzv := HP.out.var.lt
          have hzr := HP.out.res.lt
          by_cases he : (MU.lineE s (x :: rr)).2 = 0
          · have E2 := Lib.hid (HE.out.symm.trans (MU.lines_on (t := (MU.lineE s (x :: rr)).1) hle (by rw [hxr]; exact Prod.ext rfl he)))
            have RI := Lib.hid (HR.out.line (x :: rr))
            have EX := Lib.hid (show PaS w ((((W8.setCell ⟨(w.heap.size + 1), 0, none⟩ (.slice B1 (MU.lineE s (x :: rr)).1.ps.length d1)).setCell ⟨(w.heap.size + 1), 1, none⟩ (.slice B2 (MU.lineE s (x :: rr)).1.bs.length d2)).setCell ⟨(w.heap.size + 1), 2, none⟩ (.slice B3 (MU.lineE s (x :: rr)).1.cs.length d3)).setCell ⟨(w.heap.size + 1), 3, none⟩ (.slice B4 (MU.lineE s (x :: rr)).1.as_.length d4)) (.slice B1 (MU.lineE s (x :: rr)).1.ps.length d1) (.slice B2 (MU.lineE s (x :: rr)).1.bs.length d2) (.slice B3 (MU.lineE s (x :: rr)).1.cs.length d3) (.slice B4 (MU.lineE s (x :: rr)).1.as_.length d4) (.slice (some ⟨gl, 0, none⟩) LS.length cl) LS ∧ OS ((((W8.setCell ⟨(w.heap.size + 1), 0, none⟩ (.slice B1 (MU.lineE s (x :: rr)).1.ps.length d1)).setCell ⟨(w.heap.size + 1), 1, none⟩ (.slice B2 (MU.lineE s (x :: rr)).1.bs.length d2)).setCell ⟨(w.heap.size + 1), 2, none⟩ (.slice B3 (MU.lineE s (x :: rr)).1.cs.length d3)).setCell ⟨(w.heap.size + 1), 3, none⟩ (.slice B4 (MU.lineE s (x :: rr)).1.as_.length d4)) w.heap.size (MU.lineE s (x :: rr)).1 (.slice B1 (MU.lineE s (x :: rr)).1.ps.length d1) (.slice B2 (MU.lineE s (x :: rr)).1.bs.length d2) (.slice B3 (MU.lineE s (x :: rr)).1.cs.length d3) (.slice B4 (MU.lineE s (x :: rr)).1.as_.length d4) from ⟨HP.out.put HP.out.var (.slice B1 (MU.lineE s (x :: rr)).1.ps.length d1) (.slice B2 (MU.lineE s (x :: rr)).1.bs.length d2) (.slice B3 (MU.lineE s (x :: rr)).1.cs.length d3) (.slice B4 (MU.lineE s (x :: rr)).1.as_.length d4), HO.out.put4 HP.out.var (.slice B1 (MU.lineE s (x :: rr)).1.ps.length d1) (.slice B2 (MU.lineE s (x :: rr)).1.bs.length d2) (.slice B3 (MU.lineE s (x :: rr)).1.cs.length d3) (.slice B4 (MU.lineE s (x :: rr)).1.as_.length d4)⟩)
            rw [he]
            clear HE he HR HP HO H8
            go_wp2
            go_roundw
            case rel => exact ⟨k + 1, _, _, _, _, _, by omega, by go_num, Lib.hid EX.out.1, Lib.hid EX.out.2, RI, Lib.hid E2.out.symm⟩
            case measure => simp [intOf]; omega
          · have hb' : ((MU.lineE s (x :: rr)).2 != 0) = true := bne_iff_ne.2 he
            have hk1 : IntKind.i64.wrap ((k : Int) + 1) = (k : Int) + 1 := IntWalk.i64_in _ (by omega)
            have E2 := Lib.hid (HE.out.symm.trans (MU.lines_bad hle (by rw [hxr]; exact he)))
            rw [hxr] at E2
            generalize (MU.lineE s (x :: rr)).2 = kk at *
            have R := Lib.hid (fun w' (hb : Below w.heap.size w w') => show GivesP (MU.parseS t.data.toList) w (.returned (.tuple #[.agg #[.slice none 0 0, .slice none 0 0, .slice none 0 0, .slice none 0 0], .int .i64 ((k : Int) + 1), .int .i64 kk])) w' from by rw [E2.out]; exact GivesP.none hb)
            have B5 := Lib.hid (below_put4 HP.out.low (Nat.le_refl w.heap.size) (.slice none 0 0) (.slice none 0 0) (.slice none 0 0) (.slice none 0 0))
            have T5 := Lib.hid (HP.out.res.put4 (.slice none 0 0) (.slice none 0 0) (.slice none 0 0) (.slice none 0 0))
            clear HE he HR HP HO H8 E2 hle hxr
            go_wp2
            obtain ⟨W5, hW5⟩ : ∃ W5, W5 = ((((W8.setCell ⟨w.heap.size, 0, none⟩ (.slice none 0 0)).setCell ⟨w.heap.size, 1, none⟩ (.slice none 0 0)).setCell ⟨w.heap.size, 2, none⟩ (.slice none 0 0)).setCell ⟨w.heap.size, 3, none⟩ (.slice none 0 0)) := ⟨_, rfl⟩
            rw [← hW5] at T5 B5 ⊢
            clear e0 e1 e2 e3 t0 t1 t2 t3 f0 f1 f2 f3 r0 r1 r2 r3 b0 b1 b2 b3 hW5
            obtain ⟨b0, b1, b2, b3⟩ := T5.out.cells
            refine bodyPost_ret (v := .tuple #[.agg #[.slice none 0 0, .slice none 0 0, .slice none 0 0, .slice none 0 0], .int .i64 ((k : Int) + 1), .int .i64 kk]) (by simp [results, Tryz.results11, go_sem, b0, b1, b2, b3]) rfl ?_
            exact R.out _ B5.out
      · go_simp
        have hbA := below_new X (.cells #[.slice none 0 0, .slice none 0 0, .slice none 0 0, .slice none 0 0] 27)
        have H8 := Lib.hid (TB.new X 27 (.slice none 0 0) (.slice none 0 0) (.slice none 0 0) (.slice none 0 0))
        replace HP := Lib.hid (HP.out.keep hbA)
        replace HO := Lib.hid (HO.out.keep hbA)
        obtain ⟨g8, hg8⟩ : ∃ g8, g8 = X.heap.size := ⟨_, rfl⟩
        have hg8w : w.heap.size + 1 < g8 := by rw [hg8]; have := HX0.out; omega
        rw [← hg8] at H8 ⊢
        clear hg8
        obtain ⟨WX, hW⟩ : ∃ WX, WX = X.alloc (.cells #[.slice none 0 0, .slice none 0 0, .slice none 0 0, .slice none 0 0] 27) := ⟨_, rfl⟩
        rw [← hW] at H8 HP HO hbA ⊢
        have hzA := hbA.size
        clear hW hbA
        refine hK.out _ _ ?_ (fun hHeld => ?_)
        · exact ⟨HP.out.ls.str_cell k l q1.out, HP.out.var.cells⟩
        clear hK K
        (try simp only [Act.put, List.setIfInBounds_toArray, List.set_cons_zero, List.set_cons_succ])
        refine wpAnyH_ready (rs := [5]) (by kernel_rfl) (by simp) ?_
        refine AllReadyH.cons (o := { dst := some 34, op := Op.call { callee := Callee.value (Operand.func 31), args := #[Operand.tmp 33, Operand.const (Value.int IntKind.u8 32)], argTypes := #[9, 5] }, type := 51, pos := "ref.go:306", after := #[{ on := 4, ground := Ground.data }], guard := none }) rfl (fun K hK => ?_) AllReadyH.nil
        go_simp
        refine (rsplit_own (str l) 32 (by rw [str_size]; omega) WX).mono ?_
        rintro ev Y1 ⟨vw, rfl, hOw, hb⟩
        rw [str_data, hxr] at hOw
        replace HP := Lib.hid (HP.out.keep hb)
        replace HO := Lib.hid (HO.out.keep hb)
        have HWd := Lib.hid hOw.low0
        replace H8 := Lib.hid (H8.out.keep hb)
        have hz1 := hb.size
        clear hOw hb
        refine hK.out _ _ ?_ (fun hHeld => ?_)
        · exact ⟨HP.out.ls.str_cell k l q1.out, HP.out.var.cells⟩
        have HVY1 := Lib.hid (show w.heap.size + 1 < Y1.heap.size from HP.out.var.lt)
        clear hK K
        (try simp only [Act.put, List.setIfInBounds_toArray, List.set_cons_zero, List.set_cons_succ])
        refine wpAnyH_ready (rs := [6]) (by kernel_rfl) (by simp) ?_
        refine AllReadyH.cons (o := { dst := some 35, op := Op.call { callee := Callee.value (Operand.func 32), args := #[Operand.tmp 29, Operand.tmp 34], argTypes := #[27, 51] }, type := 76, pos := "ref.go:306", after := #[{ on := 0, ground := Ground.data }, { on := 5, ground := Ground.data }, { on := 5, ground := Ground.chain }], guard := none }) rfl (fun K hK => ?_) AllReadyH.nil
        go_simp
        refine (rline_any w.heap.size s A1 A2 A3 A4 c1 c2 c3 c4 vw x rr Y1 HO.out (by omega) HWd.out (by omega) HR5).mono ?_
        rintro ev Y2 ⟨x1, x2, x3, x4, rfl, ho2, hf2, hl2⟩
        obtain ⟨B1, d1, B2, d2, B3, d3, B4, d4, rfl, rfl, rfl, rfl, _⟩ := ho2.forms ((HR.out.line (x :: rr)).more (by omega))
        have hP2 := HP.out.far hf2 hl2 hsl
        clear HO
        have HO := Lib.hid ho2
        have H8' : TB Y2 g8 27 (.slice none 0 0) (.slice none 0 0) (.slice none 0 0) (.slice none 0 0) := hf2 g8 _ _ _ H8.out.lt H8.out (by decide) (by decide) (by decide) (by decide)
        clear H8
        have H8 := Lib.hid H8'
        clear H8'
        clear HP HWd
        have HP := Lib.hid hP2
        clear hP2 ho2 hf2 hl2
        refine hK.out _ _ ?_ (fun hHeld => ?_)
        · exact ⟨HP.out.ls.str_cell k l q1.out, HP.out.var.cells⟩
        have HVY2 := Lib.hid (show w.heap.size + 1 < Y2.heap.size from HP.out.var.lt)
        clear hK K
        (try simp only [Act.put, List.setIfInBounds_toArray, List.set_cons_zero, List.set_cons_succ])
        refine wpAnyH_take (i := 7) (oi := { dst := some 28, op := Op.move (Operand.tmp 35), type := 76, pos := "ref.go:306", after := #[{ on := 6, ground := Ground.data }], guard := none }) (v := ?_) rfl (by kernel_rfl) (by kernel_rfl) (by kernel_rfl) (fun _ _ _ h => h) (Or.inl ⟨by rfl, ?_⟩) (by assumption) ?_
        rotate_left
        · intro w hSw; (try dsimp only at hSw); obtain ⟨s0, s1, s2, s3, s4⟩ := hSw; go_simp; try with_reducible rfl
        (try simp only [Act.put, List.setIfInBounds_toArray, List.set_cons_zero, List.set_cons_succ])
        refine wpAnyH_take (i := 8) (oi := { dst := some 36, op := Op.extract (Operand.tmp 28) 0, type := 27, pos := "ref.go:306", after := #[{ on := 7, ground := Ground.data }], guard := none }) (v := ?_) rfl (by kernel_rfl) (by kernel_rfl) (by kernel_rfl) (fun _ _ _ h => h) (Or.inl ⟨by rfl, ?_⟩) (by assumption) ?_
        rotate_left
        · intro w hSw; (try dsimp only at hSw); obtain ⟨s0, s1, s2, s3, s4⟩ := hSw; go_simp; try with_reducible rfl
        (try simp only [Act.put, List.setIfInBounds_toArray, List.set_cons_zero, List.set_cons_succ])
        refine wpAnyH_take (i := 9) (oi := { dst := some 37, op := Op.extract (Operand.tmp 28) 1, type := 30, pos := "ref.go:306", after := #[{ on := 7, ground := Ground.data }, { on := 11, ground := Ground.gcOnly Departure.lateStores }], guard := none }) (v := ?_) rfl (by kernel_rfl) (by kernel_rfl) (by kernel_rfl) (fun _ _ _ h => h) (Or.inl ⟨by rfl, ?_⟩) (by assumption) ?_
        rotate_left
        · intro w hSw; (try dsimp only at hSw); obtain ⟨s0, s1, s2, s3, s4⟩ := hSw; go_simp; try with_reducible rfl
        (try simp only [Act.put, List.setIfInBounds_toArray, List.set_cons_zero, List.set_cons_succ])
        refine wpAnyH_ready (rs := [11]) (by kernel_rfl) (by simp) ?_
        refine AllReadyH.cons (o := { dst := none, op := Op.store 27 (Operand.tmp 8) (Operand.tmp 36), type := 0, pos := "ref.go:306", after := #[{ on := 10, ground := Ground.data }, { on := 8, ground := Ground.data }, { on := 6, ground := Ground.chain }, { on := 0, ground := Ground.phase }, { on := 1, ground := Ground.phase }, { on := 2, ground := Ground.phase }, { on := 3, ground := Ground.phase }, { on := 4, ground := Ground.phase }, { on := 5, ground := Ground.phase }, { on := 6, ground := Ground.phase }, { on := 7, ground := Ground.phase }, { on := 8, ground := Ground.phase }, { on := 9, ground := Ground.textOnly Departure.lateStores }, { on := 10, ground := Ground.phase }], guard := none }) rfl (fun K hK => ?_) AllReadyH.nil
        obtain ⟨e0, e1, e2, e3⟩ := H8.out.cells
        obtain ⟨f0, f1, f2, f3⟩ := H8.out.free
        have hzz := H8.out.lt
        go_simp
        have hP2 := HP.out.set4 H8.out hg8w (.slice B1 (MU.lineE s (x :: rr)).1.ps.length d1) (.slice B2 (MU.lineE s (x :: rr)).1.bs.length d2) (.slice B3 (MU.lineE s (x :: rr)).1.cs.length d3) (.slice B4 (MU.lineE s (x :: rr)).1.as_.length d4)
        have hO2 := HO.out.put4 H8.out (.slice B1 (MU.lineE s (x :: rr)).1.ps.length d1) (.slice B2 (MU.lineE s (x :: rr)).1.bs.length d2) (.slice B3 (MU.lineE s (x :: rr)).1.cs.length d3) (.slice B4 (MU.lineE s (x :: rr)).1.as_.length d4)
        have h82 := H8.out.put4 (.slice B1 (MU.lineE s (x :: rr)).1.ps.length d1) (.slice B2 (MU.lineE s (x :: rr)).1.bs.length d2) (.slice B3 (MU.lineE s (x :: rr)).1.cs.length d3) (.slice B4 (MU.lineE s (x :: rr)).1.as_.length d4)
        clear HP HO H8 e0 e1 e2 e3 f0 f1 f2 f3 hzz
        have HP := Lib.hid hP2
        have HO := Lib.hid hO2
        have H8 := Lib.hid h82
        clear hP2 hO2 h82
        refine hK.out _ _ ?_ (fun hHeld => ?_)
        · exact ⟨HP.out.ls.str_cell k l q1.out, HP.out.var.cells⟩
        clear hK K
        (try simp only [Act.put, List.setIfInBounds_toArray, List.set_cons_zero, List.set_cons_succ])
        refine wpAnyH_take (i := 12) (oi := { dst := some 9, op := Op.assign (Operand.tmp 37), type := 30, pos := "ref.go:306", after := #[{ on := 9, ground := Ground.data }, { on := 11, ground := Ground.chain }, { on := 0, ground := Ground.phase }, { on := 1, ground := Ground.phase }, { on := 2, ground := Ground.phase }, { on := 3, ground := Ground.phase }, { on := 4, ground := Ground.phase }, { on := 5, ground := Ground.phase }, { on := 6, ground := Ground.phase }, { on := 7, ground := Ground.phase }, { on := 8, ground := Ground.phase }, { on := 9, ground := Ground.phase }, { on := 10, ground := Ground.phase }, { on := 11, ground := Ground.phase }], guard := none }) (v := ?_) rfl (by kernel_rfl) (by kernel_rfl) (by kernel_rfl) (fun _ _ _ h => h) (Or.inl ⟨by rfl, ?_⟩) (by assumption) ?_
        rotate_left
        · intro w hSw; (try dsimp only at hSw); obtain ⟨s0, s1, s2, s3, s4⟩ := hSw; go_simp; try with_reducible rfl
        (try simp only [Act.put, List.setIfInBounds_toArray, List.set_cons_zero, List.set_cons_succ])
        refine wpAnyH_done (by kernel_rfl) ?_ _
        obtain ⟨W8, hW8⟩ : ∃ W8, W8 = ((((Y2.setCell ⟨g8, 0, none⟩ (.slice B1 (MU.lineE s (x :: rr)).1.ps.length d1)).setCell ⟨g8, 1, none⟩ (.slice B2 (MU.lineE s (x :: rr)).1.bs.length d2)).setCell ⟨g8, 2, none⟩ (.slice B3 (MU.lineE s (x :: rr)).1.cs.length d3)).setCell ⟨g8, 3, none⟩ (.slice B4 (MU.lineE s (x :: rr)).1.as_.length d4)) := ⟨_, rfl⟩
        rw [← hW8] at HP HO H8 ⊢
        clear hW8 hHeld
        obtain ⟨e0, e1, e2, e3⟩ := H8.out.cells
        obtain ⟨t0, t1, t2, t3⟩ := HP.out.var.cells
        obtain ⟨f0, f1, f2, f3⟩ := HP.out.var.free
        obtain ⟨r0, r1, r2, r3⟩ := HP.out.res.free
        obtain ⟨b0, b1, b2, b3⟩ := HP.out.res.cells
        have hzv := HP.out.var.lt
        have hzr := HP.out.res.lt
        by_cases he : (MU.lineE s (x :: rr)).2 = 0
        · have E2 := Lib.hid (HE.out.symm.trans (MU.lines_on (t := (MU.lineE s (x :: rr)).1) hle (by rw [hxr]; exact Prod.ext rfl he)))
          have RI := Lib.hid (HR.out.line (x :: rr))
          have EX := Lib.hid (show PaS w ((((W8.setCell ⟨(w.heap.size + 1), 0, none⟩ (.slice B1 (MU.lineE s (x :: rr)).1.ps.length d1)).setCell ⟨(w.heap.size + 1), 1, none⟩ (.slice B2 (MU.lineE s (x :: rr)).1.bs.length d2)).setCell ⟨(w.heap.size + 1), 2, none⟩ (.slice B3 (MU.lineE s (x :: rr)).1.cs.length d3)).setCell ⟨(w.heap.size + 1), 3, none⟩ (.slice B4 (MU.lineE s (x :: rr)).1.as_.length d4)) (.slice B1 (MU.lineE s (x :: rr)).1.ps.length d1) (.slice B2 (MU.lineE s (x :: rr)).1.bs.length d2) (.slice B3 (MU.lineE s (x :: rr)).1.cs.length d3) (.slice B4 (MU.lineE s (x :: rr)).1.as_.length d4) (.slice (some ⟨gl, 0, none⟩) LS.length cl) LS ∧ OS ((((W8.setCell ⟨(w.heap.size + 1), 0, none⟩ (.slice B1 (MU.lineE s (x :: rr)).1.ps.length d1)).setCell ⟨(w.heap.size + 1), 1, none⟩ (.slice B2 (MU.lineE s (x :: rr)).1.bs.length d2)).setCell ⟨(w.heap.size + 1), 2, none⟩ (.slice B3 (MU.lineE s (x :: rr)).1.cs.length d3)).setCell ⟨(w.heap.size + 1), 3, none⟩ (.slice B4 (MU.lineE s (x :: rr)).1.as_.length d4)) w.heap.size (MU.lineE s (x :: rr)).1 (.slice B1 (MU.lineE s (x :: rr)).1.ps.length d1) (.slice B2 (MU.lineE s (x :: rr)).1.bs.length d2) (.slice B3 (MU.lineE s (x :: rr)).1.cs.length d3) (.slice B4 (MU.lineE s (x :: rr)).1.as_.length d4) from ⟨HP.out.put HP.out.var (.slice B1 (MU.lineE s (x :: rr)).1.ps.length d1) (.slice B2 (MU.lineE s (x :: rr)).1.bs.length d2) (.slice B3 (MU.lineE s (x :: rr)).1.cs.length d3) (.slice B4 (MU.lineE s (x :: rr)).1.as_.length d4), HO.out.put4 HP.out.var (.slice B1 (MU.lineE s (x :: rr)).1.ps.length d1) (.slice B2 (MU.lineE s (x :: rr)).1.bs.length d2) (.slice B3 (MU.lineE s (x :: rr)).1.cs.length d3) (.slice B4 (MU.lineE s (x :: rr)).1.as_.length d4)⟩)
          rw [he]
          clear HE he HR HP HO H8
          go_wp2
          go_roundw
          case rel => exact ⟨k + 1, _, _, _, _, _, by omega, by go_num, Lib.hid EX.out.1, Lib.hid EX.out.2, RI, Lib.hid E2.out.symm⟩
          case measure => simp [intOf]; omega
        · have hb' : ((MU.lineE s (x :: rr)).2 != 0) = true := bne_iff_ne.2 he
          have hk1 : IntKind.i64.wrap ((k : Int) + 1) = (k : Int) + 1 := IntWalk.i64_in _ (by omega)
          have E2 := Lib.hid (HE.out.symm.trans (MU.lines_bad hle (by rw [hxr]; exact he)))
          rw [hxr] at E2
          generalize (MU.lineE s (x :: rr)).2 = kk at *
          have R := Lib.hid (fun w' (hb : Below w.heap.size w w') => show GivesP (MU.parseS t.data.toList) w (.returned (.tuple #[.agg #[.slice none 0 0, .slice none 0 0, .slice none 0 0, .slice none 0 0], .int .i64 ((k : Int) + 1), .int .i64 kk])) w' from by rw [E2.out]; exact GivesP.none hb)
          have B5 := Lib.hid (below_put4 HP.out.low (Nat.le_refl w.heap.size) (.slice none 0 0) (.slice none 0 0) (.slice none 0 0) (.slice none 0 0))
          have T5 := Lib.hid (HP.out.res.put4 (.slice none 0 0) (.slice none 0 0) (.slice none 0 0) (.slice none 0 0))
          clear HE he HR HP HO H8 E2 hle hxr
          go_wp2
          obtain ⟨W5, hW5⟩ : ∃ W5, W5 = ((((W8.setCell ⟨w.heap.size, 0, none⟩ (.slice none 0 0)).setCell ⟨w.heap.size, 1, none⟩ (.slice none 0 0)).setCell ⟨w.heap.size, 2, none⟩ (.slice none 0 0)).setCell ⟨w.heap.size, 3, none⟩ (.slice none 0 0)) := ⟨_, rfl⟩
          rw [← hW5] at T5 B5 ⊢
          clear e0 e1 e2 e3 t0 t1 t2 t3 f0 f1 f2 f3 r0 r1 r2 r3 b0 b1 b2 b3 hW5
          obtain ⟨b0, b1, b2, b3⟩ := T5.out.cells
          refine bodyPost_ret (v := .tuple #[.agg #[.slice none 0 0, .slice none 0 0, .slice none 0 0, .slice none 0 0], .int .i64 ((k : Int) + 1), .int .i64 kk]) (by simp [results, Tryz.results11, go_sem, b0, b1, b2, b3]) rfl ?_
          exact R.out _ B5.out
    · obtain rfl : k = LS.length := by omega
      have E2 := Lib.hid (show MU.linesE [] LS.length s = MU.parseS t.data.toList from by have := HE.out; rwa [List.drop_of_length_le (Nat.le_refl _)] at this)
      clear HE
      obtain ⟨t0, t1, t2, t3⟩ := HP.out.var.cells
      go_wp2_with fail
      refine (rcheck10_any _ _ _ _ _ _ _ _ _ _ _ _ s wr HSu.out).mono ?_
      rintro ev w3 ⟨rfl, hb3⟩
      replace HP := Lib.hid (HP.out.keep hb3)
      replace HO := Lib.hid (HO.out.keep hb3)
      clear t0 t1 t2 t3 hb3 HSu
      obtain ⟨t0, t1, t2, t3⟩ := HP.out.var.cells
      obtain ⟨b0, b1, b2, b3⟩ := HP.out.res.cells
      obtain ⟨f0, f1, f2, f3⟩ := HP.out.res.free
      have hz3 := HP.out.res.lt
      have hz4 := HP.out.var.lt
      by_cases hc : MU.chkS s = 0
      · have R := Lib.hid (fun w' (hb : Below w.heap.size w w') (hs : ∃ A1' c1' A2' c2' A3' c3' A4' c4', Value.slice A1 s.ps.length c1 = .slice A1' s.ps.length c1' ∧ Value.slice A2 s.bs.length c2 = .slice A2' s.bs.length c2' ∧ Value.slice A3 s.cs.length c3 = .slice A3' s.cs.length c3' ∧ Value.slice A4 s.as_.length c4 = .slice A4' s.as_.length c4' ∧ SuAt w' A1' s.ps.length c1' A2' s.bs.length c2' A3' s.cs.length c3' A4' s.as_.length c4' s) => show GivesP (MU.parseS t.data.toList) w (.returned (.tuple #[.agg #[.slice A1 s.ps.length c1, .slice A2 s.bs.length c2, .slice A3 s.cs.length c3, .slice A4 s.as_.length c4], .int .i64 0, .int .i64 0])) w' from by
          rw [← E2.out, MU.lines_end hc]
          obtain ⟨_, _, _, _, _, _, _, _, e1, e2, e3, e4, hs⟩ := hs
          cases e1; cases e2; cases e3; cases e4
          exact ⟨_, _, _, _, _, _, _, _, rfl, hs, hb⟩)
        have B5 := Lib.hid (below_put4 HP.out.low (Nat.le_refl w.heap.size) (.slice A1 s.ps.length c1) (.slice A2 s.bs.length c2) (.slice A3 s.cs.length c3) (.slice A4 s.as_.length c4))
        have T5 := Lib.hid (HP.out.res.put4 (.slice A1 s.ps.length c1) (.slice A2 s.bs.length c2) (.slice A3 s.cs.length c3) (.slice A4 s.as_.length c4))
        have O5 := Lib.hid (HO.out.put4 HP.out.res (.slice A1 s.ps.length c1) (.slice A2 s.bs.length c2) (.slice A3 s.cs.length c3) (.slice A4 s.as_.length c4))
        rw [hc]
        clear hc E2 HP HO
        go_wp2
        obtain ⟨W5, hW5⟩ : ∃ W5, W5 = ((((w3.setCell ⟨w.heap.size, 0, none⟩ (.slice A1 s.ps.length c1)).setCell ⟨w.heap.size, 1, none⟩ (.slice A2 s.bs.length c2)).setCell ⟨w.heap.size, 2, none⟩ (.slice A3 s.cs.length c3)).setCell ⟨w.heap.size, 3, none⟩ (.slice A4 s.as_.length c4)) := ⟨_, rfl⟩
        rw [← hW5] at T5 B5 O5 ⊢
        clear t0 t1 t2 t3 b0 b1 b2 b3 f0 f1 f2 f3 hW5
        obtain ⟨b0, b1, b2, b3⟩ := T5.out.cells
        refine bodyPost_ret (v := .tuple #[.agg #[.slice A1 s.ps.length c1, .slice A2 s.bs.length c2, .slice A3 s.cs.length c3, .slice A4 s.as_.length c4], .int .i64 0, .int .i64 0]) (by simp [results, Tryz.results11, go_sem, b0, b1, b2, b3]) rfl ?_
        exact R.out _ B5.out (O5.out.forms HR5)
      · have R := Lib.hid (fun w' (hb : Below w.heap.size w w') => show GivesP (MU.parseS t.data.toList) w (.returned (.tuple #[.agg #[.slice none 0 0, .slice none 0 0, .slice none 0 0, .slice none 0 0], .int .i64 0, .int .i64 (MU.chkS s)])) w' from by rw [← E2.out, MU.linesE, if_pos hc]; exact GivesP.none hb)
        have B5 := Lib.hid (below_put4 HP.out.low (Nat.le_refl w.heap.size) (.slice none 0 0) (.slice none 0 0) (.slice none 0 0) (.slice none 0 0))
        have T5 := Lib.hid (HP.out.res.put4 (.slice none 0 0) (.slice none 0 0) (.slice none 0 0) (.slice none 0 0))
        have hk' : (MU.chkS s != 0) = true := bne_iff_ne.2 hc
        clear hc E2 HP HO
        generalize MU.chkS s = kk at *
        go_wp2
        obtain ⟨W5, hW5⟩ : ∃ W5, W5 = ((((w3.setCell ⟨w.heap.size, 0, none⟩ (.slice none 0 0)).setCell ⟨w.heap.size, 1, none⟩ (.slice none 0 0)).setCell ⟨w.heap.size, 2, none⟩ (.slice none 0 0)).setCell ⟨w.heap.size, 3, none⟩ (.slice none 0 0)) := ⟨_, rfl⟩
        rw [← hW5] at T5 B5 ⊢
        clear t0 t1 t2 t3 b0 b1 b2 b3 f0 f1 f2 f3 hW5
        obtain ⟨b0, b1, b2, b3⟩ := T5.out.cells
        refine bodyPost_ret (v := .tuple #[.agg #[.slice none 0 0, .slice none 0 0, .slice none 0 0, .slice none 0 0], .int .i64 0, .int .i64 kk]) (by simp [results, Tryz.results11, go_sem, b0, b1, b2, b3]) rfl ?_
        exact R.out _ B5.out
end Go.Proofs.YtigfgeanofccgaaGreatDoor
