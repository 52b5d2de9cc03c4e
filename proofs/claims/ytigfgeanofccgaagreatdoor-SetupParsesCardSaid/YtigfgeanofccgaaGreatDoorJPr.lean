/- UPar3, UPar4, USmall, joined: no claim of its own. -/
import Derived.Test.YtigfgeanofccgaaGreatDoorUPar2
import Derived.Test.YtigfgeanofccgaaGreatDoorJSp
import Derived.Test.YtigfgeanofccgaaGreatDoorJPc
import Derived.WalkMore
import Derived.ScopeJumps
namespace Go.Proofs.YtigfgeanofccgaaGreatDoor
open Go.RowKit
open MU (Su Cp As)
/-- What i lines leave. -/
structure RowsI (s : Su) (i : Nat) : Prop where
  p : s.ps.length ≤ i
  b : s.bs.length ≤ i
  c : s.cs.length ≤ i
  a : s.as_.length ≤ i
  n : ∀ b ∈ s.bs, nameB b.name = true
theorem RowsI.more {s : Su} {i j : Nat} (h : RowsI s i) (hj : i ≤ j) : RowsI s j := ⟨by have := h.p; omega, by have := h.b; omega, by have := h.c; omega, by have := h.a; omega, h.n⟩
theorem RowsI.line {s : Su} {i : Nat} (h : RowsI s i) (ws : List (List UInt8)) : RowsI (MU.lineE s ws).1 (i + 1) := by
  have hs := h.more (Nat.le_succ i)
  obtain ⟨h1, h2, h3, h4, h5⟩ := h
  unfold MU.lineE
  split
  · split
    · exact hs
    · split
      · exact hs
      · split
        · exact hs
        · exact ⟨by simp; exact h1, by show s.bs.length ≤ _; omega, by show s.cs.length ≤ _; omega, by show s.as_.length ≤ _; omega, h5⟩
  · split
    · split
      · exact hs
      · split
        · exact hs
        · next hn =>
          split
          · exact hs
          · refine ⟨by show s.ps.length ≤ _; omega, by simp; exact h2, by show s.cs.length ≤ _; omega, by show s.as_.length ≤ _; omega, ?_⟩
            intro b hb
            rcases List.mem_append.1 hb with hb | hb
            · exact h5 b hb
            · obtain rfl := List.mem_singleton.1 hb
              simpa using hn
    · split
      · split
        · exact hs
        · split
          · exact hs
          · split
            · exact hs
            · exact ⟨by show s.ps.length ≤ _; omega, by show s.bs.length ≤ _; omega, by simp; exact h3, by show s.as_.length ≤ _; omega, h5⟩
      · split
        · split
          · exact hs
          · split
            · exact hs
            · split
              · exact hs
              · exact ⟨by show s.ps.length ≤ _; omega, by show s.bs.length ≤ _; omega, by show s.cs.length ≤ _; omega, by simp; exact h4, h5⟩
        · exact hs
theorem pline_any (gs : Nat) (s : Su) (A1 A2 A3 A4 : Option Addr) (c1 c2 c3 c4 : Nat) (A : Option Addr) (n c : Nat) (x : List UInt8) (r : List (List UInt8)) (w : World) (h : SV w gs s (.slice A1 s.ps.length c1) (.slice A2 s.bs.length c2) (.slice A3 s.cs.length c3) (.slice A4 s.as_.length c4)) (hw : Lst strE w A n c (x :: r)) (hn5 : n ≤ 5000) (hi : RowsI s 5000) :
    Calls Tryz.prog 29 #[.pointer (some ⟨gs, 0, none⟩), .slice A n c] w (PLp gs s (x :: r) w) := by
  obtain ⟨k1, k2, k3, k4, k5⟩ := hi
  by_cases h1 : x = MU.wProduct
  · by_cases hn : n = 6
    · exact pline_p gs s A1 A2 A3 A4 c1 c2 c3 c4 A n c x r w h hw hn5 h1 hn k1 k1
    · exact pline_long_p gs s A1 A2 A3 A4 c1 c2 c3 c4 A n c x r w h hw hn5 h1 hn
  by_cases h2 : x = MU.wBidder
  · by_cases hn : n = 5
    · exact pline_b gs s A1 A2 A3 A4 c1 c2 c3 c4 A n c x r w h hw hn5 h2 hn k1 k2
    · exact pline_long_b gs s A1 A2 A3 A4 c1 c2 c3 c4 A n c x r w h hw hn5 h2 hn
  by_cases h3 : x = MU.wCap
  · by_cases hn : n = 4
    · exact pline_c gs s A1 A2 A3 A4 c1 c2 c3 c4 A n c x r w h hw hn5 h3 hn k5 k2 k1 k3
    · exact pline_long_c gs s A1 A2 A3 A4 c1 c2 c3 c4 A n c x r w h hw hn5 h3 hn
  by_cases h4 : x = MU.wAside
  · by_cases hn : n = 4
    · exact pline_a gs s A1 A2 A3 A4 c1 c2 c3 c4 A n c x r w h hw hn5 h4 hn k1 k4
    · exact pline_long_a gs s A1 A2 A3 A4 c1 c2 c3 c4 A n c x r w h hw hn5 h4 hn
  exact pline_no gs s A1 A2 A3 A4 c1 c2 c3 c4 A n c x r w h hw hn5 h1 h2 h3 h4
end Go.Proofs.YtigfgeanofccgaaGreatDoor
namespace Go.Proofs.YtigfgeanofccgaaGreatDoor
open Go.RowKit
open MU (Su Cp As)
section
variable {P : Program} {a : Act} {w : World} {Q : Exit → Act → World → Prop}
theorem wp_scope_again {c rest : Code} (l : Nat) (J : Act → World → Prop) (μ : Act → World → Nat) (hf : findLabel c l = some (Code.seq .skip rest))
    (pass : ∀ a w, J a w → rest.wp P (Exit.jump l (fun a' w' => J a' w' ∧ μ a' w' < μ a w) Q) a w)
    (first : (∀ a w, J a w → rest.wp P (Exit.jump l J Q) a w) → c.wp P (Exit.jump l J Q) a w) : (Code.scope c).wp P Q a w :=
  wp_scope_jumps l J μ hf (first fun a w h => Code.wp_mono (fun e a' w' q => by cases e <;> first | exact q | exact ⟨q.1, q.2.1⟩) (pass a w h)) fun a w h => wp_seq (wp_skip (pass a w h))
theorem Exit.jump_ret (l : Nat) (J : Act → World → Prop) : Exit.jump l J Q .ret a w = Q .ret a w := rfl
theorem Exit.jump_goto (l : Nat) (J : Act → World → Prop) (l' : Nat) : Exit.jump l J Q (.goto l') a w = (l' = l ∧ J a w) := rfl
end
theorem TB.put4 {w : World} {B : Nat} {T : TypeId} {a b c d : Value} (h : TB w B T a b c d) (a' b' c' d' : Value) : TB ((((w.setCell ⟨B, 0, none⟩ a').setCell ⟨B, 1, none⟩ b').setCell ⟨B, 2, none⟩ c').setCell ⟨B, 3, none⟩ d') B T a' b' c' d' := by
  have h0 : w.heap[B]? = some (.cells #[a, b, c, d] T (0, 0)) := h
  have h1 := heap_setCell_same w B 0 _ _ a' h0
  have h2 := heap_setCell_same _ B 1 _ _ b' h1
  have h3 := heap_setCell_same _ B 2 _ _ c' h2
  have h4 := heap_setCell_same _ B 3 _ _ d' h3
  exact h4
theorem below_put4 {k : Nat} {w w' : World} (hb : Below k w w') {B : Nat} (hk : k ≤ B) (a' b' c' d' : Value) : Below k w ((((w'.setCell ⟨B, 0, none⟩ a').setCell ⟨B, 1, none⟩ b').setCell ⟨B, 2, none⟩ c').setCell ⟨B, 3, none⟩ d') :=
  Below.setCell (p := ⟨B, 3, none⟩) (Below.setCell (p := ⟨B, 2, none⟩) (Below.setCell (p := ⟨B, 1, none⟩) (Below.setCell (p := ⟨B, 0, none⟩) hb hk _) hk _) hk _) hk _
theorem away4 {w : World} {B : Nat} {N : Nat} (hk : N ≤ B) (a' b' c' d' : Value) : Below N w ((((w.setCell ⟨B, 0, none⟩ a').setCell ⟨B, 1, none⟩ b').setCell ⟨B, 2, none⟩ c').setCell ⟨B, 3, none⟩ d') := below_put4 (Below.refl _ _) hk _ _ _ _
/-- The setup variable's rows, the result's cell being written below it. -/
theorem SV.suAt4 {w : World} {B : Nat} {s : Su} {A1 A2 A3 A4 : Option Addr} {c1 c2 c3 c4 : Nat} (h : SV w (B + 1) s (.slice A1 s.ps.length c1) (.slice A2 s.bs.length c2) (.slice A3 s.cs.length c3) (.slice A4 s.as_.length c4)) {i : Nat} (hr : RowsI s i) (hi : i ≤ 5000) {T : TypeId} {a b c d : Value} (_ : TB w B T a b c d) (_hB : B < B + 1) (a' b' c' d' : Value) :
    SuAt ((((w.setCell ⟨B, 0, none⟩ a').setCell ⟨B, 1, none⟩ b').setCell ⟨B, 2, none⟩ c').setCell ⟨B, 3, none⟩ d') A1 s.ps.length c1 A2 s.bs.length c2 A3 s.cs.length c3 A4 s.as_.length c4 s := by
  have K : ∀ (w : World) (k : Nat) (u : Value), SV w (B + 1) s (.slice A1 s.ps.length c1) (.slice A2 s.bs.length c2) (.slice A3 s.cs.length c3) (.slice A4 s.as_.length c4) → SV (w.setCell ⟨B, k, none⟩ u) (B + 1) s (.slice A1 s.ps.length c1) (.slice A2 s.bs.length c2) (.slice A3 s.cs.length c3) (.slice A4 s.as_.length c4) := by
    intro w k u h
    have g := g_set w B k u
    exact ⟨(g.block (B + 1) h.box.lt (fun e => by injection e with e; omega)).trans h.box, h.p.turn g (h.p.low B (by omega)), h.b.turn g (h.b.low B (by omega)), h.c.turn g (h.c.low B (by omega)), h.a.turn g (h.a.low B (by omega))⟩
  have h5 := K _ 3 d' (K _ 2 c' (K _ 1 b' (K _ 0 a' h)))
  obtain ⟨k1, k2, k3, k4, k5⟩ := hr
  obtain ⟨B1, e1, hv1, hl1⟩ := h5.p.form (by omega)
  obtain ⟨B2, e2, hv2, hl2⟩ := h5.b.form (by omega)
  obtain ⟨B3, e3, hv3, hl3⟩ := h5.c.form (by omega)
  obtain ⟨B4, e4, hv4, hl4⟩ := h5.a.form (by omega)
  cases hv1; cases hv2; cases hv3; cases hv4
  exact ⟨hl1.prs (by omega), hl2, hl3, hl4⟩
def strLen : Value → Nat | .string s => s.size | _ => 0
/-- What Parse gives. -/
def GivesP (q : Su × Int × Int) (w : World) (ev : Ending) (w' : World) : Prop := ∃ A1 c1 A2 c2 A3 c3 A4 c4, ev = .returned (.tuple #[.agg #[.slice A1 q.1.ps.length c1, .slice A2 q.1.bs.length c2, .slice A3 q.1.cs.length c3, .slice A4 q.1.as_.length c4], .int .i64 q.2.1, .int .i64 q.2.2]) ∧ SuAt w' A1 q.1.ps.length c1 A2 q.1.bs.length c2 A3 q.1.cs.length c3 A4 q.1.as_.length c4 q.1 ∧ Below w.heap.size w w'
theorem GivesP.none {k e : Int} {w w' : World} (hb : Below w.heap.size w w') : GivesP (Su.none, k, e) w (.returned (.tuple #[.agg #[.slice none 0 0, .slice none 0 0, .slice none 0 0, .slice none 0 0], .int .i64 k, .int .i64 e])) w' :=
  ⟨_, _, _, _, _, _, _, _, rfl, ⟨(Lst.nil w').prs (by decide), Lst.nil w', Lst.nil w', Lst.nil w'⟩, hb⟩
set_option maxRecDepth 100000 in
set_option maxHeartbeats 4000000 in
theorem pparse_long (t : ByteArray) (w : World) (hl : (4000 : Int) < t.size) : Calls Tryz.prog 10 #[.string t] w (GivesP (MU.parseS t.data.toList) w) := by
  have R := Lib.hid (fun w' (hb : Below w.heap.size w w') => show GivesP (MU.parseS t.data.toList) w (.returned (.tuple #[.agg #[.slice none 0 0, .slice none 0 0, .slice none 0 0, .slice none 0 0], .int .i64 0, .int .i64 3])) w' from by
    rw [MU.parseS, if_pos (by rw [Array.length_toList]; show 4000 < t.size; omega)]; exact GivesP.none hb)
  go_enter Tryz.func10, Tryz.ntmps10
  have T0 := Lib.hid (TB.new w 27 (.slice none 0 0) (.slice none 0 0) (.slice none 0 0) (.slice none 0 0))
  have B0 := Lib.hid (below_new w (.cells #[(.slice none 0 0), (.slice none 0 0), (.slice none 0 0), (.slice none 0 0)] 27))
  go_wp2_with fail
  obtain ⟨W1, hW1⟩ : ∃ W1, W1 = w.alloc (.cells #[(.slice none 0 0), (.slice none 0 0), (.slice none 0 0), (.slice none 0 0)] 27) := ⟨_, rfl⟩
  rw [← hW1] at T0 B0 ⊢
  clear hW1
  obtain ⟨b0, b1, b2, b3⟩ := T0.out.cells
  obtain ⟨f0, f1, f2, f3⟩ := T0.out.free
  have hz := T0.out.lt
  go_step3
  go_wp2
  obtain ⟨W5, hW5⟩ : ∃ W5, W5 = ((((W1.setCell ⟨w.heap.size, 0, none⟩ (.slice none 0 0)).setCell ⟨w.heap.size, 1, none⟩ (.slice none 0 0)).setCell ⟨w.heap.size, 2, none⟩ (.slice none 0 0)).setCell ⟨w.heap.size, 3, none⟩ (.slice none 0 0)) := ⟨_, rfl⟩
  have T5 := Lib.hid (T0.out.put4 (.slice none 0 0) (.slice none 0 0) (.slice none 0 0) (.slice none 0 0))
  have B5 := Lib.hid (below_put4 B0.out (Nat.le_refl w.heap.size) (.slice none 0 0) (.slice none 0 0) (.slice none 0 0) (.slice none 0 0))
  rw [← hW5] at T5 B5 ⊢
  clear b0 b1 b2 b3 f0 f1 f2 f3 hW5
  obtain ⟨b0, b1, b2, b3⟩ := T5.out.cells
  rw [Exit.noGoto_ret]
  refine bodyPost_ret (v := .tuple #[.agg #[.slice none 0 0, .slice none 0 0, .slice none 0 0, .slice none 0 0], .int .i64 0, .int .i64 3]) (by simp [results, Tryz.results10, go_sem, b0, b1, b2, b3]) rfl ?_
  exact R.out _ B5.out
set_option maxRecDepth 100000 in
set_option maxHeartbeats 16000000 in
theorem pparse_any (t : ByteArray) (w : World) (ht : t.size < 4294967281) : Calls Tryz.prog 10 #[.string t] w (GivesP (MU.parseS t.data.toList) w) := by
  by_cases hl : (4000 : Int) < t.size
  · exact pparse_long t w hl
  have E0 := Lib.hid (show MU.linesE (MU.splitB 10 t.data.toList) 0 Su.none = MU.parseS t.data.toList from by
    rw [MU.parseS, if_neg (by rw [Array.length_toList]; show ¬ 4000 < t.size; omega)])
  have T0 := Lib.hid (TB.new w 27 (.slice none 0 0) (.slice none 0 0) (.slice none 0 0) (.slice none 0 0))
  have B0 := Lib.hid (below_new w (.cells #[(.slice none 0 0), (.slice none 0 0), (.slice none 0 0), (.slice none 0 0)] 27))
  go_enter Tryz.func10, Tryz.ntmps10
  go_wp2_with fail
  refine wp_scope_again 0 (fun a' w' => ∃ (r : ByteArray) (i : Nat) (s : Su) (v1 v2 v3 v4 : Value) (u7 u8 u9 u10 u11 u12 u13 u14 u15 u16 u17 u18 u19 u20 u21 u22 u23 u24 u25 u26 u27 u28 u29 u30 u31 u32 u33 u34 u35 u36 u37 u38 u39 u40 u41 u42 : Value), a' = { tmps := #[.string r, undef, .pointer (some ⟨w.heap.size, 0, none⟩), .int .i64 0, .int .i64 0, .pointer (some ⟨w.heap.size + 1, 0, none⟩), .int .i64 i, u7, u8, u9, u10, u11, u12, u13, u14, u15, u16, u17, u18, u19, u20, u21, u22, u23, u24, u25, u26, u27, u28, u29, u30, u31, u32, u33, u34, u35, u36, u37, u38, u39, u40, u41, u42], defers := [] } ∧ Hid (TB w' w.heap.size 27 (.slice none 0 0) (.slice none 0 0) (.slice none 0 0) (.slice none 0 0)) ∧ Hid (SV w' (w.heap.size + 1) s v1 v2 v3 v4) ∧ Hid (RowsI s i) ∧ i + r.size ≤ 4000 ∧ Hid (MU.linesE (MU.splitB 10 r.data.toList) i s = MU.parseS t.data.toList) ∧ Hid (Below w.heap.size w w')) (fun a' _ => strLen (a'.tmps.getD 0 undef)) rfl ?_ ?_
  · clear T0 B0 E0 hl
    rintro a' w' ⟨r, i, s, v1, v2, v3, v4, u7, u8, u9, u10, u11, u12, u13, u14, u15, u16, u17, u18, u19, u20, u21, u22, u23, u24, u25, u26, u27, u28, u29, u30, u31, u32, u33, u34, u35, u36, u37, u38, u39, u40, u41, u42, rfl, HT, HSv, HR, hi, HE, HB⟩
    generalize hQ : bodyPost Tryz.prog _ _ = QQ
    have hr : r.size < 4294967281 := by omega
    go_wp2_with fail
    refine (cut_any r 10 w' hr).mono ?_
    rintro ev w1 ⟨b, r', m, rfl, hb1, ⟨hp, hless, hpart⟩⟩
    have HT1 := Lib.hid (HT.out.keep hb1)
    have HSv1 := Lib.hid (HSv.out.keep hb1)
    have HB1 := Lib.hid (HB.out.trans (hb1.mono (by have := HT.out.lt; omega)))
    clear HT HSv HB hb1
    have HR2' := Lib.hid (HR.out.more (Nat.le_succ i))
    have hi4 : i ≤ 4000 := by omega
    have hbz : b.size ≤ 4000 := by omega
    by_cases hbe : b.data.toList = []
    · have q1 : (b.toList == []) = true := by rw [ByteArray.toList_eq, hbe]; rfl
      have HE2 := Lib.hid (show MU.linesE (if m = true then MU.splitB 10 r'.data.toList else []) (i + 1) s = MU.parseS t.data.toList from by rw [← HE.out, hp, hbe, MU.lines_empty])
      clear HE hp hbe
      cases m with
      | true =>
        have hlt := hless rfl
        have HE3 := Lib.hid (show MU.linesE (MU.splitB 10 r'.data.toList) (i + 1) s = MU.parseS t.data.toList from by have := HE2.out; rwa [if_pos rfl] at this)
        clear HE2
        go_wp2
        go_step3
        refine ⟨rfl, ⟨r', i + 1, s, v1, v2, v3, v4, _, _, _, _, _, _, _, _, _, _, _, _, _, _, _, _, _, _, _, _, _, _, _, _, _, _, _, _, _, _, _, _, _, _, _, _, rfl, HT1, HSv1, HR2', by omega, HE3, HB1⟩, hlt⟩
      | false =>
        have HT2 := HT1
        have HSv2 := HSv1
        have HR2 := HR2'
        have HB2 := HB1
        clear HT1 HSv1 HR2' HB1 HR
        obtain ⟨w2, hw2⟩ : ∃ w2, w2 = w1 := ⟨_, rfl⟩
        subst hw2
        obtain ⟨s2, hs2⟩ : ∃ s2, s2 = s := ⟨_, rfl⟩
        subst hs2
        have EQ := Lib.hid (show MU.linesE [] (i + 1) s2 = MU.parseS t.data.toList from by have := HE2.out; rwa [if_neg (by decide)] at this)
        obtain ⟨A1, c1, hv1, hl1⟩ := HSv2.out.p.form (by have := HR2.out.p; omega)
        obtain ⟨A2, c2, hv2, hl2⟩ := HSv2.out.b.form (by have := HR2.out.b; omega)
        obtain ⟨A3, c3, hv3, hl3⟩ := HSv2.out.c.form (by have := HR2.out.c; omega)
        obtain ⟨A4, c4, hv4, hl4⟩ := HSv2.out.a.form (by have := HR2.out.a; omega)
        subst hv1 hv2 hv3 hv4
        have HSu := Lib.hid (show SuAt w2 A1 s2.ps.length c1 A2 s2.bs.length c2 A3 s2.cs.length c3 A4 s2.as_.length c4 s2 from ⟨hl1.prs (by have := HR2.out.p; omega), hl2, hl3, hl4⟩)
        obtain ⟨t0, t1, t2, t3⟩ := HSv2.out.box.cells
        have hzz := HSv2.out.box.lt
        clear hl1 hl2 hl3 hl4
        go_wp2_with fail
        refine (pcheck_any _ _ _ _ _ _ _ _ _ _ _ _ s2 w2 HSu.out).mono ?_
        rintro ev w3 ⟨rfl, hb3⟩
        have HT3 := Lib.hid (HT2.out.keep hb3)
        have HSv3 := Lib.hid (HSv2.out.keep hb3)
        have HSu3 := Lib.hid (HSu.out.keep hb3)
        have HB3 := Lib.hid (HB2.out.trans (hb3.mono (by have := HT2.out.lt; omega)))
        clear t0 t1 t2 t3 HSv2 HT2 HSu HB2 hb3
        obtain ⟨b0, b1, b2, b3⟩ := HT3.out.cells
        obtain ⟨f0, f1, f2, f3⟩ := HT3.out.free
        obtain ⟨t0, t1, t2, t3⟩ := HSv3.out.box.cells
        have hz3 := HT3.out.lt
        by_cases hk : MU.chkS s2 = 0
        · have R := Lib.hid (fun w' (hb : Below w.heap.size w w') (hs : SuAt w' A1 s2.ps.length c1 A2 s2.bs.length c2 A3 s2.cs.length c3 A4 s2.as_.length c4 s2) => show GivesP (MU.parseS t.data.toList) w (.returned (.tuple #[.agg #[.slice A1 s2.ps.length c1, .slice A2 s2.bs.length c2, .slice A3 s2.cs.length c3, .slice A4 s2.as_.length c4], .int .i64 0, .int .i64 0])) w' from by rw [← EQ.out, MU.lines_end hk]; exact ⟨_, _, _, _, _, _, _, _, rfl, hs, hb⟩)
          rw [hk]
          clear hk EQ
          go_wp2
          obtain ⟨W5, hW5⟩ : ∃ W5, W5 = ((((w3.setCell ⟨w.heap.size, 0, none⟩ (.slice A1 s2.ps.length c1)).setCell ⟨w.heap.size, 1, none⟩ (.slice A2 s2.bs.length c2)).setCell ⟨w.heap.size, 2, none⟩ (.slice A3 s2.cs.length c3)).setCell ⟨w.heap.size, 3, none⟩ (.slice A4 s2.as_.length c4)) := ⟨_, rfl⟩
          have T5 := Lib.hid (HT3.out.put4 (.slice A1 s2.ps.length c1) (.slice A2 s2.bs.length c2) (.slice A3 s2.cs.length c3) (.slice A4 s2.as_.length c4))
          have B5 := Lib.hid (below_put4 HB3.out (Nat.le_refl w.heap.size) (.slice A1 s2.ps.length c1) (.slice A2 s2.bs.length c2) (.slice A3 s2.cs.length c3) (.slice A4 s2.as_.length c4))
          have S5 := Lib.hid (HSv3.out.suAt4 HR2.out (by omega) HT3.out (Nat.lt_succ_self _) (.slice A1 s2.ps.length c1) (.slice A2 s2.bs.length c2) (.slice A3 s2.cs.length c3) (.slice A4 s2.as_.length c4))
          rw [← hW5] at T5 B5 S5 ⊢
          clear b0 b1 b2 b3 f0 f1 f2 f3 hW5
          obtain ⟨b0, b1, b2, b3⟩ := T5.out.cells
          refine (show QQ Exit.ret _ _ from ?_)
          subst hQ
          refine bodyPost_ret (v := .tuple #[.agg #[.slice A1 s2.ps.length c1, .slice A2 s2.bs.length c2, .slice A3 s2.cs.length c3, .slice A4 s2.as_.length c4], .int .i64 0, .int .i64 0]) (by simp [results, Tryz.results10, go_sem, b0, b1, b2, b3]) rfl ?_
          exact R.out _ B5.out S5.out
        · have R := Lib.hid (fun w' (hb : Below w.heap.size w w') => show GivesP (MU.parseS t.data.toList) w (.returned (.tuple #[.agg #[.slice none 0 0, .slice none 0 0, .slice none 0 0, .slice none 0 0], .int .i64 0, .int .i64 (MU.chkS s2)])) w' from by rw [← EQ.out, MU.linesE, if_pos hk]; exact GivesP.none hb)
          have hk' : (MU.chkS s2 != 0) = true := bne_iff_ne.2 hk
          generalize MU.chkS s2 = kk at *
          clear hk EQ
          go_wp2
          obtain ⟨W5, hW5⟩ : ∃ W5, W5 = ((((w3.setCell ⟨w.heap.size, 0, none⟩ (.slice none 0 0)).setCell ⟨w.heap.size, 1, none⟩ (.slice none 0 0)).setCell ⟨w.heap.size, 2, none⟩ (.slice none 0 0)).setCell ⟨w.heap.size, 3, none⟩ (.slice none 0 0)) := ⟨_, rfl⟩
          have T5 := Lib.hid (HT3.out.put4 (.slice none 0 0) (.slice none 0 0) (.slice none 0 0) (.slice none 0 0))
          have B5 := Lib.hid (below_put4 HB3.out (Nat.le_refl w.heap.size) (.slice none 0 0) (.slice none 0 0) (.slice none 0 0) (.slice none 0 0))
          rw [← hW5] at T5 B5 ⊢
          clear b0 b1 b2 b3 f0 f1 f2 f3 hW5
          obtain ⟨b0, b1, b2, b3⟩ := T5.out.cells
          refine (show QQ Exit.ret _ _ from ?_)
          subst hQ
          refine bodyPost_ret (v := .tuple #[.agg #[.slice none 0 0, .slice none 0 0, .slice none 0 0, .slice none 0 0], .int .i64 0, .int .i64 kk]) (by simp [results, Tryz.results10, go_sem, b0, b1, b2, b3]) rfl ?_
          exact R.out _ B5.out
    · have q1 : (b.toList == []) = false := by rw [ByteArray.toList_eq]; exact beq_eq_false_iff_ne.2 hbe
      have SPL := Lib.hid (split_any b 32 w1 (by omega))
      obtain ⟨x, rr, hxr⟩ : ∃ x rr, MU.splitB 32 b.data.toList = x :: rr := by
        cases hh : MU.splitB 32 b.data.toList with
        | nil => exact absurd hh (MU.split_ne _ _)
        | cons x rr => exact ⟨x, rr, rfl⟩
      have hln : (x :: rr).length ≤ 5000 := by
        have h3 := split_len 32 b.data.toList
        have h4 : b.data.toList.length = b.size := Array.length_toList
        rw [hxr] at h3
        omega
      go_wp2_with fail
      refine SPL.out.mono ?_
      rintro ev w4 ⟨n, rfl, hL, hb4, hsz4⟩
      rw [hxr] at hL
      have HSv4 := Lib.hid (HSv1.out.keep hb4)
      have HT4 := Lib.hid (HT1.out.keep hb4)
      have HB4 := Lib.hid (HB1.out.trans (hb4.mono (by have := HT1.out.lt; omega)))
      obtain ⟨A1, c1, hv1, _⟩ := HSv4.out.p.form (by have := HR.out.p; omega)
      obtain ⟨A2, c2, hv2, _⟩ := HSv4.out.b.form (by have := HR.out.b; omega)
      obtain ⟨A3, c3, hv3, _⟩ := HSv4.out.c.form (by have := HR.out.c; omega)
      obtain ⟨A4, c4, hv4, _⟩ := HSv4.out.a.form (by have := HR.out.a; omega)
      subst hv1 hv2 hv3 hv4
      have PL := Lib.hid (pline_any (w.heap.size + 1) s A1 A2 A3 A4 c1 c2 c3 c4 _ n n x rr w4 HSv4.out hL (by have := hL.len; omega) (HR.out.more (by omega)))
      clear HSv1 HT1 HB1 hb4 hsz4 hL SPL HSv4
      go_wp2_with fail
      refine PL.out.mono ?_
      rintro ev w5 ⟨rfl, hb5, hok⟩
      have HT5 := Lib.hid (show TB w5 w.heap.size 27 (.slice none 0 0) (.slice none 0 0) (.slice none 0 0) (.slice none 0 0) from (hb5.block w.heap.size (Nat.lt_succ_self _)).trans HT4.out)
      have HB5 := Lib.hid (HB4.out.trans (hb5.mono (Nat.le_succ _)))
      have HRL := Lib.hid (HR.out.line (x :: rr))
      clear PL hb5 HT4 HB4
      by_cases he : (MU.lineE s (x :: rr)).2 = 0
      · obtain ⟨y1, y2, y3, y4, hsv⟩ := hok he
        have HE2 := Lib.hid (show MU.linesE (if m = true then MU.splitB 10 r'.data.toList else []) (i + 1) (MU.lineE s (x :: rr)).1 = MU.parseS t.data.toList from by
          rw [← HE.out, hp, MU.lines_on (t := (MU.lineE s (x :: rr)).1) hbe (by rw [hxr]; exact Prod.ext rfl he)])
        have HS5 := Lib.hid hsv
        rw [he]
        clear hsv hok he HE hp hbe HR HR2' hxr hln
        generalize (MU.lineE s (x :: rr)).1 = s2 at *
        cases m with
        | true =>
          have hlt := hless rfl
          have HE3 := Lib.hid (show MU.linesE (MU.splitB 10 r'.data.toList) (i + 1) s2 = MU.parseS t.data.toList from by have := HE2.out; rwa [if_pos rfl] at this)
          clear HE2
          go_wp2
          go_step3
          refine ⟨rfl, ⟨r', i + 1, s2, y1, y2, y3, y4, _, _, _, _, _, _, _, _, _, _, _, _, _, _, _, _, _, _, _, _, _, _, _, _, _, _, _, _, _, _, _, _, _, _, _, _, rfl, HT5, HS5, HRL, by omega, HE3, HB5⟩, hlt⟩
        | false =>
          have HT2 := HT5
          have HSv2 := HS5
          have HR2 := HRL
          have HB2 := HB5
          clear HT5 HS5 HRL HB5
          obtain ⟨w2, hw2⟩ : ∃ w2, w2 = w5 := ⟨_, rfl⟩
          subst hw2
          have EQ := Lib.hid (show MU.linesE [] (i + 1) s2 = MU.parseS t.data.toList from by have := HE2.out; rwa [if_neg (by decide)] at this)
          obtain ⟨A1, c1, hv1, hl1⟩ := HSv2.out.p.form (by have := HR2.out.p; omega)
          obtain ⟨A2, c2, hv2, hl2⟩ := HSv2.out.b.form (by have := HR2.out.b; omega)
          obtain ⟨A3, c3, hv3, hl3⟩ := HSv2.out.c.form (by have := HR2.out.c; omega)
          obtain ⟨A4, c4, hv4, hl4⟩ := HSv2.out.a.form (by have := HR2.out.a; omega)
          subst hv1 hv2 hv3 hv4
          have HSu := Lib.hid (show SuAt w2 A1 s2.ps.length c1 A2 s2.bs.length c2 A3 s2.cs.length c3 A4 s2.as_.length c4 s2 from ⟨hl1.prs (by have := HR2.out.p; omega), hl2, hl3, hl4⟩)
          obtain ⟨t0, t1, t2, t3⟩ := HSv2.out.box.cells
          have hzz := HSv2.out.box.lt
          clear hl1 hl2 hl3 hl4
          go_wp2_with fail
          refine (pcheck_any _ _ _ _ _ _ _ _ _ _ _ _ s2 w2 HSu.out).mono ?_
          rintro ev w3 ⟨rfl, hb3⟩
          have HT3 := Lib.hid (HT2.out.keep hb3)
          have HSv3 := Lib.hid (HSv2.out.keep hb3)
          have HSu3 := Lib.hid (HSu.out.keep hb3)
          have HB3 := Lib.hid (HB2.out.trans (hb3.mono (by have := HT2.out.lt; omega)))
          clear t0 t1 t2 t3 HSv2 HT2 HSu HB2 hb3
          obtain ⟨b0, b1, b2, b3⟩ := HT3.out.cells
          obtain ⟨f0, f1, f2, f3⟩ := HT3.out.free
          obtain ⟨t0, t1, t2, t3⟩ := HSv3.out.box.cells
          have hz3 := HT3.out.lt
          by_cases hk : MU.chkS s2 = 0
          · have R := Lib.hid (fun w' (hb : Below w.heap.size w w') (hs : SuAt w' A1 s2.ps.length c1 A2 s2.bs.length c2 A3 s2.cs.length c3 A4 s2.as_.length c4 s2) => show GivesP (MU.parseS t.data.toList) w (.returned (.tuple #[.agg #[.slice A1 s2.ps.length c1, .slice A2 s2.bs.length c2, .slice A3 s2.cs.length c3, .slice A4 s2.as_.length c4], .int .i64 0, .int .i64 0])) w' from by rw [← EQ.out, MU.lines_end hk]; exact ⟨_, _, _, _, _, _, _, _, rfl, hs, hb⟩)
            rw [hk]
            clear hk EQ
            go_wp2
            obtain ⟨W5, hW5⟩ : ∃ W5, W5 = ((((w3.setCell ⟨w.heap.size, 0, none⟩ (.slice A1 s2.ps.length c1)).setCell ⟨w.heap.size, 1, none⟩ (.slice A2 s2.bs.length c2)).setCell ⟨w.heap.size, 2, none⟩ (.slice A3 s2.cs.length c3)).setCell ⟨w.heap.size, 3, none⟩ (.slice A4 s2.as_.length c4)) := ⟨_, rfl⟩
            have T5 := Lib.hid (HT3.out.put4 (.slice A1 s2.ps.length c1) (.slice A2 s2.bs.length c2) (.slice A3 s2.cs.length c3) (.slice A4 s2.as_.length c4))
            have B5 := Lib.hid (below_put4 HB3.out (Nat.le_refl w.heap.size) (.slice A1 s2.ps.length c1) (.slice A2 s2.bs.length c2) (.slice A3 s2.cs.length c3) (.slice A4 s2.as_.length c4))
            have S5 := Lib.hid (HSv3.out.suAt4 HR2.out (by omega) HT3.out (Nat.lt_succ_self _) (.slice A1 s2.ps.length c1) (.slice A2 s2.bs.length c2) (.slice A3 s2.cs.length c3) (.slice A4 s2.as_.length c4))
            rw [← hW5] at T5 B5 S5 ⊢
            clear b0 b1 b2 b3 f0 f1 f2 f3 hW5
            obtain ⟨b0, b1, b2, b3⟩ := T5.out.cells
            refine (show QQ Exit.ret _ _ from ?_)
            subst hQ
            refine bodyPost_ret (v := .tuple #[.agg #[.slice A1 s2.ps.length c1, .slice A2 s2.bs.length c2, .slice A3 s2.cs.length c3, .slice A4 s2.as_.length c4], .int .i64 0, .int .i64 0]) (by simp [results, Tryz.results10, go_sem, b0, b1, b2, b3]) rfl ?_
            exact R.out _ B5.out S5.out
          · have R := Lib.hid (fun w' (hb : Below w.heap.size w w') => show GivesP (MU.parseS t.data.toList) w (.returned (.tuple #[.agg #[.slice none 0 0, .slice none 0 0, .slice none 0 0, .slice none 0 0], .int .i64 0, .int .i64 (MU.chkS s2)])) w' from by rw [← EQ.out, MU.linesE, if_pos hk]; exact GivesP.none hb)
            have hk' : (MU.chkS s2 != 0) = true := bne_iff_ne.2 hk
            generalize MU.chkS s2 = kk at *
            clear hk EQ
            go_wp2
            obtain ⟨W5, hW5⟩ : ∃ W5, W5 = ((((w3.setCell ⟨w.heap.size, 0, none⟩ (.slice none 0 0)).setCell ⟨w.heap.size, 1, none⟩ (.slice none 0 0)).setCell ⟨w.heap.size, 2, none⟩ (.slice none 0 0)).setCell ⟨w.heap.size, 3, none⟩ (.slice none 0 0)) := ⟨_, rfl⟩
            have T5 := Lib.hid (HT3.out.put4 (.slice none 0 0) (.slice none 0 0) (.slice none 0 0) (.slice none 0 0))
            have B5 := Lib.hid (below_put4 HB3.out (Nat.le_refl w.heap.size) (.slice none 0 0) (.slice none 0 0) (.slice none 0 0) (.slice none 0 0))
            rw [← hW5] at T5 B5 ⊢
            clear b0 b1 b2 b3 f0 f1 f2 f3 hW5
            obtain ⟨b0, b1, b2, b3⟩ := T5.out.cells
            refine (show QQ Exit.ret _ _ from ?_)
            subst hQ
            refine bodyPost_ret (v := .tuple #[.agg #[.slice none 0 0, .slice none 0 0, .slice none 0 0, .slice none 0 0], .int .i64 0, .int .i64 kk]) (by simp [results, Tryz.results10, go_sem, b0, b1, b2, b3]) rfl ?_
            exact R.out _ B5.out
      · have R := Lib.hid (fun w' (hb : Below w.heap.size w w') => show GivesP (MU.parseS t.data.toList) w (.returned (.tuple #[.agg #[.slice none 0 0, .slice none 0 0, .slice none 0 0, .slice none 0 0], .int .i64 ((i : Int) + 1), .int .i64 (MU.lineE s (x :: rr)).2])) w' from by
          rw [← HE.out, hp, MU.lines_bad hbe (by rw [hxr]; exact he), hxr]; exact GivesP.none hb)
        have hk' : ((MU.lineE s (x :: rr)).2 != 0) = true := bne_iff_ne.2 he
        clear he hok HRL HR HR2' HE hp hbe hxr hln
        generalize (MU.lineE s (x :: rr)).2 = kk at *
        obtain ⟨b0, b1, b2, b3⟩ := HT5.out.cells
        obtain ⟨f0, f1, f2, f3⟩ := HT5.out.free
        have hz5 := HT5.out.lt
        go_wp2
        obtain ⟨W5, hW5⟩ : ∃ W5, W5 = ((((w5.setCell ⟨w.heap.size, 0, none⟩ (.slice none 0 0)).setCell ⟨w.heap.size, 1, none⟩ (.slice none 0 0)).setCell ⟨w.heap.size, 2, none⟩ (.slice none 0 0)).setCell ⟨w.heap.size, 3, none⟩ (.slice none 0 0)) := ⟨_, rfl⟩
        have T5 := Lib.hid (HT5.out.put4 (.slice none 0 0) (.slice none 0 0) (.slice none 0 0) (.slice none 0 0))
        have B5 := Lib.hid (below_put4 HB5.out (Nat.le_refl w.heap.size) (.slice none 0 0) (.slice none 0 0) (.slice none 0 0) (.slice none 0 0))
        rw [← hW5] at T5 B5 ⊢
        clear b0 b1 b2 b3 f0 f1 f2 f3 hW5
        obtain ⟨b0, b1, b2, b3⟩ := T5.out.cells
        refine (show QQ Exit.ret _ _ from ?_)
        subst hQ
        refine bodyPost_ret (v := .tuple #[.agg #[.slice none 0 0, .slice none 0 0, .slice none 0 0, .slice none 0 0], .int .i64 ((i : Int) + 1), .int .i64 kk]) (by simp [results, Tryz.results10, go_sem, b0, b1, b2, b3]) rfl ?_
        exact R.out _ B5.out
  · intro hp
    have hz : (w.alloc (.cells #[(.slice none 0 0), (.slice none 0 0), (.slice none 0 0), (.slice none 0 0)] 27)).heap.size = w.heap.size + 1 := by simp
    have T1 := Lib.hid (T0.out.keep (below_new (w.alloc (.cells #[(.slice none 0 0), (.slice none 0 0), (.slice none 0 0), (.slice none 0 0)] 27)) (.cells #[(.slice none 0 0), (.slice none 0 0), (.slice none 0 0), (.slice none 0 0)] 27)))
    have B1 := Lib.hid (B0.out.trans ((below_new (w.alloc (.cells #[(.slice none 0 0), (.slice none 0 0), (.slice none 0 0), (.slice none 0 0)] 27)) (.cells #[(.slice none 0 0), (.slice none 0 0), (.slice none 0 0), (.slice none 0 0)] 27)).mono (by omega)))
    have S1 : Hid (SV ((w.alloc (.cells #[(.slice none 0 0), (.slice none 0 0), (.slice none 0 0), (.slice none 0 0)] 27)).alloc (.cells #[(.slice none 0 0), (.slice none 0 0), (.slice none 0 0), (.slice none 0 0)] 27)) (w.heap.size + 1) Su.none (.slice none 0 0) (.slice none 0 0) (.slice none 0 0) (.slice none 0 0)) :=
      Lib.hid ⟨by have := TB.new (w.alloc (.cells #[(.slice none 0 0), (.slice none 0 0), (.slice none 0 0), (.slice none 0 0)] 27)) 27 (.slice none 0 0) (.slice none 0 0) (.slice none 0 0) (.slice none 0 0); rwa [hz] at this, OwnL.nil _ _ _, OwnL.nil _ _ _, OwnL.nil _ _ _, OwnL.nil _ _ _⟩
    have hR : RowsI Su.none 0 := ⟨Nat.le_refl _, Nat.le_refl _, Nat.le_refl _, Nat.le_refl _, fun b h => by cases h⟩
    have hts : 0 + t.size ≤ 4000 := by omega
    go_wp2
    go_step3
    first | (rename_i hK; exact hK _ _ (hp _ _ ⟨t, 0, Su.none, _, _, _, _, _, _, _, _, _, _, _, _, _, _, _, _, _, _, _, _, _, _, _, _, _, _, _, _, _, _, _, _, _, _, _, _, _, _, _, _, rfl, T1, S1, Lib.hid hR, hts, E0, B1⟩)) | (rename_i hK _; exact hK _ _ (hp _ _ ⟨t, 0, Su.none, _, _, _, _, _, _, _, _, _, _, _, _, _, _, _, _, _, _, _, _, _, _, _, _, _, _, _, _, _, _, _, _, _, _, _, _, _, _, _, _, rfl, T1, S1, Lib.hid hR, hts, E0, B1⟩)) | (rename_i hK _ _; exact hK _ _ (hp _ _ ⟨t, 0, Su.none, _, _, _, _, _, _, _, _, _, _, _, _, _, _, _, _, _, _, _, _, _, _, _, _, _, _, _, _, _, _, _, _, _, _, _, _, _, _, _, _, rfl, T1, S1, Lib.hid hR, hts, E0, B1⟩)) | (rename_i hK _ _ _; exact hK _ _ (hp _ _ ⟨t, 0, Su.none, _, _, _, _, _, _, _, _, _, _, _, _, _, _, _, _, _, _, _, _, _, _, _, _, _, _, _, _, _, _, _, _, _, _, _, _, _, _, _, _, rfl, T1, S1, Lib.hid hR, hts, E0, B1⟩))
end Go.Proofs.YtigfgeanofccgaaGreatDoor
namespace Go.Proofs.YtigfgeanofccgaaGreatDoor
open Go.RowKit
open MU (Su Cp As)
def smallU : Su := ⟨[⟨[97], 2, 3, 1, 0⟩], [⟨[120], 0, 0, 2⟩, ⟨[121], 1, 0, 2⟩], [], [⟨0, 1, 1⟩]⟩
/-- What small gives. -/
def GivesS (w : World) (e : Ending) (w' : World) : Prop := ∃ A1 A2 A4, e = .returned (.agg #[.slice A1 1 1, .slice A2 2 2, .slice none 0 0, .slice A4 1 1]) ∧ SuAt w' A1 1 1 A2 2 2 none 0 0 A4 1 1 smallU ∧ Below w.heap.size w w'
theorem put4_far {w : World} {B k : Nat} (hk : k ≠ B) (a' b' c' d' : Value) {o : Obj} (h : w.heap[k]? = some o) : ((((w.setCell ⟨B, 0, none⟩ a').setCell ⟨B, 1, none⟩ b').setCell ⟨B, 2, none⟩ c').setCell ⟨B, 3, none⟩ d').heap[k]? = some o := by
  rw [Below.heap_setCell _ ⟨B, 3, none⟩ d' k hk, Below.heap_setCell _ ⟨B, 2, none⟩ c' k hk, Below.heap_setCell _ ⟨B, 1, none⟩ b' k hk, Below.heap_setCell _ ⟨B, 0, none⟩ a' k hk]
  exact h
set_option maxRecDepth 100000 in
theorem small_any (w : World) : Calls Tryz.prog 14 #[] w (GivesS w) := by
  go_enter Tryz.func14, Tryz.ntmps14
  go_wp2
  have s0 : (w.alloc (.cells #[.slice (some ⟨w.heap.size + 1, 0, none⟩) 1 1, .slice (some ⟨w.heap.size + 1 + 1, 0, none⟩) 2 2, .slice none 0 0, .slice (some ⟨w.heap.size + 1 + 1 + 1, 0, none⟩) 1 1] 27)).heap.size = w.heap.size + 1 := by simp
  have s1 : ((w.alloc (.cells #[.slice (some ⟨w.heap.size + 1, 0, none⟩) 1 1, .slice (some ⟨w.heap.size + 1 + 1, 0, none⟩) 2 2, .slice none 0 0, .slice (some ⟨w.heap.size + 1 + 1 + 1, 0, none⟩) 1 1] 27)).alloc (.cells #[.string ⟨#[97]⟩, .int .i64 2, .int .i64 3, .int .i64 1, .int .i64 0] 60)).heap.size = w.heap.size + 1 + 1 := by simp
  have s2 : (((w.alloc (.cells #[.slice (some ⟨w.heap.size + 1, 0, none⟩) 1 1, .slice (some ⟨w.heap.size + 1 + 1, 0, none⟩) 2 2, .slice none 0 0, .slice (some ⟨w.heap.size + 1 + 1 + 1, 0, none⟩) 1 1] 27)).alloc (.cells #[.string ⟨#[97]⟩, .int .i64 2, .int .i64 3, .int .i64 1, .int .i64 0] 60)).alloc (.cells #[.string ⟨#[120]⟩, .int .i64 0, .int .i64 0, .int .i64 2, .string ⟨#[121]⟩, .int .i64 1, .int .i64 0, .int .i64 2] 64)).heap.size = w.heap.size + 1 + 1 + 1 := by simp
  have e1 : ((w.alloc (.cells #[.slice (some ⟨w.heap.size + 1, 0, none⟩) 1 1, .slice (some ⟨w.heap.size + 1 + 1, 0, none⟩) 2 2, .slice none 0 0, .slice (some ⟨w.heap.size + 1 + 1 + 1, 0, none⟩) 1 1] 27)).alloc (.cells #[.string ⟨#[97]⟩, .int .i64 2, .int .i64 3, .int .i64 1, .int .i64 0] 60)).heap[w.heap.size + 1]? = some (.cells #[.string ⟨#[97]⟩, .int .i64 2, .int .i64 3, .int .i64 1, .int .i64 0] 60) := by have := heap_new (w.alloc (.cells #[.slice (some ⟨w.heap.size + 1, 0, none⟩) 1 1, .slice (some ⟨w.heap.size + 1 + 1, 0, none⟩) 2 2, .slice none 0 0, .slice (some ⟨w.heap.size + 1 + 1 + 1, 0, none⟩) 1 1] 27)) (.cells #[.string ⟨#[97]⟩, .int .i64 2, .int .i64 3, .int .i64 1, .int .i64 0] 60); rwa [s0] at this
  have e2 : (((w.alloc (.cells #[.slice (some ⟨w.heap.size + 1, 0, none⟩) 1 1, .slice (some ⟨w.heap.size + 1 + 1, 0, none⟩) 2 2, .slice none 0 0, .slice (some ⟨w.heap.size + 1 + 1 + 1, 0, none⟩) 1 1] 27)).alloc (.cells #[.string ⟨#[97]⟩, .int .i64 2, .int .i64 3, .int .i64 1, .int .i64 0] 60)).alloc (.cells #[.string ⟨#[120]⟩, .int .i64 0, .int .i64 0, .int .i64 2, .string ⟨#[121]⟩, .int .i64 1, .int .i64 0, .int .i64 2] 64)).heap[w.heap.size + 1 + 1]? = some (.cells #[.string ⟨#[120]⟩, .int .i64 0, .int .i64 0, .int .i64 2, .string ⟨#[121]⟩, .int .i64 1, .int .i64 0, .int .i64 2] 64) := by have := heap_new ((w.alloc (.cells #[.slice (some ⟨w.heap.size + 1, 0, none⟩) 1 1, .slice (some ⟨w.heap.size + 1 + 1, 0, none⟩) 2 2, .slice none 0 0, .slice (some ⟨w.heap.size + 1 + 1 + 1, 0, none⟩) 1 1] 27)).alloc (.cells #[.string ⟨#[97]⟩, .int .i64 2, .int .i64 3, .int .i64 1, .int .i64 0] 60)) (.cells #[.string ⟨#[120]⟩, .int .i64 0, .int .i64 0, .int .i64 2, .string ⟨#[121]⟩, .int .i64 1, .int .i64 0, .int .i64 2] 64); rwa [s1] at this
  have e3 : ((((w.alloc (.cells #[.slice (some ⟨w.heap.size + 1, 0, none⟩) 1 1, .slice (some ⟨w.heap.size + 1 + 1, 0, none⟩) 2 2, .slice none 0 0, .slice (some ⟨w.heap.size + 1 + 1 + 1, 0, none⟩) 1 1] 27)).alloc (.cells #[.string ⟨#[97]⟩, .int .i64 2, .int .i64 3, .int .i64 1, .int .i64 0] 60)).alloc (.cells #[.string ⟨#[120]⟩, .int .i64 0, .int .i64 0, .int .i64 2, .string ⟨#[121]⟩, .int .i64 1, .int .i64 0, .int .i64 2] 64)).alloc (.cells #[.int .i64 0, .int .i64 1, .int .i64 1] 68)).heap[w.heap.size + 1 + 1 + 1]? = some (.cells #[.int .i64 0, .int .i64 1, .int .i64 1] 68) := by have := heap_new (((w.alloc (.cells #[.slice (some ⟨w.heap.size + 1, 0, none⟩) 1 1, .slice (some ⟨w.heap.size + 1 + 1, 0, none⟩) 2 2, .slice none 0 0, .slice (some ⟨w.heap.size + 1 + 1 + 1, 0, none⟩) 1 1] 27)).alloc (.cells #[.string ⟨#[97]⟩, .int .i64 2, .int .i64 3, .int .i64 1, .int .i64 0] 60)).alloc (.cells #[.string ⟨#[120]⟩, .int .i64 0, .int .i64 0, .int .i64 2, .string ⟨#[121]⟩, .int .i64 1, .int .i64 0, .int .i64 2] 64)) (.cells #[.int .i64 0, .int .i64 1, .int .i64 1] 68); rwa [s2] at this
  have f2 : (((w.alloc (.cells #[.slice (some ⟨w.heap.size + 1, 0, none⟩) 1 1, .slice (some ⟨w.heap.size + 1 + 1, 0, none⟩) 2 2, .slice none 0 0, .slice (some ⟨w.heap.size + 1 + 1 + 1, 0, none⟩) 1 1] 27)).alloc (.cells #[.string ⟨#[97]⟩, .int .i64 2, .int .i64 3, .int .i64 1, .int .i64 0] 60)).alloc (.cells #[.string ⟨#[120]⟩, .int .i64 0, .int .i64 0, .int .i64 2, .string ⟨#[121]⟩, .int .i64 1, .int .i64 0, .int .i64 2] 64)).heap[w.heap.size + 1]? = some (.cells #[.string ⟨#[97]⟩, .int .i64 2, .int .i64 3, .int .i64 1, .int .i64 0] 60) := ((below_new ((w.alloc (.cells #[.slice (some ⟨w.heap.size + 1, 0, none⟩) 1 1, .slice (some ⟨w.heap.size + 1 + 1, 0, none⟩) 2 2, .slice none 0 0, .slice (some ⟨w.heap.size + 1 + 1 + 1, 0, none⟩) 1 1] 27)).alloc (.cells #[.string ⟨#[97]⟩, .int .i64 2, .int .i64 3, .int .i64 1, .int .i64 0] 60)) (.cells #[.string ⟨#[120]⟩, .int .i64 0, .int .i64 0, .int .i64 2, .string ⟨#[121]⟩, .int .i64 1, .int .i64 0, .int .i64 2] 64)).block _ (by rw [s1]; omega)).trans e1
  have f3 : ((((w.alloc (.cells #[.slice (some ⟨w.heap.size + 1, 0, none⟩) 1 1, .slice (some ⟨w.heap.size + 1 + 1, 0, none⟩) 2 2, .slice none 0 0, .slice (some ⟨w.heap.size + 1 + 1 + 1, 0, none⟩) 1 1] 27)).alloc (.cells #[.string ⟨#[97]⟩, .int .i64 2, .int .i64 3, .int .i64 1, .int .i64 0] 60)).alloc (.cells #[.string ⟨#[120]⟩, .int .i64 0, .int .i64 0, .int .i64 2, .string ⟨#[121]⟩, .int .i64 1, .int .i64 0, .int .i64 2] 64)).alloc (.cells #[.int .i64 0, .int .i64 1, .int .i64 1] 68)).heap[w.heap.size + 1]? = some (.cells #[.string ⟨#[97]⟩, .int .i64 2, .int .i64 3, .int .i64 1, .int .i64 0] 60) := ((below_new (((w.alloc (.cells #[.slice (some ⟨w.heap.size + 1, 0, none⟩) 1 1, .slice (some ⟨w.heap.size + 1 + 1, 0, none⟩) 2 2, .slice none 0 0, .slice (some ⟨w.heap.size + 1 + 1 + 1, 0, none⟩) 1 1] 27)).alloc (.cells #[.string ⟨#[97]⟩, .int .i64 2, .int .i64 3, .int .i64 1, .int .i64 0] 60)).alloc (.cells #[.string ⟨#[120]⟩, .int .i64 0, .int .i64 0, .int .i64 2, .string ⟨#[121]⟩, .int .i64 1, .int .i64 0, .int .i64 2] 64)) (.cells #[.int .i64 0, .int .i64 1, .int .i64 1] 68)).block _ (by rw [s2]; omega)).trans f2
  have g3 : ((((w.alloc (.cells #[.slice (some ⟨w.heap.size + 1, 0, none⟩) 1 1, .slice (some ⟨w.heap.size + 1 + 1, 0, none⟩) 2 2, .slice none 0 0, .slice (some ⟨w.heap.size + 1 + 1 + 1, 0, none⟩) 1 1] 27)).alloc (.cells #[.string ⟨#[97]⟩, .int .i64 2, .int .i64 3, .int .i64 1, .int .i64 0] 60)).alloc (.cells #[.string ⟨#[120]⟩, .int .i64 0, .int .i64 0, .int .i64 2, .string ⟨#[121]⟩, .int .i64 1, .int .i64 0, .int .i64 2] 64)).alloc (.cells #[.int .i64 0, .int .i64 1, .int .i64 1] 68)).heap[w.heap.size + 1 + 1]? = some (.cells #[.string ⟨#[120]⟩, .int .i64 0, .int .i64 0, .int .i64 2, .string ⟨#[121]⟩, .int .i64 1, .int .i64 0, .int .i64 2] 64) := ((below_new (((w.alloc (.cells #[.slice (some ⟨w.heap.size + 1, 0, none⟩) 1 1, .slice (some ⟨w.heap.size + 1 + 1, 0, none⟩) 2 2, .slice none 0 0, .slice (some ⟨w.heap.size + 1 + 1 + 1, 0, none⟩) 1 1] 27)).alloc (.cells #[.string ⟨#[97]⟩, .int .i64 2, .int .i64 3, .int .i64 1, .int .i64 0] 60)).alloc (.cells #[.string ⟨#[120]⟩, .int .i64 0, .int .i64 0, .int .i64 2, .string ⟨#[121]⟩, .int .i64 1, .int .i64 0, .int .i64 2] 64)) (.cells #[.int .i64 0, .int .i64 1, .int .i64 1] 68)).block _ (by rw [s2]; omega)).trans e2
  have T0 := TB.new w 27 (.slice (some ⟨w.heap.size + 1, 0, none⟩) 1 1) (.slice (some ⟨w.heap.size + 1 + 1, 0, none⟩) 2 2) (.slice none 0 0) (.slice (some ⟨w.heap.size + 1 + 1 + 1, 0, none⟩) 1 1)
  have T3 : TB ((((w.alloc (.cells #[.slice (some ⟨w.heap.size + 1, 0, none⟩) 1 1, .slice (some ⟨w.heap.size + 1 + 1, 0, none⟩) 2 2, .slice none 0 0, .slice (some ⟨w.heap.size + 1 + 1 + 1, 0, none⟩) 1 1] 27)).alloc (.cells #[.string ⟨#[97]⟩, .int .i64 2, .int .i64 3, .int .i64 1, .int .i64 0] 60)).alloc (.cells #[.string ⟨#[120]⟩, .int .i64 0, .int .i64 0, .int .i64 2, .string ⟨#[121]⟩, .int .i64 1, .int .i64 0, .int .i64 2] 64)).alloc (.cells #[.int .i64 0, .int .i64 1, .int .i64 1] 68)) w.heap.size 27 (.slice (some ⟨w.heap.size + 1, 0, none⟩) 1 1) (.slice (some ⟨w.heap.size + 1 + 1, 0, none⟩) 2 2) (.slice none 0 0) (.slice (some ⟨w.heap.size + 1 + 1 + 1, 0, none⟩) 1 1) := ((T0.keep (below_new _ _)).keep (below_new _ _)).keep (below_new _ _)
  have B3 : Below w.heap.size w ((((w.alloc (.cells #[.slice (some ⟨w.heap.size + 1, 0, none⟩) 1 1, .slice (some ⟨w.heap.size + 1 + 1, 0, none⟩) 2 2, .slice none 0 0, .slice (some ⟨w.heap.size + 1 + 1 + 1, 0, none⟩) 1 1] 27)).alloc (.cells #[.string ⟨#[97]⟩, .int .i64 2, .int .i64 3, .int .i64 1, .int .i64 0] 60)).alloc (.cells #[.string ⟨#[120]⟩, .int .i64 0, .int .i64 0, .int .i64 2, .string ⟨#[121]⟩, .int .i64 1, .int .i64 0, .int .i64 2] 64)).alloc (.cells #[.int .i64 0, .int .i64 1, .int .i64 1] 68)) := (((below_new w (.cells #[.slice (some ⟨w.heap.size + 1, 0, none⟩) 1 1, .slice (some ⟨w.heap.size + 1 + 1, 0, none⟩) 2 2, .slice none 0 0, .slice (some ⟨w.heap.size + 1 + 1 + 1, 0, none⟩) 1 1] 27)).trans ((below_new (w.alloc (.cells #[.slice (some ⟨w.heap.size + 1, 0, none⟩) 1 1, .slice (some ⟨w.heap.size + 1 + 1, 0, none⟩) 2 2, .slice none 0 0, .slice (some ⟨w.heap.size + 1 + 1 + 1, 0, none⟩) 1 1] 27)) (.cells #[.string ⟨#[97]⟩, .int .i64 2, .int .i64 3, .int .i64 1, .int .i64 0] 60)).mono (by omega))).trans ((below_new ((w.alloc (.cells #[.slice (some ⟨w.heap.size + 1, 0, none⟩) 1 1, .slice (some ⟨w.heap.size + 1 + 1, 0, none⟩) 2 2, .slice none 0 0, .slice (some ⟨w.heap.size + 1 + 1 + 1, 0, none⟩) 1 1] 27)).alloc (.cells #[.string ⟨#[97]⟩, .int .i64 2, .int .i64 3, .int .i64 1, .int .i64 0] 60)) (.cells #[.string ⟨#[120]⟩, .int .i64 0, .int .i64 0, .int .i64 2, .string ⟨#[121]⟩, .int .i64 1, .int .i64 0, .int .i64 2] 64)).mono (by omega))).trans ((below_new (((w.alloc (.cells #[.slice (some ⟨w.heap.size + 1, 0, none⟩) 1 1, .slice (some ⟨w.heap.size + 1 + 1, 0, none⟩) 2 2, .slice none 0 0, .slice (some ⟨w.heap.size + 1 + 1 + 1, 0, none⟩) 1 1] 27)).alloc (.cells #[.string ⟨#[97]⟩, .int .i64 2, .int .i64 3, .int .i64 1, .int .i64 0] 60)).alloc (.cells #[.string ⟨#[120]⟩, .int .i64 0, .int .i64 0, .int .i64 2, .string ⟨#[121]⟩, .int .i64 1, .int .i64 0, .int .i64 2] 64)) (.cells #[.int .i64 0, .int .i64 1, .int .i64 1] 68)).mono (by omega))
  obtain ⟨W3, hW3⟩ : ∃ W3, W3 = ((((w.alloc (.cells #[.slice (some ⟨w.heap.size + 1, 0, none⟩) 1 1, .slice (some ⟨w.heap.size + 1 + 1, 0, none⟩) 2 2, .slice none 0 0, .slice (some ⟨w.heap.size + 1 + 1 + 1, 0, none⟩) 1 1] 27)).alloc (.cells #[.string ⟨#[97]⟩, .int .i64 2, .int .i64 3, .int .i64 1, .int .i64 0] 60)).alloc (.cells #[.string ⟨#[120]⟩, .int .i64 0, .int .i64 0, .int .i64 2, .string ⟨#[121]⟩, .int .i64 1, .int .i64 0, .int .i64 2] 64)).alloc (.cells #[.int .i64 0, .int .i64 1, .int .i64 1] 68)) := ⟨_, rfl⟩
  rw [← hW3] at e3 f3 g3 T3 B3 ⊢
  clear hW3 T0 f2 e1 e2 s0 s1 s2
  have T5 := T3
  have B5 := B3
  have i1 := f3
  have i2 := g3
  have i3 := e3
  obtain ⟨b0, b1, b2, b3⟩ := T5.cells
  refine bodyPost_ret (v := .agg #[.slice (some ⟨w.heap.size + 1, 0, none⟩) 1 1, .slice (some ⟨w.heap.size + 1 + 1, 0, none⟩) 2 2, .slice none 0 0, .slice (some ⟨w.heap.size + 1 + 1 + 1, 0, none⟩) 1 1]) (by simp [results, Tryz.results14, go_sem, b0, b1, b2, b3]) rfl ?_
  exact ⟨_, _, _, rfl, ⟨(Lst.lit (E := prE) smallU.ps 1 i1 rfl rfl (by decide) (by intro x hx; obtain rfl := List.mem_singleton.1 hx; exact (by decide : ([97] : List UInt8).length ≤ 9223372036854775807))).prs (by decide), Lst.lit (E := bdE) smallU.bs 2 i2 rfl rfl (by decide) (by intro x hx; rcases List.mem_cons.1 hx with rfl | hx; exact ⟨by decide, by decide, by decide, by decide⟩; obtain rfl := List.mem_singleton.1 hx; exact ⟨by decide, by decide, by decide, by decide⟩), Lst.nil _, Lst.lit (E := asdE) smallU.as_ 1 i3 rfl rfl (by decide) (by intro x hx; obtain rfl := List.mem_singleton.1 hx; exact ⟨by decide, by decide, by decide⟩)⟩, B5⟩
set_option maxRecDepth 100000 in
theorem great_any (A1 : Option Addr) (n1 c1 : Nat) (A2 : Option Addr) (n2 c2 : Nat) (A3 : Option Addr) (n3 c3 : Nat) (A4 : Option Addr) (n4 c4 : Nat) (w : World) :
    Calls Tryz.prog 6 #[.agg #[.slice A1 n1 c1, .slice A2 n2 c2, .slice A3 n3 c3, .slice A4 n4 c4]] w (Gives (.bool (decide (50 < n1) || decide (50 < n2) || decide (50 < n3) || decide (50 < n4))) w) := by
  have T0 := Lib.hid (TB.new w 27 (.slice A1 n1 c1) (.slice A2 n2 c2) (.slice A3 n3 c3) (.slice A4 n4 c4))
  have B0 := Lib.hid (below_new w (.cells #[.slice A1 n1 c1, .slice A2 n2 c2, .slice A3 n3 c3, .slice A4 n4 c4] 27))
  go_enter Tryz.func6, Tryz.ntmps6
  by_cases h1 : (50 : Int) < n1 <;> by_cases h2 : (50 : Int) < n2 <;> by_cases h3 : (50 : Int) < n3 <;> by_cases h4 : (50 : Int) < n4
  all_goals (go_wp2; go_ret; refine ⟨?_, B0.out⟩; congr 2; simp; omega)
end Go.Proofs.YtigfgeanofccgaaGreatDoor
