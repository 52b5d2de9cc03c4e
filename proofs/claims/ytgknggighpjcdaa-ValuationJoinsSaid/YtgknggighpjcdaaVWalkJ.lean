/- The walk of ValuationJoins. No claim of its own. -/
import Derived.Test.YtgknggighpjcdaaVWalkV
namespace Go.Proofs.Ytgknggighpjcdaa
open Go.RowKit
/-- Two expressions joined. -/
def tJ (o : Int) (g : Nat) (x y : NT) : NT := ⟨o, [0, 0, 0, 0, 0, 0], 0, some ⟨g, 0, none⟩, 2, FT.of [x, y]⟩
theorem tJ_ok {w : World} {o : Int} {g : Nat} {x y : NT} {cs : Array Value} {T : TypeId} (ho : 0 ≤ o ∧ o ≤ 1000000) (hx : x.Ok w (fun _ => True)) (hy : y.Ok w (fun _ => True)) (h : w.heap[g]? = some (.cells cs T (0, 0))) (hc : cs.toList = ntE.all [x, y]) : (tJ o g x y).Ok w (fun _ => True) :=
  nt_ok o 0 0 0 0 0 0 0 _ _ _ (fun z hz => by simp only [List.mem_cons, List.not_mem_nil, or_false] at hz; omega) (kids_lit [x, y] rfl h hc (by decide) (fun z hz => by
    simp only [List.mem_cons, List.not_mem_nil, or_false] at hz
    rcases hz with rfl | rfl
    · exact hx
    · exact hy))
def nJ (o : Int) (x y : NT) : ME.Nd := (tJ o 0 x y).n
theorem node_23 (b : List Int) (v : Int) (k : ME.F) : ME.nodeE ⟨3, b, v, k⟩ = ME.nodeE ⟨2, b, v, k⟩ := by simp [ME.nodeE, ME.formB, ME.rangeB]
theorem check_23 {x y : NT} (h : ME.checkE (nJ 2 x y) = 0) : ME.checkE (nJ 3 x y) = 0 := by
  obtain ⟨h1, h2, h3, h4⟩ := ME.checkE_zero.1 h
  refine ME.checkE_zero.2 ⟨h1, h2, h3, fun z hz => ?_⟩
  rcases List.mem_cons.1 hz with rfl | hz
  · exact (node_23 _ _ _).trans (h4 _ List.mem_cons_self)
  · exact h4 z (List.mem_cons_of_mem _ hz)
theorem val_not {n : ME.Nd} {s : List Int} (h : VV.value n s ≠ 0) : ME.checkE n = 0 ∧ chk s = 0 := by
  by_cases h1 : ME.checkE n = 0
  · by_cases h2 : chk s = 0
    · exact ⟨h1, h2⟩
    · exact absurd (value_bad2 h2) h
  · exact absurd (value_bad h1) h
theorem valF_J (x y : NT) : VV.valF (FT.of [x, y]).f = [VV.valN x.n, VV.valN y.n] := by rw [VV.valF_roots, FT.of_f]; rfl
theorem joins_val {x y : NT} {s : List Int} (hl : s.length = 6) (hx : VV.value x.n s ≠ 0) (hy : VV.value y.n s ≠ 0) (h1 : VV.value (nJ 2 x y) s ≠ 0) :
    VV.value (nJ 2 x y) s = max (VV.value x.n s) (VV.value y.n s) ∧ VV.value (nJ 2 x y) s ≤ VV.value (nJ 3 x y) s ∧ VV.value (nJ 3 x y) s ≤ VV.value x.n s + VV.value y.n s := by
  obtain ⟨cx, cs⟩ := val_not hx
  obtain ⟨cy, _⟩ := val_not hy
  obtain ⟨c1, _⟩ := val_not h1
  have bs := VV.bu_of_ok hl (VV.ok_of_chk cs)
  have mx := (VV.AllOk.of cx).mono
  have my := (VV.AllOk.of cy).mono
  rw [value_ok cx cs, value_ok cy cs, value_ok c1 cs, value_ok (check_23 c1) cs]
  have e2 : VV.valN (nJ 2 x y) s = min (max (max 0 (VV.valN x.n s)) (VV.valN y.n s)) 1000000 := by
    show VV.finV 2 _ 0 (VV.argsV 2 (VV.valF (FT.of [x, y]).f)) s = _
    rw [valF_J]
    exact VV.fin_no (.inl rfl) rfl
  have e3 : VV.valN (nJ 3 x y) s = min (VV.orF (fun z => max 0 (VV.valN x.n z)) (VV.valN y.n) s) 1000000 := by
    show VV.finV 3 _ 0 (VV.argsV 3 (VV.valF (FT.of [x, y]).f)) s = _
    rw [valF_J]
    exact VV.fin_no (.inr rfl) rfl
  have px := mx.pos s bs
  have py := my.pos s bs
  have tx := VV.valN_max x.n s
  have ty := VV.valN_max y.n s
  have o1 := VV.le_orF (f := fun z => max 0 (VV.valN x.n z)) (g := VV.valN y.n) bs bs (VV.Le.refl s)
  have o2 := VV.le_orF (f := fun z => max 0 (VV.valN x.n z)) (g := VV.valN y.n) bs VV.Bu.z bs.ge
  have o3 : VV.orF (fun z => max 0 (VV.valN x.n z)) (VV.valN y.n) s ≤ VV.valN x.n s + VV.valN y.n s := VV.orF_le bs (by omega) fun d hd hle => by
    have q1 := mx.up d s hd bs hle
    have q2 := my.up _ s (VV.Bu.sub hle) bs (VV.sub_le hd)
    show max 0 (VV.valN x.n d) + VV.valN y.n (VV.sub s d) ≤ _
    omega
  rw [VV.sub_self] at o1
  have z1 := my.pos VV.Z VV.Bu.z
  have ez : VV.sub s VV.Z = s := MB.ext6 rfl hl fun j hj => by
    rw [VV.sub_at hj]
    have : MB.at_ VV.Z j = 0 := by
      have : j = 0 ∨ j = 1 ∨ j = 2 ∨ j = 3 ∨ j = 4 ∨ j = 5 := by omega
      rcases this with rfl | rfl | rfl | rfl | rfl | rfl <;> rfl
    omega
  rw [ez] at o2
  rw [e2, e3]
  omega
/-- The law's variables. -/
structure IJ (w : World) (gl gm : Nat) (cl : Array Value) (u0 u1 u2 u3 u4 u5 u6 u7 u8 v0 v1 v2 v3 v4 v5 v6 v7 v8 : Value) (s : List Int) (X : World) : Prop where
  below : Below w.heap.size w X
  a : B9 X w.heap.size u0 u1 u2 u3 u4 u5 u6 u7 u8
  b : B9 X (w.heap.size + 1) v0 v1 v2 v3 v4 v5 v6 v7 v8
  q : BB X (w.heap.size + 1 + 1) 23 s
  l : X.heap[gl]? = some (.cells cl 26 (0, 0))
  one : B9 X (gl + 1) (.int .i64 2) (.int .i64 0) (.int .i64 0) (.int .i64 0) (.int .i64 0) (.int .i64 0) (.int .i64 0) (.int .i64 0) (.slice (some ⟨gl, 0, none⟩) 2 2)
  m : X.heap[gm]? = some (.cells cl 26 (0, 0))
  all : B9 X (gm + 1) (.int .i64 3) (.int .i64 0) (.int .i64 0) (.int .i64 0) (.int .i64 0) (.int .i64 0) (.int .i64 0) (.int .i64 0) (.slice (some ⟨gm, 0, none⟩) 2 2)
theorem IJ.keep {w X Y : World} {gl gm : Nat} {cl : Array Value} {u0 u1 u2 u3 u4 u5 u6 u7 u8 v0 v1 v2 v3 v4 v5 v6 v7 v8 : Value} {s : List Int} (h : IJ w gl gm cl u0 u1 u2 u3 u4 u5 u6 u7 u8 v0 v1 v2 v3 v4 v5 v6 v7 v8 s X) (hb : Below X.heap.size X Y) : IJ w gl gm cl u0 u1 u2 u3 u4 u5 u6 u7 u8 v0 v1 v2 v3 v4 v5 v6 v7 v8 s Y :=
  ⟨h.below.trans (hb.mono h.below.size), h.a.keep hb, h.b.keep hb, h.q.keep hb h.q.lt, (hb.block _ (at_lt h.l)).trans h.l, h.one.keep hb, (hb.block _ (at_lt h.m)).trans h.m, h.all.keep hb⟩
attribute [local go_sem] Oper.semAt_some
set_option maxRecDepth 100000 in
set_option maxHeartbeats 16000000 in
theorem valuationJoins_walk (x y : NT) (q0 q1 q2 q3 q4 q5 : Int) (w : World) (hx : x.Ok w (fun _ => True)) (hy : y.Ok w (fun _ => True)) : Calls Try.prog 7 #[x.val, y.val, .agg #[.int .i64 q0, .int .i64 q1, .int .i64 q2, .int .i64 q3, .int .i64 q4, .int .i64 q5]] w (Gives (.bool true) w) := by
  have AW := Lib.hid (fun w' => awake13_any w')
  have JV := Lib.hid (joins_val (x := x) (y := y) (s := [q0, q1, q2, q3, q4, q5]) rfl)
  have HS : Hid (VV.few (nJ 2 x y) = true → x.size ≤ 1000000 ∧ y.size ≤ 1000000 ∧ (FT.of [x, y]).size + 1 ≤ 1000000) := Lib.hid (fun h => by
    have h2 := VV.few_size h
    unfold nJ at h2
    rw [NT.size_n] at h2
    have e : (tJ 2 0 x y).size = (FT.of [x, y]).size + 1 := rfl
    have e2 : (FT.of [x, y]).size = x.k.size + 1 + (y.k.size + 1 + 0) ∨ (FT.of [x, y]).size = 1 + x.k.size + (1 + y.k.size + 0) := by first | exact .inl rfl | exact .inr rfl
    have e3 : x.size = x.k.size + 1 := rfl
    have e4 : y.size = y.k.size + 1 := rfl
    omega)
  have VA := Lib.hid (fun (h : x.size ≤ 1000000) w' (hb : Below w.heap.size w w') => (show _ ∧ _ from ⟨value_any x (Nat.le_trans h (by decide)) q0 q1 q2 q3 q4 q5 w' _ (hx.below hb), rvalue_any x h q0 q1 q2 q3 q4 q5 w' _ (hx.below hb)⟩))
  have VB := Lib.hid (fun (h : y.size ≤ 1000000) w' (hb : Below w.heap.size w w') => (show _ ∧ _ from ⟨value_any y (Nat.le_trans h (by decide)) q0 q1 q2 q3 q4 q5 w' _ (hy.below hb), rvalue_any y h q0 q1 q2 q3 q4 q5 w' _ (hy.below hb)⟩))
  have TO := Lib.hid (fun (o : Int) (ho : 0 ≤ o ∧ o ≤ 1000000) (g : Nat) (cs : Array Value) (w' : World) (hb : Below w.heap.size w w') (h : w'.heap[g]? = some (.cells cs 26 (0, 0))) (hc : cs.toList = ntE.all [x, y]) => tJ_ok ho (hx.below hb) (hy.below hb) h hc)
  have VR := Lib.hid (And.intro (VV.value_range (n := x.n) (b := [q0, q1, q2, q3, q4, q5]) rfl) (VV.value_range (n := y.n) (b := [q0, q1, q2, q3, q4, q5]) rfl))
  obtain ⟨xo, xb, xv, A, c, k⟩ := x
  obtain ⟨yo, yb, yv, B, d, l⟩ := y
  obtain ⟨x0, x1, x2, x3, x4, x5, rfl⟩ := six hx.six
  obtain ⟨y0, y1, y2, y3, y4, y5, rfl⟩ := six hy.six
  rw [NT.val_lit] at VA VB ⊢
  rw [NT.val_lit]
  have CF := Lib.hid (fun gl gm w' (h : IJ w gl gm #[.int .i64 xo, .int .i64 x0, .int .i64 x1, .int .i64 x2, .int .i64 x3, .int .i64 x4, .int .i64 x5, .int .i64 xv, .slice A k.len c, .int .i64 yo, .int .i64 y0, .int .i64 y1, .int .i64 y2, .int .i64 y3, .int .i64 y4, .int .i64 y5, .int .i64 yv, .slice B l.len d] (.int .i64 xo) (.int .i64 x0) (.int .i64 x1) (.int .i64 x2) (.int .i64 x3) (.int .i64 x4) (.int .i64 x5) (.int .i64 xv) (.slice A k.len c) (.int .i64 yo) (.int .i64 y0) (.int .i64 y1) (.int .i64 y2) (.int .i64 y3) (.int .i64 y4) (.int .i64 y5) (.int .i64 yv) (.slice B l.len d) [q0, q1, q2, q3, q4, q5] w') => (show Calls Try.prog 15 #[.agg #[.int .i64 2, .int .i64 0, .int .i64 0, .int .i64 0, .int .i64 0, .int .i64 0, .int .i64 0, .int .i64 0, .slice (some ⟨gl, 0, none⟩) 2 2]] w' (Gives (.bool (VV.few (nJ 2 ⟨xo, [x0, x1, x2, x3, x4, x5], xv, A, c, k⟩ ⟨yo, [y0, y1, y2, y3, y4, y5], yv, B, d, l⟩))) w') from few13_any (tJ 2 gl ⟨xo, [x0, x1, x2, x3, x4, x5], xv, A, c, k⟩ ⟨yo, [y0, y1, y2, y3, y4, y5], yv, B, d, l⟩) w' _ (TO.out 2 (by decide) gl _ w' h.below h.l rfl)))
  have V1 := Lib.hid (fun (hs : (FT.of [(⟨xo, [x0, x1, x2, x3, x4, x5], xv, A, c, k⟩ : NT), ⟨yo, [y0, y1, y2, y3, y4, y5], yv, B, d, l⟩]).size + 1 ≤ 1000000) gl gm w' (h : IJ w gl gm #[.int .i64 xo, .int .i64 x0, .int .i64 x1, .int .i64 x2, .int .i64 x3, .int .i64 x4, .int .i64 x5, .int .i64 xv, .slice A k.len c, .int .i64 yo, .int .i64 y0, .int .i64 y1, .int .i64 y2, .int .i64 y3, .int .i64 y4, .int .i64 y5, .int .i64 yv, .slice B l.len d] (.int .i64 xo) (.int .i64 x0) (.int .i64 x1) (.int .i64 x2) (.int .i64 x3) (.int .i64 x4) (.int .i64 x5) (.int .i64 xv) (.slice A k.len c) (.int .i64 yo) (.int .i64 y0) (.int .i64 y1) (.int .i64 y2) (.int .i64 y3) (.int .i64 y4) (.int .i64 y5) (.int .i64 yv) (.slice B l.len d) [q0, q1, q2, q3, q4, q5] w') => (show Calls Try.prog 18 #[.agg #[.int .i64 2, .int .i64 0, .int .i64 0, .int .i64 0, .int .i64 0, .int .i64 0, .int .i64 0, .int .i64 0, .slice (some ⟨gl, 0, none⟩) 2 2], .agg #[.int .i64 q0, .int .i64 q1, .int .i64 q2, .int .i64 q3, .int .i64 q4, .int .i64 q5]] w' (Gives (.int .i64 (VV.value (nJ 2 ⟨xo, [x0, x1, x2, x3, x4, x5], xv, A, c, k⟩ ⟨yo, [y0, y1, y2, y3, y4, y5], yv, B, d, l⟩) [q0, q1, q2, q3, q4, q5])) w') from value_any (tJ 2 gl ⟨xo, [x0, x1, x2, x3, x4, x5], xv, A, c, k⟩ ⟨yo, [y0, y1, y2, y3, y4, y5], yv, B, d, l⟩) (Nat.le_trans hs (by decide)) q0 q1 q2 q3 q4 q5 w' _ (TO.out 2 (by decide) gl _ w' h.below h.l rfl)))
  have W1 := Lib.hid (fun (hs : (FT.of [(⟨xo, [x0, x1, x2, x3, x4, x5], xv, A, c, k⟩ : NT), ⟨yo, [y0, y1, y2, y3, y4, y5], yv, B, d, l⟩]).size + 1 ≤ 1000000) gl gm w' (h : IJ w gl gm #[.int .i64 xo, .int .i64 x0, .int .i64 x1, .int .i64 x2, .int .i64 x3, .int .i64 x4, .int .i64 x5, .int .i64 xv, .slice A k.len c, .int .i64 yo, .int .i64 y0, .int .i64 y1, .int .i64 y2, .int .i64 y3, .int .i64 y4, .int .i64 y5, .int .i64 yv, .slice B l.len d] (.int .i64 xo) (.int .i64 x0) (.int .i64 x1) (.int .i64 x2) (.int .i64 x3) (.int .i64 x4) (.int .i64 x5) (.int .i64 xv) (.slice A k.len c) (.int .i64 yo) (.int .i64 y0) (.int .i64 y1) (.int .i64 y2) (.int .i64 y3) (.int .i64 y4) (.int .i64 y5) (.int .i64 yv) (.slice B l.len d) [q0, q1, q2, q3, q4, q5] w') => (show Calls Try.prog 21 #[.agg #[.int .i64 2, .int .i64 0, .int .i64 0, .int .i64 0, .int .i64 0, .int .i64 0, .int .i64 0, .int .i64 0, .slice (some ⟨gl, 0, none⟩) 2 2], .agg #[.int .i64 q0, .int .i64 q1, .int .i64 q2, .int .i64 q3, .int .i64 q4, .int .i64 q5]] w' (Gives (.int .i64 (VV.value (nJ 2 ⟨xo, [x0, x1, x2, x3, x4, x5], xv, A, c, k⟩ ⟨yo, [y0, y1, y2, y3, y4, y5], yv, B, d, l⟩) [q0, q1, q2, q3, q4, q5])) w') from rvalue_any (tJ 2 gl ⟨xo, [x0, x1, x2, x3, x4, x5], xv, A, c, k⟩ ⟨yo, [y0, y1, y2, y3, y4, y5], yv, B, d, l⟩) hs q0 q1 q2 q3 q4 q5 w' _ (TO.out 2 (by decide) gl _ w' h.below h.l rfl)))
  have V3 := Lib.hid (fun (hs : (FT.of [(⟨xo, [x0, x1, x2, x3, x4, x5], xv, A, c, k⟩ : NT), ⟨yo, [y0, y1, y2, y3, y4, y5], yv, B, d, l⟩]).size + 1 ≤ 1000000) gl gm w' (h : IJ w gl gm #[.int .i64 xo, .int .i64 x0, .int .i64 x1, .int .i64 x2, .int .i64 x3, .int .i64 x4, .int .i64 x5, .int .i64 xv, .slice A k.len c, .int .i64 yo, .int .i64 y0, .int .i64 y1, .int .i64 y2, .int .i64 y3, .int .i64 y4, .int .i64 y5, .int .i64 yv, .slice B l.len d] (.int .i64 xo) (.int .i64 x0) (.int .i64 x1) (.int .i64 x2) (.int .i64 x3) (.int .i64 x4) (.int .i64 x5) (.int .i64 xv) (.slice A k.len c) (.int .i64 yo) (.int .i64 y0) (.int .i64 y1) (.int .i64 y2) (.int .i64 y3) (.int .i64 y4) (.int .i64 y5) (.int .i64 yv) (.slice B l.len d) [q0, q1, q2, q3, q4, q5] w') => (show Calls Try.prog 18 #[.agg #[.int .i64 3, .int .i64 0, .int .i64 0, .int .i64 0, .int .i64 0, .int .i64 0, .int .i64 0, .int .i64 0, .slice (some ⟨gm, 0, none⟩) 2 2], .agg #[.int .i64 q0, .int .i64 q1, .int .i64 q2, .int .i64 q3, .int .i64 q4, .int .i64 q5]] w' (Gives (.int .i64 (VV.value (nJ 3 ⟨xo, [x0, x1, x2, x3, x4, x5], xv, A, c, k⟩ ⟨yo, [y0, y1, y2, y3, y4, y5], yv, B, d, l⟩) [q0, q1, q2, q3, q4, q5])) w') from value_any (tJ 3 gm ⟨xo, [x0, x1, x2, x3, x4, x5], xv, A, c, k⟩ ⟨yo, [y0, y1, y2, y3, y4, y5], yv, B, d, l⟩) (Nat.le_trans hs (by decide)) q0 q1 q2 q3 q4 q5 w' _ (TO.out 3 (by decide) gm _ w' h.below h.m rfl)))
  generalize VV.value (nJ 2 ⟨xo, [x0, x1, x2, x3, x4, x5], xv, A, c, k⟩ ⟨yo, [y0, y1, y2, y3, y4, y5], yv, B, d, l⟩) [q0, q1, q2, q3, q4, q5] = v1 at *
  generalize VV.value (nJ 3 ⟨xo, [x0, x1, x2, x3, x4, x5], xv, A, c, k⟩ ⟨yo, [y0, y1, y2, y3, y4, y5], yv, B, d, l⟩) [q0, q1, q2, q3, q4, q5] = v3 at *
  generalize VV.value (NT.n ⟨xo, [x0, x1, x2, x3, x4, x5], xv, A, c, k⟩) [q0, q1, q2, q3, q4, q5] = va at *
  generalize VV.value (NT.n ⟨yo, [y0, y1, y2, y3, y4, y5], yv, B, d, l⟩) [q0, q1, q2, q3, q4, q5] = vb at *
  generalize VV.few (nJ 2 ⟨xo, [x0, x1, x2, x3, x4, x5], xv, A, c, k⟩ ⟨yo, [y0, y1, y2, y3, y4, y5], yv, B, d, l⟩) = fw at *
  clear hx hy TO
  have n1 := below_new (w.alloc (.cells #[.int .i64 xo, .int .i64 x0, .int .i64 x1, .int .i64 x2, .int .i64 x3, .int .i64 x4, .int .i64 x5, .int .i64 xv, .slice A k.len c] 26)) (.cells #[.int .i64 yo, .int .i64 y0, .int .i64 y1, .int .i64 y2, .int .i64 y3, .int .i64 y4, .int .i64 y5, .int .i64 yv, .slice B l.len d] 26)
  have n2 := below_new ((w.alloc (.cells #[.int .i64 xo, .int .i64 x0, .int .i64 x1, .int .i64 x2, .int .i64 x3, .int .i64 x4, .int .i64 x5, .int .i64 xv, .slice A k.len c] 26)).alloc (.cells #[.int .i64 yo, .int .i64 y0, .int .i64 y1, .int .i64 y2, .int .i64 y3, .int .i64 y4, .int .i64 y5, .int .i64 yv, .slice B l.len d] 26)) (.cells #[.int .i64 q0, .int .i64 q1, .int .i64 q2, .int .i64 q3, .int .i64 q4, .int .i64 q5] 23)
  have W0 := Lib.hid (show Below w.heap.size w (((w.alloc (.cells #[.int .i64 xo, .int .i64 x0, .int .i64 x1, .int .i64 x2, .int .i64 x3, .int .i64 x4, .int .i64 x5, .int .i64 xv, .slice A k.len c] 26)).alloc (.cells #[.int .i64 yo, .int .i64 y0, .int .i64 y1, .int .i64 y2, .int .i64 y3, .int .i64 y4, .int .i64 y5, .int .i64 yv, .slice B l.len d] 26)).alloc (.cells #[.int .i64 q0, .int .i64 q1, .int .i64 q2, .int .i64 q3, .int .i64 q4, .int .i64 q5] 23)) from below_three w _ _ _)
  have A0 := Lib.hid (show B9 (((w.alloc (.cells #[.int .i64 xo, .int .i64 x0, .int .i64 x1, .int .i64 x2, .int .i64 x3, .int .i64 x4, .int .i64 x5, .int .i64 xv, .slice A k.len c] 26)).alloc (.cells #[.int .i64 yo, .int .i64 y0, .int .i64 y1, .int .i64 y2, .int .i64 y3, .int .i64 y4, .int .i64 y5, .int .i64 yv, .slice B l.len d] 26)).alloc (.cells #[.int .i64 q0, .int .i64 q1, .int .i64 q2, .int .i64 q3, .int .i64 q4, .int .i64 q5] 23)) w.heap.size (.int .i64 xo) (.int .i64 x0) (.int .i64 x1) (.int .i64 x2) (.int .i64 x3) (.int .i64 x4) (.int .i64 x5) (.int .i64 xv) (.slice A k.len c) from ((n2.block w.heap.size (by simp; omega)).trans (n1.block w.heap.size (by simp))).trans (heap_new w _))
  have D0 := Lib.hid (show B9 (((w.alloc (.cells #[.int .i64 xo, .int .i64 x0, .int .i64 x1, .int .i64 x2, .int .i64 x3, .int .i64 x4, .int .i64 x5, .int .i64 xv, .slice A k.len c] 26)).alloc (.cells #[.int .i64 yo, .int .i64 y0, .int .i64 y1, .int .i64 y2, .int .i64 y3, .int .i64 y4, .int .i64 y5, .int .i64 yv, .slice B l.len d] 26)).alloc (.cells #[.int .i64 q0, .int .i64 q1, .int .i64 q2, .int .i64 q3, .int .i64 q4, .int .i64 q5] 23)) (w.heap.size + 1) (.int .i64 yo) (.int .i64 y0) (.int .i64 y1) (.int .i64 y2) (.int .i64 y3) (.int .i64 y4) (.int .i64 y5) (.int .i64 yv) (.slice B l.len d) from (n2.block (w.heap.size + 1) (by simp)).trans (by have := heap_new (w.alloc (.cells #[.int .i64 xo, .int .i64 x0, .int .i64 x1, .int .i64 x2, .int .i64 x3, .int .i64 x4, .int .i64 x5, .int .i64 xv, .slice A k.len c] 26)) (.cells #[.int .i64 yo, .int .i64 y0, .int .i64 y1, .int .i64 y2, .int .i64 y3, .int .i64 y4, .int .i64 y5, .int .i64 yv, .slice B l.len d] 26); rwa [World.size_alloc] at this))
  have Q0 := Lib.hid (show BB (((w.alloc (.cells #[.int .i64 xo, .int .i64 x0, .int .i64 x1, .int .i64 x2, .int .i64 x3, .int .i64 x4, .int .i64 x5, .int .i64 xv, .slice A k.len c] 26)).alloc (.cells #[.int .i64 yo, .int .i64 y0, .int .i64 y1, .int .i64 y2, .int .i64 y3, .int .i64 y4, .int .i64 y5, .int .i64 yv, .slice B l.len d] 26)).alloc (.cells #[.int .i64 q0, .int .i64 q1, .int .i64 q2, .int .i64 q3, .int .i64 q4, .int .i64 q5] 23)) (w.heap.size + 1 + 1) 23 [q0, q1, q2, q3, q4, q5] from by
    have := BB.new ((w.alloc (.cells #[.int .i64 xo, .int .i64 x0, .int .i64 x1, .int .i64 x2, .int .i64 x3, .int .i64 x4, .int .i64 x5, .int .i64 xv, .slice A k.len c] 26)).alloc (.cells #[.int .i64 yo, .int .i64 y0, .int .i64 y1, .int .i64 y2, .int .i64 y3, .int .i64 y4, .int .i64 y5, .int .i64 yv, .slice B l.len d] 26)) 23 q0 q1 q2 q3 q4 q5
    rwa [World.size_alloc, World.size_alloc] at this)
  clear n1 n2
  go_enter Try.func7, Try.ntmps7
  go_upto_region 1 with (fail)
  generalize ((w.alloc (.cells #[.int .i64 xo, .int .i64 x0, .int .i64 x1, .int .i64 x2, .int .i64 x3, .int .i64 x4, .int .i64 x5, .int .i64 xv, .slice A k.len c] 26)).alloc (.cells #[.int .i64 yo, .int .i64 y0, .int .i64 y1, .int .i64 y2, .int .i64 y3, .int .i64 y4, .int .i64 y5, .int .i64 yv, .slice B l.len d] 26)).alloc (.cells #[.int .i64 q0, .int .i64 q1, .int .i64 q2, .int .i64 q3, .int .i64 q4, .int .i64 q5] 23) = w1 at *
  obtain ⟨a0, a1, a2, a3, a4, a5, a6, a7, a8⟩ := A0.out.cells
  obtain ⟨b0, b1, b2, b3, b4, b5, b6, b7, b8⟩ := D0.out.cells
  go_upto_region 2 with (fail)
  have nb := below_two w1 (.cells #[.int .i64 xo, .int .i64 x0, .int .i64 x1, .int .i64 x2, .int .i64 x3, .int .i64 x4, .int .i64 x5, .int .i64 xv, .slice A k.len c, .int .i64 yo, .int .i64 y0, .int .i64 y1, .int .i64 y2, .int .i64 y3, .int .i64 y4, .int .i64 y5, .int .i64 yv, .slice B l.len d] 26) (.cells #[.int .i64 2, .int .i64 0, .int .i64 0, .int .i64 0, .int .i64 0, .int .i64 0, .int .i64 0, .int .i64 0, .slice (some ⟨w1.heap.size, 0, none⟩) 2 2] 26)
  have N1 := Lib.hid (two_new w1 (.cells #[.int .i64 xo, .int .i64 x0, .int .i64 x1, .int .i64 x2, .int .i64 x3, .int .i64 x4, .int .i64 x5, .int .i64 xv, .slice A k.len c, .int .i64 yo, .int .i64 y0, .int .i64 y1, .int .i64 y2, .int .i64 y3, .int .i64 y4, .int .i64 y5, .int .i64 yv, .slice B l.len d] 26) (.cells #[.int .i64 2, .int .i64 0, .int .i64 0, .int .i64 0, .int .i64 0, .int .i64 0, .int .i64 0, .int .i64 0, .slice (some ⟨w1.heap.size, 0, none⟩) 2 2] 26))
  have W2 := Lib.hid (W0.out.trans (nb.mono W0.out.size))
  have A2 := Lib.hid (A0.out.keep nb)
  have D2 := Lib.hid (D0.out.keep nb)
  have Q2 := Lib.hid (Q0.out.keep nb Q0.out.lt)
  clear nb W0 A0 D0 Q0 a0 a1 a2 a3 a4 a5 a6 a7 a8 b0 b1 b2 b3 b4 b5 b6 b7 b8
  generalize (w1.alloc (.cells #[.int .i64 xo, .int .i64 x0, .int .i64 x1, .int .i64 x2, .int .i64 x3, .int .i64 x4, .int .i64 x5, .int .i64 xv, .slice A k.len c, .int .i64 yo, .int .i64 y0, .int .i64 y1, .int .i64 y2, .int .i64 y3, .int .i64 y4, .int .i64 y5, .int .i64 yv, .slice B l.len d] 26)).alloc (.cells #[.int .i64 2, .int .i64 0, .int .i64 0, .int .i64 0, .int .i64 0, .int .i64 0, .int .i64 0, .int .i64 0, .slice (some ⟨w1.heap.size, 0, none⟩) 2 2] 26) = w2 at *
  generalize w1.heap.size = gl at *
  obtain ⟨a0, a1, a2, a3, a4, a5, a6, a7, a8⟩ := A2.out.cells
  obtain ⟨b0, b1, b2, b3, b4, b5, b6, b7, b8⟩ := D2.out.cells
  go_upto_region 3 with (fail)
  have nb := below_two w2 (.cells #[.int .i64 xo, .int .i64 x0, .int .i64 x1, .int .i64 x2, .int .i64 x3, .int .i64 x4, .int .i64 x5, .int .i64 xv, .slice A k.len c, .int .i64 yo, .int .i64 y0, .int .i64 y1, .int .i64 y2, .int .i64 y3, .int .i64 y4, .int .i64 y5, .int .i64 yv, .slice B l.len d] 26) (.cells #[.int .i64 3, .int .i64 0, .int .i64 0, .int .i64 0, .int .i64 0, .int .i64 0, .int .i64 0, .int .i64 0, .slice (some ⟨w2.heap.size, 0, none⟩) 2 2] 26)
  have N2 := Lib.hid (two_new w2 (.cells #[.int .i64 xo, .int .i64 x0, .int .i64 x1, .int .i64 x2, .int .i64 x3, .int .i64 x4, .int .i64 x5, .int .i64 xv, .slice A k.len c, .int .i64 yo, .int .i64 y0, .int .i64 y1, .int .i64 y2, .int .i64 y3, .int .i64 y4, .int .i64 y5, .int .i64 yv, .slice B l.len d] 26) (.cells #[.int .i64 3, .int .i64 0, .int .i64 0, .int .i64 0, .int .i64 0, .int .i64 0, .int .i64 0, .int .i64 0, .slice (some ⟨w2.heap.size, 0, none⟩) 2 2] 26))
  have I3 := Lib.hid (show IJ w gl w2.heap.size #[.int .i64 xo, .int .i64 x0, .int .i64 x1, .int .i64 x2, .int .i64 x3, .int .i64 x4, .int .i64 x5, .int .i64 xv, .slice A k.len c, .int .i64 yo, .int .i64 y0, .int .i64 y1, .int .i64 y2, .int .i64 y3, .int .i64 y4, .int .i64 y5, .int .i64 yv, .slice B l.len d] (.int .i64 xo) (.int .i64 x0) (.int .i64 x1) (.int .i64 x2) (.int .i64 x3) (.int .i64 x4) (.int .i64 x5) (.int .i64 xv) (.slice A k.len c) (.int .i64 yo) (.int .i64 y0) (.int .i64 y1) (.int .i64 y2) (.int .i64 y3) (.int .i64 y4) (.int .i64 y5) (.int .i64 yv) (.slice B l.len d) [q0, q1, q2, q3, q4, q5] ((w2.alloc (.cells #[.int .i64 xo, .int .i64 x0, .int .i64 x1, .int .i64 x2, .int .i64 x3, .int .i64 x4, .int .i64 x5, .int .i64 xv, .slice A k.len c, .int .i64 yo, .int .i64 y0, .int .i64 y1, .int .i64 y2, .int .i64 y3, .int .i64 y4, .int .i64 y5, .int .i64 yv, .slice B l.len d] 26)).alloc (.cells #[.int .i64 3, .int .i64 0, .int .i64 0, .int .i64 0, .int .i64 0, .int .i64 0, .int .i64 0, .int .i64 0, .slice (some ⟨w2.heap.size, 0, none⟩) 2 2] 26)) from
    ⟨W2.out.trans (nb.mono W2.out.size), A2.out.keep nb, D2.out.keep nb, Q2.out.keep nb Q2.out.lt, (nb.block _ (at_lt N1.out.1)).trans N1.out.1, B9.keep N1.out.2 nb, N2.out.1, N2.out.2⟩)
  clear nb W2 A2 D2 Q2 N1 N2 a0 a1 a2 a3 a4 a5 a6 a7 a8 b0 b1 b2 b3 b4 b5 b6 b7 b8
  generalize (w2.alloc (.cells #[.int .i64 xo, .int .i64 x0, .int .i64 x1, .int .i64 x2, .int .i64 x3, .int .i64 x4, .int .i64 x5, .int .i64 xv, .slice A k.len c, .int .i64 yo, .int .i64 y0, .int .i64 y1, .int .i64 y2, .int .i64 y3, .int .i64 y4, .int .i64 y5, .int .i64 yv, .slice B l.len d] 26)).alloc (.cells #[.int .i64 3, .int .i64 0, .int .i64 0, .int .i64 0, .int .i64 0, .int .i64 0, .int .i64 0, .int .i64 0, .slice (some ⟨w2.heap.size, 0, none⟩) 2 2] 26) = w3 at *
  generalize w2.heap.size = gm at *
  have CF3 := Lib.hid (fun w' h => CF.out gl gm w' h)
  clear CF
  cases fw with
  | false =>
    clear HS VA VB V1 V3 W1 JV VR
    obtain ⟨m0, m1, m2, m3, m4, m5, m6, m7, m8⟩ := I3.out.one.cells
    go_wp2_with fail
    refine (CF3.out _ I3.out).mono ?_
    rintro ev w4 ⟨rfl, nb⟩
    have I4 := Lib.hid (I3.out.keep nb)
    clear nb I3 m0 m1 m2 m3 m4 m5 m6 m7 m8
    go_wp2_with fail
    refine (AW.out _).mono ?_
    rintro ev w99 ⟨rfl, nb⟩
    have J9 := Lib.hid (I4.out.keep nb)
    clear nb
    go_wp2
    go_ret
    exact ⟨rfl, J9.out.below⟩
  | true =>
    obtain ⟨hs1, hs2, hs3⟩ := HS.out rfl
    have CA := Lib.hid (fun w' (h : IJ w gl gm #[.int .i64 xo, .int .i64 x0, .int .i64 x1, .int .i64 x2, .int .i64 x3, .int .i64 x4, .int .i64 x5, .int .i64 xv, .slice A k.len c, .int .i64 yo, .int .i64 y0, .int .i64 y1, .int .i64 y2, .int .i64 y3, .int .i64 y4, .int .i64 y5, .int .i64 yv, .slice B l.len d] (.int .i64 xo) (.int .i64 x0) (.int .i64 x1) (.int .i64 x2) (.int .i64 x3) (.int .i64 x4) (.int .i64 x5) (.int .i64 xv) (.slice A k.len c) (.int .i64 yo) (.int .i64 y0) (.int .i64 y1) (.int .i64 y2) (.int .i64 y3) (.int .i64 y4) (.int .i64 y5) (.int .i64 yv) (.slice B l.len d) [q0, q1, q2, q3, q4, q5] w') => (VA.out hs1 w' h.below).1)
    have RA_ := Lib.hid (fun w' (h : IJ w gl gm #[.int .i64 xo, .int .i64 x0, .int .i64 x1, .int .i64 x2, .int .i64 x3, .int .i64 x4, .int .i64 x5, .int .i64 xv, .slice A k.len c, .int .i64 yo, .int .i64 y0, .int .i64 y1, .int .i64 y2, .int .i64 y3, .int .i64 y4, .int .i64 y5, .int .i64 yv, .slice B l.len d] (.int .i64 xo) (.int .i64 x0) (.int .i64 x1) (.int .i64 x2) (.int .i64 x3) (.int .i64 x4) (.int .i64 x5) (.int .i64 xv) (.slice A k.len c) (.int .i64 yo) (.int .i64 y0) (.int .i64 y1) (.int .i64 y2) (.int .i64 y3) (.int .i64 y4) (.int .i64 y5) (.int .i64 yv) (.slice B l.len d) [q0, q1, q2, q3, q4, q5] w') => (VA.out hs1 w' h.below).2)
    have CB := Lib.hid (fun w' (h : IJ w gl gm #[.int .i64 xo, .int .i64 x0, .int .i64 x1, .int .i64 x2, .int .i64 x3, .int .i64 x4, .int .i64 x5, .int .i64 xv, .slice A k.len c, .int .i64 yo, .int .i64 y0, .int .i64 y1, .int .i64 y2, .int .i64 y3, .int .i64 y4, .int .i64 y5, .int .i64 yv, .slice B l.len d] (.int .i64 xo) (.int .i64 x0) (.int .i64 x1) (.int .i64 x2) (.int .i64 x3) (.int .i64 x4) (.int .i64 x5) (.int .i64 xv) (.slice A k.len c) (.int .i64 yo) (.int .i64 y0) (.int .i64 y1) (.int .i64 y2) (.int .i64 y3) (.int .i64 y4) (.int .i64 y5) (.int .i64 yv) (.slice B l.len d) [q0, q1, q2, q3, q4, q5] w') => (VB.out hs2 w' h.below).1)
    have RB_ := Lib.hid (fun w' (h : IJ w gl gm #[.int .i64 xo, .int .i64 x0, .int .i64 x1, .int .i64 x2, .int .i64 x3, .int .i64 x4, .int .i64 x5, .int .i64 xv, .slice A k.len c, .int .i64 yo, .int .i64 y0, .int .i64 y1, .int .i64 y2, .int .i64 y3, .int .i64 y4, .int .i64 y5, .int .i64 yv, .slice B l.len d] (.int .i64 xo) (.int .i64 x0) (.int .i64 x1) (.int .i64 x2) (.int .i64 x3) (.int .i64 x4) (.int .i64 x5) (.int .i64 xv) (.slice A k.len c) (.int .i64 yo) (.int .i64 y0) (.int .i64 y1) (.int .i64 y2) (.int .i64 y3) (.int .i64 y4) (.int .i64 y5) (.int .i64 yv) (.slice B l.len d) [q0, q1, q2, q3, q4, q5] w') => (VB.out hs2 w' h.below).2)
    have C1 := Lib.hid (fun w' h => V1.out hs3 gl gm w' h)
    have R1_ := Lib.hid (fun w' h => W1.out hs3 gl gm w' h)
    have C3 := Lib.hid (fun w' h => V3.out hs3 gl gm w' h)
    clear HS VA VB V1 V3 W1 hs1 hs2 hs3
    obtain ⟨m0, m1, m2, m3, m4, m5, m6, m7, m8⟩ := I3.out.one.cells
    go_wp2_with fail
    refine (CF3.out _ I3.out).mono ?_
    rintro ev w4 ⟨rfl, nb⟩
    have I4 := Lib.hid (I3.out.keep nb)
    clear nb I3 m0 m1 m2 m3 m4 m5 m6 m7 m8
    by_cases hva : va = 0
    · have hz : (va == 0) = true := beq_iff_eq.2 hva
      obtain ⟨a0, a1, a2, a3, a4, a5, a6, a7, a8⟩ := I4.out.a.cells
      obtain ⟨r0, r1, r2, r3, r4, r5⟩ := cells6 I4.out.q
      go_wp2_with fail
      refine (RA_.out _ I4.out).mono ?_
      rintro ev w5 ⟨rfl, nb⟩
      have I5 := Lib.hid (I4.out.keep nb)
      clear nb I4 a0 a1 a2 a3 a4 a5 a6 a7 a8 r0 r1 r2 r3 r4 r5
      go_wp2_with fail
      refine (AW.out _).mono ?_
      rintro ev w99 ⟨rfl, nb⟩
      have J9 := Lib.hid (I5.out.keep nb)
      clear nb
      go_wp2
      go_ret
      exact ⟨rfl, J9.out.below⟩
    have hza : (va == 0) = false := beq_eq_false_iff_ne.2 hva
    obtain ⟨a0, a1, a2, a3, a4, a5, a6, a7, a8⟩ := I4.out.a.cells
    obtain ⟨r0, r1, r2, r3, r4, r5⟩ := cells6 I4.out.q
    go_wp2_with fail
    refine (RA_.out _ I4.out).mono ?_
    rintro ev w5 ⟨rfl, nb⟩
    have I5 := Lib.hid (I4.out.keep nb)
    clear nb I4 a0 a1 a2 a3 a4 a5 a6 a7 a8 r0 r1 r2 r3 r4 r5
    by_cases hvb : vb = 0
    · have hz : (vb == 0) = true := beq_iff_eq.2 hvb
      obtain ⟨b0, b1, b2, b3, b4, b5, b6, b7, b8⟩ := I5.out.b.cells
      obtain ⟨r0, r1, r2, r3, r4, r5⟩ := cells6 I5.out.q
      go_wp2_with fail
      refine (RB_.out _ I5.out).mono ?_
      rintro ev w6 ⟨rfl, nb⟩
      have I6 := Lib.hid (I5.out.keep nb)
      clear nb I5 b0 b1 b2 b3 b4 b5 b6 b7 b8 r0 r1 r2 r3 r4 r5
      go_wp2_with fail
      refine (AW.out _).mono ?_
      rintro ev w99 ⟨rfl, nb⟩
      have J9 := Lib.hid (I6.out.keep nb)
      clear nb
      go_wp2
      go_ret
      exact ⟨rfl, J9.out.below⟩
    have hzb : (vb == 0) = false := beq_eq_false_iff_ne.2 hvb
    obtain ⟨b0, b1, b2, b3, b4, b5, b6, b7, b8⟩ := I5.out.b.cells
    obtain ⟨r0, r1, r2, r3, r4, r5⟩ := cells6 I5.out.q
    go_wp2_with fail
    refine (RB_.out _ I5.out).mono ?_
    rintro ev w6 ⟨rfl, nb⟩
    have I6 := Lib.hid (I5.out.keep nb)
    clear nb I5 b0 b1 b2 b3 b4 b5 b6 b7 b8 r0 r1 r2 r3 r4 r5
    by_cases hv1 : v1 = 0
    · have hz : (v1 == 0) = true := beq_iff_eq.2 hv1
      obtain ⟨m0, m1, m2, m3, m4, m5, m6, m7, m8⟩ := I6.out.one.cells
      obtain ⟨r0, r1, r2, r3, r4, r5⟩ := cells6 I6.out.q
      go_wp2_with fail
      refine (R1_.out _ I6.out).mono ?_
      rintro ev w7 ⟨rfl, nb⟩
      have I7 := Lib.hid (I6.out.keep nb)
      clear nb I6 m0 m1 m2 m3 m4 m5 m6 m7 m8 r0 r1 r2 r3 r4 r5
      go_wp2_with fail
      refine (AW.out _).mono ?_
      rintro ev w99 ⟨rfl, nb⟩
      have J9 := Lib.hid (I7.out.keep nb)
      clear nb
      go_wp2
      go_ret
      exact ⟨rfl, J9.out.below⟩
    have hz1 : (v1 == 0) = false := beq_eq_false_iff_ne.2 hv1
    obtain ⟨m0, m1, m2, m3, m4, m5, m6, m7, m8⟩ := I6.out.one.cells
    obtain ⟨r0, r1, r2, r3, r4, r5⟩ := cells6 I6.out.q
    go_wp2_with fail
    refine (R1_.out _ I6.out).mono ?_
    rintro ev w7 ⟨rfl, nb⟩
    have I7 := Lib.hid (I6.out.keep nb)
    clear nb I6 m0 m1 m2 m3 m4 m5 m6 m7 m8 r0 r1 r2 r3 r4 r5
    have HV := Lib.hid (JV.out hva hvb hv1)
    have HR := Lib.hid (show 0 ≤ va ∧ va ≤ 1000000 ∧ 0 ≤ vb ∧ vb ≤ 1000000 from ⟨VR.out.1.1, VR.out.1.2, VR.out.2.1, VR.out.2.2⟩)
    clear JV VR RA_ RB_ R1_ CF3 hva hvb hv1
    go_wp2_with fail
    have I20 := Lib.hid (I7.out.keep (below_drawn _))
    clear I7
    refine wp_region_held_drew (S := fun w' => B9 w' w.heap.size (.int .i64 xo) (.int .i64 x0) (.int .i64 x1) (.int .i64 x2) (.int .i64 x3) (.int .i64 x4) (.int .i64 x5) (.int .i64 xv) (.slice A k.len c) ∧ B9 w' (w.heap.size + 1) (.int .i64 yo) (.int .i64 y0) (.int .i64 y1) (.int .i64 y2) (.int .i64 y3) (.int .i64 y4) (.int .i64 y5) (.int .i64 yv) (.slice B l.len d) ∧ BB w' (w.heap.size + 1 + 1) 23 [q0, q1, q2, q3, q4, q5]) (by kernel_rfl) ⟨I20.out.a, I20.out.b, I20.out.q⟩ (fun hHeld => ?_)
    generalize (World.drew _) = Y at *
    refine wpAnyH_take (i := 0) (oi := { dst := some 43, op := Op.load 26 (Operand.tmp 3), type := 26, pos := "law.go:89", after := #[], guard := none }) (v := ?_) rfl (by kernel_rfl) (by kernel_rfl) (by kernel_rfl) (fun _ _ _ h => h) (Or.inl ⟨by rfl, ?_⟩) (by assumption) ?_
    rotate_left
    · intro w hSw; (try dsimp only at hSw); obtain ⟨hE, hF, hB⟩ := hSw; obtain ⟨e0, e1, e2, e3, e4, e5, e6, e7, e8⟩ := hE.cells; obtain ⟨f0, f1, f2, f3, f4, f5, f6, f7, f8⟩ := hF.cells; obtain ⟨r0, r1, r2, r3, r4, r5⟩ := cells6 hB; go_simp; try with_reducible rfl
    (try simp only [Act.put, List.setIfInBounds_toArray, List.set_cons_zero, List.set_cons_succ])
    refine wpAnyH_take (i := 1) (oi := { dst := some 44, op := Op.load 23 (Operand.tmp 5), type := 23, pos := "law.go:89", after := #[], guard := none }) (v := ?_) rfl (by kernel_rfl) (by kernel_rfl) (by kernel_rfl) (fun _ _ _ h => h) (Or.inl ⟨by rfl, ?_⟩) (by assumption) ?_
    rotate_left
    · intro w hSw; (try dsimp only at hSw); obtain ⟨hE, hF, hB⟩ := hSw; obtain ⟨e0, e1, e2, e3, e4, e5, e6, e7, e8⟩ := hE.cells; obtain ⟨f0, f1, f2, f3, f4, f5, f6, f7, f8⟩ := hF.cells; obtain ⟨r0, r1, r2, r3, r4, r5⟩ := cells6 hB; go_simp; try with_reducible rfl
    (try simp only [Act.put, List.setIfInBounds_toArray, List.set_cons_zero, List.set_cons_succ])
    refine wpAnyH_take (i := 3) (oi := { dst := some 46, op := Op.load 26 (Operand.tmp 4), type := 26, pos := "law.go:89", after := #[], guard := none }) (v := ?_) rfl (by kernel_rfl) (by kernel_rfl) (by kernel_rfl) (fun _ _ _ h => h) (Or.inl ⟨by rfl, ?_⟩) (by assumption) ?_
    rotate_left
    · intro w hSw; (try dsimp only at hSw); obtain ⟨hE, hF, hB⟩ := hSw; obtain ⟨e0, e1, e2, e3, e4, e5, e6, e7, e8⟩ := hE.cells; obtain ⟨f0, f1, f2, f3, f4, f5, f6, f7, f8⟩ := hF.cells; obtain ⟨r0, r1, r2, r3, r4, r5⟩ := cells6 hB; go_simp; try with_reducible rfl
    (try simp only [Act.put, List.setIfInBounds_toArray, List.set_cons_zero, List.set_cons_succ])
    refine wpAnyH_take (i := 4) (oi := { dst := some 47, op := Op.load 23 (Operand.tmp 5), type := 23, pos := "law.go:89", after := #[], guard := none }) (v := ?_) rfl (by kernel_rfl) (by kernel_rfl) (by kernel_rfl) (fun _ _ _ h => h) (Or.inl ⟨by rfl, ?_⟩) (by assumption) ?_
    rotate_left
    · intro w hSw; (try dsimp only at hSw); obtain ⟨hE, hF, hB⟩ := hSw; obtain ⟨e0, e1, e2, e3, e4, e5, e6, e7, e8⟩ := hE.cells; obtain ⟨f0, f1, f2, f3, f4, f5, f6, f7, f8⟩ := hF.cells; obtain ⟨r0, r1, r2, r3, r4, r5⟩ := cells6 hB; go_simp; try with_reducible rfl
    (try simp only [Act.put, List.setIfInBounds_toArray, List.set_cons_zero, List.set_cons_succ])
    refine wpAnyH_ready (rs := [2]) (by kernel_rfl) (by simp) ?_
    refine AllReadyH.cons (o := { dst := some 45, op := Op.call { callee := Callee.value (Operand.func 18), args := #[Operand.tmp 43, Operand.tmp 44], argTypes := #[26, 23] }, type := 2, pos := "law.go:89", after := #[{ on := 0, ground := Ground.data }, { on := 1, ground := Ground.data }], guard := none }) rfl (fun K hK => ?_) AllReadyH.nil
    go_simp
    refine (CA.out _ I20.out).mono ?_
    rintro ev w21 ⟨rfl, nb⟩
    have I21 := Lib.hid (I20.out.keep nb)
    clear nb I20
    refine hK.out _ _ ?_ (fun hHeld => ?_)
    · exact ⟨I21.out.a, I21.out.b, I21.out.q⟩
    clear hK K
    (try simp only [Act.put, List.setIfInBounds_toArray, List.set_cons_zero, List.set_cons_succ])
    refine wpAnyH_ready (rs := [5]) (by kernel_rfl) (by simp) ?_
    refine AllReadyH.cons (o := { dst := some 48, op := Op.call { callee := Callee.value (Operand.func 18), args := #[Operand.tmp 46, Operand.tmp 47], argTypes := #[26, 23] }, type := 2, pos := "law.go:89", after := #[{ on := 3, ground := Ground.data }, { on := 4, ground := Ground.data }, { on := 2, ground := Ground.chain }], guard := none }) rfl (fun K hK => ?_) AllReadyH.nil
    go_simp
    refine (CB.out _ I21.out).mono ?_
    rintro ev w22 ⟨rfl, nb⟩
    have I22 := Lib.hid (I21.out.keep nb)
    clear nb I21
    refine hK.out _ _ ?_ (fun hHeld => ?_)
    · exact ⟨I22.out.a, I22.out.b, I22.out.q⟩
    clear hK K
    (try simp only [Act.put, List.setIfInBounds_toArray, List.set_cons_zero, List.set_cons_succ])
    refine wpAnyH_take (i := 6) (oi := { dst := some 9, op := Op.assign (Operand.tmp 45), type := 2, pos := "law.go:89", after := #[{ on := 2, ground := Ground.data }, { on := 5, ground := Ground.chain }, { on := 0, ground := Ground.phase }, { on := 1, ground := Ground.phase }, { on := 2, ground := Ground.phase }, { on := 3, ground := Ground.textOnly Departure.lateStores }, { on := 4, ground := Ground.textOnly Departure.lateStores }, { on := 5, ground := Ground.textOnly Departure.lateStoresUnsure }], guard := none }) (v := ?_) rfl (by kernel_rfl) (by kernel_rfl) (by kernel_rfl) (fun _ _ _ h => h) (Or.inl ⟨by rfl, ?_⟩) (by assumption) ?_
    rotate_left
    · intro w hSw; (try dsimp only at hSw); obtain ⟨hE, hF, hB⟩ := hSw; obtain ⟨e0, e1, e2, e3, e4, e5, e6, e7, e8⟩ := hE.cells; obtain ⟨f0, f1, f2, f3, f4, f5, f6, f7, f8⟩ := hF.cells; obtain ⟨r0, r1, r2, r3, r4, r5⟩ := cells6 hB; go_simp; try with_reducible rfl
    (try simp only [Act.put, List.setIfInBounds_toArray, List.set_cons_zero, List.set_cons_succ])
    refine wpAnyH_take (i := 7) (oi := { dst := some 10, op := Op.assign (Operand.tmp 48), type := 2, pos := "law.go:89", after := #[{ on := 5, ground := Ground.data }, { on := 6, ground := Ground.chain }, { on := 0, ground := Ground.phase }, { on := 1, ground := Ground.phase }, { on := 2, ground := Ground.phase }, { on := 3, ground := Ground.phase }, { on := 4, ground := Ground.phase }, { on := 5, ground := Ground.phase }, { on := 6, ground := Ground.phase }], guard := none }) (v := ?_) rfl (by kernel_rfl) (by kernel_rfl) (by kernel_rfl) (fun _ _ _ h => h) (Or.inl ⟨by rfl, ?_⟩) (by assumption) ?_
    rotate_left
    · intro w hSw; (try dsimp only at hSw); obtain ⟨hE, hF, hB⟩ := hSw; obtain ⟨e0, e1, e2, e3, e4, e5, e6, e7, e8⟩ := hE.cells; obtain ⟨f0, f1, f2, f3, f4, f5, f6, f7, f8⟩ := hF.cells; obtain ⟨r0, r1, r2, r3, r4, r5⟩ := cells6 hB; go_simp; try with_reducible rfl
    (try simp only [Act.put, List.setIfInBounds_toArray, List.set_cons_zero, List.set_cons_succ])
    refine wpAnyH_done (by kernel_rfl) ?_ _
    clear hHeld
    go_wp2_with fail
    have I23 := Lib.hid (I22.out.keep (below_drawn _))
    clear I22
    refine wp_region_held_drew (S := fun w' => B9 w' (gl + 1) (.int .i64 2) (.int .i64 0) (.int .i64 0) (.int .i64 0) (.int .i64 0) (.int .i64 0) (.int .i64 0) (.int .i64 0) (.slice (some ⟨gl, 0, none⟩) 2 2) ∧ B9 w' (gm + 1) (.int .i64 3) (.int .i64 0) (.int .i64 0) (.int .i64 0) (.int .i64 0) (.int .i64 0) (.int .i64 0) (.int .i64 0) (.slice (some ⟨gm, 0, none⟩) 2 2) ∧ BB w' (w.heap.size + 1 + 1) 23 [q0, q1, q2, q3, q4, q5]) (by kernel_rfl) ⟨I23.out.one, I23.out.all, I23.out.q⟩ (fun hHeld => ?_)
    generalize (World.drew _) = Z23 at *
    refine wpAnyH_take (i := 0) (oi := { dst := some 49, op := Op.load 26 (Operand.tmp 7), type := 26, pos := "law.go:90", after := #[], guard := none }) (v := ?_) rfl (by kernel_rfl) (by kernel_rfl) (by kernel_rfl) (fun _ _ _ h => h) (Or.inl ⟨by rfl, ?_⟩) (by assumption) ?_
    rotate_left
    · intro w hSw; (try dsimp only at hSw); obtain ⟨hE, hF, hB⟩ := hSw; obtain ⟨e0, e1, e2, e3, e4, e5, e6, e7, e8⟩ := hE.cells; obtain ⟨f0, f1, f2, f3, f4, f5, f6, f7, f8⟩ := hF.cells; obtain ⟨r0, r1, r2, r3, r4, r5⟩ := cells6 hB; go_simp; try with_reducible rfl
    (try simp only [Act.put, List.setIfInBounds_toArray, List.set_cons_zero, List.set_cons_succ])
    refine wpAnyH_take (i := 1) (oi := { dst := some 50, op := Op.load 23 (Operand.tmp 5), type := 23, pos := "law.go:90", after := #[], guard := none }) (v := ?_) rfl (by kernel_rfl) (by kernel_rfl) (by kernel_rfl) (fun _ _ _ h => h) (Or.inl ⟨by rfl, ?_⟩) (by assumption) ?_
    rotate_left
    · intro w hSw; (try dsimp only at hSw); obtain ⟨hE, hF, hB⟩ := hSw; obtain ⟨e0, e1, e2, e3, e4, e5, e6, e7, e8⟩ := hE.cells; obtain ⟨f0, f1, f2, f3, f4, f5, f6, f7, f8⟩ := hF.cells; obtain ⟨r0, r1, r2, r3, r4, r5⟩ := cells6 hB; go_simp; try with_reducible rfl
    (try simp only [Act.put, List.setIfInBounds_toArray, List.set_cons_zero, List.set_cons_succ])
    refine wpAnyH_take (i := 3) (oi := { dst := some 52, op := Op.load 26 (Operand.tmp 8), type := 26, pos := "law.go:90", after := #[], guard := none }) (v := ?_) rfl (by kernel_rfl) (by kernel_rfl) (by kernel_rfl) (fun _ _ _ h => h) (Or.inl ⟨by rfl, ?_⟩) (by assumption) ?_
    rotate_left
    · intro w hSw; (try dsimp only at hSw); obtain ⟨hE, hF, hB⟩ := hSw; obtain ⟨e0, e1, e2, e3, e4, e5, e6, e7, e8⟩ := hE.cells; obtain ⟨f0, f1, f2, f3, f4, f5, f6, f7, f8⟩ := hF.cells; obtain ⟨r0, r1, r2, r3, r4, r5⟩ := cells6 hB; go_simp; try with_reducible rfl
    (try simp only [Act.put, List.setIfInBounds_toArray, List.set_cons_zero, List.set_cons_succ])
    refine wpAnyH_take (i := 4) (oi := { dst := some 53, op := Op.load 23 (Operand.tmp 5), type := 23, pos := "law.go:90", after := #[], guard := none }) (v := ?_) rfl (by kernel_rfl) (by kernel_rfl) (by kernel_rfl) (fun _ _ _ h => h) (Or.inl ⟨by rfl, ?_⟩) (by assumption) ?_
    rotate_left
    · intro w hSw; (try dsimp only at hSw); obtain ⟨hE, hF, hB⟩ := hSw; obtain ⟨e0, e1, e2, e3, e4, e5, e6, e7, e8⟩ := hE.cells; obtain ⟨f0, f1, f2, f3, f4, f5, f6, f7, f8⟩ := hF.cells; obtain ⟨r0, r1, r2, r3, r4, r5⟩ := cells6 hB; go_simp; try with_reducible rfl
    (try simp only [Act.put, List.setIfInBounds_toArray, List.set_cons_zero, List.set_cons_succ])
    refine wpAnyH_ready (rs := [2]) (by kernel_rfl) (by simp) ?_
    refine AllReadyH.cons (o := { dst := some 51, op := Op.call { callee := Callee.value (Operand.func 18), args := #[Operand.tmp 49, Operand.tmp 50], argTypes := #[26, 23] }, type := 2, pos := "law.go:90", after := #[{ on := 0, ground := Ground.data }, { on := 1, ground := Ground.data }], guard := none }) rfl (fun K hK => ?_) AllReadyH.nil
    go_simp
    refine (C1.out _ I23.out).mono ?_
    rintro ev w24 ⟨rfl, nb⟩
    have I24 := Lib.hid (I23.out.keep nb)
    clear nb I23
    refine hK.out _ _ ?_ (fun hHeld => ?_)
    · exact ⟨I24.out.one, I24.out.all, I24.out.q⟩
    clear hK K
    (try simp only [Act.put, List.setIfInBounds_toArray, List.set_cons_zero, List.set_cons_succ])
    refine wpAnyH_ready (rs := [5]) (by kernel_rfl) (by simp) ?_
    refine AllReadyH.cons (o := { dst := some 54, op := Op.call { callee := Callee.value (Operand.func 18), args := #[Operand.tmp 52, Operand.tmp 53], argTypes := #[26, 23] }, type := 2, pos := "law.go:90", after := #[{ on := 3, ground := Ground.data }, { on := 4, ground := Ground.data }, { on := 2, ground := Ground.chain }], guard := none }) rfl (fun K hK => ?_) AllReadyH.nil
    go_simp
    refine (C3.out _ I24.out).mono ?_
    rintro ev w25 ⟨rfl, nb⟩
    have I25 := Lib.hid (I24.out.keep nb)
    clear nb I24
    refine hK.out _ _ ?_ (fun hHeld => ?_)
    · exact ⟨I25.out.one, I25.out.all, I25.out.q⟩
    clear hK K
    (try simp only [Act.put, List.setIfInBounds_toArray, List.set_cons_zero, List.set_cons_succ])
    refine wpAnyH_take (i := 6) (oi := { dst := some 11, op := Op.assign (Operand.tmp 51), type := 2, pos := "law.go:90", after := #[{ on := 2, ground := Ground.data }, { on := 5, ground := Ground.chain }, { on := 0, ground := Ground.phase }, { on := 1, ground := Ground.phase }, { on := 2, ground := Ground.phase }, { on := 3, ground := Ground.textOnly Departure.lateStores }, { on := 4, ground := Ground.textOnly Departure.lateStores }, { on := 5, ground := Ground.textOnly Departure.lateStoresUnsure }], guard := none }) (v := ?_) rfl (by kernel_rfl) (by kernel_rfl) (by kernel_rfl) (fun _ _ _ h => h) (Or.inl ⟨by rfl, ?_⟩) (by assumption) ?_
    rotate_left
    · intro w hSw; (try dsimp only at hSw); obtain ⟨hE, hF, hB⟩ := hSw; obtain ⟨e0, e1, e2, e3, e4, e5, e6, e7, e8⟩ := hE.cells; obtain ⟨f0, f1, f2, f3, f4, f5, f6, f7, f8⟩ := hF.cells; obtain ⟨r0, r1, r2, r3, r4, r5⟩ := cells6 hB; go_simp; try with_reducible rfl
    (try simp only [Act.put, List.setIfInBounds_toArray, List.set_cons_zero, List.set_cons_succ])
    refine wpAnyH_take (i := 7) (oi := { dst := some 12, op := Op.assign (Operand.tmp 54), type := 2, pos := "law.go:90", after := #[{ on := 5, ground := Ground.data }, { on := 6, ground := Ground.chain }, { on := 0, ground := Ground.phase }, { on := 1, ground := Ground.phase }, { on := 2, ground := Ground.phase }, { on := 3, ground := Ground.phase }, { on := 4, ground := Ground.phase }, { on := 5, ground := Ground.phase }, { on := 6, ground := Ground.phase }], guard := none }) (v := ?_) rfl (by kernel_rfl) (by kernel_rfl) (by kernel_rfl) (fun _ _ _ h => h) (Or.inl ⟨by rfl, ?_⟩) (by assumption) ?_
    rotate_left
    · intro w hSw; (try dsimp only at hSw); obtain ⟨hE, hF, hB⟩ := hSw; obtain ⟨e0, e1, e2, e3, e4, e5, e6, e7, e8⟩ := hE.cells; obtain ⟨f0, f1, f2, f3, f4, f5, f6, f7, f8⟩ := hF.cells; obtain ⟨r0, r1, r2, r3, r4, r5⟩ := cells6 hB; go_simp; try with_reducible rfl
    (try simp only [Act.put, List.setIfInBounds_toArray, List.set_cons_zero, List.set_cons_succ])
    refine wpAnyH_done (by kernel_rfl) ?_ _
    clear hHeld
    by_cases hmx : va < vb
    · have hmd : decide (va < vb) = true := decide_eq_true hmx
      have hq : (v1 == vb) = true := beq_iff_eq.2 (by have := HV.out.1; omega)
      have hg : decide (v1 ≤ v3) = true := decide_eq_true HV.out.2.1
      have hs : wrap64 (va + vb) = va + vb := by have := HR.out; unfold wrap64; omega
      have hl : decide (v3 ≤ va + vb) = true := decide_eq_true HV.out.2.2
      go_wp2_with fail
      refine (AW.out _).mono ?_
      rintro ev w99 ⟨rfl, nb⟩
      have J9 := Lib.hid (I25.out.keep nb)
      clear nb
      go_wp2
      go_ret
      exact ⟨rfl, J9.out.below⟩
    · have hmd : decide (va < vb) = false := decide_eq_false hmx
      have hq : (v1 == va) = true := beq_iff_eq.2 (by have := HV.out.1; omega)
      have hg : decide (v1 ≤ v3) = true := decide_eq_true HV.out.2.1
      have hs : wrap64 (va + vb) = va + vb := by have := HR.out; unfold wrap64; omega
      have hl : decide (v3 ≤ va + vb) = true := decide_eq_true HV.out.2.2
      go_wp2_with fail
      refine (AW.out _).mono ?_
      rintro ev w99 ⟨rfl, nb⟩
      have J9 := Lib.hid (I25.out.keep nb)
      clear nb
      go_wp2
      go_ret
      exact ⟨rfl, J9.out.below⟩
end Go.Proofs.Ytgknggighpjcdaa
