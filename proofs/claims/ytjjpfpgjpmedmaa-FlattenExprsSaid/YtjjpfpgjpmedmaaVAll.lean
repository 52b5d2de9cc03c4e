/- The reference's all. No claim of its own. -/
import Derived.Test.YtjjpfpgjpmedmaaJVR
import Derived.Test.YtjjpfpgjpmedmaaJVL
import Derived.Test.YtjjpfpgjpmedmaaMathVF
namespace Go.Proofs.Ytjjpfpgjpmedmaa
open Go.RowKit
theorem VV.fin_in {o : Int} {b : List Int} {v : Int} {f : List Int → Int} {x : List Int} {c : Int} (ho : o = 1 ∨ o = 4) (hw : VV.leB b x = true) (hc : f x = c) : VV.finV o b v f x = min (c + v) 1000000 := by
  unfold VV.finV VV.limV VV.addV
  rw [if_neg (by omega), if_pos ⟨ho, hw⟩, hc]; omega
theorem VV.fin_out {o : Int} {b : List Int} {v : Int} {f : List Int → Int} {x : List Int} {c : Int} (ho : o = 1 ∨ o = 4) (hw : VV.leB b x = false) (hc : f x = c) : VV.finV o b v f x = min c 1000000 := by
  unfold VV.finV VV.limV VV.addV
  rw [if_neg (by omega), if_neg (by rw [hw]; simp), hc]; omega
theorem VV.fin_lim {b : List Int} {v : Int} {f : List Int → Int} {x : List Int} {c : Int} (hc : f x = c) : VV.finV 5 b v f x = min 1000000 (min c v) := by
  unfold VV.finV VV.limV VV.addV
  rw [if_pos rfl, if_neg (by omega), hc]; omega
theorem VV.fin_no {o : Int} {b : List Int} {v : Int} {f : List Int → Int} {x : List Int} {c : Int} (ho : o = 2 ∨ o = 3) (hc : f x = c) : VV.finV o b v f x = min c 1000000 := by
  unfold VV.finV VV.limV VV.addV
  rw [if_neg (by omega), if_neg (by omega), hc]; omega
theorem args_max9 {o : Int} {fs : List (List Int → Int)} {g : List Int → Int} {s : List Int} {n : Nat} (h : o ≠ 3 ∨ fs.length = 0) : ∀ k, k < n → VV.maxG (VV.argsV o fs) g s n k = VV.argsV o (fs ++ [g]) (VV.at6 s k) := fun k hk => by
  rw [VV.args_max (fun q => by rcases h with h | h; exact h q.1; omega)]; unfold VV.maxG; rw [if_pos hk]
/-- The expression, the supply and the table to be. -/
structure RA (w : World) (u0 u1 u2 u3 u4 u5 u6 u7 u8 : Value) (s : List Int) (Bo n : Nat) (go : Nat → Int) (X : World) : Prop where
  below : Below w.heap.size w X
  e : B9 X w.heap.size u0 u1 u2 u3 u4 u5 u6 u7 u8
  s : BB X (w.heap.size + 1) 24 s
  out : Blk X Bo (F go n) 2
  bo : w.heap.size + 1 < Bo
section
variable {w X Y : World} {u0 u1 u2 u3 u4 u5 u6 u7 u8 : Value} {s : List Int} {Bo n : Nat} {go go' : Nat → Int}
theorem RA.same (h : RA w u0 u1 u2 u3 u4 u5 u6 u7 u8 s Bo n go X) (e : ∀ k, k < n → go k = go' k) : RA w u0 u1 u2 u3 u4 u5 u6 u7 u8 s Bo n go' X :=
  ⟨h.below, h.e, h.s, by rw [← F_congr e]; exact h.out, h.bo⟩
theorem RA.keep (h : RA w u0 u1 u2 u3 u4 u5 u6 u7 u8 s Bo n go X) (hb : Below X.heap.size X Y) : RA w u0 u1 u2 u3 u4 u5 u6 u7 u8 s Bo n go Y :=
  ⟨h.below.trans (hb.mono h.below.size), h.e.keep hb, h.s.keep hb h.s.lt, h.out.keep hb, h.bo⟩
theorem RA.put (h : RA w u0 u1 u2 u3 u4 u5 u6 u7 u8 s Bo n go X) {i : Nat} {v : Int} (hgo : ∀ k, k < n → go' k = if k = i then v else go k) : RA w u0 u1 u2 u3 u4 u5 u6 u7 u8 s Bo n go' (X.setCell ⟨Bo, i, none⟩ (.int .i64 v)) := by
  have hw := h.bo
  refine ⟨h.below.setCell (p := ⟨Bo, i, none⟩) (by show w.heap.size ≤ Bo; omega) _, h.e.same (Below.heap_setCell _ _ _ _ (fun e => by have : w.heap.size = Bo := e; omega)), h.s.other _ (by omega), ?_, h.bo⟩
  have := h.out.set i (.int .i64 v)
  rwa [F_set go go' v hgo] at this
end
attribute [local go_sem] Oper.semAt_some
set_option maxRecDepth 100000 in
set_option maxHeartbeats 16000000 in
theorem rall_node (o x0 x1 x2 x3 x4 x5 v q0 q1 q2 q3 q4 q5 : Int) (A : Option Addr) (c : Nat) (k : FT) (ok : Nat → Prop) (w : World) (hoq : MB.okB [q0, q1, q2, q3, q4, q5] = true) (hkl : k.len ≤ 8) (hv0 : 0 ≤ v) (hv1 : v ≤ 1000000) (hway : o = 1 ∨ o = 2 ∨ o = 3 ∨ o = 4 ∨ o = 5) (hkids : Kids w ok A c k) (hbd : ∀ g ∈ VV.valF k.f, VV.In 1000000 g)
    (IH : ∀ y : NT, y.n ∈ k.f.roots → ∀ (w' : World) (ok' : Nat → Prop), y.Ok w' ok' → Calls Try.prog 40 #[y.val, .agg #[.int .i64 q0, .int .i64 q1, .int .i64 q2, .int .i64 q3, .int .i64 q4, .int .i64 q5]] w' (GivesB (fun i => VV.valN y.n (VV.at6 [q0, q1, q2, q3, q4, q5] i)) (VV.cnt [q0, q1, q2, q3, q4, q5]) w')) :
    Calls Try.prog 40 #[.agg #[.int .i64 o, .int .i64 x0, .int .i64 x1, .int .i64 x2, .int .i64 x3, .int .i64 x4, .int .i64 x5, .int .i64 v, .slice A k.len c], .agg #[.int .i64 q0, .int .i64 q1, .int .i64 q2, .int .i64 q3, .int .i64 q4, .int .i64 q5]] w (GivesB (fun i => VV.nodeV o [x0, x1, x2, x3, x4, x5] v (VV.valF k.f) (VV.at6 [q0, q1, q2, q3, q4, q5] i)) (VV.cnt [q0, q1, q2, q3, q4, q5]) w) := by
  obtain ⟨n, hn⟩ : ∃ n, n = VV.cnt [q0, q1, q2, q3, q4, q5] := ⟨_, rfl⟩
  rw [← hn] at IH ⊢
  have CC := Lib.hid (fun w' => count13_any q0 q1 q2 q3 q4 q5 hoq w')
  have hcs := P_small hoq rfl (Nat.le_refl 6)
  rw [show MB.P [q0, q1, q2, q3, q4, q5] 6 = n from hn.symm] at CC hcs
  have HN := Lib.hid hn
  have HOQ := Lib.hid hoq
  have HBU := Lib.hid (VV.bu_of_ok (b := [q0, q1, q2, q3, q4, q5]) rfl hoq)
  have HBD := Lib.hid hbd
  have HIH := Lib.hid IH
  have HK := Lib.hid hkids.rest
  have HWAY := Lib.hid hway
  have hn0 : 0 < n := by rw [hn]; exact VV.cnt_pos _
  clear hn hoq hbd IH hkids hway
  have HB := Lib.hid (below_two w (.cells #[.int .i64 o, .int .i64 x0, .int .i64 x1, .int .i64 x2, .int .i64 x3, .int .i64 x4, .int .i64 x5, .int .i64 v, .slice A k.len c] 28) (.cells #[.int .i64 q0, .int .i64 q1, .int .i64 q2, .int .i64 q3, .int .i64 q4, .int .i64 q5] 24))
  have X0 := Lib.hid (below_new (w.alloc (.cells #[.int .i64 o, .int .i64 x0, .int .i64 x1, .int .i64 x2, .int .i64 x3, .int .i64 x4, .int .i64 x5, .int .i64 v, .slice A k.len c] 28)) (.cells #[.int .i64 q0, .int .i64 q1, .int .i64 q2, .int .i64 q3, .int .i64 q4, .int .i64 q5] 24))
  have E0 := Lib.hid (show B9 ((w.alloc (.cells #[.int .i64 o, .int .i64 x0, .int .i64 x1, .int .i64 x2, .int .i64 x3, .int .i64 x4, .int .i64 x5, .int .i64 v, .slice A k.len c] 28)).alloc (.cells #[.int .i64 q0, .int .i64 q1, .int .i64 q2, .int .i64 q3, .int .i64 q4, .int .i64 q5] 24)) w.heap.size (.int .i64 o) (.int .i64 x0) (.int .i64 x1) (.int .i64 x2) (.int .i64 x3) (.int .i64 x4) (.int .i64 x5) (.int .i64 v) (.slice A k.len c) from (X0.out.block w.heap.size (by simp)).trans (heap_new w _))
  have S0 := Lib.hid (show BB ((w.alloc (.cells #[.int .i64 o, .int .i64 x0, .int .i64 x1, .int .i64 x2, .int .i64 x3, .int .i64 x4, .int .i64 x5, .int .i64 v, .slice A k.len c] 28)).alloc (.cells #[.int .i64 q0, .int .i64 q1, .int .i64 q2, .int .i64 q3, .int .i64 q4, .int .i64 q5] 24)) (w.heap.size + 1) 24 [q0, q1, q2, q3, q4, q5] from by
    have := BB.new (w.alloc (.cells #[.int .i64 o, .int .i64 x0, .int .i64 x1, .int .i64 x2, .int .i64 x3, .int .i64 x4, .int .i64 x5, .int .i64 v, .slice A k.len c] 28)) 24 q0 q1 q2 q3 q4 q5
    rwa [World.size_alloc] at this)
  clear X0
  obtain ⟨i0, hi0, hz0, hz1, hz2⟩ := info_parts infoI64
  go_enter Try.func40, Try.ntmps40
  go_upto_region 1 with (fail)
  generalize (w.alloc (.cells #[.int .i64 o, .int .i64 x0, .int .i64 x1, .int .i64 x2, .int .i64 x3, .int .i64 x4, .int .i64 x5, .int .i64 v, .slice A k.len c] 28)).alloc (.cells #[.int .i64 q0, .int .i64 q1, .int .i64 q2, .int .i64 q3, .int .i64 q4, .int .i64 q5] 24) = w1 at *
  obtain ⟨r0, r1, r2, r3, r4, r5⟩ := cells6 S0.out
  go_wp2_with fail
  refine (CC.out _).mono ?_
  rintro ev w2 ⟨rfl, nb⟩
  have B2 := Lib.hid (HB.out.trans (nb.mono HB.out.size))
  have E2 := Lib.hid (E0.out.keep nb)
  have S2 := Lib.hid (S0.out.keep nb S0.out.lt)
  clear nb HB E0 S0 r0 r1 r2 r3 r4 r5 CC
  obtain ⟨w3, hmk, hown, hg3⟩ := run_makeSlice_full (P := Try.prog) w2 w2.heap.size 64 2 i0 (.int .i64 0) 1 Try.underlying64 hi0 hz0 hz1 .i64 .i64 n (by omega) (by rw [hz2]; omega) (by unfold maxLen; omega) (Nat.le_refl _)
  have AR := Blk.of_own hown
  rw [zeros] at AR
  have n3 : Below w2.heap.size w2 w3 := (Below.refl _ _).grown hg3 (Nat.le_refl _) (fun k e => by cases e)
  have I3 := Lib.hid (show RA w (.int .i64 o) (.int .i64 x0) (.int .i64 x1) (.int .i64 x2) (.int .i64 x3) (.int .i64 x4) (.int .i64 x5) (.int .i64 v) (.slice A k.len c) [q0, q1, q2, q3, q4, q5] w2.heap.size n (fun j => VV.argsV o [] (VV.at6 [q0, q1, q2, q3, q4, q5] j)) w3 from ⟨B2.out.trans (n3.mono B2.out.size), E2.out.keep n3, S2.out.keep n3 S2.out.lt, AR, S2.out.lt⟩)
  go_upto_region 3 with (fail)
  clear hmk hown hg3 AR n3 B2 E2 S2
  generalize w2.heap.size = Bo0 at *
  go_wp2_with fail
  go_loopw [6, 7] (fun s t wr => ∃ (i : Nat) (rs : FT) (fs : List (List Int → Int)) (dn : List ME.Nd) (Bo : Nat), i ≤ k.len ∧ s = .slice (some ⟨Bo, 0, none⟩) n n ∧ t = .int .i64 i ∧ Rest w ok A i rs k.len ∧ k.f.roots = dn ++ rs.f.roots ∧ VV.valF k.f = fs ++ VV.valF rs.f ∧ fs.length = i ∧ RA w (.int .i64 o) (.int .i64 x0) (.int .i64 x1) (.int .i64 x2) (.int .i64 x3) (.int .i64 x4) (.int .i64 x5) (.int .i64 v) (.slice A k.len c) [q0, q1, q2, q3, q4, q5] Bo n (fun j => VV.argsV o fs (VV.at6 [q0, q1, q2, q3, q4, q5] j)) wr) (fun _ t _ => k.len - (intOf t).toNat)
  case atStart => exact ⟨0, k, [], [], Bo0, Nat.zero_le _, rfl, rfl, HK.out, rfl, rfl, rfl, I3.out⟩
  case round =>
    obtain ⟨i, rs, fs, dn, Bo, hi, rfl, rfl, hrest, hroots, hval, hlen, hra⟩ := hrel
    have IR := Lib.hid hra
    have R := Lib.hid hrest
    have RT := Lib.hid hroots
    have VL := Lib.hid hval
    have LN := Lib.hid hlen
    clear hrest hroots hval hlen hra I3 HK
    have HFA := Lib.hid (VV.In.args (o := o) (m := 1000000) (by decide) (fs := fs) (fun g hg => HBD.out g (by rw [VL.out]; exact List.mem_append_left _ hg)))
    by_cases hlt : i < k.len
    · have hRk := R.out.keep (w' := wr) (ok' := ok) (fun k _ hk => IR.out.below.block k hk) IR.out.below.size (fun _ h _ => h)
      obtain ⟨ad, o', z0, z1, z2, z3, z4, z5, v', A', c', k', r, rfl, rfl, hyok, hrest', hadl, _, a0, a1, a2, a3, a4, a5, a6, a7, a8⟩ := hRk.open_ hlt
      have YO := Lib.hid hyok
      have R2 : Hid (Rest w ok (some ad) (i + 1) r k.len) := Lib.hid (by
        obtain ⟨ad2, o2, _, _, _, _, _, _, _, _, _, _, r2, _, hcons, _, hr2, _⟩ := R.out.open_ hlt
        simp only [FT.cons.injEq] at hcons
        obtain ⟨_, _, _, _, _, _, rfl⟩ := hcons
        exact hr2)
      have C4 := Lib.hid (show (ad.add (i * 9)).block < wr.heap.size ∧ Cell9 wr (ad.add (i * 9)) o' z0 z1 z2 z3 z4 z5 v' (.slice A' k'.len c') from ⟨by rw [block_of_add]; exact hadl, a0, a1, a2, a3, a4, a5, a6, a7, a8⟩)
      clear hRk hyok hrest' R a0 a1 a2 a3 a4 a5 a6 a7 a8 hadl
      have hin : NT.n ⟨o', [z0, z1, z2, z3, z4, z5], v', A', c', k'⟩ ∈ k.f.roots := by rw [RT.out]; exact List.mem_append_right _ List.mem_cons_self
      have HC' := Lib.hid (fun w' h => HIH.out ⟨o', [z0, z1, z2, z3, z4, z5], v', A', c', k'⟩ hin w' ok h)
      rw [NT.val_lit] at HC'
      have hgin : VV.valN (NT.n ⟨o', [z0, z1, z2, z3, z4, z5], v', A', c', k'⟩) ∈ VV.valF k.f := by rw [VL.out]; exact List.mem_append_right _ List.mem_cons_self
      have HGI := Lib.hid (HBD.out _ hgin)
      clear hin hgin
      have VL2 : Hid (VV.valF k.f = fs ++ VV.valN (NT.n ⟨o', [z0, z1, z2, z3, z4, z5], v', A', c', k'⟩) :: VV.valF r.f) := Lib.hid VL.out
      clear VL
      have VL := VL2
      clear VL2
      generalize VV.valN (NT.n ⟨o', [z0, z1, z2, z3, z4, z5], v', A', c', k'⟩) = gn at HC' HGI VL
      have HGB := Lib.hid (show VV.In 100000000 gn from fun x hx => by have := HGI.out x hx; omega)
      have HFB := Lib.hid (show VV.In 100000000 (VV.argsV o fs) from fun x hx => by have h1 := HFA.out x hx; rw [LN.out] at h1; omega)
      clear HGI
      obtain ⟨e0, e1, e2, e3, e4, e5, e6, e7, e8⟩ := IR.out.e.cells
      go_wp2_with fail
      have I5 := Lib.hid (IR.out.keep (below_drawn wr))
      have C5 := Lib.hid (Cell9.keep C4.out (below_drawn wr))
      have Y5 := Lib.hid (YO.out.below (below_drawn wr))
      clear IR C4 YO e0 e1 e2 e3 e4 e5 e6 e7 e8
      refine wp_region_held_drew (S := fun w' => B9 w' w.heap.size (.int .i64 o) (.int .i64 x0) (.int .i64 x1) (.int .i64 x2) (.int .i64 x3) (.int .i64 x4) (.int .i64 x5) (.int .i64 v) (.slice (some ad) k.len c) ∧ BB w' (w.heap.size + 1) 24 [q0, q1, q2, q3, q4, q5] ∧ Cell9 w' (ad.add (i * 9)) o' z0 z1 z2 z3 z4 z5 v' (.slice A' k'.len c')) (by kernel_rfl) ⟨I5.out.e, I5.out.s, C5.out.2⟩ (fun hHeld => ?_)
      generalize wr.drew = Y at *
      have HC := Lib.hid (HC'.out Y Y5.out)
      clear HC'
      refine wpAnyH_take (i := 0) (oi := { dst := some 22, op := Op.fieldAddr 28 (Operand.tmp 2) 3, type := 0, pos := "ref.go:82", after := #[], guard := none }) (v := ?_) rfl (by kernel_rfl) (by kernel_rfl) (by kernel_rfl) (fun _ _ _ h => h) (Or.inl ⟨by rfl, ?_⟩) (by assumption) ?_
      rotate_left
      · intro w hSw; (try dsimp only at hSw); obtain ⟨hE, hB, a0, a1, a2, a3, a4, a5, a6, a7, a8⟩ := hSw; obtain ⟨e0, e1, e2, e3, e4, e5, e6, e7, e8⟩ := hE.cells; obtain ⟨r0, r1, r2, r3, r4, r5⟩ := cells6 hB; go_simp; try with_reducible rfl
      (try simp only [Act.put, List.setIfInBounds_toArray, List.set_cons_zero, List.set_cons_succ])
      refine wpAnyH_take (i := 1) (oi := { dst := some 23, op := Op.load 26 (Operand.tmp 22), type := 26, pos := "ref.go:82", after := #[{ on := 0, ground := Ground.data }], guard := none }) (v := ?_) rfl (by kernel_rfl) (by kernel_rfl) (by kernel_rfl) (fun _ _ _ h => h) (Or.inl ⟨by rfl, ?_⟩) (by assumption) ?_
      rotate_left
      · intro w hSw; (try dsimp only at hSw); obtain ⟨hE, hB, a0, a1, a2, a3, a4, a5, a6, a7, a8⟩ := hSw; obtain ⟨e0, e1, e2, e3, e4, e5, e6, e7, e8⟩ := hE.cells; obtain ⟨r0, r1, r2, r3, r4, r5⟩ := cells6 hB; go_simp; try with_reducible rfl
      (try simp only [Act.put, List.setIfInBounds_toArray, List.set_cons_zero, List.set_cons_succ])
      refine wpAnyH_take (i := 2) (oi := { dst := some 24, op := Op.move (Operand.tmp 7), type := 3, pos := "ref.go:82", after := #[], guard := none }) (v := ?_) rfl (by kernel_rfl) (by kernel_rfl) (by kernel_rfl) (fun _ _ _ h => h) (Or.inl ⟨by rfl, ?_⟩) (by assumption) ?_
      rotate_left
      · intro w hSw; (try dsimp only at hSw); obtain ⟨hE, hB, a0, a1, a2, a3, a4, a5, a6, a7, a8⟩ := hSw; obtain ⟨e0, e1, e2, e3, e4, e5, e6, e7, e8⟩ := hE.cells; obtain ⟨r0, r1, r2, r3, r4, r5⟩ := cells6 hB; go_simp; try with_reducible rfl
      (try simp only [Act.put, List.setIfInBounds_toArray, List.set_cons_zero, List.set_cons_succ])
      refine wpAnyH_take (i := 3) (oi := { dst := some 25, op := Op.indexAddr 26 (Operand.tmp 23) (Operand.tmp 24), type := 0, pos := "ref.go:82", after := #[{ on := 1, ground := Ground.data }, { on := 2, ground := Ground.data }], guard := none }) (v := ?_) rfl (by kernel_rfl) (by kernel_rfl) (by kernel_rfl) (fun _ _ _ h => h) (Or.inl ⟨by rfl, ?_⟩) (by assumption) ?_
      rotate_left
      · intro w hSw; (try dsimp only at hSw); obtain ⟨hE, hB, a0, a1, a2, a3, a4, a5, a6, a7, a8⟩ := hSw; obtain ⟨e0, e1, e2, e3, e4, e5, e6, e7, e8⟩ := hE.cells; obtain ⟨r0, r1, r2, r3, r4, r5⟩ := cells6 hB; go_simp; try with_reducible rfl
      (try simp only [Act.put, List.setIfInBounds_toArray, List.set_cons_zero, List.set_cons_succ])
      refine wpAnyH_take (i := 4) (oi := { dst := some 26, op := Op.load 28 (Operand.tmp 25), type := 28, pos := "ref.go:82", after := #[{ on := 3, ground := Ground.data }], guard := none }) (v := ?_) rfl (by kernel_rfl) (by kernel_rfl) (by kernel_rfl) (fun _ _ _ h => h) (Or.inl ⟨by rfl, ?_⟩) (by assumption) ?_
      rotate_left
      · intro w hSw; (try dsimp only at hSw); obtain ⟨hE, hB, a0, a1, a2, a3, a4, a5, a6, a7, a8⟩ := hSw; obtain ⟨e0, e1, e2, e3, e4, e5, e6, e7, e8⟩ := hE.cells; obtain ⟨r0, r1, r2, r3, r4, r5⟩ := cells6 hB; go_simp; try with_reducible rfl
      (try simp only [Act.put, List.setIfInBounds_toArray, List.set_cons_zero, List.set_cons_succ])
      refine wpAnyH_take (i := 5) (oi := { dst := some 27, op := Op.load 24 (Operand.tmp 3), type := 24, pos := "ref.go:82", after := #[], guard := none }) (v := ?_) rfl (by kernel_rfl) (by kernel_rfl) (by kernel_rfl) (fun _ _ _ h => h) (Or.inl ⟨by rfl, ?_⟩) (by assumption) ?_
      rotate_left
      · intro w hSw; (try dsimp only at hSw); obtain ⟨hE, hB, a0, a1, a2, a3, a4, a5, a6, a7, a8⟩ := hSw; obtain ⟨e0, e1, e2, e3, e4, e5, e6, e7, e8⟩ := hE.cells; obtain ⟨r0, r1, r2, r3, r4, r5⟩ := cells6 hB; go_simp; try with_reducible rfl
      (try simp only [Act.put, List.setIfInBounds_toArray, List.set_cons_zero, List.set_cons_succ])
      refine wpAnyH_ready (rs := [6]) (by kernel_rfl) (by simp) ?_
      refine AllReadyH.cons (o := { dst := some 28, op := Op.call { callee := Callee.value (Operand.func 40), args := #[Operand.tmp 26, Operand.tmp 27], argTypes := #[28, 24] }, type := 64, pos := "ref.go:82", after := #[{ on := 4, ground := Ground.data }, { on := 5, ground := Ground.data }], guard := none }) rfl (fun K hK => ?_) AllReadyH.nil
      go_simp
      refine HC.out.mono ?_
      rintro e9 w7 ⟨Bg, rfl, hg, hgB, nb⟩
      have I7 := Lib.hid (I5.out.keep nb)
      have C7 := Lib.hid (Cell9.keep C5.out nb)
      have G7 := Lib.hid hg
      have hgo : Bo < Bg := Nat.lt_of_lt_of_le I5.out.out.lt hgB
      clear hg hgB nb I5 C5 HC Y5
      refine hK.out _ _ ?_ (fun hHeld => ?_)
      · exact ⟨I7.out.e, I7.out.s, C7.out.2⟩
      clear hK K
      (try simp only [Act.put, List.setIfInBounds_toArray, List.set_cons_zero, List.set_cons_succ])
      refine wpAnyH_take (i := 7) (oi := { dst := some 8, op := Op.assign (Operand.tmp 28), type := 64, pos := "ref.go:82", after := #[{ on := 6, ground := Ground.data }, { on := 6, ground := Ground.chain }, { on := 0, ground := Ground.phase }, { on := 1, ground := Ground.phase }, { on := 2, ground := Ground.phase }, { on := 3, ground := Ground.phase }, { on := 4, ground := Ground.phase }, { on := 5, ground := Ground.phase }, { on := 6, ground := Ground.phase }], guard := none }) (v := ?_) rfl (by kernel_rfl) (by kernel_rfl) (by kernel_rfl) (fun _ _ _ h => h) (Or.inl ⟨by rfl, ?_⟩) (by assumption) ?_
      rotate_left
      · intro w hSw; (try dsimp only at hSw); obtain ⟨hE, hB, a0, a1, a2, a3, a4, a5, a6, a7, a8⟩ := hSw; obtain ⟨e0, e1, e2, e3, e4, e5, e6, e7, e8⟩ := hE.cells; obtain ⟨r0, r1, r2, r3, r4, r5⟩ := cells6 hB; go_simp; try with_reducible rfl
      (try simp only [Act.put, List.setIfInBounds_toArray, List.set_cons_zero, List.set_cons_succ])
      refine wpAnyH_done (by kernel_rfl) ?_ _
      clear hHeld C7
      obtain ⟨e0, e1, e2, e3, e4, e5, e6, e7, e8⟩ := I7.out.e.cells
      obtain ⟨r0, r1, r2, r3, r4, r5⟩ := cells6 I7.out.s
      by_cases ho3 : o = 3
      · subst ho3
        by_cases hi0 : 0 < i
        · have hid1 : decide ((0 : Int) < (i : Int)) = true := decide_eq_true (by omega)
          have HR := Lib.hid (ror_any q0 q1 q2 q3 q4 q5 (VV.argsV 3 fs) gn Bo Bg n w7 HOQ.out HN.out I7.out.out G7.out (fun x hx => HFB.out x hx) (fun x hx => HGB.out x hx))
          have HO := Lib.hid (VV.args_or (g := gn) (fs := fs) (by rw [LN.out]; exact hi0))
          go_wp2_with fail
          refine HR.out.mono ?_
          rintro ev w8 ⟨Bo2, rfl, ho2, hB2, nb⟩
          have I8 := Lib.hid (show RA w (.int .i64 3) (.int .i64 x0) (.int .i64 x1) (.int .i64 x2) (.int .i64 x3) (.int .i64 x4) (.int .i64 x5) (.int .i64 v) (.slice (some ad) k.len c) [q0, q1, q2, q3, q4, q5] Bo2 n (fun j => VV.argsV 3 (fs ++ [gn]) (VV.at6 [q0, q1, q2, q3, q4, q5] j)) w8 from by
            rw [HO.out]
            exact ⟨I7.out.below.trans (nb.mono I7.out.below.size), I7.out.e.keep nb, I7.out.s.keep nb I7.out.s.lt, ho2, by have := I7.out.bo; have := I7.out.out.lt; omega⟩)
          clear ho2 hB2 nb HR I7 G7 e0 e1 e2 e3 e4 e5 e6 e7 e8 r0 r1 r2 r3 r4 r5
          go_wp2
          go_roundw
          case rel => exact ⟨i + 1, r, fs ++ [gn], dn ++ [NT.n ⟨o', [z0, z1, z2, z3, z4, z5], v', A', c', k'⟩], Bo2, hlt, rfl, by go_num, R2.out, by rw [RT.out, List.append_assoc]; rfl, by rw [VL.out, List.append_assoc]; rfl, by rw [List.length_append, LN.out]; rfl, I8.out⟩
          case measure => simp [intOf]; omega
        · have hid1 : decide ((0 : Int) < (i : Int)) = false := decide_eq_false (by omega)
          have HNOR := Lib.hid (show (3 : Int) ≠ 3 ∨ fs.length = 0 from .inr (by rw [LN.out]; omega))
          go_wp2_with fail
          go_loopw [9] (fun t wr => ∃ j : Nat, j ≤ n ∧ t = .int .i64 j ∧ RA w (.int .i64 3) (.int .i64 x0) (.int .i64 x1) (.int .i64 x2) (.int .i64 x3) (.int .i64 x4) (.int .i64 x5) (.int .i64 v) (.slice (some ad) k.len c) [q0, q1, q2, q3, q4, q5] Bo n (VV.maxG (VV.argsV 3 fs) gn [q0, q1, q2, q3, q4, q5] j) wr ∧ Blk wr Bg (F (fun j => gn (VV.at6 [q0, q1, q2, q3, q4, q5] j)) n) 2) (fun t _ => n - (intOf t).toNat)
          case atStart => exact ⟨0, Nat.zero_le _, rfl, I7.out.same fun k _ => by unfold VV.maxG; rw [if_neg (Nat.not_lt_zero _)], G7.out⟩
          case round =>
            obtain ⟨j, hj, rfl, hra, hbg⟩ := hrel
            have I8 := Lib.hid hra
            have G8 := Lib.hid hbg
            clear hra hbg I7 G7
            by_cases hjl : j < n
            · have co := I8.out.out.cell (F_at (VV.maxG (VV.argsV 3 fs) gn [q0, q1, q2, q3, q4, q5] j) hjl)
              have cg := G8.out.cell (F_at (fun j => gn (VV.at6 [q0, q1, q2, q3, q4, q5] j)) hjl)
              have fo := I8.out.out.frozen j
              have hvo : VV.maxG (VV.argsV 3 fs) gn [q0, q1, q2, q3, q4, q5] j j = (VV.argsV 3 fs) (VV.at6 [q0, q1, q2, q3, q4, q5] j) := by unfold VV.maxG; rw [if_neg (Nat.lt_irrefl _)]
              rw [hvo] at co
              have HGo := Lib.hid (fun u (hu : u = max ((VV.argsV 3 fs) (VV.at6 [q0, q1, q2, q3, q4, q5] j)) (gn (VV.at6 [q0, q1, q2, q3, q4, q5] j))) => (fun k (_ : k < n) => VV.maxG_put (f := VV.argsV 3 fs) (g := gn) (s := [q0, q1, q2, q3, q4, q5]) (i := j) hu k))
              try dsimp only at cg
              clear hvo
              generalize VV.argsV 3 fs (VV.at6 [q0, q1, q2, q3, q4, q5] j) = va at *
              generalize gn (VV.at6 [q0, q1, q2, q3, q4, q5] j) = vb at *
              by_cases hmx : va < vb
              · have hmd : decide (va < vb) = true := decide_eq_true hmx
                have HGm := Lib.hid (HGo.out (vb) (by omega))
                clear HGo
                go_wp2_with fail
                go_still_tail 12, (by kernel_rfl)
                change wpList _ _ _ _ _ wr.drew
                have I9 := Lib.hid (I8.out.keep (below_drawn wr))
                have G9 := Lib.hid (G8.out.keep (below_drawn wr))
                clear co cg fo I8 G8
                generalize wr.drew = wd at *
                have fo := I9.out.out.frozen j
                have co := I9.out.out.cell (F_at (VV.maxG (VV.argsV 3 fs) gn [q0, q1, q2, q3, q4, q5] j) hjl)
                go_wp2
                go_roundw
                case rel => exact ⟨j + 1, hjl, by go_num, I9.out.put HGm.out, G9.out.other (by omega) _ _⟩
                case measure => simp [intOf]; omega
              · have hmd : decide (va < vb) = false := decide_eq_false hmx
                have HGm := Lib.hid (HGo.out (va) (by omega))
                clear HGo
                go_wp2_with fail
                go_still_tail 12, (by kernel_rfl)
                change wpList _ _ _ _ _ wr.drew
                have I9 := Lib.hid (I8.out.keep (below_drawn wr))
                have G9 := Lib.hid (G8.out.keep (below_drawn wr))
                clear co cg fo I8 G8
                generalize wr.drew = wd at *
                have fo := I9.out.out.frozen j
                have co := I9.out.out.cell (F_at (VV.maxG (VV.argsV 3 fs) gn [q0, q1, q2, q3, q4, q5] j) hjl)
                go_wp2
                go_roundw
                case rel => exact ⟨j + 1, hjl, by go_num, I9.out.put HGm.out, G9.out.other (by omega) _ _⟩
                case measure => simp [intOf]; omega
            · obtain rfl : j = n := by omega
              have HM := Lib.hid (args_max9 (s := [q0, q1, q2, q3, q4, q5]) (g := gn) (n := j) (o := 3) HNOR.out)
              go_wp2
              go_roundw
              case rel => exact ⟨i + 1, r, fs ++ [gn], dn ++ [NT.n ⟨o', [z0, z1, z2, z3, z4, z5], v', A', c', k'⟩], Bo, hlt, rfl, by go_num, R2.out, by rw [RT.out, List.append_assoc]; rfl, by rw [VL.out, List.append_assoc]; rfl, by rw [List.length_append, LN.out]; rfl, I8.out.same HM.out⟩
              case measure => simp [intOf]; omega
      · have hod : ((o : Int) == 3) = false := beq_eq_false_iff_ne.2 ho3
        have HNOR := Lib.hid (show o ≠ 3 ∨ fs.length = 0 from .inl ho3)
        go_wp2_with fail
        go_loopw [9] (fun t wr => ∃ j : Nat, j ≤ n ∧ t = .int .i64 j ∧ RA w (.int .i64 o) (.int .i64 x0) (.int .i64 x1) (.int .i64 x2) (.int .i64 x3) (.int .i64 x4) (.int .i64 x5) (.int .i64 v) (.slice (some ad) k.len c) [q0, q1, q2, q3, q4, q5] Bo n (VV.maxG (VV.argsV o fs) gn [q0, q1, q2, q3, q4, q5] j) wr ∧ Blk wr Bg (F (fun j => gn (VV.at6 [q0, q1, q2, q3, q4, q5] j)) n) 2) (fun t _ => n - (intOf t).toNat)
        case atStart => exact ⟨0, Nat.zero_le _, rfl, I7.out.same fun k _ => by unfold VV.maxG; rw [if_neg (Nat.not_lt_zero _)], G7.out⟩
        case round =>
          obtain ⟨j, hj, rfl, hra, hbg⟩ := hrel
          have I8 := Lib.hid hra
          have G8 := Lib.hid hbg
          clear hra hbg I7 G7
          by_cases hjl : j < n
          · have co := I8.out.out.cell (F_at (VV.maxG (VV.argsV o fs) gn [q0, q1, q2, q3, q4, q5] j) hjl)
            have cg := G8.out.cell (F_at (fun j => gn (VV.at6 [q0, q1, q2, q3, q4, q5] j)) hjl)
            have fo := I8.out.out.frozen j
            have hvo : VV.maxG (VV.argsV o fs) gn [q0, q1, q2, q3, q4, q5] j j = (VV.argsV o fs) (VV.at6 [q0, q1, q2, q3, q4, q5] j) := by unfold VV.maxG; rw [if_neg (Nat.lt_irrefl _)]
            rw [hvo] at co
            have HGo := Lib.hid (fun u (hu : u = max ((VV.argsV o fs) (VV.at6 [q0, q1, q2, q3, q4, q5] j)) (gn (VV.at6 [q0, q1, q2, q3, q4, q5] j))) => (fun k (_ : k < n) => VV.maxG_put (f := VV.argsV o fs) (g := gn) (s := [q0, q1, q2, q3, q4, q5]) (i := j) hu k))
            try dsimp only at cg
            clear hvo
            generalize VV.argsV o fs (VV.at6 [q0, q1, q2, q3, q4, q5] j) = va at *
            generalize gn (VV.at6 [q0, q1, q2, q3, q4, q5] j) = vb at *
            by_cases hmx : va < vb
            · have hmd : decide (va < vb) = true := decide_eq_true hmx
              have HGm := Lib.hid (HGo.out (vb) (by omega))
              clear HGo
              go_wp2_with fail
              go_still_tail 12, (by kernel_rfl)
              change wpList _ _ _ _ _ wr.drew
              have I9 := Lib.hid (I8.out.keep (below_drawn wr))
              have G9 := Lib.hid (G8.out.keep (below_drawn wr))
              clear co cg fo I8 G8
              generalize wr.drew = wd at *
              have fo := I9.out.out.frozen j
              have co := I9.out.out.cell (F_at (VV.maxG (VV.argsV o fs) gn [q0, q1, q2, q3, q4, q5] j) hjl)
              go_wp2
              go_roundw
              case rel => exact ⟨j + 1, hjl, by go_num, I9.out.put HGm.out, G9.out.other (by omega) _ _⟩
              case measure => simp [intOf]; omega
            · have hmd : decide (va < vb) = false := decide_eq_false hmx
              have HGm := Lib.hid (HGo.out (va) (by omega))
              clear HGo
              go_wp2_with fail
              go_still_tail 12, (by kernel_rfl)
              change wpList _ _ _ _ _ wr.drew
              have I9 := Lib.hid (I8.out.keep (below_drawn wr))
              have G9 := Lib.hid (G8.out.keep (below_drawn wr))
              clear co cg fo I8 G8
              generalize wr.drew = wd at *
              have fo := I9.out.out.frozen j
              have co := I9.out.out.cell (F_at (VV.maxG (VV.argsV o fs) gn [q0, q1, q2, q3, q4, q5] j) hjl)
              go_wp2
              go_roundw
              case rel => exact ⟨j + 1, hjl, by go_num, I9.out.put HGm.out, G9.out.other (by omega) _ _⟩
              case measure => simp [intOf]; omega
          · obtain rfl : j = n := by omega
            have HM := Lib.hid (args_max9 (s := [q0, q1, q2, q3, q4, q5]) (g := gn) (n := j) (o := o) HNOR.out)
            go_wp2
            go_roundw
            case rel => exact ⟨i + 1, r, fs ++ [gn], dn ++ [NT.n ⟨o', [z0, z1, z2, z3, z4, z5], v', A', c', k'⟩], Bo, hlt, rfl, by go_num, R2.out, by rw [RT.out, List.append_assoc]; rfl, by rw [VL.out, List.append_assoc]; rfl, by rw [List.length_append, LN.out]; rfl, I8.out.same HM.out⟩
            case measure => simp [intOf]; omega
    · obtain ⟨hrs, hil⟩ := R.out.end_ hlt
      have hfs : VV.valF k.f = fs := by rw [VL.out, hrs]; exact List.append_nil _
      obtain ⟨f, hf⟩ : ∃ f, f = VV.argsV o fs := ⟨_, rfl⟩
      have HE := Lib.hid (show VV.nodeV o [x0, x1, x2, x3, x4, x5] v (VV.valF k.f) = VV.finV o [x0, x1, x2, x3, x4, x5] v f from by rw [hfs, hf]; rfl)
      have HF := Lib.hid (show VV.In 8000000 f from fun x hx => by have h1 := HFA.out x hx; rw [LN.out] at h1; rw [hf]; omega)
      rw [← hf] at IR
      clear hrs hil hfs hf HFA LN VL RT R HBD HIH
      obtain ⟨e0, e1, e2, e3, e4, e5, e6, e7, e8⟩ := IR.out.e.cells
      go_wp2_with fail
      clear e0 e1 e2 e3 e4 e5 e6 e7 e8
      go_loopw [10] (fun t wr => ∃ j : Nat, j ≤ n ∧ t = .int .i64 j ∧ RA w (.int .i64 o) (.int .i64 x0) (.int .i64 x1) (.int .i64 x2) (.int .i64 x3) (.int .i64 x4) (.int .i64 x5) (.int .i64 v) (.slice A k.len c) [q0, q1, q2, q3, q4, q5] Bo n (VV.finG o [x0, x1, x2, x3, x4, x5] v f [q0, q1, q2, q3, q4, q5] j) wr) (fun t _ => n - (intOf t).toNat)
      case atStart => exact ⟨0, Nat.zero_le _, rfl, IR.out.same fun k _ => by unfold VV.finG; rw [if_neg (Nat.not_lt_zero _)]⟩
      case round =>
        obtain ⟨j, hj, rfl, hra⟩ := hrel
        have IJ := Lib.hid hra
        clear hra IR
        by_cases hjl : j < n
        · rcases HWAY.out with rfl | rfl | rfl | rfl | rfl
          · have hvo : VV.finG 1 [x0, x1, x2, x3, x4, x5] v f [q0, q1, q2, q3, q4, q5] j j = f (VV.at6 [q0, q1, q2, q3, q4, q5] j) := by unfold VV.finG; rw [if_neg (Nat.lt_irrefl _)]
            have hcb := HF.out _ (VV.at6_bu HBU.out j).1
            generalize hcv : f (VV.at6 [q0, q1, q2, q3, q4, q5] j) = cv at hvo hcb
            obtain ⟨e0, e1, e2, e3, e4, e5, e6, e7, e8⟩ := IJ.out.e.cells
            have HA := Lib.hid (fun w' => at13_any q0 q1 q2 q3 q4 q5 j w' HOQ.out (by have := HN.out; show j < VV.cnt [q0, q1, q2, q3, q4, q5]; omega))
            obtain ⟨y0, y1, y2, y3, y4, y5, hy6⟩ := six (MB.D_length [q0, q1, q2, q3, q4, q5] 6 j)
            rw [hy6, aggB_lit] at HA
            have HY := Lib.hid ((VV.at6_eq [q0, q1, q2, q3, q4, q5] j).trans hy6)
            have HW := Lib.hid (fun w' => rwithin13_any x0 x1 x2 x3 x4 x5 y0 y1 y2 y3 y4 y5 w')
            clear hy6
            by_cases hw : MB.withinB [x0, x1, x2, x3, x4, x5] [y0, y1, y2, y3, y4, y5] 6 = true
            · have HV := Lib.hid (show min (cv + v) 1000000 = VV.finV 1 [x0, x1, x2, x3, x4, x5] v f (VV.at6 [q0, q1, q2, q3, q4, q5] j) from (VV.fin_in (by decide) (by rw [HY.out]; exact hw) hcv).symm)
              rw [hw] at HW
              clear hw hcv HY
              go_wp2_with fail
              have I5 := Lib.hid (IJ.out.keep (below_drawn wr))
              clear IJ e0 e1 e2 e3 e4 e5 e6 e7 e8
              refine wp_region_held_drew (S := fun w' => B9 w' w.heap.size (.int .i64 1) (.int .i64 x0) (.int .i64 x1) (.int .i64 x2) (.int .i64 x3) (.int .i64 x4) (.int .i64 x5) (.int .i64 v) (.slice A k.len c) ∧ BB w' (w.heap.size + 1) 24 [q0, q1, q2, q3, q4, q5]) (by kernel_rfl) ⟨I5.out.e, I5.out.s⟩ (fun hHeld => ?_)
              generalize wr.drew = Y at *
              refine wpAnyH_take (i := 0) (oi := { dst := some 62, op := Op.fieldAddr 28 (Operand.tmp 2) 0, type := 0, pos := "ref.go:92", after := #[], guard := none }) (v := ?_) rfl (by kernel_rfl) (by kernel_rfl) (by kernel_rfl) (fun _ _ _ h => h) (Or.inl ⟨by rfl, ?_⟩) (by assumption) ?_
              rotate_left
              · intro w hSw; (try dsimp only at hSw); obtain ⟨hE, hB⟩ := hSw; obtain ⟨e0, e1, e2, e3, e4, e5, e6, e7, e8⟩ := hE.cells; obtain ⟨r0, r1, r2, r3, r4, r5⟩ := cells6 hB; go_simp; try with_reducible rfl
              (try simp only [Act.put, List.setIfInBounds_toArray, List.set_cons_zero, List.set_cons_succ])
              refine wpAnyH_take (i := 1) (oi := { dst := some 63, op := Op.load 3 (Operand.tmp 62), type := 3, pos := "ref.go:92", after := #[{ on := 0, ground := Ground.data }], guard := none }) (v := ?_) rfl (by kernel_rfl) (by kernel_rfl) (by kernel_rfl) (fun _ _ _ h => h) (Or.inl ⟨by rfl, ?_⟩) (by assumption) ?_
              rotate_left
              · intro w hSw; (try dsimp only at hSw); obtain ⟨hE, hB⟩ := hSw; obtain ⟨e0, e1, e2, e3, e4, e5, e6, e7, e8⟩ := hE.cells; obtain ⟨r0, r1, r2, r3, r4, r5⟩ := cells6 hB; go_simp; try with_reducible rfl
              (try simp only [Act.put, List.setIfInBounds_toArray, List.set_cons_zero, List.set_cons_succ])
              refine wpAnyH_take (i := 2) (oi := { dst := some 64, op := Op.binOp BinOp.eql 3 (Operand.tmp 63) (Operand.const (Value.int IntKind.i64 1)) 3, type := 4, pos := "ref.go:92", after := #[{ on := 1, ground := Ground.data }], guard := none }) (v := ?_) rfl (by kernel_rfl) (by kernel_rfl) (by kernel_rfl) (fun _ _ _ h => h) (Or.inl ⟨by rfl, ?_⟩) (by assumption) ?_
              rotate_left
              · intro w hSw; (try dsimp only at hSw); obtain ⟨hE, hB⟩ := hSw; obtain ⟨e0, e1, e2, e3, e4, e5, e6, e7, e8⟩ := hE.cells; obtain ⟨r0, r1, r2, r3, r4, r5⟩ := cells6 hB; go_simp; try with_reducible rfl
              (try simp only [Act.put, List.setIfInBounds_toArray, List.set_cons_zero, List.set_cons_succ])
              refine wpAnyH_take (i := 3) (oi := { dst := some 65, op := Op.move (Operand.tmp 64), type := 4, pos := "ref.go:92", after := #[{ on := 2, ground := Ground.data }], guard := none }) (v := ?_) rfl (by kernel_rfl) (by kernel_rfl) (by kernel_rfl) (fun _ _ _ h => h) (Or.inl ⟨by rfl, ?_⟩) (by assumption) ?_
              rotate_left
              · intro w hSw; (try dsimp only at hSw); obtain ⟨hE, hB⟩ := hSw; obtain ⟨e0, e1, e2, e3, e4, e5, e6, e7, e8⟩ := hE.cells; obtain ⟨r0, r1, r2, r3, r4, r5⟩ := cells6 hB; go_simp; try with_reducible rfl
              (try simp only [Act.put, List.setIfInBounds_toArray, List.set_cons_zero, List.set_cons_succ])
              refine wpAnyH_take (i := 4) (oi := { dst := some 66, op := Op.fieldAddr 28 (Operand.tmp 2) 0, type := 0, pos := "ref.go:92", after := #[{ on := 3, ground := Ground.guard }], guard := some (3, false) }) (v := undef) rfl (by kernel_rfl) (by kernel_rfl) (by kernel_rfl) (fun _ _ _ h => h) (Or.inr ⟨by rfl, rfl⟩) (by assumption) ?_
              (try simp only [Act.put, List.setIfInBounds_toArray, List.set_cons_zero, List.set_cons_succ])
              refine wpAnyH_take (i := 5) (oi := { dst := some 67, op := Op.load 3 (Operand.tmp 66), type := 3, pos := "ref.go:92", after := #[{ on := 4, ground := Ground.data }, { on := 3, ground := Ground.guard }], guard := some (3, false) }) (v := undef) rfl (by kernel_rfl) (by kernel_rfl) (by kernel_rfl) (fun _ _ _ h => h) (Or.inr ⟨by rfl, rfl⟩) (by assumption) ?_
              (try simp only [Act.put, List.setIfInBounds_toArray, List.set_cons_zero, List.set_cons_succ])
              refine wpAnyH_take (i := 6) (oi := { dst := some 68, op := Op.binOp BinOp.eql 3 (Operand.tmp 67) (Operand.const (Value.int IntKind.i64 4)) 3, type := 4, pos := "ref.go:92", after := #[{ on := 5, ground := Ground.data }, { on := 3, ground := Ground.guard }], guard := some (3, false) }) (v := undef) rfl (by kernel_rfl) (by kernel_rfl) (by kernel_rfl) (fun _ _ _ h => h) (Or.inr ⟨by rfl, rfl⟩) (by assumption) ?_
              (try simp only [Act.put, List.setIfInBounds_toArray, List.set_cons_zero, List.set_cons_succ])
              refine wpAnyH_take (i := 7) (oi := { dst := some 69, op := Op.pick (Operand.tmp 65) (Operand.const (Value.bool true)) (Operand.tmp 68), type := 4, pos := "ref.go:92", after := #[{ on := 3, ground := Ground.data }, { on := 6, ground := Ground.data }], guard := none }) (v := ?_) rfl (by kernel_rfl) (by kernel_rfl) (by kernel_rfl) (fun _ _ _ h => h) (Or.inl ⟨by rfl, ?_⟩) (by assumption) ?_
              rotate_left
              · intro w hSw; (try dsimp only at hSw); obtain ⟨hE, hB⟩ := hSw; obtain ⟨e0, e1, e2, e3, e4, e5, e6, e7, e8⟩ := hE.cells; obtain ⟨r0, r1, r2, r3, r4, r5⟩ := cells6 hB; go_simp; try with_reducible rfl
              (try simp only [Act.put, List.setIfInBounds_toArray, List.set_cons_zero, List.set_cons_succ])
              refine wpAnyH_take (i := 8) (oi := { dst := some 70, op := Op.move (Operand.tmp 69), type := 4, pos := "ref.go:92", after := #[{ on := 7, ground := Ground.data }, { on := 3, ground := Ground.chain }], guard := none }) (v := ?_) rfl (by kernel_rfl) (by kernel_rfl) (by kernel_rfl) (fun _ _ _ h => h) (Or.inl ⟨by rfl, ?_⟩) (by assumption) ?_
              rotate_left
              · intro w hSw; (try dsimp only at hSw); obtain ⟨hE, hB⟩ := hSw; obtain ⟨e0, e1, e2, e3, e4, e5, e6, e7, e8⟩ := hE.cells; obtain ⟨r0, r1, r2, r3, r4, r5⟩ := cells6 hB; go_simp; try with_reducible rfl
              (try simp only [Act.put, List.setIfInBounds_toArray, List.set_cons_zero, List.set_cons_succ])
              refine wpAnyH_take (i := 9) (oi := { dst := some 71, op := Op.fieldAddr 28 (Operand.tmp 2) 1, type := 0, pos := "ref.go:92", after := #[{ on := 8, ground := Ground.guard }], guard := some (8, true) }) (v := ?_) rfl (by kernel_rfl) (by kernel_rfl) (by kernel_rfl) (fun _ _ _ h => h) (Or.inl ⟨by rfl, ?_⟩) (by assumption) ?_
              rotate_left
              · intro w hSw; (try dsimp only at hSw); obtain ⟨hE, hB⟩ := hSw; obtain ⟨e0, e1, e2, e3, e4, e5, e6, e7, e8⟩ := hE.cells; obtain ⟨r0, r1, r2, r3, r4, r5⟩ := cells6 hB; go_simp; try with_reducible rfl
              (try simp only [Act.put, List.setIfInBounds_toArray, List.set_cons_zero, List.set_cons_succ])
              refine wpAnyH_take (i := 10) (oi := { dst := some 72, op := Op.load 24 (Operand.tmp 71), type := 24, pos := "ref.go:92", after := #[{ on := 9, ground := Ground.data }, { on := 8, ground := Ground.guard }], guard := some (8, true) }) (v := ?_) rfl (by kernel_rfl) (by kernel_rfl) (by kernel_rfl) (fun _ _ _ h => h) (Or.inl ⟨by rfl, ?_⟩) (by assumption) ?_
              rotate_left
              · intro w hSw; (try dsimp only at hSw); obtain ⟨hE, hB⟩ := hSw; obtain ⟨e0, e1, e2, e3, e4, e5, e6, e7, e8⟩ := hE.cells; obtain ⟨r0, r1, r2, r3, r4, r5⟩ := cells6 hB; go_simp; try with_reducible rfl
              (try simp only [Act.put, List.setIfInBounds_toArray, List.set_cons_zero, List.set_cons_succ])
              refine wpAnyH_take (i := 11) (oi := { dst := some 73, op := Op.load 24 (Operand.tmp 3), type := 24, pos := "ref.go:92", after := #[{ on := 8, ground := Ground.guard }], guard := some (8, true) }) (v := ?_) rfl (by kernel_rfl) (by kernel_rfl) (by kernel_rfl) (fun _ _ _ h => h) (Or.inl ⟨by rfl, ?_⟩) (by assumption) ?_
              rotate_left
              · intro w hSw; (try dsimp only at hSw); obtain ⟨hE, hB⟩ := hSw; obtain ⟨e0, e1, e2, e3, e4, e5, e6, e7, e8⟩ := hE.cells; obtain ⟨r0, r1, r2, r3, r4, r5⟩ := cells6 hB; go_simp; try with_reducible rfl
              (try simp only [Act.put, List.setIfInBounds_toArray, List.set_cons_zero, List.set_cons_succ])
              refine wpAnyH_take (i := 12) (oi := { dst := some 74, op := Op.move (Operand.tmp 10), type := 3, pos := "ref.go:92", after := #[{ on := 8, ground := Ground.guard }], guard := some (8, true) }) (v := ?_) rfl (by kernel_rfl) (by kernel_rfl) (by kernel_rfl) (fun _ _ _ h => h) (Or.inl ⟨by rfl, ?_⟩) (by assumption) ?_
              rotate_left
              · intro w hSw; (try dsimp only at hSw); obtain ⟨hE, hB⟩ := hSw; obtain ⟨e0, e1, e2, e3, e4, e5, e6, e7, e8⟩ := hE.cells; obtain ⟨r0, r1, r2, r3, r4, r5⟩ := cells6 hB; go_simp; try with_reducible rfl
              (try simp only [Act.put, List.setIfInBounds_toArray, List.set_cons_zero, List.set_cons_succ])
              refine wpAnyH_ready (rs := [13]) (by kernel_rfl) (by simp) ?_
              refine AllReadyH.cons (o := { dst := some 75, op := Op.call { callee := Callee.value (Operand.func 71), args := #[Operand.tmp 73, Operand.tmp 74], argTypes := #[24, 3] }, type := 24, pos := "ref.go:92", after := #[{ on := 11, ground := Ground.data }, { on := 12, ground := Ground.data }, { on := 8, ground := Ground.chain }, { on := 8, ground := Ground.guard }], guard := some (8, true) }) rfl (fun K hK => ?_) AllReadyH.nil
              go_simp
              refine (HA.out _).mono ?_
              rintro ev w7 ⟨rfl, nb⟩
              have I7 := Lib.hid (I5.out.keep nb)
              clear nb I5
              refine hK.out _ _ ?_ (fun hHeld => ?_)
              · exact ⟨I7.out.e, I7.out.s⟩
              clear hK K
              (try simp only [Act.put, List.setIfInBounds_toArray, List.set_cons_zero, List.set_cons_succ])
              refine wpAnyH_ready (rs := [14]) (by kernel_rfl) (by simp) ?_
              refine AllReadyH.cons (o := { dst := some 76, op := Op.call { callee := Callee.value (Operand.func 70), args := #[Operand.tmp 72, Operand.tmp 75], argTypes := #[24, 24] }, type := 4, pos := "ref.go:92", after := #[{ on := 10, ground := Ground.data }, { on := 13, ground := Ground.data }, { on := 13, ground := Ground.chain }, { on := 8, ground := Ground.guard }], guard := some (8, true) }) rfl (fun K hK => ?_) AllReadyH.nil
              go_simp
              refine (HW.out _).mono ?_
              rintro ev w8 ⟨rfl, nb⟩
              have I9 := Lib.hid (I7.out.keep nb)
              clear nb I7
              refine hK.out _ _ ?_ (fun hHeld => ?_)
              · exact ⟨I9.out.e, I9.out.s⟩
              clear hK K
              (try simp only [Act.put, List.setIfInBounds_toArray, List.set_cons_zero, List.set_cons_succ])
              refine wpAnyH_take (i := 15) (oi := { dst := some 77, op := Op.pick (Operand.tmp 70) (Operand.tmp 76) (Operand.const (Value.bool false)), type := 4, pos := "ref.go:92", after := #[{ on := 8, ground := Ground.data }, { on := 14, ground := Ground.data }], guard := none }) (v := ?_) rfl (by kernel_rfl) (by kernel_rfl) (by kernel_rfl) (fun _ _ _ h => h) (Or.inl ⟨by rfl, ?_⟩) (by assumption) ?_
              rotate_left
              · intro w hSw; (try dsimp only at hSw); obtain ⟨hE, hB⟩ := hSw; obtain ⟨e0, e1, e2, e3, e4, e5, e6, e7, e8⟩ := hE.cells; obtain ⟨r0, r1, r2, r3, r4, r5⟩ := cells6 hB; go_simp; try with_reducible rfl
              (try simp only [Act.put, List.setIfInBounds_toArray, List.set_cons_zero, List.set_cons_succ])
              refine wpAnyH_done (by kernel_rfl) ?_ _
              clear hHeld
              obtain ⟨e0, e1, e2, e3, e4, e5, e6, e7, e8⟩ := I9.out.e.cells
              have co := I9.out.out.cell (F_at (VV.finG 1 [x0, x1, x2, x3, x4, x5] v f [q0, q1, q2, q3, q4, q5] j) hjl)
              rw [hvo] at co
              go_wp2_with fail
              go_still_tail 10, (by kernel_rfl)
              change wpList _ _ _ _ _ w8.drew
              have J1 := Lib.hid (I9.out.keep (below_drawn w8))
              clear co I9 e0 e1 e2 e3 e4 e5 e6 e7 e8
              generalize w8.drew = wd at *
              have fo := J1.out.out.frozen j
              have co := J1.out.out.cell (F_at (VV.finG 1 [x0, x1, x2, x3, x4, x5] v f [q0, q1, q2, q3, q4, q5] j) hjl)
              go_upto_region 18 with (fail)
              have J2 := Lib.hid (J1.out.put (go' := fun k => if k = j then cv + v else VV.finG 1 [x0, x1, x2, x3, x4, x5] v f [q0, q1, q2, q3, q4, q5] j k) (v := cv + v) fun _ _ => rfl)
              clear J1 fo co
              generalize wd.setCell ⟨Bo, j, none⟩ (.int .i64 (cv + v)) = we at *
              have co := J2.out.out.cell (F_at (fun k => if k = j then cv + v else VV.finG 1 [x0, x1, x2, x3, x4, x5] v f [q0, q1, q2, q3, q4, q5] j k) hjl)
              try dsimp only at co
              rw [if_pos rfl] at co
              obtain ⟨e0, e1, e2, e3, e4, e5, e6, e7, e8⟩ := J2.out.e.cells
              have fo := J2.out.out.frozen j
              go_wp2_with fail
              refine (held_any _ _).mono ?_
              rintro ev w9 ⟨rfl, rfl⟩
              go_wp2
              go_roundw
              case rel => exact ⟨j + 1, hjl, by go_num, J2.out.put fun k hk => VV.finG_put (u1 := cv + v) HV.out k⟩
              case measure => simp [intOf]; omega
            · have hw : MB.withinB [x0, x1, x2, x3, x4, x5] [y0, y1, y2, y3, y4, y5] 6 = false := by simpa using hw
              have HV := Lib.hid (show min cv 1000000 = VV.finV 1 [x0, x1, x2, x3, x4, x5] v f (VV.at6 [q0, q1, q2, q3, q4, q5] j) from (VV.fin_out (by decide) (by rw [HY.out]; exact hw) hcv).symm)
              rw [hw] at HW
              clear hw hcv HY
              go_wp2_with fail
              have I5 := Lib.hid (IJ.out.keep (below_drawn wr))
              clear IJ e0 e1 e2 e3 e4 e5 e6 e7 e8
              refine wp_region_held_drew (S := fun w' => B9 w' w.heap.size (.int .i64 1) (.int .i64 x0) (.int .i64 x1) (.int .i64 x2) (.int .i64 x3) (.int .i64 x4) (.int .i64 x5) (.int .i64 v) (.slice A k.len c) ∧ BB w' (w.heap.size + 1) 24 [q0, q1, q2, q3, q4, q5]) (by kernel_rfl) ⟨I5.out.e, I5.out.s⟩ (fun hHeld => ?_)
              generalize wr.drew = Y at *
              refine wpAnyH_take (i := 0) (oi := { dst := some 62, op := Op.fieldAddr 28 (Operand.tmp 2) 0, type := 0, pos := "ref.go:92", after := #[], guard := none }) (v := ?_) rfl (by kernel_rfl) (by kernel_rfl) (by kernel_rfl) (fun _ _ _ h => h) (Or.inl ⟨by rfl, ?_⟩) (by assumption) ?_
              rotate_left
              · intro w hSw; (try dsimp only at hSw); obtain ⟨hE, hB⟩ := hSw; obtain ⟨e0, e1, e2, e3, e4, e5, e6, e7, e8⟩ := hE.cells; obtain ⟨r0, r1, r2, r3, r4, r5⟩ := cells6 hB; go_simp; try with_reducible rfl
              (try simp only [Act.put, List.setIfInBounds_toArray, List.set_cons_zero, List.set_cons_succ])
              refine wpAnyH_take (i := 1) (oi := { dst := some 63, op := Op.load 3 (Operand.tmp 62), type := 3, pos := "ref.go:92", after := #[{ on := 0, ground := Ground.data }], guard := none }) (v := ?_) rfl (by kernel_rfl) (by kernel_rfl) (by kernel_rfl) (fun _ _ _ h => h) (Or.inl ⟨by rfl, ?_⟩) (by assumption) ?_
              rotate_left
              · intro w hSw; (try dsimp only at hSw); obtain ⟨hE, hB⟩ := hSw; obtain ⟨e0, e1, e2, e3, e4, e5, e6, e7, e8⟩ := hE.cells; obtain ⟨r0, r1, r2, r3, r4, r5⟩ := cells6 hB; go_simp; try with_reducible rfl
              (try simp only [Act.put, List.setIfInBounds_toArray, List.set_cons_zero, List.set_cons_succ])
              refine wpAnyH_take (i := 2) (oi := { dst := some 64, op := Op.binOp BinOp.eql 3 (Operand.tmp 63) (Operand.const (Value.int IntKind.i64 1)) 3, type := 4, pos := "ref.go:92", after := #[{ on := 1, ground := Ground.data }], guard := none }) (v := ?_) rfl (by kernel_rfl) (by kernel_rfl) (by kernel_rfl) (fun _ _ _ h => h) (Or.inl ⟨by rfl, ?_⟩) (by assumption) ?_
              rotate_left
              · intro w hSw; (try dsimp only at hSw); obtain ⟨hE, hB⟩ := hSw; obtain ⟨e0, e1, e2, e3, e4, e5, e6, e7, e8⟩ := hE.cells; obtain ⟨r0, r1, r2, r3, r4, r5⟩ := cells6 hB; go_simp; try with_reducible rfl
              (try simp only [Act.put, List.setIfInBounds_toArray, List.set_cons_zero, List.set_cons_succ])
              refine wpAnyH_take (i := 3) (oi := { dst := some 65, op := Op.move (Operand.tmp 64), type := 4, pos := "ref.go:92", after := #[{ on := 2, ground := Ground.data }], guard := none }) (v := ?_) rfl (by kernel_rfl) (by kernel_rfl) (by kernel_rfl) (fun _ _ _ h => h) (Or.inl ⟨by rfl, ?_⟩) (by assumption) ?_
              rotate_left
              · intro w hSw; (try dsimp only at hSw); obtain ⟨hE, hB⟩ := hSw; obtain ⟨e0, e1, e2, e3, e4, e5, e6, e7, e8⟩ := hE.cells; obtain ⟨r0, r1, r2, r3, r4, r5⟩ := cells6 hB; go_simp; try with_reducible rfl
              (try simp only [Act.put, List.setIfInBounds_toArray, List.set_cons_zero, List.set_cons_succ])
              refine wpAnyH_take (i := 4) (oi := { dst := some 66, op := Op.fieldAddr 28 (Operand.tmp 2) 0, type := 0, pos := "ref.go:92", after := #[{ on := 3, ground := Ground.guard }], guard := some (3, false) }) (v := undef) rfl (by kernel_rfl) (by kernel_rfl) (by kernel_rfl) (fun _ _ _ h => h) (Or.inr ⟨by rfl, rfl⟩) (by assumption) ?_
              (try simp only [Act.put, List.setIfInBounds_toArray, List.set_cons_zero, List.set_cons_succ])
              refine wpAnyH_take (i := 5) (oi := { dst := some 67, op := Op.load 3 (Operand.tmp 66), type := 3, pos := "ref.go:92", after := #[{ on := 4, ground := Ground.data }, { on := 3, ground := Ground.guard }], guard := some (3, false) }) (v := undef) rfl (by kernel_rfl) (by kernel_rfl) (by kernel_rfl) (fun _ _ _ h => h) (Or.inr ⟨by rfl, rfl⟩) (by assumption) ?_
              (try simp only [Act.put, List.setIfInBounds_toArray, List.set_cons_zero, List.set_cons_succ])
              refine wpAnyH_take (i := 6) (oi := { dst := some 68, op := Op.binOp BinOp.eql 3 (Operand.tmp 67) (Operand.const (Value.int IntKind.i64 4)) 3, type := 4, pos := "ref.go:92", after := #[{ on := 5, ground := Ground.data }, { on := 3, ground := Ground.guard }], guard := some (3, false) }) (v := undef) rfl (by kernel_rfl) (by kernel_rfl) (by kernel_rfl) (fun _ _ _ h => h) (Or.inr ⟨by rfl, rfl⟩) (by assumption) ?_
              (try simp only [Act.put, List.setIfInBounds_toArray, List.set_cons_zero, List.set_cons_succ])
              refine wpAnyH_take (i := 7) (oi := { dst := some 69, op := Op.pick (Operand.tmp 65) (Operand.const (Value.bool true)) (Operand.tmp 68), type := 4, pos := "ref.go:92", after := #[{ on := 3, ground := Ground.data }, { on := 6, ground := Ground.data }], guard := none }) (v := ?_) rfl (by kernel_rfl) (by kernel_rfl) (by kernel_rfl) (fun _ _ _ h => h) (Or.inl ⟨by rfl, ?_⟩) (by assumption) ?_
              rotate_left
              · intro w hSw; (try dsimp only at hSw); obtain ⟨hE, hB⟩ := hSw; obtain ⟨e0, e1, e2, e3, e4, e5, e6, e7, e8⟩ := hE.cells; obtain ⟨r0, r1, r2, r3, r4, r5⟩ := cells6 hB; go_simp; try with_reducible rfl
              (try simp only [Act.put, List.setIfInBounds_toArray, List.set_cons_zero, List.set_cons_succ])
              refine wpAnyH_take (i := 8) (oi := { dst := some 70, op := Op.move (Operand.tmp 69), type := 4, pos := "ref.go:92", after := #[{ on := 7, ground := Ground.data }, { on := 3, ground := Ground.chain }], guard := none }) (v := ?_) rfl (by kernel_rfl) (by kernel_rfl) (by kernel_rfl) (fun _ _ _ h => h) (Or.inl ⟨by rfl, ?_⟩) (by assumption) ?_
              rotate_left
              · intro w hSw; (try dsimp only at hSw); obtain ⟨hE, hB⟩ := hSw; obtain ⟨e0, e1, e2, e3, e4, e5, e6, e7, e8⟩ := hE.cells; obtain ⟨r0, r1, r2, r3, r4, r5⟩ := cells6 hB; go_simp; try with_reducible rfl
              (try simp only [Act.put, List.setIfInBounds_toArray, List.set_cons_zero, List.set_cons_succ])
              refine wpAnyH_take (i := 9) (oi := { dst := some 71, op := Op.fieldAddr 28 (Operand.tmp 2) 1, type := 0, pos := "ref.go:92", after := #[{ on := 8, ground := Ground.guard }], guard := some (8, true) }) (v := ?_) rfl (by kernel_rfl) (by kernel_rfl) (by kernel_rfl) (fun _ _ _ h => h) (Or.inl ⟨by rfl, ?_⟩) (by assumption) ?_
              rotate_left
              · intro w hSw; (try dsimp only at hSw); obtain ⟨hE, hB⟩ := hSw; obtain ⟨e0, e1, e2, e3, e4, e5, e6, e7, e8⟩ := hE.cells; obtain ⟨r0, r1, r2, r3, r4, r5⟩ := cells6 hB; go_simp; try with_reducible rfl
              (try simp only [Act.put, List.setIfInBounds_toArray, List.set_cons_zero, List.set_cons_succ])
              refine wpAnyH_take (i := 10) (oi := { dst := some 72, op := Op.load 24 (Operand.tmp 71), type := 24, pos := "ref.go:92", after := #[{ on := 9, ground := Ground.data }, { on := 8, ground := Ground.guard }], guard := some (8, true) }) (v := ?_) rfl (by kernel_rfl) (by kernel_rfl) (by kernel_rfl) (fun _ _ _ h => h) (Or.inl ⟨by rfl, ?_⟩) (by assumption) ?_
              rotate_left
              · intro w hSw; (try dsimp only at hSw); obtain ⟨hE, hB⟩ := hSw; obtain ⟨e0, e1, e2, e3, e4, e5, e6, e7, e8⟩ := hE.cells; obtain ⟨r0, r1, r2, r3, r4, r5⟩ := cells6 hB; go_simp; try with_reducible rfl
              (try simp only [Act.put, List.setIfInBounds_toArray, List.set_cons_zero, List.set_cons_succ])
              refine wpAnyH_take (i := 11) (oi := { dst := some 73, op := Op.load 24 (Operand.tmp 3), type := 24, pos := "ref.go:92", after := #[{ on := 8, ground := Ground.guard }], guard := some (8, true) }) (v := ?_) rfl (by kernel_rfl) (by kernel_rfl) (by kernel_rfl) (fun _ _ _ h => h) (Or.inl ⟨by rfl, ?_⟩) (by assumption) ?_
              rotate_left
              · intro w hSw; (try dsimp only at hSw); obtain ⟨hE, hB⟩ := hSw; obtain ⟨e0, e1, e2, e3, e4, e5, e6, e7, e8⟩ := hE.cells; obtain ⟨r0, r1, r2, r3, r4, r5⟩ := cells6 hB; go_simp; try with_reducible rfl
              (try simp only [Act.put, List.setIfInBounds_toArray, List.set_cons_zero, List.set_cons_succ])
              refine wpAnyH_take (i := 12) (oi := { dst := some 74, op := Op.move (Operand.tmp 10), type := 3, pos := "ref.go:92", after := #[{ on := 8, ground := Ground.guard }], guard := some (8, true) }) (v := ?_) rfl (by kernel_rfl) (by kernel_rfl) (by kernel_rfl) (fun _ _ _ h => h) (Or.inl ⟨by rfl, ?_⟩) (by assumption) ?_
              rotate_left
              · intro w hSw; (try dsimp only at hSw); obtain ⟨hE, hB⟩ := hSw; obtain ⟨e0, e1, e2, e3, e4, e5, e6, e7, e8⟩ := hE.cells; obtain ⟨r0, r1, r2, r3, r4, r5⟩ := cells6 hB; go_simp; try with_reducible rfl
              (try simp only [Act.put, List.setIfInBounds_toArray, List.set_cons_zero, List.set_cons_succ])
              refine wpAnyH_ready (rs := [13]) (by kernel_rfl) (by simp) ?_
              refine AllReadyH.cons (o := { dst := some 75, op := Op.call { callee := Callee.value (Operand.func 71), args := #[Operand.tmp 73, Operand.tmp 74], argTypes := #[24, 3] }, type := 24, pos := "ref.go:92", after := #[{ on := 11, ground := Ground.data }, { on := 12, ground := Ground.data }, { on := 8, ground := Ground.chain }, { on := 8, ground := Ground.guard }], guard := some (8, true) }) rfl (fun K hK => ?_) AllReadyH.nil
              go_simp
              refine (HA.out _).mono ?_
              rintro ev w7 ⟨rfl, nb⟩
              have I7 := Lib.hid (I5.out.keep nb)
              clear nb I5
              refine hK.out _ _ ?_ (fun hHeld => ?_)
              · exact ⟨I7.out.e, I7.out.s⟩
              clear hK K
              (try simp only [Act.put, List.setIfInBounds_toArray, List.set_cons_zero, List.set_cons_succ])
              refine wpAnyH_ready (rs := [14]) (by kernel_rfl) (by simp) ?_
              refine AllReadyH.cons (o := { dst := some 76, op := Op.call { callee := Callee.value (Operand.func 70), args := #[Operand.tmp 72, Operand.tmp 75], argTypes := #[24, 24] }, type := 4, pos := "ref.go:92", after := #[{ on := 10, ground := Ground.data }, { on := 13, ground := Ground.data }, { on := 13, ground := Ground.chain }, { on := 8, ground := Ground.guard }], guard := some (8, true) }) rfl (fun K hK => ?_) AllReadyH.nil
              go_simp
              refine (HW.out _).mono ?_
              rintro ev w8 ⟨rfl, nb⟩
              have I9 := Lib.hid (I7.out.keep nb)
              clear nb I7
              refine hK.out _ _ ?_ (fun hHeld => ?_)
              · exact ⟨I9.out.e, I9.out.s⟩
              clear hK K
              (try simp only [Act.put, List.setIfInBounds_toArray, List.set_cons_zero, List.set_cons_succ])
              refine wpAnyH_take (i := 15) (oi := { dst := some 77, op := Op.pick (Operand.tmp 70) (Operand.tmp 76) (Operand.const (Value.bool false)), type := 4, pos := "ref.go:92", after := #[{ on := 8, ground := Ground.data }, { on := 14, ground := Ground.data }], guard := none }) (v := ?_) rfl (by kernel_rfl) (by kernel_rfl) (by kernel_rfl) (fun _ _ _ h => h) (Or.inl ⟨by rfl, ?_⟩) (by assumption) ?_
              rotate_left
              · intro w hSw; (try dsimp only at hSw); obtain ⟨hE, hB⟩ := hSw; obtain ⟨e0, e1, e2, e3, e4, e5, e6, e7, e8⟩ := hE.cells; obtain ⟨r0, r1, r2, r3, r4, r5⟩ := cells6 hB; go_simp; try with_reducible rfl
              (try simp only [Act.put, List.setIfInBounds_toArray, List.set_cons_zero, List.set_cons_succ])
              refine wpAnyH_done (by kernel_rfl) ?_ _
              clear hHeld
              obtain ⟨e0, e1, e2, e3, e4, e5, e6, e7, e8⟩ := I9.out.e.cells
              have co := I9.out.out.cell (F_at (VV.finG 1 [x0, x1, x2, x3, x4, x5] v f [q0, q1, q2, q3, q4, q5] j) hjl)
              rw [hvo] at co
              obtain ⟨e0, e1, e2, e3, e4, e5, e6, e7, e8⟩ := I9.out.e.cells
              have fo := I9.out.out.frozen j
              go_wp2_with fail
              refine (held_any _ _).mono ?_
              rintro ev w9 ⟨rfl, rfl⟩
              go_wp2
              go_roundw
              case rel => exact ⟨j + 1, hjl, by go_num, I9.out.put fun k hk => VV.finG_put1 HV.out k⟩
              case measure => simp [intOf]; omega
          · have hvo : VV.finG 2 [x0, x1, x2, x3, x4, x5] v f [q0, q1, q2, q3, q4, q5] j j = f (VV.at6 [q0, q1, q2, q3, q4, q5] j) := by unfold VV.finG; rw [if_neg (Nat.lt_irrefl _)]
            have hcb := HF.out _ (VV.at6_bu HBU.out j).1
            generalize hcv : f (VV.at6 [q0, q1, q2, q3, q4, q5] j) = cv at hvo hcb
            obtain ⟨e0, e1, e2, e3, e4, e5, e6, e7, e8⟩ := IJ.out.e.cells
            have HV := Lib.hid (show min cv 1000000 = VV.finV 2 [x0, x1, x2, x3, x4, x5] v f (VV.at6 [q0, q1, q2, q3, q4, q5] j) from (VV.fin_no (by decide) hcv).symm)
            clear hcv
            go_wp2_with fail
            have I9 := Lib.hid (IJ.out.keep (below_drawn wr))
            clear IJ e0 e1 e2 e3 e4 e5 e6 e7 e8
            refine wp_region_held_drew (S := fun w' => B9 w' w.heap.size (.int .i64 2) (.int .i64 x0) (.int .i64 x1) (.int .i64 x2) (.int .i64 x3) (.int .i64 x4) (.int .i64 x5) (.int .i64 v) (.slice A k.len c) ∧ BB w' (w.heap.size + 1) 24 [q0, q1, q2, q3, q4, q5]) (by kernel_rfl) ⟨I9.out.e, I9.out.s⟩ (fun hHeld => ?_)
            generalize wr.drew = Y at *
            refine wpAnyH_take (i := 0) (oi := { dst := some 62, op := Op.fieldAddr 28 (Operand.tmp 2) 0, type := 0, pos := "ref.go:92", after := #[], guard := none }) (v := ?_) rfl (by kernel_rfl) (by kernel_rfl) (by kernel_rfl) (fun _ _ _ h => h) (Or.inl ⟨by rfl, ?_⟩) (by assumption) ?_
            rotate_left
            · intro w hSw; (try dsimp only at hSw); obtain ⟨hE, hB⟩ := hSw; obtain ⟨e0, e1, e2, e3, e4, e5, e6, e7, e8⟩ := hE.cells; obtain ⟨r0, r1, r2, r3, r4, r5⟩ := cells6 hB; go_simp; try with_reducible rfl
            (try simp only [Act.put, List.setIfInBounds_toArray, List.set_cons_zero, List.set_cons_succ])
            refine wpAnyH_take (i := 1) (oi := { dst := some 63, op := Op.load 3 (Operand.tmp 62), type := 3, pos := "ref.go:92", after := #[{ on := 0, ground := Ground.data }], guard := none }) (v := ?_) rfl (by kernel_rfl) (by kernel_rfl) (by kernel_rfl) (fun _ _ _ h => h) (Or.inl ⟨by rfl, ?_⟩) (by assumption) ?_
            rotate_left
            · intro w hSw; (try dsimp only at hSw); obtain ⟨hE, hB⟩ := hSw; obtain ⟨e0, e1, e2, e3, e4, e5, e6, e7, e8⟩ := hE.cells; obtain ⟨r0, r1, r2, r3, r4, r5⟩ := cells6 hB; go_simp; try with_reducible rfl
            (try simp only [Act.put, List.setIfInBounds_toArray, List.set_cons_zero, List.set_cons_succ])
            refine wpAnyH_take (i := 2) (oi := { dst := some 64, op := Op.binOp BinOp.eql 3 (Operand.tmp 63) (Operand.const (Value.int IntKind.i64 1)) 3, type := 4, pos := "ref.go:92", after := #[{ on := 1, ground := Ground.data }], guard := none }) (v := ?_) rfl (by kernel_rfl) (by kernel_rfl) (by kernel_rfl) (fun _ _ _ h => h) (Or.inl ⟨by rfl, ?_⟩) (by assumption) ?_
            rotate_left
            · intro w hSw; (try dsimp only at hSw); obtain ⟨hE, hB⟩ := hSw; obtain ⟨e0, e1, e2, e3, e4, e5, e6, e7, e8⟩ := hE.cells; obtain ⟨r0, r1, r2, r3, r4, r5⟩ := cells6 hB; go_simp; try with_reducible rfl
            (try simp only [Act.put, List.setIfInBounds_toArray, List.set_cons_zero, List.set_cons_succ])
            refine wpAnyH_take (i := 3) (oi := { dst := some 65, op := Op.move (Operand.tmp 64), type := 4, pos := "ref.go:92", after := #[{ on := 2, ground := Ground.data }], guard := none }) (v := ?_) rfl (by kernel_rfl) (by kernel_rfl) (by kernel_rfl) (fun _ _ _ h => h) (Or.inl ⟨by rfl, ?_⟩) (by assumption) ?_
            rotate_left
            · intro w hSw; (try dsimp only at hSw); obtain ⟨hE, hB⟩ := hSw; obtain ⟨e0, e1, e2, e3, e4, e5, e6, e7, e8⟩ := hE.cells; obtain ⟨r0, r1, r2, r3, r4, r5⟩ := cells6 hB; go_simp; try with_reducible rfl
            (try simp only [Act.put, List.setIfInBounds_toArray, List.set_cons_zero, List.set_cons_succ])
            refine wpAnyH_take (i := 4) (oi := { dst := some 66, op := Op.fieldAddr 28 (Operand.tmp 2) 0, type := 0, pos := "ref.go:92", after := #[{ on := 3, ground := Ground.guard }], guard := some (3, false) }) (v := ?_) rfl (by kernel_rfl) (by kernel_rfl) (by kernel_rfl) (fun _ _ _ h => h) (Or.inl ⟨by rfl, ?_⟩) (by assumption) ?_
            rotate_left
            · intro w hSw; (try dsimp only at hSw); obtain ⟨hE, hB⟩ := hSw; obtain ⟨e0, e1, e2, e3, e4, e5, e6, e7, e8⟩ := hE.cells; obtain ⟨r0, r1, r2, r3, r4, r5⟩ := cells6 hB; go_simp; try with_reducible rfl
            (try simp only [Act.put, List.setIfInBounds_toArray, List.set_cons_zero, List.set_cons_succ])
            refine wpAnyH_take (i := 5) (oi := { dst := some 67, op := Op.load 3 (Operand.tmp 66), type := 3, pos := "ref.go:92", after := #[{ on := 4, ground := Ground.data }, { on := 3, ground := Ground.guard }], guard := some (3, false) }) (v := ?_) rfl (by kernel_rfl) (by kernel_rfl) (by kernel_rfl) (fun _ _ _ h => h) (Or.inl ⟨by rfl, ?_⟩) (by assumption) ?_
            rotate_left
            · intro w hSw; (try dsimp only at hSw); obtain ⟨hE, hB⟩ := hSw; obtain ⟨e0, e1, e2, e3, e4, e5, e6, e7, e8⟩ := hE.cells; obtain ⟨r0, r1, r2, r3, r4, r5⟩ := cells6 hB; go_simp; try with_reducible rfl
            (try simp only [Act.put, List.setIfInBounds_toArray, List.set_cons_zero, List.set_cons_succ])
            refine wpAnyH_take (i := 6) (oi := { dst := some 68, op := Op.binOp BinOp.eql 3 (Operand.tmp 67) (Operand.const (Value.int IntKind.i64 4)) 3, type := 4, pos := "ref.go:92", after := #[{ on := 5, ground := Ground.data }, { on := 3, ground := Ground.guard }], guard := some (3, false) }) (v := ?_) rfl (by kernel_rfl) (by kernel_rfl) (by kernel_rfl) (fun _ _ _ h => h) (Or.inl ⟨by rfl, ?_⟩) (by assumption) ?_
            rotate_left
            · intro w hSw; (try dsimp only at hSw); obtain ⟨hE, hB⟩ := hSw; obtain ⟨e0, e1, e2, e3, e4, e5, e6, e7, e8⟩ := hE.cells; obtain ⟨r0, r1, r2, r3, r4, r5⟩ := cells6 hB; go_simp; try with_reducible rfl
            (try simp only [Act.put, List.setIfInBounds_toArray, List.set_cons_zero, List.set_cons_succ])
            refine wpAnyH_take (i := 7) (oi := { dst := some 69, op := Op.pick (Operand.tmp 65) (Operand.const (Value.bool true)) (Operand.tmp 68), type := 4, pos := "ref.go:92", after := #[{ on := 3, ground := Ground.data }, { on := 6, ground := Ground.data }], guard := none }) (v := ?_) rfl (by kernel_rfl) (by kernel_rfl) (by kernel_rfl) (fun _ _ _ h => h) (Or.inl ⟨by rfl, ?_⟩) (by assumption) ?_
            rotate_left
            · intro w hSw; (try dsimp only at hSw); obtain ⟨hE, hB⟩ := hSw; obtain ⟨e0, e1, e2, e3, e4, e5, e6, e7, e8⟩ := hE.cells; obtain ⟨r0, r1, r2, r3, r4, r5⟩ := cells6 hB; go_simp; try with_reducible rfl
            (try simp only [Act.put, List.setIfInBounds_toArray, List.set_cons_zero, List.set_cons_succ])
            refine wpAnyH_take (i := 8) (oi := { dst := some 70, op := Op.move (Operand.tmp 69), type := 4, pos := "ref.go:92", after := #[{ on := 7, ground := Ground.data }, { on := 3, ground := Ground.chain }], guard := none }) (v := ?_) rfl (by kernel_rfl) (by kernel_rfl) (by kernel_rfl) (fun _ _ _ h => h) (Or.inl ⟨by rfl, ?_⟩) (by assumption) ?_
            rotate_left
            · intro w hSw; (try dsimp only at hSw); obtain ⟨hE, hB⟩ := hSw; obtain ⟨e0, e1, e2, e3, e4, e5, e6, e7, e8⟩ := hE.cells; obtain ⟨r0, r1, r2, r3, r4, r5⟩ := cells6 hB; go_simp; try with_reducible rfl
            (try simp only [Act.put, List.setIfInBounds_toArray, List.set_cons_zero, List.set_cons_succ])
            refine wpAnyH_take (i := 9) (oi := { dst := some 71, op := Op.fieldAddr 28 (Operand.tmp 2) 1, type := 0, pos := "ref.go:92", after := #[{ on := 8, ground := Ground.guard }], guard := some (8, true) }) (v := undef) rfl (by kernel_rfl) (by kernel_rfl) (by kernel_rfl) (fun _ _ _ h => h) (Or.inr ⟨by rfl, rfl⟩) (by assumption) ?_
            (try simp only [Act.put, List.setIfInBounds_toArray, List.set_cons_zero, List.set_cons_succ])
            refine wpAnyH_take (i := 10) (oi := { dst := some 72, op := Op.load 24 (Operand.tmp 71), type := 24, pos := "ref.go:92", after := #[{ on := 9, ground := Ground.data }, { on := 8, ground := Ground.guard }], guard := some (8, true) }) (v := undef) rfl (by kernel_rfl) (by kernel_rfl) (by kernel_rfl) (fun _ _ _ h => h) (Or.inr ⟨by rfl, rfl⟩) (by assumption) ?_
            (try simp only [Act.put, List.setIfInBounds_toArray, List.set_cons_zero, List.set_cons_succ])
            refine wpAnyH_take (i := 11) (oi := { dst := some 73, op := Op.load 24 (Operand.tmp 3), type := 24, pos := "ref.go:92", after := #[{ on := 8, ground := Ground.guard }], guard := some (8, true) }) (v := undef) rfl (by kernel_rfl) (by kernel_rfl) (by kernel_rfl) (fun _ _ _ h => h) (Or.inr ⟨by rfl, rfl⟩) (by assumption) ?_
            (try simp only [Act.put, List.setIfInBounds_toArray, List.set_cons_zero, List.set_cons_succ])
            refine wpAnyH_take (i := 12) (oi := { dst := some 74, op := Op.move (Operand.tmp 10), type := 3, pos := "ref.go:92", after := #[{ on := 8, ground := Ground.guard }], guard := some (8, true) }) (v := undef) rfl (by kernel_rfl) (by kernel_rfl) (by kernel_rfl) (fun _ _ _ h => h) (Or.inr ⟨by rfl, rfl⟩) (by assumption) ?_
            (try simp only [Act.put, List.setIfInBounds_toArray, List.set_cons_zero, List.set_cons_succ])
            refine wpAnyH_take (i := 13) (oi := { dst := some 75, op := Op.call { callee := Callee.value (Operand.func 71), args := #[Operand.tmp 73, Operand.tmp 74], argTypes := #[24, 3] }, type := 24, pos := "ref.go:92", after := #[{ on := 11, ground := Ground.data }, { on := 12, ground := Ground.data }, { on := 8, ground := Ground.chain }, { on := 8, ground := Ground.guard }], guard := some (8, true) }) (v := undef) rfl (by kernel_rfl) (by kernel_rfl) (by kernel_rfl) (fun _ _ _ h => h) (Or.inr ⟨by rfl, rfl⟩) (by assumption) ?_
            (try simp only [Act.put, List.setIfInBounds_toArray, List.set_cons_zero, List.set_cons_succ])
            refine wpAnyH_take (i := 14) (oi := { dst := some 76, op := Op.call { callee := Callee.value (Operand.func 70), args := #[Operand.tmp 72, Operand.tmp 75], argTypes := #[24, 24] }, type := 4, pos := "ref.go:92", after := #[{ on := 10, ground := Ground.data }, { on := 13, ground := Ground.data }, { on := 13, ground := Ground.chain }, { on := 8, ground := Ground.guard }], guard := some (8, true) }) (v := undef) rfl (by kernel_rfl) (by kernel_rfl) (by kernel_rfl) (fun _ _ _ h => h) (Or.inr ⟨by rfl, rfl⟩) (by assumption) ?_
            (try simp only [Act.put, List.setIfInBounds_toArray, List.set_cons_zero, List.set_cons_succ])
            refine wpAnyH_take (i := 15) (oi := { dst := some 77, op := Op.pick (Operand.tmp 70) (Operand.tmp 76) (Operand.const (Value.bool false)), type := 4, pos := "ref.go:92", after := #[{ on := 8, ground := Ground.data }, { on := 14, ground := Ground.data }], guard := none }) (v := ?_) rfl (by kernel_rfl) (by kernel_rfl) (by kernel_rfl) (fun _ _ _ h => h) (Or.inl ⟨by rfl, ?_⟩) (by assumption) ?_
            rotate_left
            · intro w hSw; (try dsimp only at hSw); obtain ⟨hE, hB⟩ := hSw; obtain ⟨e0, e1, e2, e3, e4, e5, e6, e7, e8⟩ := hE.cells; obtain ⟨r0, r1, r2, r3, r4, r5⟩ := cells6 hB; go_simp; try with_reducible rfl
            (try simp only [Act.put, List.setIfInBounds_toArray, List.set_cons_zero, List.set_cons_succ])
            refine wpAnyH_done (by kernel_rfl) ?_ _
            clear hHeld
            obtain ⟨e0, e1, e2, e3, e4, e5, e6, e7, e8⟩ := I9.out.e.cells
            have co := I9.out.out.cell (F_at (VV.finG 2 [x0, x1, x2, x3, x4, x5] v f [q0, q1, q2, q3, q4, q5] j) hjl)
            rw [hvo] at co
            obtain ⟨e0, e1, e2, e3, e4, e5, e6, e7, e8⟩ := I9.out.e.cells
            have fo := I9.out.out.frozen j
            go_wp2_with fail
            refine (held_any _ _).mono ?_
            rintro ev w9 ⟨rfl, rfl⟩
            go_wp2
            go_roundw
            case rel => exact ⟨j + 1, hjl, by go_num, I9.out.put fun k hk => VV.finG_put1 HV.out k⟩
            case measure => simp [intOf]; omega
          · have hvo : VV.finG 3 [x0, x1, x2, x3, x4, x5] v f [q0, q1, q2, q3, q4, q5] j j = f (VV.at6 [q0, q1, q2, q3, q4, q5] j) := by unfold VV.finG; rw [if_neg (Nat.lt_irrefl _)]
            have hcb := HF.out _ (VV.at6_bu HBU.out j).1
            generalize hcv : f (VV.at6 [q0, q1, q2, q3, q4, q5] j) = cv at hvo hcb
            obtain ⟨e0, e1, e2, e3, e4, e5, e6, e7, e8⟩ := IJ.out.e.cells
            have HV := Lib.hid (show min cv 1000000 = VV.finV 3 [x0, x1, x2, x3, x4, x5] v f (VV.at6 [q0, q1, q2, q3, q4, q5] j) from (VV.fin_no (by decide) hcv).symm)
            clear hcv
            go_wp2_with fail
            have I9 := Lib.hid (IJ.out.keep (below_drawn wr))
            clear IJ e0 e1 e2 e3 e4 e5 e6 e7 e8
            refine wp_region_held_drew (S := fun w' => B9 w' w.heap.size (.int .i64 3) (.int .i64 x0) (.int .i64 x1) (.int .i64 x2) (.int .i64 x3) (.int .i64 x4) (.int .i64 x5) (.int .i64 v) (.slice A k.len c) ∧ BB w' (w.heap.size + 1) 24 [q0, q1, q2, q3, q4, q5]) (by kernel_rfl) ⟨I9.out.e, I9.out.s⟩ (fun hHeld => ?_)
            generalize wr.drew = Y at *
            refine wpAnyH_take (i := 0) (oi := { dst := some 62, op := Op.fieldAddr 28 (Operand.tmp 2) 0, type := 0, pos := "ref.go:92", after := #[], guard := none }) (v := ?_) rfl (by kernel_rfl) (by kernel_rfl) (by kernel_rfl) (fun _ _ _ h => h) (Or.inl ⟨by rfl, ?_⟩) (by assumption) ?_
            rotate_left
            · intro w hSw; (try dsimp only at hSw); obtain ⟨hE, hB⟩ := hSw; obtain ⟨e0, e1, e2, e3, e4, e5, e6, e7, e8⟩ := hE.cells; obtain ⟨r0, r1, r2, r3, r4, r5⟩ := cells6 hB; go_simp; try with_reducible rfl
            (try simp only [Act.put, List.setIfInBounds_toArray, List.set_cons_zero, List.set_cons_succ])
            refine wpAnyH_take (i := 1) (oi := { dst := some 63, op := Op.load 3 (Operand.tmp 62), type := 3, pos := "ref.go:92", after := #[{ on := 0, ground := Ground.data }], guard := none }) (v := ?_) rfl (by kernel_rfl) (by kernel_rfl) (by kernel_rfl) (fun _ _ _ h => h) (Or.inl ⟨by rfl, ?_⟩) (by assumption) ?_
            rotate_left
            · intro w hSw; (try dsimp only at hSw); obtain ⟨hE, hB⟩ := hSw; obtain ⟨e0, e1, e2, e3, e4, e5, e6, e7, e8⟩ := hE.cells; obtain ⟨r0, r1, r2, r3, r4, r5⟩ := cells6 hB; go_simp; try with_reducible rfl
            (try simp only [Act.put, List.setIfInBounds_toArray, List.set_cons_zero, List.set_cons_succ])
            refine wpAnyH_take (i := 2) (oi := { dst := some 64, op := Op.binOp BinOp.eql 3 (Operand.tmp 63) (Operand.const (Value.int IntKind.i64 1)) 3, type := 4, pos := "ref.go:92", after := #[{ on := 1, ground := Ground.data }], guard := none }) (v := ?_) rfl (by kernel_rfl) (by kernel_rfl) (by kernel_rfl) (fun _ _ _ h => h) (Or.inl ⟨by rfl, ?_⟩) (by assumption) ?_
            rotate_left
            · intro w hSw; (try dsimp only at hSw); obtain ⟨hE, hB⟩ := hSw; obtain ⟨e0, e1, e2, e3, e4, e5, e6, e7, e8⟩ := hE.cells; obtain ⟨r0, r1, r2, r3, r4, r5⟩ := cells6 hB; go_simp; try with_reducible rfl
            (try simp only [Act.put, List.setIfInBounds_toArray, List.set_cons_zero, List.set_cons_succ])
            refine wpAnyH_take (i := 3) (oi := { dst := some 65, op := Op.move (Operand.tmp 64), type := 4, pos := "ref.go:92", after := #[{ on := 2, ground := Ground.data }], guard := none }) (v := ?_) rfl (by kernel_rfl) (by kernel_rfl) (by kernel_rfl) (fun _ _ _ h => h) (Or.inl ⟨by rfl, ?_⟩) (by assumption) ?_
            rotate_left
            · intro w hSw; (try dsimp only at hSw); obtain ⟨hE, hB⟩ := hSw; obtain ⟨e0, e1, e2, e3, e4, e5, e6, e7, e8⟩ := hE.cells; obtain ⟨r0, r1, r2, r3, r4, r5⟩ := cells6 hB; go_simp; try with_reducible rfl
            (try simp only [Act.put, List.setIfInBounds_toArray, List.set_cons_zero, List.set_cons_succ])
            refine wpAnyH_take (i := 4) (oi := { dst := some 66, op := Op.fieldAddr 28 (Operand.tmp 2) 0, type := 0, pos := "ref.go:92", after := #[{ on := 3, ground := Ground.guard }], guard := some (3, false) }) (v := ?_) rfl (by kernel_rfl) (by kernel_rfl) (by kernel_rfl) (fun _ _ _ h => h) (Or.inl ⟨by rfl, ?_⟩) (by assumption) ?_
            rotate_left
            · intro w hSw; (try dsimp only at hSw); obtain ⟨hE, hB⟩ := hSw; obtain ⟨e0, e1, e2, e3, e4, e5, e6, e7, e8⟩ := hE.cells; obtain ⟨r0, r1, r2, r3, r4, r5⟩ := cells6 hB; go_simp; try with_reducible rfl
            (try simp only [Act.put, List.setIfInBounds_toArray, List.set_cons_zero, List.set_cons_succ])
            refine wpAnyH_take (i := 5) (oi := { dst := some 67, op := Op.load 3 (Operand.tmp 66), type := 3, pos := "ref.go:92", after := #[{ on := 4, ground := Ground.data }, { on := 3, ground := Ground.guard }], guard := some (3, false) }) (v := ?_) rfl (by kernel_rfl) (by kernel_rfl) (by kernel_rfl) (fun _ _ _ h => h) (Or.inl ⟨by rfl, ?_⟩) (by assumption) ?_
            rotate_left
            · intro w hSw; (try dsimp only at hSw); obtain ⟨hE, hB⟩ := hSw; obtain ⟨e0, e1, e2, e3, e4, e5, e6, e7, e8⟩ := hE.cells; obtain ⟨r0, r1, r2, r3, r4, r5⟩ := cells6 hB; go_simp; try with_reducible rfl
            (try simp only [Act.put, List.setIfInBounds_toArray, List.set_cons_zero, List.set_cons_succ])
            refine wpAnyH_take (i := 6) (oi := { dst := some 68, op := Op.binOp BinOp.eql 3 (Operand.tmp 67) (Operand.const (Value.int IntKind.i64 4)) 3, type := 4, pos := "ref.go:92", after := #[{ on := 5, ground := Ground.data }, { on := 3, ground := Ground.guard }], guard := some (3, false) }) (v := ?_) rfl (by kernel_rfl) (by kernel_rfl) (by kernel_rfl) (fun _ _ _ h => h) (Or.inl ⟨by rfl, ?_⟩) (by assumption) ?_
            rotate_left
            · intro w hSw; (try dsimp only at hSw); obtain ⟨hE, hB⟩ := hSw; obtain ⟨e0, e1, e2, e3, e4, e5, e6, e7, e8⟩ := hE.cells; obtain ⟨r0, r1, r2, r3, r4, r5⟩ := cells6 hB; go_simp; try with_reducible rfl
            (try simp only [Act.put, List.setIfInBounds_toArray, List.set_cons_zero, List.set_cons_succ])
            refine wpAnyH_take (i := 7) (oi := { dst := some 69, op := Op.pick (Operand.tmp 65) (Operand.const (Value.bool true)) (Operand.tmp 68), type := 4, pos := "ref.go:92", after := #[{ on := 3, ground := Ground.data }, { on := 6, ground := Ground.data }], guard := none }) (v := ?_) rfl (by kernel_rfl) (by kernel_rfl) (by kernel_rfl) (fun _ _ _ h => h) (Or.inl ⟨by rfl, ?_⟩) (by assumption) ?_
            rotate_left
            · intro w hSw; (try dsimp only at hSw); obtain ⟨hE, hB⟩ := hSw; obtain ⟨e0, e1, e2, e3, e4, e5, e6, e7, e8⟩ := hE.cells; obtain ⟨r0, r1, r2, r3, r4, r5⟩ := cells6 hB; go_simp; try with_reducible rfl
            (try simp only [Act.put, List.setIfInBounds_toArray, List.set_cons_zero, List.set_cons_succ])
            refine wpAnyH_take (i := 8) (oi := { dst := some 70, op := Op.move (Operand.tmp 69), type := 4, pos := "ref.go:92", after := #[{ on := 7, ground := Ground.data }, { on := 3, ground := Ground.chain }], guard := none }) (v := ?_) rfl (by kernel_rfl) (by kernel_rfl) (by kernel_rfl) (fun _ _ _ h => h) (Or.inl ⟨by rfl, ?_⟩) (by assumption) ?_
            rotate_left
            · intro w hSw; (try dsimp only at hSw); obtain ⟨hE, hB⟩ := hSw; obtain ⟨e0, e1, e2, e3, e4, e5, e6, e7, e8⟩ := hE.cells; obtain ⟨r0, r1, r2, r3, r4, r5⟩ := cells6 hB; go_simp; try with_reducible rfl
            (try simp only [Act.put, List.setIfInBounds_toArray, List.set_cons_zero, List.set_cons_succ])
            refine wpAnyH_take (i := 9) (oi := { dst := some 71, op := Op.fieldAddr 28 (Operand.tmp 2) 1, type := 0, pos := "ref.go:92", after := #[{ on := 8, ground := Ground.guard }], guard := some (8, true) }) (v := undef) rfl (by kernel_rfl) (by kernel_rfl) (by kernel_rfl) (fun _ _ _ h => h) (Or.inr ⟨by rfl, rfl⟩) (by assumption) ?_
            (try simp only [Act.put, List.setIfInBounds_toArray, List.set_cons_zero, List.set_cons_succ])
            refine wpAnyH_take (i := 10) (oi := { dst := some 72, op := Op.load 24 (Operand.tmp 71), type := 24, pos := "ref.go:92", after := #[{ on := 9, ground := Ground.data }, { on := 8, ground := Ground.guard }], guard := some (8, true) }) (v := undef) rfl (by kernel_rfl) (by kernel_rfl) (by kernel_rfl) (fun _ _ _ h => h) (Or.inr ⟨by rfl, rfl⟩) (by assumption) ?_
            (try simp only [Act.put, List.setIfInBounds_toArray, List.set_cons_zero, List.set_cons_succ])
            refine wpAnyH_take (i := 11) (oi := { dst := some 73, op := Op.load 24 (Operand.tmp 3), type := 24, pos := "ref.go:92", after := #[{ on := 8, ground := Ground.guard }], guard := some (8, true) }) (v := undef) rfl (by kernel_rfl) (by kernel_rfl) (by kernel_rfl) (fun _ _ _ h => h) (Or.inr ⟨by rfl, rfl⟩) (by assumption) ?_
            (try simp only [Act.put, List.setIfInBounds_toArray, List.set_cons_zero, List.set_cons_succ])
            refine wpAnyH_take (i := 12) (oi := { dst := some 74, op := Op.move (Operand.tmp 10), type := 3, pos := "ref.go:92", after := #[{ on := 8, ground := Ground.guard }], guard := some (8, true) }) (v := undef) rfl (by kernel_rfl) (by kernel_rfl) (by kernel_rfl) (fun _ _ _ h => h) (Or.inr ⟨by rfl, rfl⟩) (by assumption) ?_
            (try simp only [Act.put, List.setIfInBounds_toArray, List.set_cons_zero, List.set_cons_succ])
            refine wpAnyH_take (i := 13) (oi := { dst := some 75, op := Op.call { callee := Callee.value (Operand.func 71), args := #[Operand.tmp 73, Operand.tmp 74], argTypes := #[24, 3] }, type := 24, pos := "ref.go:92", after := #[{ on := 11, ground := Ground.data }, { on := 12, ground := Ground.data }, { on := 8, ground := Ground.chain }, { on := 8, ground := Ground.guard }], guard := some (8, true) }) (v := undef) rfl (by kernel_rfl) (by kernel_rfl) (by kernel_rfl) (fun _ _ _ h => h) (Or.inr ⟨by rfl, rfl⟩) (by assumption) ?_
            (try simp only [Act.put, List.setIfInBounds_toArray, List.set_cons_zero, List.set_cons_succ])
            refine wpAnyH_take (i := 14) (oi := { dst := some 76, op := Op.call { callee := Callee.value (Operand.func 70), args := #[Operand.tmp 72, Operand.tmp 75], argTypes := #[24, 24] }, type := 4, pos := "ref.go:92", after := #[{ on := 10, ground := Ground.data }, { on := 13, ground := Ground.data }, { on := 13, ground := Ground.chain }, { on := 8, ground := Ground.guard }], guard := some (8, true) }) (v := undef) rfl (by kernel_rfl) (by kernel_rfl) (by kernel_rfl) (fun _ _ _ h => h) (Or.inr ⟨by rfl, rfl⟩) (by assumption) ?_
            (try simp only [Act.put, List.setIfInBounds_toArray, List.set_cons_zero, List.set_cons_succ])
            refine wpAnyH_take (i := 15) (oi := { dst := some 77, op := Op.pick (Operand.tmp 70) (Operand.tmp 76) (Operand.const (Value.bool false)), type := 4, pos := "ref.go:92", after := #[{ on := 8, ground := Ground.data }, { on := 14, ground := Ground.data }], guard := none }) (v := ?_) rfl (by kernel_rfl) (by kernel_rfl) (by kernel_rfl) (fun _ _ _ h => h) (Or.inl ⟨by rfl, ?_⟩) (by assumption) ?_
            rotate_left
            · intro w hSw; (try dsimp only at hSw); obtain ⟨hE, hB⟩ := hSw; obtain ⟨e0, e1, e2, e3, e4, e5, e6, e7, e8⟩ := hE.cells; obtain ⟨r0, r1, r2, r3, r4, r5⟩ := cells6 hB; go_simp; try with_reducible rfl
            (try simp only [Act.put, List.setIfInBounds_toArray, List.set_cons_zero, List.set_cons_succ])
            refine wpAnyH_done (by kernel_rfl) ?_ _
            clear hHeld
            obtain ⟨e0, e1, e2, e3, e4, e5, e6, e7, e8⟩ := I9.out.e.cells
            have co := I9.out.out.cell (F_at (VV.finG 3 [x0, x1, x2, x3, x4, x5] v f [q0, q1, q2, q3, q4, q5] j) hjl)
            rw [hvo] at co
            obtain ⟨e0, e1, e2, e3, e4, e5, e6, e7, e8⟩ := I9.out.e.cells
            have fo := I9.out.out.frozen j
            go_wp2_with fail
            refine (held_any _ _).mono ?_
            rintro ev w9 ⟨rfl, rfl⟩
            go_wp2
            go_roundw
            case rel => exact ⟨j + 1, hjl, by go_num, I9.out.put fun k hk => VV.finG_put1 HV.out k⟩
            case measure => simp [intOf]; omega
          · have hvo : VV.finG 4 [x0, x1, x2, x3, x4, x5] v f [q0, q1, q2, q3, q4, q5] j j = f (VV.at6 [q0, q1, q2, q3, q4, q5] j) := by unfold VV.finG; rw [if_neg (Nat.lt_irrefl _)]
            have hcb := HF.out _ (VV.at6_bu HBU.out j).1
            generalize hcv : f (VV.at6 [q0, q1, q2, q3, q4, q5] j) = cv at hvo hcb
            obtain ⟨e0, e1, e2, e3, e4, e5, e6, e7, e8⟩ := IJ.out.e.cells
            have HA := Lib.hid (fun w' => at13_any q0 q1 q2 q3 q4 q5 j w' HOQ.out (by have := HN.out; show j < VV.cnt [q0, q1, q2, q3, q4, q5]; omega))
            obtain ⟨y0, y1, y2, y3, y4, y5, hy6⟩ := six (MB.D_length [q0, q1, q2, q3, q4, q5] 6 j)
            rw [hy6, aggB_lit] at HA
            have HY := Lib.hid ((VV.at6_eq [q0, q1, q2, q3, q4, q5] j).trans hy6)
            have HW := Lib.hid (fun w' => rwithin13_any x0 x1 x2 x3 x4 x5 y0 y1 y2 y3 y4 y5 w')
            clear hy6
            by_cases hw : MB.withinB [x0, x1, x2, x3, x4, x5] [y0, y1, y2, y3, y4, y5] 6 = true
            · have HV := Lib.hid (show min (cv + v) 1000000 = VV.finV 4 [x0, x1, x2, x3, x4, x5] v f (VV.at6 [q0, q1, q2, q3, q4, q5] j) from (VV.fin_in (by decide) (by rw [HY.out]; exact hw) hcv).symm)
              rw [hw] at HW
              clear hw hcv HY
              go_wp2_with fail
              have I5 := Lib.hid (IJ.out.keep (below_drawn wr))
              clear IJ e0 e1 e2 e3 e4 e5 e6 e7 e8
              refine wp_region_held_drew (S := fun w' => B9 w' w.heap.size (.int .i64 4) (.int .i64 x0) (.int .i64 x1) (.int .i64 x2) (.int .i64 x3) (.int .i64 x4) (.int .i64 x5) (.int .i64 v) (.slice A k.len c) ∧ BB w' (w.heap.size + 1) 24 [q0, q1, q2, q3, q4, q5]) (by kernel_rfl) ⟨I5.out.e, I5.out.s⟩ (fun hHeld => ?_)
              generalize wr.drew = Y at *
              refine wpAnyH_take (i := 0) (oi := { dst := some 62, op := Op.fieldAddr 28 (Operand.tmp 2) 0, type := 0, pos := "ref.go:92", after := #[], guard := none }) (v := ?_) rfl (by kernel_rfl) (by kernel_rfl) (by kernel_rfl) (fun _ _ _ h => h) (Or.inl ⟨by rfl, ?_⟩) (by assumption) ?_
              rotate_left
              · intro w hSw; (try dsimp only at hSw); obtain ⟨hE, hB⟩ := hSw; obtain ⟨e0, e1, e2, e3, e4, e5, e6, e7, e8⟩ := hE.cells; obtain ⟨r0, r1, r2, r3, r4, r5⟩ := cells6 hB; go_simp; try with_reducible rfl
              (try simp only [Act.put, List.setIfInBounds_toArray, List.set_cons_zero, List.set_cons_succ])
              refine wpAnyH_take (i := 1) (oi := { dst := some 63, op := Op.load 3 (Operand.tmp 62), type := 3, pos := "ref.go:92", after := #[{ on := 0, ground := Ground.data }], guard := none }) (v := ?_) rfl (by kernel_rfl) (by kernel_rfl) (by kernel_rfl) (fun _ _ _ h => h) (Or.inl ⟨by rfl, ?_⟩) (by assumption) ?_
              rotate_left
              · intro w hSw; (try dsimp only at hSw); obtain ⟨hE, hB⟩ := hSw; obtain ⟨e0, e1, e2, e3, e4, e5, e6, e7, e8⟩ := hE.cells; obtain ⟨r0, r1, r2, r3, r4, r5⟩ := cells6 hB; go_simp; try with_reducible rfl
              (try simp only [Act.put, List.setIfInBounds_toArray, List.set_cons_zero, List.set_cons_succ])
              refine wpAnyH_take (i := 2) (oi := { dst := some 64, op := Op.binOp BinOp.eql 3 (Operand.tmp 63) (Operand.const (Value.int IntKind.i64 1)) 3, type := 4, pos := "ref.go:92", after := #[{ on := 1, ground := Ground.data }], guard := none }) (v := ?_) rfl (by kernel_rfl) (by kernel_rfl) (by kernel_rfl) (fun _ _ _ h => h) (Or.inl ⟨by rfl, ?_⟩) (by assumption) ?_
              rotate_left
              · intro w hSw; (try dsimp only at hSw); obtain ⟨hE, hB⟩ := hSw; obtain ⟨e0, e1, e2, e3, e4, e5, e6, e7, e8⟩ := hE.cells; obtain ⟨r0, r1, r2, r3, r4, r5⟩ := cells6 hB; go_simp; try with_reducible rfl
              (try simp only [Act.put, List.setIfInBounds_toArray, List.set_cons_zero, List.set_cons_succ])
              refine wpAnyH_take (i := 3) (oi := { dst := some 65, op := Op.move (Operand.tmp 64), type := 4, pos := "ref.go:92", after := #[{ on := 2, ground := Ground.data }], guard := none }) (v := ?_) rfl (by kernel_rfl) (by kernel_rfl) (by kernel_rfl) (fun _ _ _ h => h) (Or.inl ⟨by rfl, ?_⟩) (by assumption) ?_
              rotate_left
              · intro w hSw; (try dsimp only at hSw); obtain ⟨hE, hB⟩ := hSw; obtain ⟨e0, e1, e2, e3, e4, e5, e6, e7, e8⟩ := hE.cells; obtain ⟨r0, r1, r2, r3, r4, r5⟩ := cells6 hB; go_simp; try with_reducible rfl
              (try simp only [Act.put, List.setIfInBounds_toArray, List.set_cons_zero, List.set_cons_succ])
              refine wpAnyH_take (i := 4) (oi := { dst := some 66, op := Op.fieldAddr 28 (Operand.tmp 2) 0, type := 0, pos := "ref.go:92", after := #[{ on := 3, ground := Ground.guard }], guard := some (3, false) }) (v := ?_) rfl (by kernel_rfl) (by kernel_rfl) (by kernel_rfl) (fun _ _ _ h => h) (Or.inl ⟨by rfl, ?_⟩) (by assumption) ?_
              rotate_left
              · intro w hSw; (try dsimp only at hSw); obtain ⟨hE, hB⟩ := hSw; obtain ⟨e0, e1, e2, e3, e4, e5, e6, e7, e8⟩ := hE.cells; obtain ⟨r0, r1, r2, r3, r4, r5⟩ := cells6 hB; go_simp; try with_reducible rfl
              (try simp only [Act.put, List.setIfInBounds_toArray, List.set_cons_zero, List.set_cons_succ])
              refine wpAnyH_take (i := 5) (oi := { dst := some 67, op := Op.load 3 (Operand.tmp 66), type := 3, pos := "ref.go:92", after := #[{ on := 4, ground := Ground.data }, { on := 3, ground := Ground.guard }], guard := some (3, false) }) (v := ?_) rfl (by kernel_rfl) (by kernel_rfl) (by kernel_rfl) (fun _ _ _ h => h) (Or.inl ⟨by rfl, ?_⟩) (by assumption) ?_
              rotate_left
              · intro w hSw; (try dsimp only at hSw); obtain ⟨hE, hB⟩ := hSw; obtain ⟨e0, e1, e2, e3, e4, e5, e6, e7, e8⟩ := hE.cells; obtain ⟨r0, r1, r2, r3, r4, r5⟩ := cells6 hB; go_simp; try with_reducible rfl
              (try simp only [Act.put, List.setIfInBounds_toArray, List.set_cons_zero, List.set_cons_succ])
              refine wpAnyH_take (i := 6) (oi := { dst := some 68, op := Op.binOp BinOp.eql 3 (Operand.tmp 67) (Operand.const (Value.int IntKind.i64 4)) 3, type := 4, pos := "ref.go:92", after := #[{ on := 5, ground := Ground.data }, { on := 3, ground := Ground.guard }], guard := some (3, false) }) (v := ?_) rfl (by kernel_rfl) (by kernel_rfl) (by kernel_rfl) (fun _ _ _ h => h) (Or.inl ⟨by rfl, ?_⟩) (by assumption) ?_
              rotate_left
              · intro w hSw; (try dsimp only at hSw); obtain ⟨hE, hB⟩ := hSw; obtain ⟨e0, e1, e2, e3, e4, e5, e6, e7, e8⟩ := hE.cells; obtain ⟨r0, r1, r2, r3, r4, r5⟩ := cells6 hB; go_simp; try with_reducible rfl
              (try simp only [Act.put, List.setIfInBounds_toArray, List.set_cons_zero, List.set_cons_succ])
              refine wpAnyH_take (i := 7) (oi := { dst := some 69, op := Op.pick (Operand.tmp 65) (Operand.const (Value.bool true)) (Operand.tmp 68), type := 4, pos := "ref.go:92", after := #[{ on := 3, ground := Ground.data }, { on := 6, ground := Ground.data }], guard := none }) (v := ?_) rfl (by kernel_rfl) (by kernel_rfl) (by kernel_rfl) (fun _ _ _ h => h) (Or.inl ⟨by rfl, ?_⟩) (by assumption) ?_
              rotate_left
              · intro w hSw; (try dsimp only at hSw); obtain ⟨hE, hB⟩ := hSw; obtain ⟨e0, e1, e2, e3, e4, e5, e6, e7, e8⟩ := hE.cells; obtain ⟨r0, r1, r2, r3, r4, r5⟩ := cells6 hB; go_simp; try with_reducible rfl
              (try simp only [Act.put, List.setIfInBounds_toArray, List.set_cons_zero, List.set_cons_succ])
              refine wpAnyH_take (i := 8) (oi := { dst := some 70, op := Op.move (Operand.tmp 69), type := 4, pos := "ref.go:92", after := #[{ on := 7, ground := Ground.data }, { on := 3, ground := Ground.chain }], guard := none }) (v := ?_) rfl (by kernel_rfl) (by kernel_rfl) (by kernel_rfl) (fun _ _ _ h => h) (Or.inl ⟨by rfl, ?_⟩) (by assumption) ?_
              rotate_left
              · intro w hSw; (try dsimp only at hSw); obtain ⟨hE, hB⟩ := hSw; obtain ⟨e0, e1, e2, e3, e4, e5, e6, e7, e8⟩ := hE.cells; obtain ⟨r0, r1, r2, r3, r4, r5⟩ := cells6 hB; go_simp; try with_reducible rfl
              (try simp only [Act.put, List.setIfInBounds_toArray, List.set_cons_zero, List.set_cons_succ])
              refine wpAnyH_take (i := 9) (oi := { dst := some 71, op := Op.fieldAddr 28 (Operand.tmp 2) 1, type := 0, pos := "ref.go:92", after := #[{ on := 8, ground := Ground.guard }], guard := some (8, true) }) (v := ?_) rfl (by kernel_rfl) (by kernel_rfl) (by kernel_rfl) (fun _ _ _ h => h) (Or.inl ⟨by rfl, ?_⟩) (by assumption) ?_
              rotate_left
              · intro w hSw; (try dsimp only at hSw); obtain ⟨hE, hB⟩ := hSw; obtain ⟨e0, e1, e2, e3, e4, e5, e6, e7, e8⟩ := hE.cells; obtain ⟨r0, r1, r2, r3, r4, r5⟩ := cells6 hB; go_simp; try with_reducible rfl
              (try simp only [Act.put, List.setIfInBounds_toArray, List.set_cons_zero, List.set_cons_succ])
              refine wpAnyH_take (i := 10) (oi := { dst := some 72, op := Op.load 24 (Operand.tmp 71), type := 24, pos := "ref.go:92", after := #[{ on := 9, ground := Ground.data }, { on := 8, ground := Ground.guard }], guard := some (8, true) }) (v := ?_) rfl (by kernel_rfl) (by kernel_rfl) (by kernel_rfl) (fun _ _ _ h => h) (Or.inl ⟨by rfl, ?_⟩) (by assumption) ?_
              rotate_left
              · intro w hSw; (try dsimp only at hSw); obtain ⟨hE, hB⟩ := hSw; obtain ⟨e0, e1, e2, e3, e4, e5, e6, e7, e8⟩ := hE.cells; obtain ⟨r0, r1, r2, r3, r4, r5⟩ := cells6 hB; go_simp; try with_reducible rfl
              (try simp only [Act.put, List.setIfInBounds_toArray, List.set_cons_zero, List.set_cons_succ])
              refine wpAnyH_take (i := 11) (oi := { dst := some 73, op := Op.load 24 (Operand.tmp 3), type := 24, pos := "ref.go:92", after := #[{ on := 8, ground := Ground.guard }], guard := some (8, true) }) (v := ?_) rfl (by kernel_rfl) (by kernel_rfl) (by kernel_rfl) (fun _ _ _ h => h) (Or.inl ⟨by rfl, ?_⟩) (by assumption) ?_
              rotate_left
              · intro w hSw; (try dsimp only at hSw); obtain ⟨hE, hB⟩ := hSw; obtain ⟨e0, e1, e2, e3, e4, e5, e6, e7, e8⟩ := hE.cells; obtain ⟨r0, r1, r2, r3, r4, r5⟩ := cells6 hB; go_simp; try with_reducible rfl
              (try simp only [Act.put, List.setIfInBounds_toArray, List.set_cons_zero, List.set_cons_succ])
              refine wpAnyH_take (i := 12) (oi := { dst := some 74, op := Op.move (Operand.tmp 10), type := 3, pos := "ref.go:92", after := #[{ on := 8, ground := Ground.guard }], guard := some (8, true) }) (v := ?_) rfl (by kernel_rfl) (by kernel_rfl) (by kernel_rfl) (fun _ _ _ h => h) (Or.inl ⟨by rfl, ?_⟩) (by assumption) ?_
              rotate_left
              · intro w hSw; (try dsimp only at hSw); obtain ⟨hE, hB⟩ := hSw; obtain ⟨e0, e1, e2, e3, e4, e5, e6, e7, e8⟩ := hE.cells; obtain ⟨r0, r1, r2, r3, r4, r5⟩ := cells6 hB; go_simp; try with_reducible rfl
              (try simp only [Act.put, List.setIfInBounds_toArray, List.set_cons_zero, List.set_cons_succ])
              refine wpAnyH_ready (rs := [13]) (by kernel_rfl) (by simp) ?_
              refine AllReadyH.cons (o := { dst := some 75, op := Op.call { callee := Callee.value (Operand.func 71), args := #[Operand.tmp 73, Operand.tmp 74], argTypes := #[24, 3] }, type := 24, pos := "ref.go:92", after := #[{ on := 11, ground := Ground.data }, { on := 12, ground := Ground.data }, { on := 8, ground := Ground.chain }, { on := 8, ground := Ground.guard }], guard := some (8, true) }) rfl (fun K hK => ?_) AllReadyH.nil
              go_simp
              refine (HA.out _).mono ?_
              rintro ev w7 ⟨rfl, nb⟩
              have I7 := Lib.hid (I5.out.keep nb)
              clear nb I5
              refine hK.out _ _ ?_ (fun hHeld => ?_)
              · exact ⟨I7.out.e, I7.out.s⟩
              clear hK K
              (try simp only [Act.put, List.setIfInBounds_toArray, List.set_cons_zero, List.set_cons_succ])
              refine wpAnyH_ready (rs := [14]) (by kernel_rfl) (by simp) ?_
              refine AllReadyH.cons (o := { dst := some 76, op := Op.call { callee := Callee.value (Operand.func 70), args := #[Operand.tmp 72, Operand.tmp 75], argTypes := #[24, 24] }, type := 4, pos := "ref.go:92", after := #[{ on := 10, ground := Ground.data }, { on := 13, ground := Ground.data }, { on := 13, ground := Ground.chain }, { on := 8, ground := Ground.guard }], guard := some (8, true) }) rfl (fun K hK => ?_) AllReadyH.nil
              go_simp
              refine (HW.out _).mono ?_
              rintro ev w8 ⟨rfl, nb⟩
              have I9 := Lib.hid (I7.out.keep nb)
              clear nb I7
              refine hK.out _ _ ?_ (fun hHeld => ?_)
              · exact ⟨I9.out.e, I9.out.s⟩
              clear hK K
              (try simp only [Act.put, List.setIfInBounds_toArray, List.set_cons_zero, List.set_cons_succ])
              refine wpAnyH_take (i := 15) (oi := { dst := some 77, op := Op.pick (Operand.tmp 70) (Operand.tmp 76) (Operand.const (Value.bool false)), type := 4, pos := "ref.go:92", after := #[{ on := 8, ground := Ground.data }, { on := 14, ground := Ground.data }], guard := none }) (v := ?_) rfl (by kernel_rfl) (by kernel_rfl) (by kernel_rfl) (fun _ _ _ h => h) (Or.inl ⟨by rfl, ?_⟩) (by assumption) ?_
              rotate_left
              · intro w hSw; (try dsimp only at hSw); obtain ⟨hE, hB⟩ := hSw; obtain ⟨e0, e1, e2, e3, e4, e5, e6, e7, e8⟩ := hE.cells; obtain ⟨r0, r1, r2, r3, r4, r5⟩ := cells6 hB; go_simp; try with_reducible rfl
              (try simp only [Act.put, List.setIfInBounds_toArray, List.set_cons_zero, List.set_cons_succ])
              refine wpAnyH_done (by kernel_rfl) ?_ _
              clear hHeld
              obtain ⟨e0, e1, e2, e3, e4, e5, e6, e7, e8⟩ := I9.out.e.cells
              have co := I9.out.out.cell (F_at (VV.finG 4 [x0, x1, x2, x3, x4, x5] v f [q0, q1, q2, q3, q4, q5] j) hjl)
              rw [hvo] at co
              go_wp2_with fail
              go_still_tail 10, (by kernel_rfl)
              change wpList _ _ _ _ _ w8.drew
              have J1 := Lib.hid (I9.out.keep (below_drawn w8))
              clear co I9 e0 e1 e2 e3 e4 e5 e6 e7 e8
              generalize w8.drew = wd at *
              have fo := J1.out.out.frozen j
              have co := J1.out.out.cell (F_at (VV.finG 4 [x0, x1, x2, x3, x4, x5] v f [q0, q1, q2, q3, q4, q5] j) hjl)
              go_upto_region 18 with (fail)
              have J2 := Lib.hid (J1.out.put (go' := fun k => if k = j then cv + v else VV.finG 4 [x0, x1, x2, x3, x4, x5] v f [q0, q1, q2, q3, q4, q5] j k) (v := cv + v) fun _ _ => rfl)
              clear J1 fo co
              generalize wd.setCell ⟨Bo, j, none⟩ (.int .i64 (cv + v)) = we at *
              have co := J2.out.out.cell (F_at (fun k => if k = j then cv + v else VV.finG 4 [x0, x1, x2, x3, x4, x5] v f [q0, q1, q2, q3, q4, q5] j k) hjl)
              try dsimp only at co
              rw [if_pos rfl] at co
              obtain ⟨e0, e1, e2, e3, e4, e5, e6, e7, e8⟩ := J2.out.e.cells
              have fo := J2.out.out.frozen j
              go_wp2_with fail
              refine (held_any _ _).mono ?_
              rintro ev w9 ⟨rfl, rfl⟩
              go_wp2
              go_roundw
              case rel => exact ⟨j + 1, hjl, by go_num, J2.out.put fun k hk => VV.finG_put (u1 := cv + v) HV.out k⟩
              case measure => simp [intOf]; omega
            · have hw : MB.withinB [x0, x1, x2, x3, x4, x5] [y0, y1, y2, y3, y4, y5] 6 = false := by simpa using hw
              have HV := Lib.hid (show min cv 1000000 = VV.finV 4 [x0, x1, x2, x3, x4, x5] v f (VV.at6 [q0, q1, q2, q3, q4, q5] j) from (VV.fin_out (by decide) (by rw [HY.out]; exact hw) hcv).symm)
              rw [hw] at HW
              clear hw hcv HY
              go_wp2_with fail
              have I5 := Lib.hid (IJ.out.keep (below_drawn wr))
              clear IJ e0 e1 e2 e3 e4 e5 e6 e7 e8
              refine wp_region_held_drew (S := fun w' => B9 w' w.heap.size (.int .i64 4) (.int .i64 x0) (.int .i64 x1) (.int .i64 x2) (.int .i64 x3) (.int .i64 x4) (.int .i64 x5) (.int .i64 v) (.slice A k.len c) ∧ BB w' (w.heap.size + 1) 24 [q0, q1, q2, q3, q4, q5]) (by kernel_rfl) ⟨I5.out.e, I5.out.s⟩ (fun hHeld => ?_)
              generalize wr.drew = Y at *
              refine wpAnyH_take (i := 0) (oi := { dst := some 62, op := Op.fieldAddr 28 (Operand.tmp 2) 0, type := 0, pos := "ref.go:92", after := #[], guard := none }) (v := ?_) rfl (by kernel_rfl) (by kernel_rfl) (by kernel_rfl) (fun _ _ _ h => h) (Or.inl ⟨by rfl, ?_⟩) (by assumption) ?_
              rotate_left
              · intro w hSw; (try dsimp only at hSw); obtain ⟨hE, hB⟩ := hSw; obtain ⟨e0, e1, e2, e3, e4, e5, e6, e7, e8⟩ := hE.cells; obtain ⟨r0, r1, r2, r3, r4, r5⟩ := cells6 hB; go_simp; try with_reducible rfl
              (try simp only [Act.put, List.setIfInBounds_toArray, List.set_cons_zero, List.set_cons_succ])
              refine wpAnyH_take (i := 1) (oi := { dst := some 63, op := Op.load 3 (Operand.tmp 62), type := 3, pos := "ref.go:92", after := #[{ on := 0, ground := Ground.data }], guard := none }) (v := ?_) rfl (by kernel_rfl) (by kernel_rfl) (by kernel_rfl) (fun _ _ _ h => h) (Or.inl ⟨by rfl, ?_⟩) (by assumption) ?_
              rotate_left
              · intro w hSw; (try dsimp only at hSw); obtain ⟨hE, hB⟩ := hSw; obtain ⟨e0, e1, e2, e3, e4, e5, e6, e7, e8⟩ := hE.cells; obtain ⟨r0, r1, r2, r3, r4, r5⟩ := cells6 hB; go_simp; try with_reducible rfl
              (try simp only [Act.put, List.setIfInBounds_toArray, List.set_cons_zero, List.set_cons_succ])
              refine wpAnyH_take (i := 2) (oi := { dst := some 64, op := Op.binOp BinOp.eql 3 (Operand.tmp 63) (Operand.const (Value.int IntKind.i64 1)) 3, type := 4, pos := "ref.go:92", after := #[{ on := 1, ground := Ground.data }], guard := none }) (v := ?_) rfl (by kernel_rfl) (by kernel_rfl) (by kernel_rfl) (fun _ _ _ h => h) (Or.inl ⟨by rfl, ?_⟩) (by assumption) ?_
              rotate_left
              · intro w hSw; (try dsimp only at hSw); obtain ⟨hE, hB⟩ := hSw; obtain ⟨e0, e1, e2, e3, e4, e5, e6, e7, e8⟩ := hE.cells; obtain ⟨r0, r1, r2, r3, r4, r5⟩ := cells6 hB; go_simp; try with_reducible rfl
              (try simp only [Act.put, List.setIfInBounds_toArray, List.set_cons_zero, List.set_cons_succ])
              refine wpAnyH_take (i := 3) (oi := { dst := some 65, op := Op.move (Operand.tmp 64), type := 4, pos := "ref.go:92", after := #[{ on := 2, ground := Ground.data }], guard := none }) (v := ?_) rfl (by kernel_rfl) (by kernel_rfl) (by kernel_rfl) (fun _ _ _ h => h) (Or.inl ⟨by rfl, ?_⟩) (by assumption) ?_
              rotate_left
              · intro w hSw; (try dsimp only at hSw); obtain ⟨hE, hB⟩ := hSw; obtain ⟨e0, e1, e2, e3, e4, e5, e6, e7, e8⟩ := hE.cells; obtain ⟨r0, r1, r2, r3, r4, r5⟩ := cells6 hB; go_simp; try with_reducible rfl
              (try simp only [Act.put, List.setIfInBounds_toArray, List.set_cons_zero, List.set_cons_succ])
              refine wpAnyH_take (i := 4) (oi := { dst := some 66, op := Op.fieldAddr 28 (Operand.tmp 2) 0, type := 0, pos := "ref.go:92", after := #[{ on := 3, ground := Ground.guard }], guard := some (3, false) }) (v := ?_) rfl (by kernel_rfl) (by kernel_rfl) (by kernel_rfl) (fun _ _ _ h => h) (Or.inl ⟨by rfl, ?_⟩) (by assumption) ?_
              rotate_left
              · intro w hSw; (try dsimp only at hSw); obtain ⟨hE, hB⟩ := hSw; obtain ⟨e0, e1, e2, e3, e4, e5, e6, e7, e8⟩ := hE.cells; obtain ⟨r0, r1, r2, r3, r4, r5⟩ := cells6 hB; go_simp; try with_reducible rfl
              (try simp only [Act.put, List.setIfInBounds_toArray, List.set_cons_zero, List.set_cons_succ])
              refine wpAnyH_take (i := 5) (oi := { dst := some 67, op := Op.load 3 (Operand.tmp 66), type := 3, pos := "ref.go:92", after := #[{ on := 4, ground := Ground.data }, { on := 3, ground := Ground.guard }], guard := some (3, false) }) (v := ?_) rfl (by kernel_rfl) (by kernel_rfl) (by kernel_rfl) (fun _ _ _ h => h) (Or.inl ⟨by rfl, ?_⟩) (by assumption) ?_
              rotate_left
              · intro w hSw; (try dsimp only at hSw); obtain ⟨hE, hB⟩ := hSw; obtain ⟨e0, e1, e2, e3, e4, e5, e6, e7, e8⟩ := hE.cells; obtain ⟨r0, r1, r2, r3, r4, r5⟩ := cells6 hB; go_simp; try with_reducible rfl
              (try simp only [Act.put, List.setIfInBounds_toArray, List.set_cons_zero, List.set_cons_succ])
              refine wpAnyH_take (i := 6) (oi := { dst := some 68, op := Op.binOp BinOp.eql 3 (Operand.tmp 67) (Operand.const (Value.int IntKind.i64 4)) 3, type := 4, pos := "ref.go:92", after := #[{ on := 5, ground := Ground.data }, { on := 3, ground := Ground.guard }], guard := some (3, false) }) (v := ?_) rfl (by kernel_rfl) (by kernel_rfl) (by kernel_rfl) (fun _ _ _ h => h) (Or.inl ⟨by rfl, ?_⟩) (by assumption) ?_
              rotate_left
              · intro w hSw; (try dsimp only at hSw); obtain ⟨hE, hB⟩ := hSw; obtain ⟨e0, e1, e2, e3, e4, e5, e6, e7, e8⟩ := hE.cells; obtain ⟨r0, r1, r2, r3, r4, r5⟩ := cells6 hB; go_simp; try with_reducible rfl
              (try simp only [Act.put, List.setIfInBounds_toArray, List.set_cons_zero, List.set_cons_succ])
              refine wpAnyH_take (i := 7) (oi := { dst := some 69, op := Op.pick (Operand.tmp 65) (Operand.const (Value.bool true)) (Operand.tmp 68), type := 4, pos := "ref.go:92", after := #[{ on := 3, ground := Ground.data }, { on := 6, ground := Ground.data }], guard := none }) (v := ?_) rfl (by kernel_rfl) (by kernel_rfl) (by kernel_rfl) (fun _ _ _ h => h) (Or.inl ⟨by rfl, ?_⟩) (by assumption) ?_
              rotate_left
              · intro w hSw; (try dsimp only at hSw); obtain ⟨hE, hB⟩ := hSw; obtain ⟨e0, e1, e2, e3, e4, e5, e6, e7, e8⟩ := hE.cells; obtain ⟨r0, r1, r2, r3, r4, r5⟩ := cells6 hB; go_simp; try with_reducible rfl
              (try simp only [Act.put, List.setIfInBounds_toArray, List.set_cons_zero, List.set_cons_succ])
              refine wpAnyH_take (i := 8) (oi := { dst := some 70, op := Op.move (Operand.tmp 69), type := 4, pos := "ref.go:92", after := #[{ on := 7, ground := Ground.data }, { on := 3, ground := Ground.chain }], guard := none }) (v := ?_) rfl (by kernel_rfl) (by kernel_rfl) (by kernel_rfl) (fun _ _ _ h => h) (Or.inl ⟨by rfl, ?_⟩) (by assumption) ?_
              rotate_left
              · intro w hSw; (try dsimp only at hSw); obtain ⟨hE, hB⟩ := hSw; obtain ⟨e0, e1, e2, e3, e4, e5, e6, e7, e8⟩ := hE.cells; obtain ⟨r0, r1, r2, r3, r4, r5⟩ := cells6 hB; go_simp; try with_reducible rfl
              (try simp only [Act.put, List.setIfInBounds_toArray, List.set_cons_zero, List.set_cons_succ])
              refine wpAnyH_take (i := 9) (oi := { dst := some 71, op := Op.fieldAddr 28 (Operand.tmp 2) 1, type := 0, pos := "ref.go:92", after := #[{ on := 8, ground := Ground.guard }], guard := some (8, true) }) (v := ?_) rfl (by kernel_rfl) (by kernel_rfl) (by kernel_rfl) (fun _ _ _ h => h) (Or.inl ⟨by rfl, ?_⟩) (by assumption) ?_
              rotate_left
              · intro w hSw; (try dsimp only at hSw); obtain ⟨hE, hB⟩ := hSw; obtain ⟨e0, e1, e2, e3, e4, e5, e6, e7, e8⟩ := hE.cells; obtain ⟨r0, r1, r2, r3, r4, r5⟩ := cells6 hB; go_simp; try with_reducible rfl
              (try simp only [Act.put, List.setIfInBounds_toArray, List.set_cons_zero, List.set_cons_succ])
              refine wpAnyH_take (i := 10) (oi := { dst := some 72, op := Op.load 24 (Operand.tmp 71), type := 24, pos := "ref.go:92", after := #[{ on := 9, ground := Ground.data }, { on := 8, ground := Ground.guard }], guard := some (8, true) }) (v := ?_) rfl (by kernel_rfl) (by kernel_rfl) (by kernel_rfl) (fun _ _ _ h => h) (Or.inl ⟨by rfl, ?_⟩) (by assumption) ?_
              rotate_left
              · intro w hSw; (try dsimp only at hSw); obtain ⟨hE, hB⟩ := hSw; obtain ⟨e0, e1, e2, e3, e4, e5, e6, e7, e8⟩ := hE.cells; obtain ⟨r0, r1, r2, r3, r4, r5⟩ := cells6 hB; go_simp; try with_reducible rfl
              (try simp only [Act.put, List.setIfInBounds_toArray, List.set_cons_zero, List.set_cons_succ])
              refine wpAnyH_take (i := 11) (oi := { dst := some 73, op := Op.load 24 (Operand.tmp 3), type := 24, pos := "ref.go:92", after := #[{ on := 8, ground := Ground.guard }], guard := some (8, true) }) (v := ?_) rfl (by kernel_rfl) (by kernel_rfl) (by kernel_rfl) (fun _ _ _ h => h) (Or.inl ⟨by rfl, ?_⟩) (by assumption) ?_
              rotate_left
              · intro w hSw; (try dsimp only at hSw); obtain ⟨hE, hB⟩ := hSw; obtain ⟨e0, e1, e2, e3, e4, e5, e6, e7, e8⟩ := hE.cells; obtain ⟨r0, r1, r2, r3, r4, r5⟩ := cells6 hB; go_simp; try with_reducible rfl
              (try simp only [Act.put, List.setIfInBounds_toArray, List.set_cons_zero, List.set_cons_succ])
              refine wpAnyH_take (i := 12) (oi := { dst := some 74, op := Op.move (Operand.tmp 10), type := 3, pos := "ref.go:92", after := #[{ on := 8, ground := Ground.guard }], guard := some (8, true) }) (v := ?_) rfl (by kernel_rfl) (by kernel_rfl) (by kernel_rfl) (fun _ _ _ h => h) (Or.inl ⟨by rfl, ?_⟩) (by assumption) ?_
              rotate_left
              · intro w hSw; (try dsimp only at hSw); obtain ⟨hE, hB⟩ := hSw; obtain ⟨e0, e1, e2, e3, e4, e5, e6, e7, e8⟩ := hE.cells; obtain ⟨r0, r1, r2, r3, r4, r5⟩ := cells6 hB; go_simp; try with_reducible rfl
              (try simp only [Act.put, List.setIfInBounds_toArray, List.set_cons_zero, List.set_cons_succ])
              refine wpAnyH_ready (rs := [13]) (by kernel_rfl) (by simp) ?_
              refine AllReadyH.cons (o := { dst := some 75, op := Op.call { callee := Callee.value (Operand.func 71), args := #[Operand.tmp 73, Operand.tmp 74], argTypes := #[24, 3] }, type := 24, pos := "ref.go:92", after := #[{ on := 11, ground := Ground.data }, { on := 12, ground := Ground.data }, { on := 8, ground := Ground.chain }, { on := 8, ground := Ground.guard }], guard := some (8, true) }) rfl (fun K hK => ?_) AllReadyH.nil
              go_simp
              refine (HA.out _).mono ?_
              rintro ev w7 ⟨rfl, nb⟩
              have I7 := Lib.hid (I5.out.keep nb)
              clear nb I5
              refine hK.out _ _ ?_ (fun hHeld => ?_)
              · exact ⟨I7.out.e, I7.out.s⟩
              clear hK K
              (try simp only [Act.put, List.setIfInBounds_toArray, List.set_cons_zero, List.set_cons_succ])
              refine wpAnyH_ready (rs := [14]) (by kernel_rfl) (by simp) ?_
              refine AllReadyH.cons (o := { dst := some 76, op := Op.call { callee := Callee.value (Operand.func 70), args := #[Operand.tmp 72, Operand.tmp 75], argTypes := #[24, 24] }, type := 4, pos := "ref.go:92", after := #[{ on := 10, ground := Ground.data }, { on := 13, ground := Ground.data }, { on := 13, ground := Ground.chain }, { on := 8, ground := Ground.guard }], guard := some (8, true) }) rfl (fun K hK => ?_) AllReadyH.nil
              go_simp
              refine (HW.out _).mono ?_
              rintro ev w8 ⟨rfl, nb⟩
              have I9 := Lib.hid (I7.out.keep nb)
              clear nb I7
              refine hK.out _ _ ?_ (fun hHeld => ?_)
              · exact ⟨I9.out.e, I9.out.s⟩
              clear hK K
              (try simp only [Act.put, List.setIfInBounds_toArray, List.set_cons_zero, List.set_cons_succ])
              refine wpAnyH_take (i := 15) (oi := { dst := some 77, op := Op.pick (Operand.tmp 70) (Operand.tmp 76) (Operand.const (Value.bool false)), type := 4, pos := "ref.go:92", after := #[{ on := 8, ground := Ground.data }, { on := 14, ground := Ground.data }], guard := none }) (v := ?_) rfl (by kernel_rfl) (by kernel_rfl) (by kernel_rfl) (fun _ _ _ h => h) (Or.inl ⟨by rfl, ?_⟩) (by assumption) ?_
              rotate_left
              · intro w hSw; (try dsimp only at hSw); obtain ⟨hE, hB⟩ := hSw; obtain ⟨e0, e1, e2, e3, e4, e5, e6, e7, e8⟩ := hE.cells; obtain ⟨r0, r1, r2, r3, r4, r5⟩ := cells6 hB; go_simp; try with_reducible rfl
              (try simp only [Act.put, List.setIfInBounds_toArray, List.set_cons_zero, List.set_cons_succ])
              refine wpAnyH_done (by kernel_rfl) ?_ _
              clear hHeld
              obtain ⟨e0, e1, e2, e3, e4, e5, e6, e7, e8⟩ := I9.out.e.cells
              have co := I9.out.out.cell (F_at (VV.finG 4 [x0, x1, x2, x3, x4, x5] v f [q0, q1, q2, q3, q4, q5] j) hjl)
              rw [hvo] at co
              obtain ⟨e0, e1, e2, e3, e4, e5, e6, e7, e8⟩ := I9.out.e.cells
              have fo := I9.out.out.frozen j
              go_wp2_with fail
              refine (held_any _ _).mono ?_
              rintro ev w9 ⟨rfl, rfl⟩
              go_wp2
              go_roundw
              case rel => exact ⟨j + 1, hjl, by go_num, I9.out.put fun k hk => VV.finG_put1 HV.out k⟩
              case measure => simp [intOf]; omega
          · have hvo : VV.finG 5 [x0, x1, x2, x3, x4, x5] v f [q0, q1, q2, q3, q4, q5] j j = f (VV.at6 [q0, q1, q2, q3, q4, q5] j) := by unfold VV.finG; rw [if_neg (Nat.lt_irrefl _)]
            have hcb := HF.out _ (VV.at6_bu HBU.out j).1
            generalize hcv : f (VV.at6 [q0, q1, q2, q3, q4, q5] j) = cv at hvo hcb
            obtain ⟨e0, e1, e2, e3, e4, e5, e6, e7, e8⟩ := IJ.out.e.cells
            have FV := Lib.hid (VV.fin_lim (b := [x0, x1, x2, x3, x4, x5]) (v := v) hcv)
            clear hcv
            go_wp2_with fail
            have I9 := Lib.hid (IJ.out.keep (below_drawn wr))
            clear IJ e0 e1 e2 e3 e4 e5 e6 e7 e8
            refine wp_region_held_drew (S := fun w' => B9 w' w.heap.size (.int .i64 5) (.int .i64 x0) (.int .i64 x1) (.int .i64 x2) (.int .i64 x3) (.int .i64 x4) (.int .i64 x5) (.int .i64 v) (.slice A k.len c) ∧ BB w' (w.heap.size + 1) 24 [q0, q1, q2, q3, q4, q5]) (by kernel_rfl) ⟨I9.out.e, I9.out.s⟩ (fun hHeld => ?_)
            generalize wr.drew = Y at *
            refine wpAnyH_take (i := 0) (oi := { dst := some 62, op := Op.fieldAddr 28 (Operand.tmp 2) 0, type := 0, pos := "ref.go:92", after := #[], guard := none }) (v := ?_) rfl (by kernel_rfl) (by kernel_rfl) (by kernel_rfl) (fun _ _ _ h => h) (Or.inl ⟨by rfl, ?_⟩) (by assumption) ?_
            rotate_left
            · intro w hSw; (try dsimp only at hSw); obtain ⟨hE, hB⟩ := hSw; obtain ⟨e0, e1, e2, e3, e4, e5, e6, e7, e8⟩ := hE.cells; obtain ⟨r0, r1, r2, r3, r4, r5⟩ := cells6 hB; go_simp; try with_reducible rfl
            (try simp only [Act.put, List.setIfInBounds_toArray, List.set_cons_zero, List.set_cons_succ])
            refine wpAnyH_take (i := 1) (oi := { dst := some 63, op := Op.load 3 (Operand.tmp 62), type := 3, pos := "ref.go:92", after := #[{ on := 0, ground := Ground.data }], guard := none }) (v := ?_) rfl (by kernel_rfl) (by kernel_rfl) (by kernel_rfl) (fun _ _ _ h => h) (Or.inl ⟨by rfl, ?_⟩) (by assumption) ?_
            rotate_left
            · intro w hSw; (try dsimp only at hSw); obtain ⟨hE, hB⟩ := hSw; obtain ⟨e0, e1, e2, e3, e4, e5, e6, e7, e8⟩ := hE.cells; obtain ⟨r0, r1, r2, r3, r4, r5⟩ := cells6 hB; go_simp; try with_reducible rfl
            (try simp only [Act.put, List.setIfInBounds_toArray, List.set_cons_zero, List.set_cons_succ])
            refine wpAnyH_take (i := 2) (oi := { dst := some 64, op := Op.binOp BinOp.eql 3 (Operand.tmp 63) (Operand.const (Value.int IntKind.i64 1)) 3, type := 4, pos := "ref.go:92", after := #[{ on := 1, ground := Ground.data }], guard := none }) (v := ?_) rfl (by kernel_rfl) (by kernel_rfl) (by kernel_rfl) (fun _ _ _ h => h) (Or.inl ⟨by rfl, ?_⟩) (by assumption) ?_
            rotate_left
            · intro w hSw; (try dsimp only at hSw); obtain ⟨hE, hB⟩ := hSw; obtain ⟨e0, e1, e2, e3, e4, e5, e6, e7, e8⟩ := hE.cells; obtain ⟨r0, r1, r2, r3, r4, r5⟩ := cells6 hB; go_simp; try with_reducible rfl
            (try simp only [Act.put, List.setIfInBounds_toArray, List.set_cons_zero, List.set_cons_succ])
            refine wpAnyH_take (i := 3) (oi := { dst := some 65, op := Op.move (Operand.tmp 64), type := 4, pos := "ref.go:92", after := #[{ on := 2, ground := Ground.data }], guard := none }) (v := ?_) rfl (by kernel_rfl) (by kernel_rfl) (by kernel_rfl) (fun _ _ _ h => h) (Or.inl ⟨by rfl, ?_⟩) (by assumption) ?_
            rotate_left
            · intro w hSw; (try dsimp only at hSw); obtain ⟨hE, hB⟩ := hSw; obtain ⟨e0, e1, e2, e3, e4, e5, e6, e7, e8⟩ := hE.cells; obtain ⟨r0, r1, r2, r3, r4, r5⟩ := cells6 hB; go_simp; try with_reducible rfl
            (try simp only [Act.put, List.setIfInBounds_toArray, List.set_cons_zero, List.set_cons_succ])
            refine wpAnyH_take (i := 4) (oi := { dst := some 66, op := Op.fieldAddr 28 (Operand.tmp 2) 0, type := 0, pos := "ref.go:92", after := #[{ on := 3, ground := Ground.guard }], guard := some (3, false) }) (v := ?_) rfl (by kernel_rfl) (by kernel_rfl) (by kernel_rfl) (fun _ _ _ h => h) (Or.inl ⟨by rfl, ?_⟩) (by assumption) ?_
            rotate_left
            · intro w hSw; (try dsimp only at hSw); obtain ⟨hE, hB⟩ := hSw; obtain ⟨e0, e1, e2, e3, e4, e5, e6, e7, e8⟩ := hE.cells; obtain ⟨r0, r1, r2, r3, r4, r5⟩ := cells6 hB; go_simp; try with_reducible rfl
            (try simp only [Act.put, List.setIfInBounds_toArray, List.set_cons_zero, List.set_cons_succ])
            refine wpAnyH_take (i := 5) (oi := { dst := some 67, op := Op.load 3 (Operand.tmp 66), type := 3, pos := "ref.go:92", after := #[{ on := 4, ground := Ground.data }, { on := 3, ground := Ground.guard }], guard := some (3, false) }) (v := ?_) rfl (by kernel_rfl) (by kernel_rfl) (by kernel_rfl) (fun _ _ _ h => h) (Or.inl ⟨by rfl, ?_⟩) (by assumption) ?_
            rotate_left
            · intro w hSw; (try dsimp only at hSw); obtain ⟨hE, hB⟩ := hSw; obtain ⟨e0, e1, e2, e3, e4, e5, e6, e7, e8⟩ := hE.cells; obtain ⟨r0, r1, r2, r3, r4, r5⟩ := cells6 hB; go_simp; try with_reducible rfl
            (try simp only [Act.put, List.setIfInBounds_toArray, List.set_cons_zero, List.set_cons_succ])
            refine wpAnyH_take (i := 6) (oi := { dst := some 68, op := Op.binOp BinOp.eql 3 (Operand.tmp 67) (Operand.const (Value.int IntKind.i64 4)) 3, type := 4, pos := "ref.go:92", after := #[{ on := 5, ground := Ground.data }, { on := 3, ground := Ground.guard }], guard := some (3, false) }) (v := ?_) rfl (by kernel_rfl) (by kernel_rfl) (by kernel_rfl) (fun _ _ _ h => h) (Or.inl ⟨by rfl, ?_⟩) (by assumption) ?_
            rotate_left
            · intro w hSw; (try dsimp only at hSw); obtain ⟨hE, hB⟩ := hSw; obtain ⟨e0, e1, e2, e3, e4, e5, e6, e7, e8⟩ := hE.cells; obtain ⟨r0, r1, r2, r3, r4, r5⟩ := cells6 hB; go_simp; try with_reducible rfl
            (try simp only [Act.put, List.setIfInBounds_toArray, List.set_cons_zero, List.set_cons_succ])
            refine wpAnyH_take (i := 7) (oi := { dst := some 69, op := Op.pick (Operand.tmp 65) (Operand.const (Value.bool true)) (Operand.tmp 68), type := 4, pos := "ref.go:92", after := #[{ on := 3, ground := Ground.data }, { on := 6, ground := Ground.data }], guard := none }) (v := ?_) rfl (by kernel_rfl) (by kernel_rfl) (by kernel_rfl) (fun _ _ _ h => h) (Or.inl ⟨by rfl, ?_⟩) (by assumption) ?_
            rotate_left
            · intro w hSw; (try dsimp only at hSw); obtain ⟨hE, hB⟩ := hSw; obtain ⟨e0, e1, e2, e3, e4, e5, e6, e7, e8⟩ := hE.cells; obtain ⟨r0, r1, r2, r3, r4, r5⟩ := cells6 hB; go_simp; try with_reducible rfl
            (try simp only [Act.put, List.setIfInBounds_toArray, List.set_cons_zero, List.set_cons_succ])
            refine wpAnyH_take (i := 8) (oi := { dst := some 70, op := Op.move (Operand.tmp 69), type := 4, pos := "ref.go:92", after := #[{ on := 7, ground := Ground.data }, { on := 3, ground := Ground.chain }], guard := none }) (v := ?_) rfl (by kernel_rfl) (by kernel_rfl) (by kernel_rfl) (fun _ _ _ h => h) (Or.inl ⟨by rfl, ?_⟩) (by assumption) ?_
            rotate_left
            · intro w hSw; (try dsimp only at hSw); obtain ⟨hE, hB⟩ := hSw; obtain ⟨e0, e1, e2, e3, e4, e5, e6, e7, e8⟩ := hE.cells; obtain ⟨r0, r1, r2, r3, r4, r5⟩ := cells6 hB; go_simp; try with_reducible rfl
            (try simp only [Act.put, List.setIfInBounds_toArray, List.set_cons_zero, List.set_cons_succ])
            refine wpAnyH_take (i := 9) (oi := { dst := some 71, op := Op.fieldAddr 28 (Operand.tmp 2) 1, type := 0, pos := "ref.go:92", after := #[{ on := 8, ground := Ground.guard }], guard := some (8, true) }) (v := undef) rfl (by kernel_rfl) (by kernel_rfl) (by kernel_rfl) (fun _ _ _ h => h) (Or.inr ⟨by rfl, rfl⟩) (by assumption) ?_
            (try simp only [Act.put, List.setIfInBounds_toArray, List.set_cons_zero, List.set_cons_succ])
            refine wpAnyH_take (i := 10) (oi := { dst := some 72, op := Op.load 24 (Operand.tmp 71), type := 24, pos := "ref.go:92", after := #[{ on := 9, ground := Ground.data }, { on := 8, ground := Ground.guard }], guard := some (8, true) }) (v := undef) rfl (by kernel_rfl) (by kernel_rfl) (by kernel_rfl) (fun _ _ _ h => h) (Or.inr ⟨by rfl, rfl⟩) (by assumption) ?_
            (try simp only [Act.put, List.setIfInBounds_toArray, List.set_cons_zero, List.set_cons_succ])
            refine wpAnyH_take (i := 11) (oi := { dst := some 73, op := Op.load 24 (Operand.tmp 3), type := 24, pos := "ref.go:92", after := #[{ on := 8, ground := Ground.guard }], guard := some (8, true) }) (v := undef) rfl (by kernel_rfl) (by kernel_rfl) (by kernel_rfl) (fun _ _ _ h => h) (Or.inr ⟨by rfl, rfl⟩) (by assumption) ?_
            (try simp only [Act.put, List.setIfInBounds_toArray, List.set_cons_zero, List.set_cons_succ])
            refine wpAnyH_take (i := 12) (oi := { dst := some 74, op := Op.move (Operand.tmp 10), type := 3, pos := "ref.go:92", after := #[{ on := 8, ground := Ground.guard }], guard := some (8, true) }) (v := undef) rfl (by kernel_rfl) (by kernel_rfl) (by kernel_rfl) (fun _ _ _ h => h) (Or.inr ⟨by rfl, rfl⟩) (by assumption) ?_
            (try simp only [Act.put, List.setIfInBounds_toArray, List.set_cons_zero, List.set_cons_succ])
            refine wpAnyH_take (i := 13) (oi := { dst := some 75, op := Op.call { callee := Callee.value (Operand.func 71), args := #[Operand.tmp 73, Operand.tmp 74], argTypes := #[24, 3] }, type := 24, pos := "ref.go:92", after := #[{ on := 11, ground := Ground.data }, { on := 12, ground := Ground.data }, { on := 8, ground := Ground.chain }, { on := 8, ground := Ground.guard }], guard := some (8, true) }) (v := undef) rfl (by kernel_rfl) (by kernel_rfl) (by kernel_rfl) (fun _ _ _ h => h) (Or.inr ⟨by rfl, rfl⟩) (by assumption) ?_
            (try simp only [Act.put, List.setIfInBounds_toArray, List.set_cons_zero, List.set_cons_succ])
            refine wpAnyH_take (i := 14) (oi := { dst := some 76, op := Op.call { callee := Callee.value (Operand.func 70), args := #[Operand.tmp 72, Operand.tmp 75], argTypes := #[24, 24] }, type := 4, pos := "ref.go:92", after := #[{ on := 10, ground := Ground.data }, { on := 13, ground := Ground.data }, { on := 13, ground := Ground.chain }, { on := 8, ground := Ground.guard }], guard := some (8, true) }) (v := undef) rfl (by kernel_rfl) (by kernel_rfl) (by kernel_rfl) (fun _ _ _ h => h) (Or.inr ⟨by rfl, rfl⟩) (by assumption) ?_
            (try simp only [Act.put, List.setIfInBounds_toArray, List.set_cons_zero, List.set_cons_succ])
            refine wpAnyH_take (i := 15) (oi := { dst := some 77, op := Op.pick (Operand.tmp 70) (Operand.tmp 76) (Operand.const (Value.bool false)), type := 4, pos := "ref.go:92", after := #[{ on := 8, ground := Ground.data }, { on := 14, ground := Ground.data }], guard := none }) (v := ?_) rfl (by kernel_rfl) (by kernel_rfl) (by kernel_rfl) (fun _ _ _ h => h) (Or.inl ⟨by rfl, ?_⟩) (by assumption) ?_
            rotate_left
            · intro w hSw; (try dsimp only at hSw); obtain ⟨hE, hB⟩ := hSw; obtain ⟨e0, e1, e2, e3, e4, e5, e6, e7, e8⟩ := hE.cells; obtain ⟨r0, r1, r2, r3, r4, r5⟩ := cells6 hB; go_simp; try with_reducible rfl
            (try simp only [Act.put, List.setIfInBounds_toArray, List.set_cons_zero, List.set_cons_succ])
            refine wpAnyH_done (by kernel_rfl) ?_ _
            clear hHeld
            obtain ⟨e0, e1, e2, e3, e4, e5, e6, e7, e8⟩ := I9.out.e.cells
            have co := I9.out.out.cell (F_at (VV.finG 5 [x0, x1, x2, x3, x4, x5] v f [q0, q1, q2, q3, q4, q5] j) hjl)
            rw [hvo] at co
            by_cases hmn : v < cv
            · have hmd : decide (v < cv) = true := decide_eq_true hmn
              have HV := Lib.hid (show min v 1000000 = VV.finV 5 [x0, x1, x2, x3, x4, x5] v f (VV.at6 [q0, q1, q2, q3, q4, q5] j) from by rw [FV.out]; omega)
              go_wp2_with fail
              go_still_tail 10, (by kernel_rfl)
              change wpList _ _ _ _ _ Y.drew
              have J1 := Lib.hid (I9.out.keep (below_drawn Y))
              clear co I9 e0 e1 e2 e3 e4 e5 e6 e7 e8
              generalize Y.drew = wd at *
              have fo := J1.out.out.frozen j
              have co := J1.out.out.cell (F_at (VV.finG 5 [x0, x1, x2, x3, x4, x5] v f [q0, q1, q2, q3, q4, q5] j) hjl)
              go_upto_region 20 with (fail)
              have J2 := Lib.hid (J1.out.put (go' := fun k => if k = j then v else VV.finG 5 [x0, x1, x2, x3, x4, x5] v f [q0, q1, q2, q3, q4, q5] j k) (v := v) fun _ _ => rfl)
              clear J1 fo co
              generalize wd.setCell ⟨Bo, j, none⟩ (.int .i64 (v)) = we at *
              have co := J2.out.out.cell (F_at (fun k => if k = j then v else VV.finG 5 [x0, x1, x2, x3, x4, x5] v f [q0, q1, q2, q3, q4, q5] j k) hjl)
              try dsimp only at co
              rw [if_pos rfl] at co
              obtain ⟨e0, e1, e2, e3, e4, e5, e6, e7, e8⟩ := J2.out.e.cells
              have fo := J2.out.out.frozen j
              go_wp2_with fail
              refine (held_any _ _).mono ?_
              rintro ev w9 ⟨rfl, rfl⟩
              go_wp2
              go_roundw
              case rel => exact ⟨j + 1, hjl, by go_num, J2.out.put fun k hk => VV.finG_put (u1 := v) HV.out k⟩
              case measure => simp [intOf]; omega
            · have hmd : decide (v < cv) = false := decide_eq_false hmn
              have HV := Lib.hid (show min cv 1000000 = VV.finV 5 [x0, x1, x2, x3, x4, x5] v f (VV.at6 [q0, q1, q2, q3, q4, q5] j) from by rw [FV.out]; omega)
              go_wp2_with fail
              go_still_tail 10, (by kernel_rfl)
              change wpList _ _ _ _ _ Y.drew
              have J1 := Lib.hid (I9.out.keep (below_drawn Y))
              clear co I9 e0 e1 e2 e3 e4 e5 e6 e7 e8
              generalize Y.drew = wd at *
              have fo := J1.out.out.frozen j
              have co := J1.out.out.cell (F_at (VV.finG 5 [x0, x1, x2, x3, x4, x5] v f [q0, q1, q2, q3, q4, q5] j) hjl)
              go_upto_region 20 with (fail)
              have J2 := Lib.hid (J1.out.put (go' := fun k => if k = j then cv else VV.finG 5 [x0, x1, x2, x3, x4, x5] v f [q0, q1, q2, q3, q4, q5] j k) (v := cv) fun _ _ => rfl)
              clear J1 fo co
              generalize wd.setCell ⟨Bo, j, none⟩ (.int .i64 (cv)) = we at *
              have co := J2.out.out.cell (F_at (fun k => if k = j then cv else VV.finG 5 [x0, x1, x2, x3, x4, x5] v f [q0, q1, q2, q3, q4, q5] j k) hjl)
              try dsimp only at co
              rw [if_pos rfl] at co
              obtain ⟨e0, e1, e2, e3, e4, e5, e6, e7, e8⟩ := J2.out.e.cells
              have fo := J2.out.out.frozen j
              go_wp2_with fail
              refine (held_any _ _).mono ?_
              rintro ev w9 ⟨rfl, rfl⟩
              go_wp2
              go_roundw
              case rel => exact ⟨j + 1, hjl, by go_num, J2.out.put fun k hk => VV.finG_put (u1 := cv) HV.out k⟩
              case measure => simp [intOf]; omega
        · obtain rfl : j = n := by omega
          have HG := Lib.hid (IJ.out.same (go' := fun k => VV.finV o [x0, x1, x2, x3, x4, x5] v f (VV.at6 [q0, q1, q2, q3, q4, q5] k)) fun k hk => by unfold VV.finG; rw [if_pos hk])
          have hge := HG.out.bo
          go_wp2
          go_ret
          rw [HE.out]
          exact ⟨Bo, rfl, HG.out.out, by omega, HG.out.below⟩
theorem rall_any : ∀ (N : Nat) (x : NT), x.size ≤ N → N ≤ 2000000 → VV.AllOk x.n → ∀ (q0 q1 q2 q3 q4 q5 : Int) (w : World) (ok : Nat → Prop), MB.okB [q0, q1, q2, q3, q4, q5] = true → x.Ok w ok →
    Calls Try.prog 40 #[x.val, .agg #[.int .i64 q0, .int .i64 q1, .int .i64 q2, .int .i64 q3, .int .i64 q4, .int .i64 q5]] w (GivesB (fun i => VV.valN x.n (VV.at6 [q0, q1, q2, q3, q4, q5] i)) (VV.cnt [q0, q1, q2, q3, q4, q5]) w)
  | 0, x, hx, _, _, _, _, _, _, _, _, _, _, _, _ => by unfold NT.size at hx; omega
  | N + 1, x, hx, hN, hall, q0, q1, q2, q3, q4, q5, w, ok, hoq, hok => by
    obtain ⟨o, b, v, A, c, k⟩ := x
    obtain ⟨x0, x1, x2, x3, x4, x5, rfl⟩ := six hok.six
    have hn := hall.here
    have hsz : k.size ≤ N := by unfold NT.size at hx; exact Nat.le_of_succ_le_succ hx
    have IH : ∀ y : NT, y.n ∈ k.f.roots → ∀ (w' : World) (ok' : Nat → Prop), y.Ok w' ok' → Calls Try.prog 40 #[y.val, .agg #[.int .i64 q0, .int .i64 q1, .int .i64 q2, .int .i64 q3, .int .i64 q4, .int .i64 q5]] w' (GivesB (fun i => VV.valN y.n (VV.at6 [q0, q1, q2, q3, q4, q5] i)) (VV.cnt [q0, q1, q2, q3, q4, q5]) w') := fun y hy w' ok' hok' => by
      have h1 := VV.roots_size hy
      rw [NT.size_n, FT.size_f] at h1
      exact rall_any N y (by omega) (by omega) (hall.kid hy) q0 q1 q2 q3 q4 q5 w' ok' hoq hok'
    have hbd : ∀ g ∈ VV.valF k.f, VV.In 1000000 g := fun g hg x hx => by
      rw [VV.valF_roots] at hg
      obtain ⟨y, hy, rfl⟩ := List.mem_map.1 hg
      exact ⟨(hall.kid hy).mono.pos x hx, VV.valN_max y x⟩
    have hfl : k.f.len = k.len := FT.len_f k
    have hkl : k.len ≤ 8 := by
      have hw := hn.way
      change (o = 1 ∧ k.f.len = 0 ∧ _) ∨ ((o = 2 ∨ o = 3) ∧ 1 ≤ k.f.len ∧ k.f.len ≤ 8) ∨ (o = 4 ∧ k.f.len = 1 ∧ _) ∨ (o = 5 ∧ k.f.len = 1) at hw
      rcases hw with ⟨_, h, _⟩ | ⟨_, _, h⟩ | ⟨_, h, _⟩ | ⟨_, h⟩ <;> omega
    have hwy : o = 1 ∨ o = 2 ∨ o = 3 ∨ o = 4 ∨ o = 5 := by
      rcases hn.way with ⟨h, _⟩ | ⟨h, _⟩ | ⟨h, _⟩ | ⟨h, _⟩
      · exact .inl h
      · rcases h with h | h
        · exact .inr (.inl h)
        · exact .inr (.inr (.inl h))
      · exact .inr (.inr (.inr (.inl h)))
      · exact .inr (.inr (.inr (.inr h)))
    rw [NT.val_lit]
    exact rall_node o x0 x1 x2 x3 x4 x5 v q0 q1 q2 q3 q4 q5 A c k ok w hoq hkl hn.v0 hn.v1 hwy hok.kids hbd IH
end Go.Proofs.Ytjjpfpgjpmedmaa
