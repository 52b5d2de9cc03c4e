/- FRToX0, FDom, FRToX, FWalkEx, joined: no claim of its own. -/
import Derived.Test.YtjjpfpgjpmedmaaJFN
import Derived.Test.YtjjpfpgjpmedmaaJFD
import Derived.Deep.RegionHeld3
import Derived.Deep.DeepCutAuto
import Derived.Test.YtjjpfpgjpmedmaaERef2
import Derived.Deep.AppendLies
import Derived.Test.YtjjpfpgjpmedmaaJFH
import Derived.Test.YtjjpfpgjpmedmaaEEq
import Derived.Test.YtjjpfpgjpmedmaaJVS
namespace Go.Proofs.Ytjjpfpgjpmedmaa
open Go.RowKit
/-- The expression of more than 64 offers is too wide. -/
theorem toN_long {l : List MF.Of} (h : 64 < l.length) : ME.checkE (toN (l.map fun p => (atX p).n)) = 3 := by
  have hd : (toN (l.map fun p => (atX p).n)).depth ≤ 3 := toN_depth (m := 1) fun z hz => by
    obtain ⟨p, _, rfl⟩ := List.mem_map.1 hz
    exact Nat.le_refl _
  have hl : ((chL (l.map fun p => (atX p).n).length).map (gN (l.map fun p => (atX p).n))).length = (l.length + 7) / 8 := by rw [List.length_map, chL_len, List.length_map]
  have hw : ME.wideB (toN (l.map fun p => (atX p).n)).pre = false := by
    unfold toN
    rcases grN_cases ((chL (l.map fun p => (atX p).n).length).map (gN (l.map fun p => (atX p).n))) with ⟨z, e, _⟩ | ⟨_, e⟩
    · rw [e] at hl; simp at hl; omega
    · rw [e]
      unfold ME.wideB ME.Nd.pre
      rw [List.all_cons]
      dsimp only
      rw [chain_len, hl, decide_eq_false (by omega)]
      rfl
  unfold ME.checkE
  rw [if_neg (by omega)]
  by_cases hs : 40 < (toN (l.map fun p => (atX p).n)).size
  · rw [if_pos hs]
  · rw [if_neg hs, if_pos hw]
theorem toE_long {l : List MF.Of} (h : 64 < l.length) : toE l = (zeroN, 3) := by
  unfold toE
  rw [if_neg (by omega), toN_long h, if_pos (by decide)]
/-- The reference's expression of expressions that lie in a row of the call's own. -/
theorem group_own (X : World) (B : Nat) (v : Value) (L : List NT) (hown : OwnL ntE 28 X B v L) (h0 : 0 < L.length) (hok : ∀ z ∈ L, z.Ok X (fun k => B ≤ k)) :
    ∃ x : NT, Calls Try.prog 37 #[v] X (Gives x.val X) ∧ x.n = grN (L.map NT.n) ∧ x.Ok X (fun k => B ≤ k) := by
  rcases hown.1.2 with ⟨_, e⟩ | ⟨g, cap, cur, rfl, _⟩
  · omega
  · obtain ⟨ha, _, hcm⟩ := arg_of_own hown
    by_cases h1 : L.length = 1
    · obtain ⟨y, rfl⟩ := List.length_eq_one_iff.1 h1
      obtain ⟨cur', hc1, hc2, hc3⟩ := ha.row
      have h6 := ha.fine y (by simp)
      obtain ⟨o, b, v, A, c, k⟩ := y
      obtain ⟨x0, x1, x2, x3, x4, x5, rfl⟩ := six h6
      have hat : ∀ j u, (cellsE o [x0, x1, x2, x3, x4, x5] v A k.len c)[j]? = some u → X.cell? ⟨g, j, none⟩ = some u := fun j u hu => by
        rw [cell_of_row X g j _ _ _ hc1]
        exact hc3 j u (by rw [El.all_one]; exact hu)
      refine ⟨⟨o, [x0, x1, x2, x3, x4, x5], v, A, c, k⟩, ?_, rfl, hok _ (by simp)⟩
      rw [NT.val_lit]
      exact group_one ⟨g, 0, none⟩ cap X o x0 x1 x2 x3 x4 x5 v A k.len c ⟨ha.lt, hat 0 _ rfl, hat 1 _ rfl, hat 2 _ rfl, hat 3 _ rfl, hat 4 _ rfl, hat 5 _ rfl, hat 6 _ rfl, hat 7 _ rfl, hat 8 _ rfl⟩
    · refine ⟨⟨2, [0, 0, 0, 0, 0, 0], 0, some ⟨g, 0, none⟩, cap, FT.of L⟩, ?_, ?_, ?_⟩
      · have := group_more (some ⟨g, 0, none⟩) L.length cap h1 X
        rw [NT.val_lit, FT.of_len]
        exact this
      · unfold grN NT.n
        rw [if_neg (by rw [List.length_map]; exact h1)]
        dsimp only
        rw [of_n]; rfl
      · refine ⟨rfl, show In64 (2 : Int) from ⟨by decide, by decide⟩, show In64 (0 : Int) from ⟨by decide, by decide⟩, fun z hz => ?_, kids_of_row ha hcm (World.ownsRow.lt hown.1 g rfl).1 hok⟩
        have : z = 0 := by simpa using hz
        rw [this]; exact ⟨by decide, by decide⟩
/-- A group of the list. -/
theorem gN_of {l : List MF.Of} {q j : Nat} (hj : j = 8 * q + min 8 (l.length - 8 * q)) : grN ((((l.drop (8 * q)).take (j - 8 * q)).map atX).map NT.n) = gN (l.map fun p => (atX p).n) (8 * q, min 8 (l.length - 8 * q)) := by
  unfold gN
  dsimp only
  rw [List.map_map, List.map_take, List.map_drop, show j - 8 * q = min 8 (l.length - 8 * q) by omega]
  rfl
/-- One more Atom of a group. -/
theorem atoms_next {l : List MF.Of} {p : MF.Of} {q j : Nat} (hj : 8 * q ≤ j) (h : l[j]? = some p) : ((l.drop (8 * q)).take (j + 1 - 8 * q)).map atX = ((l.drop (8 * q)).take (j - 8 * q)).map atX ++ [atX p] := by
  obtain ⟨hl, e⟩ := List.getElem?_eq_some_iff.1 h
  rw [show j + 1 - 8 * q = (j - 8 * q) + 1 by omega, List.take_succ_eq_append_getElem (by rw [List.length_drop]; omega), List.map_append]
  congr 1
  rw [List.map_cons, List.map_nil, List.getElem_drop]
  congr 2
  rw [← e]
  congr 1
  omega
/-- The groups that the reference has laid: a list in a block of its own, each group's own arguments apart from it. -/
structure GJ (B : Nat) (v : Value) (L : List NT) (zs : List ME.Nd) (w X : World) : Prop where
  below : Below B w X
  own : OwnL ntE 28 X B v L
  eq : L.map NT.n = zs
  ok : ∀ z ∈ L, z.Ok X (fun k => B ≤ k ∧ v.ownBlock ≠ some k)
  ge : B ≤ X.heap.size
section
variable {w X Y : World} {B : Nat} {v : Value} {L : List NT} {zs : List ME.Nd}
theorem GJ.keep (h : GJ B v L zs w X) (hb : Below X.heap.size X Y) : GJ B v L zs w Y :=
  ⟨h.below.trans (hb.mono h.ge), h.own.keep hb, h.eq, fun z hz => (h.ok z hz).below hb, Nat.le_trans h.ge hb.size⟩
/-- Another group behind the others. -/
theorem GJ.app {gg cp : Nat} {y : NT} {zs' : List ME.Nd} {b : Nat} (h : GJ B v L zs w X) (hown : Y.ownsRow B 28 9 (.slice (some ⟨gg, 0, none⟩) (L.length + 1) cp) (L.length + 1) (ntE.all L ++ ntE.cells y)) (hg : X.grownBy Y v.ownBlock) (hat : v.ownBlock = some gg ∨ gg = X.heap.size)
    (hy : y.Ok X (fun k => b ≤ k)) (hb : ∀ k, v.ownBlock = some k → k < b) (hB : B ≤ b) (hz : zs ++ [y.n] = zs') : GJ B (.slice (some ⟨gg, 0, none⟩) (L.length + 1) cp) (L ++ [y]) zs' w Y := by
  have hge := h.ge
  have hrow : ∀ k, v.ownBlock = some k → B ≤ k ∧ k < X.heap.size := fun k hk => World.ownsRow.lt h.own.1 k hk
  refine ⟨h.below.grown hg hge (fun k q => (hrow k q).1), ⟨?_, h.own.2.snoc hy.six⟩, by rw [List.map_append, h.eq, ← hz]; rfl, fun z hz => ?_, Nat.le_trans hge hg.size⟩
  · rw [El.all_append, El.all_one, List.length_append]; exact hown
  · rcases List.mem_append.1 hz with hz | hz
    · refine (h.ok z hz).keep (fun k hk hk2 => hg.block k hk2 (fun q => hk.2 q.symm)) hg.size (fun k hk hk2 => ⟨hk.1, fun q => ?_⟩)
      have hgk : gg = k := by simpa [Value.ownBlock] using q
      rcases hat with p | p
      · exact hk.2 (by rw [p, hgk])
      · omega
    · rw [List.mem_singleton.1 hz]
      refine hy.keep (fun k hk hk2 => hg.block k hk2 (fun q => by have := hb k q.symm; omega)) hg.size (fun k hk hk2 => ⟨by omega, fun q => ?_⟩)
      have hgk : gg = k := by simpa [Value.ownBlock] using q
      rcases hat with p | p
      · have := hb gg p; omega
      · omega
end
end Go.Proofs.Ytjjpfpgjpmedmaa
namespace Go.Proofs.Ytjjpfpgjpmedmaa
open Go.RowKit
attribute [local go_sem] Oper.semAt_some
theorem of_cells {w : World} {ad : Addr} {n c k : Nat} {l : List MF.Of} (h : Lst ofE w (some ad) n c l) (hk : k < n) {p : MF.Of} (hp : l[k]? = some p) :
    w.cell? (ad.add (k * 8)) = some (.int .i64 p.bidder) ∧ w.cell? (⟨(ad.add (k * 8)).block, (ad.add (k * 8)).off + 1, none⟩) = some (.int .i64 p.b0) ∧ w.cell? (⟨(ad.add (k * 8)).block, (ad.add (k * 8)).off + 2, none⟩) = some (.int .i64 p.b1) ∧ w.cell? (⟨(ad.add (k * 8)).block, (ad.add (k * 8)).off + 3, none⟩) = some (.int .i64 p.b2) ∧ w.cell? (⟨(ad.add (k * 8)).block, (ad.add (k * 8)).off + 4, none⟩) = some (.int .i64 p.b3) ∧ w.cell? (⟨(ad.add (k * 8)).block, (ad.add (k * 8)).off + 5, none⟩) = some (.int .i64 p.b4) ∧ w.cell? (⟨(ad.add (k * 8)).block, (ad.add (k * 8)).off + 6, none⟩) = some (.int .i64 p.b5) ∧ w.cell? (⟨(ad.add (k * 8)).block, (ad.add (k * 8)).off + 7, none⟩) = some (.int .i64 p.value) := by
  obtain ⟨ad', p', e, hp', _, _, h0⟩ := of_at h hk
  injection e with e
  rw [hp] at hp'
  injection hp' with hp'
  subst e hp'
  exact h0
end Go.Proofs.Ytjjpfpgjpmedmaa
namespace Go.Proofs.Ytjjpfpgjpmedmaa
open Go.RowKit
attribute [local go_sem] Oper.semAt_some
theorem rtoexpr_res {w : World} {R1 : Nat} {z0 z1 z2 z3 z4 z5 z6 z7 z8 v : Value} (tmps : Array Value) (h4 : tmps.getD 2 undef = .pointer (some ⟨R1, 0, none⟩)) (h5 : tmps.getD 3 undef = v) (b1 : B9 w R1 z0 z1 z2 z3 z4 z5 z6 z7 z8) :
    (results Try.f11 tmps).run Try.prog w = .ok (.tuple #[.agg #[z0, z1, z2, z3, z4, z5, z6, z7, z8], v]) w := by
  have h4' : tmps[2]?.getD undef = .pointer (some ⟨R1, 0, none⟩) := by simpa using h4
  have h5' : tmps[3]?.getD undef = v := by simpa using h5
  obtain ⟨r0, r1, r2, r3, r4, r5, r6, r7, r8⟩ := b1.cells
  simp [results, Try.results11, h4', h5', go_sem, r0, r1, r2, r3, r4, r5, r6, r7, r8]
theorem GJ.start (B : Nat) (w : World) (h : B ≤ w.heap.size) : GJ B (.slice none 0 0) [] [] w w :=
  ⟨Below.refl _ _, OwnL.nil _ _ _, rfl, fun z hz => (by cases hz), h⟩
set_option maxRecDepth 100000 in
set_option maxHeartbeats 8000000 in
theorem rtoexpr_any (A : Option Addr) (n c : Nat) (l : List MF.Of) (hn : n ≤ 100000) (w : World) (hl : Lst ofE w A n c l) : Calls Try.prog 11 #[.slice A n c] w (GivesXE (toE l) w) := by
  have HB := Lib.hid (below_new w (.cells #[.int .i64 0, .int .i64 0, .int .i64 0, .int .i64 0, .int .i64 0, .int .i64 0, .int .i64 0, .int .i64 0, .slice none 0 0] 28))
  have E0 := Lib.hid (show B9 (w.alloc (.cells #[.int .i64 0, .int .i64 0, .int .i64 0, .int .i64 0, .int .i64 0, .int .i64 0, .int .i64 0, .int .i64 0, .slice none 0 0] 28)) w.heap.size (.int .i64 0) (.int .i64 0) (.int .i64 0) (.int .i64 0) (.int .i64 0) (.int .i64 0) (.int .i64 0) (.int .i64 0) (.slice none 0 0) from heap_new w _)
  have L0 := Lib.hid (hl.keep HB.out)
  have HLN := Lib.hid hl.len
  have HF := Lib.hid hl.fine
  clear hl
  obtain ⟨R, hR⟩ : ∃ R, R = toE l := ⟨_, rfl⟩
  rw [← hR]
  have HR := Lib.hid hR
  clear hR
  have hmo : Try.prog.follows .mixedOrders = true := by kernel_rfl
  obtain ⟨i0, hi, hz0, hz1, hz2⟩ := info_parts infoExpr
  go_enter Try.func11, Try.ntmps11
  go_upto_region 1 with (fail)
  generalize w.alloc (.cells #[.int .i64 0, .int .i64 0, .int .i64 0, .int .i64 0, .int .i64 0, .int .i64 0, .int .i64 0, .int .i64 0, .slice none 0 0] 28) = w1 at *
  obtain ⟨e0, e1, e2, e3, e4, e5, e6, e7, e8⟩ := E0.out.cells
  obtain ⟨g0, g1, g2, g3, g4, g5, g6, g7, g8⟩ := E0.out.free
  by_cases h0 : n = 0
  · have HE := Lib.hid (show R = (zeroN, 1) from by rw [HR.out]; unfold toE; rw [if_pos (by rw [HLN.out, h0])])
    have d0 : ((n : Int) == 0) = true := beq_iff_eq.2 (by omega)
    clear h0
    go_wp2
    refine bodyPost_ret (rtoexpr_res _ rfl rfl (by rw [nest_0]; exact E0.out.put _ _ _ _ _ _ _ _ _)) rfl ?_
    rw [HE.out]
    refine ⟨ntZ, rfl, rfl, ntZ_ok _ _, ?_⟩
    rw [nest_0]
    exact HB.out.grown (sets_grown _ _) HB.out.size (fun k hk => by injection hk with hk; omega)
  · have h0' : 0 < n := by omega
    have d0 : ((n : Int) == 0) = false := beq_eq_false_iff_ne.2 (by omega)
    by_cases h64 : 64 < n
    · have HE := Lib.hid (show R = (zeroN, 3) from by rw [HR.out]; exact toE_long (by rw [HLN.out]; exact h64))
      have d1 : decide ((64 : Int) < n) = true := decide_eq_true (by omega)
      clear h0
      go_wp2
      refine bodyPost_ret (rtoexpr_res _ rfl rfl (by rw [nest_0]; exact E0.out.put _ _ _ _ _ _ _ _ _)) rfl ?_
      rw [HE.out]
      refine ⟨ntZ, rfl, rfl, ntZ_ok _ _, ?_⟩
      rw [nest_0]
      exact HB.out.grown (sets_grown _ _) HB.out.size (fun k hk => by injection hk with hk; omega)
    · have d1 : decide ((64 : Int) < n) = false := decide_eq_false (by omega)
      have HE := Lib.hid (show R = if ME.checkE (toN (l.map fun p => (atX p).n)) ≠ 0 then (zeroN, ME.checkE (toN (l.map fun p => (atX p).n))) else (toN (l.map fun p => (atX p).n), 0) from by rw [HR.out]; unfold toE; rw [if_neg (by rw [HLN.out]; exact h0)])
      have HSZ := Lib.hid (toN_size l (by rw [HLN.out]; exact h0'))
      have HGN := Lib.hid (fun (q j : Nat) (hj : j = 8 * q + min 8 (n - 8 * q)) => gN_of (l := l) (q := q) (j := j) (by rw [HLN.out]; exact hj))
      rw [HLN.out] at HGN
      have HNX0 := Lib.hid (fun (p : MF.Of) (q j : Nat) (hj : 8 * q ≤ j) (h : l[j]? = some p) => atoms_next hj h)
      have HBO := Lib.hid (fun (p : MF.Of) (h : p ∈ l) => HF.out p h)
      have HTN := Lib.hid (show toN (l.map fun p => (atX p).n) = grN ((chP n ((n + 7) / 8)).map (gN (l.map fun p => (atX p).n))) from by unfold toN chL; rw [List.length_map, HLN.out])
      generalize (l.map fun p => (atX p).n) = NS at *
      clear h0 HR e0 e1 e2 e3 e4 e5 e6 e7 e8 g0 g1 g2 g3 g4 g5 g6 g7 g8
      obtain ⟨B, hB⟩ : ∃ B, B = w1.heap.size := ⟨_, rfl⟩
      have HBB := Lib.hid hB
      clear hB
      go_wp2_with fail
      go_loopw [4, 5] (fun v i wr => ∃ (q s : Nat) (L : List NT), s = 8 * q ∧ s < n + 8 ∧ i = .int .i64 s ∧ GJ B v L ((chP n q).map (gN NS)) w1 wr) (fun _ i _ => n + 8 - (intOf i).toNat)
      case atStart => exact ⟨0, 0, [], rfl, by omega, rfl, GJ.start _ _ (by have := HBB.out; omega)⟩
      case round =>
        obtain ⟨q, s, L, hs, hsn, rfl, hgj⟩ := hrel
        have J := Lib.hid hgj
        have HLL := Lib.hid (show L.length ≤ 9 from by have h1 := congrArg List.length hgj.eq; rw [List.length_map, List.length_map] at h1; unfold chP at h1; rw [List.length_map, List.length_range] at h1; omega)
        clear hgj
        have HS := Lib.hid hs
        clear hs
        generalize wr = W at *
        have HBW := Lib.hid J.out.ge
        have HOWN := Lib.hid (fun k (h : Value.ownBlock u4 = some k) => (World.ownsRow.lt J.out.own.1 k h).2)
        by_cases hlt : s < n
        · have LW := Lib.hid (L0.out.keep (J.out.below.mono (by have := HBB.out; omega)))
          go_wp2_with fail
          go_loopw [6, 7] (fun a k wr => ∃ j : Nat, s ≤ j ∧ j ≤ n ∧ j ≤ s + 8 ∧ k = .int .i64 j ∧ OwnL ntE 28 wr W.heap.size a (((l.drop (8 * q)).take (j - 8 * q)).map atX) ∧ Below W.heap.size W wr) (fun _ k _ => n - (intOf k).toNat)
          case atStart => exact ⟨s, Nat.le_refl _, by omega, by omega, rfl, by rw [HS.out, Nat.sub_self]; exact OwnL.nil _ _ _, Below.refl _ _⟩
          case round =>
            obtain ⟨j, hj1, hj2, hj3, rfl, hown, hbw⟩ := hrel
            by_cases hj : j < n
            · by_cases hj8 : j < s + 8
              · have dj8 : decide ((j : Int) < (s : Int) + 8) = true := decide_eq_true (by omega)
                obtain ⟨ad, ⟨bi, x0, x1, x2, x3, x4, x5, v⟩, rfl, hrow, _, hadl, _⟩ := of_at LW.out hj
                have CO := Lib.hid (fun X (h : Below W.heap.size W X) => of_cells (LW.out.keep h) hj hrow)
                have HNX := Lib.hid (HNX0.out _ q j (by have := HS.out; omega) hrow)
                have HOL := Lib.hid (show (((l.drop (8 * q)).take (j - 8 * q)).map atX).length + 1 ≤ 1025 from by rw [List.length_map, List.length_take]; have := HS.out; omega)
                have O6' := Lib.hid hown
                have HBw := Lib.hid hbw
                clear hown hbw hrow hadl J HOWN
                generalize ((l.drop (8 * q)).take (j - 8 * q)).map atX = M0 at *
                go_wp2_with fail
                have HBd := Lib.hid (HBw.out.trans ((below_drawn wr).mono HBw.out.size))
                have O6 := Lib.hid (O6'.out.keep (below_drawn wr))
                clear HBw O6'
                refine wp_region_held_drew (S := fun w' => Below W.heap.size W w') hmo HBd.out (fun hHeld => ?_)
                generalize wr.drew = Y at *
                refine wpAnyH_take (i := 0) (oi := { dst := some 37, op := Op.move (Operand.tmp 6), type := 26, pos := "ref.go:86", after := #[], guard := none }) (v := ?_) rfl (by kernel_rfl) (by kernel_rfl) (by kernel_rfl) (fun _ _ _ h => h) (Or.inl ⟨by rfl, ?_⟩) (by assumption) ?_
                rotate_left
                · intro w hSw; (try dsimp only at hSw); go_simp; try with_reducible rfl
                (try simp only [Act.put, List.setIfInBounds_toArray, List.set_cons_zero, List.set_cons_succ])
                refine wpAnyH_take (i := 1) (oi := { dst := some 38, op := Op.move (Operand.tmp 0), type := 22, pos := "ref.go:86", after := #[], guard := none }) (v := ?_) rfl (by kernel_rfl) (by kernel_rfl) (by kernel_rfl) (fun _ _ _ h => h) (Or.inl ⟨by rfl, ?_⟩) (by assumption) ?_
                rotate_left
                · intro w hSw; (try dsimp only at hSw); go_simp; try with_reducible rfl
                (try simp only [Act.put, List.setIfInBounds_toArray, List.set_cons_zero, List.set_cons_succ])
                refine wpAnyH_take (i := 2) (oi := { dst := some 39, op := Op.move (Operand.tmp 7), type := 3, pos := "ref.go:86", after := #[], guard := none }) (v := ?_) rfl (by kernel_rfl) (by kernel_rfl) (by kernel_rfl) (fun _ _ _ h => h) (Or.inl ⟨by rfl, ?_⟩) (by assumption) ?_
                rotate_left
                · intro w hSw; (try dsimp only at hSw); go_simp; try with_reducible rfl
                (try simp only [Act.put, List.setIfInBounds_toArray, List.set_cons_zero, List.set_cons_succ])
                refine wpAnyH_take (i := 3) (oi := { dst := some 40, op := Op.indexAddr 22 (Operand.tmp 38) (Operand.tmp 39), type := 0, pos := "ref.go:86", after := #[{ on := 1, ground := Ground.data }, { on := 2, ground := Ground.data }], guard := none }) (v := ?_) rfl (by kernel_rfl) (by kernel_rfl) (by kernel_rfl) (fun _ _ _ h => h) (Or.inl ⟨by rfl, ?_⟩) (by assumption) ?_
                rotate_left
                · intro w hSw; (try dsimp only at hSw); obtain ⟨c0, c1, c2, c3, c4, c5, c6, c7⟩ := CO.out w hSw; go_simp; try with_reducible rfl
                (try simp only [Act.put, List.setIfInBounds_toArray, List.set_cons_zero, List.set_cons_succ])
                refine wpAnyH_take (i := 4) (oi := { dst := some 41, op := Op.fieldAddr 60 (Operand.tmp 40) 1, type := 0, pos := "ref.go:86", after := #[{ on := 3, ground := Ground.data }], guard := none }) (v := ?_) rfl (by kernel_rfl) (by kernel_rfl) (by kernel_rfl) (fun _ _ _ h => h) (Or.inl ⟨by rfl, ?_⟩) (by assumption) ?_
                rotate_left
                · intro w hSw; (try dsimp only at hSw); obtain ⟨c0, c1, c2, c3, c4, c5, c6, c7⟩ := CO.out w hSw; go_simp; try with_reducible rfl
                (try simp only [Act.put, List.setIfInBounds_toArray, List.set_cons_zero, List.set_cons_succ])
                refine wpAnyH_take (i := 5) (oi := { dst := some 42, op := Op.load 24 (Operand.tmp 41), type := 24, pos := "ref.go:86", after := #[{ on := 4, ground := Ground.data }], guard := none }) (v := ?_) rfl (by kernel_rfl) (by kernel_rfl) (by kernel_rfl) (fun _ _ _ h => h) (Or.inl ⟨by rfl, ?_⟩) (by assumption) ?_
                rotate_left
                · intro w hSw; (try dsimp only at hSw); obtain ⟨c0, c1, c2, c3, c4, c5, c6, c7⟩ := CO.out w hSw; go_simp; try with_reducible rfl
                (try simp only [Act.put, List.setIfInBounds_toArray, List.set_cons_zero, List.set_cons_succ])
                refine wpAnyH_take (i := 6) (oi := { dst := some 43, op := Op.move (Operand.tmp 0), type := 22, pos := "ref.go:86", after := #[], guard := none }) (v := ?_) rfl (by kernel_rfl) (by kernel_rfl) (by kernel_rfl) (fun _ _ _ h => h) (Or.inl ⟨by rfl, ?_⟩) (by assumption) ?_
                rotate_left
                · intro w hSw; (try dsimp only at hSw); go_simp; try with_reducible rfl
                (try simp only [Act.put, List.setIfInBounds_toArray, List.set_cons_zero, List.set_cons_succ])
                refine wpAnyH_take (i := 7) (oi := { dst := some 44, op := Op.move (Operand.tmp 7), type := 3, pos := "ref.go:86", after := #[], guard := none }) (v := ?_) rfl (by kernel_rfl) (by kernel_rfl) (by kernel_rfl) (fun _ _ _ h => h) (Or.inl ⟨by rfl, ?_⟩) (by assumption) ?_
                rotate_left
                · intro w hSw; (try dsimp only at hSw); go_simp; try with_reducible rfl
                (try simp only [Act.put, List.setIfInBounds_toArray, List.set_cons_zero, List.set_cons_succ])
                refine wpAnyH_take (i := 8) (oi := { dst := some 45, op := Op.indexAddr 22 (Operand.tmp 43) (Operand.tmp 44), type := 0, pos := "ref.go:86", after := #[{ on := 6, ground := Ground.data }, { on := 7, ground := Ground.data }], guard := none }) (v := ?_) rfl (by kernel_rfl) (by kernel_rfl) (by kernel_rfl) (fun _ _ _ h => h) (Or.inl ⟨by rfl, ?_⟩) (by assumption) ?_
                rotate_left
                · intro w hSw; (try dsimp only at hSw); obtain ⟨c0, c1, c2, c3, c4, c5, c6, c7⟩ := CO.out w hSw; go_simp; try with_reducible rfl
                (try simp only [Act.put, List.setIfInBounds_toArray, List.set_cons_zero, List.set_cons_succ])
                refine wpAnyH_take (i := 9) (oi := { dst := some 46, op := Op.fieldAddr 60 (Operand.tmp 45) 2, type := 0, pos := "ref.go:86", after := #[{ on := 8, ground := Ground.data }], guard := none }) (v := ?_) rfl (by kernel_rfl) (by kernel_rfl) (by kernel_rfl) (fun _ _ _ h => h) (Or.inl ⟨by rfl, ?_⟩) (by assumption) ?_
                rotate_left
                · intro w hSw; (try dsimp only at hSw); obtain ⟨c0, c1, c2, c3, c4, c5, c6, c7⟩ := CO.out w hSw; go_simp; try with_reducible rfl
                (try simp only [Act.put, List.setIfInBounds_toArray, List.set_cons_zero, List.set_cons_succ])
                refine wpAnyH_take (i := 10) (oi := { dst := some 47, op := Op.load 2 (Operand.tmp 46), type := 2, pos := "ref.go:86", after := #[{ on := 9, ground := Ground.data }], guard := none }) (v := ?_) rfl (by kernel_rfl) (by kernel_rfl) (by kernel_rfl) (fun _ _ _ h => h) (Or.inl ⟨by rfl, ?_⟩) (by assumption) ?_
                rotate_left
                · intro w hSw; (try dsimp only at hSw); obtain ⟨c0, c1, c2, c3, c4, c5, c6, c7⟩ := CO.out w hSw; go_simp; try with_reducible rfl
                (try simp only [Act.put, List.setIfInBounds_toArray, List.set_cons_zero, List.set_cons_succ])
                refine wpAnyH_take (i := 11) (oi := { dst := some 48, op := Op.build 28 #[(0, Operand.const (Value.int IntKind.i64 1)), (1, Operand.tmp 42), (2, Operand.tmp 47)], type := 28, pos := "ref.go:86", after := #[{ on := 5, ground := Ground.data }, { on := 10, ground := Ground.data }], guard := none }) (v := ?_) rfl (by kernel_rfl) (by kernel_rfl) (by kernel_rfl) (fun _ _ _ h => h) (Or.inl ⟨by rfl, ?_⟩) (by assumption) ?_
                rotate_left
                · intro w hSw; (try dsimp only at hSw); go_simp; try with_reducible rfl
                (try simp only [Act.put, List.setIfInBounds_toArray, List.set_cons_zero, List.set_cons_succ])
                refine wpAnyH_ready (rs := [12]) (by kernel_rfl) (by simp) ?_
                refine AllReadyH.cons (o := { dst := some 49, op := Op.buildSlice 26 1 #[(0, Operand.tmp 48)], type := 26, pos := "ref.go:86", after := #[{ on := 11, ground := Ground.data }], guard := none }) rfl (fun K hK => ?_) AllReadyH.nil
                go_simp
                have nb := below_new Y (.cells #[.int .i64 1, .int .i64 x0, .int .i64 x1, .int .i64 x2, .int .i64 x3, .int .i64 x4, .int .i64 x5, .int .i64 v, .slice none 0 0] 28)
                have N6 := Lib.hid (heap_new Y (.cells #[.int .i64 1, .int .i64 x0, .int .i64 x1, .int .i64 x2, .int .i64 x3, .int .i64 x4, .int .i64 x5, .int .i64 v, .slice none 0 0] 28))
                have O7 := Lib.hid (O6.out.keep nb)
                have HB7 := Lib.hid (HBd.out.trans (nb.mono HBd.out.size))
                clear nb O6 HBd
                refine hK.out _ _ ?_ (fun hHeld => ?_)
                · exact HB7.out
                obtain ⟨w6, hw6⟩ : ∃ w6, w6 = Y.alloc (.cells #[.int .i64 1, .int .i64 x0, .int .i64 x1, .int .i64 x2, .int .i64 x3, .int .i64 x4, .int .i64 x5, .int .i64 v, .slice none 0 0] 28) := ⟨_, rfl⟩
                rw [← hw6] at N6 O7 HB7 ⊢
                clear hw6
                clear hK K
                (try simp only [Act.put, List.setIfInBounds_toArray, List.set_cons_zero, List.set_cons_succ])
                refine wpAnyH_ready (rs := [13]) (by kernel_rfl) (by simp) ?_
                refine AllReadyH.cons (o := { dst := some 50, op := Op.call { callee := Callee.builtin Builtin.append, args := #[Operand.tmp 37, Operand.tmp 49], argTypes := #[26, 26] }, type := 26, pos := "ref.go:86", after := #[{ on := 0, ground := Ground.data }, { on := 12, ground := Ground.data }], guard := none }) rfl (fun K hK => ?_) AllReadyH.nil
                refine step_append_lies _ (by rfl) _ _ _ (by rfl) W.heap.size 28 i0 (.agg #[.int .i64 0, .int .i64 0, .int .i64 0, .int .i64 0, .int .i64 0, .int .i64 0, .int .i64 0, .int .i64 0, .slice none 0 0]) 9 88 Try.underlying26 hi hz0 hz1 hz2 rfl (by decide) _ _ _ (by rfl) O7.out.1 ⟨Y.heap.size, 0, none⟩ 1 1 [.int .i64 1, .int .i64 x0, .int .i64 x1, .int .i64 x2, .int .i64 x3, .int .i64 x4, .int .i64 x5, .int .i64 v, .slice none 0 0] (by rfl) rfl ?c1 ?c2 (by decide) ?c4 ?c5 ?c6 _ rfl ?_
                case c1 => exact World.news_of_block N6.out
                case c2 => exact ntE.one (atX ⟨bi, x0, x1, x2, x3, x4, x5, v⟩)
                case c4 => exact Nat.le_trans HOL.out (by unfold maxLen; decide)
                case c5 => exact Nat.le_trans (Nat.mul_le_mul_right 88 HOL.out) (by decide)
                case c6 => exact HB7.out.size
                intro gg cp w7 hown hgrow hat hlt7
                have RR := O7.out.app (x := atX ⟨bi, x0, x1, x2, x3, x4, x5, v⟩) rfl HB7.out HB7.out.size (by exact hown) hgrow
                have O8 := Lib.hid RR.1
                have HB8 := Lib.hid RR.2
                clear RR hown hgrow hat hlt7 O7 HB7 N6
                refine hK.out _ _ ?_ (fun hHeld => ?_)
                · exact HB8.out
                clear hK K
                (try simp only [Act.put, List.setIfInBounds_toArray, List.set_cons_zero, List.set_cons_succ])
                refine wpAnyH_take (i := 14) (oi := { dst := some 6, op := Op.assign (Operand.tmp 50), type := 26, pos := "ref.go:86", after := #[{ on := 13, ground := Ground.data }, { on := 13, ground := Ground.chain }, { on := 0, ground := Ground.phase }, { on := 1, ground := Ground.phase }, { on := 2, ground := Ground.phase }, { on := 3, ground := Ground.phase }, { on := 4, ground := Ground.phase }, { on := 5, ground := Ground.phase }, { on := 6, ground := Ground.phase }, { on := 7, ground := Ground.phase }, { on := 8, ground := Ground.phase }, { on := 9, ground := Ground.phase }, { on := 10, ground := Ground.phase }, { on := 11, ground := Ground.phase }, { on := 12, ground := Ground.phase }, { on := 13, ground := Ground.phase }], guard := none }) (v := ?_) rfl (by kernel_rfl) (by kernel_rfl) (by kernel_rfl) (fun _ _ _ h => h) (Or.inl ⟨by rfl, ?_⟩) (by assumption) ?_
                rotate_left
                · intro w hSw; (try dsimp only at hSw); go_simp; try with_reducible rfl
                (try simp only [Act.put, List.setIfInBounds_toArray, List.set_cons_zero, List.set_cons_succ])
                refine wpAnyH_done (by kernel_rfl) ?_ _
                clear hHeld
                rw [← HNX.out] at O8
                go_wp2
                go_roundw
                case rel => exact ⟨j + 1, by omega, by omega, by omega, by go_num, O8.out, HB8.out⟩
                case measure => simp [intOf]; omega
              · have dj8 : decide ((j : Int) < (s : Int) + 8) = false := decide_eq_false (by omega)
                have HM := Lib.hid (HGN.out q j (by have := HS.out; omega))
                have HML := Lib.hid (show (((l.drop (8 * q)).take (j - 8 * q)).map atX).length = j - 8 * q from by rw [List.length_map, List.length_take, List.length_drop, HLN.out]; have := HS.out; omega)
                obtain ⟨x, hx1, hx2, hx3⟩ := group_own wr W.heap.size u6 _ hown (by rw [HML.out]; have := HS.out; omega) (fun z hz => by obtain ⟨p, _, rfl⟩ := List.mem_map.1 hz; exact atX_ok (HBO.out p (List.mem_of_mem_drop (List.mem_of_mem_take (by assumption)))) _ _)
                rw [HM.out] at hx2
                have HC := Lib.hid hx1
                have HXN := Lib.hid hx2
                have HXO := Lib.hid hx3
                have J2 := Lib.hid (J.out.keep hbw)
                clear hx1 hx2 hx3 hown hbw J HM HML
                have hsx := HXO.out.six
                obtain ⟨oy, byy, vy, Ay, cy, ky⟩ := x
                obtain ⟨q0, q1, q2, q3, q4, q5, rfl⟩ := six hsx
                rw [NT.val_lit] at HC
                clear hsx
                go_wp2_with fail
                refine HC.out.mono ?_
                rintro ev w4 ⟨rfl, nb4⟩
                have J4 := Lib.hid (J2.out.keep nb4)
                have X4 := Lib.hid (HXO.out.below nb4)
                clear nb4 HC HXO J2
                have nb5 := below_new w4 (.cells #[.int .i64 oy, .int .i64 q0, .int .i64 q1, .int .i64 q2, .int .i64 q3, .int .i64 q4, .int .i64 q5, .int .i64 vy, .slice Ay ky.len cy] 28)
                have N5 := Lib.hid (heap_new w4 (.cells #[.int .i64 oy, .int .i64 q0, .int .i64 q1, .int .i64 q2, .int .i64 q3, .int .i64 q4, .int .i64 q5, .int .i64 vy, .slice Ay ky.len cy] 28))
                have J5 := Lib.hid (J4.out.keep nb5)
                have X5 := Lib.hid (X4.out.below nb5)
                clear nb5 J4 X4
                go_wp2_with (at_builtin; refine wpList_append_lies _ rfl _ _ 26 rfl B 28 i0 (.agg #[.int .i64 0, .int .i64 0, .int .i64 0, .int .i64 0, .int .i64 0, .int .i64 0, .int .i64 0, .int .i64 0, .slice none 0 0]) 9 88 Try.underlying26 hi hz0 hz1 hz2 rfl (by decide) _ _ _ rfl J5.out.own.1 ⟨w4.heap.size, 0, none⟩ 1 1 [.int .i64 oy, .int .i64 q0, .int .i64 q1, .int .i64 q2, .int .i64 q3, .int .i64 q4, .int .i64 q5, .int .i64 vy, .slice Ay ky.len cy] rfl rfl ?c1 ?c2 (by decide) ?c4 ?c5 ?c6 _ rfl ?_)
                case c1 => exact World.news_of_block N5.out
                case c2 => exact ntE.one ⟨oy, [q0, q1, q2, q3, q4, q5], vy, Ay, cy, ky⟩
                case c4 => have := HLL.out; unfold maxLen; omega
                case c5 => have := HLL.out; omega
                case c6 => exact J5.out.ge
                intro gg cp w7 hown hgrow hat hlt7
                have J7 := Lib.hid (J5.out.app (y := ⟨oy, [q0, q1, q2, q3, q4, q5], vy, Ay, cy, ky⟩) (zs' := (chP n (q + 1)).map (gN NS)) (by exact hown) hgrow (by rw [show (w4.alloc (.cells #[.int .i64 oy, .int .i64 q0, .int .i64 q1, .int .i64 q2, .int .i64 q3, .int .i64 q4, .int .i64 q5, .int .i64 vy, .slice Ay ky.len cy] 28)).heap.size = w4.heap.size + 1 from by simp]; exact hat) X5.out HOWN.out HBW.out (by rw [chP_snoc, List.map_append]; exact congrArg _ (congrArg (fun z => [z]) HXN.out)))
                clear hown hgrow hat hlt7 J5 X5 N5 HXN
                go_wp2
                go_roundw
                case rel => exact ⟨q + 1, s + 8, _, by have := HS.out; omega, by omega, by go_num, J7.out⟩
                case measure => simp [intOf]; omega
            · have dj : decide ((j : Int) < (n : Int)) = false := decide_eq_false (by omega)
              have HM := Lib.hid (HGN.out q j (by have := HS.out; omega))
              have HML := Lib.hid (show (((l.drop (8 * q)).take (j - 8 * q)).map atX).length = j - 8 * q from by rw [List.length_map, List.length_take, List.length_drop, HLN.out]; have := HS.out; omega)
              obtain ⟨x, hx1, hx2, hx3⟩ := group_own wr W.heap.size u6 _ hown (by rw [HML.out]; have := HS.out; omega) (fun z hz => by obtain ⟨p, _, rfl⟩ := List.mem_map.1 hz; exact atX_ok (HBO.out p (List.mem_of_mem_drop (List.mem_of_mem_take (by assumption)))) _ _)
              rw [HM.out] at hx2
              have HC := Lib.hid hx1
              have HXN := Lib.hid hx2
              have HXO := Lib.hid hx3
              have J2 := Lib.hid (J.out.keep hbw)
              clear hx1 hx2 hx3 hown hbw J HM HML
              have hsx := HXO.out.six
              obtain ⟨oy, byy, vy, Ay, cy, ky⟩ := x
              obtain ⟨q0, q1, q2, q3, q4, q5, rfl⟩ := six hsx
              rw [NT.val_lit] at HC
              clear hsx
              go_wp2_with fail
              refine HC.out.mono ?_
              rintro ev w4 ⟨rfl, nb4⟩
              have J4 := Lib.hid (J2.out.keep nb4)
              have X4 := Lib.hid (HXO.out.below nb4)
              clear nb4 HC HXO J2
              have nb5 := below_new w4 (.cells #[.int .i64 oy, .int .i64 q0, .int .i64 q1, .int .i64 q2, .int .i64 q3, .int .i64 q4, .int .i64 q5, .int .i64 vy, .slice Ay ky.len cy] 28)
              have N5 := Lib.hid (heap_new w4 (.cells #[.int .i64 oy, .int .i64 q0, .int .i64 q1, .int .i64 q2, .int .i64 q3, .int .i64 q4, .int .i64 q5, .int .i64 vy, .slice Ay ky.len cy] 28))
              have J5 := Lib.hid (J4.out.keep nb5)
              have X5 := Lib.hid (X4.out.below nb5)
              clear nb5 J4 X4
              go_wp2_with (at_builtin; refine wpList_append_lies _ rfl _ _ 26 rfl B 28 i0 (.agg #[.int .i64 0, .int .i64 0, .int .i64 0, .int .i64 0, .int .i64 0, .int .i64 0, .int .i64 0, .int .i64 0, .slice none 0 0]) 9 88 Try.underlying26 hi hz0 hz1 hz2 rfl (by decide) _ _ _ rfl J5.out.own.1 ⟨w4.heap.size, 0, none⟩ 1 1 [.int .i64 oy, .int .i64 q0, .int .i64 q1, .int .i64 q2, .int .i64 q3, .int .i64 q4, .int .i64 q5, .int .i64 vy, .slice Ay ky.len cy] rfl rfl ?c1 ?c2 (by decide) ?c4 ?c5 ?c6 _ rfl ?_)
              case c1 => exact World.news_of_block N5.out
              case c2 => exact ntE.one ⟨oy, [q0, q1, q2, q3, q4, q5], vy, Ay, cy, ky⟩
              case c4 => have := HLL.out; unfold maxLen; omega
              case c5 => have := HLL.out; omega
              case c6 => exact J5.out.ge
              intro gg cp w7 hown hgrow hat hlt7
              have J7 := Lib.hid (J5.out.app (y := ⟨oy, [q0, q1, q2, q3, q4, q5], vy, Ay, cy, ky⟩) (zs' := (chP n (q + 1)).map (gN NS)) (by exact hown) hgrow (by rw [show (w4.alloc (.cells #[.int .i64 oy, .int .i64 q0, .int .i64 q1, .int .i64 q2, .int .i64 q3, .int .i64 q4, .int .i64 q5, .int .i64 vy, .slice Ay ky.len cy] 28)).heap.size = w4.heap.size + 1 from by simp]; exact hat) X5.out HOWN.out HBW.out (by rw [chP_snoc, List.map_append]; exact congrArg _ (congrArg (fun z => [z]) HXN.out)))
              clear hown hgrow hat hlt7 J5 X5 N5 HXN
              go_wp2
              go_roundw
              case rel => exact ⟨q + 1, s + 8, _, by have := HS.out; omega, by omega, by go_num, J7.out⟩
              case measure => simp [intOf]; omega
        · have hqq : q = (n + 7) / 8 := by have := HS.out; omega
          have hLp : 0 < L.length := by
            have h1 := congrArg List.length J.out.eq
            rw [List.length_map, List.length_map] at h1
            unfold chP at h1
            rw [List.length_map, List.length_range] at h1
            omega
          obtain ⟨x, hx1, hx2, hx3⟩ := group_own W B u4 L J.out.own hLp (fun z hz => (J.out.ok z hz).keep (fun _ _ _ => rfl) (Nat.le_refl _) (fun k hk _ => hk.1))
          rw [J.out.eq, hqq, ← HTN.out] at hx2
          have B3 := Lib.hid (HB.out.trans (J.out.below.mono (by have := HBB.out; have := HB.out.size; omega)))
          have E3 := Lib.hid (E0.out.keep (J.out.below.mono (by have := HBB.out; omega)))
          have HC := Lib.hid hx1
          have HXN := Lib.hid hx2
          have HXO := Lib.hid (hx3.keep (ok' := fun k => w1.heap.size ≤ k) (fun _ _ _ => rfl) (Nat.le_refl _) (fun k hk _ => by have := HBB.out; omega))
          have HXS := Lib.hid (show x.size ≤ 1000000 from by rw [← NT.size_n, hx2]; refine Nat.le_trans HSZ.out ?_; rw [HLN.out]; omega)
          have hw2 : w.heap.size < w1.heap.size := E0.out.lt
          clear hx1 hx2 hx3 J HOWN HLL hqq hLp HB E0 L0
          have hsx := HXO.out.six
          obtain ⟨oy, byy, vy, Ay, cy, ky⟩ := x
          obtain ⟨q0, q1, q2, q3, q4, q5, rfl⟩ := six hsx
          rw [NT.val_lit] at HC
          clear hsx
          go_wp2_with fail
          refine HC.out.mono ?_
          rintro ev w4 ⟨rfl, nb4⟩
          have B4 := Lib.hid (B3.out.trans (nb4.mono B3.out.size))
          have E4 := Lib.hid (E3.out.keep nb4)
          have X4 := Lib.hid (HXO.out.below nb4)
          clear nb4 HC HXO B3 E3
          go_upto_region 16 with (fail)
          have nb5 := below_new w4 (.cells #[.int .i64 oy, .int .i64 q0, .int .i64 q1, .int .i64 q2, .int .i64 q3, .int .i64 q4, .int .i64 q5, .int .i64 vy, .slice Ay ky.len cy] 28)
          have Y5 := Lib.hid (show B9 (w4.alloc (.cells #[.int .i64 oy, .int .i64 q0, .int .i64 q1, .int .i64 q2, .int .i64 q3, .int .i64 q4, .int .i64 q5, .int .i64 vy, .slice Ay ky.len cy] 28)) w4.heap.size (.int .i64 oy) (.int .i64 q0) (.int .i64 q1) (.int .i64 q2) (.int .i64 q3) (.int .i64 q4) (.int .i64 q5) (.int .i64 vy) (.slice Ay ky.len cy) from heap_new w4 _)
          have B5 := Lib.hid (B4.out.trans (nb5.mono B4.out.size))
          have E5 := Lib.hid (E4.out.keep nb5)
          have X5 := Lib.hid (X4.out.below nb5)
          clear nb5 B4 E4 X4
          generalize w4.alloc (.cells #[.int .i64 oy, .int .i64 q0, .int .i64 q1, .int .i64 q2, .int .i64 q3, .int .i64 q4, .int .i64 q5, .int .i64 vy, .slice Ay ky.len cy] 28) = w5 at *
          generalize w4.heap.size = B at *
          obtain ⟨y0, y1, y2, y3, y4, y5, y6, y7, y8⟩ := Y5.out.cells
          have HK := Lib.hid (rcheck_any ⟨oy, [q0, q1, q2, q3, q4, q5], vy, Ay, cy, ky⟩ HXS.out w5 _ X5.out)
          rw [NT.val_lit, HXN.out] at HK
          go_wp2_with fail
          refine HK.out.mono ?_
          rintro ev w6 ⟨rfl, nb6⟩
          have B6 := Lib.hid (B5.out.trans (nb6.mono B5.out.size))
          have E6 := Lib.hid (E5.out.keep nb6)
          have Y6 := Lib.hid (Y5.out.keep nb6)
          have X6 := Lib.hid (X5.out.below nb6)
          clear nb6 HK y0 y1 y2 y3 y4 y5 y6 y7 y8 B5 E5 Y5 X5
          generalize ME.checkE (toN NS) = ck at *
          obtain ⟨e0, e1, e2, e3, e4, e5, e6, e7, e8⟩ := E6.out.cells
          obtain ⟨g0, g1, g2', g3, g4, g5, g6, g7, g8⟩ := E6.out.free
          by_cases hck : ck = 0
          · have dk : (ck == 0) = true := beq_iff_eq.2 hck
            have HE2 := Lib.hid (HE.out.trans (if_neg (by simpa using hck)))
            obtain ⟨y0, y1, y2, y3, y4, y5, y6, y7, y8⟩ := Y6.out.cells
            clear hck
            go_wp2
            refine bodyPost_ret (rtoexpr_res _ rfl rfl (by rw [nest_0]; exact E6.out.put _ _ _ _ _ _ _ _ _)) rfl ?_
            rw [HE2.out, nest_0]
            have hg := sets_grown (w := w6) (g := w.heap.size) [.int .i64 oy, .int .i64 q0, .int .i64 q1, .int .i64 q2, .int .i64 q3, .int .i64 q4, .int .i64 q5, .int .i64 vy, .slice Ay ky.len cy] 0
            refine ⟨⟨oy, [q0, q1, q2, q3, q4, q5], vy, Ay, cy, ky⟩, by rw [NT.val_lit]; rfl, HXN.out, X6.out.keep (fun k hk hk2 => hg.block k hk2 (fun q => by injection q with q; omega)) hg.size (fun k hk _ => by omega), ?_⟩
            exact B6.out.grown hg B6.out.size (fun k hk => by injection hk with hk; omega)
          · have dk : (ck == 0) = false := beq_eq_false_iff_ne.2 hck
            have HE2 := Lib.hid (HE.out.trans (if_pos hck))
            clear hck
            go_wp2
            refine bodyPost_ret (rtoexpr_res _ rfl rfl (by rw [nest_0]; exact E6.out.put _ _ _ _ _ _ _ _ _)) rfl ?_
            rw [HE2.out]
            refine ⟨ntZ, rfl, rfl, ntZ_ok _ _, ?_⟩
            rw [nest_0]
            exact B6.out.grown (sets_grown _ _) B6.out.size (fun k hk => by injection hk with hk; omega)
end Go.Proofs.Ytjjpfpgjpmedmaa
namespace Go.Proofs.Ytjjpfpgjpmedmaa
open Go.RowKit
attribute [local go_sem] Oper.semAt_some
set_option maxRecDepth 100000 in
set_option maxHeartbeats 8000000 in
theorem flattenExprs_walk (A : Option Addr) (n c : Nat) (l : List MF.Of) (q0 q1 q2 q3 q4 q5 : Int) (w : World) (hl : LstIn ofE w A n c l) : Calls Try.prog 3 #[.slice A n c, .agg #[.int .i64 q0, .int .i64 q1, .int .i64 q2, .int .i64 q3, .int .i64 q4, .int .i64 q5]] w (Gives (.bool true) w) := by
  have hb0 := below_new w (.cells #[.int .i64 q0, .int .i64 q1, .int .i64 q2, .int .i64 q3, .int .i64 q4, .int .i64 q5] 24)
  have B0 := Lib.hid hb0
  have S0 := Lib.hid (BB.new w 24 q0 q1 q2 q3 q4 q5)
  have L0 := Lib.hid (hl.lst.keep hb0)
  have HFI := Lib.hid (show ME.checkE (toN (l.map fun p => (atX p).n)) = 0 → (toE l).2 = 0 → True from fun _ _ => trivial)
  have HV : Hid ((toE l).2 = 0 → chk [q0, q1, q2, q3, q4, q5] = 0 → ME.checkE (toE l).1 = 0 ∧ (toE l).1.size ≤ 40 ∧ VV.value (toE l).1 [q0, q1, q2, q3, q4, q5] = VV.worth (MF.stp l) [q0, q1, q2, q3, q4, q5]) := Lib.hid (fun h hc => by
    unfold toE at h ⊢
    by_cases h0 : l.length = 0
    · rw [if_pos h0] at h; cases h
    · rw [if_neg h0] at h ⊢
      by_cases hk : ME.checkE (toN (l.map fun p => (atX p).n)) ≠ 0
      · rw [if_pos hk] at h; exact absurd h hk
      · rw [if_neg hk]
        have hk' : ME.checkE (toN (l.map fun p => (atX p).n)) = 0 := by simpa using hk
        exact ⟨hk', (ME.checkE_zero.1 hk').2.1, by unfold VV.value; rw [if_pos ⟨hk', hc⟩]; exact offs_val (toN_fine hk') _⟩)
  have HSZ : Hid ((toE l).1.size ≤ 1000000) := Lib.hid (by
    unfold toE
    split
    · exact (by decide : (1 : Nat) ≤ 1000000)
    · split
      · exact (by decide : (1 : Nat) ≤ 1000000)
      · rename_i h0 hk
        have hk' : ME.checkE (toN (l.map fun p => (atX p).n)) = 0 := by simpa using hk
        exact Nat.le_trans (ME.checkE_zero.1 hk').2.1 (by decide))
  clear hb0 hl HFI
  have hmo : Try.prog.follows .mixedOrders = true := by kernel_rfl
  go_enter Try.func3, Try.ntmps3
  go_upto_region 1 with (fail)
  generalize w.alloc (.cells #[.int .i64 q0, .int .i64 q1, .int .i64 q2, .int .i64 q3, .int .i64 q4, .int .i64 q5] 24) = w1 at *
  by_cases h300 : 300 < n
  · have d1 : decide ((300 : Int) < n) = true := decide_eq_true (by omega)
    go_wp2_with fail
    refine (awake14_any _).mono ?_
    rintro ev w9 ⟨rfl, nb⟩
    have B9_ := Lib.hid (B0.out.trans (nb.mono B0.out.size))
    clear nb
    go_wp2
    go_ret
    exact ⟨rfl, B9_.out⟩
  · have d1 : decide ((300 : Int) < n) = false := decide_eq_false (by omega)
    go_wp2_with fail
    refine (ftoexpr_any A n c l (by omega) _ L0.out).mono ?_
    rintro ev w2 ⟨x, rfl, hxn, hxo, nb⟩
    have B2 := Lib.hid (B0.out.trans (nb.mono B0.out.size))
    have S2 := Lib.hid (S0.out.keep nb S0.out.lt)
    have L2 := Lib.hid (L0.out.keep nb)
    clear nb B0 S0 L0
    have FV := Lib.hid (fun X (h : Below w2.heap.size w2 X) => fval_any l A n c q0 q1 q2 q3 q4 q5 X (L2.out.keep h))
    have CR := Lib.hid (fun X (h : Below w2.heap.size w2 X) => rtoexpr_any A n c l (by omega) X (L2.out.keep h))
    generalize toE l = P at *
    obtain ⟨PN, pe⟩ := P
    dsimp only at hxn HV HSZ CR ⊢
    have HXS := Lib.hid (show x.size ≤ 1000000 from by rw [← NT.size_n, hxn]; exact HSZ.out)
    have RV := Lib.hid (fun X (h : Below w2.heap.size w2 X) => rvalue_any x HXS.out q0 q1 q2 q3 q4 q5 X _ (hxo.below h))
    have CK := Lib.hid (fun X (h : Below w2.heap.size w2 X) => check_any x (Nat.le_trans HXS.out (by decide)) X _ (hxo.below h))
    have EQ := Lib.hid (fun (y : NT) (hyn : y.n = PN) X (h : Below w2.heap.size w2 X) (ok' : Nat → Prop) (hy : y.Ok X ok') => (show Calls Try.prog 12 #[x.val, y.val] X (Gives (.bool true) X) from by
      have h1 := requal_any x.size x y (Nat.le_refl _) X _ ok' (hxo.below h) hy
      rw [hxn, hyn, ME.eqN_self] at h1
      exact h1))
    rw [hxn] at RV CK
    have hx6 := hxo.six
    clear hxn hxo HXS
    obtain ⟨ox, bxx, vx, Ax, cx, kx⟩ := x
    obtain ⟨x0, x1, x2, x3, x4, x5, rfl⟩ := six hx6
    rw [NT.val_lit] at RV CK EQ ⊢
    clear hx6
    have nb := below_new w2 (.cells #[.int .i64 ox, .int .i64 x0, .int .i64 x1, .int .i64 x2, .int .i64 x3, .int .i64 x4, .int .i64 x5, .int .i64 vx, .slice Ax kx.len cx] 28)
    have XX := Lib.hid (show B9 (w2.alloc (.cells #[.int .i64 ox, .int .i64 x0, .int .i64 x1, .int .i64 x2, .int .i64 x3, .int .i64 x4, .int .i64 x5, .int .i64 vx, .slice Ax kx.len cx] 28)) w2.heap.size (.int .i64 ox) (.int .i64 x0) (.int .i64 x1) (.int .i64 x2) (.int .i64 x3) (.int .i64 x4) (.int .i64 x5) (.int .i64 vx) (.slice Ax kx.len cx) from heap_new w2 _)
    have B3 := Lib.hid (B2.out.trans (nb.mono B2.out.size))
    have S3 := Lib.hid (S2.out.keep nb S2.out.lt)
    have V3 := Lib.hid nb
    clear nb B2 S2 L2
    go_upto_region 4 with (fail)
    generalize w2.alloc (.cells #[.int .i64 ox, .int .i64 x0, .int .i64 x1, .int .i64 x2, .int .i64 x3, .int .i64 x4, .int .i64 x5, .int .i64 vx, .slice Ax kx.len cx] 28) = w3 at *
    go_wp2_with fail
    refine (CR.out _ V3.out).mono ?_
    rintro ev w4 ⟨y, rfl, hyn, hyo, nb⟩
    have B4 := Lib.hid (B3.out.trans (nb.mono B3.out.size))
    have S4 := Lib.hid (S3.out.keep nb S3.out.lt)
    have V4 := Lib.hid (V3.out.trans (nb.mono V3.out.size))
    have X4 := Lib.hid (XX.out.keep nb)
    clear nb B3 S3 V3 XX CR
    dsimp only at hyn ⊢
    have EY := Lib.hid (fun X (h : Below w4.heap.size w4 X) => EQ.out y hyn X (V4.out.trans (h.mono V4.out.size)) _ (hyo.below h))
    have hy6 := hyo.six
    clear hyn hyo EQ
    obtain ⟨oy, byy, vy, Ay, cy, ky⟩ := y
    obtain ⟨y0, y1, y2, y3, y4, y5, rfl⟩ := six hy6
    rw [NT.val_lit] at EY ⊢
    clear hy6
    have nb := below_new w4 (.cells #[.int .i64 oy, .int .i64 y0, .int .i64 y1, .int .i64 y2, .int .i64 y3, .int .i64 y4, .int .i64 y5, .int .i64 vy, .slice Ay ky.len cy] 28)
    have YY := Lib.hid (show B9 (w4.alloc (.cells #[.int .i64 oy, .int .i64 y0, .int .i64 y1, .int .i64 y2, .int .i64 y3, .int .i64 y4, .int .i64 y5, .int .i64 vy, .slice Ay ky.len cy] 28)) w4.heap.size (.int .i64 oy) (.int .i64 y0) (.int .i64 y1) (.int .i64 y2) (.int .i64 y3) (.int .i64 y4) (.int .i64 y5) (.int .i64 vy) (.slice Ay ky.len cy) from heap_new w4 _)
    have B5 := Lib.hid (B4.out.trans (nb.mono B4.out.size))
    have S5 := Lib.hid (S4.out.keep nb S4.out.lt)
    have V5 := Lib.hid (V4.out.trans (nb.mono V4.out.size))
    have X5 := Lib.hid (X4.out.keep nb)
    have Y5 := Lib.hid nb
    clear nb B4 S4 V4 X4
    go_upto_region 5 with (fail)
    generalize w4.alloc (.cells #[.int .i64 oy, .int .i64 y0, .int .i64 y1, .int .i64 y2, .int .i64 y3, .int .i64 y4, .int .i64 y5, .int .i64 vy, .slice Ay ky.len cy] 28) = w5 at *
    obtain ⟨e0, e1, e2, e3, e4, e5, e6, e7, e8⟩ := X5.out.cells
    obtain ⟨f0, f1, f2, f3, f4, f5, f6, f7, f8⟩ := YY.out.cells
    have dpe : (pe == pe) = true := beq_self_eq_true _
    go_wp2_with fail
    refine (EY.out _ Y5.out).mono ?_
    rintro ev w6 ⟨rfl, nb⟩
    have B6 := Lib.hid (B5.out.trans (nb.mono B5.out.size))
    have S6 := Lib.hid (S5.out.keep nb S5.out.lt)
    have V6 := Lib.hid (V5.out.trans (nb.mono V5.out.size))
    have X6 := Lib.hid (X5.out.keep nb)
    clear nb B5 S5 V5 X5 Y5 YY EY e0 e1 e2 e3 e4 e5 e6 e7 e8 f0 f1 f2 f3 f4 f5 f6 f7 f8
    by_cases hpe : pe = 0
    · have dp : (pe == 0) = true := beq_iff_eq.2 hpe
      have HV2 := Lib.hid (HV.out hpe)
      clear HV
      obtain ⟨r0, r1, r2, r3, r4, r5⟩ := cells6 S6.out
      go_wp2_with fail
      refine (rbcheck_any q0 q1 q2 q3 q4 q5 _).mono ?_
      rintro ev w7 ⟨rfl, nb⟩
      have BW := Lib.hid (B6.out.trans (nb.mono B6.out.size))
      have QQ := Lib.hid (S6.out.keep nb S6.out.lt)
      have VV7 := Lib.hid (V6.out.trans (nb.mono V6.out.size))
      have XX := Lib.hid (X6.out.keep nb)
      clear nb B6 S6 V6 X6 r0 r1 r2 r3 r4 r5
      by_cases hck : chk [q0, q1, q2, q3, q4, q5] = 0
      · have dck : (chk [q0, q1, q2, q3, q4, q5] == 0) = true := beq_iff_eq.2 hck
        obtain ⟨hc0, _, hval⟩ := HV2.out hck
        rw [hval] at RV
        rw [hc0] at CK
        clear hck hc0 hval HV2
        generalize VV.worth (MF.stp l) [q0, q1, q2, q3, q4, q5] = vv at *
        have dvv : (vv == vv) = true := beq_self_eq_true _
        generalize w7 = W at *
        replace RV := Lib.hid (fun X (h : Below W.heap.size W X) => RV.out X (VV7.out.trans (h.mono VV7.out.size)))
        replace FV := Lib.hid (fun X (h : Below W.heap.size W X) => FV.out X (VV7.out.trans (h.mono VV7.out.size)))
        replace CK := Lib.hid (fun X (h : Below W.heap.size W X) => CK.out X (VV7.out.trans (h.mono VV7.out.size)))
        have AW := Lib.hid (fun X (_ : Below W.heap.size W X) => awake14_any X)
        go_wp2_with fail
        have HBd := Lib.hid (below_drawn W)
        refine wp_region_held_drew (S := fun w' => Below W.heap.size W w') hmo HBd.out (fun hHeld => ?_)
        generalize W.drew = Y at *
        refine wpAnyH_take (i := 0) (oi := { dst := some 40, op := Op.load 28 (Operand.tmp 5), type := 28, pos := "law.go:88", after := #[], guard := none }) (v := ?_) rfl (by kernel_rfl) (by kernel_rfl) (by kernel_rfl) (fun _ _ _ h => h) (Or.inl ⟨by rfl, ?_⟩) (by assumption) ?_
        rotate_left
        · intro w hSw; (try dsimp only at hSw); obtain ⟨e0, e1, e2, e3, e4, e5, e6, e7, e8⟩ := (XX.out.keep hSw).cells; go_simp; try with_reducible rfl
        (try simp only [Act.put, List.setIfInBounds_toArray, List.set_cons_zero, List.set_cons_succ])
        refine wpAnyH_take (i := 1) (oi := { dst := some 41, op := Op.load 24 (Operand.tmp 3), type := 24, pos := "law.go:88", after := #[], guard := none }) (v := ?_) rfl (by kernel_rfl) (by kernel_rfl) (by kernel_rfl) (fun _ _ _ h => h) (Or.inl ⟨by rfl, ?_⟩) (by assumption) ?_
        rotate_left
        · intro w hSw; (try dsimp only at hSw); obtain ⟨r0, r1, r2, r3, r4, r5⟩ := cells6 (QQ.out.keep hSw QQ.out.lt); go_simp; try with_reducible rfl
        (try simp only [Act.put, List.setIfInBounds_toArray, List.set_cons_zero, List.set_cons_succ])
        refine wpAnyH_take (i := 3) (oi := { dst := some 43, op := Op.move (Operand.tmp 0), type := 22, pos := "law.go:88", after := #[], guard := none }) (v := ?_) rfl (by kernel_rfl) (by kernel_rfl) (by kernel_rfl) (fun _ _ _ h => h) (Or.inl ⟨by rfl, ?_⟩) (by assumption) ?_
        rotate_left
        · intro w hSw; (try dsimp only at hSw); go_simp; try with_reducible rfl
        (try simp only [Act.put, List.setIfInBounds_toArray, List.set_cons_zero, List.set_cons_succ])
        refine wpAnyH_take (i := 4) (oi := { dst := some 44, op := Op.load 24 (Operand.tmp 3), type := 24, pos := "law.go:88", after := #[], guard := none }) (v := ?_) rfl (by kernel_rfl) (by kernel_rfl) (by kernel_rfl) (fun _ _ _ h => h) (Or.inl ⟨by rfl, ?_⟩) (by assumption) ?_
        rotate_left
        · intro w hSw; (try dsimp only at hSw); obtain ⟨r0, r1, r2, r3, r4, r5⟩ := cells6 (QQ.out.keep hSw QQ.out.lt); go_simp; try with_reducible rfl
        (try simp only [Act.put, List.setIfInBounds_toArray, List.set_cons_zero, List.set_cons_succ])
        refine wpAnyH_ready (rs := [2]) (by kernel_rfl) (by simp) ?_
        refine AllReadyH.cons (o := { dst := some 42, op := Op.call { callee := Callee.value (Operand.func 14), args := #[Operand.tmp 40, Operand.tmp 41], argTypes := #[28, 24] }, type := 2, pos := "law.go:88", after := #[{ on := 0, ground := Ground.data }, { on := 1, ground := Ground.data }], guard := none }) rfl (fun K hK => ?_) AllReadyH.nil
        go_simp
        refine (RV.out _ HBd.out).mono ?_
        rintro ev v1x ⟨rfl, nb⟩
        have HB1x := Lib.hid (HBd.out.trans (nb.mono HBd.out.size))
        clear nb HBd
        refine hK.out _ _ ?_ (fun hHeld => ?_)
        · exact HB1x.out
        clear hK K
        (try simp only [Act.put, List.setIfInBounds_toArray, List.set_cons_zero, List.set_cons_succ])
        refine wpAnyH_ready (rs := [5]) (by kernel_rfl) (by simp) ?_
        refine AllReadyH.cons (o := { dst := some 45, op := Op.call { callee := Callee.value (Operand.func 15), args := #[Operand.tmp 43, Operand.tmp 44], argTypes := #[22, 24] }, type := 2, pos := "law.go:88", after := #[{ on := 3, ground := Ground.data }, { on := 4, ground := Ground.data }, { on := 2, ground := Ground.chain }], guard := none }) rfl (fun K hK => ?_) AllReadyH.nil
        go_simp
        refine (FV.out _ HB1x.out).mono ?_
        rintro ev v2x ⟨rfl, nb⟩
        have HB2x := Lib.hid (HB1x.out.trans (nb.mono HB1x.out.size))
        clear nb HB1x
        refine hK.out _ _ ?_ (fun hHeld => ?_)
        · exact HB2x.out
        clear hK K
        (try simp only [Act.put, List.setIfInBounds_toArray, List.set_cons_zero, List.set_cons_succ])
        refine wpAnyH_take (i := 6) (oi := { dst := some 46, op := Op.binOp BinOp.eql 2 (Operand.tmp 42) (Operand.tmp 45) 2, type := 4, pos := "law.go:88", after := #[{ on := 2, ground := Ground.data }, { on := 5, ground := Ground.data }], guard := none }) (v := ?_) rfl (by kernel_rfl) (by kernel_rfl) (by kernel_rfl) (fun _ _ _ h => h) (Or.inl ⟨by rfl, ?_⟩) (by assumption) ?_
        rotate_left
        · intro w hSw; (try dsimp only at hSw); go_simp; try with_reducible rfl
        (try simp only [Act.put, List.setIfInBounds_toArray, List.set_cons_zero, List.set_cons_succ])
        refine wpAnyH_take (i := 7) (oi := { dst := some 47, op := Op.move (Operand.tmp 46), type := 4, pos := "law.go:88", after := #[{ on := 6, ground := Ground.data }, { on := 5, ground := Ground.chain }], guard := none }) (v := ?_) rfl (by kernel_rfl) (by kernel_rfl) (by kernel_rfl) (fun _ _ _ h => h) (Or.inl ⟨by rfl, ?_⟩) (by assumption) ?_
        rotate_left
        · intro w hSw; (try dsimp only at hSw); go_simp; try with_reducible rfl
        (try simp only [Act.put, List.setIfInBounds_toArray, List.set_cons_zero, List.set_cons_succ])
        refine wpAnyH_take (i := 8) (oi := { dst := some 48, op := Op.load 28 (Operand.tmp 5), type := 28, pos := "law.go:88", after := #[{ on := 7, ground := Ground.guard }], guard := some (7, true) }) (v := ?_) rfl (by kernel_rfl) (by kernel_rfl) (by kernel_rfl) (fun _ _ _ h => h) (Or.inl ⟨by rfl, ?_⟩) (by assumption) ?_
        rotate_left
        · intro w hSw; (try dsimp only at hSw); obtain ⟨e0, e1, e2, e3, e4, e5, e6, e7, e8⟩ := (XX.out.keep hSw).cells; go_simp; try with_reducible rfl
        (try simp only [Act.put, List.setIfInBounds_toArray, List.set_cons_zero, List.set_cons_succ])
        refine wpAnyH_ready (rs := [9]) (by kernel_rfl) (by simp) ?_
        refine AllReadyH.cons (o := { dst := some 49, op := Op.call { callee := Callee.value (Operand.func 16), args := #[Operand.tmp 48], argTypes := #[28] }, type := 29, pos := "law.go:88", after := #[{ on := 8, ground := Ground.data }, { on := 7, ground := Ground.chain }, { on := 7, ground := Ground.guard }], guard := some (7, true) }) rfl (fun K hK => ?_) AllReadyH.nil
        go_simp
        refine (CK.out _ HB2x.out).mono ?_
        rintro ev v3x ⟨rfl, nb⟩
        have HB3x := Lib.hid (HB2x.out.trans (nb.mono HB2x.out.size))
        clear nb HB2x
        refine hK.out _ _ ?_ (fun hHeld => ?_)
        · exact HB3x.out
        clear hK K
        (try simp only [Act.put, List.setIfInBounds_toArray, List.set_cons_zero, List.set_cons_succ])
        refine wpAnyH_take (i := 10) (oi := { dst := some 50, op := Op.binOp BinOp.eql 29 (Operand.tmp 49) (Operand.const (Value.int IntKind.i64 0)) 29, type := 4, pos := "law.go:88", after := #[{ on := 9, ground := Ground.data }, { on := 7, ground := Ground.guard }], guard := some (7, true) }) (v := ?_) rfl (by kernel_rfl) (by kernel_rfl) (by kernel_rfl) (fun _ _ _ h => h) (Or.inl ⟨by rfl, ?_⟩) (by assumption) ?_
        rotate_left
        · intro w hSw; (try dsimp only at hSw); go_simp; try with_reducible rfl
        (try simp only [Act.put, List.setIfInBounds_toArray, List.set_cons_zero, List.set_cons_succ])
        refine wpAnyH_take (i := 11) (oi := { dst := some 51, op := Op.pick (Operand.tmp 47) (Operand.tmp 50) (Operand.const (Value.bool false)), type := 4, pos := "law.go:88", after := #[{ on := 7, ground := Ground.data }, { on := 10, ground := Ground.data }], guard := none }) (v := ?_) rfl (by kernel_rfl) (by kernel_rfl) (by kernel_rfl) (fun _ _ _ h => h) (Or.inl ⟨by rfl, ?_⟩) (by assumption) ?_
        rotate_left
        · intro w hSw; (try dsimp only at hSw); go_simp; try with_reducible rfl
        (try simp only [Act.put, List.setIfInBounds_toArray, List.set_cons_zero, List.set_cons_succ])
        refine wpAnyH_take (i := 12) (oi := { dst := some 52, op := Op.move (Operand.tmp 51), type := 4, pos := "law.go:88", after := #[{ on := 11, ground := Ground.data }, { on := 9, ground := Ground.chain }], guard := none }) (v := ?_) rfl (by kernel_rfl) (by kernel_rfl) (by kernel_rfl) (fun _ _ _ h => h) (Or.inl ⟨by rfl, ?_⟩) (by assumption) ?_
        rotate_left
        · intro w hSw; (try dsimp only at hSw); go_simp; try with_reducible rfl
        (try simp only [Act.put, List.setIfInBounds_toArray, List.set_cons_zero, List.set_cons_succ])
        refine wpAnyH_ready (rs := [13]) (by kernel_rfl) (by simp) ?_
        refine AllReadyH.cons (o := { dst := some 53, op := Op.call { callee := Callee.value (Operand.func 9), args := #[], argTypes := #[] }, type := 4, pos := "law.go:88", after := #[{ on := 12, ground := Ground.chain }, { on := 12, ground := Ground.guard }], guard := some (12, true) }) rfl (fun K hK => ?_) AllReadyH.nil
        go_simp
        refine (AW.out _ HB3x.out).mono ?_
        rintro ev v4x ⟨rfl, nb⟩
        have HB4x := Lib.hid (HB3x.out.trans (nb.mono HB3x.out.size))
        clear nb HB3x
        refine hK.out _ _ ?_ (fun hHeld => ?_)
        · exact HB4x.out
        clear hK K
        (try simp only [Act.put, List.setIfInBounds_toArray, List.set_cons_zero, List.set_cons_succ])
        refine wpAnyH_take (i := 14) (oi := { dst := some 54, op := Op.pick (Operand.tmp 52) (Operand.tmp 53) (Operand.const (Value.bool false)), type := 4, pos := "law.go:88", after := #[{ on := 12, ground := Ground.data }, { on := 13, ground := Ground.data }], guard := none }) (v := ?_) rfl (by kernel_rfl) (by kernel_rfl) (by kernel_rfl) (fun _ _ _ h => h) (Or.inl ⟨by rfl, ?_⟩) (by assumption) ?_
        rotate_left
        · intro w hSw; (try dsimp only at hSw); go_simp; try with_reducible rfl
        (try simp only [Act.put, List.setIfInBounds_toArray, List.set_cons_zero, List.set_cons_succ])
        refine wpAnyH_take (i := 15) (oi := { dst := some 4, op := Op.assign (Operand.tmp 54), type := 4, pos := "law.go:88", after := #[{ on := 14, ground := Ground.data }, { on := 13, ground := Ground.chain }, { on := 0, ground := Ground.phase }, { on := 1, ground := Ground.phase }, { on := 2, ground := Ground.phase }, { on := 3, ground := Ground.phase }, { on := 4, ground := Ground.phase }, { on := 5, ground := Ground.phase }, { on := 6, ground := Ground.phase }, { on := 7, ground := Ground.phase }, { on := 8, ground := Ground.phase }, { on := 9, ground := Ground.phase }, { on := 10, ground := Ground.phase }, { on := 11, ground := Ground.phase }, { on := 12, ground := Ground.phase }, { on := 13, ground := Ground.phase }, { on := 14, ground := Ground.phase }], guard := none }) (v := ?_) rfl (by kernel_rfl) (by kernel_rfl) (by kernel_rfl) (fun _ _ _ h => h) (Or.inl ⟨by rfl, ?_⟩) (by assumption) ?_
        rotate_left
        · intro w hSw; (try dsimp only at hSw); go_simp; try with_reducible rfl
        (try simp only [Act.put, List.setIfInBounds_toArray, List.set_cons_zero, List.set_cons_succ])
        refine wpAnyH_done (by kernel_rfl) ?_ _
        clear hHeld
        go_wp2
        go_ret
        exact ⟨rfl, BW.out.trans (HB4x.out.mono BW.out.size)⟩
      · have dck : (chk [q0, q1, q2, q3, q4, q5] == 0) = false := beq_eq_false_iff_ne.2 hck
        go_wp2_with fail
        refine (awake14_any _).mono ?_
        rintro ev w9 ⟨rfl, nb⟩
        have B9_ := Lib.hid (BW.out.trans (nb.mono BW.out.size))
        clear nb
        go_wp2
        go_ret
        exact ⟨rfl, B9_.out⟩
    · have dp : (pe == 0) = false := beq_eq_false_iff_ne.2 hpe
      go_wp2_with fail
      refine (awake14_any _).mono ?_
      rintro ev w9 ⟨rfl, nb⟩
      have B9_ := Lib.hid (B6.out.trans (nb.mono B6.out.size))
      clear nb
      go_wp2
      go_ret
      exact ⟨rfl, B9_.out⟩
end Go.Proofs.Ytjjpfpgjpmedmaa
