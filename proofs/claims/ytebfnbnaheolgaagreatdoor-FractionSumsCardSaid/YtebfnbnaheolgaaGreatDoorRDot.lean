/- FDot, RDot, joined: no claim of its own. -/
import Derived.Test.YtebfnbnaheolgaaGreatDoorRSum
namespace Go.Proofs.YtebfnbnaheolgaaGreatDoor
open Go.RowKit
/-- After k elements. -/
structure DotInv (w0 : World) (g : Nat) (A : Option Addr) (len cap : Nat) (L : List Fr) (A' : Option Addr) (len' cap' : Nat) (M : List Fr) (S : Fr) (W : World) : Prop where
  l : Frs A len cap L 2 W
  m : Frs A' len' cap' M 2 W
  r : FB W w0.heap.size false none 0 0 none 0 0
  s : ∃ (A1 : Option Addr) (n1 c1 : Nat) (B1 : Option Addr) (m1 d1 : Nat) (xs ys : List Nat), FrAt g S A1 n1 c1 B1 m1 d1 xs ys W
  b : Below w0.heap.size w0 W
  g_ : w0.heap.size < g
theorem Frs.block {a : Addr} {len cap i : Nat} {L : List Fr} {w : World} (h : Frs (some a) len cap L i w) (hp : 0 < len) : a.block < w.heap.size := by
  obtain ⟨_, A, n, c, B, m, d, xs, ys, e⟩ := h.el a rfl 0 (by rw [h.hlen]; exact hp)
  have := World.block_lt_of_cell? w _ e.c0
  rw [add_block] at this
  exact this
theorem dot_bd {L M : List Fr} (hL : ∀ X ∈ L, Bd X 2) (hM : ∀ X ∈ M, Bd X 2) : ∀ X ∈ List.zipWith Fr.mul L M, Bd X 4 := by
  intro X hX
  obtain ⟨j, hj, rfl⟩ := List.mem_iff_getElem.1 hX
  rw [List.getElem_zipWith]
  rw [List.length_zipWith] at hj
  exact (hL _ (List.getElem_mem (by omega))).mul (hM _ (List.getElem_mem (by omega)))
theorem Frs.all {a : Addr} {len cap i : Nat} {L : List Fr} {w : World} (h : Frs (some a) len cap L i w) : ∀ X ∈ L, Bd X i := by
  intro X hX
  obtain ⟨j, hj, rfl⟩ := List.mem_iff_getElem.1 hX
  exact (h.el a rfl j hj).1
set_option maxRecDepth 100000 in
set_option maxHeartbeats 4000000 in
theorem fdot_any (a b : Addr) (len cap len' cap' : Nat) (L M : List Fr) (w : World) (h : Frs (some a) len cap L 2 w) (h' : Frs (some b) len' cap' M 2 w) (hl : len ≤ 5) (hl' : len' ≤ 5) (N : Nat) (hN : min len len' = N) :
    Calls Tryz.prog 10 #[.slice (some a) len cap, .slice (some b) len' cap'] w (GivesFr (dotFr L M) w) := by
  have b0 := below_alloc w (.cells #[.bool false, .slice none 0 0, .slice none 0 0] 27)
  have zL := h.keep b0
  have zM := h'.keep b0
  have zR := FB.new w false none 0 0 none 0 0
  have zB := b0
  have Z0 := opFZero
  have hcap := h.hcap
  have hcap' := h'.hcap
  have hab0 := h.block
  have hab0' := h'.block
  have hmin : (if (len' : Int) < (len : Int) then (len' : Int) else (len : Int)) = (N : Int) := by
    rw [← hN]
    rcases Nat.lt_or_ge len' len with x | x
    · rw [if_pos (by omega), Nat.min_eq_right (by omega)]
    · rw [if_neg (by omega), Nat.min_eq_left x]
  have hZ : Hid ((List.zipWith Fr.mul L M).length = N) := Lib.hid (by rw [List.length_zipWith, h.hlen, h'.hlen]; exact hN)
  have hN1 : N ≤ len := by omega
  have hN2 : N ≤ len' := by omega
  clear h h' b0 hN
  obtain ⟨Ra, Rb, Rc, Rd, Re, Rf⟩ := zR.facts
  go_enter Tryz.func10, Tryz.ntmps10
  go_wp2_with fail
  refine (Z0.out _).mono ?_
  rintro e w1 ⟨AE, nE, cE, xE, AG, nG, cG, xG, rfl, hn, hn', hb⟩
  have ba := below_alloc w1 (.cells #[.bool Fr.zero.s, .slice AE nE cE, .slice AG nG cG] 27)
  have zS : FrAt w1.heap.size Fr.zero AE nE cE AG nG cG xE xG (w1.alloc (.cells #[.bool Fr.zero.s, .slice AE nE cE, .slice AG nG cG] 27)) := FrAt.made hn hn' rfl
  have hg : w.heap.size < w1.heap.size := (zR.keep hb).lt
  have I0 := Lib.hid (DotInv.mk (S := sumFr ((List.zipWith Fr.mul L M).take 0)) ((zL.keep hb).keep ba) ((zM.keep hb).keep ba) ((zR.keep hb).keep ba) ⟨_, _, _, _, _, _, _, _, zS⟩ ((zB.trans (hb.mono zB.size)).trans (ba.mono ((zB.trans (hb.mono zB.size)).size))) hg)
  clear ba zS hg zL zM zR zB hb hn hn' Ra Rb Rc Rd Re Rf Z0
  go_wp2_with fail
  obtain ⟨W1, hv⟩ : ∃ W, (w1.alloc (.cells #[.bool Fr.zero.s, .slice AE nE cE, .slice AG nG cG] 27)) = W := ⟨_, rfl⟩
  obtain ⟨g, hg⟩ : ∃ g, w1.heap.size = g := ⟨_, rfl⟩
  rw [hv, hg] at I0 ⊢
  clear hv hg
  go_loopw [13] (fun i wr => ∃ k : Nat, k ≤ N ∧ i = .int .i64 k ∧ Hid (DotInv w g (some a) len cap L (some b) len' cap' M (sumFr ((List.zipWith Fr.mul L M).take k)) wr)) (fun i _ => N - (intOf i).toNat)
  case atStart => exact ⟨0, by omega, rfl, I0⟩
  case round =>
    clear I0
    obtain ⟨k, hk, rfl, hi⟩ := hrel
    obtain ⟨A1, n1, c1, B1, m1, d1, xs1, ys1, zS⟩ := hi.out.s
    rcases Nat.lt_or_ge k N with hlt | hge
    · have hk1 : k < len := by omega
      have hk2 : k < len' := by omega
      have hkL : k < L.length := by rw [hi.out.l.hlen]; omega
      have hkM : k < M.length := by rw [hi.out.m.hlen]; omega
      have hkZ : k < (List.zipWith Fr.mul L M).length := by rw [hZ.out]; exact hlt
      obtain ⟨eb, A2, n2, c2, B2, m2, d2, xs2, ys2, zE⟩ := hi.out.l.el a rfl k hkL
      obtain ⟨eb', A3, n3, c3, B3, m3, d3, xs3, ys3, zE'⟩ := hi.out.m.el b rfl k hkM
      have Ea : wr.drew.cell? _ = _ := zE.c0
      have Eb := zE.c1
      have Ec := zE.c2
      have Ua : wr.drew.cell? _ = _ := zE'.c0
      have Ub := zE'.c1
      have Uc := zE'.c2
      rw [show a.add (k * 3 + 1) = ⟨(a.add (k * 3)).block, (a.add (k * 3)).off + 1, none⟩ by rw [← Addr.add_add]; rfl] at Eb
      rw [show a.add (k * 3 + 2) = ⟨(a.add (k * 3)).block, (a.add (k * 3)).off + 2, none⟩ by rw [← Addr.add_add]; rfl] at Ec
      rw [show b.add (k * 3 + 1) = ⟨(b.add (k * 3)).block, (b.add (k * 3)).off + 1, none⟩ by rw [← Addr.add_add]; rfl] at Ub
      rw [show b.add (k * 3 + 2) = ⟨(b.add (k * 3)).block, (b.add (k * 3)).off + 2, none⟩ by rw [← Addr.add_add]; rfl] at Uc
      replace Eb : wr.drew.cell? _ = _ := Eb
      replace Ec : wr.drew.cell? _ = _ := Ec
      replace Ub : wr.drew.cell? _ = _ := Ub
      replace Uc : wr.drew.cell? _ = _ := Uc
      have bS : Bd (sumFr ((List.zipWith Fr.mul L M).take k)) 100 := (sumFr_bd (i := 4) (fun X hX => dot_bd hi.out.l.all hi.out.m.all X (List.mem_of_mem_take hX))).mono (by rw [List.length_take]; omega)
      have CM := opMul (eb.mono (j := 100) (by decide)) (eb'.mono (j := 100) (by decide)) rfl
      have CA := opAdd bS ((eb.mul eb').mono (j := 100) (by decide)) rfl
      have zx := zE.x.drew_
      have zy := zE.y.drew_
      have zu := zE'.x.drew_
      have zv := zE'.y.drew_
      have zx2 := zS.x.drew_
      have zy2 := zS.y.drew_
      have zSh := zS.h.drew
      obtain ⟨Sa, Sb, Sc, Sd, Se, Sf⟩ := zSh.facts
      have HI := hi
      have hne : (a.add (k * 3)).block ≠ g := by
        have h1 := hab0 (by omega)
        have h2 := hi.out.g_
        rw [add_block]
        omega
      have hne2 : (b.add (k * 3)).block ≠ g := by
        have h1 := hab0' (by omega)
        have h2 := hi.out.g_
        rw [add_block]
        omega
      clear bS eb eb'
      go_wp2_with fail
      refine wp_region_held_drew (S := (fun w' => w'.cell? (a.add (k * 3)) = some (.bool L[k].s) ∧ w'.cell? ⟨(a.add (k * 3)).block, (a.add (k * 3)).off + 1, none⟩ = some (.slice A2 n2 c2) ∧ w'.cell? ⟨(a.add (k * 3)).block, (a.add (k * 3)).off + 2, none⟩ = some (.slice B2 m2 d2) ∧ w'.cell? (b.add (k * 3)) = some (.bool M[k].s) ∧ w'.cell? ⟨(b.add (k * 3)).block, (b.add (k * 3)).off + 1, none⟩ = some (.slice A3 n3 c3) ∧ w'.cell? ⟨(b.add (k * 3)).block, (b.add (k * 3)).off + 2, none⟩ = some (.slice B3 m3 d3))) (by kernel_rfl) ⟨Ea, Eb, Ec, Ua, Ub, Uc⟩ (fun hHeld => ?_)
      refine wpAnyH_take (i := 1) (oi := { dst := some 17, op := Op.move (Operand.tmp 0), type := 22, pos := "arithmetic.go:93", after := #[], guard := none }) (v := ?_) rfl (by kernel_rfl) (by kernel_rfl) (by kernel_rfl) (fun _ _ _ h => h) (Or.inl ⟨by rfl, ?_⟩) (by assumption) ?_
      rotate_left
      · intro w hSw; (try dsimp only at hSw); go_simp; try with_reducible rfl
      (try simp only [Act.put, List.setIfInBounds_toArray, List.set_cons_zero, List.set_cons_succ])
      refine wpAnyH_take (i := 2) (oi := { dst := some 18, op := Op.move (Operand.tmp 6), type := 3, pos := "arithmetic.go:93", after := #[], guard := none }) (v := ?_) rfl (by kernel_rfl) (by kernel_rfl) (by kernel_rfl) (fun _ _ _ h => h) (Or.inl ⟨by rfl, ?_⟩) (by assumption) ?_
      rotate_left
      · intro w hSw; (try dsimp only at hSw); go_simp; try with_reducible rfl
      (try simp only [Act.put, List.setIfInBounds_toArray, List.set_cons_zero, List.set_cons_succ])
      refine wpAnyH_take (i := 3) (oi := { dst := some 19, op := Op.indexAddr 22 (Operand.tmp 17) (Operand.tmp 18), type := 0, pos := "arithmetic.go:93", after := #[{ on := 1, ground := Ground.data }, { on := 2, ground := Ground.data }], guard := none }) (v := ?_) rfl (by kernel_rfl) (by kernel_rfl) (by kernel_rfl) (fun _ _ _ h => h) (Or.inl ⟨by rfl, ?_⟩) (by assumption) ?_
      rotate_left
      · intro w hSw; (try dsimp only at hSw); go_simp; try with_reducible rfl
      (try simp only [Act.put, List.setIfInBounds_toArray, List.set_cons_zero, List.set_cons_succ])
      refine wpAnyH_take (i := 4) (oi := { dst := some 20, op := Op.load 27 (Operand.tmp 19), type := 27, pos := "arithmetic.go:93", after := #[{ on := 3, ground := Ground.data }], guard := none }) (v := ?_) rfl (by kernel_rfl) (by kernel_rfl) (by kernel_rfl) (fun _ _ _ h => h) (Or.inl ⟨by rfl, ?_⟩) (by assumption) ?_
      rotate_left
      · intro w hSw; (try dsimp only at hSw); go_simp; try with_reducible rfl
      (try simp only [Act.put, List.setIfInBounds_toArray, List.set_cons_zero, List.set_cons_succ])
      refine wpAnyH_take (i := 5) (oi := { dst := some 21, op := Op.move (Operand.tmp 1), type := 22, pos := "arithmetic.go:93", after := #[], guard := none }) (v := ?_) rfl (by kernel_rfl) (by kernel_rfl) (by kernel_rfl) (fun _ _ _ h => h) (Or.inl ⟨by rfl, ?_⟩) (by assumption) ?_
      rotate_left
      · intro w hSw; (try dsimp only at hSw); go_simp; try with_reducible rfl
      (try simp only [Act.put, List.setIfInBounds_toArray, List.set_cons_zero, List.set_cons_succ])
      refine wpAnyH_take (i := 6) (oi := { dst := some 22, op := Op.move (Operand.tmp 6), type := 3, pos := "arithmetic.go:93", after := #[], guard := none }) (v := ?_) rfl (by kernel_rfl) (by kernel_rfl) (by kernel_rfl) (fun _ _ _ h => h) (Or.inl ⟨by rfl, ?_⟩) (by assumption) ?_
      rotate_left
      · intro w hSw; (try dsimp only at hSw); go_simp; try with_reducible rfl
      (try simp only [Act.put, List.setIfInBounds_toArray, List.set_cons_zero, List.set_cons_succ])
      refine wpAnyH_take (i := 7) (oi := { dst := some 23, op := Op.indexAddr 22 (Operand.tmp 21) (Operand.tmp 22), type := 0, pos := "arithmetic.go:93", after := #[{ on := 5, ground := Ground.data }, { on := 6, ground := Ground.data }], guard := none }) (v := ?_) rfl (by kernel_rfl) (by kernel_rfl) (by kernel_rfl) (fun _ _ _ h => h) (Or.inl ⟨by rfl, ?_⟩) (by assumption) ?_
      rotate_left
      · intro w hSw; (try dsimp only at hSw); go_simp; try with_reducible rfl
      (try simp only [Act.put, List.setIfInBounds_toArray, List.set_cons_zero, List.set_cons_succ])
      refine wpAnyH_take (i := 8) (oi := { dst := some 24, op := Op.load 27 (Operand.tmp 23), type := 27, pos := "arithmetic.go:93", after := #[{ on := 7, ground := Ground.data }], guard := none }) (v := ?_) rfl (by kernel_rfl) (by kernel_rfl) (by kernel_rfl) (fun _ _ _ h => h) (Or.inl ⟨by rfl, ?_⟩) (by assumption) ?_
      rotate_left
      · intro w hSw; (try dsimp only at hSw); go_simp; try with_reducible rfl
      (try simp only [Act.put, List.setIfInBounds_toArray, List.set_cons_zero, List.set_cons_succ])
      refine wpAnyH_ready (rs := [0, 9]) (by kernel_rfl) (by simp) ?_
      refine AllReadyH.cons (o := { dst := some 16, op := Op.load 27 (Operand.tmp 5), type := 27, pos := "arithmetic.go:93", after := #[], guard := none }) rfl (fun K hK => ?_) (AllReadyH.cons (o := { dst := some 25, op := Op.call { callee := Callee.value (Operand.func 27), args := #[Operand.tmp 20, Operand.tmp 24], argTypes := #[27, 27] }, type := 27, pos := "arithmetic.go:93", after := #[{ on := 4, ground := Ground.data }, { on := 8, ground := Ground.data }], guard := none }) rfl (fun K hK => ?_) AllReadyH.nil)
      · go_simp
        refine hK.out _ _ ?_ (fun hHeld => ?_)
        · exact ⟨Ea, Eb, Ec, Ua, Ub, Uc⟩
        clear hK K
        (try simp only [Act.put, List.setIfInBounds_toArray, List.set_cons_zero, List.set_cons_succ])
        refine wpAnyH_ready (rs := [9]) (by kernel_rfl) (by simp) ?_
        refine AllReadyH.cons (o := { dst := some 25, op := Op.call { callee := Callee.value (Operand.func 27), args := #[Operand.tmp 20, Operand.tmp 24], argTypes := #[27, 27] }, type := 27, pos := "arithmetic.go:93", after := #[{ on := 4, ground := Ground.data }, { on := 8, ground := Ground.data }], guard := none }) rfl (fun K hK => ?_) AllReadyH.nil
        go_simp
        go_at_call 27
        with_reducible refine (Op2.call CM zx zy zu zv).mono ?_
        rintro e w2 ⟨AE, nE, cE, xE, AG, nG, cG, xG, rfl, hp, hp', hb⟩
        replace zSh := zSh.keep hb
        obtain ⟨Sa, Sb, Sc, Sd, Se, Sf⟩ := zSh.facts
        replace zx2 := zx2.keep hb
        replace zy2 := zy2.keep hb
        replace Ea := (Below.cell hb (World.block_lt_of_cell? _ _ Ea)).trans Ea
        replace Eb := (Below.cell hb (World.block_lt_of_cell? _ _ Eb)).trans Eb
        replace Ec := (Below.cell hb (World.block_lt_of_cell? _ _ Ec)).trans Ec
        replace Ua := (Below.cell hb (World.block_lt_of_cell? _ _ Ua)).trans Ua
        replace Ub := (Below.cell hb (World.block_lt_of_cell? _ _ Ub)).trans Ub
        replace Uc := (Below.cell hb (World.block_lt_of_cell? _ _ Uc)).trans Uc
        have zB1 : Below wr.heap.size wr w2 := (Below.refl wr.heap.size wr).drew.trans (show Below wr.heap.size wr.drew w2 from hb)
        clear hb
        refine hK.out _ _ ?_ (fun hHeld => ?_)
        · exact ⟨Ea, Eb, Ec, Ua, Ub, Uc⟩
        clear hK K
        (try simp only [Act.put, List.setIfInBounds_toArray, List.set_cons_zero, List.set_cons_succ])
        refine wpAnyH_ready (rs := [10]) (by kernel_rfl) (by simp) ?_
        refine AllReadyH.cons (o := { dst := some 26, op := Op.call { callee := Callee.value (Operand.func 20), args := #[Operand.tmp 16, Operand.tmp 25], argTypes := #[27, 27] }, type := 27, pos := "arithmetic.go:93", after := #[{ on := 0, ground := Ground.data }, { on := 9, ground := Ground.data }, { on := 9, ground := Ground.chain }], guard := none }) rfl (fun K hK => ?_) AllReadyH.nil
        go_simp
        go_at_call 20
        with_reducible refine (Op2.call CA zx2 zy2 hp hp').mono ?_
        rintro e wq ⟨AF, nF, cF, xF, AH, nH, cH, xH, rfl, hn, hn', hb⟩
        have zF := zSh.keep hb
        obtain ⟨Fa, Fb, Fc, Fd, Fe, Ff⟩ := zF.facts
        replace Ea := (Below.cell hb (World.block_lt_of_cell? _ _ Ea)).trans Ea
        replace Eb := (Below.cell hb (World.block_lt_of_cell? _ _ Eb)).trans Eb
        replace Ec := (Below.cell hb (World.block_lt_of_cell? _ _ Ec)).trans Ec
        replace Ua := (Below.cell hb (World.block_lt_of_cell? _ _ Ua)).trans Ua
        replace Ub := (Below.cell hb (World.block_lt_of_cell? _ _ Ub)).trans Ub
        replace Uc := (Below.cell hb (World.block_lt_of_cell? _ _ Uc)).trans Uc
        have zB : Below wr.heap.size wr wq := zB1.trans (hb.mono zB1.size)
        refine hK.out _ _ ?_ (fun hHeld => ?_)
        · exact ⟨Ea, Eb, Ec, Ua, Ub, Uc⟩
        clear hK K
        (try simp only [Act.put, List.setIfInBounds_toArray, List.set_cons_zero, List.set_cons_succ])
        refine wpAnyH_ready (rs := [11]) (by kernel_rfl) (by simp) ?_
        refine AllReadyH.cons (o := { dst := none, op := Op.store 27 (Operand.tmp 5) (Operand.tmp 26), type := 0, pos := "arithmetic.go:93", after := #[{ on := 10, ground := Ground.data }, { on := 10, ground := Ground.chain }, { on := 0, ground := Ground.phase }, { on := 1, ground := Ground.phase }, { on := 2, ground := Ground.phase }, { on := 3, ground := Ground.phase }, { on := 4, ground := Ground.phase }, { on := 5, ground := Ground.phase }, { on := 6, ground := Ground.phase }, { on := 7, ground := Ground.phase }, { on := 8, ground := Ground.phase }, { on := 9, ground := Ground.phase }, { on := 10, ground := Ground.phase }], guard := none }) rfl (fun K hK => ?_) AllReadyH.nil
        go_simp
        refine hK.out _ _ ?_ (fun hHeld => ?_)
        · exact ⟨st3_any hne Ea, st3_any hne Eb, st3_any hne Ec, st3_any hne2 Ua, st3_any hne2 Ub, st3_any hne2 Uc⟩
        clear hK K
        (try simp only [Act.put, List.setIfInBounds_toArray, List.set_cons_zero, List.set_cons_succ])
        refine wpAnyH_done (by kernel_rfl) ?_ _
        have zl := (HI.out.l.keep zB)
        have zm := (HI.out.m.keep zB)
        have zr := (HI.out.r.keep zB)
        have zb := HI.out.b.trans (zB.mono HI.out.b.size)
        have hgl := HI.out.g_
        have hab1 := hab0 (by omega)
        have hab2 := hab0' (by omega)
        have T := Lib.hid (DotInv.mk (S := sumFr ((List.zipWith Fr.mul L M).take (k + 1))) (zl.st (s := (Fr.add (sumFr ((List.zipWith Fr.mul L M).take k)) (Fr.mul L[k] M[k])).s) (E := AF) (e1 := nF) (e2 := cF) (G := AH) (e3 := nH) (e4 := cH) zF (by omega)) (zm.st zF (by omega)) (zr.off3 (grown_st _ _ _ _ _ _ _ _ _) (by omega)) ⟨AF, nF, cF, AH, nH, cH, xF, xH, by rw [sumFr_take hkZ, List.getElem_zipWith]; exact FrAt.fresh hn hn' zF⟩ (zb.trans (grown_below (grown_st _ _ _ _ _ _ _ _ _) (by omega) zb.size)) hgl)
        clear zl zm zr zb zB zB1 zF hn hn' hp hp' hb Ea Eb Ec Ua Ub Uc Sa Sb Sc Sd Se Sf Fa Fb Fc Fd Fe Ff hHeld zx zy zu zv zx2 zy2 zSh
        go_wp2
        go_roundw
        case rel => exact ⟨k + 1, by omega, by go_num, T⟩
        case measure => simp [intOf]; omega
      · go_simp
        go_at_call 27
        with_reducible refine (Op2.call CM zx zy zu zv).mono ?_
        rintro e w2 ⟨AE, nE, cE, xE, AG, nG, cG, xG, rfl, hp, hp', hb⟩
        replace zSh := zSh.keep hb
        obtain ⟨Sa, Sb, Sc, Sd, Se, Sf⟩ := zSh.facts
        replace zx2 := zx2.keep hb
        replace zy2 := zy2.keep hb
        replace Ea := (Below.cell hb (World.block_lt_of_cell? _ _ Ea)).trans Ea
        replace Eb := (Below.cell hb (World.block_lt_of_cell? _ _ Eb)).trans Eb
        replace Ec := (Below.cell hb (World.block_lt_of_cell? _ _ Ec)).trans Ec
        replace Ua := (Below.cell hb (World.block_lt_of_cell? _ _ Ua)).trans Ua
        replace Ub := (Below.cell hb (World.block_lt_of_cell? _ _ Ub)).trans Ub
        replace Uc := (Below.cell hb (World.block_lt_of_cell? _ _ Uc)).trans Uc
        have zB1 : Below wr.heap.size wr w2 := (Below.refl wr.heap.size wr).drew.trans (show Below wr.heap.size wr.drew w2 from hb)
        clear hb
        refine hK.out _ _ ?_ (fun hHeld => ?_)
        · exact ⟨Ea, Eb, Ec, Ua, Ub, Uc⟩
        clear hK K
        (try simp only [Act.put, List.setIfInBounds_toArray, List.set_cons_zero, List.set_cons_succ])
        refine wpAnyH_ready (rs := [0]) (by kernel_rfl) (by simp) ?_
        refine AllReadyH.cons (o := { dst := some 16, op := Op.load 27 (Operand.tmp 5), type := 27, pos := "arithmetic.go:93", after := #[], guard := none }) rfl (fun K hK => ?_) AllReadyH.nil
        go_simp
        refine hK.out _ _ ?_ (fun hHeld => ?_)
        · exact ⟨Ea, Eb, Ec, Ua, Ub, Uc⟩
        clear hK K
        (try simp only [Act.put, List.setIfInBounds_toArray, List.set_cons_zero, List.set_cons_succ])
        refine wpAnyH_ready (rs := [10]) (by kernel_rfl) (by simp) ?_
        refine AllReadyH.cons (o := { dst := some 26, op := Op.call { callee := Callee.value (Operand.func 20), args := #[Operand.tmp 16, Operand.tmp 25], argTypes := #[27, 27] }, type := 27, pos := "arithmetic.go:93", after := #[{ on := 0, ground := Ground.data }, { on := 9, ground := Ground.data }, { on := 9, ground := Ground.chain }], guard := none }) rfl (fun K hK => ?_) AllReadyH.nil
        go_simp
        go_at_call 20
        with_reducible refine (Op2.call CA zx2 zy2 hp hp').mono ?_
        rintro e wq ⟨AF, nF, cF, xF, AH, nH, cH, xH, rfl, hn, hn', hb⟩
        have zF := zSh.keep hb
        obtain ⟨Fa, Fb, Fc, Fd, Fe, Ff⟩ := zF.facts
        replace Ea := (Below.cell hb (World.block_lt_of_cell? _ _ Ea)).trans Ea
        replace Eb := (Below.cell hb (World.block_lt_of_cell? _ _ Eb)).trans Eb
        replace Ec := (Below.cell hb (World.block_lt_of_cell? _ _ Ec)).trans Ec
        replace Ua := (Below.cell hb (World.block_lt_of_cell? _ _ Ua)).trans Ua
        replace Ub := (Below.cell hb (World.block_lt_of_cell? _ _ Ub)).trans Ub
        replace Uc := (Below.cell hb (World.block_lt_of_cell? _ _ Uc)).trans Uc
        have zB : Below wr.heap.size wr wq := zB1.trans (hb.mono zB1.size)
        refine hK.out _ _ ?_ (fun hHeld => ?_)
        · exact ⟨Ea, Eb, Ec, Ua, Ub, Uc⟩
        clear hK K
        (try simp only [Act.put, List.setIfInBounds_toArray, List.set_cons_zero, List.set_cons_succ])
        refine wpAnyH_ready (rs := [11]) (by kernel_rfl) (by simp) ?_
        refine AllReadyH.cons (o := { dst := none, op := Op.store 27 (Operand.tmp 5) (Operand.tmp 26), type := 0, pos := "arithmetic.go:93", after := #[{ on := 10, ground := Ground.data }, { on := 10, ground := Ground.chain }, { on := 0, ground := Ground.phase }, { on := 1, ground := Ground.phase }, { on := 2, ground := Ground.phase }, { on := 3, ground := Ground.phase }, { on := 4, ground := Ground.phase }, { on := 5, ground := Ground.phase }, { on := 6, ground := Ground.phase }, { on := 7, ground := Ground.phase }, { on := 8, ground := Ground.phase }, { on := 9, ground := Ground.phase }, { on := 10, ground := Ground.phase }], guard := none }) rfl (fun K hK => ?_) AllReadyH.nil
        go_simp
        refine hK.out _ _ ?_ (fun hHeld => ?_)
        · exact ⟨st3_any hne Ea, st3_any hne Eb, st3_any hne Ec, st3_any hne2 Ua, st3_any hne2 Ub, st3_any hne2 Uc⟩
        clear hK K
        (try simp only [Act.put, List.setIfInBounds_toArray, List.set_cons_zero, List.set_cons_succ])
        refine wpAnyH_done (by kernel_rfl) ?_ _
        have zl := (HI.out.l.keep zB)
        have zm := (HI.out.m.keep zB)
        have zr := (HI.out.r.keep zB)
        have zb := HI.out.b.trans (zB.mono HI.out.b.size)
        have hgl := HI.out.g_
        have hab1 := hab0 (by omega)
        have hab2 := hab0' (by omega)
        have T := Lib.hid (DotInv.mk (S := sumFr ((List.zipWith Fr.mul L M).take (k + 1))) (zl.st (s := (Fr.add (sumFr ((List.zipWith Fr.mul L M).take k)) (Fr.mul L[k] M[k])).s) (E := AF) (e1 := nF) (e2 := cF) (G := AH) (e3 := nH) (e4 := cH) zF (by omega)) (zm.st zF (by omega)) (zr.off3 (grown_st _ _ _ _ _ _ _ _ _) (by omega)) ⟨AF, nF, cF, AH, nH, cH, xF, xH, by rw [sumFr_take hkZ, List.getElem_zipWith]; exact FrAt.fresh hn hn' zF⟩ (zb.trans (grown_below (grown_st _ _ _ _ _ _ _ _ _) (by omega) zb.size)) hgl)
        clear zl zm zr zb zB zB1 zF hn hn' hp hp' hb Ea Eb Ec Ua Ub Uc Sa Sb Sc Sd Se Sf Fa Fb Fc Fd Fe Ff hHeld zx zy zu zv zx2 zy2 zSh
        go_wp2
        go_roundw
        case rel => exact ⟨k + 1, by omega, by go_num, T⟩
        case measure => simp [intOf]; omega
    · obtain rfl : k = N := by omega
      have hT : sumFr ((List.zipWith Fr.mul L M).take k) = dotFr L M := by
        unfold dotFr
        rw [List.take_of_length_le (by rw [hZ.out]; exact Nat.le_refl _)]
      have zR := hi.out.r
      obtain ⟨Ra, Rb, Rc, Rd, Re, Rf⟩ := zR.facts
      have hgl := hi.out.g_
      have hz := zS.h.lt
      have BB := Lib.hid hi.out.b
      clear hi
      rw [hT] at zS
      obtain ⟨Sa, Sb, Sc, Sd, Se, Sf⟩ := zS.h.facts
      go_wp2
      refine bodyPost_ret (v := .agg #[.bool (dotFr L M).s, .slice A1 n1 c1, .slice B1 m1 d1]) (by simp [results, Tryz.results10, go_sem, Ra, Rb, Rc]) rfl ?_
      exact giveFr (t := dotFr L M) BB.out (Nat.le_refl _) zR zS.x zS.y
end Go.Proofs.YtebfnbnaheolgaaGreatDoor
namespace Go.Proofs.YtebfnbnaheolgaaGreatDoor
open Go.RowKit
theorem opRMul {X Y T : Fr} (h : Bd X 100) (k : Bd Y 100) (hT : Fr.mul X Y = T) : Hid (Op2 28 X Y T) :=
  Lib.hid fun W A A' B B' n c m d n' c' m' d' xs ys xs' ys' a b a' b' => rmulFr_s X.s Y.s A B A' B' n c m d n' c' m' d' X.p X.q Y.p Y.q 100 xs ys xs' ys' W a b a' b' h.p h.q k.p k.q (by decide) h.ok.1 k.ok.1 T hT
set_option maxRecDepth 100000 in
set_option maxHeartbeats 4000000 in
theorem rdot_any (a b : Addr) (len cap len' cap' : Nat) (L M : List Fr) (w : World) (h : Frs (some a) len cap L 2 w) (h' : Frs (some b) len' cap' M 2 w) (hl : len ≤ 5) (hl' : len' ≤ 5) (N : Nat) (hN : min len len' = N) :
    Calls Tryz.prog 11 #[.slice (some a) len cap, .slice (some b) len' cap'] w (GivesFr (dotFr L M) w) := by
  have b0 := below_alloc w (.cells #[.bool false, .slice none 0 0, .slice none 0 0] 27)
  have zL := h.keep b0
  have zM := h'.keep b0
  have zR := FB.new w false none 0 0 none 0 0
  have zB := b0
  have Z0 := opZero
  have hcap := h.hcap
  have hcap' := h'.hcap
  have hab0 := h.block
  have hab0' := h'.block
  have _hmin : (if (len' : Int) < (len : Int) then (len' : Int) else (len : Int)) = (N : Int) := by
    rw [← hN]
    rcases Nat.lt_or_ge len' len with x | x
    · rw [if_pos (by omega), Nat.min_eq_right (by omega)]
    · rw [if_neg (by omega), Nat.min_eq_left x]
  have hZ : Hid ((List.zipWith Fr.mul L M).length = N) := Lib.hid (by rw [List.length_zipWith, h.hlen, h'.hlen]; exact hN)
  have hN1 : N ≤ len := by omega
  have hN2 : N ≤ len' := by omega
  clear h h' b0 hN
  obtain ⟨Ra, Rb, Rc, Rd, Re, Rf⟩ := zR.facts
  go_enter Tryz.func11, Tryz.ntmps11
  go_wp2_with fail
  refine (Z0.out _).mono ?_
  rintro e w1 ⟨AE, nE, cE, xE, AG, nG, cG, xG, rfl, hn, hn', hb⟩
  have ba := below_alloc w1 (.cells #[.bool Fr.zero.s, .slice AE nE cE, .slice AG nG cG] 27)
  have zS : FrAt w1.heap.size Fr.zero AE nE cE AG nG cG xE xG (w1.alloc (.cells #[.bool Fr.zero.s, .slice AE nE cE, .slice AG nG cG] 27)) := FrAt.made hn hn' rfl
  have hg : w.heap.size < w1.heap.size := (zR.keep hb).lt
  have I0 := Lib.hid (DotInv.mk (S := sumFr ((List.zipWith Fr.mul L M).take 0)) ((zL.keep hb).keep ba) ((zM.keep hb).keep ba) ((zR.keep hb).keep ba) ⟨_, _, _, _, _, _, _, _, zS⟩ ((zB.trans (hb.mono zB.size)).trans (ba.mono ((zB.trans (hb.mono zB.size)).size))) hg)
  clear ba zS hg zL zM zR zB hb hn hn' Ra Rb Rc Rd Re Rf Z0
  go_wp2_with fail
  obtain ⟨W1, hv⟩ : ∃ W, (w1.alloc (.cells #[.bool Fr.zero.s, .slice AE nE cE, .slice AG nG cG] 27)) = W := ⟨_, rfl⟩
  obtain ⟨g, hg⟩ : ∃ g, w1.heap.size = g := ⟨_, rfl⟩
  rw [hv, hg] at I0 ⊢
  clear hv hg
  go_loopw [6] (fun i wr => ∃ k : Nat, k ≤ N ∧ i = .int .i64 k ∧ Hid (DotInv w g (some a) len cap L (some b) len' cap' M (sumFr ((List.zipWith Fr.mul L M).take k)) wr)) (fun i _ => N - (intOf i).toNat)
  case atStart => exact ⟨0, by omega, rfl, I0⟩
  case round =>
    clear I0
    obtain ⟨k, hk, rfl, hi⟩ := hrel
    obtain ⟨A1, n1, c1, B1, m1, d1, xs1, ys1, zS⟩ := hi.out.s
    rcases Nat.lt_or_ge k N with hlt | hge
    · have hk1 : k < len := by omega
      have hk2 : k < len' := by omega
      have hkL : k < L.length := by rw [hi.out.l.hlen]; omega
      have hkM : k < M.length := by rw [hi.out.m.hlen]; omega
      have hkZ : k < (List.zipWith Fr.mul L M).length := by rw [hZ.out]; exact hlt
      obtain ⟨eb, A2, n2, c2, B2, m2, d2, xs2, ys2, zE⟩ := hi.out.l.el a rfl k hkL
      obtain ⟨eb', A3, n3, c3, B3, m3, d3, xs3, ys3, zE'⟩ := hi.out.m.el b rfl k hkM
      have Ea : wr.drew.cell? _ = _ := zE.c0
      have Eb := zE.c1
      have Ec := zE.c2
      have Ua : wr.drew.cell? _ = _ := zE'.c0
      have Ub := zE'.c1
      have Uc := zE'.c2
      rw [show a.add (k * 3 + 1) = ⟨(a.add (k * 3)).block, (a.add (k * 3)).off + 1, none⟩ by rw [← Addr.add_add]; rfl] at Eb
      rw [show a.add (k * 3 + 2) = ⟨(a.add (k * 3)).block, (a.add (k * 3)).off + 2, none⟩ by rw [← Addr.add_add]; rfl] at Ec
      rw [show b.add (k * 3 + 1) = ⟨(b.add (k * 3)).block, (b.add (k * 3)).off + 1, none⟩ by rw [← Addr.add_add]; rfl] at Ub
      rw [show b.add (k * 3 + 2) = ⟨(b.add (k * 3)).block, (b.add (k * 3)).off + 2, none⟩ by rw [← Addr.add_add]; rfl] at Uc
      replace Eb : wr.drew.cell? _ = _ := Eb
      replace Ec : wr.drew.cell? _ = _ := Ec
      replace Ub : wr.drew.cell? _ = _ := Ub
      replace Uc : wr.drew.cell? _ = _ := Uc
      have bS : Bd (sumFr ((List.zipWith Fr.mul L M).take k)) 100 := (sumFr_bd (i := 4) (fun X hX => dot_bd hi.out.l.all hi.out.m.all X (List.mem_of_mem_take hX))).mono (by rw [List.length_take]; omega)
      have CM := opRMul (eb.mono (j := 100) (by decide)) (eb'.mono (j := 100) (by decide)) rfl
      have CA := opRAdd bS ((eb.mul eb').mono (j := 100) (by decide))
      have zx := zE.x.drew_
      have zy := zE.y.drew_
      have zu := zE'.x.drew_
      have zv := zE'.y.drew_
      have zx2 := zS.x.drew_
      have zy2 := zS.y.drew_
      have zSh := zS.h.drew
      obtain ⟨Sa, Sb, Sc, Sd, Se, Sf⟩ := zSh.facts
      have HI := hi
      have hne : (a.add (k * 3)).block ≠ g := by
        have h1 := hab0 (by omega)
        have h2 := hi.out.g_
        rw [add_block]
        omega
      have hne2 : (b.add (k * 3)).block ≠ g := by
        have h1 := hab0' (by omega)
        have h2 := hi.out.g_
        rw [add_block]
        omega
      clear bS eb eb'
      go_wp2_with fail
      refine wp_region_held_drew (S := (fun w' => w'.cell? (a.add (k * 3)) = some (.bool L[k].s) ∧ w'.cell? ⟨(a.add (k * 3)).block, (a.add (k * 3)).off + 1, none⟩ = some (.slice A2 n2 c2) ∧ w'.cell? ⟨(a.add (k * 3)).block, (a.add (k * 3)).off + 2, none⟩ = some (.slice B2 m2 d2) ∧ w'.cell? (b.add (k * 3)) = some (.bool M[k].s) ∧ w'.cell? ⟨(b.add (k * 3)).block, (b.add (k * 3)).off + 1, none⟩ = some (.slice A3 n3 c3) ∧ w'.cell? ⟨(b.add (k * 3)).block, (b.add (k * 3)).off + 2, none⟩ = some (.slice B3 m3 d3))) (by kernel_rfl) ⟨Ea, Eb, Ec, Ua, Ub, Uc⟩ (fun hHeld => ?_)
      refine wpAnyH_take (i := 1) (oi := { dst := some 21, op := Op.move (Operand.tmp 0), type := 22, pos := "ref.go:147", after := #[], guard := none }) (v := ?_) rfl (by kernel_rfl) (by kernel_rfl) (by kernel_rfl) (fun _ _ _ h => h) (Or.inl ⟨by rfl, ?_⟩) (by assumption) ?_
      rotate_left
      · intro w hSw; (try dsimp only at hSw); go_simp; try with_reducible rfl
      (try simp only [Act.put, List.setIfInBounds_toArray, List.set_cons_zero, List.set_cons_succ])
      refine wpAnyH_take (i := 2) (oi := { dst := some 22, op := Op.move (Operand.tmp 6), type := 3, pos := "ref.go:147", after := #[], guard := none }) (v := ?_) rfl (by kernel_rfl) (by kernel_rfl) (by kernel_rfl) (fun _ _ _ h => h) (Or.inl ⟨by rfl, ?_⟩) (by assumption) ?_
      rotate_left
      · intro w hSw; (try dsimp only at hSw); go_simp; try with_reducible rfl
      (try simp only [Act.put, List.setIfInBounds_toArray, List.set_cons_zero, List.set_cons_succ])
      refine wpAnyH_take (i := 3) (oi := { dst := some 23, op := Op.indexAddr 22 (Operand.tmp 21) (Operand.tmp 22), type := 0, pos := "ref.go:147", after := #[{ on := 1, ground := Ground.data }, { on := 2, ground := Ground.data }], guard := none }) (v := ?_) rfl (by kernel_rfl) (by kernel_rfl) (by kernel_rfl) (fun _ _ _ h => h) (Or.inl ⟨by rfl, ?_⟩) (by assumption) ?_
      rotate_left
      · intro w hSw; (try dsimp only at hSw); go_simp; try with_reducible rfl
      (try simp only [Act.put, List.setIfInBounds_toArray, List.set_cons_zero, List.set_cons_succ])
      refine wpAnyH_take (i := 4) (oi := { dst := some 24, op := Op.load 27 (Operand.tmp 23), type := 27, pos := "ref.go:147", after := #[{ on := 3, ground := Ground.data }], guard := none }) (v := ?_) rfl (by kernel_rfl) (by kernel_rfl) (by kernel_rfl) (fun _ _ _ h => h) (Or.inl ⟨by rfl, ?_⟩) (by assumption) ?_
      rotate_left
      · intro w hSw; (try dsimp only at hSw); go_simp; try with_reducible rfl
      (try simp only [Act.put, List.setIfInBounds_toArray, List.set_cons_zero, List.set_cons_succ])
      refine wpAnyH_take (i := 5) (oi := { dst := some 25, op := Op.move (Operand.tmp 1), type := 22, pos := "ref.go:147", after := #[], guard := none }) (v := ?_) rfl (by kernel_rfl) (by kernel_rfl) (by kernel_rfl) (fun _ _ _ h => h) (Or.inl ⟨by rfl, ?_⟩) (by assumption) ?_
      rotate_left
      · intro w hSw; (try dsimp only at hSw); go_simp; try with_reducible rfl
      (try simp only [Act.put, List.setIfInBounds_toArray, List.set_cons_zero, List.set_cons_succ])
      refine wpAnyH_take (i := 6) (oi := { dst := some 26, op := Op.move (Operand.tmp 6), type := 3, pos := "ref.go:147", after := #[], guard := none }) (v := ?_) rfl (by kernel_rfl) (by kernel_rfl) (by kernel_rfl) (fun _ _ _ h => h) (Or.inl ⟨by rfl, ?_⟩) (by assumption) ?_
      rotate_left
      · intro w hSw; (try dsimp only at hSw); go_simp; try with_reducible rfl
      (try simp only [Act.put, List.setIfInBounds_toArray, List.set_cons_zero, List.set_cons_succ])
      refine wpAnyH_take (i := 7) (oi := { dst := some 27, op := Op.indexAddr 22 (Operand.tmp 25) (Operand.tmp 26), type := 0, pos := "ref.go:147", after := #[{ on := 5, ground := Ground.data }, { on := 6, ground := Ground.data }], guard := none }) (v := ?_) rfl (by kernel_rfl) (by kernel_rfl) (by kernel_rfl) (fun _ _ _ h => h) (Or.inl ⟨by rfl, ?_⟩) (by assumption) ?_
      rotate_left
      · intro w hSw; (try dsimp only at hSw); go_simp; try with_reducible rfl
      (try simp only [Act.put, List.setIfInBounds_toArray, List.set_cons_zero, List.set_cons_succ])
      refine wpAnyH_take (i := 8) (oi := { dst := some 28, op := Op.load 27 (Operand.tmp 27), type := 27, pos := "ref.go:147", after := #[{ on := 7, ground := Ground.data }], guard := none }) (v := ?_) rfl (by kernel_rfl) (by kernel_rfl) (by kernel_rfl) (fun _ _ _ h => h) (Or.inl ⟨by rfl, ?_⟩) (by assumption) ?_
      rotate_left
      · intro w hSw; (try dsimp only at hSw); go_simp; try with_reducible rfl
      (try simp only [Act.put, List.setIfInBounds_toArray, List.set_cons_zero, List.set_cons_succ])
      refine wpAnyH_ready (rs := [0, 9]) (by kernel_rfl) (by simp) ?_
      refine AllReadyH.cons (o := { dst := some 20, op := Op.load 27 (Operand.tmp 5), type := 27, pos := "ref.go:147", after := #[], guard := none }) rfl (fun K hK => ?_) (AllReadyH.cons (o := { dst := some 29, op := Op.call { callee := Callee.value (Operand.func 28), args := #[Operand.tmp 24, Operand.tmp 28], argTypes := #[27, 27] }, type := 27, pos := "ref.go:147", after := #[{ on := 4, ground := Ground.data }, { on := 8, ground := Ground.data }], guard := none }) rfl (fun K hK => ?_) AllReadyH.nil)
      · go_simp
        refine hK.out _ _ ?_ (fun hHeld => ?_)
        · exact ⟨Ea, Eb, Ec, Ua, Ub, Uc⟩
        clear hK K
        (try simp only [Act.put, List.setIfInBounds_toArray, List.set_cons_zero, List.set_cons_succ])
        refine wpAnyH_ready (rs := [9]) (by kernel_rfl) (by simp) ?_
        refine AllReadyH.cons (o := { dst := some 29, op := Op.call { callee := Callee.value (Operand.func 28), args := #[Operand.tmp 24, Operand.tmp 28], argTypes := #[27, 27] }, type := 27, pos := "ref.go:147", after := #[{ on := 4, ground := Ground.data }, { on := 8, ground := Ground.data }], guard := none }) rfl (fun K hK => ?_) AllReadyH.nil
        go_simp
        go_at_call 28
        with_reducible refine (Op2.call CM zx zy zu zv).mono ?_
        rintro e w2 ⟨AE, nE, cE, xE, AG, nG, cG, xG, rfl, hp, hp', hb⟩
        replace zSh := zSh.keep hb
        obtain ⟨Sa, Sb, Sc, Sd, Se, Sf⟩ := zSh.facts
        replace zx2 := zx2.keep hb
        replace zy2 := zy2.keep hb
        replace Ea := (Below.cell hb (World.block_lt_of_cell? _ _ Ea)).trans Ea
        replace Eb := (Below.cell hb (World.block_lt_of_cell? _ _ Eb)).trans Eb
        replace Ec := (Below.cell hb (World.block_lt_of_cell? _ _ Ec)).trans Ec
        replace Ua := (Below.cell hb (World.block_lt_of_cell? _ _ Ua)).trans Ua
        replace Ub := (Below.cell hb (World.block_lt_of_cell? _ _ Ub)).trans Ub
        replace Uc := (Below.cell hb (World.block_lt_of_cell? _ _ Uc)).trans Uc
        have zB1 : Below wr.heap.size wr w2 := (Below.refl wr.heap.size wr).drew.trans (show Below wr.heap.size wr.drew w2 from hb)
        clear hb
        refine hK.out _ _ ?_ (fun hHeld => ?_)
        · exact ⟨Ea, Eb, Ec, Ua, Ub, Uc⟩
        clear hK K
        (try simp only [Act.put, List.setIfInBounds_toArray, List.set_cons_zero, List.set_cons_succ])
        refine wpAnyH_ready (rs := [10]) (by kernel_rfl) (by simp) ?_
        refine AllReadyH.cons (o := { dst := some 30, op := Op.call { callee := Callee.value (Operand.func 26), args := #[Operand.tmp 20, Operand.tmp 29], argTypes := #[27, 27] }, type := 27, pos := "ref.go:147", after := #[{ on := 0, ground := Ground.data }, { on := 9, ground := Ground.data }, { on := 9, ground := Ground.chain }], guard := none }) rfl (fun K hK => ?_) AllReadyH.nil
        go_simp
        go_at_call 26
        with_reducible refine (Op2.call CA zx2 zy2 hp hp').mono ?_
        rintro e wq ⟨AF, nF, cF, xF, AH, nH, cH, xH, rfl, hn, hn', hb⟩
        have zF := zSh.keep hb
        obtain ⟨Fa, Fb, Fc, Fd, Fe, Ff⟩ := zF.facts
        replace Ea := (Below.cell hb (World.block_lt_of_cell? _ _ Ea)).trans Ea
        replace Eb := (Below.cell hb (World.block_lt_of_cell? _ _ Eb)).trans Eb
        replace Ec := (Below.cell hb (World.block_lt_of_cell? _ _ Ec)).trans Ec
        replace Ua := (Below.cell hb (World.block_lt_of_cell? _ _ Ua)).trans Ua
        replace Ub := (Below.cell hb (World.block_lt_of_cell? _ _ Ub)).trans Ub
        replace Uc := (Below.cell hb (World.block_lt_of_cell? _ _ Uc)).trans Uc
        have zB : Below wr.heap.size wr wq := zB1.trans (hb.mono zB1.size)
        refine hK.out _ _ ?_ (fun hHeld => ?_)
        · exact ⟨Ea, Eb, Ec, Ua, Ub, Uc⟩
        clear hK K
        (try simp only [Act.put, List.setIfInBounds_toArray, List.set_cons_zero, List.set_cons_succ])
        refine wpAnyH_ready (rs := [11]) (by kernel_rfl) (by simp) ?_
        refine AllReadyH.cons (o := { dst := none, op := Op.store 27 (Operand.tmp 5) (Operand.tmp 30), type := 0, pos := "ref.go:147", after := #[{ on := 10, ground := Ground.data }, { on := 10, ground := Ground.chain }, { on := 0, ground := Ground.phase }, { on := 1, ground := Ground.phase }, { on := 2, ground := Ground.phase }, { on := 3, ground := Ground.phase }, { on := 4, ground := Ground.phase }, { on := 5, ground := Ground.phase }, { on := 6, ground := Ground.phase }, { on := 7, ground := Ground.phase }, { on := 8, ground := Ground.phase }, { on := 9, ground := Ground.phase }, { on := 10, ground := Ground.phase }], guard := none }) rfl (fun K hK => ?_) AllReadyH.nil
        go_simp
        refine hK.out _ _ ?_ (fun hHeld => ?_)
        · exact ⟨st3_any hne Ea, st3_any hne Eb, st3_any hne Ec, st3_any hne2 Ua, st3_any hne2 Ub, st3_any hne2 Uc⟩
        clear hK K
        (try simp only [Act.put, List.setIfInBounds_toArray, List.set_cons_zero, List.set_cons_succ])
        refine wpAnyH_done (by kernel_rfl) ?_ _
        have zl := (HI.out.l.keep zB)
        have zm := (HI.out.m.keep zB)
        have zr := (HI.out.r.keep zB)
        have zb := HI.out.b.trans (zB.mono HI.out.b.size)
        have hgl := HI.out.g_
        have hab1 := hab0 (by omega)
        have hab2 := hab0' (by omega)
        have T := Lib.hid (DotInv.mk (S := sumFr ((List.zipWith Fr.mul L M).take (k + 1))) (zl.st (s := (Fr.add (sumFr ((List.zipWith Fr.mul L M).take k)) (Fr.mul L[k] M[k])).s) (E := AF) (e1 := nF) (e2 := cF) (G := AH) (e3 := nH) (e4 := cH) zF (by omega)) (zm.st zF (by omega)) (zr.off3 (grown_st _ _ _ _ _ _ _ _ _) (by omega)) ⟨AF, nF, cF, AH, nH, cH, xF, xH, by rw [sumFr_take hkZ, List.getElem_zipWith]; exact FrAt.fresh hn hn' zF⟩ (zb.trans (grown_below (grown_st _ _ _ _ _ _ _ _ _) (by omega) zb.size)) hgl)
        clear zl zm zr zb zB zB1 zF hn hn' hp hp' hb Ea Eb Ec Ua Ub Uc Sa Sb Sc Sd Se Sf Fa Fb Fc Fd Fe Ff hHeld zx zy zu zv zx2 zy2 zSh
        go_wp2
        go_roundw
        case rel => exact ⟨k + 1, by omega, by go_num, T⟩
        case measure => simp [intOf]; omega
      · go_simp
        go_at_call 28
        with_reducible refine (Op2.call CM zx zy zu zv).mono ?_
        rintro e w2 ⟨AE, nE, cE, xE, AG, nG, cG, xG, rfl, hp, hp', hb⟩
        replace zSh := zSh.keep hb
        obtain ⟨Sa, Sb, Sc, Sd, Se, Sf⟩ := zSh.facts
        replace zx2 := zx2.keep hb
        replace zy2 := zy2.keep hb
        replace Ea := (Below.cell hb (World.block_lt_of_cell? _ _ Ea)).trans Ea
        replace Eb := (Below.cell hb (World.block_lt_of_cell? _ _ Eb)).trans Eb
        replace Ec := (Below.cell hb (World.block_lt_of_cell? _ _ Ec)).trans Ec
        replace Ua := (Below.cell hb (World.block_lt_of_cell? _ _ Ua)).trans Ua
        replace Ub := (Below.cell hb (World.block_lt_of_cell? _ _ Ub)).trans Ub
        replace Uc := (Below.cell hb (World.block_lt_of_cell? _ _ Uc)).trans Uc
        have zB1 : Below wr.heap.size wr w2 := (Below.refl wr.heap.size wr).drew.trans (show Below wr.heap.size wr.drew w2 from hb)
        clear hb
        refine hK.out _ _ ?_ (fun hHeld => ?_)
        · exact ⟨Ea, Eb, Ec, Ua, Ub, Uc⟩
        clear hK K
        (try simp only [Act.put, List.setIfInBounds_toArray, List.set_cons_zero, List.set_cons_succ])
        refine wpAnyH_ready (rs := [0]) (by kernel_rfl) (by simp) ?_
        refine AllReadyH.cons (o := { dst := some 20, op := Op.load 27 (Operand.tmp 5), type := 27, pos := "ref.go:147", after := #[], guard := none }) rfl (fun K hK => ?_) AllReadyH.nil
        go_simp
        refine hK.out _ _ ?_ (fun hHeld => ?_)
        · exact ⟨Ea, Eb, Ec, Ua, Ub, Uc⟩
        clear hK K
        (try simp only [Act.put, List.setIfInBounds_toArray, List.set_cons_zero, List.set_cons_succ])
        refine wpAnyH_ready (rs := [10]) (by kernel_rfl) (by simp) ?_
        refine AllReadyH.cons (o := { dst := some 30, op := Op.call { callee := Callee.value (Operand.func 26), args := #[Operand.tmp 20, Operand.tmp 29], argTypes := #[27, 27] }, type := 27, pos := "ref.go:147", after := #[{ on := 0, ground := Ground.data }, { on := 9, ground := Ground.data }, { on := 9, ground := Ground.chain }], guard := none }) rfl (fun K hK => ?_) AllReadyH.nil
        go_simp
        go_at_call 26
        with_reducible refine (Op2.call CA zx2 zy2 hp hp').mono ?_
        rintro e wq ⟨AF, nF, cF, xF, AH, nH, cH, xH, rfl, hn, hn', hb⟩
        have zF := zSh.keep hb
        obtain ⟨Fa, Fb, Fc, Fd, Fe, Ff⟩ := zF.facts
        replace Ea := (Below.cell hb (World.block_lt_of_cell? _ _ Ea)).trans Ea
        replace Eb := (Below.cell hb (World.block_lt_of_cell? _ _ Eb)).trans Eb
        replace Ec := (Below.cell hb (World.block_lt_of_cell? _ _ Ec)).trans Ec
        replace Ua := (Below.cell hb (World.block_lt_of_cell? _ _ Ua)).trans Ua
        replace Ub := (Below.cell hb (World.block_lt_of_cell? _ _ Ub)).trans Ub
        replace Uc := (Below.cell hb (World.block_lt_of_cell? _ _ Uc)).trans Uc
        have zB : Below wr.heap.size wr wq := zB1.trans (hb.mono zB1.size)
        refine hK.out _ _ ?_ (fun hHeld => ?_)
        · exact ⟨Ea, Eb, Ec, Ua, Ub, Uc⟩
        clear hK K
        (try simp only [Act.put, List.setIfInBounds_toArray, List.set_cons_zero, List.set_cons_succ])
        refine wpAnyH_ready (rs := [11]) (by kernel_rfl) (by simp) ?_
        refine AllReadyH.cons (o := { dst := none, op := Op.store 27 (Operand.tmp 5) (Operand.tmp 30), type := 0, pos := "ref.go:147", after := #[{ on := 10, ground := Ground.data }, { on := 10, ground := Ground.chain }, { on := 0, ground := Ground.phase }, { on := 1, ground := Ground.phase }, { on := 2, ground := Ground.phase }, { on := 3, ground := Ground.phase }, { on := 4, ground := Ground.phase }, { on := 5, ground := Ground.phase }, { on := 6, ground := Ground.phase }, { on := 7, ground := Ground.phase }, { on := 8, ground := Ground.phase }, { on := 9, ground := Ground.phase }, { on := 10, ground := Ground.phase }], guard := none }) rfl (fun K hK => ?_) AllReadyH.nil
        go_simp
        refine hK.out _ _ ?_ (fun hHeld => ?_)
        · exact ⟨st3_any hne Ea, st3_any hne Eb, st3_any hne Ec, st3_any hne2 Ua, st3_any hne2 Ub, st3_any hne2 Uc⟩
        clear hK K
        (try simp only [Act.put, List.setIfInBounds_toArray, List.set_cons_zero, List.set_cons_succ])
        refine wpAnyH_done (by kernel_rfl) ?_ _
        have zl := (HI.out.l.keep zB)
        have zm := (HI.out.m.keep zB)
        have zr := (HI.out.r.keep zB)
        have zb := HI.out.b.trans (zB.mono HI.out.b.size)
        have hgl := HI.out.g_
        have hab1 := hab0 (by omega)
        have hab2 := hab0' (by omega)
        have T := Lib.hid (DotInv.mk (S := sumFr ((List.zipWith Fr.mul L M).take (k + 1))) (zl.st (s := (Fr.add (sumFr ((List.zipWith Fr.mul L M).take k)) (Fr.mul L[k] M[k])).s) (E := AF) (e1 := nF) (e2 := cF) (G := AH) (e3 := nH) (e4 := cH) zF (by omega)) (zm.st zF (by omega)) (zr.off3 (grown_st _ _ _ _ _ _ _ _ _) (by omega)) ⟨AF, nF, cF, AH, nH, cH, xF, xH, by rw [sumFr_take hkZ, List.getElem_zipWith]; exact FrAt.fresh hn hn' zF⟩ (zb.trans (grown_below (grown_st _ _ _ _ _ _ _ _ _) (by omega) zb.size)) hgl)
        clear zl zm zr zb zB zB1 zF hn hn' hp hp' hb Ea Eb Ec Ua Ub Uc Sa Sb Sc Sd Se Sf Fa Fb Fc Fd Fe Ff hHeld zx zy zu zv zx2 zy2 zSh
        go_wp2
        go_roundw
        case rel => exact ⟨k + 1, by omega, by go_num, T⟩
        case measure => simp [intOf]; omega
    · obtain rfl : k = N := by omega
      have hT : sumFr ((List.zipWith Fr.mul L M).take k) = dotFr L M := by
        unfold dotFr
        rw [List.take_of_length_le (by rw [hZ.out]; exact Nat.le_refl _)]
      have zR := hi.out.r
      obtain ⟨Ra, Rb, Rc, Rd, Re, Rf⟩ := zR.facts
      have hgl := hi.out.g_
      have hz := zS.h.lt
      have BB := Lib.hid hi.out.b
      clear hi
      rw [hT] at zS
      obtain ⟨Sa, Sb, Sc, Sd, Se, Sf⟩ := zS.h.facts
      rcases Nat.lt_or_ge k len with hk1 | hk1
      · have hk2 : ¬ (k < len') := by omega
        go_wp2
        refine bodyPost_ret (v := .agg #[.bool (dotFr L M).s, .slice A1 n1 c1, .slice B1 m1 d1]) (by simp [results, Tryz.results11, go_sem, Ra, Rb, Rc]) rfl ?_
        exact giveFr (t := dotFr L M) BB.out (Nat.le_refl _) zR zS.x zS.y
      · have hk2 : ¬ (k < len) := by omega
        go_wp2
        refine bodyPost_ret (v := .agg #[.bool (dotFr L M).s, .slice A1 n1 c1, .slice B1 m1 d1]) (by simp [results, Tryz.results11, go_sem, Ra, Rb, Rc]) rfl ?_
        exact giveFr (t := dotFr L M) BB.out (Nat.le_refl _) zR zS.x zS.y
end Go.Proofs.YtebfnbnaheolgaaGreatDoor
