/- RSum, FSum, joined: no claim of its own. -/
import Derived.Test.YtebfnbnaheolgaaGreatDoorOpenFrs
import Derived.IntWalk
namespace Go.Proofs.YtebfnbnaheolgaaGreatDoor
open Go.RowKit
theorem opRAdd {X Y : Fr} (h : Bd X 100) (k : Bd Y 100) : Hid (Op2 26 X Y (Fr.add X Y)) :=
  Lib.hid fun W A A' B B' n c m d n' c' m' d' xs ys xs' ys' a b a' b' => raddFr_any X.s Y.s A B A' B' n c m d n' c' m' d' X.p X.q Y.p Y.q 100 xs ys xs' ys' W a b a' b' h.p h.q k.p k.q (by decide) h.ok k.ok _ rfl
theorem Frs.st {a : Addr} {len cap i : Nat} {L : List Fr} {W : World} (h : Frs (some a) len cap L i W) {g : Nat} {z s : Bool} {C D E G : Option Addr} {j1 j2 j3 j4 e1 e2 e3 e4 : Nat} (zF : FB W g z C j1 j2 D j3 j4) (hne : a.block ≠ g) : Frs (some a) len cap L i (stFr W g s E e1 e2 G e3 e4) := by
  have gr := grown_st W g s E e1 e2 G e3 e4
  have cc : ∀ k v, W.cell? (a.add k) = some v → (stFr W g s E e1 e2 G e3 e4).cell? (a.add k) = some v := fun k v hc => by
    rw [World.cell?_of_block (w := W) (gr.block _ (World.block_lt_of_cell? W _ hc) (by intro x; injection x with x; refine hne ?_; rw [← x]; unfold Addr.add; split <;> rfl))]; exact hc
  refine ⟨h.hlen, h.hcap, h.hnil, fun b hb k hk => ?_⟩
  obtain rfl : a = b := Option.some.inj hb
  obtain ⟨b, A, n, c, B, m, d, xs, ys, e⟩ := h.el a rfl k hk
  exact ⟨b, A, n, c, B, m, d, xs, ys, cc _ _ e.c0, cc _ _ e.c1, cc _ _ e.c2, e.x.grown zF gr, e.y.grown zF gr⟩
theorem st3_any {w : World} {g : Nat} {p : Addr} {v0 v1 v2 v : Value} (hne : p.block ≠ g) (h : w.cell? p = some v) : (((w.setCell ⟨g, 0, none⟩ v0).setCell ⟨g, 1, none⟩ v1).setCell ⟨g, 2, none⟩ v2).cell? p = some v := by
  rw [World.cell?_setCell_other _ _ _ _ (fun x => hne (by rw [← x])), World.cell?_setCell_other _ _ _ _ (fun x => hne (by rw [← x])), World.cell?_setCell_other _ _ _ _ (fun x => hne (by rw [← x])), h]
theorem add_block (a : Addr) (k : Nat) : (a.add k).block = a.block := by unfold Addr.add; split <;> rfl
/-- After k elements. -/
structure SumInv (w0 : World) (g : Nat) (A : Option Addr) (len cap : Nat) (L : List Fr) (S : Fr) (W : World) : Prop where
  l : Frs A len cap L 2 W
  r : FB W w0.heap.size false none 0 0 none 0 0
  s : ∃ (A1 : Option Addr) (n1 c1 : Nat) (B1 : Option Addr) (m1 d1 : Nat) (xs ys : List Nat), FrAt g S A1 n1 c1 B1 m1 d1 xs ys W
  b : Below w0.heap.size w0 W
  g_ : w0.heap.size < g
set_option maxRecDepth 100000 in
set_option maxHeartbeats 2000000 in
theorem rsum_any (a : Addr) (len cap : Nat) (L : List Fr) (w : World) (h : Frs (some a) len cap L 2 w) (hl : len ≤ 5) :
    Calls Tryz.prog 9 #[.slice (some a) len cap] w (GivesFr (sumFr L) w) := by
  have b0 := below_alloc w (.cells #[.bool false, .slice none 0 0, .slice none 0 0] 27)
  have zL := h.keep b0
  have zR := FB.new w false none 0 0 none 0 0
  have zB := b0
  have Z0 := opZero
  have hcap := h.hcap
  have hab0 : 0 < len → a.block < w.heap.size := fun hp => by
    obtain ⟨_, A, n, c, B, m, d, xs, ys, e⟩ := h.el a rfl 0 (by rw [h.hlen]; exact hp)
    have := World.block_lt_of_cell? w _ e.c0
    rw [add_block] at this
    exact this
  clear h b0
  obtain ⟨Ra, Rb, Rc, Rd, Re, Rf⟩ := zR.facts
  go_enter Tryz.func9, Tryz.ntmps9
  go_wp2_with fail
  refine (Z0.out _).mono ?_
  rintro e w1 ⟨AE, nE, cE, xE, AG, nG, cG, xG, rfl, hn, hn', hb⟩
  have ba := below_alloc w1 (.cells #[.bool Fr.zero.s, .slice AE nE cE, .slice AG nG cG] 27)
  have zS : FrAt w1.heap.size Fr.zero AE nE cE AG nG cG xE xG (w1.alloc (.cells #[.bool Fr.zero.s, .slice AE nE cE, .slice AG nG cG] 27)) := FrAt.made hn hn' rfl
  have hg : w.heap.size < w1.heap.size := (zR.keep hb).lt
  have I0 := Lib.hid (SumInv.mk (S := sumFr (L.take 0)) ((zL.keep hb).keep ba) ((zR.keep hb).keep ba) ⟨_, _, _, _, _, _, _, _, zS⟩ ((zB.trans (hb.mono zB.size)).trans (ba.mono ((zB.trans (hb.mono zB.size)).size))) hg)
  clear ba zS hg zL zR zB hb hn hn' Ra Rb Rc Rd Re Rf Z0
  go_wp2_with fail
  obtain ⟨W1, hv⟩ : ∃ W, (w1.alloc (.cells #[.bool Fr.zero.s, .slice AE nE cE, .slice AG nG cG] 27)) = W := ⟨_, rfl⟩
  obtain ⟨g, hg⟩ : ∃ g, w1.heap.size = g := ⟨_, rfl⟩
  rw [hv, hg] at I0 ⊢
  clear hv hg
  go_loopw [4] (fun i wr => ∃ k : Nat, k ≤ len ∧ i = .int .i64 k ∧ Hid (SumInv w g (some a) len cap L (sumFr (L.take k)) wr)) (fun i _ => len - (intOf i).toNat)
  case atStart => exact ⟨0, by omega, rfl, I0⟩
  case round =>
    clear I0
    obtain ⟨k, hk, rfl, hi⟩ := hrel
    obtain ⟨A1, n1, c1, B1, m1, d1, xs1, ys1, zS⟩ := hi.out.s
    rcases Nat.lt_or_ge k len with hlt | hge
    · obtain ⟨Sa, Sb, Sc, Sd, Se, Sf⟩ := zS.h.facts
      have hkL : k < L.length := by rw [hi.out.l.hlen]; exact hlt
      obtain ⟨eb, A2, n2, c2, B2, m2, d2, xs2, ys2, zE⟩ := hi.out.l.el a rfl k hkL
      have Ea := zE.c0
      have Eb := zE.c1
      have Ec := zE.c2
      rw [show a.add (k * 3 + 1) = ⟨(a.add (k * 3)).block, (a.add (k * 3)).off + 1, none⟩ by rw [← Addr.add_add]; rfl] at Eb
      rw [show a.add (k * 3 + 2) = ⟨(a.add (k * 3)).block, (a.add (k * 3)).off + 2, none⟩ by rw [← Addr.add_add]; rfl] at Ec
      have bS : Bd (sumFr (L.take k)) 100 := (sumFr_bd (i := 2) (fun X hX => by
        obtain ⟨j, hj, rfl⟩ := List.mem_iff_getElem.1 (List.mem_of_mem_take hX)
        exact (hi.out.l.el a rfl j hj).1)).mono (by rw [List.length_take]; omega)
      have CA := opRAdd bS (eb.mono (j := 100) (by decide))
      have hab := World.block_lt_of_cell? wr _ Ea
      have hab2 := World.block_lt_of_cell? wr _ Eb
      have hab3 := World.block_lt_of_cell? wr _ Ec
      have zx := zE.x
      have zy := zE.y
      have zx2 := zS.x
      have zy2 := zS.y
      have HI := hi
      clear bS eb
      go_wp2_with fail
      replace zx := zx.drew_
      replace zy := zy.drew_
      replace zx2 := zx2.drew_
      replace zy2 := zy2.drew_
      replace Ea : wr.drew.cell? _ = _ := Ea
      replace Eb : wr.drew.cell? _ = _ := Eb
      replace Ec : wr.drew.cell? _ = _ := Ec
      replace Sa : wr.drew.cell? _ = _ := Sa
      replace Sb : wr.drew.cell? _ = _ := Sb
      replace Sc : wr.drew.cell? _ = _ := Sc
      have zSh := zS.h.drew
      have hne : (a.add (k * 3)).block ≠ g := by
        have h1 := hab0 (by omega)
        have h2 := hi.out.g_
        rw [add_block]
        omega
      replace hab : (a.add (k * 3)).block < wr.drew.heap.size := hab
      replace hab2 : (a.add (k * 3)).block < wr.drew.heap.size := hab2
      replace hab3 : (a.add (k * 3)).block < wr.drew.heap.size := hab3
      refine wp_region_held_drew (S := (fun w' => w'.cell? (a.add (k * 3)) = some (.bool L[k].s) ∧ w'.cell? ⟨(a.add (k * 3)).block, (a.add (k * 3)).off + 1, none⟩ = some (.slice A2 n2 c2) ∧ w'.cell? ⟨(a.add (k * 3)).block, (a.add (k * 3)).off + 2, none⟩ = some (.slice B2 m2 d2))) (by kernel_rfl) ⟨Ea, Eb, Ec⟩ (fun hHeld => ?_)
      refine wpAnyH_take (i := 1) (oi := { dst := some 13, op := Op.move (Operand.tmp 0), type := 22, pos := "ref.go:138", after := #[], guard := none }) (v := ?_) rfl (by kernel_rfl) (by kernel_rfl) (by kernel_rfl) (fun _ _ _ h => h) (Or.inl ⟨by rfl, ?_⟩) (by assumption) ?_
      rotate_left
      · intro w hSw; (try dsimp only at hSw); go_simp; try with_reducible rfl
      (try simp only [Act.put, List.setIfInBounds_toArray, List.set_cons_zero, List.set_cons_succ])
      refine wpAnyH_take (i := 2) (oi := { dst := some 14, op := Op.move (Operand.tmp 4), type := 3, pos := "ref.go:138", after := #[], guard := none }) (v := ?_) rfl (by kernel_rfl) (by kernel_rfl) (by kernel_rfl) (fun _ _ _ h => h) (Or.inl ⟨by rfl, ?_⟩) (by assumption) ?_
      rotate_left
      · intro w hSw; (try dsimp only at hSw); go_simp; try with_reducible rfl
      (try simp only [Act.put, List.setIfInBounds_toArray, List.set_cons_zero, List.set_cons_succ])
      refine wpAnyH_take (i := 3) (oi := { dst := some 15, op := Op.indexAddr 22 (Operand.tmp 13) (Operand.tmp 14), type := 0, pos := "ref.go:138", after := #[{ on := 1, ground := Ground.data }, { on := 2, ground := Ground.data }], guard := none }) (v := ?_) rfl (by kernel_rfl) (by kernel_rfl) (by kernel_rfl) (fun _ _ _ h => h) (Or.inl ⟨by rfl, ?_⟩) (by assumption) ?_
      rotate_left
      · intro w hSw; (try dsimp only at hSw); go_simp; try with_reducible rfl
      (try simp only [Act.put, List.setIfInBounds_toArray, List.set_cons_zero, List.set_cons_succ])
      refine wpAnyH_take (i := 4) (oi := { dst := some 16, op := Op.load 27 (Operand.tmp 15), type := 27, pos := "ref.go:138", after := #[{ on := 3, ground := Ground.data }], guard := none }) (v := ?_) rfl (by kernel_rfl) (by kernel_rfl) (by kernel_rfl) (fun _ _ _ h => h) (Or.inl ⟨by rfl, ?_⟩) (by assumption) ?_
      rotate_left
      · intro w hSw; (try dsimp only at hSw); go_simp; try with_reducible rfl
      (try simp only [Act.put, List.setIfInBounds_toArray, List.set_cons_zero, List.set_cons_succ])
      refine wpAnyH_ready (rs := [0]) (by kernel_rfl) (by simp) ?_
      refine AllReadyH.cons (o := { dst := some 12, op := Op.load 27 (Operand.tmp 3), type := 27, pos := "ref.go:138", after := #[], guard := none }) rfl (fun K hK => ?_) AllReadyH.nil
      go_simp
      refine hK.out _ _ ?_ (fun hHeld => ?_)
      · exact ⟨Ea, Eb, Ec⟩
      clear hK K
      (try simp only [Act.put, List.setIfInBounds_toArray, List.set_cons_zero, List.set_cons_succ])
      refine wpAnyH_ready (rs := [5]) (by kernel_rfl) (by simp) ?_
      refine AllReadyH.cons (o := { dst := some 17, op := Op.call { callee := Callee.value (Operand.func 26), args := #[Operand.tmp 12, Operand.tmp 16], argTypes := #[27, 27] }, type := 27, pos := "ref.go:138", after := #[{ on := 0, ground := Ground.data }, { on := 4, ground := Ground.data }], guard := none }) rfl (fun K hK => ?_) AllReadyH.nil
      go_simp
      go_at_call 26
      with_reducible refine (Op2.call CA zx2 zy2 zx zy).mono ?_
      rintro e wq ⟨AE, nE, cE, xE, AG, nG, cG, xG, rfl, hn, hn', hb⟩
      have zF := zSh.keep hb
      obtain ⟨Fa, Fb, Fc, Fd, Fe, Ff⟩ := zF.facts
      replace Ea := (Below.cell hb (p := a.add (k * 3)) hab).trans Ea
      replace Eb := (Below.cell hb (p := ⟨(a.add (k * 3)).block, (a.add (k * 3)).off + 1, none⟩) hab2).trans Eb
      replace Ec := (Below.cell hb (p := ⟨(a.add (k * 3)).block, (a.add (k * 3)).off + 2, none⟩) hab3).trans Ec
      refine hK.out _ _ ?_ (fun hHeld => ?_)
      · exact ⟨Ea, Eb, Ec⟩
      clear hK K
      (try simp only [Act.put, List.setIfInBounds_toArray, List.set_cons_zero, List.set_cons_succ])
      refine wpAnyH_ready (rs := [6]) (by kernel_rfl) (by simp) ?_
      refine AllReadyH.cons (o := { dst := none, op := Op.store 27 (Operand.tmp 3) (Operand.tmp 17), type := 0, pos := "ref.go:138", after := #[{ on := 5, ground := Ground.data }, { on := 5, ground := Ground.chain }, { on := 0, ground := Ground.phase }, { on := 1, ground := Ground.phase }, { on := 2, ground := Ground.phase }, { on := 3, ground := Ground.phase }, { on := 4, ground := Ground.phase }, { on := 5, ground := Ground.phase }], guard := none }) rfl (fun K hK => ?_) AllReadyH.nil
      go_simp
      refine hK.out _ _ ?_ (fun hHeld => ?_)
      · exact ⟨st3_any hne Ea, st3_any hne Eb, st3_any hne Ec⟩
      clear hK K
      (try simp only [Act.put, List.setIfInBounds_toArray, List.set_cons_zero, List.set_cons_succ])
      refine wpAnyH_done (by kernel_rfl) ?_ _
      have zB : Below wr.heap.size wr wq := (Below.refl wr.heap.size wr).drew.trans (show Below wr.heap.size wr.drew wq from hb)
      have zl := (HI.out.l.keep zB)
      have zr := (HI.out.r.keep zB)
      have zb := HI.out.b.trans (zB.mono HI.out.b.size)
      have hgl := HI.out.g_
      have hab1 := hab0 (by omega)
      have T := Lib.hid (SumInv.mk (S := sumFr (L.take (k + 1))) (zl.st (s := (Fr.add (sumFr (L.take k)) L[k]).s) (E := AE) (e1 := nE) (e2 := cE) (G := AG) (e3 := nG) (e4 := cG) zF (by omega)) (zr.off3 (grown_st _ _ _ _ _ _ _ _ _) (by omega)) ⟨AE, nE, cE, AG, nG, cG, xE, xG, by rw [sumFr_take hkL]; exact FrAt.fresh hn hn' zF⟩ (zb.trans (grown_below (grown_st _ _ _ _ _ _ _ _ _) (by omega) zb.size)) hgl)
      clear zl zr zb zB zF hn hn' hb HI hi Ea Eb Ec Fa Fb Fc Fd Fe Ff hHeld zx zy zx2 zy2 zSh
      go_wp2
      go_roundw
      case rel => exact ⟨k + 1, by omega, by go_num, T⟩
      case measure => simp [intOf]; omega
    · obtain rfl : k = len := by omega
      have hT : sumFr (L.take k) = sumFr L := by rw [List.take_of_length_le (by rw [hi.out.l.hlen]; omega)]
      have zR := hi.out.r
      obtain ⟨Ra, Rb, Rc, Rd, Re, Rf⟩ := zR.facts
      have hgl := hi.out.g_
      have hz := zS.h.lt
      have BB := Lib.hid hi.out.b
      clear hi
      rw [hT] at zS
      obtain ⟨Sa, Sb, Sc, Sd, Se, Sf⟩ := zS.h.facts
      go_wp2
      refine bodyPost_ret (v := .agg #[.bool (sumFr L).s, .slice A1 n1 c1, .slice B1 m1 d1]) (by simp [results, Tryz.results9, go_sem, Ra, Rb, Rc]) rfl ?_
      exact giveFr (t := sumFr L) BB.out (Nat.le_refl _) zR zS.x zS.y
end Go.Proofs.YtebfnbnaheolgaaGreatDoor
namespace Go.Proofs.YtebfnbnaheolgaaGreatDoor
open Go.RowKit
theorem opFZero : Hid (∀ W, Calls Tryz.prog 24 #[] W (GivesFr Fr.zero W)) := Lib.hid fun W => zeroFr_any W
set_option maxRecDepth 100000 in
set_option maxHeartbeats 2000000 in
theorem fsum_any (a : Addr) (len cap : Nat) (L : List Fr) (w : World) (h : Frs (some a) len cap L 2 w) (hl : len ≤ 5) :
    Calls Tryz.prog 8 #[.slice (some a) len cap] w (GivesFr (sumFr L) w) := by
  have b0 := below_alloc w (.cells #[.bool false, .slice none 0 0, .slice none 0 0] 27)
  have zL := h.keep b0
  have zR := FB.new w false none 0 0 none 0 0
  have zB := b0
  have Z0 := opFZero
  have hcap := h.hcap
  have hab0 : 0 < len → a.block < w.heap.size := fun hp => by
    obtain ⟨_, A, n, c, B, m, d, xs, ys, e⟩ := h.el a rfl 0 (by rw [h.hlen]; exact hp)
    have := World.block_lt_of_cell? w _ e.c0
    rw [add_block] at this
    exact this
  clear h b0
  obtain ⟨Ra, Rb, Rc, Rd, Re, Rf⟩ := zR.facts
  go_enter Tryz.func8, Tryz.ntmps8
  go_wp2_with fail
  refine (Z0.out _).mono ?_
  rintro e w1 ⟨AE, nE, cE, xE, AG, nG, cG, xG, rfl, hn, hn', hb⟩
  have ba := below_alloc w1 (.cells #[.bool Fr.zero.s, .slice AE nE cE, .slice AG nG cG] 27)
  have zS : FrAt w1.heap.size Fr.zero AE nE cE AG nG cG xE xG (w1.alloc (.cells #[.bool Fr.zero.s, .slice AE nE cE, .slice AG nG cG] 27)) := FrAt.made hn hn' rfl
  have hg : w.heap.size < w1.heap.size := (zR.keep hb).lt
  have I0 := Lib.hid (SumInv.mk (S := sumFr (L.take 0)) ((zL.keep hb).keep ba) ((zR.keep hb).keep ba) ⟨_, _, _, _, _, _, _, _, zS⟩ ((zB.trans (hb.mono zB.size)).trans (ba.mono ((zB.trans (hb.mono zB.size)).size))) hg)
  clear ba zS hg zL zR zB hb hn hn' Ra Rb Rc Rd Re Rf Z0
  go_wp2_with fail
  obtain ⟨W1, hv⟩ : ∃ W, (w1.alloc (.cells #[.bool Fr.zero.s, .slice AE nE cE, .slice AG nG cG] 27)) = W := ⟨_, rfl⟩
  obtain ⟨g, hg⟩ : ∃ g, w1.heap.size = g := ⟨_, rfl⟩
  rw [hv, hg] at I0 ⊢
  clear hv hg
  go_loopw [9] (fun i wr => ∃ k : Nat, k ≤ len ∧ i = .int .i64 k ∧ Hid (SumInv w g (some a) len cap L (sumFr (L.take k)) wr)) (fun i _ => len - (intOf i).toNat)
  case atStart => exact ⟨0, by omega, rfl, I0⟩
  case round =>
    clear I0
    obtain ⟨k, hk, rfl, hi⟩ := hrel
    obtain ⟨A1, n1, c1, B1, m1, d1, xs1, ys1, zS⟩ := hi.out.s
    rcases Nat.lt_or_ge k len with hlt | hge
    · obtain ⟨Sa, Sb, Sc, Sd, Se, Sf⟩ := zS.h.facts
      have hkL : k < L.length := by rw [hi.out.l.hlen]; exact hlt
      obtain ⟨eb, A2, n2, c2, B2, m2, d2, xs2, ys2, zE⟩ := hi.out.l.el a rfl k hkL
      have Ea := zE.c0
      have Eb := zE.c1
      have Ec := zE.c2
      rw [show a.add (k * 3 + 1) = ⟨(a.add (k * 3)).block, (a.add (k * 3)).off + 1, none⟩ by rw [← Addr.add_add]; rfl] at Eb
      rw [show a.add (k * 3 + 2) = ⟨(a.add (k * 3)).block, (a.add (k * 3)).off + 2, none⟩ by rw [← Addr.add_add]; rfl] at Ec
      have bS : Bd (sumFr (L.take k)) 100 := (sumFr_bd (i := 2) (fun X hX => by
        obtain ⟨j, hj, rfl⟩ := List.mem_iff_getElem.1 (List.mem_of_mem_take hX)
        exact (hi.out.l.el a rfl j hj).1)).mono (by rw [List.length_take]; omega)
      have CA := opAdd bS (eb.mono (j := 100) (by decide)) rfl
      have hab := World.block_lt_of_cell? wr _ Ea
      have hab2 := World.block_lt_of_cell? wr _ Eb
      have hab3 := World.block_lt_of_cell? wr _ Ec
      have zx := zE.x
      have zy := zE.y
      have zx2 := zS.x
      have zy2 := zS.y
      have HI := hi
      clear bS eb
      have hne : (a.add (k * 3)).block ≠ g := by
        have h1 := hab0 (by omega)
        have h2 := hi.out.g_
        rw [add_block]
        omega
      have hlg := zS.h.lt
      have ba := below_alloc wr (.cells #[.bool L[k].s, .slice A2 n2 c2, .slice B2 m2 d2] 27)
      replace zx := zx.keep ba
      replace zy := zy.keep ba
      replace zx2 := zx2.keep ba
      replace zy2 := zy2.keep ba
      have zSh := zS.h.keep ba
      have zO := FB.new wr L[k].s A2 n2 c2 B2 m2 d2
      obtain ⟨Oa, Ob, Oc, Od, Oe, Of⟩ := zO.facts
      obtain ⟨Ga, Gb, Gc, Gd, Ge, Gf⟩ := zSh.facts
      go_wp2_with fail
      with_reducible refine (Op2.call CA zx2 zy2 zx zy).mono ?_
      rintro e wq ⟨AE, nE, cE, xE, AG, nG, cG, xG, rfl, hn, hn', hb⟩
      have zB : Below wr.heap.size wr wq := ba.trans (hb.mono ba.size)
      have zF := zSh.keep hb
      obtain ⟨Fa, Fb, Fc, Fd, Fe, Ff⟩ := zF.facts
      have zl := (HI.out.l.keep zB)
      have zr := (HI.out.r.keep zB)
      have zb := HI.out.b.trans (zB.mono HI.out.b.size)
      have hgl := HI.out.g_
      have hab1 := hab0 (by omega)
      have T := Lib.hid (SumInv.mk (S := sumFr (L.take (k + 1))) (zl.st (s := (Fr.add (sumFr (L.take k)) L[k]).s) (E := AE) (e1 := nE) (e2 := cE) (G := AG) (e3 := nG) (e4 := cG) zF (by omega)) (zr.off3 (grown_st _ _ _ _ _ _ _ _ _) (by omega)) ⟨AE, nE, cE, AG, nG, cG, xE, xG, by rw [sumFr_take hkL]; exact FrAt.fresh hn hn' zF⟩ (zb.trans (grown_below (grown_st _ _ _ _ _ _ _ _ _) (by omega) zb.size)) hgl)
      clear zl zr zb zB zF hn hn' hb HI hi Ea Eb Ec zx zy zx2 zy2 zSh zO ba
      go_wp2
      go_roundw
      case rel => exact ⟨k + 1, by omega, by go_num, T⟩
      case measure => simp [intOf]; omega
    · obtain rfl : k = len := by omega
      have hT : sumFr (L.take k) = sumFr L := by rw [List.take_of_length_le (by rw [hi.out.l.hlen]; omega)]
      have zR := hi.out.r
      obtain ⟨Ra, Rb, Rc, Rd, Re, Rf⟩ := zR.facts
      have hgl := hi.out.g_
      have hz := zS.h.lt
      have BB := Lib.hid hi.out.b
      clear hi
      rw [hT] at zS
      obtain ⟨Sa, Sb, Sc, Sd, Se, Sf⟩ := zS.h.facts
      go_wp2
      refine bodyPost_ret (v := .agg #[.bool (sumFr L).s, .slice A1 n1 c1, .slice B1 m1 d1]) (by simp [results, Tryz.results8, go_sem, Ra, Rb, Rc]) rfl ?_
      exact giveFr (t := sumFr L) BB.out (Nat.le_refl _) zR zS.x zS.y
end Go.Proofs.YtebfnbnaheolgaaGreatDoor
