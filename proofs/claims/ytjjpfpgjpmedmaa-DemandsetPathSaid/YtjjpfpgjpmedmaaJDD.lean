/- DRDem, DPath, joined: no claim of its own. -/
import Derived.Test.YtjjpfpgjpmedmaaJDC
namespace Go.Proofs.Ytjjpfpgjpmedmaa
open Go.RowKit
attribute [local go_sem] Oper.semAt_some
theorem rws_cells {w : World} {ad : Addr} {n c k : Nat} {rs : List (List Int)} (h : Rws w (some ad) n c rs) (hk : k < n) {x0 x1 x2 x3 x4 x5 : Int} (hp : rs[k]? = some [x0, x1, x2, x3, x4, x5]) :
    w.cell? (ad.add (k * 6)) = some (.int .i64 x0) ∧ w.cell? (⟨(ad.add (k * 6)).block, (ad.add (k * 6)).off + 1, none⟩) = some (.int .i64 x1) ∧ w.cell? (⟨(ad.add (k * 6)).block, (ad.add (k * 6)).off + 2, none⟩) = some (.int .i64 x2) ∧ w.cell? (⟨(ad.add (k * 6)).block, (ad.add (k * 6)).off + 3, none⟩) = some (.int .i64 x3) ∧ w.cell? (⟨(ad.add (k * 6)).block, (ad.add (k * 6)).off + 4, none⟩) = some (.int .i64 x4) ∧ w.cell? (⟨(ad.add (k * 6)).block, (ad.add (k * 6)).off + 5, none⟩) = some (.int .i64 x5) := by
  obtain ⟨ad', y0, y1, y2, y3, y4, y5, e, hp', _, h0⟩ := h.at_ hk
  injection e with e
  rw [hp] at hp'
  injection hp' with hp'
  simp only [List.cons.injEq, and_true] at hp'
  obtain ⟨rfl, rfl, rfl, rfl, rfl, rfl⟩ := hp'
  subst e
  exact h0
theorem rws_cells0 {w : World} {ad : Addr} {n c : Nat} {rs : List (List Int)} {x0 x1 x2 x3 x4 x5 : Int} (h : Rws w (some ad) n c ([x0, x1, x2, x3, x4, x5] :: rs)) (hk : 0 < n) :
    w.cell? ad = some (.int .i64 x0) ∧ w.cell? (⟨ad.block, ad.off + 1, none⟩) = some (.int .i64 x1) ∧ w.cell? (⟨ad.block, ad.off + 2, none⟩) = some (.int .i64 x2) ∧ w.cell? (⟨ad.block, ad.off + 3, none⟩) = some (.int .i64 x3) ∧ w.cell? (⟨ad.block, ad.off + 4, none⟩) = some (.int .i64 x4) ∧ w.cell? (⟨ad.block, ad.off + 5, none⟩) = some (.int .i64 x5) := by
  have h1 := rws_cells h hk (k := 0) rfl
  rwa [show ad.add (0 * 6) = ad from by unfold Addr.add; simp] at h1
/-- The same, of a row that is new. -/
def GivesRwF (rs : List (List Int)) (w : World) (e : Ending) (w' : World) : Prop := ∃ A n c, e = .returned (.slice A n c) ∧ Rws w' A n c rs ∧ (∀ ad, A = some ad → w.heap.size ≤ ad.block) ∧ Below w.heap.size w w'
theorem own_form2 {w : World} {B : Nat} {v : Value} {rs : List (List Int)} (h : OwnR w B v rs) (hn : rs.length ≤ 100000) : ∃ A c, v = .slice A rs.length c ∧ Rws w A rs.length c rs ∧ ∀ ad, A = some ad → B ≤ ad.block := by
  obtain ⟨A, c, hv, hr⟩ := h.form hn
  refine ⟨A, c, hv, hr, fun ad ha => ?_⟩
  subst ha
  exact (World.ownsRow.lt h.1 ad.block (by rw [hv]; rfl)).1
theorem rr_step {u : List Int → Int} {rs : List (List Int)} {k : Nat} {x : List Int} (h : rs[k]? = some x) : MD.rrun u (rs.take (k + 1)) = MD.rstep u (MD.rrun u (rs.take k)) x := by
  rw [take_snoc' h, MD.rrun_snoc]
theorem rr_len (u : List Int → Int) (rs : List (List Int)) (k : Nat) : (MD.rrun u (rs.take k)).2.length ≤ k := by
  rw [MD.rrun_eq]
  exact Nat.le_trans (List.length_filter_le _ _) (by rw [List.length_take]; omega)
set_option maxRecDepth 100000 in
set_option maxHeartbeats 8000000 in
theorem rdemandF_any (A : Option Addr) (n c : Nat) (L : List MF.Of) (hn : n ≤ 100000) (q0 q1 q2 q3 q4 q5 p0 p1 p2 p3 p4 p5 : Int) (w : World) (hL : Lst ofE w A n c L) : Calls Try.prog 24 #[.slice A n c, .agg #[.int .i64 q0, .int .i64 q1, .int .i64 q2, .int .i64 q3, .int .i64 q4, .int .i64 q5], .agg #[.int .i64 p0, .int .i64 p1, .int .i64 p2, .int .i64 p3, .int .i64 p4, .int .i64 p5]] w (GivesRwF (MD.demE L [q0, q1, q2, q3, q4, q5] [p0, p1, p2, p3, p4, p5]) w) := by
  rw [← MD.rdem_eq (s := [q0, q1, q2, q3, q4, q5]) (p := [p0, p1, p2, p3, p4, p5]) rfl rfl]
  have hmo : Try.prog.follows .mixedOrders = true := by kernel_rfl
  have HP := Lib.hid (fun w' => rprices_any p0 p1 p2 p3 p4 p5 w')
  have HLs := Lib.hid (fun w' => list_any q0 q1 q2 q3 q4 q5 w')
  have HLE := list_le [q0, q1, q2, q3, q4, q5]
  have HIN := Lib.hid (MD.list_in (s := [q0, q1, q2, q3, q4, q5]) rfl)
  have S0 := Lib.hid (Two2.start w 24 39 q0 q1 q2 q3 q4 q5 p0 p1 p2 p3 p4 p5)
  have HU0 := Lib.hid (fun x0 x1 x2 x3 x4 x5 w' (h : Lst ofE w' A n c L) => rutility_any A n c L hn p0 p1 p2 p3 p4 p5 x0 x1 x2 x3 x4 x5 w' h)
  have HL0 := Lib.hid hL
  obtain ⟨i1, hi1, hy0, hy1, hy2⟩ := info_parts infoBun
  have HDE : Hid (MD.rdemE L [q0, q1, q2, q3, q4, q5] [p0, p1, p2, p3, p4, p5] = if MD.prB [p0, p1, p2, p3, p4, p5] = true then (MD.rrun (MD.utE L [p0, p1, p2, p3, p4, p5]) (listB [q0, q1, q2, q3, q4, q5])).2 else []) := Lib.hid rfl
  obtain ⟨rs, hrs⟩ : ∃ rs, rs = listB [q0, q1, q2, q3, q4, q5] := ⟨_, rfl⟩
  rw [← hrs] at HDE HIN HLs HLE
  clear hL hrs
  go_enter Try.func24, Try.ntmps24
  go_upto_region 1 with (fail)
  generalize (w.alloc (.cells #[.int .i64 q0, .int .i64 q1, .int .i64 q2, .int .i64 q3, .int .i64 q4, .int .i64 q5] 24)).alloc (.cells #[.int .i64 p0, .int .i64 p1, .int .i64 p2, .int .i64 p3, .int .i64 p4, .int .i64 p5] 39) = w1 at *
  obtain ⟨r0, r1, r2, r3, r4, r5⟩ := cells6 S0.out.y
  cases hpr : MD.prB [p0, p1, p2, p3, p4, p5] with
  | false =>
    rw [hpr] at HP
    have HE := Lib.hid (HDE.out.trans (if_neg (by rw [hpr]; exact Bool.false_ne_true)))
    go_wp2_with fail
    refine (HP.out _).mono ?_
    rintro ev w2 ⟨rfl, nb⟩
    have B2 := Lib.hid (S0.out.below.trans (nb.mono S0.out.below.size))
    clear nb r0 r1 r2 r3 r4 r5 S0
    go_wp2
    go_ret
    exact ⟨none, 0, 0, rfl, by rw [HE.out]; exact Rws.nil _, (fun _ h => by cases h), B2.out⟩
  | true =>
    rw [hpr] at HP
    have HE := Lib.hid (HDE.out.trans (if_pos hpr))
    clear HDE hpr
    go_wp2_with fail
    refine (HP.out _).mono ?_
    rintro ev w2 ⟨rfl, nb⟩
    have S2 := Lib.hid (S0.out.keep nb)
    clear nb r0 r1 r2 r3 r4 r5 S0 HP
    obtain ⟨r0, r1, r2, r3, r4, r5⟩ := cells6 S2.out.x
    go_wp2_with fail
    refine (HLs.out _).mono ?_
    rintro ev w3 ⟨A3, m, cm, rfl, hrw, nb⟩
    have S3 := Lib.hid (S2.out.keep nb)
    have W3 := Lib.hid hrw
    have HM : m = rs.length := hrw.len.symm
    have hm : m ≤ 1024 := by omega
    have HMN := Lib.hid HM
    clear nb r0 r1 r2 r3 r4 r5 S2 HLs hrw HM
    go_wp2_with fail
    go_loopw [8, 9, 10] (fun t v i wr => ∃ k : Nat, k ≤ m ∧ i = .int .i64 k ∧ t = .int .i64 (MD.rrun (MD.utE L [p0, p1, p2, p3, p4, p5]) (rs.take k)).1 ∧ OwnR wr w3.heap.size v (MD.rrun (MD.utE L [p0, p1, p2, p3, p4, p5]) (rs.take k)).2 ∧ Below w3.heap.size w3 wr) (fun _ _ i _ => m - (intOf i).toNat)
    case atStart => exact ⟨0, Nat.zero_le _, rfl, rfl, OwnR.nil _ _, Below.refl _ _⟩
    case round =>
      obtain ⟨k, hk, rfl, rfl, hown, hbw⟩ := hrel
      have O0 := Lib.hid hown
      have B0 := Lib.hid hbw
      clear hown hbw
      have hlen := rr_len (MD.utE L [p0, p1, p2, p3, p4, p5]) rs k
      by_cases hlt : k < m
      · obtain ⟨ad, x0, x1, x2, x3, x4, x5, rfl, hrow, hadl, _⟩ := (W3.out.keep B0.out).at_ hlt
        have HX := Lib.hid hrow
        have HU := Lib.hid (HU0.out x0 x1 x2 x3 x4 x5)
        have HSt := rr_step (u := MD.utE L [p0, p1, p2, p3, p4, p5]) hrow
        generalize MD.rrun (MD.utE L [p0, p1, p2, p3, p4, p5]) (rs.take k) = Q at *
        obtain ⟨mb, Os⟩ := Q
        obtain ⟨P', hP'⟩ : ∃ P', P' = MD.rrun (MD.utE L [p0, p1, p2, p3, p4, p5]) (rs.take (k + 1)) := ⟨_, rfl⟩
        rw [← hP'] at HSt
        have HRS := Lib.hid hP'.symm
        have hUe : ∃ u, u = MD.utE L [p0, p1, p2, p3, p4, p5] [x0, x1, x2, x3, x4, x5] := ⟨_, rfl⟩
        obtain ⟨u, hu⟩ := hUe
        rw [← hu] at HU
        have Ha := Lib.hid (show mb < u → P' = (u, [[x0, x1, x2, x3, x4, x5]]) from fun h => by rw [HSt]; unfold MD.rstep; dsimp only; rw [← hu, if_pos h]; dsimp only; rw [if_pos rfl]; rfl)
        have Hb := Lib.hid (show ¬ mb < u → u = mb → P' = (mb, Os ++ [[x0, x1, x2, x3, x4, x5]]) from fun h h2 => by rw [HSt]; unfold MD.rstep; dsimp only; rw [← hu, if_neg h]; dsimp only; rw [if_pos h2])
        have Hc := Lib.hid (show ¬ mb < u → ¬ u = mb → P' = (mb, Os) from fun h h2 => by rw [HSt]; unfold MD.rstep; dsimp only; rw [← hu, if_neg h]; dsimp only; rw [if_neg h2])
        clear HSt hP' hu hrow hadl
        dsimp only at O0 hlen
        go_upto_region 9 with (fail)
        have PY := Lib.hid ((S3.out.keep (B0.out)).y.keep (below_drawn wr) (Nat.lt_of_lt_of_le S3.out.y.lt B0.out.size))
        have WY := Lib.hid ((W3.out.keep B0.out).keep (below_drawn wr))
        have BY := Lib.hid (B0.out.trans ((below_drawn wr).mono B0.out.size))
        have OY := Lib.hid (O0.out.keep (below_drawn wr))
        have LY := Lib.hid ((HL0.out.keep (S3.out.below)).keep BY.out)
        clear O0 B0
        refine wp_region_held_drew (S := fun w' => BB w' (w.heap.size + 1) 39 [p0, p1, p2, p3, p4, p5] ∧ Rws w' (some ad) m cm rs) hmo ⟨PY.out, WY.out⟩ (fun hHeld => ?_)
        generalize wr.drew = Y at *
        refine wpAnyH_take (i := 0) (oi := { dst := some 23, op := Op.move (Operand.tmp 0), type := 22, pos := "ref.go:38", after := #[], guard := none }) (v := ?_) rfl (by kernel_rfl) (by kernel_rfl) (by kernel_rfl) (fun _ _ _ h => h) (Or.inl ⟨by rfl, ?_⟩) (by assumption) ?_
        rotate_left
        · intro w hSw; (try dsimp only at hSw); obtain ⟨hP, hR⟩ := hSw; obtain ⟨r0, r1, r2, r3, r4, r5⟩ := cells6 hP; obtain ⟨e0, e1, e2, e3, e4, e5⟩ := rws_cells hR hlt HX.out; go_simp; try with_reducible rfl
        (try simp only [Act.put, List.setIfInBounds_toArray, List.set_cons_zero, List.set_cons_succ])
        refine wpAnyH_take (i := 1) (oi := { dst := some 24, op := Op.load 39 (Operand.tmp 5), type := 39, pos := "ref.go:38", after := #[], guard := none }) (v := ?_) rfl (by kernel_rfl) (by kernel_rfl) (by kernel_rfl) (fun _ _ _ h => h) (Or.inl ⟨by rfl, ?_⟩) (by assumption) ?_
        rotate_left
        · intro w hSw; (try dsimp only at hSw); obtain ⟨hP, hR⟩ := hSw; obtain ⟨r0, r1, r2, r3, r4, r5⟩ := cells6 hP; obtain ⟨e0, e1, e2, e3, e4, e5⟩ := rws_cells hR hlt HX.out; go_simp; try with_reducible rfl
        (try simp only [Act.put, List.setIfInBounds_toArray, List.set_cons_zero, List.set_cons_succ])
        refine wpAnyH_take (i := 2) (oi := { dst := some 25, op := Op.move (Operand.tmp 7), type := 45, pos := "ref.go:38", after := #[], guard := none }) (v := ?_) rfl (by kernel_rfl) (by kernel_rfl) (by kernel_rfl) (fun _ _ _ h => h) (Or.inl ⟨by rfl, ?_⟩) (by assumption) ?_
        rotate_left
        · intro w hSw; (try dsimp only at hSw); obtain ⟨hP, hR⟩ := hSw; obtain ⟨r0, r1, r2, r3, r4, r5⟩ := cells6 hP; obtain ⟨e0, e1, e2, e3, e4, e5⟩ := rws_cells hR hlt HX.out; go_simp; try with_reducible rfl
        (try simp only [Act.put, List.setIfInBounds_toArray, List.set_cons_zero, List.set_cons_succ])
        refine wpAnyH_take (i := 3) (oi := { dst := some 26, op := Op.move (Operand.tmp 10), type := 3, pos := "ref.go:38", after := #[], guard := none }) (v := ?_) rfl (by kernel_rfl) (by kernel_rfl) (by kernel_rfl) (fun _ _ _ h => h) (Or.inl ⟨by rfl, ?_⟩) (by assumption) ?_
        rotate_left
        · intro w hSw; (try dsimp only at hSw); obtain ⟨hP, hR⟩ := hSw; obtain ⟨r0, r1, r2, r3, r4, r5⟩ := cells6 hP; obtain ⟨e0, e1, e2, e3, e4, e5⟩ := rws_cells hR hlt HX.out; go_simp; try with_reducible rfl
        (try simp only [Act.put, List.setIfInBounds_toArray, List.set_cons_zero, List.set_cons_succ])
        refine wpAnyH_take (i := 4) (oi := { dst := some 27, op := Op.indexAddr 45 (Operand.tmp 25) (Operand.tmp 26), type := 0, pos := "ref.go:38", after := #[{ on := 2, ground := Ground.data }, { on := 3, ground := Ground.data }], guard := none }) (v := ?_) rfl (by kernel_rfl) (by kernel_rfl) (by kernel_rfl) (fun _ _ _ h => h) (Or.inl ⟨by rfl, ?_⟩) (by assumption) ?_
        rotate_left
        · intro w hSw; (try dsimp only at hSw); obtain ⟨hP, hR⟩ := hSw; obtain ⟨r0, r1, r2, r3, r4, r5⟩ := cells6 hP; obtain ⟨e0, e1, e2, e3, e4, e5⟩ := rws_cells hR hlt HX.out; go_simp; try with_reducible rfl
        (try simp only [Act.put, List.setIfInBounds_toArray, List.set_cons_zero, List.set_cons_succ])
        refine wpAnyH_take (i := 5) (oi := { dst := some 28, op := Op.load 24 (Operand.tmp 27), type := 24, pos := "ref.go:38", after := #[{ on := 4, ground := Ground.data }], guard := none }) (v := ?_) rfl (by kernel_rfl) (by kernel_rfl) (by kernel_rfl) (fun _ _ _ h => h) (Or.inl ⟨by rfl, ?_⟩) (by assumption) ?_
        rotate_left
        · intro w hSw; (try dsimp only at hSw); obtain ⟨hP, hR⟩ := hSw; obtain ⟨r0, r1, r2, r3, r4, r5⟩ := cells6 hP; obtain ⟨e0, e1, e2, e3, e4, e5⟩ := rws_cells hR hlt HX.out; go_simp; try with_reducible rfl
        (try simp only [Act.put, List.setIfInBounds_toArray, List.set_cons_zero, List.set_cons_succ])
        refine wpAnyH_ready (rs := [6]) (by kernel_rfl) (by simp) ?_
        refine AllReadyH.cons (o := { dst := some 29, op := Op.call { callee := Callee.value (Operand.func 19), args := #[Operand.tmp 23, Operand.tmp 24, Operand.tmp 28], argTypes := #[22, 39, 24] }, type := 2, pos := "ref.go:38", after := #[{ on := 0, ground := Ground.data }, { on := 1, ground := Ground.data }, { on := 5, ground := Ground.data }], guard := none }) rfl (fun K hK => ?_) AllReadyH.nil
        go_simp
        refine (HU.out Y LY.out).mono ?_
        rintro ev v1 ⟨rfl, nb⟩
        have P2 := Lib.hid (PY.out.keep nb PY.out.lt)
        have W2 := Lib.hid (WY.out.keep nb)
        have B2 := Lib.hid (BY.out.trans (nb.mono BY.out.size))
        have O2 := Lib.hid (OY.out.keep nb)
        clear nb PY WY BY OY LY
        refine hK.out _ _ ?_ (fun hHeld => ?_)
        · exact ⟨P2.out, W2.out⟩
        clear hK K
        (try simp only [Act.put, List.setIfInBounds_toArray, List.set_cons_zero, List.set_cons_succ])
        refine wpAnyH_take (i := 7) (oi := { dst := some 11, op := Op.assign (Operand.tmp 29), type := 2, pos := "ref.go:38", after := #[{ on := 6, ground := Ground.data }, { on := 6, ground := Ground.chain }, { on := 0, ground := Ground.phase }, { on := 1, ground := Ground.phase }, { on := 2, ground := Ground.phase }, { on := 3, ground := Ground.phase }, { on := 4, ground := Ground.phase }, { on := 5, ground := Ground.phase }, { on := 6, ground := Ground.phase }], guard := none }) (v := ?_) rfl (by kernel_rfl) (by kernel_rfl) (by kernel_rfl) (fun _ _ _ h => h) (Or.inl ⟨by rfl, ?_⟩) (by assumption) ?_
        rotate_left
        · intro w hSw; (try dsimp only at hSw); obtain ⟨hP, hR⟩ := hSw; obtain ⟨r0, r1, r2, r3, r4, r5⟩ := cells6 hP; obtain ⟨e0, e1, e2, e3, e4, e5⟩ := rws_cells hR hlt HX.out; go_simp; try with_reducible rfl
        (try simp only [Act.put, List.setIfInBounds_toArray, List.set_cons_zero, List.set_cons_succ])
        refine wpAnyH_done (by kernel_rfl) ?_ _
        clear hHeld
        by_cases h1 : mb < u
        · have HE := Lib.hid (Ha.out h1)
          have hd : decide (mb < u) = true := decide_eq_true h1
          have hd2 : (u == u) = true := beq_self_eq_true u
          clear Ha Hb Hc h1
          obtain ⟨e0, e1, e2, e3, e4, e5⟩ := rws_cells W2.out hlt HX.out
          have hX := heap_new v1 (.cells #[.int .i64 x0, .int .i64 x1, .int .i64 x2, .int .i64 x3, .int .i64 x4, .int .i64 x5] 24)
          have K3 := Lib.hid ((OwnR.nil v1 w3.heap.size).keep (below_new v1 (.cells #[.int .i64 x0, .int .i64 x1, .int .i64 x2, .int .i64 x3, .int .i64 x4, .int .i64 x5] 24)))
          have HB3 := Lib.hid (B2.out.trans ((below_new v1 (.cells #[.int .i64 x0, .int .i64 x1, .int .i64 x2, .int .i64 x3, .int .i64 x4, .int .i64 x5] 24)).mono B2.out.size))
          have hs3 : w3.heap.size ≤ (v1.alloc (.cells #[.int .i64 x0, .int .i64 x1, .int .i64 x2, .int .i64 x3, .int .i64 x4, .int .i64 x5] 24)).heap.size := HB3.out.size
          go_wp2_with (at_builtin; refine wpList_append_own _ rfl _ _ 45 rfl w3.heap.size 24 i1 (.agg #[.int .i64 0, .int .i64 0, .int .i64 0, .int .i64 0, .int .i64 0, .int .i64 0]) 6 48 Try.underlying45 hi1 hy0 hy1 hy2 rfl (by decide) _ _ _ rfl K3.out.1 ⟨v1.heap.size, 0, none⟩ 1 1 (cellsR [x0, x1, x2, x3, x4, x5]) rfl rfl ?c1 ?c2 ?c3 ?c4 ?c5 ?_)
          case c1 => exact World.news_of_block hX
          case c2 => exact cellsR_one _
          case c3 => unfold maxLen; first | omega | simp
          case c4 => first | omega | simp
          case c5 => have := HB3.out.size; simpa using this
          intro v' w4 hown' hgrow _
          have RR := K3.out.app (r := [x0, x1, x2, x3, x4, x5]) rfl HB3.out HB3.out.size (by exact hown') hgrow
          have K4 := Lib.hid RR.1
          have HB4 := Lib.hid RR.2
          clear RR hown' hgrow K3 HB3 hX e0 e1 e2 e3 e4 e5 P2 W2 B2 O2
          go_wp2
          go_roundw
          case rel => exact ⟨k + 1, by omega, by go_num, by rw [HRS.out, HE.out], by rw [HRS.out, HE.out]; exact K4.out, HB4.out⟩
          case measure => simp [intOf]; omega
        · have hd : decide (mb < u) = false := decide_eq_false h1
          by_cases h2 : u = mb
          · have HE := Lib.hid (Hb.out h1 h2)
            have hd2 : (u == mb) = true := beq_iff_eq.2 h2
            clear Ha Hb Hc h1 h2
            obtain ⟨e0, e1, e2, e3, e4, e5⟩ := rws_cells W2.out hlt HX.out
            have hX := heap_new v1 (.cells #[.int .i64 x0, .int .i64 x1, .int .i64 x2, .int .i64 x3, .int .i64 x4, .int .i64 x5] 24)
            have K3 := Lib.hid (O2.out.keep (below_new v1 (.cells #[.int .i64 x0, .int .i64 x1, .int .i64 x2, .int .i64 x3, .int .i64 x4, .int .i64 x5] 24)))
            have HB3 := Lib.hid (B2.out.trans ((below_new v1 (.cells #[.int .i64 x0, .int .i64 x1, .int .i64 x2, .int .i64 x3, .int .i64 x4, .int .i64 x5] 24)).mono B2.out.size))
            have hs3 : w3.heap.size ≤ (v1.alloc (.cells #[.int .i64 x0, .int .i64 x1, .int .i64 x2, .int .i64 x3, .int .i64 x4, .int .i64 x5] 24)).heap.size := HB3.out.size
            go_wp2_with (at_builtin; refine wpList_append_own _ rfl _ _ 45 rfl w3.heap.size 24 i1 (.agg #[.int .i64 0, .int .i64 0, .int .i64 0, .int .i64 0, .int .i64 0, .int .i64 0]) 6 48 Try.underlying45 hi1 hy0 hy1 hy2 rfl (by decide) _ _ _ rfl K3.out.1 ⟨v1.heap.size, 0, none⟩ 1 1 (cellsR [x0, x1, x2, x3, x4, x5]) rfl rfl ?c1 ?c2 ?c3 ?c4 ?c5 ?_)
            case c1 => exact World.news_of_block hX
            case c2 => exact cellsR_one _
            case c3 => unfold maxLen; first | omega | simp
            case c4 => first | omega | simp
            case c5 => have := HB3.out.size; simpa using this
            intro v' w4 hown' hgrow _
            have RR := K3.out.app (r := [x0, x1, x2, x3, x4, x5]) rfl HB3.out HB3.out.size (by exact hown') hgrow
            have K4 := Lib.hid RR.1
            have HB4 := Lib.hid RR.2
            clear RR hown' hgrow K3 HB3 hX e0 e1 e2 e3 e4 e5 P2 W2 B2 O2
            go_wp2
            go_roundw
            case rel => exact ⟨k + 1, by omega, by go_num, by rw [HRS.out, HE.out], by rw [HRS.out, HE.out]; exact K4.out, HB4.out⟩
            case measure => simp [intOf]; omega
          · have HE := Lib.hid (Hc.out h1 h2)
            have hd2 : (u == mb) = false := beq_eq_false_iff_ne.2 h2
            clear Ha Hb Hc h1 h2
            go_wp2
            go_roundw
            case rel => exact ⟨k + 1, by omega, by go_num, by rw [HRS.out, HE.out], by rw [HRS.out, HE.out]; exact O2.out, B2.out⟩
            case measure => simp [intOf]; omega
      · have hkn : k = rs.length := by rw [← HMN.out]; omega
        rw [hkn, List.take_length] at O0 hlen
        rw [← HE.out] at O0 hlen
        obtain ⟨A8, c8, hv8, hl8, hf8⟩ := own_form2 O0.out (by omega)
        have L8 := Lib.hid hl8
        have F8 := Lib.hid (fun ad h => Nat.le_trans S3.out.below.size (hf8 ad h))
        clear hl8 hkn hf8
        subst hv8
        go_wp2
        go_ret
        exact ⟨A8, _, c8, rfl, L8.out, F8.out, S3.out.below.trans (B0.out.mono S3.out.below.size)⟩
theorem rdemand_any (A : Option Addr) (n c : Nat) (L : List MF.Of) (hn : n ≤ 100000) (q0 q1 q2 q3 q4 q5 p0 p1 p2 p3 p4 p5 : Int) (w : World) (hL : Lst ofE w A n c L) : Calls Try.prog 24 #[.slice A n c, .agg #[.int .i64 q0, .int .i64 q1, .int .i64 q2, .int .i64 q3, .int .i64 q4, .int .i64 q5], .agg #[.int .i64 p0, .int .i64 p1, .int .i64 p2, .int .i64 p3, .int .i64 p4, .int .i64 p5]] w (GivesRws (MD.demE L [q0, q1, q2, q3, q4, q5] [p0, p1, p2, p3, p4, p5]) w) :=
  (rdemandF_any A n c L hn q0 q1 q2 q3 q4 q5 p0 p1 p2 p3 p4 p5 w hL).mono fun _ _ ⟨A', n', c', h1, h2, _, h4⟩ => ⟨A', n', c', h1, h2, h4⟩
/-- Six cells at an address. -/
def SixC (w : World) (ad : Addr) (x0 x1 x2 x3 x4 x5 : Int) : Prop := w.cell? ad = some (.int .i64 x0) ∧ w.cell? (⟨ad.block, ad.off + 1, none⟩) = some (.int .i64 x1) ∧ w.cell? (⟨ad.block, ad.off + 2, none⟩) = some (.int .i64 x2) ∧ w.cell? (⟨ad.block, ad.off + 3, none⟩) = some (.int .i64 x3) ∧ w.cell? (⟨ad.block, ad.off + 4, none⟩) = some (.int .i64 x4) ∧ w.cell? (⟨ad.block, ad.off + 5, none⟩) = some (.int .i64 x5)
theorem SixC.same {w w' : World} {ad : Addr} {x0 x1 x2 x3 x4 x5 : Int} (h : SixC w ad x0 x1 x2 x3 x4 x5) (hb : w'.heap[ad.block]? = w.heap[ad.block]?) : SixC w' ad x0 x1 x2 x3 x4 x5 := by
  obtain ⟨h0, h1, h2, h3, h4, h5⟩ := h
  exact ⟨(cell_same hb).trans h0, (cell_same (a := ⟨ad.block, ad.off + 1, none⟩) hb).trans h1, (cell_same (a := ⟨ad.block, ad.off + 2, none⟩) hb).trans h2, (cell_same (a := ⟨ad.block, ad.off + 3, none⟩) hb).trans h3, (cell_same (a := ⟨ad.block, ad.off + 4, none⟩) hb).trans h4, (cell_same (a := ⟨ad.block, ad.off + 5, none⟩) hb).trans h5⟩
theorem six_heap {w : World} {B k : Nat} (hk : k ≠ B) (u0 u1 u2 u3 u4 u5 : Value) : ((((((w.setCell ⟨B, 0, none⟩ u0).setCell ⟨B, 1, none⟩ u1).setCell ⟨B, 2, none⟩ u2).setCell ⟨B, 3, none⟩ u3).setCell ⟨B, 4, none⟩ u4).setCell ⟨B, 5, none⟩ u5).heap[k]? = w.heap[k]? := by
  rw [Below.heap_setCell _ _ _ k hk, Below.heap_setCell _ _ _ k hk, Below.heap_setCell _ _ _ k hk, Below.heap_setCell _ _ _ k hk, Below.heap_setCell _ _ _ k hk, Below.heap_setCell _ _ _ k hk]
theorem six_sz (w : World) (B : Nat) (u0 u1 u2 u3 u4 u5 : Value) : w.heap.size ≤ ((((((w.setCell ⟨B, 0, none⟩ u0).setCell ⟨B, 1, none⟩ u1).setCell ⟨B, 2, none⟩ u2).setCell ⟨B, 3, none⟩ u3).setCell ⟨B, 4, none⟩ u4).setCell ⟨B, 5, none⟩ u5).heap.size := by simp [World.setCell]
set_option maxRecDepth 100000 in
set_option maxHeartbeats 8000000 in
theorem rbest_any (A : Option Addr) (n c : Nat) (L : List MF.Of) (hn : n ≤ 100000) (q0 q1 q2 q3 q4 q5 p0 p1 p2 p3 p4 p5 : Int) (w : World) (hL : Lst ofE w A n c L) : Calls Try.prog 22 #[.slice A n c, .agg #[.int .i64 q0, .int .i64 q1, .int .i64 q2, .int .i64 q3, .int .i64 q4, .int .i64 q5], .agg #[.int .i64 p0, .int .i64 p1, .int .i64 p2, .int .i64 p3, .int .i64 p4, .int .i64 p5]] w (Gives (.tuple #[aggB (MD.bestE L [q0, q1, q2, q3, q4, q5] [p0, p1, p2, p3, p4, p5]).1, .int .i64 (MD.bestE L [q0, q1, q2, q3, q4, q5] [p0, p1, p2, p3, p4, p5]).2]) w) := by
  have hmo : Try.prog.follows .mixedOrders = true := by kernel_rfl
  have HDm := Lib.hid (fun w' (h : Lst ofE w' A n c L) => rdemandF_any A n c L hn q0 q1 q2 q3 q4 q5 p0 p1 p2 p3 p4 p5 w' h)
  have HU0 := Lib.hid (fun x0 x1 x2 x3 x4 x5 w' (h : Lst ofE w' A n c L) => rutility_any A n c L hn p0 p1 p2 p3 p4 p5 x0 x1 x2 x3 x4 x5 w' h)
  have HE0 := Lib.hid (show MD.bestE L [q0, q1, q2, q3, q4, q5] [p0, p1, p2, p3, p4, p5] = match MD.demE L [q0, q1, q2, q3, q4, q5] [p0, p1, p2, p3, p4, p5] with | [] => (VV.Z, 0) | b :: _ => (b, MD.utE L [p0, p1, p2, p3, p4, p5] b) from by rw [← MD.rbest_eq rfl rfl, ← MD.rdem_eq rfl rfl]; rfl)
  have HL0 := Lib.hid hL
  have S0 := Lib.hid (Two2.start w 24 39 q0 q1 q2 q3 q4 q5 p0 p1 p2 p3 p4 p5)
  have nb0 := below_new ((w.alloc (.cells #[.int .i64 q0, .int .i64 q1, .int .i64 q2, .int .i64 q3, .int .i64 q4, .int .i64 q5] 24)).alloc (.cells #[.int .i64 p0, .int .i64 p1, .int .i64 p2, .int .i64 p3, .int .i64 p4, .int .i64 p5] 39)) (.cells #[.int .i64 0, .int .i64 0, .int .i64 0, .int .i64 0, .int .i64 0, .int .i64 0] 24)
  have S1 := Lib.hid (S0.out.keep nb0)
  have R1 := Lib.hid (BB.new ((w.alloc (.cells #[.int .i64 q0, .int .i64 q1, .int .i64 q2, .int .i64 q3, .int .i64 q4, .int .i64 q5] 24)).alloc (.cells #[.int .i64 p0, .int .i64 p1, .int .i64 p2, .int .i64 p3, .int .i64 p4, .int .i64 p5] 39)) 24 0 0 0 0 0 0)
  rw [show ((w.alloc (.cells #[.int .i64 q0, .int .i64 q1, .int .i64 q2, .int .i64 q3, .int .i64 q4, .int .i64 q5] 24)).alloc (.cells #[.int .i64 p0, .int .i64 p1, .int .i64 p2, .int .i64 p3, .int .i64 p4, .int .i64 p5] 39)).heap.size = w.heap.size + 2 from by simp] at R1
  have hs1 : (((w.alloc (.cells #[.int .i64 q0, .int .i64 q1, .int .i64 q2, .int .i64 q3, .int .i64 q4, .int .i64 q5] 24)).alloc (.cells #[.int .i64 p0, .int .i64 p1, .int .i64 p2, .int .i64 p3, .int .i64 p4, .int .i64 p5] 39)).alloc (.cells #[.int .i64 0, .int .i64 0, .int .i64 0, .int .i64 0, .int .i64 0, .int .i64 0] 24)).heap.size = w.heap.size + 3 := by simp
  clear hL nb0 S0
  go_enter Try.func22, Try.ntmps22
  go_upto_region 1 with (fail)
  generalize ((w.alloc (.cells #[.int .i64 q0, .int .i64 q1, .int .i64 q2, .int .i64 q3, .int .i64 q4, .int .i64 q5] 24)).alloc (.cells #[.int .i64 p0, .int .i64 p1, .int .i64 p2, .int .i64 p3, .int .i64 p4, .int .i64 p5] 39)).alloc (.cells #[.int .i64 0, .int .i64 0, .int .i64 0, .int .i64 0, .int .i64 0, .int .i64 0] 24) = w1 at *
  obtain ⟨r0, r1, r2, r3, r4, r5⟩ := cells6 S1.out.x
  obtain ⟨s0, s1, s2, s3, s4, s5⟩ := cells6 S1.out.y
  go_wp2_with fail
  refine (HDm.out _ (HL0.out.keep S1.out.below)).mono ?_
  rintro ev w2 ⟨A2, m, cm, rfl, hrw, hfr, nb⟩
  have S2 := Lib.hid (S1.out.keep nb)
  have R2 := Lib.hid (R1.out.keep nb R1.out.lt)
  have hlen := hrw.len
  have hmf : m ≤ 9223372036854775807 := by have := hrw.few; omega
  clear r0 r1 r2 r3 r4 r5 s0 s1 s2 s3 s4 s5 nb S1 R1
  generalize MD.demE L [q0, q1, q2, q3, q4, q5] [p0, p1, p2, p3, p4, p5] = D at *
  cases D with
  | nil =>
    obtain rfl : 0 = m := hlen
    have HE := Lib.hid (show MD.bestE L [q0, q1, q2, q3, q4, q5] [p0, p1, p2, p3, p4, p5] = (VV.Z, 0) from HE0.out)
    obtain ⟨z0, z1, z2, z3, z4, z5⟩ := cells6 R2.out
    obtain ⟨f0, f1, f2, f3, f4, f5⟩ := free6 R2.out
    obtain ⟨y0, y1, y2, y3, y4, y5⟩ := cells6 (R2.out.six 0 0 0 0 0 0)
    have HBL := Lib.hid (below_six S2.out.below (w.heap.size + 2) (by omega) (.int .i64 0) (.int .i64 0) (.int .i64 0) (.int .i64 0) (.int .i64 0) (.int .i64 0))
    have hz := R2.out.lt
    clear hrw hfr hs1 HE0
    go_wp2
    refine bodyPost_ret (v := .tuple #[.agg #[.int .i64 0, .int .i64 0, .int .i64 0, .int .i64 0, .int .i64 0, .int .i64 0], .int .i64 0]) (by simp [results, Try.results22, go_sem, y0, y1, y2, y3, y4, y5]) rfl ⟨by rw [HE.out]; rfl, HBL.out⟩
  | cons x rs =>
    have hm0 : 0 < m := by rw [← hlen]; exact Nat.succ_pos _
    obtain ⟨ad, x0, x1, x2, x3, x4, x5, rfl, hx, hadl, _⟩ := hrw.at_ hm0
    have hx' : x = [x0, x1, x2, x3, x4, x5] := by simpa using hx
    subst hx'
    have HW2 := Lib.hid (show SixC w2 ad x0 x1 x2 x3 x4 x5 from rws_cells0 hrw hm0)
    have HFA := Lib.hid (show ad.block ≠ w.heap.size + 2 from by have := hfr ad rfl; omega)
    have HU := Lib.hid (HU0.out x0 x1 x2 x3 x4 x5)
    have HE1 := Lib.hid (show MD.bestE L [q0, q1, q2, q3, q4, q5] [p0, p1, p2, p3, p4, p5] = ([x0, x1, x2, x3, x4, x5], MD.utE L [p0, p1, p2, p3, p4, p5] [x0, x1, x2, x3, x4, x5]) from HE0.out)
    have HAL := Lib.hid hadl
    have hd : ((m : Int) == 0) = false := by rw [beq_eq_false_iff_ne]; omega
    obtain ⟨u, hu⟩ : ∃ u, u = MD.utE L [p0, p1, p2, p3, p4, p5] [x0, x1, x2, x3, x4, x5] := ⟨_, rfl⟩
    rw [← hu] at HU HE1
    have HE := HE1
    clear hu HE0 HE1 hrw hfr hlen hx hadl hs1
    go_upto_region 4 with (fail)
    have HP := Lib.hid (S2.out.y.keep (below_drawn w2) S2.out.y.lt)
    have HW := Lib.hid (HW2.out.same ((below_drawn w2).block _ HAL.out))
    have HR := Lib.hid (R2.out.keep (below_drawn w2) R2.out.lt)
    have HBl := Lib.hid (S2.out.below.trans ((below_drawn w2).mono S2.out.below.size))
    have HAY := Lib.hid (show ad.block < w2.drew.heap.size from HAL.out)
    clear S2 R2 HW2 HAL hd
    refine wp_region_held_drew (S := fun w' => BB w' (w.heap.size + 1) 39 [p0, p1, p2, p3, p4, p5] ∧ SixC w' ad x0 x1 x2 x3 x4 x5) hmo ⟨HP.out, HW.out⟩ (fun hHeld => ?_)
    generalize w2.drew = Y at *
    refine wpAnyH_take (i := 0) (oi := { dst := some 17, op := Op.move (Operand.tmp 8), type := 45, pos := "ref.go:56", after := #[], guard := none }) (v := ?_) rfl (by kernel_rfl) (by kernel_rfl) (by kernel_rfl) (fun _ _ _ h => h) (Or.inl ⟨by rfl, ?_⟩) (by assumption) ?_
    rotate_left
    · intro w hSw; (try dsimp only at hSw); obtain ⟨hP, hR⟩ := hSw; obtain ⟨r0, r1, r2, r3, r4, r5⟩ := cells6 hP; obtain ⟨e0, e1, e2, e3, e4, e5⟩ := hR; go_simp; try with_reducible rfl
    (try simp only [Act.put, List.setIfInBounds_toArray, List.set_cons_zero, List.set_cons_succ])
    refine wpAnyH_take (i := 1) (oi := { dst := some 18, op := Op.indexAddr 45 (Operand.tmp 17) (Operand.const (Value.int IntKind.i64 0)), type := 0, pos := "ref.go:56", after := #[{ on := 0, ground := Ground.data }], guard := none }) (v := ?_) rfl (by kernel_rfl) (by kernel_rfl) (by kernel_rfl) (fun _ _ _ h => h) (Or.inl ⟨by rfl, ?_⟩) (by assumption) ?_
    rotate_left
    · intro w hSw; (try dsimp only at hSw); obtain ⟨hP, hR⟩ := hSw; obtain ⟨r0, r1, r2, r3, r4, r5⟩ := cells6 hP; obtain ⟨e0, e1, e2, e3, e4, e5⟩ := hR; go_simp; try with_reducible rfl
    (try simp only [Act.put, List.setIfInBounds_toArray, List.set_cons_zero, List.set_cons_succ])
    refine wpAnyH_take (i := 2) (oi := { dst := some 19, op := Op.load 24 (Operand.tmp 18), type := 24, pos := "ref.go:56", after := #[{ on := 1, ground := Ground.data }], guard := none }) (v := ?_) rfl (by kernel_rfl) (by kernel_rfl) (by kernel_rfl) (fun _ _ _ h => h) (Or.inl ⟨by rfl, ?_⟩) (by assumption) ?_
    rotate_left
    · intro w hSw; (try dsimp only at hSw); obtain ⟨hP, hR⟩ := hSw; obtain ⟨r0, r1, r2, r3, r4, r5⟩ := cells6 hP; obtain ⟨e0, e1, e2, e3, e4, e5⟩ := hR; go_simp; try with_reducible rfl
    (try simp only [Act.put, List.setIfInBounds_toArray, List.set_cons_zero, List.set_cons_succ])
    refine wpAnyH_take (i := 3) (oi := { dst := some 20, op := Op.move (Operand.tmp 0), type := 22, pos := "ref.go:56", after := #[], guard := none }) (v := ?_) rfl (by kernel_rfl) (by kernel_rfl) (by kernel_rfl) (fun _ _ _ h => h) (Or.inl ⟨by rfl, ?_⟩) (by assumption) ?_
    rotate_left
    · intro w hSw; (try dsimp only at hSw); obtain ⟨hP, hR⟩ := hSw; obtain ⟨r0, r1, r2, r3, r4, r5⟩ := cells6 hP; obtain ⟨e0, e1, e2, e3, e4, e5⟩ := hR; go_simp; try with_reducible rfl
    (try simp only [Act.put, List.setIfInBounds_toArray, List.set_cons_zero, List.set_cons_succ])
    refine wpAnyH_take (i := 4) (oi := { dst := some 21, op := Op.load 39 (Operand.tmp 5), type := 39, pos := "ref.go:56", after := #[], guard := none }) (v := ?_) rfl (by kernel_rfl) (by kernel_rfl) (by kernel_rfl) (fun _ _ _ h => h) (Or.inl ⟨by rfl, ?_⟩) (by assumption) ?_
    rotate_left
    · intro w hSw; (try dsimp only at hSw); obtain ⟨hP, hR⟩ := hSw; obtain ⟨r0, r1, r2, r3, r4, r5⟩ := cells6 hP; obtain ⟨e0, e1, e2, e3, e4, e5⟩ := hR; go_simp; try with_reducible rfl
    (try simp only [Act.put, List.setIfInBounds_toArray, List.set_cons_zero, List.set_cons_succ])
    refine wpAnyH_take (i := 5) (oi := { dst := some 22, op := Op.move (Operand.tmp 8), type := 45, pos := "ref.go:56", after := #[], guard := none }) (v := ?_) rfl (by kernel_rfl) (by kernel_rfl) (by kernel_rfl) (fun _ _ _ h => h) (Or.inl ⟨by rfl, ?_⟩) (by assumption) ?_
    rotate_left
    · intro w hSw; (try dsimp only at hSw); obtain ⟨hP, hR⟩ := hSw; obtain ⟨r0, r1, r2, r3, r4, r5⟩ := cells6 hP; obtain ⟨e0, e1, e2, e3, e4, e5⟩ := hR; go_simp; try with_reducible rfl
    (try simp only [Act.put, List.setIfInBounds_toArray, List.set_cons_zero, List.set_cons_succ])
    refine wpAnyH_take (i := 6) (oi := { dst := some 23, op := Op.indexAddr 45 (Operand.tmp 22) (Operand.const (Value.int IntKind.i64 0)), type := 0, pos := "ref.go:56", after := #[{ on := 5, ground := Ground.data }], guard := none }) (v := ?_) rfl (by kernel_rfl) (by kernel_rfl) (by kernel_rfl) (fun _ _ _ h => h) (Or.inl ⟨by rfl, ?_⟩) (by assumption) ?_
    rotate_left
    · intro w hSw; (try dsimp only at hSw); obtain ⟨hP, hR⟩ := hSw; obtain ⟨r0, r1, r2, r3, r4, r5⟩ := cells6 hP; obtain ⟨e0, e1, e2, e3, e4, e5⟩ := hR; go_simp; try with_reducible rfl
    (try simp only [Act.put, List.setIfInBounds_toArray, List.set_cons_zero, List.set_cons_succ])
    refine wpAnyH_take (i := 7) (oi := { dst := some 24, op := Op.load 24 (Operand.tmp 23), type := 24, pos := "ref.go:56", after := #[{ on := 6, ground := Ground.data }], guard := none }) (v := ?_) rfl (by kernel_rfl) (by kernel_rfl) (by kernel_rfl) (fun _ _ _ h => h) (Or.inl ⟨by rfl, ?_⟩) (by assumption) ?_
    rotate_left
    · intro w hSw; (try dsimp only at hSw); obtain ⟨hP, hR⟩ := hSw; obtain ⟨r0, r1, r2, r3, r4, r5⟩ := cells6 hP; obtain ⟨e0, e1, e2, e3, e4, e5⟩ := hR; go_simp; try with_reducible rfl
    (try simp only [Act.put, List.setIfInBounds_toArray, List.set_cons_zero, List.set_cons_succ])
    refine wpAnyH_ready (rs := [8]) (by kernel_rfl) (by simp) ?_
    refine AllReadyH.cons (o := { dst := some 25, op := Op.call { callee := Callee.value (Operand.func 19), args := #[Operand.tmp 20, Operand.tmp 21, Operand.tmp 24], argTypes := #[22, 39, 24] }, type := 2, pos := "ref.go:56", after := #[{ on := 3, ground := Ground.data }, { on := 4, ground := Ground.data }, { on := 7, ground := Ground.data }], guard := none }) rfl (fun K hK => ?_) AllReadyH.nil
    go_simp
    refine (HU.out Y (HL0.out.keep HBl.out)).mono ?_
    rintro ev v1 ⟨rfl, nb⟩
    replace HP := Lib.hid (HP.out.keep nb HP.out.lt)
    replace HW := Lib.hid (HW.out.same (nb.block _ HAY.out))
    replace HAY := Lib.hid (Nat.lt_of_lt_of_le HAY.out nb.size)
    replace HR := Lib.hid (HR.out.keep nb HR.out.lt)
    replace HBl := Lib.hid (HBl.out.trans (nb.mono HBl.out.size))
    clear nb
    refine hK.out _ _ ?_ (fun hHeld => ?_)
    · exact ⟨HP.out, HW.out⟩
    clear hK K
    (try simp only [Act.put, List.setIfInBounds_toArray, List.set_cons_zero, List.set_cons_succ])
    refine wpAnyH_ready (rs := [9]) (by kernel_rfl) (by simp) ?_
    refine AllReadyH.cons (o := { dst := none, op := Op.store 24 (Operand.tmp 6) (Operand.tmp 19), type := 0, pos := "ref.go:56", after := #[{ on := 2, ground := Ground.data }, { on := 8, ground := Ground.chain }, { on := 0, ground := Ground.phase }, { on := 1, ground := Ground.phase }, { on := 2, ground := Ground.phase }, { on := 3, ground := Ground.textOnly Departure.lateStores }, { on := 4, ground := Ground.textOnly Departure.lateStores }, { on := 5, ground := Ground.textOnly Departure.lateStores }, { on := 6, ground := Ground.textOnly Departure.lateStores }, { on := 7, ground := Ground.textOnly Departure.lateStores }, { on := 8, ground := Ground.textOnly Departure.lateStoresUnsure }], guard := none }) rfl (fun K hK => ?_) AllReadyH.nil
    obtain ⟨f0, f1, f2, f3, f4, f5⟩ := free6 HR.out
    obtain ⟨z0, z1, z2, z3, z4, z5⟩ := cells6 HR.out
    skip
    go_simp
    replace HP := Lib.hid (HP.out.six_other (B := w.heap.size + 2) (by omega) x0 x1 x2 x3 x4 x5)
    replace HW := Lib.hid (HW.out.same (six_heap HFA.out (.int .i64 x0) (.int .i64 x1) (.int .i64 x2) (.int .i64 x3) (.int .i64 x4) (.int .i64 x5)))
    replace HAY := Lib.hid (Nat.lt_of_lt_of_le HAY.out (six_sz v1 (w.heap.size + 2) (.int .i64 x0) (.int .i64 x1) (.int .i64 x2) (.int .i64 x3) (.int .i64 x4) (.int .i64 x5)))
    replace HBl := Lib.hid (below_six HBl.out (w.heap.size + 2) (by omega) (.int .i64 x0) (.int .i64 x1) (.int .i64 x2) (.int .i64 x3) (.int .i64 x4) (.int .i64 x5))
    replace HR := Lib.hid (HR.out.six x0 x1 x2 x3 x4 x5)
    generalize ((((((v1.setCell ⟨w.heap.size + 2, 0, none⟩ (.int .i64 x0)).setCell ⟨w.heap.size + 2, 1, none⟩ (.int .i64 x1)).setCell ⟨w.heap.size + 2, 2, none⟩ (.int .i64 x2)).setCell ⟨w.heap.size + 2, 3, none⟩ (.int .i64 x3)).setCell ⟨w.heap.size + 2, 4, none⟩ (.int .i64 x4)).setCell ⟨w.heap.size + 2, 5, none⟩ (.int .i64 x5)) = w2s at *
    clear f0 f1 f2 f3 f4 f5 z0 z1 z2 z3 z4 z5
    refine hK.out _ _ ?_ (fun hHeld => ?_)
    · exact ⟨HP.out, HW.out⟩
    clear hK K
    (try simp only [Act.put, List.setIfInBounds_toArray, List.set_cons_zero, List.set_cons_succ])
    refine wpAnyH_take (i := 10) (oi := { dst := some 7, op := Op.assign (Operand.tmp 25), type := 2, pos := "ref.go:56", after := #[{ on := 8, ground := Ground.data }, { on := 9, ground := Ground.chain }, { on := 0, ground := Ground.phase }, { on := 1, ground := Ground.phase }, { on := 2, ground := Ground.phase }, { on := 3, ground := Ground.phase }, { on := 4, ground := Ground.phase }, { on := 5, ground := Ground.phase }, { on := 6, ground := Ground.phase }, { on := 7, ground := Ground.phase }, { on := 8, ground := Ground.phase }, { on := 9, ground := Ground.phase }], guard := none }) (v := ?_) rfl (by kernel_rfl) (by kernel_rfl) (by kernel_rfl) (fun _ _ _ h => h) (Or.inl ⟨by rfl, ?_⟩) (by assumption) ?_
    rotate_left
    · intro w hSw; (try dsimp only at hSw); obtain ⟨hP, hR⟩ := hSw; obtain ⟨r0, r1, r2, r3, r4, r5⟩ := cells6 hP; obtain ⟨e0, e1, e2, e3, e4, e5⟩ := hR; go_simp; try with_reducible rfl
    (try simp only [Act.put, List.setIfInBounds_toArray, List.set_cons_zero, List.set_cons_succ])
    refine wpAnyH_done (by kernel_rfl) ?_ _
    clear hHeld
    obtain ⟨z0, z1, z2, z3, z4, z5⟩ := cells6 HR.out
    have hz := HR.out.lt
    go_wp2
    refine bodyPost_ret (v := .tuple #[.agg #[.int .i64 x0, .int .i64 x1, .int .i64 x2, .int .i64 x3, .int .i64 x4, .int .i64 x5], .int .i64 u]) (by simp [results, Try.results22, go_sem, z0, z1, z2, z3, z4, z5]) rfl ⟨by rw [HE.out]; rfl, HBl.out⟩
end Go.Proofs.Ytjjpfpgjpmedmaa
namespace Go.Proofs.Ytjjpfpgjpmedmaa
open Go.RowKit
attribute [local go_sem] Oper.semAt_some
/-- Prices as an element. -/
def prE : El (List Int) where
  cells x := x.map (Value.int .i64)
  sz := 6
  fine x := x.length = 6
  len x h := by rw [List.length_map, h]
  one a u hu := by
    obtain ⟨x, _, rfl⟩ := List.mem_map.1 hu
    rfl
  pos := by decide
theorem pr_at {w : World} {A : Option Addr} {n c : Nat} {l : List (List Int)} (h : Lst prE w A n c l) {k : Nat} (hk : k < n) : ∃ (ad : Addr) (x0 x1 x2 x3 x4 x5 : Int), A = some ad ∧ l[k]? = some [x0, x1, x2, x3, x4, x5] ∧ ad.block < w.heap.size ∧
    w.cell? (ad.add (k * 6)) = some (.int .i64 x0) ∧ w.cell? ⟨(ad.add (k * 6)).block, (ad.add (k * 6)).off + 1, none⟩ = some (.int .i64 x1) ∧
    w.cell? ⟨(ad.add (k * 6)).block, (ad.add (k * 6)).off + 2, none⟩ = some (.int .i64 x2) ∧ w.cell? ⟨(ad.add (k * 6)).block, (ad.add (k * 6)).off + 3, none⟩ = some (.int .i64 x3) ∧
    w.cell? ⟨(ad.add (k * 6)).block, (ad.add (k * 6)).off + 4, none⟩ = some (.int .i64 x4) ∧ w.cell? ⟨(ad.add (k * 6)).block, (ad.add (k * 6)).off + 5, none⟩ = some (.int .i64 x5) := by
  obtain ⟨ad, x, e, hx, hf, hb, hc⟩ := h.at0 hk
  obtain ⟨x0, x1, x2, x3, x4, x5, rfl⟩ := six (show x.length = 6 from hf)
  refine ⟨ad, x0, x1, x2, x3, x4, x5, e, hx, hb, ?_, ?_, ?_, ?_, ?_, ?_⟩
  · have := hc 0 _ rfl; rwa [show ∀ a : Addr, a.add 0 = a from fun a => by unfold Addr.add; simp] at this
  · have := hc 1 _ rfl; exact this
  · have := hc 2 _ rfl; exact this
  · have := hc 3 _ rfl; exact this
  · have := hc 4 _ rfl; exact this
  · have := hc 5 _ rfl; exact this
theorem pr_cells {w : World} {ad : Addr} {n c k : Nat} {l : List (List Int)} (h : Lst prE w (some ad) n c l) (hk : k < n) {x0 x1 x2 x3 x4 x5 : Int} (hp : l[k]? = some [x0, x1, x2, x3, x4, x5]) :
    w.cell? (ad.add (k * 6)) = some (.int .i64 x0) ∧ w.cell? ⟨(ad.add (k * 6)).block, (ad.add (k * 6)).off + 1, none⟩ = some (.int .i64 x1) ∧
    w.cell? ⟨(ad.add (k * 6)).block, (ad.add (k * 6)).off + 2, none⟩ = some (.int .i64 x2) ∧ w.cell? ⟨(ad.add (k * 6)).block, (ad.add (k * 6)).off + 3, none⟩ = some (.int .i64 x3) ∧
    w.cell? ⟨(ad.add (k * 6)).block, (ad.add (k * 6)).off + 4, none⟩ = some (.int .i64 x4) ∧ w.cell? ⟨(ad.add (k * 6)).block, (ad.add (k * 6)).off + 5, none⟩ = some (.int .i64 x5) := by
  obtain ⟨ad', y0, y1, y2, y3, y4, y5, e, hp', _, h0⟩ := pr_at h hk
  injection e with e
  rw [hp] at hp'
  injection hp' with hp'
  simp only [List.cons.injEq, and_true] at hp'
  obtain ⟨rfl, rfl, rfl, rfl, rfl, rfl⟩ := hp'
  subst e
  exact h0
theorem infoCho : (Try.prog.info? 57).map (fun i => (i.zero, i.size, i.bytes)) = some (some (.agg #[.int .i64 0, .int .i64 0, .int .i64 0, .int .i64 0, .int .i64 0, .int .i64 0, .int .i64 0, .int .i64 0, .int .i64 0, .int .i64 0, .int .i64 0, .int .i64 0]), 12, 96) := by kernel_rfl
/-- The choices so far, over what lay at w1. -/
structure Pt (w1 : World) (v : Value) (cs : List C12) (X : World) : Prop where
  below : Below w1.heap.size w1 X
  own : OwnL c12E 57 X w1.heap.size v cs
section
variable {w1 X Y : World} {v v' : Value} {cs : List C12} {o : C12}
theorem Pt.hs (h : Pt w1 v cs X) : w1.heap.size ≤ X.heap.size := h.below.size
theorem Pt.keep (h : Pt w1 v cs X) (hb : Below X.heap.size X Y) : Pt w1 v cs Y := ⟨h.below.trans (hb.mono h.below.size), h.own.keep hb⟩
theorem Pt.app (h : Pt w1 v cs X) (hown : Y.ownsRow w1.heap.size 57 12 v' (cs.length + 1) (c12E.all cs ++ c12E.cells o)) (hg : X.grownBy Y v.ownBlock) : Pt w1 v' (cs ++ [o]) Y :=
  ⟨h.below.grown hg h.below.size (fun k hk => (World.ownsRow.lt h.own.1 k hk).1), ⟨by rw [El.all_append, El.all_one, List.length_append]; exact hown, h.own.2.snoc trivial⟩⟩
theorem Pt.off (h : Pt w1 v cs X) : w1.heap.size ≤ X.heap.size ∧ ∀ r, v.ownBlock = some r → r ≠ X.heap.size := ⟨h.below.size, fun r q => by have := (World.ownsRow.lt h.own.1 r q).2; omega⟩
theorem Pt.six (h : Pt w1 v cs X) {B : Nat} (hB : w1.heap.size ≤ B) (hne : ∀ r, v.ownBlock = some r → r ≠ B) (u0 u1 u2 u3 u4 u5 : Value) : Pt w1 v cs ((((((X.setCell ⟨B, 0, none⟩ u0).setCell ⟨B, 1, none⟩ u1).setCell ⟨B, 2, none⟩ u2).setCell ⟨B, 3, none⟩ u3).setCell ⟨B, 4, none⟩ u4).setCell ⟨B, 5, none⟩ u5) := by
  have e : ((((((X.setCell ⟨B, 0, none⟩ u0).setCell ⟨B, 1, none⟩ u1).setCell ⟨B, 2, none⟩ u2).setCell ⟨B, 3, none⟩ u3).setCell ⟨B, 4, none⟩ u4).setCell ⟨B, 5, none⟩ u5) = sets X B 0 [u0, u1, u2, u3, u4, u5] := by simp only [sets, Nat.zero_add, Nat.reduceAdd]
  have hb := below_six h.below B hB u0 u1 u2 u3 u4 u5
  rw [e] at hb ⊢
  refine ⟨hb, World.ownsRow.kept (row := some B) h.own.1 (sets_grown (w := X) (g := B) [u0, u1, u2, u3, u4, u5] 0) ?_, h.own.2⟩
  cases hu : v.ownBlock with
  | none => exact .inl rfl
  | some j => exact .inr fun q => by injection q with q; exact hne j hu q
end
theorem path_take {L : List MF.Of} {s : List Int} {ps : List (List Int)} {k : Nat} {p : List Int} (h : ps[k]? = some p) : pathE L s (ps.take (k + 1)) = pathE L s (ps.take k) ++ [c12 p (MD.bestE L s p).1] := by
  unfold pathE; rw [take_snoc' h, List.map_append]; rfl
theorem path_len (L : List MF.Of) (s : List Int) (ps : List (List Int)) (k : Nat) : (pathE L s (ps.take k)).length ≤ k := by
  unfold pathE; rw [List.length_map, List.length_take]; omega
set_option maxRecDepth 100000 in
set_option maxHeartbeats 8000000 in
theorem rpath_any (A : Option Addr) (n c : Nat) (L : List MF.Of) (hn : n ≤ 100000) (q0 q1 q2 q3 q4 q5 : Int) (A2 : Option Addr) (n2 c2 : Nat) (ps : List (List Int)) (hn2 : n2 ≤ 1000) (w : World) (hL : Lst ofE w A n c L) (hps : Lst prE w A2 n2 c2 ps) : Calls Try.prog 29 #[.slice A n c, .agg #[.int .i64 q0, .int .i64 q1, .int .i64 q2, .int .i64 q3, .int .i64 q4, .int .i64 q5], .slice A2 n2 c2] w (GivesL c12E (pathE L [q0, q1, q2, q3, q4, q5] ps) w) := by
  have hmo : Try.prog.follows .mixedOrders = true := by kernel_rfl
  obtain ⟨i1, hi1, hy0, hy1, hy2⟩ := info_parts infoCho
  have nb0 := below_new w (.cells #[.int .i64 q0, .int .i64 q1, .int .i64 q2, .int .i64 q3, .int .i64 q4, .int .i64 q5] 24)
  have B0 := Lib.hid nb0
  have S0 := Lib.hid (BB.new w 24 q0 q1 q2 q3 q4 q5)
  have HL0 := Lib.hid hL
  have HPs0 := Lib.hid hps
  have HPL := Lib.hid hps.len
  clear nb0 hL hps
  go_enter Try.func29, Try.ntmps29
  go_upto_region 1 with (fail)
  generalize w.alloc (.cells #[.int .i64 q0, .int .i64 q1, .int .i64 q2, .int .i64 q3, .int .i64 q4, .int .i64 q5] 24) = w1 at *
  have HS := Lib.hid (fun X (h : Below w1.heap.size w1 X) => S0.out.keep h S0.out.lt)
  have HPs := Lib.hid (fun X (h : Below w1.heap.size w1 X) => (HPs0.out.keep B0.out).keep h)
  have HBst0 := Lib.hid (fun p0 p1 p2 p3 p4 p5 X (h : Below w1.heap.size w1 X) => rbest_any A n c L hn q0 q1 q2 q3 q4 q5 p0 p1 p2 p3 p4 p5 X ((HL0.out.keep B0.out).keep h))
  have HI := Lib.hid (show Pt w1 (.slice none 0 0) (pathE L [q0, q1, q2, q3, q4, q5] (ps.take 0)) w1 from ⟨Below.refl _ _, OwnL.nil _ _ _⟩)
  go_wp2_with fail
  go_loopw [7, 8] (fun v i wr => ∃ k : Nat, k ≤ n2 ∧ i = .int .i64 k ∧ Pt w1 v (pathE L [q0, q1, q2, q3, q4, q5] (ps.take k)) wr) (fun _ i _ => n2 - (intOf i).toNat)
  case atStart => exact ⟨0, Nat.zero_le _, rfl, HI.out⟩
  case round =>
      obtain ⟨k, hk, rfl, hst⟩ := hrel
      have HT0 := Lib.hid hst
      clear hst HI
      by_cases hlt : k < n2
      · obtain ⟨ad, p0, p1, p2, p3, p4, p5, rfl, hrow, hadl, _⟩ := pr_at (HPs.out _ HT0.out.below) hlt
        have HX := Lib.hid hrow
        have HNX0 := Lib.hid (path_take (L := L) (s := [q0, q1, q2, q3, q4, q5]) hrow)
        obtain ⟨E, hE⟩ : ∃ E, E = MD.bestE L [q0, q1, q2, q3, q4, q5] [p0, p1, p2, p3, p4, p5] := ⟨_, rfl⟩
        have h6 : E.1.length = 6 := by rw [hE]; exact (MD.best_in rfl).1
        obtain ⟨eb, mv⟩ := E
        obtain ⟨m0, m1, m2, m3, m4, m5, rfl⟩ := six h6
        have HNX := Lib.hid (show pathE L [q0, q1, q2, q3, q4, q5] (ps.take k) ++ [(⟨p0, p1, p2, p3, p4, p5, m0, m1, m2, m3, m4, m5⟩ : C12)] = pathE L [q0, q1, q2, q3, q4, q5] (ps.take (k + 1)) from by rw [HNX0.out, ← hE]; rfl)
        have HBest := Lib.hid (fun X (h : Below w1.heap.size w1 X) => show Calls Try.prog _ _ X (Gives (.tuple #[.agg #[.int .i64 m0, .int .i64 m1, .int .i64 m2, .int .i64 m3, .int .i64 m4, .int .i64 m5], .int .i64 mv]) X) from by have h0 := HBst0.out p0 p1 p2 p3 p4 p5 X h; rw [← hE] at h0; exact h0)
        clear HNX0 h6 hE hrow
        have hplen := path_len L [q0, q1, q2, q3, q4, q5] ps k
        obtain ⟨Rs', hRS⟩ : ∃ R, R = pathE L [q0, q1, q2, q3, q4, q5] (ps.take (k + 1)) := ⟨_, rfl⟩
        rw [← hRS] at HNX
        have HRS := Lib.hid hRS.symm
        clear hRS
        generalize pathE L [q0, q1, q2, q3, q4, q5] (ps.take k) = Rs at *
        clear hadl
        go_upto_region 5 with (fail)
        have HT := Lib.hid (HT0.out.keep (below_drawn wr))
        clear HT0
        refine wp_region_held_drew (S := fun w' => BB w' w.heap.size 24 [q0, q1, q2, q3, q4, q5] ∧ Lst prE w' (some ad) n2 c2 ps) hmo ⟨HS.out _ HT.out.below, HPs.out _ HT.out.below⟩ (fun hHeld => ?_)
        generalize wr.drew = Y at *
        refine wpAnyH_take (i := 0) (oi := { dst := some 18, op := Op.move (Operand.tmp 0), type := 22, pos := "ref.go:63", after := #[], guard := none }) (v := ?_) rfl (by kernel_rfl) (by kernel_rfl) (by kernel_rfl) (fun _ _ _ h => h) (Or.inl ⟨by rfl, ?_⟩) (by assumption) ?_
        rotate_left
        · intro w hSw; (try dsimp only at hSw); obtain ⟨hB, hLs⟩ := hSw; obtain ⟨r0, r1, r2, r3, r4, r5⟩ := cells6 hB; obtain ⟨e0, e1, e2, e3, e4, e5⟩ := pr_cells hLs hlt HX.out; go_simp; try with_reducible rfl
        (try simp only [Act.put, List.setIfInBounds_toArray, List.set_cons_zero, List.set_cons_succ])
        refine wpAnyH_take (i := 1) (oi := { dst := some 19, op := Op.load 24 (Operand.tmp 4), type := 24, pos := "ref.go:63", after := #[], guard := none }) (v := ?_) rfl (by kernel_rfl) (by kernel_rfl) (by kernel_rfl) (fun _ _ _ h => h) (Or.inl ⟨by rfl, ?_⟩) (by assumption) ?_
        rotate_left
        · intro w hSw; (try dsimp only at hSw); obtain ⟨hB, hLs⟩ := hSw; obtain ⟨r0, r1, r2, r3, r4, r5⟩ := cells6 hB; obtain ⟨e0, e1, e2, e3, e4, e5⟩ := pr_cells hLs hlt HX.out; go_simp; try with_reducible rfl
        (try simp only [Act.put, List.setIfInBounds_toArray, List.set_cons_zero, List.set_cons_succ])
        refine wpAnyH_take (i := 2) (oi := { dst := some 20, op := Op.move (Operand.tmp 2), type := 53, pos := "ref.go:63", after := #[], guard := none }) (v := ?_) rfl (by kernel_rfl) (by kernel_rfl) (by kernel_rfl) (fun _ _ _ h => h) (Or.inl ⟨by rfl, ?_⟩) (by assumption) ?_
        rotate_left
        · intro w hSw; (try dsimp only at hSw); obtain ⟨hB, hLs⟩ := hSw; obtain ⟨r0, r1, r2, r3, r4, r5⟩ := cells6 hB; obtain ⟨e0, e1, e2, e3, e4, e5⟩ := pr_cells hLs hlt HX.out; go_simp; try with_reducible rfl
        (try simp only [Act.put, List.setIfInBounds_toArray, List.set_cons_zero, List.set_cons_succ])
        refine wpAnyH_take (i := 3) (oi := { dst := some 21, op := Op.move (Operand.tmp 8), type := 3, pos := "ref.go:63", after := #[], guard := none }) (v := ?_) rfl (by kernel_rfl) (by kernel_rfl) (by kernel_rfl) (fun _ _ _ h => h) (Or.inl ⟨by rfl, ?_⟩) (by assumption) ?_
        rotate_left
        · intro w hSw; (try dsimp only at hSw); obtain ⟨hB, hLs⟩ := hSw; obtain ⟨r0, r1, r2, r3, r4, r5⟩ := cells6 hB; obtain ⟨e0, e1, e2, e3, e4, e5⟩ := pr_cells hLs hlt HX.out; go_simp; try with_reducible rfl
        (try simp only [Act.put, List.setIfInBounds_toArray, List.set_cons_zero, List.set_cons_succ])
        refine wpAnyH_take (i := 4) (oi := { dst := some 22, op := Op.indexAddr 53 (Operand.tmp 20) (Operand.tmp 21), type := 0, pos := "ref.go:63", after := #[{ on := 2, ground := Ground.data }, { on := 3, ground := Ground.data }], guard := none }) (v := ?_) rfl (by kernel_rfl) (by kernel_rfl) (by kernel_rfl) (fun _ _ _ h => h) (Or.inl ⟨by rfl, ?_⟩) (by assumption) ?_
        rotate_left
        · intro w hSw; (try dsimp only at hSw); obtain ⟨hB, hLs⟩ := hSw; obtain ⟨r0, r1, r2, r3, r4, r5⟩ := cells6 hB; obtain ⟨e0, e1, e2, e3, e4, e5⟩ := pr_cells hLs hlt HX.out; go_simp; try with_reducible rfl
        (try simp only [Act.put, List.setIfInBounds_toArray, List.set_cons_zero, List.set_cons_succ])
        refine wpAnyH_take (i := 5) (oi := { dst := some 23, op := Op.load 39 (Operand.tmp 22), type := 39, pos := "ref.go:63", after := #[{ on := 4, ground := Ground.data }], guard := none }) (v := ?_) rfl (by kernel_rfl) (by kernel_rfl) (by kernel_rfl) (fun _ _ _ h => h) (Or.inl ⟨by rfl, ?_⟩) (by assumption) ?_
        rotate_left
        · intro w hSw; (try dsimp only at hSw); obtain ⟨hB, hLs⟩ := hSw; obtain ⟨r0, r1, r2, r3, r4, r5⟩ := cells6 hB; obtain ⟨e0, e1, e2, e3, e4, e5⟩ := pr_cells hLs hlt HX.out; go_simp; try with_reducible rfl
        (try simp only [Act.put, List.setIfInBounds_toArray, List.set_cons_zero, List.set_cons_succ])
        refine wpAnyH_ready (rs := [6, 10]) (by kernel_rfl) (by simp) ?_
        refine AllReadyH.cons (o := { dst := some 24, op := Op.call { callee := Callee.value (Operand.func 22), args := #[Operand.tmp 18, Operand.tmp 19, Operand.tmp 23], argTypes := #[22, 24, 39] }, type := 43, pos := "ref.go:63", after := #[{ on := 0, ground := Ground.data }, { on := 1, ground := Ground.data }, { on := 5, ground := Ground.data }], guard := none }) rfl (fun K hK => ?_) (AllReadyH.cons (o := { dst := some 9, op := Op.alloc 24, type := 0, pos := "ref.go:63", after := #[], guard := none }) rfl (fun K hK => ?_) AllReadyH.nil)
        {
 go_simp
 refine (HBest.out Y HT.out.below).mono ?_
 rintro ev v1 ⟨rfl, nb⟩
 replace HT := Lib.hid (HT.out.keep nb)
 clear nb
 refine hK.out _ _ ?_ (fun hHeld => ?_)
 · exact ⟨HS.out _ HT.out.below, HPs.out _ HT.out.below⟩
 clear hK K
 (try simp only [Act.put, List.setIfInBounds_toArray, List.set_cons_zero, List.set_cons_succ])
 refine wpAnyH_take (i := 7) (oi := { dst := some 17, op := Op.move (Operand.tmp 24), type := 43, pos := "ref.go:63", after := #[{ on := 6, ground := Ground.data }], guard := none }) (v := ?_) rfl (by kernel_rfl) (by kernel_rfl) (by kernel_rfl) (fun _ _ _ h => h) (Or.inl ⟨by rfl, ?_⟩) (by assumption) ?_
 rotate_left
 · intro w hSw; (try dsimp only at hSw); obtain ⟨hB, hLs⟩ := hSw; obtain ⟨r0, r1, r2, r3, r4, r5⟩ := cells6 hB; obtain ⟨e0, e1, e2, e3, e4, e5⟩ := pr_cells hLs hlt HX.out; go_simp; try with_reducible rfl
 (try simp only [Act.put, List.setIfInBounds_toArray, List.set_cons_zero, List.set_cons_succ])
 refine wpAnyH_take (i := 8) (oi := { dst := some 25, op := Op.extract (Operand.tmp 17) 0, type := 24, pos := "ref.go:63", after := #[{ on := 7, ground := Ground.data }], guard := none }) (v := ?_) rfl (by kernel_rfl) (by kernel_rfl) (by kernel_rfl) (fun _ _ _ h => h) (Or.inl ⟨by rfl, ?_⟩) (by assumption) ?_
 rotate_left
 · intro w hSw; (try dsimp only at hSw); obtain ⟨hB, hLs⟩ := hSw; obtain ⟨r0, r1, r2, r3, r4, r5⟩ := cells6 hB; obtain ⟨e0, e1, e2, e3, e4, e5⟩ := pr_cells hLs hlt HX.out; go_simp; try with_reducible rfl
 (try simp only [Act.put, List.setIfInBounds_toArray, List.set_cons_zero, List.set_cons_succ])
 refine wpAnyH_take (i := 9) (oi := { dst := some 26, op := Op.extract (Operand.tmp 17) 1, type := 2, pos := "ref.go:63", after := #[{ on := 7, ground := Ground.data }, { on := 11, ground := Ground.gcOnly Departure.lateStores }], guard := none }) (v := ?_) rfl (by kernel_rfl) (by kernel_rfl) (by kernel_rfl) (fun _ _ _ h => h) (Or.inl ⟨by rfl, ?_⟩) (by assumption) ?_
 rotate_left
 · intro w hSw; (try dsimp only at hSw); obtain ⟨hB, hLs⟩ := hSw; obtain ⟨r0, r1, r2, r3, r4, r5⟩ := cells6 hB; obtain ⟨e0, e1, e2, e3, e4, e5⟩ := pr_cells hLs hlt HX.out; go_simp; try with_reducible rfl
 (try simp only [Act.put, List.setIfInBounds_toArray, List.set_cons_zero, List.set_cons_succ])
 refine wpAnyH_ready (rs := [10]) (by kernel_rfl) (by simp) ?_
 refine AllReadyH.cons (o := { dst := some 9, op := Op.alloc 24, type := 0, pos := "ref.go:63", after := #[], guard := none }) rfl (fun K hK => ?_) AllReadyH.nil
 go_simp
 have nb := below_new v1 (.cells #[.int .i64 0, .int .i64 0, .int .i64 0, .int .i64 0, .int .i64 0, .int .i64 0] 24)
 have HZ := Lib.hid (BB.new v1 24 0 0 0 0 0 0)
 have HZO := Lib.hid (HT.out.off)
 replace HT := Lib.hid (HT.out.keep nb)
 clear nb
 obtain ⟨v2, hv2⟩ : ∃ v2, v2 = v1.alloc (.cells #[.int .i64 0, .int .i64 0, .int .i64 0, .int .i64 0, .int .i64 0, .int .i64 0] 24) := ⟨_, rfl⟩
 rw [← hv2] at HT HZ ⊢
 clear hv2
 obtain ⟨Bz, hBz⟩ : ∃ g, g = v1.heap.size := ⟨_, rfl⟩
 rw [← hBz] at HZ HZO ⊢
 clear hBz
 refine hK.out _ _ ?_ (fun hHeld => ?_)
 · exact ⟨HS.out _ HT.out.below, HPs.out _ HT.out.below⟩
 clear hK K
 (try simp only [Act.put, List.setIfInBounds_toArray, List.set_cons_zero, List.set_cons_succ])
 refine wpAnyH_ready (rs := [11]) (by kernel_rfl) (by simp) ?_
 refine AllReadyH.cons (o := { dst := none, op := Op.store 24 (Operand.tmp 9) (Operand.tmp 25), type := 0, pos := "ref.go:63", after := #[{ on := 10, ground := Ground.data }, { on := 8, ground := Ground.data }, { on := 6, ground := Ground.chain }, { on := 0, ground := Ground.phase }, { on := 1, ground := Ground.phase }, { on := 2, ground := Ground.phase }, { on := 3, ground := Ground.phase }, { on := 4, ground := Ground.phase }, { on := 5, ground := Ground.phase }, { on := 6, ground := Ground.phase }, { on := 7, ground := Ground.phase }, { on := 8, ground := Ground.phase }, { on := 9, ground := Ground.textOnly Departure.lateStores }, { on := 10, ground := Ground.phase }], guard := none }) rfl (fun K hK => ?_) AllReadyH.nil
 obtain ⟨f0, f1, f2, f3, f4, f5⟩ := free6 HZ.out
 obtain ⟨z0, z1, z2, z3, z4, z5⟩ := cells6 HZ.out
 go_simp
 replace HT := Lib.hid (HT.out.six HZO.out.1 HZO.out.2 (.int .i64 m0) (.int .i64 m1) (.int .i64 m2) (.int .i64 m3) (.int .i64 m4) (.int .i64 m5))
 replace HZ := Lib.hid (HZ.out.six m0 m1 m2 m3 m4 m5)
 generalize ((((((v2.setCell ⟨Bz, 0, none⟩ (.int .i64 m0)).setCell ⟨Bz, 1, none⟩ (.int .i64 m1)).setCell ⟨Bz, 2, none⟩ (.int .i64 m2)).setCell ⟨Bz, 3, none⟩ (.int .i64 m3)).setCell ⟨Bz, 4, none⟩ (.int .i64 m4)).setCell ⟨Bz, 5, none⟩ (.int .i64 m5)) = v3 at *
 clear f0 f1 f2 f3 f4 f5 z0 z1 z2 z3 z4 z5
 refine hK.out _ _ ?_ (fun hHeld => ?_)
 · exact ⟨HS.out _ HT.out.below, HPs.out _ HT.out.below⟩
 clear hK K
 (try simp only [Act.put, List.setIfInBounds_toArray, List.set_cons_zero, List.set_cons_succ])
 refine wpAnyH_take (i := 12) (oi := { dst := some 10, op := Op.assign (Operand.tmp 26), type := 2, pos := "ref.go:63", after := #[{ on := 9, ground := Ground.data }, { on := 11, ground := Ground.chain }, { on := 0, ground := Ground.phase }, { on := 1, ground := Ground.phase }, { on := 2, ground := Ground.phase }, { on := 3, ground := Ground.phase }, { on := 4, ground := Ground.phase }, { on := 5, ground := Ground.phase }, { on := 6, ground := Ground.phase }, { on := 7, ground := Ground.phase }, { on := 8, ground := Ground.phase }, { on := 9, ground := Ground.phase }, { on := 10, ground := Ground.phase }, { on := 11, ground := Ground.phase }], guard := none }) (v := ?_) rfl (by kernel_rfl) (by kernel_rfl) (by kernel_rfl) (fun _ _ _ h => h) (Or.inl ⟨by rfl, ?_⟩) (by assumption) ?_
 rotate_left
 · intro w hSw; (try dsimp only at hSw); obtain ⟨hB, hLs⟩ := hSw; obtain ⟨r0, r1, r2, r3, r4, r5⟩ := cells6 hB; obtain ⟨e0, e1, e2, e3, e4, e5⟩ := pr_cells hLs hlt HX.out; go_simp; try with_reducible rfl
 (try simp only [Act.put, List.setIfInBounds_toArray, List.set_cons_zero, List.set_cons_succ])
 refine wpAnyH_done (by kernel_rfl) ?_ _
 clear hHeld
 obtain ⟨wz, hwz⟩ : ∃ W, W = v3 := ⟨_, rfl⟩
 rw [← hwz] at HT HZ ⊢
 clear hwz
 go_upto_region 6 with (fail)
 replace HT := Lib.hid (HT.out.keep (below_drawn wz))
 replace HZ := Lib.hid (HZ.out.keep (below_drawn wz) HZ.out.lt)
 refine wp_region_held_drew (S := fun w' => BB w' Bz 24 [m0, m1, m2, m3, m4, m5] ∧ Lst prE w' (some ad) n2 c2 ps) hmo ⟨HZ.out, HPs.out _ HT.out.below⟩ (fun hHeld => ?_)
 generalize wz.drew = Y2 at *
 refine wpAnyH_take (i := 0) (oi := { dst := some 27, op := Op.move (Operand.tmp 7), type := 54, pos := "ref.go:64", after := #[], guard := none }) (v := ?_) rfl (by kernel_rfl) (by kernel_rfl) (by kernel_rfl) (fun _ _ _ h => h) (Or.inl ⟨by rfl, ?_⟩) (by assumption) ?_
 rotate_left
 · intro w hSw; (try dsimp only at hSw); obtain ⟨hB, hLs⟩ := hSw; obtain ⟨r0, r1, r2, r3, r4, r5⟩ := cells6 hB; obtain ⟨e0, e1, e2, e3, e4, e5⟩ := pr_cells hLs hlt HX.out; go_simp; try with_reducible rfl
 (try simp only [Act.put, List.setIfInBounds_toArray, List.set_cons_zero, List.set_cons_succ])
 refine wpAnyH_take (i := 1) (oi := { dst := some 28, op := Op.move (Operand.tmp 2), type := 53, pos := "ref.go:64", after := #[], guard := none }) (v := ?_) rfl (by kernel_rfl) (by kernel_rfl) (by kernel_rfl) (fun _ _ _ h => h) (Or.inl ⟨by rfl, ?_⟩) (by assumption) ?_
 rotate_left
 · intro w hSw; (try dsimp only at hSw); obtain ⟨hB, hLs⟩ := hSw; obtain ⟨r0, r1, r2, r3, r4, r5⟩ := cells6 hB; obtain ⟨e0, e1, e2, e3, e4, e5⟩ := pr_cells hLs hlt HX.out; go_simp; try with_reducible rfl
 (try simp only [Act.put, List.setIfInBounds_toArray, List.set_cons_zero, List.set_cons_succ])
 refine wpAnyH_take (i := 2) (oi := { dst := some 29, op := Op.move (Operand.tmp 8), type := 3, pos := "ref.go:64", after := #[], guard := none }) (v := ?_) rfl (by kernel_rfl) (by kernel_rfl) (by kernel_rfl) (fun _ _ _ h => h) (Or.inl ⟨by rfl, ?_⟩) (by assumption) ?_
 rotate_left
 · intro w hSw; (try dsimp only at hSw); obtain ⟨hB, hLs⟩ := hSw; obtain ⟨r0, r1, r2, r3, r4, r5⟩ := cells6 hB; obtain ⟨e0, e1, e2, e3, e4, e5⟩ := pr_cells hLs hlt HX.out; go_simp; try with_reducible rfl
 (try simp only [Act.put, List.setIfInBounds_toArray, List.set_cons_zero, List.set_cons_succ])
 refine wpAnyH_take (i := 3) (oi := { dst := some 30, op := Op.indexAddr 53 (Operand.tmp 28) (Operand.tmp 29), type := 0, pos := "ref.go:64", after := #[{ on := 1, ground := Ground.data }, { on := 2, ground := Ground.data }], guard := none }) (v := ?_) rfl (by kernel_rfl) (by kernel_rfl) (by kernel_rfl) (fun _ _ _ h => h) (Or.inl ⟨by rfl, ?_⟩) (by assumption) ?_
 rotate_left
 · intro w hSw; (try dsimp only at hSw); obtain ⟨hB, hLs⟩ := hSw; obtain ⟨r0, r1, r2, r3, r4, r5⟩ := cells6 hB; obtain ⟨e0, e1, e2, e3, e4, e5⟩ := pr_cells hLs hlt HX.out; go_simp; try with_reducible rfl
 (try simp only [Act.put, List.setIfInBounds_toArray, List.set_cons_zero, List.set_cons_succ])
 refine wpAnyH_take (i := 4) (oi := { dst := some 31, op := Op.load 39 (Operand.tmp 30), type := 39, pos := "ref.go:64", after := #[{ on := 3, ground := Ground.data }], guard := none }) (v := ?_) rfl (by kernel_rfl) (by kernel_rfl) (by kernel_rfl) (fun _ _ _ h => h) (Or.inl ⟨by rfl, ?_⟩) (by assumption) ?_
 rotate_left
 · intro w hSw; (try dsimp only at hSw); obtain ⟨hB, hLs⟩ := hSw; obtain ⟨r0, r1, r2, r3, r4, r5⟩ := cells6 hB; obtain ⟨e0, e1, e2, e3, e4, e5⟩ := pr_cells hLs hlt HX.out; go_simp; try with_reducible rfl
 (try simp only [Act.put, List.setIfInBounds_toArray, List.set_cons_zero, List.set_cons_succ])
 refine wpAnyH_take (i := 5) (oi := { dst := some 32, op := Op.load 24 (Operand.tmp 9), type := 24, pos := "ref.go:64", after := #[], guard := none }) (v := ?_) rfl (by kernel_rfl) (by kernel_rfl) (by kernel_rfl) (fun _ _ _ h => h) (Or.inl ⟨by rfl, ?_⟩) (by assumption) ?_
 rotate_left
 · intro w hSw; (try dsimp only at hSw); obtain ⟨hB, hLs⟩ := hSw; obtain ⟨r0, r1, r2, r3, r4, r5⟩ := cells6 hB; obtain ⟨e0, e1, e2, e3, e4, e5⟩ := pr_cells hLs hlt HX.out; go_simp; try with_reducible rfl
 (try simp only [Act.put, List.setIfInBounds_toArray, List.set_cons_zero, List.set_cons_succ])
 refine wpAnyH_take (i := 6) (oi := { dst := some 33, op := Op.build 57 #[(0, Operand.tmp 31), (1, Operand.tmp 32)], type := 57, pos := "ref.go:64", after := #[{ on := 4, ground := Ground.data }, { on := 5, ground := Ground.data }], guard := none }) (v := ?_) rfl (by kernel_rfl) (by kernel_rfl) (by kernel_rfl) (fun _ _ _ h => h) (Or.inl ⟨by rfl, ?_⟩) (by assumption) ?_
 rotate_left
 · intro w hSw; (try dsimp only at hSw); obtain ⟨hB, hLs⟩ := hSw; obtain ⟨r0, r1, r2, r3, r4, r5⟩ := cells6 hB; obtain ⟨e0, e1, e2, e3, e4, e5⟩ := pr_cells hLs hlt HX.out; go_simp; try with_reducible rfl
 (try simp only [Act.put, List.setIfInBounds_toArray, List.set_cons_zero, List.set_cons_succ])
 refine wpAnyH_ready (rs := [7]) (by kernel_rfl) (by simp) ?_
 refine AllReadyH.cons (o := { dst := some 34, op := Op.buildSlice 54 1 #[(0, Operand.tmp 33)], type := 54, pos := "ref.go:64", after := #[{ on := 6, ground := Ground.data }], guard := none }) rfl (fun K hK => ?_) AllReadyH.nil
 go_simp
 have nb := below_new Y2 (.cells #[.int .i64 p0, .int .i64 p1, .int .i64 p2, .int .i64 p3, .int .i64 p4, .int .i64 p5, .int .i64 m0, .int .i64 m1, .int .i64 m2, .int .i64 m3, .int .i64 m4, .int .i64 m5] 57)
 have N6 := Lib.hid (heap_new Y2 (.cells #[.int .i64 p0, .int .i64 p1, .int .i64 p2, .int .i64 p3, .int .i64 p4, .int .i64 p5, .int .i64 m0, .int .i64 m1, .int .i64 m2, .int .i64 m3, .int .i64 m4, .int .i64 m5] 57))
 replace HT := Lib.hid (HT.out.keep nb)
 replace HZ := Lib.hid (HZ.out.keep nb HZ.out.lt)
 clear nb
 refine hK.out _ _ ?_ (fun hHeld => ?_)
 · exact ⟨HZ.out, HPs.out _ HT.out.below⟩
 obtain ⟨w6, hw6⟩ : ∃ w6, w6 = Y2.alloc (.cells #[.int .i64 p0, .int .i64 p1, .int .i64 p2, .int .i64 p3, .int .i64 p4, .int .i64 p5, .int .i64 m0, .int .i64 m1, .int .i64 m2, .int .i64 m3, .int .i64 m4, .int .i64 m5] 57) := ⟨_, rfl⟩
 rw [← hw6] at N6 HT HZ ⊢
 clear hw6
 clear hK K
 (try simp only [Act.put, List.setIfInBounds_toArray, List.set_cons_zero, List.set_cons_succ])
 refine wpAnyH_ready (rs := [8]) (by kernel_rfl) (by simp) ?_
 refine AllReadyH.cons (o := { dst := some 35, op := Op.call { callee := Callee.builtin Builtin.append, args := #[Operand.tmp 27, Operand.tmp 34], argTypes := #[54, 54] }, type := 54, pos := "ref.go:64", after := #[{ on := 0, ground := Ground.data }, { on := 7, ground := Ground.data }], guard := none }) rfl (fun K hK => ?_) AllReadyH.nil
 refine step_append_lies _ (by rfl) _ _ _ (by rfl) w1.heap.size 57 i1 (.agg #[.int .i64 0, .int .i64 0, .int .i64 0, .int .i64 0, .int .i64 0, .int .i64 0, .int .i64 0, .int .i64 0, .int .i64 0, .int .i64 0, .int .i64 0, .int .i64 0]) 12 96 Try.underlying54 hi1 hy0 hy1 hy2 rfl (by decide) _ _ _ (by rfl) HT.out.own.1 ⟨Y2.heap.size, 0, none⟩ 1 1 [.int .i64 p0, .int .i64 p1, .int .i64 p2, .int .i64 p3, .int .i64 p4, .int .i64 p5, .int .i64 m0, .int .i64 m1, .int .i64 m2, .int .i64 m3, .int .i64 m4, .int .i64 m5] (by rfl) rfl ?c1 ?c2 (by decide) ?c4 ?c5 ?c6 _ rfl ?_
 case c1 => exact World.news_of_block N6.out
 case c2 => exact c12E.one ⟨p0, p1, p2, p3, p4, p5, m0, m1, m2, m3, m4, m5⟩
 case c4 => unfold maxLen; omega
 case c5 => omega
 case c6 => exact HT.out.hs
 intro gg cp w7 hown hgrow hat hlt7
 replace HZ := Lib.hid (bb_far HZ.out hgrow (fun r q => HZO.out.2 r q))
 replace HT := Lib.hid (HT.out.app (o := ⟨p0, p1, p2, p3, p4, p5, m0, m1, m2, m3, m4, m5⟩) hown hgrow)
 clear hown hgrow hat hlt7 N6
 refine hK.out _ _ ?_ (fun hHeld => ?_)
 · exact ⟨HZ.out, HPs.out _ HT.out.below⟩
 clear hK K
 (try simp only [Act.put, List.setIfInBounds_toArray, List.set_cons_zero, List.set_cons_succ])
 refine wpAnyH_take (i := 9) (oi := { dst := some 7, op := Op.assign (Operand.tmp 35), type := 54, pos := "ref.go:64", after := #[{ on := 8, ground := Ground.data }, { on := 8, ground := Ground.chain }, { on := 0, ground := Ground.phase }, { on := 1, ground := Ground.phase }, { on := 2, ground := Ground.phase }, { on := 3, ground := Ground.phase }, { on := 4, ground := Ground.phase }, { on := 5, ground := Ground.phase }, { on := 6, ground := Ground.phase }, { on := 7, ground := Ground.phase }, { on := 8, ground := Ground.phase }], guard := none }) (v := ?_) rfl (by kernel_rfl) (by kernel_rfl) (by kernel_rfl) (fun _ _ _ h => h) (Or.inl ⟨by rfl, ?_⟩) (by assumption) ?_
 rotate_left
 · intro w hSw; (try dsimp only at hSw); obtain ⟨hB, hLs⟩ := hSw; obtain ⟨r0, r1, r2, r3, r4, r5⟩ := cells6 hB; obtain ⟨e0, e1, e2, e3, e4, e5⟩ := pr_cells hLs hlt HX.out; go_simp; try with_reducible rfl
 (try simp only [Act.put, List.setIfInBounds_toArray, List.set_cons_zero, List.set_cons_succ])
 refine wpAnyH_done (by kernel_rfl) ?_ _
 clear hHeld
 rw [HNX.out] at HT
 go_wp2
 go_roundw
 case rel => exact ⟨k + 1, by omega, by go_num, by rw [HRS.out]; exact HT.out⟩
 case measure => simp [intOf]; omega
 }
        {
 go_simp
 have nb := below_new Y (.cells #[.int .i64 0, .int .i64 0, .int .i64 0, .int .i64 0, .int .i64 0, .int .i64 0] 24)
 have HZ := Lib.hid (BB.new Y 24 0 0 0 0 0 0)
 have HZO := Lib.hid (HT.out.off)
 replace HT := Lib.hid (HT.out.keep nb)
 clear nb
 obtain ⟨v4, hv4⟩ : ∃ v4, v4 = Y.alloc (.cells #[.int .i64 0, .int .i64 0, .int .i64 0, .int .i64 0, .int .i64 0, .int .i64 0] 24) := ⟨_, rfl⟩
 rw [← hv4] at HT HZ ⊢
 clear hv4
 obtain ⟨Bz, hBz⟩ : ∃ g, g = Y.heap.size := ⟨_, rfl⟩
 rw [← hBz] at HZ HZO ⊢
 clear hBz
 refine hK.out _ _ ?_ (fun hHeld => ?_)
 · exact ⟨HS.out _ HT.out.below, HPs.out _ HT.out.below⟩
 clear hK K
 (try simp only [Act.put, List.setIfInBounds_toArray, List.set_cons_zero, List.set_cons_succ])
 refine wpAnyH_ready (rs := [6]) (by kernel_rfl) (by simp) ?_
 refine AllReadyH.cons (o := { dst := some 24, op := Op.call { callee := Callee.value (Operand.func 22), args := #[Operand.tmp 18, Operand.tmp 19, Operand.tmp 23], argTypes := #[22, 24, 39] }, type := 43, pos := "ref.go:63", after := #[{ on := 0, ground := Ground.data }, { on := 1, ground := Ground.data }, { on := 5, ground := Ground.data }], guard := none }) rfl (fun K hK => ?_) AllReadyH.nil
 go_simp
 refine (HBest.out v4 HT.out.below).mono ?_
 rintro ev v5 ⟨rfl, nb⟩
 replace HT := Lib.hid (HT.out.keep nb)
 replace HZ := Lib.hid (HZ.out.keep nb HZ.out.lt)
 clear nb
 refine hK.out _ _ ?_ (fun hHeld => ?_)
 · exact ⟨HS.out _ HT.out.below, HPs.out _ HT.out.below⟩
 clear hK K
 (try simp only [Act.put, List.setIfInBounds_toArray, List.set_cons_zero, List.set_cons_succ])
 refine wpAnyH_take (i := 7) (oi := { dst := some 17, op := Op.move (Operand.tmp 24), type := 43, pos := "ref.go:63", after := #[{ on := 6, ground := Ground.data }], guard := none }) (v := ?_) rfl (by kernel_rfl) (by kernel_rfl) (by kernel_rfl) (fun _ _ _ h => h) (Or.inl ⟨by rfl, ?_⟩) (by assumption) ?_
 rotate_left
 · intro w hSw; (try dsimp only at hSw); obtain ⟨hB, hLs⟩ := hSw; obtain ⟨r0, r1, r2, r3, r4, r5⟩ := cells6 hB; obtain ⟨e0, e1, e2, e3, e4, e5⟩ := pr_cells hLs hlt HX.out; go_simp; try with_reducible rfl
 (try simp only [Act.put, List.setIfInBounds_toArray, List.set_cons_zero, List.set_cons_succ])
 refine wpAnyH_take (i := 8) (oi := { dst := some 25, op := Op.extract (Operand.tmp 17) 0, type := 24, pos := "ref.go:63", after := #[{ on := 7, ground := Ground.data }], guard := none }) (v := ?_) rfl (by kernel_rfl) (by kernel_rfl) (by kernel_rfl) (fun _ _ _ h => h) (Or.inl ⟨by rfl, ?_⟩) (by assumption) ?_
 rotate_left
 · intro w hSw; (try dsimp only at hSw); obtain ⟨hB, hLs⟩ := hSw; obtain ⟨r0, r1, r2, r3, r4, r5⟩ := cells6 hB; obtain ⟨e0, e1, e2, e3, e4, e5⟩ := pr_cells hLs hlt HX.out; go_simp; try with_reducible rfl
 (try simp only [Act.put, List.setIfInBounds_toArray, List.set_cons_zero, List.set_cons_succ])
 refine wpAnyH_take (i := 9) (oi := { dst := some 26, op := Op.extract (Operand.tmp 17) 1, type := 2, pos := "ref.go:63", after := #[{ on := 7, ground := Ground.data }, { on := 11, ground := Ground.gcOnly Departure.lateStores }], guard := none }) (v := ?_) rfl (by kernel_rfl) (by kernel_rfl) (by kernel_rfl) (fun _ _ _ h => h) (Or.inl ⟨by rfl, ?_⟩) (by assumption) ?_
 rotate_left
 · intro w hSw; (try dsimp only at hSw); obtain ⟨hB, hLs⟩ := hSw; obtain ⟨r0, r1, r2, r3, r4, r5⟩ := cells6 hB; obtain ⟨e0, e1, e2, e3, e4, e5⟩ := pr_cells hLs hlt HX.out; go_simp; try with_reducible rfl
 (try simp only [Act.put, List.setIfInBounds_toArray, List.set_cons_zero, List.set_cons_succ])
 refine wpAnyH_ready (rs := [11]) (by kernel_rfl) (by simp) ?_
 refine AllReadyH.cons (o := { dst := none, op := Op.store 24 (Operand.tmp 9) (Operand.tmp 25), type := 0, pos := "ref.go:63", after := #[{ on := 10, ground := Ground.data }, { on := 8, ground := Ground.data }, { on := 6, ground := Ground.chain }, { on := 0, ground := Ground.phase }, { on := 1, ground := Ground.phase }, { on := 2, ground := Ground.phase }, { on := 3, ground := Ground.phase }, { on := 4, ground := Ground.phase }, { on := 5, ground := Ground.phase }, { on := 6, ground := Ground.phase }, { on := 7, ground := Ground.phase }, { on := 8, ground := Ground.phase }, { on := 9, ground := Ground.textOnly Departure.lateStores }, { on := 10, ground := Ground.phase }], guard := none }) rfl (fun K hK => ?_) AllReadyH.nil
 obtain ⟨f0, f1, f2, f3, f4, f5⟩ := free6 HZ.out
 obtain ⟨z0, z1, z2, z3, z4, z5⟩ := cells6 HZ.out
 go_simp
 replace HT := Lib.hid (HT.out.six HZO.out.1 HZO.out.2 (.int .i64 m0) (.int .i64 m1) (.int .i64 m2) (.int .i64 m3) (.int .i64 m4) (.int .i64 m5))
 replace HZ := Lib.hid (HZ.out.six m0 m1 m2 m3 m4 m5)
 generalize ((((((v5.setCell ⟨Bz, 0, none⟩ (.int .i64 m0)).setCell ⟨Bz, 1, none⟩ (.int .i64 m1)).setCell ⟨Bz, 2, none⟩ (.int .i64 m2)).setCell ⟨Bz, 3, none⟩ (.int .i64 m3)).setCell ⟨Bz, 4, none⟩ (.int .i64 m4)).setCell ⟨Bz, 5, none⟩ (.int .i64 m5)) = v6 at *
 clear f0 f1 f2 f3 f4 f5 z0 z1 z2 z3 z4 z5
 refine hK.out _ _ ?_ (fun hHeld => ?_)
 · exact ⟨HS.out _ HT.out.below, HPs.out _ HT.out.below⟩
 clear hK K
 (try simp only [Act.put, List.setIfInBounds_toArray, List.set_cons_zero, List.set_cons_succ])
 refine wpAnyH_take (i := 12) (oi := { dst := some 10, op := Op.assign (Operand.tmp 26), type := 2, pos := "ref.go:63", after := #[{ on := 9, ground := Ground.data }, { on := 11, ground := Ground.chain }, { on := 0, ground := Ground.phase }, { on := 1, ground := Ground.phase }, { on := 2, ground := Ground.phase }, { on := 3, ground := Ground.phase }, { on := 4, ground := Ground.phase }, { on := 5, ground := Ground.phase }, { on := 6, ground := Ground.phase }, { on := 7, ground := Ground.phase }, { on := 8, ground := Ground.phase }, { on := 9, ground := Ground.phase }, { on := 10, ground := Ground.phase }, { on := 11, ground := Ground.phase }], guard := none }) (v := ?_) rfl (by kernel_rfl) (by kernel_rfl) (by kernel_rfl) (fun _ _ _ h => h) (Or.inl ⟨by rfl, ?_⟩) (by assumption) ?_
 rotate_left
 · intro w hSw; (try dsimp only at hSw); obtain ⟨hB, hLs⟩ := hSw; obtain ⟨r0, r1, r2, r3, r4, r5⟩ := cells6 hB; obtain ⟨e0, e1, e2, e3, e4, e5⟩ := pr_cells hLs hlt HX.out; go_simp; try with_reducible rfl
 (try simp only [Act.put, List.setIfInBounds_toArray, List.set_cons_zero, List.set_cons_succ])
 refine wpAnyH_done (by kernel_rfl) ?_ _
 clear hHeld
 obtain ⟨wz, hwz⟩ : ∃ W, W = v6 := ⟨_, rfl⟩
 rw [← hwz] at HT HZ ⊢
 clear hwz
 go_upto_region 6 with (fail)
 replace HT := Lib.hid (HT.out.keep (below_drawn wz))
 replace HZ := Lib.hid (HZ.out.keep (below_drawn wz) HZ.out.lt)
 refine wp_region_held_drew (S := fun w' => BB w' Bz 24 [m0, m1, m2, m3, m4, m5] ∧ Lst prE w' (some ad) n2 c2 ps) hmo ⟨HZ.out, HPs.out _ HT.out.below⟩ (fun hHeld => ?_)
 generalize wz.drew = Y2 at *
 refine wpAnyH_take (i := 0) (oi := { dst := some 27, op := Op.move (Operand.tmp 7), type := 54, pos := "ref.go:64", after := #[], guard := none }) (v := ?_) rfl (by kernel_rfl) (by kernel_rfl) (by kernel_rfl) (fun _ _ _ h => h) (Or.inl ⟨by rfl, ?_⟩) (by assumption) ?_
 rotate_left
 · intro w hSw; (try dsimp only at hSw); obtain ⟨hB, hLs⟩ := hSw; obtain ⟨r0, r1, r2, r3, r4, r5⟩ := cells6 hB; obtain ⟨e0, e1, e2, e3, e4, e5⟩ := pr_cells hLs hlt HX.out; go_simp; try with_reducible rfl
 (try simp only [Act.put, List.setIfInBounds_toArray, List.set_cons_zero, List.set_cons_succ])
 refine wpAnyH_take (i := 1) (oi := { dst := some 28, op := Op.move (Operand.tmp 2), type := 53, pos := "ref.go:64", after := #[], guard := none }) (v := ?_) rfl (by kernel_rfl) (by kernel_rfl) (by kernel_rfl) (fun _ _ _ h => h) (Or.inl ⟨by rfl, ?_⟩) (by assumption) ?_
 rotate_left
 · intro w hSw; (try dsimp only at hSw); obtain ⟨hB, hLs⟩ := hSw; obtain ⟨r0, r1, r2, r3, r4, r5⟩ := cells6 hB; obtain ⟨e0, e1, e2, e3, e4, e5⟩ := pr_cells hLs hlt HX.out; go_simp; try with_reducible rfl
 (try simp only [Act.put, List.setIfInBounds_toArray, List.set_cons_zero, List.set_cons_succ])
 refine wpAnyH_take (i := 2) (oi := { dst := some 29, op := Op.move (Operand.tmp 8), type := 3, pos := "ref.go:64", after := #[], guard := none }) (v := ?_) rfl (by kernel_rfl) (by kernel_rfl) (by kernel_rfl) (fun _ _ _ h => h) (Or.inl ⟨by rfl, ?_⟩) (by assumption) ?_
 rotate_left
 · intro w hSw; (try dsimp only at hSw); obtain ⟨hB, hLs⟩ := hSw; obtain ⟨r0, r1, r2, r3, r4, r5⟩ := cells6 hB; obtain ⟨e0, e1, e2, e3, e4, e5⟩ := pr_cells hLs hlt HX.out; go_simp; try with_reducible rfl
 (try simp only [Act.put, List.setIfInBounds_toArray, List.set_cons_zero, List.set_cons_succ])
 refine wpAnyH_take (i := 3) (oi := { dst := some 30, op := Op.indexAddr 53 (Operand.tmp 28) (Operand.tmp 29), type := 0, pos := "ref.go:64", after := #[{ on := 1, ground := Ground.data }, { on := 2, ground := Ground.data }], guard := none }) (v := ?_) rfl (by kernel_rfl) (by kernel_rfl) (by kernel_rfl) (fun _ _ _ h => h) (Or.inl ⟨by rfl, ?_⟩) (by assumption) ?_
 rotate_left
 · intro w hSw; (try dsimp only at hSw); obtain ⟨hB, hLs⟩ := hSw; obtain ⟨r0, r1, r2, r3, r4, r5⟩ := cells6 hB; obtain ⟨e0, e1, e2, e3, e4, e5⟩ := pr_cells hLs hlt HX.out; go_simp; try with_reducible rfl
 (try simp only [Act.put, List.setIfInBounds_toArray, List.set_cons_zero, List.set_cons_succ])
 refine wpAnyH_take (i := 4) (oi := { dst := some 31, op := Op.load 39 (Operand.tmp 30), type := 39, pos := "ref.go:64", after := #[{ on := 3, ground := Ground.data }], guard := none }) (v := ?_) rfl (by kernel_rfl) (by kernel_rfl) (by kernel_rfl) (fun _ _ _ h => h) (Or.inl ⟨by rfl, ?_⟩) (by assumption) ?_
 rotate_left
 · intro w hSw; (try dsimp only at hSw); obtain ⟨hB, hLs⟩ := hSw; obtain ⟨r0, r1, r2, r3, r4, r5⟩ := cells6 hB; obtain ⟨e0, e1, e2, e3, e4, e5⟩ := pr_cells hLs hlt HX.out; go_simp; try with_reducible rfl
 (try simp only [Act.put, List.setIfInBounds_toArray, List.set_cons_zero, List.set_cons_succ])
 refine wpAnyH_take (i := 5) (oi := { dst := some 32, op := Op.load 24 (Operand.tmp 9), type := 24, pos := "ref.go:64", after := #[], guard := none }) (v := ?_) rfl (by kernel_rfl) (by kernel_rfl) (by kernel_rfl) (fun _ _ _ h => h) (Or.inl ⟨by rfl, ?_⟩) (by assumption) ?_
 rotate_left
 · intro w hSw; (try dsimp only at hSw); obtain ⟨hB, hLs⟩ := hSw; obtain ⟨r0, r1, r2, r3, r4, r5⟩ := cells6 hB; obtain ⟨e0, e1, e2, e3, e4, e5⟩ := pr_cells hLs hlt HX.out; go_simp; try with_reducible rfl
 (try simp only [Act.put, List.setIfInBounds_toArray, List.set_cons_zero, List.set_cons_succ])
 refine wpAnyH_take (i := 6) (oi := { dst := some 33, op := Op.build 57 #[(0, Operand.tmp 31), (1, Operand.tmp 32)], type := 57, pos := "ref.go:64", after := #[{ on := 4, ground := Ground.data }, { on := 5, ground := Ground.data }], guard := none }) (v := ?_) rfl (by kernel_rfl) (by kernel_rfl) (by kernel_rfl) (fun _ _ _ h => h) (Or.inl ⟨by rfl, ?_⟩) (by assumption) ?_
 rotate_left
 · intro w hSw; (try dsimp only at hSw); obtain ⟨hB, hLs⟩ := hSw; obtain ⟨r0, r1, r2, r3, r4, r5⟩ := cells6 hB; obtain ⟨e0, e1, e2, e3, e4, e5⟩ := pr_cells hLs hlt HX.out; go_simp; try with_reducible rfl
 (try simp only [Act.put, List.setIfInBounds_toArray, List.set_cons_zero, List.set_cons_succ])
 refine wpAnyH_ready (rs := [7]) (by kernel_rfl) (by simp) ?_
 refine AllReadyH.cons (o := { dst := some 34, op := Op.buildSlice 54 1 #[(0, Operand.tmp 33)], type := 54, pos := "ref.go:64", after := #[{ on := 6, ground := Ground.data }], guard := none }) rfl (fun K hK => ?_) AllReadyH.nil
 go_simp
 have nb := below_new Y2 (.cells #[.int .i64 p0, .int .i64 p1, .int .i64 p2, .int .i64 p3, .int .i64 p4, .int .i64 p5, .int .i64 m0, .int .i64 m1, .int .i64 m2, .int .i64 m3, .int .i64 m4, .int .i64 m5] 57)
 have N6 := Lib.hid (heap_new Y2 (.cells #[.int .i64 p0, .int .i64 p1, .int .i64 p2, .int .i64 p3, .int .i64 p4, .int .i64 p5, .int .i64 m0, .int .i64 m1, .int .i64 m2, .int .i64 m3, .int .i64 m4, .int .i64 m5] 57))
 replace HT := Lib.hid (HT.out.keep nb)
 replace HZ := Lib.hid (HZ.out.keep nb HZ.out.lt)
 clear nb
 refine hK.out _ _ ?_ (fun hHeld => ?_)
 · exact ⟨HZ.out, HPs.out _ HT.out.below⟩
 obtain ⟨w6, hw6⟩ : ∃ w6, w6 = Y2.alloc (.cells #[.int .i64 p0, .int .i64 p1, .int .i64 p2, .int .i64 p3, .int .i64 p4, .int .i64 p5, .int .i64 m0, .int .i64 m1, .int .i64 m2, .int .i64 m3, .int .i64 m4, .int .i64 m5] 57) := ⟨_, rfl⟩
 rw [← hw6] at N6 HT HZ ⊢
 clear hw6
 clear hK K
 (try simp only [Act.put, List.setIfInBounds_toArray, List.set_cons_zero, List.set_cons_succ])
 refine wpAnyH_ready (rs := [8]) (by kernel_rfl) (by simp) ?_
 refine AllReadyH.cons (o := { dst := some 35, op := Op.call { callee := Callee.builtin Builtin.append, args := #[Operand.tmp 27, Operand.tmp 34], argTypes := #[54, 54] }, type := 54, pos := "ref.go:64", after := #[{ on := 0, ground := Ground.data }, { on := 7, ground := Ground.data }], guard := none }) rfl (fun K hK => ?_) AllReadyH.nil
 refine step_append_lies _ (by rfl) _ _ _ (by rfl) w1.heap.size 57 i1 (.agg #[.int .i64 0, .int .i64 0, .int .i64 0, .int .i64 0, .int .i64 0, .int .i64 0, .int .i64 0, .int .i64 0, .int .i64 0, .int .i64 0, .int .i64 0, .int .i64 0]) 12 96 Try.underlying54 hi1 hy0 hy1 hy2 rfl (by decide) _ _ _ (by rfl) HT.out.own.1 ⟨Y2.heap.size, 0, none⟩ 1 1 [.int .i64 p0, .int .i64 p1, .int .i64 p2, .int .i64 p3, .int .i64 p4, .int .i64 p5, .int .i64 m0, .int .i64 m1, .int .i64 m2, .int .i64 m3, .int .i64 m4, .int .i64 m5] (by rfl) rfl ?c1 ?c2 (by decide) ?c4 ?c5 ?c6 _ rfl ?_
 case c1 => exact World.news_of_block N6.out
 case c2 => exact c12E.one ⟨p0, p1, p2, p3, p4, p5, m0, m1, m2, m3, m4, m5⟩
 case c4 => unfold maxLen; omega
 case c5 => omega
 case c6 => exact HT.out.hs
 intro gg cp w7 hown hgrow hat hlt7
 replace HZ := Lib.hid (bb_far HZ.out hgrow (fun r q => HZO.out.2 r q))
 replace HT := Lib.hid (HT.out.app (o := ⟨p0, p1, p2, p3, p4, p5, m0, m1, m2, m3, m4, m5⟩) hown hgrow)
 clear hown hgrow hat hlt7 N6
 refine hK.out _ _ ?_ (fun hHeld => ?_)
 · exact ⟨HZ.out, HPs.out _ HT.out.below⟩
 clear hK K
 (try simp only [Act.put, List.setIfInBounds_toArray, List.set_cons_zero, List.set_cons_succ])
 refine wpAnyH_take (i := 9) (oi := { dst := some 7, op := Op.assign (Operand.tmp 35), type := 54, pos := "ref.go:64", after := #[{ on := 8, ground := Ground.data }, { on := 8, ground := Ground.chain }, { on := 0, ground := Ground.phase }, { on := 1, ground := Ground.phase }, { on := 2, ground := Ground.phase }, { on := 3, ground := Ground.phase }, { on := 4, ground := Ground.phase }, { on := 5, ground := Ground.phase }, { on := 6, ground := Ground.phase }, { on := 7, ground := Ground.phase }, { on := 8, ground := Ground.phase }], guard := none }) (v := ?_) rfl (by kernel_rfl) (by kernel_rfl) (by kernel_rfl) (fun _ _ _ h => h) (Or.inl ⟨by rfl, ?_⟩) (by assumption) ?_
 rotate_left
 · intro w hSw; (try dsimp only at hSw); obtain ⟨hB, hLs⟩ := hSw; obtain ⟨r0, r1, r2, r3, r4, r5⟩ := cells6 hB; obtain ⟨e0, e1, e2, e3, e4, e5⟩ := pr_cells hLs hlt HX.out; go_simp; try with_reducible rfl
 (try simp only [Act.put, List.setIfInBounds_toArray, List.set_cons_zero, List.set_cons_succ])
 refine wpAnyH_done (by kernel_rfl) ?_ _
 clear hHeld
 rw [HNX.out] at HT
 go_wp2
 go_roundw
 case rel => exact ⟨k + 1, by omega, by go_num, by rw [HRS.out]; exact HT.out⟩
 case measure => simp [intOf]; omega
 }
      · have hkn : k = ps.length := by rw [HPL.out]; omega
        rw [hkn, List.take_length] at HT0
        have hlen : (pathE L [q0, q1, q2, q3, q4, q5] ps).length ≤ 1000 := by rw [pathE, List.length_map, HPL.out]; omega
        obtain ⟨A8, c8, hv8, hl8, _⟩ := HT0.out.own.form2 (by omega)
        have L8 := Lib.hid hl8
        clear hl8 hkn hlen
        subst hv8
        go_wp2
        go_ret
        exact ⟨A8, _, c8, rfl, L8.out, B0.out.trans (HT0.out.below.mono B0.out.size)⟩
set_option maxRecDepth 100000 in
set_option maxHeartbeats 8000000 in
theorem path_any (A : Option Addr) (n c : Nat) (L : List MF.Of) (hn : n ≤ 100000) (q0 q1 q2 q3 q4 q5 : Int) (A2 : Option Addr) (n2 c2 : Nat) (ps : List (List Int)) (hn2 : n2 ≤ 1000) (w : World) (hL : Lst ofE w A n c L) (hps : Lst prE w A2 n2 c2 ps) : Calls Try.prog 28 #[.slice A n c, .agg #[.int .i64 q0, .int .i64 q1, .int .i64 q2, .int .i64 q3, .int .i64 q4, .int .i64 q5], .slice A2 n2 c2] w (GivesL c12E (pathE L [q0, q1, q2, q3, q4, q5] ps) w) := by
  have hmo : Try.prog.follows .mixedOrders = true := by kernel_rfl
  obtain ⟨i1, hi1, hy0, hy1, hy2⟩ := info_parts infoCho
  have HWo := Lib.hid (fun w' (h : Lst ofE w' A n c L) => worths_any A n c L q0 q1 q2 q3 q4 q5 hn w' h)
  have nb0 := below_new w (.cells #[.int .i64 q0, .int .i64 q1, .int .i64 q2, .int .i64 q3, .int .i64 q4, .int .i64 q5] 24)
  have B0 := Lib.hid nb0
  have S0 := Lib.hid (BB.new w 24 q0 q1 q2 q3 q4 q5)
  have HL0 := Lib.hid (hL.keep nb0)
  have HPs0 := Lib.hid (hps.keep nb0)
  have HPL := Lib.hid hps.len
  clear nb0 hL hps
  go_enter Try.func28, Try.ntmps28
  go_upto_region 1 with (fail)
  generalize w.alloc (.cells #[.int .i64 q0, .int .i64 q1, .int .i64 q2, .int .i64 q3, .int .i64 q4, .int .i64 q5] 24) = w1 at *
  obtain ⟨r0, r1, r2, r3, r4, r5⟩ := cells6 S0.out
  go_wp2_with fail
  refine (HWo.out _ HL0.out).mono ?_
  rintro ev w3 ⟨A1, n1, c1, rfl, hw1, nb⟩
  have B3 := Lib.hid (B0.out.trans (nb.mono B0.out.size))
  have HPs := Lib.hid (fun X (h : Below w3.heap.size w3 X) => (HPs0.out.keep nb).keep h)
  have HW := Lib.hid (fun X (h : Below w3.heap.size w3 X) => hw1.keep h)
  have HOp := Lib.hid (fun p0 p1 p2 p3 p4 p5 X (h : Below w3.heap.size w3 X) => options_any A1 n1 c1 (MD.worths L [q0, q1, q2, q3, q4, q5]) p0 p1 p2 p3 p4 p5 (wor_few hw1) (wor_ok rfl) X (hw1.keep h))
  clear nb hw1 r0 r1 r2 r3 r4 r5 B0 S0 HL0 HPs0
  go_wp2_with (at_make; refine wpList_make_own _ rfl _ _ 54 rfl w3.heap.size 57 i1 (.agg #[.int .i64 0, .int .i64 0, .int .i64 0, .int .i64 0, .int .i64 0, .int .i64 0, .int .i64 0, .int .i64 0, .int .i64 0, .int .i64 0, .int .i64 0, .int .i64 0]) 12 Try.underlying54 hi1 hy0 hy1 .i64 .i64 _ n2 rfl rfl rfl ?b2 ?b3 (Nat.le_refl _) ?_)
  case b2 => rw [hy2]; omega
  case b3 => unfold maxLen; omega
  intro w4 hrow hg3
  have HI := Lib.hid (show Pt w3 (.slice (some ⟨w3.heap.size, 0, none⟩) 0 n2) (pathE L [q0, q1, q2, q3, q4, q5] (ps.take 0)) w4 from ⟨(Below.refl _ _).grown hg3 (Nat.le_refl _) (by simp), hrow, El.Fine.nil _⟩)
  clear hrow hg3
  go_wp2_with fail
  go_loopw [8, 21] (fun v i wr => ∃ k : Nat, k ≤ n2 ∧ i = .int .i64 k ∧ Pt w3 v (pathE L [q0, q1, q2, q3, q4, q5] (ps.take k)) wr) (fun _ i _ => n2 - (intOf i).toNat)
  case atStart => exact ⟨0, Nat.zero_le _, rfl, HI.out⟩
  case round =>
      obtain ⟨k, hk, rfl, hst⟩ := hrel
      have HT0 := Lib.hid hst
      clear hst HI
      by_cases hlt : k < n2
      · obtain ⟨ad, p0, p1, p2, p3, p4, p5, rfl, hrow, hadl, e0, e1, e2, e3, e4, e5⟩ := pr_at (HPs.out _ HT0.out.below) hlt
        have HX := Lib.hid hrow
        have HNX0 := Lib.hid (path_take (L := L) (s := [q0, q1, q2, q3, q4, q5]) hrow)
        obtain ⟨E, hE⟩ : ∃ E, E = MD.bestE L [q0, q1, q2, q3, q4, q5] [p0, p1, p2, p3, p4, p5] := ⟨_, rfl⟩
        have h6 : E.1.length = 6 := by rw [hE]; exact (MD.best_in rfl).1
        obtain ⟨eb, mv⟩ := E
        obtain ⟨m0, m1, m2, m3, m4, m5, rfl⟩ := six h6
        have HNX := Lib.hid (show pathE L [q0, q1, q2, q3, q4, q5] (ps.take k) ++ [(⟨p0, p1, p2, p3, p4, p5, m0, m1, m2, m3, m4, m5⟩ : C12)] = pathE L [q0, q1, q2, q3, q4, q5] (ps.take (k + 1)) from by rw [HNX0.out, ← hE]; rfl)
        have hbs : MD.bst (MD.options (MD.worths L [q0, q1, q2, q3, q4, q5]) [p0, p1, p2, p3, p4, p5]) = ([m0, m1, m2, m3, m4, m5], mv) := hE.symm
        clear HNX0 h6 hE hrow
        have hplen := path_len L [q0, q1, q2, q3, q4, q5] ps k
        obtain ⟨Rs', hRS⟩ : ∃ R, R = pathE L [q0, q1, q2, q3, q4, q5] (ps.take (k + 1)) := ⟨_, rfl⟩
        rw [← hRS] at HNX
        have HRS := Lib.hid hRS.symm
        clear hRS
        generalize pathE L [q0, q1, q2, q3, q4, q5] (ps.take k) = Rs at *
        have HBs := Lib.hid hbs
        clear hbs hadl
        have HOpp := Lib.hid (HOp.out p0 p1 p2 p3 p4 p5)
        go_upto_region 6 with (fail)
        have nb := below_new wr (.cells #[.int .i64 p0, .int .i64 p1, .int .i64 p2, .int .i64 p3, .int .i64 p4, .int .i64 p5] 39)
        have P1 := Lib.hid (BB.new wr 39 p0 p1 p2 p3 p4 p5)
        have HT := Lib.hid (HT0.out.keep nb)
        generalize wr.alloc (.cells #[.int .i64 p0, .int .i64 p1, .int .i64 p2, .int .i64 p3, .int .i64 p4, .int .i64 p5] 39) = w5 at *
        clear nb e0 e1 e2 e3 e4 e5 HT0
        obtain ⟨r0, r1, r2, r3, r4, r5⟩ := cells6 P1.out
        go_wp2_with fail
        refine (HOpp.out _ HT.out.below).mono ?_
        rintro ev w6 ⟨A6, n6, c6, rfl, ho6, nb⟩
        have P2 := Lib.hid (P1.out.keep nb P1.out.lt)
        have HT6 := Lib.hid (HT.out.keep nb)
        have HB6 := Lib.hid (show Calls Try.prog _ _ w6 (Gives (.tuple #[.agg #[.int .i64 m0, .int .i64 m1, .int .i64 m2, .int .i64 m3, .int .i64 m4, .int .i64 m5], .int .i64 mv]) w6) from by have h0 := best1_any A6 n6 c6 _ w6 ho6; rw [HBs.out] at h0; exact h0)
        clear nb ho6 r0 r1 r2 r3 r4 r5 P1 HT HOpp HBs
        go_wp2_with fail
        refine HB6.out.mono ?_
        rintro ev w6b ⟨rfl, nb⟩
        have P3 := Lib.hid (P2.out.keep nb P2.out.lt)
        have HT6b := Lib.hid (HT6.out.keep nb)
        clear nb HB6 P2 HT6
        go_upto_region 7 with (fail)
        have nb := below_new w6b (.cells #[.int .i64 m0, .int .i64 m1, .int .i64 m2, .int .i64 m3, .int .i64 m4, .int .i64 m5] 24)
        have P4 := Lib.hid (P3.out.keep nb P3.out.lt)
        have M4 := Lib.hid (BB.new w6b 24 m0 m1 m2 m3 m4 m5)
        have HT7 := Lib.hid (HT6b.out.keep nb)
        generalize w6b.alloc (.cells #[.int .i64 m0, .int .i64 m1, .int .i64 m2, .int .i64 m3, .int .i64 m4, .int .i64 m5] 24) = w7 at *
        clear nb P3 HT6b
        obtain ⟨r0, r1, r2, r3, r4, r5⟩ := cells6 P4.out
        obtain ⟨s0, s1, s2, s3, s4, s5⟩ := cells6 M4.out
        have nb := below_new w7 (.cells #[.int .i64 p0, .int .i64 p1, .int .i64 p2, .int .i64 p3, .int .i64 p4, .int .i64 p5, .int .i64 m0, .int .i64 m1, .int .i64 m2, .int .i64 m3, .int .i64 m4, .int .i64 m5] 57)
        have N6 := Lib.hid (heap_new w7 (.cells #[.int .i64 p0, .int .i64 p1, .int .i64 p2, .int .i64 p3, .int .i64 p4, .int .i64 p5, .int .i64 m0, .int .i64 m1, .int .i64 m2, .int .i64 m3, .int .i64 m4, .int .i64 m5] 57))
        have HT8 := Lib.hid (HT7.out.keep nb)
        clear nb
        go_wp2_with (at_builtin; refine wpList_append_own _ rfl _ _ 54 rfl w3.heap.size 57 i1 (.agg #[.int .i64 0, .int .i64 0, .int .i64 0, .int .i64 0, .int .i64 0, .int .i64 0, .int .i64 0, .int .i64 0, .int .i64 0, .int .i64 0, .int .i64 0, .int .i64 0]) 12 96 Try.underlying54 hi1 hy0 hy1 hy2 rfl (by decide) _ _ _ rfl HT8.out.own.1 ⟨w7.heap.size, 0, none⟩ 1 1 (cells_c12 ⟨p0, p1, p2, p3, p4, p5, m0, m1, m2, m3, m4, m5⟩) rfl rfl ?c1 ?c2 ?c3 ?c4 ?c5 ?_)
        case c1 => exact World.news_of_block N6.out
        case c2 => exact c12E.one ⟨p0, p1, p2, p3, p4, p5, m0, m1, m2, m3, m4, m5⟩
        case c3 => unfold maxLen; first | omega | simp
        case c4 => first | omega | simp
        case c5 => exact HT8.out.hs
        intro v' w9 hown hgrow _
        have HT9 := Lib.hid (HT8.out.app (o := ⟨p0, p1, p2, p3, p4, p5, m0, m1, m2, m3, m4, m5⟩) (by exact hown) hgrow)
        clear hown hgrow N6 HT8 HT7
        rw [HNX.out] at HT9
        clear r0 r1 r2 r3 r4 r5 s0 s1 s2 s3 s4 s5 P4 M4
        go_wp2
        go_roundw
        case rel => exact ⟨k + 1, by omega, by go_num, by rw [HRS.out]; exact HT9.out⟩
        case measure => simp [intOf]; omega
      · have hkn : k = ps.length := by rw [HPL.out]; omega
        rw [hkn, List.take_length] at HT0
        have hlen : (pathE L [q0, q1, q2, q3, q4, q5] ps).length ≤ 1000 := by rw [pathE, List.length_map, HPL.out]; omega
        obtain ⟨A8, c8, hv8, hl8, _⟩ := HT0.out.own.form2 (by omega)
        have L8 := Lib.hid hl8
        clear hl8 hkn hlen
        subst hv8
        go_wp2
        go_ret
        exact ⟨A8, _, c8, rfl, L8.out, B3.out.trans (HT0.out.below.mono B3.out.size)⟩
end Go.Proofs.Ytjjpfpgjpmedmaa
