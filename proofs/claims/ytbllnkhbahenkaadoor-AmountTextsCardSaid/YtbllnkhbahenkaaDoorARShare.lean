/- The contract of the reference's Share, the walk: no claim of its own. -/
import Derived.Test.YtbllnkhbahenkaaDoorARShr
namespace Go.Proofs.YtbllnkhbahenkaaDoor
open Go.RowKit MA
theorem Rs.eq {w wr : World} {a c b d n : Nat} {f g f' g' : Nat → Int} (h : Rs w wr a c b d n f g) (hf : ∀ i, i < n → f i = f' i) (hg : ∀ i, i < n → g i = g' i) : Rs w wr a c b d n f' g' :=
  ⟨F_congr hf ▸ h.o1, F_congr hg ▸ h.o2, h.ne, h.bel, h.ca, h.cb⟩
theorem Rs.wts {w wr : World} {a c b d n : Nat} {f g : Nat → Int} (h : Rs w wr a c b d n f g) (hn : n ≤ 40) : Wts wr (some ⟨a, 0, none⟩) n c ((List.range n).map f) :=
  ⟨by rw [← F_eq]; exact Reads.of_own h.o1, by simp, h.ca, hn⟩
/-- Quotient and remainder of a share. -/
structure QR (t : Int) (ws : List Int) (k : Nat) (x p q r : Nat) : Prop where
  x1 : x ≤ 1000000
  e : p = t.toNat * x
  p1 : p ≤ 1000000000000
  hq : quo t.toNat (wN ws) ws.sum.toNat k = q
  hr : rem t.toNat (wN ws) ws.sum.toNat k = r
  dq : p / ws.sum.toNat = q
  dr : p % ws.sum.toNat = r
  q1 : q ≤ 1000000
theorem ShareIn.qr {t : Int} {ws : List Int} (h : ShareIn t ws) (k : Nat) (hk : k < ws.length) : ∃ (x p q r : Nat), (ws.getD k 0 = (x : Int)) ∧ QR t ws k x p q r := by
  have h1 := wN_le h.ok k
  have h2 := h.t1
  have h3 : t.toNat ≤ 1000000 := by omega
  refine ⟨wN ws k, t.toNat * wN ws k, _, _, (wN_cast h.ok hk).symm, h1, rfl, Nat.le_trans (Nat.mul_le_mul h3 h1) (by decide), rfl, rfl, rfl, rfl, ?_⟩
  have := S_ge (quo t.toNat (wN ws) ws.sum.toNat) ws.length k hk
  have := h.div.quo_le
  omega
/-- What is left once the first k whole parts are taken off. -/
structure Lf (t : Int) (ws : List Int) (k : Nat) (z : Int) : Prop where
  eq : z = t - (S (quo t.toNat (wN ws) ws.sum.toNat) k : Int)
theorem Lf.zero (t : Int) (ws : List Int) : Lf t ws 0 t := ⟨by simp [S]⟩
theorem Lf.range {t : Int} {ws : List Int} {k : Nat} {z : Int} (h : Lf t ws k z) (hs : ShareIn t ws) (hk : k ≤ ws.length) : 0 ≤ z ∧ z ≤ 1000000 := by
  have h1 := h.eq
  have h2 := hs.div.quo_le
  have h3 := S_mono (quo t.toNat (wN ws) ws.sum.toNat) k ws.length hk
  have := hs.t0; have := hs.t1
  omega
theorem Lf.next {t : Int} {ws : List Int} {k q : Nat} {z : Int} (h : Lf t ws k z) (hq : quo t.toNat (wN ws) ws.sum.toNat k = q) : Lf t ws (k + 1) (z - q) := by
  refine ⟨?_⟩
  have h1 := h.eq
  simp only [S]
  rw [hq]
  omega
theorem Lf.fin {t : Int} {ws : List Int} {z : Int} (h : Lf t ws ws.length z) (hs : ShareIn t ws) : z = (miss t.toNat (wN ws) ws.length ws.sum.toNat : Int) := by
  have h1 := h.eq
  have h2 := hs.div.missed
  have := hs.t0
  omega
set_option maxRecDepth 100000 in
set_option maxHeartbeats 4000000 in
theorem rshare_any (t : Int) (A : Option Addr) (n c : Nat) (ws : List Int) (w : World) (h : Wts w A n c ws) :
    Calls Tryd.prog 9 #[.int .i64 t, .slice A n c] w (GivesL (shareR t ws).1 (shareR t ws).2 w) := by
  have hc := h.cap
  have hn := h.fewW
  have H := Lib.hid h
  have HL := Lib.hid h.len
  clear h
  have CT := Lib.hid (fun W => rcheck_any t W)
  by_cases h0 : chk t = 0
  · have H0 := Lib.hid h0
    rw [h0] at CT
    clear h0
    obtain ⟨i0, hi0, hz0_, hz1, hz2⟩ := info_parts infoI64
    have I0 := Lib.hid (SumIn.zero ws)
    go_enter Tryd.func9, Tryd.ntmps9
    go_wp2_with (go_at_call 16; refine (CT.out _).mono ?_; rintro e w' ⟨rfl, rfl⟩)
    go_loop [6, 7] (fun s i => ∃ (k : Nat) (z : Int), k ≤ n ∧ i = .int .i64 k ∧ s = .int .i64 z ∧ 0 ≤ z ∧ z ≤ 1000000 * k ∧ Hid (SumIn ws k z)) (fun _ i => n - (intOf i).toNat)
    case atStart => exact ⟨0, 0, by omega, by go_num, by go_num, by omega, by omega, I0⟩
    case round =>
      obtain ⟨k, z, hk, rfl, rfl, hz0', hz1', hi⟩ := hrel
      clear I0
      by_cases hlt : k < n
      · obtain ⟨ad, rfl, hb, hcell⟩ := H.out.at_ hlt
        obtain ⟨x, hx⟩ : ∃ x, ws.getD k 0 = x := ⟨_, rfl⟩
        rw [hx] at hcell
        have CK := Lib.hid (fun W => rcheck_any x W)
        by_cases hok : 0 ≤ x ∧ x ≤ 1000000
        · obtain ⟨x0, x1⟩ := hok
          have I1 : Hid (SumIn ws (k + 1) (z + x)) := Lib.hid (hi.out.next (by rw [HL.out]; exact hlt) hx x0 x1)
          rw [chk_ok x0 x1] at CK
          have e1 : IntKind.i64.wrap (z + x) = z + x := IntWalk.i64_in _ (by omega)
          clear hx hi hb
          go_wp2_with (go_at_call 16; refine (CK.out _).mono ?_; rintro e w' ⟨rfl, rfl⟩)
          go_round
          case rel => exact ⟨k + 1, z + x, by omega, by go_num, by go_num, by omega, by omega, I1⟩
          case measure => simp [intOf]; omega
        · have F0 : Hid (shareR t ws = ([], 4)) := Lib.hid (shareR_sum H0.out (by rw [sumR_bad (by rw [HL.out]; exact hlt) hx hok]) (by decide))
          rw [chk_bad (by omega)] at CK
          clear hx hi hb hok
          go_wp2_with (go_at_call 16; refine (CK.out _).mono ?_; rintro e w' ⟨rfl, rfl⟩)
          go_ret2
          rw [F0.out]
          exact GivesL.nil _ _ _ (Below.refl _ _)
      · obtain rfl : k = n := by omega
        have F0 : Hid (sumR ws = if z = 0 then (0, 6) else (z, 0)) := Lib.hid (hi.out.fin (by rw [HL.out]))
        by_cases hz : z = 0
        · subst hz
          have F1 : Hid (shareR t ws = ([], 6)) := Lib.hid (shareR_sum H0.out (by rw [F0.out]; rfl) (by decide))
          clear hi F0
          go_wp2
          go_ret2
          rw [F1.out]
          exact GivesL.nil _ _ _ (Below.refl _ _)
        · have SI : ShareIn t ws := shareIn_of H0.out (by rw [F0.out, if_neg hz])
          have F1 : Hid (shareR t ws = (parts t ws, 0)) := Lib.hid (shareR_ok SI)
          have hzs : z = (ws.sum.toNat : Int) := by
            have := (sumR_zero (ws := ws) (by rw [F0.out, if_neg hz])).2.2
            rw [F0.out, if_neg hz] at this
            have h2 := SI.sumN.2
            injection this with this _
            omega
          have hsl := SI.sum_le (by rw [HL.out]; exact hn)
          have hsp := SI.div.pos
          have ht0 := SI.t0
          have ht1 := SI.t1
          have HS := Lib.hid SI
          have I1 : Hid (Two w w (.slice none 0 0) (.slice none 0 0) 0 0 (fun i => (quo t.toNat (wN ws) ws.sum.toNat i : Int)) (fun i => (rem t.toNat (wN ws) ws.sum.toNat i : Int))) := Lib.hid (Two.start w _ _)
          have I2 := Lib.hid (Lf.zero t ws)
          obtain ⟨W, hW⟩ : ∃ W, ws.sum.toNat = W := ⟨_, rfl⟩
          have HWE := Lib.hid hW
          rw [hW] at hsl hsp hzs
          subst hzs
          have hz0 : ((W : Int) == 0) = false := beq_eq_false_iff_ne.2 (by omega)
          clear hi F0 hz hW SI hz0' hz1'
          go_wp2
          go_loopw [8, 9, 10, 11] (fun v u z i wr => ∃ (j : Nat) (y : Int), j ≤ k ∧ i = .int .i64 j ∧ z = .int .i64 y ∧ 0 ≤ y ∧ y ≤ 1000000 ∧ Hid (Lf t ws j y) ∧ Hid (Two w wr v u j j (fun i => (quo t.toNat (wN ws) ws.sum.toNat i : Int)) (fun i => (rem t.toNat (wN ws) ws.sum.toNat i : Int)))) (fun _ _ _ i _ => k - (intOf i).toNat)
          case atStart => exact ⟨0, t, by omega, by go_num, rfl, ht0, ht1, I2, I1⟩
          case round =>
            obtain ⟨j, y, hj, rfl, rfl, hy0, hy1, hL, hT⟩ := hrel
            clear I1 I2
            have hsz := hT.out.bel.size
            by_cases hjt : j < k
            · obtain ⟨ad, rfl, hb, hcell⟩ := (H.out.keep hT.out.bel).at_ hjt
              obtain ⟨x, p, q, r, hx, QQ⟩ := HS.out.qr j (by rw [HL.out]; exact hjt)
              rw [hx] at hcell
              have hxl := QQ.x1
              have hpl := QQ.p1
              have hql := QQ.q1
              have eqq := QQ.dq
              have eqr := QQ.dr
              rw [HWE.out] at eqq eqr
              have e1 : IntKind.i64.wrap (t * (x : Int)) = ((p : Nat) : Int) := by
                rw [show t * (x : Int) = ((p : Nat) : Int) by rw [QQ.e]; push_cast; rw [show ((t.toNat : Nat) : Int) = t by omega]]
                exact IntWalk.i64_in _ (by omega)
              have hrl : r < W := by rw [← eqr]; exact Nat.mod_lt _ hsp
              have e2 : ((p : Nat) : Int).tmod (W : Int) = (r : Int) := by rw [Int.tmod_eq_emod_of_nonneg (by omega), ← eqr]; rfl
              have e2' : ((p : Nat) : Int) % (W : Int) = (r : Int) := by rw [← eqr]; rfl
              have e3 : ((p : Nat) : Int).tdiv (W : Int) = (q : Int) := by rw [Int.tdiv_eq_ediv_of_nonneg (by omega), ← eqq]; rfl
              have e3' : ((p : Nat) : Int) / (W : Int) = (q : Int) := by rw [← eqq]; rfl
              have HQ := Lib.hid QQ
              have HX := Lib.hid hx
              have hL1 := Lib.hid (hL.out.next QQ.hq)
              have hyr := hL1.out.range HS.out (by rw [HL.out]; omega)
              have e4 : IntKind.i64.wrap (y - (q : Int)) = y - (q : Int) := IntWalk.i64_in _ (by omega)
              clear hx hb eqq eqr QQ hL
              go_wp2_with (at_builtin; refine wpList_append_own_at _ rfl _ _ 22 rfl w.heap.size 2 i0 (.int .i64 0) 1 8 Tryd.underlying22 hi0 hz0_ hz1 hz2 rfl (by decide) _ _ _ rfl (hT.out.o1.alloc _) ⟨wr.heap.size, 0, none⟩ 1 1 [.int .i64 (q : Int)] rfl rfl ?c1 ?c2 ?c3 ?c4 ?c5 ?_)
              case c1 =>
                intro j u hj
                match j, hj with
                | 0, hj => simp at hj; subst hj; simp [Addr.add]
              case c2 => intro u hu; simp at hu; subst hu; rfl
              case c3 => unfold maxLen; omega
              case c4 => omega
              case c5 => simp; omega
              intro v1 w1 hown1 hgrow1 _ hblk1
              have T1 := Lib.hid (hT.out.app1 (by rw [HQ.out.hq]; exact hown1) hgrow1 hblk1)
              obtain ⟨ad', eA, _, hcell1⟩ := (H.out.keep T1.out.bel).at_ hjt
              injection eA with eA
              subst eA
              rw [HX.out] at hcell1
              have hsz1 := T1.out.bel.size
              clear hown1 hgrow1 hblk1 hT hcell
              go_wp2_with (at_builtin; refine wpList_append_own_at _ rfl _ _ 22 rfl w.heap.size 2 i0 (.int .i64 0) 1 8 Tryd.underlying22 hi0 hz0_ hz1 hz2 rfl (by decide) _ _ _ rfl (T1.out.o2.alloc _) ⟨w1.heap.size, 0, none⟩ 1 1 [.int .i64 (r : Int)] rfl rfl ?c1 ?c2 ?c3 ?c4 ?c5 ?_)
              case c1 =>
                intro j u hj
                match j, hj with
                | 0, hj => simp at hj; subst hj; simp [Addr.add]
              case c2 => intro u hu; simp at hu; subst hu; rfl
              case c3 => unfold maxLen; omega
              case c4 => omega
              case c5 => simp; omega
              intro v2 w2 hown2 hgrow2 _ hblk2
              have T2 := Lib.hid (T1.out.app2 (by rw [HQ.out.hr]; exact hown2) hgrow2 hblk2)
              obtain ⟨g1, c1, rfl, _, _⟩ := T2.out.o1.form (by omega)
              have hcell2 : w2.cell? ⟨g1, j, none⟩ = some (.int .i64 (q : Int)) := by
                have := (T2.out.o1.cellAt j (by omega)).trans (F_at _ (by omega : j < j + 1))
                rw [HQ.out.hq] at this
                exact this
              clear hown2 hgrow2 hblk2 T1
              go_wp2
              go_roundw
              case rel => exact ⟨j + 1, y - q, by omega, by go_num, by go_num, hyr.1, hyr.2, hL1, T2⟩
              case measure => simp [intOf]; omega
            · obtain rfl : j = k := by omega
              obtain ⟨a, ca, b, cb, rfl, rfl, hR⟩ := hT.out.full (by rw [← HL.out]; exact HS.out.pos)
              have hM : Hid (y = (miss t.toNat (wN ws) j ws.sum.toNat : Int)) := Lib.hid (by
                have := hL.out
                rw [← HL.out] at this ⊢
                exact this.fin HS.out)
              have hf := HS.out.div.fewW
              rw [HL.out] at hf
              have R0 : Hid (Rs w wr a ca b cb j (fun i => (MA.partAt t.toNat (wN ws) j ws.sum.toNat 0 i : Int)) (fun i => restAt t.toNat (wN ws) j ws.sum.toNat 0 i)) := Lib.hid (hR.eq (fun i _ => by rw [partAt_zero]) (fun i _ => by rw [restAt_zero]))
              have hpl := fun i (hi : i < j) m (hm : m ≤ miss t.toNat (wN ws) j ws.sum.toNat) => partAt_le (by rw [← HL.out]; exact HS.out.div) hi hm
              have HP := Lib.hid hpl
              have DV : Hid (Div t.toNat (wN ws) j ws.sum.toNat) := Lib.hid (by rw [← HL.out]; exact HS.out.div)
              have hca := hR.ca
              have hcb := hR.cb
              have PE : Hid (parts t ws = (List.range j).map fun i => (MA.partAt t.toNat (wN ws) j ws.sum.toNat (miss t.toNat (wN ws) j ws.sum.toNat) i : Int)) := Lib.hid (by unfold parts partsAt; rw [HL.out])
              clear hL hT hR hpl
              generalize miss t.toNat (wN ws) j ws.sum.toNat = M at *
              obtain rfl := hM.out
              clear hM
              go_wp2
              go_loopw [10] (fun z wr => ∃ m : Nat, m ≤ M ∧ z = .int .i64 ((M : Int) - m) ∧ Hid (Rs w wr a ca b cb j (fun i => (MA.partAt t.toNat (wN ws) j ws.sum.toNat m i : Int)) (fun i => restAt t.toNat (wN ws) j ws.sum.toNat m i))) (fun z _ => (intOf z).toNat)
              case atStart => exact ⟨0, by omega, by go_num, R0⟩
              case round =>
                obtain ⟨m, hm, rfl, hi⟩ := hrel
                clear R0
                by_cases hmt : m < M
                · have B0 := Lib.hid (best_start (fun i => restAt t.toNat (wN ws) j ws.sum.toNat m i))
                  go_wp2
                  go_loopw [12, 13] (fun bb i wq => ∃ (kb ki q : Nat), ki ≤ j ∧ kb < j ∧ bb = .int .i64 kb ∧ i = .int .i64 ki ∧ wq = wr.drewN q ∧ Hid (Best (fun i => restAt t.toNat (wN ws) j ws.sum.toNat m i) ki kb)) (fun _ i _ => j - (intOf i).toNat)
                  case atStart => exact ⟨0, 0, 0, by omega, by omega, by go_num, by go_num, rfl, B0⟩
                  case round =>
                    clear B0
                    obtain ⟨kb, ki, q, hki, hkb, rfl, rfl, rfl, hB⟩ := hrel
                    by_cases hkt : ki < j
                    · have d1 := hi.out.c2 hkt
                      have d2 := hi.out.c2 hkb
                      have l1 := restAt_lo (t := t.toNat) (w := wN ws) (n := j) (W := ws.sum.toNat) m ki
                      have l2 := restAt_lo (t := t.toNat) (w := wN ws) (n := j) (W := ws.sum.toNat) m kb
                      by_cases hgt : restAt t.toNat (wN ws) j ws.sum.toNat m kb < restAt t.toNat (wN ws) j ws.sum.toNat m ki
                      · have B1 := Lib.hid (best_turn hB.out hgt)
                        generalize restAt t.toNat (wN ws) j ws.sum.toNat m ki = x1 at *
                        generalize restAt t.toNat (wN ws) j ws.sum.toNat m kb = x2 at *
                        have hd : decide (x2 < x1) = true := decide_eq_true hgt
                        clear hB
                        go_wp2
                        go_quiet (fail)
                        go_wp2
                        go_roundw
                        case rel => exact ⟨ki, ki + 1, _, by omega, by omega, by go_num, by go_num, rfl, B1⟩
                        case measure => simp [intOf]; omega
                      · have B1 := Lib.hid (best_keep hB.out hgt)
                        generalize restAt t.toNat (wN ws) j ws.sum.toNat m ki = x1 at *
                        generalize restAt t.toNat (wN ws) j ws.sum.toNat m kb = x2 at *
                        have hd : decide (x2 < x1) = false := decide_eq_false hgt
                        clear hB
                        go_wp2
                        go_quiet (fail)
                        go_wp2
                        go_roundw
                        case rel => exact ⟨kb, ki + 1, _, by omega, by omega, by go_num, by go_num, rfl, B1⟩
                        case measure => simp [intOf]; omega
                    · obtain rfl : ki = j := by omega
                      have hrk := best_rank (by omega) hB.out
                      have hnot : Hid (∀ i, i < ki → i ≠ kb → rank (rem t.toNat (wN ws) ws.sum.toNat) ki i ≠ m) := Lib.hid (fun i hi' hne e => hne (rank_inj hi' hkb (e.trans hrk.symm)))
                      have hR := hi.out.drewN q
                      have d1 := hR.c1 hkb
                      have f1 := hR.frozen1 kb
                      have pl := HP.out kb hkb m hm
                      have S1 := Lib.hid (hR.store kb ((MA.partAt t.toNat (wN ws) ki ws.sum.toNat m kb : Int) + 1) (-1) (f' := fun i => (MA.partAt t.toNat (wN ws) ki ws.sum.toNat (m + 1) i : Int)) (g' := fun i => restAt t.toNat (wN ws) ki ws.sum.toNat (m + 1) i)
                        (fun i hi' => by
                          by_cases e : i = kb
                          · subst e; rw [if_pos rfl, partAt_rank hrk]; push_cast; rfl
                          · rw [if_neg e, partAt_not (hnot.out i hi' e)])
                        (fun i hi' => by
                          by_cases e : i = kb
                          · subst e; rw [if_pos rfl, restAt_rank hrk]
                          · rw [if_neg e, restAt_not (hnot.out i hi' e)]))
                      have f2 : ((wr.drewN q).setCell ⟨a, kb, none⟩ (.int .i64 ((MA.partAt t.toNat (wN ws) ki ws.sum.toNat m kb : Int) + 1))).frozen? ⟨b, kb, none⟩ = false := by rw [World.frozen?_setCell]; exact hR.frozen2 kb
                      have f3 : ((wr.drewN q).setCell ⟨a, kb, none⟩ (.int .i64 ((MA.partAt t.toNat (wN ws) ki ws.sum.toNat m kb : Int) + 1))).cell? ⟨b, kb, none⟩ = some (.int .i64 (restAt t.toNat (wN ws) ki ws.sum.toNat m kb)) := by
                        rw [World.cell?_setCell_other _ _ _ _ (by intro e; simp only [Addr.mk.injEq] at e; exact hi.out.ne e.1)]; exact hR.c2 hkb
                      have e5 : IntKind.i64.wrap ((M : Int) - m - 1) = (M : Int) - m - 1 := IntWalk.i64_in _ (by omega)
                      clear hR hnot hrk hB hi
                      generalize MA.partAt t.toNat (wN ws) ki ws.sum.toNat m kb = pv at *
                      generalize restAt t.toNat (wN ws) ki ws.sum.toNat m kb = rv at *
                      have e6 : IntKind.i64.wrap ((pv : Int) + 1) = (pv : Int) + 1 := IntWalk.i64_in _ (by omega)
                      go_wp2
                      go_roundw
                      case rel => exact ⟨m + 1, by omega, by go_num, S1⟩
                      case measure => simp [intOf]; omega
                · obtain rfl : m = M := by omega
                  have FF : Hid (GivesL (shareR t ws).1 (shareR t ws).2 w (.returned (.tuple #[.slice (some ⟨a, 0, none⟩) j ca, .int .i64 0])) wr) := Lib.hid (by
                    rw [F1.out, PE.out]
                    exact ⟨_, _, _, rfl, hi.out.wts hn, hi.out.bel⟩)
                  clear hi
                  go_wp2
                  go_ret2
                  exact FF.out
  · have hch : chk t = 4 := chk_bad (by
      rcases Int.lt_or_le t 0 with h | h
      · exact .inl h
      · rcases Int.lt_or_le 1000000 t with h2 | h2
        · exact .inr h2
        · exact absurd (chk_ok h h2) h0)
    have F0 : Hid (shareR t ws = ([], 4)) := Lib.hid (shareR_bad ws h0)
    rw [hch] at CT
    clear h0 hch
    go_enter Tryd.func9, Tryd.ntmps9
    go_wp2_with (go_at_call 16; refine (CT.out _).mono ?_; rintro e w' ⟨rfl, rfl⟩)
    go_ret2
    rw [F0.out]
    exact GivesL.nil _ _ _ (Below.refl _ _)
end Go.Proofs.YtbllnkhbahenkaaDoor
