/- The reference's Products: no claim of its own. -/
import Derived.Test.YtdopgoagadpccaaERef2
import Derived.Test.YtdopgoagadpccaaEPre
import Derived.Test.YtdopgoagadpccaaEProd
import Derived.StillTailTactics
namespace Go.Proofs.Ytdopgoagadpccaa
open Go.RowKit
open ME (F Nd)
theorem bb_no_slice {w : World} {g : Nat} {T : TypeId} {xs : List Int} (h : BB w g T xs) (k : Nat) (A : Option Addr) (n c : Nat) : w.cell? ⟨g, k, none⟩ ≠ some (.slice A n c) := by
  rw [cell_of_row w g k _ _ _ h.1]
  intro q
  unfold cellsB at q
  simp at q
/-- The bundle of the i-th node of a list, in worlds in which one row of ints may have changed. -/
theorem want_at {w : World} {Al : Option Addr} {n cl : Nat} {L : List NT} (h : Lst ntE w Al n cl L) {m : Nat} {T : TypeId} {zs : List Int} (hM : BB w m T zs) {i : Nat} (hi : i < n) : ∃ (ad : Addr) (x : NT) (b : List Int), Al = some ad ∧ L[i]? = some x ∧ x.n.b = b ∧ b.length = 6 ∧ ∀ w' : World, (∀ j, j < w.heap.size → ¬ j = m → w'.heap[j]? = w.heap[j]?) → (∀ q, q < 6 → w'.cell? ⟨(ad.add (i * 9)).block, (ad.add (i * 9)).off + 1 + q, none⟩ = some (.int .i64 (MB.at_ b q))) := by
  obtain ⟨ad, x, e, hx, hf, hlt, hc⟩ := h.at0 hi
  obtain ⟨o, b, v, A', c', k⟩ := x
  obtain ⟨y0, y1, y2, y3, y4, y5, rfl⟩ := six (show b.length = 6 from hf)
  have h8 : w.cell? ⟨(ad.add (i * 9)).block, (ad.add (i * 9)).off + 8, none⟩ = some (.slice A' k.len c') := hc 8 _ rfl
  have hd : ¬ (ad.add (i * 9)).block = m := fun hd => by
    rw [hd] at h8
    exact bb_no_slice hM _ _ _ _ h8
  refine ⟨ad, _, [y0, y1, y2, y3, y4, y5], e, hx, rfl, rfl, fun w' hb q hq => ?_⟩
  have hs : w'.heap[(ad.add (i * 9)).block]? = w.heap[(ad.add (i * 9)).block]? := hb (ad.add (i * 9)).block (by rw [show (ad.add (i * 9)).block = ad.block from by first | rfl | (unfold Addr.add; rfl) | (unfold Addr.add; split <;> rfl)]; exact hlt) hd
  have hs2 : ∀ n : Nat, w'.cell? ⟨(ad.add (i * 9)).block, n, none⟩ = w.cell? ⟨(ad.add (i * 9)).block, n, none⟩ := fun n => cell_same hs
  have h : q = 0 ∨ q = 1 ∨ q = 2 ∨ q = 3 ∨ q = 4 ∨ q = 5 := by omega
  rcases h with rfl | rfl | rfl | rfl | rfl | rfl
  · exact (hs2 _).trans (hc 1 _ rfl)
  · exact (hs2 _).trans (hc 2 _ rfl)
  · exact (hs2 _).trans (hc 3 _ rfl)
  · exact (hs2 _).trans (hc 4 _ rfl)
  · exact (hs2 _).trans (hc 5 _ rfl)
  · exact (hs2 _).trans (hc 6 _ rfl)
/-- What has been done when k quantities of a bundle are done. -/
structure Jn (F : Nat → Int) (M R : Nat) (w3 : World) (s : List Int) (wr : World) (k : Nat) (zs : List Int) : Prop where
  here : BB wr M 23 zs
  res : BB wr R 23 [0, 0, 0, 0, 0, 0]
  done : ∀ j, j < k → MB.at_ zs j = F j
  rest : ∀ j, k ≤ j → MB.at_ zs j = MB.at_ s j
  kx : Kx (fun j => j = M) w3 wr
theorem Jn.step {F : Nat → Int} {M R : Nat} {w3 wr : World} {s zs : List Int} {k : Nat} (h : Jn F M R w3 s wr k zs) (hR : ¬ R = M) (hk : k < 6) (v : Int) (hv : v = F k) : Jn F M R w3 s (wr.drew.setCell ⟨M, k, none⟩ (.int .i64 v)) (k + 1) (zs.set k v) :=
  ⟨h.here.drew.set k v, h.res.drew.other _ hR,
   fun j hj => by
    by_cases e : j = k
    · rw [e, at_set_same _ (by rw [h.here.2]; exact hk), hv]
    · rw [at_set_other _ e]; exact h.done j (by omega),
   fun j hj => by rw [at_set_other _ (by omega)]; exact h.rest j (by omega),
   Kx.set (w' := wr.drew) ⟨h.kx.os, h.kx.tape, h.kx.output, h.kx.size, h.kx.block⟩ rfl k _⟩
theorem Jn.step' {F : Nat → Int} {M R : Nat} {w3 wr : World} {s zs : List Int} {k : Nat} (h : Jn F M R w3 s wr k zs) (hR : ¬ R = M) (hk : k < 6) (v : Int) (hv : v = F k) : Jn F M R w3 s (wr.setCell ⟨M, k, none⟩ (.int .i64 v)).drew (k + 1) (zs.set k v) := by
  have := h.step hR hk v hv
  rwa [World.setCell_drew] at this
theorem rprod_results {w : World} {R1 : Nat} {z0 z1 z2 z3 z4 z5 : Int} (tmps : Array Value) (h2 : tmps.getD 2 undef = .pointer (some ⟨R1, 0, none⟩)) (b1 : BB w R1 23 [z0, z1, z2, z3, z4, z5]) :
    (results Try.f19 tmps).run Try.prog w = .ok (.agg #[.int .i64 z0, .int .i64 z1, .int .i64 z2, .int .i64 z3, .int .i64 z4, .int .i64 z5]) w := by
  have h2' : tmps[2]?.getD undef = .pointer (some ⟨R1, 0, none⟩) := by simpa using h2
  obtain ⟨r0, r1, r2, r3, r4, r5⟩ := cells6 b1
  simp [results, Try.results19, h2', go_sem, r0, r1, r2, r3, r4, r5]
set_option maxRecDepth 100000 in
set_option maxHeartbeats 8000000 in
theorem rprod_any (x : NT) (hx : x.size ≤ 1000000) (w : World) (ok : Nat → Prop) (hok : x.Ok w ok) : Calls Try.prog 19 #[x.val] w (Gives (aggB (ME.prodL x.n.pre ME.zero6)) w) := by
  have PN := Lib.hid (NT.pre_n x)
  have PL := Lib.hid (NT.pre_length x)
  have CP := Lib.hid (fun w' (hb : Below w.heap.size w w') => rpre_any 2000000 (Nat.le_refl _) x (by omega) w' _ (hok.below hb))
  obtain ⟨o, b, v, A, c, k⟩ := x
  obtain ⟨x0, x1, x2, x3, x4, x5, rfl⟩ := six hok.six
  have hn := hok.kids.few
  have HB := Lib.hid (below_new w (.cells #[.int .i64 o, .int .i64 x0, .int .i64 x1, .int .i64 x2, .int .i64 x3, .int .i64 x4, .int .i64 x5, .int .i64 v, .slice A k.len c] 26))
  have HB2 := Lib.hid (HB.out.alloc HB.out.size (.cells #[.int .i64 0, .int .i64 0, .int .i64 0, .int .i64 0, .int .i64 0, .int .i64 0] 23))
  have HB3 := Lib.hid (HB2.out.alloc HB2.out.size (.cells #[.int .i64 0, .int .i64 0, .int .i64 0, .int .i64 0, .int .i64 0, .int .i64 0] 23))
  have X0 : Hid (B9 (((w.alloc (.cells #[.int .i64 o, .int .i64 x0, .int .i64 x1, .int .i64 x2, .int .i64 x3, .int .i64 x4, .int .i64 x5, .int .i64 v, .slice A k.len c] 26)).alloc (.cells #[.int .i64 0, .int .i64 0, .int .i64 0, .int .i64 0, .int .i64 0, .int .i64 0] 23)).alloc (.cells #[.int .i64 0, .int .i64 0, .int .i64 0, .int .i64 0, .int .i64 0, .int .i64 0] 23)) w.heap.size (.int .i64 o) (.int .i64 x0) (.int .i64 x1) (.int .i64 x2) (.int .i64 x3) (.int .i64 x4) (.int .i64 x5) (.int .i64 v) (.slice A k.len c)) := Lib.hid ((((Below.heap_alloc _ _ _ (by simp; omega)).trans (Below.heap_alloc _ _ _ (by simp))).trans (heap_new _ _)))
  obtain ⟨W1, hW1⟩ : ∃ W1, W1 = w.alloc (.cells #[.int .i64 o, .int .i64 x0, .int .i64 x1, .int .i64 x2, .int .i64 x3, .int .i64 x4, .int .i64 x5, .int .i64 v, .slice A k.len c] 26) := ⟨_, rfl⟩
  have hs1 : W1.heap.size = w.heap.size + 1 := by rw [hW1]; simp
  have hs2 : (W1.alloc (.cells #[.int .i64 0, .int .i64 0, .int .i64 0, .int .i64 0, .int .i64 0, .int .i64 0] 23)).heap.size = w.heap.size + 2 := by rw [World.size_alloc, hs1]
  have BR := Lib.hid ((BB.new W1 23 0 0 0 0 0 0).alloc (.cells #[.int .i64 0, .int .i64 0, .int .i64 0, .int .i64 0, .int .i64 0, .int .i64 0] 23))
  have BM := Lib.hid (BB.new (W1.alloc (.cells #[.int .i64 0, .int .i64 0, .int .i64 0, .int .i64 0, .int .i64 0, .int .i64 0] 23)) 23 0 0 0 0 0 0)
  rw [← hW1] at HB HB2 HB3 X0
  rw [hs1] at BR
  rw [hs2] at BM
  obtain ⟨W3, hW3⟩ : ∃ W3, W3 = (W1.alloc (.cells #[.int .i64 0, .int .i64 0, .int .i64 0, .int .i64 0, .int .i64 0, .int .i64 0] 23)).alloc (.cells #[.int .i64 0, .int .i64 0, .int .i64 0, .int .i64 0, .int .i64 0, .int .i64 0] 23) := ⟨_, rfl⟩
  rw [← hW3] at HB3 BR BM X0
  have hsz1 : Hid (W1.heap.size = w.heap.size + 1 ∧ (W1.alloc (.cells #[.int .i64 0, .int .i64 0, .int .i64 0, .int .i64 0, .int .i64 0, .int .i64 0] 23)).heap.size = w.heap.size + 2) := Lib.hid ⟨hs1, hs2⟩
  rw [NT.val_lit] at CP
  rw [NT.val_lit]
  have HZ := Lib.hid (prodL_len (NT.n ⟨o, [x0, x1, x2, x3, x4, x5], v, A, c, k⟩).pre ME.zero6 rfl)
  clear hok hs1 hs2
  generalize (NT.n ⟨o, [x0, x1, x2, x3, x4, x5], v, A, c, k⟩).pre = P at *
  generalize NT.pre ⟨o, [x0, x1, x2, x3, x4, x5], v, A, c, k⟩ = L at *
  generalize NT.size ⟨o, [x0, x1, x2, x3, x4, x5], v, A, c, k⟩ = sz at *
  obtain ⟨RR, hRR⟩ : ∃ RR, RR = ME.prodL P ME.zero6 := ⟨_, rfl⟩
  rw [← hRR] at HZ ⊢
  obtain ⟨j0, j1, j2, j3, j4, j5, hj⟩ := six HZ.out
  have HRR := Lib.hid hRR
  clear hRR HZ
  subst hj
  rw [aggB_lit]
  obtain ⟨a0, a1, a2, a3, a4, a5, a6, a7, a8⟩ := X0.out.cells
  go_enter Try.func19, Try.ntmps19
  go_wp2_with fail
  rw [← hW1, ← hW3]
  clear hW1 hW3
  refine (CP.out _ HB3.out).mono ?_
  rintro ev w3 ⟨Al, nl, cl, rfl, hl, hb⟩
  have B3 := Lib.hid (HB3.out.trans (hb.mono HB3.out.size))
  have BR3 := Lib.hid (BR.out.keep hb BR.out.lt)
  have BM3 := Lib.hid (BM.out.keep hb BM.out.lt)
  have HL := Lib.hid hl
  have hnl : nl = sz := hl.len.symm.trans PL.out
  subst hnl
  have hcl := hl.cap
  clear hb hl HB HB2 HB3 BR BM X0 CP a0 a1 a2 a3 a4 a5 a6 a7 a8
  go_wp2
  first | rw [hsz1.out.1] | skip
  first | rw [hsz1.out.2] | skip
  have BM4 : Hid (BB w3 (w.heap.size + 1 + 1) 23 [0, 0, 0, 0, 0, 0]) := BM3
  obtain ⟨M, hM⟩ : ∃ M, M = w.heap.size + 1 + 1 := ⟨_, rfl⟩
  obtain ⟨R, hR⟩ : ∃ R, R = w.heap.size + 1 := ⟨_, rfl⟩
  rw [← hM] at BM4 ⊢
  rw [← hR] at BR3 ⊢
  have HMR : Hid (w.heap.size ≤ R ∧ w.heap.size ≤ M ∧ ¬ R = M) := Lib.hid ⟨by omega, by omega, by omega⟩
  clear BM3 hsz1 hM hR
  go_loopw [5, 6] (fun i _ wr => ∃ (n : Nat) (s : List Int), n ≤ nl ∧ i = .int .i64 n ∧ Hid (BB wr M 23 s) ∧ Hid (BB wr R 23 [0, 0, 0, 0, 0, 0]) ∧ Hid (Kx (fun j => j = M) w3 wr) ∧ Hid (ME.prodL ((L.drop n).map NT.n) s = [j0, j1, j2, j3, j4, j5])) (fun i _ _ => nl - (intOf i).toNat)
  case atStart => exact ⟨0, ME.zero6, Nat.zero_le _, rfl, BM4, BR3, Lib.hid (Kx.refl _ _), Lib.hid (by rw [HRR.out, ← PN.out]; rfl)⟩
  case round =>
    clear BR3 HRR
    obtain ⟨i, s, hi, rfl, HBM, HBR, HK, HP⟩ := hrel
    by_cases hlt : i < nl
    · obtain ⟨ad, x', b, rfl, hLi, hxb, hb6, hZ⟩ := want_at HL.out BM4.out hlt
      have hlt' : (i : Int) < (nl : Int) := by omega
      have HP2 : Hid (ME.prodL ((L.drop (i + 1)).map NT.n) (joinB s b) = [j0, j1, j2, j3, j4, j5]) := Lib.hid (by rw [← HP.out, drop_n hLi, ← hxb]; rfl)
      have HZ := Lib.hid (fun w' (q : Kx (fun j => j = M) w3 w') => hZ w' q.block)
      clear hZ hxb hLi HP
      obtain ⟨G, hG⟩ : ∃ G : Nat → Int, G = fun k => if MB.at_ s k < MB.at_ b k then MB.at_ b k else MB.at_ s k := ⟨_, rfl⟩
      have HJ := Lib.hid (show joinB s b = mapB G by rw [hG]; rfl)
      have HG := Lib.hid hG
      clear hG
      have J0 : Hid (Jn G M R w3 s wr 0 s) := Lib.hid ⟨HBM.out, HBR.out, fun j hj => absurd hj (Nat.not_lt_zero _), fun _ _ => rfl, HK.out⟩
      clear HBM HBR HK
      go_wp2
      go_loopw [6] (fun jv wq => ∃ (k : Nat) (zs : List Int), k ≤ 6 ∧ jv = .int .i64 k ∧ Hid (Jn G M R w3 s wq k zs)) (fun jv _ => 6 - (intOf jv).toNat)
      case atStart => exact ⟨0, s, Nat.zero_le _, rfl, J0⟩
      case round =>
        clear J0
        obtain ⟨k, zs, hk, rfl, HD⟩ := hrel
        by_cases hk6 : k < 6
        · have c1 : wr.cell? ⟨M, k, none⟩ = some (.int .i64 (MB.at_ s k)) := by rw [← HD.out.rest k (Nat.le_refl _)]; exact HD.out.here.cell hk6
          have c2 := HZ.out wr HD.out.kx k hk6
          have g1 := HD.out.here.free k
          have hszM := HD.out.here.lt
          have HFk : Hid ((if MB.at_ s k < MB.at_ b k then MB.at_ b k else MB.at_ s k) = G k) := Lib.hid (by rw [HG.out])
          have HR := Lib.hid HMR.out.2.2
          go_wp2
          go_still_tail 13, (by kernel_rfl)
          change wpList _ _ _ _ _ wr.drew
          go_wp2
          go_roundw
          case rel => exact ⟨k + 1, _, by omega, by go_num, Lib.hid (HD.out.step' HR.out hk6 _ HFk.out)⟩
          case measure => simp [intOf]; omega
        · obtain rfl : k = 6 := by omega
          have HE : Hid (zs = joinB s b) := Lib.hid ((mapB_ext _ HD.out.here.2 HD.out.done).trans HJ.out.symm)
          have HBM := Lib.hid HD.out.here
          have HBR := Lib.hid HD.out.res
          have HK := Lib.hid HD.out.kx
          clear HD
          rw [HE.out] at HBM
          clear HE HZ
          go_wp2
          go_roundw
          case rel => exact ⟨i + 1, _, by omega, by go_num, HBM, HBR, HK, HP2⟩
          case measure => simp [intOf]; omega
    · have hlt' : ¬ (i : Int) < (nl : Int) := by omega
      have HS : Hid (s = [j0, j1, j2, j3, j4, j5]) := Lib.hid (by rw [← HP.out, List.drop_of_length_le (by rw [PL.out]; omega)]; rfl)
      rw [HS.out] at HBM
      clear HS HP
      have B1 := Lib.hid (show Below w.heap.size w wr from B3.out.trans ⟨HK.out.os, HK.out.tape, HK.out.output, HK.out.size, fun j hj => HK.out.block j (by have := B3.out.size; omega) (by have := HMR.out.2.1; show ¬ j = M; omega)⟩)
      obtain ⟨c0, c1, c2, c3, c4, c5⟩ := cells6 HBM.out
      obtain ⟨d0, d1, d2, d3, d4, d5⟩ := cells6 HBR.out
      obtain ⟨f0, f1, f2, f3, f4, f5⟩ := free6 HBR.out
      have hRw := HMR.out.1
      clear HBM HK HMR
      go_wp2
      exact bodyPost_ret (rprod_results _ rfl (HBR.out.six j0 j1 j2 j3 j4 j5)) rfl ⟨rfl, below_six B1.out _ hRw _ _ _ _ _ _⟩
end Go.Proofs.Ytdopgoagadpccaa
