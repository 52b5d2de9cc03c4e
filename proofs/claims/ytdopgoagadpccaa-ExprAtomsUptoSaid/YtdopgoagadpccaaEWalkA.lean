/- The walk of ExprAtoms: no claim of its own. -/
import Derived.Test.YtdopgoagadpccaaEAwk
import Derived.Test.YtdopgoagadpccaaERef5
import Derived.Maps.AppendAt
import Derived.Laws.AppendOwnNone
namespace Go.Proofs.Ytdopgoagadpccaa
open Go.RowKit
open ME (F Nd)
theorem own_news {w : World} {B g cap : Nat} {L : List NT} (h : OwnL ntE 26 w B (.slice (some ⟨g, 0, none⟩) L.length cap) L) (hn : L.length ≤ 9223372036854775807) : (ntE.all L).length = L.length * 9 ∧ ∀ j u, (ntE.all L)[j]? = some u → w.cell? ((⟨g, 0, none⟩ : Addr).add j) = some u := by
  refine ⟨by rw [El.all_length h.2]; rfl, fun j u hu => ?_⟩
  obtain ⟨A, c, e, hl, _⟩ := h.form2 hn
  injection e with e1 e2 e3
  have h0 : 0 < L.length := by
    rcases Nat.eq_zero_or_pos L.length with q | q
    · rw [List.eq_nil_of_length_eq_zero q] at hu; simp [El.all] at hu
    · exact q
  obtain ⟨ad, ea, _, hc⟩ := hl.news h0
  rw [← e1] at ea
  injection ea with ea
  subst ea
  exact hc j u hu
set_option maxRecDepth 100000 in
set_option maxHeartbeats 8000000 in
theorem exprAtoms_walk (x : NT) (w : World) (hx : 2 * x.size ≤ 1048576) (hox : x.Ok w (fun _ => True)) : Calls Try.prog 6 #[x.val] w (Gives (.bool true) w) := by
  have FX := Lib.hid (fun w' (hb : Below w.heap.size w w') => few_any x (by omega) w' _ (hox.below hb))
  have AX := Lib.hid (fun w' (hb : Below w.heap.size w w') => atoms_any x (by omega) w' _ (hox.below hb))
  have RX := Lib.hid (fun w' (hb : Below w.heap.size w w') => ratoms_any x (by omega) w' _ (hox.below hb))
  have PKOK := Lib.hid (fun (w' : World) (hb : Below w.heap.size w w') (y : NT) (hy : y ∈ pickA x.pre) => NT.pre_ok (hox.below hb) y ((List.mem_filter.1 hy).1))
  have PKN : Hid ((pickA x.pre).map NT.n = ME.atomsL x.n.pre) := Lib.hid (by rw [pickA_n, NT.pre_n])
  have hal : (ME.atomsL x.n.pre).length ≤ 1000000 := Nat.le_trans (atomsL_le x.n.pre) (by rw [ME.Nd.pre_length, NT.size_n]; omega)
  have HR0 : Hid (Rest w (fun j => j < w.heap.size) x.A 0 x.k x.k.len) := Lib.hid (hox.kids.rest.keep (fun _ _ _ => rfl) (Nat.le_refl _) (fun j _ hk => hk))
  have AW := Lib.hid awake_any
  obtain ⟨i0, hi, hz0, hz1, hz2⟩ := info_parts infoExpr
  have hn := hox.kids.few
  have hcap := hox.kids.cap
  have hks : x.k.size ≤ x.size := by unfold NT.size; omega
  have AN : Hid (x.o ≠ 1 → ME.atomsL x.n.pre = ME.atomsL x.k.f.pre) := Lib.hid (fun h => (ME.atoms_node (n := x.n) h).trans (ME.atoms_args x.k.f).symm)
  obtain ⟨o, b, v, A, c, k⟩ := x
  obtain ⟨x0, x1, x2, x3, x4, x5, rfl⟩ := six hox.six
  dsimp only at HR0 hn hcap hks AN
  rw [NT.val_lit] at FX AX RX
  rw [NT.val_lit]
  generalize ME.atomsL (NT.n ⟨o, [x0, x1, x2, x3, x4, x5], v, A, c, k⟩).pre = R at *
  generalize pickA (NT.pre ⟨o, [x0, x1, x2, x3, x4, x5], v, A, c, k⟩) = PK at *
  generalize NT.size ⟨o, [x0, x1, x2, x3, x4, x5], v, A, c, k⟩ = sx at *
  have HB := Lib.hid (below_new w (.cells #[.int .i64 o, .int .i64 x0, .int .i64 x1, .int .i64 x2, .int .i64 x3, .int .i64 x4, .int .i64 x5, .int .i64 v, .slice A k.len c] 26))
  have X0 : Hid (B9 (w.alloc (.cells #[.int .i64 o, .int .i64 x0, .int .i64 x1, .int .i64 x2, .int .i64 x3, .int .i64 x4, .int .i64 x5, .int .i64 v, .slice A k.len c] 26)) w.heap.size (.int .i64 o) (.int .i64 x0) (.int .i64 x1) (.int .i64 x2) (.int .i64 x3) (.int .i64 x4) (.int .i64 x5) (.int .i64 v) (.slice A k.len c)) := Lib.hid (heap_new _ _)
  clear hox
  obtain ⟨W0, hW0⟩ : ∃ W0, W0 = w.alloc (.cells #[.int .i64 o, .int .i64 x0, .int .i64 x1, .int .i64 x2, .int .i64 x3, .int .i64 x4, .int .i64 x5, .int .i64 v, .slice A k.len c] 26) := ⟨_, rfl⟩
  rw [← hW0] at HB X0
  obtain ⟨a0, a1, a2, a3, a4, a5, a6, a7, a8⟩ := X0.out.cells
  go_enter Try.func6, Try.ntmps6
  go_upto_region 1 with (fail)
  rw [← hW0]
  clear hW0
  go_wp2_with fail
  refine (FX.out _ HB.out).mono ?_
  rintro ev w1 ⟨rfl, hb⟩
  have B1 := Lib.hid (HB.out.trans (hb.mono HB.out.size))
  have X1 := Lib.hid (X0.out.keep hb)
  clear hb X0 HB FX a0 a1 a2 a3 a4 a5 a6 a7 a8
  by_cases h1 : sx ≤ 400
  case neg =>
    rw [decide_eq_false h1]
    clear AX RX PKOK PKN HR0 AN X1
    go_wp2_with fail
    refine (AW.out _).mono ?_
    rintro ev wz ⟨rfl, hb⟩
    have BZ := Lib.hid (B1.out.trans (hb.mono B1.out.size))
    clear hb
    go_wp2
    go_ret
    exact ⟨rfl, BZ.out⟩
  rw [decide_eq_true h1]
  obtain ⟨a0, a1, a2, a3, a4, a5, a6, a7, a8⟩ := X1.out.cells
  go_wp2_with fail
  refine (AX.out _ B1.out).mono ?_
  rintro ev w2 ⟨va, La, rfl, ha, hna, hoka, hb⟩
  have hla : La.length ≤ 1000000 := by have := congrArg List.length hna; rw [List.length_map] at this; omega
  obtain ⟨Aa, ca, rfl, hLa, _⟩ := ha.form2 (by omega)
  have HNA := Lib.hid hna
  have HLa := Lib.hid hLa
  have HKA : Hid (∀ w', Below w2.heap.size w2 w' → ∀ z ∈ La, z.Ok w' (fun _ => True)) := Lib.hid (fun w' hb' z hz => ((hoka z hz).1.keep (fun _ _ _ => rfl) (Nat.le_refl _) (fun _ _ _ => trivial)).below hb')
  have B2 := Lib.hid (B1.out.trans (hb.mono B1.out.size))
  have X2 := Lib.hid (X1.out.keep hb)
  clear hb hna hLa hoka ha X1 B1 AX a0 a1 a2 a3 a4 a5 a6 a7 a8
  obtain ⟨a0, a1, a2, a3, a4, a5, a6, a7, a8⟩ := X2.out.cells
  go_wp2_with fail
  refine (RX.out _ B2.out).mono ?_
  rintro ev w3 ⟨Ab, nb, cb, rfl, hlb, hb⟩
  have B3 := Lib.hid (B2.out.trans (hb.mono B2.out.size))
  have X3 := Lib.hid (X2.out.keep hb)
  have SM := Lib.hid (rsame_any w3 (HLa.out.keep hb) hlb (HKA.out _ hb) (PKOK.out _ B3.out) (HNA.out.trans PKN.out.symm))
  have HLa3 := Lib.hid (HLa.out.keep hb)
  have HKA3 : Hid (∀ w', Below w3.heap.size w3 w' → ∀ z ∈ La, z.Ok w' (fun _ => True)) := Lib.hid (fun w' hb' => HKA.out w' (hb.trans (hb'.mono hb.size)))
  clear hb hlb X2 B2 RX PKOK PKN HLa HKA a0 a1 a2 a3 a4 a5 a6 a7 a8
  go_wp2_with fail
  refine SM.out.mono ?_
  rintro ev w4 ⟨rfl, hb⟩
  have B4 := Lib.hid (B3.out.trans (hb.mono B3.out.size))
  have X4 := Lib.hid (X3.out.keep hb)
  have HLa4 := Lib.hid (HLa3.out.keep hb)
  have HKA4 : Hid (∀ w', Below w4.heap.size w4 w' → ∀ z ∈ La, z.Ok w' (fun _ => True)) := Lib.hid (fun w' hb' => HKA3.out w' (hb.trans (hb'.mono hb.size)))
  have HR4 := Lib.hid (HR0.out.below B4.out)
  have hw4 := B4.out.size
  clear hb X3 B3 HLa3 HKA3 SM HR0
  obtain ⟨a0, a1, a2, a3, a4, a5, a6, a7, a8⟩ := X4.out.cells
  go_wp2
  clear a0 a1 a2 a3 a4 a5 a6 a7 a8
  go_loopw [4, 21] (fun vb i wr => ∃ (q : Nat) (rs : FT) (L : List NT), q ≤ k.len ∧ L.length + rs.size ≤ sx ∧ i = .int .i64 q ∧ Hid (OwnL ntE 26 wr w4.heap.size vb L) ∧ Hid (∀ z ∈ L, z.Ok wr (fun j => w4.heap.size ≤ j ∧ vb.ownBlock ≠ some j)) ∧ Hid (Rest wr (fun j => j < w.heap.size) A q rs k.len) ∧ Hid (Below w4.heap.size w4 wr) ∧ Hid (L.map NT.n ++ ME.atomsL rs.f.pre = ME.atomsL k.f.pre)) (fun _ i _ => k.len - (intOf i).toNat)
  case atStart => exact ⟨0, k, [], Nat.zero_le _, by simpa using hks, rfl, Lib.hid (OwnL.nil _ _ _), Lib.hid (fun z hz => by cases hz), HR4, Lib.hid (Below.refl _ _), Lib.hid rfl⟩
  case round =>
    clear HR4
    obtain ⟨q, rs, L, hq, hrs, rfl, HOL, HOK, HK, HQ, HL⟩ := hrel
    by_cases hlt : q < k.len
    · obtain ⟨ad, o', y0, y1, y2, y3, y4, y5, v', A', c', k', r', rfl, rfl, hok', hnx, hbk, _, z0, z1, z2, z3, z4, z5, z6, z7, z8⟩ := HK.out.open_ hlt
      have HN := Lib.hid hnx
      have hrs2 : L.length + (NT.size ⟨o', [y0, y1, y2, y3, y4, y5], v', A', c', k'⟩ + r'.size) ≤ sx := by unfold FT.size at hrs; unfold NT.size; show L.length + (k'.size + 1 + r'.size) ≤ sx; omega
      have CE := Lib.hid (fun w' (hb : Below wr.heap.size wr w') => atoms_any ⟨o', [y0, y1, y2, y3, y4, y5], v', A', c', k'⟩ (by omega) w' _ (hok'.below hb))
      have hyl : (ME.atomsL (NT.n ⟨o', [y0, y1, y2, y3, y4, y5], v', A', c', k'⟩).pre).length ≤ NT.size ⟨o', [y0, y1, y2, y3, y4, y5], v', A', c', k'⟩ := Nat.le_trans (atomsL_le _) (by rw [ME.Nd.pre_length, NT.size_n]; exact Nat.le_refl _)
      have HL2 : Hid ((L.map NT.n ++ ME.atomsL (NT.n ⟨o', [y0, y1, y2, y3, y4, y5], v', A', c', k'⟩).pre) ++ ME.atomsL r'.f.pre = ME.atomsL k.f.pre) := Lib.hid (by rw [← HL.out]; show _ = _ ++ ME.atomsL ((NT.n ⟨o', [y0, y1, y2, y3, y4, y5], v', A', c', k'⟩).pre ++ r'.f.pre); rw [ME.atoms_app, List.append_assoc])
      rw [NT.val_lit] at CE
      clear hok' hnx HK HL hrs
      generalize ME.atomsL (NT.n ⟨o', [y0, y1, y2, y3, y4, y5], v', A', c', k'⟩).pre = RY at *
      generalize NT.size ⟨o', [y0, y1, y2, y3, y4, y5], v', A', c', k'⟩ = ny at *
      have hlt' : (q : Int) < (k.len : Int) := by omega
      obtain ⟨W5, hW5⟩ : ∃ W5, W5 = wr.alloc (.cells #[.int .i64 o', .int .i64 y0, .int .i64 y1, .int .i64 y2, .int .i64 y3, .int .i64 y4, .int .i64 y5, .int .i64 v', .slice A' k'.len c'] 26) := ⟨_, rfl⟩
      have BW5 := Lib.hid (below_new wr (.cells #[.int .i64 o', .int .i64 y0, .int .i64 y1, .int .i64 y2, .int .i64 y3, .int .i64 y4, .int .i64 y5, .int .i64 v', .slice A' k'.len c'] 26))
      have X5 : Hid (B9 (wr.alloc (.cells #[.int .i64 o', .int .i64 y0, .int .i64 y1, .int .i64 y2, .int .i64 y3, .int .i64 y4, .int .i64 y5, .int .i64 v', .slice A' k'.len c'] 26)) wr.heap.size (.int .i64 o') (.int .i64 y0) (.int .i64 y1) (.int .i64 y2) (.int .i64 y3) (.int .i64 y4) (.int .i64 y5) (.int .i64 v') (.slice A' k'.len c')) := Lib.hid (heap_new _ _)
      rw [← hW5] at BW5 X5
      obtain ⟨a0, a1, a2, a3, a4, a5, a6, a7, a8⟩ := X5.out.cells
      go_upto_region 10 with (fail)
      rw [← hW5]
      clear hW5 z0 z1 z2 z3 z4 z5 z6 z7 z8
      go_wp2_with fail
      refine (CE.out _ BW5.out).mono ?_
      rintro ev w6 ⟨vc, Lc, rfl, hc, hnc, hokc, hb⟩
      clear CE a0 a1 a2 a3 a4 a5 a6 a7 a8 X5
      have hlc : Lc.length ≤ ny := by have := congrArg List.length hnc; rw [List.length_map] at this; omega
      have hb6 : Below wr.heap.size wr w6 := BW5.out.trans (hb.mono BW5.out.size)
      have O2 := Lib.hid (HOL.out.keep hb6)
      have OK2 : Hid (∀ z ∈ L, z.Ok w6 (fun j => w4.heap.size ≤ j ∧ u4.ownBlock ≠ some j)) := Lib.hid (fun z hz => (HOK.out z hz).below hb6)
      have OKc : Hid (∀ z ∈ Lc, z.Ok w6 (fun j => wr.heap.size ≤ j)) := Lib.hid (fun z hz => (hokc z hz).1.keep (fun _ _ _ => rfl) (Nat.le_refl _) (fun j hj _ => Nat.le_trans BW5.out.size hj.1))
      have hvb : ∀ j, u4.ownBlock = some j → w4.heap.size ≤ j ∧ j < wr.heap.size := fun j hj => World.ownsRow.lt HOL.out.1 j hj
      have B6 := Lib.hid (HQ.out.trans (hb6.mono HQ.out.size))
      have HN6 := Lib.hid (HN.out.below hb6)
      have hs6 := hb6.size
      have hsq := HQ.out.size
      have HNC := Lib.hid hnc
      clear hb hb6 hokc hnc BW5 HOL HOK HN HQ
      rcases hc.1.2 with ⟨rfl, h0⟩ | ⟨g, cap, cur, rfl, _⟩
      · obtain rfl : Lc = [] := List.eq_nil_of_length_eq_zero h0
        have HL3 : Hid (L.map NT.n ++ ME.atomsL r'.f.pre = ME.atomsL k.f.pre) := Lib.hid (by rw [← HL2.out, ← HNC.out, List.map_nil, List.append_nil])
        clear hc h0 HL2 HNC OKc hvb
        go_wp2_with (at_builtin; refine wpList_append_own_none rfl _ _ 24 rfl w4.heap.size 26 i0 9 Try.underlying24 hi _ _ _ rfl O2.out.1 rfl ?_)
        go_wp2
        go_roundw
        case rel => exact ⟨q + 1, r', L, by omega, by omega, by go_num, O2, OK2, HN6, B6, HL3⟩
        case measure => simp [intOf]; omega
      · have hln : Lc.length ≤ 9223372036854775807 := by omega
        have hnw := own_news hc hln
        have HD1 := Lib.hid hnw.1
        have HD2 := Lib.hid hnw.2
        have HF3 := Lib.hid hc.2
        have HL3 : Hid ((L ++ Lc).map NT.n ++ ME.atomsL r'.f.pre = ME.atomsL k.f.pre) := Lib.hid (by rw [← HL2.out, ← HNC.out, List.map_append])
        have HVB := Lib.hid hvb
        clear hc hnw HL2 HNC hvb
        go_wp2_with (at_builtin; refine wpList_append_own_at _ rfl _ _ 24 rfl w4.heap.size 26 i0 (.agg #[.int .i64 0, .int .i64 0, .int .i64 0, .int .i64 0, .int .i64 0, .int .i64 0, .int .i64 0, .int .i64 0, .slice none 0 0]) 9 88 Try.underlying24 hi hz0 hz1 hz2 rfl (by decide) _ _ _ rfl O2.out.1 ⟨g, 0, none⟩ Lc.length cap (ntE.all Lc) rfl ?c0 ?c1 ?c2 ?c3 ?c4 ?c5 ?_)
        case c0 => exact HD1.out
        case c1 => exact HD2.out
        case c2 => exact one_all _
        case c3 => unfold maxLen; omega
        case c4 => omega
        case c5 => exact B6.out.size
        intro v'' w7 hown' hgrow _ hat
        have RR := OwnL.apps O2.out HF3.out B6.out B6.out.size hown' hgrow
        have O3 := Lib.hid RR.1
        have B7 := Lib.hid RR.2
        have hne : ∀ (j : Nat), v''.ownBlock = some j → u4.ownBlock = some j ∨ j = w6.heap.size := fun j hj => by
          rcases hat with p | p
          · exact .inl (p.symm.trans hj)
          · rw [p] at hj; injection hj with hj; exact .inr hj.symm
        have OK3 : Hid (∀ z ∈ L ++ Lc, z.Ok w7 (fun j => w4.heap.size ≤ j ∧ v''.ownBlock ≠ some j)) := Lib.hid (fun z hz => by
          rcases List.mem_append.1 hz with g1 | g1
          · exact grown_keep hgrow (OK2.out z g1) (fun j hj e => hj.2 e.symm) (fun j hj hl => ⟨hj.1, fun e => by
              rcases hne j e with p | p
              · exact hj.2 p
              · omega⟩)
          · exact grown_keep hgrow (OKc.out z g1) (fun j hj e => by have := HVB.out j e.symm; omega) (fun j hj hl => ⟨by omega, fun e => by
              rcases hne j e with p | p
              · have := HVB.out j p; omega
              · omega⟩))
        have HN7 := Lib.hid (HN6.out.keep (w' := w7) (ok' := fun j => j < w.heap.size) (fun j hj hl => hgrow.block j hl (fun e => by have := HVB.out j e.symm; omega)) hgrow.size (fun _ h _ => h))
        clear RR hown' hgrow hat hne O2 OK2 OKc B6 HN6 HD1 HD2 HF3 HVB
        go_wp2
        go_roundw
        case rel => exact ⟨q + 1, r', L ++ Lc, by omega, by rw [List.length_append]; omega, by go_num, O3, OK3, HN7, B7, HL3⟩
        case measure => simp [intOf]; omega
    · obtain ⟨rfl, _⟩ := HK.out.end_ hlt
      have hlt' : ¬ (q : Int) < (k.len : Int) := by omega
      have HE : Hid (L.map NT.n = ME.atomsL k.f.pre) := Lib.hid (by rw [← HL.out]; show _ = _ ++ []; rw [List.append_nil])
      obtain ⟨Ar, cr, rfl, hl⟩ := HOL.out.form (by omega)
      have BQ := Lib.hid (B4.out.trans (HQ.out.mono B4.out.size))
      have XQ := Lib.hid (X4.out.keep HQ.out)
      have OKL : Hid (∀ z ∈ L, z.Ok wr (fun _ => True)) := Lib.hid (fun z hz => (HOK.out z hz).keep (fun _ _ _ => rfl) (Nat.le_refl _) (fun _ _ _ => trivial))
      obtain ⟨a0, a1, a2, a3, a4, a5, a6, a7, a8⟩ := XQ.out.cells
      by_cases ho : o = 1
      · have e1 : (o == 1) = true := beq_iff_eq.2 ho
        clear hl HOL HOK HK HL HE OKL HLa4 HKA4 AN HQ
        go_wp2_with fail
        refine (AW.out _).mono ?_
        rintro ev wz ⟨rfl, hb⟩
        have BZ := Lib.hid (BQ.out.trans (hb.mono BQ.out.size))
        clear hb
        go_wp2
        go_ret
        exact ⟨rfl, BZ.out⟩
      · have e1 : (o == 1) = false := beq_eq_false_iff_ne.2 ho
        have SM := Lib.hid (rsame_any wr (HLa4.out.keep HQ.out) hl (HKA4.out _ HQ.out) OKL.out (HNA.out.trans ((AN.out ho).trans HE.out.symm)))
        clear hl HOL HOK HK HL HE OKL HLa4 HKA4 AN HQ
        go_wp2_with fail
        refine SM.out.mono ?_
        rintro ev w8 ⟨rfl, hb⟩
        have B8 := Lib.hid (BQ.out.trans (hb.mono BQ.out.size))
        clear hb SM BQ a0 a1 a2 a3 a4 a5 a6 a7 a8
        go_wp2_with fail
        refine (AW.out _).mono ?_
        rintro ev wz ⟨rfl, hb⟩
        have BZ := Lib.hid (B8.out.trans (hb.mono B8.out.size))
        clear hb
        go_wp2
        go_ret
        exact ⟨rfl, BZ.out⟩
end Go.Proofs.Ytdopgoagadpccaa
