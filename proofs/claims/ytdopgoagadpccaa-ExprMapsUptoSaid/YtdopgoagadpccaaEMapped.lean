/- The law's own Map with change: no claim of its own. -/
import Derived.Test.YtdopgoagadpccaaEChange
import Derived.Test.YtdopgoagadpccaaEAtoms2
import Derived.Test.YtdopgoagadpccaaEPre
import Derived.Maps.AppendAt
namespace Go.Proofs.Ytdopgoagadpccaa
open Go.RowKit
open ME (F Nd)
theorem FT.len_size : ∀ k : FT, k.len ≤ k.size
  | .nil => Nat.le_refl _
  | .cons _ _ _ _ _ k r => by have := FT.len_size r; simp only [FT.len, FT.size]; omega
theorem roots_inj : ∀ f f' : F, f.roots = f'.roots → f = f'
  | .nil, .nil, _ => rfl
  | .nil, .cons _ _ _ _ _, h => by cases h
  | .cons _ _ _ _ _, .nil, h => by cases h
  | .cons o b v k r, .cons o' b' v' k' r', h => by
    injection h with h1 h2
    injection h1 with q1 q2 q3 q4
    rw [q1, q2, q3, q4, roots_inj r r' h2]
theorem OwnL.kids {w : World} {B c : Nat} {A : Option Addr} {L : List NT} (h : Lst ntE w A L.length c L) (hb : ∀ ad, A = some ad → B ≤ ad.block ∧ ad.block < w.heap.size) (hy : ∀ y ∈ L, y.Ok w (fun j => B ≤ j)) : Kids w (fun j => B ≤ j) A c (FT.of L) := by
  refine ⟨by rw [FT.of_len]; exact h.cap, by rw [FT.of_len]; exact h.few, ?_⟩
  rcases Nat.eq_zero_or_pos L.length with h0 | h0
  · rw [List.eq_nil_of_length_eq_zero h0]
    exact .inl rfl
  · obtain ⟨ad, e, hlt, hc⟩ := h.reads.2 h0
    refine .inr ⟨ad, e, lay_of L ad fun i x hx => ?_⟩
    have hbk : (ad.add (i * 9)).block = ad.block := block_of_add ad _
    refine ⟨by show B ≤ _; rw [hbk]; exact (hb ad e).1, by rw [hbk]; exact hlt, hy x (List.mem_of_getElem? hx), fun j u hu => ?_⟩
    rw [add_of_add]
    refine hc _ u ?_
    have hj : j < ntE.sz := by rw [← ntE.len x (h.fine x (List.mem_of_getElem? hx))]; exact (List.getElem?_eq_some_iff.1 hu).1
    exact (El.all_at h.fine hx hj).trans hu
def GivesM (d : Int) (x : NT) (w : World) (e : Ending) (w' : World) : Prop := ∃ y : NT, e = .returned y.val ∧ y.n = x.n.map (ME.changeN d) ∧ y.Ok w' (fun j => w.heap.size ≤ j) ∧ Below w.heap.size w w'
theorem mapped_results {w : World} {R1 : Nat} {z0 z1 z2 z3 z4 z5 z6 z7 z8 : Value} (tmps : Array Value) (h2 : tmps.getD 4 undef = .pointer (some ⟨R1, 0, none⟩)) (b1 : B9 w R1 z0 z1 z2 z3 z4 z5 z6 z7 z8) :
    (results Try.f31 tmps).run Try.prog w = .ok (.agg #[z0, z1, z2, z3, z4, z5, z6, z7, z8]) w := by
  have h2' : tmps[4]?.getD undef = .pointer (some ⟨R1, 0, none⟩) := by simpa using h2
  obtain ⟨r0, r1, r2, r3, r4, r5, r6, r7, r8⟩ := b1.cells
  simp [results, Try.results31, h2', go_sem, r0, r1, r2, r3, r4, r5, r6, r7, r8]
set_option maxRecDepth 100000 in
set_option maxHeartbeats 8000000 in
theorem mapped_any (d : Int) : ∀ (N : Nat), N ≤ 1000000 → ∀ (x : NT), x.size ≤ N → ∀ (w : World) (ok : Nat → Prop), x.Ok w ok → Calls Try.prog 31 #[x.val, .int .i64 d] w (GivesM d x w) := by
  intro N
  induction N with
  | zero => intro _ x hx; unfold NT.size at hx; omega
  | succ N ih =>
    intro hN x hx w ok hok
    have IH := Lib.hid (ih (by omega))
    have hsz : x.k.size ≤ N := by unfold NT.size at hx; omega
    clear ih hx
    have HMAP : Hid (x.n.map (ME.changeN d) = ME.changeN d ⟨x.o, x.b, x.v, x.k.f.map (ME.changeN d)⟩) := Lib.hid rfl
    have HO := Lib.hid hok
    obtain ⟨o, b, v, A, c, k⟩ := x
    obtain ⟨x0, x1, x2, x3, x4, x5, rfl⟩ := six hok.six
    obtain ⟨i0, hi, hz0, hz1, hz2⟩ := info_parts infoExpr
    have hn := hok.kids.few
    have hks : k.len ≤ 1000000 := by have h2 := FT.len_size k; have h3 : k.size ≤ N := hsz; omega
    have HR0 : Hid (Rest w (fun j => ok j ∧ j < w.heap.size) A 0 k k.len) := Lib.hid (hok.kids.rest.keep (fun _ _ _ => rfl) (Nat.le_refl _) (fun j h hk => ⟨h, hk⟩))
    have hs1 : (w.alloc (.cells #[.int .i64 o, .int .i64 x0, .int .i64 x1, .int .i64 x2, .int .i64 x3, .int .i64 x4, .int .i64 x5, .int .i64 v, .slice A k.len c] 26)).heap.size = w.heap.size + 1 := by simp
    have hs2 : ((w.alloc (.cells #[.int .i64 o, .int .i64 x0, .int .i64 x1, .int .i64 x2, .int .i64 x3, .int .i64 x4, .int .i64 x5, .int .i64 v, .slice A k.len c] 26)).alloc (.cells #[.int .i64 0, .int .i64 0, .int .i64 0, .int .i64 0, .int .i64 0, .int .i64 0, .int .i64 0, .int .i64 0, .slice none 0 0] 26)).heap.size = w.heap.size + 2 := by rw [World.size_alloc, hs1]
    have HB := Lib.hid ((below_new w (.cells #[.int .i64 o, .int .i64 x0, .int .i64 x1, .int .i64 x2, .int .i64 x3, .int .i64 x4, .int .i64 x5, .int .i64 v, .slice A k.len c] 26)).alloc (by rw [hs1]; omega) (.cells #[.int .i64 0, .int .i64 0, .int .i64 0, .int .i64 0, .int .i64 0, .int .i64 0, .int .i64 0, .int .i64 0, .slice none 0 0] 26))
    have X0 : Hid (B9 ((w.alloc (.cells #[.int .i64 o, .int .i64 x0, .int .i64 x1, .int .i64 x2, .int .i64 x3, .int .i64 x4, .int .i64 x5, .int .i64 v, .slice A k.len c] 26)).alloc (.cells #[.int .i64 0, .int .i64 0, .int .i64 0, .int .i64 0, .int .i64 0, .int .i64 0, .int .i64 0, .int .i64 0, .slice none 0 0] 26)) w.heap.size (.int .i64 o) (.int .i64 x0) (.int .i64 x1) (.int .i64 x2) (.int .i64 x3) (.int .i64 x4) (.int .i64 x5) (.int .i64 v) (.slice A k.len c)) := Lib.hid ((Below.heap_alloc _ _ _ (by rw [hs1]; omega)).trans (heap_new _ _))
    have R0 : Hid (B9 ((w.alloc (.cells #[.int .i64 o, .int .i64 x0, .int .i64 x1, .int .i64 x2, .int .i64 x3, .int .i64 x4, .int .i64 x5, .int .i64 v, .slice A k.len c] 26)).alloc (.cells #[.int .i64 0, .int .i64 0, .int .i64 0, .int .i64 0, .int .i64 0, .int .i64 0, .int .i64 0, .int .i64 0, .slice none 0 0] 26)) (w.heap.size + 1) (.int .i64 0) (.int .i64 0) (.int .i64 0) (.int .i64 0) (.int .i64 0) (.int .i64 0) (.int .i64 0) (.int .i64 0) (.slice none 0 0)) := Lib.hid (by have := heap_new (w.alloc (.cells #[.int .i64 o, .int .i64 x0, .int .i64 x1, .int .i64 x2, .int .i64 x3, .int .i64 x4, .int .i64 x5, .int .i64 v, .slice A k.len c] 26)) (.cells #[.int .i64 0, .int .i64 0, .int .i64 0, .int .i64 0, .int .i64 0, .int .i64 0, .int .i64 0, .int .i64 0, .slice none 0 0] 26); rwa [hs1] at this)
    rw [NT.val_lit]
    clear hok hs1
    obtain ⟨W0, hW0⟩ : ∃ W0, W0 = (w.alloc (.cells #[.int .i64 o, .int .i64 x0, .int .i64 x1, .int .i64 x2, .int .i64 x3, .int .i64 x4, .int .i64 x5, .int .i64 v, .slice A k.len c] 26)).alloc (.cells #[.int .i64 0, .int .i64 0, .int .i64 0, .int .i64 0, .int .i64 0, .int .i64 0, .int .i64 0, .int .i64 0, .slice none 0 0] 26) := ⟨_, rfl⟩
    rw [← hW0] at HB X0 R0 hs2
    have HS2 := Lib.hid hs2
    clear hs2
    have HR1 := Lib.hid (HR0.out.keep (w' := W0) (ok' := fun j => ok j ∧ j < w.heap.size) (fun j h _ => HB.out.block j h.2) HB.out.size (fun _ h _ => h))
    clear HR0
    obtain ⟨a0, a1, a2, a3, a4, a5, a6, a7, a8⟩ := X0.out.cells
    go_enter Try.func31, Try.ntmps31
    go_upto_region 1 with (fail)
    rw [← hW0]
    clear hW0
    go_wp2
    clear a0 a1 a2 a3 a4 a5 a6 a7 a8
    go_loopw [5, 11] (fun vb i wr => ∃ (q : Nat) (rs : FT) (L : List NT), q ≤ k.len ∧ rs.size ≤ N ∧ Hid (L.length = q) ∧ i = .int .i64 q ∧ Hid (OwnL ntE 26 wr W0.heap.size vb L) ∧ Hid (∀ z ∈ L, z.Ok wr (fun j => W0.heap.size ≤ j ∧ vb.ownBlock ≠ some j)) ∧ Hid (Rest wr (fun j => ok j ∧ j < w.heap.size) A q rs k.len) ∧ Hid (Below W0.heap.size W0 wr) ∧ Hid (L.map NT.n ++ (rs.f.map (ME.changeN d)).roots = (k.f.map (ME.changeN d)).roots)) (fun _ i _ => k.len - (intOf i).toNat)
    case atStart => exact ⟨0, k, [], Nat.zero_le _, hsz, Lib.hid rfl, rfl, Lib.hid (OwnL.nil _ _ _), Lib.hid (fun z hz => by cases hz), HR1, Lib.hid (Below.refl _ _), Lib.hid rfl⟩
    case round =>
      clear HR1
      obtain ⟨q, rs, L, hq, hrs, HLq, rfl, HOL, HOK, HK, HQ, HL⟩ := hrel
      by_cases hlt : q < k.len
      · obtain ⟨ad, o', y0, y1, y2, y3, y4, y5, v', A', c', k', r', rfl, rfl, hok', hnx, hbk, _, z0, z1, z2, z3, z4, z5, z6, z7, z8⟩ := HK.out.open_ hlt
        have HN := Lib.hid hnx
        have hs3 : NT.size ⟨o', [y0, y1, y2, y3, y4, y5], v', A', c', k'⟩ ≤ N := by unfold FT.size at hrs; unfold NT.size; show k'.size + 1 ≤ N; omega
        have hr2 : r'.size ≤ N := by unfold FT.size at hrs; omega
        have CE := Lib.hid (fun w' (hb : Below wr.heap.size wr w') => IH.out ⟨o', [y0, y1, y2, y3, y4, y5], v', A', c', k'⟩ hs3 w' _ (hok'.below hb))
        have HL2 : Hid ((L.map NT.n ++ [(NT.n ⟨o', [y0, y1, y2, y3, y4, y5], v', A', c', k'⟩).map (ME.changeN d)]) ++ (r'.f.map (ME.changeN d)).roots = (k.f.map (ME.changeN d)).roots) := Lib.hid (by rw [← HL.out, List.append_assoc]; rfl)
        rw [NT.val_lit] at CE
        unfold GivesM at CE
        clear hok' hnx HK HL hrs hs3
        generalize (NT.n ⟨o', [y0, y1, y2, y3, y4, y5], v', A', c', k'⟩).map (ME.changeN d) = MY at *
        have hlt' : (q : Int) < (k.len : Int) := by omega
        obtain ⟨W5, hW5⟩ : ∃ W5, W5 = wr.alloc (.cells #[.int .i64 o', .int .i64 y0, .int .i64 y1, .int .i64 y2, .int .i64 y3, .int .i64 y4, .int .i64 y5, .int .i64 v', .slice A' k'.len c'] 26) := ⟨_, rfl⟩
        have BW5 := Lib.hid (below_new wr (.cells #[.int .i64 o', .int .i64 y0, .int .i64 y1, .int .i64 y2, .int .i64 y3, .int .i64 y4, .int .i64 y5, .int .i64 v', .slice A' k'.len c'] 26))
        have X5 : Hid (B9 (wr.alloc (.cells #[.int .i64 o', .int .i64 y0, .int .i64 y1, .int .i64 y2, .int .i64 y3, .int .i64 y4, .int .i64 y5, .int .i64 v', .slice A' k'.len c'] 26)) wr.heap.size (.int .i64 o') (.int .i64 y0) (.int .i64 y1) (.int .i64 y2) (.int .i64 y3) (.int .i64 y4) (.int .i64 y5) (.int .i64 v') (.slice A' k'.len c')) := Lib.hid (heap_new _ _)
        rw [← hW5] at BW5 X5
        obtain ⟨a0, a1, a2, a3, a4, a5, a6, a7, a8⟩ := X5.out.cells
        go_upto_region 5 with (fail)
        rw [← hW5]
        clear hW5 z0 z1 z2 z3 z4 z5 z6 z7 z8
        have hvb : ∀ j, u5.ownBlock = some j → W0.heap.size ≤ j ∧ j < wr.heap.size := fun j hj => World.ownsRow.lt HOL.out.1 j hj
        go_wp2_with (first | at_builtin; fail | fail)
        refine (CE.out _ BW5.out).mono ?_
        rintro ev w3 ⟨y, rfl, hyn, hyo, hb⟩
        obtain ⟨p, b3, u, B, e, m⟩ := y
        obtain ⟨s0, s1, s2, s3, s4, s5, rfl⟩ := six hyo.six
        rw [NT.val_lit]
        clear CE a0 a1 a2 a3 a4 a5 a6 a7 a8 X5
        obtain ⟨w6, hw6⟩ : ∃ w6, w6 = w3.alloc (.cells #[.int .i64 p, .int .i64 s0, .int .i64 s1, .int .i64 s2, .int .i64 s3, .int .i64 s4, .int .i64 s5, .int .i64 u, .slice B m.len e] 26) := ⟨_, rfl⟩
        have hb6 : Below wr.heap.size wr w6 := by rw [hw6]; exact (BW5.out.trans (hb.mono BW5.out.size)).alloc (by have := BW5.out.size; have := hb.size; omega) _
        have O2 := Lib.hid (HOL.out.keep hb6)
        have OK2 : Hid (∀ z ∈ L, z.Ok w6 (fun j => W0.heap.size ≤ j ∧ u5.ownBlock ≠ some j)) := Lib.hid (fun z hz => (HOK.out z hz).below hb6)
        have OKc : Hid (NT.Ok ⟨p, [s0, s1, s2, s3, s4, s5], u, B, e, m⟩ w6 (fun j => wr.heap.size ≤ j)) := Lib.hid (hyo.keep (by rw [hw6]; exact fun j _ hj => Below.heap_alloc _ _ _ hj) (by rw [hw6]; simp) (fun j hj _ => Nat.le_trans BW5.out.size hj))
        have HX : Hid (∀ j u', (ntE.cells ⟨p, [s0, s1, s2, s3, s4, s5], u, B, e, m⟩)[j]? = some u' → w6.cell? ((⟨w3.heap.size, 0, none⟩ : Addr).add j) = some u') := Lib.hid (fun j u' hu => by
          rw [hw6, addr_add, Nat.zero_add, cell_of_row _ _ _ _ _ _ (heap_new w3 (.cells #[.int .i64 p, .int .i64 s0, .int .i64 s1, .int .i64 s2, .int .i64 s3, .int .i64 s4, .int .i64 s5, .int .i64 u, .slice B m.len e] 26))]
          have : ntE.cells ⟨p, [s0, s1, s2, s3, s4, s5], u, B, e, m⟩ = #[.int .i64 p, .int .i64 s0, .int .i64 s1, .int .i64 s2, .int .i64 s3, .int .i64 s4, .int .i64 s5, .int .i64 u, .slice B m.len e].toList := rfl
          rw [this] at hu
          simpa using hu)
        have B6 := Lib.hid (HQ.out.trans (hb6.mono HQ.out.size))
        have HN6 := Lib.hid (HN.out.below hb6)
        have HS6 := Lib.hid hb6.size
        have hsq := HQ.out.size
        have HL3 : Hid ((L ++ [(⟨p, [s0, s1, s2, s3, s4, s5], u, B, e, m⟩ : NT)]).map NT.n ++ (r'.f.map (ME.changeN d)).roots = (k.f.map (ME.changeN d)).roots) := Lib.hid (by rw [← HL2.out, List.map_append, List.map_singleton, hyn])
        have HVB := Lib.hid hvb
        clear hb hb6 hyn hyo BW5 HOL HOK HN HQ HL2 hvb
        subst hw6
        go_wp2_with (at_builtin; refine wpList_append_own_at _ rfl _ _ 24 rfl W0.heap.size 26 i0 (.agg #[.int .i64 0, .int .i64 0, .int .i64 0, .int .i64 0, .int .i64 0, .int .i64 0, .int .i64 0, .int .i64 0, .slice none 0 0]) 9 88 Try.underlying24 hi hz0 hz1 hz2 rfl (by decide) _ _ _ rfl O2.out.1 ⟨w3.heap.size, 0, none⟩ 1 1 (ntE.cells ⟨p, [s0, s1, s2, s3, s4, s5], u, B, e, m⟩) rfl rfl ?c1 ?c2 ?c3 ?c4 ?c5 ?_)
        case c1 => exact HX.out
        case c2 => exact ntE.one _
        case c3 => have := HLq.out; unfold maxLen; omega
        case c4 => have := HLq.out; omega
        case c5 => exact B6.out.size
        intro v'' w7 hown' hgrow _ hat
        have hs6 := HS6.out
        have hz6 : (w3.alloc (.cells #[.int .i64 p, .int .i64 s0, .int .i64 s1, .int .i64 s2, .int .i64 s3, .int .i64 s4, .int .i64 s5, .int .i64 u, .slice B m.len e] 26)).heap.size = w3.heap.size + 1 := by simp
        generalize w3.alloc (.cells #[.int .i64 p, .int .i64 s0, .int .i64 s1, .int .i64 s2, .int .i64 s3, .int .i64 s4, .int .i64 s5, .int .i64 u, .slice B m.len e] 26) = w6 at *
        have RR := OwnL.app (x := ⟨p, [s0, s1, s2, s3, s4, s5], u, B, e, m⟩) O2.out (show _ = 6 from rfl) B6.out B6.out.size hown' hgrow
        have O3 := Lib.hid RR.1
        have B7 := Lib.hid RR.2
        have hne : ∀ (j : Nat), v''.ownBlock = some j → u5.ownBlock = some j ∨ j = w6.heap.size := fun j hj => by
          rcases hat with p | p
          · exact .inl (p.symm.trans hj)
          · rw [p] at hj; injection hj with hj; exact .inr (by omega)
        have OK3 : Hid (∀ z ∈ L ++ [⟨p, [s0, s1, s2, s3, s4, s5], u, B, e, m⟩], z.Ok w7 (fun j => W0.heap.size ≤ j ∧ v''.ownBlock ≠ some j)) := Lib.hid (fun z hz => by
          rcases List.mem_append.1 hz with g1 | g1
          · exact grown_keep hgrow (OK2.out z g1) (fun j hj e => hj.2 e.symm) (fun j hj hl => ⟨hj.1, fun e => by
              rcases hne j e with p | p
              · exact hj.2 p
              · omega⟩)
          · rw [List.mem_singleton.1 g1]
            exact grown_keep hgrow OKc.out (fun j hj e => by have := HVB.out j e.symm; omega) (fun j hj hl => ⟨by omega, fun e => by
              rcases hne j e with p | p
              · have := HVB.out j p; omega
              · omega⟩))
        have hw0 := HB.out.size
        have HN7 := Lib.hid (HN6.out.keep (w' := w7) (ok' := fun j => ok j ∧ j < w.heap.size) (fun j hj hl => hgrow.block j hl (fun e => by have := HVB.out j e.symm; have := hj.2; omega)) hgrow.size (fun _ h _ => h))
        clear RR hown' hgrow hat hne hz6 hs6 O2 OK2 OKc B6 HN6 HX HVB
        go_wp2
        go_roundw
        case rel => exact ⟨q + 1, r', L ++ [⟨p, [s0, s1, s2, s3, s4, s5], u, B, e, m⟩], by omega, hr2, Lib.hid (by rw [List.length_append, List.length_singleton, HLq.out]), by go_num, O3, OK3, HN7, B7, HL3⟩
        case measure => simp [intOf]; omega
      · obtain ⟨rfl, hqk⟩ := HK.out.end_ hlt
        have hlt' : ¬ (q : Int) < (k.len : Int) := by omega
        have HE : Hid ((FT.of L).f = k.f.map (ME.changeN d)) := Lib.hid (roots_inj _ _ (by rw [FT.of_f, ← HL.out]; show _ = _ ++ []; rw [List.append_nil]))
        have hS2 := HS2.out
        obtain ⟨Ar, cr, rfl, hl, hab⟩ := HOL.out.form2 (by have := HLq.out; omega)
        have hw0 := HB.out.size
        have hw1 := HQ.out.size
        have BQ := Lib.hid (HB.out.trans (HQ.out.mono HB.out.size))
        have XQ := Lib.hid (X0.out.keep HQ.out)
        have RQ := Lib.hid (R0.out.keep HQ.out)
        have KD := Lib.hid (OwnL.kids hl hab (fun y hy => (HOK.out y hy).keep (fun _ _ _ => rfl) (Nat.le_refl _) (fun j hj _ => hj.1)))
        clear hl HOL HOK HK HL HQ hab
        clear hS2
        have f8 := XQ.out.free.2.2.2.2.2.2.2.2
        obtain ⟨a0, a1, a2, a3, a4, a5, a6, a7, a8⟩ := XQ.out.cells
        go_upto_region 8 with (fail)
        clear f8 a0 a1 a2 a3 a4 a5 a6 a7 a8
        have X8 := Lib.hid (XQ.out.set8 (.slice Ar L.length cr))
        have R8 : Hid (B9 (wr.setCell ⟨w.heap.size, 8, none⟩ (.slice Ar L.length cr)) (w.heap.size + 1) (.int .i64 0) (.int .i64 0) (.int .i64 0) (.int .i64 0) (.int .i64 0) (.int .i64 0) (.int .i64 0) (.int .i64 0) (.slice none 0 0)) := Lib.hid (RQ.out.same (Below.heap_setCell _ _ _ _ (by show w.heap.size + 1 ≠ w.heap.size; omega)))
        have B8 := Lib.hid (BQ.out.setCell (p := ⟨w.heap.size, 8, none⟩) (Nat.le_refl _) (.slice Ar L.length cr))
        have K8 : Hid (Kids (wr.setCell ⟨w.heap.size, 8, none⟩ (.slice Ar L.length cr)) (fun j => W0.heap.size ≤ j) Ar cr (FT.of L)) := Lib.hid (KD.out.keep (fun j hj _ => Below.heap_setCell _ _ _ _ (by have := HS2.out; show j ≠ w.heap.size; omega)) (by rw [World.size_setCell]; exact Nat.le_refl _) (fun _ h _ => h))
        obtain ⟨W8, hW8⟩ : ∃ W8, W8 = wr.setCell ⟨w.heap.size, 8, none⟩ (.slice Ar L.length cr) := ⟨_, rfl⟩
        rw [← hW8] at X8 R8 B8 K8 ⊢
        clear hW8 XQ RQ BQ KD
        have CC := Lib.hid (change_any ⟨o, [x0, x1, x2, x3, x4, x5], v, Ar, cr, FT.of L⟩ d W8 (fun j => W0.heap.size ≤ j) ⟨rfl, HO.out.o64, HO.out.v64, HO.out.b64, K8.out⟩)
        rw [NT.val_lit, FT.of_len] at CC
        unfold GivesC at CC
        obtain ⟨a0, a1, a2, a3, a4, a5, a6, a7, a8⟩ := X8.out.cells
        go_wp2_with fail
        refine CC.out.mono ?_
        rintro ev w9 ⟨y, rfl, hyn, hyo, _, hb⟩
        have HYN : Hid (y.n = (NT.n ⟨o, [x0, x1, x2, x3, x4, x5], v, A, c, k⟩).map (ME.changeN d)) := Lib.hid (by rw [hyn, HMAP.out]; show ME.changeN d ⟨o, _, v, (FT.of L).f⟩ = _; rw [HE.out])
        obtain ⟨p, b3, u, B, e, m⟩ := y
        obtain ⟨s0, s1, s2, s3, s4, s5, rfl⟩ := six hyo.six
        rw [NT.val_lit]
        have R9 := Lib.hid (R8.out.keep hb)
        have B9_ := Lib.hid (B8.out.trans (hb.mono B8.out.size))
        have HYO := Lib.hid hyo
        clear hb hyn hyo CC R8 B8 X8 K8 a0 a1 a2 a3 a4 a5 a6 a7 a8
        obtain ⟨r0, r1, r2, r3, r4, r5, r6, r7, r8⟩ := R9.out.cells
        obtain ⟨f0, f1, f2, f3, f4, f5, f6, f7, f8⟩ := R9.out.free
        go_wp2
        refine bodyPost_ret (mapped_results _ rfl (by rw [nest_0]; exact R9.out.put _ _ _ _ _ _ _ _ _)) rfl ?_
        rw [nest_0]
        have BF := below_sets (o := 0) (l := [.int .i64 p, .int .i64 s0, .int .i64 s1, .int .i64 s2, .int .i64 s3, .int .i64 s4, .int .i64 s5, .int .i64 u, .slice B m.len e]) B9_.out (show w.heap.size ≤ w.heap.size + 1 by omega)
        have e4 : (sets w9 (w.heap.size + 1) 0 [.int .i64 p, .int .i64 s0, .int .i64 s1, .int .i64 s2, .int .i64 s3, .int .i64 s4, .int .i64 s5, .int .i64 u, .slice B m.len e]).heap.size = w9.heap.size := (sets_same (g := w.heap.size + 1) _ _ _).2.2.2
        exact ⟨⟨p, [s0, s1, s2, s3, s4, s5], u, B, e, m⟩, rfl, HYN.out, HYO.out.keep (fun j hj _ => sets_far (by have := HS2.out; omega) _ _ _) (by rw [e4]; exact Nat.le_refl _) (fun j hj _ => by have := HS2.out; omega), BF⟩
end Go.Proofs.Ytdopgoagadpccaa
