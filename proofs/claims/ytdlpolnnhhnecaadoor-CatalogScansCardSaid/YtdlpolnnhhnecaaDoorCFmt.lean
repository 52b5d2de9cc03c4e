/- Format of the program: no claim of its own. -/
import Derived.Test.YtdlpolnnhhnecaaDoorCItoa
import Derived.Test.YtdlpolnnhhnecaaDoorMathV
import Derived.Test.YtdlpolnnhhnecaaDoorCShelf
import Derived.Deep.RegionHeld3
namespace Go.Proofs.YtdlpolnnhhnecaaDoor
open Go.RowKit
open MC (Pr)
/-- The call's own row of strings. -/
def OwnS (w : World) (B : Nat) (v : Value) (xs : List (List UInt8)) : Prop := w.ownsRow B 9 1 v xs.length (xs.map fun x => .string (str x))
theorem OwnS.nil (w : World) (B : Nat) : OwnS w B (.slice none 0 0) [] := World.ownsRow_nil _ _ _ _
theorem OwnS.keep {w w' : World} {B : Nat} {v : Value} {xs : List (List UInt8)} (h : OwnS w B v xs) (hb : Below w.heap.size w w') : OwnS w' B v xs :=
  World.ownsRow.kept (row := none) h ⟨hb.os, hb.tape, hb.output, hb.size, fun k hk _ => hb.block k hk⟩ (by cases hv : v.ownBlock <;> simp)
theorem infoStr : (Tryd.prog.info? 9).map (fun i => (i.zero, i.size, i.bytes)) = some (some (.string ⟨#[]⟩), 1, 16) := by kernel_rfl
/-- What is held in the region of the append. -/
structure Fm (B : Nat) (wo : World) (Bb : Nat) (xs : List Int) (pb : Nat) (s : ByteArray) (w' : World) : Prop where
  bun : BB w' Bb 29 xs
  below : Below B wo w'
  name : w'.cell? ⟨pb, 0, none⟩ = some (.string s)
theorem Fm.alloc {B : Nat} {wo : World} {Bb : Nat} {xs : List Int} {pb : Nat} {s : ByteArray} {w' : World} (h : Fm B wo Bb xs pb s w') (o : Obj) (hB : B ≤ w'.heap.size) : Fm B wo Bb xs pb s (w'.alloc o) :=
  ⟨h.bun.alloc o, h.below.trans ((below_new w' o).mono hB), by rw [(below_new w' o).cell (block_lt_of_cell h.name)]; exact h.name⟩
theorem Fm.drew {B : Nat} {wo : World} {Bb : Nat} {xs : List Int} {pb : Nat} {s : ByteArray} {w' : World} (h : Fm B wo Bb xs pb s w') : Fm B wo Bb xs pb s w'.drew := ⟨h.bun.drew, h.below.drew, h.name⟩
theorem Fm.grown {B : Nat} {wo : World} {Bb : Nat} {xs : List Int} {pb : Nat} {s : ByteArray} {w' w7 : World} {r : Option Nat} (h : Fm B wo Bb xs pb s w') (hg : w'.grownBy w7 r) (hr : ∀ g, r = some g → B ≤ g ∧ g ≠ pb ∧ g ≠ Bb) (hB : B ≤ w'.heap.size) : Fm B wo Bb xs pb s w7 :=
  ⟨⟨(hg.block Bb h.bun.lt (fun e => (hr Bb e.symm).2.2 rfl)).trans h.bun.1, h.bun.2⟩, h.below.grown hg hB (fun k hk => (hr k hk).1), hg.cell h.name (fun e => (hr pb e.symm).2.1 rfl)⟩
theorem OwnS.app {w7 : World} {B g cap : Nat} {els : List (List UInt8)} {e : List UInt8} {se : ByteArray} (h : w7.ownsRow B 9 1 (.slice (some ⟨g, 0, none⟩) (els.length + 1) cap) (els.length + 1) (els.map (fun x => Value.string (str x)) ++ [.string se])) (he : se = str e) :
    OwnS w7 B (.slice (some ⟨g, 0, none⟩) (els.length + 1) cap) (els ++ [e]) := by
  unfold OwnS
  subst he
  rw [List.length_append, List.map_append]
  exact h
set_option maxRecDepth 100000 in
set_option maxHeartbeats 8000000 in
theorem format_any (A : Option Addr) (n cp : Nat) (L : List Pr) (a b c d e f : Int) (w : World) (h : Prs w A n cp L) :
    Calls Tryd.prog 22 #[.slice A n cp, .agg #[.int .i64 a, .int .i64 b, .int .i64 c, .int .i64 d, .int .i64 e, .int .i64 f]] w (Gives (.string (str (MC.fmtL L [a, b, c, d, e, f]))) w) := by
  have hn := h.few
  have hc := h.cap
  have HL := Lib.hid h.len
  have H := Lib.hid h
  clear h
  have H1 := Lib.hid (BB.new w 29 a b c d e f)
  have HB := Lib.hid (below_new w (.cells #[.int .i64 a, .int .i64 b, .int .i64 c, .int .i64 d, .int .i64 e, .int .i64 f] 29))
  have CK := Lib.hid (fun w' (hb : Below w.heap.size w w') => check_any A n cp L w' (H.out.keep hb))
  by_cases hg : MC.chkL L = 0
  · rw [hg] at CK
    have GL := Lib.hid (Good_of hg)
    have h6 : n ≤ 6 := by have := GL.out.few; rw [HL.out] at this; exact this
    have FT := Lib.hid (fun w' => fits8_any A n cp h6 a b c d e f w')
    have hfi : fitB n [a, b, c, d, e, f] = true ↔ MC.Fits L [a, b, c, d, e, f] := by
      rw [fits_iff rfl, HL.out]
      unfold fitB
      rw [Bool.and_eq_true]
      exact ⟨fun ⟨h1, h2⟩ => ⟨hg, h2, h1⟩, fun ⟨_, h1, h2⟩ => ⟨h2, h1⟩⟩
    cases hfit : fitB n [a, b, c, d, e, f] with
    | false =>
      rw [hfit] at FT
      have G := Lib.hid (ret_str (show (⟨#[]⟩ : ByteArray) = str (MC.fmtL L [a, b, c, d, e, f]) by rw [fmt_no (fun hh => by rw [hfi.2 hh] at hfit; cases hfit)]; rfl))
      clear hg hfit hfi
      go_enter Tryd.func22, Tryd.ntmps22
      go_wp2_with fail
      refine (CK.out _ HB.out).mono ?_
      rintro e1 w1 ⟨rfl, hb⟩
      have B1 := Lib.hid (HB.out.trans (hb.mono HB.out.size))
      obtain ⟨c0, c1, c2, c3, c4, c5⟩ := cells6 (H1.out.keep hb H1.out.lt)
      clear hb
      go_wp2_with fail
      refine (FT.out _).mono ?_
      rintro e2 w2 ⟨rfl, hb⟩
      have B2 := Lib.hid (B1.out.trans (hb.mono B1.out.size))
      clear hb
      go_wp2
      go_ret
      exact ⟨G.out, B2.out⟩
    | true =>
      rw [hfit] at FT
      have HFit := Lib.hid (hfi.1 hfit)
      have HOK := Lib.hid HFit.out.2.1
      have G := Lib.hid (ret_str (show (⟨#[123]⟩ : ByteArray) ++ str (MC.inK L [a, b, c, d, e, f] n) ++ ⟨#[125]⟩ = str (MC.fmtL L [a, b, c, d, e, f]) by rw [fmt_yes HFit.out, ← HL.out]; exact text_str L _))
      clear hg hfit hfi HFit
      obtain ⟨i0, hi, hz0, hz1, hz2⟩ := info_parts infoStr
      go_enter Tryd.func22, Tryd.ntmps22
      go_wp2_with fail
      refine (CK.out _ HB.out).mono ?_
      rintro e1 w1 ⟨rfl, hb⟩
      have B1 := Lib.hid (HB.out.trans (hb.mono HB.out.size))
      have N1 := Lib.hid (H1.out.keep hb H1.out.lt)
      obtain ⟨c0, c1, c2, c3, c4, c5⟩ := cells6 N1.out
      clear hb H1 HB CK
      go_wp2_with fail
      refine (FT.out _).mono ?_
      rintro e2 w2 ⟨rfl, hb⟩
      have B2 := Lib.hid (B1.out.trans (hb.mono B1.out.size))
      have N2 := Lib.hid (N1.out.keep hb N1.out.lt)
      clear hb N1 B1 FT c0 c1 c2 c3 c4 c5
      obtain ⟨xs, hxs⟩ : ∃ xs, [a, b, c, d, e, f] = xs := ⟨_, rfl⟩
      rw [hxs] at N2 HOK G
      have HXS := Lib.hid hxs
      have O0 := Lib.hid (OwnS.nil w2 w2.heap.size)
      have R0 := Lib.hid (Below.refl w2.heap.size w2)
      have PL := Lib.hid (H.out.keep B2.out)
      have LT2 : w.heap.size < w2.heap.size := N2.out.lt
      clear hxs
      go_wp2_with fail
      go_loopw [5, 19] (fun v i wr => ∃ k : Nat, k ≤ n ∧ i = .int .i64 k ∧ Hid (OwnS wr w2.heap.size v (MC.elsK L xs k)) ∧ Hid (BB wr w.heap.size 29 xs) ∧ Hid (Below w2.heap.size w2 wr)) (fun _ i _ => n - (intOf i).toNat)
      case atStart => exact ⟨0, Nat.zero_le _, rfl, O0, N2, R0⟩
      case round =>
        clear O0 R0 N2
        obtain ⟨k, hk, rfl, HO, HN, HD⟩ := hrel
        have hszr := HN.out.lt
        by_cases hlt : k < n
        · have hc1 := HN.out.cell (k := k) (by omega)
          obtain ⟨q, hq, hq4⟩ : ∃ q : Nat, MB.at_ xs k = q ∧ q ≤ 4 := by
            have := MC.okB_at HOK.out k
            exact ⟨(MB.at_ xs k).toNat, by omega, by omega⟩
          have HQ := Lib.hid hq
          rw [hq] at hc1
          clear hq
          obtain ⟨ad, p, rfl, q1, hbk, x0, x1, x2, x3, x4⟩ := (PL.out.keep HD.out).at_ hlt
          have S2 : (str p.name).size ≤ 12 := by rw [str_size]; exact MC.nameB_len (GL.out.each k p q1).1
          have S3 : (str [UInt8.ofNat (48 + q)]).size = 1 := by rw [str_size]; rfl
          have HE := Lib.hid (ent_str q1 HQ.out)
          have IT := Lib.hid (fun w' => itoa_dig q (by omega) w')
          have HF : Hid (Fm w2.heap.size w2 w.heap.size xs wr.heap.size (str p.name) (wr.alloc (.cells #[.string (str p.name), .int .i64 p.supply, .int .i64 p.reserve, .int .i64 p.points, .int .i64 p.group] 62)).drew) :=
            Lib.hid (Fm.drew ⟨HN.out.alloc _, HD.out.trans ((below_new wr _).mono HD.out.size), by rw [cell_of_row _ _ _ _ _ _ (heap_new wr _)]; rfl⟩)
          have O1 := Lib.hid (HO.out.keep (((below_new wr (.cells #[.string (str p.name), .int .i64 p.supply, .int .i64 p.reserve, .int .i64 p.points, .int .i64 p.group] 62)).drew)))
          have OL := Lib.hid (fun g hg => World.ownsRow.lt HO.out g hg)
          have hel : (MC.elsK L xs k).length ≤ 6 := by unfold MC.elsK; rw [List.length_map]; have := MC.upK_len xs k; omega
          clear q1 hbk
          by_cases h0 : 0 < q
          · have hd0 : decide (0 < (q : Int)) = true := decide_eq_true (by omega)
            have HG0 := Lib.hid ((MC.elsK_more (l := L) (b := xs) (k := k) (by rw [HQ.out]; omega)).symm)
            obtain ⟨pn, ps, pr, pp, pg⟩ := p
            simp only at *
            generalize str pn = s at *
            generalize str [UInt8.ofNat (48 + q)] = s3 at *
            have z1 : ¬ 9223372036854775807 < s.size + 1 := by omega
            have z2 : ¬ 9223372036854775807 < s.size + 1 + s3.size := by omega
            have z3 : (k : Int) < 6 := by omega
            clear S3
            have HX9 : Hid (((wr.alloc (.cells #[.string s, .int .i64 ps, .int .i64 pr, .int .i64 pp, .int .i64 pg] 62)).alloc (.cells #[.string (s ++ ⟨#[58]⟩ ++ s3)] 9)).drew.heap[wr.heap.size + 1]? = some (.cells #[.string (s ++ ⟨#[58]⟩ ++ s3)] 9 (0, 0))) := Lib.hid (by
              have := heap_new (wr.alloc (.cells #[.string s, .int .i64 ps, .int .i64 pr, .int .i64 pp, .int .i64 pg] 62)) (.cells #[.string (s ++ ⟨#[58]⟩ ++ s3)] 9)
              rw [show (wr.alloc (.cells #[.string s, .int .i64 ps, .int .i64 pr, .int .i64 pp, .int .i64 pg] 62)).heap.size = wr.heap.size + 1 by simp] at this
              exact this)
            go_wp2_with fail
            refine wp_region_held_drew (S := fun w' => Fm w2.heap.size w2 w.heap.size xs wr.heap.size s w') (by kernel_rfl) HF.out (fun hHeld => ?_)
            refine wpAnyH_take (i := 0) (oi := { dst := some 28, op := Op.move (Operand.tmp 5), type := 69, pos := "text.go:20", after := #[], guard := none }) (v := ?_) rfl (by kernel_rfl) (by kernel_rfl) (by kernel_rfl) (fun _ _ _ h => h) (Or.inl ⟨by rfl, ?_⟩) (by assumption) ?_
            rotate_left
            · intro w hSw; (try dsimp only at hSw); have hq0 := hSw.name; have hq1 := hSw.bun.cell (k := k) (by omega); rw [HQ.out] at hq1; go_simp; try with_reducible rfl
            (try simp only [Act.put, List.setIfInBounds_toArray, List.set_cons_zero, List.set_cons_succ])
            refine wpAnyH_take (i := 1) (oi := { dst := some 29, op := Op.fieldAddr 62 (Operand.tmp 7) 0, type := 0, pos := "text.go:20", after := #[], guard := none }) (v := ?_) rfl (by kernel_rfl) (by kernel_rfl) (by kernel_rfl) (fun _ _ _ h => h) (Or.inl ⟨by rfl, ?_⟩) (by assumption) ?_
            rotate_left
            · intro w hSw; (try dsimp only at hSw); have hq0 := hSw.name; have hq1 := hSw.bun.cell (k := k) (by omega); rw [HQ.out] at hq1; go_simp; try with_reducible rfl
            (try simp only [Act.put, List.setIfInBounds_toArray, List.set_cons_zero, List.set_cons_succ])
            refine wpAnyH_take (i := 2) (oi := { dst := some 30, op := Op.load 9 (Operand.tmp 29), type := 9, pos := "text.go:20", after := #[{ on := 1, ground := Ground.data }], guard := none }) (v := ?_) rfl (by kernel_rfl) (by kernel_rfl) (by kernel_rfl) (fun _ _ _ h => h) (Or.inl ⟨by rfl, ?_⟩) (by assumption) ?_
            rotate_left
            · intro w hSw; (try dsimp only at hSw); have hq0 := hSw.name; have hq1 := hSw.bun.cell (k := k) (by omega); rw [HQ.out] at hq1; go_simp; try with_reducible rfl
            (try simp only [Act.put, List.setIfInBounds_toArray, List.set_cons_zero, List.set_cons_succ])
            refine wpAnyH_take (i := 3) (oi := { dst := some 31, op := Op.binOp BinOp.add 9 (Operand.tmp 30) (Operand.const (Value.string { data := #[58] })) 9, type := 9, pos := "text.go:20", after := #[{ on := 2, ground := Ground.data }], guard := none }) (v := ?_) rfl (by kernel_rfl) (by kernel_rfl) (by kernel_rfl) (fun _ _ _ h => h) (Or.inl ⟨by rfl, ?_⟩) (by assumption) ?_
            rotate_left
            · intro w hSw; (try dsimp only at hSw); have hq0 := hSw.name; have hq1 := hSw.bun.cell (k := k) (by omega); rw [HQ.out] at hq1; go_simp; try with_reducible rfl
            (try simp only [Act.put, List.setIfInBounds_toArray, List.set_cons_zero, List.set_cons_succ])
            refine wpAnyH_take (i := 4) (oi := { dst := some 32, op := Op.move (Operand.tmp 6), type := 3, pos := "text.go:20", after := #[], guard := none }) (v := ?_) rfl (by kernel_rfl) (by kernel_rfl) (by kernel_rfl) (fun _ _ _ h => h) (Or.inl ⟨by rfl, ?_⟩) (by assumption) ?_
            rotate_left
            · intro w hSw; (try dsimp only at hSw); have hq0 := hSw.name; have hq1 := hSw.bun.cell (k := k) (by omega); rw [HQ.out] at hq1; go_simp; try with_reducible rfl
            (try simp only [Act.put, List.setIfInBounds_toArray, List.set_cons_zero, List.set_cons_succ])
            refine wpAnyH_take (i := 5) (oi := { dst := some 33, op := Op.indexAddr 29 (Operand.tmp 3) (Operand.tmp 32), type := 0, pos := "text.go:20", after := #[{ on := 4, ground := Ground.data }], guard := none }) (v := ?_) rfl (by kernel_rfl) (by kernel_rfl) (by kernel_rfl) (fun _ _ _ h => h) (Or.inl ⟨by rfl, ?_⟩) (by assumption) ?_
            rotate_left
            · intro w hSw; (try dsimp only at hSw); have hq0 := hSw.name; have hq1 := hSw.bun.cell (k := k) (by omega); rw [HQ.out] at hq1; go_simp; try with_reducible rfl
            (try simp only [Act.put, List.setIfInBounds_toArray, List.set_cons_zero, List.set_cons_succ])
            refine wpAnyH_take (i := 6) (oi := { dst := some 34, op := Op.load 3 (Operand.tmp 33), type := 3, pos := "text.go:20", after := #[{ on := 5, ground := Ground.data }], guard := none }) (v := ?_) rfl (by kernel_rfl) (by kernel_rfl) (by kernel_rfl) (fun _ _ _ h => h) (Or.inl ⟨by rfl, ?_⟩) (by assumption) ?_
            rotate_left
            · intro w hSw; (try dsimp only at hSw); have hq0 := hSw.name; have hq1 := hSw.bun.cell (k := k) (by omega); rw [HQ.out] at hq1; go_simp; try with_reducible rfl
            (try simp only [Act.put, List.setIfInBounds_toArray, List.set_cons_zero, List.set_cons_succ])
            refine wpAnyH_ready (rs := [7]) (by kernel_rfl) (by simp) ?_
            refine AllReadyH.cons (o := { dst := some 35, op := Op.call { callee := Callee.value (Operand.func 44), args := #[Operand.tmp 34], argTypes := #[3] }, type := 9, pos := "text.go:20", after := #[{ on := 6, ground := Ground.data }], guard := none }) rfl (fun K hK => ?_) AllReadyH.nil
            go_simp
            refine (IT.out _).mono ?_
            rintro e5 w5 ⟨rfl, rfl⟩
            refine hK.out _ _ ?_ (fun hHeld => ?_)
            · exact hHeld
            clear hK K
            (try simp only [Act.put, List.setIfInBounds_toArray, List.set_cons_zero, List.set_cons_succ])
            refine wpAnyH_take (i := 8) (oi := { dst := some 36, op := Op.binOp BinOp.add 9 (Operand.tmp 31) (Operand.tmp 35) 9, type := 9, pos := "text.go:20", after := #[{ on := 3, ground := Ground.data }, { on := 7, ground := Ground.data }], guard := none }) (v := ?_) rfl (by kernel_rfl) (by kernel_rfl) (by kernel_rfl) (fun _ _ _ h => h) (Or.inl ⟨by rfl, ?_⟩) (by assumption) ?_
            rotate_left
            · intro w hSw; (try dsimp only at hSw); have hq0 := hSw.name; have hq1 := hSw.bun.cell (k := k) (by omega); rw [HQ.out] at hq1; go_simp; try with_reducible rfl
            (try simp only [Act.put, List.setIfInBounds_toArray, List.set_cons_zero, List.set_cons_succ])
            refine wpAnyH_ready (rs := [9]) (by kernel_rfl) (by simp) ?_
            refine AllReadyH.cons (o := { dst := some 37, op := Op.buildSlice 69 1 #[(0, Operand.tmp 36)], type := 69, pos := "text.go:20", after := #[{ on := 8, ground := Ground.data }], guard := none }) rfl (fun K hK => ?_) AllReadyH.nil
            go_simp
            refine hK.out _ _ ?_ (fun hHeld => ?_)
            · exact hHeld.alloc _ hHeld.below.size
            clear hK K
            (try simp only [Act.put, List.setIfInBounds_toArray, List.set_cons_zero, List.set_cons_succ])
            refine wpAnyH_ready (rs := [10]) (by kernel_rfl) (by simp) ?_
            refine AllReadyH.cons (o := { dst := some 38, op := Op.call { callee := Callee.builtin Builtin.append, args := #[Operand.tmp 28, Operand.tmp 37], argTypes := #[69, 69] }, type := 69, pos := "text.go:20", after := #[{ on := 0, ground := Ground.data }, { on := 9, ground := Ground.data }, { on := 7, ground := Ground.chain }], guard := none }) rfl (fun K hK => ?_) AllReadyH.nil
            refine step_append_lies _ (by rfl) _ _ _ (by rfl) w2.heap.size 9 i0 (.string ⟨#[]⟩) 1 16 Tryd.underlying69 hi hz0 hz1 hz2 rfl (by decide) _ _ _ (by rfl) (O1.out.keep (below_new _ _)) ⟨_, 0, none⟩ 1 1 [.string (s ++ ⟨#[58]⟩ ++ s3)] (by rfl) rfl ?c1 ?c2 (by decide) ?c4 ?c5 ?c6 _ rfl ?_
            case c1 => exact World.news_of_block HX9.out
            case c2 => intro u hu; simp at hu; subst hu; rfl
            case c4 => unfold maxLen; omega
            case c5 => omega
            case c6 => exact hHeld.below.size
            intro g cap w7 hown hgrow hat hlt7
            have O7 := Lib.hid (OwnS.app hown HE.out)
            have F7 := Lib.hid (hHeld.grown hgrow (fun g hg => by have := OL.out g hg; exact ⟨this.1, by omega, by omega⟩) hHeld.below.size)
            clear hown hgrow hat hlt7
            refine hK.out _ _ ?_ (fun hHeld => ?_)
            · exact F7.out
            clear hK K
            (try simp only [Act.put, List.setIfInBounds_toArray, List.set_cons_zero, List.set_cons_succ])
            refine wpAnyH_take (i := 11) (oi := { dst := some 5, op := Op.assign (Operand.tmp 38), type := 69, pos := "text.go:20", after := #[{ on := 10, ground := Ground.data }, { on := 10, ground := Ground.chain }, { on := 0, ground := Ground.phase }, { on := 1, ground := Ground.phase }, { on := 2, ground := Ground.phase }, { on := 3, ground := Ground.phase }, { on := 4, ground := Ground.phase }, { on := 5, ground := Ground.phase }, { on := 6, ground := Ground.phase }, { on := 7, ground := Ground.phase }, { on := 8, ground := Ground.phase }, { on := 9, ground := Ground.phase }, { on := 10, ground := Ground.phase }], guard := none }) (v := ?_) rfl (by kernel_rfl) (by kernel_rfl) (by kernel_rfl) (fun _ _ _ h => h) (Or.inl ⟨by rfl, ?_⟩) (by assumption) ?_
            rotate_left
            · intro w hSw; (try dsimp only at hSw); have hq0 := hSw.name; have hq1 := hSw.bun.cell (k := k) (by omega); rw [HQ.out] at hq1; go_simp; try with_reducible rfl
            (try simp only [Act.put, List.setIfInBounds_toArray, List.set_cons_zero, List.set_cons_succ])
            refine wpAnyH_done (by kernel_rfl) ?_ _
            clear O1 HF HX9 IT
            rw [HG0.out] at O7
            go_wp2
            go_roundw
            case rel => exact ⟨k + 1, by omega, by go_num, O7, Lib.hid F7.out.bun, Lib.hid F7.out.below⟩
            case measure => simp [intOf]; omega
          · have hd0 : decide (0 < (q : Int)) = false := decide_eq_false (by omega)
            have HG := MC.elsK_skip (l := L) (b := xs) (k := k) (by rw [HQ.out]; omega)
            have O3 : Hid (OwnS (wr.alloc (.cells #[.string (str p.name), .int .i64 p.supply, .int .i64 p.reserve, .int .i64 p.points, .int .i64 p.group] 62)) w2.heap.size u5 (MC.elsK L xs (k + 1))) := Lib.hid (by rw [HG]; exact HO.out.keep (below_new wr _))
            have N3 := Lib.hid (HN.out.alloc (.cells #[.string (str p.name), .int .i64 p.supply, .int .i64 p.reserve, .int .i64 p.points, .int .i64 p.group] 62))
            have D3 := Lib.hid (HD.out.trans ((below_new wr (.cells #[.string (str p.name), .int .i64 p.supply, .int .i64 p.reserve, .int .i64 p.points, .int .i64 p.group] 62)).mono HD.out.size))
            clear HG O1 HF IT HE
            obtain ⟨pn, ps, pr, pp, pg⟩ := p
            simp only at *
            generalize str pn = s at *
            go_wp2_with fail
            go_roundw
            case rel => exact ⟨k + 1, by omega, by go_num, O3, N3, D3⟩
            case measure => simp [intOf]; omega
        · obtain rfl : k = n := by omega
          have hsz := inK_short GL.out xs k
          have hj := MC.join_els L xs k
          have hel : (MC.elsK L xs k).length ≤ 6 := by unfold MC.elsK; rw [List.length_map]; have := MC.upK_len xs k; omega
          have hmap : ((MC.elsK L xs k).map str).map (fun x : ByteArray => x.data.toList) = MC.elsK L xs k := by
            rw [List.map_map]
            conv => rhs; rw [← List.map_id (MC.elsK L xs k)]
            exact List.map_congr_left fun x _ => str_data x
          rcases HO.out.2 with ⟨hv, h0⟩ | ⟨g, cap, cur, hv, hge, hh, hcl, hm, hsz2, ht⟩
          · subst hv
            have he : MC.elsK L xs k = [] := List.eq_nil_of_length_eq_zero h0
            rw [he] at hj
            have hin : MC.inK L xs k = [] := hj.symm
            rw [hin] at G
            have JN := Lib.hid (fun w' => join_none none 0 ⟨#[44]⟩ w')
            have hs0 : str ([] : List UInt8) = ⟨#[]⟩ := rfl
            rw [hs0] at G
            clear hsz hj hel hmap he hin h0
            go_wp2_with fail
            refine (JN.out _).mono ?_
            rintro e5 w5 ⟨rfl, hb⟩
            have B5 := Lib.hid (B2.out.trans ((HD.out.trans (hb.mono HD.out.size)).mono B2.out.size))
            clear hb
            go_wp2
            go_ret
            refine ⟨?_, B5.out⟩
            rw [HXS.out]
            exact G.out
          · subst hv
            have hgl : g < wr.heap.size := (World.ownsRow.lt HO.out g rfl).2
            have JS := join_some g 0 cap ((MC.elsK L xs k).map str) ⟨#[44]⟩ wr (fun j x hx => by
                have hx' := hx
                rw [List.getElem?_map] at hx
                obtain ⟨y, hy, rfl⟩ := Option.map_eq_some_iff.1 hx
                have := World.ownsRow.cells HO.out (g := g) rfl j (.string (str y)) (by rw [List.getElem?_map, hy]; rfl)
                rw [addr_add] at this
                exact this) hgl (by rw [List.length_map]; omega) (by rw [List.length_map]; exact hcl) (by rw [hmap]; rw [show (⟨#[44]⟩ : ByteArray).data.toList = [44] from rfl, hj]; omega)
            rw [hmap, show (⟨#[44]⟩ : ByteArray).data.toList = [44] from rfl, hj, List.length_map] at JS
            change Calls _ _ _ _ (Gives (.string (str (MC.inK L xs k))) wr) at JS
            have HJ := Lib.hid JS
            clear JS hsz hj hel hmap hh hm hsz2 ht
            have hss : (str (MC.inK L xs k)).size ≤ 90 := by rw [str_size]; have := inK_short GL.out xs k; omega
            generalize str (MC.inK L xs k) = sj at *
            clear HL H GL HOK PL
            go_wp2_with fail
            refine HJ.out.mono ?_
            rintro e5 w5 ⟨rfl, hb⟩
            have B5 := Lib.hid (B2.out.trans ((HD.out.trans (hb.mono HD.out.size)).mono B2.out.size))
            clear hb
            go_wp2
            go_ret
            refine ⟨?_, B5.out⟩
            rw [HXS.out]
            exact G.out
  · have hb0 : (MC.chkL L != 0) = true := bne_iff_ne.2 hg
    have G := Lib.hid (ret_str (show (⟨#[]⟩ : ByteArray) = str (MC.fmtL L [a, b, c, d, e, f]) by rw [fmt_no (fun hh => hg hh.1)]; rfl))
    clear hg
    generalize MC.chkL L = er at *
    go_enter Tryd.func22, Tryd.ntmps22
    go_wp2_with fail
    refine (CK.out _ HB.out).mono ?_
    rintro e1 w1 ⟨rfl, hb⟩
    have B1 := Lib.hid (HB.out.trans (hb.mono HB.out.size))
    clear hb
    go_wp2
    go_ret
    exact ⟨G.out, B1.out⟩
end Go.Proofs.YtdlpolnnhhnecaaDoor
