/- The walk of WireRoundTrip: no claim of its own. -/
import Derived.Test.YtebfnbnaheolgaaWMathR
namespace Go.Proofs.Ytebfnbnaheolgaa
open Go.RowKit
/-- After some reads: o has been written, l is left. -/
structure RT (w : World) (g : Nat) (l0 o l : List UInt8) (wr : World) : Prop where
  rd : RP wr g l 0
  cat : o ++ l = l0
  bel : Below w.heap.size w wr
  big : w.heap.size ≤ g
theorem RT.sizes {w wr : World} {g : Nat} {l0 o l : List UInt8} (h : RT w g l0 o l wr) (h0 : l0.length ≤ 60) : o.length ≤ 60 ∧ l.length ≤ 60 := by
  have := congrArg List.length h.cat
  rw [List.length_append] at this
  omega
/-- One more part. -/
theorem RT.more {w wr w1 w2 : World} {g : Nat} {l0 o l pt l' : List UInt8} (h : RT w g l0 o l wr) (hr : RP w1 g l' 0) (hg : wr.grownBy w1 (some g)) (hb : Below w1.heap.size w1 w2) (hp : pt ++ l' = l) : RT w g l0 (o ++ pt) l' w2 :=
  ⟨hr.keep hb, by rw [List.append_assoc, hp]; exact h.cat, (h.bel.trans (grown_below hg h.big h.bel.size)).trans (hb.mono ((h.bel.trans (grown_below hg h.big h.bel.size)).size)), h.big⟩
theorem RT.stop {w wr w1 w2 : World} {g : Nat} {l0 o l : List UInt8} (h : RT w g l0 o l wr) (hg : wr.grownBy w1 (some g)) (hb : Below w1.heap.size w1 w2) : Below w.heap.size w w2 :=
  (h.bel.trans (grown_below hg h.big h.bel.size)).trans (hb.mono ((h.bel.trans (grown_below hg h.big h.bel.size)).size))
/-- The slice of kinds, as it came in. -/
structure Kinds (w : World) (A : Option Addr) (len cap : Nat) : Prop where
  cap_ : len ≤ cap ∧ cap ≤ maxLen
  el : ∀ k, k < len → ∃ ad z, A = some ad ∧ w.cell? (ad.add k) = some (.int .u8 ((z : Nat) : Int)) ∧ z < 256
theorem FracPost.ok {g : Nat} {l : List UInt8} {w : World} {en : Ending} {w' : World} {s : Bool} {xs ys : List Nat} {l3 : List UInt8} (hf : fracS l = (s, xs, ys, l3, 0)) (hv : validB s xs ys = true) (h : FracPost g l w en w') :
    ∃ A n c B m d, en = .returned (.agg #[.bool s, .slice A n c, .slice B m d]) ∧ Lst w' A n c xs ∧ Lst w' B m d ys ∧ RP w' g l3 0 ∧ w.grownBy w' (some g) ∧ n ≤ 2000 ∧ m ≤ 2000 := by
  unfold FracPost at h; rw [hf] at h; rwa [if_neg (fun h => h rfl), if_neg (by rw [hv]; decide)] at h
theorem FracPost.bad {g : Nat} {l : List UInt8} {w : World} {en : Ending} {w' : World} {s : Bool} {xs ys : List Nat} {l3 : List UInt8} {e3 : Nat} (hf : fracS l = (s, xs, ys, l3, e3)) (hv : ¬ (e3 = 0 ∧ validB s xs ys = true)) (h : FracPost g l w en w') :
    Rd (.agg #[.bool false, .slice none 0 0, .slice none 0 0]) g [] (if e3 = 0 then 2 else e3 : Nat) w en w' := by
  unfold FracPost at h
  rw [hf] at h
  by_cases he : e3 = 0
  · subst he
    have hv2 : validB s xs ys = false := by
      cases h : validB s xs ys
      · rfl
      · exact absurd ⟨rfl, h⟩ hv
    rw [if_neg (fun h => h rfl), if_pos hv2] at h
    rw [if_pos rfl]
    exact h
  · rw [if_pos he] at h
    rw [if_neg he]
    exact h
set_option maxRecDepth 100000 in
set_option maxHeartbeats 8000000 in
theorem trip_walk (s : ByteArray) (A : Option Addr) (len cap : Nat) (w : World) (hs : s.size ≤ maxLen) (hk : Kinds w A len cap) :
    Calls Try.prog 7 #[.string s, .slice A len cap] w (Gives (.bool true) w) := by
  unfold maxLen at hs
  have hm := hk.cap_
  unfold maxLen at hm
  have HK := Lib.hid hk
  have LL := Lib.hid lives_wire
  clear hk
  obtain ⟨t, ht, hts, hcut⟩ : ∃ t : ByteArray, t.size ≤ 60 ∧ (¬ 60 < s.size → t = s) ∧ (60 < s.size → s.extract 0 60 = t) := by
    by_cases h : 60 < s.size
    · exact ⟨s.extract 0 60, by rw [ByteArray.size_extract]; omega, fun h' => absurd h h', fun _ => rfl⟩
    · exact ⟨s, by omega, fun _ => rfl, fun h' => absurd h' h⟩
  have T0 : t.data.toList.length ≤ 60 := by rw [show t.data.toList.length = t.size by simp]; exact ht
  have TS := Lib.hid (show t.data.toList.length = t.size by simp)
  by_cases h60 : 60 < s.size
  all_goals
    first
      | (have hc := hcut h60; clear hts hcut)
      | (obtain rfl := hts h60; clear hts hcut)
    go_enter Try.func7, Try.ntmps7
    go_wp2_with fail
    refine (newReader_any _ _).mono ?_
    rintro e w1 ⟨rfl, rfl⟩
    have I0 : Hid (RT w w.heap.size t.data.toList [] t.data.toList (w.alloc (.cells #[.string t, .int .i64 0] 59))) := Lib.hid ⟨RP.new w t, rfl, below_new w _, Nat.le_refl _⟩
    generalize w.alloc (.cells #[.string t, .int .i64 0] 59) = w1 at *
    obtain ⟨g, hg⟩ : ∃ g, w.heap.size = g := ⟨_, rfl⟩
    have I1 : Hid (RT w g t.data.toList [] t.data.toList w1) := Lib.hid (by have := I0.out; rw [hg] at this; rw [← hg] at this ⊢; exact this)
    rw [hg]
    clear I0 hg
    go_wp2_with fail
    go_loopw [6, 7] (fun ov i wr => ∃ (k : Nat) (o l : List UInt8), k ≤ len ∧ k ≤ 40 ∧ i = .int .i64 k ∧ ov = .string (str o) ∧ Hid (RT w g t.data.toList o l wr)) (fun _ i _ => 40 - (intOf i).toNat)
    case atStart => exact ⟨0, [], _, by omega, by omega, rfl, rfl, I1⟩
    case round =>
      clear I1
      obtain ⟨k, o, l, hk1, hk2, rfl, rfl, hi⟩ := hrel
      obtain ⟨zo, zl⟩ := hi.out.sizes T0
      have so : (str o).size ≤ 60 := by rw [str_size]; exact zo
      by_cases hlt : k < len ∧ k < 40
      · obtain ⟨hl1, hl2⟩ := hlt
        obtain ⟨ad, z, rfl, hcell0, hz⟩ := HK.out.el k hl1
        have hcell := (hi.out.bel.cell (World.block_lt_of_cell? w _ hcell0)).trans hcell0
        clear hcell0
        have hl := hi.out.rd
        by_cases r0 : z % 4 = 0
        · have hz4 : (z : Int) % 4 = 0 := by omega
          have U := Lib.hid (uintR_any g l 18446744073709551615 wr hl (by omega))
          have ul := uintS_lt l 18446744073709551615
          have BK := fun x l' (h : uintS l 18446744073709551615 = (x, l', 0)) => (uintS_back h).1
          generalize uintS l 18446744073709551615 = r at *
          obtain ⟨x, l1, e1⟩ := r
          simp only at U ul
          have PU := Lib.hid (fun W => putUint_any x ul W)
          go_wp2_with fail
          refine U.out.mono ?_
          rintro e w1 ⟨rfl, hr, hG⟩
          have HR := Lib.hid hr
          have HG := Lib.hid hG
          clear hr hG
          go_wp2_with fail
          refine (PU.out _).mono ?_
          rintro e w2 ⟨rfl, hb⟩
          have HB := Lib.hid hb
          clear hb
          by_cases he : e1 = 0
          · have N := Lib.hid (hi.out.more (pt := leb x) (l' := l1) (by have := HR.out; rw [he] at this; exact this) HG.out HB.out (by subst he; exact BK x l1 rfl))
            have NE : Hid (str o ++ str (leb x) = str (o ++ (leb x))) := Lib.hid (str_append _ _)
            have E := Lib.hid (err_live g _ 0 _ N.out.rd)
            have sz2 : (str (leb x)).size ≤ 60 := by rw [str_size]; have := (N.out.sizes T0).1; rw [List.length_append] at this; omega
            clear hi HR HG HB he hcell hl
            generalize str (leb x) = tp at *
            go_wp2_with fail
            refine E.out.mono ?_
            rintro e w' ⟨rfl, rfl⟩
            go_wp2
            go_roundw
            case rel => exact ⟨k + 1, _, _, by omega, by omega, by go_num, by rw [NE.out], N⟩
            case measure => simp [intOf]; omega
          · have E := Lib.hid (err_live g _ _ _ (HR.out.keep HB.out))
            have n0 : ((e1 : Int) != 0) = true := bne_iff_ne.2 (by omega)
            have ST := Lib.hid (hi.out.stop HG.out HB.out)
            clear hi HR HG HB he hcell hl
            go_wp2_with fail
            refine E.out.mono ?_
            rintro e w' ⟨rfl, rfl⟩
            go_wp2_with fail
            refine (LL.out _).mono ?_
            rintro e w9 ⟨rfl, hb⟩
            have B9 := Lib.hid (ST.out.trans (hb.mono ST.out.size))
            clear hb
            go_wp2
            go_ret
            exact ⟨rfl, B9.out⟩
        by_cases r1 : z % 4 = 1
        · have hz4 : (z : Int) % 4 = 1 := by omega
          have U := Lib.hid (intR_any g l wr hl (by omega))
          have ul := uintS_lt l 18446744073709551615
          have BK := fun x l' (h : uintS l 18446744073709551615 = (x, l', 0)) => (uintS_back h).1
          generalize uintS l 18446744073709551615 = r at *
          obtain ⟨x, l1, e1⟩ := r
          simp only at U ul
          have ui := unfold_in x ul
          have PU : Hid (∀ W, Calls Try.prog 10 #[.int .i64 (unfoldI x)] W (Gives (.string (str (leb x))) W)) := Lib.hid (fun W => by
            have h := putInt_any (unfoldI x) ui.1 ui.2 W
            rwa [fold_unfold] at h)
          clear ui
          go_wp2_with fail
          refine U.out.mono ?_
          rintro e w1 ⟨rfl, hr, hG⟩
          have HR := Lib.hid hr
          have HG := Lib.hid hG
          clear hr hG
          go_wp2_with fail
          refine (PU.out _).mono ?_
          rintro e w2 ⟨rfl, hb⟩
          have HB := Lib.hid hb
          clear hb
          by_cases he : e1 = 0
          · have N := Lib.hid (hi.out.more (pt := leb x) (l' := l1) (by have := HR.out; rw [he] at this; exact this) HG.out HB.out (by subst he; exact BK x l1 rfl))
            have NE : Hid (str o ++ str (leb x) = str (o ++ (leb x))) := Lib.hid (str_append _ _)
            have E := Lib.hid (err_live g _ 0 _ N.out.rd)
            have sz2 : (str (leb x)).size ≤ 60 := by rw [str_size]; have := (N.out.sizes T0).1; rw [List.length_append] at this; omega
            clear hi HR HG HB he hcell hl
            generalize str (leb x) = tp at *
            go_wp2_with fail
            refine E.out.mono ?_
            rintro e w' ⟨rfl, rfl⟩
            go_wp2
            go_roundw
            case rel => exact ⟨k + 1, _, _, by omega, by omega, by go_num, by rw [NE.out], N⟩
            case measure => simp [intOf]; omega
          · have E := Lib.hid (err_live g _ _ _ (HR.out.keep HB.out))
            have n0 : ((e1 : Int) != 0) = true := bne_iff_ne.2 (by omega)
            have ST := Lib.hid (hi.out.stop HG.out HB.out)
            clear hi HR HG HB he hcell hl
            go_wp2_with fail
            refine E.out.mono ?_
            rintro e w' ⟨rfl, rfl⟩
            go_wp2_with fail
            refine (LL.out _).mono ?_
            rintro e w9 ⟨rfl, hb⟩
            have B9 := Lib.hid (ST.out.trans (hb.mono ST.out.size))
            clear hb
            go_wp2
            go_ret
            exact ⟨rfl, B9.out⟩
        by_cases r2 : z % 4 = 2
        · have hz4 : (z : Int) % 4 = 2 := by omega
          have U := Lib.hid (textR_any g l 300 wr (by decide) (by decide) hl (by omega))
          have tl := (textS_len (l := l) (m := 300)).1
          have BK := fun x l' (h : textS l 300 = (x, l', 0)) => textS_back h
          generalize textS l 300 = r at *
          obtain ⟨x, l1, e1⟩ := r
          simp only at U tl
          have PU : Hid (∀ W, Calls Try.prog 18 #[.string (str x)] W (Gives (.string (str (leb x.length ++ x))) W)) := Lib.hid (fun W => by
            have h := putText_any (str x) (by rw [str_size]; omega) W
            rwa [str_size, str_data] at h)
          have zs : (str x).size ≤ 60 := by rw [str_size]; omega
          go_wp2_with fail
          refine U.out.mono ?_
          rintro e w1 ⟨rfl, hr, hG⟩
          have HR := Lib.hid hr
          have HG := Lib.hid hG
          clear hr hG
          go_wp2_with fail
          refine (PU.out _).mono ?_
          rintro e w2 ⟨rfl, hb⟩
          have HB := Lib.hid hb
          clear hb
          by_cases he : e1 = 0
          · have N := Lib.hid (hi.out.more (pt := leb x.length ++ x) (l' := l1) (by have := HR.out; rw [he] at this; exact this) HG.out HB.out (by subst he; exact BK x l1 rfl))
            have NE : Hid (str o ++ str (leb x.length ++ x) = str (o ++ (leb x.length ++ x))) := Lib.hid (str_append _ _)
            have E := Lib.hid (err_live g _ 0 _ N.out.rd)
            have sz2 : (str (leb x.length ++ x)).size ≤ 60 := by rw [str_size]; have := (N.out.sizes T0).1; rw [List.length_append] at this; omega
            clear hi HR HG HB he hcell hl
            generalize str (leb x.length ++ x) = tp at *
            go_wp2_with fail
            refine E.out.mono ?_
            rintro e w' ⟨rfl, rfl⟩
            go_wp2
            go_roundw
            case rel => exact ⟨k + 1, _, _, by omega, by omega, by go_num, by rw [NE.out], N⟩
            case measure => simp [intOf]; omega
          · have E := Lib.hid (err_live g _ _ _ (HR.out.keep HB.out))
            have n0 : ((e1 : Int) != 0) = true := bne_iff_ne.2 (by omega)
            have ST := Lib.hid (hi.out.stop HG.out HB.out)
            clear hi HR HG HB he hcell hl
            go_wp2_with fail
            refine E.out.mono ?_
            rintro e w' ⟨rfl, rfl⟩
            go_wp2_with fail
            refine (LL.out _).mono ?_
            rintro e w9 ⟨rfl, hb⟩
            have B9 := Lib.hid (ST.out.trans (hb.mono ST.out.size))
            clear hb
            go_wp2
            go_ret
            exact ⟨rfl, B9.out⟩
        · have hz4 : (z : Int) % 4 = 3 := by omega
          have U := fractionR_any g l wr hl (by omega)
          have BK := fun s xs ys l' (h : fracS l = (s, xs, ys, l', 0)) => fracS_back h
          obtain ⟨sg0, xs, ys, l1, e1, hf⟩ : ∃ sg0 xs ys l1 e1, fracS l = (sg0, xs, ys, l1, e1) := ⟨_, _, _, _, _, rfl⟩
          by_cases ok : e1 = 0 ∧ validB sg0 xs ys = true
          · obtain ⟨rfl, hv⟩ := ok
            have BK := Lib.hid (BK _ _ _ _ hf)
            have U := Lib.hid (U.mono fun en w' h => FracPost.ok hf hv h)
            clear hf hv
            go_wp2_with fail
            refine U.out.mono ?_
            rintro e w1 ⟨A1, n1, c1, A2, n2, c2, rfl, hx, hy, hr, hG, hn1, hn2⟩
            have PU := Lib.hid (putFrac_any sg0 A1 A2 n1 c1 n2 c2 xs ys w1 hx hy (by omega) (by omega))
            have HR := Lib.hid hr
            have HG := Lib.hid hG
            clear hr hG hx hy U
            go_wp2_with fail
            refine PU.out.mono ?_
            rintro e w2 ⟨rfl, hb⟩
            have HB := Lib.hid hb
            clear hb PU
            have N := Lib.hid (hi.out.more (pt := fracEnc sg0 xs ys) (l' := l1) HR.out HG.out HB.out BK.out)
            have NE : Hid (str o ++ str (fracEnc sg0 xs ys) = str (o ++ fracEnc sg0 xs ys)) := Lib.hid (str_append _ _)
            have E := Lib.hid (err_live g _ 0 _ N.out.rd)
            have sz2 : (str (fracEnc sg0 xs ys)).size ≤ 60 := by rw [str_size]; have := (N.out.sizes T0).1; rw [List.length_append] at this; omega
            clear hi HR HG HB hcell hl BK
            generalize str (fracEnc sg0 xs ys) = tp at *
            go_wp2_with fail
            refine E.out.mono ?_
            rintro e w' ⟨rfl, rfl⟩
            go_wp2
            go_roundw
            case rel => exact ⟨k + 1, _, _, by omega, by omega, by go_num, by rw [NE.out], N⟩
            case measure => simp [intOf]; omega
          · have hee : (if e1 = 0 then 2 else e1 : Nat) ≠ 0 := by split <;> omega
            have UU := Lib.hid (U.mono fun en w' h => FracPost.bad hf ok h)
            clear hf ok BK U
            generalize (if e1 = 0 then 2 else e1 : Nat) = ee at *
            have n0 : ((ee : Int) != 0) = true := bne_iff_ne.2 (by omega)
            clear hee
            go_wp2_with fail
            refine UU.out.mono ?_
            rintro e w1 ⟨rfl, hr, hG⟩
            have HR := Lib.hid hr
            have HG := Lib.hid hG
            clear hr hG
            have PU := Lib.hid (putFrac_any false none none 0 0 0 0 [] [] w1 (zeroLst _) (zeroLst _) (by decide) (by decide))
            go_wp2_with fail
            refine PU.out.mono ?_
            rintro e w2 ⟨rfl, hb⟩
            have E := Lib.hid (err_live g _ _ _ (HR.out.keep hb))
            have ST := Lib.hid (hi.out.stop HG.out hb)
            clear hi HR HG hb hcell hl PU UU
            go_wp2_with fail
            refine E.out.mono ?_
            rintro e w' ⟨rfl, rfl⟩
            go_wp2_with fail
            refine (LL.out _).mono ?_
            rintro e w9 ⟨rfl, hb⟩
            have B9 := Lib.hid (ST.out.trans (hb.mono ST.out.size))
            clear hb
            go_wp2
            go_ret
            exact ⟨rfl, B9.out⟩
      · have L := Lib.hid (left_live g l 0 wr hi.out.rd)
        have hcat := congrArg List.length hi.out.cat
        rw [List.length_append, TS.out] at hcat
        have hle : l.length ≤ t.size := by omega
        have hsub : ((t.size : Int) - (l.length : Int)) = (o.length : Int) := by omega
        have X : (t.extract 0 o.length) = str o := (by
          have h := str_take t.data.toList o.length
          rw [str_self] at h
          rw [h, ← hi.out.cat, List.take_left' rfl])
        have B8 := Lib.hid hi.out.bel
        have zlo : o.length ≤ t.size := by omega
        clear hcat
        generalize l.length = nl at *
        clear hi so TS T0
        by_cases hkl : k < len
        all_goals
          (try have hk40 : ¬ k < 40 := fun h => hlt ⟨hkl, h⟩)
          clear hlt
          go_wp2_with fail
          refine L.out.mono ?_
          rintro e w' ⟨rfl, rfl⟩
          go_wp2_with fail
          refine (LL.out _).mono ?_
          rintro e w9 ⟨rfl, hb⟩
          have B9 := Lib.hid (B8.out.trans (hb.mono B8.out.size))
          clear hb
          go_wp2
          go_ret
          exact ⟨rfl, B9.out⟩
end Go.Proofs.Ytebfnbnaheolgaa
