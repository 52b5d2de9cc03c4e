/- One element read: no claim of its own. -/
import Derived.Test.YtdlpolnnhhnecaaDoorCUni
import Derived.Test.YtdlpolnnhhnecaaDoorCFind
import Derived.Test.YtdlpolnnhhnecaaDoorBArith
import Derived.Deep.RegionHeld3
namespace Go.Proofs.YtdlpolnnhhnecaaDoor
open Go.RowKit
open MC (Pr)
/-- The bundle, what follows and the error behind one element. -/
def scE (L : List Pr) (xs : List Int) (ts : List Tk) (er : Int) : List Int × List Tk × Int :=
  match MC.findL L (nmT' ts er) with
  | none => (xs, [], flE 6 (nmE ts er))
  | some k => if MB.at_ xs k ≠ 0 then (xs, [], flE 7 (nmE ts er)) else
      let ts1 := if nmE ts er = 0 then ts.drop 1 else []
      let e2 := expE 58 ts1 (nmE ts er)
      let ts2 := if e2 = 0 then ts1.drop 1 else []
      let e3 := amE ts2 e2
      let v := amV ts2 e2
      if v = 0 then (xs.set k 0, [], flE 4 e3) else (xs.set k v, if e3 = 0 then ts2.drop 1 else [], e3)
theorem bb_grown {w w' : World} {g B : Nat} {T : TypeId} {xs : List Int} (h : BB w B T xs) (hg : w.grownBy w' (some g)) (hgB : g < B) : BB w' B T xs :=
  ⟨(hg.block B h.lt (fun e => by injection e with e; omega)).trans h.1, h.2⟩
/-- Nothing has turned but the scanner and the bundle. -/
structure Mv (N g B : Nat) (w w' : World) : Prop where
  below : Below N w w'
  rest : ∀ k, k < w.heap.size → k ≠ g → k ≠ B → w'.heap[k]? = w.heap[k]?
theorem Mv.refl (N g B : Nat) (w : World) : Mv N g B w w := ⟨Below.refl _ _, fun _ _ _ _ => rfl⟩
theorem Mv.grown {N g B : Nat} {w w1 w2 : World} (h : Mv N g B w w1) (hg : w1.grownBy w2 (some g)) (hN : N ≤ g) (hNw : N ≤ w.heap.size) : Mv N g B w w2 :=
  ⟨h.below.trans (grown_below hg hN (Nat.le_trans hNw h.below.size)), fun k h1 h2 h3 => (hg.block k (Nat.lt_of_lt_of_le h1 h.below.size) (fun e => by injection e with e; exact h2 e)).trans (h.rest k h1 h2 h3)⟩
theorem Mv.quiet {N g B : Nat} {w w1 w2 : World} (h : Mv N g B w w1) (hb : Below w1.heap.size w1 w2) (hNw : N ≤ w.heap.size) : Mv N g B w w2 :=
  ⟨h.below.trans (hb.mono (Nat.le_trans hNw h.below.size)), fun k h1 h2 h3 => (hb.block k (Nat.lt_of_lt_of_le h1 h.below.size)).trans (h.rest k h1 h2 h3)⟩
theorem Mv.poke {N g B : Nat} {w w1 : World} (h : Mv N g B w w1) (hB : N ≤ B) (i : Nat) (u : Value) : Mv N g B w (w1.setCell ⟨B, i, none⟩ u) :=
  ⟨h.below.setCell (p := ⟨B, i, none⟩) hB u, fun k h1 h2 h3 => by rw [heap_setCell_other w1 _ k u h3]; exact h.rest k h1 h2 h3⟩
theorem Mv.drew {N g B : Nat} {w w1 : World} (h : Mv N g B w w1) : Mv N g B w w1.drew := ⟨h.below.drew, h.rest⟩
theorem Mv.trans {N g B : Nat} {w w1 w2 : World} (h : Mv N g B w w1) (h' : Mv N g B w1 w2) : Mv N g B w w2 :=
  ⟨h.below.trans h'.below, fun k h1 h2 h3 => (h'.rest k (Nat.lt_of_lt_of_le h1 h.below.size) h2 h3).trans (h.rest k h1 h2 h3)⟩
/-- What one element does. -/
def Scd (N g B : Nat) (R : List Int × List Tk × Int) (w : World) (e : Ending) (w' : World) : Prop :=
  e = .returned (.tuple #[]) ∧ SP (fun k => g ≤ k) w' g R.2.1 R.2.2 ∧ BB w' B 29 R.1 ∧ Mv N g B w w'
set_option maxRecDepth 100000 in
set_option maxHeartbeats 8000000 in
theorem scanEl_any (A : Option Addr) (n cp : Nat) (L : List Pr) (hL6 : L.length ≤ 6) (N g B : Nat) (xs : List Int) (ts : List Tk) (er : Int) (w : World) (h : SP (fun k => g ≤ k) w g ts er) (hb : BB w B 29 xs) (hgB : g < B) (hN : N ≤ g) (hNw : N ≤ w.heap.size)
    (hP : ∀ w', Below N w w' → Prs w' A n cp L) (hxs : ∀ k, 0 ≤ MB.at_ xs k) :
    Calls Tryd.prog 52 #[.slice A n cp, .pointer (some ⟨g, 0, none⟩), .pointer (some ⟨B, 0, none⟩)] w (Scd N g B (scE L xs ts er) w) := by
  have NM := Lib.hid (nameU h)
  have HP := Lib.hid hP
  have HB := Lib.hid hb
  have HL := Lib.hid (fun (k : Nat) (hf : MC.findL L (nmT' ts er) = some k) => MC.find_lt hf)
  clear h hP hb
  cases hf : MC.findL L (nmT' ts er) with
  | none =>
    have hR : scE L xs ts er = (xs, [], flE 6 (nmE ts er)) := by unfold scE; rw [hf]
    rw [hR]
    have FN := Lib.hid (fun w' (hb : Below N w w') => find_any A n cp L (nmT' ts er) w' (HP.out w' hb))
    rw [hf] at FN
    unfold fndV at FN
    have FL := Lib.hid (fun (w' : World) (ts' : List Tk) (hs : SP (fun k => g ≤ k) w' g ts' (nmE ts er)) => failU 6 (by decide) hs)
    clear hf hR HL
    generalize nmT' ts er = m at *
    generalize nmE ts er = e1 at *
    go_enter Tryd.func52, Tryd.ntmps52
    go_wp2_with fail
    refine NM.out.mono ?_
    rintro q1 w1 ⟨rfl, hs1, hg1⟩
    have S1 := Lib.hid hs1
    have B1 := Lib.hid ((Mv.refl N g B w).grown hg1 hN hNw)
    have BB1 := Lib.hid (bb_grown HB.out hg1 hgB)
    clear hs1 hg1 NM HB
    go_wp2_with fail
    refine (FN.out _ B1.out.below).mono ?_
    rintro q2 w2 ⟨rfl, hb2⟩
    have S2 := Lib.hid (S1.out.keep hb2)
    have B2 := Lib.hid (B1.out.quiet hb2 hNw)
    have BB2 := Lib.hid (BB1.out.keep hb2 BB1.out.lt)
    clear hb2 S1 B1 BB1 FN
    go_wp2_with fail
    refine (FL.out _ _ S2.out).mono ?_
    rintro q3 w3 ⟨rfl, hs3, hg3⟩
    have G : Hid (Scd N g B (xs, [], flE 6 e1) w (.returned (.tuple #[])) w3) := Lib.hid ⟨rfl, hs3, bb_grown BB2.out hg3 hgB, B2.out.grown hg3 hN hNw⟩
    clear hs3 hg3
    go_wp2
    go_end0
    exact G.out
  | some k =>
    have hk6 : k < 6 := Nat.lt_of_lt_of_le (HL.out k hf) hL6
    have FN := Lib.hid (fun w' (hb : Below N w w') => find_any A n cp L (nmT' ts er) w' (HP.out w' hb))
    rw [hf] at FN
    unfold fndV at FN
    have hx0 := hxs k
    by_cases hz : MB.at_ xs k ≠ 0
    · have hR : scE L xs ts er = (xs, [], flE 7 (nmE ts er)) := by unfold scE; rw [hf]; simp only; rw [if_pos hz]
      rw [hR]
      have FL := Lib.hid (fun (w' : World) (ts' : List Tk) (hs : SP (fun k => g ≤ k) w' g ts' (nmE ts er)) => failU 7 (by decide) hs)
      have hd : decide (0 < MB.at_ xs k) = true := decide_eq_true (by omega)
      clear hf hR HL hz hx0 hxs
      generalize nmT' ts er = m at *
      generalize nmE ts er = e1 at *
      go_enter Tryd.func52, Tryd.ntmps52
      go_wp2_with fail
      refine NM.out.mono ?_
      rintro q1 w1 ⟨rfl, hs1, hg1⟩
      have S1 := Lib.hid hs1
      have B1 := Lib.hid ((Mv.refl N g B w).grown hg1 hN hNw)
      have BB1 := Lib.hid (bb_grown HB.out hg1 hgB)
      clear hs1 hg1 NM HB
      go_wp2_with fail
      refine (FN.out _ B1.out.below).mono ?_
      rintro q2 w2 ⟨rfl, hb2⟩
      have S2 := Lib.hid (S1.out.keep hb2)
      have B2 := Lib.hid (B1.out.quiet hb2 hNw)
      have BB2 := Lib.hid (BB1.out.keep hb2 BB1.out.lt)
      have c1 := BB2.out.cell hk6
      clear hb2 S1 B1 BB1 FN
      generalize MB.at_ xs k = y at *
      go_wp2_with fail
      refine (FL.out _ _ S2.out).mono ?_
      rintro q3 w3 ⟨rfl, hs3, hg3⟩
      have G : Hid (Scd N g B (xs, [], flE 7 e1) w (.returned (.tuple #[])) w3) := Lib.hid ⟨rfl, hs3, bb_grown BB2.out hg3 hgB, B2.out.grown hg3 hN hNw⟩
      clear hs3 hg3
      go_wp2
      go_end0
      exact G.out
    · have hz0 : MB.at_ xs k = 0 := by omega
      obtain ⟨e1, he1⟩ : ∃ e1, e1 = nmE ts er := ⟨_, rfl⟩
      obtain ⟨ts1, hts1⟩ : ∃ ts1, ts1 = if e1 = 0 then ts.drop 1 else [] := ⟨_, rfl⟩
      obtain ⟨e2, he2⟩ : ∃ e2, e2 = expE 58 ts1 e1 := ⟨_, rfl⟩
      obtain ⟨ts2, hts2⟩ : ∃ ts2, ts2 = if e2 = 0 then ts1.drop 1 else [] := ⟨_, rfl⟩
      obtain ⟨e3, he3⟩ : ∃ e3, e3 = amE ts2 e2 := ⟨_, rfl⟩
      obtain ⟨v, hv⟩ : ∃ v, v = amV ts2 e2 := ⟨_, rfl⟩
      obtain ⟨ts3, hts3⟩ : ∃ ts3, ts3 = if e3 = 0 then ts2.drop 1 else [] := ⟨_, rfl⟩
      have hR : scE L xs ts er = if v = 0 then (xs.set k 0, [], flE 4 e3) else (xs.set k v, ts3, e3) := by
        unfold scE; rw [hf]; simp only; rw [if_neg hz, ← he1, ← hts1, ← he2, ← hts2, ← he3, ← hv, ← hts3]
      rw [← he1, ← hts1] at NM
      have EX := Lib.hid (fun (w' : World) (hs : SP (fun k => g ≤ k) w' g ts1 e1) => expectU 58 hs)
      rw [← he2, ← hts2] at EX
      have AM0 := fun (w' : World) (hs : SP (fun k => g ≤ k) w' g ts2 e2) => amountU hs
      rw [← he3, ← hv, ← hts3] at AM0
      have FL := Lib.hid (fun (w' : World) (hs : SP (fun k => g ≤ k) w' g ts3 e3) => failU 4 (by decide) hs)
      by_cases hv0 : v = 0
      · subst hv0
        rw [if_pos rfl] at hR
        rw [hR]
        clear hR
        clear hf HL hz hx0 hxs he1 hts1 he2 hts2 he3 hv hts3
        generalize nmT' ts er = m at *
        go_enter Tryd.func52, Tryd.ntmps52
        go_wp2_with fail
        refine NM.out.mono ?_
        rintro q1 w1 ⟨rfl, hs1, hg1⟩
        have S1 := Lib.hid hs1
        have B1 := Lib.hid ((Mv.refl N g B w).grown hg1 hN hNw)
        have BB1 := Lib.hid (bb_grown HB.out hg1 hgB)
        clear hs1 hg1 NM HB
        go_wp2_with fail
        refine (FN.out _ B1.out.below).mono ?_
        rintro q2 w2 ⟨rfl, hb2⟩
        have S2 := Lib.hid (S1.out.keep hb2)
        have B2 := Lib.hid (B1.out.quiet hb2 hNw)
        have BB2 := Lib.hid (BB1.out.keep hb2 BB1.out.lt)
        have c1 := BB2.out.cell hk6
        rw [hz0] at c1
        clear hb2 S1 B1 BB1 FN
        go_wp2_with fail
        refine (EX.out _ S2.out).mono ?_
        rintro q3 w3 ⟨rfl, hs3, hg3⟩
        have AM := Lib.hid (fun (w' : World) (hw : w' = w3.drew) => AM0 w' (by rw [hw]; exact hs3.keep (below_drawn w3)))
        have BB3 := Lib.hid ((bb_grown BB2.out hg3 hgB).drew)
        have B3 := Lib.hid ((B2.out.grown hg3 hN hNw).drew)
        clear hs3 hg3 S2 B2 BB2 EX c1 AM0
        have hk6' : (k : Int) < 6 := by omega
        go_wp2_with fail
        refine wp_region_held_drew (S := fun w' => True) (by kernel_rfl) trivial (fun hHeld => ?_)
        refine wpAnyH_take (i := 0) (oi := { dst := some 31, op := Op.move (Operand.tmp 2), type := 82, pos := "text.go:70", after := #[], guard := none }) (v := ?_) rfl (by kernel_rfl) (by kernel_rfl) (by kernel_rfl) (fun _ _ _ h => h) (Or.inl ⟨by rfl, ?_⟩) (by assumption) ?_
        rotate_left
        · intro w hSw; (try dsimp only at hSw); go_simp; try with_reducible rfl
        (try simp only [Act.put, List.setIfInBounds_toArray, List.set_cons_zero, List.set_cons_succ])
        refine wpAnyH_take (i := 1) (oi := { dst := some 32, op := Op.move (Operand.tmp 6), type := 3, pos := "text.go:70", after := #[], guard := none }) (v := ?_) rfl (by kernel_rfl) (by kernel_rfl) (by kernel_rfl) (fun _ _ _ h => h) (Or.inl ⟨by rfl, ?_⟩) (by assumption) ?_
        rotate_left
        · intro w hSw; (try dsimp only at hSw); go_simp; try with_reducible rfl
        (try simp only [Act.put, List.setIfInBounds_toArray, List.set_cons_zero, List.set_cons_succ])
        refine wpAnyH_take (i := 2) (oi := { dst := some 33, op := Op.move (Operand.tmp 1), type := 50, pos := "text.go:70", after := #[], guard := none }) (v := ?_) rfl (by kernel_rfl) (by kernel_rfl) (by kernel_rfl) (fun _ _ _ h => h) (Or.inl ⟨by rfl, ?_⟩) (by assumption) ?_
        rotate_left
        · intro w hSw; (try dsimp only at hSw); go_simp; try with_reducible rfl
        (try simp only [Act.put, List.setIfInBounds_toArray, List.set_cons_zero, List.set_cons_succ])
        refine wpAnyH_take (i := 4) (oi := { dst := some 35, op := Op.nilCheck (Operand.tmp 31), type := 0, pos := "text.go:70", after := #[{ on := 0, ground := Ground.data }], guard := none }) (v := ?_) rfl (by kernel_rfl) (by kernel_rfl) (by kernel_rfl) (fun _ _ _ h => h) (Or.inl ⟨by rfl, ?_⟩) (by assumption) ?_
        rotate_left
        · intro w hSw; (try dsimp only at hSw); go_simp; try with_reducible rfl
        (try simp only [Act.put, List.setIfInBounds_toArray, List.set_cons_zero, List.set_cons_succ])
        refine wpAnyH_ready (rs := [3]) (by kernel_rfl) (by simp) ?_
        refine AllReadyH.cons (o := { dst := some 34, op := Op.call { callee := Callee.value (Operand.func 77), args := #[Operand.tmp 33, Operand.const (Value.int IntKind.i64 4)], argTypes := #[50, 2] }, type := 2, pos := "text.go:70", after := #[{ on := 2, ground := Ground.data }], guard := none }) rfl (fun K hK => ?_) AllReadyH.nil
        go_simp
        refine (AM.out _ rfl).mono ?_
        rintro e4 w4 ⟨rfl, hs4, hg4⟩
        have bb4 := bb_grown BB3.out hg4 hgB
        have S4 := Lib.hid hs4
        have BB4 := Lib.hid bb4
        have B4 := Lib.hid (B3.out.grown hg4 hN hNw)
        have c9 := bb4.cell hk6
        have g9 := bb4.free k
        have z9 := bb4.lt
        clear hs4 hg4 bb4
        refine hK.out _ _ ?_ (fun hHeld => ?_)
        · exact trivial
        clear hK K
        (try simp only [Act.put, List.setIfInBounds_toArray, List.set_cons_zero, List.set_cons_succ])
        refine wpAnyH_take (i := 5) (oi := { dst := some 36, op := Op.indexAddr 29 (Operand.tmp 35) (Operand.tmp 32), type := 0, pos := "text.go:70", after := #[{ on := 4, ground := Ground.data }, { on := 1, ground := Ground.data }, { on := 0, ground := Ground.phase }, { on := 1, ground := Ground.phase }, { on := 2, ground := Ground.phase }, { on := 3, ground := Ground.phase }], guard := none }) (v := ?_) rfl (by kernel_rfl) (by kernel_rfl) (by kernel_rfl) (fun _ _ _ h => h) (Or.inl ⟨by rfl, ?_⟩) (by assumption) ?_
        rotate_left
        · intro w hSw; (try dsimp only at hSw); go_simp; try with_reducible rfl
        (try simp only [Act.put, List.setIfInBounds_toArray, List.set_cons_zero, List.set_cons_succ])
        refine wpAnyH_ready (rs := [6]) (by kernel_rfl) (by simp) ?_
        refine AllReadyH.cons (o := { dst := none, op := Op.store 3 (Operand.tmp 36) (Operand.tmp 34), type := 0, pos := "text.go:70", after := #[{ on := 5, ground := Ground.data }, { on := 3, ground := Ground.data }, { on := 3, ground := Ground.chain }, { on := 0, ground := Ground.phase }, { on := 1, ground := Ground.phase }, { on := 2, ground := Ground.phase }, { on := 3, ground := Ground.phase }], guard := none }) rfl (fun K hK => ?_) AllReadyH.nil
        go_simp
        refine hK.out _ _ ?_ (fun hHeld => ?_)
        · exact trivial
        clear hK K
        (try simp only [Act.put, List.setIfInBounds_toArray, List.set_cons_zero, List.set_cons_succ])
        refine wpAnyH_done (by kernel_rfl) ?_ _
        go_wp2_with fail
        have BB5 := Lib.hid (BB4.out.set k 0)
        have S5 := Lib.hid (S4.out.poke (q := B) (Nat.le_of_lt hgB) (Nat.ne_of_lt hgB) k (.int .i64 0))
        have B5 := Lib.hid (B4.out.poke (Nat.le_of_lt (Nat.lt_of_le_of_lt hN hgB)) k (.int .i64 0))
        generalize w4.setCell ⟨B, k, none⟩ (.int .i64 0) = w5 at *
        clear BB4 S4 B4 c9 g9 z9
        have c10 := BB5.out.cell hk6
        rw [at_set_same _ (by rw [BB3.out.2]; exact hk6)] at c10
        go_wp2_with fail
        refine (FL.out _ S5.out).mono ?_
        rintro q6 w6 ⟨rfl, hs6, hg6⟩
        have G : Hid (Scd N g B (xs.set k 0, [], flE 4 e3) w (.returned (.tuple #[])) w6) := Lib.hid ⟨rfl, hs6, bb_grown BB5.out hg6 hgB, B5.out.grown hg6 hN hNw⟩
        clear hs6 hg6
        go_wp2
        go_end0
        exact G.out
      · rw [if_neg hv0] at hR
        rw [hR]
        have hvb : ((v : Int) == 0) = false := beq_eq_false_iff_ne.2 hv0
        clear hR hv0
        clear hf HL hz hx0 hxs he1 hts1 he2 hts2 he3 hv hts3
        generalize nmT' ts er = m at *
        go_enter Tryd.func52, Tryd.ntmps52
        go_wp2_with fail
        refine NM.out.mono ?_
        rintro q1 w1 ⟨rfl, hs1, hg1⟩
        have S1 := Lib.hid hs1
        have B1 := Lib.hid ((Mv.refl N g B w).grown hg1 hN hNw)
        have BB1 := Lib.hid (bb_grown HB.out hg1 hgB)
        clear hs1 hg1 NM HB
        go_wp2_with fail
        refine (FN.out _ B1.out.below).mono ?_
        rintro q2 w2 ⟨rfl, hb2⟩
        have S2 := Lib.hid (S1.out.keep hb2)
        have B2 := Lib.hid (B1.out.quiet hb2 hNw)
        have BB2 := Lib.hid (BB1.out.keep hb2 BB1.out.lt)
        have c1 := BB2.out.cell hk6
        rw [hz0] at c1
        clear hb2 S1 B1 BB1 FN
        go_wp2_with fail
        refine (EX.out _ S2.out).mono ?_
        rintro q3 w3 ⟨rfl, hs3, hg3⟩
        have AM := Lib.hid (fun (w' : World) (hw : w' = w3.drew) => AM0 w' (by rw [hw]; exact hs3.keep (below_drawn w3)))
        have BB3 := Lib.hid ((bb_grown BB2.out hg3 hgB).drew)
        have B3 := Lib.hid ((B2.out.grown hg3 hN hNw).drew)
        clear hs3 hg3 S2 B2 BB2 EX c1 AM0
        have hk6' : (k : Int) < 6 := by omega
        go_wp2_with fail
        refine wp_region_held_drew (S := fun w' => True) (by kernel_rfl) trivial (fun hHeld => ?_)
        refine wpAnyH_take (i := 0) (oi := { dst := some 31, op := Op.move (Operand.tmp 2), type := 82, pos := "text.go:70", after := #[], guard := none }) (v := ?_) rfl (by kernel_rfl) (by kernel_rfl) (by kernel_rfl) (fun _ _ _ h => h) (Or.inl ⟨by rfl, ?_⟩) (by assumption) ?_
        rotate_left
        · intro w hSw; (try dsimp only at hSw); go_simp; try with_reducible rfl
        (try simp only [Act.put, List.setIfInBounds_toArray, List.set_cons_zero, List.set_cons_succ])
        refine wpAnyH_take (i := 1) (oi := { dst := some 32, op := Op.move (Operand.tmp 6), type := 3, pos := "text.go:70", after := #[], guard := none }) (v := ?_) rfl (by kernel_rfl) (by kernel_rfl) (by kernel_rfl) (fun _ _ _ h => h) (Or.inl ⟨by rfl, ?_⟩) (by assumption) ?_
        rotate_left
        · intro w hSw; (try dsimp only at hSw); go_simp; try with_reducible rfl
        (try simp only [Act.put, List.setIfInBounds_toArray, List.set_cons_zero, List.set_cons_succ])
        refine wpAnyH_take (i := 2) (oi := { dst := some 33, op := Op.move (Operand.tmp 1), type := 50, pos := "text.go:70", after := #[], guard := none }) (v := ?_) rfl (by kernel_rfl) (by kernel_rfl) (by kernel_rfl) (fun _ _ _ h => h) (Or.inl ⟨by rfl, ?_⟩) (by assumption) ?_
        rotate_left
        · intro w hSw; (try dsimp only at hSw); go_simp; try with_reducible rfl
        (try simp only [Act.put, List.setIfInBounds_toArray, List.set_cons_zero, List.set_cons_succ])
        refine wpAnyH_take (i := 4) (oi := { dst := some 35, op := Op.nilCheck (Operand.tmp 31), type := 0, pos := "text.go:70", after := #[{ on := 0, ground := Ground.data }], guard := none }) (v := ?_) rfl (by kernel_rfl) (by kernel_rfl) (by kernel_rfl) (fun _ _ _ h => h) (Or.inl ⟨by rfl, ?_⟩) (by assumption) ?_
        rotate_left
        · intro w hSw; (try dsimp only at hSw); go_simp; try with_reducible rfl
        (try simp only [Act.put, List.setIfInBounds_toArray, List.set_cons_zero, List.set_cons_succ])
        refine wpAnyH_ready (rs := [3]) (by kernel_rfl) (by simp) ?_
        refine AllReadyH.cons (o := { dst := some 34, op := Op.call { callee := Callee.value (Operand.func 77), args := #[Operand.tmp 33, Operand.const (Value.int IntKind.i64 4)], argTypes := #[50, 2] }, type := 2, pos := "text.go:70", after := #[{ on := 2, ground := Ground.data }], guard := none }) rfl (fun K hK => ?_) AllReadyH.nil
        go_simp
        refine (AM.out _ rfl).mono ?_
        rintro e4 w4 ⟨rfl, hs4, hg4⟩
        have bb4 := bb_grown BB3.out hg4 hgB
        have S4 := Lib.hid hs4
        have BB4 := Lib.hid bb4
        have B4 := Lib.hid (B3.out.grown hg4 hN hNw)
        have c9 := bb4.cell hk6
        have g9 := bb4.free k
        have z9 := bb4.lt
        clear hs4 hg4 bb4
        refine hK.out _ _ ?_ (fun hHeld => ?_)
        · exact trivial
        clear hK K
        (try simp only [Act.put, List.setIfInBounds_toArray, List.set_cons_zero, List.set_cons_succ])
        refine wpAnyH_take (i := 5) (oi := { dst := some 36, op := Op.indexAddr 29 (Operand.tmp 35) (Operand.tmp 32), type := 0, pos := "text.go:70", after := #[{ on := 4, ground := Ground.data }, { on := 1, ground := Ground.data }, { on := 0, ground := Ground.phase }, { on := 1, ground := Ground.phase }, { on := 2, ground := Ground.phase }, { on := 3, ground := Ground.phase }], guard := none }) (v := ?_) rfl (by kernel_rfl) (by kernel_rfl) (by kernel_rfl) (fun _ _ _ h => h) (Or.inl ⟨by rfl, ?_⟩) (by assumption) ?_
        rotate_left
        · intro w hSw; (try dsimp only at hSw); go_simp; try with_reducible rfl
        (try simp only [Act.put, List.setIfInBounds_toArray, List.set_cons_zero, List.set_cons_succ])
        refine wpAnyH_ready (rs := [6]) (by kernel_rfl) (by simp) ?_
        refine AllReadyH.cons (o := { dst := none, op := Op.store 3 (Operand.tmp 36) (Operand.tmp 34), type := 0, pos := "text.go:70", after := #[{ on := 5, ground := Ground.data }, { on := 3, ground := Ground.data }, { on := 3, ground := Ground.chain }, { on := 0, ground := Ground.phase }, { on := 1, ground := Ground.phase }, { on := 2, ground := Ground.phase }, { on := 3, ground := Ground.phase }], guard := none }) rfl (fun K hK => ?_) AllReadyH.nil
        go_simp
        refine hK.out _ _ ?_ (fun hHeld => ?_)
        · exact trivial
        clear hK K
        (try simp only [Act.put, List.setIfInBounds_toArray, List.set_cons_zero, List.set_cons_succ])
        refine wpAnyH_done (by kernel_rfl) ?_ _
        have G : Hid (Scd N g B (xs.set k v, ts3, e3) w (.returned (.tuple #[])) (w4.setCell ⟨B, k, none⟩ (.int .i64 v))) :=
          Lib.hid ⟨rfl, S4.out.poke (q := B) (Nat.le_of_lt hgB) (Nat.ne_of_lt hgB) k (.int .i64 v), BB4.out.set k v, B4.out.poke (Nat.le_of_lt (Nat.lt_of_le_of_lt hN hgB)) k (.int .i64 v)⟩
        go_wp2_with fail
        go_end0
        exact G.out
end Go.Proofs.YtdlpolnnhhnecaaDoor
