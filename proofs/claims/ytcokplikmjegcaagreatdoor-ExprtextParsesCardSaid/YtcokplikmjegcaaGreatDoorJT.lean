/- CScn, MathX, joined: no claim of its own. -/
import Derived.Test.YtcokplikmjegcaaGreatDoorJS
import Derived.Test.YtcokplikmjegcaaGreatDoorJF
import Derived.Test.YtcokplikmjegcaaGreatDoorJB
import Derived.Deep.RegionHeld3
namespace Go.Proofs.YtcokplikmjegcaaGreatDoor
open Go.RowKit
open MC (Pr)
/-- The bundle, what follows and the error behind one element. -/
def scE (L : List Pr) (xs : List Int) (ts : List Tk) (er : Int) : List Int × List Tk × Int :=
  match MC.findL L (nmT' ts er) with
  | none => (xs, [], flE 6 (nmE ts er))
  | some k => if MB.at_ xs k ≠ 0 then (xs, [], flE 7 (nmE ts er)) else
      let ts1 := if nmE ts er = 0 then ts.drop 1 else []
      let e2 := expE 58 ts1 (nmE ts er)
      let ts2 := if e2 = 0 then ts1.drop 1 else []
      let e3 := amE ts2 e2
      let v := amV ts2 e2
      if v = 0 then (xs.set k 0, [], flE 4 e3) else (xs.set k v, if e3 = 0 then ts2.drop 1 else [], e3)
theorem bb_grown {w w' : World} {g B : Nat} {T : TypeId} {xs : List Int} (h : BB w B T xs) (hg : w.grownBy w' (some g)) (hgB : g < B) : BB w' B T xs :=
  ⟨(hg.block B h.lt (fun e => by injection e with e; omega)).trans h.1, h.2⟩
/-- Nothing has turned but the scanner and the bundle. -/
structure Mv (N g B : Nat) (w w' : World) : Prop where
  below : Below N w w'
  rest : ∀ k, k < w.heap.size → k ≠ g → k ≠ B → w'.heap[k]? = w.heap[k]?
theorem Mv.refl (N g B : Nat) (w : World) : Mv N g B w w := ⟨Below.refl _ _, fun _ _ _ _ => rfl⟩
theorem Mv.grown {N g B : Nat} {w w1 w2 : World} (h : Mv N g B w w1) (hg : w1.grownBy w2 (some g)) (hN : N ≤ g) (hNw : N ≤ w.heap.size) : Mv N g B w w2 :=
  ⟨h.below.trans (grown_below hg hN (Nat.le_trans hNw h.below.size)), fun k h1 h2 h3 => (hg.block k (Nat.lt_of_lt_of_le h1 h.below.size) (fun e => by injection e with e; exact h2 e)).trans (h.rest k h1 h2 h3)⟩
theorem Mv.quiet {N g B : Nat} {w w1 w2 : World} (h : Mv N g B w w1) (hb : Below w1.heap.size w1 w2) (hNw : N ≤ w.heap.size) : Mv N g B w w2 :=
  ⟨h.below.trans (hb.mono (Nat.le_trans hNw h.below.size)), fun k h1 h2 h3 => (hb.block k (Nat.lt_of_lt_of_le h1 h.below.size)).trans (h.rest k h1 h2 h3)⟩
theorem Mv.poke {N g B : Nat} {w w1 : World} (h : Mv N g B w w1) (hB : N ≤ B) (i : Nat) (u : Value) : Mv N g B w (w1.setCell ⟨B, i, none⟩ u) :=
  ⟨h.below.setCell (p := ⟨B, i, none⟩) hB u, fun k h1 h2 h3 => by rw [heap_setCell_other w1 _ k u h3]; exact h.rest k h1 h2 h3⟩
theorem Mv.drew {N g B : Nat} {w w1 : World} (h : Mv N g B w w1) : Mv N g B w w1.drew := ⟨h.below.drew, h.rest⟩
theorem Mv.trans {N g B : Nat} {w w1 w2 : World} (h : Mv N g B w w1) (h' : Mv N g B w1 w2) : Mv N g B w w2 :=
  ⟨h.below.trans h'.below, fun k h1 h2 h3 => (h'.rest k (Nat.lt_of_lt_of_le h1 h.below.size) h2 h3).trans (h.rest k h1 h2 h3)⟩
/-- What one element does. -/
def Scd (N g B : Nat) (R : List Int × List Tk × Int) (w : World) (e : Ending) (w' : World) : Prop :=
  e = .returned (.tuple #[]) ∧ SP (fun k => g ≤ k) w' g R.2.1 R.2.2 ∧ BB w' B 24 R.1 ∧ Mv N g B w w'
set_option maxRecDepth 100000 in
set_option maxHeartbeats 8000000 in
theorem scanEl_any (A : Option Addr) (n cp : Nat) (L : List Pr) (hL6 : L.length ≤ 6) (N g B : Nat) (xs : List Int) (ts : List Tk) (er : Int) (w : World) (h : SP (fun k => g ≤ k) w g ts er) (hb : BB w B 24 xs) (hgB : g < B) (hN : N ≤ g) (hNw : N ≤ w.heap.size)
    (hP : ∀ w', Below N w w' → Prs w' A n cp L) (hxs : ∀ k, 0 ≤ MB.at_ xs k) :
    Calls Tryz.prog 115 #[.slice A n cp, .pointer (some ⟨g, 0, none⟩), .pointer (some ⟨B, 0, none⟩)] w (Scd N g B (scE L xs ts er) w) := by
  have NM := Lib.hid (nameU h)
  have HP := Lib.hid hP
  have HB := Lib.hid hb
  have HL := Lib.hid (fun (k : Nat) (hf : MC.findL L (nmT' ts er) = some k) => MC.find_lt hf)
  clear h hP hb
  cases hf : MC.findL L (nmT' ts er) with
  | none =>
    have hR : scE L xs ts er = (xs, [], flE 6 (nmE ts er)) := by unfold scE; rw [hf]
    rw [hR]
    have FN := Lib.hid (fun w' (hb : Below N w w') => find_any A n cp L (nmT' ts er) w' (HP.out w' hb))
    rw [hf] at FN
    unfold fndV at FN
    have FL := Lib.hid (fun (w' : World) (ts' : List Tk) (hs : SP (fun k => g ≤ k) w' g ts' (nmE ts er)) => failU 6 (by decide) hs)
    clear hf hR HL
    generalize nmT' ts er = m at *
    generalize nmE ts er = e1 at *
    go_enter Tryz.func115, Tryz.ntmps115
    go_wp2_with fail
    refine NM.out.mono ?_
    rintro q1 w1 ⟨rfl, hs1, hg1⟩
    have S1 := Lib.hid hs1
    have B1 := Lib.hid ((Mv.refl N g B w).grown hg1 hN hNw)
    have BB1 := Lib.hid (bb_grown HB.out hg1 hgB)
    clear hs1 hg1 NM HB
    go_wp2_with fail
    refine (FN.out _ B1.out.below).mono ?_
    rintro q2 w2 ⟨rfl, hb2⟩
    have S2 := Lib.hid (S1.out.keep hb2)
    have B2 := Lib.hid (B1.out.quiet hb2 hNw)
    have BB2 := Lib.hid (BB1.out.keep hb2 BB1.out.lt)
    clear hb2 S1 B1 BB1 FN
    go_wp2_with fail
    refine (FL.out _ _ S2.out).mono ?_
    rintro q3 w3 ⟨rfl, hs3, hg3⟩
    have G : Hid (Scd N g B (xs, [], flE 6 e1) w (.returned (.tuple #[])) w3) := Lib.hid ⟨rfl, hs3, bb_grown BB2.out hg3 hgB, B2.out.grown hg3 hN hNw⟩
    clear hs3 hg3
    go_wp2
    go_end0
    exact G.out
  | some k =>
    have hk6 : k < 6 := Nat.lt_of_lt_of_le (HL.out k hf) hL6
    have FN := Lib.hid (fun w' (hb : Below N w w') => find_any A n cp L (nmT' ts er) w' (HP.out w' hb))
    rw [hf] at FN
    unfold fndV at FN
    have hx0 := hxs k
    by_cases hz : MB.at_ xs k ≠ 0
    · have hR : scE L xs ts er = (xs, [], flE 7 (nmE ts er)) := by unfold scE; rw [hf]; simp only; rw [if_pos hz]
      rw [hR]
      have FL := Lib.hid (fun (w' : World) (ts' : List Tk) (hs : SP (fun k => g ≤ k) w' g ts' (nmE ts er)) => failU 7 (by decide) hs)
      have hd : decide (0 < MB.at_ xs k) = true := decide_eq_true (by omega)
      clear hf hR HL hz hx0 hxs
      generalize nmT' ts er = m at *
      generalize nmE ts er = e1 at *
      go_enter Tryz.func115, Tryz.ntmps115
      go_wp2_with fail
      refine NM.out.mono ?_
      rintro q1 w1 ⟨rfl, hs1, hg1⟩
      have S1 := Lib.hid hs1
      have B1 := Lib.hid ((Mv.refl N g B w).grown hg1 hN hNw)
      have BB1 := Lib.hid (bb_grown HB.out hg1 hgB)
      clear hs1 hg1 NM HB
      go_wp2_with fail
      refine (FN.out _ B1.out.below).mono ?_
      rintro q2 w2 ⟨rfl, hb2⟩
      have S2 := Lib.hid (S1.out.keep hb2)
      have B2 := Lib.hid (B1.out.quiet hb2 hNw)
      have BB2 := Lib.hid (BB1.out.keep hb2 BB1.out.lt)
      have c1 := BB2.out.cell hk6
      clear hb2 S1 B1 BB1 FN
      generalize MB.at_ xs k = y at *
      go_wp2_with fail
      refine (FL.out _ _ S2.out).mono ?_
      rintro q3 w3 ⟨rfl, hs3, hg3⟩
      have G : Hid (Scd N g B (xs, [], flE 7 e1) w (.returned (.tuple #[])) w3) := Lib.hid ⟨rfl, hs3, bb_grown BB2.out hg3 hgB, B2.out.grown hg3 hN hNw⟩
      clear hs3 hg3
      go_wp2
      go_end0
      exact G.out
    · have hz0 : MB.at_ xs k = 0 := by omega
      obtain ⟨e1, he1⟩ : ∃ e1, e1 = nmE ts er := ⟨_, rfl⟩
      obtain ⟨ts1, hts1⟩ : ∃ ts1, ts1 = if e1 = 0 then ts.drop 1 else [] := ⟨_, rfl⟩
      obtain ⟨e2, he2⟩ : ∃ e2, e2 = expE 58 ts1 e1 := ⟨_, rfl⟩
      obtain ⟨ts2, hts2⟩ : ∃ ts2, ts2 = if e2 = 0 then ts1.drop 1 else [] := ⟨_, rfl⟩
      obtain ⟨e3, he3⟩ : ∃ e3, e3 = amE ts2 e2 := ⟨_, rfl⟩
      obtain ⟨v, hv⟩ : ∃ v, v = amV ts2 e2 := ⟨_, rfl⟩
      obtain ⟨ts3, hts3⟩ : ∃ ts3, ts3 = if e3 = 0 then ts2.drop 1 else [] := ⟨_, rfl⟩
      have hR : scE L xs ts er = if v = 0 then (xs.set k 0, [], flE 4 e3) else (xs.set k v, ts3, e3) := by
        unfold scE; rw [hf]; simp only; rw [if_neg hz, ← he1, ← hts1, ← he2, ← hts2, ← he3, ← hv, ← hts3]
      rw [← he1, ← hts1] at NM
      have EX := Lib.hid (fun (w' : World) (hs : SP (fun k => g ≤ k) w' g ts1 e1) => expectU 58 hs)
      rw [← he2, ← hts2] at EX
      have AM0 := fun (w' : World) (hs : SP (fun k => g ≤ k) w' g ts2 e2) => amountU hs
      rw [← he3, ← hv, ← hts3] at AM0
      have FL := Lib.hid (fun (w' : World) (hs : SP (fun k => g ≤ k) w' g ts3 e3) => failU 4 (by decide) hs)
      by_cases hv0 : v = 0
      · subst hv0
        rw [if_pos rfl] at hR
        rw [hR]
        clear hR
        clear hf HL hz hx0 hxs he1 hts1 he2 hts2 he3 hv hts3
        generalize nmT' ts er = m at *
        go_enter Tryz.func115, Tryz.ntmps115
        go_wp2_with fail
        refine NM.out.mono ?_
        rintro q1 w1 ⟨rfl, hs1, hg1⟩
        have S1 := Lib.hid hs1
        have B1 := Lib.hid ((Mv.refl N g B w).grown hg1 hN hNw)
        have BB1 := Lib.hid (bb_grown HB.out hg1 hgB)
        clear hs1 hg1 NM HB
        go_wp2_with fail
        refine (FN.out _ B1.out.below).mono ?_
        rintro q2 w2 ⟨rfl, hb2⟩
        have S2 := Lib.hid (S1.out.keep hb2)
        have B2 := Lib.hid (B1.out.quiet hb2 hNw)
        have BB2 := Lib.hid (BB1.out.keep hb2 BB1.out.lt)
        have c1 := BB2.out.cell hk6
        rw [hz0] at c1
        clear hb2 S1 B1 BB1 FN
        go_wp2_with fail
        refine (EX.out _ S2.out).mono ?_
        rintro q3 w3 ⟨rfl, hs3, hg3⟩
        have AM := Lib.hid (fun (w' : World) (hw : w' = w3.drew) => AM0 w' (by rw [hw]; exact hs3.keep (below_drawn w3)))
        have BB3 := Lib.hid ((bb_grown BB2.out hg3 hgB).drew)
        have B3 := Lib.hid ((B2.out.grown hg3 hN hNw).drew)
        clear hs3 hg3 S2 B2 BB2 EX c1 AM0
        have hk6' : (k : Int) < 6 := by omega
        go_wp2_with fail
        refine wp_region_held_drew (S := fun w' => True) (by kernel_rfl) trivial (fun hHeld => ?_)
        refine wpAnyH_take (i := 0) (oi := { dst := some 31, op := Op.move (Operand.tmp 2), type := 140, pos := "text.go:70", after := #[], guard := none }) (v := ?_) rfl (by kernel_rfl) (by kernel_rfl) (by kernel_rfl) (fun _ _ _ h => h) (Or.inl ⟨by rfl, ?_⟩) (by assumption) ?_
        rotate_left
        · intro w hSw; (try dsimp only at hSw); go_simp; try with_reducible rfl
        (try simp only [Act.put, List.setIfInBounds_toArray, List.set_cons_zero, List.set_cons_succ])
        refine wpAnyH_take (i := 1) (oi := { dst := some 32, op := Op.move (Operand.tmp 6), type := 3, pos := "text.go:70", after := #[], guard := none }) (v := ?_) rfl (by kernel_rfl) (by kernel_rfl) (by kernel_rfl) (fun _ _ _ h => h) (Or.inl ⟨by rfl, ?_⟩) (by assumption) ?_
        rotate_left
        · intro w hSw; (try dsimp only at hSw); go_simp; try with_reducible rfl
        (try simp only [Act.put, List.setIfInBounds_toArray, List.set_cons_zero, List.set_cons_succ])
        refine wpAnyH_take (i := 2) (oi := { dst := some 33, op := Op.move (Operand.tmp 1), type := 57, pos := "text.go:70", after := #[], guard := none }) (v := ?_) rfl (by kernel_rfl) (by kernel_rfl) (by kernel_rfl) (fun _ _ _ h => h) (Or.inl ⟨by rfl, ?_⟩) (by assumption) ?_
        rotate_left
        · intro w hSw; (try dsimp only at hSw); go_simp; try with_reducible rfl
        (try simp only [Act.put, List.setIfInBounds_toArray, List.set_cons_zero, List.set_cons_succ])
        refine wpAnyH_take (i := 4) (oi := { dst := some 35, op := Op.nilCheck (Operand.tmp 31), type := 0, pos := "text.go:70", after := #[{ on := 0, ground := Ground.data }], guard := none }) (v := ?_) rfl (by kernel_rfl) (by kernel_rfl) (by kernel_rfl) (fun _ _ _ h => h) (Or.inl ⟨by rfl, ?_⟩) (by assumption) ?_
        rotate_left
        · intro w hSw; (try dsimp only at hSw); go_simp; try with_reducible rfl
        (try simp only [Act.put, List.setIfInBounds_toArray, List.set_cons_zero, List.set_cons_succ])
        refine wpAnyH_ready (rs := [3]) (by kernel_rfl) (by simp) ?_
        refine AllReadyH.cons (o := { dst := some 34, op := Op.call { callee := Callee.value (Operand.func 98), args := #[Operand.tmp 33, Operand.const (Value.int IntKind.i64 4)], argTypes := #[57, 2] }, type := 2, pos := "text.go:70", after := #[{ on := 2, ground := Ground.data }], guard := none }) rfl (fun K hK => ?_) AllReadyH.nil
        go_simp
        refine (AM.out _ rfl).mono ?_
        rintro e4 w4 ⟨rfl, hs4, hg4⟩
        have bb4 := bb_grown BB3.out hg4 hgB
        have S4 := Lib.hid hs4
        have BB4 := Lib.hid bb4
        have B4 := Lib.hid (B3.out.grown hg4 hN hNw)
        have c9 := bb4.cell hk6
        have g9 := bb4.free k
        have z9 := bb4.lt
        clear hs4 hg4 bb4
        refine hK.out _ _ ?_ (fun hHeld => ?_)
        · exact trivial
        clear hK K
        (try simp only [Act.put, List.setIfInBounds_toArray, List.set_cons_zero, List.set_cons_succ])
        refine wpAnyH_take (i := 5) (oi := { dst := some 36, op := Op.indexAddr 24 (Operand.tmp 35) (Operand.tmp 32), type := 0, pos := "text.go:70", after := #[{ on := 4, ground := Ground.data }, { on := 1, ground := Ground.data }, { on := 0, ground := Ground.phase }, { on := 1, ground := Ground.phase }, { on := 2, ground := Ground.phase }, { on := 3, ground := Ground.phase }], guard := none }) (v := ?_) rfl (by kernel_rfl) (by kernel_rfl) (by kernel_rfl) (fun _ _ _ h => h) (Or.inl ⟨by rfl, ?_⟩) (by assumption) ?_
        rotate_left
        · intro w hSw; (try dsimp only at hSw); go_simp; try with_reducible rfl
        (try simp only [Act.put, List.setIfInBounds_toArray, List.set_cons_zero, List.set_cons_succ])
        refine wpAnyH_ready (rs := [6]) (by kernel_rfl) (by simp) ?_
        refine AllReadyH.cons (o := { dst := none, op := Op.store 3 (Operand.tmp 36) (Operand.tmp 34), type := 0, pos := "text.go:70", after := #[{ on := 5, ground := Ground.data }, { on := 3, ground := Ground.data }, { on := 3, ground := Ground.chain }, { on := 0, ground := Ground.phase }, { on := 1, ground := Ground.phase }, { on := 2, ground := Ground.phase }, { on := 3, ground := Ground.phase }], guard := none }) rfl (fun K hK => ?_) AllReadyH.nil
        go_simp
        refine hK.out _ _ ?_ (fun hHeld => ?_)
        · exact trivial
        clear hK K
        (try simp only [Act.put, List.setIfInBounds_toArray, List.set_cons_zero, List.set_cons_succ])
        refine wpAnyH_done (by kernel_rfl) ?_ _
        go_wp2_with fail
        have BB5 := Lib.hid (BB4.out.set k 0)
        have S5 := Lib.hid (S4.out.poke (q := B) (Nat.le_of_lt hgB) (Nat.ne_of_lt hgB) k (.int .i64 0))
        have B5 := Lib.hid (B4.out.poke (Nat.le_of_lt (Nat.lt_of_le_of_lt hN hgB)) k (.int .i64 0))
        generalize w4.setCell ⟨B, k, none⟩ (.int .i64 0) = w5 at *
        clear BB4 S4 B4 c9 g9 z9
        have c10 := BB5.out.cell hk6
        rw [at_set_same _ (by rw [BB3.out.2]; exact hk6)] at c10
        go_wp2_with fail
        refine (FL.out _ S5.out).mono ?_
        rintro q6 w6 ⟨rfl, hs6, hg6⟩
        have G : Hid (Scd N g B (xs.set k 0, [], flE 4 e3) w (.returned (.tuple #[])) w6) := Lib.hid ⟨rfl, hs6, bb_grown BB5.out hg6 hgB, B5.out.grown hg6 hN hNw⟩
        clear hs6 hg6
        go_wp2
        go_end0
        exact G.out
      · rw [if_neg hv0] at hR
        rw [hR]
        have hvb : ((v : Int) == 0) = false := beq_eq_false_iff_ne.2 hv0
        clear hR hv0
        clear hf HL hz hx0 hxs he1 hts1 he2 hts2 he3 hv hts3
        generalize nmT' ts er = m at *
        go_enter Tryz.func115, Tryz.ntmps115
        go_wp2_with fail
        refine NM.out.mono ?_
        rintro q1 w1 ⟨rfl, hs1, hg1⟩
        have S1 := Lib.hid hs1
        have B1 := Lib.hid ((Mv.refl N g B w).grown hg1 hN hNw)
        have BB1 := Lib.hid (bb_grown HB.out hg1 hgB)
        clear hs1 hg1 NM HB
        go_wp2_with fail
        refine (FN.out _ B1.out.below).mono ?_
        rintro q2 w2 ⟨rfl, hb2⟩
        have S2 := Lib.hid (S1.out.keep hb2)
        have B2 := Lib.hid (B1.out.quiet hb2 hNw)
        have BB2 := Lib.hid (BB1.out.keep hb2 BB1.out.lt)
        have c1 := BB2.out.cell hk6
        rw [hz0] at c1
        clear hb2 S1 B1 BB1 FN
        go_wp2_with fail
        refine (EX.out _ S2.out).mono ?_
        rintro q3 w3 ⟨rfl, hs3, hg3⟩
        have AM := Lib.hid (fun (w' : World) (hw : w' = w3.drew) => AM0 w' (by rw [hw]; exact hs3.keep (below_drawn w3)))
        have BB3 := Lib.hid ((bb_grown BB2.out hg3 hgB).drew)
        have B3 := Lib.hid ((B2.out.grown hg3 hN hNw).drew)
        clear hs3 hg3 S2 B2 BB2 EX c1 AM0
        have hk6' : (k : Int) < 6 := by omega
        go_wp2_with fail
        refine wp_region_held_drew (S := fun w' => True) (by kernel_rfl) trivial (fun hHeld => ?_)
        refine wpAnyH_take (i := 0) (oi := { dst := some 31, op := Op.move (Operand.tmp 2), type := 140, pos := "text.go:70", after := #[], guard := none }) (v := ?_) rfl (by kernel_rfl) (by kernel_rfl) (by kernel_rfl) (fun _ _ _ h => h) (Or.inl ⟨by rfl, ?_⟩) (by assumption) ?_
        rotate_left
        · intro w hSw; (try dsimp only at hSw); go_simp; try with_reducible rfl
        (try simp only [Act.put, List.setIfInBounds_toArray, List.set_cons_zero, List.set_cons_succ])
        refine wpAnyH_take (i := 1) (oi := { dst := some 32, op := Op.move (Operand.tmp 6), type := 3, pos := "text.go:70", after := #[], guard := none }) (v := ?_) rfl (by kernel_rfl) (by kernel_rfl) (by kernel_rfl) (fun _ _ _ h => h) (Or.inl ⟨by rfl, ?_⟩) (by assumption) ?_
        rotate_left
        · intro w hSw; (try dsimp only at hSw); go_simp; try with_reducible rfl
        (try simp only [Act.put, List.setIfInBounds_toArray, List.set_cons_zero, List.set_cons_succ])
        refine wpAnyH_take (i := 2) (oi := { dst := some 33, op := Op.move (Operand.tmp 1), type := 57, pos := "text.go:70", after := #[], guard := none }) (v := ?_) rfl (by kernel_rfl) (by kernel_rfl) (by kernel_rfl) (fun _ _ _ h => h) (Or.inl ⟨by rfl, ?_⟩) (by assumption) ?_
        rotate_left
        · intro w hSw; (try dsimp only at hSw); go_simp; try with_reducible rfl
        (try simp only [Act.put, List.setIfInBounds_toArray, List.set_cons_zero, List.set_cons_succ])
        refine wpAnyH_take (i := 4) (oi := { dst := some 35, op := Op.nilCheck (Operand.tmp 31), type := 0, pos := "text.go:70", after := #[{ on := 0, ground := Ground.data }], guard := none }) (v := ?_) rfl (by kernel_rfl) (by kernel_rfl) (by kernel_rfl) (fun _ _ _ h => h) (Or.inl ⟨by rfl, ?_⟩) (by assumption) ?_
        rotate_left
        · intro w hSw; (try dsimp only at hSw); go_simp; try with_reducible rfl
        (try simp only [Act.put, List.setIfInBounds_toArray, List.set_cons_zero, List.set_cons_succ])
        refine wpAnyH_ready (rs := [3]) (by kernel_rfl) (by simp) ?_
        refine AllReadyH.cons (o := { dst := some 34, op := Op.call { callee := Callee.value (Operand.func 98), args := #[Operand.tmp 33, Operand.const (Value.int IntKind.i64 4)], argTypes := #[57, 2] }, type := 2, pos := "text.go:70", after := #[{ on := 2, ground := Ground.data }], guard := none }) rfl (fun K hK => ?_) AllReadyH.nil
        go_simp
        refine (AM.out _ rfl).mono ?_
        rintro e4 w4 ⟨rfl, hs4, hg4⟩
        have bb4 := bb_grown BB3.out hg4 hgB
        have S4 := Lib.hid hs4
        have BB4 := Lib.hid bb4
        have B4 := Lib.hid (B3.out.grown hg4 hN hNw)
        have c9 := bb4.cell hk6
        have g9 := bb4.free k
        have z9 := bb4.lt
        clear hs4 hg4 bb4
        refine hK.out _ _ ?_ (fun hHeld => ?_)
        · exact trivial
        clear hK K
        (try simp only [Act.put, List.setIfInBounds_toArray, List.set_cons_zero, List.set_cons_succ])
        refine wpAnyH_take (i := 5) (oi := { dst := some 36, op := Op.indexAddr 24 (Operand.tmp 35) (Operand.tmp 32), type := 0, pos := "text.go:70", after := #[{ on := 4, ground := Ground.data }, { on := 1, ground := Ground.data }, { on := 0, ground := Ground.phase }, { on := 1, ground := Ground.phase }, { on := 2, ground := Ground.phase }, { on := 3, ground := Ground.phase }], guard := none }) (v := ?_) rfl (by kernel_rfl) (by kernel_rfl) (by kernel_rfl) (fun _ _ _ h => h) (Or.inl ⟨by rfl, ?_⟩) (by assumption) ?_
        rotate_left
        · intro w hSw; (try dsimp only at hSw); go_simp; try with_reducible rfl
        (try simp only [Act.put, List.setIfInBounds_toArray, List.set_cons_zero, List.set_cons_succ])
        refine wpAnyH_ready (rs := [6]) (by kernel_rfl) (by simp) ?_
        refine AllReadyH.cons (o := { dst := none, op := Op.store 3 (Operand.tmp 36) (Operand.tmp 34), type := 0, pos := "text.go:70", after := #[{ on := 5, ground := Ground.data }, { on := 3, ground := Ground.data }, { on := 3, ground := Ground.chain }, { on := 0, ground := Ground.phase }, { on := 1, ground := Ground.phase }, { on := 2, ground := Ground.phase }, { on := 3, ground := Ground.phase }], guard := none }) rfl (fun K hK => ?_) AllReadyH.nil
        go_simp
        refine hK.out _ _ ?_ (fun hHeld => ?_)
        · exact trivial
        clear hK K
        (try simp only [Act.put, List.setIfInBounds_toArray, List.set_cons_zero, List.set_cons_succ])
        refine wpAnyH_done (by kernel_rfl) ?_ _
        have G : Hid (Scd N g B (xs.set k v, ts3, e3) w (.returned (.tuple #[])) (w4.setCell ⟨B, k, none⟩ (.int .i64 v))) :=
          Lib.hid ⟨rfl, S4.out.poke (q := B) (Nat.le_of_lt hgB) (Nat.ne_of_lt hgB) k (.int .i64 v), BB4.out.set k v, B4.out.poke (Nat.le_of_lt (Nat.lt_of_le_of_lt hN hgB)) k (.int .i64 v)⟩
        go_wp2_with fail
        go_end0
        exact G.out
end Go.Proofs.YtcokplikmjegcaaGreatDoor
namespace Go.Proofs.YtcokplikmjegcaaGreatDoor
open MC (Pr)
/-- A list that has no empty name. -/
def NoEmpty (L : List Pr) : Prop := MC.findL L [] = none
theorem no_empty {L : List Pr} (h : MC.Good L) : NoEmpty L := MC.find_none fun p hp e => by
  obtain ⟨j, hj, e2⟩ := List.mem_iff_getElem.1 hp
  have := (h.each j p (by rw [List.getElem?_eq_getElem hj, e2])).1
  rw [e] at this
  cases this
theorem sc_dead {L : List Pr} (hL : NoEmpty L) {xs : List Int} {er : Int} (he : er ≠ 0) (ts : List Tk) : scE L xs ts er = (xs, [], er) := by
  have h1 : nmE ts er = er := by unfold nmE; rw [if_neg he]
  have h2 : nmT' ts er = [] := by unfold nmT'; rw [if_neg (by rw [h1]; exact he)]
  unfold scE
  rw [h2, hL, h1]
  simp only
  unfold flE; rw [if_neg he]
theorem wrong_ne (o : Option Tk) : MC.wrongE o ≠ 0 := by
  cases o with
  | none => show (1 : Int) ≠ 0; decide
  | some _ => show (2 : Int) ≠ 0; decide
/-- The error of one element. -/
theorem sc_err {L : List Pr} (hL : NoEmpty L) {xs : List Int} (ts : List Tk) : (scE L xs ts 0).2.2 = MC.elE3 L xs ts ∧ (MC.elE3 L xs ts ≠ 0 → (scE L xs ts 0).2.1 = []) ∧ (MC.elE3 L xs ts = 0 → scE L xs ts 0 = (MC.elB L xs ts, ts.drop 3, 0)) := by
  cases ts with
  | nil =>
    have h1 : nmE [] 0 = 1 := rfl
    have h2 : nmT' [] 0 = [] := rfl
    have h3 : MC.elE3 L xs [] = 1 := rfl
    have e : scE L xs [] 0 = (xs, [], 1) := by unfold scE; rw [h2, hL, h1]; rfl
    rw [e, h3]
    exact ⟨rfl, fun _ => rfl, fun h => absurd h (by decide)⟩
  | cons t r =>
    by_cases hk : t.kind = 1
    · have h1 : nmE (t :: r) 0 = 0 := by unfold nmE; rw [if_pos rfl]; simp [hk]
      have h2 : nmT' (t :: r) 0 = t.text := by unfold nmT'; rw [if_pos h1]; rfl
      have fin : ∀ (ys : List Int) (x : Int), x ≠ 0 → scE L xs (t :: r) 0 = (ys, [], x) → MC.elE3 L xs (t :: r) = x → (scE L xs (t :: r) 0).2.2 = MC.elE3 L xs (t :: r) ∧ (MC.elE3 L xs (t :: r) ≠ 0 → (scE L xs (t :: r) 0).2.1 = []) ∧ (MC.elE3 L xs (t :: r) = 0 → scE L xs (t :: r) 0 = (MC.elB L xs (t :: r), (t :: r).drop 3, 0)) := fun ys x hx h3 h4 => by
        rw [h3, h4]
        exact ⟨rfl, fun _ => rfl, fun h => absurd h hx⟩
      cases hf : MC.findL L t.text with
      | none => exact fin xs 6 (by decide) (by simp [scE, h2, hf, h1, flE]) (by simp [MC.elE3, hk, hf])
      | some k =>
        by_cases hz : MB.at_ xs k = 0
        · have hdead : ∀ x : Int, x ≠ 0 → amE ([] : List Tk) x = x ∧ amV ([] : List Tk) x = 0 := fun x hx => by
            have h : amE ([] : List Tk) x = x := by unfold amE; rw [if_neg hx]
            exact ⟨h, by unfold amV; rw [if_neg (by rw [h]; exact hx)]⟩
          have hfl : ∀ x : Int, x ≠ 0 → flE 4 x = x := fun x hx => by unfold flE; rw [if_neg hx]
          cases hm : MC.isO 58 r[0]? with
          | false =>
            have he : expE 58 r 0 = MC.wrongE r[0]? := by unfold expE; rw [if_pos rfl, hm, if_neg (by decide)]
            have hw := wrong_ne r[0]?
            obtain ⟨d1, d2⟩ := hdead _ hw
            exact fin (xs.set k 0) (MC.wrongE r[0]?) hw (by simp [scE, h2, hf, h1, hz, he, hw, d1, d2, hfl _ hw]) (by simp [MC.elE3, hk, hf, hz, hm])
          | true =>
            have he : expE 58 r 0 = 0 := by unfold expE; rw [if_pos rfl, hm, if_pos rfl]
            have e1 : (r.drop 1)[0]? = r[1]? := by rw [List.getElem?_drop]
            have hgo : ∀ (x v : Int), amE (r.drop 1) 0 = x → amV (r.drop 1) 0 = v → scE L xs (t :: r) 0 = if v = 0 then (xs.set k 0, [], flE 4 x) else (xs.set k v, if x = 0 then r.drop 2 else [], x) := fun x v hx hv => by
              subst hx; subst hv
              simp [scE, h2, hf, h1, hz, he]
            cases hv : r[1]? with
            | none =>
              have h : amE (r.drop 1) 0 = 1 := by unfold amE; rw [if_pos rfl, e1, hv]
              have h' : amV (r.drop 1) 0 = 0 := by unfold amV; rw [if_neg (by rw [h]; decide)]
              exact fin (xs.set k 0) 1 (by decide) (by rw [hgo _ _ h h', if_pos rfl]; rfl) (by simp [MC.elE3, hk, hf, hz, hm, hv])
            | some v =>
              by_cases h2k : v.kind = 2
              · by_cases hout : v.value < 0 ∨ 4 < v.value
                · have h : amE (r.drop 1) 0 = 4 := by unfold amE; rw [if_pos rfl, e1, hv]; simp only; rw [if_pos h2k, if_pos hout]
                  have h' : amV (r.drop 1) 0 = 0 := by unfold amV; rw [if_neg (by rw [h]; decide)]
                  exact fin (xs.set k 0) 4 (by decide) (by rw [hgo _ _ h h', if_pos rfl]; rfl) (by simp [MC.elE3, hk, hf, hz, hm, hv, h2k]; omega)
                · have h : amE (r.drop 1) 0 = 0 := by unfold amE; rw [if_pos rfl, e1, hv]; simp only; rw [if_pos h2k, if_neg hout]
                  have h' : amV (r.drop 1) 0 = v.value := by unfold amV; rw [if_pos h, e1, hv]; rfl
                  by_cases hv0 : v.value = 0
                  · exact fin (xs.set k 0) 4 (by decide) (by rw [hgo _ _ h h', if_pos hv0]; rfl) (by simp [MC.elE3, hk, hf, hz, hm, hv, h2k, hv0])
                  · have hB : MC.elB L xs (t :: r) = xs.set k v.value := by
                      unfold MC.elB
                      simp only [List.getElem?_cons_zero, List.getElem?_cons_succ, Option.map_some, Option.getD_some, hf, hv]
                    have hs : scE L xs (t :: r) 0 = (xs.set k v.value, r.drop 2, 0) := by rw [hgo _ _ h h', if_neg hv0, if_pos rfl]
                    have h3 : MC.elE3 L xs (t :: r) = 0 := by simp [MC.elE3, hk, hf, hz, hm, hv, h2k]; omega
                    rw [hs, h3, hB]
                    exact ⟨rfl, fun h => absurd rfl h, fun _ => rfl⟩
              · have h : amE (r.drop 1) 0 = 2 := by unfold amE; rw [if_pos rfl, e1, hv]; simp only; rw [if_neg h2k]
                have h' : amV (r.drop 1) 0 = 0 := by unfold amV; rw [if_neg (by rw [h]; decide)]
                exact fin (xs.set k 0) 2 (by decide) (by rw [hgo _ _ h h', if_pos rfl]; rfl) (by simp [MC.elE3, hk, hf, hz, hm, hv, h2k])
        · exact fin xs 7 (by decide) (by simp [scE, h2, hf, h1, hz, flE]) (by simp [MC.elE3, hk, hf, hz])
    · have h1 : nmE (t :: r) 0 = 2 := by unfold nmE; rw [if_pos rfl]; simp [hk]
      have h2 : nmT' (t :: r) 0 = [] := by unfold nmT'; rw [if_neg (by rw [h1]; decide)]
      have h3 : MC.elE3 L xs (t :: r) = 2 := by unfold MC.elE3; simp [hk]
      have e : scE L xs (t :: r) 0 = (xs, [], 2) := by unfold scE; rw [h2, hL, h1]; rfl
      rw [e, h3]
      exact ⟨rfl, fun _ => rfl, fun h => absurd h (by decide)⟩
/-- What the loop of Scan still answers, at its head. -/
def loopR (L : List Pr) (R : List Int × List Tk × Int) : List Int × List Tk × Int :=
  if R.2.2 = 0 then (if MC.isO 44 R.2.1[0]? = true then MC.elems L (R.2.1.length + 1) R.1 (R.2.1.drop 1) else if MC.isO 125 R.2.1[0]? = true then (R.1, R.2.1.drop 1, 0) else (MC.Z6, [], MC.wrongE R.2.1[0]?)) else (MC.Z6, [], R.2.2)
theorem not_both {o : Option Tk} (h : MC.isO 125 o = true) : MC.isO 44 o = false := by
  cases o with
  | none => rfl
  | some t =>
    obtain ⟨h1, h2⟩ := isM_iff.1 (show MC.isM 125 t = true from h)
    cases e : MC.isM 44 t with
    | false => exact e
    | true =>
      have := (isM_iff.1 e).2
      rw [h2] at this
      cases this
/-- One element, then the loop. -/
theorem elems_loop {L : List Pr} (hL : NoEmpty L) {xs : List Int} {ts : List Tk} {f : Nat} (hf : ts.length < f) : MC.elems L f xs ts = loopR L (scE L xs ts 0) := by
  obtain ⟨f, rfl⟩ : ∃ g, f = g + 1 := ⟨f - 1, by omega⟩
  obtain ⟨h1, h2, h3⟩ := sc_err hL (xs := xs) ts
  by_cases h0 : MC.elE3 L xs ts = 0
  · rw [h3 h0]
    have hE : MC.elE L xs ts = if MC.isO 125 ts[3]? = true then 0 else if MC.isO 44 ts[3]? = true then 0 else MC.wrongE ts[3]? := by rw [MC.elE_tail, if_pos h0]
    have e3 : (ts.drop 3)[0]? = ts[3]? := by rw [List.getElem?_drop]
    have e4 : (ts.drop 3).drop 1 = ts.drop 4 := by rw [List.drop_drop]
    unfold loopR
    simp only [e3, e4]
    rw [if_pos trivial]
    cases h125 : MC.isO 125 ts[3]? with
    | true =>
      rw [h125, if_pos rfl] at hE
      rw [MC.elems_end hE h125, not_both h125, if_neg (by decide), if_pos rfl]
    | false =>
      rw [h125, if_neg (by decide)] at hE
      cases h44 : MC.isO 44 ts[3]? with
      | true =>
        rw [h44, if_pos rfl] at hE
        rw [MC.elems_on hE h125, if_pos rfl]
        have hl : 3 < ts.length := by
          rcases Nat.lt_or_ge 3 ts.length with g | g
          · exact g
          · rw [List.getElem?_eq_none g] at h44; cases h44
        exact MC.elems_fuel L _ _ _ _ (by rw [List.length_drop]; omega) (by rw [List.length_drop, List.length_drop]; omega)
      | false =>
        rw [h44, if_neg (by decide)] at hE
        rw [MC.elems_bad (by rw [hE]; exact wrong_ne _), hE, if_neg (by decide), if_neg (by decide)]
  · have hE : MC.elE L xs ts = MC.elE3 L xs ts := by rw [MC.elE_tail, if_neg h0]
    rw [MC.elems_bad (by rw [hE]; exact h0), hE]
    unfold loopR
    rw [h1, if_neg h0]
/-- A comma: another element. -/
theorem loop_on {L : List Pr} (hL : NoEmpty L) {R : List Int × List Tk × Int} (h0 : R.2.2 = 0) (h : MC.isO 44 R.2.1[0]? = true) : loopR L R = loopR L (scE L R.1 (R.2.1.drop 1) 0) := by
  have e : loopR L R = MC.elems L (R.2.1.length + 1) R.1 (R.2.1.drop 1) := by unfold loopR; rw [if_pos h0, if_pos h]
  rw [e]
  exact elems_loop hL (by rw [List.length_drop]; omega)
/-- No comma: the brace is asked. -/
theorem loop_end {L : List Pr} {R : List Int × List Tk × Int} (_hd : R.2.2 ≠ 0 → R.2.1 = []) (h : MC.isO 44 R.2.1[0]? = false) :
    loopR L R = (if expE 125 R.2.1 R.2.2 = 0 then R.1 else MC.Z6, if expE 125 R.2.1 R.2.2 = 0 then R.2.1.drop 1 else [], expE 125 R.2.1 R.2.2) := by
  unfold loopR expE
  by_cases h0 : R.2.2 = 0
  · rw [if_pos h0, if_pos h0, h, if_neg (by decide)]
    cases h1 : MC.isO 125 R.2.1[0]? with
    | true => rw [if_pos rfl, if_pos rfl, if_pos rfl, if_pos rfl]
    | false => simp [wrong_ne]
  · rw [if_neg h0, if_neg h0, if_neg h0, if_neg h0]
/-- The quantities stay at least 0. -/
theorem sc_nonneg {L : List Pr} {xs : List Int} {ts : List Tk} {er : Int} (h : ∀ k, 0 ≤ MB.at_ xs k) : ∀ k, 0 ≤ MB.at_ (scE L xs ts er).1 k := by
  have hset : ∀ (j : Nat) (v : Int), 0 ≤ v → ∀ k, 0 ≤ MB.at_ (xs.set j v) k := fun j v hv k => by
    by_cases hj : j < xs.length
    · rw [MC.at_set hj]; split
      · exact hv
      · exact h k
    · rw [List.set_eq_of_length_le (by omega)]; exact h k
  have ham : ∀ (ts : List Tk) (e : Int), 0 ≤ amV ts e := fun ts e => by
    unfold amV
    by_cases h : amE ts e = 0
    · rw [if_pos h]
      cases ht : ts[0]? with
      | none => simp
      | some t =>
        show 0 ≤ t.value
        rcases Int.lt_or_le t.value 0 with hneg | hpos
        · exfalso
          unfold amE at h
          by_cases he : e = 0
          · rw [if_pos he, ht] at h
            simp only at h
            by_cases hk : t.kind = 2
            · rw [if_pos hk, if_pos (.inl hneg)] at h
              exact absurd h (by decide)
            · rw [if_neg hk] at h
              exact absurd h (by decide)
          · rw [if_neg he] at h
            exact he h
        · exact hpos
    · rw [if_neg h]; decide
  have lem : ∀ (j : Nat) (v : Int) (A B C D), 0 ≤ v → ∀ k, 0 ≤ MB.at_ ((if v = 0 then (xs.set j 0, A, B) else (xs.set j v, C, D) : List Int × List Tk × Int)).1 k := fun j v A B C D hv => by
    by_cases h0 : v = 0
    · rw [if_pos h0]; exact hset j 0 (by decide)
    · rw [if_neg h0]; exact hset j v hv
  unfold scE
  cases MC.findL L (nmT' ts er) with
  | none => exact h
  | some j =>
    simp only
    by_cases hz : MB.at_ xs j ≠ 0
    · rw [if_pos hz]; exact h
    · rw [if_neg hz]
      exact lem j _ _ _ _ _ (ham _ _)
/-- The tokens become fewer. -/
theorem sc_short {L : List Pr} (hL : NoEmpty L) {xs : List Int} (ts : List Tk) : (scE L xs ts 0).2.1.length ≤ ts.length := by
  obtain ⟨h1, h2, h3⟩ := sc_err hL (xs := xs) ts
  by_cases h0 : MC.elE3 L xs ts = 0
  · rw [h3 h0]; simp
  · rw [h2 h0]; exact Nat.zero_le _
theorem sc_empty {L : List Pr} (hL : NoEmpty L) {xs : List Int} {ts : List Tk} (h : (scE L xs ts 0).2.2 ≠ 0) : (scE L xs ts 0).2.1 = [] := by
  obtain ⟨h1, h2, h3⟩ := sc_err hL (xs := xs) ts
  exact h2 (by rw [← h1]; exact h)
theorem Z6_nonneg (k : Nat) : 0 ≤ MB.at_ MC.Z6 k := by
  by_cases hk : k < 6
  · have : k = 0 ∨ k = 1 ∨ k = 2 ∨ k = 3 ∨ k = 4 ∨ k = 5 := by omega
    rcases this with rfl | rfl | rfl | rfl | rfl | rfl <;> decide
  · unfold MB.at_; rw [List.getD_eq_getElem?_getD, List.getElem?_eq_none (by show 6 ≤ k; omega)]; decide
end Go.Proofs.YtcokplikmjegcaaGreatDoor
