/- PWr, PWr2, joined: no claim of its own. -/
import Derived.Test.YtcokplikmjegcaaGreatDoorPBld
import Derived.Test.YtcokplikmjegcaaGreatDoorJE
import Derived.Test.YtcokplikmjegcaaGreatDoorJI
import Derived.Test.YtcokplikmjegcaaGreatDoorJK
import Derived.Test.YtcokplikmjegcaaGreatDoorJL
import Derived.Lib.OthersKept
import Derived.Deep.DeepCutAuto
namespace Go.Proofs.YtcokplikmjegcaaGreatDoor
open Go.RowKit
open MC (Pr)
/-- What lies below the writer. -/
def WEnv (b : Nat) (A : Option Addr) (n cp : Nat) (L : List Pr) (w : World) : Prop := ∀ w', Below b w w' → Prs w' A n cp L ∧ Tab w' ∧ Ops w'
theorem WEnv.next {b : Nat} {A : Option Addr} {n cp : Nat} {L : List Pr} {w w1 : World} (h : WEnv b A n cp L w) (hb : Below b w w1) : WEnv b A n cp L w1 := fun w' q => h w' (hb.trans q)
/-- What a method of the writer leaves. -/
def Wd1 (b : Nat) (P : Value) (l : List UInt8) (w : World) (e : Ending) (w' : World) : Prop := e = .returned (.tuple #[]) ∧ Wr b P l w' ∧ Only b w w'
theorem Only.new {b : Nat} {w : World} (h : b < w.heap.size) (o : Obj) : Only b w (w.alloc o) := ⟨(below_new w o).mono (Nat.le_of_lt h), (Lib.OthersKept.refl _ _ w).alloc o⟩
theorem Only.quiet {b : Nat} {w w' : World} (h : b < w.heap.size) (hb : Below w.heap.size w w') : Only b w w' :=
  ⟨hb.mono (Nat.le_of_lt h), fun i q hi _ _ => (hb.block i (Array.getElem?_eq_some_iff.1 hi).1).trans hi⟩
theorem B9.other {b g : Nat} {w w' : World} {v0 v1 v2 v3 v4 v5 v6 v7 v8 : Value} (h : B9 w g v0 v1 v2 v3 v4 v5 v6 v7 v8) (hO : Only b w w') (hg : g ≠ b) : B9 w' g v0 v1 v2 v3 v4 v5 v6 v7 v8 :=
  hO.others g _ h (fun e => hg (Option.some.inj e)) (fun _ _ e => by injection e with _ e _; exact absurd e (by decide))
set_option maxRecDepth 100000 in
set_option maxHeartbeats 2000000 in
theorem part_mark (c : UInt8) (hc : c.toNat < 128) (h1 : c.toNat ≠ 101) (h2 : c.toNat ≠ 108) (h3 : c.toNat ≠ 98) (h4 : c.toNat ≠ 118) (b : Nat) (P : Value) (l : List UInt8) (o x0 x1 x2 x3 x4 x5 v : Int) (A1 : Option Addr) (c1 : Nat) (k : FT) (w : World) (h : Wr b P l w) (hlen : l.length + 1 ≤ 100000000) :
    Calls Tryz.prog 47 #[.pointer (some ⟨b, 0, none⟩), .int .i32 (c.toNat : Int), .agg #[.int .i64 o, .int .i64 x0, .int .i64 x1, .int .i64 x2, .int .i64 x3, .int .i64 x4, .int .i64 x5, .int .i64 v, .slice A1 k.len c1]] w (Wd1 b P (l ++ [c]) w) := by
  have O0 := Lib.hid (Only.new h.lt (.cells #[.int .i64 o, .int .i64 x0, .int .i64 x1, .int .i64 x2, .int .i64 x3, .int .i64 x4, .int .i64 x5, .int .i64 v, .slice A1 k.len c1] 27))
  have HR := Lib.hid (writeRune1 b P l c hc _ (h.keep (below_new w (.cells #[.int .i64 o, .int .i64 x0, .int .i64 x1, .int .i64 x2, .int .i64 x3, .int .i64 x4, .int .i64 x5, .int .i64 v, .slice A1 k.len c1] 27))) hlen)
  clear h
  have e1 : ((c.toNat : Int) == 101) = false := beq_eq_false_iff_ne.2 (by omega)
  have e2 : ((c.toNat : Int) == 108) = false := beq_eq_false_iff_ne.2 (by omega)
  have e3 : ((c.toNat : Int) == 98) = false := beq_eq_false_iff_ne.2 (by omega)
  have e4 : ((c.toNat : Int) == 118) = false := beq_eq_false_iff_ne.2 (by omega)
  clear h1 h2 h3 h4 hc
  generalize (c.toNat : Int) = cn at *
  go_enter Tryz.func47, Tryz.ntmps47
  go_wp2_with fail
  refine HR.out.mono ?_
  rintro ev w2 ⟨nn, rfl, hw, hO⟩
  have F := Lib.hid (show Wd1 b P (l ++ [c]) w (.returned (.tuple #[])) w2 from ⟨rfl, hw, O0.out.trans hO⟩)
  clear hw hO
  go_wp2
  go_end0
  exact F.out
set_option maxRecDepth 100000 in
set_option maxHeartbeats 2000000 in
theorem part_amount (b : Nat) (A : Option Addr) (n cp : Nat) (L : List Pr) (l : List UInt8) (o x0 x1 x2 x3 x4 x5 v : Int) (A1 : Option Addr) (c1 : Nat) (k : FT) (hv0 : 0 ≤ v) (hv1 : v ≤ 1000000) (w : World) (h : Wr b (.slice A n cp) l w) (he : WEnv b A n cp L w) (hlen : l.length + 100 ≤ 100000000) :
    Calls Tryz.prog 47 #[.pointer (some ⟨b, 0, none⟩), .int .i32 118, .agg #[.int .i64 o, .int .i64 x0, .int .i64 x1, .int .i64 x2, .int .i64 x3, .int .i64 x4, .int .i64 x5, .int .i64 v, .slice A1 k.len c1]] w (Wd1 b (.slice A n cp) (l ++ MU.num v) w) := by
  have hmo : Tryz.prog.follows .mixedOrders = true := by kernel_rfl
  have O0 := Lib.hid (Only.new h.lt (.cells #[.int .i64 o, .int .i64 x0, .int .i64 x1, .int .i64 x2, .int .i64 x3, .int .i64 x4, .int .i64 x5, .int .i64 v, .slice A1 k.len c1] 27))
  have H0 := Lib.hid (h.keep (below_new w (.cells #[.int .i64 o, .int .i64 x0, .int .i64 x1, .int .i64 x2, .int .i64 x3, .int .i64 x4, .int .i64 x5, .int .i64 v, .slice A1 k.len c1] 27)))
  have X0 : Hid (B9 (w.alloc (.cells #[.int .i64 o, .int .i64 x0, .int .i64 x1, .int .i64 x2, .int .i64 x3, .int .i64 x4, .int .i64 x5, .int .i64 v, .slice A1 k.len c1] 27)) w.heap.size (.int .i64 o) (.int .i64 x0) (.int .i64 x1) (.int .i64 x2) (.int .i64 x3) (.int .i64 x4) (.int .i64 x5) (.int .i64 v) (.slice A1 k.len c1)) := Lib.hid (heap_new _ _)
  have E0 := Lib.hid (he.next O0.out.below)
  have hsz : (str (MU.num v)).size ≤ 100 := by rw [str_size, MU.num_pos hv0]; have := MU.dec_len (m := 6) (n := v.toNat) (by omega); omega
  clear h he
  go_enter Tryz.func47, Tryz.ntmps47
  go_upto_region 15 with (fail)
  obtain ⟨W0, hW0⟩ : ∃ W0, W0 = w.alloc (.cells #[.int .i64 o, .int .i64 x0, .int .i64 x1, .int .i64 x2, .int .i64 x3, .int .i64 x4, .int .i64 x5, .int .i64 v, .slice A1 k.len c1] 27) := ⟨_, rfl⟩
  rw [← hW0] at O0 H0 X0 E0 ⊢
  clear hW0
  have hb0 := H0.out.lt
  have k7 := cell_regrown X0.out.cells.2.2.2.2.2.2.2.1
  have cS := fun d os => Calls.regrown_of (fmtInt_any v (by omega) (by omega) (Go.Sort.grow (redrawn W0 d) os) (E0.out _ ((below_regrown W0 d os).mono (Nat.le_of_lt hb0))).2.1)
  refine region_cut 6 hmo (by kernel_rfl) ?_
  simp only [List.take_succ_cons, List.take_zero, List.drop_succ_cons, List.drop_zero]
  repeat (quiet_step (with_reducible exact cS _ _))
  refine wpQuiet_nil ?_
  rintro _ ⟨pz, rfl⟩
  have BZ := below_regrown W0 pz.d pz.os
  have O1 := Lib.hid (O0.out.trans (Only.quiet hb0 BZ))
  have HS := Lib.hid (writeString1 b (.slice A n cp) l (str (MU.num v)) _ (H0.out.keep BZ) (by omega))
  rw [str_data] at HS
  clear cS k7 BZ
  generalize Go.Sort.grow (redrawn W0 pz.d) pz.os = Z at *
  generalize str (MU.num v) = sv at *
  go_wp2_with fail
  refine HS.out.mono ?_
  rintro ev w2 ⟨rfl, hw, hO⟩
  have F := Lib.hid (show Wd1 b (.slice A n cp) (l ++ MU.num v) w (.returned (.tuple #[])) w2 from ⟨rfl, hw, O1.out.trans hO⟩)
  clear hw hO
  go_wp2
  go_end0
  exact F.out
set_option maxRecDepth 100000 in
set_option maxHeartbeats 2000000 in
theorem part_bid (b : Nat) (A : Option Addr) (n cp : Nat) (L : List Pr) (l : List UInt8) (o x0 x1 x2 x3 x4 x5 v : Int) (A1 : Option Addr) (c1 : Nat) (k : FT) (hf : MC.Fits L [x0, x1, x2, x3, x4, x5]) (hv0 : 0 ≤ v) (hv1 : v ≤ 1000000) (w : World) (h : Wr b (.slice A n cp) l w) (he : WEnv b A n cp L w) (hlen : l.length + 300 ≤ 100000000) :
    Calls Tryz.prog 47 #[.pointer (some ⟨b, 0, none⟩), .int .i32 98, .agg #[.int .i64 o, .int .i64 x0, .int .i64 x1, .int .i64 x2, .int .i64 x3, .int .i64 x4, .int .i64 x5, .int .i64 v, .slice A1 k.len c1]] w (Wd1 b (.slice A n cp) (l ++ MX.bidT L [x0, x1, x2, x3, x4, x5] v) w) := by
  have hmo : Tryz.prog.follows .mixedOrders = true := by kernel_rfl
  have O0 := Lib.hid (Only.new h.lt (.cells #[.int .i64 o, .int .i64 x0, .int .i64 x1, .int .i64 x2, .int .i64 x3, .int .i64 x4, .int .i64 x5, .int .i64 v, .slice A1 k.len c1] 27))
  have H0 := Lib.hid (h.keep (below_new w (.cells #[.int .i64 o, .int .i64 x0, .int .i64 x1, .int .i64 x2, .int .i64 x3, .int .i64 x4, .int .i64 x5, .int .i64 v, .slice A1 k.len c1] 27)))
  have X0 : Hid (B9 (w.alloc (.cells #[.int .i64 o, .int .i64 x0, .int .i64 x1, .int .i64 x2, .int .i64 x3, .int .i64 x4, .int .i64 x5, .int .i64 v, .slice A1 k.len c1] 27)) w.heap.size (.int .i64 o) (.int .i64 x0) (.int .i64 x1) (.int .i64 x2) (.int .i64 x3) (.int .i64 x4) (.int .i64 x5) (.int .i64 v) (.slice A1 k.len c1)) := Lib.hid (heap_new _ _)
  have E0 := Lib.hid (he.next O0.out.below)
  have hgb : w.heap.size ≠ b := by have := h.lt; omega
  have hsz : (str (MU.num v)).size ≤ 100 := by rw [str_size, MU.num_pos hv0]; have := MU.dec_len (m := 6) (n := v.toNat) (by omega); omega
  have htl : (str (MC.textL L [x0, x1, x2, x3, x4, x5])).size ≤ 100 := by rw [str_size]; have := hf.text_len; omega
  have EF := Lib.hid (fmt_yes hf)
  clear h he hf
  go_enter Tryz.func47, Tryz.ntmps47
  go_upto_region 13 with (fail)
  obtain ⟨W0, hW0⟩ : ∃ W0, W0 = w.alloc (.cells #[.int .i64 o, .int .i64 x0, .int .i64 x1, .int .i64 x2, .int .i64 x3, .int .i64 x4, .int .i64 x5, .int .i64 v, .slice A1 k.len c1] 27) := ⟨_, rfl⟩
  rw [← hW0] at O0 H0 X0 E0 ⊢
  clear hW0
  have hb0 := H0.out.lt
  have k0 := cell_regrown H0.out.first
  have k1 := cell_regrown X0.out.cells.2.1
  have k2 := cell_regrown X0.out.cells.2.2.1
  have k3 := cell_regrown X0.out.cells.2.2.2.1
  have k4 := cell_regrown X0.out.cells.2.2.2.2.1
  have k5 := cell_regrown X0.out.cells.2.2.2.2.2.1
  have k6 := cell_regrown X0.out.cells.2.2.2.2.2.2.1
  have cS := fun d os => Calls.regrown_of (format_any A n cp L x0 x1 x2 x3 x4 x5 (Go.Sort.grow (redrawn W0 d) os) (E0.out _ ((below_regrown W0 d os).mono (Nat.le_of_lt hb0))).1)
  rw [EF.out] at cS
  refine region_cut 10 hmo (by kernel_rfl) ?_
  simp only [List.take_succ_cons, List.take_zero, List.drop_succ_cons, List.drop_zero]
  repeat (quiet_step (with_reducible exact cS _ _))
  refine wpQuiet_nil ?_
  rintro _ ⟨pz, rfl⟩
  have BZ := below_regrown W0 pz.d pz.os
  have O1 := Lib.hid (O0.out.trans (Only.quiet hb0 BZ))
  have X1 := Lib.hid (X0.out.keep BZ)
  have HS := Lib.hid (writeString1 b (.slice A n cp) l (str (MC.textL L [x0, x1, x2, x3, x4, x5])) _ (H0.out.keep BZ) (by omega))
  rw [str_data] at HS
  have E1 := Lib.hid (E0.out.next (Only.quiet hb0 BZ).below)
  have hll : (MC.textL L [x0, x1, x2, x3, x4, x5]).length ≤ 100 := by rw [str_size] at htl; exact htl
  clear cS k0 k1 k2 k3 k4 k5 k6 BZ X0 H0 E0 EF O0
  generalize Go.Sort.grow (redrawn W0 pz.d) pz.os = Z at *
  have HTX : Hid (l ++ MX.bidT L [x0, x1, x2, x3, x4, x5] v = l ++ MC.textL L [x0, x1, x2, x3, x4, x5] ++ [64] ++ MU.num v) := Lib.hid (by unfold MX.bidT; simp)
  clear htl
  generalize MC.textL L [x0, x1, x2, x3, x4, x5] = tl at *
  go_wp2_with fail
  refine HS.out.mono ?_
  rintro ev w2 ⟨rfl, hw, hO⟩
  have O2 := Lib.hid (O1.out.trans hO)
  have X2 := Lib.hid (X1.out.other hO hgb)
  have E2 := Lib.hid (E1.out.next hO.below)
  have HB := Lib.hid (writeByte1 b (.slice A n cp) (l ++ tl) 64 w2 hw (by rw [List.length_append]; omega))
  clear hw hO HS O1 X1 E1
  have HB2 : Hid (Calls Tryz.prog 79 #[.pointer (some ⟨b, 1, none⟩), .int .u8 64] w2 (Wrote1 .nilIface b (.slice A n cp) (l ++ tl ++ [64]) w2)) := HB
  go_wp2_with fail
  refine HB2.out.mono ?_
  rintro ev w3 ⟨rfl, hw, hO⟩
  have O3 := Lib.hid (O2.out.trans hO)
  have X3 := Lib.hid (X2.out.other hO hgb)
  have E3 := Lib.hid (E2.out.next hO.below)
  have H3 := Lib.hid hw
  clear hw hO HB HB2 O2 X2 E2
  have hb3 := H3.out.lt
  go_upto_region 15 with (fail)
  have k7 := cell_regrown X3.out.cells.2.2.2.2.2.2.2.1
  have cS := fun d os => Calls.regrown_of (fmtInt_any v (by omega) (by omega) (Go.Sort.grow (redrawn w3 d) os) (E3.out _ ((below_regrown w3 d os).mono (Nat.le_of_lt hb3))).2.1)
  refine region_cut 6 hmo (by kernel_rfl) ?_
  simp only [List.take_succ_cons, List.take_zero, List.drop_succ_cons, List.drop_zero]
  repeat (quiet_step (with_reducible exact cS _ _))
  refine wpQuiet_nil ?_
  rintro _ ⟨pz, rfl⟩
  have BZ := below_regrown w3 pz.d pz.os
  have O4 := Lib.hid (O3.out.trans (Only.quiet hb3 BZ))
  have HS := Lib.hid (writeString1 b (.slice A n cp) (l ++ tl ++ [64]) (str (MU.num v)) _ (H3.out.keep BZ) (by simp only [List.length_append, List.length_cons, List.length_nil]; omega))
  rw [str_data] at HS
  clear cS k7 BZ H3 X3 E3 O3
  generalize Go.Sort.grow (redrawn w3 pz.d) pz.os = Z3 at *
  generalize str (MU.num v) = sv at *
  go_wp2_with fail
  refine HS.out.mono ?_
  rintro ev w5 ⟨rfl, hw, hO⟩
  have F := Lib.hid (show Wd1 b (.slice A n cp) (l ++ tl ++ [64] ++ MU.num v) w (.returned (.tuple #[])) w5 from ⟨rfl, hw, O4.out.trans hO⟩)
  clear hw hO
  go_wp2
  go_end0
  rw [HTX.out]
  exact F.out
end Go.Proofs.YtcokplikmjegcaaGreatDoor
namespace Go.Proofs.YtcokplikmjegcaaGreatDoor
open Go.RowKit
open MC (Pr)
open ME (F Nd)
/-- What write does with every expression of at most N nodes. -/
def WriteOk (b : Nat) (A : Option Addr) (n cp : Nat) (L : List Pr) (N : Nat) : Prop := ∀ (y : NT) (l : List UInt8) (w : World), y.size ≤ N → WEnv b A n cp L w → y.Ok w (fun k => k < b) → (∀ z ∈ y.n.pre, MX.OkN L z) → Wr b (.slice A n cp) l w → l.length + (MX.txN L y.n).length ≤ 1000000 →
  Calls Tryz.prog 19 #[.pointer (some ⟨b, 0, none⟩), y.val] w (Wd1 b (.slice A n cp) (l ++ MX.txN L y.n) w)
/-- The texts of what is left of the arguments, q of them done. -/
def jt (L : List Pr) (q : Nat) (f : F) : List UInt8 := if q = 0 then MX.joinC (MX.txF L f) else (MX.txF L f).flatMap fun t => 44 :: t
theorem joinC_cons : ∀ (x : List UInt8) (r : List (List UInt8)), MX.joinC (x :: r) = x ++ r.flatMap (fun t => 44 :: t)
  | x, [] => by simp [MX.joinC]
  | x, y :: r => by rw [MX.joinC, joinC_cons y r]; simp
theorem jt_nil (L : List Pr) (q : Nat) : jt L q .nil = [] := by unfold jt; split <;> rfl
theorem jt_zero (L : List Pr) {q : Nat} (hq : q = 0) (o : Int) (b : List Int) (v : Int) (k r : F) : jt L q (.cons o b v k r) = MX.txN L ⟨o, b, v, k⟩ ++ jt L (q + 1) r := by
  subst hq
  unfold jt
  rw [if_pos rfl, if_neg (by decide), MX.txF, joinC_cons]; rfl
theorem jt_more (L : List Pr) {q : Nat} (hq : q ≠ 0) (o : Int) (b : List Int) (v : Int) (k r : F) : jt L q (.cons o b v k r) = 44 :: (MX.txN L ⟨o, b, v, k⟩ ++ jt L (q + 1) r) := by
  unfold jt
  rw [if_neg hq, if_neg (by omega), MX.txF, List.flatMap_cons]; rfl
set_option maxRecDepth 100000 in
set_option maxHeartbeats 8000000 in
theorem part_args101 (b : Nat) (A : Option Addr) (n cp : Nat) (L : List Pr) (N : Nat) (IH0 : WriteOk b A n cp L N) (l : List UInt8) (o x0 x1 x2 x3 x4 x5 v : Int) (A1 : Option Addr) (c1 : Nat) (k : FT) (hk0 : k.size ≤ N) (w : World) (hok : NT.Ok (⟨o, [x0, x1, x2, x3, x4, x5], v, A1, c1, k⟩ : NT) w (fun k => k < b)) (hv : ∀ z ∈ k.f.pre, MX.OkN L z) (h : Wr b (.slice A n cp) l w) (he : WEnv b A n cp L w) (hlen : l.length + (MX.joinC (MX.txF L k.f)).length ≤ 1000000) :
    Calls Tryz.prog 47 #[.pointer (some ⟨b, 0, none⟩), .int .i32 101, .agg #[.int .i64 o, .int .i64 x0, .int .i64 x1, .int .i64 x2, .int .i64 x3, .int .i64 x4, .int .i64 x5, .int .i64 v, .slice A1 k.len c1]] w (Wd1 b (.slice A n cp) (l ++ MX.joinC (MX.txF L k.f)) w) := by
  have IH := Lib.hid IH0
  have O0 := Lib.hid (Only.new h.lt (.cells #[.int .i64 o, .int .i64 x0, .int .i64 x1, .int .i64 x2, .int .i64 x3, .int .i64 x4, .int .i64 x5, .int .i64 v, .slice A1 k.len c1] 27))
  have H0 := Lib.hid (h.keep (below_new w (.cells #[.int .i64 o, .int .i64 x0, .int .i64 x1, .int .i64 x2, .int .i64 x3, .int .i64 x4, .int .i64 x5, .int .i64 v, .slice A1 k.len c1] 27)))
  have X0 : Hid (B9 (w.alloc (.cells #[.int .i64 o, .int .i64 x0, .int .i64 x1, .int .i64 x2, .int .i64 x3, .int .i64 x4, .int .i64 x5, .int .i64 v, .slice A1 k.len c1] 27)) w.heap.size (.int .i64 o) (.int .i64 x0) (.int .i64 x1) (.int .i64 x2) (.int .i64 x3) (.int .i64 x4) (.int .i64 x5) (.int .i64 v) (.slice A1 k.len c1)) := Lib.hid (heap_new _ _)
  have E0 := Lib.hid (he.next O0.out.below)
  have hgb : w.heap.size ≠ b := by have := h.lt; omega
  have hn := hok.kids.few
  have hcap := hok.kids.cap
  dsimp only at hn hcap
  have R0 := Lib.hid ((hok.below (below_new w (.cells #[.int .i64 o, .int .i64 x0, .int .i64 x1, .int .i64 x2, .int .i64 x3, .int .i64 x4, .int .i64 x5, .int .i64 v, .slice A1 k.len c1] 27))).kids.rest)
  have HV := Lib.hid hv
  have HL := Lib.hid hlen
  have hcs := X0.out.cells
  clear h he hok hv hlen IH0
  obtain ⟨W0, hW0⟩ : ∃ W0, W0 = w.alloc (.cells #[.int .i64 o, .int .i64 x0, .int .i64 x1, .int .i64 x2, .int .i64 x3, .int .i64 x4, .int .i64 x5, .int .i64 v, .slice A1 k.len c1] 27) := ⟨_, rfl⟩
  rw [← hW0] at O0 H0 X0 E0 R0 hcs
  obtain ⟨a0, a1, a2, a3, a4, a5, a6, a7, a8⟩ := hcs
  have hb0 := H0.out.lt
  go_enter Tryz.func47, Tryz.ntmps47
  go_upto_region 6 with (fail)
  rw [← hW0]
  clear hW0
  go_wp2
  clear a0 a1 a2 a3 a4 a5 a6 a7 a8
  go_loopw [19] (fun i wr => ∃ (q : Nat) (rs : FT) (l' : List UInt8), q ≤ k.len ∧ rs.size ≤ N ∧ i = .int .i64 q ∧ Hid (Rest wr (fun j => j < b) A1 q rs k.len) ∧ Hid (Wr b (.slice A n cp) l' wr) ∧ Hid (l' ++ jt L q rs.f = l ++ jt L 0 k.f) ∧ Hid (Only b W0 wr) ∧ Hid (∀ z ∈ rs.f.pre, MX.OkN L z)) (fun i _ => k.len - (intOf i).toNat)
  case atStart => exact ⟨0, k, l, Nat.zero_le _, hk0, rfl, R0, H0, Lib.hid rfl, Lib.hid ⟨Below.refl _ _, Lib.OthersKept.refl _ _ _⟩, HV⟩
  case round =>
    rename_i _ wr
    clear R0 H0 HV
    obtain ⟨q, rs, l', hq, hrs, rfl, RS, WX, EQ, OT, HV⟩ := hrel
    by_cases hlt : q < k.len
    · have hlt' : (q : Int) < (k.len : Int) := by omega
      obtain ⟨ad, oy, y0, y1, y2, y3, y4, y5, vy, Ay, cy, ky, r', rfl, rfl, hoky, hnx, hbk, _, z0, z1, z2, z3, z4, z5, z6, z7, z8⟩ := RS.out.open_ hlt
      have hs2 : NT.size (⟨oy, [y0, y1, y2, y3, y4, y5], vy, Ay, cy, ky⟩ : NT) ≤ N := by unfold FT.size at hrs; unfold NT.size; show ky.size + 1 ≤ N; omega
      have hr2 : r'.size ≤ N := by unfold FT.size at hrs; omega
      have BN := Lib.hid (below_new wr (.cells #[.int .i64 oy, .int .i64 y0, .int .i64 y1, .int .i64 y2, .int .i64 y3, .int .i64 y4, .int .i64 y5, .int .i64 vy, .slice Ay ky.len cy] 27))
      have Y0 : Hid (B9 (wr.alloc (.cells #[.int .i64 oy, .int .i64 y0, .int .i64 y1, .int .i64 y2, .int .i64 y3, .int .i64 y4, .int .i64 y5, .int .i64 vy, .slice Ay ky.len cy] 27)) wr.heap.size (.int .i64 oy) (.int .i64 y0) (.int .i64 y1) (.int .i64 y2) (.int .i64 y3) (.int .i64 y4) (.int .i64 y5) (.int .i64 vy) (.slice Ay ky.len cy)) := Lib.hid (heap_new _ _)
      have W1 := Lib.hid (WX.out.keep BN.out)
      have ON := Only.new WX.out.lt (.cells #[.int .i64 oy, .int .i64 y0, .int .i64 y1, .int .i64 y2, .int .i64 y3, .int .i64 y4, .int .i64 y5, .int .i64 vy, .slice Ay ky.len cy] 27)
      have OT1 := Lib.hid (OT.out.trans ON)
      have RS0 := Lib.hid (hnx.below BN.out)
      have YO := Lib.hid (hoky.below BN.out)
      have HV2 : Hid (∀ z ∈ r'.f.pre, MX.OkN L z) := Lib.hid (fun z hz => HV.out z (by show z ∈ ME.F.pre (.cons _ _ _ _ _); simp only [ME.F.pre, List.mem_cons, List.mem_append]; exact .inr (.inr hz)))
      have HVY : Hid (∀ z ∈ (NT.n (⟨oy, [y0, y1, y2, y3, y4, y5], vy, Ay, cy, ky⟩ : NT)).pre, MX.OkN L z) := Lib.hid (fun z hz => HV.out z (by
        show z ∈ ME.F.pre (.cons _ _ _ _ _)
        rcases List.mem_cons.1 hz with e | e
        · rw [e]; exact List.mem_cons_self
        · simp only [ME.F.pre, List.mem_cons, List.mem_append]; exact .inr (.inl e)))
      have hbw : b < (wr.alloc (.cells #[.int .i64 oy, .int .i64 y0, .int .i64 y1, .int .i64 y2, .int .i64 y3, .int .i64 y4, .int .i64 y5, .int .i64 vy, .slice Ay ky.len cy] 27)).heap.size := W1.out.lt
      have hyb : wr.heap.size ≠ b := by have := WX.out.lt; omega
      have XB := Lib.hid (X0.out.other OT.out hgb)
      have TXY : Hid (MX.txN L ⟨oy, [y0, y1, y2, y3, y4, y5], vy, ky.f⟩ = MX.txN L (NT.n (⟨oy, [y0, y1, y2, y3, y4, y5], vy, Ay, cy, ky⟩ : NT))) := Lib.hid rfl
      clear hnx hoky HV RS ON WX
      obtain ⟨a0, a1, a2, a3, a4, a5, a6, a7, a8⟩ := XB.out.cells
      by_cases hq0 : q = 0
      · have hdpos : decide ((0 : Int) < (q : Int)) = false := decide_eq_false (by omega)
        have hqn : ¬ 0 < q := by omega
        have EQ2 := EQ.out
        rw [show FT.f (.cons oy [y0, y1, y2, y3, y4, y5] vy Ay cy ky r') = .cons oy [y0, y1, y2, y3, y4, y5] vy ky.f r'.f from rfl, jt_zero L hq0, TXY.out] at EQ2
        have hle : l'.length + (MX.txN L (NT.n (⟨oy, [y0, y1, y2, y3, y4, y5], vy, Ay, cy, ky⟩ : NT))).length ≤ 1000000 := by
          have e := congrArg List.length EQ2
          have := HL.out
          have e0 : jt L 0 k.f = MX.joinC (MX.txF L k.f) := rfl
          rw [e0] at e
          simp only [List.length_append] at e
          omega
        have EQ3 := Lib.hid EQ2
        have CW := Lib.hid (IH.out (⟨oy, [y0, y1, y2, y3, y4, y5], vy, Ay, cy, ky⟩ : NT) l' (wr.alloc (.cells #[.int .i64 oy, .int .i64 y0, .int .i64 y1, .int .i64 y2, .int .i64 y3, .int .i64 y4, .int .i64 y5, .int .i64 vy, .slice Ay ky.len cy] 27)) hs2 (E0.out.next OT1.out.below) YO.out HVY.out W1.out hle)
        have RS1 := RS0
        have OTN := OT1
        rw [NT.val_lit] at CW
        clear RS0 OT OT1 EQ EQ2 hle HVY YO TXY XB W1 hq0
        generalize MX.txN L (NT.n (⟨oy, [y0, y1, y2, y3, y4, y5], vy, Ay, cy, ky⟩ : NT)) = ty at *
        go_wp2_with fail
        obtain ⟨W2, hW2⟩ : ∃ W2, W2 = wr.alloc (.cells #[.int .i64 oy, .int .i64 y0, .int .i64 y1, .int .i64 y2, .int .i64 y3, .int .i64 y4, .int .i64 y5, .int .i64 vy, .slice Ay ky.len cy] 27) := ⟨_, rfl⟩
        rw [← hW2] at CW RS1 OTN ⊢
        clear hW2 a0 a1 a2 a3 a4 a5 a6 a7 a8
        refine CW.out.mono ?_
        rintro ev w4 ⟨rfl, hw, hO⟩
        have OT2 := Lib.hid (OTN.out.trans hO)
        have WR2 := Lib.hid hw
        have RS2 := Lib.hid (RS1.out.keep (fun j hj _ => hO.below.block j hj) hO.below.size (fun _ q _ => q))
        have EQ4 : Hid (l' ++ ty ++ jt L (q + 1) r'.f = l ++ jt L 0 k.f) := Lib.hid (by rw [List.append_assoc]; exact EQ3.out)
        clear hw hO CW RS1 OTN EQ3
        go_wp2
        go_roundw
        case rel => exact ⟨q + 1, r', _, by omega, hr2, by go_num, RS2, WR2, EQ4, OT2, HV2⟩
        case measure => simp [intOf]; omega
      · have hpos : (0 : Int) < (q : Int) := by omega
        have hdpos : decide ((0 : Int) < (q : Int)) = true := decide_eq_true hpos
        have hqn : 0 < q := by omega
        have EQ2 := EQ.out
        rw [show FT.f (.cons oy [y0, y1, y2, y3, y4, y5] vy Ay cy ky r') = .cons oy [y0, y1, y2, y3, y4, y5] vy ky.f r'.f from rfl, jt_more L hq0, TXY.out] at EQ2
        have hle : (l' ++ [44]).length + (MX.txN L (NT.n (⟨oy, [y0, y1, y2, y3, y4, y5], vy, Ay, cy, ky⟩ : NT))).length ≤ 1000000 := by
          have e := congrArg List.length EQ2
          have := HL.out
          have e0 : jt L 0 k.f = MX.joinC (MX.txF L k.f) := rfl
          rw [e0] at e
          simp only [List.length_append, List.length_cons, List.length_nil] at e ⊢
          omega
        have EQ3 := Lib.hid EQ2
        have WB : Hid (Calls Tryz.prog 79 #[.pointer (some ⟨b, 1, none⟩), .int .u8 44] (wr.alloc (.cells #[.int .i64 oy, .int .i64 y0, .int .i64 y1, .int .i64 y2, .int .i64 y3, .int .i64 y4, .int .i64 y5, .int .i64 vy, .slice Ay ky.len cy] 27)) (Wrote1 .nilIface b (.slice A n cp) (l' ++ [44]) (wr.alloc (.cells #[.int .i64 oy, .int .i64 y0, .int .i64 y1, .int .i64 y2, .int .i64 y3, .int .i64 y4, .int .i64 y5, .int .i64 vy, .slice Ay ky.len cy] 27)))) := Lib.hid (writeByte1 b (.slice A n cp) l' 44 _ W1.out (by rw [List.length_append] at hle; simp only [List.length_cons, List.length_nil] at hle; omega))
        have CW := Lib.hid (fun w3 (hw : Wr b (.slice A n cp) (l' ++ [44]) w3) (hO : Only b (wr.alloc (.cells #[.int .i64 oy, .int .i64 y0, .int .i64 y1, .int .i64 y2, .int .i64 y3, .int .i64 y4, .int .i64 y5, .int .i64 vy, .slice Ay ky.len cy] 27)) w3) => IH.out (⟨oy, [y0, y1, y2, y3, y4, y5], vy, Ay, cy, ky⟩ : NT) (l' ++ [44]) w3 hs2 (E0.out.next (OT1.out.trans hO).below) (YO.out.keep (fun j hj _ => hO.below.block j hj) hO.below.size (fun _ q _ => q)) HVY.out hw hle)
        rw [NT.val_lit] at CW
        clear OT EQ EQ2 hle HVY YO TXY XB W1
        generalize MX.txN L (NT.n (⟨oy, [y0, y1, y2, y3, y4, y5], vy, Ay, cy, ky⟩ : NT)) = ty at *
        go_wp2_with fail
        obtain ⟨W2, hW2⟩ : ∃ W2, W2 = wr.alloc (.cells #[.int .i64 oy, .int .i64 y0, .int .i64 y1, .int .i64 y2, .int .i64 y3, .int .i64 y4, .int .i64 y5, .int .i64 vy, .slice Ay ky.len cy] 27) := ⟨_, rfl⟩
        rw [← hW2] at CW RS0 OT1 WB Y0 ⊢
        clear hW2 a0 a1 a2 a3 a4 a5 a6 a7 a8
        refine WB.out.mono ?_
        rintro ev w3 ⟨rfl, hw, hO⟩
        have Y3 := Lib.hid (Y0.out.other hO hyb)
        have OTN := Lib.hid (OT1.out.trans hO)
        have RS1 := Lib.hid (RS0.out.keep (fun j hj _ => hO.below.block j hj) hO.below.size (fun _ q _ => q))
        have CW3 := Lib.hid (CW.out w3 hw hO)
        clear hw hO WB CW Y0 OT1 RS0
        obtain ⟨a0, a1, a2, a3, a4, a5, a6, a7, a8⟩ := Y3.out.cells
        go_wp2_with fail
        refine CW3.out.mono ?_
        rintro ev w4 ⟨rfl, hw, hO⟩
        have OT2 := Lib.hid (OTN.out.trans hO)
        have WR2 := Lib.hid hw
        have RS2 := Lib.hid (RS1.out.keep (fun j hj _ => hO.below.block j hj) hO.below.size (fun _ q _ => q))
        have EQ4 : Hid (l' ++ [44] ++ ty ++ jt L (q + 1) r'.f = l ++ jt L 0 k.f) := Lib.hid (by rw [← EQ3.out]; simp)
        clear hw hO CW3 RS1 OTN EQ3 Y3 a0 a1 a2 a3 a4 a5 a6 a7 a8
        go_wp2
        go_roundw
        case rel => exact ⟨q + 1, r', _, by omega, hr2, by go_num, RS2, WR2, EQ4, OT2, HV2⟩
        case measure => simp [intOf]; omega
    · obtain ⟨rfl, _⟩ := RS.out.end_ hlt
      have hlt' : ¬ (q : Int) < (k.len : Int) := by omega
      have F : Hid (Wd1 b (.slice A n cp) (l ++ MX.joinC (MX.txF L k.f)) w (.returned (.tuple #[])) wr) := Lib.hid (by
        have e := EQ.out
        rw [show FT.f .nil = F.nil from rfl, jt_nil, List.append_nil, show jt L 0 k.f = MX.joinC (MX.txF L k.f) from rfl] at e
        rw [← e]
        exact ⟨rfl, WX.out, O0.out.trans OT.out⟩)
      clear RS WX EQ OT HV X0 E0 O0
      go_wp2
      go_end0
      exact F.out
set_option maxRecDepth 100000 in
set_option maxHeartbeats 8000000 in
theorem part_args108 (b : Nat) (A : Option Addr) (n cp : Nat) (L : List Pr) (N : Nat) (IH0 : WriteOk b A n cp L N) (l : List UInt8) (o x0 x1 x2 x3 x4 x5 v : Int) (A1 : Option Addr) (c1 : Nat) (k : FT) (hk0 : k.size ≤ N) (w : World) (hok : NT.Ok (⟨o, [x0, x1, x2, x3, x4, x5], v, A1, c1, k⟩ : NT) w (fun k => k < b)) (hv : ∀ z ∈ k.f.pre, MX.OkN L z) (h : Wr b (.slice A n cp) l w) (he : WEnv b A n cp L w) (hlen : l.length + (MX.joinC (MX.txF L k.f)).length ≤ 1000000) :
    Calls Tryz.prog 47 #[.pointer (some ⟨b, 0, none⟩), .int .i32 108, .agg #[.int .i64 o, .int .i64 x0, .int .i64 x1, .int .i64 x2, .int .i64 x3, .int .i64 x4, .int .i64 x5, .int .i64 v, .slice A1 k.len c1]] w (Wd1 b (.slice A n cp) (l ++ MX.joinC (MX.txF L k.f)) w) := by
  have IH := Lib.hid IH0
  have O0 := Lib.hid (Only.new h.lt (.cells #[.int .i64 o, .int .i64 x0, .int .i64 x1, .int .i64 x2, .int .i64 x3, .int .i64 x4, .int .i64 x5, .int .i64 v, .slice A1 k.len c1] 27))
  have H0 := Lib.hid (h.keep (below_new w (.cells #[.int .i64 o, .int .i64 x0, .int .i64 x1, .int .i64 x2, .int .i64 x3, .int .i64 x4, .int .i64 x5, .int .i64 v, .slice A1 k.len c1] 27)))
  have X0 : Hid (B9 (w.alloc (.cells #[.int .i64 o, .int .i64 x0, .int .i64 x1, .int .i64 x2, .int .i64 x3, .int .i64 x4, .int .i64 x5, .int .i64 v, .slice A1 k.len c1] 27)) w.heap.size (.int .i64 o) (.int .i64 x0) (.int .i64 x1) (.int .i64 x2) (.int .i64 x3) (.int .i64 x4) (.int .i64 x5) (.int .i64 v) (.slice A1 k.len c1)) := Lib.hid (heap_new _ _)
  have E0 := Lib.hid (he.next O0.out.below)
  have hgb : w.heap.size ≠ b := by have := h.lt; omega
  have hn := hok.kids.few
  have hcap := hok.kids.cap
  dsimp only at hn hcap
  have R0 := Lib.hid ((hok.below (below_new w (.cells #[.int .i64 o, .int .i64 x0, .int .i64 x1, .int .i64 x2, .int .i64 x3, .int .i64 x4, .int .i64 x5, .int .i64 v, .slice A1 k.len c1] 27))).kids.rest)
  have HV := Lib.hid hv
  have HL := Lib.hid hlen
  have hcs := X0.out.cells
  clear h he hok hv hlen IH0
  obtain ⟨W0, hW0⟩ : ∃ W0, W0 = w.alloc (.cells #[.int .i64 o, .int .i64 x0, .int .i64 x1, .int .i64 x2, .int .i64 x3, .int .i64 x4, .int .i64 x5, .int .i64 v, .slice A1 k.len c1] 27) := ⟨_, rfl⟩
  rw [← hW0] at O0 H0 X0 E0 R0 hcs
  obtain ⟨a0, a1, a2, a3, a4, a5, a6, a7, a8⟩ := hcs
  have hb0 := H0.out.lt
  go_enter Tryz.func47, Tryz.ntmps47
  go_upto_region 6 with (fail)
  rw [← hW0]
  clear hW0
  go_wp2
  clear a0 a1 a2 a3 a4 a5 a6 a7 a8
  go_loopw [19] (fun i wr => ∃ (q : Nat) (rs : FT) (l' : List UInt8), q ≤ k.len ∧ rs.size ≤ N ∧ i = .int .i64 q ∧ Hid (Rest wr (fun j => j < b) A1 q rs k.len) ∧ Hid (Wr b (.slice A n cp) l' wr) ∧ Hid (l' ++ jt L q rs.f = l ++ jt L 0 k.f) ∧ Hid (Only b W0 wr) ∧ Hid (∀ z ∈ rs.f.pre, MX.OkN L z)) (fun i _ => k.len - (intOf i).toNat)
  case atStart => exact ⟨0, k, l, Nat.zero_le _, hk0, rfl, R0, H0, Lib.hid rfl, Lib.hid ⟨Below.refl _ _, Lib.OthersKept.refl _ _ _⟩, HV⟩
  case round =>
    rename_i _ wr
    clear R0 H0 HV
    obtain ⟨q, rs, l', hq, hrs, rfl, RS, WX, EQ, OT, HV⟩ := hrel
    by_cases hlt : q < k.len
    · have hlt' : (q : Int) < (k.len : Int) := by omega
      obtain ⟨ad, oy, y0, y1, y2, y3, y4, y5, vy, Ay, cy, ky, r', rfl, rfl, hoky, hnx, hbk, _, z0, z1, z2, z3, z4, z5, z6, z7, z8⟩ := RS.out.open_ hlt
      have hs2 : NT.size (⟨oy, [y0, y1, y2, y3, y4, y5], vy, Ay, cy, ky⟩ : NT) ≤ N := by unfold FT.size at hrs; unfold NT.size; show ky.size + 1 ≤ N; omega
      have hr2 : r'.size ≤ N := by unfold FT.size at hrs; omega
      have BN := Lib.hid (below_new wr (.cells #[.int .i64 oy, .int .i64 y0, .int .i64 y1, .int .i64 y2, .int .i64 y3, .int .i64 y4, .int .i64 y5, .int .i64 vy, .slice Ay ky.len cy] 27))
      have Y0 : Hid (B9 (wr.alloc (.cells #[.int .i64 oy, .int .i64 y0, .int .i64 y1, .int .i64 y2, .int .i64 y3, .int .i64 y4, .int .i64 y5, .int .i64 vy, .slice Ay ky.len cy] 27)) wr.heap.size (.int .i64 oy) (.int .i64 y0) (.int .i64 y1) (.int .i64 y2) (.int .i64 y3) (.int .i64 y4) (.int .i64 y5) (.int .i64 vy) (.slice Ay ky.len cy)) := Lib.hid (heap_new _ _)
      have W1 := Lib.hid (WX.out.keep BN.out)
      have ON := Only.new WX.out.lt (.cells #[.int .i64 oy, .int .i64 y0, .int .i64 y1, .int .i64 y2, .int .i64 y3, .int .i64 y4, .int .i64 y5, .int .i64 vy, .slice Ay ky.len cy] 27)
      have OT1 := Lib.hid (OT.out.trans ON)
      have RS0 := Lib.hid (hnx.below BN.out)
      have YO := Lib.hid (hoky.below BN.out)
      have HV2 : Hid (∀ z ∈ r'.f.pre, MX.OkN L z) := Lib.hid (fun z hz => HV.out z (by show z ∈ ME.F.pre (.cons _ _ _ _ _); simp only [ME.F.pre, List.mem_cons, List.mem_append]; exact .inr (.inr hz)))
      have HVY : Hid (∀ z ∈ (NT.n (⟨oy, [y0, y1, y2, y3, y4, y5], vy, Ay, cy, ky⟩ : NT)).pre, MX.OkN L z) := Lib.hid (fun z hz => HV.out z (by
        show z ∈ ME.F.pre (.cons _ _ _ _ _)
        rcases List.mem_cons.1 hz with e | e
        · rw [e]; exact List.mem_cons_self
        · simp only [ME.F.pre, List.mem_cons, List.mem_append]; exact .inr (.inl e)))
      have hbw : b < (wr.alloc (.cells #[.int .i64 oy, .int .i64 y0, .int .i64 y1, .int .i64 y2, .int .i64 y3, .int .i64 y4, .int .i64 y5, .int .i64 vy, .slice Ay ky.len cy] 27)).heap.size := W1.out.lt
      have hyb : wr.heap.size ≠ b := by have := WX.out.lt; omega
      have XB := Lib.hid (X0.out.other OT.out hgb)
      have TXY : Hid (MX.txN L ⟨oy, [y0, y1, y2, y3, y4, y5], vy, ky.f⟩ = MX.txN L (NT.n (⟨oy, [y0, y1, y2, y3, y4, y5], vy, Ay, cy, ky⟩ : NT))) := Lib.hid rfl
      clear hnx hoky HV RS ON WX
      obtain ⟨a0, a1, a2, a3, a4, a5, a6, a7, a8⟩ := XB.out.cells
      by_cases hq0 : q = 0
      · have hdpos : decide ((0 : Int) < (q : Int)) = false := decide_eq_false (by omega)
        have hqn : ¬ 0 < q := by omega
        have EQ2 := EQ.out
        rw [show FT.f (.cons oy [y0, y1, y2, y3, y4, y5] vy Ay cy ky r') = .cons oy [y0, y1, y2, y3, y4, y5] vy ky.f r'.f from rfl, jt_zero L hq0, TXY.out] at EQ2
        have hle : l'.length + (MX.txN L (NT.n (⟨oy, [y0, y1, y2, y3, y4, y5], vy, Ay, cy, ky⟩ : NT))).length ≤ 1000000 := by
          have e := congrArg List.length EQ2
          have := HL.out
          have e0 : jt L 0 k.f = MX.joinC (MX.txF L k.f) := rfl
          rw [e0] at e
          simp only [List.length_append] at e
          omega
        have EQ3 := Lib.hid EQ2
        have CW := Lib.hid (IH.out (⟨oy, [y0, y1, y2, y3, y4, y5], vy, Ay, cy, ky⟩ : NT) l' (wr.alloc (.cells #[.int .i64 oy, .int .i64 y0, .int .i64 y1, .int .i64 y2, .int .i64 y3, .int .i64 y4, .int .i64 y5, .int .i64 vy, .slice Ay ky.len cy] 27)) hs2 (E0.out.next OT1.out.below) YO.out HVY.out W1.out hle)
        have RS1 := RS0
        have OTN := OT1
        rw [NT.val_lit] at CW
        clear RS0 OT OT1 EQ EQ2 hle HVY YO TXY XB W1 hq0
        generalize MX.txN L (NT.n (⟨oy, [y0, y1, y2, y3, y4, y5], vy, Ay, cy, ky⟩ : NT)) = ty at *
        go_wp2_with fail
        obtain ⟨W2, hW2⟩ : ∃ W2, W2 = wr.alloc (.cells #[.int .i64 oy, .int .i64 y0, .int .i64 y1, .int .i64 y2, .int .i64 y3, .int .i64 y4, .int .i64 y5, .int .i64 vy, .slice Ay ky.len cy] 27) := ⟨_, rfl⟩
        rw [← hW2] at CW RS1 OTN ⊢
        clear hW2 a0 a1 a2 a3 a4 a5 a6 a7 a8
        refine CW.out.mono ?_
        rintro ev w4 ⟨rfl, hw, hO⟩
        have OT2 := Lib.hid (OTN.out.trans hO)
        have WR2 := Lib.hid hw
        have RS2 := Lib.hid (RS1.out.keep (fun j hj _ => hO.below.block j hj) hO.below.size (fun _ q _ => q))
        have EQ4 : Hid (l' ++ ty ++ jt L (q + 1) r'.f = l ++ jt L 0 k.f) := Lib.hid (by rw [List.append_assoc]; exact EQ3.out)
        clear hw hO CW RS1 OTN EQ3
        go_wp2
        go_roundw
        case rel => exact ⟨q + 1, r', _, by omega, hr2, by go_num, RS2, WR2, EQ4, OT2, HV2⟩
        case measure => simp [intOf]; omega
      · have hpos : (0 : Int) < (q : Int) := by omega
        have hdpos : decide ((0 : Int) < (q : Int)) = true := decide_eq_true hpos
        have hqn : 0 < q := by omega
        have EQ2 := EQ.out
        rw [show FT.f (.cons oy [y0, y1, y2, y3, y4, y5] vy Ay cy ky r') = .cons oy [y0, y1, y2, y3, y4, y5] vy ky.f r'.f from rfl, jt_more L hq0, TXY.out] at EQ2
        have hle : (l' ++ [44]).length + (MX.txN L (NT.n (⟨oy, [y0, y1, y2, y3, y4, y5], vy, Ay, cy, ky⟩ : NT))).length ≤ 1000000 := by
          have e := congrArg List.length EQ2
          have := HL.out
          have e0 : jt L 0 k.f = MX.joinC (MX.txF L k.f) := rfl
          rw [e0] at e
          simp only [List.length_append, List.length_cons, List.length_nil] at e ⊢
          omega
        have EQ3 := Lib.hid EQ2
        have WB : Hid (Calls Tryz.prog 79 #[.pointer (some ⟨b, 1, none⟩), .int .u8 44] (wr.alloc (.cells #[.int .i64 oy, .int .i64 y0, .int .i64 y1, .int .i64 y2, .int .i64 y3, .int .i64 y4, .int .i64 y5, .int .i64 vy, .slice Ay ky.len cy] 27)) (Wrote1 .nilIface b (.slice A n cp) (l' ++ [44]) (wr.alloc (.cells #[.int .i64 oy, .int .i64 y0, .int .i64 y1, .int .i64 y2, .int .i64 y3, .int .i64 y4, .int .i64 y5, .int .i64 vy, .slice Ay ky.len cy] 27)))) := Lib.hid (writeByte1 b (.slice A n cp) l' 44 _ W1.out (by rw [List.length_append] at hle; simp only [List.length_cons, List.length_nil] at hle; omega))
        have CW := Lib.hid (fun w3 (hw : Wr b (.slice A n cp) (l' ++ [44]) w3) (hO : Only b (wr.alloc (.cells #[.int .i64 oy, .int .i64 y0, .int .i64 y1, .int .i64 y2, .int .i64 y3, .int .i64 y4, .int .i64 y5, .int .i64 vy, .slice Ay ky.len cy] 27)) w3) => IH.out (⟨oy, [y0, y1, y2, y3, y4, y5], vy, Ay, cy, ky⟩ : NT) (l' ++ [44]) w3 hs2 (E0.out.next (OT1.out.trans hO).below) (YO.out.keep (fun j hj _ => hO.below.block j hj) hO.below.size (fun _ q _ => q)) HVY.out hw hle)
        rw [NT.val_lit] at CW
        clear OT EQ EQ2 hle HVY YO TXY XB W1
        generalize MX.txN L (NT.n (⟨oy, [y0, y1, y2, y3, y4, y5], vy, Ay, cy, ky⟩ : NT)) = ty at *
        go_wp2_with fail
        obtain ⟨W2, hW2⟩ : ∃ W2, W2 = wr.alloc (.cells #[.int .i64 oy, .int .i64 y0, .int .i64 y1, .int .i64 y2, .int .i64 y3, .int .i64 y4, .int .i64 y5, .int .i64 vy, .slice Ay ky.len cy] 27) := ⟨_, rfl⟩
        rw [← hW2] at CW RS0 OT1 WB Y0 ⊢
        clear hW2 a0 a1 a2 a3 a4 a5 a6 a7 a8
        refine WB.out.mono ?_
        rintro ev w3 ⟨rfl, hw, hO⟩
        have Y3 := Lib.hid (Y0.out.other hO hyb)
        have OTN := Lib.hid (OT1.out.trans hO)
        have RS1 := Lib.hid (RS0.out.keep (fun j hj _ => hO.below.block j hj) hO.below.size (fun _ q _ => q))
        have CW3 := Lib.hid (CW.out w3 hw hO)
        clear hw hO WB CW Y0 OT1 RS0
        obtain ⟨a0, a1, a2, a3, a4, a5, a6, a7, a8⟩ := Y3.out.cells
        go_wp2_with fail
        refine CW3.out.mono ?_
        rintro ev w4 ⟨rfl, hw, hO⟩
        have OT2 := Lib.hid (OTN.out.trans hO)
        have WR2 := Lib.hid hw
        have RS2 := Lib.hid (RS1.out.keep (fun j hj _ => hO.below.block j hj) hO.below.size (fun _ q _ => q))
        have EQ4 : Hid (l' ++ [44] ++ ty ++ jt L (q + 1) r'.f = l ++ jt L 0 k.f) := Lib.hid (by rw [← EQ3.out]; simp)
        clear hw hO CW3 RS1 OTN EQ3 Y3 a0 a1 a2 a3 a4 a5 a6 a7 a8
        go_wp2
        go_roundw
        case rel => exact ⟨q + 1, r', _, by omega, hr2, by go_num, RS2, WR2, EQ4, OT2, HV2⟩
        case measure => simp [intOf]; omega
    · obtain ⟨rfl, _⟩ := RS.out.end_ hlt
      have hlt' : ¬ (q : Int) < (k.len : Int) := by omega
      have F : Hid (Wd1 b (.slice A n cp) (l ++ MX.joinC (MX.txF L k.f)) w (.returned (.tuple #[])) wr) := Lib.hid (by
        have e := EQ.out
        rw [show FT.f .nil = F.nil from rfl, jt_nil, List.append_nil, show jt L 0 k.f = MX.joinC (MX.txF L k.f) from rfl] at e
        rw [← e]
        exact ⟨rfl, WX.out, O0.out.trans OT.out⟩)
      clear RS WX EQ OT HV X0 E0 O0
      go_wp2
      go_end0
      exact F.out
end Go.Proofs.YtcokplikmjegcaaGreatDoor
