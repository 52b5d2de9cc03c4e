/- The package's scanner where it is nil, and catalog.Scan with it: no claim of its own. -/
import Derived.Test.YtdlpolnnhhnecaaDoorCScan
namespace Go.Proofs.YtdlpolnnhhnecaaDoor
open Go.RowKit
open MC (Pr)
set_option maxRecDepth 100000 in
set_option maxHeartbeats 2000000 in
theorem fail_nil (x : Int) (w : World) : Calls Tryd.prog 49 #[.pointer none, .int .i64 x] w (fun e w' => e = .returned (.tuple #[]) ∧ w = w') := by
  go_enter Tryd.func49, Tryd.ntmps49
  go_wp2_with fail
  refine (err_nil _).mono ?_
  rintro e w' ⟨rfl, rfl⟩
  go_wp2
  exact bodyPost_ret (v := .tuple #[]) (by simp [results, Tryd.results49, go_sem]) rfl ⟨rfl, rfl⟩
set_option maxRecDepth 100000 in
set_option maxHeartbeats 2000000 in
theorem refuse_nil (w : World) : Calls Tryd.prog 74 #[.pointer none] w (fun e w' => e = .returned (.tuple #[]) ∧ w = w') := by
  go_enter Tryd.func74, Tryd.ntmps74
  go_wp2_with fail
  refine (left_nil _).mono ?_
  rintro e w' ⟨rfl, rfl⟩
  go_wp2_with fail
  refine (fail_nil _ _).mono ?_
  rintro e w' ⟨rfl, rfl⟩
  go_wp2
  exact bodyPost_ret (v := .tuple #[]) (by simp [results, Tryd.results74, go_sem]) rfl ⟨rfl, rfl⟩
set_option maxRecDepth 100000 in
set_option maxHeartbeats 2000000 in
theorem accept_nil (m : ByteArray) (w : World) : Calls Tryd.prog 51 #[.pointer none, .string m] w (Gives (.bool false) w) := by
  go_enter Tryd.func51, Tryd.ntmps51
  go_wp2_with fail
  refine (peek_nil _).mono ?_
  rintro e w1 ⟨rfl, hb⟩
  have B1 := Lib.hid (hb.trans ((below_new w1 (.cells #[.int .i64 0, .string ⟨#[]⟩, .int .i64 0, .int .i64 0] 57)).mono hb.size))
  clear hb
  unfold aggT
  go_wp2
  go_ret
  exact ⟨rfl, B1.out⟩
set_option maxRecDepth 100000 in
set_option maxHeartbeats 2000000 in
theorem expect_nil (m : ByteArray) (w : World) : Calls Tryd.prog 50 #[.pointer none, .string m] w (Gives (.tuple #[]) w) := by
  go_enter Tryd.func50, Tryd.ntmps50
  go_wp2_with fail
  refine (accept_nil m _).mono ?_
  rintro e w1 ⟨rfl, hb⟩
  have B1 := Lib.hid hb
  clear hb
  go_wp2_with fail
  refine (refuse_nil _).mono ?_
  rintro e w2 ⟨rfl, rfl⟩
  go_wp2
  go_end0
  exact ⟨rfl, B1.out⟩
set_option maxRecDepth 100000 in
set_option maxHeartbeats 2000000 in
theorem name_nil (w : World) : Calls Tryd.prog 76 #[.pointer none] w (Gives (.string ⟨#[]⟩) w) := by
  have F0 := field_0
  have F1 := field_1
  go_enter Tryd.func76, Tryd.ntmps76
  go_wp2_with fail
  refine (peek_nil _).mono ?_
  rintro e w1 ⟨rfl, hb⟩
  have B1 := Lib.hid hb
  clear hb
  unfold aggT
  go_wp2_with fail
  refine (refuse_nil _).mono ?_
  rintro e w2 ⟨rfl, rfl⟩
  go_wp2
  go_ret
  exact ⟨rfl, B1.out⟩
set_option maxRecDepth 100000 in
set_option maxHeartbeats 4000000 in
theorem scanEl_nil (A : Option Addr) (n cp : Nat) (L : List Pr) (hL : NoEmpty L) (B : Nat) (w : World) (hP : ∀ w', Below w.heap.size w w' → Prs w' A n cp L) :
    Calls Tryd.prog 52 #[.slice A n cp, .pointer none, .pointer (some ⟨B, 0, none⟩)] w (Gives (.tuple #[]) w) := by
  have FN := Lib.hid (fun w' (hb : Below w.heap.size w w') => find_any A n cp L [] w' (hP w' hb))
  unfold NoEmpty at hL
  rw [hL] at FN
  unfold fndV at FN
  have e0 : str [] = (⟨#[]⟩ : ByteArray) := rfl
  rw [e0] at FN
  clear e0 hL hP
  go_enter Tryd.func52, Tryd.ntmps52
  go_wp2_with fail
  refine (name_nil _).mono ?_
  rintro q1 w1 ⟨rfl, hb⟩
  have B1 := Lib.hid hb
  clear hb
  go_wp2_with fail
  refine (FN.out _ B1.out).mono ?_
  rintro q2 w2 ⟨rfl, hb⟩
  have B2 := Lib.hid (B1.out.trans (hb.mono B1.out.size))
  clear hb B1 FN
  go_wp2_with fail
  refine (fail_nil _ _).mono ?_
  rintro q3 w3 ⟨rfl, rfl⟩
  go_wp2
  go_end0
  exact ⟨rfl, B2.out⟩
set_option maxRecDepth 100000 in
set_option maxHeartbeats 8000000 in
/-- A nil scanner: no products, no panic. -/
theorem scan_nil (A : Option Addr) (n cp : Nat) (L : List Pr) (w : World) (hP : Prs w A n cp L) (hc : MC.chkL L = 0) :
    Calls Tryd.prog 30 #[.slice A n cp, .pointer none] w (Gives (aggB MC.Z6) w) := by
  have B0 := Lib.hid (below_new w (.cells #[.int .i64 0, .int .i64 0, .int .i64 0, .int .i64 0, .int .i64 0, .int .i64 0] 29))
  have R0 := Lib.hid (BB.new w 29 0 0 0 0 0 0)
  have HP := Lib.hid (fun w' (hb : Below w.heap.size w w') => hP.keep hb)
  have CK := Lib.hid (fun w' (hb : Below w.heap.size w w') => check_any A n cp L w' (hP.keep hb))
  rw [hc] at CK
  have HNE := Lib.hid (no_empty (MC.chk_good hc))
  clear hP hc
  go_enter Tryd.func30, Tryd.ntmps30
  go_wp2_with fail
  refine (CK.out _ B0.out).mono ?_
  rintro q1 w1 ⟨rfl, hb⟩
  have B1 := Lib.hid (B0.out.trans (hb.mono B0.out.size))
  have R1 := Lib.hid (R0.out.keep hb R0.out.lt)
  clear hb B0 R0 CK
  have B2 := Lib.hid (B1.out.trans ((below_new w1 (.cells #[.int .i64 0, .int .i64 0, .int .i64 0, .int .i64 0, .int .i64 0, .int .i64 0] 29)).mono B1.out.size))
  have R2 := Lib.hid (R1.out.alloc (.cells #[.int .i64 0, .int .i64 0, .int .i64 0, .int .i64 0, .int .i64 0, .int .i64 0] 29))
  clear B1 R1
  go_wp2_with fail
  generalize w1.heap.size = B at *
  refine (expect_nil _ _).mono ?_
  rintro q2 w2 ⟨rfl, hb⟩
  have B3 := Lib.hid (B2.out.trans (hb.mono B2.out.size))
  have R3 := Lib.hid (R2.out.keep hb R2.out.lt)
  clear hb B2 R2
  go_wp2_with fail
  refine (accept_nil _ _).mono ?_
  rintro q3 w3 ⟨rfl, hb⟩
  have B4 := Lib.hid (B3.out.trans (hb.mono B3.out.size))
  have R4 := Lib.hid (R3.out.keep hb R3.out.lt)
  clear hb B3 R3
  have EL := Lib.hid (scanEl_nil A n cp L HNE.out B w3 (fun w' hb => HP.out w' (B4.out.trans (hb.mono B4.out.size))))
  go_wp2_with fail
  refine EL.out.mono ?_
  rintro q4 w4 ⟨rfl, hb⟩
  have B5 := Lib.hid (B4.out.trans (hb.mono B4.out.size))
  have R5 := Lib.hid (R4.out.keep hb R4.out.lt)
  clear hb B4 R4 EL HP HNE
  go_wp2_with fail
  go_loopw [24] (fun _ wr => Below w.heap.size w wr ∧ BB wr w.heap.size 29 [0, 0, 0, 0, 0, 0]) (fun _ wr => 0)
  case atStart => exact ⟨B5.out, R5.out⟩
  case round =>
    rename_i _ wr
    have B6 := Lib.hid hrel.1
    have R6 := Lib.hid hrel.2
    clear hrel B5 R5
    go_wp2_with fail
    refine (accept_nil _ _).mono ?_
    rintro q5 w5 ⟨rfl, hb⟩
    have B7 := Lib.hid (B6.out.trans (hb.mono B6.out.size))
    have R7 := Lib.hid (R6.out.keep hb R6.out.lt)
    clear hb B6 R6
    go_wp2_with fail
    refine (expect_nil _ _).mono ?_
    rintro q6 w6 ⟨rfl, hb⟩
    have B8 := Lib.hid (B7.out.trans (hb.mono B7.out.size))
    have R8 := Lib.hid (R7.out.keep hb R7.out.lt)
    clear hb B7 R7
    go_wp2_with fail
    refine (err_nil _).mono ?_
    rintro q7 w7 ⟨rfl, rfl⟩
    obtain ⟨r0, r1, r2, r3, r4, r5⟩ := cells6 R8.out
    obtain ⟨g0, g1, g2, g3, g4, g5⟩ := free6 R8.out
    have hsz := R8.out.lt
    go_wp2_with fail
    refine bodyPost_ret (v := .agg #[.int .i64 0, .int .i64 0, .int .i64 0, .int .i64 0, .int .i64 0, .int .i64 0]) (by simp [results, Tryd.results30, go_sem, r0, r1, r2, r3, r4, r5]) rfl ?_
    exact ⟨rfl, below_six B8.out w.heap.size (Nat.le_refl _) _ _ _ _ _ _⟩
theorem scan_nil_lit (A : Option Addr) (n cp : Nat) (L : List Pr) (w : World) (hP : Prs w A n cp L) (hc : MC.chkL L = 0) :
    Calls Tryd.prog 30 #[.slice A n cp, .pointer none] w (Gives (.agg #[.int .i64 0, .int .i64 0, .int .i64 0, .int .i64 0, .int .i64 0, .int .i64 0]) w) := scan_nil A n cp L w hP hc
end Go.Proofs.YtdlpolnnhhnecaaDoor
