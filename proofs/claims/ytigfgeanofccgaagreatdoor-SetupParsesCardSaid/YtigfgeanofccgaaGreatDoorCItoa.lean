/- The decimal text of a digit; fits; the reference's Fits: no claim of its own. -/
import Derived.Test.YtigfgeanofccgaaGreatDoorCRSum
namespace Go.Proofs.YtigfgeanofccgaaGreatDoor
open Go.RowKit
open MC (Pr)
/-- A call hands back v and turns nothing at all. -/
def Same (v : Value) (w : World) (e : Ending) (w' : World) : Prop := e = .returned v ∧ w' = w
theorem dig_lit (k : Nat) (h : k < 10) : str [UInt8.ofNat (48 + k)] = (⟨#[48, 49, 50, 51, 52, 53, 54, 55, 56, 57, 97, 98, 99, 100, 101, 102, 103, 104, 105, 106, 107, 108, 109, 110, 111, 112, 113, 114, 115, 116, 117, 118, 119, 120, 121, 122]⟩ : ByteArray).extract k (k + 1) := by
  have : k = 0 ∨ k = 1 ∨ k = 2 ∨ k = 3 ∨ k = 4 ∨ k = 5 ∨ k = 6 ∨ k = 7 ∨ k = 8 ∨ k = 9 := by omega
  rcases this with rfl | rfl | rfl | rfl | rfl | rfl | rfl | rfl | rfl | rfl <;> rfl
set_option maxRecDepth 100000 in
theorem small_dig (k : Nat) (h : k < 10) (w : World) : Calls Tryz.prog 94 #[.int .i64 k] w (Same (.string (str [UInt8.ofNat (48 + k)])) w) := by
  have E := Lib.hid (dig_lit k h)
  rw [E.out]
  go_enter Tryz.func94, Tryz.ntmps94
  go_wp2
  go_ret
  exact ⟨rfl, rfl⟩
set_option maxRecDepth 100000 in
theorem fmtInt_dig (k : Nat) (h : k < 10) (w : World) : Calls Tryz.prog 74 #[.int .i64 k, .int .i64 10] w (Same (.string (str [UInt8.ofNat (48 + k)])) w) := by
  have S := Lib.hid (fun w' => small_dig k h w')
  have d1 : decide (0 ≤ (k : Int)) = true := decide_eq_true (by omega)
  have d2 : decide ((k : Int) < 100) = true := decide_eq_true (by omega)
  generalize str [UInt8.ofNat (48 + k)] = s at *
  go_enter Tryz.func74, Tryz.ntmps74
  go_wp2_with fail
  refine (S.out _).mono ?_
  rintro e w1 ⟨rfl, rfl⟩
  go_wp2
  go_ret
  exact ⟨rfl, rfl⟩
/-- Nothing of a product that the list lacks. -/
def restB (n : Nat) (b : List Int) : Bool := (List.range 6).all fun j => decide (j < n) || decide (MB.at_ b j = 0)
theorem rest_iff {n : Nat} {b : List Int} : restB n b = true ↔ ∀ j, j < 6 → n ≤ j → MB.at_ b j = 0 := by
  unfold restB
  simp only [List.all_eq_true, List.mem_range, Bool.or_eq_true, decide_eq_true_eq]
  constructor
  · intro h j h6 hn
    rcases h j h6 with g | g
    · omega
    · exact g
  · intro h j h6
    rcases Nat.lt_or_ge j n with g | g
    · exact .inl g
    · exact .inr (h j h6 g)
theorem rest_bad {n k : Nat} {b : List Int} (hk : k < 6) (hn : n ≤ k) (h : MB.at_ b k ≠ 0) : restB n b = false := by
  cases e : restB n b with
  | false => rfl
  | true => exact absurd (rest_iff.1 e k hk hn) h
theorem rest_good {n : Nat} {b : List Int} (h : ∀ j, n ≤ j → j < 6 → MB.at_ b j = 0) : restB n b = true := rest_iff.2 fun j h1 h2 => h j h2 h1
theorem fits_iff {L : List Pr} {b : List Int} (hb : b.length = 6) : MC.Fits L b ↔ MC.chkL L = 0 ∧ MB.okB b = true ∧ restB L.length b = true := by
  unfold MC.Fits
  rw [rest_iff]
  constructor
  · rintro ⟨h1, h2, h3⟩; exact ⟨h1, h2, fun j _ hj => h3 j hj⟩
  · rintro ⟨h1, h2, h3⟩
    refine ⟨h1, h2, fun j hj => ?_⟩
    by_cases h6 : j < 6
    · exact h3 j h6 hj
    · unfold MB.at_; rw [List.getD_eq_getElem?_getD, List.getElem?_eq_none (by omega)]; rfl
/-- What fits answers. -/
def fitB (n : Nat) (b : List Int) : Bool := restB n b && MB.okB b
theorem fit_no {n : Nat} {b : List Int} (h : restB n b = false) : fitB n b = false := by unfold fitB; rw [h]; rfl
theorem fit_ok {n : Nat} {b : List Int} (h : restB n b = true) : fitB n b = MB.okB b := by unfold fitB; rw [h]; rfl
theorem slice_bun (g n : Nat) (hn : n ≤ 6) : ∃ o r : Nat, n + r = 6 ∧ (0 < r → o = n) ∧ ∀ w : World, (Instr.sliceAt 40 (.pointer (some ⟨g, 0, none⟩)) (some (.int .i64 n)) none none).run Tryz.prog w = .ok (.slice (some ⟨g, o, none⟩) r r) w := by
  have : n = 0 ∨ n = 1 ∨ n = 2 ∨ n = 3 ∨ n = 4 ∨ n = 5 ∨ n = 6 := by omega
  rcases this with rfl | rfl | rfl | rfl | rfl | rfl | rfl
  · exact ⟨0, 6, rfl, fun _ => rfl, fun w => by kernel_rfl⟩
  · exact ⟨1, 5, rfl, fun _ => rfl, fun w => by kernel_rfl⟩
  · exact ⟨2, 4, rfl, fun _ => rfl, fun w => by kernel_rfl⟩
  · exact ⟨3, 3, rfl, fun _ => rfl, fun w => by kernel_rfl⟩
  · exact ⟨4, 2, rfl, fun _ => rfl, fun w => by kernel_rfl⟩
  · exact ⟨5, 1, rfl, fun _ => rfl, fun w => by kernel_rfl⟩
  · exact ⟨0, 0, rfl, fun h => absurd h (by decide), fun w => by kernel_rfl⟩
/-- What the reference's Fits answers. -/
def fitsB (L : List Pr) (b : List Int) : Bool := restB L.length b && (decide (MC.chkL L = 0) && MB.okB b)
theorem fitsB_iff {L : List Pr} {b : List Int} (hb : b.length = 6) : fitsB L b = true ↔ MC.Fits L b := by
  rw [fits_iff hb]
  unfold fitsB
  rw [Bool.and_eq_true, Bool.and_eq_true, decide_eq_true_eq]
  exact ⟨fun ⟨h1, h2, h3⟩ => ⟨h2, h3, h1⟩, fun ⟨h1, h2, h3⟩ => ⟨h3, h1, h2⟩⟩
theorem fitsB_no {L : List Pr} {b : List Int} (h : restB L.length b = false) : fitsB L b = false := by unfold fitsB; rw [h]; rfl
theorem fitsB_bad {L : List Pr} {b : List Int} (h : MC.chkL L ≠ 0) : fitsB L b = false := by unfold fitsB; rw [decide_eq_false h]; simp
theorem fitsB_ok {L : List Pr} {b : List Int} (h1 : restB L.length b = true) (h : MC.chkL L = 0) : fitsB L b = MB.okB b := by unfold fitsB; rw [h1, decide_eq_true h]; simp
end Go.Proofs.YtigfgeanofccgaaGreatDoor
