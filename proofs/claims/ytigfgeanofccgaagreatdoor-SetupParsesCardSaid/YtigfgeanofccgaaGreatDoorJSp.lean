/- USplit, URNum, URDig, URNums, URSplit, joined: no claim of its own. -/
import Derived.Test.YtigfgeanofccgaaGreatDoorJSh
import Derived.Test.YtigfgeanofccgaaGreatDoorJUb
import Derived.Test.YtigfgeanofccgaaGreatDoorJMu
import Derived.Lib.IndexBytes
import Derived.IntWalk
import Derived.Test.YtigfgeanofccgaaGreatDoorJLw
import Derived.Lib.AppendIntMem
import Derived.Test.YtigfgeanofccgaaGreatDoorJCc
import Derived.Deep.DeepCutAuto
import Derived.RangeFuncBox
namespace Go.Proofs.YtigfgeanofccgaaGreatDoor
open Go.Shelf Go.RowKit Go.Lib
/-- The parts, as the library's own text counts them. -/
theorem split_K (c : UInt8) : ∀ l : List UInt8, MU.splitB c l = Lib.splitK [c] 0 (l.count c) l
  | [] => rfl
  | x :: r => by
    have ih := split_K c r
    by_cases hx : x = c
    · subst hx
      rw [MU.split_sep, ih, List.count_cons_self, Lib.splitK]
      have hix : Lib.index (x :: r) [x] = 0 := by rw [Lib.index]; simp [List.isPrefixOf]
      rw [hix]
      simp
    · have hp : ([c] : List UInt8).isPrefixOf (x :: r) = false := by simp [List.isPrefixOf, Ne.symm hx]
      have hix : Lib.index (x :: r) [c] = if Lib.index r [c] == -1 then -1 else Lib.index r [c] + 1 := by rw [Lib.index, hp]; simp
      have hcn : (x :: r).count c = r.count c := by rw [List.count_cons]; simp [hx]
      rw [hcn]
      cases hk : r.count c with
      | zero =>
        rw [hk] at ih
        rw [Lib.splitK] at ih ⊢
        exact MU.split_cons hx ih
      | succ k =>
        rw [hk] at ih
        rw [Lib.splitK] at ih ⊢
        by_cases hm : Lib.index r [c] = -1
        · rw [if_pos (beq_iff_eq.2 hm)] at ih
          rw [hix, if_pos (beq_iff_eq.2 hm), if_pos (by decide)]
          exact MU.split_cons hx ih
        · have hge := Lib.index_ge r [c]
          obtain ⟨j, hj⟩ : ∃ j : Nat, Lib.index r [c] = j := ⟨(Lib.index r [c]).toNat, by omega⟩
          rw [if_neg (fun e => hm (beq_iff_eq.1 e)), hj] at ih
          rw [hix, if_neg (fun e => hm (beq_iff_eq.1 e)), hj, if_neg (by rw [beq_iff_eq]; omega)]
          have e1 : ((j : Int) + 1).toNat = j + 1 := by omega
          rw [MU.split_cons hx ih, e1]
          simp
/-- What lies ahead of the first separator, and behind it. -/
theorem split_cut (c : UInt8) : ∀ l : List UInt8, MU.splitB c l = if 0 ≤ Lib.index l [c] then l.take (Lib.index l [c]).toNat :: MU.splitB c (l.drop ((Lib.index l [c]).toNat + 1)) else [l]
  | [] => rfl
  | x :: r => by
    have ih := split_cut c r
    by_cases hx : x = c
    · subst hx
      have hix : Lib.index (x :: r) [x] = 0 := by rw [Lib.index]; simp [List.isPrefixOf]
      rw [MU.split_sep, hix]
      simp
    · have hp : ([c] : List UInt8).isPrefixOf (x :: r) = false := by simp [List.isPrefixOf, Ne.symm hx]
      have hix : Lib.index (x :: r) [c] = if Lib.index r [c] == -1 then -1 else Lib.index r [c] + 1 := by rw [Lib.index, hp]; simp
      have hge := Lib.index_ge r [c]
      by_cases hm : Lib.index r [c] = -1
      · rw [hm, if_neg (by decide)] at ih
        rw [hix, if_pos (beq_iff_eq.2 hm), if_neg (by decide)]
        exact MU.split_cons hx ih
      · obtain ⟨j, hj⟩ : ∃ j : Nat, Lib.index r [c] = j := ⟨(Lib.index r [c]).toNat, by omega⟩
        rw [hj, if_pos (by omega)] at ih
        rw [hix, if_neg (fun e => hm (beq_iff_eq.1 e)), hj, if_pos (by omega)]
        have e1 : ((j : Int) + 1).toNat = j + 1 := by omega
        have e2 : ((j : Int)).toNat = j := by omega
        rw [e2] at ih
        rw [MU.split_cons hx ih, e1]
        simp
theorem info9 : (Tryz.prog.info? 9).map (fun i => (i.zero, i.size, i.bytes)) = some (some (.string ByteArray.empty), 1, 16) := by kernel_rfl
/-- A call hands back a new slice that reads as ws. -/
def GivesWs (ws : List (List UInt8)) (w : World) (e : Ending) (w' : World) : Prop := ∃ n, e = .returned (.slice (some ⟨w.heap.size, 0, none⟩) n n) ∧ Lst strE w' (some ⟨w.heap.size, 0, none⟩) n n ws ∧ Below w.heap.size w w' ∧ w'.heap.size = w.heap.size + 1
theorem strE_all (ws : List (List UInt8)) : strE.all ws = ws.map fun x => Value.string (str x) := by
  unfold El.all
  induction ws with
  | nil => rfl
  | cons x r ih => simp only [List.flatMap_cons, List.map_cons]; rw [ih]; rfl
set_option maxRecDepth 100000 in
set_option maxHeartbeats 2000000 in
theorem split_any (s : ByteArray) (c : UInt8) (w : World) (hs : s.size < 4294967281) :
    Calls Tryz.prog 30 #[.string s, .string ⟨#[c]⟩] w (GivesWs (MU.splitB c s.data.toList) w) := by
  have L := lay146
  have h1 : 1 ≤ (⟨#[c]⟩ : ByteArray).size := Nat.le_refl 1
  have hle := Lib.countB_le ⟨#[c]⟩ h1 s.size s (Nat.le_refl _)
  have hlen := Lib.splitB_all ⟨#[c]⟩ h1 0 _ s rfl
  have cc := Any.strings_genSplit_core (P := Tryz.prog) (ρ := lay146_ren) { L with } info9 s ⟨#[c]⟩ 0 (-1) (Lib.countB s ⟨#[c]⟩ + 1) w hs h1 (Nat.zero_le _)
    (fun x cs _ => (Any.strings_Index_one { L with } x c _).mono fun e w' ⟨he, hw⟩ => ⟨by rw [he]; show Ending.returned (.int .i64 (Lib.indexByte x.data.toList c)) = .returned (.int .i64 (Lib.index x.data.toList [c])); rw [Lib.index_one], hw⟩)
    ((Any.strings_Count_one { L with } s c w).mono fun e w' ⟨he, hw⟩ => ⟨by
      rw [he]
      show _ = Ending.returned (Value.int .i64 ((Lib.count s.data.toList [c] : Nat) : Int))
      rw [Lib.count_one]; rfl, hw⟩) (by decide) (by decide) (by rw [if_pos (by decide)]; omega)
  rw [Nat.add_sub_cancel, hlen] at cc
  have e2 : Lib.cellsOf (Lib.splitB ⟨#[c]⟩ 0 (Lib.countB s ⟨#[c]⟩) s) (Lib.countB s ⟨#[c]⟩ + 1) = ((Lib.splitB ⟨#[c]⟩ 0 (Lib.countB s ⟨#[c]⟩) s).map Value.string).toArray := by rw [← hlen]; exact Lib.cellsOf_full _
  rw [e2] at cc
  have hdat := Lib.splitB_data ⟨#[c]⟩ 0 (Lib.countB s ⟨#[c]⟩) s
  have hcn : Lib.countB s ⟨#[c]⟩ = s.data.toList.count c := Lib.count_one c _
  have hws : (Lib.splitB ⟨#[c]⟩ 0 (Lib.countB s ⟨#[c]⟩) s).map (·.data.toList) = MU.splitB c s.data.toList := by rw [hdat, split_K, hcn]
  have hrow : ((Lib.splitB ⟨#[c]⟩ 0 (Lib.countB s ⟨#[c]⟩) s).map Value.string) = strE.all (MU.splitB c s.data.toList) := by
    rw [← hws, strE_all, List.map_map]
    exact List.map_congr_left fun x _ => by show Value.string x = .string (str x.data.toList); rw [str_self]
  have hll : (MU.splitB c s.data.toList).length = Lib.countB s ⟨#[c]⟩ + 1 := by rw [← hws, List.length_map, hlen]
  have hfi : strE.Fine (MU.splitB c s.data.toList) := by
    intro x hx
    rw [← hws] at hx
    obtain ⟨y, hy, rfl⟩ := List.mem_map.1 hx
    have hq : ∀ (k : Nat) (t : List UInt8), t.length ≤ 9223372036854775807 → ∀ z ∈ Lib.splitK [c] 0 k t, z.length ≤ 9223372036854775807 := by
      intro k
      induction k with
      | zero => intro t ht z hz; rw [Lib.splitK, List.mem_singleton] at hz; rw [hz]; exact ht
      | succ k ih =>
        intro t ht z hz
        rw [Lib.splitK] at hz
        split at hz
        · rw [List.mem_singleton] at hz; rw [hz]; exact ht
        · rcases List.mem_cons.1 hz with g | g
          · rw [g, List.length_take]; omega
          · exact ih _ (by rw [List.length_drop]; omega) z g
    have hm : y.data.toList ∈ (Lib.splitB ⟨#[c]⟩ 0 (Lib.countB s ⟨#[c]⟩) s).map (·.data.toList) := List.mem_map.2 ⟨y, hy, rfl⟩
    rw [hdat] at hm
    exact hq _ _ (by rw [size_list]; omega) _ hm
  rw [hrow] at cc
  obtain ⟨N, hN⟩ : ∃ N, Lib.countB s ⟨#[c]⟩ + 1 = N := ⟨_, rfl⟩
  rw [hN] at cc hll
  have hNb : N ≤ 4294967290 := by omega
  have HL := Lib.hid hll
  have HF := Lib.hid hfi
  clear hle hlen e2 hdat hcn hws hrow hll hfi hN
  generalize MU.splitB c s.data.toList = ws at *
  change Calls Tryz.prog 57 _ _ _ at cc
  have C := Lib.hid cc
  clear cc L
  go_enter Tryz.func30, Tryz.ntmps30
  go_wp2_with fail
  refine C.out.mono ?_
  rintro e w' ⟨rfl, hw⟩
  have R := Lib.hid (show GivesWs ws w (.returned (.slice (some ⟨w.heap.size, 0, none⟩) N N)) w' by
    rw [hw]
    exact ⟨N, rfl, Lst.lit ws N (heap_new w _) (by simp) HL.out (by omega) HF.out, below_new _ _, by simp⟩)
  clear hw C
  go_wp2
  go_ret
  exact R.out
set_option maxRecDepth 100000 in
set_option maxHeartbeats 2000000 in
theorem cut0_any (s : ByteArray) (c : UInt8) (w : World) (hs : s.size < 4294967281) :
    Calls Tryz.prog 51 #[.string s, .string ⟨#[c]⟩] w fun e w' => ∃ b r m, e = .returned (.tuple #[.string b, .string r, .bool m]) ∧ (∃ q, w' = w.drewN q) ∧
      MU.splitB c s.data.toList = b.data.toList :: (if m = true then MU.splitB c r.data.toList else []) ∧ (m = true → r.size < s.size) ∧ b.size ≤ s.size := by
  have IX := (Any.stringslite_Index_one (P := Tryz.prog) (ρ := lay146_ren) { lay146 with } s c w)
  change Calls Tryz.prog 75 _ _ _ at IX
  have SC := split_cut c s.data.toList
  rw [Lib.index_one] at SC
  have hl := size_list s
  rcases Lib.indexB_cases s ⟨#[c]⟩ with hix | ⟨i, hix, hroom⟩
  · have hix' : Lib.indexByte s.data.toList c = -1 := by rw [← Lib.index_one]; exact hix
    rw [hix'] at IX SC
    rw [if_neg (by decide)] at SC
    have C := Lib.hid IX
    have S := Lib.hid SC
    clear IX SC hix hix'
    go_enter Tryz.func51, Tryz.ntmps51
    go_wp2_with fail
    refine C.out.mono ?_
    rintro e w' ⟨rfl, rfl⟩
    go_wp2
    exact bodyPost_ret (v := .tuple #[.string s, .string ⟨#[]⟩, .bool false]) (by simp [results, Tryz.results51, go_sem]) rfl ⟨_, _, _, rfl, ⟨0, rfl⟩, by rw [S.out]; simp, (fun h => by cases h), Nat.le_refl _⟩
  · have hix' : Lib.indexByte s.data.toList c = i := by rw [← Lib.index_one]; exact hix
    rw [hix'] at IX SC
    rw [if_pos (by omega), Int.toNat_natCast] at SC
    have c1 : (0 : Int) ≤ ↑i := by omega
    have c2 : (↑i : Int) ≤ ↑s.size := by omega
    have c3 : (0 : Int) ≤ ↑i + 1 := by omega
    have hr1 : i + 1 ≤ s.size := hroom
    have c4 : (↑i + 1 : Int) ≤ ↑s.size := by omega
    have C := Lib.hid IX
    have S := Lib.hid SC
    have E1 := Lib.hid (Lib.extract_from_zero s i)
    have E2 : Hid ((s.extract (i + 1) s.size).data.toList = s.data.toList.drop (i + 1)) := Lib.hid (by
      simp [List.take_of_length_le])
    have Z1 : Hid ((s.extract 0 i).size = i) := Lib.hid (by rw [ByteArray.size_extract]; omega)
    have Z2 : Hid ((s.extract (i + 1) s.size).size = s.size - (i + 1)) := Lib.hid (by rw [ByteArray.size_extract]; omega)
    clear IX SC hix hix' hl
    go_enter Tryz.func51, Tryz.ntmps51
    go_wp2_with fail
    refine C.out.mono ?_
    rintro e w' ⟨rfl, rfl⟩
    go_wp2
    go_quiet (fail)
    go_wp2
    exact bodyPost_ret (v := .tuple #[.string (s.extract 0 i), .string (s.extract (i + 1) s.size), .bool true]) (by simp [results, Tryz.results51, go_sem]) rfl
      ⟨_, _, _, rfl, ⟨_, rfl⟩, by rw [S.out, if_pos rfl, E1.out, E2.out], (fun _ => by rw [Z2.out]; omega), by rw [Z1.out]; omega⟩
/-- What is cut off a text: the line ahead of the first separator, the rest behind it. -/
structure CutP (c : UInt8) (s b r : ByteArray) (m : Bool) : Prop where
  parts : MU.splitB c s.data.toList = b.data.toList :: (if m = true then MU.splitB c r.data.toList else [])
  less : m = true → r.size < s.size
  part : b.size ≤ s.size
set_option maxRecDepth 100000 in
theorem cut_any (s : ByteArray) (c : UInt8) (w : World) (hs : s.size < 4294967281) :
    Calls Tryz.prog 28 #[.string s, .string ⟨#[c]⟩] w fun e w' => ∃ b r m, e = .returned (.tuple #[.string b, .string r, .bool m]) ∧ Below w.heap.size w w' ∧ CutP c s b r m := by
  have C := Lib.hid (cut0_any s c w hs)
  go_enter Tryz.func28, Tryz.ntmps28
  go_wp2_with fail
  refine C.out.mono ?_
  rintro e w' ⟨b, r, m, rfl, ⟨q, rfl⟩, h1, h2, h3⟩
  have P := Lib.hid (show CutP c s b r m from ⟨h1, h2, h3⟩)
  clear h1 h2 h3 C
  go_wp2
  exact bodyPost_ret (v := .tuple #[.string b, .string r, .bool m]) (by simp [results, Tryz.results28, go_sem]) rfl ⟨_, _, _, rfl, below_drewN (Below.refl _ _) q, P.out⟩
end Go.Proofs.YtigfgeanofccgaaGreatDoor
namespace Go.Proofs.YtigfgeanofccgaaGreatDoor
open Go.RowKit
theorem dig10_lit (k : Nat) (h : k < 10) : (⟨#[48, 49, 50, 51, 52, 53, 54, 55, 56, 57]⟩ : ByteArray).extract k (k + 1) = str [UInt8.ofNat (48 + k)] := by
  have : k = 0 ∨ k = 1 ∨ k = 2 ∨ k = 3 ∨ k = 4 ∨ k = 5 ∨ k = 6 ∨ k = 7 ∨ k = 8 ∨ k = 9 := by omega
  rcases this with rfl | rfl | rfl | rfl | rfl | rfl | rfl | rfl | rfl | rfl <;> rfl
set_option maxRecDepth 100000 in
set_option maxHeartbeats 2000000 in
theorem rdigits_any : ∀ (n : Nat), n < 18446744073709551616 → ∀ w, Calls Tryz.prog 50 #[.int .u64 (n : Int)] w (Gives (.string (str (MU.dec n))) w) := by
  intro n
  induction n using Nat.strongRecOn with
  | ind n ih =>
    intro hn w
    have hk : (n : Int) % 10 = ((n % 10 : Nat) : Int) := by omega
    have hq : (n : Int) / 10 = ((n / 10 : Nat) : Int) := by omega
    have hk10 : n % 10 < 10 := Nat.mod_lt _ (by omega)
    have HD := dig10_lit (n % 10) hk10
    by_cases h10 : n < 10
    · have d : decide ((n : Int) < 10) = true := decide_eq_true (by omega)
      have E := Lib.hid (show str [UInt8.ofNat (48 + n % 10)] = str (MU.dec n) by rw [MU.dec_small h10, Nat.mod_eq_of_lt h10])
      generalize n % 10 = k at *
      generalize str [UInt8.ofNat (48 + k)] = sd at *
      go_enter Tryz.func50, Tryz.ntmps50
      go_wp2
      go_ret
      exact ⟨by rw [← E.out]; rfl, Below.refl _ _⟩
    · have d : decide ((n : Int) < 10) = false := decide_eq_false (by omega)
      have IH := Lib.hid (ih (n / 10) (by omega) (by omega))
      have E := Lib.hid (show str (MU.dec (n / 10)) ++ str [UInt8.ofNat (48 + n % 10)] = str (MU.dec n) by rw [MU.dec_big h10, str_append])
      have hl : (str (MU.dec (n / 10))).size ≤ 20 := by rw [str_size]; exact MU.dec_len (m := 19) (by omega)
      have hl2 : (str [UInt8.ofNat (48 + n % 10)]).size = 1 := by rw [str_size]; rfl
      clear ih
      generalize n % 10 = k at *
      generalize n / 10 = q at *
      generalize str [UInt8.ofNat (48 + k)] = sd at *
      generalize str (MU.dec q) = sq at *
      go_enter Tryz.func50, Tryz.ntmps50
      go_wp2_with fail
      refine (IH.out _).mono ?_
      rintro e w1 ⟨rfl, hb⟩
      have B1 := Lib.hid hb
      clear hb
      go_wp2
      go_ret
      exact ⟨by rw [← E.out]; rfl, B1.out⟩
set_option maxRecDepth 100000 in
set_option maxHeartbeats 2000000 in
theorem rnumber_pos (z : Int) (h0 : 0 ≤ z) (h1 : z ≤ 9223372036854775807) (w : World) : Calls Tryz.prog 27 #[.int .i64 z] w (Gives (.string (str (MU.num z))) w) := by
  obtain ⟨n, rfl⟩ := Int.eq_ofNat_of_zero_le h0
  have D := Lib.hid (fun w' => rdigits_any n (by omega) w')
  have E := Lib.hid (show str (MU.dec n) = str (MU.num (n : Int)) by rw [MU.num_pos h0, Int.toNat_natCast])
  have d : decide ((n : Int) < 0) = false := decide_eq_false (by omega)
  have hw : IntKind.u64.wrap (n : Int) = (n : Int) := by rw [IntKind.wrap_u64]; omega
  generalize str (MU.dec n) = s at *
  go_enter Tryz.func27, Tryz.ntmps27
  go_wp2_with fail
  refine (D.out _).mono ?_
  rintro e w1 ⟨rfl, hb⟩
  have B1 := Lib.hid hb
  clear hb
  go_wp2
  go_ret
  exact ⟨by rw [← E.out]; rfl, B1.out⟩
set_option maxRecDepth 100000 in
set_option maxHeartbeats 2000000 in
theorem rnumber_neg (z : Int) (h0 : z < 0) (h1 : -9223372036854775808 ≤ z) (w : World) : Calls Tryz.prog 27 #[.int .i64 z] w (Gives (.string (str (MU.num z))) w) := by
  obtain ⟨m, hm⟩ : ∃ m : Nat, -z = (m : Int) := ⟨(-z).toNat, by omega⟩
  have D := Lib.hid (fun w' => rdigits_any m (by omega) w')
  have E := Lib.hid (show (⟨#[45]⟩ : ByteArray) ++ str (MU.dec m) = str (MU.num z) by
    rw [MU.num_neg h0, hm, Int.toNat_natCast, show (⟨#[45]⟩ : ByteArray) = str [45] from rfl, str_append]; rfl)
  have hl : (str (MU.dec m)).size ≤ 20 := by rw [str_size]; exact MU.dec_len (m := 19) (by omega)
  have d : decide (z < 0) = true := decide_eq_true h0
  have hw : IntKind.u64.wrap z = z + 18446744073709551616 := by rw [IntKind.wrap_u64]; omega
  have hw2 : IntKind.u64.wrap (-(z + 18446744073709551616)) = (m : Int) := by rw [IntKind.wrap_u64]; omega
  generalize str (MU.dec m) = s at *
  clear hm
  go_enter Tryz.func27, Tryz.ntmps27
  go_wp2_with fail
  refine (D.out _).mono ?_
  rintro e w1 ⟨rfl, hb⟩
  have B1 := Lib.hid hb
  clear hb
  go_wp2
  go_ret
  exact ⟨by rw [← E.out]; rfl, B1.out⟩
theorem rnumber_any (z : Int) (h : -9223372036854775808 ≤ z ∧ z ≤ 9223372036854775807) (w : World) : Calls Tryz.prog 27 #[.int .i64 z] w (Gives (.string (str (MU.num z))) w) := by
  by_cases h0 : z < 0
  · exact rnumber_neg z h0 h.1 w
  · exact rnumber_pos z (by omega) h.2 w
end Go.Proofs.YtigfgeanofccgaaGreatDoor
namespace Go.Proofs.YtigfgeanofccgaaGreatDoor
open Go.RowKit
def digV (w : List UInt8) : Value := .tuple #[.int .i64 (MU.digE w).1, .int .i64 (MU.digE w).2]
theorem ret_dig {w : List UInt8} {a b : Int} (h : MU.digE w = (a, b)) : Ending.returned (.tuple #[.int .i64 a, .int .i64 b]) = .returned (digV w) := by unfold digV; rw [h]
theorem dig_empty {w : List UInt8} (h : w = [] ∨ (1 < w.length ∧ (w.getD 0 0).toNat = 48)) : MU.digE w = (0, 2) := if_pos h
theorem dig_bad {w : List UInt8} (h : ¬ (w = [] ∨ (1 < w.length ∧ (w.getD 0 0).toNat = 48))) {k : Nat} {c : UInt8} (hk : w[k]? = some c) (hc : digitN c.toNat = false) : MU.digE w = (0, 2) := by
  unfold MU.digE
  rw [if_neg h, if_pos]
  cases e : w.all fun c => digitN c.toNat with
  | false => rfl
  | true =>
    have := List.all_eq_true.1 e c (List.mem_of_getElem? hk)
    rw [hc] at this; cases this
theorem dig_all {w : List UInt8} (h : ∀ (k : Nat) (c : UInt8), k < w.length → w[k]? = some c → digitN c.toNat = true) : (w.all fun c => digitN c.toNat) = true :=
  List.all_eq_true.2 fun c hc => by
    obtain ⟨k, hk, e⟩ := List.mem_iff_getElem.1 hc
    exact h k c hk (by rw [List.getElem?_eq_getElem hk, e])
theorem dig_long {w : List UInt8} (h : ¬ (w = [] ∨ (1 < w.length ∧ (w.getD 0 0).toNat = 48))) (ha : (w.all fun c => digitN c.toNat) = true) (h9 : 9 < w.length) : MU.digE w = (0, 4) := by
  unfold MU.digE; rw [if_neg h, if_neg (by rw [ha]; decide), if_pos h9]
theorem dig_ok {w : List UInt8} (h : ¬ (w = [] ∨ (1 < w.length ∧ (w.getD 0 0).toNat = 48))) (ha : (w.all fun c => digitN c.toNat) = true) (h9 : ¬ 9 < w.length) : MU.digE w = ((numV w : Int), 0) := by
  unfold MU.digE; rw [if_neg h, if_neg (by rw [ha]; decide), if_neg h9]
set_option maxRecDepth 100000 in
set_option maxHeartbeats 2000000 in
theorem rdig_any (s : ByteArray) (hs : s.size ≤ 9223372036854775807) (w : World) : Calls Tryz.prog 83 #[.string s] w (Gives (digV s.data.toList) w) := by
  have hl := size_list s
  by_cases h0 : s.size = 0
  · obtain rfl := empty_of h0
    have G := Lib.hid (ret_dig (dig_empty (w := (⟨#[]⟩ : ByteArray).data.toList) (.inl rfl)))
    go_enter Tryz.func83, Tryz.ntmps83
    go_wp2
    exact bodyPost_ret (v := .tuple #[.int .i64 0, .int .i64 2]) (by simp [results, Tryz.results83, go_sem]) rfl ⟨G.out, Below.refl _ _⟩
  have hp : 0 < s.size := by omega
  have n1 : s.toList.isEmpty = false := by cases h : s.toList with | nil => exact absurd h (ne_empty hp) | cons _ _ => rfl
  have n2 : (s.toList == []) = false := beq_eq_false_iff_ne.2 (ne_empty hp)
  have e0 : s.data.toList.getD 0 0 = s[0] := by rw [List.getD_eq_getElem?_getD, at_list s 0 hp]; rfl
  have ene : s.data.toList ≠ [] := fun e => by rw [e] at hl; simp at hl; omega
  by_cases hz : 1 < s.size ∧ (s[0]).toNat = 48
  · have G := Lib.hid (ret_dig (dig_empty (w := s.data.toList) (.inr ⟨by rw [hl]; exact hz.1, by rw [e0]; exact hz.2⟩)))
    have d1 : decide (1 < (s.size : Int)) = true := decide_eq_true (by omega)
    have hb : (((s[0]).toNat : Int) == 48) = true := by rw [hz.2]; rfl
    clear e0 ene hl hz
    go_enter Tryz.func83, Tryz.ntmps83
    go_wp2
    exact bodyPost_ret (v := .tuple #[.int .i64 0, .int .i64 2]) (by simp [results, Tryz.results83, go_sem]) rfl ⟨G.out, Below.refl _ _⟩
  have hn : ¬ (s.data.toList = [] ∨ (1 < s.data.toList.length ∧ (s.data.toList.getD 0 0).toNat = 48)) := by
    rintro (g | ⟨g1, g2⟩)
    · exact ene g
    · exact hz ⟨by rw [← hl]; exact g1, by rw [← e0]; exact g2⟩
  have HN := Lib.hid hn
  have HB := Lib.hid (fun (k : Nat) (hk : k < s.size) (hc : digitN (s[k]).toNat = false) => ret_dig (dig_bad HN.out (at_list s k hk) hc))
  have HA := Lib.hid (fun (h : ∀ (j : Nat) (hj : j < s.size), digitN (s[j]).toNat = true) => dig_all (w := s.data.toList) fun k c hk hc => by
    rw [at_list s k (by rw [← hl]; exact hk)] at hc
    injection hc with hc
    rw [← hc]; exact h k (by rw [← hl]; exact hk))
  have HG : Hid (∀ (h : (s.data.toList.all fun c => digitN c.toNat) = true), 9 < s.size → Ending.returned (.tuple #[.int .i64 0, .int .i64 4]) = .returned (digV s.data.toList)) := Lib.hid fun h h9 => ret_dig (dig_long HN.out h (by rw [hl]; exact h9))
  have HO : Hid (∀ (h : (s.data.toList.all fun c => digitN c.toNat) = true), ¬ 9 < s.size → Ending.returned (.tuple #[.int .i64 (numV s.data.toList : Nat), .int .i64 0]) = .returned (digV s.data.toList)) := Lib.hid fun h h9 => ret_dig (dig_ok HN.out h (by rw [hl]; exact h9))
  have HP : Hid ((1 < s.size ∧ (s[0]).toNat = 48) → False) := Lib.hid hz
  clear hn e0 ene hz hl HN
  have start : ∃ bb : Bool, (decide (1 < (s.size : Int)) = bb ∧ (bb = true → (((s[0]).toNat : Int) == 48) = false)) := by
    by_cases g : 1 < s.size
    · exact ⟨true, decide_eq_true (by omega), fun _ => beq_eq_false_iff_ne.2 (by intro e; exact HP.out ⟨g, by omega⟩)⟩
    · exact ⟨false, decide_eq_false (by omega), fun h => by cases h⟩
  obtain ⟨bb, d1, hb0⟩ := start
  cases bb
  all_goals
    first
      | (have hb := hb0 rfl; clear hb0)
      | (clear hb0)
    go_enter Tryz.func83, Tryz.ntmps83
    go_wp2
    go_loop [4] (fun i => ∃ k : Nat, k ≤ s.size ∧ i = .int .i64 k ∧ Hid (∀ (j : Nat) (hj : j < s.size), j < k → digitN (s[j]).toNat = true)) (fun i => s.size - (intOf i).toNat)
    case atStart => exact ⟨0, Nat.zero_le _, rfl, Lib.hid (fun j _ hj => absurd hj (Nat.not_lt_zero _))⟩
    case round =>
      obtain ⟨k, hk, rfl, HD⟩ := hrel
      by_cases hlt : k < s.size
      · cases hd : digitN (s[k]).toNat with
        | true =>
          obtain ⟨g1, g2⟩ := digitN_yes.1 hd
          have D2 := Lib.hid (show ∀ (j : Nat) (hj : j < s.size), j < k + 1 → digitN (s[j]).toNat = true from fun j hj h => by
            rcases Nat.lt_or_ge j k with g | g
            · exact HD.out j hj g
            · obtain rfl : j = k := by omega
              exact hd)
          have d3 : decide (((s[k]).toNat : Int) < 48) = false := decide_eq_false (by omega)
          have d4 : decide (57 < ((s[k]).toNat : Int)) = false := decide_eq_false (by omega)
          clear hd HD
          go_wp2
          go_round
          case rel => exact ⟨k + 1, by omega, by go_num, D2⟩
          case measure => simp [intOf]; omega
        | false =>
          have G := Lib.hid (HB.out k hlt hd)
          rcases digitN_no.1 hd with g | g
          · have d3 : decide (((s[k]).toNat : Int) < 48) = true := decide_eq_true (by omega)
            clear hd HD HB HA HG HO
            go_wp2
            exact bodyPost_ret (v := .tuple #[.int .i64 0, .int .i64 2]) (by simp [results, Tryz.results83, go_sem]) rfl ⟨G.out, Below.refl _ _⟩
          · have d3 : decide (((s[k]).toNat : Int) < 48) = false := decide_eq_false (by omega)
            have d4 : decide (57 < ((s[k]).toNat : Int)) = true := decide_eq_true (by omega)
            clear hd HD HB HA HG HO
            go_wp2
            exact bodyPost_ret (v := .tuple #[.int .i64 0, .int .i64 2]) (by simp [results, Tryz.results83, go_sem]) rfl ⟨G.out, Below.refl _ _⟩
      · obtain rfl : k = s.size := by omega
        have HD2 := Lib.hid (show ∀ (j : Nat) (hj : j < s.size), digitN (s[j]).toNat = true from fun j hj => HD.out j hj hj)
        have HA2 := Lib.hid (HA.out HD2.out)
        clear HD HA HB
        by_cases h9 : 9 < s.size
        · have d9 : decide (9 < (s.size : Int)) = true := decide_eq_true (by omega)
          have G := Lib.hid (HG.out HA2.out h9)
          clear HG HO HA2 HD2
          go_wp2
          exact bodyPost_ret (v := .tuple #[.int .i64 0, .int .i64 4]) (by simp [results, Tryz.results83, go_sem]) rfl ⟨G.out, Below.refl _ _⟩
        · have d9 : decide (9 < (s.size : Int)) = false := decide_eq_false (by omega)
          have G := Lib.hid (HO.out HA2.out h9)
          clear HG HO HA2
          go_wp2
          go_loop [5, 6] (fun v i => ∃ k : Nat, k ≤ s.size ∧ i = .int .i64 k ∧ v = .int .i64 (numV (s.data.toList.take k) : Nat)) (fun _ i => s.size - (intOf i).toNat)
          case atStart => exact ⟨0, Nat.zero_le _, rfl, rfl⟩
          case round =>
            obtain ⟨k, hk, rfl, rfl⟩ := hrel
            by_cases hlt : k < s.size
            · have hdk := HD2.out k hlt
              obtain ⟨g1, g2⟩ := digitN_yes.1 hdk
              have hy : numV (s.data.toList.take k) < 25600000000 := by
                have h1 := numV_lt (s.data.toList.take k)
                have h2 : 256 * (10 : Nat) ^ (s.data.toList.take k).length ≤ 256 * 10 ^ 8 := Nat.mul_le_mul_left _ (Nat.pow_le_pow_right (by decide) (by rw [List.length_take]; omega))
                exact Nat.lt_of_lt_of_le h1 h2
              have V : Hid (numV (s.data.toList.take (k + 1)) = numV (s.data.toList.take k) * 10 + ((s[k]).toNat - 48)) := Lib.hid (by
                rw [List.take_succ_eq_append_getElem (by rw [size_list]; exact hlt), numV_snoc]; rfl)
              clear hdk
              generalize numV (s.data.toList.take k) = y at *
              go_wp2
              go_round
              case rel => exact ⟨k + 1, by omega, by go_num, by rw [V.out]; go_num⟩
              case measure => simp [intOf]; omega
            · obtain rfl : k = s.size := by omega
              have V : Hid (s.data.toList.take s.size = s.data.toList) := Lib.hid (List.take_of_length_le (by rw [size_list]; exact Nat.le_refl _))
              rw [V.out]
              generalize numV s.data.toList = y at *
              clear V
              go_wp2
              exact bodyPost_ret (v := .tuple #[.int .i64 (y : Int), .int .i64 0]) (by simp [results, Tryz.results83, go_sem]) rfl ⟨G.out, Below.refl _ _⟩
end Go.Proofs.YtigfgeanofccgaaGreatDoor
namespace Go.Proofs.YtigfgeanofccgaaGreatDoor
open Go.RowKit
theorem infoI64 : (Tryz.prog.info? 2).map (fun i => (i.zero, i.size, i.bytes)) = some (some (.int .i64 0), 1, 8) := by kernel_rfl
theorem lone1 {w : World} {b : Nat} {T : TypeId} {v : Value} (h : w.heap[b]? = some (.cells #[v] T (0, 0))) : ∀ j u, [v][j]? = some u → w.cell? ((⟨b, 0, none⟩ : Addr).add j) = some u := by
  intro j u hj
  match j, hj with
  | 0, hj =>
    simp at hj; subst hj
    rw [addr_add, cell_of_row _ _ _ _ _ _ h]; rfl
theorem digE_rng (w : List UInt8) : 0 ≤ (MU.digE w).1 ∧ (MU.digE w).1 ≤ 256000000000 := by
  unfold MU.digE
  split
  · exact ⟨Int.le_refl _, by show (0 : Int) ≤ _; decide⟩
  · split
    · exact ⟨Int.le_refl _, by show (0 : Int) ≤ _; decide⟩
    · split
      · exact ⟨Int.le_refl _, by show (0 : Int) ≤ _; decide⟩
      · next h =>
        have h1 := numV_lt w
        have h2 : 256 * (10 : Nat) ^ w.length ≤ 256 * 10 ^ 9 := Nat.mul_le_mul_left _ (Nat.pow_le_pow_right (by decide) (by omega))
        exact ⟨Int.natCast_nonneg _, by show ((numV w : Nat) : Int) ≤ _; omega⟩
/-- The numbers so far, and what is still to come. -/
def joinN (vs : List Int) (r : List Int × Int) : List Int × Int := if r.2 ≠ 0 then ([], r.2) else (vs ++ r.1, 0)
theorem nums_err : ∀ (ws : List (List UInt8)), (MU.numsE ws).2 ≠ 0 → (MU.numsE ws).1 = []
  | [], h => absurd rfl h
  | w :: r, h => by
    rw [MU.numsE] at h ⊢
    by_cases h1 : (MU.digE w).2 ≠ 0
    · rw [if_pos h1]
    · rw [if_neg h1] at h ⊢
      by_cases h2 : (MU.numsE r).2 ≠ 0
      · rw [if_pos h2]
      · rw [if_neg h2] at h; exact absurd rfl h
theorem joinN_nil (ws : List (List UInt8)) : joinN [] (MU.numsE ws) = MU.numsE ws := by
  unfold joinN
  by_cases h : (MU.numsE ws).2 ≠ 0
  · rw [if_pos h]
    have := nums_err ws h
    exact Prod.ext this.symm rfl
  · rw [if_neg h]
    exact Prod.ext rfl (by simpa using Eq.symm (Decidable.of_not_not h))
theorem joinN_step {vs : List Int} {w : List UInt8} {r : List (List UInt8)} (h : (MU.digE w).2 = 0) : joinN vs (MU.numsE (w :: r)) = joinN (vs ++ [(MU.digE w).1]) (MU.numsE r) := by
  rw [MU.numsE, if_neg (by rw [h]; simp)]
  unfold joinN
  by_cases h2 : (MU.numsE r).2 ≠ 0
  · rw [if_pos h2, if_pos h2, if_pos h2]
  · rw [if_neg h2, if_neg h2, if_neg (by simp)]; simp
theorem joinN_bad {vs : List Int} {w : List UInt8} {r : List (List UInt8)} (h : (MU.digE w).2 ≠ 0) : joinN vs (MU.numsE (w :: r)) = ([], (MU.digE w).2) := by
  rw [MU.numsE, if_pos h]
  unfold joinN
  rw [if_pos h]
theorem joinN_end (vs : List Int) : joinN vs (MU.numsE []) = (vs, 0) := by unfold joinN; rw [if_neg (by simp [MU.numsE])]; simp [MU.numsE]
theorem MU.drop_at' {ws : List (List UInt8)} {k : Nat} {x : List UInt8} (h : ws[k]? = some x) : ws.drop k = x :: ws.drop (k + 1) := by
  obtain ⟨hk, rfl⟩ := List.getElem?_eq_some_iff.1 h
  exact List.drop_eq_getElem_cons hk
def GivesNs (r : List Int × Int) (w : World) (e : Ending) (w' : World) : Prop := ∃ A n c, e = .returned (.tuple #[.slice A n c, .int .i64 r.2]) ∧ Lst intE w' A n c r.1 ∧ Below w.heap.size w w'
set_option maxRecDepth 100000 in
set_option maxHeartbeats 2000000 in
theorem rnums_any (A : Option Addr) (n c a : Nat) (ws : List (List UInt8)) (w : World) (h : Lst strE w A n c ws) (ha : a ≤ n) (hn : n ≤ 10000) :
    Calls Tryz.prog 60 #[.slice A n c, .int .i64 a] w (GivesNs (MU.numsE (ws.drop a)) w) := by
  have hc := h.cap
  have HL := Lib.hid h.len
  have H := Lib.hid h
  clear h
  obtain ⟨i0, hi, hz0, hz1, hz2⟩ := info_parts infoI64
  go_enter Tryz.func60, Tryz.ntmps60
  go_wp2
  go_loopw [6, 7] (fun v i wr => ∃ (k : Nat) (vs : List Int), (a ≤ k ∧ k ≤ n ∧ vs.length ≤ k) ∧ i = .int .i64 k ∧ Hid (OwnL intE 2 wr w.heap.size v vs) ∧ Hid (MU.numsE (ws.drop a) = joinN vs (MU.numsE (ws.drop k))) ∧ Hid (Below w.heap.size w wr)) (fun _ i _ => n - (intOf i).toNat)
  case atStart => exact ⟨a, [], ⟨Nat.le_refl _, ha, Nat.zero_le _⟩, rfl, Lib.hid (OwnL.nil _ _ _), Lib.hid (joinN_nil _).symm, Lib.hid (Below.refl _ _)⟩
  case round =>
    obtain ⟨k, vs, ⟨hak, hk, hvs⟩, rfl, HO, HJ, HB⟩ := hrel
    by_cases hlt : k < n
    · obtain ⟨ad, x, rfl, q1, hx, hbk, x0⟩ := str_at (H.out.keep HB.out) hlt
      have D := Lib.hid (fun w' => rdig_any (str x) (by rw [str_size]; exact hx) w')
      rw [str_data] at D
      have HD : Hid (ws.drop k = x :: ws.drop (k + 1)) := Lib.hid (MU.drop_at' q1)
      have HR := Lib.hid (digE_rng x)
      rw [HD.out] at HJ
      clear q1 hx hbk HD
      obtain ⟨v, hv⟩ : ∃ v, (MU.digE x).1 = v := ⟨_, rfl⟩
      obtain ⟨er, her⟩ : ∃ er, (MU.digE x).2 = er := ⟨_, rfl⟩
      have HV := Lib.hid hv
      have HE := Lib.hid her
      unfold digV at D
      rw [hv, her] at D
      clear hv her
      generalize str x = s at *
      go_wp2_with fail
      refine (D.out _).mono ?_
      rintro ev w1 ⟨rfl, hb⟩
      have B1 := Lib.hid (HB.out.trans (hb.mono HB.out.size))
      have O1 := Lib.hid (HO.out.keep hb)
      clear hb HO HB D x0
      by_cases he : er = 0
      · subst he
        have J2 := Lib.hid (HJ.out.trans (joinN_step HE.out))
        rw [HV.out] at J2 HR
        have O2 := Lib.hid (O1.out.keep (below_new w1 (.cells #[.int .i64 v] 2)))
        have B2 := Lib.hid (B1.out.alloc B1.out.size (.cells #[.int .i64 v] 2))
        have HX := Lib.hid (lone1 (heap_new w1 (.cells #[.int .i64 v] 2)))
        have hsz := B1.out.size
        clear B1 O1 HJ
        go_wp2_with (at_builtin; refine wpList_append_own _ rfl _ _ 100 rfl w.heap.size 2 i0 (.int .i64 0) 1 8 Tryz.underlying100 hi hz0 hz1 hz2 rfl (by decide) _ _ _ rfl O2.out.1 ⟨w1.heap.size, 0, none⟩ 1 1 [.int .i64 v] rfl rfl ?c1 ?c2 ?c3 ?c4 ?c5 ?_)
        case c1 => exact HX.out
        case c2 => intro u hu; rw [List.mem_singleton.1 hu]; rfl
        case c3 => unfold maxLen; omega
        case c4 => omega
        case c5 => simp; omega
        intro v' w2 hown' hgrow _
        have R := OwnL.app (x := v) O2.out (by have := HR.out; show _ ∧ _; constructor <;> omega) B2.out B2.out.size hown' hgrow
        have O3 := Lib.hid R.1
        have B3 := Lib.hid R.2
        clear R hown' hgrow O2 B2 HX
        go_wp2
        go_roundw
        case rel => exact ⟨k + 1, vs ++ [v], ⟨by omega, by omega, by rw [List.length_append, List.length_singleton]; omega⟩, by go_num, O3, J2, B3⟩
        case measure => simp [intOf]; omega
      · have hb : (er != 0) = true := bne_iff_ne.2 he
        have J2 := Lib.hid (HJ.out.trans (joinN_bad (by rw [HE.out]; exact he)))
        rw [HE.out] at J2
        clear HJ O1
        go_wp2
        exact bodyPost_ret (v := .tuple #[.slice none 0 0, .int .i64 er]) (by simp [results, Tryz.results60, go_sem]) rfl (by rw [J2.out]; exact ⟨_, _, _, rfl, Lst.nil _, B1.out⟩)
    · obtain rfl : k = n := by omega
      have J2 := Lib.hid (HJ.out.trans (show joinN vs (MU.numsE (ws.drop k)) = (vs, 0) by rw [List.drop_of_length_le (by rw [HL.out]; exact Nat.le_refl _)]; exact joinN_end vs))
      obtain ⟨A', c', rfl, hl⟩ := HO.out.form (by omega)
      have HL2 := Lib.hid hl
      clear hl HO HJ
      go_wp2
      exact bodyPost_ret (v := .tuple #[.slice A' vs.length c', .int .i64 0]) (by simp [results, Tryz.results60, go_sem]) rfl (by rw [J2.out]; exact ⟨_, _, _, rfl, HL2.out, HB.out⟩)
end Go.Proofs.YtigfgeanofccgaaGreatDoor
namespace Go.Proofs.YtigfgeanofccgaaGreatDoor
open Go.RowKit
theorem infoStr10 : (Tryz.prog.info? 9).map (fun i => (i.zero, i.size, i.bytes)) = some (some (.string ⟨#[]⟩), 1, 16) := by kernel_rfl
theorem all_str (l : List (List UInt8)) : strE.all l = l.map fun x => .string (str x) := by
  induction l with
  | nil => rfl
  | cons x r ih => show [Value.string (str x)] ++ strE.all r = _; rw [ih]; rfl
theorem split_len (c : UInt8) : ∀ s : List UInt8, (MU.splitB c s).length ≤ s.length + 1
  | [] => Nat.le_refl _
  | x :: r => by
    have ih := split_len c r
    rw [MU.splitB]
    split
    · simp; omega
    · split
      · simp
      · next h => rw [h] at ih; simp at ih ⊢; omega
theorem split_word (c : UInt8) : ∀ s : List UInt8, ∀ w ∈ MU.splitB c s, w.length ≤ s.length
  | [], w, h => by simp [MU.splitB] at h; subst h; simp
  | x :: r, w, h => by
    have ih := split_word c r
    rw [MU.splitB] at h
    split at h
    · rcases List.mem_cons.1 h with rfl | h
      · simp
      · have := ih w h; simp; omega
    · split at h
      · simp at h; subst h; simp
      · next v vs e =>
        rw [e] at ih
        rcases List.mem_cons.1 h with rfl | h
        · have := ih v (by simp); simp; omega
        · have := ih w (by simp [h]); simp; omega
/-- The words so far, the last one being open. -/
structure Spl (wo : World) (c : UInt8) (S : List UInt8) (k : Nat) (v : Value) (wr : World) : Prop where
  own : OwnL strE 9 wr wo.heap.size v (MU.splitB c (S.take k))
  below : Below wo.heap.size wo wr
theorem Spl.open_ {wo wr : World} {c : UInt8} {S : List UInt8} {k : Nat} {v : Value} (h : Spl wo c S k v wr) :
    ∃ (init : List (List UInt8)) (last : List UInt8) (g cap : Nat), MU.splitB c (S.take k) = init ++ [last] ∧ v = .slice (some ⟨g, 0, none⟩) (init.length + 1) cap ∧ wo.heap.size ≤ g ∧ g < wr.heap.size ∧
      wr.cell? ⟨g, init.length, none⟩ = some (.string (str last)) ∧ wr.frozen? ⟨g, init.length, none⟩ = false ∧ init.length + 1 ≤ cap := by
  obtain ⟨init, last, e⟩ : ∃ init last, MU.splitB c (S.take k) = init ++ [last] := by
    have hne := MU.split_ne c (S.take k)
    exact ⟨_, _, (List.dropLast_concat_getLast hne).symm⟩
  have hO := h.own.1
  rw [e] at hO
  have hl : (init ++ [last]).length = init.length + 1 := by simp
  rw [hl] at hO
  obtain ⟨g, cap, rfl⟩ := ownsRow_succ hO
  have hg := hO.lt g rfl
  have hc := hO.cellAt init.length (by show _ < _ * 1; omega)
  have hf := hO.frozenAt init.length
  have hcap : init.length + 1 ≤ cap := by
    rcases hO.2 with ⟨h1, _⟩ | ⟨g', cap', cur, h1, _, _, h3, _⟩
    · cases h1
    · simp only [Value.slice.injEq] at h1
      obtain ⟨_, _, rfl⟩ := h1
      exact h3
  refine ⟨init, last, g, cap, e, rfl, hg.1, hg.2, ?_, hf, hcap⟩
  rw [hc, all_str, List.map_append, List.getElem?_append_right (by simp)]
  simp
set_option maxRecDepth 100000 in
set_option maxHeartbeats 4000000 in
theorem rsplit_any (s : ByteArray) (c : UInt8) (hs : s.size ≤ 10000) (w : World) :
    Calls Tryz.prog 31 #[.string s, .int .u8 c.toNat] w (GivesL strE (MU.splitB c s.data.toList) w) := by
  have hl := size_list s
  have S0 := Lib.hid (show Spl w c s.data.toList 0 (.slice (some ⟨w.heap.size, 0, none⟩) 1 1) (w.alloc (.cells #[.string ⟨#[]⟩] 9)) from
    ⟨⟨World.ownsRow_lit w #[.string ⟨#[]⟩] 1 (Nat.le_refl _) (by unfold maxLen; decide) rfl, fun x hx => by
      have : x ∈ [([] : List UInt8)] := hx
      rw [List.mem_singleton.1 this]; exact Nat.zero_le _⟩, below_new _ _⟩)
  have HL := Lib.hid hl
  clear hl
  obtain ⟨i0, hi, hz0, hz1, hz2⟩ := info_parts infoStr10
  go_enter Tryz.func31, Tryz.ntmps31
  go_wp2
  generalize w.alloc (.cells #[.string ⟨#[]⟩] 9) = W0 at *
  go_loopw [5, 6] (fun v i wr => ∃ k : Nat, k ≤ s.size ∧ i = .int .i64 k ∧ Hid (Spl w c s.data.toList k v wr)) (fun _ i _ => s.size - (intOf i).toNat)
  case atStart => exact ⟨0, Nat.zero_le _, rfl, S0⟩
  case round =>
    obtain ⟨k, hk, rfl, HS⟩ := hrel
    clear S0
    by_cases hlt : k < s.size
    · have HT := Lib.hid (show s.data.toList.take (k + 1) = s.data.toList.take k ++ [s[k]] by rw [List.take_succ_eq_append_getElem (by rw [HL.out]; exact hlt)]; rfl)
      have HLT := Lib.hid (show (s.data.toList.take k).length ≤ s.size by rw [List.length_take, HL.out]; omega)
      have hlen := Nat.le_trans (split_len c (s.data.toList.take k)) (Nat.succ_le_succ HLT.out)
      by_cases hy : s[k] = c
      · have hb : (((s[k]).toNat : Int) == ((c.toNat : Nat) : Int)) = true := by rw [hy]; exact beq_self_eq_true _
        have E := Lib.hid (show MU.splitB c (s.data.toList.take (k + 1)) = MU.splitB c (s.data.toList.take k) ++ [[]] by rw [HT.out, hy]; exact MU.split_snoc_sep c _)
        have O2 := Lib.hid (HS.out.own.keep (below_new _ (.cells #[.string ⟨#[]⟩] 9)))
        have B2 := Lib.hid (HS.out.below.alloc HS.out.below.size (.cells #[.string ⟨#[]⟩] 9))
        have HX := Lib.hid (lone1 (heap_new wr (.cells #[.string ⟨#[]⟩] 9)))
        have hsz := HS.out.below.size
        clear HS hy HT HLT
        generalize MU.splitB c (s.data.toList.take k) = ws at *
        go_wp2_with (at_builtin; refine wpList_append_own _ rfl _ _ 51 rfl w.heap.size 9 i0 (.string ⟨#[]⟩) 1 16 Tryz.underlying51 hi hz0 hz1 hz2 rfl (by decide) _ _ _ rfl O2.out.1 ⟨wr.heap.size, 0, none⟩ 1 1 [.string ⟨#[]⟩] rfl rfl ?c1 ?c2 ?c3 ?c4 ?c5 ?_)
        case c1 => exact HX.out
        case c2 => intro u hu; rw [List.mem_singleton.1 hu]; rfl
        case c3 => unfold maxLen; omega
        case c4 => omega
        case c5 => simp; omega
        intro v' w2 hown' hgrow _
        have R := OwnL.app (x := ([] : List UInt8)) O2.out (Nat.zero_le _) B2.out B2.out.size hown' hgrow
        rw [← E.out] at R
        have O3 := Lib.hid (show Spl w c s.data.toList (k + 1) v' w2 from ⟨R.1, R.2⟩)
        clear R hown' hgrow O2 B2 HX E
        go_wp2
        go_roundw
        case rel => exact ⟨k + 1, by omega, by go_num, O3⟩
        case measure => simp [intOf]; omega
      · have hb : (((s[k]).toNat : Int) == ((c.toNat : Nat) : Int)) = false := beq_eq_false_iff_ne.2 (fun e => hy (UInt8.toNat_inj.1 (by omega)))
        obtain ⟨init, last, g, cap, e, rfl, hg1, hg2, hc, hf, hcap⟩ := HS.out.open_
        have hw := split_word c (s.data.toList.take k) last (by rw [e]; simp)
        have hwl : (str last).size ≤ 10000 := by rw [str_size]; have := HLT.out; omega
        have hx : s.extract k (k + 1) = str [s[k]] := bytes_eq _ _ (by
          rw [str_data]
          have h1 : (s.extract k (k + 1)).data.toList = (s.data.toList.take (k + 1)).drop k := by
            rw [ByteArray.data_extract, Array.toList_extract, List.drop_take]
            try rfl
          rw [h1, HT.out, List.drop_left' (by rw [List.length_take, HL.out]; omega)])
        have E : Hid (MU.splitB c (s.data.toList.take (k + 1)) = init ++ [last ++ [s[k]]]) := Lib.hid (by
          obtain ⟨ws, w', e1, e2⟩ := MU.split_snoc hy (s.data.toList.take k)
          rw [HT.out, e2]
          rw [e] at e1
          obtain ⟨rfl, e3⟩ := List.append_inj' e1 rfl
          injection e3 with e3
          rw [e3])
        have HX := Lib.hid (show str last ++ str [s[k]] = str (last ++ [s[k]]) from str_append _ _)
        have hw1 : (str [s[k]]).size = 1 := by rw [str_size]; rfl
        have hil : init.length < 20000 := by
          have := split_len c (s.data.toList.take k)
          rw [e, List.length_append, List.length_singleton] at this
          have := HLT.out; omega
        have OW : Hid (wr.ownsRow w.heap.size 9 1 (.slice (some ⟨g, 0, none⟩) (init.length + 1) cap) (init.length + 1) (strE.all (init ++ [last]))) := Lib.hid (by
          have := HS.out.own.1
          rw [e, List.length_append, List.length_singleton] at this
          exact this)
        have ST := Lib.hid (OW.out.stored init.length (.string (str (last ++ [s[k]]))))
        have EA := Lib.hid (show (strE.all (init ++ [last])).set init.length (.string (str (last ++ [s[k]]))) = strE.all (init ++ [last ++ [s[k]]]) by
          rw [all_str, all_str, List.map_append, List.map_append, List.set_append_right _ _ (by simp)]; simp)
        have FI := Lib.hid (show strE.Fine (init ++ [last ++ [s[k]]]) from fun x hx => by
          rcases List.mem_append.1 hx with h | h
          · exact HS.out.own.2 x (by rw [e]; exact List.mem_append_left _ h)
          · rw [List.mem_singleton.1 h]
            show (last ++ [s[k]]).length ≤ _
            rw [List.length_append, List.length_singleton]; have := HLT.out; omega)
        have NX := Lib.hid (show Spl w c s.data.toList (k + 1) (.slice (some ⟨g, 0, none⟩) (init.length + 1) cap) (wr.setCell ⟨g, init.length, none⟩ (.string (str (last ++ [s[k]])))).drew from by
          refine ⟨?_, ?_⟩
          · rw [E.out]
            refine OwnL.keep ⟨?_, FI.out⟩ (below_drawn _)
            rw [← EA.out, List.length_append, List.length_singleton]
            exact ST.out.1
          · exact (HS.out.below.setCell (p := ⟨g, init.length, none⟩) hg1 _).drew)
        clear HS hy e OW ST EA FI E
        rw [← HX.out] at NX
        generalize hq : str [s[k]] = sy at *
        generalize str last = sl at *
        generalize init.length = m at *
        clear hq HX
        have hm1 : IntKind.i64.wrap (m : Int) = (m : Int) := IntWalk.i64_in _ (by omega)
        have hm2 : (0 : Int) ≤ (m : Int) := by omega
        have hk1 : IntKind.i64.wrap ((k : Int) + 1) = (k : Int) + 1 := IntWalk.i64_in _ (by omega)
        have hk2 : (k : Int) + 1 ≤ (s.size : Int) := by omega
        have hk3 : (0 : Int) ≤ (k : Int) := by omega
        have hk4 : (k : Int) ≤ (k : Int) + 1 := by omega
        have hk5 : ((k : Int) + 1).toNat = k + 1 := by omega
        have hm3 : (m : Int) < (m : Int) + 1 := by omega
        have hz9 : ¬ 9223372036854775807 < sl.size + 1 := by omega
        have hz : (sl ++ sy).size ≤ 20000 := by rw [ByteArray.size_append]; omega
        go_wp2
        go_still_tail 17, (by kernel_rfl)
        change wpList _ _ _ _ _ wr.drew
        go_wp2
        go_roundw
        case rel => exact ⟨k + 1, by omega, by go_num, NX⟩
        case measure => simp [intOf]; omega
    · obtain rfl : k = s.size := by omega
      have hlen := split_len c s.data.toList
      rw [HL.out] at hlen
      have OW := HS.out.own
      rw [List.take_of_length_le (by rw [HL.out]; exact Nat.le_refl _)] at OW
      obtain ⟨A', c', rfl, hl⟩ := OW.form (by omega)
      have HL2 := Lib.hid hl
      have BW := Lib.hid HS.out.below
      clear hl HS OW
      go_wp2
      go_ret
      exact ⟨_, _, _, rfl, HL2.out, BW.out⟩
end Go.Proofs.YtigfgeanofccgaaGreatDoor
