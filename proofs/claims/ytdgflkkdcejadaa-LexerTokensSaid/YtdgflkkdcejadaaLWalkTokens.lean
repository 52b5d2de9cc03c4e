/- The walk of LexerTokens: no claim of its own. -/
import Derived.Test.YtdgflkkdcejadaaLAwake
import Derived.Test.YtdgflkkdcejadaaLFine
namespace Go.Proofs.Ytdgflkkdcejadaa
open Go.RowKit
set_option maxRecDepth 100000 in
set_option maxHeartbeats 2000000 in
theorem tokens_walk (s : ByteArray) (w : World) (hs : s.size ≤ maxLen) :
    Calls Try.prog 3 #[.string s] w (Gives (.bool true) w) := by
  unfold maxLen at hs
  have AW := Lib.hid (fun w' => awake6 w')
  by_cases h5 : 5000 < s.size
  · go_enter Try.func3, Try.ntmps3
    go_wp2_with fail
    refine (AW.out _).mono ?_
    rintro e w1 ⟨rfl, hb⟩
    have B1 := Lib.hid hb
    clear hb
    go_wp2
    go_ret
    exact ⟨rfl, B1.out⟩
  · have T1 := Lib.hid (fun w' => tokens_any s hs w')
    have T2 := Lib.hid (fun w' => rtokens_any s hs w')
    have FN := Lib.hid (toks_fine s.data.toList)
    generalize toks s.data.toList = T at *
    obtain ⟨ts, er⟩ := T
    go_enter Try.func3, Try.ntmps3
    go_wp2_with fail
    refine (T1.out _).mono ?_
    rintro e w1 ⟨A1, n1, c1, rfl, ht, hb⟩
    have U1 := Lib.hid ht
    have B1 := Lib.hid hb
    clear hb ht T1
    go_wp2_with fail
    refine (T2.out _).mono ?_
    rintro e w2 ⟨A2, n2, c2, rfl, ht, hb⟩
    have U2 := Lib.hid (U1.out.keep hb)
    have V2 := Lib.hid ht
    have B2 := Lib.hid (B1.out.trans (hb.mono B1.out.size))
    clear hb ht T2 U1 B1
    go_wp2_with fail
    refine (like_yes _ _ _ _ _ _ _ _ U2.out V2.out FN.out).mono ?_
    rintro e w3 ⟨rfl, hb⟩
    have B3 := Lib.hid (B2.out.trans (hb.mono B2.out.size))
    clear hb U2 V2 B2
    go_wp2_with fail
    refine (AW.out _).mono ?_
    rintro e w4 ⟨rfl, hb⟩
    have B4 := Lib.hid (B3.out.trans (hb.mono B3.out.size))
    clear hb B3
    go_wp2
    go_ret
    exact ⟨rfl, B4.out⟩
end Go.Proofs.Ytdgflkkdcejadaa
