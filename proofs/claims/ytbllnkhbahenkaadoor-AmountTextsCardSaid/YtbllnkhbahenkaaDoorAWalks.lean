/- The walks of AmountChecks, AmountDivides, AmountTexts, AmountShares: no claim of its own. -/
import Derived.Test.YtbllnkhbahenkaaDoorAShare
import Derived.Test.YtbllnkhbahenkaaDoorAWalkT
import Derived.Test.YtbllnkhbahenkaaDoorAWalkS
namespace Go.Proofs.YtbllnkhbahenkaaDoor
open Go.RowKit
theorem awk : Awk := awake5_of share_any
theorem checks_walk (v : Int) (w : World) (_hv : -9223372036854775808 ≤ v ∧ v ≤ 9223372036854775807) (ht : Tab w) : Calls Tryd.prog 6 #[.int .i64 v] w (Gives (.bool true) w) := checks_of awk v w ht
theorem divides_walk (t : Int) (A : Option Addr) (n c : Nat) (zs : List Int) (w : World) (_hv : -9223372036854775808 ≤ t ∧ t ≤ 9223372036854775807) (h : IsRow .i64 w A n c zs) (ht : Tab w) :
    Calls Tryd.prog 4 #[.int .i64 t, .slice A n c] w (Gives (.bool true) w) := divides_walk_of awk share_any t A n c zs w h ht
theorem atexts_walk (v : Int) (s : ByteArray) (w : World) (hv : -9223372036854775808 ≤ v ∧ v ≤ 9223372036854775807) (hs : s.size ≤ maxLen) (ht : Tab w) :
    Calls Tryd.prog 5 #[.int .i64 v, .string s] w (Gives (.bool true) w) := texts_walk_of awk v s w hv hs ht
theorem shares_walk (t : Int) (A : Option Addr) (n c : Nat) (zs : List Int) (w : World) (_hv : -9223372036854775808 ≤ t ∧ t ≤ 9223372036854775807) (h : IsRow .i64 w A n c zs) (ht : Tab w) :
    Calls Tryd.prog 3 #[.int .i64 t, .slice A n c] w (Gives (.bool true) w) := shares_walk_of awk share_any t A n c zs w h ht
end Go.Proofs.YtbllnkhbahenkaaDoor
