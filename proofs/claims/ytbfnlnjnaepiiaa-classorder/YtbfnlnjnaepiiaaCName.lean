/- Names: what isLetter, isDigit, isKeyword tell. -/
import Derived.Test.YtbfnlnjnaepiiaaRows
import Derived.WalkKit
import Derived.WalkSpells
import Derived.WalkLawsBesides
import Derived.Deep.DeepCutAuto
namespace Go.Proofs.Ytbfnlnjnaepiiaa
open Go.RowKit

def letB (c : Int) : Bool := decide (97 ≤ c ∧ c ≤ 122) || decide (65 ≤ c ∧ c ≤ 90)
def digB (c : Int) : Bool := decide (48 ≤ c ∧ c ≤ 57)

set_option maxHeartbeats 400000 in
theorem letter_any (c : Int) (w : World) :
    Calls Try.prog 53 #[.int .u8 c] w fun e w' => e = .returned (.bool (letB c)) ∧ w' = w := by
  unfold letB
  go_enter Try.func53, Try.ntmps53
  go_wp2
  all_goals go_ret
  all_goals refine ⟨?_, rfl⟩
  all_goals simp_all
  all_goals omega

set_option maxHeartbeats 400000 in
theorem digit_any (c : Int) (w : World) :
    Calls Try.prog 55 #[.int .u8 c] w fun e w' => e = .returned (.bool (digB c)) ∧ w' = w := by
  unfold digB
  go_enter Try.func55, Try.ntmps55
  go_wp2
  all_goals go_ret
  all_goals refine ⟨?_, rfl⟩
  all_goals simp_all
  all_goals omega

def kws : List (List UInt8) := [[99, 108, 97, 115, 115], [101, 120, 116, 101, 110, 100, 115], [114, 117, 108, 101], [113, 117, 101, 114, 121], [119, 104, 101, 110], [116, 104, 101, 110], [101, 110, 100], [115, 97, 108, 105, 101, 110, 99, 101], [103, 114, 111, 117, 112], [102, 108, 111, 119], [110, 111, 108, 111, 111, 112], [108, 111, 99, 107], [110, 111, 116], [101, 120, 105, 115, 116, 115], [102, 111, 114, 97, 108, 108], [111, 114], [102, 114, 111, 109], [101, 118, 97, 108], [97, 99, 99], [111, 118, 101, 114], [105, 110, 115, 101, 114, 116], [108, 111, 103, 105, 99, 97, 108], [117, 112, 100, 97, 116, 101], [100, 101, 108, 101, 116, 101], [102, 111, 99, 117, 115], [112, 114, 105, 110, 116], [104, 97, 108, 116], [116, 114, 117, 101], [102, 97, 108, 115, 101], [110, 117, 108, 108], [115, 105, 122, 101], [104, 97, 115], [105, 110, 116], [98, 111, 111, 108], [116, 101, 120, 116], [108, 105, 115, 116], [97, 110, 121], [114, 101, 102]]
def kwB (s : ByteArray) : Bool := kws.any (fun k => s.toList == k)

set_option maxHeartbeats 4000000 in
theorem keyword_any (s : ByteArray) (w : World) :
    Calls Try.prog 54 #[.string s] w fun e w' => e = .returned (.bool (kwB s)) ∧ w' = w := by
  unfold kwB kws
  simp only [List.any_cons, List.any_nil]
  go_enter Try.func54, Try.ntmps54
  go_wp2
  all_goals go_ret
  all_goals refine ⟨?_, rfl⟩
  all_goals (first | (exfalso; simp_all; done) | simp [*])

end Go.Proofs.Ytbfnlnjnaepiiaa
