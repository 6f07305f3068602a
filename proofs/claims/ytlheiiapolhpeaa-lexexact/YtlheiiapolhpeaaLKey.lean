/- Key: what it tells. -/
import Derived.Test.YtlheiiapolhpeaaLLex
namespace Go.Proofs.Ytlheiiapolhpeaa
open Go.RowKit

def kwsL : List (List UInt8) := [[99, 108, 97, 115, 115], [101, 120, 116, 101, 110, 100, 115], [114, 117, 108, 101], [113, 117, 101, 114, 121], [119, 104, 101, 110], [116, 104, 101, 110], [101, 110, 100], [115, 97, 108, 105, 101, 110, 99, 101], [103, 114, 111, 117, 112], [102, 108, 111, 119], [110, 111, 108, 111, 111, 112], [108, 111, 99, 107], [110, 111, 116], [101, 120, 105, 115, 116, 115], [102, 111, 114, 97, 108, 108], [111, 114], [102, 114, 111, 109], [101, 118, 97, 108], [97, 99, 99], [111, 118, 101, 114], [105, 110, 115, 101, 114, 116], [108, 111, 103, 105, 99, 97, 108], [117, 112, 100, 97, 116, 101], [100, 101, 108, 101, 116, 101], [102, 111, 99, 117, 115], [112, 114, 105, 110, 116], [104, 97, 108, 116], [116, 114, 117, 101], [102, 97, 108, 115, 101], [110, 117, 108, 108], [115, 105, 122, 101], [104, 97, 115], [105, 110, 116], [98, 111, 111, 108], [116, 101, 120, 116], [108, 105, 115, 116], [97, 110, 121], [114, 101, 102]]
def keyB (s : ByteArray) : Bool := kwsL.any (fun k => s.toList == k)

set_option maxHeartbeats 4000000 in
theorem key_any (s : ByteArray) (w : World) :
    Calls Try.prog 10 #[.string s] w fun e w' => e = .returned (.bool (keyB s)) ∧ w' = w := by
  unfold keyB kwsL
  simp only [List.any_cons, List.any_nil]
  go_enter Try.func10, Try.ntmps10
  go_wp2
  all_goals go_ret
  all_goals refine ⟨?_, rfl⟩
  all_goals (first | (exfalso; simp_all; done) | simp [*])

end Go.Proofs.Ytlheiiapolhpeaa
