/- Number, of a number of two digits at most. -/
import Derived.Test.YtbfnlnjnaepiiaaCLight
namespace Go.Proofs.Ytbfnlnjnaepiiaa
open Go.RowKit Go.Maps

def num1 (n : Nat) : ByteArray := ⟨#[48 + UInt8.ofNat n]⟩ ++ ⟨#[]⟩
def num2 (n : Nat) : ByteArray := ⟨#[48 + UInt8.ofNat (n / 10)]⟩ ++ (⟨#[48 + UInt8.ofNat (n % 10)]⟩ ++ ⟨#[]⟩)
def numB (n : Nat) : ByteArray := if n < 10 then num1 n else num2 n

theorem und_bytes : Try.prog.underlying 91 = some (.slice 5) := by kernel_rfl
theorem conv_one (w : World) (z : Int) (c : Nat) : (convert 91 9 (.slice (some ⟨w.heap.size, 0, none⟩) 1 c)).run Try.prog (w.alloc (.cells #[.int .u8 z] 5)) = .ok (.string ⟨#[UInt8.ofNat z.toNat]⟩) (w.alloc (.cells #[.int .u8 z] 5)) := by
  have hc : ∀ j u, [Value.int .u8 z][j]? = some u → (w.alloc (.cells #[.int .u8 z] 5)).cell? ((⟨w.heap.size, 0, none⟩ : Addr).add j) = some u := World.news_of_block (cs := #[.int .u8 z]) (t := 5) (fr := (0, 0)) (heap_alloc_new w _)
  rw [run_convert_bytes_string _ _ _ _ _ _ _ und_bytes Try.underlying5 Try.underlying9, run_bytesToString _ _ _ _ [z]]
  · rfl
  · have := run_loadCells_list (P := Try.prog) (w := w.alloc (.cells #[.int .u8 z] 5)) ⟨w.heap.size, 0, none⟩ [Value.int .u8 z] hc
    simpa using this

set_option maxRecDepth 100000 in
set_option maxHeartbeats 4000000 in
theorem number_any (n : Nat) (hn : n < 100) (w : World) :
    Calls Try.prog 28 #[.int .i64 n] w fun e w' => e = .returned (.string (numB n)) ∧ Below w.heap.size w w' := by
  have L := conv_one w
  have L2 := fun o z c => conv_one (w.alloc o) z c
  simp only [World.size_alloc] at L2
  unfold numB
  by_cases h10 : n < 10
  · have h1 : (n : Int) % 10 = n := by omega
    have h2 : (n : Int) / 10 = 0 := by omega
    rw [if_pos h10]
    unfold num1
    go_enter Try.func28, Try.ntmps28
    go_wp2_with fail
    refine wp_loop_rounds 1 ?_
    rw [rounds_succ]
    go_wp2_with fail
    go_ret
    exact ⟨rfl, below_al (Below.refl _ _) _⟩
  · rw [if_neg h10]
    unfold num2
    obtain ⟨d, hd⟩ : ∃ d : Nat, d = n / 10 := ⟨_, rfl⟩
    obtain ⟨r, hr⟩ : ∃ r : Nat, r = n % 10 := ⟨_, rfl⟩
    have h1 : (n : Int) % 10 = (r : Int) := by omega
    have h2 : (n : Int) / 10 = (d : Int) := by omega
    have h3 : (d : Int) % 10 = (d : Int) := by omega
    have h4 : (d : Int) / 10 = 0 := by omega
    have h5 : 0 < d := by omega
    have h6 : r < 10 := by omega
    have h7 : d < 10 := by omega
    rw [← hd, ← hr]
    clear hd hr
    have h8 : ((d : Int) == 0) = false := by simp; omega
    go_enter Try.func28, Try.ntmps28
    go_wp2_with fail
    refine wp_loop_rounds 2 ?_
    rw [rounds_succ]
    go_wp2_with fail
    rw [rounds_succ]
    go_wp2_with fail
    go_ret
    exact ⟨rfl, below_al (below_al (Below.refl _ _) _) _⟩
end Go.Proofs.Ytbfnlnjnaepiiaa
