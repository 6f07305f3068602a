/- Lexemes: the model; what the small functions of lex tell. -/
import Derived.Test.YtlheiiapolhpeaaLScope
import Derived.Lib.Bytealg
import Derived.Lib.UnsafeStr
import Derived.Lib.Strings
import Derived.Lib.Walk
import Derived.Lib.BufferWrite
import Derived.Laws.MakeOwn
namespace Go.RowKit
theorem Below.via {a b c : World} (h : Below b.heap.size b c) (k : Below a.heap.size a b) : Below a.heap.size a c := k.trans (h.mono k.size)
theorem Hid.intro {p : Prop} (h : p) : Hid p := h
end Go.RowKit
namespace Go.Proofs.Ytlheiiapolhpeaa
open Go.RowKit

def letB (c : Int) : Bool := decide (97 ≤ c ∧ c ≤ 122) || decide (65 ≤ c ∧ c ≤ 90)
def digB (c : Int) : Bool := decide (48 ≤ c ∧ c ≤ 57)
def blB (c : Int) : Bool := c == 32 || c == 9 || c == 13 || c == 10
def chB (c : Int) : Bool := letB c || digB c || c == 95

def isLet (c : UInt8) : Bool := letB (c.toNat : Int)
def isDig (c : UInt8) : Bool := digB (c.toNat : Int)
def isBl (c : UInt8) : Bool := blB (c.toNat : Int)
def isCh (c : UInt8) : Bool := chB (c.toNat : Int)

/-- The bytes of a text from a place on. -/
def tl (s : ByteArray) (k : Nat) : List UInt8 := s.data.toList.drop k
theorem tl_len (s : ByteArray) (k : Nat) : (tl s k).length = s.size - k := by
  unfold tl; rw [List.length_drop, Array.length_toList]; rfl
theorem tl_cons {s : ByteArray} {k : Nat} (h : k < s.size) : tl s k = s[k] :: tl s (k + 1) := by
  unfold tl
  have h' : k < s.data.toList.length := by rw [Array.length_toList]; exact h
  rw [List.drop_eq_getElem_cons h']
  rfl
theorem tl_end {s : ByteArray} {k : Nat} (h : s.size ≤ k) : tl s k = [] := by
  apply List.eq_nil_of_length_eq_zero; rw [tl_len]; omega
theorem tl_drop (s : ByteArray) (k n : Nat) : (tl s k).drop n = tl s (k + n) := by
  unfold tl; rw [List.drop_drop]

set_option maxHeartbeats 400000 in
theorem letter_any (c : Int) (w : World) :
    Calls Try.prog 26 #[.int .u8 c] w fun e w' => e = .returned (.bool (letB c)) ∧ w' = w := by
  unfold letB
  go_enter Try.func26, Try.ntmps26
  go_wp2
  all_goals go_ret
  all_goals refine ⟨?_, rfl⟩
  all_goals simp_all
  all_goals omega

set_option maxHeartbeats 400000 in
theorem digit_any (c : Int) (w : World) :
    Calls Try.prog 29 #[.int .u8 c] w fun e w' => e = .returned (.bool (digB c)) ∧ w' = w := by
  unfold digB
  go_enter Try.func29, Try.ntmps29
  go_wp2
  all_goals go_ret
  all_goals refine ⟨?_, rfl⟩
  all_goals simp_all
  all_goals omega

set_option maxHeartbeats 400000 in
theorem blank_any (c : Int) (w : World) :
    Calls Try.prog 24 #[.int .u8 c] w fun e w' => e = .returned (.bool (blB c)) ∧ w' = w := by
  unfold blB
  go_enter Try.func24, Try.ntmps24
  go_wp2
  all_goals go_ret
  all_goals refine ⟨?_, rfl⟩
  all_goals simp_all

set_option maxHeartbeats 400000 in
theorem rletter_any (c : Int) (w : World) :
    Calls Try.prog 34 #[.int .u8 c] w fun e w' => e = .returned (.bool (letB c)) ∧ w' = w := by
  unfold letB
  go_enter Try.func34, Try.ntmps34
  go_wp2
  all_goals go_ret
  all_goals refine ⟨?_, rfl⟩
  all_goals simp_all
  all_goals omega

set_option maxHeartbeats 400000 in
theorem rdigit_any (c : Int) (w : World) :
    Calls Try.prog 36 #[.int .u8 c] w fun e w' => e = .returned (.bool (digB c)) ∧ w' = w := by
  unfold digB
  go_enter Try.func36, Try.ntmps36
  go_wp2
  all_goals go_ret
  all_goals refine ⟨?_, rfl⟩
  all_goals simp_all
  all_goals omega

def escB (c : Int) : Option Int := if c = 34 ∨ c = 92 then some c else if c = 110 then some 10 else if c = 116 then some 9 else none

set_option maxHeartbeats 400000 in
theorem escaped_any (c : Int) (w : World) :
    Calls Try.prog 41 #[.int .u8 c] w fun e w' => e = .returned (match escB c with | some d => .tuple #[.int .u8 d, .bool true] | none => .tuple #[.int .u8 0, .bool false]) ∧ w' = w := by
  by_cases h34 : c = 34
  · subst c
    rw [show escB 34 = some 34 from rfl]
    go_enter Try.func41, Try.ntmps41
    go_wp2
    refine bodyPost_ret (v := .tuple #[.int .u8 34, .bool true]) (by simp [results, Try.results41, go_sem]) rfl ⟨rfl, rfl⟩
  by_cases h92 : c = 92
  · subst c
    rw [show escB 92 = some 92 from rfl]
    go_enter Try.func41, Try.ntmps41
    go_wp2
    refine bodyPost_ret (v := .tuple #[.int .u8 92, .bool true]) (by simp [results, Try.results41, go_sem]) rfl ⟨rfl, rfl⟩
  by_cases h110 : c = 110
  · subst c
    rw [show escB 110 = some 10 from rfl]
    go_enter Try.func41, Try.ntmps41
    go_wp2
    refine bodyPost_ret (v := .tuple #[.int .u8 10, .bool true]) (by simp [results, Try.results41, go_sem]) rfl ⟨rfl, rfl⟩
  by_cases h116 : c = 116
  · subst c
    rw [show escB 116 = some 9 from rfl]
    go_enter Try.func41, Try.ntmps41
    go_wp2
    refine bodyPost_ret (v := .tuple #[.int .u8 9, .bool true]) (by simp [results, Try.results41, go_sem]) rfl ⟨rfl, rfl⟩
  have e : escB c = none := by simp [escB, *]
  rw [e]
  go_enter Try.func41, Try.ntmps41
  go_wp2
  refine bodyPost_ret (v := .tuple #[.int .u8 0, .bool false]) (by simp [results, Try.results41, go_sem]) rfl ⟨rfl, rfl⟩

def twos : List (List UInt8) := [[61, 61], [33, 61], [60, 61], [62, 61], [38, 38], [124, 124]]
def twoB (s : ByteArray) : Bool := twos.any (fun k => s.toList == k)

set_option maxHeartbeats 400000 in
theorem two_any (s : ByteArray) (w : World) :
    Calls Try.prog 42 #[.string s] w fun e w' => e = .returned (.bool (twoB s)) ∧ w' = w := by
  unfold twoB twos
  simp only [List.any_cons, List.any_nil]
  go_enter Try.func42, Try.ntmps42
  go_wp2
  all_goals go_ret
  all_goals refine ⟨?_, rfl⟩
  all_goals (first | (exfalso; simp_all; done) | simp [*])

/-- A lexeme as a value. -/
def lxv (k : Int) (t : ByteArray) (a e : Int) : Value := .agg #[.int .i64 k, .string t, .int .i64 a, .int .i64 e]

theorem four_new (w : World) (x0 x1 x2 x3 : Value) (t : TypeId) : let W := w.alloc (.cells #[x0, x1, x2, x3] t)
    W.cell? ⟨w.heap.size, 0, none⟩ = some x0 ∧ W.cell? ⟨w.heap.size, 1, none⟩ = some x1 ∧ W.cell? ⟨w.heap.size, 2, none⟩ = some x2 ∧ W.cell? ⟨w.heap.size, 3, none⟩ = some x3 := by
  intro W
  have h : W.heap[w.heap.size]? = some (.cells #[x0, x1, x2, x3] t) := heap_alloc_new w _
  unfold World.cell?
  simp only [h]
  exact ⟨rfl, rfl, rfl, rfl⟩
theorem below_al {a w : World} (h : Below a.heap.size a w) (o : Obj) : Below a.heap.size a (w.alloc o) := h.alloc h.size o

set_option maxHeartbeats 400000 in
theorem barred_any (a : Int) (w : World) :
    Calls Try.prog 40 #[.int .i64 a] w fun e w' => e = .returned (.tuple #[lxv 0 ⟨#[]⟩ a 0, .bool false]) ∧ Below w.heap.size w w' := by
  go_enter Try.func40, Try.ntmps40
  go_wp2
  refine bodyPost_ret (v := .tuple #[lxv 0 ⟨#[]⟩ a 0, .bool false]) ?_ rfl ⟨rfl, ?_⟩
  · obtain ⟨g0, g1, g2, g3⟩ := four_new w (.int .i64 0) (.string ⟨#[]⟩) (.int .i64 a) (.int .i64 0) 31
    simp [results, Try.results40, go_sem, g0, g1, g2, g3, lxv]
  · exact (Below.refl _ _).alloc (Nat.le_refl _) _
end Go.Proofs.Ytlheiiapolhpeaa
