/- The texts of values as a function; value.quote. -/
import Derived.Test.YtciibcfmlhbnkaaGreatDoorVEnc3
import Derived.Test.YtciibcfmlhbnkaaGreatDoorTLay
import Derived.Deep.AppendLies
import Derived.Maps.AppendAt
namespace Go.Proofs.YtciibcfmlhbnkaaGreatDoor
open Go.RowKit

/-- A byte in a quoted text. -/
def qb (c : UInt8) : List UInt8 := if c = 34 ∨ c = 92 then [92, c] else if c = 10 then [92, 110] else if c = 9 then [92, 116] else [c]
def qd (l : List UInt8) (k : Nat) : List UInt8 := 34 :: (l.take k).flatMap qb
def quoB (l : List UInt8) : List UInt8 := 34 :: l.flatMap qb ++ [34]
theorem qb_le (c : UInt8) : (qb c).length ≤ 2 := by
  unfold qb; split <;> (try split) <;> (try split) <;> simp
theorem qfl_le (l : List UInt8) : (l.flatMap qb).length ≤ 2 * l.length := by
  induction l with
  | nil => simp
  | cons c r ih => rw [List.flatMap_cons, List.length_append, List.length_cons]; have := qb_le c; omega
theorem qd_le (l : List UInt8) (k : Nat) : (qd l k).length ≤ 2 * k + 1 := by
  have := qfl_le (l.take k)
  have := List.length_take_le k l
  rw [qd, List.length_cons]; omega
theorem qd_step {s : ByteArray} {k : Nat} (h : k < s.size) : qd s.data.toList (k + 1) = qd s.data.toList k ++ qb s[k] := by
  have : s.data.toList.take (k + 1) = s.data.toList.take k ++ [s[k]] := by
    rw [List.take_succ_eq_append_getElem (by rw [Array.length_toList]; exact h)]; rfl
  rw [qd, this, List.flatMap_append, qd]; simp
theorem qd_end (s : ByteArray) : qd s.data.toList s.size ++ [34] = quoB s.data.toList := by
  rw [qd, List.take_of_length_le (by rw [Array.length_toList]; exact Nat.le_refl _)]; rfl
theorem quoB_le (l : List UInt8) : (quoB l).length ≤ 2 * l.length + 2 := by
  have := qfl_le l
  rw [quoB, List.length_append, List.length_cons, List.length_singleton]; omega

/-- Rows of bytes with a comma and a blank between. -/
def sepB : List (List UInt8) → List UInt8
  | [] => []
  | x :: xs => x ++ xs.flatMap fun y => 44 :: 32 :: y
theorem sepB_snoc (l : List (List UInt8)) (y : List UInt8) : sepB (l ++ [y]) = if l = [] then y else sepB l ++ (44 :: 32 :: y) := by
  cases l with
  | nil => simp [sepB]
  | cons x xs => simp [sepB, List.flatMap_append]
def boolB (b : Bool) : List UInt8 := if b = true then [116, 114, 117, 101] else [102, 97, 108, 115, 101]
/-- A value's text. -/
def txt : Nat → Tr → List UInt8
  | 0, _ => []
  | n + 1, t => if t.k = 0 then [110, 117, 108, 108] else if t.k = 1 then boolB t.b else if t.k = 2 then Lib.itoa t.i else if t.k = 3 then quoB t.s.data.toList else if t.k = 5 then 35 :: Lib.itoa t.i else 91 :: (sepB (t.l.map (txt n)) ++ [93])

theorem grown_blw {B : Nat} {a w w' : World} {ow : Option Nat} (h : Below B a w) (hg : w.grownBy w' ow) (how : ∀ g, ow = some g → B ≤ g) (hB : B ≤ w.heap.size) : Below B a w' :=
  ⟨hg.os.trans h.os, hg.tape.trans h.tape, hg.output.trans h.output, Nat.le_trans h.size hg.size, fun k hk => (hg.block k (Nat.lt_of_lt_of_le hk hB) (fun e => by have := how k e.symm; omega)).trans (h.block k hk)⟩
/-- What is written so far. -/
structure OutP (w0 w : World) (v : Value) (d : List UInt8) : Prop where
  own : w.ownsRow w0.heap.size 5 1 v d.length (bv (ii d))
  blw : Below w0.heap.size w0 w
theorem OutP.size {w0 w : World} {v : Value} {d : List UInt8} (h : OutP w0 w v d) : w0.heap.size ≤ w.heap.size := h.blw.size
theorem OutP.app {w0 wr w1 w4 : World} {v v4 : Value} {d cs : List UInt8} {n : Nat} {news : List Value} (h : OutP w0 wr v d) (hA : Below wr.heap.size wr w1) (gr : w1.grownBy w4 v.ownBlock) (O4 : w4.ownsRow w0.heap.size 5 1 v4 (d.length + n) (bv (ii d) ++ news)) (hn : n = cs.length) (hnews : news = bv (ii cs)) : OutP w0 w4 v4 (d ++ cs) := by
  subst hn hnews
  have hb : Below w0.heap.size w0 w1 := h.blw.trans (hA.mono h.size)
  refine ⟨?_, grown_blw hb gr (fun g hg => (h.own.lt g hg).1) hb.size⟩
  have e : bv (ii (d ++ cs)) = bv (ii d) ++ bv (ii cs) := by simp [bv, ii]
  rw [e, List.length_append]; exact O4
theorem OutP.via {w0 w w' : World} {v : Value} {d : List UInt8} (h : OutP w0 w v d) (hb : Below w.heap.size w w') : OutP w0 w' v d :=
  ⟨h.own.kept (row := none) ⟨hb.os, hb.tape, hb.output, hb.size, fun k hk _ => hb.block k hk⟩ (by cases v.ownBlock <;> simp), h.blw.trans (hb.mono h.size)⟩

set_option maxRecDepth 100000 in
set_option maxHeartbeats 4000000 in
theorem vquote_any (s : ByteArray) (hs : s.size ≤ 65536) (w0 w : World) (v : Value) (xs : List UInt8) (h : OutP w0 w v xs) (hx : xs.length ≤ 900000000) :
    Calls Tryz.prog 73 #[v, .string s] w fun e w' => EncP w0 w' (xs ++ quoB s.data.toList) e := by
  have HI := Hid.intro info5
  have O := Hid.intro h
  clear h
  go_enter Tryz.func73, Tryz.ntmps73
  go_wp2_with (at_builtin; refine wpList_append_own_at _ rfl _ _ 50 rfl w0.heap.size 5 HI.out.choose (.int .u8 0) 1 1 Tryz.underlying50 HI.out.choose_spec.1 HI.out.choose_spec.2.1 HI.out.choose_spec.2.2.1 HI.out.choose_spec.2.2.2 rfl (by decide) _ _ _ rfl (O.out.own.alloc _) ⟨w.heap.size, 0, none⟩ 1 1 [.int .u8 34] rfl rfl (World.news_of_block (cs := #[.int .u8 34]) (t := 5) (fr := (0, 0)) (heap_alloc_new w _)) (by simp [Value.oneCell']) (by unfold maxLen; omega) (by omega) (by have := O.out.size; simp; omega) ?_)
  intro v4 w4 O4 gr4 _ _
  have O1 := Hid.intro (O.out.app (cs := [34]) (below_al (Below.refl _ _) _) gr4 O4 rfl rfl)
  clear O4 gr4
  go_wp2_with fail
  go_loopw [0, 12] (fun u i wr => ∃ k : Nat, i = .int .i64 (k : Int) ∧ k ≤ s.size ∧ Hid (OutP w0 wr u (xs ++ qd s.data.toList k))) (fun _ i _ => s.size - (intOf i).toNat)
  case atStart => exact ⟨0, rfl, Nat.zero_le _, O1⟩
  case round =>
    obtain ⟨k, rfl, hk, O⟩ := hrel
    have hql : (xs ++ qd s.data.toList k).length ≤ 900200000 := by have := qd_le s.data.toList k; rw [List.length_append]; omega
    generalize hd : xs ++ qd s.data.toList k = d at O hql
    by_cases hlt : k < s.size
    · have hlt' : (k : Int) < (s.size : Int) := by omega
      by_cases h1 : s[k] = 34 ∨ s[k] = 92
      · have hc : [92, s[k]] = qb s[k] := by rw [qb, if_pos h1]
        have hsw : (((s[k].toNat : Int) == 34) = true) ∨ (((s[k].toNat : Int) == 34) = false ∧ ((s[k].toNat : Int) == 92) = true) := by
          rcases h1 with h | h <;> rw [h] <;> decide
        rcases hsw with h2 | ⟨h2, h3⟩
        · go_wp2_with (at_builtin; refine wpList_append_own_at _ rfl _ _ 50 rfl w0.heap.size 5 HI.out.choose (.int .u8 0) 1 1 Tryz.underlying50 HI.out.choose_spec.1 HI.out.choose_spec.2.1 HI.out.choose_spec.2.2.1 HI.out.choose_spec.2.2.2 rfl (by decide) _ _ _ rfl (O.out.own.alloc _) ⟨wr.heap.size, 0, none⟩ 2 2 [.int .u8 92, .int .u8 (s[k].toNat : Int)] rfl rfl (World.news_of_block (cs := #[.int .u8 92, .int .u8 (s[k].toNat : Int)]) (t := 5) (fr := (0, 0)) (heap_alloc_new wr _)) (by simp [Value.oneCell']) (by unfold maxLen; omega) (by omega) (by have := O.out.size; simp; omega) ?_)
          intro v4 w4 O4 gr4 _ _
          have O1 := Hid.intro (O.out.app (cs := [92, s[k]]) (below_al (Below.refl _ _) _) gr4 O4 rfl rfl)
          clear O4 gr4
          go_wp2_with fail
          go_roundw
          case rel => exact ⟨k + 1, by go_num, hlt, Hid.intro (by have h := O1.out; rw [hc, ← hd, List.append_assoc, ← qd_step hlt] at h; exact h)⟩
          case measure => simp [intOf]; omega
        · go_wp2_with (at_builtin; refine wpList_append_own_at _ rfl _ _ 50 rfl w0.heap.size 5 HI.out.choose (.int .u8 0) 1 1 Tryz.underlying50 HI.out.choose_spec.1 HI.out.choose_spec.2.1 HI.out.choose_spec.2.2.1 HI.out.choose_spec.2.2.2 rfl (by decide) _ _ _ rfl (O.out.own.alloc _) ⟨wr.heap.size, 0, none⟩ 2 2 [.int .u8 92, .int .u8 (s[k].toNat : Int)] rfl rfl (World.news_of_block (cs := #[.int .u8 92, .int .u8 (s[k].toNat : Int)]) (t := 5) (fr := (0, 0)) (heap_alloc_new wr _)) (by simp [Value.oneCell']) (by unfold maxLen; omega) (by omega) (by have := O.out.size; simp; omega) ?_)
          intro v4 w4 O4 gr4 _ _
          have O1 := Hid.intro (O.out.app (cs := [92, s[k]]) (below_al (Below.refl _ _) _) gr4 O4 rfl rfl)
          clear O4 gr4
          go_wp2_with fail
          go_roundw
          case rel => exact ⟨k + 1, by go_num, hlt, Hid.intro (by have h := O1.out; rw [hc, ← hd, List.append_assoc, ← qd_step hlt] at h; exact h)⟩
          case measure => simp [intOf]; omega
      · have g34 : ((s[k].toNat : Int) == 34) = false := beq_false_of_ne (fun e => h1 (.inl (UInt8.toNat_inj.1 (by omega : s[k].toNat = 34))))
        have g92 : ((s[k].toNat : Int) == 92) = false := beq_false_of_ne (fun e => h1 (.inr (UInt8.toNat_inj.1 (by omega : s[k].toNat = 92))))
        by_cases h4 : s[k] = 10
        · have hc : [92, 110] = qb s[k] := by rw [qb, if_neg h1, if_pos h4]
          have g10 : ((s[k].toNat : Int) == 10) = true := by rw [h4]; decide
          go_wp2_with (at_builtin; refine wpList_append_own_at _ rfl _ _ 50 rfl w0.heap.size 5 HI.out.choose (.int .u8 0) 1 1 Tryz.underlying50 HI.out.choose_spec.1 HI.out.choose_spec.2.1 HI.out.choose_spec.2.2.1 HI.out.choose_spec.2.2.2 rfl (by decide) _ _ _ rfl (O.out.own.alloc _) ⟨wr.heap.size, 0, none⟩ 2 2 [.int .u8 92, .int .u8 110] rfl rfl (World.news_of_block (cs := #[.int .u8 92, .int .u8 110]) (t := 5) (fr := (0, 0)) (heap_alloc_new wr _)) (by simp [Value.oneCell']) (by unfold maxLen; omega) (by omega) (by have := O.out.size; simp; omega) ?_)
          intro v4 w4 O4 gr4 _ _
          have O1 := Hid.intro (O.out.app (cs := [92, 110]) (below_al (Below.refl _ _) _) gr4 O4 rfl rfl)
          clear O4 gr4
          go_wp2_with fail
          go_roundw
          case rel => exact ⟨k + 1, by go_num, hlt, Hid.intro (by have h := O1.out; rw [hc, ← hd, List.append_assoc, ← qd_step hlt] at h; exact h)⟩
          case measure => simp [intOf]; omega
        · have g10 : ((s[k].toNat : Int) == 10) = false := beq_false_of_ne (fun e => h4 (UInt8.toNat_inj.1 (by omega : s[k].toNat = 10)))
          by_cases h5 : s[k] = 9
          · have hc : [92, 116] = qb s[k] := by rw [qb, if_neg h1, if_neg h4, if_pos h5]
            have g9 : ((s[k].toNat : Int) == 9) = true := by rw [h5]; decide
            go_wp2_with (at_builtin; refine wpList_append_own_at _ rfl _ _ 50 rfl w0.heap.size 5 HI.out.choose (.int .u8 0) 1 1 Tryz.underlying50 HI.out.choose_spec.1 HI.out.choose_spec.2.1 HI.out.choose_spec.2.2.1 HI.out.choose_spec.2.2.2 rfl (by decide) _ _ _ rfl (O.out.own.alloc _) ⟨wr.heap.size, 0, none⟩ 2 2 [.int .u8 92, .int .u8 116] rfl rfl (World.news_of_block (cs := #[.int .u8 92, .int .u8 116]) (t := 5) (fr := (0, 0)) (heap_alloc_new wr _)) (by simp [Value.oneCell']) (by unfold maxLen; omega) (by omega) (by have := O.out.size; simp; omega) ?_)
            intro v4 w4 O4 gr4 _ _
            have O1 := Hid.intro (O.out.app (cs := [92, 116]) (below_al (Below.refl _ _) _) gr4 O4 rfl rfl)
            clear O4 gr4
            go_wp2_with fail
            go_roundw
            case rel => exact ⟨k + 1, by go_num, hlt, Hid.intro (by have h := O1.out; rw [hc, ← hd, List.append_assoc, ← qd_step hlt] at h; exact h)⟩
            case measure => simp [intOf]; omega
          · have hc : [s[k]] = qb s[k] := by rw [qb, if_neg h1, if_neg h4, if_neg h5]
            have g9 : ((s[k].toNat : Int) == 9) = false := beq_false_of_ne (fun e => h5 (UInt8.toNat_inj.1 (by omega : s[k].toNat = 9)))
            go_wp2_with (at_builtin; refine wpList_append_own_at _ rfl _ _ 50 rfl w0.heap.size 5 HI.out.choose (.int .u8 0) 1 1 Tryz.underlying50 HI.out.choose_spec.1 HI.out.choose_spec.2.1 HI.out.choose_spec.2.2.1 HI.out.choose_spec.2.2.2 rfl (by decide) _ _ _ rfl (O.out.own.alloc _) ⟨wr.heap.size, 0, none⟩ 1 1 [.int .u8 (s[k].toNat : Int)] rfl rfl (World.news_of_block (cs := #[.int .u8 (s[k].toNat : Int)]) (t := 5) (fr := (0, 0)) (heap_alloc_new wr _)) (by simp [Value.oneCell']) (by unfold maxLen; omega) (by omega) (by have := O.out.size; simp; omega) ?_)
            intro v4 w4 O4 gr4 _ _
            have O1 := Hid.intro (O.out.app (cs := [s[k]]) (below_al (Below.refl _ _) _) gr4 O4 rfl rfl)
            clear O4 gr4
            go_wp2_with fail
            go_roundw
            case rel => exact ⟨k + 1, by go_num, hlt, Hid.intro (by have h := O1.out; rw [hc, ← hd, List.append_assoc, ← qd_step hlt] at h; exact h)⟩
            case measure => simp [intOf]; omega
    · have hk' : k = s.size := by omega
      subst hk'
      go_wp2_with (at_builtin; refine wpList_append_own_at _ rfl _ _ 50 rfl w0.heap.size 5 HI.out.choose (.int .u8 0) 1 1 Tryz.underlying50 HI.out.choose_spec.1 HI.out.choose_spec.2.1 HI.out.choose_spec.2.2.1 HI.out.choose_spec.2.2.2 rfl (by decide) _ _ _ rfl (O.out.own.alloc _) ⟨wr.heap.size, 0, none⟩ 1 1 [.int .u8 34] rfl rfl (World.news_of_block (cs := #[.int .u8 34]) (t := 5) (fr := (0, 0)) (heap_alloc_new wr _)) (by simp [Value.oneCell']) (by unfold maxLen; omega) (by omega) (by have := O.out.size; simp; omega) ?_)
      intro v4 w4 O4 gr4 _ _
      have O1 := Hid.intro (O.out.app (cs := [34]) (below_al (Below.refl _ _) _) gr4 O4 rfl rfl)
      clear O4 gr4
      go_wp2_with fail
      go_ret
      have hr := O1.out
      rw [← hd, List.append_assoc, qd_end] at hr
      exact ⟨v4, rfl, hr.own, hr.blw⟩
end Go.Proofs.YtciibcfmlhbnkaaGreatDoor
