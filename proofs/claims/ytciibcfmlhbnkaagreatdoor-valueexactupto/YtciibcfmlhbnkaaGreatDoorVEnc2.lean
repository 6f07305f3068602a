/- value.encode, a kind each. -/
import Derived.Test.YtciibcfmlhbnkaaGreatDoorVEnc
namespace Go.Proofs.YtciibcfmlhbnkaaGreatDoor
open Go.RowKit

set_option maxRecDepth 20000 in
set_option maxHeartbeats 2000000 in
theorem encode_0 (b : Bool) (i : Int) (s : ByteArray) (p : Option Addr) (n c : Nat) (w0 w : World) (v : Value) (xs : List UInt8) (hb : Below w0.heap.size w0 w) (hx : xs.length + 1 ≤ 1000000000) (hown : w.ownsRow w0.heap.size 5 1 v xs.length (bv (ii xs))) :
    Calls Tryz.prog 67 #[v, .agg #[.int .i64 0, .bool b, .int .i64 i, .string s, .slice p n c]] w fun e w' => EncP w0 w' (xs ++ [0]) e := by
  have HI := Hid.intro info5
  have HX := Hid.intro hx
  have HB := Hid.intro hb
  have hB := hb.size
  clear hx hb
  have HO := Hid.intro hown
  have hne : some w.heap.size ≠ v.ownBlock := by
    intro e
    have := hown.lt _ e.symm
    omega
  have HN := Hid.intro hne
  have HL := Hid.intro (fun g (hg : v.ownBlock = some g) => (hown.lt g hg).1)
  clear hown hne
  go_enter Tryz.func67, Tryz.ntmps67
  go_wp2_with (at_builtin; refine wpList_append_own_at _ rfl _ _ 50 rfl w0.heap.size 5 HI.out.choose (.int .u8 0) 1 1 Tryz.underlying50 HI.out.choose_spec.1 HI.out.choose_spec.2.1 HI.out.choose_spec.2.2.1 HI.out.choose_spec.2.2.2 rfl (by decide) _ _ _ rfl ((HO.out.alloc _).alloc _) ⟨w.heap.size + 1, 0, none⟩ 1 1 [.int .u8 0] rfl rfl ?c1 ?c2 ?c3 ?c4 ?c5 ?_)
  case c1 => intro j u hj; match j, hj with | 0, hj => simp at hj; subst hj; simp [Addr.add]
  case c2 => intro u hu; simp at hu; subst hu; rfl
  case c3 => have := HX.out; unfold maxLen; omega
  case c4 => have := HX.out; omega
  case c5 => simp; omega
  · intro v1 w1 hown' hgrow _ hat
    obtain ⟨gc, gf⟩ := grown_cell (g := w.heap.size) hgrow (by simp; omega) HN.out
    have hap : Hid (Ap w w1 v v1) := ((Ap.alloc w _ v).trans (Ap.alloc _ _ v)).trans ⟨hgrow, hat.elim Or.inl (fun e => Or.inr ⟨_, e, by simp⟩)⟩
    have h1s : w.heap.size + 1 + 1 ≤ w1.heap.size := by have := hgrow.size; simpa using this
    have ho1 : Hid (w1.ownsRow w0.heap.size 5 1 v1 (xs ++ [0]).length (bv (ii (xs ++ [0])))) := by
      have e : bv (ii (xs ++ [0])) = bv (ii xs) ++ [.int .u8 0] := by simp [bv, ii]
      rw [e, List.length_append]; exact hown'
    have hbw : Hid (Below w0.heap.size w0 w1) := HB.out.trans (hap.out.toBelow hB HL.out)
    have HN1 : Hid (some w.heap.size ≠ v1.ownBlock) := Hid.intro (by
      rcases hat with e | e
      · rw [e]; exact HN.out
      · rw [e]; exact fun h => by have := Option.some.inj h; first | omega | (simp at this; omega))
    clear hown' hgrow hat HO
    go_wp2_with fail
    go_ret
    exact ⟨v1, rfl, ho1.out, hbw.out⟩

set_option maxRecDepth 20000 in
set_option maxHeartbeats 2000000 in
theorem encode_1 (b : Bool) (i : Int) (s : ByteArray) (p : Option Addr) (n c : Nat) (w0 w : World) (v : Value) (xs : List UInt8) (hb : Below w0.heap.size w0 w) (hx : xs.length + 2 ≤ 1000000000) (hown : w.ownsRow w0.heap.size 5 1 v xs.length (bv (ii xs))) :
    Calls Tryz.prog 67 #[v, .agg #[.int .i64 1, .bool b, .int .i64 i, .string s, .slice p n c]] w fun e w' => EncP w0 w' (xs ++ [1, bitU b]) e := by
  have HI := Hid.intro info5
  have HX := Hid.intro hx
  have HB := Hid.intro hb
  have hB := hb.size
  clear hx hb
  have HO := Hid.intro hown
  have hne : some w.heap.size ≠ v.ownBlock := by
    intro e
    have := hown.lt _ e.symm
    omega
  have HN := Hid.intro hne
  have HL := Hid.intro (fun g (hg : v.ownBlock = some g) => (hown.lt g hg).1)
  clear hown hne
  go_enter Tryz.func67, Tryz.ntmps67
  go_wp2_with (at_builtin; refine wpList_append_own_at _ rfl _ _ 50 rfl w0.heap.size 5 HI.out.choose (.int .u8 0) 1 1 Tryz.underlying50 HI.out.choose_spec.1 HI.out.choose_spec.2.1 HI.out.choose_spec.2.2.1 HI.out.choose_spec.2.2.2 rfl (by decide) _ _ _ rfl ((HO.out.alloc _).alloc _) ⟨w.heap.size + 1, 0, none⟩ 1 1 [.int .u8 1] rfl rfl ?c1 ?c2 ?c3 ?c4 ?c5 ?_)
  case c1 => intro j u hj; match j, hj with | 0, hj => simp at hj; subst hj; simp [Addr.add]
  case c2 => intro u hu; simp at hu; subst hu; rfl
  case c3 => have := HX.out; unfold maxLen; omega
  case c4 => have := HX.out; omega
  case c5 => simp; omega
  · intro v1 w1 hown' hgrow _ hat
    obtain ⟨gc, gf⟩ := grown_cell (g := w.heap.size) hgrow (by simp; omega) HN.out
    have hap : Hid (Ap w w1 v v1) := ((Ap.alloc w _ v).trans (Ap.alloc _ _ v)).trans ⟨hgrow, hat.elim Or.inl (fun e => Or.inr ⟨_, e, by simp⟩)⟩
    have h1s : w.heap.size + 1 + 1 ≤ w1.heap.size := by have := hgrow.size; simpa using this
    have ho1 : Hid (w1.ownsRow w0.heap.size 5 1 v1 (xs ++ [1]).length (bv (ii (xs ++ [1])))) := by
      have e : bv (ii (xs ++ [1])) = bv (ii xs) ++ [.int .u8 1] := by simp [bv, ii]
      rw [e, List.length_append]; exact hown'
    have hbw : Hid (Below w0.heap.size w0 w1) := HB.out.trans (hap.out.toBelow hB HL.out)
    have HN1 : Hid (some w.heap.size ≠ v1.ownBlock) := Hid.intro (by
      rcases hat with e | e
      · rw [e]; exact HN.out
      · rw [e]; exact fun h => by have := Option.some.inj h; first | omega | (simp at this; omega))
    clear hown' hgrow hat HO
    have HV1 := Hid.intro (fun g (hg : v1.ownBlock = some g) => (ho1.out.lt g hg).1)
    go_wp2_with ((first | (go_at_call 40; refine (bit_any _ _).mono ?_; rintro e w2 ⟨rfl, hw2⟩; subst w2) | (at_builtin; refine wpList_append_own_at _ rfl _ _ 50 rfl w0.heap.size 5 HI.out.choose (.int .u8 0) 1 1 Tryz.underlying50 HI.out.choose_spec.1 HI.out.choose_spec.2.1 HI.out.choose_spec.2.2.1 HI.out.choose_spec.2.2.2 rfl (by decide) _ _ _ rfl (ho1.out.alloc _) ⟨w1.heap.size, 0, none⟩ 1 1 [.int .u8 (bitI b)] rfl rfl ?d1 ?d2 ?d3 ?d4 ?d5 ?_)))
    case d1 => intro j u hj; match j, hj with | 0, hj => simp at hj; subst hj; simp [Addr.add]
    case d2 => intro u hu; simp at hu; subst hu; rfl
    case d3 => have := HX.out; unfold maxLen; simp; omega
    case d4 => have := HX.out; simp; omega
    case d5 => simp; omega
    · intro v2 w2 hown2 hgrow2 _ hat2
      have hap2 : Hid (Ap w1 w2 v1 v2) := (Ap.alloc w1 _ v1).trans ⟨hgrow2, hat2.elim Or.inl (fun e => Or.inr ⟨_, e, by simp⟩)⟩
      have ho2 : Hid (w2.ownsRow w0.heap.size 5 1 v2 (xs ++ [1, bitU b]).length (bv (ii (xs ++ [1, bitU b])))) := by
        have e : bv (ii (xs ++ [1, bitU b])) = bv (ii (xs ++ [1])) ++ [.int .u8 (bitI b)] := by simp [bv, ii, bitU_nat]
        have h4 : (xs ++ [1, bitU b]).length = xs.length + 1 + 1 := by simp
        refine Hid.intro ?_
        rw [e, h4]
        exact hown2
      clear hown2 hgrow2 hat2 ho1
      go_wp2_with fail
      go_ret
      exact ⟨v2, rfl, ho2.out, hbw.out.trans (hap2.out.toBelow hbw.out.size HV1.out)⟩

set_option maxRecDepth 20000 in
set_option maxHeartbeats 2000000 in
theorem encode_2 (b : Bool) (i : Int) (s : ByteArray) (p : Option Addr) (n c : Nat) (w0 w : World) (v : Value) (xs : List UInt8) (hb : Below w0.heap.size w0 w) (hx : xs.length + 9 ≤ 1000000000) (hown : w.ownsRow w0.heap.size 5 1 v xs.length (bv (ii xs))) :
    Calls Tryz.prog 67 #[v, .agg #[.int .i64 2, .bool b, .int .i64 i, .string s, .slice p n c]] w fun e w' => EncP w0 w' (xs ++ (2 :: word8 (IntKind.u64.wrap i) 8)) e := by
  have HI := Hid.intro info5
  have HX := Hid.intro hx
  have HB := Hid.intro hb
  have hB := hb.size
  clear hx hb
  have HO := Hid.intro hown
  have hne : some w.heap.size ≠ v.ownBlock := by
    intro e
    have := hown.lt _ e.symm
    omega
  have HN := Hid.intro hne
  have HL := Hid.intro (fun g (hg : v.ownBlock = some g) => (hown.lt g hg).1)
  clear hown hne
  go_enter Tryz.func67, Tryz.ntmps67
  go_wp2_with (at_builtin; refine wpList_append_own_at _ rfl _ _ 50 rfl w0.heap.size 5 HI.out.choose (.int .u8 0) 1 1 Tryz.underlying50 HI.out.choose_spec.1 HI.out.choose_spec.2.1 HI.out.choose_spec.2.2.1 HI.out.choose_spec.2.2.2 rfl (by decide) _ _ _ rfl ((HO.out.alloc _).alloc _) ⟨w.heap.size + 1, 0, none⟩ 1 1 [.int .u8 2] rfl rfl ?c1 ?c2 ?c3 ?c4 ?c5 ?_)
  case c1 => intro j u hj; match j, hj with | 0, hj => simp at hj; subst hj; simp [Addr.add]
  case c2 => intro u hu; simp at hu; subst hu; rfl
  case c3 => have := HX.out; unfold maxLen; omega
  case c4 => have := HX.out; omega
  case c5 => simp; omega
  · intro v1 w1 hown' hgrow _ hat
    obtain ⟨gc, gf⟩ := grown_cell (g := w.heap.size) hgrow (by simp; omega) HN.out
    have hap : Hid (Ap w w1 v v1) := ((Ap.alloc w _ v).trans (Ap.alloc _ _ v)).trans ⟨hgrow, hat.elim Or.inl (fun e => Or.inr ⟨_, e, by simp⟩)⟩
    have h1s : w.heap.size + 1 + 1 ≤ w1.heap.size := by have := hgrow.size; simpa using this
    have ho1 : Hid (w1.ownsRow w0.heap.size 5 1 v1 (xs ++ [2]).length (bv (ii (xs ++ [2])))) := by
      have e : bv (ii (xs ++ [2])) = bv (ii xs) ++ [.int .u8 2] := by simp [bv, ii]
      rw [e, List.length_append]; exact hown'
    have hbw : Hid (Below w0.heap.size w0 w1) := HB.out.trans (hap.out.toBelow hB HL.out)
    have HN1 : Hid (some w.heap.size ≠ v1.ownBlock) := Hid.intro (by
      rcases hat with e | e
      · rw [e]; exact HN.out
      · rw [e]; exact fun h => by have := Option.some.inj h; first | omega | (simp at this; omega))
    clear hown' hgrow hat HO
    have HV1 := Hid.intro (fun g (hg : v1.ownBlock = some g) => (ho1.out.lt g hg).1)
    have HW := Hid.intro (encodeWord_any w0.heap.size v1 (ii (xs ++ [2])) (IntKind.u64.wrap i) 8 w1 hbw.out.size (by omega) (by rw [ii_len]; have := HX.out; simp; omega) (by rw [ii_len]; exact ho1.out))
    clear ho1 HN
    go_wp2_with fail
    refine HW.out.mono ?_
    rintro e w2 ⟨v2, rfl, ho2, ha2⟩
    have ho3 : Hid (w2.ownsRow w0.heap.size 5 1 v2 (xs ++ 2 :: word8 (IntKind.u64.wrap i) 8).length (bv (ii (xs ++ 2 :: word8 (IntKind.u64.wrap i) 8)))) := by
      have e : ii (xs ++ 2 :: word8 (IntKind.u64.wrap i) 8) = ii (xs ++ [2]) ++ wordB (IntKind.u64.wrap i) 8 := by rw [← ii_word, ← ii_app]; simp
      have h4 : (xs ++ 2 :: word8 (IntKind.u64.wrap i) 8).length = (ii (xs ++ [2])).length + 8 := by rw [ii_len]; simp [word_len]
      rw [e, h4]
      exact ho2
    clear ho2
    go_wp2
    go_ret
    exact ⟨v2, rfl, ho3.out, hbw.out.trans (ha2.toBelow hbw.out.size HV1.out)⟩

set_option maxRecDepth 20000 in
set_option maxHeartbeats 2000000 in
theorem encode_5 (b : Bool) (i : Int) (s : ByteArray) (p : Option Addr) (n c : Nat) (w0 w : World) (v : Value) (xs : List UInt8) (hb : Below w0.heap.size w0 w) (hx : xs.length + 9 ≤ 1000000000) (hown : w.ownsRow w0.heap.size 5 1 v xs.length (bv (ii xs))) :
    Calls Tryz.prog 67 #[v, .agg #[.int .i64 5, .bool b, .int .i64 i, .string s, .slice p n c]] w fun e w' => EncP w0 w' (xs ++ (5 :: word8 (IntKind.u64.wrap i) 8)) e := by
  have HI := Hid.intro info5
  have HX := Hid.intro hx
  have HB := Hid.intro hb
  have hB := hb.size
  clear hx hb
  have HO := Hid.intro hown
  have hne : some w.heap.size ≠ v.ownBlock := by
    intro e
    have := hown.lt _ e.symm
    omega
  have HN := Hid.intro hne
  have HL := Hid.intro (fun g (hg : v.ownBlock = some g) => (hown.lt g hg).1)
  clear hown hne
  go_enter Tryz.func67, Tryz.ntmps67
  go_wp2_with (at_builtin; refine wpList_append_own_at _ rfl _ _ 50 rfl w0.heap.size 5 HI.out.choose (.int .u8 0) 1 1 Tryz.underlying50 HI.out.choose_spec.1 HI.out.choose_spec.2.1 HI.out.choose_spec.2.2.1 HI.out.choose_spec.2.2.2 rfl (by decide) _ _ _ rfl ((HO.out.alloc _).alloc _) ⟨w.heap.size + 1, 0, none⟩ 1 1 [.int .u8 5] rfl rfl ?c1 ?c2 ?c3 ?c4 ?c5 ?_)
  case c1 => intro j u hj; match j, hj with | 0, hj => simp at hj; subst hj; simp [Addr.add]
  case c2 => intro u hu; simp at hu; subst hu; rfl
  case c3 => have := HX.out; unfold maxLen; omega
  case c4 => have := HX.out; omega
  case c5 => simp; omega
  · intro v1 w1 hown' hgrow _ hat
    obtain ⟨gc, gf⟩ := grown_cell (g := w.heap.size) hgrow (by simp; omega) HN.out
    have hap : Hid (Ap w w1 v v1) := ((Ap.alloc w _ v).trans (Ap.alloc _ _ v)).trans ⟨hgrow, hat.elim Or.inl (fun e => Or.inr ⟨_, e, by simp⟩)⟩
    have h1s : w.heap.size + 1 + 1 ≤ w1.heap.size := by have := hgrow.size; simpa using this
    have ho1 : Hid (w1.ownsRow w0.heap.size 5 1 v1 (xs ++ [5]).length (bv (ii (xs ++ [5])))) := by
      have e : bv (ii (xs ++ [5])) = bv (ii xs) ++ [.int .u8 5] := by simp [bv, ii]
      rw [e, List.length_append]; exact hown'
    have hbw : Hid (Below w0.heap.size w0 w1) := HB.out.trans (hap.out.toBelow hB HL.out)
    have HN1 : Hid (some w.heap.size ≠ v1.ownBlock) := Hid.intro (by
      rcases hat with e | e
      · rw [e]; exact HN.out
      · rw [e]; exact fun h => by have := Option.some.inj h; first | omega | (simp at this; omega))
    clear hown' hgrow hat HO
    have HV1 := Hid.intro (fun g (hg : v1.ownBlock = some g) => (ho1.out.lt g hg).1)
    have HW := Hid.intro (encodeWord_any w0.heap.size v1 (ii (xs ++ [5])) (IntKind.u64.wrap i) 8 w1 hbw.out.size (by omega) (by rw [ii_len]; have := HX.out; simp; omega) (by rw [ii_len]; exact ho1.out))
    clear ho1 HN
    go_wp2_with fail
    refine HW.out.mono ?_
    rintro e w2 ⟨v2, rfl, ho2, ha2⟩
    have ho3 : Hid (w2.ownsRow w0.heap.size 5 1 v2 (xs ++ 5 :: word8 (IntKind.u64.wrap i) 8).length (bv (ii (xs ++ 5 :: word8 (IntKind.u64.wrap i) 8)))) := by
      have e : ii (xs ++ 5 :: word8 (IntKind.u64.wrap i) 8) = ii (xs ++ [5]) ++ wordB (IntKind.u64.wrap i) 8 := by rw [← ii_word, ← ii_app]; simp
      have h4 : (xs ++ 5 :: word8 (IntKind.u64.wrap i) 8).length = (ii (xs ++ [5])).length + 8 := by rw [ii_len]; simp [word_len]
      rw [e, h4]
      exact ho2
    clear ho2
    go_wp2
    go_ret
    exact ⟨v2, rfl, ho3.out, hbw.out.trans (ha2.toBelow hbw.out.size HV1.out)⟩

set_option maxRecDepth 20000 in
set_option maxHeartbeats 2000000 in
theorem encode_3 (b : Bool) (i : Int) (s : ByteArray) (p : Option Addr) (n c : Nat) (hs : s.size ≤ 65536) (w0 w : World) (v : Value) (xs : List UInt8) (hb : Below w0.heap.size w0 w) (hx : xs.length + (5 + s.size) ≤ 1000000000) (hown : w.ownsRow w0.heap.size 5 1 v xs.length (bv (ii xs))) :
    Calls Tryz.prog 67 #[v, .agg #[.int .i64 3, .bool b, .int .i64 i, .string s, .slice p n c]] w fun e w' => EncP w0 w' (xs ++ (3 :: (word8 s.size 4 ++ s.data.toList))) e := by
  have HI := Hid.intro info5
  have HX := Hid.intro hx
  have HB := Hid.intro hb
  have hB := hb.size
  clear hx hb
  have HO := Hid.intro hown
  have hne : some w.heap.size ≠ v.ownBlock := by
    intro e
    have := hown.lt _ e.symm
    omega
  have HN := Hid.intro hne
  have HL := Hid.intro (fun g (hg : v.ownBlock = some g) => (hown.lt g hg).1)
  clear hown hne
  go_enter Tryz.func67, Tryz.ntmps67
  go_wp2_with (at_builtin; refine wpList_append_own_at _ rfl _ _ 50 rfl w0.heap.size 5 HI.out.choose (.int .u8 0) 1 1 Tryz.underlying50 HI.out.choose_spec.1 HI.out.choose_spec.2.1 HI.out.choose_spec.2.2.1 HI.out.choose_spec.2.2.2 rfl (by decide) _ _ _ rfl ((HO.out.alloc _).alloc _) ⟨w.heap.size + 1, 0, none⟩ 1 1 [.int .u8 3] rfl rfl ?c1 ?c2 ?c3 ?c4 ?c5 ?_)
  case c1 => intro j u hj; match j, hj with | 0, hj => simp at hj; subst hj; simp [Addr.add]
  case c2 => intro u hu; simp at hu; subst hu; rfl
  case c3 => have := HX.out; unfold maxLen; omega
  case c4 => have := HX.out; omega
  case c5 => simp; omega
  · intro v1 w1 hown' hgrow _ hat
    obtain ⟨gc, gf⟩ := grown_cell (g := w.heap.size) hgrow (by simp; omega) HN.out
    have hap : Hid (Ap w w1 v v1) := ((Ap.alloc w _ v).trans (Ap.alloc _ _ v)).trans ⟨hgrow, hat.elim Or.inl (fun e => Or.inr ⟨_, e, by simp⟩)⟩
    have h1s : w.heap.size + 1 + 1 ≤ w1.heap.size := by have := hgrow.size; simpa using this
    have ho1 : Hid (w1.ownsRow w0.heap.size 5 1 v1 (xs ++ [3]).length (bv (ii (xs ++ [3])))) := by
      have e : bv (ii (xs ++ [3])) = bv (ii xs) ++ [.int .u8 3] := by simp [bv, ii]
      rw [e, List.length_append]; exact hown'
    have hbw : Hid (Below w0.heap.size w0 w1) := HB.out.trans (hap.out.toBelow hB HL.out)
    have HN1 : Hid (some w.heap.size ≠ v1.ownBlock) := Hid.intro (by
      rcases hat with e | e
      · rw [e]; exact HN.out
      · rw [e]; exact fun h => by have := Option.some.inj h; first | omega | (simp at this; omega))
    clear hown' hgrow hat HO
    have HV1 := Hid.intro (fun g (hg : v1.ownBlock = some g) => (ho1.out.lt g hg).1)
    have hs1 : IntKind.u64.wrap (s.size : Int) = (s.size : Int) := by simp [IntKind.wrap, IntKind.bits, IntKind.signed]; omega
    have HW := Hid.intro (encodeWord_any w0.heap.size v1 (ii (xs ++ [3])) (s.size : Int) 4 w1 hbw.out.size (by omega) (by rw [ii_len]; have := HX.out; simp; omega) (by rw [ii_len]; exact ho1.out))
    clear ho1 HN
    go_wp2_with fail
    refine HW.out.mono ?_
    rintro e w2 ⟨v2, rfl, ho2, ha2⟩
    obtain ⟨gc2, gf2⟩ := grown_cell (g := w.heap.size) ha2.1 (by omega) HN1.out
    have ho3 : Hid (w2.ownsRow w0.heap.size 5 1 v2 (xs.length + 5) (bv (ii (xs ++ 3 :: word8 s.size 4)))) := by
      have e : ii (xs ++ 3 :: word8 s.size 4) = ii (xs ++ [3]) ++ wordB s.size 4 := by rw [← ii_word, ← ii_app]; simp
      have h4 : xs.length + 5 = (ii (xs ++ [3])).length + 4 := by rw [ii_len]; simp
      rw [e, h4]
      exact ho2
    have hbw2 : Hid (Below w0.heap.size w0 w2) := hbw.out.trans (ha2.toBelow hbw.out.size HV1.out)
    have hap2 : Hid (Ap w w2 v v2) := hap.out.trans ha2
    have HV2 := Hid.intro (fun g (hg : v2.ownBlock = some g) => (ho3.out.lt g hg).1)
    clear ho2 ha2 HW hap hbw HV1 HL
    go_wp2_with (at_builtin; go_loud (refine Lib.wpList_append_own_string _ rfl _ _ 50 9 rfl w0.heap.size 5 HI.out.choose Tryz.underlying50 Tryz.underlying9 HI.out.choose_spec.1 HI.out.choose_spec.2.1 HI.out.choose_spec.2.2.1 HI.out.choose_spec.2.2.2 _ _ _ rfl ho3.out s rfl ?d3 ?d4 ?d5 ?_))
    case d3 => have := HX.out; unfold maxLen; omega
    case d4 => have := HX.out; omega
    case d5 => exact hbw2.out.size
    · intro v3 w3 hown3 hgrow3 _
      have hbw3 := Hid.intro (grown_below hbw2.out hgrow3 HV2.out)
      have ho4 : Hid (w3.ownsRow w0.heap.size 5 1 v3 (xs ++ 3 :: (word8 s.size 4 ++ s.data.toList)).length (bv (ii (xs ++ 3 :: (word8 s.size 4 ++ s.data.toList))))) := by
        have e : bv (ii (xs ++ 3 :: (word8 s.size 4 ++ s.data.toList))) = bv (ii (xs ++ 3 :: word8 s.size 4)) ++ Lib.strCells s := by rw [bv_str]; simp [bv, ii]
        have h4 : (xs ++ 3 :: (word8 s.size 4 ++ s.data.toList)).length = xs.length + 5 + s.size := by
          have hz : s.data.toList.length = s.size := Array.length_toList
          simp only [List.length_append, List.length_cons, word_len, hz]; omega
        refine Hid.intro ?_
        rw [e, h4]
        exact hown3
      clear hown3 hgrow3 ho3
      go_wp2_with fail
      go_ret
      exact ⟨v3, rfl, ho4.out, hbw3.out⟩

set_option maxRecDepth 20000 in
set_option maxHeartbeats 2000000 in
theorem encode_4 (w0 : World) (n r : Nat) (ih : EncAt n) (b : Bool) (i : Int) (s : ByteArray) (ts : List Tr) (sl : Value) (hlen : ts.length ≤ 4096) (hfit : ∀ t ∈ ts, fit r t = true) (hl : Lv w0 (Vs w0 n) ts sl) (w : World) (v : Value) (xs : List UInt8) (hb : Below w0.heap.size w0 w) (hx : xs.length + (5 + (ts.flatMap (enc n)).length) ≤ 1000000000) (hown : w.ownsRow w0.heap.size 5 1 v xs.length (bv (ii xs))) :
    Calls Tryz.prog 67 #[v, .agg #[.int .i64 4, .bool b, .int .i64 i, .string s, sl]] w fun e w' => EncP w0 w' (xs ++ (4 :: (word8 ts.length 4 ++ ts.flatMap (enc n)))) e := by
  obtain ⟨a0, ca, rfl, la, ma, ea⟩ := hl
  unfold maxLen at ma
  have HE := Hid.intro ea
  clear ea
  have HI := Hid.intro info5
  have HX := Hid.intro hx
  have HB := Hid.intro hb
  have hB := hb.size
  clear hx hb
  have HO := Hid.intro hown
  have hne : some w.heap.size ≠ v.ownBlock := by
    intro e
    have := hown.lt _ e.symm
    omega
  have HN := Hid.intro hne
  have HL := Hid.intro (fun g (hg : v.ownBlock = some g) => (hown.lt g hg).1)
  clear hown hne
  go_enter Tryz.func67, Tryz.ntmps67
  go_wp2_with (at_builtin; refine wpList_append_own_at _ rfl _ _ 50 rfl w0.heap.size 5 HI.out.choose (.int .u8 0) 1 1 Tryz.underlying50 HI.out.choose_spec.1 HI.out.choose_spec.2.1 HI.out.choose_spec.2.2.1 HI.out.choose_spec.2.2.2 rfl (by decide) _ _ _ rfl ((HO.out.alloc _).alloc _) ⟨w.heap.size + 1, 0, none⟩ 1 1 [.int .u8 4] rfl rfl ?c1 ?c2 ?c3 ?c4 ?c5 ?_)
  case c1 => intro j u hj; match j, hj with | 0, hj => simp at hj; subst hj; simp [Addr.add]
  case c2 => intro u hu; simp at hu; subst hu; rfl
  case c3 => have := HX.out; unfold maxLen; omega
  case c4 => have := HX.out; omega
  case c5 => simp; omega
  · intro v1 w1 hown' hgrow _ hat
    obtain ⟨gc, gf⟩ := grown_cell (g := w.heap.size) hgrow (by simp; omega) HN.out
    have hap : Hid (Ap w w1 v v1) := ((Ap.alloc w _ v).trans (Ap.alloc _ _ v)).trans ⟨hgrow, hat.elim Or.inl (fun e => Or.inr ⟨_, e, by simp⟩)⟩
    have h1s : w.heap.size + 1 + 1 ≤ w1.heap.size := by have := hgrow.size; simpa using this
    have ho1 : Hid (w1.ownsRow w0.heap.size 5 1 v1 (xs ++ [4]).length (bv (ii (xs ++ [4])))) := by
      have e : bv (ii (xs ++ [4])) = bv (ii xs) ++ [.int .u8 4] := by simp [bv, ii]
      rw [e, List.length_append]; exact hown'
    have hbw : Hid (Below w0.heap.size w0 w1) := HB.out.trans (hap.out.toBelow hB HL.out)
    have HN1 : Hid (some w.heap.size ≠ v1.ownBlock) := Hid.intro (by
      rcases hat with e | e
      · rw [e]; exact HN.out
      · rw [e]; exact fun h => by have := Option.some.inj h; first | omega | (simp at this; omega))
    clear hown' hgrow hat HO
    have HV1 := Hid.intro (fun g (hg : v1.ownBlock = some g) => (ho1.out.lt g hg).1)
    have hs1 : IntKind.u64.wrap (ts.length : Int) = (ts.length : Int) := by simp [IntKind.wrap, IntKind.bits, IntKind.signed]; omega
    have HW := Hid.intro (encodeWord_any w0.heap.size v1 (ii (xs ++ [4])) (ts.length : Int) 4 w1 hbw.out.size (by omega) (by rw [ii_len]; have := HX.out; simp; omega) (by rw [ii_len]; exact ho1.out))
    clear ho1 HN
    go_wp2_with fail
    refine HW.out.mono ?_
    rintro e w2 ⟨v2, rfl, ho2, ha2⟩
    obtain ⟨gc2, gf2⟩ := grown_cell (g := w.heap.size) ha2.1 (by omega) HN1.out
    have ho3 : Hid (w2.ownsRow w0.heap.size 5 1 v2 (xs ++ 4 :: word8 ts.length 4).length (bv (ii (xs ++ 4 :: word8 ts.length 4)))) := by
      have e : ii (xs ++ 4 :: word8 ts.length 4) = ii (xs ++ [4]) ++ wordB ts.length 4 := by rw [← ii_word, ← ii_app]; simp
      have h4 : (xs ++ 4 :: word8 ts.length 4).length = (ii (xs ++ [4])).length + 4 := by rw [ii_len]; simp [word_len]
      refine Hid.intro ?_
      rw [e, h4]
      exact ho2
    have hbw2 : Hid (Below w0.heap.size w0 w2) := hbw.out.trans (ha2.toBelow hbw.out.size HV1.out)
    clear ho2 ha2 HW hap hbw HV1 HL HI
    go_wp2_with fail
    clear gc2 gf2 gc gf
    go_loopw [0, 54] (fun u j wr => ∃ k : Nat, j = .int .i64 (k : Int) ∧ k ≤ ts.length ∧ Hid (wr.ownsRow w0.heap.size 5 1 u (xs ++ 4 :: (word8 ts.length 4 ++ (ts.take k).flatMap (enc n))).length (bv (ii (xs ++ 4 :: (word8 ts.length 4 ++ (ts.take k).flatMap (enc n)))))) ∧ Hid (Below w0.heap.size w0 wr)) (fun _ j _ => ts.length - (intOf j).toNat)
    case atStart => exact ⟨0, rfl, Nat.zero_le _, Hid.intro (by simpa using ho3.out), hbw2⟩
    case round =>
      obtain ⟨k, rfl, hk, ho, hbr⟩ := hrel
      by_cases hlt : (k : Int) < (ts.length : Int)
      · have hlt' : k < ts.length := by omega
        obtain ⟨b1, o1, rfl, e1⟩ := HE.out (by omega)
        obtain ⟨s1, c1, t1⟩ := e1 k hlt'
        obtain ⟨x1, m1, rfl, -, -⟩ := t1.form
        obtain ⟨p1, p2, p3, p4, p5⟩ := c1.below hbr.out
        have ht := List.take_succ_eq_append_getElem hlt'
        have hmem := hfit _ (List.getElem_mem hlt')
        have hsz : (ts.take k).flatMap (enc n) ++ enc n ts[k] = (ts.take (k + 1)).flatMap (enc n) := by rw [ht, List.flatMap_append, List.flatMap_cons, List.flatMap_nil, List.append_nil]
        have hle : ((ts.take (k + 1)).flatMap (enc n)).length ≤ (ts.flatMap (enc n)).length := by
          conv => rhs; rw [← List.take_append_drop (k + 1) ts]
          rw [List.flatMap_append, List.length_append]; omega
        have hle2 : (xs ++ 4 :: (word8 ts.length 4 ++ (ts.take k).flatMap (enc n))).length + (enc n ts[k]).length ≤ 1000000000 := by
          have := HX.out
          rw [← hsz] at hle
          simp only [List.length_append, List.length_cons, word_len] at hle ⊢
          omega
        have hys : xs ++ 4 :: (word8 ts.length 4 ++ (ts.take k).flatMap (enc n)) ++ enc n ts[k] = xs ++ 4 :: (word8 ts.length 4 ++ (ts.take (k + 1)).flatMap (enc n)) := by rw [← hsz]; simp only [List.append_assoc, List.cons_append]
        have HC := Hid.intro (fun (u : Value) (w' : World) hw (hb : Below w0.heap.size w0 w') => ih r ts[k] _ w0 w' u _ hmem t1 hb hle2 hw)
        rw [hys] at HC
        generalize ts[k] = t at *
        obtain ⟨tk, tb, ti, tz, tl⟩ := t
        unfold vv at HC
        clear c1 t1 e1 HE hmem hsz hle hle2 hys ih hfit
        go_wp2_with fail
        refine (HC.out _ _ (ho.out.alloc _) (hbr.out.alloc hbr.out.size _)).mono ?_
        rintro e w3 ⟨v3, rfl, ho5, hb5⟩
        have HO5 := Hid.intro ho5
        have HB5 := Hid.intro hb5
        clear ho5 hb5
        go_wp2_with fail
        go_roundw
        case rel => exact ⟨k + 1, by go_num, hlt', HO5, HB5⟩
        case measure => simp [intOf]; omega
      · obtain rfl : k = ts.length := by omega
        rw [List.take_length] at ho
        go_wp2_with fail
        go_ret
        exact ⟨_, rfl, ho.out, hbr.out⟩
end Go.Proofs.YtciibcfmlhbnkaaGreatDoor
