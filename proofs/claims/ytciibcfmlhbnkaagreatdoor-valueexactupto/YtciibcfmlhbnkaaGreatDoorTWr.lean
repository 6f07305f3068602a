/- value.write, a kind each; Text. -/
import Derived.Test.YtciibcfmlhbnkaaGreatDoorTTxt
import Derived.Test.YtciibcfmlhbnkaaGreatDoorRDec0
namespace Go.Proofs.YtciibcfmlhbnkaaGreatDoor
open Go.RowKit

theorem cell_blk {w : World} {N j : Nat} {cs : Array Value} {T : TypeId} {v : Value} (h : w.heap[N]? = some (.cells cs T (0, 0))) (hj : cs[j]? = some v) : w.cell? ⟨N, j, none⟩ = some v := by
  unfold World.cell?
  simp only [h]
  simpa using hj
def Tb (w : World) : Prop := Lib.TabBelow Tryz.prog w.heap.size w "internal/strconv.uint64pow10" .u64 Lib.pow10Tab
theorem vint_any (i : Int) (h0 : -9223372036854775808 ≤ i) (h1 : i ≤ 9223372036854775807) {w0 w : World} {v : Value} {d : List UInt8} (h : OutP w0 w v d) (hT : Tb w0) (hx : d.length ≤ 2000000000) :
    Calls Tryz.prog 72 #[v, .int .i64 i, .int .i64 10] w fun e w' => EncP w0 w' (d ++ Lib.itoa i) e ∧ Lib.OthersKept 5 none w w' := by
  refine (Any.strconv_AppendInt_10 Tryz.laysAI w0.heap.size d.length i h0 h1 v (bv (ii d)) w h.own h.size (by omega) (hT.on h.blw)).mono ?_
  rintro e w' ⟨v', rfl, ho, hb, hk⟩
  refine ⟨⟨v', rfl, ?_, h.blw.trans hb⟩, hk⟩
  have e : bv (ii (d ++ Lib.itoa i)) = bv (ii d) ++ Lib.byteCells (Lib.itoa i) := by simp [bv, ii, Lib.byteCells]
  rw [e, List.length_append]; exact ho
set_option maxRecDepth 20000 in
set_option maxHeartbeats 1000000 in
theorem vbool0_any (b : Bool) {w0 w : World} {v : Value} {d : List UInt8} (h : OutP w0 w v d) (hx : d.length ≤ 2000000000) :
    Calls Tryz.prog 121 #[v, .bool b] w fun e w' => EncP w0 w' (d ++ boolB b) e := by
  have HI := Hid.intro info5
  have O := Hid.intro h
  clear h
  cases b with
  | true =>
    go_enter Tryz.func121, Tryz.ntmps121
    go_wp2_with (at_builtin; refine Lib.wpList_append_own_string _ rfl _ _ 50 9 rfl w0.heap.size 5 HI.out.choose Tryz.underlying50 Tryz.underlying9 HI.out.choose_spec.1 HI.out.choose_spec.2.1 HI.out.choose_spec.2.2.1 HI.out.choose_spec.2.2.2 _ _ _ rfl O.out.own ⟨#[116, 114, 117, 101]⟩ rfl (by show _ + 4 ≤ _; unfold maxLen; omega) (by show _ + 4 ≤ _; omega) O.out.size ?_)
    intro v4 w4 O4 gr4 _
    have O1 := Hid.intro (O.out.app (cs := [116, 114, 117, 101]) (Below.refl _ _) gr4 O4 rfl rfl)
    clear O4 gr4
    go_wp2_with fail
    go_ret
    exact ⟨v4, rfl, O1.out.own, O1.out.blw⟩
  | false =>
    go_enter Tryz.func121, Tryz.ntmps121
    go_wp2_with (at_builtin; refine Lib.wpList_append_own_string _ rfl _ _ 50 9 rfl w0.heap.size 5 HI.out.choose Tryz.underlying50 Tryz.underlying9 HI.out.choose_spec.1 HI.out.choose_spec.2.1 HI.out.choose_spec.2.2.1 HI.out.choose_spec.2.2.2 _ _ _ rfl O.out.own ⟨#[102, 97, 108, 115, 101]⟩ rfl (by show _ + 5 ≤ _; unfold maxLen; omega) (by show _ + 5 ≤ _; omega) O.out.size ?_)
    intro v4 w4 O4 gr4 _
    have O1 := Hid.intro (O.out.app (cs := [102, 97, 108, 115, 101]) (Below.refl _ _) gr4 O4 rfl rfl)
    clear O4 gr4
    go_wp2_with fail
    go_ret
    exact ⟨v4, rfl, O1.out.own, O1.out.blw⟩
set_option maxHeartbeats 1000000 in
theorem vbool_any (b : Bool) {w0 w : World} {v : Value} {d : List UInt8} (h : OutP w0 w v d) (hx : d.length ≤ 2000000000) :
    Calls Tryz.prog 71 #[v, .bool b] w fun e w' => EncP w0 w' (d ++ boolB b) e := by
  have HB := Hid.intro (vbool0_any b h hx)
  clear h
  go_enter Tryz.func71, Tryz.ntmps71
  go_wp2_with fail
  refine HB.out.mono ?_
  rintro e w1 ⟨v1, rfl, h1, h2⟩
  go_wp2_with fail
  go_ret
  exact ⟨v1, rfl, h1, h2⟩

set_option maxRecDepth 20000 in
set_option maxHeartbeats 2000000 in
theorem wr_0 (b : Bool) (i : Int) (s : ByteArray) (p : Option Addr) (n c : Nat) {w0 w : World} {v : Value} {d : List UInt8} (h : OutP w0 w v d) (hx : d.length ≤ 800000000) :
    Calls Tryz.prog 35 #[v, .agg #[.int .i64 0, .bool b, .int .i64 i, .string s, .slice p n c]] w fun e w' => EncP w0 w' (d ++ [110, 117, 108, 108]) e := by
  have HI := Hid.intro info5
  have O := Hid.intro (h.via (below_al (Below.refl _ _) (.cells #[.int .i64 0, .bool b, .int .i64 i, .string s, .slice p n c] 28)))
  clear h
  go_enter Tryz.func35, Tryz.ntmps35
  go_wp2_with (at_builtin; refine Lib.wpList_append_own_string _ rfl _ _ 50 9 rfl w0.heap.size 5 HI.out.choose Tryz.underlying50 Tryz.underlying9 HI.out.choose_spec.1 HI.out.choose_spec.2.1 HI.out.choose_spec.2.2.1 HI.out.choose_spec.2.2.2 _ _ _ rfl O.out.own ⟨#[110, 117, 108, 108]⟩ rfl (by show _ + 4 ≤ _; unfold maxLen; omega) (by show _ + 4 ≤ _; omega) O.out.size ?_)
  intro v4 w4 O4 gr4 _
  have O1 := Hid.intro (O.out.app (cs := [110, 117, 108, 108]) (Below.refl _ _) gr4 O4 rfl rfl)
  clear O4 gr4
  go_wp2_with fail
  go_ret
  exact ⟨v4, rfl, O1.out.own, O1.out.blw⟩

set_option maxRecDepth 20000 in
set_option maxHeartbeats 2000000 in
theorem wr_1 (b : Bool) (i : Int) (s : ByteArray) (p : Option Addr) (n c : Nat) {w0 w : World} {v : Value} {d : List UInt8} (h : OutP w0 w v d) (hx : d.length ≤ 800000000) :
    Calls Tryz.prog 35 #[v, .agg #[.int .i64 1, .bool b, .int .i64 i, .string s, .slice p n c]] w fun e w' => EncP w0 w' (d ++ boolB b) e := by
  have HI := Hid.intro info5
  have O := Hid.intro (h.via (below_al (Below.refl _ _) (.cells #[.int .i64 1, .bool b, .int .i64 i, .string s, .slice p n c] 28)))
  have HC := Hid.intro (vbool_any b O.out (by omega))
  clear h
  go_enter Tryz.func35, Tryz.ntmps35
  go_wp2_with fail
  refine HC.out.mono ?_
  rintro e w1 ⟨v1, rfl, h1, h2⟩
  go_wp2_with fail
  go_ret
  exact ⟨v1, rfl, h1, h2⟩

set_option maxRecDepth 20000 in
set_option maxHeartbeats 2000000 in
theorem wr_2 (b : Bool) (i : Int) (s : ByteArray) (p : Option Addr) (n c : Nat) (h0 : -9223372036854775808 ≤ i) (h1 : i ≤ 9223372036854775807) {w0 w : World} {v : Value} {d : List UInt8} (h : OutP w0 w v d) (hT : Tb w0) (hx : d.length ≤ 800000000) :
    Calls Tryz.prog 35 #[v, .agg #[.int .i64 2, .bool b, .int .i64 i, .string s, .slice p n c]] w fun e w' => EncP w0 w' (d ++ Lib.itoa i) e := by
  have HI := Hid.intro info5
  have O := Hid.intro (h.via (below_al (Below.refl _ _) (.cells #[.int .i64 2, .bool b, .int .i64 i, .string s, .slice p n c] 28)))
  have HC := Hid.intro ((vint_any i h0 h1 O.out hT (by omega)).mono (fun _ _ h => h.1))
  clear h
  go_enter Tryz.func35, Tryz.ntmps35
  go_wp2_with fail
  refine HC.out.mono ?_
  rintro e w1 ⟨v1, rfl, h1, h2⟩
  go_wp2_with fail
  go_ret
  exact ⟨v1, rfl, h1, h2⟩

set_option maxRecDepth 20000 in
set_option maxHeartbeats 2000000 in
theorem wr_3 (b : Bool) (i : Int) (s : ByteArray) (p : Option Addr) (n c : Nat) (hs : s.size ≤ 65536) {w0 w : World} {v : Value} {d : List UInt8} (h : OutP w0 w v d) (hx : d.length ≤ 800000000) :
    Calls Tryz.prog 35 #[v, .agg #[.int .i64 3, .bool b, .int .i64 i, .string s, .slice p n c]] w fun e w' => EncP w0 w' (d ++ quoB s.data.toList) e := by
  have HI := Hid.intro info5
  have O := Hid.intro (h.via (below_al (Below.refl _ _) (.cells #[.int .i64 3, .bool b, .int .i64 i, .string s, .slice p n c] 28)))
  have HC := Hid.intro (vquote_any s hs _ _ _ _ O.out (by omega))
  clear h
  go_enter Tryz.func35, Tryz.ntmps35
  go_wp2_with fail
  refine HC.out.mono ?_
  rintro e w1 ⟨v1, rfl, h1, h2⟩
  go_wp2_with fail
  go_ret
  exact ⟨v1, rfl, h1, h2⟩

set_option maxRecDepth 20000 in
set_option maxHeartbeats 2000000 in
theorem wr_5 (b : Bool) (i : Int) (s : ByteArray) (p : Option Addr) (n c : Nat) (h0 : -9223372036854775808 ≤ i) (h1 : i ≤ 9223372036854775807) {w0 w : World} {v : Value} {d : List UInt8} (h : OutP w0 w v d) (hT : Tb w0) (hx : d.length ≤ 800000000) :
    Calls Tryz.prog 35 #[v, .agg #[.int .i64 5, .bool b, .int .i64 i, .string s, .slice p n c]] w fun e w' => EncP w0 w' (d ++ (35 :: Lib.itoa i)) e := by
  have HI := Hid.intro info5
  have O := Hid.intro (h.via (below_al (Below.refl _ _) (.cells #[.int .i64 5, .bool b, .int .i64 i, .string s, .slice p n c] 28)))
  have hs0 := h.size
  have hmo : Tryz.prog.follows .mixedOrders = true := by kernel_rfl
  have hown : ∀ g, v.ownBlock = some g → g < w.heap.size := fun g hg => (h.own.lt g hg).2
  have C0 : (w.alloc (.cells #[.int .i64 5, .bool b, .int .i64 i, .string s, .slice p n c] 28)).drew.heap[w.heap.size]? = some (.cells #[.int .i64 5, .bool b, .int .i64 i, .string s, .slice p n c] 28 (0, 0)) := heap_alloc_new w _
  have hN : w.heap.size < (w.alloc (.cells #[.int .i64 5, .bool b, .int .i64 i, .string s, .slice p n c] 28)).drew.heap.size := by simp [World.drew]
  have O9 := Hid.intro (O.out.via (Below.refl _ _).drew)
  clear h
  go_enter Tryz.func35, Tryz.ntmps35
  go_wp2_with fail
  refine wp_region_noPanic ?_
  refine wp_region_held_drew (S := fun w' => w'.heap[w.heap.size]? = some (.cells #[.int .i64 5, .bool b, .int .i64 i, .string s, .slice p n c] 28 (0, 0))) hmo C0 (fun hS => ?_)
  generalize World.drew _ = wd at hS O9 hN ⊢
  refine take_x 0 31 (v) ⟨_, rfl, rfl, Or.inl ⟨by rfl, fun wx hSw => by go_simp⟩⟩ (by kernel_rfl) (by kernel_rfl) (by kernel_rfl) (fun _ _ _ h => h) hS ?_
  simp only [List.setIfInBounds_toArray, List.set_cons_succ, List.set_cons_zero]
  refine take_x 3 34 (.pointer (some ⟨w.heap.size, 2, none⟩)) ⟨_, rfl, rfl, Or.inl ⟨by rfl, fun wx hSw => by go_simp⟩⟩ (by kernel_rfl) (by kernel_rfl) (by kernel_rfl) (fun _ _ _ h => h) hS ?_
  simp only [List.setIfInBounds_toArray, List.set_cons_succ, List.set_cons_zero]
  refine take_x 4 35 (.int .i64 i) ⟨_, rfl, rfl, Or.inl ⟨by rfl, fun wx hSw => by have hc : wx.cell? ⟨w.heap.size, 2, none⟩ = some (.int .i64 i) := cell_blk hSw rfl; go_simp⟩⟩ (by kernel_rfl) (by kernel_rfl) (by kernel_rfl) (fun _ _ _ h => h) hS ?_
  simp only [List.setIfInBounds_toArray, List.set_cons_succ, List.set_cons_zero]
  refine wpAnyH_ready (rs := [1]) (by kernel_rfl) (by simp) ?_
  refine AllReadyH.cons rfl (fun K' hK => ?_) AllReadyH.nil
  go_simp
  go_wp2_with fail
  have hS1 : (wd.alloc (.cells #[.int .u8 35] 5)).heap[w.heap.size]? = some (.cells #[.int .i64 5, .bool b, .int .i64 i, .string s, .slice p n c] 28 (0, 0)) := (heap_alloc_old wd _ hN).trans hS
  refine hK.out _ _ (hS1) (fun hS => ?_)
  clear hK K'
  (try simp only [Act.put, List.getElem_toArray, List.getElem_cons_succ, List.getElem_cons_zero, List.setIfInBounds_toArray, List.set_cons_succ, List.set_cons_zero])
  refine wpAnyH_ready (rs := [2]) (by kernel_rfl) (by simp) ?_
  refine AllReadyH.cons rfl (fun K' hK => ?_) AllReadyH.nil
  rw [if_pos (by rfl)]
  have hsz := O9.out.size
  refine wp_append_at (P := Tryz.prog) _ _ 50 rfl w0.heap.size 5 HI.out.choose (.int .u8 0) 1 1 Tryz.underlying50 HI.out.choose_spec.1 HI.out.choose_spec.2.1 HI.out.choose_spec.2.2.1 HI.out.choose_spec.2.2.2 rfl (by decide) _ _ _ rfl (O9.out.own.alloc _) ⟨wd.heap.size, 0, none⟩ 1 1 [.int .u8 35] rfl rfl (World.news_of_block (cs := #[.int .u8 35]) (t := 5) (fr := (0, 0)) (heap_alloc_new wd _)) (by simp [Value.oneCell']) (by unfold maxLen; omega) (by omega) (by simp; omega) (fun v4 w4 O4 gr4 _ => ?_)
  have O1 := Hid.intro (O9.out.app (cs := [35]) (below_al (Below.refl _ _) _) gr4 O4 rfl rfl)
  have hS2 : w4.heap[w.heap.size]? = some (.cells #[.int .i64 5, .bool b, .int .i64 i, .string s, .slice p n c] 28 (0, 0)) := (gr4.block w.heap.size (by simp; omega) (fun e => by have := hown _ e.symm; omega)).trans hS1
  clear O4
  refine hK.out _ _ (hS2) (fun hS => ?_)
  clear hK K'
  (try simp only [Act.put, List.getElem_toArray, List.getElem_cons_succ, List.getElem_cons_zero, List.setIfInBounds_toArray, List.set_cons_succ, List.set_cons_zero])
  refine wpAnyH_ready (rs := [5]) (by kernel_rfl) (by simp) ?_
  refine AllReadyH.cons rfl (fun K' hK => ?_) AllReadyH.nil
  go_simp
  have HC := Hid.intro (vint_any i h0 h1 O1.out hT (by rw [List.length_append, List.length_singleton]; omega))
  refine HC.out.mono ?_
  rintro e w5 ⟨⟨v5, rfl, ho5, hb5⟩, hk5⟩
  have hS5 := hk5 _ _ hS2 (by simp) (fun c fz h => by cases h)
  have HO5 := Hid.intro (And.intro ho5 hb5)
  clear ho5 hb5 hk5 HC
  refine hK.out _ _ (hS5) (fun hS => ?_)
  clear hK K'
  (try simp only [Act.put, List.getElem_toArray, List.getElem_cons_succ, List.getElem_cons_zero, List.setIfInBounds_toArray, List.set_cons_succ, List.set_cons_zero])
  have hSz := hS
  refine take_x 6 4 (v5) ⟨_, rfl, rfl, Or.inl ⟨by rfl, fun wx hSw => by go_simp⟩⟩ (by kernel_rfl) (by kernel_rfl) (by kernel_rfl) (fun _ _ _ h => h) hS ?_
  simp only [List.setIfInBounds_toArray, List.set_cons_succ, List.set_cons_zero]
  refine wpAnyH_done (by kernel_rfl) ?_ _
  refine np_y ?_
  go_wp2_with fail
  go_ret
  rw [List.append_assoc] at HO5
  exact ⟨v5, rfl, HO5.out.1, HO5.out.2⟩
end Go.Proofs.YtciibcfmlhbnkaaGreatDoor
