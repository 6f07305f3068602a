import Derived.Test.YtoeodjobggodcaaGreatDoorJoin13
/- rule. -/
namespace Go.Proofs.YtoeodjobggodcaaGreatDoor
section
open Go.RowKit
def ruA (u : Ru) : List Value → Array Value
 | [x, y] => #[.string u.name, .int .i64 u.sal, .string u.group, .string u.flow, .bool u.nl, .bool u.lock, x, y]
 | _ => #[]
theorem ruA_set6 (u : Ru) (x y v : Value) : (ruA u [x, y]).setIfInBounds 6 v = ruA u [v, y] := by simp [ruA]
theorem ruA_set7 (u : Ru) (x y v : Value) : (ruA u [x, y]).setIfInBounds 7 v = ruA u [x, v] := by simp [ruA]
def ruR (q : List Cd) (a : List Ac) : List Rd := [⟨96, 19, q.length, Cd.css q⟩, ⟨99, 12, a.length, a.flatMap Ac.cs⟩]
def RuV (P : Nat → Prop) (w : World) (u : Ru) (v : Value) : Prop := ∃ x6 x7, v = .agg #[.string u.name, .int .i64 u.sal, .string u.group, .string u.flow, .bool u.nl, .bool u.lock, x6, x7] ∧ rep P w (.sl u.whn.length (Cd.css u.whn)) x6 ∧ rep P w (.sl u.thn.length (u.thn.flatMap Ac.cs)) x7
theorem infoRule : (Tryz.prog.info? 51).map (·.size) = some 8 := by kernel_rfl
theorem infoAct' : (Tryz.prog.info? 99).map (fun i => (i.zero, i.size, i.bytes)) = some (some (.agg #[.int .i64 0, .string ⟨#[]⟩, .slice none 0 0, .int .i64 0, .string ⟨#[]⟩, .int .i64 0, .bool false, .int .i64 0, .string ⟨#[]⟩, .slice none 0 0, .slice none 0 0, .string ⟨#[]⟩]), 12, 176) := by kernel_rfl
theorem ac_reps {P : Nat → Prop} {w : World} {a : Ac} {x2 : Value} {p6 p7 : Option Addr} {n6 n7 c6 c7 : Nat} (h2 : rep P w (.sl a.set.length (a.set.flatMap As.cs)) x2) (h6 : rep P w (.sl a.e.v.l.length (Vt.css a.e.v.l)) (.slice p6 n6 c6)) (h7 : rep P w (.sl a.e.a.length (Ex.css a.e.a)) (.slice p7 n7 c7)) :
  reps P w a.cs [.int .i64 a.k, .string a.c, x2, .int .i64 a.e.op, .string a.e.t, .int .i64 a.e.v.k, .bool a.e.v.b, .int .i64 a.e.v.i, .string a.e.v.s, .slice p6 n6 c6, .slice p7 n7 c7, .string a.t] :=
 reps.cons (rep.lit rfl) (reps.cons (rep.lit rfl) (reps.cons h2 (reps.append (ex_reps h6 h7) (reps.cons (rep.lit rfl) reps.nil))))
set_option maxRecDepth 100000 in
set_option maxHeartbeats 8000000 in
theorem rule_any {K B : Nat} {r : List Lx} {w : World} (h : PAt K w B r 0) :
  Calls Tryz.prog 37 #[.pointer (some ⟨B, 0, none⟩)] w (Post K B 0 (r.length - 1) w (ruleM r) fun w' u v => RuV (fun b => w.heap.size ≤ b) w' u v) := by
 have hsz := h.size
 have hlen := h.len
 have hR0 : (w.alloc (.cells #[.string ⟨#[]⟩, .int .i64 0, .string ⟨#[]⟩, .string ⟨#[]⟩, .bool false, .bool false, .slice none 0 0, .slice none 0 0] 51)).heap[w.heap.size]? = some (.cells #[.string ⟨#[]⟩, .int .i64 0, .string ⟨#[]⟩, .string ⟨#[]⟩, .bool false, .bool false, .slice none 0 0, .slice none 0 0] 51) := heap_alloc_new w _
 have b0 : Below w.heap.size w (w.alloc (.cells #[.string ⟨#[]⟩, .int .i64 0, .string ⟨#[]⟩, .string ⟨#[]⟩, .bool false, .bool false, .slice none 0 0, .slice none 0 0] 51)) := below_al (Below.refl _ _) _
 have HN := Hid.intro (ptext_any (h.via b0))
 unfold ruleM
 cases h1 : textM r with
 | bad q =>
  rw [h1] at HN
  rw [bd_bad]
  clear h1
  go_enter Tryz.func37, Tryz.ntmps37
  go_wp2_with fail
  refine HN.out.mono ?_
  rintro e v1 ⟨ht1, rfl⟩
  exact ⟨rfl, (Bt.below b0).trans ht1, rfl⟩
 | ok s r1 =>
  rw [h1] at HN
  rw [bd_ok]
  clear h1
  have hstep : ∀ v1 : World, Bt B (w.alloc (.cells #[.string ⟨#[]⟩, .int .i64 0, .string ⟨#[]⟩, .string ⟨#[]⟩, .bool false, .bool false, .slice none 0 0, .slice none 0 0] 51)) v1 → PAt K v1 B r1 0 → r1.length ≤ r.length - 1 → ∃ W0, Hid ((v1.alloc (.cells #[.string ⟨#[]⟩, .int .i64 0, .string ⟨#[]⟩, .string ⟨#[]⟩, .bool false, .bool false, .slice none 0 0, .slice none 0 0] 51)).heap[v1.heap.size]? = some (.cells #[.string ⟨#[]⟩, .int .i64 0, .string ⟨#[]⟩, .string ⟨#[]⟩, .bool false, .bool false, .slice none 0 0, .slice none 0 0] 51)) ∧ (v1.alloc (.cells #[.string ⟨#[]⟩, .int .i64 0, .string ⟨#[]⟩, .string ⟨#[]⟩, .bool false, .bool false, .slice none 0 0, .slice none 0 0] 51)).setRow v1.heap.size #[.string s, .int .i64 0, .string ⟨#[]⟩, .string ⟨#[]⟩, .bool false, .bool false, .slice none 0 0, .slice none 0 0] = W0 ∧ Hid (Bt B w W0) ∧ w.heap.size < v1.heap.size ∧ W0.heap.size = v1.heap.size + 1 ∧
    Hid (W0.heap[w.heap.size]? = some (.cells #[.string ⟨#[]⟩, .int .i64 0, .string ⟨#[]⟩, .string ⟨#[]⟩, .bool false, .bool false, .slice none 0 0, .slice none 0 0] 51)) ∧ Hid (Calls Tryz.prog 64 #[.pointer (some ⟨B, 0, none⟩), .pointer (some ⟨v1.heap.size, 0, none⟩)] W0 (CPost K B 0 r1.length (fun b => (b < w.heap.size ∧ b ≠ B) ∨ b = w.heap.size) W0 (fun _ _ => True) (RuJ B v1.heap.size (.slice none 0 0) (.slice none 0 0)) (attrsL r1.length { name := s } r1))) := by
   intro v1 ht1 hp1 hl1
   have hA : (v1.alloc (.cells #[.string ⟨#[]⟩, .int .i64 0, .string ⟨#[]⟩, .string ⟨#[]⟩, .bool false, .bool false, .slice none 0 0, .slice none 0 0] 51)).heap[v1.heap.size]? = some (.cells #[.string ⟨#[]⟩, .int .i64 0, .string ⟨#[]⟩, .string ⟨#[]⟩, .bool false, .bool false, .slice none 0 0, .slice none 0 0] 51) := heap_alloc_new _ _
   have hR1 := row_bt ht1 (by omega) hR0
   have hlt1 : w.heap.size < v1.heap.size := (Array.getElem?_eq_some_iff.1 hR1).1
   have hbW : Bt B (w.alloc (.cells #[.string ⟨#[]⟩, .int .i64 0, .string ⟨#[]⟩, .string ⟨#[]⟩, .bool false, .bool false, .slice none 0 0, .slice none 0 0] 51)) ((v1.alloc (.cells #[.string ⟨#[]⟩, .int .i64 0, .string ⟨#[]⟩, .string ⟨#[]⟩, .bool false, .bool false, .slice none 0 0, .slice none 0 0] 51)).setRow v1.heap.size #[.string s, .int .i64 0, .string ⟨#[]⟩, .string ⟨#[]⟩, .bool false, .bool false, .slice none 0 0, .slice none 0 0]) := (ht1.alloc _).row (by simp; omega) _
   refine ⟨_, hA, rfl, (Bt.below b0).trans hbW, hlt1, by simp, row_bt hbW (by omega) hR0, ?_⟩
   exact attrs_any (by omega) (.slice none 0 0) (.slice none 0 0) (P := (fun b => (b < w.heap.size ∧ b ≠ B) ∨ b = w.heap.size)) (u := { name := s }) (fun b hb => ⟨by simp; omega, by omega⟩) ⟨by omega, by simp, by omega, setRow_heap _ _ _ _ _ _ hA⟩ ((hp1.via (below_al (Below.refl _ _) _)).row (by omega) _)
  cases h2 : attrsL r1.length { name := s } r1 with
  | bad q =>
   rw [h2] at hstep
   rw [bd_bad]
   clear h2
   go_enter Tryz.func37, Tryz.ntmps37
   go_wp2_with fail
   refine HN.out.mono ?_
   rintro e v1 ⟨ht1, hl1, hp1, x, rfl, rfl⟩
   obtain ⟨W0, HA, hW0, HB, hlt1, hW0s, HR, HW⟩ := hstep v1 ht1 hp1 hl1
   go_wp2_with (with_reducible refine (id (?_ : wpList _ _ _ (Oper.mk _ (Op.store _ _ _) _ _ _ _ :: _) _ _)); refine wpList_store_row rfl _ _ _ rfl _ _ rfl rfl _ _ HA.out infoRule rfl rfl (by simp [Value.oneCell']) ?_)
   refine HW.out.mono ?_
   rintro e w2 ⟨hf2, rfl⟩
   exact ⟨rfl, HB.out.fra (hf2.mono fun b hb => .inl hb), rfl⟩
  | ok u r2 =>
   rw [h2] at hstep
   rw [bd_ok]
   clear h2
   have HT := fun w h => Hid.intro (take_any (K := K) (B := B) (o := 0) (r := r2) (w := w) h ⟨#[119, 104, 101, 110]⟩)
   cases h3 : takeM ⟨#[119, 104, 101, 110]⟩ r2 with
   | bad q =>
    rw [h3] at HT
    rw [bd_bad]
    clear h3
    go_enter Tryz.func37, Tryz.ntmps37
    go_wp2_with fail
    refine HN.out.mono ?_
    rintro e v1 ⟨ht1, hl1, hp1, x, rfl, rfl⟩
    obtain ⟨W0, HA, hW0, HB, hlt1, hW0s, HR, HW⟩ := hstep v1 ht1 hp1 hl1
    go_wp2_with (with_reducible refine (id (?_ : wpList _ _ _ (Oper.mk _ (Op.store _ _ _) _ _ _ _ :: _) _ _)); refine wpList_store_row rfl _ _ _ rfl _ _ rfl rfl _ _ HA.out infoRule rfl rfl (by simp [Value.oneCell']) ?_)
    refine HW.out.mono ?_
    rintro e w2 ⟨hf2, rfl, -, hj2, hp2, hl2⟩
    go_wp2_with fail
    refine (HT w2 hp2).out.mono ?_
    rintro e w3 ⟨hb3, rfl⟩
    exact ⟨rfl, (HB.out.fra (hf2.mono fun b hb => .inl hb)).trans hb3, rfl⟩
   | ok uu r3 =>
    rw [h3] at HT
    rw [bd_ok]
    clear h3
    go_enter Tryz.func37, Tryz.ntmps37
    go_wp2_with fail
    refine HN.out.mono ?_
    rintro e v1 ⟨ht1, hl1, hp1, x, rfl, rfl⟩
    obtain ⟨W0, HA, hW0, HB, hlt1, hW0s, HR, HW⟩ := hstep v1 ht1 hp1 hl1
    go_wp2_with (with_reducible refine (id (?_ : wpList _ _ _ (Oper.mk _ (Op.store _ _ _) _ _ _ _ :: _) _ _)); refine wpList_store_row rfl _ _ _ rfl _ _ rfl rfl _ _ HA.out infoRule rfl rfl (by simp [Value.oneCell']) ?_)
    refine HW.out.mono ?_
    rintro e w2 ⟨hf2, rfl, -, hj2, hp2, hl2⟩
    go_wp2_with fail
    refine (HT w2 hp2).out.mono ?_
    rintro e w1 ⟨hb3, hl3, hp3, x, rfl, rfl⟩
    have hKn0 : Kn B (fun b => (b < w.heap.size ∧ b ≠ B) ∨ b = w.heap.size) w2 := Kn.up (w := W0) (fun b hb => ⟨by omega, by omega⟩) hf2.size
    have hf3 := hf2.trans (hb3.fr hKn0)
    have hj3 := hj2.bt hb3
    have hs3 := hf3.size
    have HJ1 := Hid.intro (show JR (v1.heap.size + 1) B v1.heap.size 51 (ruA u) (ruR [] []) w1 (fun b => (b < w.heap.size ∧ b ≠ B) ∨ b = w.heap.size) from ⟨by omega, by omega, by omega, [.slice none 0 0, .slice none 0 0], hj3.2.2.2, rows_nil _ (ruR [] []) (by simp [ruR, Cd.css]) _, fun b hb => ⟨by omega, by simp [Value.ownBlock]⟩⟩)
    have HP1 := Hid.intro hp3
    have HR1 := Hid.intro ((hf3.block _ (.inr rfl)).trans HR.out)
    have HB1 := Hid.intro (HB.out.fra (hf3.mono fun b hb => .inl hb))
    have HKn : Hid (Kn B (fun b => (b < w.heap.size ∧ b ≠ B) ∨ b = w.heap.size) w1) := fun b hb => ⟨by omega, by omega⟩
    have hmo : Tryz.prog.follows .mixedOrders = true := by kernel_rfl
    have HC := fun r w (h : PAt K w B r 0) => Hid.intro (cond_any K B 0 r w h)
    have HAct := fun r w (h : PAt K w B r 0) => Hid.intro (action_any (r := r) (w := w) h)
    have HYes := fun r w (h : PAt K w B r 0) hs => Hid.intro (skip_yes (s := ⟨#[116, 104, 101, 110]⟩) h hs)
    have HNo := fun r w (h : PAt K w B r 0) hs => Hid.intro (skip_no (s := ⟨#[116, 104, 101, 110]⟩) h hs)
    have HYes2 := fun r w (h : PAt K w B r 0) hs => Hid.intro (skip_yes (s := ⟨#[101, 110, 100]⟩) h hs)
    have HNo2 := fun r w (h : PAt K w B r 0) hs => Hid.intro (skip_no (s := ⟨#[101, 110, 100]⟩) h hs)
    have hCK : K ≤ v1.heap.size := by omega
    clear hf2 hj2 hp2 hb3 hp3 hf3 hj3 HW HA HN HT HB HR hKn0 h
    go_wp2_with fail
    go_loopw [11] (fun _ w' => ∃ q r' f, Hid (Fr (fun b => (b < w.heap.size ∧ b ≠ B) ∨ b = w.heap.size) w1 w') ∧ Hid (JR (v1.heap.size + 1) B v1.heap.size 51 (ruA u) (ruR q []) w' (fun b => (b < w.heap.size ∧ b ≠ B) ∨ b = w.heap.size)) ∧ Hid (PAt K w' B r' 0) ∧ q.length + r'.length ≤ 10000 ∧ r'.length ≤ r3.length ∧ r'.length ≤ f ∧ Hid ((untilL ⟨#[116, 104, 101, 110]⟩ (condM 31 0) f q r').bd (fun l r => (untilL ⟨#[101, 110, 100]⟩ actionM r.length [] r).bd (fun t r => Rs.ok { u with whn := l, thn := t } r)) = (untilL ⟨#[116, 104, 101, 110]⟩ (condM 31 0) r3.length [] r3).bd (fun l r => (untilL ⟨#[101, 110, 100]⟩ actionM r.length [] r).bd (fun t r => Rs.ok { u with whn := l, thn := t } r)))) (fun _ w' => rlen B w')
    case atStart => exact ⟨[], r3, r3.length, Hid.intro (Fr.refl _ _), HJ1, HP1, by simp; omega, Nat.le_refl _, Nat.le_refl _, Hid.intro rfl⟩
    case round =>
     clear HJ1 HP1
     obtain ⟨q, r', f, HF, HJ, HQ, hll, hl', hlf, HE⟩ := hrel
     obtain ⟨x, r0, hr', -⟩ := gd_cons HQ.out.gd
     have hlr : 0 < r'.length := by rw [hr']; simp
     clear hr'
     obtain ⟨f, rfl⟩ : ∃ f', f = f' + 1 := ⟨f - 1, by omega⟩
     have HKr := Hid.intro (HKn.out.up HF.out.size)
     have hrlen := HQ.out.rlen
     have hln : q.length ≤ 10000 := by omega
     have hws := HF.out.size
     cases k0 : isM ⟨#[116, 104, 101, 110]⟩ r' with
     | false =>
      have HNo := HNo r' wr HQ.out k0
      have HE : Hid (((condM 31 0 r').bd fun x r => untilL ⟨#[116, 104, 101, 110]⟩ (condM 31 0) f (q ++ [x]) r).bd (fun l r => (untilL ⟨#[101, 110, 100]⟩ actionM r.length [] r).bd (fun t r => Rs.ok { u with whn := l, thn := t } r)) = (untilL ⟨#[116, 104, 101, 110]⟩ (condM 31 0) r3.length [] r3).bd (fun l r => (untilL ⟨#[101, 110, 100]⟩ actionM r.length [] r).bd (fun t r => Rs.ok { u with whn := l, thn := t } r))) := by
       have := HE.out
       rw [untilL, if_neg (by simp [k0])] at this
       exact this
      clear k0
      have HT := HC r'
      cases hm2 : condM 31 0 r' with
      | bad q2 =>
       rw [show condM (31 - 0) 0 r' = condM 31 0 r' from rfl, hm2] at HT
       rw [hm2, bd_bad, bd_bad] at HE
       clear hm2
       go_wp2_with fail
       refine HNo.out.mono ?_
       rintro e wc ⟨rfl, hb7⟩
       have HP := Hid.intro (HQ.out.via hb7)
       have HFc := Hid.intro (HF.out.trans ((Bt.below hb7).fr HKr.out))
       have HKc := Hid.intro (HKn.out.up HFc.out.size)
       obtain ⟨hBC, hCn, hnw, vs, he, zrows, hpa⟩ := JR.stb _ _ _ (fun b => (b < w.heap.size ∧ b ≠ B) ∨ b = w.heap.size) HJ.out (Bt.below hb7) (fun _ h => .inl h)
       obtain ⟨x1, x2, rfl⟩ : ∃ x y, vs = [x, y] := by have := zrows.1; simp only [ruR, List.length_cons, List.length_nil] at this; match vs, this with | [x, y], _ => exact ⟨x, y, rfl⟩
       obtain ⟨p0, c0, xs0, hv0, -, -⟩ := zrows.2.2 0 _ _ rfl rfl
       dsimp only at hv0
       subst hv0
       obtain ⟨i0, hi, hz0, hz1, hz2⟩ := info_parts infoCond'
       have e0 : wc.cell? ⟨v1.heap.size, 6, none⟩ = some (.slice p0 q.length c0) := by rw [(heap_cell he 6).1]; rfl
       have hEw : v1.heap.size < wc.heap.size := by omega
       go_wp2_with fail
       refine wp_region_held_drew (S := fun _ => True) hmo trivial (fun hS => ?_)
       refine tq 0 14 (.pointer (some ⟨v1.heap.size, 6, none⟩)) hS ?_
       simp only [n3]
       refine tq 2 16 (.pointer (some ⟨B, 0, none⟩)) hS ?_
       simp only [n3]
       refine wpAnyH_ready (rs := [1, 3, 5]) (by kernel_rfl) (by simp) ?_
       refine AllReadyH.cons rfl (fun K' hK => ?_) (AllReadyH.cons rfl (fun K' hK => ?_) (AllReadyH.cons rfl (fun K' hK => ?_) AllReadyH.nil))
       ·go_simp
        refine hK.out _ _ (trivial) (fun hS => ?_)
        clear hK K'
        (try simp only [Act.put, n3])
        refine tq 4 18 (.int .i64 (q.length : Int)) hS ?_
        simp only [n3]
        refine on2 3 5 rfl (fun K' hK => ?_) rfl (fun K' hK => ?_)
        ·go_simp
         refine (HT _ (by first | exact HP.out.via (Below.refl _ _).drew | exact HP.out.via (below_al (Below.refl _ _).drew _) | exact HP.out.via (below_al (Below.refl _ _) _).drew)).out.mono ?_
         rintro e w4 ⟨hb4, rfl⟩
         have hbt4 : Bt B wc w4 := Bt.trans (by first | exact (Bt.refl B _).drew | exact (Bt.refl B _).drew.alloc _ | exact ((Bt.refl B _).alloc _).drew) hb4
         refine ⟨rfl, HB1.out.fra ((HFc.out.trans (hbt4.fr HKc.out)).mono fun b hb => .inl hb), ?_⟩
         rw [← HE.out]
        ·go_simp
         go_wp2_with fail
         refine hK.out _ _ (trivial) (fun hS => ?_)
         clear hK K'
         (try simp only [Act.put, n3])
         refine on1 3 rfl (fun K' hK => ?_)
         go_simp
         refine (HT _ (by first | exact HP.out.via (Below.refl _ _).drew | exact HP.out.via (below_al (Below.refl _ _).drew _) | exact HP.out.via (below_al (Below.refl _ _) _).drew)).out.mono ?_
         rintro e w4 ⟨hb4, rfl⟩
         have hbt4 : Bt B wc w4 := Bt.trans (by first | exact (Bt.refl B _).drew | exact (Bt.refl B _).drew.alloc _ | exact ((Bt.refl B _).alloc _).drew) hb4
         refine ⟨rfl, HB1.out.fra ((HFc.out.trans (hbt4.fr HKc.out)).mono fun b hb => .inl hb), ?_⟩
         rw [← HE.out]
       ·go_simp
        refine (HT _ (by first | exact HP.out.via (Below.refl _ _).drew | exact HP.out.via (below_al (Below.refl _ _).drew _) | exact HP.out.via (below_al (Below.refl _ _) _).drew)).out.mono ?_
        rintro e w4 ⟨hb4, rfl⟩
        have hbt4 : Bt B wc w4 := Bt.trans (by first | exact (Bt.refl B _).drew | exact (Bt.refl B _).drew.alloc _ | exact ((Bt.refl B _).alloc _).drew) hb4
        refine ⟨rfl, HB1.out.fra ((HFc.out.trans (hbt4.fr HKc.out)).mono fun b hb => .inl hb), ?_⟩
        rw [← HE.out]
       ·go_simp
        go_wp2_with fail
        refine hK.out _ _ (trivial) (fun hS => ?_)
        clear hK K'
        (try simp only [Act.put, n3])
        refine on2 1 3 rfl (fun K' hK => ?_) rfl (fun K' hK => ?_)
        ·go_simp
         refine hK.out _ _ (trivial) (fun hS => ?_)
         clear hK K'
         (try simp only [Act.put, n3])
         refine tq 4 18 (.int .i64 (q.length : Int)) hS ?_
         simp only [n3]
         refine on1 3 rfl (fun K' hK => ?_)
         go_simp
         refine (HT _ (by first | exact HP.out.via (Below.refl _ _).drew | exact HP.out.via (below_al (Below.refl _ _).drew _) | exact HP.out.via (below_al (Below.refl _ _) _).drew)).out.mono ?_
         rintro e w4 ⟨hb4, rfl⟩
         have hbt4 : Bt B wc w4 := Bt.trans (by first | exact (Bt.refl B _).drew | exact (Bt.refl B _).drew.alloc _ | exact ((Bt.refl B _).alloc _).drew) hb4
         refine ⟨rfl, HB1.out.fra ((HFc.out.trans (hbt4.fr HKc.out)).mono fun b hb => .inl hb), ?_⟩
         rw [← HE.out]
        ·go_simp
         refine (HT _ (by first | exact HP.out.via (Below.refl _ _).drew | exact HP.out.via (below_al (Below.refl _ _).drew _) | exact HP.out.via (below_al (Below.refl _ _) _).drew)).out.mono ?_
         rintro e w4 ⟨hb4, rfl⟩
         have hbt4 : Bt B wc w4 := Bt.trans (by first | exact (Bt.refl B _).drew | exact (Bt.refl B _).drew.alloc _ | exact ((Bt.refl B _).alloc _).drew) hb4
         refine ⟨rfl, HB1.out.fra ((HFc.out.trans (hbt4.fr HKc.out)).mono fun b hb => .inl hb), ?_⟩
         rw [← HE.out]
      | ok t r5 =>
       rw [show condM (31 - 0) 0 r' = condM 31 0 r' from rfl, hm2] at HT
       rw [hm2, bd_ok] at HE
       clear hm2
       go_wp2_with fail
       refine HNo.out.mono ?_
       rintro e wc ⟨rfl, hb7⟩
       have HP := Hid.intro (HQ.out.via hb7)
       have HFc := Hid.intro (HF.out.trans ((Bt.below hb7).fr HKr.out))
       have HKc := Hid.intro (HKn.out.up HFc.out.size)
       obtain ⟨hBC, hCn, hnw, vs, he, zrows, hpa⟩ := JR.stb _ _ _ (fun b => (b < w.heap.size ∧ b ≠ B) ∨ b = w.heap.size) HJ.out (Bt.below hb7) (fun _ h => .inl h)
       obtain ⟨x1, x2, rfl⟩ : ∃ x y, vs = [x, y] := by have := zrows.1; simp only [ruR, List.length_cons, List.length_nil] at this; match vs, this with | [x, y], _ => exact ⟨x, y, rfl⟩
       obtain ⟨p0, c0, xs0, hv0, -, -⟩ := zrows.2.2 0 _ _ rfl rfl
       dsimp only at hv0
       subst hv0
       obtain ⟨i0, hi, hz0, hz1, hz2⟩ := info_parts infoCond'
       have e0 : wc.cell? ⟨v1.heap.size, 6, none⟩ = some (.slice p0 q.length c0) := by rw [(heap_cell he 6).1]; rfl
       have hEw : v1.heap.size < wc.heap.size := by omega
       go_wp2_with fail
       refine wp_region_held_drew (S := fun _ => True) hmo trivial (fun hS => ?_)
       refine tq 0 14 (.pointer (some ⟨v1.heap.size, 6, none⟩)) hS ?_
       simp only [n3]
       refine tq 2 16 (.pointer (some ⟨B, 0, none⟩)) hS ?_
       simp only [n3]
       refine share (fun z W us => Fr (fun b => (b < w.heap.size ∧ b ≠ B) ∨ b = w.heap.size) wc W ∧ PAt K W B r5 0 ∧ RowsAt (v1.heap.size + 1) (ruR q []) [(.slice p0 q.length c0), x2] W ∧ W.heap[v1.heap.size]? = some (.cells (ruA u [(.slice p0 q.length c0), x2]) 51 (0, 0)) ∧ us.length = 19 ∧ (∀ u ∈ us, u.oneCell' = true) ∧ reps (offR (v1.heap.size + 1) [(.slice p0 q.length c0), x2]) W t.cs us ∧ W.heap[z]? = some (.cells #[.int .i64 0, .string ⟨#[]⟩, .string ⟨#[]⟩, .slice none 0 0, .slice none 0 0, .slice none 0 0, .slice none 0 0, .slice none 0 0, .int .i64 0, .string ⟨#[]⟩, .int .i64 0, .bool false, .int .i64 0, .string ⟨#[]⟩, .slice none 0 0, .slice none 0 0, .string ⟨#[]⟩, .string ⟨#[]⟩, .slice none 0 0] 96 (0, 0)) ∧ wc.heap.size ≤ W.heap.size ∧ r5.length ≤ r'.length - 1 ∧ True) 5 #[true, true, true, true, true, true, false, false, false, false, false] (fun z us => [(15, .slice p0 q.length c0), (17, .agg us.toArray), (18, .int .i64 (q.length : Int)), (19, .slice (some ⟨z, 0, none⟩) 1 1)]) ?_ (fun HT5 => ?_)
       ·rintro z W us ⟨zf, zp, zr, zh, zl, zo, zu, zz, zs, zlf, zx⟩
        simp only [putL, List.foldl, Act.put, List.setIfInBounds_toArray, List.set_cons_succ, List.set_cons_zero]
        obtain ⟨pq, cq, xs, hveq, hown, hxs⟩ := zr.2.2 0 _ _ rfl rfl
        dsimp only at hveq hown hxs
        clear hveq
        have hCW : v1.heap.size < W.heap.size := by omega
        have hKn := HKc.out.up zs
        refine on1 6 rfl (fun K' hK => ?_)
        rw [if_pos (by rfl)]
        refine wp_append_own _ _ 48 rfl (v1.heap.size + 1) 96 i0 _ 19 328 Tryz.underlying48 hi hz0 hz1 hz2 rfl (by decide) _ _ _ rfl hown ⟨z, 0, none⟩ 1 1 [.int .i64 0, .string ⟨#[]⟩, .string ⟨#[]⟩, .slice none 0 0, .slice none 0 0, .slice none 0 0, .slice none 0 0, .slice none 0 0, .int .i64 0, .string ⟨#[]⟩, .int .i64 0, .bool false, .int .i64 0, .string ⟨#[]⟩, .slice none 0 0, .slice none 0 0, .string ⟨#[]⟩, .string ⟨#[]⟩, .slice none 0 0] rfl rfl (fun j u hj => by rw [addr_add, Nat.zero_add, (heap_cell zz j).1, ← hj]; simp) (by simp [Value.oneCell']) (by unfold maxLen; omega) (by omega) (by omega) (fun sv' w5 hown5 hgr5 hat5 => ?_)
        obtain ⟨g5, k5, rfl⟩ := ownsRow_succ hown5
        have hch5 : Chg v1.heap.size _ W w5 := Chg.of hgr5
        have e5 : w5.heap[v1.heap.size]? = some (.cells (ruA u [(.slice p0 q.length c0), x2]) 51 (0, 0)) := (hgr5.block v1.heap.size hCW (own_below hown (.inl hCn))).trans zh
        have c5 : w5.cell? ⟨v1.heap.size, 6, none⟩ = some (.slice p0 q.length c0) := by rw [(heap_cell e5 6).1]; exact rfl
        have f5 : w5.frozen? ⟨v1.heap.size, 6, none⟩ = false := (heap_cell e5 6).2
        have hKg : ∀ g, (Value.slice p0 q.length c0).ownBlock = some g → K ≤ g := fun g hg => by have := (hown.lt g hg).1; omega
        refine hK.out _ _ (trivial) (fun hS => ?_)
        clear hK K'
        (try simp only [Act.put, n3])
        refine tp 7 21 (.pointer (some ⟨g5, q.length * 19, none⟩)) ⟨_, rfl, rfl, Or.inl ⟨by rfl, fun w hSw => by go_simp; intro hh; exact absurd hh (by omega)⟩⟩ hS ?_
        simp only [n3]
        refine tq 9 22 (.pointer (some ⟨v1.heap.size, 6, none⟩)) hS ?_
        simp only [n3]
        have hxl : xs.length = q.length * 19 := hown.1
        have hgne : g5 ≠ v1.heap.size := by have := (hown5.lt g5 rfl).1; omega
        have hgs : some g5 = (Value.slice p0 q.length c0).ownBlock ∨ W.heap.size ≤ g5 := by rcases hat5 with e | e; exact .inl e; cases e; exact .inr (Nat.le_refl _)
        have hth : ∀ (w6 : World), w6.ownsRow (v1.heap.size + 1) 96 19 (.slice (some ⟨g5, 0, none⟩) (q.length + 1) k5) (q.length + 1) (xs ++ [.int .i64 0, .string ⟨#[]⟩, .string ⟨#[]⟩, .slice none 0 0, .slice none 0 0, .slice none 0 0, .slice none 0 0, .slice none 0 0, .int .i64 0, .string ⟨#[]⟩, .int .i64 0, .bool false, .int .i64 0, .string ⟨#[]⟩, .slice none 0 0, .slice none 0 0, .string ⟨#[]⟩, .string ⟨#[]⟩, .slice none 0 0]) → w6.there g5 (q.length * 19) us.toArray.size := fun w6 h6 j hj => ⟨by rw [List.size_toArray, zl] at hj; rw [h6.cellAt (q.length * 19 + j) (by omega), List.getElem?_eq_getElem (by rw [List.length_append, hxl]; simp; omega)]; rfl, h6.frozenAt _⟩
        refine on2 8 10 rfl (fun K' hK => ?_) rfl (fun K' hK => ?_)
        ·have zl8 : us.toArray.size = 19 := by simpa using zl
         rw [if_pos (by rfl)]
         refine wp_store_mid _ _ _ rfl g5 (q.length * 19) us.toArray rfl rfl (hth _ hown5) (by rw [zl8]; kernel_rfl) (all_oneCell_toArray zo) ?_
         have hch6 := Chg.setCells (ow := (Value.slice p0 q.length c0).ownBlock) hgs us (q.length * 19) _ hch5
         have hown6 := own_last us _ xs _ hown5 (by rw [zl]; rfl)
         rw [hxl] at hown6
         have e6 := (heap_setCells us g5 (q.length * 19) w5 (Ne.symm hgne)).trans e5
         have c6 : (w5.setCells g5 (q.length * 19) us).cell? ⟨v1.heap.size, 6, none⟩ = some (.slice p0 q.length c0) := by rw [(heap_cell e6 6).1]; exact rfl
         have f6 : (w5.setCells g5 (q.length * 19) us).frozen? ⟨v1.heap.size, 6, none⟩ = false := (heap_cell e6 6).2
         (try simp only [])
         refine hK.out _ _ (trivial) (fun hS => ?_)
         clear hK K'
         (try simp only [Act.put, n3])
         refine on1 10 rfl (fun K' hK => ?_)
         go_simp
         go_wp2_with fail
         have hch7 := hch6.set (p := ⟨v1.heap.size, 6, none⟩) (.inl rfl) (.slice (some ⟨g5, 0, none⟩) (q.length + 1) k5)
         have hown7 := own_setC 6 hown6 hCn (.slice (some ⟨g5, 0, none⟩) (q.length + 1) k5)
         have e7 := heap_put (i := 6) e6 (.slice (some ⟨g5, 0, none⟩) (q.length + 1) k5)
         refine hK.out _ _ (trivial) (fun hS => ?_)
         clear hK K'
         (try simp only [n3])
         obtain ⟨hJ6, hF6⟩ := JR.push (A := ruA u) (T := 51) hBC hCn (by omega) zr hpa hKn 0 rfl rfl hxs zu rfl hown7 hch7 hat5 (by rw [e7, ruA_set6]; rfl)
         have hp6 := zp.chg hch7 hCK hKg
         refine wpAnyH_done (by kernel_rfl) ?_ _
         have hr5 := hp6.rlen
         go_wp2_with fail
         go_roundw
         case rel => exact ⟨q ++ [t], r5, f, Hid.intro ((HFc.out.trans zf).trans hF6), Hid.intro (by simpa [ruR, Rd.up, Cd.css_snoc] using hJ6), Hid.intro hp6, by simp; omega, by omega, by omega, HE⟩
         case measure => omega
        ·have zl8 : us.toArray.size = 19 := by simpa using zl
         go_simp
         go_wp2_with fail
         have hch6 := hch5.set (p := ⟨v1.heap.size, 6, none⟩) (.inl rfl) (.slice (some ⟨g5, 0, none⟩) (q.length + 1) k5)
         have hown6 := own_setC 6 hown5 hCn (.slice (some ⟨g5, 0, none⟩) (q.length + 1) k5)
         have e6 := heap_put (i := 6) e5 (.slice (some ⟨g5, 0, none⟩) (q.length + 1) k5)
         refine hK.out _ _ (trivial) (fun hS => ?_)
         clear hK K'
         (try simp only [n3])
         refine on1 8 rfl (fun K' hK => ?_)
         rw [if_pos (by rfl)]
         refine wp_store_mid _ _ _ rfl g5 (q.length * 19) us.toArray rfl rfl (hth _ hown6) (by rw [zl8]; kernel_rfl) (all_oneCell_toArray zo) ?_
         have hch7 := Chg.setCells (ow := (Value.slice p0 q.length c0).ownBlock) hgs us (q.length * 19) _ hch6
         have hown7 := own_last us _ xs _ hown6 (by rw [zl]; rfl)
         rw [hxl] at hown7
         have e7 := (heap_setCells us g5 (q.length * 19) _ (Ne.symm hgne)).trans e6
         (try simp only [])
         refine hK.out _ _ (trivial) (fun hS => ?_)
         clear hK K'
         (try simp only [Act.put, n3])
         obtain ⟨hJ6, hF6⟩ := JR.push (A := ruA u) (T := 51) hBC hCn (by omega) zr hpa hKn 0 rfl rfl hxs zu rfl hown7 hch7 hat5 (by rw [e7, ruA_set6]; rfl)
         have hp6 := zp.chg hch7 hCK hKg
         refine wpAnyH_done (by kernel_rfl) ?_ _
         have hr5 := hp6.rlen
         go_wp2_with fail
         go_roundw
         case rel => exact ⟨q ++ [t], r5, f, Hid.intro ((HFc.out.trans zf).trans hF6), Hid.intro (by simpa [ruR, Rd.up, Cd.css_snoc] using hJ6), Hid.intro hp6, by simp; omega, by omega, by omega, HE⟩
         case measure => omega
       ·(try simp only [putL, List.foldl, Act.put, List.setIfInBounds_toArray, List.set_cons_succ, List.set_cons_zero] at HT5)
        refine wpAnyH_ready (rs := [1, 3, 5]) (by kernel_rfl) (by simp) ?_
        refine AllReadyH.cons rfl (fun K' hK => ?_) (AllReadyH.cons rfl (fun K' hK => ?_) (AllReadyH.cons rfl (fun K' hK => ?_) AllReadyH.nil))
        ·go_simp
         refine hK.out _ _ (trivial) (fun hS => ?_)
         clear hK K'
         (try simp only [Act.put, n3])
         refine tq 4 18 (.int .i64 (q.length : Int)) hS ?_
         simp only [n3]
         refine on2 3 5 rfl (fun K' hK => ?_) rfl (fun K' hK => ?_)
         ·go_simp
          refine (HT _ (by first | exact HP.out.via (Below.refl _ _).drew | exact HP.out.via (below_al (Below.refl _ _).drew _) | exact HP.out.via (below_al (Below.refl _ _) _).drew)).out.mono ?_
          rintro e w4 ⟨hb4, hl4, hp4, v4, rfl, y3, y4, y5, y6, y7, y14, y15, y18, rfl, ⟨g3, g4, g5x, g6, g7⟩, g14, g15, g18⟩
          have hbt4 : Bt B wc w4 := Bt.trans (by first | exact (Bt.refl B _).drew | exact (Bt.refl B _).drew.alloc _ | exact ((Bt.refl B _).alloc _).drew) hb4
          have hr4 := zrows.bt hbt4 (by omega)
          have hC4 := row_bt hbt4 (by omega) he
          have hs4 : wc.heap.size ≤ w4.heap.size := hbt4.size
          go_wp2_with fail
          refine hK.out _ _ (trivial) (fun hS => ?_)
          clear hK K'
          (try simp only [Act.put, n3])
          refine on1 5 rfl (fun K' hK => ?_)
          go_simp
          go_wp2_with fail
          refine hK.out _ _ (trivial) (fun hS => ?_)
          clear hK K'
          (try simp only [Act.put, n3])
          have hbt5 : Bt B wc (w4.alloc (.cells #[.int .i64 0, .string ⟨#[]⟩, .string ⟨#[]⟩, .slice none 0 0, .slice none 0 0, .slice none 0 0, .slice none 0 0, .slice none 0 0, .int .i64 0, .string ⟨#[]⟩, .int .i64 0, .bool false, .int .i64 0, .string ⟨#[]⟩, .slice none 0 0, .slice none 0 0, .string ⟨#[]⟩, .string ⟨#[]⟩, .slice none 0 0] 96)) := hbt4.alloc _
          refine HT5 w4.heap.size (w4.alloc (.cells #[.int .i64 0, .string ⟨#[]⟩, .string ⟨#[]⟩, .slice none 0 0, .slice none 0 0, .slice none 0 0, .slice none 0 0, .slice none 0 0, .int .i64 0, .string ⟨#[]⟩, .int .i64 0, .bool false, .int .i64 0, .string ⟨#[]⟩, .slice none 0 0, .slice none 0 0, .string ⟨#[]⟩, .string ⟨#[]⟩, .slice none 0 0] 96)) [.int .i64 t.k, .string t.v, .string t.c, y3, y4, y5, y6, y7, .int .i64 t.e.op, .string t.e.t, .int .i64 t.e.v.k, .bool t.e.v.b, .int .i64 t.e.v.i, .string t.e.v.s, y14, y15, .string t.fn, .string t.name, y18] ⟨hbt5.fr HKc.out, hp4.via (below_al (Below.refl _ _) _), zrows.bt hbt5 (by omega), row_bt hbt5 (by omega) he, rfl, (CdV.reps (c := t) ⟨y3, y4, y5, y6, y7, y14, y15, y18, rfl, ⟨g3, g4, g5x, g6, g7⟩, g14, g15, g18⟩).1.ones, reps.move (Kp.alloc _ _) (fun b _ h => zrows.off hnw b (by first | exact h | exact Nat.le_trans (by simp) h)) _ _ ((CdV.reps (c := t) ⟨y3, y4, y5, y6, y7, y14, y15, y18, rfl, ⟨g3, g4, g5x, g6, g7⟩, g14, g15, g18⟩).1), heap_alloc_new w4 _, hbt5.size, hl4, trivial⟩
         ·go_simp
          go_wp2_with fail
          refine hK.out _ _ (trivial) (fun hS => ?_)
          clear hK K'
          (try simp only [Act.put, n3])
          refine on1 3 rfl (fun K' hK => ?_)
          go_simp
          refine (HT _ (by first | exact HP.out.via (Below.refl _ _).drew | exact HP.out.via (below_al (Below.refl _ _).drew _) | exact HP.out.via (below_al (Below.refl _ _) _).drew)).out.mono ?_
          rintro e w4 ⟨hb4, hl4, hp4, v4, rfl, y3, y4, y5, y6, y7, y14, y15, y18, rfl, ⟨g3, g4, g5x, g6, g7⟩, g14, g15, g18⟩
          have hbt4 : Bt B wc w4 := Bt.trans (by first | exact (Bt.refl B _).drew | exact (Bt.refl B _).drew.alloc _ | exact ((Bt.refl B _).alloc _).drew) hb4
          have hr4 := zrows.bt hbt4 (by omega)
          have hC4 := row_bt hbt4 (by omega) he
          have hs4 : wc.heap.size ≤ w4.heap.size := hbt4.size
          go_wp2_with fail
          refine hK.out _ _ (trivial) (fun hS => ?_)
          clear hK K'
          (try simp only [Act.put, n3])
          refine HT5 wc.heap.size w4 [.int .i64 t.k, .string t.v, .string t.c, y3, y4, y5, y6, y7, .int .i64 t.e.op, .string t.e.t, .int .i64 t.e.v.k, .bool t.e.v.b, .int .i64 t.e.v.i, .string t.e.v.s, y14, y15, .string t.fn, .string t.name, y18] ⟨hbt4.fr HKc.out, hp4, hr4, hC4, rfl, (CdV.reps (c := t) ⟨y3, y4, y5, y6, y7, y14, y15, y18, rfl, ⟨g3, g4, g5x, g6, g7⟩, g14, g15, g18⟩).1.ones, reps.move Kp.refl (fun b _ h => zrows.off hnw b (by first | exact h | exact Nat.le_trans (by simp) h)) _ _ ((CdV.reps (c := t) ⟨y3, y4, y5, y6, y7, y14, y15, y18, rfl, ⟨g3, g4, g5x, g6, g7⟩, g14, g15, g18⟩).1), row_bt hb4 (by omega) (heap_alloc_new wc _), hs4, hl4, trivial⟩
        ·go_simp
         refine (HT _ (by first | exact HP.out.via (Below.refl _ _).drew | exact HP.out.via (below_al (Below.refl _ _).drew _) | exact HP.out.via (below_al (Below.refl _ _) _).drew)).out.mono ?_
         rintro e w4 ⟨hb4, hl4, hp4, v4, rfl, y3, y4, y5, y6, y7, y14, y15, y18, rfl, ⟨g3, g4, g5x, g6, g7⟩, g14, g15, g18⟩
         have hbt4 : Bt B wc w4 := Bt.trans (by first | exact (Bt.refl B _).drew | exact (Bt.refl B _).drew.alloc _ | exact ((Bt.refl B _).alloc _).drew) hb4
         have hr4 := zrows.bt hbt4 (by omega)
         have hC4 := row_bt hbt4 (by omega) he
         have hs4 : wc.heap.size ≤ w4.heap.size := hbt4.size
         go_wp2_with fail
         refine hK.out _ _ (trivial) (fun hS => ?_)
         clear hK K'
         (try simp only [Act.put, n3])
         refine on2 1 5 rfl (fun K' hK => ?_) rfl (fun K' hK => ?_)
         ·have e04 : w4.cell? ⟨v1.heap.size, 6, none⟩ = some (.slice p0 q.length c0) := by rw [(heap_cell hC4 6).1]; exact rfl
          have hEw4 : v1.heap.size < w4.heap.size := by omega
          go_simp
          refine hK.out _ _ (trivial) (fun hS => ?_)
          clear hK K'
          (try simp only [Act.put, n3])
          refine tq 4 18 (.int .i64 (q.length : Int)) hS ?_
          simp only [n3]
          refine on1 5 rfl (fun K' hK => ?_)
          go_simp
          go_wp2_with fail
          refine hK.out _ _ (trivial) (fun hS => ?_)
          clear hK K'
          (try simp only [Act.put, n3])
          have hbt5 : Bt B wc (w4.alloc (.cells #[.int .i64 0, .string ⟨#[]⟩, .string ⟨#[]⟩, .slice none 0 0, .slice none 0 0, .slice none 0 0, .slice none 0 0, .slice none 0 0, .int .i64 0, .string ⟨#[]⟩, .int .i64 0, .bool false, .int .i64 0, .string ⟨#[]⟩, .slice none 0 0, .slice none 0 0, .string ⟨#[]⟩, .string ⟨#[]⟩, .slice none 0 0] 96)) := hbt4.alloc _
          refine HT5 w4.heap.size (w4.alloc (.cells #[.int .i64 0, .string ⟨#[]⟩, .string ⟨#[]⟩, .slice none 0 0, .slice none 0 0, .slice none 0 0, .slice none 0 0, .slice none 0 0, .int .i64 0, .string ⟨#[]⟩, .int .i64 0, .bool false, .int .i64 0, .string ⟨#[]⟩, .slice none 0 0, .slice none 0 0, .string ⟨#[]⟩, .string ⟨#[]⟩, .slice none 0 0] 96)) [.int .i64 t.k, .string t.v, .string t.c, y3, y4, y5, y6, y7, .int .i64 t.e.op, .string t.e.t, .int .i64 t.e.v.k, .bool t.e.v.b, .int .i64 t.e.v.i, .string t.e.v.s, y14, y15, .string t.fn, .string t.name, y18] ⟨hbt5.fr HKc.out, hp4.via (below_al (Below.refl _ _) _), zrows.bt hbt5 (by omega), row_bt hbt5 (by omega) he, rfl, (CdV.reps (c := t) ⟨y3, y4, y5, y6, y7, y14, y15, y18, rfl, ⟨g3, g4, g5x, g6, g7⟩, g14, g15, g18⟩).1.ones, reps.move (Kp.alloc _ _) (fun b _ h => zrows.off hnw b (by first | exact h | exact Nat.le_trans (by simp) h)) _ _ ((CdV.reps (c := t) ⟨y3, y4, y5, y6, y7, y14, y15, y18, rfl, ⟨g3, g4, g5x, g6, g7⟩, g14, g15, g18⟩).1), heap_alloc_new w4 _, hbt5.size, hl4, trivial⟩
         ·go_simp
          go_wp2_with fail
          refine hK.out _ _ (trivial) (fun hS => ?_)
          clear hK K'
          (try simp only [Act.put, n3])
          refine on1 1 rfl (fun K' hK => ?_)
          have e04 : w4.cell? ⟨v1.heap.size, 6, none⟩ = some (.slice p0 q.length c0) := by rw [(heap_cell hC4 6).1]; exact rfl
          have hEw4 : v1.heap.size < w4.heap.size := by omega
          go_simp
          refine hK.out _ _ (trivial) (fun hS => ?_)
          clear hK K'
          (try simp only [Act.put, n3])
          refine tq 4 18 (.int .i64 (q.length : Int)) hS ?_
          simp only [n3]
          have hbt5 : Bt B wc (w4.alloc (.cells #[.int .i64 0, .string ⟨#[]⟩, .string ⟨#[]⟩, .slice none 0 0, .slice none 0 0, .slice none 0 0, .slice none 0 0, .slice none 0 0, .int .i64 0, .string ⟨#[]⟩, .int .i64 0, .bool false, .int .i64 0, .string ⟨#[]⟩, .slice none 0 0, .slice none 0 0, .string ⟨#[]⟩, .string ⟨#[]⟩, .slice none 0 0] 96)) := hbt4.alloc _
          refine HT5 w4.heap.size (w4.alloc (.cells #[.int .i64 0, .string ⟨#[]⟩, .string ⟨#[]⟩, .slice none 0 0, .slice none 0 0, .slice none 0 0, .slice none 0 0, .slice none 0 0, .int .i64 0, .string ⟨#[]⟩, .int .i64 0, .bool false, .int .i64 0, .string ⟨#[]⟩, .slice none 0 0, .slice none 0 0, .string ⟨#[]⟩, .string ⟨#[]⟩, .slice none 0 0] 96)) [.int .i64 t.k, .string t.v, .string t.c, y3, y4, y5, y6, y7, .int .i64 t.e.op, .string t.e.t, .int .i64 t.e.v.k, .bool t.e.v.b, .int .i64 t.e.v.i, .string t.e.v.s, y14, y15, .string t.fn, .string t.name, y18] ⟨hbt5.fr HKc.out, hp4.via (below_al (Below.refl _ _) _), zrows.bt hbt5 (by omega), row_bt hbt5 (by omega) he, rfl, (CdV.reps (c := t) ⟨y3, y4, y5, y6, y7, y14, y15, y18, rfl, ⟨g3, g4, g5x, g6, g7⟩, g14, g15, g18⟩).1.ones, reps.move (Kp.alloc _ _) (fun b _ h => zrows.off hnw b (by first | exact h | exact Nat.le_trans (by simp) h)) _ _ ((CdV.reps (c := t) ⟨y3, y4, y5, y6, y7, y14, y15, y18, rfl, ⟨g3, g4, g5x, g6, g7⟩, g14, g15, g18⟩).1), heap_alloc_new w4 _, hbt5.size, hl4, trivial⟩
        ·go_simp
         go_wp2_with fail
         refine hK.out _ _ (trivial) (fun hS => ?_)
         clear hK K'
         (try simp only [Act.put, n3])
         refine on2 1 3 rfl (fun K' hK => ?_) rfl (fun K' hK => ?_)
         ·go_simp
          refine hK.out _ _ (trivial) (fun hS => ?_)
          clear hK K'
          (try simp only [Act.put, n3])
          refine tq 4 18 (.int .i64 (q.length : Int)) hS ?_
          simp only [n3]
          refine on1 3 rfl (fun K' hK => ?_)
          go_simp
          refine (HT _ (by first | exact HP.out.via (Below.refl _ _).drew | exact HP.out.via (below_al (Below.refl _ _).drew _) | exact HP.out.via (below_al (Below.refl _ _) _).drew)).out.mono ?_
          rintro e w4 ⟨hb4, hl4, hp4, v4, rfl, y3, y4, y5, y6, y7, y14, y15, y18, rfl, ⟨g3, g4, g5x, g6, g7⟩, g14, g15, g18⟩
          have hbt4 : Bt B wc w4 := Bt.trans (by first | exact (Bt.refl B _).drew | exact (Bt.refl B _).drew.alloc _ | exact ((Bt.refl B _).alloc _).drew) hb4
          have hr4 := zrows.bt hbt4 (by omega)
          have hC4 := row_bt hbt4 (by omega) he
          have hs4 : wc.heap.size ≤ w4.heap.size := hbt4.size
          go_wp2_with fail
          refine hK.out _ _ (trivial) (fun hS => ?_)
          clear hK K'
          (try simp only [Act.put, n3])
          refine HT5 wc.heap.size w4 [.int .i64 t.k, .string t.v, .string t.c, y3, y4, y5, y6, y7, .int .i64 t.e.op, .string t.e.t, .int .i64 t.e.v.k, .bool t.e.v.b, .int .i64 t.e.v.i, .string t.e.v.s, y14, y15, .string t.fn, .string t.name, y18] ⟨hbt4.fr HKc.out, hp4, hr4, hC4, rfl, (CdV.reps (c := t) ⟨y3, y4, y5, y6, y7, y14, y15, y18, rfl, ⟨g3, g4, g5x, g6, g7⟩, g14, g15, g18⟩).1.ones, reps.move Kp.refl (fun b _ h => zrows.off hnw b (by first | exact h | exact Nat.le_trans (by simp) h)) _ _ ((CdV.reps (c := t) ⟨y3, y4, y5, y6, y7, y14, y15, y18, rfl, ⟨g3, g4, g5x, g6, g7⟩, g14, g15, g18⟩).1), row_bt hb4 (by omega) (heap_alloc_new wc _), hs4, hl4, trivial⟩
         ·go_simp
          refine (HT _ (by first | exact HP.out.via (Below.refl _ _).drew | exact HP.out.via (below_al (Below.refl _ _).drew _) | exact HP.out.via (below_al (Below.refl _ _) _).drew)).out.mono ?_
          rintro e w4 ⟨hb4, hl4, hp4, v4, rfl, y3, y4, y5, y6, y7, y14, y15, y18, rfl, ⟨g3, g4, g5x, g6, g7⟩, g14, g15, g18⟩
          have hbt4 : Bt B wc w4 := Bt.trans (by first | exact (Bt.refl B _).drew | exact (Bt.refl B _).drew.alloc _ | exact ((Bt.refl B _).alloc _).drew) hb4
          have hr4 := zrows.bt hbt4 (by omega)
          have hC4 := row_bt hbt4 (by omega) he
          have hs4 : wc.heap.size ≤ w4.heap.size := hbt4.size
          go_wp2_with fail
          refine hK.out _ _ (trivial) (fun hS => ?_)
          clear hK K'
          (try simp only [Act.put, n3])
          refine on1 1 rfl (fun K' hK => ?_)
          have e04 : w4.cell? ⟨v1.heap.size, 6, none⟩ = some (.slice p0 q.length c0) := by rw [(heap_cell hC4 6).1]; exact rfl
          have hEw4 : v1.heap.size < w4.heap.size := by omega
          go_simp
          refine hK.out _ _ (trivial) (fun hS => ?_)
          clear hK K'
          (try simp only [Act.put, n3])
          refine tq 4 18 (.int .i64 (q.length : Int)) hS ?_
          simp only [n3]
          refine HT5 wc.heap.size w4 [.int .i64 t.k, .string t.v, .string t.c, y3, y4, y5, y6, y7, .int .i64 t.e.op, .string t.e.t, .int .i64 t.e.v.k, .bool t.e.v.b, .int .i64 t.e.v.i, .string t.e.v.s, y14, y15, .string t.fn, .string t.name, y18] ⟨hbt4.fr HKc.out, hp4, hr4, hC4, rfl, (CdV.reps (c := t) ⟨y3, y4, y5, y6, y7, y14, y15, y18, rfl, ⟨g3, g4, g5x, g6, g7⟩, g14, g15, g18⟩).1.ones, reps.move Kp.refl (fun b _ h => zrows.off hnw b (by first | exact h | exact Nat.le_trans (by simp) h)) _ _ ((CdV.reps (c := t) ⟨y3, y4, y5, y6, y7, y14, y15, y18, rfl, ⟨g3, g4, g5x, g6, g7⟩, g14, g15, g18⟩).1), row_bt hb4 (by omega) (heap_alloc_new wc _), hs4, hl4, trivial⟩
     | true =>
      have HYes := HYes r' wr HQ.out k0
      have HE : Hid ((untilL ⟨#[101, 110, 100]⟩ actionM r'.tail.length [] r'.tail).bd (fun t r => Rs.ok { u with whn := q, thn := t } r) = (untilL ⟨#[116, 104, 101, 110]⟩ (condM 31 0) r3.length [] r3).bd (fun l r => (untilL ⟨#[101, 110, 100]⟩ actionM r.length [] r).bd (fun t r => Rs.ok { u with whn := l, thn := t } r))) := by
       have := HE.out
       rw [untilL, if_pos k0, bd_ok] at this
       exact this
      clear k0
      go_wp2_with fail
      refine HYes.out.mono ?_
      rintro e w7 ⟨rfl, hb7, hp7⟩
      have HJ7 := Hid.intro (JR.stb _ _ _ (fun b => (b < w.heap.size ∧ b ≠ B) ∨ b = w.heap.size) HJ.out hb7 (fun _ h => .inl h))
      have HF7 := Hid.intro (HF.out.trans (hb7.fr HKr.out))
      have HP7 := Hid.intro hp7
      have HE7 := HE
      have hlt : r'.tail.length ≤ r3.length := by simp; omega
      go_wp2_with fail
      go_loopw [23] (fun _ w' => ∃ a r'' f, Hid (Fr (fun b => (b < w.heap.size ∧ b ≠ B) ∨ b = w.heap.size) w1 w') ∧ Hid (JR (v1.heap.size + 1) B v1.heap.size 51 (ruA u) (ruR q a) w' (fun b => (b < w.heap.size ∧ b ≠ B) ∨ b = w.heap.size)) ∧ Hid (PAt K w' B r'' 0) ∧ a.length + r''.length ≤ 10000 ∧ r''.length ≤ r3.length ∧ r''.length ≤ f ∧ Hid ((untilL ⟨#[101, 110, 100]⟩ actionM f a r'').bd (fun t r => Rs.ok { u with whn := q, thn := t } r) = (untilL ⟨#[116, 104, 101, 110]⟩ (condM 31 0) r3.length [] r3).bd (fun l r => (untilL ⟨#[101, 110, 100]⟩ actionM r.length [] r).bd (fun t r => Rs.ok { u with whn := l, thn := t } r)))) (fun _ w' => rlen B w')
      case atStart => exact ⟨[], r'.tail, r'.tail.length, HF7, HJ7, HP7, by simp; omega, hlt, Nat.le_refl _, HE7⟩
      case round =>
       clear HJ7 HP7 HE7 HE HF7 HF HJ HQ HKr hrlen hln hws hlf hl' hll hlr hlt hb7 hp7 HYes
       skip
       clear HC HNo
       obtain ⟨a, r', f, HF, HJ, HQ, hll, hl', hlf, HE⟩ := hrel
       obtain ⟨x, r0, hr', -⟩ := gd_cons HQ.out.gd
       have hlr : 0 < r'.length := by rw [hr']; simp
       clear hr'
       obtain ⟨f, rfl⟩ : ∃ f', f = f' + 1 := ⟨f - 1, by omega⟩
       have HKr := Hid.intro (HKn.out.up HF.out.size)
       have hrlen := HQ.out.rlen
       have hln : a.length ≤ 10000 := by omega
       have hws := HF.out.size
       cases k0 : isM ⟨#[101, 110, 100]⟩ r' with
       | false =>
        have HNo := HNo2 r' wr HQ.out k0
        have HE : Hid (((actionM r').bd fun x r => untilL ⟨#[101, 110, 100]⟩ actionM f (a ++ [x]) r).bd (fun t r => Rs.ok { u with whn := q, thn := t } r) = (untilL ⟨#[116, 104, 101, 110]⟩ (condM 31 0) r3.length [] r3).bd (fun l r => (untilL ⟨#[101, 110, 100]⟩ actionM r.length [] r).bd (fun t r => Rs.ok { u with whn := l, thn := t } r))) := by
         have := HE.out
         rw [untilL, if_neg (by simp [k0])] at this
         exact this
        clear k0
        have HT := HAct r'
        cases hm2 : actionM r' with
        | bad q2 =>
         rw [hm2] at HT
         rw [hm2, bd_bad, bd_bad] at HE
         clear hm2
         go_wp2_with fail
         refine HNo.out.mono ?_
         rintro e wc ⟨rfl, hb7⟩
         have HP := Hid.intro (HQ.out.via hb7)
         have HFc := Hid.intro (HF.out.trans ((Bt.below hb7).fr HKr.out))
         have HKc := Hid.intro (HKn.out.up HFc.out.size)
         obtain ⟨hBC, hCn, hnw, vs, he, zrows, hpa⟩ := JR.stb _ _ _ (fun b => (b < w.heap.size ∧ b ≠ B) ∨ b = w.heap.size) HJ.out (Bt.below hb7) (fun _ h => .inl h)
         obtain ⟨x1, x2, rfl⟩ : ∃ x y, vs = [x, y] := by have := zrows.1; simp only [ruR, List.length_cons, List.length_nil] at this; match vs, this with | [x, y], _ => exact ⟨x, y, rfl⟩
         obtain ⟨p0, c0, xs0, hv0, -, -⟩ := zrows.2.2 1 _ _ rfl rfl
         dsimp only at hv0
         subst hv0
         obtain ⟨i0, hi, hz0, hz1, hz2⟩ := info_parts infoAct'
         have e0 : wc.cell? ⟨v1.heap.size, 7, none⟩ = some (.slice p0 a.length c0) := by rw [(heap_cell he 7).1]; rfl
         have hEw : v1.heap.size < wc.heap.size := by omega
         go_wp2_with fail
         refine wp_region_held_drew (S := fun _ => True) hmo trivial (fun hS => ?_)
         refine tq 0 26 (.pointer (some ⟨v1.heap.size, 7, none⟩)) hS ?_
         simp only [n3]
         refine tq 2 28 (.pointer (some ⟨B, 0, none⟩)) hS ?_
         simp only [n3]
         refine on2 1 3 rfl (fun K' hK => ?_) rfl (fun K' hK => ?_)
         ·go_simp
          refine hK.out _ _ (trivial) (fun hS => ?_)
          clear hK K'
          (try simp only [Act.put, n3])
          refine on1 3 rfl (fun K' hK => ?_)
          go_simp
          refine (HT _ (by first | exact HP.out.via (Below.refl _ _).drew | exact HP.out.via (below_al (Below.refl _ _).drew _) | exact HP.out.via (below_al (Below.refl _ _) _).drew)).out.mono ?_
          rintro e w4 ⟨hb4, rfl⟩
          have hbt4 : Bt B wc w4 := Bt.trans (by first | exact (Bt.refl B _).drew | exact (Bt.refl B _).drew.alloc _ | exact ((Bt.refl B _).alloc _).drew) hb4
          refine ⟨rfl, HB1.out.fra ((HFc.out.trans (hbt4.fr HKc.out)).mono fun b hb => .inl hb), ?_⟩
          rw [← HE.out]
         ·go_simp
          refine (HT _ (by first | exact HP.out.via (Below.refl _ _).drew | exact HP.out.via (below_al (Below.refl _ _).drew _) | exact HP.out.via (below_al (Below.refl _ _) _).drew)).out.mono ?_
          rintro e w4 ⟨hb4, rfl⟩
          have hbt4 : Bt B wc w4 := Bt.trans (by first | exact (Bt.refl B _).drew | exact (Bt.refl B _).drew.alloc _ | exact ((Bt.refl B _).alloc _).drew) hb4
          refine ⟨rfl, HB1.out.fra ((HFc.out.trans (hbt4.fr HKc.out)).mono fun b hb => .inl hb), ?_⟩
          rw [← HE.out]
        | ok t r5 =>
         rw [hm2] at HT
         rw [hm2, bd_ok] at HE
         clear hm2
         go_wp2_with fail
         refine HNo.out.mono ?_
         rintro e wc ⟨rfl, hb7⟩
         have HP := Hid.intro (HQ.out.via hb7)
         have HFc := Hid.intro (HF.out.trans ((Bt.below hb7).fr HKr.out))
         have HKc := Hid.intro (HKn.out.up HFc.out.size)
         obtain ⟨hBC, hCn, hnw, vs, he, zrows, hpa⟩ := JR.stb _ _ _ (fun b => (b < w.heap.size ∧ b ≠ B) ∨ b = w.heap.size) HJ.out (Bt.below hb7) (fun _ h => .inl h)
         obtain ⟨x1, x2, rfl⟩ : ∃ x y, vs = [x, y] := by have := zrows.1; simp only [ruR, List.length_cons, List.length_nil] at this; match vs, this with | [x, y], _ => exact ⟨x, y, rfl⟩
         obtain ⟨p0, c0, xs0, hv0, -, -⟩ := zrows.2.2 1 _ _ rfl rfl
         dsimp only at hv0
         subst hv0
         obtain ⟨i0, hi, hz0, hz1, hz2⟩ := info_parts infoAct'
         have e0 : wc.cell? ⟨v1.heap.size, 7, none⟩ = some (.slice p0 a.length c0) := by rw [(heap_cell he 7).1]; rfl
         have hEw : v1.heap.size < wc.heap.size := by omega
         go_wp2_with fail
         refine wp_region_held_drew (S := fun _ => True) hmo trivial (fun hS => ?_)
         refine tq 0 26 (.pointer (some ⟨v1.heap.size, 7, none⟩)) hS ?_
         simp only [n3]
         refine tq 2 28 (.pointer (some ⟨B, 0, none⟩)) hS ?_
         simp only [n3]
         refine share (fun z W us => Fr (fun b => (b < w.heap.size ∧ b ≠ B) ∨ b = w.heap.size) wc W ∧ PAt K W B r5 0 ∧ RowsAt (v1.heap.size + 1) (ruR q a) [x1, (.slice p0 a.length c0)] W ∧ W.heap[v1.heap.size]? = some (.cells (ruA u [x1, (.slice p0 a.length c0)]) 51 (0, 0)) ∧ us.length = 12 ∧ (∀ u ∈ us, u.oneCell' = true) ∧ reps (offR (v1.heap.size + 1) [x1, (.slice p0 a.length c0)]) W t.cs us ∧ W.heap[z]? = some (.cells us.toArray 99 (0, 0)) ∧ wc.heap.size ≤ W.heap.size ∧ r5.length ≤ r'.length - 1 ∧ True) 3 #[true, true, true, true, true, false, false, false] (fun z us => [(27, .slice p0 a.length c0), (29, .agg us.toArray), (30, .slice (some ⟨z, 0, none⟩) 1 1)]) ?_ (fun HT5 => ?_)
         ·rintro z W us ⟨zf, zp, zr, zh, zl, zo, zu, zz, zs, zlf, zx⟩
          simp only [putL, List.foldl, Act.put, List.setIfInBounds_toArray, List.set_cons_succ, List.set_cons_zero]
          obtain ⟨pq, cq, xs, hveq, hown, hxs⟩ := zr.2.2 1 _ _ rfl rfl
          dsimp only at hveq hown hxs
          clear hveq
          have hCW : v1.heap.size < W.heap.size := by omega
          have hKn := HKc.out.up zs
          refine on1 5 rfl (fun K' hK => ?_)
          rw [if_pos (by rfl)]
          refine wp_append_own _ _ 49 rfl (v1.heap.size + 1) 99 i0 _ 12 176 Tryz.underlying49 hi hz0 hz1 hz2 rfl (by decide) _ _ _ rfl hown ⟨z, 0, none⟩ 1 1 us rfl (by rw [zl]) (fun j u hj => by rw [addr_add, Nat.zero_add, (heap_cell zz j).1, ← hj]; simp) zo (by unfold maxLen; omega) (by omega) (by omega) (fun sv' w5 hown5 hgr5 hat5 => ?_)
          obtain ⟨g5, k5, rfl⟩ := ownsRow_succ hown5
          have hch5 : Chg v1.heap.size _ W w5 := Chg.of hgr5
          have e5 : w5.heap[v1.heap.size]? = some (.cells (ruA u [x1, (.slice p0 a.length c0)]) 51 (0, 0)) := (hgr5.block v1.heap.size hCW (own_below hown (.inl hCn))).trans zh
          have c5 : w5.cell? ⟨v1.heap.size, 7, none⟩ = some (.slice p0 a.length c0) := by rw [(heap_cell e5 7).1]; exact rfl
          have f5 : w5.frozen? ⟨v1.heap.size, 7, none⟩ = false := (heap_cell e5 7).2
          have hKg : ∀ g, (Value.slice p0 a.length c0).ownBlock = some g → K ≤ g := fun g hg => by have := (hown.lt g hg).1; omega
          refine hK.out _ _ (trivial) (fun hS => ?_)
          clear hK K'
          (try simp only [Act.put, n3])
          refine tq 6 32 (.pointer (some ⟨v1.heap.size, 7, none⟩)) hS ?_
          simp only [n3]
          refine on1 7 rfl (fun K' hK => ?_)
          go_simp
          go_wp2_with fail
          have hch6 := hch5.set (p := ⟨v1.heap.size, 7, none⟩) (.inl rfl) (.slice (some ⟨g5, 0, none⟩) (a.length + 1) k5)
          refine hK.out _ _ (trivial) (fun hS => ?_)
          clear hK K'
          (try simp only [n3])
          obtain ⟨hJ6, hF6⟩ := JR.push (A := ruA u) (T := 51) hBC hCn (by omega) zr hpa hKn 1 rfl rfl hxs zu rfl (own_setC 7 hown5 hCn _) hch6 hat5 (by rw [heap_put e5, ruA_set7]; rfl)
          have hp6 := zp.chg hch6 hCK hKg
          refine wpAnyH_done (by kernel_rfl) ?_ _
          have hr5 := hp6.rlen
          go_wp2_with fail
          go_roundw
          case rel => exact ⟨a ++ [t], r5, f, Hid.intro ((HFc.out.trans zf).trans hF6), Hid.intro (by simpa [ruR, Rd.up, List.flatMap_append] using hJ6), Hid.intro hp6, by simp; omega, by omega, by omega, HE⟩
          case measure => omega
         ·(try simp only [putL, List.foldl, Act.put, List.setIfInBounds_toArray, List.set_cons_succ, List.set_cons_zero] at HT5)
          refine on2 1 3 rfl (fun K' hK => ?_) rfl (fun K' hK => ?_)
          ·go_simp
           refine hK.out _ _ (trivial) (fun hS => ?_)
           clear hK K'
           (try simp only [Act.put, n3])
           refine on1 3 rfl (fun K' hK => ?_)
           go_simp
           refine (HT _ (by first | exact HP.out.via (Below.refl _ _).drew | exact HP.out.via (below_al (Below.refl _ _).drew _) | exact HP.out.via (below_al (Below.refl _ _) _).drew)).out.mono ?_
           rintro e w4 ⟨hb4, hl4, hp4, v4, rfl, x2a, p6, n6, c6, p7, n7, c7, rfl, g2, g6, g7⟩
           have hbt4 : Bt B wc w4 := Bt.trans (by first | exact (Bt.refl B _).drew | exact (Bt.refl B _).drew.alloc _ | exact ((Bt.refl B _).alloc _).drew) hb4
           have hr4 := zrows.bt hbt4 (by omega)
           have hC4 := row_bt hbt4 (by omega) he
           have hs4 : wc.heap.size ≤ w4.heap.size := hbt4.size
           go_wp2_with fail
           refine hK.out _ _ (trivial) (fun hS => ?_)
           clear hK K'
           (try simp only [Act.put, n3])
           refine on1 4 rfl (fun K' hK => ?_)
           go_simp
           go_wp2_with fail
           refine hK.out _ _ (trivial) (fun hS => ?_)
           clear hK K'
           (try simp only [Act.put, n3])
           have hbt5 : Bt B wc (w4.alloc (.cells #[.int .i64 t.k, .string t.c, x2a, .int .i64 t.e.op, .string t.e.t, .int .i64 t.e.v.k, .bool t.e.v.b, .int .i64 t.e.v.i, .string t.e.v.s, .slice p6 n6 c6, .slice p7 n7 c7, .string t.t] 99)) := hbt4.alloc _
           refine HT5 w4.heap.size (w4.alloc (.cells #[.int .i64 t.k, .string t.c, x2a, .int .i64 t.e.op, .string t.e.t, .int .i64 t.e.v.k, .bool t.e.v.b, .int .i64 t.e.v.i, .string t.e.v.s, .slice p6 n6 c6, .slice p7 n7 c7, .string t.t] 99)) [.int .i64 t.k, .string t.c, x2a, .int .i64 t.e.op, .string t.e.t, .int .i64 t.e.v.k, .bool t.e.v.b, .int .i64 t.e.v.i, .string t.e.v.s, .slice p6 n6 c6, .slice p7 n7 c7, .string t.t] ⟨hbt5.fr HKc.out, hp4.via (below_al (Below.refl _ _) _), zrows.bt hbt5 (by omega), row_bt hbt5 (by omega) he, rfl, (ac_reps (a := t) g2 g6 g7).ones, reps.move (Kp.alloc _ _) (fun b _ h => zrows.off hnw b (by first | exact h | exact Nat.le_trans (by simp) h)) _ _ (ac_reps g2 g6 g7), heap_alloc_new w4 _, hbt5.size, hl4, trivial⟩
          ·go_simp
           refine (HT _ (by first | exact HP.out.via (Below.refl _ _).drew | exact HP.out.via (below_al (Below.refl _ _).drew _) | exact HP.out.via (below_al (Below.refl _ _) _).drew)).out.mono ?_
           rintro e w4 ⟨hb4, hl4, hp4, v4, rfl, x2a, p6, n6, c6, p7, n7, c7, rfl, g2, g6, g7⟩
           have hbt4 : Bt B wc w4 := Bt.trans (by first | exact (Bt.refl B _).drew | exact (Bt.refl B _).drew.alloc _ | exact ((Bt.refl B _).alloc _).drew) hb4
           have hr4 := zrows.bt hbt4 (by omega)
           have hC4 := row_bt hbt4 (by omega) he
           have hs4 : wc.heap.size ≤ w4.heap.size := hbt4.size
           go_wp2_with fail
           refine hK.out _ _ (trivial) (fun hS => ?_)
           clear hK K'
           (try simp only [Act.put, n3])
           refine on2 1 4 rfl (fun K' hK => ?_) rfl (fun K' hK => ?_)
           ·have e04 : w4.cell? ⟨v1.heap.size, 7, none⟩ = some (.slice p0 a.length c0) := by rw [(heap_cell hC4 7).1]; exact rfl
            have hEw4 : v1.heap.size < w4.heap.size := by omega
            go_simp
            refine hK.out _ _ (trivial) (fun hS => ?_)
            clear hK K'
            (try simp only [Act.put, n3])
            refine on1 4 rfl (fun K' hK => ?_)
            go_simp
            go_wp2_with fail
            refine hK.out _ _ (trivial) (fun hS => ?_)
            clear hK K'
            (try simp only [Act.put, n3])
            have hbt5 : Bt B wc (w4.alloc (.cells #[.int .i64 t.k, .string t.c, x2a, .int .i64 t.e.op, .string t.e.t, .int .i64 t.e.v.k, .bool t.e.v.b, .int .i64 t.e.v.i, .string t.e.v.s, .slice p6 n6 c6, .slice p7 n7 c7, .string t.t] 99)) := hbt4.alloc _
            refine HT5 w4.heap.size (w4.alloc (.cells #[.int .i64 t.k, .string t.c, x2a, .int .i64 t.e.op, .string t.e.t, .int .i64 t.e.v.k, .bool t.e.v.b, .int .i64 t.e.v.i, .string t.e.v.s, .slice p6 n6 c6, .slice p7 n7 c7, .string t.t] 99)) [.int .i64 t.k, .string t.c, x2a, .int .i64 t.e.op, .string t.e.t, .int .i64 t.e.v.k, .bool t.e.v.b, .int .i64 t.e.v.i, .string t.e.v.s, .slice p6 n6 c6, .slice p7 n7 c7, .string t.t] ⟨hbt5.fr HKc.out, hp4.via (below_al (Below.refl _ _) _), zrows.bt hbt5 (by omega), row_bt hbt5 (by omega) he, rfl, (ac_reps (a := t) g2 g6 g7).ones, reps.move (Kp.alloc _ _) (fun b _ h => zrows.off hnw b (by first | exact h | exact Nat.le_trans (by simp) h)) _ _ (ac_reps g2 g6 g7), heap_alloc_new w4 _, hbt5.size, hl4, trivial⟩
           ·go_simp
            go_wp2_with fail
            refine hK.out _ _ (trivial) (fun hS => ?_)
            clear hK K'
            (try simp only [Act.put, n3])
            refine on1 1 rfl (fun K' hK => ?_)
            have e04 : w4.cell? ⟨v1.heap.size, 7, none⟩ = some (.slice p0 a.length c0) := by rw [(heap_cell hC4 7).1]; exact rfl
            have hEw4 : v1.heap.size < w4.heap.size := by omega
            go_simp
            refine hK.out _ _ (trivial) (fun hS => ?_)
            clear hK K'
            (try simp only [Act.put, n3])
            have hbt5 : Bt B wc (w4.alloc (.cells #[.int .i64 t.k, .string t.c, x2a, .int .i64 t.e.op, .string t.e.t, .int .i64 t.e.v.k, .bool t.e.v.b, .int .i64 t.e.v.i, .string t.e.v.s, .slice p6 n6 c6, .slice p7 n7 c7, .string t.t] 99)) := hbt4.alloc _
            refine HT5 w4.heap.size (w4.alloc (.cells #[.int .i64 t.k, .string t.c, x2a, .int .i64 t.e.op, .string t.e.t, .int .i64 t.e.v.k, .bool t.e.v.b, .int .i64 t.e.v.i, .string t.e.v.s, .slice p6 n6 c6, .slice p7 n7 c7, .string t.t] 99)) [.int .i64 t.k, .string t.c, x2a, .int .i64 t.e.op, .string t.e.t, .int .i64 t.e.v.k, .bool t.e.v.b, .int .i64 t.e.v.i, .string t.e.v.s, .slice p6 n6 c6, .slice p7 n7 c7, .string t.t] ⟨hbt5.fr HKc.out, hp4.via (below_al (Below.refl _ _) _), zrows.bt hbt5 (by omega), row_bt hbt5 (by omega) he, rfl, (ac_reps (a := t) g2 g6 g7).ones, reps.move (Kp.alloc _ _) (fun b _ h => zrows.off hnw b (by first | exact h | exact Nat.le_trans (by simp) h)) _ _ (ac_reps g2 g6 g7), heap_alloc_new w4 _, hbt5.size, hl4, trivial⟩
       | true =>
        have HYes := HYes2 r' wr HQ.out k0
        have HE : Hid (Rs.ok { u with whn := q, thn := a } r'.tail = (untilL ⟨#[116, 104, 101, 110]⟩ (condM 31 0) r3.length [] r3).bd (fun l r => (untilL ⟨#[101, 110, 100]⟩ actionM r.length [] r).bd (fun t r => Rs.ok { u with whn := l, thn := t } r))) := by
         have := HE.out
         rw [untilL, if_pos k0, bd_ok] at this
         exact this
        clear k0 HNo2
        go_wp2_with fail
        refine HYes.out.mono ?_
        rintro e w8 ⟨rfl, hb8, hp8⟩
        obtain ⟨k1, k2, k3, vs, k4, k5, -⟩ := JR.stb _ _ _ (fun b => (b < w.heap.size ∧ b ≠ B) ∨ b = w.heap.size) HJ.out hb8 (fun _ h => .inl h)
        obtain ⟨x1, x2, rfl⟩ : ∃ x y, vs = [x, y] := by have := k5.1; simp only [ruR, List.length_cons, List.length_nil] at this; match vs, this with | [x, y], _ => exact ⟨x, y, rfl⟩
        obtain ⟨p3, c3, y3, he3, o3, r3'⟩ := k5.2.2 0 _ _ rfl rfl
        obtain ⟨p4, c4, y4, he4, o4, r4'⟩ := k5.2.2 1 _ _ rfl rfl
        dsimp only at he3 he4 o3 o4 r3' r4'
        have hrep3 : rep (fun b => v1.heap.size < b) w8 (.sl q.length (Cd.css q)) x1 := rep.own o3 (reps.move Kp.refl (fun b _ h => by have := h.1; omega) _ _ r3') (fun g hg => by have := (o3.lt g hg).1; omega)
        have hrep4 : rep (fun b => v1.heap.size < b) w8 (.sl a.length (a.flatMap Ac.cs)) x2 := rep.own o4 (reps.move Kp.refl (fun b _ h => by have := h.1; omega) _ _ r4') (fun g hg => by have := (o4.lt g hg).1; omega)
        subst he3 he4
        have HC1 := Hid.intro k4
        have HF8 := HF.out.trans (hb8.fr HKr.out)
        have HR8 := Hid.intro ((HF8.block _ (.inr rfl)).trans HR1.out)
        unfold ruA at HC1
        go_wp2_with (first | (with_reducible refine (id (?_ : wpList _ _ _ (Oper.mk _ (Op.load _ _) _ _ _ _ :: _) _ _)); refine wpList_load_cells rfl _ _ rfl _ rfl _ _ _ HC1.out Tryz.underlying51 infoRule rfl ?_) | (with_reducible refine (id (?_ : wpList _ _ _ (Oper.mk _ (Op.store _ _ _) _ _ _ _ :: _) _ _)); refine wpList_store_row rfl _ _ _ rfl _ _ rfl rfl _ _ HR8.out infoRule rfl rfl (by simp [Value.oneCell']) ?_))
        rw [← HE.out]
        refine ret_cells rfl rfl (setRow_heap _ _ _ _ _ _ HR8.out) Tryz.underlying51 infoRule rfl rfl (Post.ok ((HB1.out.fra (HF8.mono fun b hb => .inl hb)).row (by omega) _) (by simp; omega) (hp8.row (by omega) _) ?_)
        have hkk : Kp (fun b => v1.heap.size < b) w8 (w8.setRow w.heap.size #[.string u.name, .int .i64 u.sal, .string u.group, .string u.flow, .bool u.nl, .bool u.lock, .slice p3 q.length c3, .slice p4 a.length c4]) := ⟨by simp, fun b hb _ o => World.cell?_of_block (a := ⟨b, o, none⟩) (setRow_other _ _ _ _ (by simp only; omega))⟩
        exact ⟨_, _, rfl, rep.move hkk (fun b _ h => by omega) _ _ hrep3, rep.move hkk (fun b _ h => by omega) _ _ hrep4⟩
end
end Go.Proofs.YtoeodjobggodcaaGreatDoor
