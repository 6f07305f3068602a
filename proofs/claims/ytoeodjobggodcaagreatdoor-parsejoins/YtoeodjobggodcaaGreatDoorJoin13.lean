import Derived.Test.YtoeodjobggodcaaGreatDoorJoin12
/- query. -/
namespace Go.Proofs.YtoeodjobggodcaaGreatDoor
section
open Go.RowKit
def qryA (s : ByteArray) : Value → Array Value := fun u => #[.string s, u, .slice none 0 0]
theorem qryA_set (s : ByteArray) (u u' : Value) : (qryA s u).setIfInBounds 1 u' = qryA s u' := by simp [qryA]
theorem qryA_at (s : ByteArray) (u : Value) : (qryA s u)[1]? = some u := by simp [qryA]
def qwA (s : ByteArray) : List Value → Array Value
 | [x, y] => #[.string s, x, y]
 | _ => #[]
theorem qwA_set (s : ByteArray) (x y u : Value) : (qwA s [x, y]).setIfInBounds 2 u = qwA s [x, u] := by simp [qwA]
def qwR (l : List ByteArray) (q : List Cd) : List Rd := [⟨9, 1, l.length, l.map dS⟩, ⟨96, 19, q.length, Cd.css q⟩]
def QwJ (n B c1 C : Nat) (s : ByteArray) (l : List ByteArray) (q : List Cd) (w : World) (P : Nat → Prop) : Prop := Bx B c1 (.pointer (some ⟨B, 0, none⟩)) w ∧ c1 < n ∧ c1 ≠ C ∧ JR n B C 63 (qwA s) (qwR l q) w P
theorem QwJ.stb (n B c1 C : Nat) (s : ByteArray) (l : List ByteArray) (q : List Cd) : Stb B (QwJ n B c1 C s l q) := fun w w' P P' h hb hp => ⟨h.1.bt hb, h.2.1, h.2.2.1, JR.stb w w' P P' h.2.2.2 hb hp⟩
theorem qw_rows {n : Nat} {l : List ByteArray} {w : World} {p : Option Addr} {c : Nat} {vs : List Value} (k5 : w.ownsRow n 9 1 (.slice p l.length c) l.length vs) (k6 : reps (fun b => n ≤ b ∧ some b ≠ (Value.slice p l.length c).ownBlock) w (l.map dS) vs) : RowsAt n (qwR l []) [.slice p l.length c, .slice none 0 0] w := by
 refine ⟨rfl, fun i j vi vj hi hj hij g hg => ?_, fun i r v hr hv => ?_⟩
 ·match i, j, hi, hj with
  | 0, 0, _, _ => exact absurd rfl hij
  | 0, 1, _, hj => cases hj; simp [Value.ownBlock]
  | 1, _, hi, _ => cases hi; simp [Value.ownBlock] at hg
 ·match i, hr, hv with
  | 0, hr, hv =>
   cases hr; cases hv
   exact ⟨p, c, vs, rfl, k5, reps.move Kp.refl (fun b _ h => ⟨h.1, by simp; exact ⟨h.2, by simp [Value.ownBlock]⟩⟩) _ _ k6⟩
  | 1, hr, hv =>
   cases hr; cases hv
   exact ⟨none, 0, [], rfl, World.ownsRow_nil _ _ _ _, by simp only [Cd.css]; exact reps.nil⟩
def QuV (P : Nat → Prop) (w : World) (q : Qu) (v : Value) : Prop := ∃ x1 x2, v = .agg #[.string q.name, x1, x2] ∧ rep P w (.sl q.params.length (q.params.map dS)) x1 ∧ rep P w (.sl q.whn.length (Cd.css q.whn)) x2
theorem infoQuery : (Tryz.prog.info? 63).map (·.size) = some 3 := by kernel_rfl
set_option maxRecDepth 100000 in
set_option maxHeartbeats 4000000 in
theorem query_any {K B : Nat} {r : List Lx} {w : World} (h : PAt K w B r 0) :
  Calls Tryz.prog 38 #[.pointer (some ⟨B, 0, none⟩)] w (Post K B 0 (r.length - 1) w (queryM r) fun w' q v => QuV (fun b => w.heap.size ≤ b) w' q v) := by
 have hmf : ∀ (fn : Fn) (first cap : Array Value) (w : World), (Instr.makeFunc fn first cap).run Tryz.prog w = .ok (.func fn first cap) w := fun _ _ _ _ => rfl
 have hsz := h.size
 have hlen := h.len
 have b0 : Below w.heap.size w ((w.alloc (.cells #[.pointer (some ⟨B, 0, none⟩)] 55)).alloc (.cells #[.string ⟨#[]⟩, .slice none 0 0, .slice none 0 0] 63)) := below_al (below_al (Below.refl _ _) _) _
 have hX0 : Bx B w.heap.size (.pointer (some ⟨B, 0, none⟩)) ((w.alloc (.cells #[.pointer (some ⟨B, 0, none⟩)] 55)).alloc (.cells #[.string ⟨#[]⟩, .slice none 0 0, .slice none 0 0] 63)) := (Bx.new w _ _ (by omega)).bt ((Bt.refl B _).alloc _)
 have hR0 : ((w.alloc (.cells #[.pointer (some ⟨B, 0, none⟩)] 55)).alloc (.cells #[.string ⟨#[]⟩, .slice none 0 0, .slice none 0 0] 63)).heap[w.heap.size + 1]? = some (.cells #[.string ⟨#[]⟩, .slice none 0 0, .slice none 0 0] 63) := heap_alloc2_new w _ _
 have HN := Hid.intro (pname_any (h.via b0))
 unfold queryM
 cases h1 : nameM r with
 | bad q =>
  rw [h1] at HN
  rw [bd_bad]
  clear h1
  go_enter Tryz.func38, Tryz.ntmps38
  go_wp2_with fail
  refine HN.out.mono ?_
  rintro e v1 ⟨ht1, rfl⟩
  exact ⟨rfl, (Bt.below b0).trans ht1, rfl⟩
 | ok s r1 =>
  rw [h1] at HN
  rw [bd_ok]
  clear h1
  have hstep : ∀ v1 : World, Bt B ((w.alloc (.cells #[.pointer (some ⟨B, 0, none⟩)] 55)).alloc (.cells #[.string ⟨#[]⟩, .slice none 0 0, .slice none 0 0] 63)) v1 → PAt K v1 B r1 0 → r1.length ≤ r.length - 1 → ∃ W0, Hid ((v1.alloc (.cells #[.string ⟨#[]⟩, .slice none 0 0, .slice none 0 0] 63)).heap[v1.heap.size]? = some (.cells #[.string ⟨#[]⟩, .slice none 0 0, .slice none 0 0] 63)) ∧ (v1.alloc (.cells #[.string ⟨#[]⟩, .slice none 0 0, .slice none 0 0] 63)).setRow v1.heap.size #[.string s, .slice none 0 0, .slice none 0 0] = W0 ∧ Hid (Bt B w W0) ∧ W0.cell? ⟨w.heap.size, 0, none⟩ = some (.pointer (some ⟨B, 0, none⟩)) ∧ w.heap.size < W0.heap.size ∧ w.heap.size + 1 < v1.heap.size ∧
    Hid (W0.heap[w.heap.size + 1]? = some (.cells #[.string ⟨#[]⟩, .slice none 0 0, .slice none 0 0] 63)) ∧ Hid (Calls Tryz.prog 68 #[.pointer (some ⟨B, 0, none⟩), .string ⟨#[40]⟩, .string ⟨#[41]⟩, .func (.func 69) #[] #[.pointer (some ⟨v1.heap.size, 0, none⟩), .pointer (some ⟨w.heap.size, 0, none⟩)]] W0 (CPost K B 0 (r1.length - 1) (fun b => (b < w.heap.size ∧ b ≠ B) ∨ b = w.heap.size + 1) W0 QG (QJ1 (v1.heap.size + 1) B w.heap.size v1.heap.size (qryA s)) (listM ⟨#[40]⟩ ⟨#[41]⟩ 0 (fun l r => (varM r).bd fun s r => .ok (l ++ [s]) r) [] r1))) := by
   intro v1 ht1 hp1 hl1
   have hA : (v1.alloc (.cells #[.string ⟨#[]⟩, .slice none 0 0, .slice none 0 0] 63)).heap[v1.heap.size]? = some (.cells #[.string ⟨#[]⟩, .slice none 0 0, .slice none 0 0] 63) := heap_alloc_new _ _
   have hR1 := row_bt ht1 (by omega) hR0
   have hlt1 : w.heap.size + 1 < v1.heap.size := (Array.getElem?_eq_some_iff.1 hR1).1
   have hbW : Bt B ((w.alloc (.cells #[.pointer (some ⟨B, 0, none⟩)] 55)).alloc (.cells #[.string ⟨#[]⟩, .slice none 0 0, .slice none 0 0] 63)) ((v1.alloc (.cells #[.string ⟨#[]⟩, .slice none 0 0, .slice none 0 0] 63)).setRow v1.heap.size #[.string s, .slice none 0 0, .slice none 0 0]) := (ht1.alloc _).row (by simp; omega) _
   have hXW := hX0.bt hbW
   refine ⟨_, hA, rfl, (Bt.below b0).trans hbW, hXW.2.2.1, hXW.2.1, hlt1, row_bt hbW (by omega) hR0, ?_⟩
   refine list_any QG.tail (QJ1.stb (v1.heap.size + 1) B w.heap.size v1.heap.size (qryA s)) (qry1_clo (v1.heap.size + 1) w.heap.size v1.heap.size (qryA s) (qryA_set s) (qryA_at s) (by omega)) (P := fun b => (b < w.heap.size ∧ b ≠ B) ∨ b = w.heap.size + 1) (s := []) (r := r1) (fun b hb => ⟨by simp; omega, by omega⟩) (by unfold QG; simp; omega) ⟨hXW, by omega, by omega, ?_⟩ ((hp1.via (below_al (Below.refl _ _) _)).row (by omega) _) ⟨#[40]⟩ ⟨#[41]⟩
   exact ⟨by omega, by omega, by simp, none, 0, [], setRow_heap _ _ _ _ _ _ hA, World.ownsRow_nil _ _ _ _, reps.nil, fun b hb => ⟨by omega, by simp [Value.ownBlock]⟩⟩
  cases hm : listM ⟨#[40]⟩ ⟨#[41]⟩ 0 (fun l r => (varM r).bd fun s r => .ok (l ++ [s]) r) [] r1 with
  | bad q =>
   rw [hm] at hstep
   rw [bd_bad]
   clear hm
   go_enter Tryz.func38, Tryz.ntmps38
   go_wp2_with fail
   refine HN.out.mono ?_
   rintro e v1 ⟨ht1, hl1, hp1, x, rfl, rfl⟩
   obtain ⟨W0, HA, hW0, HB, hc1, hc2, hlt1, HR, HW⟩ := hstep v1 ht1 hp1 hl1
   go_wp2_with (with_reducible refine (id (?_ : wpList _ _ _ (Oper.mk _ (Op.store _ _ _) _ _ _ _ :: _) _ _)); refine wpList_store_row rfl _ _ _ rfl _ _ rfl rfl _ _ HA.out infoQuery rfl rfl (by simp [Value.oneCell']) ?_)
   refine HW.out.mono ?_
   rintro e w1 ⟨hf, rfl⟩
   exact ⟨rfl, HB.out.fra (hf.mono fun b hb => .inl hb), rfl⟩
  | ok l r2 =>
   rw [hm] at hstep
   rw [bd_ok]
   clear hm
   go_enter Tryz.func38, Tryz.ntmps38
   go_wp2_with fail
   refine HN.out.mono ?_
   rintro e v1 ⟨ht1, hl1, hp1, x, rfl, rfl⟩
   obtain ⟨W0, HA, hW0, HB, hc1, hc2, hlt1, HR, HW⟩ := hstep v1 ht1 hp1 hl1
   go_wp2_with (with_reducible refine (id (?_ : wpList _ _ _ (Oper.mk _ (Op.store _ _ _) _ _ _ _ :: _) _ _)); refine wpList_store_row rfl _ _ _ rfl _ _ rfl rfl _ _ HA.out infoQuery rfl rfl (by simp [Value.oneCell']) ?_)
   refine HW.out.mono ?_
   rintro e w1 ⟨hf, rfl, -, ⟨j1, j2, j3, k1, k2, k3, p, c, vs0, k4, k5, k6, k7⟩, hp, hl⟩
   have hsz1 : v1.heap.size + 1 ≤ w1.heap.size := k3
   have HJ1 := Hid.intro (show QwJ (v1.heap.size + 1) B w.heap.size v1.heap.size s l [] w1 (fun b => (b < w.heap.size ∧ b ≠ B) ∨ b = w.heap.size + 1) from ⟨j1, j2, j3, k1, k2, k3, [.slice p l.length c, .slice none 0 0], k4, qw_rows k5 k6, fun b hb => ⟨(k7 b hb).1, by simp; exact ⟨(k7 b hb).2, by simp [Value.ownBlock]⟩⟩⟩)
   have HF1 := Hid.intro hf
   have HP1 := Hid.intro hp
   have HR1 := Hid.intro ((hf.block _ (.inr rfl)).trans HR.out)
   have hW0s : w.heap.size ≤ W0.heap.size := HB.out.size
   have HKn : Hid (Kn B (fun b => (b < w.heap.size ∧ b ≠ B) ∨ b = w.heap.size + 1) w1) := fun b hb => ⟨by omega, by omega⟩
   obtain ⟨i0, hi, hz0, hz1, hz2⟩ := info_parts infoCond'
   have hmo : Tryz.prog.follows .mixedOrders = true := by kernel_rfl
   have HC := fun r w (h : PAt K w B r 0) => Hid.intro (cond_any K B 0 r w h)
   have HYes := fun r w (h : PAt K w B r 0) hs => Hid.intro (skip_yes (s := ⟨#[101, 110, 100]⟩) h hs)
   have HNo := fun r w (h : PAt K w B r 0) hs => Hid.intro (skip_no (s := ⟨#[101, 110, 100]⟩) h hs)
   clear hf hp k4 k5 k6 k7 HW HA HN
   go_wp2_with fail
   go_loopw [10] (fun _ w' => ∃ q r' f, Hid (Fr (fun b => (b < w.heap.size ∧ b ≠ B) ∨ b = w.heap.size + 1) w1 w') ∧ Hid (QwJ (v1.heap.size + 1) B w.heap.size v1.heap.size s l q w' (fun b => (b < w.heap.size ∧ b ≠ B) ∨ b = w.heap.size + 1)) ∧ Hid (PAt K w' B r' 0) ∧ q.length + r'.length ≤ 10000 ∧ r'.length ≤ r2.length ∧ r'.length ≤ f ∧ Hid ((untilL ⟨#[101, 110, 100]⟩ (condM 31 0) f q r').bd (fun l' r => Rs.ok (⟨s, l, l'⟩ : Qu) r) = (untilL ⟨#[101, 110, 100]⟩ (condM 31 0) r2.length [] r2).bd (fun l' r => Rs.ok (⟨s, l, l'⟩ : Qu) r))) (fun _ w' => rlen B w')
   case atStart => exact ⟨[], r2, r2.length, Hid.intro (Fr.refl _ _), HJ1, HP1, by simp; omega, Nat.le_refl _, Nat.le_refl _, Hid.intro rfl⟩
   case round =>
    clear HJ1 HP1
    obtain ⟨q, r', f, HF, HJ, HQ, hll, hl', hlf, HE⟩ := hrel
    obtain ⟨x, r0, hr', -⟩ := gd_cons HQ.out.gd
    have hlr : 0 < r'.length := by rw [hr']; simp
    clear hr'
    obtain ⟨f, rfl⟩ : ∃ f', f = f' + 1 := ⟨f - 1, by omega⟩
    have HKr := Hid.intro (HKn.out.up HF.out.size)
    have hrlen := HQ.out.rlen
    have hx0 := HJ.out.1.2.2.1
    have hln : q.length ≤ 10000 := by omega
    have hws := HF.out.size
    cases k0 : isM ⟨#[101, 110, 100]⟩ r' with
    | true =>
     have HYes := HYes r' wr HQ.out k0
     have HE : Hid (Rs.ok (⟨s, l, q⟩ : Qu) r'.tail = (untilL ⟨#[101, 110, 100]⟩ (condM 31 0) r2.length [] r2).bd (fun l' r => Rs.ok (⟨s, l, l'⟩ : Qu) r)) := by
      have := HE.out
      rw [untilL, if_pos k0, bd_ok] at this
      exact this
     clear k0 HNo
     go_wp2_with fail
     refine HYes.out.mono ?_
     rintro e w7 ⟨rfl, hb7, hp7⟩
     have HJ7 := QwJ.stb _ _ _ _ _ _ _ _ _ _ _ HJ.out hb7 (fun _ h => .inl h)
     obtain ⟨j1, j2, j3, k1, k2, k3, vs, k4, k5, -⟩ := HJ7
     obtain ⟨x1, x2, rfl⟩ : ∃ x y, vs = [x, y] := by have := k5.1; simp only [qwR, List.length_cons, List.length_nil] at this; match vs, this with | [x, y], _ => exact ⟨x, y, rfl⟩
     obtain ⟨p3, c3, y3, he3, o3, r3⟩ := k5.2.2 0 _ _ rfl rfl
     obtain ⟨p4, c4, y4, he4, o4, r4⟩ := k5.2.2 1 _ _ rfl rfl
     dsimp only at he3 he4 o3 o4 r3 r4
     have hrep3 : rep (fun b => v1.heap.size < b) w7 (.sl l.length (l.map dS)) x1 := rep.own o3 (reps.move Kp.refl (fun b _ h => by have := h.1; omega) _ _ r3) (fun g hg => by have := (o3.lt g hg).1; omega)
     have hrep4 : rep (fun b => v1.heap.size < b) w7 (.sl q.length (Cd.css q)) x2 := rep.own o4 (reps.move Kp.refl (fun b _ h => by have := h.1; omega) _ _ r4) (fun g hg => by have := (o4.lt g hg).1; omega)
     subst he3 he4
     have HC1 := Hid.intro k4
     have HF7 := HF.out.trans (hb7.fr HKr.out)
     have HR7 := Hid.intro ((HF7.block _ (.inr rfl)).trans HR1.out)
     unfold qwA at HC1
     go_wp2_with (first | (with_reducible refine (id (?_ : wpList _ _ _ (Oper.mk _ (Op.load _ _) _ _ _ _ :: _) _ _)); refine wpList_load_cells rfl _ _ rfl _ rfl _ _ _ HC1.out Tryz.underlying63 infoQuery rfl ?_) | (with_reducible refine (id (?_ : wpList _ _ _ (Oper.mk _ (Op.store _ _ _) _ _ _ _ :: _) _ _)); refine wpList_store_row rfl _ _ _ rfl _ _ rfl rfl _ _ HR7.out infoQuery rfl rfl (by simp [Value.oneCell']) ?_))
     rw [← HE.out]
     refine ret_cells rfl rfl (setRow_heap _ _ _ _ _ _ HR7.out) Tryz.underlying63 infoQuery rfl rfl (Post.ok ((HB.out.fra ((HF1.out.trans HF7).mono fun b hb => .inl hb)).row (by omega) _) (by simp; omega) (hp7.row (by omega) _) ?_)
     have hkk : Kp (fun b => v1.heap.size < b) w7 (w7.setRow (w.heap.size + 1) #[.string s, .slice p3 l.length c3, .slice p4 q.length c4]) := ⟨by simp, fun b hb _ o => World.cell?_of_block (a := ⟨b, o, none⟩) (setRow_other _ _ _ _ (by simp only; omega))⟩
     exact ⟨_, _, rfl, rep.move hkk (fun b _ h => by omega) _ _ hrep3, rep.move hkk (fun b _ h => by omega) _ _ hrep4⟩
    | false =>
     have HNo := HNo r' wr HQ.out k0
     have HE : Hid (((condM 31 0 r').bd fun x r => untilL ⟨#[101, 110, 100]⟩ (condM 31 0) f (q ++ [x]) r).bd (fun l' r => Rs.ok (⟨s, l, l'⟩ : Qu) r) = (untilL ⟨#[101, 110, 100]⟩ (condM 31 0) r2.length [] r2).bd (fun l' r => Rs.ok (⟨s, l, l'⟩ : Qu) r)) := by
      have := HE.out
      rw [untilL, if_neg (by simp [k0])] at this
      exact this
     clear k0 HYes
     have HT := HC r'
     cases hm2 : condM 31 0 r' with
     | bad q2 =>
      rw [show condM (31 - 0) 0 r' = condM 31 0 r' from rfl, hm2] at HT
      rw [hm2, bd_bad, bd_bad] at HE
      clear hm2
      go_wp2_with fail
      refine HNo.out.mono ?_
      rintro e wc ⟨rfl, hb7⟩
      have HP := Hid.intro (HQ.out.via hb7)
      have HFc := Hid.intro (HF.out.trans ((Bt.below hb7).fr HKr.out))
      have HJc := Hid.intro (QwJ.stb _ _ _ _ _ _ _ _ _ _ (fun b => (b < w.heap.size ∧ b ≠ B) ∨ b = w.heap.size + 1) HJ.out (Bt.below hb7) (fun _ h => .inl h))
      have HKc := Hid.intro (HKn.out.up HFc.out.size)
      have HX := Hid.intro HJc.out.1
      have h2 := HJc.out.2.1
      have h3 := HJc.out.2.2.1
      have d1 := HX.out.2.2.1
      obtain ⟨hBC, hCn, hnw, vs, he, zrows, hpa⟩ := HJc.out.2.2.2
      obtain ⟨x1, x2, rfl⟩ : ∃ x y, vs = [x, y] := by have := zrows.1; simp only [qwR, List.length_cons, List.length_nil] at this; match vs, this with | [x, y], _ => exact ⟨x, y, rfl⟩
      obtain ⟨p0, c0, xs0, hv0, -, -⟩ := zrows.2.2 1 _ _ rfl rfl
      dsimp only at hv0
      subst hv0
      have hCK : K ≤ v1.heap.size := by omega
      have e0 : wc.cell? ⟨v1.heap.size, 2, none⟩ = some (.slice p0 q.length c0) := by rw [(heap_cell he 2).1]; rfl
      have hEw : v1.heap.size < wc.heap.size := by omega
      go_wp2_with fail
      refine wp_region_held_drew (S := fun w' => w'.cell? ⟨w.heap.size, 0, none⟩ = some (.pointer (some ⟨B, 0, none⟩))) hmo d1 (fun hS => ?_)
      refine tq 0 13 (.pointer (some ⟨v1.heap.size, 2, none⟩)) hS ?_
      simp only [n3]
      refine tq 2 15 (.pointer (some ⟨B, 0, none⟩)) hS ?_
      simp only [n3]
      refine wpAnyH_ready (rs := [1, 3, 5]) (by kernel_rfl) (by simp) ?_
      refine AllReadyH.cons rfl (fun K' hK => ?_) (AllReadyH.cons rfl (fun K' hK => ?_) (AllReadyH.cons rfl (fun K' hK => ?_) AllReadyH.nil))
      ·go_simp
       refine hK.out _ _ ((by first | exact hS | exact (hx4.bt ((Bt.refl B w4).alloc _)).2.2.1 | exact hx4.2.2.1 | exact (HX.out.bt ((Bt.refl B _).drew.alloc _)).2.2.1 | exact (HX.out.bt (((Bt.refl B _).alloc _).drew)).2.2.1)) (fun hS => ?_)
       clear hK K'
       (try simp only [Act.put, n3])
       refine tq 4 17 (.int .i64 (q.length : Int)) hS ?_
       simp only [n3]
       refine on2 3 5 rfl (fun K' hK => ?_) rfl (fun K' hK => ?_)
       ·go_simp
        refine (HT _ (by first | exact HP.out.via (Below.refl _ _).drew | exact HP.out.via (below_al (Below.refl _ _).drew _) | exact HP.out.via (below_al (Below.refl _ _) _).drew)).out.mono ?_
        rintro e w4 ⟨hb4, rfl⟩
        have hbt4 : Bt B wc w4 := Bt.trans (by first | exact (Bt.refl B _).drew | exact (Bt.refl B _).drew.alloc _ | exact ((Bt.refl B _).alloc _).drew) hb4
        refine ⟨rfl, HB.out.fra (((HF1.out.trans HFc.out).trans (hbt4.fr HKc.out)).mono fun b hb => .inl hb), ?_⟩
        rw [← HE.out]
       ·go_simp
        go_wp2_with fail
        refine hK.out _ _ ((by first | exact hS | exact (hx4.bt ((Bt.refl B w4).alloc _)).2.2.1 | exact hx4.2.2.1 | exact (HX.out.bt ((Bt.refl B _).drew.alloc _)).2.2.1 | exact (HX.out.bt (((Bt.refl B _).alloc _).drew)).2.2.1)) (fun hS => ?_)
        clear hK K'
        (try simp only [Act.put, n3])
        refine on1 3 rfl (fun K' hK => ?_)
        go_simp
        refine (HT _ (by first | exact HP.out.via (Below.refl _ _).drew | exact HP.out.via (below_al (Below.refl _ _).drew _) | exact HP.out.via (below_al (Below.refl _ _) _).drew)).out.mono ?_
        rintro e w4 ⟨hb4, rfl⟩
        have hbt4 : Bt B wc w4 := Bt.trans (by first | exact (Bt.refl B _).drew | exact (Bt.refl B _).drew.alloc _ | exact ((Bt.refl B _).alloc _).drew) hb4
        refine ⟨rfl, HB.out.fra (((HF1.out.trans HFc.out).trans (hbt4.fr HKc.out)).mono fun b hb => .inl hb), ?_⟩
        rw [← HE.out]
      ·go_simp
       refine (HT _ (by first | exact HP.out.via (Below.refl _ _).drew | exact HP.out.via (below_al (Below.refl _ _).drew _) | exact HP.out.via (below_al (Below.refl _ _) _).drew)).out.mono ?_
       rintro e w4 ⟨hb4, rfl⟩
       have hbt4 : Bt B wc w4 := Bt.trans (by first | exact (Bt.refl B _).drew | exact (Bt.refl B _).drew.alloc _ | exact ((Bt.refl B _).alloc _).drew) hb4
       refine ⟨rfl, HB.out.fra (((HF1.out.trans HFc.out).trans (hbt4.fr HKc.out)).mono fun b hb => .inl hb), ?_⟩
       rw [← HE.out]
      ·go_simp
       go_wp2_with fail
       refine hK.out _ _ ((by first | exact hS | exact (hx4.bt ((Bt.refl B w4).alloc _)).2.2.1 | exact hx4.2.2.1 | exact (HX.out.bt ((Bt.refl B _).drew.alloc _)).2.2.1 | exact (HX.out.bt (((Bt.refl B _).alloc _).drew)).2.2.1)) (fun hS => ?_)
       clear hK K'
       (try simp only [Act.put, n3])
       refine on2 1 3 rfl (fun K' hK => ?_) rfl (fun K' hK => ?_)
       ·go_simp
        refine hK.out _ _ ((by first | exact hS | exact (hx4.bt ((Bt.refl B w4).alloc _)).2.2.1 | exact hx4.2.2.1 | exact (HX.out.bt ((Bt.refl B _).drew.alloc _)).2.2.1 | exact (HX.out.bt (((Bt.refl B _).alloc _).drew)).2.2.1)) (fun hS => ?_)
        clear hK K'
        (try simp only [Act.put, n3])
        refine tq 4 17 (.int .i64 (q.length : Int)) hS ?_
        simp only [n3]
        refine on1 3 rfl (fun K' hK => ?_)
        go_simp
        refine (HT _ (by first | exact HP.out.via (Below.refl _ _).drew | exact HP.out.via (below_al (Below.refl _ _).drew _) | exact HP.out.via (below_al (Below.refl _ _) _).drew)).out.mono ?_
        rintro e w4 ⟨hb4, rfl⟩
        have hbt4 : Bt B wc w4 := Bt.trans (by first | exact (Bt.refl B _).drew | exact (Bt.refl B _).drew.alloc _ | exact ((Bt.refl B _).alloc _).drew) hb4
        refine ⟨rfl, HB.out.fra (((HF1.out.trans HFc.out).trans (hbt4.fr HKc.out)).mono fun b hb => .inl hb), ?_⟩
        rw [← HE.out]
       ·go_simp
        refine (HT _ (by first | exact HP.out.via (Below.refl _ _).drew | exact HP.out.via (below_al (Below.refl _ _).drew _) | exact HP.out.via (below_al (Below.refl _ _) _).drew)).out.mono ?_
        rintro e w4 ⟨hb4, rfl⟩
        have hbt4 : Bt B wc w4 := Bt.trans (by first | exact (Bt.refl B _).drew | exact (Bt.refl B _).drew.alloc _ | exact ((Bt.refl B _).alloc _).drew) hb4
        refine ⟨rfl, HB.out.fra (((HF1.out.trans HFc.out).trans (hbt4.fr HKc.out)).mono fun b hb => .inl hb), ?_⟩
        rw [← HE.out]
     | ok t r3 =>
      rw [show condM (31 - 0) 0 r' = condM 31 0 r' from rfl, hm2] at HT
      rw [hm2, bd_ok] at HE
      clear hm2
      go_wp2_with fail
      refine HNo.out.mono ?_
      rintro e wc ⟨rfl, hb7⟩
      have HP := Hid.intro (HQ.out.via hb7)
      have HFc := Hid.intro (HF.out.trans ((Bt.below hb7).fr HKr.out))
      have HJc := Hid.intro (QwJ.stb _ _ _ _ _ _ _ _ _ _ (fun b => (b < w.heap.size ∧ b ≠ B) ∨ b = w.heap.size + 1) HJ.out (Bt.below hb7) (fun _ h => .inl h))
      have HKc := Hid.intro (HKn.out.up HFc.out.size)
      have HX := Hid.intro HJc.out.1
      have h2 := HJc.out.2.1
      have h3 := HJc.out.2.2.1
      have d1 := HX.out.2.2.1
      obtain ⟨hBC, hCn, hnw, vs, he, zrows, hpa⟩ := HJc.out.2.2.2
      obtain ⟨x1, x2, rfl⟩ : ∃ x y, vs = [x, y] := by have := zrows.1; simp only [qwR, List.length_cons, List.length_nil] at this; match vs, this with | [x, y], _ => exact ⟨x, y, rfl⟩
      obtain ⟨p0, c0, xs0, hv0, -, -⟩ := zrows.2.2 1 _ _ rfl rfl
      dsimp only at hv0
      subst hv0
      have hCK : K ≤ v1.heap.size := by omega
      have e0 : wc.cell? ⟨v1.heap.size, 2, none⟩ = some (.slice p0 q.length c0) := by rw [(heap_cell he 2).1]; rfl
      have hEw : v1.heap.size < wc.heap.size := by omega
      go_wp2_with fail
      refine wp_region_held_drew (S := fun w' => w'.cell? ⟨w.heap.size, 0, none⟩ = some (.pointer (some ⟨B, 0, none⟩))) hmo d1 (fun hS => ?_)
      refine tq 0 13 (.pointer (some ⟨v1.heap.size, 2, none⟩)) hS ?_
      simp only [n3]
      refine tq 2 15 (.pointer (some ⟨B, 0, none⟩)) hS ?_
      simp only [n3]
      refine share (fun z W us => Fr (fun b => (b < w.heap.size ∧ b ≠ B) ∨ b = w.heap.size + 1) wc W ∧ PAt K W B r3 0 ∧ RowsAt (v1.heap.size + 1) (qwR l q) [x1, (.slice p0 q.length c0)] W ∧ W.heap[v1.heap.size]? = some (.cells (qwA s [x1, (.slice p0 q.length c0)]) 63 (0, 0)) ∧ us.length = 19 ∧ (∀ u ∈ us, u.oneCell' = true) ∧ reps (offR (v1.heap.size + 1) [x1, (.slice p0 q.length c0)]) W t.cs us ∧ W.heap[z]? = some (.cells #[.int .i64 0, .string ⟨#[]⟩, .string ⟨#[]⟩, .slice none 0 0, .slice none 0 0, .slice none 0 0, .slice none 0 0, .slice none 0 0, .int .i64 0, .string ⟨#[]⟩, .int .i64 0, .bool false, .int .i64 0, .string ⟨#[]⟩, .slice none 0 0, .slice none 0 0, .string ⟨#[]⟩, .string ⟨#[]⟩, .slice none 0 0] 96 (0, 0)) ∧ wc.heap.size ≤ W.heap.size ∧ r3.length ≤ r'.length - 1 ∧ Bx B w.heap.size (.pointer (some ⟨B, 0, none⟩)) W) 5 #[true, true, true, true, true, true, false, false, false, false, false] (fun z us => [(14, .slice p0 q.length c0), (16, .agg us.toArray), (17, .int .i64 (q.length : Int)), (18, .slice (some ⟨z, 0, none⟩) 1 1)]) ?_ (fun HT5 => ?_)
      ·rintro z W us ⟨zf, zp, zr, zh, zl, zo, zu, zz, zs, zlf, zx⟩
       simp only [putL, List.foldl, Act.put, List.setIfInBounds_toArray, List.set_cons_succ, List.set_cons_zero]
       obtain ⟨pq, cq, xs, hveq, hown, hxs⟩ := zr.2.2 1 _ _ rfl rfl
       dsimp only at hveq hown hxs
       clear hveq
       have hCW : v1.heap.size < W.heap.size := by omega
       have hKn := HKc.out.up zs
       refine on1 6 rfl (fun K' hK => ?_)
       rw [if_pos (by rfl)]
       refine wp_append_own _ _ 48 rfl (v1.heap.size + 1) 96 i0 _ 19 328 Tryz.underlying48 hi hz0 hz1 hz2 rfl (by decide) _ _ _ rfl hown ⟨z, 0, none⟩ 1 1 [.int .i64 0, .string ⟨#[]⟩, .string ⟨#[]⟩, .slice none 0 0, .slice none 0 0, .slice none 0 0, .slice none 0 0, .slice none 0 0, .int .i64 0, .string ⟨#[]⟩, .int .i64 0, .bool false, .int .i64 0, .string ⟨#[]⟩, .slice none 0 0, .slice none 0 0, .string ⟨#[]⟩, .string ⟨#[]⟩, .slice none 0 0] rfl rfl (fun j u hj => by rw [addr_add, Nat.zero_add, (heap_cell zz j).1, ← hj]; simp) (by simp [Value.oneCell']) (by unfold maxLen; omega) (by omega) (by omega) (fun sv' w5 hown5 hgr5 hat5 => ?_)
       obtain ⟨g5, k5, rfl⟩ := ownsRow_succ hown5
       have hch5 : Chg v1.heap.size _ W w5 := Chg.of hgr5
       have e5 : w5.heap[v1.heap.size]? = some (.cells (qwA s [x1, (.slice p0 q.length c0)]) 63 (0, 0)) := (hgr5.block v1.heap.size hCW (own_below hown (.inl hCn))).trans zh
       have c5 : w5.cell? ⟨v1.heap.size, 2, none⟩ = some (.slice p0 q.length c0) := by rw [(heap_cell e5 2).1]; exact rfl
       have f5 : w5.frozen? ⟨v1.heap.size, 2, none⟩ = false := (heap_cell e5 2).2
       have hKg : ∀ g, (Value.slice p0 q.length c0).ownBlock = some g → K ≤ g := fun g hg => by have := (hown.lt g hg).1; omega
       have hx5 := zx.chg hch5 h3 (own_below hown (.inl h2))
       refine hK.out _ _ (hx5.2.2.1) (fun hS => ?_)
       clear hK K'
       (try simp only [Act.put, n3])
       refine tp 7 20 (.pointer (some ⟨g5, q.length * 19, none⟩)) ⟨_, rfl, rfl, Or.inl ⟨by rfl, fun w hSw => by go_simp; intro hh; exact absurd hh (by omega)⟩⟩ hS ?_
       simp only [n3]
       refine tq 9 21 (.pointer (some ⟨v1.heap.size, 2, none⟩)) hS ?_
       simp only [n3]
       have hxl : xs.length = q.length * 19 := hown.1
       have hgne : g5 ≠ v1.heap.size := by have := (hown5.lt g5 rfl).1; omega
       have hgs : some g5 = (Value.slice p0 q.length c0).ownBlock ∨ W.heap.size ≤ g5 := by rcases hat5 with e | e; exact .inl e; cases e; exact .inr (Nat.le_refl _)
       have hth : ∀ (w6 : World), w6.ownsRow (v1.heap.size + 1) 96 19 (.slice (some ⟨g5, 0, none⟩) (q.length + 1) k5) (q.length + 1) (xs ++ [.int .i64 0, .string ⟨#[]⟩, .string ⟨#[]⟩, .slice none 0 0, .slice none 0 0, .slice none 0 0, .slice none 0 0, .slice none 0 0, .int .i64 0, .string ⟨#[]⟩, .int .i64 0, .bool false, .int .i64 0, .string ⟨#[]⟩, .slice none 0 0, .slice none 0 0, .string ⟨#[]⟩, .string ⟨#[]⟩, .slice none 0 0]) → w6.there g5 (q.length * 19) us.toArray.size := fun w6 h6 j hj => ⟨by rw [List.size_toArray, zl] at hj; rw [h6.cellAt (q.length * 19 + j) (by omega), List.getElem?_eq_getElem (by rw [List.length_append, hxl]; simp; omega)]; rfl, h6.frozenAt _⟩
       refine on2 8 10 rfl (fun K' hK => ?_) rfl (fun K' hK => ?_)
       ·have zl8 : us.toArray.size = 19 := by simpa using zl
        rw [if_pos (by rfl)]
        refine wp_store_mid _ _ _ rfl g5 (q.length * 19) us.toArray rfl rfl (hth _ hown5) (by rw [zl8]; kernel_rfl) (all_oneCell_toArray zo) ?_
        have hch6 := Chg.setCells (ow := (Value.slice p0 q.length c0).ownBlock) hgs us (q.length * 19) _ hch5
        have hown6 := own_last us _ xs _ hown5 (by rw [zl]; rfl)
        rw [hxl] at hown6
        have e6 := (heap_setCells us g5 (q.length * 19) w5 (Ne.symm hgne)).trans e5
        have c6 : (w5.setCells g5 (q.length * 19) us).cell? ⟨v1.heap.size, 2, none⟩ = some (.slice p0 q.length c0) := by rw [(heap_cell e6 2).1]; exact rfl
        have f6 : (w5.setCells g5 (q.length * 19) us).frozen? ⟨v1.heap.size, 2, none⟩ = false := (heap_cell e6 2).2
        have hx6 := zx.chg hch6 h3 (own_below hown (.inl h2))
        (try simp only [])
        refine hK.out _ _ (hx6.2.2.1) (fun hS => ?_)
        clear hK K'
        (try simp only [Act.put, n3])
        refine on1 10 rfl (fun K' hK => ?_)
        go_simp
        go_wp2_with fail
        have hch7 := hch6.set (p := ⟨v1.heap.size, 2, none⟩) (.inl rfl) (.slice (some ⟨g5, 0, none⟩) (q.length + 1) k5)
        have hown7 := own_setC 2 hown6 hCn (.slice (some ⟨g5, 0, none⟩) (q.length + 1) k5)
        have e7 := heap_put (i := 2) e6 (.slice (some ⟨g5, 0, none⟩) (q.length + 1) k5)
        have hx7 := zx.chg hch7 h3 (own_below hown (.inl h2))
        refine hK.out _ _ (hx7.2.2.1) (fun hS => ?_)
        clear hK K'
        (try simp only [n3])
        obtain ⟨hJ6, hF6⟩ := JR.push (A := qwA s) (T := 63) hBC hCn (by omega) zr hpa hKn 1 rfl rfl hxs zu rfl hown7 hch7 hat5 (by rw [e7, qwA_set]; rfl)
        have hp6 := zp.chg hch7 hCK hKg
        refine wpAnyH_done (by kernel_rfl) ?_ _
        have hr5 := hp6.rlen
        go_wp2_with fail
        go_roundw
        case rel => exact ⟨q ++ [t], r3, f, Hid.intro ((HFc.out.trans zf).trans hF6), Hid.intro ⟨hx7, h2, h3, by simpa [qwR, Rd.up, Cd.css_snoc] using hJ6⟩, Hid.intro hp6, by simp; omega, by omega, by omega, HE⟩
        case measure => omega
       ·have zl8 : us.toArray.size = 19 := by simpa using zl
        go_simp
        go_wp2_with fail
        have hch6 := hch5.set (p := ⟨v1.heap.size, 2, none⟩) (.inl rfl) (.slice (some ⟨g5, 0, none⟩) (q.length + 1) k5)
        have hown6 := own_setC 2 hown5 hCn (.slice (some ⟨g5, 0, none⟩) (q.length + 1) k5)
        have e6 := heap_put (i := 2) e5 (.slice (some ⟨g5, 0, none⟩) (q.length + 1) k5)
        have hx6 := zx.chg hch6 h3 (own_below hown (.inl h2))
        refine hK.out _ _ (hx6.2.2.1) (fun hS => ?_)
        clear hK K'
        (try simp only [n3])
        refine on1 8 rfl (fun K' hK => ?_)
        rw [if_pos (by rfl)]
        refine wp_store_mid _ _ _ rfl g5 (q.length * 19) us.toArray rfl rfl (hth _ hown6) (by rw [zl8]; kernel_rfl) (all_oneCell_toArray zo) ?_
        have hch7 := Chg.setCells (ow := (Value.slice p0 q.length c0).ownBlock) hgs us (q.length * 19) _ hch6
        have hown7 := own_last us _ xs _ hown6 (by rw [zl]; rfl)
        rw [hxl] at hown7
        have e7 := (heap_setCells us g5 (q.length * 19) _ (Ne.symm hgne)).trans e6
        (try simp only [])
        have hx7 := zx.chg hch7 h3 (own_below hown (.inl h2))
        refine hK.out _ _ (hx7.2.2.1) (fun hS => ?_)
        clear hK K'
        (try simp only [Act.put, n3])
        obtain ⟨hJ6, hF6⟩ := JR.push (A := qwA s) (T := 63) hBC hCn (by omega) zr hpa hKn 1 rfl rfl hxs zu rfl hown7 hch7 hat5 (by rw [e7, qwA_set]; rfl)
        have hp6 := zp.chg hch7 hCK hKg
        refine wpAnyH_done (by kernel_rfl) ?_ _
        have hr5 := hp6.rlen
        go_wp2_with fail
        go_roundw
        case rel => exact ⟨q ++ [t], r3, f, Hid.intro ((HFc.out.trans zf).trans hF6), Hid.intro ⟨hx7, h2, h3, by simpa [qwR, Rd.up, Cd.css_snoc] using hJ6⟩, Hid.intro hp6, by simp; omega, by omega, by omega, HE⟩
        case measure => omega
      ·(try simp only [putL, List.foldl, Act.put, List.setIfInBounds_toArray, List.set_cons_succ, List.set_cons_zero] at HT5)
       refine wpAnyH_ready (rs := [1, 3, 5]) (by kernel_rfl) (by simp) ?_
       refine AllReadyH.cons rfl (fun K' hK => ?_) (AllReadyH.cons rfl (fun K' hK => ?_) (AllReadyH.cons rfl (fun K' hK => ?_) AllReadyH.nil))
       ·go_simp
        refine hK.out _ _ ((by first | exact hS | exact (hx4.bt ((Bt.refl B w4).alloc _)).2.2.1 | exact hx4.2.2.1 | exact (HX.out.bt ((Bt.refl B _).drew.alloc _)).2.2.1 | exact (HX.out.bt (((Bt.refl B _).alloc _).drew)).2.2.1)) (fun hS => ?_)
        clear hK K'
        (try simp only [Act.put, n3])
        refine tq 4 17 (.int .i64 (q.length : Int)) hS ?_
        simp only [n3]
        refine on2 3 5 rfl (fun K' hK => ?_) rfl (fun K' hK => ?_)
        ·go_simp
         refine (HT _ (by first | exact HP.out.via (Below.refl _ _).drew | exact HP.out.via (below_al (Below.refl _ _).drew _) | exact HP.out.via (below_al (Below.refl _ _) _).drew)).out.mono ?_
         rintro e w4 ⟨hb4, hl4, hp4, v4, rfl, y3, y4, y5, y6, y7, y14, y15, y18, rfl, ⟨g3, g4, g5x, g6, g7⟩, g14, g15, g18⟩
         have hbt4 : Bt B wc w4 := Bt.trans (by first | exact (Bt.refl B _).drew | exact (Bt.refl B _).drew.alloc _ | exact ((Bt.refl B _).alloc _).drew) hb4
         have hr4 := zrows.bt hbt4 (by omega)
         have hC4 := row_bt hbt4 (by omega) he
         have hs4 : wc.heap.size ≤ w4.heap.size := hbt4.size
         have hx4 := HX.out.bt hbt4
         go_wp2_with fail
         refine hK.out _ _ ((by first | exact hS | exact (hx4.bt ((Bt.refl B w4).alloc _)).2.2.1 | exact hx4.2.2.1 | exact (HX.out.bt ((Bt.refl B _).drew.alloc _)).2.2.1 | exact (HX.out.bt (((Bt.refl B _).alloc _).drew)).2.2.1)) (fun hS => ?_)
         clear hK K'
         (try simp only [Act.put, n3])
         refine on1 5 rfl (fun K' hK => ?_)
         go_simp
         go_wp2_with fail
         refine hK.out _ _ ((by first | exact hS | exact (hx4.bt ((Bt.refl B w4).alloc _)).2.2.1 | exact hx4.2.2.1 | exact (HX.out.bt ((Bt.refl B _).drew.alloc _)).2.2.1 | exact (HX.out.bt (((Bt.refl B _).alloc _).drew)).2.2.1)) (fun hS => ?_)
         clear hK K'
         (try simp only [Act.put, n3])
         have hbt5 : Bt B wc (w4.alloc (.cells #[.int .i64 0, .string ⟨#[]⟩, .string ⟨#[]⟩, .slice none 0 0, .slice none 0 0, .slice none 0 0, .slice none 0 0, .slice none 0 0, .int .i64 0, .string ⟨#[]⟩, .int .i64 0, .bool false, .int .i64 0, .string ⟨#[]⟩, .slice none 0 0, .slice none 0 0, .string ⟨#[]⟩, .string ⟨#[]⟩, .slice none 0 0] 96)) := hbt4.alloc _
         refine HT5 w4.heap.size (w4.alloc (.cells #[.int .i64 0, .string ⟨#[]⟩, .string ⟨#[]⟩, .slice none 0 0, .slice none 0 0, .slice none 0 0, .slice none 0 0, .slice none 0 0, .int .i64 0, .string ⟨#[]⟩, .int .i64 0, .bool false, .int .i64 0, .string ⟨#[]⟩, .slice none 0 0, .slice none 0 0, .string ⟨#[]⟩, .string ⟨#[]⟩, .slice none 0 0] 96)) [.int .i64 t.k, .string t.v, .string t.c, y3, y4, y5, y6, y7, .int .i64 t.e.op, .string t.e.t, .int .i64 t.e.v.k, .bool t.e.v.b, .int .i64 t.e.v.i, .string t.e.v.s, y14, y15, .string t.fn, .string t.name, y18] ⟨hbt5.fr HKc.out, hp4.via (below_al (Below.refl _ _) _), zrows.bt hbt5 (by omega), row_bt hbt5 (by omega) he, rfl, (CdV.reps (c := t) ⟨y3, y4, y5, y6, y7, y14, y15, y18, rfl, ⟨g3, g4, g5x, g6, g7⟩, g14, g15, g18⟩).1.ones, reps.move (Kp.alloc _ _) (fun b _ h => zrows.off hnw b (by first | exact h | exact Nat.le_trans (by simp) h)) _ _ ((CdV.reps (c := t) ⟨y3, y4, y5, y6, y7, y14, y15, y18, rfl, ⟨g3, g4, g5x, g6, g7⟩, g14, g15, g18⟩).1), heap_alloc_new w4 _, hbt5.size, hl4, HX.out.bt hbt5⟩
        ·go_simp
         go_wp2_with fail
         refine hK.out _ _ ((by first | exact hS | exact (hx4.bt ((Bt.refl B w4).alloc _)).2.2.1 | exact hx4.2.2.1 | exact (HX.out.bt ((Bt.refl B _).drew.alloc _)).2.2.1 | exact (HX.out.bt (((Bt.refl B _).alloc _).drew)).2.2.1)) (fun hS => ?_)
         clear hK K'
         (try simp only [Act.put, n3])
         refine on1 3 rfl (fun K' hK => ?_)
         go_simp
         refine (HT _ (by first | exact HP.out.via (Below.refl _ _).drew | exact HP.out.via (below_al (Below.refl _ _).drew _) | exact HP.out.via (below_al (Below.refl _ _) _).drew)).out.mono ?_
         rintro e w4 ⟨hb4, hl4, hp4, v4, rfl, y3, y4, y5, y6, y7, y14, y15, y18, rfl, ⟨g3, g4, g5x, g6, g7⟩, g14, g15, g18⟩
         have hbt4 : Bt B wc w4 := Bt.trans (by first | exact (Bt.refl B _).drew | exact (Bt.refl B _).drew.alloc _ | exact ((Bt.refl B _).alloc _).drew) hb4
         have hr4 := zrows.bt hbt4 (by omega)
         have hC4 := row_bt hbt4 (by omega) he
         have hs4 : wc.heap.size ≤ w4.heap.size := hbt4.size
         have hx4 := HX.out.bt hbt4
         go_wp2_with fail
         refine hK.out _ _ ((by first | exact hS | exact (hx4.bt ((Bt.refl B w4).alloc _)).2.2.1 | exact hx4.2.2.1 | exact (HX.out.bt ((Bt.refl B _).drew.alloc _)).2.2.1 | exact (HX.out.bt (((Bt.refl B _).alloc _).drew)).2.2.1)) (fun hS => ?_)
         clear hK K'
         (try simp only [Act.put, n3])
         refine HT5 wc.heap.size w4 [.int .i64 t.k, .string t.v, .string t.c, y3, y4, y5, y6, y7, .int .i64 t.e.op, .string t.e.t, .int .i64 t.e.v.k, .bool t.e.v.b, .int .i64 t.e.v.i, .string t.e.v.s, y14, y15, .string t.fn, .string t.name, y18] ⟨hbt4.fr HKc.out, hp4, hr4, hC4, rfl, (CdV.reps (c := t) ⟨y3, y4, y5, y6, y7, y14, y15, y18, rfl, ⟨g3, g4, g5x, g6, g7⟩, g14, g15, g18⟩).1.ones, reps.move Kp.refl (fun b _ h => zrows.off hnw b (by first | exact h | exact Nat.le_trans (by simp) h)) _ _ ((CdV.reps (c := t) ⟨y3, y4, y5, y6, y7, y14, y15, y18, rfl, ⟨g3, g4, g5x, g6, g7⟩, g14, g15, g18⟩).1), row_bt hb4 (by omega) (heap_alloc_new wc _), hs4, hl4, hx4⟩
       ·go_simp
        refine (HT _ (by first | exact HP.out.via (Below.refl _ _).drew | exact HP.out.via (below_al (Below.refl _ _).drew _) | exact HP.out.via (below_al (Below.refl _ _) _).drew)).out.mono ?_
        rintro e w4 ⟨hb4, hl4, hp4, v4, rfl, y3, y4, y5, y6, y7, y14, y15, y18, rfl, ⟨g3, g4, g5x, g6, g7⟩, g14, g15, g18⟩
        have hbt4 : Bt B wc w4 := Bt.trans (by first | exact (Bt.refl B _).drew | exact (Bt.refl B _).drew.alloc _ | exact ((Bt.refl B _).alloc _).drew) hb4
        have hr4 := zrows.bt hbt4 (by omega)
        have hC4 := row_bt hbt4 (by omega) he
        have hs4 : wc.heap.size ≤ w4.heap.size := hbt4.size
        have hx4 := HX.out.bt hbt4
        go_wp2_with fail
        refine hK.out _ _ ((by first | exact hS | exact (hx4.bt ((Bt.refl B w4).alloc _)).2.2.1 | exact hx4.2.2.1 | exact (HX.out.bt ((Bt.refl B _).drew.alloc _)).2.2.1 | exact (HX.out.bt (((Bt.refl B _).alloc _).drew)).2.2.1)) (fun hS => ?_)
        clear hK K'
        (try simp only [Act.put, n3])
        refine on2 1 5 rfl (fun K' hK => ?_) rfl (fun K' hK => ?_)
        ·have e04 : w4.cell? ⟨v1.heap.size, 2, none⟩ = some (.slice p0 q.length c0) := by rw [(heap_cell hC4 2).1]; exact rfl
         have hEw4 : v1.heap.size < w4.heap.size := by omega
         go_simp
         refine hK.out _ _ ((by first | exact hS | exact (hx4.bt ((Bt.refl B w4).alloc _)).2.2.1 | exact hx4.2.2.1 | exact (HX.out.bt ((Bt.refl B _).drew.alloc _)).2.2.1 | exact (HX.out.bt (((Bt.refl B _).alloc _).drew)).2.2.1)) (fun hS => ?_)
         clear hK K'
         (try simp only [Act.put, n3])
         refine tq 4 17 (.int .i64 (q.length : Int)) hS ?_
         simp only [n3]
         refine on1 5 rfl (fun K' hK => ?_)
         go_simp
         go_wp2_with fail
         refine hK.out _ _ ((by first | exact hS | exact (hx4.bt ((Bt.refl B w4).alloc _)).2.2.1 | exact hx4.2.2.1 | exact (HX.out.bt ((Bt.refl B _).drew.alloc _)).2.2.1 | exact (HX.out.bt (((Bt.refl B _).alloc _).drew)).2.2.1)) (fun hS => ?_)
         clear hK K'
         (try simp only [Act.put, n3])
         have hbt5 : Bt B wc (w4.alloc (.cells #[.int .i64 0, .string ⟨#[]⟩, .string ⟨#[]⟩, .slice none 0 0, .slice none 0 0, .slice none 0 0, .slice none 0 0, .slice none 0 0, .int .i64 0, .string ⟨#[]⟩, .int .i64 0, .bool false, .int .i64 0, .string ⟨#[]⟩, .slice none 0 0, .slice none 0 0, .string ⟨#[]⟩, .string ⟨#[]⟩, .slice none 0 0] 96)) := hbt4.alloc _
         refine HT5 w4.heap.size (w4.alloc (.cells #[.int .i64 0, .string ⟨#[]⟩, .string ⟨#[]⟩, .slice none 0 0, .slice none 0 0, .slice none 0 0, .slice none 0 0, .slice none 0 0, .int .i64 0, .string ⟨#[]⟩, .int .i64 0, .bool false, .int .i64 0, .string ⟨#[]⟩, .slice none 0 0, .slice none 0 0, .string ⟨#[]⟩, .string ⟨#[]⟩, .slice none 0 0] 96)) [.int .i64 t.k, .string t.v, .string t.c, y3, y4, y5, y6, y7, .int .i64 t.e.op, .string t.e.t, .int .i64 t.e.v.k, .bool t.e.v.b, .int .i64 t.e.v.i, .string t.e.v.s, y14, y15, .string t.fn, .string t.name, y18] ⟨hbt5.fr HKc.out, hp4.via (below_al (Below.refl _ _) _), zrows.bt hbt5 (by omega), row_bt hbt5 (by omega) he, rfl, (CdV.reps (c := t) ⟨y3, y4, y5, y6, y7, y14, y15, y18, rfl, ⟨g3, g4, g5x, g6, g7⟩, g14, g15, g18⟩).1.ones, reps.move (Kp.alloc _ _) (fun b _ h => zrows.off hnw b (by first | exact h | exact Nat.le_trans (by simp) h)) _ _ ((CdV.reps (c := t) ⟨y3, y4, y5, y6, y7, y14, y15, y18, rfl, ⟨g3, g4, g5x, g6, g7⟩, g14, g15, g18⟩).1), heap_alloc_new w4 _, hbt5.size, hl4, HX.out.bt hbt5⟩
        ·go_simp
         go_wp2_with fail
         refine hK.out _ _ ((by first | exact hS | exact (hx4.bt ((Bt.refl B w4).alloc _)).2.2.1 | exact hx4.2.2.1 | exact (HX.out.bt ((Bt.refl B _).drew.alloc _)).2.2.1 | exact (HX.out.bt (((Bt.refl B _).alloc _).drew)).2.2.1)) (fun hS => ?_)
         clear hK K'
         (try simp only [Act.put, n3])
         refine on1 1 rfl (fun K' hK => ?_)
         have e04 : w4.cell? ⟨v1.heap.size, 2, none⟩ = some (.slice p0 q.length c0) := by rw [(heap_cell hC4 2).1]; exact rfl
         have hEw4 : v1.heap.size < w4.heap.size := by omega
         go_simp
         refine hK.out _ _ ((by first | exact hS | exact (hx4.bt ((Bt.refl B w4).alloc _)).2.2.1 | exact hx4.2.2.1 | exact (HX.out.bt ((Bt.refl B _).drew.alloc _)).2.2.1 | exact (HX.out.bt (((Bt.refl B _).alloc _).drew)).2.2.1)) (fun hS => ?_)
         clear hK K'
         (try simp only [Act.put, n3])
         refine tq 4 17 (.int .i64 (q.length : Int)) hS ?_
         simp only [n3]
         have hbt5 : Bt B wc (w4.alloc (.cells #[.int .i64 0, .string ⟨#[]⟩, .string ⟨#[]⟩, .slice none 0 0, .slice none 0 0, .slice none 0 0, .slice none 0 0, .slice none 0 0, .int .i64 0, .string ⟨#[]⟩, .int .i64 0, .bool false, .int .i64 0, .string ⟨#[]⟩, .slice none 0 0, .slice none 0 0, .string ⟨#[]⟩, .string ⟨#[]⟩, .slice none 0 0] 96)) := hbt4.alloc _
         refine HT5 w4.heap.size (w4.alloc (.cells #[.int .i64 0, .string ⟨#[]⟩, .string ⟨#[]⟩, .slice none 0 0, .slice none 0 0, .slice none 0 0, .slice none 0 0, .slice none 0 0, .int .i64 0, .string ⟨#[]⟩, .int .i64 0, .bool false, .int .i64 0, .string ⟨#[]⟩, .slice none 0 0, .slice none 0 0, .string ⟨#[]⟩, .string ⟨#[]⟩, .slice none 0 0] 96)) [.int .i64 t.k, .string t.v, .string t.c, y3, y4, y5, y6, y7, .int .i64 t.e.op, .string t.e.t, .int .i64 t.e.v.k, .bool t.e.v.b, .int .i64 t.e.v.i, .string t.e.v.s, y14, y15, .string t.fn, .string t.name, y18] ⟨hbt5.fr HKc.out, hp4.via (below_al (Below.refl _ _) _), zrows.bt hbt5 (by omega), row_bt hbt5 (by omega) he, rfl, (CdV.reps (c := t) ⟨y3, y4, y5, y6, y7, y14, y15, y18, rfl, ⟨g3, g4, g5x, g6, g7⟩, g14, g15, g18⟩).1.ones, reps.move (Kp.alloc _ _) (fun b _ h => zrows.off hnw b (by first | exact h | exact Nat.le_trans (by simp) h)) _ _ ((CdV.reps (c := t) ⟨y3, y4, y5, y6, y7, y14, y15, y18, rfl, ⟨g3, g4, g5x, g6, g7⟩, g14, g15, g18⟩).1), heap_alloc_new w4 _, hbt5.size, hl4, HX.out.bt hbt5⟩
       ·go_simp
        go_wp2_with fail
        refine hK.out _ _ ((by first | exact hS | exact (hx4.bt ((Bt.refl B w4).alloc _)).2.2.1 | exact hx4.2.2.1 | exact (HX.out.bt ((Bt.refl B _).drew.alloc _)).2.2.1 | exact (HX.out.bt (((Bt.refl B _).alloc _).drew)).2.2.1)) (fun hS => ?_)
        clear hK K'
        (try simp only [Act.put, n3])
        refine on2 1 3 rfl (fun K' hK => ?_) rfl (fun K' hK => ?_)
        ·go_simp
         refine hK.out _ _ ((by first | exact hS | exact (hx4.bt ((Bt.refl B w4).alloc _)).2.2.1 | exact hx4.2.2.1 | exact (HX.out.bt ((Bt.refl B _).drew.alloc _)).2.2.1 | exact (HX.out.bt (((Bt.refl B _).alloc _).drew)).2.2.1)) (fun hS => ?_)
         clear hK K'
         (try simp only [Act.put, n3])
         refine tq 4 17 (.int .i64 (q.length : Int)) hS ?_
         simp only [n3]
         refine on1 3 rfl (fun K' hK => ?_)
         go_simp
         refine (HT _ (by first | exact HP.out.via (Below.refl _ _).drew | exact HP.out.via (below_al (Below.refl _ _).drew _) | exact HP.out.via (below_al (Below.refl _ _) _).drew)).out.mono ?_
         rintro e w4 ⟨hb4, hl4, hp4, v4, rfl, y3, y4, y5, y6, y7, y14, y15, y18, rfl, ⟨g3, g4, g5x, g6, g7⟩, g14, g15, g18⟩
         have hbt4 : Bt B wc w4 := Bt.trans (by first | exact (Bt.refl B _).drew | exact (Bt.refl B _).drew.alloc _ | exact ((Bt.refl B _).alloc _).drew) hb4
         have hr4 := zrows.bt hbt4 (by omega)
         have hC4 := row_bt hbt4 (by omega) he
         have hs4 : wc.heap.size ≤ w4.heap.size := hbt4.size
         have hx4 := HX.out.bt hbt4
         go_wp2_with fail
         refine hK.out _ _ ((by first | exact hS | exact (hx4.bt ((Bt.refl B w4).alloc _)).2.2.1 | exact hx4.2.2.1 | exact (HX.out.bt ((Bt.refl B _).drew.alloc _)).2.2.1 | exact (HX.out.bt (((Bt.refl B _).alloc _).drew)).2.2.1)) (fun hS => ?_)
         clear hK K'
         (try simp only [Act.put, n3])
         refine HT5 wc.heap.size w4 [.int .i64 t.k, .string t.v, .string t.c, y3, y4, y5, y6, y7, .int .i64 t.e.op, .string t.e.t, .int .i64 t.e.v.k, .bool t.e.v.b, .int .i64 t.e.v.i, .string t.e.v.s, y14, y15, .string t.fn, .string t.name, y18] ⟨hbt4.fr HKc.out, hp4, hr4, hC4, rfl, (CdV.reps (c := t) ⟨y3, y4, y5, y6, y7, y14, y15, y18, rfl, ⟨g3, g4, g5x, g6, g7⟩, g14, g15, g18⟩).1.ones, reps.move Kp.refl (fun b _ h => zrows.off hnw b (by first | exact h | exact Nat.le_trans (by simp) h)) _ _ ((CdV.reps (c := t) ⟨y3, y4, y5, y6, y7, y14, y15, y18, rfl, ⟨g3, g4, g5x, g6, g7⟩, g14, g15, g18⟩).1), row_bt hb4 (by omega) (heap_alloc_new wc _), hs4, hl4, hx4⟩
        ·go_simp
         refine (HT _ (by first | exact HP.out.via (Below.refl _ _).drew | exact HP.out.via (below_al (Below.refl _ _).drew _) | exact HP.out.via (below_al (Below.refl _ _) _).drew)).out.mono ?_
         rintro e w4 ⟨hb4, hl4, hp4, v4, rfl, y3, y4, y5, y6, y7, y14, y15, y18, rfl, ⟨g3, g4, g5x, g6, g7⟩, g14, g15, g18⟩
         have hbt4 : Bt B wc w4 := Bt.trans (by first | exact (Bt.refl B _).drew | exact (Bt.refl B _).drew.alloc _ | exact ((Bt.refl B _).alloc _).drew) hb4
         have hr4 := zrows.bt hbt4 (by omega)
         have hC4 := row_bt hbt4 (by omega) he
         have hs4 : wc.heap.size ≤ w4.heap.size := hbt4.size
         have hx4 := HX.out.bt hbt4
         go_wp2_with fail
         refine hK.out _ _ ((by first | exact hS | exact (hx4.bt ((Bt.refl B w4).alloc _)).2.2.1 | exact hx4.2.2.1 | exact (HX.out.bt ((Bt.refl B _).drew.alloc _)).2.2.1 | exact (HX.out.bt (((Bt.refl B _).alloc _).drew)).2.2.1)) (fun hS => ?_)
         clear hK K'
         (try simp only [Act.put, n3])
         refine on1 1 rfl (fun K' hK => ?_)
         have e04 : w4.cell? ⟨v1.heap.size, 2, none⟩ = some (.slice p0 q.length c0) := by rw [(heap_cell hC4 2).1]; exact rfl
         have hEw4 : v1.heap.size < w4.heap.size := by omega
         go_simp
         refine hK.out _ _ ((by first | exact hS | exact (hx4.bt ((Bt.refl B w4).alloc _)).2.2.1 | exact hx4.2.2.1 | exact (HX.out.bt ((Bt.refl B _).drew.alloc _)).2.2.1 | exact (HX.out.bt (((Bt.refl B _).alloc _).drew)).2.2.1)) (fun hS => ?_)
         clear hK K'
         (try simp only [Act.put, n3])
         refine tq 4 17 (.int .i64 (q.length : Int)) hS ?_
         simp only [n3]
         refine HT5 wc.heap.size w4 [.int .i64 t.k, .string t.v, .string t.c, y3, y4, y5, y6, y7, .int .i64 t.e.op, .string t.e.t, .int .i64 t.e.v.k, .bool t.e.v.b, .int .i64 t.e.v.i, .string t.e.v.s, y14, y15, .string t.fn, .string t.name, y18] ⟨hbt4.fr HKc.out, hp4, hr4, hC4, rfl, (CdV.reps (c := t) ⟨y3, y4, y5, y6, y7, y14, y15, y18, rfl, ⟨g3, g4, g5x, g6, g7⟩, g14, g15, g18⟩).1.ones, reps.move Kp.refl (fun b _ h => zrows.off hnw b (by first | exact h | exact Nat.le_trans (by simp) h)) _ _ ((CdV.reps (c := t) ⟨y3, y4, y5, y6, y7, y14, y15, y18, rfl, ⟨g3, g4, g5x, g6, g7⟩, g14, g15, g18⟩).1), row_bt hb4 (by omega) (heap_alloc_new wc _), hs4, hl4, hx4⟩
end
end Go.Proofs.YtoeodjobggodcaaGreatDoor
