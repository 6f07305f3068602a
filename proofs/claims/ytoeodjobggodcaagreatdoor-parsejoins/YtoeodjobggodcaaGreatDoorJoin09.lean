import Derived.Test.YtoeodjobggodcaaGreatDoorJoin08
/- attrs. -/
namespace Go.Proofs.YtoeodjobggodcaaGreatDoor
section
open Go.RowKit
def RuJ (B C : Nat) (x6 x7 : Value) (u : Ru) (w : World) (P : Nat → Prop) : Prop := C ≠ B ∧ C < w.heap.size ∧ ¬ P C ∧ w.heap[C]? = some (.cells #[.string u.name, .int .i64 u.sal, .string u.group, .string u.flow, .bool u.nl, .bool u.lock, x6, x7] 51 (0, 0))
theorem RuJ.stb (B C : Nat) (x6 x7 : Value) (u : Ru) : Stb B (RuJ B C x6 x7 u) := fun w w' P P' h hb hp => ⟨h.1, Nat.lt_of_lt_of_le h.2.1 hb.size, fun hc => by rcases hp C hc with h1 | h1; exact h.2.2.1 h1; have := h.2.1; omega, row_bt hb h.1 h.2.2.2⟩
theorem RuJ.bt {B C : Nat} {x6 x7 : Value} {u : Ru} {w w' : World} {P : Nat → Prop} (h : RuJ B C x6 x7 u w P) (hb : Bt B w w') : RuJ B C x6 x7 u w' P := RuJ.stb _ _ _ _ _ _ _ _ _ h hb (fun _ h => .inl h)
theorem RuJ.put {B C j : Nat} {x6 x7 : Value} {u u' : Ru} {w : World} {P : Nat → Prop} {v : Value} (h : RuJ B C x6 x7 u w P) (he : (#[.string u.name, .int .i64 u.sal, .string u.group, .string u.flow, .bool u.nl, .bool u.lock, x6, x7] : Array Value).setIfInBounds j v = #[.string u'.name, .int .i64 u'.sal, .string u'.group, .string u'.flow, .bool u'.nl, .bool u'.lock, x6, x7]) : RuJ B C x6 x7 u' (w.setCell ⟨C, j, none⟩ v) P := by
 refine ⟨h.1, by simpa using h.2.1, h.2.2.1, ?_⟩
 rw [heap_put h.2.2.2, he]
set_option maxRecDepth 100000 in
set_option maxHeartbeats 4000000 in
theorem attrs_any {K B C o : Nat} (hCK : K ≤ C) (x6 x7 : Value) {P : Nat → Prop} {u : Ru} {r : List Lx} {w : World} (hP : Kn B P w) (hj : RuJ B C x6 x7 u w P) (h : PAt K w B r o) :
  Calls Tryz.prog 64 #[.pointer (some ⟨B, 0, none⟩), .pointer (some ⟨C, 0, none⟩)] w (CPost K B o r.length P w (fun _ _ => True) (RuJ B C x6 x7) (attrsL r.length u r)) := by
 have H0 := Hid.intro h
 have HJ0 := Hid.intro hj
 have HP0 := Hid.intro hP
 clear h hj hP
 have HS := fun r w (h : PAt K w B r o) => Hid.intro (sal_any h)
 have HT := fun r w (h : PAt K w B r o) => Hid.intro (ptext_any h)
 go_enter Tryz.func64, Tryz.ntmps64
 go_wp2_with fail
 go_loopw [4] (fun _ w' => ∃ u' r' f, Hid (Fr P w w') ∧ Hid (RuJ B C x6 x7 u' w' P) ∧ Hid (PAt K w' B r' o) ∧ r'.length ≤ r.length ∧ r'.length ≤ f ∧ Hid (attrsL f u' r' = attrsL r.length u r)) (fun _ w' => rlen B w')
 case atStart => exact ⟨u, r, r.length, Hid.intro (Fr.refl _ _), HJ0, H0, Nat.le_refl _, Nat.le_refl _, Hid.intro rfl⟩
 case round =>
  obtain ⟨u', r', f, HF, HJ, HQ, hl', hlf, HE⟩ := hrel
  obtain ⟨x, r0, hr', -⟩ := gd_cons HQ.out.gd
  have hlr : 0 < r'.length := by rw [hr']; simp
  clear hr'
  obtain ⟨f, rfl⟩ : ∃ f', f = f' + 1 := ⟨f - 1, by omega⟩
  have HK := Hid.intro (HP0.out.up HF.out.size)
  have hrl := HQ.out.rlen
  cases k0 : isM ⟨#[115, 97, 108, 105, 101, 110, 99, 101]⟩ r' with
  | true =>
   have C0 := fun w (h : PAt K w B r' o) => Hid.intro (skip_yes h k0)
   have HE : Hid ((salM r'.tail).bd (fun i r => attrsL f { u' with sal := i } r) = attrsL r.length u r) := by
    have := HE.out
    rw [attrsL, if_pos k0] at this
    exact this
   clear k0
   have HM := HS r'.tail
   cases hm : salM r'.tail with
   | bad q =>
    rw [hm] at HM
    rw [hm, bd_bad] at HE
    clear hm
    go_wp2_with fail
    refine (C0 _ (HQ.out)).out.mono ?_
    rintro e v3 ⟨rfl, ht3, hp3⟩
    go_wp2_with fail
    refine (HM _ hp3).out.mono ?_
    rintro e v4 ⟨ht4, rfl⟩
    refine ⟨rfl, HF.out.trans ((((Bt.refl B _).trans ht3).trans ht4).fr HK.out), ?_⟩
    rw [← HE.out]
   | ok i r3 =>
    rw [hm] at HM
    rw [hm, bd_ok] at HE
    clear hm
    go_wp2_with fail
    refine (C0 _ (HQ.out)).out.mono ?_
    rintro e v3 ⟨rfl, ht3, hp3⟩
    go_wp2_with fail
    refine (HM _ hp3).out.mono ?_
    rintro e v4 ⟨ht4, hl4, hp4, v, rfl, rfl, -, -⟩
    simp only [List.length_tail] at hl4
    have hB := ((Bt.refl B _).trans ht3).trans ht4
    have HJ3 := Hid.intro (HJ.out.bt hB)
    have hJ3 := HJ3.out.2.2.2
    have hC3 := HJ3.out.2.1
    have y3 : v4.frozen? ⟨C, 1, none⟩ = false := (heap_cell hJ3 1).2
    have x3 : v4.cell? ⟨C, 1, none⟩ = some _ := (heap_cell hJ3 1).1.trans rfl
    clear hJ3
    have hp5 := hp4.set (g := C) hCK 1 (.int .i64 i)
    have hr3 := hp5.rlen
    have hne : ∀ b, P b → b ≠ C := fun b hb hc => HJ.out.2.2.1 (hc ▸ hb)
    go_wp2_with fail
    go_roundw
    case rel => exact ⟨_, _, f, Hid.intro ((HF.out.trans (hB.fr HK.out)).set hne _), Hid.intro (HJ3.out.put (u' := { u' with sal := i }) rfl), Hid.intro hp5, by omega, by omega, HE⟩
    case measure => omega
  | false =>
   have C0 := fun w (h : PAt K w B r' o) => Hid.intro (skip_no h k0)
   cases k1 : isM ⟨#[103, 114, 111, 117, 112]⟩ r' with
   | true =>
    have C1 := fun w (h : PAt K w B r' o) => Hid.intro (skip_yes h k1)
    have HE : Hid ((textM r'.tail).bd (fun s r => attrsL f { u' with group := s } r) = attrsL r.length u r) := by
     have := HE.out
     rw [attrsL, if_neg (by simp [k0]), if_pos k1] at this
     exact this
    clear k0 k1
    have HM := HT r'.tail
    cases hm : textM r'.tail with
    | bad q =>
     rw [hm] at HM
     rw [hm, bd_bad] at HE
     clear hm
     go_wp2_with fail
     refine (C0 _ (HQ.out)).out.mono ?_
     rintro e u1 ⟨rfl, d1⟩
     have c1 := d1
     go_wp2_with fail
     refine (C1 _ (HQ.out.via c1)).out.mono ?_
     rintro e v3 ⟨rfl, ht3, hp3⟩
     go_wp2_with fail
     refine (HM _ hp3).out.mono ?_
     rintro e v4 ⟨ht4, rfl⟩
     refine ⟨rfl, HF.out.trans ((((Bt.below (B := B) c1).trans ht3).trans ht4).fr HK.out), ?_⟩
     rw [← HE.out]
    | ok s r3 =>
     rw [hm] at HM
     rw [hm, bd_ok] at HE
     clear hm
     go_wp2_with fail
     refine (C0 _ (HQ.out)).out.mono ?_
     rintro e u1 ⟨rfl, d1⟩
     have c1 := d1
     go_wp2_with fail
     refine (C1 _ (HQ.out.via c1)).out.mono ?_
     rintro e v3 ⟨rfl, ht3, hp3⟩
     go_wp2_with fail
     refine (HM _ hp3).out.mono ?_
     rintro e v4 ⟨ht4, hl4, hp4, v, rfl, rfl⟩
     simp only [List.length_tail] at hl4
     have hB := ((Bt.below (B := B) c1).trans ht3).trans ht4
     have HJ3 := Hid.intro (HJ.out.bt hB)
     have hJ3 := HJ3.out.2.2.2
     have hC3 := HJ3.out.2.1
     have y3 : v4.frozen? ⟨C, 2, none⟩ = false := (heap_cell hJ3 2).2
     have x3 : v4.cell? ⟨C, 2, none⟩ = some _ := (heap_cell hJ3 2).1.trans rfl
     clear hJ3
     have hp5 := hp4.set (g := C) hCK 2 (.string s)
     have hr3 := hp5.rlen
     have hne : ∀ b, P b → b ≠ C := fun b hb hc => HJ.out.2.2.1 (hc ▸ hb)
     go_wp2_with fail
     go_roundw
     case rel => exact ⟨_, _, f, Hid.intro ((HF.out.trans (hB.fr HK.out)).set hne _), Hid.intro (HJ3.out.put (u' := { u' with group := s }) rfl), Hid.intro hp5, by omega, by omega, HE⟩
     case measure => omega
   | false =>
    have C1 := fun w (h : PAt K w B r' o) => Hid.intro (skip_no h k1)
    cases k2 : isM ⟨#[102, 108, 111, 119]⟩ r' with
    | true =>
     have C2 := fun w (h : PAt K w B r' o) => Hid.intro (skip_yes h k2)
     have HE : Hid ((textM r'.tail).bd (fun s r => attrsL f { u' with flow := s } r) = attrsL r.length u r) := by
      have := HE.out
      rw [attrsL, if_neg (by simp [k0]), if_neg (by simp [k1]), if_pos k2] at this
      exact this
     clear k0 k1 k2
     have HM := HT r'.tail
     cases hm : textM r'.tail with
     | bad q =>
      rw [hm] at HM
      rw [hm, bd_bad] at HE
      clear hm
      go_wp2_with fail
      refine (C0 _ (HQ.out)).out.mono ?_
      rintro e u1 ⟨rfl, d1⟩
      have c1 := d1
      go_wp2_with fail
      refine (C1 _ (HQ.out.via c1)).out.mono ?_
      rintro e u2 ⟨rfl, d2⟩
      have c2 := d2.via c1
      go_wp2_with fail
      refine (C2 _ (HQ.out.via c2)).out.mono ?_
      rintro e v3 ⟨rfl, ht3, hp3⟩
      go_wp2_with fail
      refine (HM _ hp3).out.mono ?_
      rintro e v4 ⟨ht4, rfl⟩
      refine ⟨rfl, HF.out.trans ((((Bt.below (B := B) c2).trans ht3).trans ht4).fr HK.out), ?_⟩
      rw [← HE.out]
     | ok s r3 =>
      rw [hm] at HM
      rw [hm, bd_ok] at HE
      clear hm
      go_wp2_with fail
      refine (C0 _ (HQ.out)).out.mono ?_
      rintro e u1 ⟨rfl, d1⟩
      have c1 := d1
      go_wp2_with fail
      refine (C1 _ (HQ.out.via c1)).out.mono ?_
      rintro e u2 ⟨rfl, d2⟩
      have c2 := d2.via c1
      go_wp2_with fail
      refine (C2 _ (HQ.out.via c2)).out.mono ?_
      rintro e v3 ⟨rfl, ht3, hp3⟩
      go_wp2_with fail
      refine (HM _ hp3).out.mono ?_
      rintro e v4 ⟨ht4, hl4, hp4, v, rfl, rfl⟩
      simp only [List.length_tail] at hl4
      have hB := ((Bt.below (B := B) c2).trans ht3).trans ht4
      have HJ3 := Hid.intro (HJ.out.bt hB)
      have hJ3 := HJ3.out.2.2.2
      have hC3 := HJ3.out.2.1
      have y3 : v4.frozen? ⟨C, 3, none⟩ = false := (heap_cell hJ3 3).2
      have x3 : v4.cell? ⟨C, 3, none⟩ = some _ := (heap_cell hJ3 3).1.trans rfl
      clear hJ3
      have hp5 := hp4.set (g := C) hCK 3 (.string s)
      have hr3 := hp5.rlen
      have hne : ∀ b, P b → b ≠ C := fun b hb hc => HJ.out.2.2.1 (hc ▸ hb)
      go_wp2_with fail
      go_roundw
      case rel => exact ⟨_, _, f, Hid.intro ((HF.out.trans (hB.fr HK.out)).set hne _), Hid.intro (HJ3.out.put (u' := { u' with flow := s }) rfl), Hid.intro hp5, by omega, by omega, HE⟩
      case measure => omega
    | false =>
     have C2 := fun w (h : PAt K w B r' o) => Hid.intro (skip_no h k2)
     cases k3 : isM ⟨#[110, 111, 108, 111, 111, 112]⟩ r' with
     | true =>
      have C3 := fun w (h : PAt K w B r' o) => Hid.intro (skip_yes h k3)
      have HE : Hid (attrsL f { u' with nl := true } r'.tail = attrsL r.length u r) := by
       have := HE.out
       rw [attrsL, if_neg (by simp [k0]), if_neg (by simp [k1]), if_neg (by simp [k2]), if_pos k3] at this
       exact this
      clear k0 k1 k2 k3
      go_wp2_with fail
      refine (C0 _ (HQ.out)).out.mono ?_
      rintro e u1 ⟨rfl, d1⟩
      have c1 := d1
      go_wp2_with fail
      refine (C1 _ (HQ.out.via c1)).out.mono ?_
      rintro e u2 ⟨rfl, d2⟩
      have c2 := d2.via c1
      go_wp2_with fail
      refine (C2 _ (HQ.out.via c2)).out.mono ?_
      rintro e u3 ⟨rfl, d3⟩
      have c3 := d3.via c2
      go_wp2_with fail
      refine (C3 _ (HQ.out.via c3)).out.mono ?_
      rintro e v3 ⟨rfl, ht3, hp3⟩
      have hB := (Bt.below (B := B) c3).trans ht3
      have HJ3 := Hid.intro (HJ.out.bt hB)
      have hJ3 := HJ3.out.2.2.2
      have hC3 := HJ3.out.2.1
      have y3 : v3.frozen? ⟨C, 4, none⟩ = false := (heap_cell hJ3 4).2
      have x3 : v3.cell? ⟨C, 4, none⟩ = some _ := (heap_cell hJ3 4).1.trans rfl
      clear hJ3
      have hp5 := hp3.set (g := C) hCK 4 (.bool true)
      have hr3 := hp5.rlen
      have hne : ∀ b, P b → b ≠ C := fun b hb hc => HJ.out.2.2.1 (hc ▸ hb)
      go_wp2_with fail
      go_roundw
      case rel => exact ⟨_, _, f, Hid.intro ((HF.out.trans (hB.fr HK.out)).set hne _), Hid.intro (HJ3.out.put (u' := { u' with nl := true }) rfl), Hid.intro hp5, by (simp only [List.length_tail] at *; omega), by (simp only [List.length_tail] at *; omega), HE⟩
      case measure => (simp only [List.length_tail] at *; omega)
     | false =>
      have C3 := fun w (h : PAt K w B r' o) => Hid.intro (skip_no h k3)
      cases k4 : isM ⟨#[108, 111, 99, 107]⟩ r' with
      | true =>
       have C4 := fun w (h : PAt K w B r' o) => Hid.intro (skip_yes h k4)
       have HE : Hid (attrsL f { u' with lock := true } r'.tail = attrsL r.length u r) := by
        have := HE.out
        rw [attrsL, if_neg (by simp [k0]), if_neg (by simp [k1]), if_neg (by simp [k2]), if_neg (by simp [k3]), if_pos k4] at this
        exact this
       clear k0 k1 k2 k3 k4
       go_wp2_with fail
       refine (C0 _ (HQ.out)).out.mono ?_
       rintro e u1 ⟨rfl, d1⟩
       have c1 := d1
       go_wp2_with fail
       refine (C1 _ (HQ.out.via c1)).out.mono ?_
       rintro e u2 ⟨rfl, d2⟩
       have c2 := d2.via c1
       go_wp2_with fail
       refine (C2 _ (HQ.out.via c2)).out.mono ?_
       rintro e u3 ⟨rfl, d3⟩
       have c3 := d3.via c2
       go_wp2_with fail
       refine (C3 _ (HQ.out.via c3)).out.mono ?_
       rintro e u4 ⟨rfl, d4⟩
       have c4 := d4.via c3
       go_wp2_with fail
       refine (C4 _ (HQ.out.via c4)).out.mono ?_
       rintro e v3 ⟨rfl, ht3, hp3⟩
       have hB := (Bt.below (B := B) c4).trans ht3
       have HJ3 := Hid.intro (HJ.out.bt hB)
       have hJ3 := HJ3.out.2.2.2
       have hC3 := HJ3.out.2.1
       have y3 : v3.frozen? ⟨C, 5, none⟩ = false := (heap_cell hJ3 5).2
       have x3 : v3.cell? ⟨C, 5, none⟩ = some _ := (heap_cell hJ3 5).1.trans rfl
       clear hJ3
       have hp5 := hp3.set (g := C) hCK 5 (.bool true)
       have hr3 := hp5.rlen
       have hne : ∀ b, P b → b ≠ C := fun b hb hc => HJ.out.2.2.1 (hc ▸ hb)
       go_wp2_with fail
       go_roundw
       case rel => exact ⟨_, _, f, Hid.intro ((HF.out.trans (hB.fr HK.out)).set hne _), Hid.intro (HJ3.out.put (u' := { u' with lock := true }) rfl), Hid.intro hp5, by (simp only [List.length_tail] at *; omega), by (simp only [List.length_tail] at *; omega), HE⟩
       case measure => (simp only [List.length_tail] at *; omega)
      | false =>
       have C4 := fun w (h : PAt K w B r' o) => Hid.intro (skip_no h k4)
       have HE : Hid (Rs.ok u' r' = attrsL r.length u r) := by
        have := HE.out
        rw [attrsL, if_neg (by simp [k0]), if_neg (by simp [k1]), if_neg (by simp [k2]), if_neg (by simp [k3]), if_neg (by simp [k4])] at this
        exact this
       clear k0 k1 k2 k3 k4
       go_wp2_with fail
       refine (C0 _ (HQ.out)).out.mono ?_
       rintro e u1 ⟨rfl, d1⟩
       have c1 := d1
       go_wp2_with fail
       refine (C1 _ (HQ.out.via c1)).out.mono ?_
       rintro e u2 ⟨rfl, d2⟩
       have c2 := d2.via c1
       go_wp2_with fail
       refine (C2 _ (HQ.out.via c2)).out.mono ?_
       rintro e u3 ⟨rfl, d3⟩
       have c3 := d3.via c2
       go_wp2_with fail
       refine (C3 _ (HQ.out.via c3)).out.mono ?_
       rintro e u4 ⟨rfl, d4⟩
       have c4 := d4.via c3
       go_wp2_with fail
       refine (C4 _ (HQ.out.via c4)).out.mono ?_
       rintro e u5 ⟨rfl, d5⟩
       have c5 := d5.via c4
       go_wp2_with fail
       go_end0
       rw [← HE.out]
       exact ⟨HF.out.trans ((Bt.below (B := B) c5).fr HK.out), rfl, trivial, HJ.out.bt (Bt.below (B := B) c5), HQ.out.via c5, hl'⟩
end
end Go.Proofs.YtoeodjobggodcaaGreatDoor
/- class: the closure that fills its fields. -/
namespace Go.Proofs.YtoeodjobggodcaaGreatDoor
section
open Go.RowKit
theorem infoField' : (Tryz.prog.info? 90).map (fun i => (i.zero, i.size, i.bytes)) = some (some (.agg #[.string ⟨#[]⟩, .int .i64 0, .string ⟨#[]⟩]), 3, 40) := by kernel_rfl
theorem run_cls1 (caps : Array Value) (w : World) : (callFunc 61 caps).run Tryz.prog w = .ok (.enter 61 caps) w := by simp [go_sem]
def CJ3 (n B c1 C : Nat) (A : Value → Array Value) (l : List Fd) (w : World) (P : Nat → Prop) : Prop := Bx B c1 (.pointer (some ⟨B, 0, none⟩)) w ∧ c1 < n ∧ c1 ≠ C ∧ RowA n B C 58 A 90 3 l.length (l.flatMap Fd.cs) w P
theorem CJ3.stb (n B c1 C : Nat) (A : Value → Array Value) (l : List Fd) : Stb B (CJ3 n B c1 C A l) := fun w w' P P' h hb hp => ⟨h.1.bt hb, h.2.1, h.2.2.1, RowA.stb w w' P P' h.2.2.2 hb hp⟩
set_option maxRecDepth 100000 in
set_option maxHeartbeats 8000000 in
theorem cls1_clo {K B o : Nat} (n c1 C : Nat) (A : Value → Array Value) (hA : ∀ u u', (A u).setIfInBounds 2 u' = A u') (hAj : ∀ u, (A u)[2]? = some u) (hCK : K ≤ C) :
  Clo K B o QG (CJ3 n B c1 C A) 61 #[.pointer (some ⟨c1, 0, none⟩), .pointer (some ⟨C, 0, none⟩)] (fun l r => fieldsL r.length l r) := by
 refine ⟨run_cls1 _, ?_⟩
 rintro P L r w hP hg hj h
 show Calls _ _ _ _ (CPost K B o r.length P w _ _ (fieldsL r.length L r))
 have HT := fun r w (h : PAt K w B r o) => Hid.intro (field_any h)
 have HI := fun r w (h : PAt K w B r o) => Hid.intro (is_any h ⟨#[125]⟩)
 have HYes := fun r w (h : PAt K w B r o) hs => Hid.intro (skip_yes (s := ⟨#[44]⟩) h hs)
 have HNo := fun r w (h : PAt K w B r o) hs => Hid.intro (skip_no (s := ⟨#[44]⟩) h hs)
 have hmo : Tryz.prog.follows .mixedOrders = true := by kernel_rfl
 obtain ⟨i0, hi, hz0, hz1, hz2⟩ := info_parts infoField'
 unfold QG at hg
 have H0 := Hid.intro h
 have HJ0 := Hid.intro hj
 have HP0 := Hid.intro hP
 have h2 : c1 < n := hj.2.1
 have h3 : c1 ≠ C := hj.2.2.1
 clear h hj hP
 go_enter Tryz.func61, Tryz.ntmps61
 go_wp2_with fail
 go_loopw [4] (fun _ w' => ∃ l r' f, Hid (Fr P w w') ∧ Hid (CJ3 n B c1 C A l w' P) ∧ Hid (PAt K w' B r' o) ∧ l.length + r'.length ≤ 10000 ∧ r'.length ≤ r.length ∧ r'.length ≤ f ∧ Hid (fieldsL f l r' = fieldsL r.length L r)) (fun _ w' => rlen B w')
 case atStart => exact ⟨L, r, r.length, Hid.intro (Fr.refl _ _), HJ0, H0, hg, Nat.le_refl _, Nat.le_refl _, Hid.intro rfl⟩
 case round =>
  clear HJ0 H0 hg
  obtain ⟨l, r', f, HF, HJ, HQ, hll, hl', hlf, HE⟩ := hrel
  obtain ⟨x, r0, hr', -⟩ := gd_cons HQ.out.gd
  have hlr : 0 < r'.length := by rw [hr']; simp
  clear hr'
  obtain ⟨f, rfl⟩ : ∃ f', f = f' + 1 := ⟨f - 1, by omega⟩
  have HK := Hid.intro (HP0.out.up HF.out.size)
  have hrl := HQ.out.rlen
  have hx0 := HJ.out.1.2.2.1
  have hln : l.length ≤ 10000 := by omega
  cases k0 : isM ⟨#[125]⟩ r' with
  | true =>
   have HI := HI r' wr HQ.out
   rw [k0] at HI
   have HE : Hid (Rs.ok l r' = fieldsL r.length L r) := by
    have := HE.out
    rw [fieldsL, if_pos k0] at this
    exact this
   clear k0
   go_wp2_with fail
   refine HI.out.mono ?_
   rintro e w2 ⟨rfl, hb2⟩
   go_wp2_with fail
   go_end0
   rw [← HE.out]
   exact ⟨HF.out.trans ((Bt.below hb2).fr HK.out), rfl, by unfold QG; omega, CJ3.stb _ _ _ _ _ _ _ _ _ _ HJ.out (Bt.below hb2) (fun _ h => .inl h), HQ.out.via hb2, hl'⟩
  | false =>
   have HI := HI r' wr HQ.out
   rw [k0] at HI
   have HE : Hid ((fieldM (if 0 < l.length ∧ isM ⟨#[44]⟩ r' = true then r'.tail else r')).bd (fun x r => fieldsL f (l ++ [x]) r) = fieldsL r.length L r) := by
    have := HE.out
    rw [fieldsL, if_neg (by simp [k0])] at this
    exact this
   clear k0
   by_cases hz : 0 < l.length
   ·cases k1 : isM ⟨#[44]⟩ r' with
    | true =>
     rw [if_pos ⟨hz, k1⟩] at HE
     have HS := fun w h => HYes r' w h k1
     clear k1 HYes HNo
     have hgt : decide ((l.length : Int) > 0) = true := by simpa using hz
     have HT := HT (r'.tail)
     cases hm : fieldM (r'.tail) with
     | bad q =>
      rw [hm] at HT
      rw [hm, bd_bad] at HE
      clear hm
      have hV2 := HJ.out.2.2.2
      obtain ⟨-, -, hnw2, ps2, cs2, -, he2, -⟩ := hV2
      go_wp2_with fail
      refine HI.out.mono ?_
      rintro e w2 ⟨rfl, hb2⟩
      have HJ2 := Hid.intro (CJ3.stb _ _ _ _ _ _ _ _ _ P HJ.out (Bt.below hb2) (fun _ h => .inl h))
      have HQ2 := Hid.intro (HQ.out.via hb2)
      have HF2 := Hid.intro (HF.out.trans ((Bt.below hb2).fr HK.out))
      have hx2 := HJ2.out.1.2.2.1
      obtain ⟨ps3, cs3, he3⟩ : ∃ ps cs, w2.heap[C]? = some (.cells (A (.slice ps l.length cs)) 58 (0, 0)) := by obtain ⟨-, -, -, ps, cs, -, he, -⟩ := HJ2.out.2.2.2; exact ⟨ps, cs, he⟩
      have e3 : w2.cell? ⟨C, 2, none⟩ = some (.slice ps3 l.length cs3) := by rw [(heap_cell he3 2).1]; exact hAj _
      have hCl2 : C < w2.heap.size := (Array.getElem?_eq_some_iff.1 he3).1
      have HK2 := Hid.intro (HP0.out.up HF2.out.size)
      clear he3
      go_wp2_with fail
      refine (HS _ HQ2.out).out.mono ?_
      rintro e wc ⟨rfl, hb3, hp3⟩
      have HP := Hid.intro hp3
      have hbb := hb3
      have HFc := Hid.intro (HF2.out.trans (hbb.fr HK2.out))
      have HJc := Hid.intro (CJ3.stb _ _ _ _ _ _ _ _ _ P HJ2.out hbb (fun _ h => .inl h))
      have d1 := HJc.out.1.2.2.1
      go_wp2_with fail
      have HKc := Hid.intro (HP0.out.up HFc.out.size)
      have HX := Hid.intro HJc.out.1
      have HV := Hid.intro HJc.out.2.2.2
      have d1 := HX.out.2.2.1
      obtain ⟨hBE, hEn, hnw, ps, cs, vs, he, hown, hrep, hpa⟩ := HJc.out.2.2.2
      have e0 : wc.cell? ⟨C, 2, none⟩ = some (.slice ps l.length cs) := by rw [(heap_cell he 2).1]; exact hAj _
      have hEw : C < wc.heap.size := by omega
      (try simp only [List.length_tail] at HT)
      refine wp_region_held_drew (S := fun w' => w'.cell? ⟨c1, 0, none⟩ = some (.pointer (some ⟨B, 0, none⟩))) hmo d1 (fun hS => ?_)
      refine tq 0 11 (.pointer (some ⟨C, 2, none⟩)) hS ?_
      simp only [n3]
      refine tq 2 13 (.pointer (some ⟨B, 0, none⟩)) hS ?_
      simp only [n3]
      refine on2 1 3 rfl (fun K' hK => ?_) rfl (fun K' hK => ?_)
      ·go_simp
       refine hK.out _ _ (hS) (fun hS => ?_)
       clear hK K'
       (try simp only [Act.put, n3])
       refine on1 3 rfl (fun K' hK => ?_)
       go_simp
       refine (HT wc.drew (HP.out.via (Below.refl _ _).drew)).out.mono ?_
       rintro e w4 ⟨hb4, rfl⟩
       refine ⟨rfl, HFc.out.trans (((Bt.refl B wc).drew.trans hb4).fr HKc.out), ?_⟩
       rw [← HE.out]
      ·go_simp
       refine (HT wc.drew (HP.out.via (Below.refl _ _).drew)).out.mono ?_
       rintro e w4 ⟨hb4, rfl⟩
       refine ⟨rfl, HFc.out.trans (((Bt.refl B wc).drew.trans hb4).fr HKc.out), ?_⟩
       rw [← HE.out]
     | ok t r1 =>
      rw [hm] at HT
      rw [hm, bd_ok] at HE
      clear hm
      have hV2 := HJ.out.2.2.2
      obtain ⟨-, -, hnw2, ps2, cs2, -, he2, -⟩ := hV2
      go_wp2_with fail
      refine HI.out.mono ?_
      rintro e w2 ⟨rfl, hb2⟩
      have HJ2 := Hid.intro (CJ3.stb _ _ _ _ _ _ _ _ _ P HJ.out (Bt.below hb2) (fun _ h => .inl h))
      have HQ2 := Hid.intro (HQ.out.via hb2)
      have HF2 := Hid.intro (HF.out.trans ((Bt.below hb2).fr HK.out))
      have hx2 := HJ2.out.1.2.2.1
      obtain ⟨ps3, cs3, he3⟩ : ∃ ps cs, w2.heap[C]? = some (.cells (A (.slice ps l.length cs)) 58 (0, 0)) := by obtain ⟨-, -, -, ps, cs, -, he, -⟩ := HJ2.out.2.2.2; exact ⟨ps, cs, he⟩
      have e3 : w2.cell? ⟨C, 2, none⟩ = some (.slice ps3 l.length cs3) := by rw [(heap_cell he3 2).1]; exact hAj _
      have hCl2 : C < w2.heap.size := (Array.getElem?_eq_some_iff.1 he3).1
      have HK2 := Hid.intro (HP0.out.up HF2.out.size)
      clear he3
      go_wp2_with fail
      refine (HS _ HQ2.out).out.mono ?_
      rintro e wc ⟨rfl, hb3, hp3⟩
      have HP := Hid.intro hp3
      have hbb := hb3
      have HFc := Hid.intro (HF2.out.trans (hbb.fr HK2.out))
      have HJc := Hid.intro (CJ3.stb _ _ _ _ _ _ _ _ _ P HJ2.out hbb (fun _ h => .inl h))
      have d1 := HJc.out.1.2.2.1
      go_wp2_with fail
      have HKc := Hid.intro (HP0.out.up HFc.out.size)
      have HX := Hid.intro HJc.out.1
      have HV := Hid.intro HJc.out.2.2.2
      have d1 := HX.out.2.2.1
      obtain ⟨hBE, hEn, hnw, ps, cs, vs, he, hown, hrep, hpa⟩ := HJc.out.2.2.2
      have e0 : wc.cell? ⟨C, 2, none⟩ = some (.slice ps l.length cs) := by rw [(heap_cell he 2).1]; exact hAj _
      have hEw : C < wc.heap.size := by omega
      (try simp only [List.length_tail] at HT)
      refine wp_region_held_drew (S := fun w' => w'.cell? ⟨c1, 0, none⟩ = some (.pointer (some ⟨B, 0, none⟩))) hmo d1 (fun hS => ?_)
      refine tq 0 11 (.pointer (some ⟨C, 2, none⟩)) hS ?_
      simp only [n3]
      refine tq 2 13 (.pointer (some ⟨B, 0, none⟩)) hS ?_
      simp only [n3]
      refine on2 1 3 rfl (fun K' hK => ?_) rfl (fun K' hK => ?_)
      ·go_simp
       refine hK.out _ _ (hS) (fun hS => ?_)
       clear hK K'
       (try simp only [Act.put, n3])
       refine on1 3 rfl (fun K' hK => ?_)
       go_simp
       refine (HT wc.drew (HP.out.via (Below.refl _ _).drew)).out.mono ?_
       rintro e w4 ⟨hb4, hl4, hp4, v4, rfl, rfl⟩
       have hbt4 : Bt B wc w4 := (Bt.refl B wc).drew.trans hb4
       have hx4 := HX.out.bt hbt4
       have hV4 := RowA.stb _ _ _ P HV.out hbt4 (fun _ h => .inl h)
       obtain ⟨-, -, hnw4, ps4, cs4, vs4, he4, hown4, hrep4, hpa4⟩ := hV4
       obtain ⟨rfl, rfl⟩ : ps4 = ps ∧ cs4 = cs := by have h8 := (row_bt hbt4 (by omega) he).symm.trans he4; have h9 := congrArg (fun o => match o with | some (Obj.cells a _ _) => a[2]? | _ => none) h8; simp only [hAj, Option.some.injEq, Value.slice.injEq, true_and] at h9; exact ⟨h9.1.symm, h9.2.symm⟩
       have hc4 := hx4.2.2.1
       have hs4 : wc.heap.size ≤ w4.heap.size := hb4.size
       go_wp2_with fail
       refine hK.out _ _ (hc4) (fun hS => ?_)
       clear hK K'
       (try simp only [Act.put, n3])
       refine on1 4 rfl (fun K' hK => ?_)
       go_simp
       go_wp2_with fail
       refine hK.out _ _ (((hx4.bt ((Bt.refl B w4).alloc _)).2.2.1)) (fun hS => ?_)
       clear hK K'
       (try simp only [Act.put, n3])
       have hal : w4.heap.size < (w4.alloc (.cells #[.string t.n, .int .i64 t.t, .string t.c] 90)).heap.size := by simp
       refine on1 5 rfl (fun K' hK => ?_)
       rw [if_pos (by rfl)]
       refine wp_append_own _ _ 56 rfl n 90 i0 _ 3 40 Tryz.underlying56 hi hz0 hz1 hz2 rfl (by decide) _ _ _ rfl (hown4.alloc _) ⟨w4.heap.size, 0, none⟩ 1 1 [.string t.n, .int .i64 t.t, .string t.c] rfl rfl (fun j u hj => by rw [addr_add, Nat.zero_add, (heap_cell (heap_alloc_new w4 _) j).1, ← hj]; simp) (by simp [Value.oneCell']) (by unfold maxLen; omega) (by omega) (by simp; omega) (fun sv' w5 hown5 hgr5 hat5 => ?_)
       have htr : reps (fun b => n ≤ b ∧ some b ≠ Value.ownBlock (.slice ps4 l.length cs4)) (w4.alloc (.cells #[.string t.n, .int .i64 t.t, .string t.c] 90)) t.cs [.string t.n, .int .i64 t.t, .string t.c] := reps.cons (rep.lit rfl) (reps.cons (rep.lit rfl) (reps.cons (rep.lit rfl) reps.nil))
       obtain ⟨g5, k5, rfl⟩ := ownsRow_succ hown5
       obtain ⟨hV5, hF5, hE5⟩ := RowA.push (j := 2) hA hBE hEn (by simp; omega) ((heap_alloc_old w4 _ (by omega)).trans he4) (hown4.alloc _) (reps.move (Kp.alloc w4 _) (fun _ _ h => h) _ _ hrep4) hpa4 ((HKc.out.up hs4).up (by simp)) htr hown5 hgr5 hat5
       have hx5 := (hx4.bt ((Bt.refl B w4).alloc _)).grown hgr5 (own_below hown4 (.inl h2))
       have e5 : w5.cell? ⟨C, 2, none⟩ = some (.slice ps4 l.length cs4) := by rw [(heap_cell hE5 2).1]; exact hAj _
       have f5 : w5.frozen? ⟨C, 2, none⟩ = false := (heap_cell hE5 2).2
       refine hK.out _ _ (hx5.2.2.1) (fun hS => ?_)
       clear hK K'
       (try simp only [Act.put, List.setIfInBounds_toArray])
       refine tq 6 17 (.pointer (some ⟨C, 2, none⟩)) hS ?_
       simp only [n3]
       refine on1 7 rfl (fun K' hK => ?_)
       go_simp
       go_wp2_with fail
       refine hK.out _ _ ((hx5.set h3).2.2.1) (fun hS => ?_)
       clear hK K'
       (try simp only [Act.put, n3])
       refine wpAnyH_done (by kernel_rfl) ?_ _
       have hp5 := ((hp4.via (below_al (Below.refl _ _) _)).grown hgr5 (fun k hk => by have := (hown4.lt k hk).1; omega)).set (g := C) hCK 2 (.slice (some ⟨g5, 0, none⟩) (l.length + 1) k5)
       have hr5 := hp5.rlen
       go_wp2_with fail
       go_roundw
       case rel => exact ⟨l ++ [t], r1, f, Hid.intro (HFc.out.trans (((hbt4.fr HKc.out).alloc (HKc.out.up hs4 · · |>.1) _).trans hF5)), Hid.intro ⟨hx5.set h3, h2, h3, by simpa [List.flatMap_append] using hV5⟩, Hid.intro hp5, by simp; omega, by omega, by omega, HE⟩
       case measure => omega
      ·go_simp
       refine (HT wc.drew (HP.out.via (Below.refl _ _).drew)).out.mono ?_
       rintro e w4 ⟨hb4, hl4, hp4, v4, rfl, rfl⟩
       have hbt4 : Bt B wc w4 := (Bt.refl B wc).drew.trans hb4
       have hx4 := HX.out.bt hbt4
       have hV4 := RowA.stb _ _ _ P HV.out hbt4 (fun _ h => .inl h)
       obtain ⟨-, -, hnw4, ps4, cs4, vs4, he4, hown4, hrep4, hpa4⟩ := hV4
       obtain ⟨rfl, rfl⟩ : ps4 = ps ∧ cs4 = cs := by have h8 := (row_bt hbt4 (by omega) he).symm.trans he4; have h9 := congrArg (fun o => match o with | some (Obj.cells a _ _) => a[2]? | _ => none) h8; simp only [hAj, Option.some.injEq, Value.slice.injEq, true_and] at h9; exact ⟨h9.1.symm, h9.2.symm⟩
       have hc4 := hx4.2.2.1
       have hs4 : wc.heap.size ≤ w4.heap.size := hb4.size
       go_wp2_with fail
       refine hK.out _ _ (hc4) (fun hS => ?_)
       clear hK K'
       (try simp only [Act.put, n3])
       refine on2 1 4 rfl (fun K' hK => ?_) rfl (fun K' hK => ?_)
       ·have e04 : w4.cell? ⟨C, 2, none⟩ = some (.slice ps4 l.length cs4) := by rw [(heap_cell he4 2).1]; exact hAj _
        have hEw4 : C < w4.heap.size := by omega
        go_simp
        refine hK.out _ _ (hS) (fun hS => ?_)
        clear hK K'
        (try simp only [Act.put, n3])
        refine on1 4 rfl (fun K' hK => ?_)
        go_simp
        go_wp2_with fail
        refine hK.out _ _ (((hx4.bt ((Bt.refl B w4).alloc _)).2.2.1)) (fun hS => ?_)
        clear hK K'
        (try simp only [Act.put, n3])
        have hal : w4.heap.size < (w4.alloc (.cells #[.string t.n, .int .i64 t.t, .string t.c] 90)).heap.size := by simp
        refine on1 5 rfl (fun K' hK => ?_)
        rw [if_pos (by rfl)]
        refine wp_append_own _ _ 56 rfl n 90 i0 _ 3 40 Tryz.underlying56 hi hz0 hz1 hz2 rfl (by decide) _ _ _ rfl (hown4.alloc _) ⟨w4.heap.size, 0, none⟩ 1 1 [.string t.n, .int .i64 t.t, .string t.c] rfl rfl (fun j u hj => by rw [addr_add, Nat.zero_add, (heap_cell (heap_alloc_new w4 _) j).1, ← hj]; simp) (by simp [Value.oneCell']) (by unfold maxLen; omega) (by omega) (by simp; omega) (fun sv' w5 hown5 hgr5 hat5 => ?_)
        have htr : reps (fun b => n ≤ b ∧ some b ≠ Value.ownBlock (.slice ps4 l.length cs4)) (w4.alloc (.cells #[.string t.n, .int .i64 t.t, .string t.c] 90)) t.cs [.string t.n, .int .i64 t.t, .string t.c] := reps.cons (rep.lit rfl) (reps.cons (rep.lit rfl) (reps.cons (rep.lit rfl) reps.nil))
        obtain ⟨g5, k5, rfl⟩ := ownsRow_succ hown5
        obtain ⟨hV5, hF5, hE5⟩ := RowA.push (j := 2) hA hBE hEn (by simp; omega) ((heap_alloc_old w4 _ (by omega)).trans he4) (hown4.alloc _) (reps.move (Kp.alloc w4 _) (fun _ _ h => h) _ _ hrep4) hpa4 ((HKc.out.up hs4).up (by simp)) htr hown5 hgr5 hat5
        have hx5 := (hx4.bt ((Bt.refl B w4).alloc _)).grown hgr5 (own_below hown4 (.inl h2))
        have e5 : w5.cell? ⟨C, 2, none⟩ = some (.slice ps4 l.length cs4) := by rw [(heap_cell hE5 2).1]; exact hAj _
        have f5 : w5.frozen? ⟨C, 2, none⟩ = false := (heap_cell hE5 2).2
        refine hK.out _ _ (hx5.2.2.1) (fun hS => ?_)
        clear hK K'
        (try simp only [Act.put, List.setIfInBounds_toArray])
        refine tq 6 17 (.pointer (some ⟨C, 2, none⟩)) hS ?_
        simp only [n3]
        refine on1 7 rfl (fun K' hK => ?_)
        go_simp
        go_wp2_with fail
        refine hK.out _ _ ((hx5.set h3).2.2.1) (fun hS => ?_)
        clear hK K'
        (try simp only [Act.put, n3])
        refine wpAnyH_done (by kernel_rfl) ?_ _
        have hp5 := ((hp4.via (below_al (Below.refl _ _) _)).grown hgr5 (fun k hk => by have := (hown4.lt k hk).1; omega)).set (g := C) hCK 2 (.slice (some ⟨g5, 0, none⟩) (l.length + 1) k5)
        have hr5 := hp5.rlen
        go_wp2_with fail
        go_roundw
        case rel => exact ⟨l ++ [t], r1, f, Hid.intro (HFc.out.trans (((hbt4.fr HKc.out).alloc (HKc.out.up hs4 · · |>.1) _).trans hF5)), Hid.intro ⟨hx5.set h3, h2, h3, by simpa [List.flatMap_append] using hV5⟩, Hid.intro hp5, by simp; omega, by omega, by omega, HE⟩
        case measure => omega
       ·go_simp
        go_wp2_with fail
        refine hK.out _ _ (((hx4.bt ((Bt.refl B w4).alloc _)).2.2.1)) (fun hS => ?_)
        clear hK K'
        (try simp only [Act.put, n3])
        refine on1 1 rfl (fun K' hK => ?_)
        have e04 : w4.cell? ⟨C, 2, none⟩ = some (.slice ps4 l.length cs4) := by rw [(heap_cell he4 2).1]; exact hAj _
        have hEw4 : C < w4.heap.size := by omega
        go_simp
        refine hK.out _ _ (((hx4.bt ((Bt.refl B w4).alloc _)).2.2.1)) (fun hS => ?_)
        clear hK K'
        (try simp only [Act.put, n3])
        have hal : w4.heap.size < (w4.alloc (.cells #[.string t.n, .int .i64 t.t, .string t.c] 90)).heap.size := by simp
        refine on1 5 rfl (fun K' hK => ?_)
        rw [if_pos (by rfl)]
        refine wp_append_own _ _ 56 rfl n 90 i0 _ 3 40 Tryz.underlying56 hi hz0 hz1 hz2 rfl (by decide) _ _ _ rfl (hown4.alloc _) ⟨w4.heap.size, 0, none⟩ 1 1 [.string t.n, .int .i64 t.t, .string t.c] rfl rfl (fun j u hj => by rw [addr_add, Nat.zero_add, (heap_cell (heap_alloc_new w4 _) j).1, ← hj]; simp) (by simp [Value.oneCell']) (by unfold maxLen; omega) (by omega) (by simp; omega) (fun sv' w5 hown5 hgr5 hat5 => ?_)
        have htr : reps (fun b => n ≤ b ∧ some b ≠ Value.ownBlock (.slice ps4 l.length cs4)) (w4.alloc (.cells #[.string t.n, .int .i64 t.t, .string t.c] 90)) t.cs [.string t.n, .int .i64 t.t, .string t.c] := reps.cons (rep.lit rfl) (reps.cons (rep.lit rfl) (reps.cons (rep.lit rfl) reps.nil))
        obtain ⟨g5, k5, rfl⟩ := ownsRow_succ hown5
        obtain ⟨hV5, hF5, hE5⟩ := RowA.push (j := 2) hA hBE hEn (by simp; omega) ((heap_alloc_old w4 _ (by omega)).trans he4) (hown4.alloc _) (reps.move (Kp.alloc w4 _) (fun _ _ h => h) _ _ hrep4) hpa4 ((HKc.out.up hs4).up (by simp)) htr hown5 hgr5 hat5
        have hx5 := (hx4.bt ((Bt.refl B w4).alloc _)).grown hgr5 (own_below hown4 (.inl h2))
        have e5 : w5.cell? ⟨C, 2, none⟩ = some (.slice ps4 l.length cs4) := by rw [(heap_cell hE5 2).1]; exact hAj _
        have f5 : w5.frozen? ⟨C, 2, none⟩ = false := (heap_cell hE5 2).2
        refine hK.out _ _ (hx5.2.2.1) (fun hS => ?_)
        clear hK K'
        (try simp only [Act.put, List.setIfInBounds_toArray])
        refine tq 6 17 (.pointer (some ⟨C, 2, none⟩)) hS ?_
        simp only [n3]
        refine on1 7 rfl (fun K' hK => ?_)
        go_simp
        go_wp2_with fail
        refine hK.out _ _ ((hx5.set h3).2.2.1) (fun hS => ?_)
        clear hK K'
        (try simp only [Act.put, n3])
        refine wpAnyH_done (by kernel_rfl) ?_ _
        have hp5 := ((hp4.via (below_al (Below.refl _ _) _)).grown hgr5 (fun k hk => by have := (hown4.lt k hk).1; omega)).set (g := C) hCK 2 (.slice (some ⟨g5, 0, none⟩) (l.length + 1) k5)
        have hr5 := hp5.rlen
        go_wp2_with fail
        go_roundw
        case rel => exact ⟨l ++ [t], r1, f, Hid.intro (HFc.out.trans (((hbt4.fr HKc.out).alloc (HKc.out.up hs4 · · |>.1) _).trans hF5)), Hid.intro ⟨hx5.set h3, h2, h3, by simpa [List.flatMap_append] using hV5⟩, Hid.intro hp5, by simp; omega, by omega, by omega, HE⟩
        case measure => omega
    | false =>
     rw [if_neg (by simp [k1])] at HE
     have HS := fun w h => HNo r' w h k1
     clear k1 HYes HNo
     have hgt : decide ((l.length : Int) > 0) = true := by simpa using hz
     have HT := HT (r')
     cases hm : fieldM (r') with
     | bad q =>
      rw [hm] at HT
      rw [hm, bd_bad] at HE
      clear hm
      have hV2 := HJ.out.2.2.2
      obtain ⟨-, -, hnw2, ps2, cs2, -, he2, -⟩ := hV2
      go_wp2_with fail
      refine HI.out.mono ?_
      rintro e w2 ⟨rfl, hb2⟩
      have HJ2 := Hid.intro (CJ3.stb _ _ _ _ _ _ _ _ _ P HJ.out (Bt.below hb2) (fun _ h => .inl h))
      have HQ2 := Hid.intro (HQ.out.via hb2)
      have HF2 := Hid.intro (HF.out.trans ((Bt.below hb2).fr HK.out))
      have hx2 := HJ2.out.1.2.2.1
      obtain ⟨ps3, cs3, he3⟩ : ∃ ps cs, w2.heap[C]? = some (.cells (A (.slice ps l.length cs)) 58 (0, 0)) := by obtain ⟨-, -, -, ps, cs, -, he, -⟩ := HJ2.out.2.2.2; exact ⟨ps, cs, he⟩
      have e3 : w2.cell? ⟨C, 2, none⟩ = some (.slice ps3 l.length cs3) := by rw [(heap_cell he3 2).1]; exact hAj _
      have hCl2 : C < w2.heap.size := (Array.getElem?_eq_some_iff.1 he3).1
      have HK2 := Hid.intro (HP0.out.up HF2.out.size)
      clear he3
      go_wp2_with fail
      refine (HS _ HQ2.out).out.mono ?_
      rintro e wc ⟨rfl, hb3⟩
      have HP := Hid.intro (HQ2.out.via hb3)
      have hbb := Bt.below (B := B) hb3
      have HFc := Hid.intro (HF2.out.trans (hbb.fr HK2.out))
      have HJc := Hid.intro (CJ3.stb _ _ _ _ _ _ _ _ _ P HJ2.out hbb (fun _ h => .inl h))
      have d1 := HJc.out.1.2.2.1
      go_wp2_with fail
      have HKc := Hid.intro (HP0.out.up HFc.out.size)
      have HX := Hid.intro HJc.out.1
      have HV := Hid.intro HJc.out.2.2.2
      have d1 := HX.out.2.2.1
      obtain ⟨hBE, hEn, hnw, ps, cs, vs, he, hown, hrep, hpa⟩ := HJc.out.2.2.2
      have e0 : wc.cell? ⟨C, 2, none⟩ = some (.slice ps l.length cs) := by rw [(heap_cell he 2).1]; exact hAj _
      have hEw : C < wc.heap.size := by omega
      (try simp only [List.length_tail] at HT)
      refine wp_region_held_drew (S := fun w' => w'.cell? ⟨c1, 0, none⟩ = some (.pointer (some ⟨B, 0, none⟩))) hmo d1 (fun hS => ?_)
      refine tq 0 11 (.pointer (some ⟨C, 2, none⟩)) hS ?_
      simp only [n3]
      refine tq 2 13 (.pointer (some ⟨B, 0, none⟩)) hS ?_
      simp only [n3]
      refine on2 1 3 rfl (fun K' hK => ?_) rfl (fun K' hK => ?_)
      ·go_simp
       refine hK.out _ _ (hS) (fun hS => ?_)
       clear hK K'
       (try simp only [Act.put, n3])
       refine on1 3 rfl (fun K' hK => ?_)
       go_simp
       refine (HT wc.drew (HP.out.via (Below.refl _ _).drew)).out.mono ?_
       rintro e w4 ⟨hb4, rfl⟩
       refine ⟨rfl, HFc.out.trans (((Bt.refl B wc).drew.trans hb4).fr HKc.out), ?_⟩
       rw [← HE.out]
      ·go_simp
       refine (HT wc.drew (HP.out.via (Below.refl _ _).drew)).out.mono ?_
       rintro e w4 ⟨hb4, rfl⟩
       refine ⟨rfl, HFc.out.trans (((Bt.refl B wc).drew.trans hb4).fr HKc.out), ?_⟩
       rw [← HE.out]
     | ok t r1 =>
      rw [hm] at HT
      rw [hm, bd_ok] at HE
      clear hm
      have hV2 := HJ.out.2.2.2
      obtain ⟨-, -, hnw2, ps2, cs2, -, he2, -⟩ := hV2
      go_wp2_with fail
      refine HI.out.mono ?_
      rintro e w2 ⟨rfl, hb2⟩
      have HJ2 := Hid.intro (CJ3.stb _ _ _ _ _ _ _ _ _ P HJ.out (Bt.below hb2) (fun _ h => .inl h))
      have HQ2 := Hid.intro (HQ.out.via hb2)
      have HF2 := Hid.intro (HF.out.trans ((Bt.below hb2).fr HK.out))
      have hx2 := HJ2.out.1.2.2.1
      obtain ⟨ps3, cs3, he3⟩ : ∃ ps cs, w2.heap[C]? = some (.cells (A (.slice ps l.length cs)) 58 (0, 0)) := by obtain ⟨-, -, -, ps, cs, -, he, -⟩ := HJ2.out.2.2.2; exact ⟨ps, cs, he⟩
      have e3 : w2.cell? ⟨C, 2, none⟩ = some (.slice ps3 l.length cs3) := by rw [(heap_cell he3 2).1]; exact hAj _
      have hCl2 : C < w2.heap.size := (Array.getElem?_eq_some_iff.1 he3).1
      have HK2 := Hid.intro (HP0.out.up HF2.out.size)
      clear he3
      go_wp2_with fail
      refine (HS _ HQ2.out).out.mono ?_
      rintro e wc ⟨rfl, hb3⟩
      have HP := Hid.intro (HQ2.out.via hb3)
      have hbb := Bt.below (B := B) hb3
      have HFc := Hid.intro (HF2.out.trans (hbb.fr HK2.out))
      have HJc := Hid.intro (CJ3.stb _ _ _ _ _ _ _ _ _ P HJ2.out hbb (fun _ h => .inl h))
      have d1 := HJc.out.1.2.2.1
      go_wp2_with fail
      have HKc := Hid.intro (HP0.out.up HFc.out.size)
      have HX := Hid.intro HJc.out.1
      have HV := Hid.intro HJc.out.2.2.2
      have d1 := HX.out.2.2.1
      obtain ⟨hBE, hEn, hnw, ps, cs, vs, he, hown, hrep, hpa⟩ := HJc.out.2.2.2
      have e0 : wc.cell? ⟨C, 2, none⟩ = some (.slice ps l.length cs) := by rw [(heap_cell he 2).1]; exact hAj _
      have hEw : C < wc.heap.size := by omega
      (try simp only [List.length_tail] at HT)
      refine wp_region_held_drew (S := fun w' => w'.cell? ⟨c1, 0, none⟩ = some (.pointer (some ⟨B, 0, none⟩))) hmo d1 (fun hS => ?_)
      refine tq 0 11 (.pointer (some ⟨C, 2, none⟩)) hS ?_
      simp only [n3]
      refine tq 2 13 (.pointer (some ⟨B, 0, none⟩)) hS ?_
      simp only [n3]
      refine on2 1 3 rfl (fun K' hK => ?_) rfl (fun K' hK => ?_)
      ·go_simp
       refine hK.out _ _ (hS) (fun hS => ?_)
       clear hK K'
       (try simp only [Act.put, n3])
       refine on1 3 rfl (fun K' hK => ?_)
       go_simp
       refine (HT wc.drew (HP.out.via (Below.refl _ _).drew)).out.mono ?_
       rintro e w4 ⟨hb4, hl4, hp4, v4, rfl, rfl⟩
       have hbt4 : Bt B wc w4 := (Bt.refl B wc).drew.trans hb4
       have hx4 := HX.out.bt hbt4
       have hV4 := RowA.stb _ _ _ P HV.out hbt4 (fun _ h => .inl h)
       obtain ⟨-, -, hnw4, ps4, cs4, vs4, he4, hown4, hrep4, hpa4⟩ := hV4
       obtain ⟨rfl, rfl⟩ : ps4 = ps ∧ cs4 = cs := by have h8 := (row_bt hbt4 (by omega) he).symm.trans he4; have h9 := congrArg (fun o => match o with | some (Obj.cells a _ _) => a[2]? | _ => none) h8; simp only [hAj, Option.some.injEq, Value.slice.injEq, true_and] at h9; exact ⟨h9.1.symm, h9.2.symm⟩
       have hc4 := hx4.2.2.1
       have hs4 : wc.heap.size ≤ w4.heap.size := hb4.size
       go_wp2_with fail
       refine hK.out _ _ (hc4) (fun hS => ?_)
       clear hK K'
       (try simp only [Act.put, n3])
       refine on1 4 rfl (fun K' hK => ?_)
       go_simp
       go_wp2_with fail
       refine hK.out _ _ (((hx4.bt ((Bt.refl B w4).alloc _)).2.2.1)) (fun hS => ?_)
       clear hK K'
       (try simp only [Act.put, n3])
       have hal : w4.heap.size < (w4.alloc (.cells #[.string t.n, .int .i64 t.t, .string t.c] 90)).heap.size := by simp
       refine on1 5 rfl (fun K' hK => ?_)
       rw [if_pos (by rfl)]
       refine wp_append_own _ _ 56 rfl n 90 i0 _ 3 40 Tryz.underlying56 hi hz0 hz1 hz2 rfl (by decide) _ _ _ rfl (hown4.alloc _) ⟨w4.heap.size, 0, none⟩ 1 1 [.string t.n, .int .i64 t.t, .string t.c] rfl rfl (fun j u hj => by rw [addr_add, Nat.zero_add, (heap_cell (heap_alloc_new w4 _) j).1, ← hj]; simp) (by simp [Value.oneCell']) (by unfold maxLen; omega) (by omega) (by simp; omega) (fun sv' w5 hown5 hgr5 hat5 => ?_)
       have htr : reps (fun b => n ≤ b ∧ some b ≠ Value.ownBlock (.slice ps4 l.length cs4)) (w4.alloc (.cells #[.string t.n, .int .i64 t.t, .string t.c] 90)) t.cs [.string t.n, .int .i64 t.t, .string t.c] := reps.cons (rep.lit rfl) (reps.cons (rep.lit rfl) (reps.cons (rep.lit rfl) reps.nil))
       obtain ⟨g5, k5, rfl⟩ := ownsRow_succ hown5
       obtain ⟨hV5, hF5, hE5⟩ := RowA.push (j := 2) hA hBE hEn (by simp; omega) ((heap_alloc_old w4 _ (by omega)).trans he4) (hown4.alloc _) (reps.move (Kp.alloc w4 _) (fun _ _ h => h) _ _ hrep4) hpa4 ((HKc.out.up hs4).up (by simp)) htr hown5 hgr5 hat5
       have hx5 := (hx4.bt ((Bt.refl B w4).alloc _)).grown hgr5 (own_below hown4 (.inl h2))
       have e5 : w5.cell? ⟨C, 2, none⟩ = some (.slice ps4 l.length cs4) := by rw [(heap_cell hE5 2).1]; exact hAj _
       have f5 : w5.frozen? ⟨C, 2, none⟩ = false := (heap_cell hE5 2).2
       refine hK.out _ _ (hx5.2.2.1) (fun hS => ?_)
       clear hK K'
       (try simp only [Act.put, List.setIfInBounds_toArray])
       refine tq 6 17 (.pointer (some ⟨C, 2, none⟩)) hS ?_
       simp only [n3]
       refine on1 7 rfl (fun K' hK => ?_)
       go_simp
       go_wp2_with fail
       refine hK.out _ _ ((hx5.set h3).2.2.1) (fun hS => ?_)
       clear hK K'
       (try simp only [Act.put, n3])
       refine wpAnyH_done (by kernel_rfl) ?_ _
       have hp5 := ((hp4.via (below_al (Below.refl _ _) _)).grown hgr5 (fun k hk => by have := (hown4.lt k hk).1; omega)).set (g := C) hCK 2 (.slice (some ⟨g5, 0, none⟩) (l.length + 1) k5)
       have hr5 := hp5.rlen
       go_wp2_with fail
       go_roundw
       case rel => exact ⟨l ++ [t], r1, f, Hid.intro (HFc.out.trans (((hbt4.fr HKc.out).alloc (HKc.out.up hs4 · · |>.1) _).trans hF5)), Hid.intro ⟨hx5.set h3, h2, h3, by simpa [List.flatMap_append] using hV5⟩, Hid.intro hp5, by simp; omega, by omega, by omega, HE⟩
       case measure => omega
      ·go_simp
       refine (HT wc.drew (HP.out.via (Below.refl _ _).drew)).out.mono ?_
       rintro e w4 ⟨hb4, hl4, hp4, v4, rfl, rfl⟩
       have hbt4 : Bt B wc w4 := (Bt.refl B wc).drew.trans hb4
       have hx4 := HX.out.bt hbt4
       have hV4 := RowA.stb _ _ _ P HV.out hbt4 (fun _ h => .inl h)
       obtain ⟨-, -, hnw4, ps4, cs4, vs4, he4, hown4, hrep4, hpa4⟩ := hV4
       obtain ⟨rfl, rfl⟩ : ps4 = ps ∧ cs4 = cs := by have h8 := (row_bt hbt4 (by omega) he).symm.trans he4; have h9 := congrArg (fun o => match o with | some (Obj.cells a _ _) => a[2]? | _ => none) h8; simp only [hAj, Option.some.injEq, Value.slice.injEq, true_and] at h9; exact ⟨h9.1.symm, h9.2.symm⟩
       have hc4 := hx4.2.2.1
       have hs4 : wc.heap.size ≤ w4.heap.size := hb4.size
       go_wp2_with fail
       refine hK.out _ _ (hc4) (fun hS => ?_)
       clear hK K'
       (try simp only [Act.put, n3])
       refine on2 1 4 rfl (fun K' hK => ?_) rfl (fun K' hK => ?_)
       ·have e04 : w4.cell? ⟨C, 2, none⟩ = some (.slice ps4 l.length cs4) := by rw [(heap_cell he4 2).1]; exact hAj _
        have hEw4 : C < w4.heap.size := by omega
        go_simp
        refine hK.out _ _ (hS) (fun hS => ?_)
        clear hK K'
        (try simp only [Act.put, n3])
        refine on1 4 rfl (fun K' hK => ?_)
        go_simp
        go_wp2_with fail
        refine hK.out _ _ (((hx4.bt ((Bt.refl B w4).alloc _)).2.2.1)) (fun hS => ?_)
        clear hK K'
        (try simp only [Act.put, n3])
        have hal : w4.heap.size < (w4.alloc (.cells #[.string t.n, .int .i64 t.t, .string t.c] 90)).heap.size := by simp
        refine on1 5 rfl (fun K' hK => ?_)
        rw [if_pos (by rfl)]
        refine wp_append_own _ _ 56 rfl n 90 i0 _ 3 40 Tryz.underlying56 hi hz0 hz1 hz2 rfl (by decide) _ _ _ rfl (hown4.alloc _) ⟨w4.heap.size, 0, none⟩ 1 1 [.string t.n, .int .i64 t.t, .string t.c] rfl rfl (fun j u hj => by rw [addr_add, Nat.zero_add, (heap_cell (heap_alloc_new w4 _) j).1, ← hj]; simp) (by simp [Value.oneCell']) (by unfold maxLen; omega) (by omega) (by simp; omega) (fun sv' w5 hown5 hgr5 hat5 => ?_)
        have htr : reps (fun b => n ≤ b ∧ some b ≠ Value.ownBlock (.slice ps4 l.length cs4)) (w4.alloc (.cells #[.string t.n, .int .i64 t.t, .string t.c] 90)) t.cs [.string t.n, .int .i64 t.t, .string t.c] := reps.cons (rep.lit rfl) (reps.cons (rep.lit rfl) (reps.cons (rep.lit rfl) reps.nil))
        obtain ⟨g5, k5, rfl⟩ := ownsRow_succ hown5
        obtain ⟨hV5, hF5, hE5⟩ := RowA.push (j := 2) hA hBE hEn (by simp; omega) ((heap_alloc_old w4 _ (by omega)).trans he4) (hown4.alloc _) (reps.move (Kp.alloc w4 _) (fun _ _ h => h) _ _ hrep4) hpa4 ((HKc.out.up hs4).up (by simp)) htr hown5 hgr5 hat5
        have hx5 := (hx4.bt ((Bt.refl B w4).alloc _)).grown hgr5 (own_below hown4 (.inl h2))
        have e5 : w5.cell? ⟨C, 2, none⟩ = some (.slice ps4 l.length cs4) := by rw [(heap_cell hE5 2).1]; exact hAj _
        have f5 : w5.frozen? ⟨C, 2, none⟩ = false := (heap_cell hE5 2).2
        refine hK.out _ _ (hx5.2.2.1) (fun hS => ?_)
        clear hK K'
        (try simp only [Act.put, List.setIfInBounds_toArray])
        refine tq 6 17 (.pointer (some ⟨C, 2, none⟩)) hS ?_
        simp only [n3]
        refine on1 7 rfl (fun K' hK => ?_)
        go_simp
        go_wp2_with fail
        refine hK.out _ _ ((hx5.set h3).2.2.1) (fun hS => ?_)
        clear hK K'
        (try simp only [Act.put, n3])
        refine wpAnyH_done (by kernel_rfl) ?_ _
        have hp5 := ((hp4.via (below_al (Below.refl _ _) _)).grown hgr5 (fun k hk => by have := (hown4.lt k hk).1; omega)).set (g := C) hCK 2 (.slice (some ⟨g5, 0, none⟩) (l.length + 1) k5)
        have hr5 := hp5.rlen
        go_wp2_with fail
        go_roundw
        case rel => exact ⟨l ++ [t], r1, f, Hid.intro (HFc.out.trans (((hbt4.fr HKc.out).alloc (HKc.out.up hs4 · · |>.1) _).trans hF5)), Hid.intro ⟨hx5.set h3, h2, h3, by simpa [List.flatMap_append] using hV5⟩, Hid.intro hp5, by simp; omega, by omega, by omega, HE⟩
        case measure => omega
       ·go_simp
        go_wp2_with fail
        refine hK.out _ _ (((hx4.bt ((Bt.refl B w4).alloc _)).2.2.1)) (fun hS => ?_)
        clear hK K'
        (try simp only [Act.put, n3])
        refine on1 1 rfl (fun K' hK => ?_)
        have e04 : w4.cell? ⟨C, 2, none⟩ = some (.slice ps4 l.length cs4) := by rw [(heap_cell he4 2).1]; exact hAj _
        have hEw4 : C < w4.heap.size := by omega
        go_simp
        refine hK.out _ _ (((hx4.bt ((Bt.refl B w4).alloc _)).2.2.1)) (fun hS => ?_)
        clear hK K'
        (try simp only [Act.put, n3])
        have hal : w4.heap.size < (w4.alloc (.cells #[.string t.n, .int .i64 t.t, .string t.c] 90)).heap.size := by simp
        refine on1 5 rfl (fun K' hK => ?_)
        rw [if_pos (by rfl)]
        refine wp_append_own _ _ 56 rfl n 90 i0 _ 3 40 Tryz.underlying56 hi hz0 hz1 hz2 rfl (by decide) _ _ _ rfl (hown4.alloc _) ⟨w4.heap.size, 0, none⟩ 1 1 [.string t.n, .int .i64 t.t, .string t.c] rfl rfl (fun j u hj => by rw [addr_add, Nat.zero_add, (heap_cell (heap_alloc_new w4 _) j).1, ← hj]; simp) (by simp [Value.oneCell']) (by unfold maxLen; omega) (by omega) (by simp; omega) (fun sv' w5 hown5 hgr5 hat5 => ?_)
        have htr : reps (fun b => n ≤ b ∧ some b ≠ Value.ownBlock (.slice ps4 l.length cs4)) (w4.alloc (.cells #[.string t.n, .int .i64 t.t, .string t.c] 90)) t.cs [.string t.n, .int .i64 t.t, .string t.c] := reps.cons (rep.lit rfl) (reps.cons (rep.lit rfl) (reps.cons (rep.lit rfl) reps.nil))
        obtain ⟨g5, k5, rfl⟩ := ownsRow_succ hown5
        obtain ⟨hV5, hF5, hE5⟩ := RowA.push (j := 2) hA hBE hEn (by simp; omega) ((heap_alloc_old w4 _ (by omega)).trans he4) (hown4.alloc _) (reps.move (Kp.alloc w4 _) (fun _ _ h => h) _ _ hrep4) hpa4 ((HKc.out.up hs4).up (by simp)) htr hown5 hgr5 hat5
        have hx5 := (hx4.bt ((Bt.refl B w4).alloc _)).grown hgr5 (own_below hown4 (.inl h2))
        have e5 : w5.cell? ⟨C, 2, none⟩ = some (.slice ps4 l.length cs4) := by rw [(heap_cell hE5 2).1]; exact hAj _
        have f5 : w5.frozen? ⟨C, 2, none⟩ = false := (heap_cell hE5 2).2
        refine hK.out _ _ (hx5.2.2.1) (fun hS => ?_)
        clear hK K'
        (try simp only [Act.put, List.setIfInBounds_toArray])
        refine tq 6 17 (.pointer (some ⟨C, 2, none⟩)) hS ?_
        simp only [n3]
        refine on1 7 rfl (fun K' hK => ?_)
        go_simp
        go_wp2_with fail
        refine hK.out _ _ ((hx5.set h3).2.2.1) (fun hS => ?_)
        clear hK K'
        (try simp only [Act.put, n3])
        refine wpAnyH_done (by kernel_rfl) ?_ _
        have hp5 := ((hp4.via (below_al (Below.refl _ _) _)).grown hgr5 (fun k hk => by have := (hown4.lt k hk).1; omega)).set (g := C) hCK 2 (.slice (some ⟨g5, 0, none⟩) (l.length + 1) k5)
        have hr5 := hp5.rlen
        go_wp2_with fail
        go_roundw
        case rel => exact ⟨l ++ [t], r1, f, Hid.intro (HFc.out.trans (((hbt4.fr HKc.out).alloc (HKc.out.up hs4 · · |>.1) _).trans hF5)), Hid.intro ⟨hx5.set h3, h2, h3, by simpa [List.flatMap_append] using hV5⟩, Hid.intro hp5, by simp; omega, by omega, by omega, HE⟩
        case measure => omega
   ·rw [if_neg (by simp [hz])] at HE
    have hgt : decide ((l.length : Int) > 0) = false := by simpa using hz
    clear HYes HNo
    have HT := HT (r')
    cases hm : fieldM (r') with
    | bad q =>
     rw [hm] at HT
     rw [hm, bd_bad] at HE
     clear hm
     go_wp2_with fail
     refine HI.out.mono ?_
     rintro e w2 ⟨rfl, hb2⟩
     have HJ2 := Hid.intro (CJ3.stb _ _ _ _ _ _ _ _ _ P HJ.out (Bt.below hb2) (fun _ h => .inl h))
     have HQ2 := Hid.intro (HQ.out.via hb2)
     have HF2 := Hid.intro (HF.out.trans ((Bt.below hb2).fr HK.out))
     have hx2 := HJ2.out.1.2.2.1
     obtain ⟨ps3, cs3, he3⟩ : ∃ ps cs, w2.heap[C]? = some (.cells (A (.slice ps l.length cs)) 58 (0, 0)) := by obtain ⟨-, -, -, ps, cs, -, he, -⟩ := HJ2.out.2.2.2; exact ⟨ps, cs, he⟩
     have e3 : w2.cell? ⟨C, 2, none⟩ = some (.slice ps3 l.length cs3) := by rw [(heap_cell he3 2).1]; exact hAj _
     have hCl2 : C < w2.heap.size := (Array.getElem?_eq_some_iff.1 he3).1
     have HK2 := Hid.intro (HP0.out.up HF2.out.size)
     clear he3
     go_wp2_with fail
     obtain ⟨wc, hwc⟩ : ∃ wc, wc = w2 := ⟨_, rfl⟩
     have HFc := HF2
     have HJc := HJ2
     have HP := HQ2
     rw [← hwc] at HFc HJc HP ⊢
     clear hwc
     have HKc := Hid.intro (HP0.out.up HFc.out.size)
     have HX := Hid.intro HJc.out.1
     have HV := Hid.intro HJc.out.2.2.2
     have d1 := HX.out.2.2.1
     obtain ⟨hBE, hEn, hnw, ps, cs, vs, he, hown, hrep, hpa⟩ := HJc.out.2.2.2
     have e0 : wc.cell? ⟨C, 2, none⟩ = some (.slice ps l.length cs) := by rw [(heap_cell he 2).1]; exact hAj _
     have hEw : C < wc.heap.size := by omega
     (try simp only [List.length_tail] at HT)
     refine wp_region_held_drew (S := fun w' => w'.cell? ⟨c1, 0, none⟩ = some (.pointer (some ⟨B, 0, none⟩))) hmo d1 (fun hS => ?_)
     refine tq 0 11 (.pointer (some ⟨C, 2, none⟩)) hS ?_
     simp only [n3]
     refine tq 2 13 (.pointer (some ⟨B, 0, none⟩)) hS ?_
     simp only [n3]
     refine on2 1 3 rfl (fun K' hK => ?_) rfl (fun K' hK => ?_)
     ·go_simp
      refine hK.out _ _ (hS) (fun hS => ?_)
      clear hK K'
      (try simp only [Act.put, n3])
      refine on1 3 rfl (fun K' hK => ?_)
      go_simp
      refine (HT wc.drew (HP.out.via (Below.refl _ _).drew)).out.mono ?_
      rintro e w4 ⟨hb4, rfl⟩
      refine ⟨rfl, HFc.out.trans (((Bt.refl B wc).drew.trans hb4).fr HKc.out), ?_⟩
      rw [← HE.out]
     ·go_simp
      refine (HT wc.drew (HP.out.via (Below.refl _ _).drew)).out.mono ?_
      rintro e w4 ⟨hb4, rfl⟩
      refine ⟨rfl, HFc.out.trans (((Bt.refl B wc).drew.trans hb4).fr HKc.out), ?_⟩
      rw [← HE.out]
    | ok t r1 =>
     rw [hm] at HT
     rw [hm, bd_ok] at HE
     clear hm
     go_wp2_with fail
     refine HI.out.mono ?_
     rintro e w2 ⟨rfl, hb2⟩
     have HJ2 := Hid.intro (CJ3.stb _ _ _ _ _ _ _ _ _ P HJ.out (Bt.below hb2) (fun _ h => .inl h))
     have HQ2 := Hid.intro (HQ.out.via hb2)
     have HF2 := Hid.intro (HF.out.trans ((Bt.below hb2).fr HK.out))
     have hx2 := HJ2.out.1.2.2.1
     obtain ⟨ps3, cs3, he3⟩ : ∃ ps cs, w2.heap[C]? = some (.cells (A (.slice ps l.length cs)) 58 (0, 0)) := by obtain ⟨-, -, -, ps, cs, -, he, -⟩ := HJ2.out.2.2.2; exact ⟨ps, cs, he⟩
     have e3 : w2.cell? ⟨C, 2, none⟩ = some (.slice ps3 l.length cs3) := by rw [(heap_cell he3 2).1]; exact hAj _
     have hCl2 : C < w2.heap.size := (Array.getElem?_eq_some_iff.1 he3).1
     have HK2 := Hid.intro (HP0.out.up HF2.out.size)
     clear he3
     go_wp2_with fail
     obtain ⟨wc, hwc⟩ : ∃ wc, wc = w2 := ⟨_, rfl⟩
     have HFc := HF2
     have HJc := HJ2
     have HP := HQ2
     rw [← hwc] at HFc HJc HP ⊢
     clear hwc
     have HKc := Hid.intro (HP0.out.up HFc.out.size)
     have HX := Hid.intro HJc.out.1
     have HV := Hid.intro HJc.out.2.2.2
     have d1 := HX.out.2.2.1
     obtain ⟨hBE, hEn, hnw, ps, cs, vs, he, hown, hrep, hpa⟩ := HJc.out.2.2.2
     have e0 : wc.cell? ⟨C, 2, none⟩ = some (.slice ps l.length cs) := by rw [(heap_cell he 2).1]; exact hAj _
     have hEw : C < wc.heap.size := by omega
     (try simp only [List.length_tail] at HT)
     refine wp_region_held_drew (S := fun w' => w'.cell? ⟨c1, 0, none⟩ = some (.pointer (some ⟨B, 0, none⟩))) hmo d1 (fun hS => ?_)
     refine tq 0 11 (.pointer (some ⟨C, 2, none⟩)) hS ?_
     simp only [n3]
     refine tq 2 13 (.pointer (some ⟨B, 0, none⟩)) hS ?_
     simp only [n3]
     refine on2 1 3 rfl (fun K' hK => ?_) rfl (fun K' hK => ?_)
     ·go_simp
      refine hK.out _ _ (hS) (fun hS => ?_)
      clear hK K'
      (try simp only [Act.put, n3])
      refine on1 3 rfl (fun K' hK => ?_)
      go_simp
      refine (HT wc.drew (HP.out.via (Below.refl _ _).drew)).out.mono ?_
      rintro e w4 ⟨hb4, hl4, hp4, v4, rfl, rfl⟩
      have hbt4 : Bt B wc w4 := (Bt.refl B wc).drew.trans hb4
      have hx4 := HX.out.bt hbt4
      have hV4 := RowA.stb _ _ _ P HV.out hbt4 (fun _ h => .inl h)
      obtain ⟨-, -, hnw4, ps4, cs4, vs4, he4, hown4, hrep4, hpa4⟩ := hV4
      obtain ⟨rfl, rfl⟩ : ps4 = ps ∧ cs4 = cs := by have h8 := (row_bt hbt4 (by omega) he).symm.trans he4; have h9 := congrArg (fun o => match o with | some (Obj.cells a _ _) => a[2]? | _ => none) h8; simp only [hAj, Option.some.injEq, Value.slice.injEq, true_and] at h9; exact ⟨h9.1.symm, h9.2.symm⟩
      have hc4 := hx4.2.2.1
      have hs4 : wc.heap.size ≤ w4.heap.size := hb4.size
      go_wp2_with fail
      refine hK.out _ _ (hc4) (fun hS => ?_)
      clear hK K'
      (try simp only [Act.put, n3])
      refine on1 4 rfl (fun K' hK => ?_)
      go_simp
      go_wp2_with fail
      refine hK.out _ _ (((hx4.bt ((Bt.refl B w4).alloc _)).2.2.1)) (fun hS => ?_)
      clear hK K'
      (try simp only [Act.put, n3])
      have hal : w4.heap.size < (w4.alloc (.cells #[.string t.n, .int .i64 t.t, .string t.c] 90)).heap.size := by simp
      refine on1 5 rfl (fun K' hK => ?_)
      rw [if_pos (by rfl)]
      refine wp_append_own _ _ 56 rfl n 90 i0 _ 3 40 Tryz.underlying56 hi hz0 hz1 hz2 rfl (by decide) _ _ _ rfl (hown4.alloc _) ⟨w4.heap.size, 0, none⟩ 1 1 [.string t.n, .int .i64 t.t, .string t.c] rfl rfl (fun j u hj => by rw [addr_add, Nat.zero_add, (heap_cell (heap_alloc_new w4 _) j).1, ← hj]; simp) (by simp [Value.oneCell']) (by unfold maxLen; omega) (by omega) (by simp; omega) (fun sv' w5 hown5 hgr5 hat5 => ?_)
      have htr : reps (fun b => n ≤ b ∧ some b ≠ Value.ownBlock (.slice ps4 l.length cs4)) (w4.alloc (.cells #[.string t.n, .int .i64 t.t, .string t.c] 90)) t.cs [.string t.n, .int .i64 t.t, .string t.c] := reps.cons (rep.lit rfl) (reps.cons (rep.lit rfl) (reps.cons (rep.lit rfl) reps.nil))
      obtain ⟨g5, k5, rfl⟩ := ownsRow_succ hown5
      obtain ⟨hV5, hF5, hE5⟩ := RowA.push (j := 2) hA hBE hEn (by simp; omega) ((heap_alloc_old w4 _ (by omega)).trans he4) (hown4.alloc _) (reps.move (Kp.alloc w4 _) (fun _ _ h => h) _ _ hrep4) hpa4 ((HKc.out.up hs4).up (by simp)) htr hown5 hgr5 hat5
      have hx5 := (hx4.bt ((Bt.refl B w4).alloc _)).grown hgr5 (own_below hown4 (.inl h2))
      have e5 : w5.cell? ⟨C, 2, none⟩ = some (.slice ps4 l.length cs4) := by rw [(heap_cell hE5 2).1]; exact hAj _
      have f5 : w5.frozen? ⟨C, 2, none⟩ = false := (heap_cell hE5 2).2
      refine hK.out _ _ (hx5.2.2.1) (fun hS => ?_)
      clear hK K'
      (try simp only [Act.put, List.setIfInBounds_toArray])
      refine tq 6 17 (.pointer (some ⟨C, 2, none⟩)) hS ?_
      simp only [n3]
      refine on1 7 rfl (fun K' hK => ?_)
      go_simp
      go_wp2_with fail
      refine hK.out _ _ ((hx5.set h3).2.2.1) (fun hS => ?_)
      clear hK K'
      (try simp only [Act.put, n3])
      refine wpAnyH_done (by kernel_rfl) ?_ _
      have hp5 := ((hp4.via (below_al (Below.refl _ _) _)).grown hgr5 (fun k hk => by have := (hown4.lt k hk).1; omega)).set (g := C) hCK 2 (.slice (some ⟨g5, 0, none⟩) (l.length + 1) k5)
      have hr5 := hp5.rlen
      go_wp2_with fail
      go_roundw
      case rel => exact ⟨l ++ [t], r1, f, Hid.intro (HFc.out.trans (((hbt4.fr HKc.out).alloc (HKc.out.up hs4 · · |>.1) _).trans hF5)), Hid.intro ⟨hx5.set h3, h2, h3, by simpa [List.flatMap_append] using hV5⟩, Hid.intro hp5, by simp; omega, by omega, by omega, HE⟩
      case measure => omega
     ·go_simp
      refine (HT wc.drew (HP.out.via (Below.refl _ _).drew)).out.mono ?_
      rintro e w4 ⟨hb4, hl4, hp4, v4, rfl, rfl⟩
      have hbt4 : Bt B wc w4 := (Bt.refl B wc).drew.trans hb4
      have hx4 := HX.out.bt hbt4
      have hV4 := RowA.stb _ _ _ P HV.out hbt4 (fun _ h => .inl h)
      obtain ⟨-, -, hnw4, ps4, cs4, vs4, he4, hown4, hrep4, hpa4⟩ := hV4
      obtain ⟨rfl, rfl⟩ : ps4 = ps ∧ cs4 = cs := by have h8 := (row_bt hbt4 (by omega) he).symm.trans he4; have h9 := congrArg (fun o => match o with | some (Obj.cells a _ _) => a[2]? | _ => none) h8; simp only [hAj, Option.some.injEq, Value.slice.injEq, true_and] at h9; exact ⟨h9.1.symm, h9.2.symm⟩
      have hc4 := hx4.2.2.1
      have hs4 : wc.heap.size ≤ w4.heap.size := hb4.size
      go_wp2_with fail
      refine hK.out _ _ (hc4) (fun hS => ?_)
      clear hK K'
      (try simp only [Act.put, n3])
      refine on2 1 4 rfl (fun K' hK => ?_) rfl (fun K' hK => ?_)
      ·have e04 : w4.cell? ⟨C, 2, none⟩ = some (.slice ps4 l.length cs4) := by rw [(heap_cell he4 2).1]; exact hAj _
       have hEw4 : C < w4.heap.size := by omega
       go_simp
       refine hK.out _ _ (hS) (fun hS => ?_)
       clear hK K'
       (try simp only [Act.put, n3])
       refine on1 4 rfl (fun K' hK => ?_)
       go_simp
       go_wp2_with fail
       refine hK.out _ _ (((hx4.bt ((Bt.refl B w4).alloc _)).2.2.1)) (fun hS => ?_)
       clear hK K'
       (try simp only [Act.put, n3])
       have hal : w4.heap.size < (w4.alloc (.cells #[.string t.n, .int .i64 t.t, .string t.c] 90)).heap.size := by simp
       refine on1 5 rfl (fun K' hK => ?_)
       rw [if_pos (by rfl)]
       refine wp_append_own _ _ 56 rfl n 90 i0 _ 3 40 Tryz.underlying56 hi hz0 hz1 hz2 rfl (by decide) _ _ _ rfl (hown4.alloc _) ⟨w4.heap.size, 0, none⟩ 1 1 [.string t.n, .int .i64 t.t, .string t.c] rfl rfl (fun j u hj => by rw [addr_add, Nat.zero_add, (heap_cell (heap_alloc_new w4 _) j).1, ← hj]; simp) (by simp [Value.oneCell']) (by unfold maxLen; omega) (by omega) (by simp; omega) (fun sv' w5 hown5 hgr5 hat5 => ?_)
       have htr : reps (fun b => n ≤ b ∧ some b ≠ Value.ownBlock (.slice ps4 l.length cs4)) (w4.alloc (.cells #[.string t.n, .int .i64 t.t, .string t.c] 90)) t.cs [.string t.n, .int .i64 t.t, .string t.c] := reps.cons (rep.lit rfl) (reps.cons (rep.lit rfl) (reps.cons (rep.lit rfl) reps.nil))
       obtain ⟨g5, k5, rfl⟩ := ownsRow_succ hown5
       obtain ⟨hV5, hF5, hE5⟩ := RowA.push (j := 2) hA hBE hEn (by simp; omega) ((heap_alloc_old w4 _ (by omega)).trans he4) (hown4.alloc _) (reps.move (Kp.alloc w4 _) (fun _ _ h => h) _ _ hrep4) hpa4 ((HKc.out.up hs4).up (by simp)) htr hown5 hgr5 hat5
       have hx5 := (hx4.bt ((Bt.refl B w4).alloc _)).grown hgr5 (own_below hown4 (.inl h2))
       have e5 : w5.cell? ⟨C, 2, none⟩ = some (.slice ps4 l.length cs4) := by rw [(heap_cell hE5 2).1]; exact hAj _
       have f5 : w5.frozen? ⟨C, 2, none⟩ = false := (heap_cell hE5 2).2
       refine hK.out _ _ (hx5.2.2.1) (fun hS => ?_)
       clear hK K'
       (try simp only [Act.put, List.setIfInBounds_toArray])
       refine tq 6 17 (.pointer (some ⟨C, 2, none⟩)) hS ?_
       simp only [n3]
       refine on1 7 rfl (fun K' hK => ?_)
       go_simp
       go_wp2_with fail
       refine hK.out _ _ ((hx5.set h3).2.2.1) (fun hS => ?_)
       clear hK K'
       (try simp only [Act.put, n3])
       refine wpAnyH_done (by kernel_rfl) ?_ _
       have hp5 := ((hp4.via (below_al (Below.refl _ _) _)).grown hgr5 (fun k hk => by have := (hown4.lt k hk).1; omega)).set (g := C) hCK 2 (.slice (some ⟨g5, 0, none⟩) (l.length + 1) k5)
       have hr5 := hp5.rlen
       go_wp2_with fail
       go_roundw
       case rel => exact ⟨l ++ [t], r1, f, Hid.intro (HFc.out.trans (((hbt4.fr HKc.out).alloc (HKc.out.up hs4 · · |>.1) _).trans hF5)), Hid.intro ⟨hx5.set h3, h2, h3, by simpa [List.flatMap_append] using hV5⟩, Hid.intro hp5, by simp; omega, by omega, by omega, HE⟩
       case measure => omega
      ·go_simp
       go_wp2_with fail
       refine hK.out _ _ (((hx4.bt ((Bt.refl B w4).alloc _)).2.2.1)) (fun hS => ?_)
       clear hK K'
       (try simp only [Act.put, n3])
       refine on1 1 rfl (fun K' hK => ?_)
       have e04 : w4.cell? ⟨C, 2, none⟩ = some (.slice ps4 l.length cs4) := by rw [(heap_cell he4 2).1]; exact hAj _
       have hEw4 : C < w4.heap.size := by omega
       go_simp
       refine hK.out _ _ (((hx4.bt ((Bt.refl B w4).alloc _)).2.2.1)) (fun hS => ?_)
       clear hK K'
       (try simp only [Act.put, n3])
       have hal : w4.heap.size < (w4.alloc (.cells #[.string t.n, .int .i64 t.t, .string t.c] 90)).heap.size := by simp
       refine on1 5 rfl (fun K' hK => ?_)
       rw [if_pos (by rfl)]
       refine wp_append_own _ _ 56 rfl n 90 i0 _ 3 40 Tryz.underlying56 hi hz0 hz1 hz2 rfl (by decide) _ _ _ rfl (hown4.alloc _) ⟨w4.heap.size, 0, none⟩ 1 1 [.string t.n, .int .i64 t.t, .string t.c] rfl rfl (fun j u hj => by rw [addr_add, Nat.zero_add, (heap_cell (heap_alloc_new w4 _) j).1, ← hj]; simp) (by simp [Value.oneCell']) (by unfold maxLen; omega) (by omega) (by simp; omega) (fun sv' w5 hown5 hgr5 hat5 => ?_)
       have htr : reps (fun b => n ≤ b ∧ some b ≠ Value.ownBlock (.slice ps4 l.length cs4)) (w4.alloc (.cells #[.string t.n, .int .i64 t.t, .string t.c] 90)) t.cs [.string t.n, .int .i64 t.t, .string t.c] := reps.cons (rep.lit rfl) (reps.cons (rep.lit rfl) (reps.cons (rep.lit rfl) reps.nil))
       obtain ⟨g5, k5, rfl⟩ := ownsRow_succ hown5
       obtain ⟨hV5, hF5, hE5⟩ := RowA.push (j := 2) hA hBE hEn (by simp; omega) ((heap_alloc_old w4 _ (by omega)).trans he4) (hown4.alloc _) (reps.move (Kp.alloc w4 _) (fun _ _ h => h) _ _ hrep4) hpa4 ((HKc.out.up hs4).up (by simp)) htr hown5 hgr5 hat5
       have hx5 := (hx4.bt ((Bt.refl B w4).alloc _)).grown hgr5 (own_below hown4 (.inl h2))
       have e5 : w5.cell? ⟨C, 2, none⟩ = some (.slice ps4 l.length cs4) := by rw [(heap_cell hE5 2).1]; exact hAj _
       have f5 : w5.frozen? ⟨C, 2, none⟩ = false := (heap_cell hE5 2).2
       refine hK.out _ _ (hx5.2.2.1) (fun hS => ?_)
       clear hK K'
       (try simp only [Act.put, List.setIfInBounds_toArray])
       refine tq 6 17 (.pointer (some ⟨C, 2, none⟩)) hS ?_
       simp only [n3]
       refine on1 7 rfl (fun K' hK => ?_)
       go_simp
       go_wp2_with fail
       refine hK.out _ _ ((hx5.set h3).2.2.1) (fun hS => ?_)
       clear hK K'
       (try simp only [Act.put, n3])
       refine wpAnyH_done (by kernel_rfl) ?_ _
       have hp5 := ((hp4.via (below_al (Below.refl _ _) _)).grown hgr5 (fun k hk => by have := (hown4.lt k hk).1; omega)).set (g := C) hCK 2 (.slice (some ⟨g5, 0, none⟩) (l.length + 1) k5)
       have hr5 := hp5.rlen
       go_wp2_with fail
       go_roundw
       case rel => exact ⟨l ++ [t], r1, f, Hid.intro (HFc.out.trans (((hbt4.fr HKc.out).alloc (HKc.out.up hs4 · · |>.1) _).trans hF5)), Hid.intro ⟨hx5.set h3, h2, h3, by simpa [List.flatMap_append] using hV5⟩, Hid.intro hp5, by simp; omega, by omega, by omega, HE⟩
       case measure => omega
end
end Go.Proofs.YtoeodjobggodcaaGreatDoor
/- class. -/
namespace Go.Proofs.YtoeodjobggodcaaGreatDoor
section
open Go.RowKit
theorem infoClass : (Tryz.prog.info? 58).map (·.size) = some 3 := by kernel_rfl
theorem cls_within {K B C n0 : Nat} {s sp : ByteArray} {r : List Lx} {W : World} (hB : B < n0) (hC : n0 + 1 < C) (hKC : K ≤ C) (hX : Bx B n0 (.pointer (some ⟨B, 0, none⟩)) W) (hc : W.heap[C]? = some (.cells #[.string s, .string sp, .slice none 0 0] 58 (0, 0))) (hp : PAt K W B r 0) (hlen : r.length ≤ 5000) :
  Calls Tryz.prog 60 #[.pointer (some ⟨B, 0, none⟩), .string ⟨#[123]⟩, .string ⟨#[125]⟩, .func (.func 61) #[] #[.pointer (some ⟨n0, 0, none⟩), .pointer (some ⟨C, 0, none⟩)]] W (CPost K B 0 (r.length - 1) (fun b => (b < n0 ∧ b ≠ B) ∨ b = n0 + 1) W QG (CJ3 (C + 1) B n0 C (fun u => #[.string s, .string sp, u])) (withinM ⟨#[123]⟩ ⟨#[125]⟩ 0 (fun r => fieldsL r.length [] r) r)) := by
 have hCs : C < W.heap.size := (Array.getElem?_eq_some_iff.1 hc).1
 exact within_any QG.tail (CJ3.stb (C + 1) B n0 C (fun u => #[.string s, .string sp, u])) (cls1_clo (C + 1) n0 C (fun u => #[.string s, .string sp, u]) (fun u u' => by simp) (fun u => by simp) hKC) (P := fun b => (b < n0 ∧ b ≠ B) ∨ b = n0 + 1) (s := []) (fun b hb => ⟨by omega, by omega⟩) (by unfold QG; simp; omega) ⟨hX, by omega, by omega, by omega, by omega, by omega, none, 0, [], hc, World.ownsRow_nil _ _ _ _, reps.nil, fun b hb => ⟨by omega, by simp [Value.ownBlock]⟩⟩ hp ⟨#[123]⟩ ⟨#[125]⟩
set_option maxRecDepth 100000 in
set_option maxHeartbeats 4000000 in
theorem class_any {K B : Nat} {r : List Lx} {w : World} (h : PAt K w B r 0) :
  Calls Tryz.prog 36 #[.pointer (some ⟨B, 0, none⟩)] w (Post K B 0 (r.length - 1) w (classM r) fun w' c v => ∃ p k, v = .agg #[.string c.n, .string c.s, .slice p c.f.length k] ∧ rep (fun b => w.heap.size ≤ b) w' (.sl c.f.length (c.f.flatMap Fd.cs)) (.slice p c.f.length k)) := by
 have hmf : ∀ (fn : Fn) (first cap : Array Value) (w : World), (Instr.makeFunc fn first cap).run Tryz.prog w = .ok (.func fn first cap) w := fun _ _ _ _ => rfl
 have hsz := h.size
 have hlen := h.len
 have b0 : Below w.heap.size w ((w.alloc (.cells #[.pointer (some ⟨B, 0, none⟩)] 55)).alloc (.cells #[.string ⟨#[]⟩, .string ⟨#[]⟩, .slice none 0 0] 58)) := below_al (below_al (Below.refl _ _) _) _
 have hX0 : Bx B w.heap.size (.pointer (some ⟨B, 0, none⟩)) ((w.alloc (.cells #[.pointer (some ⟨B, 0, none⟩)] 55)).alloc (.cells #[.string ⟨#[]⟩, .string ⟨#[]⟩, .slice none 0 0] 58)) := (Bx.new w _ _ (by omega)).bt ((Bt.refl B _).alloc _)
 have hR0 : ((w.alloc (.cells #[.pointer (some ⟨B, 0, none⟩)] 55)).alloc (.cells #[.string ⟨#[]⟩, .string ⟨#[]⟩, .slice none 0 0] 58)).heap[w.heap.size + 1]? = some (.cells #[.string ⟨#[]⟩, .string ⟨#[]⟩, .slice none 0 0] 58) := heap_alloc2_new w _ _
 have hd0 := hX0.2.2.1
 have HN := Hid.intro (pname_any (h.via b0))
 unfold classM
 cases h1 : nameM r with
 | bad q =>
  rw [h1] at HN
  rw [bd_bad]
  clear h1
  go_enter Tryz.func36, Tryz.ntmps36
  go_wp2_with fail
  refine HN.out.mono ?_
  rintro e v1 ⟨ht1, rfl⟩
  exact ⟨rfl, (Bt.below b0).trans ht1, rfl⟩
 | ok s r1 =>
  rw [h1] at HN
  rw [bd_ok]
  clear h1
  cases k1 : isM ⟨#[101, 120, 116, 101, 110, 100, 115]⟩ r1 with
  | true =>
   rw [if_pos rfl]
   have HS := fun w (h : PAt K w B r1 0) => Hid.intro (skip_yes h k1)
   clear k1
   have HM := fun w (h : PAt K w B r1.tail 0) => Hid.intro (pname_any h)
   cases h2 : nameM r1.tail with
   | bad q =>
    rw [h2] at HM
    rw [bd_bad]
    clear h2
    go_enter Tryz.func36, Tryz.ntmps36
    go_wp2_with fail
    refine HN.out.mono ?_
    rintro e v1 ⟨ht1, hl1, hp1, x, rfl, rfl⟩
    have hx1 := hX0.bt ht1
    have d1 := hx1.2.2.1
    have d1s := hx1.2.1
    have hR1 := row_bt ht1 (by omega) hR0
    have hlt1 : w.heap.size + 1 < v1.heap.size := (Array.getElem?_eq_some_iff.1 hR1).1
    have HC1 := Hid.intro (heap_alloc_new v1 (.cells #[.string s, .string ⟨#[]⟩, .slice none 0 0] 58))
    have HR1 := Hid.intro ((heap_alloc_old v1 (.cells #[.string s, .string ⟨#[]⟩, .slice none 0 0] 58) hlt1).trans hR1)
    have hxa := hx1.bt ((Bt.refl B v1).alloc (.cells #[.string s, .string ⟨#[]⟩, .slice none 0 0] 58))
    have HPa := Hid.intro (hp1.via (below_al (Below.refl _ _) (.cells #[.string s, .string ⟨#[]⟩, .slice none 0 0] 58)))
    clear hR1
    go_wp2_with fail
    refine (HS _ HPa.out).out.mono ?_
    rintro e v2 ⟨rfl, hb2, hp2⟩
    have hx2 := hxa.bt hb2
    have d2 := hx2.2.2.1
    go_wp2_with fail
    refine (HM _ hp2).out.mono ?_
    rintro e v3 ⟨hb3, rfl⟩
    exact ⟨rfl, ((((Bt.below b0).trans ht1).alloc _).trans hb2).trans hb3, rfl⟩
   | ok sp r2 =>
    rw [h2] at HM
    rw [bd_ok]
    clear h2
    have HWi := fun C W hC hK hX hc hp => Hid.intro (cls_within (K := K) (B := B) (C := C) (n0 := w.heap.size) (s := s) (sp := sp) (r := r2) (W := W) (Nat.lt_of_lt_of_le hsz.2 hsz.1) hC hK hX hc hp hp.len)
    cases hm : withinM ⟨#[123]⟩ ⟨#[125]⟩ 0 (fun r => fieldsL r.length [] r) (r2) with
    | bad q =>
     rw [hm] at HWi
     rw [bd_bad]
     clear hm
     go_enter Tryz.func36, Tryz.ntmps36
     go_wp2_with fail
     refine HN.out.mono ?_
     rintro e v1 ⟨ht1, hl1, hp1, x, rfl, rfl⟩
     have hx1 := hX0.bt ht1
     have d1 := hx1.2.2.1
     have d1s := hx1.2.1
     have hR1 := row_bt ht1 (by omega) hR0
     have hlt1 : w.heap.size + 1 < v1.heap.size := (Array.getElem?_eq_some_iff.1 hR1).1
     have HC1 := Hid.intro (heap_alloc_new v1 (.cells #[.string s, .string ⟨#[]⟩, .slice none 0 0] 58))
     have HR1 := Hid.intro ((heap_alloc_old v1 (.cells #[.string s, .string ⟨#[]⟩, .slice none 0 0] 58) hlt1).trans hR1)
     have hxa := hx1.bt ((Bt.refl B v1).alloc (.cells #[.string s, .string ⟨#[]⟩, .slice none 0 0] 58))
     have HPa := Hid.intro (hp1.via (below_al (Below.refl _ _) (.cells #[.string s, .string ⟨#[]⟩, .slice none 0 0] 58)))
     clear hR1
     go_wp2_with fail
     refine (HS _ HPa.out).out.mono ?_
     rintro e v2 ⟨rfl, hb2, hp2⟩
     have hx2 := hxa.bt hb2
     have d2 := hx2.2.2.1
     go_wp2_with fail
     refine (HM _ hp2).out.mono ?_
     rintro e v3 ⟨hb3, hl3, hp3, x', rfl, rfl⟩
     have hx3 := hx2.bt hb3
     have d3 := hx3.2.2.1
     have hb23 := hb2.trans hb3
     have hC3 := row_bt hb23 (by omega) HC1.out
     have hCs : v1.heap.size < v3.heap.size := (Array.getElem?_eq_some_iff.1 hC3).1
     have x1 : v3.cell? ⟨v1.heap.size, 1, none⟩ = some (.string ⟨#[]⟩) := (heap_cell hC3 1).1
     have y1 : v3.frozen? ⟨v1.heap.size, 1, none⟩ = false := (heap_cell hC3 1).2
     have hW : ∃ W0, W0 = v3.setCell ⟨v1.heap.size, 1, none⟩ (.string sp) := ⟨_, rfl⟩
     have HRr := Hid.intro ((Below.heap_setCell v3 ⟨v1.heap.size, 1, none⟩ (.string sp) (w.heap.size + 1) (by simp only; omega)).trans (row_bt hb23 (by omega) HR1.out))
     have HCc : Hid ((v3.setCell ⟨v1.heap.size, 1, none⟩ (.string sp)).heap[v1.heap.size]? = some (.cells #[.string s, .string sp, .slice none 0 0] 58 (0, 0))) := Hid.intro (by rw [heap_put hC3]; rfl)
     have hXx : Bx B w.heap.size (.pointer (some ⟨B, 0, none⟩)) (v3.setCell ⟨v1.heap.size, 1, none⟩ (.string sp)) := hx3.set (by omega)
     have HPp := Hid.intro (hp3.set (g := v1.heap.size) (by omega) 1 (.string sp))
     have HBb := Hid.intro (((((Bt.below (B := B) b0).trans ht1).alloc (.cells #[.string s, .string ⟨#[]⟩, .slice none 0 0] 58)).trans hb23).own (b := v1.heap.size) (by omega) 1 (.string sp))
     clear hW hC3
     have HWc := HWi _ _ (by omega) (by omega) hXx HCc.out HPp.out
     go_wp2_with fail
     refine HWc.out.mono ?_
     rintro e w1 ⟨hf, rfl⟩
     exact ⟨rfl, HBb.out.fra (hf.mono fun b hb => .inl hb), rfl⟩
    | ok l r3 =>
     rw [hm] at HWi
     rw [bd_ok]
     clear hm
     go_enter Tryz.func36, Tryz.ntmps36
     go_wp2_with fail
     refine HN.out.mono ?_
     rintro e v1 ⟨ht1, hl1, hp1, x, rfl, rfl⟩
     have hx1 := hX0.bt ht1
     have d1 := hx1.2.2.1
     have d1s := hx1.2.1
     have hR1 := row_bt ht1 (by omega) hR0
     have hlt1 : w.heap.size + 1 < v1.heap.size := (Array.getElem?_eq_some_iff.1 hR1).1
     have HC1 := Hid.intro (heap_alloc_new v1 (.cells #[.string s, .string ⟨#[]⟩, .slice none 0 0] 58))
     have HR1 := Hid.intro ((heap_alloc_old v1 (.cells #[.string s, .string ⟨#[]⟩, .slice none 0 0] 58) hlt1).trans hR1)
     have hxa := hx1.bt ((Bt.refl B v1).alloc (.cells #[.string s, .string ⟨#[]⟩, .slice none 0 0] 58))
     have HPa := Hid.intro (hp1.via (below_al (Below.refl _ _) (.cells #[.string s, .string ⟨#[]⟩, .slice none 0 0] 58)))
     clear hR1
     go_wp2_with fail
     refine (HS _ HPa.out).out.mono ?_
     rintro e v2 ⟨rfl, hb2, hp2⟩
     have hx2 := hxa.bt hb2
     have d2 := hx2.2.2.1
     go_wp2_with fail
     refine (HM _ hp2).out.mono ?_
     rintro e v3 ⟨hb3, hl3, hp3, x', rfl, rfl⟩
     have hx3 := hx2.bt hb3
     have d3 := hx3.2.2.1
     have hb23 := hb2.trans hb3
     have hC3 := row_bt hb23 (by omega) HC1.out
     have hCs : v1.heap.size < v3.heap.size := (Array.getElem?_eq_some_iff.1 hC3).1
     have x1 : v3.cell? ⟨v1.heap.size, 1, none⟩ = some (.string ⟨#[]⟩) := (heap_cell hC3 1).1
     have y1 : v3.frozen? ⟨v1.heap.size, 1, none⟩ = false := (heap_cell hC3 1).2
     have hW : ∃ W0, W0 = v3.setCell ⟨v1.heap.size, 1, none⟩ (.string sp) := ⟨_, rfl⟩
     have HRr := Hid.intro ((Below.heap_setCell v3 ⟨v1.heap.size, 1, none⟩ (.string sp) (w.heap.size + 1) (by simp only; omega)).trans (row_bt hb23 (by omega) HR1.out))
     have HCc : Hid ((v3.setCell ⟨v1.heap.size, 1, none⟩ (.string sp)).heap[v1.heap.size]? = some (.cells #[.string s, .string sp, .slice none 0 0] 58 (0, 0))) := Hid.intro (by rw [heap_put hC3]; rfl)
     have hXx : Bx B w.heap.size (.pointer (some ⟨B, 0, none⟩)) (v3.setCell ⟨v1.heap.size, 1, none⟩ (.string sp)) := hx3.set (by omega)
     have HPp := Hid.intro (hp3.set (g := v1.heap.size) (by omega) 1 (.string sp))
     have HBb := Hid.intro (((((Bt.below (B := B) b0).trans ht1).alloc (.cells #[.string s, .string ⟨#[]⟩, .slice none 0 0] 58)).trans hb23).own (b := v1.heap.size) (by omega) 1 (.string sp))
     clear hW hC3
     have HWc := HWi _ _ (by omega) (by omega) hXx HCc.out HPp.out
     go_wp2_with fail
     refine HWc.out.mono ?_
     rintro e w1 ⟨hf, rfl, hg, ⟨j1, j2, j3, k1, k2, k3, p, c, vs, k4, k5, k6, k7⟩, hp, hl⟩
     have HC2 := Hid.intro k4
     have HR2 := Hid.intro ((hf.block _ (.inr rfl)).trans HRr.out)
     have hrep : rep (fun b => v1.heap.size < b) w1 (.sl l.length (l.flatMap Fd.cs)) (.slice p l.length c) := rep.own k5 (reps.move Kp.refl (fun b _ h => by omega) _ _ k6) (fun g hg => by have := (k5.lt g hg).1; omega)
     go_wp2_with (first | (with_reducible refine (id (?_ : wpList _ _ _ (Oper.mk _ (Op.load _ _) _ _ _ _ :: _) _ _)); refine wpList_load_cells rfl _ _ rfl _ rfl _ _ _ HC2.out Tryz.underlying58 infoClass rfl ?_) | (with_reducible refine (id (?_ : wpList _ _ _ (Oper.mk _ (Op.store _ _ _) _ _ _ _ :: _) _ _)); refine wpList_store_row rfl _ _ _ rfl _ _ rfl rfl _ _ HR2.out infoClass rfl rfl (by simp [Value.oneCell']) ?_))
     refine ret_cells rfl rfl (setRow_heap _ _ _ _ _ _ HR2.out) Tryz.underlying58 infoClass rfl rfl (Post.ok ((HBb.out.fra (hf.mono fun b hb => .inl hb)).row (by omega) _) (by first | omega | (simp at hl3; omega) | (simp at hl; omega)) (hp.row (by omega) _) ?_)
     refine ⟨p, c, rfl, ?_⟩
     exact rep.move ⟨by simp, fun b hb _ o => World.cell?_of_block (a := ⟨b, o, none⟩) (setRow_other _ _ _ _ (by simp only; omega))⟩ (fun b _ h => by omega) _ _ hrep
  | false =>
   rw [if_neg (by simp)]
   have HS := fun w (h : PAt K w B r1 0) => Hid.intro (skip_no h k1)
   clear k1
   rw [bd_ok]
   have HWi := fun C W hC hK hX hc hp => Hid.intro (cls_within (K := K) (B := B) (C := C) (n0 := w.heap.size) (s := s) (sp := ⟨#[]⟩) (r := r1) (W := W) (Nat.lt_of_lt_of_le hsz.2 hsz.1) hC hK hX hc hp hp.len)
   cases hm : withinM ⟨#[123]⟩ ⟨#[125]⟩ 0 (fun r => fieldsL r.length [] r) (r1) with
   | bad q =>
    rw [hm] at HWi
    rw [bd_bad]
    clear hm
    go_enter Tryz.func36, Tryz.ntmps36
    go_wp2_with fail
    refine HN.out.mono ?_
    rintro e v1 ⟨ht1, hl1, hp1, x, rfl, rfl⟩
    have hx1 := hX0.bt ht1
    have d1 := hx1.2.2.1
    have d1s := hx1.2.1
    have hR1 := row_bt ht1 (by omega) hR0
    have hlt1 : w.heap.size + 1 < v1.heap.size := (Array.getElem?_eq_some_iff.1 hR1).1
    have HC1 := Hid.intro (heap_alloc_new v1 (.cells #[.string s, .string ⟨#[]⟩, .slice none 0 0] 58))
    have HR1 := Hid.intro ((heap_alloc_old v1 (.cells #[.string s, .string ⟨#[]⟩, .slice none 0 0] 58) hlt1).trans hR1)
    have hxa := hx1.bt ((Bt.refl B v1).alloc (.cells #[.string s, .string ⟨#[]⟩, .slice none 0 0] 58))
    have HPa := Hid.intro (hp1.via (below_al (Below.refl _ _) (.cells #[.string s, .string ⟨#[]⟩, .slice none 0 0] 58)))
    clear hR1
    go_wp2_with fail
    refine (HS _ HPa.out).out.mono ?_
    rintro e v2 ⟨rfl, hb2⟩
    have hb2' := Bt.below (B := B) hb2
    have hXx := hxa.bt hb2'
    have d2 := hXx.2.2.1
    have HCc := Hid.intro (row_bt hb2' (by omega) HC1.out)
    have HRr := Hid.intro (row_bt hb2' (by omega) HR1.out)
    have HPp := Hid.intro (HPa.out.via hb2)
    have HBb := Hid.intro ((((Bt.below (B := B) b0).trans ht1).alloc (.cells #[.string s, .string ⟨#[]⟩, .slice none 0 0] 58)).trans hb2')
    have HWc := HWi _ _ (by omega) (by omega) hXx HCc.out HPp.out
    go_wp2_with fail
    refine HWc.out.mono ?_
    rintro e w1 ⟨hf, rfl⟩
    exact ⟨rfl, HBb.out.fra (hf.mono fun b hb => .inl hb), rfl⟩
   | ok l r3 =>
    rw [hm] at HWi
    rw [bd_ok]
    clear hm
    go_enter Tryz.func36, Tryz.ntmps36
    go_wp2_with fail
    refine HN.out.mono ?_
    rintro e v1 ⟨ht1, hl1, hp1, x, rfl, rfl⟩
    have hx1 := hX0.bt ht1
    have d1 := hx1.2.2.1
    have d1s := hx1.2.1
    have hR1 := row_bt ht1 (by omega) hR0
    have hlt1 : w.heap.size + 1 < v1.heap.size := (Array.getElem?_eq_some_iff.1 hR1).1
    have HC1 := Hid.intro (heap_alloc_new v1 (.cells #[.string s, .string ⟨#[]⟩, .slice none 0 0] 58))
    have HR1 := Hid.intro ((heap_alloc_old v1 (.cells #[.string s, .string ⟨#[]⟩, .slice none 0 0] 58) hlt1).trans hR1)
    have hxa := hx1.bt ((Bt.refl B v1).alloc (.cells #[.string s, .string ⟨#[]⟩, .slice none 0 0] 58))
    have HPa := Hid.intro (hp1.via (below_al (Below.refl _ _) (.cells #[.string s, .string ⟨#[]⟩, .slice none 0 0] 58)))
    clear hR1
    go_wp2_with fail
    refine (HS _ HPa.out).out.mono ?_
    rintro e v2 ⟨rfl, hb2⟩
    have hb2' := Bt.below (B := B) hb2
    have hXx := hxa.bt hb2'
    have d2 := hXx.2.2.1
    have HCc := Hid.intro (row_bt hb2' (by omega) HC1.out)
    have HRr := Hid.intro (row_bt hb2' (by omega) HR1.out)
    have HPp := Hid.intro (HPa.out.via hb2)
    have HBb := Hid.intro ((((Bt.below (B := B) b0).trans ht1).alloc (.cells #[.string s, .string ⟨#[]⟩, .slice none 0 0] 58)).trans hb2')
    have HWc := HWi _ _ (by omega) (by omega) hXx HCc.out HPp.out
    go_wp2_with fail
    refine HWc.out.mono ?_
    rintro e w1 ⟨hf, rfl, hg, ⟨j1, j2, j3, k1, k2, k3, p, c, vs, k4, k5, k6, k7⟩, hp, hl⟩
    have HC2 := Hid.intro k4
    have HR2 := Hid.intro ((hf.block _ (.inr rfl)).trans HRr.out)
    have hrep : rep (fun b => v1.heap.size < b) w1 (.sl l.length (l.flatMap Fd.cs)) (.slice p l.length c) := rep.own k5 (reps.move Kp.refl (fun b _ h => by omega) _ _ k6) (fun g hg => by have := (k5.lt g hg).1; omega)
    go_wp2_with (first | (with_reducible refine (id (?_ : wpList _ _ _ (Oper.mk _ (Op.load _ _) _ _ _ _ :: _) _ _)); refine wpList_load_cells rfl _ _ rfl _ rfl _ _ _ HC2.out Tryz.underlying58 infoClass rfl ?_) | (with_reducible refine (id (?_ : wpList _ _ _ (Oper.mk _ (Op.store _ _ _) _ _ _ _ :: _) _ _)); refine wpList_store_row rfl _ _ _ rfl _ _ rfl rfl _ _ HR2.out infoClass rfl rfl (by simp [Value.oneCell']) ?_))
    refine ret_cells rfl rfl (setRow_heap _ _ _ _ _ _ HR2.out) Tryz.underlying58 infoClass rfl rfl (Post.ok ((HBb.out.fra (hf.mono fun b hb => .inl hb)).row (by omega) _) (by first | omega | (simp at hl3; omega) | (simp at hl; omega)) (hp.row (by omega) _) ?_)
    refine ⟨p, c, rfl, ?_⟩
    exact rep.move ⟨by simp, fun b hb _ o => World.cell?_of_block (a := ⟨b, o, none⟩) (setRow_other _ _ _ _ (by simp only; omega))⟩ (fun b _ h => by omega) _ _ hrep
end
end Go.Proofs.YtoeodjobggodcaaGreatDoor
