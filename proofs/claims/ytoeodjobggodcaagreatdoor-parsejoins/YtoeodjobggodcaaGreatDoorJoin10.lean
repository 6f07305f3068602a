import Derived.Test.YtoeodjobggodcaaGreatDoorJoin09
import Derived.Test.YtoeodjobggodcaaGreatDoorJoin08
import Derived.Deep.MidRow
/- query: the closure that fills its parameters. -/
namespace Go.Proofs.YtoeodjobggodcaaGreatDoor
section
open Go.RowKit
theorem infoStr' : (Tryz.prog.info? 9).map (fun i => (i.zero, i.size, i.bytes)) = some (some (.string ⟨#[]⟩), 1, 16) := by kernel_rfl
def QJ1 (n B c1 C : Nat) (A : Value → Array Value) (l : List ByteArray) (w : World) (P : Nat → Prop) : Prop := Bx B c1 (.pointer (some ⟨B, 0, none⟩)) w ∧ c1 < n ∧ c1 ≠ C ∧ RowA n B C 63 A 9 1 l.length (l.map dS) w P
theorem QJ1.stb (n B c1 C : Nat) (A : Value → Array Value) (l : List ByteArray) : Stb B (QJ1 n B c1 C A l) := fun w w' P P' h hb hp => ⟨h.1.bt hb, h.2.1, h.2.2.1, RowA.stb w w' P P' h.2.2.2 hb hp⟩
theorem run_qry1 (caps : Array Value) (w : World) : (callFunc 69 caps).run Tryz.prog w = .ok (.enter 69 caps) w := by simp [go_sem]
set_option maxRecDepth 100000 in
set_option maxHeartbeats 4000000 in
theorem qry1_clo {K B o : Nat} (n c1 C : Nat) (A : Value → Array Value) (hA : ∀ u u', (A u).setIfInBounds 1 u' = A u') (hAj : ∀ u, (A u)[1]? = some u) (hCK : K ≤ C) :
  Clo K B o QG (QJ1 n B c1 C A) 69 #[.pointer (some ⟨C, 0, none⟩), .pointer (some ⟨c1, 0, none⟩)] (fun l r => (varM r).bd fun t r => .ok (l ++ [t]) r) := by
 refine ⟨run_qry1 _, ?_⟩
 rintro P l r w hP hg ⟨h1, h2, h3, h5⟩ h
 show Calls _ _ _ _ (CPost K B o r.length P w _ _ ((varM r).bd fun t r => .ok (l ++ [t]) r))
 have HT := fun w (h : PAt K w B r o) => Hid.intro (pvar_any h)
 have hmo : Tryz.prog.follows .mixedOrders = true := by kernel_rfl
 obtain ⟨x, r0, hr0, -⟩ := gd_cons h.gd
 have hrl : 0 < r.length := by rw [hr0]; simp
 obtain ⟨i0, hi, hz0, hz1, hz2⟩ := info_parts infoStr'
 have d1 := h1.2.2.1
 have HX := Hid.intro h1
 have HV := Hid.intro h5
 obtain ⟨hBE, hEn, hnw, ps, cs, vs, he, hown, hrep, hpa⟩ := h5
 unfold QG at hg
 have hln : l.length ≤ 10000 := by omega
 have e0 : w.cell? ⟨C, 1, none⟩ = some (.slice ps l.length cs) := by rw [(heap_cell he 1).1]; exact hAj _
 have hEw : C < w.heap.size := by omega
 clear hr0
 cases hm : varM r with
 | bad q =>
  rw [hm] at HT
  rw [bd_bad]
  clear hm
  go_enter Tryz.func69, Tryz.ntmps69
  go_wp2_with fail
  refine wp_region_held_drew (S := fun w' => w'.cell? ⟨c1, 0, none⟩ = some (.pointer (some ⟨B, 0, none⟩))) hmo d1 (fun hS => ?_)
  refine tq 0 2 (.pointer (some ⟨C, 1, none⟩)) hS ?_
  simp only [n3]
  refine tq 2 4 (.pointer (some ⟨B, 0, none⟩)) hS ?_
  simp only [n3]
  refine on2 1 3 rfl (fun K' hK => ?_) rfl (fun K' hK => ?_)
  ·go_simp
   refine hK.out _ _ (hS) (fun hS => ?_)
   clear hK K'
   (try simp only [Act.put, n3])
   refine on1 3 rfl (fun K' hK => ?_)
   go_simp
   refine (HT w.drew (h.via (Below.refl _ _).drew)).out.mono ?_
   rintro e w4 ⟨hb4, rfl⟩
   exact ⟨rfl, ((Bt.refl B w).drew.trans hb4).fr hP, rfl⟩
  ·go_simp
   refine (HT w.drew (h.via (Below.refl _ _).drew)).out.mono ?_
   rintro e w4 ⟨hb4, rfl⟩
   exact ⟨rfl, ((Bt.refl B w).drew.trans hb4).fr hP, rfl⟩
 | ok t r1 =>
  rw [hm] at HT
  rw [bd_ok]
  clear hm
  go_enter Tryz.func69, Tryz.ntmps69
  go_wp2_with fail
  refine wp_region_held_drew (S := fun w' => w'.cell? ⟨c1, 0, none⟩ = some (.pointer (some ⟨B, 0, none⟩))) hmo d1 (fun hS => ?_)
  refine tq 0 2 (.pointer (some ⟨C, 1, none⟩)) hS ?_
  simp only [n3]
  refine tq 2 4 (.pointer (some ⟨B, 0, none⟩)) hS ?_
  simp only [n3]
  refine on2 1 3 rfl (fun K' hK => ?_) rfl (fun K' hK => ?_)
  ·go_simp
   refine hK.out _ _ (hS) (fun hS => ?_)
   clear hK K'
   (try simp only [Act.put, n3])
   refine on1 3 rfl (fun K' hK => ?_)
   go_simp
   refine (HT w.drew (h.via (Below.refl _ _).drew)).out.mono ?_
   rintro e w4 ⟨hb4, hl4, hp4, v4, rfl, rfl⟩
   have hbt4 : Bt B w w4 := (Bt.refl B w).drew.trans hb4
   have hx4 := HX.out.bt hbt4
   have hV4 := RowA.stb _ _ _ P HV.out hbt4 (fun _ h => .inl h)
   obtain ⟨-, -, hnw4, ps4, cs4, vs4, he4, hown4, hrep4, hpa4⟩ := hV4
   obtain ⟨rfl, rfl⟩ : ps4 = ps ∧ cs4 = cs := by have h8 := (row_bt hbt4 (by omega) he).symm.trans he4; have h9 := congrArg (fun o => match o with | some (Obj.cells a _ _) => a[1]? | _ => none) h8; simp only [hAj, Option.some.injEq, Value.slice.injEq, true_and] at h9; exact ⟨h9.1.symm, h9.2.symm⟩
   have hc4 := hx4.2.2.1
   have hs4 : w.heap.size ≤ w4.heap.size := hb4.size
   go_wp2_with fail
   refine hK.out _ _ (hc4) (fun hS => ?_)
   clear hK K'
   (try simp only [Act.put, n3])
   refine on1 4 rfl (fun K' hK => ?_)
   go_simp
   go_wp2_with fail
   refine hK.out _ _ (((hx4.bt ((Bt.refl B w4).alloc _)).2.2.1)) (fun hS => ?_)
   clear hK K'
   (try simp only [Act.put, n3])
   have hal : w4.heap.size < (w4.alloc (.cells #[.string t] 9)).heap.size := by simp
   refine on1 5 rfl (fun K' hK => ?_)
   rw [if_pos (by rfl)]
   refine wp_append_own _ _ 22 rfl n 9 i0 _ 1 16 Tryz.underlying22 hi hz0 hz1 hz2 rfl (by decide) _ _ _ rfl (hown4.alloc _) ⟨w4.heap.size, 0, none⟩ 1 1 [.string t] rfl rfl (fun j u hj => by rw [addr_add, Nat.zero_add, (heap_cell (heap_alloc_new w4 _) j).1, ← hj]; simp) (by simp [Value.oneCell']) (by unfold maxLen; omega) (by omega) (by simp; omega) (fun sv' w5 hown5 hgr5 hat5 => ?_)
   have htr : reps (fun b => n ≤ b ∧ some b ≠ Value.ownBlock (.slice ps4 l.length cs4)) (w4.alloc (.cells #[.string t] 9)) [dS t] [.string t] := reps.cons (rep.lit rfl) reps.nil
   obtain ⟨g5, k5, rfl⟩ := ownsRow_succ hown5
   obtain ⟨hV5, hF5, hE5⟩ := RowA.push (j := 1) hA hBE hEn (by simp; omega) ((heap_alloc_old w4 _ (by omega)).trans he4) (hown4.alloc _) (reps.move (Kp.alloc w4 _) (fun _ _ h => h) _ _ hrep4) hpa4 ((hP.up hs4).up (by simp)) htr hown5 hgr5 hat5
   have hx5 := (hx4.bt ((Bt.refl B w4).alloc _)).grown hgr5 (own_below hown4 (.inl h2))
   have e5 : w5.cell? ⟨C, 1, none⟩ = some (.slice ps4 l.length cs4) := by rw [(heap_cell hE5 1).1]; exact hAj _
   have f5 : w5.frozen? ⟨C, 1, none⟩ = false := (heap_cell hE5 1).2
   refine hK.out _ _ (hx5.2.2.1) (fun hS => ?_)
   clear hK K'
   (try simp only [Act.put, List.setIfInBounds_toArray])
   refine tq 6 8 (.pointer (some ⟨C, 1, none⟩)) hS ?_
   simp only [n3]
   refine on1 7 rfl (fun K' hK => ?_)
   go_simp
   go_wp2_with fail
   refine hK.out _ _ ((hx5.set h3).2.2.1) (fun hS => ?_)
   clear hK K'
   (try simp only [Act.put, n3])
   refine wpAnyH_done (by kernel_rfl) ?_ _
   go_wp2_with fail
   go_end0
   refine ⟨(((hbt4.fr hP).alloc (hP.up hs4 · · |>.1) _).trans hF5), rfl, by unfold QG; simp; omega, ⟨hx5.set h3, h2, h3, by simpa [] using hV5⟩, ((hp4.via (below_al (Below.refl _ _) _)).grown hgr5 (fun k hk => by have := (hown4.lt k hk).1; omega)).set hCK _ _, by omega⟩
  ·go_simp
   refine (HT w.drew (h.via (Below.refl _ _).drew)).out.mono ?_
   rintro e w4 ⟨hb4, hl4, hp4, v4, rfl, rfl⟩
   have hbt4 : Bt B w w4 := (Bt.refl B w).drew.trans hb4
   have hx4 := HX.out.bt hbt4
   have hV4 := RowA.stb _ _ _ P HV.out hbt4 (fun _ h => .inl h)
   obtain ⟨-, -, hnw4, ps4, cs4, vs4, he4, hown4, hrep4, hpa4⟩ := hV4
   obtain ⟨rfl, rfl⟩ : ps4 = ps ∧ cs4 = cs := by have h8 := (row_bt hbt4 (by omega) he).symm.trans he4; have h9 := congrArg (fun o => match o with | some (Obj.cells a _ _) => a[1]? | _ => none) h8; simp only [hAj, Option.some.injEq, Value.slice.injEq, true_and] at h9; exact ⟨h9.1.symm, h9.2.symm⟩
   have hc4 := hx4.2.2.1
   have hs4 : w.heap.size ≤ w4.heap.size := hb4.size
   go_wp2_with fail
   refine hK.out _ _ (hc4) (fun hS => ?_)
   clear hK K'
   (try simp only [Act.put, n3])
   refine on2 1 4 rfl (fun K' hK => ?_) rfl (fun K' hK => ?_)
   ·have e04 : w4.cell? ⟨C, 1, none⟩ = some (.slice ps4 l.length cs4) := by rw [(heap_cell he4 1).1]; exact hAj _
    have hEw4 : C < w4.heap.size := by omega
    go_simp
    refine hK.out _ _ (hS) (fun hS => ?_)
    clear hK K'
    (try simp only [Act.put, n3])
    refine on1 4 rfl (fun K' hK => ?_)
    go_simp
    go_wp2_with fail
    refine hK.out _ _ (((hx4.bt ((Bt.refl B w4).alloc _)).2.2.1)) (fun hS => ?_)
    clear hK K'
    (try simp only [Act.put, n3])
    have hal : w4.heap.size < (w4.alloc (.cells #[.string t] 9)).heap.size := by simp
    refine on1 5 rfl (fun K' hK => ?_)
    rw [if_pos (by rfl)]
    refine wp_append_own _ _ 22 rfl n 9 i0 _ 1 16 Tryz.underlying22 hi hz0 hz1 hz2 rfl (by decide) _ _ _ rfl (hown4.alloc _) ⟨w4.heap.size, 0, none⟩ 1 1 [.string t] rfl rfl (fun j u hj => by rw [addr_add, Nat.zero_add, (heap_cell (heap_alloc_new w4 _) j).1, ← hj]; simp) (by simp [Value.oneCell']) (by unfold maxLen; omega) (by omega) (by simp; omega) (fun sv' w5 hown5 hgr5 hat5 => ?_)
    have htr : reps (fun b => n ≤ b ∧ some b ≠ Value.ownBlock (.slice ps4 l.length cs4)) (w4.alloc (.cells #[.string t] 9)) [dS t] [.string t] := reps.cons (rep.lit rfl) reps.nil
    obtain ⟨g5, k5, rfl⟩ := ownsRow_succ hown5
    obtain ⟨hV5, hF5, hE5⟩ := RowA.push (j := 1) hA hBE hEn (by simp; omega) ((heap_alloc_old w4 _ (by omega)).trans he4) (hown4.alloc _) (reps.move (Kp.alloc w4 _) (fun _ _ h => h) _ _ hrep4) hpa4 ((hP.up hs4).up (by simp)) htr hown5 hgr5 hat5
    have hx5 := (hx4.bt ((Bt.refl B w4).alloc _)).grown hgr5 (own_below hown4 (.inl h2))
    have e5 : w5.cell? ⟨C, 1, none⟩ = some (.slice ps4 l.length cs4) := by rw [(heap_cell hE5 1).1]; exact hAj _
    have f5 : w5.frozen? ⟨C, 1, none⟩ = false := (heap_cell hE5 1).2
    refine hK.out _ _ (hx5.2.2.1) (fun hS => ?_)
    clear hK K'
    (try simp only [Act.put, List.setIfInBounds_toArray])
    refine tq 6 8 (.pointer (some ⟨C, 1, none⟩)) hS ?_
    simp only [n3]
    refine on1 7 rfl (fun K' hK => ?_)
    go_simp
    go_wp2_with fail
    refine hK.out _ _ ((hx5.set h3).2.2.1) (fun hS => ?_)
    clear hK K'
    (try simp only [Act.put, n3])
    refine wpAnyH_done (by kernel_rfl) ?_ _
    go_wp2_with fail
    go_end0
    refine ⟨(((hbt4.fr hP).alloc (hP.up hs4 · · |>.1) _).trans hF5), rfl, by unfold QG; simp; omega, ⟨hx5.set h3, h2, h3, by simpa [] using hV5⟩, ((hp4.via (below_al (Below.refl _ _) _)).grown hgr5 (fun k hk => by have := (hown4.lt k hk).1; omega)).set hCK _ _, by omega⟩
   ·go_simp
    go_wp2_with fail
    refine hK.out _ _ (((hx4.bt ((Bt.refl B w4).alloc _)).2.2.1)) (fun hS => ?_)
    clear hK K'
    (try simp only [Act.put, n3])
    refine on1 1 rfl (fun K' hK => ?_)
    have e04 : w4.cell? ⟨C, 1, none⟩ = some (.slice ps4 l.length cs4) := by rw [(heap_cell he4 1).1]; exact hAj _
    have hEw4 : C < w4.heap.size := by omega
    go_simp
    refine hK.out _ _ (((hx4.bt ((Bt.refl B w4).alloc _)).2.2.1)) (fun hS => ?_)
    clear hK K'
    (try simp only [Act.put, n3])
    have hal : w4.heap.size < (w4.alloc (.cells #[.string t] 9)).heap.size := by simp
    refine on1 5 rfl (fun K' hK => ?_)
    rw [if_pos (by rfl)]
    refine wp_append_own _ _ 22 rfl n 9 i0 _ 1 16 Tryz.underlying22 hi hz0 hz1 hz2 rfl (by decide) _ _ _ rfl (hown4.alloc _) ⟨w4.heap.size, 0, none⟩ 1 1 [.string t] rfl rfl (fun j u hj => by rw [addr_add, Nat.zero_add, (heap_cell (heap_alloc_new w4 _) j).1, ← hj]; simp) (by simp [Value.oneCell']) (by unfold maxLen; omega) (by omega) (by simp; omega) (fun sv' w5 hown5 hgr5 hat5 => ?_)
    have htr : reps (fun b => n ≤ b ∧ some b ≠ Value.ownBlock (.slice ps4 l.length cs4)) (w4.alloc (.cells #[.string t] 9)) [dS t] [.string t] := reps.cons (rep.lit rfl) reps.nil
    obtain ⟨g5, k5, rfl⟩ := ownsRow_succ hown5
    obtain ⟨hV5, hF5, hE5⟩ := RowA.push (j := 1) hA hBE hEn (by simp; omega) ((heap_alloc_old w4 _ (by omega)).trans he4) (hown4.alloc _) (reps.move (Kp.alloc w4 _) (fun _ _ h => h) _ _ hrep4) hpa4 ((hP.up hs4).up (by simp)) htr hown5 hgr5 hat5
    have hx5 := (hx4.bt ((Bt.refl B w4).alloc _)).grown hgr5 (own_below hown4 (.inl h2))
    have e5 : w5.cell? ⟨C, 1, none⟩ = some (.slice ps4 l.length cs4) := by rw [(heap_cell hE5 1).1]; exact hAj _
    have f5 : w5.frozen? ⟨C, 1, none⟩ = false := (heap_cell hE5 1).2
    refine hK.out _ _ (hx5.2.2.1) (fun hS => ?_)
    clear hK K'
    (try simp only [Act.put, List.setIfInBounds_toArray])
    refine tq 6 8 (.pointer (some ⟨C, 1, none⟩)) hS ?_
    simp only [n3]
    refine on1 7 rfl (fun K' hK => ?_)
    go_simp
    go_wp2_with fail
    refine hK.out _ _ ((hx5.set h3).2.2.1) (fun hS => ?_)
    clear hK K'
    (try simp only [Act.put, n3])
    refine wpAnyH_done (by kernel_rfl) ?_ _
    go_wp2_with fail
    go_end0
    refine ⟨(((hbt4.fr hP).alloc (hP.up hs4 · · |>.1) _).trans hF5), rfl, by unfold QG; simp; omega, ⟨hx5.set h3, h2, h3, by simpa [] using hV5⟩, ((hp4.via (below_al (Below.refl _ _) _)).grown hgr5 (fun k hk => by have := (hown4.lt k hk).1; omega)).set hCK _ _, by omega⟩
end
end Go.Proofs.YtoeodjobggodcaaGreatDoor
/- condOfVar. -/
namespace Go.Proofs.YtoeodjobggodcaaGreatDoor
section
open Go.RowKit
def zCd : Obj := .cells #[.int .i64 0, .string ⟨#[]⟩, .string ⟨#[]⟩, .slice none 0 0, .slice none 0 0, .slice none 0 0, .slice none 0 0, .slice none 0 0, .int .i64 0, .string ⟨#[]⟩, .int .i64 0, .bool false, .int .i64 0, .string ⟨#[]⟩, .slice none 0 0, .slice none 0 0, .string ⟨#[]⟩, .string ⟨#[]⟩, .slice none 0 0] 96
theorem CdV.form {P : Nat → Prop} {w : World} {c : Cd} {v : Value} (h : CdV P w c v) : ∃ cells, v = .agg cells := by
 obtain ⟨x3, x4, x5, x6, x7, x14, x15, x18, rfl, -⟩ := h
 exact ⟨_, rfl⟩
theorem CdV.res {n g : Nat} {w : World} {a : Cd} {v : Value} (h : CdV (fun b => n ≤ b) w a v) (hn : g < n) (cs : Array Value) : CdV (fun b => g ≤ b) (w.setRow g cs) a v :=
 h.move ⟨by simp, fun b hb _ o => World.cell?_of_block (a := ⟨b, o, none⟩) (setRow_other _ _ _ _ (by simp only; omega))⟩ (fun b _ h => by omega)
def PatC (K B o : Nat) : Prop := ∀ (v : ByteArray) (r : List Lx) (w : World), PAt K w B r o → Calls Tryz.prog 115 #[.pointer (some ⟨B, 0, none⟩), .string v] w (Post K B o (r.length - 1) w (patternM v o r) fun w' c x => CdV (fun b => w.heap.size ≤ b) w' c x)
set_option maxRecDepth 100000 in
set_option maxHeartbeats 4000000 in
theorem ofvar_any {K B o : Nat} (hPat : PatC K B o) {r : List Lx} {w : World} (h : PAt K w B r o) :
  Calls Tryz.prog 108 #[.pointer (some ⟨B, 0, none⟩)] w (Post K B o (r.length - 1) w (ofVarM o r) fun w' c x => CdV (fun b => w.heap.size ≤ b) w' c x) := by
 have hsz := h.size
 have hR0 : (w.alloc zCd).heap[w.heap.size]? = some zCd := heap_alloc_new w _
 have b0 : Below w.heap.size w (w.alloc zCd) := below_al (Below.refl _ _) _
 unfold zCd at hR0 b0
 have HV := Hid.intro (pvar_any (h.via b0))
 unfold ofVarM
 cases h1 : varM r with
 | bad q =>
  rw [h1] at HV
  rw [bd_bad]
  clear h1
  go_enter Tryz.func108, Tryz.ntmps108
  go_wp2_with fail
  refine HV.out.mono ?_
  rintro e v1 ⟨ht1, rfl⟩
  exact ⟨rfl, (Bt.below b0).trans ht1, rfl⟩
 | ok s r1 =>
  rw [h1] at HV
  rw [bd_ok]
  clear h1
  cases k1 : isM ⟨#[58]⟩ r1 with
  | true =>
   rw [if_pos rfl]
   have HS := fun w (h : PAt K w B r1 o) => Hid.intro (skip_yes h k1)
   clear k1
   have HN := fun w (h : PAt K w B r1.tail o) => Hid.intro (hPat s r1.tail w h)
   cases hm : patternM s o r1.tail with
   | bad q =>
    rw [hm] at HN
    clear hm
    go_enter Tryz.func108, Tryz.ntmps108
    go_wp2_with fail
    refine HV.out.mono ?_
    rintro e v1 ⟨ht1, hl1, hp1, x, rfl, rfl⟩
    go_wp2_with fail
    refine (HS _ hp1).out.mono ?_
    rintro e v2 ⟨rfl, ht2, hp2⟩
    go_wp2_with fail
    refine (HN _ hp2).out.mono ?_
    rintro e v3 ⟨ht3, rfl⟩
    exact ⟨rfl, (((Bt.below b0).trans ht1).trans ht2).trans ht3, rfl⟩
   | ok c r2 =>
    rw [hm] at HN
    clear hm
    go_enter Tryz.func108, Tryz.ntmps108
    go_wp2_with fail
    refine HV.out.mono ?_
    rintro e v1 ⟨ht1, hl1, hp1, x, rfl, rfl⟩
    go_wp2_with fail
    refine (HS _ hp1).out.mono ?_
    rintro e v2 ⟨rfl, ht2, hp2⟩
    go_wp2_with fail
    refine (HN _ hp2).out.mono ?_
    rintro e v3 ⟨ht3, hl3, hp3, v, rfl, hv⟩
    have hR2 := row_bt (ht1.trans ht2) (by omega) hR0
    have hn2 : w.heap.size < v2.heap.size := (Array.getElem?_eq_some_iff.1 hR2).1
    have HR := Hid.intro (row_bt ht3 (by omega) hR2)
    clear hR2
    obtain ⟨cells, rfl⟩ := hv.form
    have hr := hv.reps
    go_wp2_with (with_reducible refine (id (?_ : wpList _ _ _ (Oper.mk _ (Op.store _ _ _) _ _ _ _ :: _) _ _)); refine wpList_store_row rfl _ _ _ rfl _ _ rfl rfl _ _ HR.out infoCond rfl hr.2.1 hr.2.2 ?_)
    refine ret_cells rfl rfl (setRow_heap _ _ _ _ _ _ HR.out) Tryz.underlying96 infoCond hr.2.1 rfl (Post.ok (((((Bt.below (B := B) b0).trans ht1).trans ht2).trans ht3).row (Nat.le_refl _) _) (by first | omega | (simp at hl3; omega)) (hp3.row hsz.1 _) ?_)
    exact hv.res hn2 _
  | false =>
   rw [if_neg (by simp)]
   have HS := fun w (h : PAt K w B r1 o) => Hid.intro (skip_no h k1)
   clear k1
   have HT := fun w (h : PAt K w B r1 o) => Hid.intro (take_any h ⟨#[102, 114, 111, 109]⟩)
   cases h2 : takeM ⟨#[102, 114, 111, 109]⟩ r1 with
   | bad q =>
    rw [h2] at HT
    rw [bd_bad]
    clear h2
    go_enter Tryz.func108, Tryz.ntmps108
    go_wp2_with fail
    refine HV.out.mono ?_
    rintro e v1 ⟨ht1, hl1, hp1, x, rfl, rfl⟩
    go_wp2_with fail
    refine (HS _ hp1).out.mono ?_
    rintro e v2 ⟨rfl, hb2⟩
    go_wp2_with fail
    refine (HT _ (hp1.via hb2)).out.mono ?_
    rintro e v3 ⟨ht3, rfl⟩
    exact ⟨rfl, (((Bt.below b0).trans ht1).trans (Bt.below hb2)).trans ht3, rfl⟩
   | ok u r2 =>
    rw [h2] at HT
    rw [bd_ok]
    clear h2
    have HE := fun w (h : PAt K w B r2 o) => Hid.intro (expr_any h)
    cases h3 : exprM o r2 with
    | bad q =>
     rw [h3] at HE
     rw [bd_bad]
     clear h3
     go_enter Tryz.func108, Tryz.ntmps108
     go_wp2_with fail
     refine HV.out.mono ?_
     rintro e v1 ⟨ht1, hl1, hp1, x, rfl, rfl⟩
     go_wp2_with fail
     refine (HS _ hp1).out.mono ?_
     rintro e v2 ⟨rfl, hb2⟩
     go_wp2_with fail
     refine (HT _ (hp1.via hb2)).out.mono ?_
     rintro e v3 ⟨ht3, hl3, hp3, x', rfl, rfl⟩
     go_wp2_with fail
     refine (HE _ hp3).out.mono ?_
     rintro e v4 ⟨ht4, rfl⟩
     exact ⟨rfl, ((((Bt.below b0).trans ht1).trans (Bt.below hb2)).trans ht3).trans ht4, rfl⟩
    | ok t r3 =>
     rw [h3] at HE
     rw [bd_ok]
     clear h3
     go_enter Tryz.func108, Tryz.ntmps108
     go_wp2_with fail
     refine HV.out.mono ?_
     rintro e v1 ⟨ht1, hl1, hp1, x, rfl, rfl⟩
     go_wp2_with fail
     refine (HS _ hp1).out.mono ?_
     rintro e v2 ⟨rfl, hb2⟩
     go_wp2_with fail
     refine (HT _ (hp1.via hb2)).out.mono ?_
     rintro e v3 ⟨ht3, hl3, hp3, x', rfl, rfl⟩
     go_wp2_with fail
     refine (HE _ hp3).out.mono ?_
     rintro e v4 ⟨ht4, hl4, hp4, v, rfl, p6, n6, c6, p7, n7, c7, rfl, z6, z7⟩
     have hR3 := row_bt ((ht1.trans (Bt.below hb2)).trans ht3) (by omega) hR0
     have hn3 : w.heap.size < v3.heap.size := (Array.getElem?_eq_some_iff.1 hR3).1
     have HR := Hid.intro (row_bt ht4 (by omega) hR3)
     clear hR3
     go_wp2_with (with_reducible refine (id (?_ : wpList _ _ _ (Oper.mk _ (Op.store _ _ _) _ _ _ _ :: _) _ _)); refine wpList_store_row rfl _ _ _ rfl _ _ rfl rfl _ _ HR.out infoCond rfl rfl (by simp [Value.oneCell']) ?_)
     refine ret_cells rfl rfl (setRow_heap _ _ _ _ _ _ HR.out) Tryz.underlying96 infoCond rfl rfl (Post.ok ((((((Bt.below (B := B) b0).trans ht1).trans (Bt.below hb2)).trans ht3).trans ht4).row (Nat.le_refl _) _) (by omega) (hp4.row hsz.1 _) ?_)
     refine CdV.res (n := v3.heap.size) ⟨.slice none 0 0, .slice none 0 0, .slice none 0 0, .slice none 0 0, .slice none 0 0, .slice p6 n6 c6, .slice p7 n7 c7, .slice none 0 0, rfl, ⟨rep.none, rep.none, ?_, ?_, ?_⟩, z6, z7, rep.none⟩ hn3 _
     ·simpa [Cd.css] using rep.none
     ·simpa [Cd.css] using rep.none
     ·simpa [Cd.csss] using rep.none
end
end Go.Proofs.YtoeodjobggodcaaGreatDoor
/- cond, but for pattern and or. -/
namespace Go.Proofs.YtoeodjobggodcaaGreatDoor
section
open Go.RowKit
def OrC (K B o : Nat) : Prop := ∀ (C : Ps Cd), CC K B (o + 1) (C (o + 1)) → ∀ (r : List Lx) (w : World), PAt K w B r o → Calls Tryz.prog 111 #[.pointer (some ⟨B, 0, none⟩)] w (Post K B o (r.length - 1) w (orM C o r) fun w' c x => CdV (fun b => w.heap.size ≤ b) w' c x)
theorem PAt.deep {K : Nat} {w : World} {B : Nat} {r : List Lx} {o : Nat} (h : PAt K w B r o) : o ≤ 30 := by
 obtain ⟨g, off, cap, lv, h1, h2, h3, h4, h5, h6, h7, h8, h9, h10, h11, h12⟩ := h
 omega
set_option maxRecDepth 100000 in
set_option maxHeartbeats 2000000 in
theorem cond_0 {K B o : Nat} (hPat : PatC K B o) {r : List Lx} {w : World} (h : PAt K w B r o)  (h0 : isK 1 r = true) :
  Calls Tryz.prog 66 #[.pointer (some ⟨B, 0, none⟩)] w (Post K B o (r.length - 1) w (ofVarM o r) fun w' c x => CdV (fun b => w.heap.size ≤ b) w' c x) := by
 have C0 := fun w (h : PAt K w B r o) => Hid.intro (h0 ▸ isKind_any h 1 : Calls _ _ _ _ fun e w' => e = .returned (.bool true) ∧ w' = w)
 have hsz := h.size
 have hR0 : (w.alloc zCd).heap[w.heap.size]? = some zCd := heap_alloc_new w _
 have b0 : Below w.heap.size w (w.alloc zCd) := below_al (Below.refl _ _) _
 unfold zCd at hR0 b0
 clear h0
 have HN := fun w (h : PAt K w B r o) => Hid.intro (ofvar_any hPat h)
 clear hPat
 cases hm : ofVarM o r with
 | bad q =>
  rw [hm] at HN
  clear hm
  go_enter Tryz.func66, Tryz.ntmps66
  go_wp2_with fail
  refine (C0 _ (h.via b0)).out.mono ?_
  rintro e w1 ⟨rfl, rfl⟩
  go_wp2_with fail
  refine (HN _ (h.via b0)).out.mono ?_
  rintro e v1 ⟨ht1, rfl⟩
  exact ⟨rfl, (Bt.below (B := B) b0).trans ht1, rfl⟩
 | ok x r1 =>
  rw [hm] at HN
  clear hm
  go_enter Tryz.func66, Tryz.ntmps66
  go_wp2_with fail
  refine (C0 _ (h.via b0)).out.mono ?_
  rintro e w1 ⟨rfl, rfl⟩
  go_wp2_with fail
  refine (HN _ (h.via b0)).out.mono ?_
  rintro e v1 ⟨ht1, hl1, hp1, v, rfl, hv⟩
  have HR := Hid.intro (row_bt ((Bt.refl B _).trans ht1) (by omega) hR0)
  have hn1 : w.heap.size < _ := (Array.getElem?_eq_some_iff.1 (row_bt (Bt.refl B _) (by omega) hR0)).1
  obtain ⟨cells, rfl⟩ := hv.form
  have hr := hv.reps
  go_wp2_with (with_reducible refine (id (?_ : wpList _ _ _ (Oper.mk _ (Op.store _ _ _) _ _ _ _ :: _) _ _)); refine wpList_store_row rfl _ _ _ rfl _ _ rfl rfl _ _ HR.out infoCond rfl hr.2.1 hr.2.2 ?_)
  refine ret_cells rfl rfl (setRow_heap _ _ _ _ _ _ HR.out) Tryz.underlying96 infoCond hr.2.1 rfl (Post.ok (((Bt.below (B := B) b0).trans ht1).row (Nat.le_refl _) _) (by first | omega | (simp at hl1 ⊢; omega)) (hp1.row hsz.1 _) ?_)
  exact hv.res hn1 _
set_option maxRecDepth 100000 in
set_option maxHeartbeats 2000000 in
theorem cond_1 {K B o f : Nat} (hC : CC K B (o + 1) (condM f (o + 1))) {r : List Lx} {w : World} (h : PAt K w B r o) (h0 : isK 1 r = false) (h1 : isM ⟨#[110, 111, 116]⟩ r = true) :
  Calls Tryz.prog 66 #[.pointer (some ⟨B, 0, none⟩)] w (Post K B o (r.length - 1) w ((blockM (condM f) o r.tail).bd fun l r => .ok ({ k := 2, conds := l } : Cd) r) fun w' c x => CdV (fun b => w.heap.size ≤ b) w' c x) := by
 have C0 := fun w (h : PAt K w B r o) => Hid.intro (h0 ▸ isKind_any h 1 : Calls _ _ _ _ fun e w' => e = .returned (.bool false) ∧ w' = w)
 have C1 := fun w (h : PAt K w B r o) => Hid.intro (skip_yes h h1)
 have hsz := h.size
 have hR0 : (w.alloc zCd).heap[w.heap.size]? = some zCd := heap_alloc_new w _
 have b0 : Below w.heap.size w (w.alloc zCd) := below_al (Below.refl _ _) _
 unfold zCd at hR0 b0
 clear h0 h1
 have HN := fun w (h : PAt K w B r.tail o) => Hid.intro (block_any hC h)
 unfold blockM
 clear hC
 cases hm : withinM ⟨#[40]⟩ ⟨#[41]⟩ o (condsM (condM f (o + 1)) [⟨#[41]⟩]) r.tail with
 | bad q =>
  rw [hm] at HN
  rw [bd_bad]
  clear hm
  go_enter Tryz.func66, Tryz.ntmps66
  go_wp2_with fail
  refine (C0 _ (h.via b0)).out.mono ?_
  rintro e w1 ⟨rfl, rfl⟩
  go_wp2_with fail
  refine (C1 _ (h.via b0)).out.mono ?_
  rintro e v0 ⟨rfl, ht0, hp0⟩
  go_wp2_with fail
  refine (HN _ (hp0)).out.mono ?_
  rintro e v1 ⟨ht1, rfl⟩
  exact ⟨rfl, ((Bt.below (B := B) b0).trans ht0).trans ht1, rfl⟩
 | ok x r1 =>
  rw [hm] at HN
  rw [bd_ok]
  clear hm
  go_enter Tryz.func66, Tryz.ntmps66
  go_wp2_with fail
  refine (C0 _ (h.via b0)).out.mono ?_
  rintro e w1 ⟨rfl, rfl⟩
  go_wp2_with fail
  refine (C1 _ (h.via b0)).out.mono ?_
  rintro e v0 ⟨rfl, ht0, hp0⟩
  go_wp2_with fail
  refine (HN _ (hp0)).out.mono ?_
  rintro e v1 ⟨ht1, hl1, hp1, v, rfl, p, c, rfl, hz⟩
  have HR := Hid.intro (row_bt (((Bt.refl B _).trans ht0).trans ht1) (by omega) hR0)
  have hn1 : w.heap.size < _ := (Array.getElem?_eq_some_iff.1 (row_bt ((Bt.refl B _).trans ht0) (by omega) hR0)).1
  go_wp2_with (with_reducible refine (id (?_ : wpList _ _ _ (Oper.mk _ (Op.store _ _ _) _ _ _ _ :: _) _ _)); refine wpList_store_row rfl _ _ _ rfl _ _ rfl rfl _ _ HR.out infoCond rfl rfl (by simp [Value.oneCell']) ?_)
  refine ret_cells rfl rfl (setRow_heap _ _ _ _ _ _ HR.out) Tryz.underlying96 infoCond rfl rfl (Post.ok ((((Bt.below (B := B) b0).trans ht0).trans ht1).row (Nat.le_refl _) _) (by first | omega | (simp at hl1 ⊢; omega)) (hp1.row hsz.1 _) ?_)
  refine CdV.res ⟨.slice none 0 0, .slice none 0 0, .slice p x.length c, .slice none 0 0, .slice none 0 0, .slice none 0 0, .slice none 0 0, .slice none 0 0, rfl, ⟨rep.none, rep.none, hz, ?_, ?_⟩, ?_, ?_, rep.none⟩ hn1 _
  ·simpa [Cd.css] using rep.none
  ·simpa [Cd.csss] using rep.none
  ·simpa [Vt.css] using rep.none
  ·simpa [Ex.css] using rep.none
set_option maxRecDepth 100000 in
set_option maxHeartbeats 2000000 in
theorem cond_2 {K B o f : Nat} (hC : CC K B (o + 1) (condM f (o + 1))) {r : List Lx} {w : World} (h : PAt K w B r o) (h0 : isK 1 r = false) (h1 : isM ⟨#[110, 111, 116]⟩ r = false) (h2 : isM ⟨#[101, 120, 105, 115, 116, 115]⟩ r = true) :
  Calls Tryz.prog 66 #[.pointer (some ⟨B, 0, none⟩)] w (Post K B o (r.length - 1) w ((blockM (condM f) o r.tail).bd fun l r => .ok ({ k := 3, conds := l } : Cd) r) fun w' c x => CdV (fun b => w.heap.size ≤ b) w' c x) := by
 have C0 := fun w (h : PAt K w B r o) => Hid.intro (h0 ▸ isKind_any h 1 : Calls _ _ _ _ fun e w' => e = .returned (.bool false) ∧ w' = w)
 have C1 := fun w (h : PAt K w B r o) => Hid.intro (skip_no h h1)
 have C2 := fun w (h : PAt K w B r o) => Hid.intro (skip_yes h h2)
 have hsz := h.size
 have hR0 : (w.alloc zCd).heap[w.heap.size]? = some zCd := heap_alloc_new w _
 have b0 : Below w.heap.size w (w.alloc zCd) := below_al (Below.refl _ _) _
 unfold zCd at hR0 b0
 clear h0 h1 h2
 have HN := fun w (h : PAt K w B r.tail o) => Hid.intro (block_any hC h)
 unfold blockM
 clear hC
 cases hm : withinM ⟨#[40]⟩ ⟨#[41]⟩ o (condsM (condM f (o + 1)) [⟨#[41]⟩]) r.tail with
 | bad q =>
  rw [hm] at HN
  rw [bd_bad]
  clear hm
  go_enter Tryz.func66, Tryz.ntmps66
  go_wp2_with fail
  refine (C0 _ (h.via b0)).out.mono ?_
  rintro e w1 ⟨rfl, rfl⟩
  go_wp2_with fail
  refine (C1 _ (h.via b0)).out.mono ?_
  rintro e w2 ⟨rfl, hw2⟩
  have b2 := hw2.via b0
  go_wp2_with fail
  refine (C2 _ (h.via b2)).out.mono ?_
  rintro e v0 ⟨rfl, ht0, hp0⟩
  go_wp2_with fail
  refine (HN _ (hp0)).out.mono ?_
  rintro e v1 ⟨ht1, rfl⟩
  exact ⟨rfl, ((Bt.below (B := B) b2).trans ht0).trans ht1, rfl⟩
 | ok x r1 =>
  rw [hm] at HN
  rw [bd_ok]
  clear hm
  go_enter Tryz.func66, Tryz.ntmps66
  go_wp2_with fail
  refine (C0 _ (h.via b0)).out.mono ?_
  rintro e w1 ⟨rfl, rfl⟩
  go_wp2_with fail
  refine (C1 _ (h.via b0)).out.mono ?_
  rintro e w2 ⟨rfl, hw2⟩
  have b2 := hw2.via b0
  go_wp2_with fail
  refine (C2 _ (h.via b2)).out.mono ?_
  rintro e v0 ⟨rfl, ht0, hp0⟩
  go_wp2_with fail
  refine (HN _ (hp0)).out.mono ?_
  rintro e v1 ⟨ht1, hl1, hp1, v, rfl, p, c, rfl, hz⟩
  have HR := Hid.intro (row_bt ((((Bt.refl B _).trans (Bt.below hw2)).trans ht0).trans ht1) (by omega) hR0)
  have hn1 : w.heap.size < _ := (Array.getElem?_eq_some_iff.1 (row_bt (((Bt.refl B _).trans (Bt.below hw2)).trans ht0) (by omega) hR0)).1
  go_wp2_with (with_reducible refine (id (?_ : wpList _ _ _ (Oper.mk _ (Op.store _ _ _) _ _ _ _ :: _) _ _)); refine wpList_store_row rfl _ _ _ rfl _ _ rfl rfl _ _ HR.out infoCond rfl rfl (by simp [Value.oneCell']) ?_)
  refine ret_cells rfl rfl (setRow_heap _ _ _ _ _ _ HR.out) Tryz.underlying96 infoCond rfl rfl (Post.ok ((((Bt.below (B := B) b2).trans ht0).trans ht1).row (Nat.le_refl _) _) (by first | omega | (simp at hl1 ⊢; omega)) (hp1.row hsz.1 _) ?_)
  refine CdV.res ⟨.slice none 0 0, .slice none 0 0, .slice p x.length c, .slice none 0 0, .slice none 0 0, .slice none 0 0, .slice none 0 0, .slice none 0 0, rfl, ⟨rep.none, rep.none, hz, ?_, ?_⟩, ?_, ?_, rep.none⟩ hn1 _
  ·simpa [Cd.css] using rep.none
  ·simpa [Cd.csss] using rep.none
  ·simpa [Vt.css] using rep.none
  ·simpa [Ex.css] using rep.none
set_option maxRecDepth 100000 in
set_option maxHeartbeats 2000000 in
theorem cond_3 {K B o f : Nat} (hC : CC K B (o + 1) (condM f (o + 1))) {r : List Lx} {w : World} (h : PAt K w B r o) (h0 : isK 1 r = false) (h1 : isM ⟨#[110, 111, 116]⟩ r = false) (h2 : isM ⟨#[101, 120, 105, 115, 116, 115]⟩ r = false) (h3 : isM ⟨#[102, 111, 114, 97, 108, 108]⟩ r = true) :
  Calls Tryz.prog 66 #[.pointer (some ⟨B, 0, none⟩)] w (Post K B o (r.length - 1) w (forallM (condM f) o r.tail) fun w' c x => CdV (fun b => w.heap.size ≤ b) w' c x) := by
 have C0 := fun w (h : PAt K w B r o) => Hid.intro (h0 ▸ isKind_any h 1 : Calls _ _ _ _ fun e w' => e = .returned (.bool false) ∧ w' = w)
 have C1 := fun w (h : PAt K w B r o) => Hid.intro (skip_no h h1)
 have C2 := fun w (h : PAt K w B r o) => Hid.intro (skip_no h h2)
 have C3 := fun w (h : PAt K w B r o) => Hid.intro (skip_yes h h3)
 have hsz := h.size
 have hR0 : (w.alloc zCd).heap[w.heap.size]? = some zCd := heap_alloc_new w _
 have b0 : Below w.heap.size w (w.alloc zCd) := below_al (Below.refl _ _) _
 unfold zCd at hR0 b0
 clear h0 h1 h2 h3
 have HN := fun w (h : PAt K w B r.tail o) => Hid.intro (forall_any (C := condM f) hC h)
 clear hC
 cases hm : forallM (condM f) o r.tail with
 | bad q =>
  rw [hm] at HN
  clear hm
  go_enter Tryz.func66, Tryz.ntmps66
  go_wp2_with fail
  refine (C0 _ (h.via b0)).out.mono ?_
  rintro e w1 ⟨rfl, rfl⟩
  go_wp2_with fail
  refine (C1 _ (h.via b0)).out.mono ?_
  rintro e w2 ⟨rfl, hw2⟩
  have b2 := hw2.via b0
  go_wp2_with fail
  refine (C2 _ (h.via b2)).out.mono ?_
  rintro e w3 ⟨rfl, hw3⟩
  have b3 := hw3.via b2
  go_wp2_with fail
  refine (C3 _ (h.via b3)).out.mono ?_
  rintro e v0 ⟨rfl, ht0, hp0⟩
  go_wp2_with fail
  refine (HN _ (hp0)).out.mono ?_
  rintro e v1 ⟨ht1, rfl⟩
  exact ⟨rfl, ((Bt.below (B := B) b3).trans ht0).trans ht1, rfl⟩
 | ok x r1 =>
  rw [hm] at HN
  clear hm
  go_enter Tryz.func66, Tryz.ntmps66
  go_wp2_with fail
  refine (C0 _ (h.via b0)).out.mono ?_
  rintro e w1 ⟨rfl, rfl⟩
  go_wp2_with fail
  refine (C1 _ (h.via b0)).out.mono ?_
  rintro e w2 ⟨rfl, hw2⟩
  have b2 := hw2.via b0
  go_wp2_with fail
  refine (C2 _ (h.via b2)).out.mono ?_
  rintro e w3 ⟨rfl, hw3⟩
  have b3 := hw3.via b2
  go_wp2_with fail
  refine (C3 _ (h.via b3)).out.mono ?_
  rintro e v0 ⟨rfl, ht0, hp0⟩
  go_wp2_with fail
  refine (HN _ (hp0)).out.mono ?_
  rintro e v1 ⟨ht1, hl1, hp1, v, rfl, hv⟩
  have HR := Hid.intro (row_bt (((((Bt.refl B _).trans (Bt.below hw2)).trans (Bt.below hw3)).trans ht0).trans ht1) (by omega) hR0)
  have hn1 : w.heap.size < _ := (Array.getElem?_eq_some_iff.1 (row_bt ((((Bt.refl B _).trans (Bt.below hw2)).trans (Bt.below hw3)).trans ht0) (by omega) hR0)).1
  obtain ⟨cells, rfl⟩ := hv.form
  have hr := hv.reps
  go_wp2_with (with_reducible refine (id (?_ : wpList _ _ _ (Oper.mk _ (Op.store _ _ _) _ _ _ _ :: _) _ _)); refine wpList_store_row rfl _ _ _ rfl _ _ rfl rfl _ _ HR.out infoCond rfl hr.2.1 hr.2.2 ?_)
  refine ret_cells rfl rfl (setRow_heap _ _ _ _ _ _ HR.out) Tryz.underlying96 infoCond hr.2.1 rfl (Post.ok ((((Bt.below (B := B) b3).trans ht0).trans ht1).row (Nat.le_refl _) _) (by first | omega | (simp at hl1 ⊢; omega)) (hp1.row hsz.1 _) ?_)
  exact hv.res hn1 _
set_option maxRecDepth 100000 in
set_option maxHeartbeats 2000000 in
theorem cond_4 {K B o f : Nat} (hOr : OrC K B o) (hC : CC K B (o + 1) (condM f (o + 1))) {r : List Lx} {w : World} (h : PAt K w B r o) (h0 : isK 1 r = false) (h1 : isM ⟨#[110, 111, 116]⟩ r = false) (h2 : isM ⟨#[101, 120, 105, 115, 116, 115]⟩ r = false) (h3 : isM ⟨#[102, 111, 114, 97, 108, 108]⟩ r = false) (h4 : isM ⟨#[40]⟩ r = true) :
  Calls Tryz.prog 66 #[.pointer (some ⟨B, 0, none⟩)] w (Post K B o (r.length - 1) w (orM (condM f) o r) fun w' c x => CdV (fun b => w.heap.size ≤ b) w' c x) := by
 have C0 := fun w (h : PAt K w B r o) => Hid.intro (h0 ▸ isKind_any h 1 : Calls _ _ _ _ fun e w' => e = .returned (.bool false) ∧ w' = w)
 have C1 := fun w (h : PAt K w B r o) => Hid.intro (skip_no h h1)
 have C2 := fun w (h : PAt K w B r o) => Hid.intro (skip_no h h2)
 have C3 := fun w (h : PAt K w B r o) => Hid.intro (skip_no h h3)
 have C4 := fun w (h : PAt K w B r o) => Hid.intro (h4 ▸ is_any h ⟨#[40]⟩ : Calls _ _ _ _ fun e w' => e = .returned (.bool true) ∧ Below w.heap.size w w')
 have hsz := h.size
 have hR0 : (w.alloc zCd).heap[w.heap.size]? = some zCd := heap_alloc_new w _
 have b0 : Below w.heap.size w (w.alloc zCd) := below_al (Below.refl _ _) _
 unfold zCd at hR0 b0
 clear h0 h1 h2 h3 h4
 have HN := fun w (h : PAt K w B r o) => Hid.intro (hOr (condM f) hC _ w h)
 clear hOr hC
 cases hm : orM (condM f) o r with
 | bad q =>
  rw [hm] at HN
  clear hm
  go_enter Tryz.func66, Tryz.ntmps66
  go_wp2_with fail
  refine (C0 _ (h.via b0)).out.mono ?_
  rintro e w1 ⟨rfl, rfl⟩
  go_wp2_with fail
  refine (C1 _ (h.via b0)).out.mono ?_
  rintro e w2 ⟨rfl, hw2⟩
  have b2 := hw2.via b0
  go_wp2_with fail
  refine (C2 _ (h.via b2)).out.mono ?_
  rintro e w3 ⟨rfl, hw3⟩
  have b3 := hw3.via b2
  go_wp2_with fail
  refine (C3 _ (h.via b3)).out.mono ?_
  rintro e w4 ⟨rfl, hw4⟩
  have b4 := hw4.via b3
  go_wp2_with fail
  refine (C4 _ (h.via b4)).out.mono ?_
  rintro e w5 ⟨rfl, hw5⟩
  have b5 := hw5.via b4
  go_wp2_with fail
  refine (HN _ (h.via b5)).out.mono ?_
  rintro e v1 ⟨ht1, rfl⟩
  exact ⟨rfl, (Bt.below (B := B) b5).trans ht1, rfl⟩
 | ok x r1 =>
  rw [hm] at HN
  clear hm
  go_enter Tryz.func66, Tryz.ntmps66
  go_wp2_with fail
  refine (C0 _ (h.via b0)).out.mono ?_
  rintro e w1 ⟨rfl, rfl⟩
  go_wp2_with fail
  refine (C1 _ (h.via b0)).out.mono ?_
  rintro e w2 ⟨rfl, hw2⟩
  have b2 := hw2.via b0
  go_wp2_with fail
  refine (C2 _ (h.via b2)).out.mono ?_
  rintro e w3 ⟨rfl, hw3⟩
  have b3 := hw3.via b2
  go_wp2_with fail
  refine (C3 _ (h.via b3)).out.mono ?_
  rintro e w4 ⟨rfl, hw4⟩
  have b4 := hw4.via b3
  go_wp2_with fail
  refine (C4 _ (h.via b4)).out.mono ?_
  rintro e w5 ⟨rfl, hw5⟩
  have b5 := hw5.via b4
  go_wp2_with fail
  refine (HN _ (h.via b5)).out.mono ?_
  rintro e v1 ⟨ht1, hl1, hp1, v, rfl, hv⟩
  have HR := Hid.intro (row_bt ((((((Bt.refl B _).trans (Bt.below hw2)).trans (Bt.below hw3)).trans (Bt.below hw4)).trans (Bt.below hw5)).trans ht1) (by omega) hR0)
  have hn1 : w.heap.size < _ := (Array.getElem?_eq_some_iff.1 (row_bt (((((Bt.refl B _).trans (Bt.below hw2)).trans (Bt.below hw3)).trans (Bt.below hw4)).trans (Bt.below hw5)) (by omega) hR0)).1
  obtain ⟨cells, rfl⟩ := hv.form
  have hr := hv.reps
  go_wp2_with (with_reducible refine (id (?_ : wpList _ _ _ (Oper.mk _ (Op.store _ _ _) _ _ _ _ :: _) _ _)); refine wpList_store_row rfl _ _ _ rfl _ _ rfl rfl _ _ HR.out infoCond rfl hr.2.1 hr.2.2 ?_)
  refine ret_cells rfl rfl (setRow_heap _ _ _ _ _ _ HR.out) Tryz.underlying96 infoCond hr.2.1 rfl (Post.ok (((Bt.below (B := B) b5).trans ht1).row (Nat.le_refl _) _) (by first | omega | (simp at hl1 ⊢; omega)) (hp1.row hsz.1 _) ?_)
  exact hv.res hn1 _
set_option maxRecDepth 100000 in
set_option maxHeartbeats 2000000 in
theorem cond_5 {K B o : Nat} {r : List Lx} {w : World} (h : PAt K w B r o) (h0 : isK 1 r = false) (h1 : isM ⟨#[110, 111, 116]⟩ r = false) (h2 : isM ⟨#[101, 120, 105, 115, 116, 115]⟩ r = false) (h3 : isM ⟨#[102, 111, 114, 97, 108, 108]⟩ r = false) (h4 : isM ⟨#[40]⟩ r = false) (h5 : isM ⟨#[101, 118, 97, 108]⟩ r = true) :
  Calls Tryz.prog 66 #[.pointer (some ⟨B, 0, none⟩)] w (Post K B o (r.length - 1) w ((parenM exprM o r.tail).bd fun t r => .ok ({ k := 8, e := t.e } : Cd) r) fun w' c x => CdV (fun b => w.heap.size ≤ b) w' c x) := by
 have C0 := fun w (h : PAt K w B r o) => Hid.intro (h0 ▸ isKind_any h 1 : Calls _ _ _ _ fun e w' => e = .returned (.bool false) ∧ w' = w)
 have C1 := fun w (h : PAt K w B r o) => Hid.intro (skip_no h h1)
 have C2 := fun w (h : PAt K w B r o) => Hid.intro (skip_no h h2)
 have C3 := fun w (h : PAt K w B r o) => Hid.intro (skip_no h h3)
 have C4 := fun w (h : PAt K w B r o) => Hid.intro (h4 ▸ is_any h ⟨#[40]⟩ : Calls _ _ _ _ fun e w' => e = .returned (.bool false) ∧ Below w.heap.size w w')
 have C5 := fun w (h : PAt K w B r o) => Hid.intro (skip_yes h h5)
 have hsz := h.size
 have hR0 : (w.alloc zCd).heap[w.heap.size]? = some zCd := heap_alloc_new w _
 have b0 : Below w.heap.size w (w.alloc zCd) := below_al (Below.refl _ _) _
 unfold zCd at hR0 b0
 clear h0 h1 h2 h3 h4 h5
 have HN := fun w (h : PAt K w B r.tail o) => Hid.intro (paren_any h)
 cases hm : parenM exprM o r.tail with
 | bad q =>
  rw [hm] at HN
  rw [bd_bad]
  clear hm
  go_enter Tryz.func66, Tryz.ntmps66
  go_wp2_with fail
  refine (C0 _ (h.via b0)).out.mono ?_
  rintro e w1 ⟨rfl, rfl⟩
  go_wp2_with fail
  refine (C1 _ (h.via b0)).out.mono ?_
  rintro e w2 ⟨rfl, hw2⟩
  have b2 := hw2.via b0
  go_wp2_with fail
  refine (C2 _ (h.via b2)).out.mono ?_
  rintro e w3 ⟨rfl, hw3⟩
  have b3 := hw3.via b2
  go_wp2_with fail
  refine (C3 _ (h.via b3)).out.mono ?_
  rintro e w4 ⟨rfl, hw4⟩
  have b4 := hw4.via b3
  go_wp2_with fail
  refine (C4 _ (h.via b4)).out.mono ?_
  rintro e w5 ⟨rfl, hw5⟩
  have b5 := hw5.via b4
  go_wp2_with fail
  refine (C5 _ (h.via b5)).out.mono ?_
  rintro e v0 ⟨rfl, ht0, hp0⟩
  go_wp2_with fail
  refine (HN _ (hp0)).out.mono ?_
  rintro e v1 ⟨ht1, rfl⟩
  exact ⟨rfl, ((Bt.below (B := B) b5).trans ht0).trans ht1, rfl⟩
 | ok x r1 =>
  rw [hm] at HN
  rw [bd_ok]
  clear hm
  go_enter Tryz.func66, Tryz.ntmps66
  go_wp2_with fail
  refine (C0 _ (h.via b0)).out.mono ?_
  rintro e w1 ⟨rfl, rfl⟩
  go_wp2_with fail
  refine (C1 _ (h.via b0)).out.mono ?_
  rintro e w2 ⟨rfl, hw2⟩
  have b2 := hw2.via b0
  go_wp2_with fail
  refine (C2 _ (h.via b2)).out.mono ?_
  rintro e w3 ⟨rfl, hw3⟩
  have b3 := hw3.via b2
  go_wp2_with fail
  refine (C3 _ (h.via b3)).out.mono ?_
  rintro e w4 ⟨rfl, hw4⟩
  have b4 := hw4.via b3
  go_wp2_with fail
  refine (C4 _ (h.via b4)).out.mono ?_
  rintro e w5 ⟨rfl, hw5⟩
  have b5 := hw5.via b4
  go_wp2_with fail
  refine (C5 _ (h.via b5)).out.mono ?_
  rintro e v0 ⟨rfl, ht0, hp0⟩
  go_wp2_with fail
  refine (HN _ (hp0)).out.mono ?_
  rintro e v1 ⟨ht1, hl1, hp1, v, rfl, p6, n6, c6, p7, n7, c7, rfl, z6, z7, z8⟩
  have HR := Hid.intro (row_bt (((((((Bt.refl B _).trans (Bt.below hw2)).trans (Bt.below hw3)).trans (Bt.below hw4)).trans (Bt.below hw5)).trans ht0).trans ht1) (by omega) hR0)
  have hn1 : w.heap.size < _ := (Array.getElem?_eq_some_iff.1 (row_bt ((((((Bt.refl B _).trans (Bt.below hw2)).trans (Bt.below hw3)).trans (Bt.below hw4)).trans (Bt.below hw5)).trans ht0) (by omega) hR0)).1
  have hfe := fld_expr x.e.op x.e.t x.e.v.k x.e.v.b x.e.v.i x.e.v.s p6 n6 c6 p7 n7 c7 x.d
  go_wp2_with (with_reducible refine (id (?_ : wpList _ _ _ (Oper.mk _ (Op.store _ _ _) _ _ _ _ :: _) _ _)); refine wpList_store_row rfl _ _ _ rfl _ _ rfl rfl _ _ HR.out infoCond rfl rfl (by simp [Value.oneCell']) ?_)
  refine ret_cells rfl rfl (setRow_heap _ _ _ _ _ _ HR.out) Tryz.underlying96 infoCond rfl rfl (Post.ok ((((Bt.below (B := B) b5).trans ht0).trans ht1).row (Nat.le_refl _) _) (by first | omega | (simp at hl1 ⊢; omega)) (hp1.row hsz.1 _) ?_)
  refine CdV.res ⟨.slice none 0 0, .slice none 0 0, .slice none 0 0, .slice none 0 0, .slice none 0 0, .slice p6 n6 c6, .slice p7 n7 c7, .slice none 0 0, rfl, ⟨rep.none, rep.none, ?_, ?_, ?_⟩, z6, z7, rep.none⟩ hn1 _
  ·simpa [Cd.css] using rep.none
  ·simpa [Cd.css] using rep.none
  ·simpa [Cd.csss] using rep.none
set_option maxRecDepth 100000 in
set_option maxHeartbeats 2000000 in
theorem cond_6 {K B o f : Nat} (hC : CC K B (o + 1) (condM f (o + 1))) {r : List Lx} {w : World} (h : PAt K w B r o) (h0 : isK 1 r = false) (h1 : isM ⟨#[110, 111, 116]⟩ r = false) (h2 : isM ⟨#[101, 120, 105, 115, 116, 115]⟩ r = false) (h3 : isM ⟨#[102, 111, 114, 97, 108, 108]⟩ r = false) (h4 : isM ⟨#[40]⟩ r = false) (h5 : isM ⟨#[101, 118, 97, 108]⟩ r = false) (h6 : isM ⟨#[97, 99, 99]⟩ r = true) :
  Calls Tryz.prog 66 #[.pointer (some ⟨B, 0, none⟩)] w (Post K B o (r.length - 1) w (accM (condM f) o r.tail) fun w' c x => CdV (fun b => w.heap.size ≤ b) w' c x) := by
 have C0 := fun w (h : PAt K w B r o) => Hid.intro (h0 ▸ isKind_any h 1 : Calls _ _ _ _ fun e w' => e = .returned (.bool false) ∧ w' = w)
 have C1 := fun w (h : PAt K w B r o) => Hid.intro (skip_no h h1)
 have C2 := fun w (h : PAt K w B r o) => Hid.intro (skip_no h h2)
 have C3 := fun w (h : PAt K w B r o) => Hid.intro (skip_no h h3)
 have C4 := fun w (h : PAt K w B r o) => Hid.intro (h4 ▸ is_any h ⟨#[40]⟩ : Calls _ _ _ _ fun e w' => e = .returned (.bool false) ∧ Below w.heap.size w w')
 have C5 := fun w (h : PAt K w B r o) => Hid.intro (skip_no h h5)
 have C6 := fun w (h : PAt K w B r o) => Hid.intro (skip_yes h h6)
 have hsz := h.size
 have hR0 : (w.alloc zCd).heap[w.heap.size]? = some zCd := heap_alloc_new w _
 have b0 : Below w.heap.size w (w.alloc zCd) := below_al (Below.refl _ _) _
 unfold zCd at hR0 b0
 clear h0 h1 h2 h3 h4 h5 h6
 have HN := fun w (h : PAt K w B r.tail o) => Hid.intro (acc_any (C := condM f) hC h)
 clear hC
 cases hm : accM (condM f) o r.tail with
 | bad q =>
  rw [hm] at HN
  clear hm
  go_enter Tryz.func66, Tryz.ntmps66
  go_wp2_with fail
  refine (C0 _ (h.via b0)).out.mono ?_
  rintro e w1 ⟨rfl, rfl⟩
  go_wp2_with fail
  refine (C1 _ (h.via b0)).out.mono ?_
  rintro e w2 ⟨rfl, hw2⟩
  have b2 := hw2.via b0
  go_wp2_with fail
  refine (C2 _ (h.via b2)).out.mono ?_
  rintro e w3 ⟨rfl, hw3⟩
  have b3 := hw3.via b2
  go_wp2_with fail
  refine (C3 _ (h.via b3)).out.mono ?_
  rintro e w4 ⟨rfl, hw4⟩
  have b4 := hw4.via b3
  go_wp2_with fail
  refine (C4 _ (h.via b4)).out.mono ?_
  rintro e w5 ⟨rfl, hw5⟩
  have b5 := hw5.via b4
  go_wp2_with fail
  refine (C5 _ (h.via b5)).out.mono ?_
  rintro e w6 ⟨rfl, hw6⟩
  have b6 := hw6.via b5
  go_wp2_with fail
  refine (C6 _ (h.via b6)).out.mono ?_
  rintro e v0 ⟨rfl, ht0, hp0⟩
  go_wp2_with fail
  refine (HN _ (hp0)).out.mono ?_
  rintro e v1 ⟨ht1, rfl⟩
  exact ⟨rfl, ((Bt.below (B := B) b6).trans ht0).trans ht1, rfl⟩
 | ok x r1 =>
  rw [hm] at HN
  clear hm
  go_enter Tryz.func66, Tryz.ntmps66
  go_wp2_with fail
  refine (C0 _ (h.via b0)).out.mono ?_
  rintro e w1 ⟨rfl, rfl⟩
  go_wp2_with fail
  refine (C1 _ (h.via b0)).out.mono ?_
  rintro e w2 ⟨rfl, hw2⟩
  have b2 := hw2.via b0
  go_wp2_with fail
  refine (C2 _ (h.via b2)).out.mono ?_
  rintro e w3 ⟨rfl, hw3⟩
  have b3 := hw3.via b2
  go_wp2_with fail
  refine (C3 _ (h.via b3)).out.mono ?_
  rintro e w4 ⟨rfl, hw4⟩
  have b4 := hw4.via b3
  go_wp2_with fail
  refine (C4 _ (h.via b4)).out.mono ?_
  rintro e w5 ⟨rfl, hw5⟩
  have b5 := hw5.via b4
  go_wp2_with fail
  refine (C5 _ (h.via b5)).out.mono ?_
  rintro e w6 ⟨rfl, hw6⟩
  have b6 := hw6.via b5
  go_wp2_with fail
  refine (C6 _ (h.via b6)).out.mono ?_
  rintro e v0 ⟨rfl, ht0, hp0⟩
  go_wp2_with fail
  refine (HN _ (hp0)).out.mono ?_
  rintro e v1 ⟨ht1, hl1, hp1, v, rfl, hv⟩
  have HR := Hid.intro (row_bt ((((((((Bt.refl B _).trans (Bt.below hw2)).trans (Bt.below hw3)).trans (Bt.below hw4)).trans (Bt.below hw5)).trans (Bt.below hw6)).trans ht0).trans ht1) (by omega) hR0)
  have hn1 : w.heap.size < _ := (Array.getElem?_eq_some_iff.1 (row_bt (((((((Bt.refl B _).trans (Bt.below hw2)).trans (Bt.below hw3)).trans (Bt.below hw4)).trans (Bt.below hw5)).trans (Bt.below hw6)).trans ht0) (by omega) hR0)).1
  obtain ⟨cells, rfl⟩ := hv.form
  have hr := hv.reps
  go_wp2_with (with_reducible refine (id (?_ : wpList _ _ _ (Oper.mk _ (Op.store _ _ _) _ _ _ _ :: _) _ _)); refine wpList_store_row rfl _ _ _ rfl _ _ rfl rfl _ _ HR.out infoCond rfl hr.2.1 hr.2.2 ?_)
  refine ret_cells rfl rfl (setRow_heap _ _ _ _ _ _ HR.out) Tryz.underlying96 infoCond hr.2.1 rfl (Post.ok ((((Bt.below (B := B) b6).trans ht0).trans ht1).row (Nat.le_refl _) _) (by first | omega | (simp at hl1 ⊢; omega)) (hp1.row hsz.1 _) ?_)
  exact hv.res hn1 _
set_option maxRecDepth 100000 in
set_option maxHeartbeats 2000000 in
theorem cond_7 {K B o : Nat} {r : List Lx} {w : World} (h : PAt K w B r o) (h0 : isK 1 r = false) (h1 : isM ⟨#[110, 111, 116]⟩ r = false) (h2 : isM ⟨#[101, 120, 105, 115, 116, 115]⟩ r = false) (h3 : isM ⟨#[102, 111, 114, 97, 108, 108]⟩ r = false) (h4 : isM ⟨#[40]⟩ r = false) (h5 : isM ⟨#[101, 118, 97, 108]⟩ r = false) (h6 : isM ⟨#[97, 99, 99]⟩ r = false) (h7 : isM ⟨#[63]⟩ r = true) :
  Calls Tryz.prog 66 #[.pointer (some ⟨B, 0, none⟩)] w (Post K B o (r.length - 1) w (questionM o r.tail) fun w' c x => CdV (fun b => w.heap.size ≤ b) w' c x) := by
 have C0 := fun w (h : PAt K w B r o) => Hid.intro (h0 ▸ isKind_any h 1 : Calls _ _ _ _ fun e w' => e = .returned (.bool false) ∧ w' = w)
 have C1 := fun w (h : PAt K w B r o) => Hid.intro (skip_no h h1)
 have C2 := fun w (h : PAt K w B r o) => Hid.intro (skip_no h h2)
 have C3 := fun w (h : PAt K w B r o) => Hid.intro (skip_no h h3)
 have C4 := fun w (h : PAt K w B r o) => Hid.intro (h4 ▸ is_any h ⟨#[40]⟩ : Calls _ _ _ _ fun e w' => e = .returned (.bool false) ∧ Below w.heap.size w w')
 have C5 := fun w (h : PAt K w B r o) => Hid.intro (skip_no h h5)
 have C6 := fun w (h : PAt K w B r o) => Hid.intro (skip_no h h6)
 have C7 := fun w (h : PAt K w B r o) => Hid.intro (skip_yes h h7)
 have hsz := h.size
 have hR0 : (w.alloc zCd).heap[w.heap.size]? = some zCd := heap_alloc_new w _
 have b0 : Below w.heap.size w (w.alloc zCd) := below_al (Below.refl _ _) _
 unfold zCd at hR0 b0
 clear h0 h1 h2 h3 h4 h5 h6 h7
 have HN := fun w (h : PAt K w B r.tail o) => Hid.intro (question_any h)
 cases hm : questionM o r.tail with
 | bad q =>
  rw [hm] at HN
  clear hm
  go_enter Tryz.func66, Tryz.ntmps66
  go_wp2_with fail
  refine (C0 _ (h.via b0)).out.mono ?_
  rintro e w1 ⟨rfl, rfl⟩
  go_wp2_with fail
  refine (C1 _ (h.via b0)).out.mono ?_
  rintro e w2 ⟨rfl, hw2⟩
  have b2 := hw2.via b0
  go_wp2_with fail
  refine (C2 _ (h.via b2)).out.mono ?_
  rintro e w3 ⟨rfl, hw3⟩
  have b3 := hw3.via b2
  go_wp2_with fail
  refine (C3 _ (h.via b3)).out.mono ?_
  rintro e w4 ⟨rfl, hw4⟩
  have b4 := hw4.via b3
  go_wp2_with fail
  refine (C4 _ (h.via b4)).out.mono ?_
  rintro e w5 ⟨rfl, hw5⟩
  have b5 := hw5.via b4
  go_wp2_with fail
  refine (C5 _ (h.via b5)).out.mono ?_
  rintro e w6 ⟨rfl, hw6⟩
  have b6 := hw6.via b5
  go_wp2_with fail
  refine (C6 _ (h.via b6)).out.mono ?_
  rintro e w7 ⟨rfl, hw7⟩
  have b7 := hw7.via b6
  go_wp2_with fail
  refine (C7 _ (h.via b7)).out.mono ?_
  rintro e v0 ⟨rfl, ht0, hp0⟩
  go_wp2_with fail
  refine (HN _ (hp0)).out.mono ?_
  rintro e v1 ⟨ht1, rfl⟩
  exact ⟨rfl, ((Bt.below (B := B) b7).trans ht0).trans ht1, rfl⟩
 | ok x r1 =>
  rw [hm] at HN
  clear hm
  go_enter Tryz.func66, Tryz.ntmps66
  go_wp2_with fail
  refine (C0 _ (h.via b0)).out.mono ?_
  rintro e w1 ⟨rfl, rfl⟩
  go_wp2_with fail
  refine (C1 _ (h.via b0)).out.mono ?_
  rintro e w2 ⟨rfl, hw2⟩
  have b2 := hw2.via b0
  go_wp2_with fail
  refine (C2 _ (h.via b2)).out.mono ?_
  rintro e w3 ⟨rfl, hw3⟩
  have b3 := hw3.via b2
  go_wp2_with fail
  refine (C3 _ (h.via b3)).out.mono ?_
  rintro e w4 ⟨rfl, hw4⟩
  have b4 := hw4.via b3
  go_wp2_with fail
  refine (C4 _ (h.via b4)).out.mono ?_
  rintro e w5 ⟨rfl, hw5⟩
  have b5 := hw5.via b4
  go_wp2_with fail
  refine (C5 _ (h.via b5)).out.mono ?_
  rintro e w6 ⟨rfl, hw6⟩
  have b6 := hw6.via b5
  go_wp2_with fail
  refine (C6 _ (h.via b6)).out.mono ?_
  rintro e w7 ⟨rfl, hw7⟩
  have b7 := hw7.via b6
  go_wp2_with fail
  refine (C7 _ (h.via b7)).out.mono ?_
  rintro e v0 ⟨rfl, ht0, hp0⟩
  go_wp2_with fail
  refine (HN _ (hp0)).out.mono ?_
  rintro e v1 ⟨ht1, hl1, hp1, v, rfl, hv⟩
  have HR := Hid.intro (row_bt (((((((((Bt.refl B _).trans (Bt.below hw2)).trans (Bt.below hw3)).trans (Bt.below hw4)).trans (Bt.below hw5)).trans (Bt.below hw6)).trans (Bt.below hw7)).trans ht0).trans ht1) (by omega) hR0)
  have hn1 : w.heap.size < _ := (Array.getElem?_eq_some_iff.1 (row_bt ((((((((Bt.refl B _).trans (Bt.below hw2)).trans (Bt.below hw3)).trans (Bt.below hw4)).trans (Bt.below hw5)).trans (Bt.below hw6)).trans (Bt.below hw7)).trans ht0) (by omega) hR0)).1
  obtain ⟨cells, rfl⟩ := hv.form
  have hr := hv.reps
  go_wp2_with (with_reducible refine (id (?_ : wpList _ _ _ (Oper.mk _ (Op.store _ _ _) _ _ _ _ :: _) _ _)); refine wpList_store_row rfl _ _ _ rfl _ _ rfl rfl _ _ HR.out infoCond rfl hr.2.1 hr.2.2 ?_)
  refine ret_cells rfl rfl (setRow_heap _ _ _ _ _ _ HR.out) Tryz.underlying96 infoCond hr.2.1 rfl (Post.ok ((((Bt.below (B := B) b7).trans ht0).trans ht1).row (Nat.le_refl _) _) (by first | omega | (simp at hl1 ⊢; omega)) (hp1.row hsz.1 _) ?_)
  exact hv.res hn1 _
set_option maxRecDepth 100000 in
set_option maxHeartbeats 2000000 in
theorem cond_8 {K B o : Nat} (hPat : PatC K B o) {r : List Lx} {w : World} (h : PAt K w B r o) (h0 : isK 1 r = false) (h1 : isM ⟨#[110, 111, 116]⟩ r = false) (h2 : isM ⟨#[101, 120, 105, 115, 116, 115]⟩ r = false) (h3 : isM ⟨#[102, 111, 114, 97, 108, 108]⟩ r = false) (h4 : isM ⟨#[40]⟩ r = false) (h5 : isM ⟨#[101, 118, 97, 108]⟩ r = false) (h6 : isM ⟨#[97, 99, 99]⟩ r = false) (h7 : isM ⟨#[63]⟩ r = false) :
  Calls Tryz.prog 66 #[.pointer (some ⟨B, 0, none⟩)] w (Post K B o (r.length - 1) w (patternM ⟨#[]⟩ o r) fun w' c x => CdV (fun b => w.heap.size ≤ b) w' c x) := by
 have C0 := fun w (h : PAt K w B r o) => Hid.intro (h0 ▸ isKind_any h 1 : Calls _ _ _ _ fun e w' => e = .returned (.bool false) ∧ w' = w)
 have C1 := fun w (h : PAt K w B r o) => Hid.intro (skip_no h h1)
 have C2 := fun w (h : PAt K w B r o) => Hid.intro (skip_no h h2)
 have C3 := fun w (h : PAt K w B r o) => Hid.intro (skip_no h h3)
 have C4 := fun w (h : PAt K w B r o) => Hid.intro (h4 ▸ is_any h ⟨#[40]⟩ : Calls _ _ _ _ fun e w' => e = .returned (.bool false) ∧ Below w.heap.size w w')
 have C5 := fun w (h : PAt K w B r o) => Hid.intro (skip_no h h5)
 have C6 := fun w (h : PAt K w B r o) => Hid.intro (skip_no h h6)
 have C7 := fun w (h : PAt K w B r o) => Hid.intro (skip_no h h7)
 have hsz := h.size
 have hR0 : (w.alloc zCd).heap[w.heap.size]? = some zCd := heap_alloc_new w _
 have b0 : Below w.heap.size w (w.alloc zCd) := below_al (Below.refl _ _) _
 unfold zCd at hR0 b0
 clear h0 h1 h2 h3 h4 h5 h6 h7
 have HN := fun w (h : PAt K w B r o) => Hid.intro (hPat ⟨#[]⟩ _ w h)
 clear hPat
 cases hm : patternM ⟨#[]⟩ o r with
 | bad q =>
  rw [hm] at HN
  clear hm
  go_enter Tryz.func66, Tryz.ntmps66
  go_wp2_with fail
  refine (C0 _ (h.via b0)).out.mono ?_
  rintro e w1 ⟨rfl, rfl⟩
  go_wp2_with fail
  refine (C1 _ (h.via b0)).out.mono ?_
  rintro e w2 ⟨rfl, hw2⟩
  have b2 := hw2.via b0
  go_wp2_with fail
  refine (C2 _ (h.via b2)).out.mono ?_
  rintro e w3 ⟨rfl, hw3⟩
  have b3 := hw3.via b2
  go_wp2_with fail
  refine (C3 _ (h.via b3)).out.mono ?_
  rintro e w4 ⟨rfl, hw4⟩
  have b4 := hw4.via b3
  go_wp2_with fail
  refine (C4 _ (h.via b4)).out.mono ?_
  rintro e w5 ⟨rfl, hw5⟩
  have b5 := hw5.via b4
  go_wp2_with fail
  refine (C5 _ (h.via b5)).out.mono ?_
  rintro e w6 ⟨rfl, hw6⟩
  have b6 := hw6.via b5
  go_wp2_with fail
  refine (C6 _ (h.via b6)).out.mono ?_
  rintro e w7 ⟨rfl, hw7⟩
  have b7 := hw7.via b6
  go_wp2_with fail
  refine (C7 _ (h.via b7)).out.mono ?_
  rintro e w8 ⟨rfl, hw8⟩
  have b8 := hw8.via b7
  go_wp2_with fail
  refine (HN _ (h.via b8)).out.mono ?_
  rintro e v1 ⟨ht1, rfl⟩
  exact ⟨rfl, (Bt.below (B := B) b8).trans ht1, rfl⟩
 | ok x r1 =>
  rw [hm] at HN
  clear hm
  go_enter Tryz.func66, Tryz.ntmps66
  go_wp2_with fail
  refine (C0 _ (h.via b0)).out.mono ?_
  rintro e w1 ⟨rfl, rfl⟩
  go_wp2_with fail
  refine (C1 _ (h.via b0)).out.mono ?_
  rintro e w2 ⟨rfl, hw2⟩
  have b2 := hw2.via b0
  go_wp2_with fail
  refine (C2 _ (h.via b2)).out.mono ?_
  rintro e w3 ⟨rfl, hw3⟩
  have b3 := hw3.via b2
  go_wp2_with fail
  refine (C3 _ (h.via b3)).out.mono ?_
  rintro e w4 ⟨rfl, hw4⟩
  have b4 := hw4.via b3
  go_wp2_with fail
  refine (C4 _ (h.via b4)).out.mono ?_
  rintro e w5 ⟨rfl, hw5⟩
  have b5 := hw5.via b4
  go_wp2_with fail
  refine (C5 _ (h.via b5)).out.mono ?_
  rintro e w6 ⟨rfl, hw6⟩
  have b6 := hw6.via b5
  go_wp2_with fail
  refine (C6 _ (h.via b6)).out.mono ?_
  rintro e w7 ⟨rfl, hw7⟩
  have b7 := hw7.via b6
  go_wp2_with fail
  refine (C7 _ (h.via b7)).out.mono ?_
  rintro e w8 ⟨rfl, hw8⟩
  have b8 := hw8.via b7
  go_wp2_with fail
  refine (HN _ (h.via b8)).out.mono ?_
  rintro e v1 ⟨ht1, hl1, hp1, v, rfl, hv⟩
  have HR := Hid.intro (row_bt (((((((((Bt.refl B _).trans (Bt.below hw2)).trans (Bt.below hw3)).trans (Bt.below hw4)).trans (Bt.below hw5)).trans (Bt.below hw6)).trans (Bt.below hw7)).trans (Bt.below hw8)).trans ht1) (by omega) hR0)
  have hn1 : w.heap.size < _ := (Array.getElem?_eq_some_iff.1 (row_bt ((((((((Bt.refl B _).trans (Bt.below hw2)).trans (Bt.below hw3)).trans (Bt.below hw4)).trans (Bt.below hw5)).trans (Bt.below hw6)).trans (Bt.below hw7)).trans (Bt.below hw8)) (by omega) hR0)).1
  obtain ⟨cells, rfl⟩ := hv.form
  have hr := hv.reps
  go_wp2_with (with_reducible refine (id (?_ : wpList _ _ _ (Oper.mk _ (Op.store _ _ _) _ _ _ _ :: _) _ _)); refine wpList_store_row rfl _ _ _ rfl _ _ rfl rfl _ _ HR.out infoCond rfl hr.2.1 hr.2.2 ?_)
  refine ret_cells rfl rfl (setRow_heap _ _ _ _ _ _ HR.out) Tryz.underlying96 infoCond hr.2.1 rfl (Post.ok (((Bt.below (B := B) b8).trans ht1).row (Nat.le_refl _) _) (by first | omega | (simp at hl1 ⊢; omega)) (hp1.row hsz.1 _) ?_)
  exact hv.res hn1 _
theorem cond_step {K B o f : Nat} (hPat : PatC K B o) (hOr : OrC K B o) (hC : CC K B (o + 1) (condM f (o + 1))) : CC K B o (condM (f + 1) o) := by
 intro r w h
 rw [condM]
 cases h0 : isK 1 r with
 | true => rw [if_pos rfl]; exact cond_0 hPat h h0
 | false =>
  rw [if_neg (by simp)]
  cases h1 : isM ⟨#[110, 111, 116]⟩ r with
  | true => rw [if_pos rfl]; exact cond_1 hC h h0 h1
  | false =>
   rw [if_neg (by simp)]
   cases h2 : isM ⟨#[101, 120, 105, 115, 116, 115]⟩ r with
   | true => rw [if_pos rfl]; exact cond_2 hC h h0 h1 h2
   | false =>
    rw [if_neg (by simp)]
    cases h3 : isM ⟨#[102, 111, 114, 97, 108, 108]⟩ r with
    | true => rw [if_pos rfl]; exact cond_3 hC h h0 h1 h2 h3
    | false =>
     rw [if_neg (by simp)]
     cases h4 : isM ⟨#[40]⟩ r with
     | true => rw [if_pos rfl]; exact cond_4 hOr hC h h0 h1 h2 h3 h4
     | false =>
      rw [if_neg (by simp)]
      cases h5 : isM ⟨#[101, 118, 97, 108]⟩ r with
      | true => rw [if_pos rfl]; exact cond_5 h h0 h1 h2 h3 h4 h5
      | false =>
       rw [if_neg (by simp)]
       cases h6 : isM ⟨#[97, 99, 99]⟩ r with
       | true => rw [if_pos rfl]; exact cond_6 hC h h0 h1 h2 h3 h4 h5 h6
       | false =>
        rw [if_neg (by simp)]
        cases h7 : isM ⟨#[63]⟩ r with
        | true => rw [if_pos rfl]; exact cond_7 h h0 h1 h2 h3 h4 h5 h6 h7
        | false =>
         rw [if_neg (by simp)]
         exact cond_8 hPat h h0 h1 h2 h3 h4 h5 h6 h7
theorem cond_fuel {K B : Nat} (hPat : ∀ o, PatC K B o) (hOr : ∀ o, OrC K B o) : ∀ (f o : Nat), 31 ≤ f + o → CC K B o (condM f o)
 | 0, o, hf => fun r w h => absurd h.deep (by omega)
 | f + 1, o, hf => cond_step (hPat o) (hOr o) (cond_fuel hPat hOr f (o + 1) (by omega))
end
end Go.Proofs.YtoeodjobggodcaaGreatDoor
/- Several rows that are owned, in a struct's cells. -/
namespace Go.Proofs.YtoeodjobggodcaaGreatDoor
section
open Go.RowKit
structure Rd where
 el : TypeId
 sz : Nat
 m : Nat
 ds : List Dt
def Rd.up (r : Rd) (es : List Dt) : Rd := ⟨r.el, r.sz, r.m + 1, r.ds ++ es⟩
def offR (n : Nat) (vs : List Value) (b : Nat) : Prop := n ≤ b ∧ ∀ v ∈ vs, some b ≠ v.ownBlock
def RowsAt (n : Nat) (rs : List Rd) (vs : List Value) (w : World) : Prop :=
 rs.length = vs.length ∧ (∀ (i j : Nat) (vi vj : Value), vs[i]? = some vi → vs[j]? = some vj → i ≠ j → ∀ g, vi.ownBlock = some g → vj.ownBlock ≠ some g) ∧
 ∀ (i : Nat) (r : Rd) (v : Value), rs[i]? = some r → vs[i]? = some v → ∃ (p : Option Addr) (c : Nat) (xs : List Value), v = .slice p r.m c ∧ w.ownsRow n r.el r.sz v r.m xs ∧ reps (offR n vs) w r.ds xs
theorem own_same {w w' : World} {n : Nat} {el : TypeId} {sz m : Nat} {v : Value} {xs : List Value} (h : w.ownsRow n el sz v m xs) (hk : ∀ g, v.ownBlock = some g → w'.heap[g]? = w.heap[g]?) : w'.ownsRow n el sz v m xs := by
 refine ⟨h.1, ?_⟩
 rcases h.2 with hn | ⟨g, cap, cur, he, hb1, hgg, rest⟩
 ·exact .inl hn
 ·exact .inr ⟨g, cap, cur, he, hb1, (hk g (by rw [he]; rfl)).trans hgg, rest⟩
theorem RowsAt.move {n : Nat} {rs : List Rd} {vs : List Value} {w w' : World} (h : RowsAt n rs vs w) (hs : w.heap.size ≤ w'.heap.size) (hk : ∀ b, n ≤ b → b < w.heap.size → w'.heap[b]? = w.heap[b]?) : RowsAt n rs vs w' := by
 refine ⟨h.1, h.2.1, fun i r v hr hv => ?_⟩
 obtain ⟨p, c, xs, he, ho, hx⟩ := h.2.2 i r v hr hv
 refine ⟨p, c, xs, he, own_same ho fun g hg => hk g (ho.lt g hg).1 (ho.lt g hg).2, reps.move ⟨hs, fun b hb hlt o => World.cell?_of_block (a := ⟨b, o, none⟩) (hk b hb.1 hlt)⟩ (fun _ _ h => h) _ _ hx⟩
theorem RowsAt.bt {n B : Nat} {rs : List Rd} {vs : List Value} {w w' : World} (h : RowsAt n rs vs w) (hb : Bt B w w') (hB : B < n) : RowsAt n rs vs w' :=
 h.move hb.size fun b h1 h2 => hb.block b h2 (by omega)
structure Chg (C : Nat) (ow : Option Nat) (W w : World) : Prop where
 os : w.os = W.os
 tape : w.tape = W.tape
 output : w.output = W.output
 size : W.heap.size ≤ w.heap.size
 block : ∀ k, k < W.heap.size → k ≠ C → some k ≠ ow → w.heap[k]? = W.heap[k]?
theorem Chg.of {C : Nat} {ow : Option Nat} {W w : World} (h : W.grownBy w ow) : Chg C ow W w := ⟨h.os, h.tape, h.output, h.size, fun k hk _ ho => h.block k hk (fun e => ho e)⟩
theorem Chg.set {C : Nat} {ow : Option Nat} {W w : World} (h : Chg C ow W w) {p : Addr} (hp : p.block = C ∨ some p.block = ow ∨ W.heap.size ≤ p.block) (v : Value) : Chg C ow W (w.setCell p v) :=
 ⟨h.os, h.tape, h.output, by simpa using h.size, fun k hk hC ho => (Below.heap_setCell w p v k (by rcases hp with e | e | e; (rw [e]; exact hC); (intro hh; rw [hh] at ho; exact ho e); omega)).trans (h.block k hk hC ho)⟩
theorem Chg.setCells {C : Nat} {ow : Option Nat} {W : World} {g : Nat} (hg : some g = ow ∨ W.heap.size ≤ g) : ∀ (us : List Value) (o : Nat) (w : World), Chg C ow W w → Chg C ow W (w.setCells g o us)
 | [], _, _, h => h
 | u :: us, o, w, h => by
  rw [World.setCells]
  exact Chg.setCells hg us (o + 1) _ (h.set (p := ⟨g, o, none⟩) (.inr hg) u)
theorem RowsAt.push {n C : Nat} {rs : List Rd} {vs : List Value} {W w : World} (h : RowsAt n rs vs W) (hC : C < n) (k : Nat) {r : Rd} {v v' : Value} (_hr : rs[k]? = some r) (hv : vs[k]? = some v) {xs us : List Value} {es : List Dt}
  (hrx : reps (offR n vs) W r.ds xs) (hes : reps (offR n vs) W es us) {p' : Option Addr} {c' : Nat} (hv' : v' = .slice p' (r.m + 1) c') (ho : w.ownsRow n r.el r.sz v' (r.m + 1) (xs ++ us)) (hch : Chg C v.ownBlock W w)
  (hat : v'.ownBlock = v.ownBlock ∨ v'.ownBlock = some W.heap.size) : RowsAt n (rs.set k (r.up es)) (vs.set k v') w := by
 have hvm : v ∈ vs := List.mem_of_getElem? hv
 have hlt : ∀ (i : Nat) (u : Value), vs[i]? = some u → ∀ g, u.ownBlock = some g → n ≤ g ∧ g < W.heap.size := fun i u hu g hg => by
  have hi : i < rs.length := by rw [h.1]; exact (List.getElem?_eq_some_iff.1 hu).1
  obtain ⟨p, c, ys, -, ho', -⟩ := h.2.2 i rs[i] u (List.getElem?_eq_getElem hi) hu
  exact ho'.lt g hg
 have hoff : ∀ b, b < W.heap.size → offR n vs b → offR n (vs.set k v') b := fun b hb hob => ⟨hob.1, fun u hu => by
  rcases List.mem_or_eq_of_mem_set hu with hu | rfl
  ·exact hob.2 u hu
  ·rcases hat with e | e
   ·rw [e]; exact hob.2 v hvm
   ·rw [e]; intro he; cases he; omega⟩
 have hkp : Kp (offR n vs) W w := ⟨hch.size, fun b hb hlt o => World.cell?_of_block (a := ⟨b, o, none⟩) (hch.block b hlt (by have := hb.1; omega) (hb.2 v hvm))⟩
 refine ⟨by simp [h.1], fun i j vi vj hi hj hij g hg => ?_, fun i r' u hr' hu => ?_⟩
 ·rw [List.getElem?_set] at hi hj
  by_cases hki : k = i
  ·rw [if_pos hki] at hi
   rw [if_neg (by omega)] at hj
   split at hi
   ·cases hi
    rcases hat with e | e
    ·rw [e] at hg
     exact h.2.1 k j v vj hv hj (by omega) g hg
    ·rw [e] at hg
     cases hg
     intro he
     have := (hlt j vj hj _ he).2
     omega
   ·cases hi
  ·rw [if_neg hki] at hi
   by_cases hkj : k = j
   ·rw [if_pos hkj] at hj
    split at hj
    ·cases hj
     rcases hat with e | e
     ·rw [e]
      exact h.2.1 i k vi v hi hv (by omega) g hg
     ·rw [e]
      intro he
      cases he
      have := (hlt i vi hi _ hg).2
      omega
    ·cases hj
   ·rw [if_neg hkj] at hj
    exact h.2.1 i j vi vj hi hj hij g hg
 ·rw [List.getElem?_set] at hr' hu
  by_cases hki : k = i
  ·rw [if_pos hki] at hr' hu
   split at hr'
   ·cases hr'
    split at hu
    ·cases hu
     exact ⟨p', c', _, hv', ho, reps.append (reps.move hkp hoff _ _ hrx) (reps.move hkp hoff _ _ hes)⟩
    ·cases hu
   ·cases hr'
  ·rw [if_neg hki] at hr' hu
   obtain ⟨p, c, ys, he, ho', hy⟩ := h.2.2 i r' u hr' hu
   refine ⟨p, c, ys, he, own_same ho' fun g hg => hch.block g (ho'.lt g hg).2 (by have := (ho'.lt g hg).1; omega) (fun e => h.2.1 i k u v hu hv (by omega) g hg e.symm), reps.move hkp hoff _ _ hy⟩
def JR (n B C : Nat) (T : TypeId) (A : List Value → Array Value) (rs : List Rd) (w : World) (P : Nat → Prop) : Prop :=
 B < C ∧ C < n ∧ n ≤ w.heap.size ∧ ∃ vs, w.heap[C]? = some (.cells (A vs) T (0, 0)) ∧ RowsAt n rs vs w ∧ ∀ b, P b → b ≠ C ∧ ∀ v ∈ vs, some b ≠ v.ownBlock
theorem JR.stb {n B C : Nat} {T : TypeId} {A : List Value → Array Value} {rs : List Rd} : Stb B (JR n B C T A rs) := by
 rintro w w' P P' ⟨h1, h2, h3, vs, h4, h5, h6⟩ hb hp
 refine ⟨h1, h2, Nat.le_trans h3 hb.size, vs, row_bt hb (by omega) h4, h5.bt hb (by omega), fun b hb' => ?_⟩
 rcases hp b hb' with h | h
 ·exact h6 b h
 ·refine ⟨by omega, fun v hv he => ?_⟩
  obtain ⟨i, hi⟩ := List.mem_iff_getElem?.1 hv
  have hi' : i < rs.length := by rw [h5.1]; exact (List.getElem?_eq_some_iff.1 hi).1
  obtain ⟨p, c, ys, -, ho', -⟩ := h5.2.2 i rs[i] v (List.getElem?_eq_getElem hi') hi
  have := (ho'.lt b he.symm).2
  omega
theorem JR.push {n B C : Nat} {T : TypeId} {A : List Value → Array Value} {rs : List Rd} {W w : World} {P : Nat → Prop} (h1 : B < C) (h2 : C < n) (h3 : n ≤ W.heap.size) {vs : List Value} (h5 : RowsAt n rs vs W) (h6 : ∀ b, P b → b ≠ C ∧ ∀ v ∈ vs, some b ≠ v.ownBlock) (hP : Kn B P W)
  (k : Nat) {r : Rd} {v v' : Value} (hr : rs[k]? = some r) (hv : vs[k]? = some v) {xs us : List Value} {es : List Dt} (hrx : reps (offR n vs) W r.ds xs) (hes : reps (offR n vs) W es us) {p' : Option Addr} {c' : Nat} (hv' : v' = .slice p' (r.m + 1) c')
  (ho : w.ownsRow n r.el r.sz v' (r.m + 1) (xs ++ us)) (hch : Chg C v.ownBlock W w) (hat : v'.ownBlock = v.ownBlock ∨ v'.ownBlock = some W.heap.size) (h4 : w.heap[C]? = some (.cells (A (vs.set k v')) T (0, 0))) :
  JR n B C T A (rs.set k (r.up es)) w P ∧ Fr P W w := by
 have hvm : v ∈ vs := List.mem_of_getElem? hv
 refine ⟨⟨h1, h2, Nat.le_trans h3 hch.size, vs.set k v', h4, h5.push h2 k hr hv hrx hes hv' ho hch hat, fun b hb => ⟨(h6 b hb).1, fun u hu => ?_⟩⟩, hch.os, hch.tape, hch.output, hch.size, fun b hb => hch.block b (hP b hb).1 (h6 b hb).1 ((h6 b hb).2 v hvm)⟩
 rcases List.mem_or_eq_of_mem_set hu with hu | rfl
 ·exact (h6 b hb).2 u hu
 ·rcases hat with e | e
  ·rw [e]; exact (h6 b hb).2 v hvm
  ·rw [e]; intro he; cases he; have := (hP _ hb).1; omega
theorem PAt.chg {K : Nat} {W w : World} {B : Nat} {r : List Lx} {o C : Nat} {ow : Option Nat} (h : PAt K W B r o) (hc : Chg C ow W w) (hC : K ≤ C) (ho : ∀ g, ow = some g → K ≤ g) : PAt K w B r o :=
 h.other hc.size fun b hb => hc.block b (by have := h.size.1; omega) (by omega) (fun e => by have := ho b e.symm; omega)
theorem Bx.chg {B C b : Nat} {ow : Option Nat} {v : Value} {W w : World} (h : Bx B b v W) (hc : Chg C ow W w) (hC : b ≠ C) (ho : some b ≠ ow) : Bx B b v w := by
 have hb := hc.block b h.2.1 hC ho
 exact ⟨h.1, Nat.lt_of_lt_of_le h.2.1 hc.size, (World.cell?_of_block (a := ⟨b, 0, none⟩) hb).trans h.2.2.1, (World.frozen?_of_block (a := ⟨b, 0, none⟩) hb).trans h.2.2.2⟩
theorem own_last {n : Nat} {el : TypeId} {sz m g c : Nat} : ∀ (us zs xs : List Value) (w : World), w.ownsRow n el sz (.slice (some ⟨g, 0, none⟩) m c) m (xs ++ zs) → us.length = zs.length →
  (w.setCells g xs.length us).ownsRow n el sz (.slice (some ⟨g, 0, none⟩) m c) m (xs ++ us)
 | [], [], xs, w, h, _ => h
 | u :: us, z :: zs, xs, w, h, hl => by
  rw [World.setCells]
  have h1 := (h.stored xs.length u).1
  have e1 : (xs ++ z :: zs).set xs.length u = (xs ++ [u]) ++ zs := by simp
  rw [e1] at h1
  have h2 := own_last us zs (xs ++ [u]) _ h1 (by simpa using hl)
  have e2 : (xs ++ [u]).length = xs.length + 1 := by simp
  rw [e2] at h2
  simpa using h2
 | [], z :: zs, xs, w, h, hl => by simp at hl
 | u :: us, [], xs, w, h, hl => by simp at hl
theorem heap_setCells {b : Nat} : ∀ (us : List Value) (g o : Nat) (w : World), b ≠ g → (w.setCells g o us).heap[b]? = w.heap[b]?
 | [], _, _, _, _ => rfl
 | u :: us, g, o, w, hb => by
  rw [World.setCells, heap_setCells us g (o + 1) _ hb]
  exact Below.heap_setCell w ⟨g, o, none⟩ u b hb
end
end Go.Proofs.YtoeodjobggodcaaGreatDoor
/- Drawn regions: what several orders share. -/
namespace Go.Proofs.YtoeodjobggodcaaGreatDoor
section
open Go.RowKit
def putL (a : Act) (l : List (Nat × Value)) : Act := l.foldl (fun a x => a.put (some x.1) x.2) a
theorem share {P : Program} {md : Region.Mode} {ops : Array Oper} {Q : Exit → Act → World → Prop} {S : World → Prop} {fuel : Nat} {listed : Array Bool} {a : Act} {w : World} (F : Nat → World → List Value → Prop) (fu : Nat) (li : Array Bool) (sl : Nat → List Value → List (Nat × Value))
  (ht : ∀ z W us, F z W us → wpAnyH P md ops Q S fu li (putL a (sl z us)) W)
  (hh : (∀ z W us, F z W us → wpAnyH P md ops Q S fu li (putL a (sl z us)) W) → wpAnyH P md ops Q S fuel listed a w) : wpAnyH P md ops Q S fuel listed a w := hh ht
theorem own_setC {w : World} {n : Nat} {el : TypeId} {sz m : Nat} {v : Value} {xs : List Value} {C : Nat} (j : Nat) (h : w.ownsRow n el sz v m xs) (hC : C < n) (u : Value) : (w.setCell ⟨C, j, none⟩ u).ownsRow n el sz v m xs :=
 own_same h fun g hg => Below.heap_setCell w _ _ g (by have := (h.lt g hg).1; simp only; omega)
theorem RowsAt.off {n : Nat} {rs : List Rd} {vs : List Value} {w : World} (h : RowsAt n rs vs w) (hn : n ≤ w.heap.size) (b : Nat) (hb : w.heap.size ≤ b) : offR n vs b := by
 refine ⟨by omega, fun v hv he => ?_⟩
 obtain ⟨i, hi⟩ := List.mem_iff_getElem?.1 hv
 have hi' : i < rs.length := by rw [h.1]; exact (List.getElem?_eq_some_iff.1 hi).1
 obtain ⟨p, c, ys, -, ho', -⟩ := h.2.2 i rs[i] v (List.getElem?_eq_getElem hi') hi
 have := (ho'.lt b he.symm).2
 omega
end
end Go.Proofs.YtoeodjobggodcaaGreatDoor
