import Derived.Test.YtcgaadnfocmdbaaGreatDoorJoin16
import Derived.Test.YtcgaadnfocmdbaaGreatDoorJoin01
import Derived.Test.YtcgaadnfocmdbaaGreatDoorCards
import Derived.Test.YtcgaadnfocmdbaaGreatDoorTie
import Derived.ProofKit
import Derived.OpenShut
import Derived.Carry
import Derived.Lib.SmallJoins
import Derived.Deep.DeepHandedRow
import Derived.Deep.DeepWitnessRowRef
import Derived.Stop.LaidErr
import Derived.Test.YtcgaadnfocmdbaaGreatDoorJoin02

section
/- read: the ways behind lex. -/
namespace Go.Proofs.YtcgaadnfocmdbaaGreatDoor
open Go.RowKit
theorem BsV.move {P Q : Nat → Prop} {w w' : World} {b : Bs} {v : Value} (h : BsV P w b v) (hk : Kp P w w') (hpq : ∀ b, b < w.heap.size → P b → Q b) : BsV Q w' b v := by
  obtain ⟨x, y, z, rfl, h1, h2, h3⟩ := h
  exact ⟨x, y, z, rfl, rep.move hk hpq _ _ h1, rep.move hk hpq _ _ h2, rep.move hk hpq _ _ h3⟩
theorem res3B {tmps : Array Value} {n : Nat} {Z : Array Value} {a e : Int} {w : World} (t4 : tmps.getD 4 undef = .pointer (some ⟨n, 0, none⟩)) (t5 : tmps.getD 5 undef = .pointer (some ⟨n + 1, 0, none⟩)) (t6 : tmps.getD 6 undef = .pointer (some ⟨n + 1 + 1, 0, none⟩)) (hR : R3 n 27 Z a e w) (hZ : Z.size = 3) :
    (results Tryz.f18 tmps).run Tryz.prog w = .ok (.tuple #[.agg Z, .int .i64 a, .int .i64 e]) w := by
  have hl := run_loadVar_mid (P := Tryz.prog) w n 0 27 Z.toList _ (fun j v hv => by rw [Nat.zero_add, (heap_cell hR.1 j).1]; simpa using hv) Tryz.underlying27 rfl (by rw [Array.length_toList, hZ]; kernel_rfl)
  have d1 := (heap_cell hR.2.1 0).1
  have d2 := (heap_cell hR.2.2 0).1
  simp only [List.getElem?_toArray, List.getElem?_cons_zero] at d1 d2
  rw [Array.getD_eq_getD_getElem?] at t4 t5 t6
  simp [results, Tryz.results18, asAddr, Result.andThen, t4, t5, t6, hl]
  simp [go_sem, d1, d2]

set_option maxRecDepth 100000 in
set_option maxHeartbeats 4000000 in
theorem readB_go {s : ByteArray} (w : World) (h : s.size ≤ 65536) (hF : lexF s = none) (hgd : Gd (lexR s)) (hnl : (lexT s).length ≤ 4096) (hE : 2 < w.heap.size) (hev : ∃ ev, w.cell? ⟨2, 0, none⟩ = some ev ∧ (ev = .nilIface ∨ ∃ te pe, ev = .iface te pe)) :
    Calls Tryz.prog 18 #[.string s, .func (.func 19) #[] #[]] w fun x w' => Below w.heap.size w w' ∧ match (fileL (lexR s).length {} (lexR s)).bd endM with
      | .bad q => x = .returned (.tuple #[.agg #[.slice none 0 0, .slice none 0 0, .slice none 0 0], .int .i64 (q : Int), .int .i64 20])
      | .ok b _ => ∃ v, x = .returned (.tuple #[v, .int .i64 0, .int .i64 0]) ∧ BsV (fun k => w.heap.size ≤ k) w' b v := by
  have hmf : ∀ (fn : Fn) (first cap : Array Value) (w : World), (Instr.makeFunc fn first cap).run Tryz.prog w = .ok (.func fn first cap) w := fun _ _ _ _ => rfl
  have HL := fun w => Hid.intro (lex_ok h hF w)
  have hR0 := R3.new w 27 #[.slice none 0 0, .slice none 0 0, .slice none 0 0]
  have b0 : Below w.heap.size w (((w.alloc (.cells #[.slice none 0 0, .slice none 0 0, .slice none 0 0] 27)).alloc (.cells #[.int .i64 0] 3)).alloc (.cells #[.int .i64 0] 28)) := below_al (below_al (below_al (Below.refl _ _) _) _) _
  have hs0 : (((w.alloc (.cells #[.slice none 0 0, .slice none 0 0, .slice none 0 0] 27)).alloc (.cells #[.int .i64 0] 3)).alloc (.cells #[.int .i64 0] 28)).heap.size = w.heap.size + 3 := by simp
  have HNew := fun {w'} {v} hv hb hE hev => Hid.intro (new_any (base := w.heap.size + 3) (w := w') (v := v) (xs := lexT s) hv hb hnl s.size hgd hE hev)
  have HPart := fun B w' (hp : PAt (B + 1) w' B (lexR s) 0) => Hid.intro (file_any hp)
  have HEnd := fun B w' r (hp : PAt (B + 1) w' B r 0) => Hid.intro (end_any hp)
  have start : ∀ w1 v, w1.ownsRow (w.heap.size + 3) 47 4 v (lexT s).length ((lexT s).flatMap celL) → R3 w.heap.size 27 #[.slice none 0 0, .slice none 0 0, .slice none 0 0] 0 0 w1 → Below w.heap.size w w1 →
      Hid (R3 w.heap.size 27 #[.slice none 0 0, .slice none 0 0, .slice none 0 0] 0 0 ((w1.setCell ⟨w.heap.size + 1, 0, none⟩ (.int .i64 0)).setCell ⟨w.heap.size + 1 + 1, 0, none⟩ (.int .i64 0))) ∧ Hid (Below w.heap.size w ((w1.setCell ⟨w.heap.size + 1, 0, none⟩ (.int .i64 0)).setCell ⟨w.heap.size + 1 + 1, 0, none⟩ (.int .i64 0))) ∧ w.heap.size + 3 ≤ w1.heap.size ∧
      Hid (Calls Tryz.prog 32 #[v, .int .i64 (s.size : Int)] ((w1.setCell ⟨w.heap.size + 1, 0, none⟩ (.int .i64 0)).setCell ⟨w.heap.size + 1 + 1, 0, none⟩ (.int .i64 0)) fun e w' => ∃ B, e = .returned (.pointer (some ⟨B, 0, none⟩)) ∧ w.heap.size + 3 ≤ B ∧ PAt (B + 1) w' B (lexR s) 0 ∧ Below (w.heap.size + 3) ((w1.setCell ⟨w.heap.size + 1, 0, none⟩ (.int .i64 0)).setCell ⟨w.heap.size + 1 + 1, 0, none⟩ (.int .i64 0)) w') := by
    intro w1 v ho hR hB
    have hR2 := (hR.put1 0).put2 0
    have hB2 := (hB.setCell (p := ⟨w.heap.size + 1, 0, none⟩) (by simp) (.int .i64 0)).setCell (p := ⟨w.heap.size + 1 + 1, 0, none⟩) (by simp only; omega) (.int .i64 0)
    have hl := hR.lt
    refine ⟨hR2, hB2, by omega, ?_⟩
    refine (HNew (own_same ho fun g hg => ?_) (by simp; omega) (by omega) ?_).out
    · have := (ho.lt g hg).1
      exact (Below.heap_setCell _ _ _ _ (by simp only; omega)).trans (Below.heap_setCell _ _ _ _ (by simp only; omega))
    · obtain ⟨ev, h1, h2⟩ := hev
      exact ⟨ev, (hB2.cell (p := ⟨_, 0, none⟩) hE).trans h1, h2⟩
  clear HNew hev hgd hnl
  -- the deferred closure, behind a fault
  have hbad : ∀ (w4 : World) (q : Nat) (tmps : Array Value), R3 w.heap.size 27 #[.slice none 0 0, .slice none 0 0, .slice none 0 0] 0 0 w4 → Below w.heap.size w w4 → tmps.getD 4 undef = .pointer (some ⟨w.heap.size, 0, none⟩) → tmps.getD 5 undef = .pointer (some ⟨w.heap.size + 1, 0, none⟩) → tmps.getD 6 undef = .pointer (some ⟨w.heap.size + 1 + 1, 0, none⟩) →
      Leaves Tryz.prog Tryz.f18 tmps (fun x w' => Below w.heap.size w w' ∧ x = .returned (.tuple #[.agg #[.slice none 0 0, .slice none 0 0, .slice none 0 0], .int .i64 (q : Int), .int .i64 20])) [{ target := .fn (.func 31) #[.pointer (some ⟨w.heap.size + 1, 0, none⟩), .pointer (some ⟨w.heap.size + 1 + 1, 0, none⟩)], args := #[] }] (.panicking (flt q)) w4 := by
    intro w4 q tmps hR hB t4 t5 t6
    have hl := hR.lt
    refine leaves_cons (f := 31) (args := #[.pointer (some ⟨w.heap.size + 1, 0, none⟩), .pointer (some ⟨w.heap.size + 1 + 1, 0, none⟩)]) (by simp) (by simp [go_sem]) ?_
    refine (catchB (w.heap.size + 1) (w.heap.size + 1 + 1) q 0 0 w4 (by rw [(heap_cell hR.2.1 0).1]; rfl) (heap_cell hR.2.1 0).2 (by rw [(heap_cell hR.2.2 0).1]; rfl) (heap_cell hR.2.2 0).2 (by omega) (by omega) (by omega)).mono ?_
    rintro e u' w'' ⟨rfl, hset, rfl⟩
    show Leaves _ _ _ _ [] (settle u') _
    rw [hset]
    have hR' := ((hR.put1 (q : Int)).put2 20).below ((Below.refl _ _).alloc (Nat.le_refl _) (.cells #[.int .i64 (q : Int)] 74)) (by simp; omega)
    exact ⟨_, res3B t4 t5 t6 hR' rfl, ((hB.setCell (p := ⟨w.heap.size + 1, 0, none⟩) (by simp) (.int .i64 (q : Int))).setCell (p := ⟨w.heap.size + 1 + 1, 0, none⟩) (by simp only; omega) (.int .i64 20)).alloc (by simp; omega) _, rfl⟩
  have stay : ∀ (B : Nat) (w3 w4 : World), w.heap.size + 3 ≤ B → R3 w.heap.size 27 #[.slice none 0 0, .slice none 0 0, .slice none 0 0] 0 0 w3 → Below w.heap.size w w3 → Bt B w3 w4 → R3 w.heap.size 27 #[.slice none 0 0, .slice none 0 0, .slice none 0 0] 0 0 w4 ∧ Below w.heap.size w w4 := fun B w3 w4 hBn hR hB hb =>
    ⟨hR.same fun k h1 h2 => hb.block k (by have := hR.lt; omega) (by omega), hB.trans (hb.fresh (by omega) hB.size)⟩
  cases hm : fileL (lexR s).length {} (lexR s) with
  | bad q =>
    rw [hm] at HPart
    clear HEnd hm
    simp only [bd_bad]
    go_enter_defers Tryz.func18, Tryz.ntmps18
    go_wp2_with fail
    refine (HL _).out.mono ?_
    rintro x w1 ⟨v, rfl, hown, hb1⟩
    have hR1 := hR0.below hb1 (by omega)
    have hB1 := b0.trans (hb1.mono (by omega))
    obtain ⟨hR2, hB2, hs1, hNew⟩ := start w1 v (by rw [hs0] at hown; exact hown) hR1 hB1
    have hl1 := hR1.lt
    have c1 := (heap_cell hR1.2.1 0).1
    have f1 := (heap_cell hR1.2.1 0).2
    have c2 := (heap_cell hR1.2.2 0).1
    have f2 := (heap_cell hR1.2.2 0).2
    simp only [List.getElem?_toArray, List.getElem?_cons_zero] at c1 c2
    go_wp2_with fail
    refine hNew.out.mono ?_
    rintro x w3 ⟨B, rfl, hBn, hp3, hb3⟩
    have hR3 := hR2.out.below hb3 (by omega)
    have hB3 := hB2.out.trans (hb3.mono (by omega))
    clear c1 f1 c2 f2 hown hNew
    go_wp2_with fail
    refine (HPart B w3 hp3).out.mono ?_
    rintro x w4 ⟨hb4, rfl⟩
    obtain ⟨hR4, hB4⟩ := stay B w3 w4 hBn hR3 hB3 hb4
    exact hbad w4 q _ hR4 hB4 rfl rfl rfl
  | ok b r1 =>
    rw [hm] at HPart
    clear hm
    simp only [bd_ok]
    have HEnd := fun B w' (hp : PAt (B + 1) w' B r1 0) => HEnd B w' r1 hp
    cases hk : isK (-1) r1 with
    | false =>
      rw [show endM b r1 = .bad (hA r1) by unfold endM; rw [hk]; rfl]
      simp only [hk, Bool.false_eq_true, if_false] at HEnd
      go_enter_defers Tryz.func18, Tryz.ntmps18
      go_wp2_with fail
      refine (HL _).out.mono ?_
      rintro x w1 ⟨v, rfl, hown, hb1⟩
      have hR1 := hR0.below hb1 (by omega)
      have hB1 := b0.trans (hb1.mono (by omega))
      obtain ⟨hR2, hB2, hs1, hNew⟩ := start w1 v (by rw [hs0] at hown; exact hown) hR1 hB1
      have hl1 := hR1.lt
      have c1 := (heap_cell hR1.2.1 0).1
      have f1 := (heap_cell hR1.2.1 0).2
      have c2 := (heap_cell hR1.2.2 0).1
      have f2 := (heap_cell hR1.2.2 0).2
      simp only [List.getElem?_toArray, List.getElem?_cons_zero] at c1 c2
      go_wp2_with fail
      refine hNew.out.mono ?_
      rintro x w3 ⟨B, rfl, hBn, hp3, hb3⟩
      have hR3 := hR2.out.below hb3 (by omega)
      have hB3 := hB2.out.trans (hb3.mono (by omega))
      clear c1 f1 c2 f2 hown hNew
      go_wp2_with fail
      refine (HPart B w3 hp3).out.mono ?_
      rintro x w4 ⟨hb4, hl4, hp4, v4, rfl, hv⟩
      obtain ⟨hR4, hB4⟩ := stay B w3 w4 hBn hR3 hB3 hb4
      have hsz4 := hB4.size
      have hl4' := hR4.lt
      have hv' := hv
      obtain ⟨xa, xb, xc, rfl, q1, q2, q3⟩ := hv
      have hone : (#[xa, xb, xc] : Array Value).all (·.oneCell') = true := by simp [rep.one q1, rep.one q2, rep.one q3]
      have hbW : Below w4.heap.size w4 ((w4.alloc (.cells #[.slice none 0 0, .slice none 0 0, .slice none 0 0] 27)).setRow w4.heap.size #[xa, xb, xc]) := below_row (below_al (Below.refl _ _) _) (Nat.le_refl _) _
      go_wp2_with (with_reducible refine (id (?_ : wpList _ _ _ (Oper.mk _ (Op.store _ _ _) _ _ _ _ :: _) _ _)); refine wpList_store_row rfl _ _ _ rfl _ _ rfl rfl _ _ (heap_alloc_new w4 _) infoBase rfl rfl hone ?_)
      refine (HEnd B _ (hp4.via hbW)).out.mono ?_
      rintro x w5 ⟨hb5, rfl⟩
      have hR5 := hR4.below (hb5.via hbW) (by omega)
      have hB5 := hB4.trans ((hb5.via hbW).mono (by omega))
      exact hbad w5 _ _ hR5 hB5 rfl rfl rfl
    | true =>
      rw [show endM b r1 = .ok b r1 by unfold endM; rw [hk]; rfl]
      simp only [hk, if_true] at HEnd
      go_enter_defers Tryz.func18, Tryz.ntmps18
      go_wp2_with fail
      refine (HL _).out.mono ?_
      rintro x w1 ⟨v, rfl, hown, hb1⟩
      have hR1 := hR0.below hb1 (by omega)
      have hB1 := b0.trans (hb1.mono (by omega))
      obtain ⟨hR2, hB2, hs1, hNew⟩ := start w1 v (by rw [hs0] at hown; exact hown) hR1 hB1
      have hl1 := hR1.lt
      have c1 := (heap_cell hR1.2.1 0).1
      have f1 := (heap_cell hR1.2.1 0).2
      have c2 := (heap_cell hR1.2.2 0).1
      have f2 := (heap_cell hR1.2.2 0).2
      simp only [List.getElem?_toArray, List.getElem?_cons_zero] at c1 c2
      go_wp2_with fail
      refine hNew.out.mono ?_
      rintro x w3 ⟨B, rfl, hBn, hp3, hb3⟩
      have hR3 := hR2.out.below hb3 (by omega)
      have hB3 := hB2.out.trans (hb3.mono (by omega))
      clear c1 f1 c2 f2 hown hNew
      go_wp2_with fail
      refine (HPart B w3 hp3).out.mono ?_
      rintro x w4 ⟨hb4, hl4, hp4, v4, rfl, hv⟩
      obtain ⟨hR4, hB4⟩ := stay B w3 w4 hBn hR3 hB3 hb4
      have hsz4 := hB4.size
      have hl4' := hR4.lt
      have hv' := hv
      obtain ⟨xa, xb, xc, rfl, q1, q2, q3⟩ := hv
      have hone : (#[xa, xb, xc] : Array Value).all (·.oneCell') = true := by simp [rep.one q1, rep.one q2, rep.one q3]
      have hbW : Below w4.heap.size w4 ((w4.alloc (.cells #[.slice none 0 0, .slice none 0 0, .slice none 0 0] 27)).setRow w4.heap.size #[xa, xb, xc]) := below_row (below_al (Below.refl _ _) _) (Nat.le_refl _) _
      go_wp2_with (with_reducible refine (id (?_ : wpList _ _ _ (Oper.mk _ (Op.store _ _ _) _ _ _ _ :: _) _ _)); refine wpList_store_row rfl _ _ _ rfl _ _ rfl rfl _ _ (heap_alloc_new w4 _) infoBase rfl rfl hone ?_)
      refine (HEnd B _ (hp4.via hbW)).out.mono ?_
      rintro x w5 ⟨hb5, rfl⟩
      have hR5 := Hid.intro (hR4.below (hb5.via hbW) (by omega))
      have hB5 := Hid.intro (hB4.trans ((hb5.via hbW).mono (by omega)))
      have HR5a : Hid (w5.heap[w.heap.size]? = some (.cells #[.slice none 0 0, .slice none 0 0, .slice none 0 0] 27 (0, 0))) := hR5.out.1
      have hT5 := Hid.intro (row_call hb5 (by simp) (setRow_heap _ _ _ _ _ _ (heap_alloc_new w4 (.cells #[.slice none 0 0, .slice none 0 0, .slice none 0 0] 27))))
      have hR6 := hR5.out.row #[xa, xb, xc]
      have hB6 : Below w.heap.size w _ := below_row hB5.out (Nat.le_refl _) #[xa, xb, xc]
      have c5 := (heap_cell hR6.2.1 0).1
      have c6 := (heap_cell hR6.2.2 0).1
      have c5f := (heap_cell hR6.2.1 0).2
      have c6f := (heap_cell hR6.2.2 0).2
      have hl5 := hR6.lt
      simp only [List.getElem?_toArray, List.getElem?_cons_zero] at c5 c6
      go_wp2_with (first | (with_reducible refine (id (?_ : wpList _ _ _ (Oper.mk _ (Op.load _ _) _ _ _ _ :: _) _ _)); refine wpList_load_cells rfl _ _ rfl _ rfl _ _ _ hT5.out Tryz.underlying27 infoBase rfl ?_) | (with_reducible refine (id (?_ : wpList _ _ _ (Oper.mk _ (Op.store _ _ _) _ _ _ _ :: _) _ _)); refine wpList_store_row rfl _ _ _ rfl _ _ rfl rfl _ _ HR5a.out infoBase rfl rfl hone ?_))
      have hR7 := (hR6.put1 0).put2 0
      have hB7 := (hB6.setCell (p := ⟨w.heap.size + 1, 0, none⟩) (by simp) (.int .i64 0)).setCell (p := ⟨w.heap.size + 1 + 1, 0, none⟩) (by simp only; omega) (.int .i64 0)
      have hk : Kp (fun k => w3.heap.size ≤ k) w4 (((w5.setRow w.heap.size #[xa, xb, xc]).setCell ⟨w.heap.size + 1, 0, none⟩ (.int .i64 0)).setCell ⟨w.heap.size + 1 + 1, 0, none⟩ (.int .i64 0)) := by
        have hn3 := hR3.lt
        have h45 := hb5.via hbW
        refine ⟨by simpa using h45.size, fun b hb hlt o => World.cell?_of_block (a := ⟨b, o, none⟩) ?_⟩
        exact (Below.heap_setCell _ _ _ _ (by simp only; omega)).trans ((Below.heap_setCell _ _ _ _ (by simp only; omega)).trans ((setRow_other _ _ _ _ (by simp only; omega)).trans (h45.block b hlt)))
      refine leaves_cons (f := 31) (args := #[.pointer (some ⟨w.heap.size + 1, 0, none⟩), .pointer (some ⟨w.heap.size + 1 + 1, 0, none⟩)]) (by simp) (by simp [go_sem]) ?_
      refine (catchB_idle (w.heap.size + 1) (w.heap.size + 1 + 1) _).mono ?_
      rintro e u' w'' ⟨rfl, hset, rfl⟩
      show Leaves _ _ _ _ [] (settle u') _
      rw [hset]
      exact ⟨_, res3B rfl rfl rfl hR7 rfl, hB7, _, rfl, BsV.move hv' hk (fun b _ h => by have := hR3.lt; omega)⟩
end Go.Proofs.YtcgaadnfocmdbaaGreatDoor
end

section
/- The lexemes of a text are good ones. -/
namespace Go.Proofs.YtcgaadnfocmdbaaGreatDoor
open Go.RowKit

/-- A good lexeme. -/
def gdX (x : Lx) : Prop := 0 ≤ x.k ∧ (x.k = 2 → x.t.data.toList ≠ [] ∧ x.t.size ≤ 1000000 ∧ ∀ c ∈ x.t.data.toList, isDig c = true)
theorem gd_of : ∀ (xs : List Lx) (z : Lx), (∀ x ∈ xs, gdX x) → z.k = -1 → Gd (xs ++ [z])
  | [], z, _, hz => hz
  | [x], z, h, hz => ⟨h x (by simp), hz⟩
  | x :: y :: r, z, h, hz => ⟨h x (by simp), gd_of (y :: r) z (fun x hx => h x (by simp [hx])) hz⟩
theorem mem_tw (p : UInt8 → Bool) : ∀ (l : List UInt8) {d : UInt8}, d ∈ l.takeWhile p → p d = true
  | [], d, h => by simp at h
  | c :: l, d, h => by
    rw [List.takeWhile_cons] at h
    split at h
    · rename_i hc
      rcases List.mem_cons.1 h with rfl | h
      · exact hc
      · exact mem_tw p l h
    · simp at h
theorem one_good {a : Nat} {l : List UInt8} {x : Lx} (h : oneL a l = some x) (hl : l.length ≤ 1000000) : gdX x := by
  unfold oneL at h
  split at h
  · cases h
  · rename_i c r
    split at h
    · cases h; exact ⟨by simp, fun e => by simp at e⟩
    · split at h
      · rename_i hd
        cases h
        refine ⟨by simp, fun _ => ⟨?_, ?_, ?_⟩⟩
        · have := takeWhile_pos (p := isDig) (c := c) (r := r) hd
          intro e
          have e' : (c :: r).takeWhile isDig = [] := by simpa [bs] using e
          rw [e'] at this
          exact absurd this (by simp)
        · have := takeWhile_le isDig (c :: r)
          show ((c :: r).takeWhile isDig).toArray.size ≤ _
          rw [List.size_toArray]; omega
        · intro d hd'
          have hd' : d ∈ (c :: r).takeWhile isDig := by simpa [bs] using hd'
          exact mem_tw isDig _ hd'
      · split at h
        · unfold varL at h
          split at h
          · split at h
            · cases h; exact ⟨by simp, fun e => by simp at e⟩
            · cases h
          · cases h
        · split at h
          · unfold quoL at h
            obtain ⟨p, -, rfl⟩ := Option.map_eq_some_iff.1 h
            exact ⟨by simp, fun e => by simp at e⟩
          · unfold markL at h
            simp only at h
            split at h
            · cases h; exact ⟨by simp, fun e => by simp at e⟩
            · split at h
              · cases h; exact ⟨by simp, fun e => by simp at e⟩
              · cases h
theorem tells_good : ∀ (m a : Nat) (l : List UInt8), l.length ≤ m → l.length ≤ 1000000 → ∀ z ∈ tells a l, z.2 = true → gdX z.1
  | m, a, l, hm, hl, z, hz, h2 => by
    cases hd : l.drop (blk false l) with
    | nil => rw [tells_end hd] at hz; cases hz
    | cons c r =>
      have hlc := congrArg List.length hd
      rw [List.length_drop, List.length_cons] at hlc
      cases h1 : oneL (a + blk false l) (c :: r) with
      | none => rw [tells_no hd h1] at hz; simp at hz; subst hz; cases h2
      | some x =>
        have hp := oneL_pos h1
        rw [List.length_cons] at hp
        rw [tells_yes hd h1] at hz
        match m, hm with
        | 0, hm => omega
        | m + 1, hm =>
          rcases List.mem_cons.1 hz with rfl | hz
          · exact one_good h1 (by simp; omega)
          · exact tells_good m x.e (l.drop (x.e - a)) (by rw [List.length_drop]; omega) (by rw [List.length_drop]; omega) z hz h2
theorem gth_none : ∀ (T : List (Lx × Bool)) (k : Nat), gth k T = none → (∀ z ∈ T, z.2 = true) ∧ (k ≤ 4096 → k + T.length ≤ 4096)
  | [], k, _ => ⟨fun z hz => by simp at hz, fun h => by simpa using h⟩
  | z :: r, k, h => by
    rw [gth] at h
    split at h
    · cases h
    · rename_i hn
      obtain ⟨h1, h2⟩ := gth_none r (k + 1) h
      have hz : z.2 = true := by
        cases hb : z.2 with
        | true => rfl
        | false => exact absurd (.inl hb) hn
      have hk : k ≠ 4096 := fun e => hn (.inr e)
      refine ⟨fun y hy => ?_, fun h => ?_⟩
      · rcases List.mem_cons.1 hy with rfl | hy
        · exact hz
        · exact h1 y hy
      · have := h2 (by omega); simp; omega
theorem lexR_good {s : ByteArray} (h : s.size ≤ 65536) (hF : lexF s = none) : Gd (lexR s) ∧ (lexT s).length ≤ 4096 := by
  obtain ⟨h1, h2⟩ := gth_none _ 0 hF
  have hlen : (tl s 0).length ≤ 1000000 := by rw [tl_len]; omega
  refine ⟨gd_of _ _ (fun x hx => ?_) rfl, ?_⟩
  · obtain ⟨z, hz, rfl⟩ := List.mem_map.1 hx
    exact tells_good _ 0 _ (Nat.le_refl _) hlen z hz (h1 z hz)
  · have := h2 (by omega)
    rw [lexT_len]; omega
end Go.Proofs.YtcgaadnfocmdbaaGreatDoor
end

section
/- Parse: what it tells. -/
namespace Go.Proofs.YtcgaadnfocmdbaaGreatDoor
open Go.RowKit

/-- What is told of a text. -/
def ParP (n : Nat) (w' : World) (x : Ending) : Told Bs → Prop
  | .long => x = .returned (.tuple #[.agg #[.slice none 0 0, .slice none 0 0, .slice none 0 0], .int .i64 0, .int .i64 21])
  | .bad q => x = .returned (.tuple #[.agg #[.slice none 0 0, .slice none 0 0, .slice none 0 0], .int .i64 (q : Int), .int .i64 20])
  | .ok b => ∃ v, x = .returned (.tuple #[v, .int .i64 0, .int .i64 0]) ∧ BsV (fun k => n ≤ k) w' b v
theorem readB_any (s : ByteArray) (w : World) (hE : 2 < w.heap.size) (hev : ∃ ev, w.cell? ⟨2, 0, none⟩ = some ev ∧ (ev = .nilIface ∨ ∃ te pe, ev = .iface te pe)) :
    Calls Tryz.prog 18 #[.string s, .func (.func 19) #[] #[]] w fun x w' => Below w.heap.size w w' ∧ ParP w.heap.size w' x (parseM s) := by
  unfold parseM readM
  by_cases hl : 65536 < s.size
  · rw [if_pos hl]
    exact readB_lex _ w 0 21 (by decide) fun w => Hid.intro (lex_long hl w)
  · rw [if_neg hl]
    have hs : s.size ≤ 65536 := by omega
    cases hF : lexF s with
    | some a => exact readB_lex _ w a 20 (by decide) fun w => Hid.intro (lex_bad hs hF w)
    | none =>
      obtain ⟨h1, h2⟩ := lexR_good hs hF
      refine (readB_go w hs hF h1 h2 hE hev).mono ?_
      rintro x w' ⟨hb, hr⟩
      refine ⟨hb, ?_⟩
      cases hm : (fileL (lexR s).length {} (lexR s)).bd endM with
      | bad q => rw [hm] at hr; dsimp only; exact hr
      | ok b r => rw [hm] at hr; dsimp only; exact hr

set_option maxRecDepth 100000 in
set_option maxHeartbeats 4000000 in
theorem parse_any (s : ByteArray) (w : World) (hE : 2 < w.heap.size) (hev : ∃ ev, w.cell? ⟨2, 0, none⟩ = some ev ∧ (ev = .nilIface ∨ ∃ te pe, ev = .iface te pe)) :
    Calls Tryz.prog 10 #[.string s] w fun x w' => Below w.heap.size w w' ∧ ParP w.heap.size w' x (parseM s) := by
  have hR0 : (w.alloc (.cells #[.slice none 0 0, .slice none 0 0, .slice none 0 0] 27)).heap[w.heap.size]? = some (.cells #[.slice none 0 0, .slice none 0 0, .slice none 0 0] 27) := heap_alloc_new w _
  have b0 : Below w.heap.size w (w.alloc (.cells #[.slice none 0 0, .slice none 0 0, .slice none 0 0] 27)) := below_al (Below.refl _ _) _
  have HR := Hid.intro (readB_any s (w.alloc (.cells #[.slice none 0 0, .slice none 0 0, .slice none 0 0] 27)) (by simp; omega) (by obtain ⟨ev, h1, h2⟩ := hev; exact ⟨ev, (b0.cell (p := ⟨_, 0, none⟩) hE).trans h1, h2⟩))
  clear hev
  have fin : ∀ (x : Ending) (w1 : World) (cells : Array Value) (a e : Int), Below (w.alloc (.cells #[.slice none 0 0, .slice none 0 0, .slice none 0 0] 27)).heap.size (w.alloc (.cells #[.slice none 0 0, .slice none 0 0, .slice none 0 0] 27)) w1 → cells.size = 3 →
      Hid (w1.heap[w.heap.size]? = some (.cells #[.slice none 0 0, .slice none 0 0, .slice none 0 0] 27)) ∧ Hid (Below w.heap.size w (w1.setRow w.heap.size cells)) := fun x w1 cells a e hb hc =>
    ⟨row_call hb (by simp) hR0, below_row (b0.trans (hb.mono (by simp))) (Nat.le_refl _) _⟩
  have hgo : ∀ (x : Ending) (w1 : World) (cells : Array Value) (a e : Int) (R : Ending → World → Prop), Below (w.alloc (.cells #[.slice none 0 0, .slice none 0 0, .slice none 0 0] 27)).heap.size (w.alloc (.cells #[.slice none 0 0, .slice none 0 0, .slice none 0 0] 27)) w1 → cells.size = 3 → R (.returned (.tuple #[.agg cells, .int .i64 a, .int .i64 e])) (w1.setRow w.heap.size cells) →
      bodyPost Tryz.prog Tryz.f10 R .ret ⟨#[.string s, undef, .pointer (some ⟨w.heap.size, 0, none⟩), .int .i64 a, .int .i64 e, .string s, .tuple #[.agg cells, .int .i64 a, .int .i64 e], .agg cells, .int .i64 a, .int .i64 e], []⟩ (w1.setRow w.heap.size cells) := by
    intro x w1 cells a e R hb hc hR
    have hr0 : w1.heap[w.heap.size]? = some (.cells #[.slice none 0 0, .slice none 0 0, .slice none 0 0] 27) := row_call hb (by simp) hR0
    have hrow := setRow_heap _ _ _ cells _ _ hr0
    refine bodyPost_ret (v := .tuple #[.agg cells, .int .i64 a, .int .i64 e]) ?_ rfl hR
    have hl := run_loadVar_mid (P := Tryz.prog) (w1.setRow w.heap.size cells) w.heap.size 0 27 cells.toList _ (fun j v hv => by rw [Nat.zero_add, (heap_cell hrow j).1]; simpa using hv) Tryz.underlying27 rfl (by rw [Array.length_toList, hc]; kernel_rfl)
    simp [results, Tryz.results10, asAddr, Result.andThen, hl]
  clear hE
  cases hm : parseM s with
  | long =>
    rw [hm] at HR
    go_enter Tryz.func10, Tryz.ntmps10
    go_wp2_with fail
    refine HR.out.mono ?_
    rintro x w1 ⟨hb, rfl⟩
    obtain ⟨h1, h2⟩ := fin (.returned undef) w1 #[.slice none 0 0, .slice none 0 0, .slice none 0 0] 0 0 hb rfl
    go_wp2_with (with_reducible refine (id (?_ : wpList _ _ _ (Oper.mk _ (Op.store _ _ _) _ _ _ _ :: _) _ _)); refine wpList_store_row rfl _ _ _ rfl _ _ rfl rfl _ _ h1.out infoBase rfl rfl (by simp [Value.oneCell']) ?_)
    exact hgo (.returned undef) w1 _ _ _ _ hb rfl ⟨h2.out, rfl⟩
  | bad q =>
    rw [hm] at HR
    go_enter Tryz.func10, Tryz.ntmps10
    go_wp2_with fail
    refine HR.out.mono ?_
    rintro x w1 ⟨hb, rfl⟩
    obtain ⟨h1, h2⟩ := fin (.returned undef) w1 #[.slice none 0 0, .slice none 0 0, .slice none 0 0] 0 0 hb rfl
    go_wp2_with (with_reducible refine (id (?_ : wpList _ _ _ (Oper.mk _ (Op.store _ _ _) _ _ _ _ :: _) _ _)); refine wpList_store_row rfl _ _ _ rfl _ _ rfl rfl _ _ h1.out infoBase rfl rfl (by simp [Value.oneCell']) ?_)
    exact hgo (.returned undef) w1 _ _ _ _ hb rfl ⟨h2.out, rfl⟩
  | ok b =>
    rw [hm] at HR
    go_enter Tryz.func10, Tryz.ntmps10
    go_wp2_with fail
    refine HR.out.mono ?_
    rintro x w1 ⟨hb, v, rfl, hv⟩
    have hv' := hv
    obtain ⟨xa, xb, xc, rfl, q1, q2, q3⟩ := hv
    have hone : (#[xa, xb, xc] : Array Value).all (·.oneCell') = true := by simp [rep.one q1, rep.one q2, rep.one q3]
    obtain ⟨h1, h2⟩ := fin (.returned undef) w1 #[xa, xb, xc] 0 0 hb rfl
    go_wp2_with (with_reducible refine (id (?_ : wpList _ _ _ (Oper.mk _ (Op.store _ _ _) _ _ _ _ :: _) _ _)); refine wpList_store_row rfl _ _ _ rfl _ _ rfl rfl _ _ h1.out infoBase rfl rfl hone ?_)
    refine hgo (.returned undef) w1 _ _ _ _ hb rfl ⟨h2.out, _, rfl, BsV.move hv' ⟨by simp, fun k hk _ o => World.cell?_of_block (a := ⟨k, o, none⟩) (setRow_other _ _ _ _ ?_)⟩ ?_⟩
    · simp only; simp at hk; omega
    · intro k _ hk; simp at hk; omega
end Go.Proofs.YtcgaadnfocmdbaaGreatDoor
end

section
/- read of an expression, where lex refuses. -/
namespace Go.Proofs.YtcgaadnfocmdbaaGreatDoor
open Go.RowKit
set_option maxRecDepth 100000 in
set_option maxHeartbeats 4000000 in
theorem readE_lex {s : ByteArray} (fv : Value) (w : World) (a e : Int) (he : e ≠ 0) (HL : ∀ w, Hid (Calls Tryz.prog 17 #[.string s] w fun x W' => x = .returned (.tuple #[.slice none 0 0, .int .i64 a, .int .i64 e]) ∧ Below w.heap.size w W')) :
    Calls Tryz.prog 25 #[.string s, fv] w fun x w' => Below w.heap.size w w' ∧ x = .returned (.tuple #[.agg #[.int .i64 0, .string ⟨#[]⟩, .int .i64 0, .bool false, .int .i64 0, .string ⟨#[]⟩, .slice none 0 0, .slice none 0 0], .int .i64 a, .int .i64 e]) := by
  have hR0 := R3.new w 39 #[.int .i64 0, .string ⟨#[]⟩, .int .i64 0, .bool false, .int .i64 0, .string ⟨#[]⟩, .slice none 0 0, .slice none 0 0]
  have hs0 := hR0.lt
  have b0 : Below w.heap.size w (((w.alloc (.cells #[.int .i64 0, .string ⟨#[]⟩, .int .i64 0, .bool false, .int .i64 0, .string ⟨#[]⟩, .slice none 0 0, .slice none 0 0] 39)).alloc (.cells #[.int .i64 0] 3)).alloc (.cells #[.int .i64 0] 28)) := below_al (below_al (below_al (Below.refl _ _) _) _) _
  go_enter_defers Tryz.func25, Tryz.ntmps25
  go_wp2_with fail
  refine (HL _).out.mono ?_
  rintro x w1 ⟨rfl, hb1⟩
  have hR1 := hR0.below hb1 (by omega)
  have hB1 := b0.trans (hb1.mono (by omega))
  have hl1 := hR1.lt
  have c1 := (heap_cell hR1.2.1 0).1
  have f1 := (heap_cell hR1.2.1 0).2
  have c2 := (heap_cell hR1.2.2 0).1
  have f2 := (heap_cell hR1.2.2 0).2
  have z0 := (heap_cell hR1.1 0).1
  have z1 := (heap_cell hR1.1 1).1
  have z2 := (heap_cell hR1.1 2).1
  have g0 := (heap_cell hR1.1 0).2
  have g1 := (heap_cell hR1.1 1).2
  have g2 := (heap_cell hR1.1 2).2
  simp only [List.getElem?_toArray, List.getElem?_cons_zero, List.getElem?_cons_succ] at c1 c2 z0 z1 z2
  have hR2 := (hR1.put1 a).put2 e
  have hB2 := (hB1.setCell (p := ⟨w.heap.size + 1, 0, none⟩) (by simp) (.int .i64 a)).setCell (p := ⟨w.heap.size + 1 + 1, 0, none⟩) (by simp only; omega) (.int .i64 e)
  have hmo : Tryz.prog.follows .mixedOrders = true := by kernel_rfl
  go_wp2_with fail
  refine wp_region_noPanic ?_
  refine wp_region_held_drew (S := fun w' => R3 w.heap.size 39 #[.int .i64 0, .string ⟨#[]⟩, .int .i64 0, .bool false, .int .i64 0, .string ⟨#[]⟩, .slice none 0 0, .slice none 0 0] a e w' ∧ Below w.heap.size w w') hmo ⟨hR2, hB2.drew⟩ (fun hS => ?_)
  refine take_q 0 18 (.agg #[.int .i64 0, .string ⟨#[]⟩, .int .i64 0, .bool false, .int .i64 0, .string ⟨#[]⟩, .slice none 0 0, .slice none 0 0]) ⟨_, rfl, rfl, yieldsIf_load_mid (by rfl) _ _ rfl w.heap.size 0 rfl [.int .i64 0, .string ⟨#[]⟩, .int .i64 0, .bool false, .int .i64 0, .string ⟨#[]⟩, .slice none 0 0, .slice none 0 0] _ (fun w' h j v hv => by rw [Nat.zero_add, (heap_cell h.1.1 j).1]; simpa using hv) Tryz.underlying39 rfl (by kernel_rfl)⟩ (by kernel_rfl) (by kernel_rfl) (by kernel_rfl) (fun _ _ _ h => h) hS ?_
  simp only [List.setIfInBounds_toArray, List.set_cons_succ, List.set_cons_zero]
  refine take_q 1 19 (.int .i64 a) ⟨_, rfl, rfl, Or.inl ⟨by rfl, fun w' hSw => by have hc := (heap_cell hSw.1.2.1 0).1; simp only [List.getElem?_toArray, List.getElem?_cons_zero] at hc; go_simp⟩⟩ (by kernel_rfl) (by kernel_rfl) (by kernel_rfl) (fun _ _ _ h => h) hS ?_
  simp only [List.setIfInBounds_toArray, List.set_cons_succ, List.set_cons_zero]
  refine take_q 2 20 (.int .i64 e) ⟨_, rfl, rfl, Or.inl ⟨by rfl, fun w' hSw => by have hc := (heap_cell hSw.1.2.2 0).1; simp only [List.getElem?_toArray, List.getElem?_cons_zero] at hc; go_simp⟩⟩ (by kernel_rfl) (by kernel_rfl) (by kernel_rfl) (fun _ _ _ h => h) hS ?_
  simp only [List.setIfInBounds_toArray, List.set_cons_succ, List.set_cons_zero]
  generalize World.drew _ = w3 at hS ⊢
  refine wpAnyH_ready (rs := [3]) (by kernel_rfl) (by simp) ?_
  refine AllReadyH.cons rfl (fun K' hK => ?_) AllReadyH.nil
  rw [if_pos (by rfl)]
  refine wp_store_cells _ _ _ rfl w.heap.size _ rfl rfl _ _ hS.1.1 infoExpr rfl rfl (by simp [Value.oneCell']) ?_
  refine hK.out _ _ ⟨hS.1.row _, below_row hS.2 (Nat.le_refl _) _⟩ (fun hS => ?_)
  clear hK K'
  (try simp only [Act.put, List.setIfInBounds_toArray])
  generalize World.setRow _ _ _ = w4 at hS ⊢
  refine wpAnyH_ready (rs := [4]) (by kernel_rfl) (by simp) ?_
  refine AllReadyH.cons rfl (fun K' hK => ?_) AllReadyH.nil
  have d1 := (heap_cell hS.1.2.1 0).1
  have d1f := (heap_cell hS.1.2.1 0).2
  have d1s := hS.1.lt
  simp only [List.getElem?_toArray, List.getElem?_cons_zero] at d1
  go_simp
  go_wp2_with fail
  refine hK.out _ _ ⟨hS.1.put1 _, hS.2.setCell (p := ⟨w.heap.size + 1, 0, none⟩) (by simp) _⟩ (fun hS => ?_)
  clear hK K' d1 d1f d1s
  (try simp only [Act.put, List.setIfInBounds_toArray, List.set_cons_succ, List.set_cons_zero])
  generalize World.setCell _ _ _ = w5 at hS ⊢
  refine wpAnyH_ready (rs := [5]) (by kernel_rfl) (by simp) ?_
  refine AllReadyH.cons rfl (fun K' hK => ?_) AllReadyH.nil
  have d1 := (heap_cell hS.1.2.2 0).1
  have d1f := (heap_cell hS.1.2.2 0).2
  have d1s := hS.1.lt
  simp only [List.getElem?_toArray, List.getElem?_cons_zero] at d1
  go_simp
  go_wp2_with fail
  refine hK.out _ _ ⟨hS.1.put2 _, hS.2.setCell (p := ⟨w.heap.size + 1 + 1, 0, none⟩) (by simp only; omega) _⟩ (fun hS => ?_)
  clear hK K' d1 d1f d1s
  (try simp only [Act.put, List.setIfInBounds_toArray, List.set_cons_succ, List.set_cons_zero])
  generalize World.setCell _ _ _ = w6 at hS ⊢
  refine wpAnyH_done (by kernel_rfl) ?_ _
  refine np_normal ?_
  go_wp2_with fail
  have hres : (results Tryz.f25 #[.string s, fv, undef, undef, .pointer (some ⟨w.heap.size, 0, none⟩), .pointer (some ⟨w.heap.size + 1, 0, none⟩), .pointer (some ⟨w.heap.size + 1 + 1, 0, none⟩), .slice none 0 0, undef, undef, .tuple #[.slice none 0 0, .int .i64 a, .int .i64 e], .string s, .tuple #[.slice none 0 0, .int .i64 a, .int .i64 e], .slice none 0 0, .int .i64 a, .int .i64 e, .int .i64 e, .bool true, .agg #[.int .i64 0, .string ⟨#[]⟩, .int .i64 0, .bool false, .int .i64 0, .string ⟨#[]⟩, .slice none 0 0, .slice none 0 0], .int .i64 a, .int .i64 e, undef, undef, undef, undef, undef, undef, undef, undef, undef, undef, undef]).run Tryz.prog w6 = .ok (.tuple #[.agg #[.int .i64 0, .string ⟨#[]⟩, .int .i64 0, .bool false, .int .i64 0, .string ⟨#[]⟩, .slice none 0 0, .slice none 0 0], .int .i64 a, .int .i64 e]) w6 := by
    have hl := run_loadVar_mid (P := Tryz.prog) w6 w.heap.size 0 39 [.int .i64 0, .string ⟨#[]⟩, .int .i64 0, .bool false, .int .i64 0, .string ⟨#[]⟩, .slice none 0 0, .slice none 0 0] _ (fun j v hv => by rw [Nat.zero_add, (heap_cell hS.1.1 j).1]; simpa using hv) Tryz.underlying39 rfl (by kernel_rfl)
    have d1 := (heap_cell hS.1.2.1 0).1
    have d2 := (heap_cell hS.1.2.2 0).1
    simp only [List.getElem?_toArray, List.getElem?_cons_zero] at d1 d2
    simp [results, Tryz.results25, asAddr, Result.andThen, hl]
    simp [go_sem, d1, d2]
  exact ⟨_, hres, hS.2, rfl⟩
end Go.Proofs.YtcgaadnfocmdbaaGreatDoor
end

section
/- read of an expression: the ways behind lex. -/
namespace Go.Proofs.YtcgaadnfocmdbaaGreatDoor
open Go.RowKit
theorem expr_any' {K B : Nat} {r : List Lx} {w : World} (h : PAt K w B r 0) :
    Calls Tryz.prog 26 #[.pointer (some ⟨B, 0, none⟩)] w (Post K B 0 r.length w ((exprM 0 r).bd fun t r => .ok t.e r) fun w' t v => ExV (fun b => w.heap.size ≤ b) w' t v) :=
  (expr_any h).mono fun e w' hp => by
    unfold Post at *
    cases hm : exprM 0 r with
    | bad a => rw [hm] at hp; exact hp
    | ok t r1 => rw [hm] at hp; exact ⟨hp.1, by have := hp.2.1; omega, hp.2.2⟩
theorem res3E {tmps : Array Value} {n : Nat} {Z : Array Value} {a e : Int} {w : World} (t4 : tmps.getD 4 undef = .pointer (some ⟨n, 0, none⟩)) (t5 : tmps.getD 5 undef = .pointer (some ⟨n + 1, 0, none⟩)) (t6 : tmps.getD 6 undef = .pointer (some ⟨n + 1 + 1, 0, none⟩)) (hR : R3 n 39 Z a e w) (hZ : Z.size = 8) :
    (results Tryz.f25 tmps).run Tryz.prog w = .ok (.tuple #[.agg Z, .int .i64 a, .int .i64 e]) w := by
  have hl := run_loadVar_mid (P := Tryz.prog) w n 0 39 Z.toList _ (fun j v hv => by rw [Nat.zero_add, (heap_cell hR.1 j).1]; simpa using hv) Tryz.underlying39 rfl (by rw [Array.length_toList, hZ]; kernel_rfl)
  have d1 := (heap_cell hR.2.1 0).1
  have d2 := (heap_cell hR.2.2 0).1
  simp only [List.getElem?_toArray, List.getElem?_cons_zero] at d1 d2
  rw [Array.getD_eq_getD_getElem?] at t4 t5 t6
  simp [results, Tryz.results25, asAddr, Result.andThen, t4, t5, t6, hl]
  simp [go_sem, d1, d2]

set_option maxRecDepth 100000 in
set_option maxHeartbeats 4000000 in
theorem readE_go {s : ByteArray} (w : World) (h : s.size ≤ 65536) (hF : lexF s = none) (hgd : Gd (lexR s)) (hnl : (lexT s).length ≤ 4096) (hE : 2 < w.heap.size) (hev : ∃ ev, w.cell? ⟨2, 0, none⟩ = some ev ∧ (ev = .nilIface ∨ ∃ te pe, ev = .iface te pe)) :
    Calls Tryz.prog 25 #[.string s, .func (.func 26) #[] #[]] w fun x w' => Below w.heap.size w w' ∧ match ((exprM 0 (lexR s)).bd fun t r => Rs.ok t.e r).bd endM with
      | .bad q => x = .returned (.tuple #[.agg #[.int .i64 0, .string ⟨#[]⟩, .int .i64 0, .bool false, .int .i64 0, .string ⟨#[]⟩, .slice none 0 0, .slice none 0 0], .int .i64 (q : Int), .int .i64 20])
      | .ok b _ => ∃ v, x = .returned (.tuple #[v, .int .i64 0, .int .i64 0]) ∧ ExV (fun k => w.heap.size ≤ k) w' b v := by
  have hmf : ∀ (fn : Fn) (first cap : Array Value) (w : World), (Instr.makeFunc fn first cap).run Tryz.prog w = .ok (.func fn first cap) w := fun _ _ _ _ => rfl
  have HL := fun w => Hid.intro (lex_ok h hF w)
  have hR0 := R3.new w 39 #[.int .i64 0, .string ⟨#[]⟩, .int .i64 0, .bool false, .int .i64 0, .string ⟨#[]⟩, .slice none 0 0, .slice none 0 0]
  have b0 : Below w.heap.size w (((w.alloc (.cells #[.int .i64 0, .string ⟨#[]⟩, .int .i64 0, .bool false, .int .i64 0, .string ⟨#[]⟩, .slice none 0 0, .slice none 0 0] 39)).alloc (.cells #[.int .i64 0] 3)).alloc (.cells #[.int .i64 0] 28)) := below_al (below_al (below_al (Below.refl _ _) _) _) _
  have hs0 : (((w.alloc (.cells #[.int .i64 0, .string ⟨#[]⟩, .int .i64 0, .bool false, .int .i64 0, .string ⟨#[]⟩, .slice none 0 0, .slice none 0 0] 39)).alloc (.cells #[.int .i64 0] 3)).alloc (.cells #[.int .i64 0] 28)).heap.size = w.heap.size + 3 := by simp
  have HNew := fun {w'} {v} hv hb hE hev => Hid.intro (new_any (base := w.heap.size + 3) (w := w') (v := v) (xs := lexT s) hv hb hnl s.size hgd hE hev)
  have HPart := fun B w' (hp : PAt (B + 1) w' B (lexR s) 0) => Hid.intro (expr_any' hp)
  have HEnd := fun B w' r (hp : PAt (B + 1) w' B r 0) => Hid.intro (end_any hp)
  have start : ∀ w1 v, w1.ownsRow (w.heap.size + 3) 47 4 v (lexT s).length ((lexT s).flatMap celL) → R3 w.heap.size 39 #[.int .i64 0, .string ⟨#[]⟩, .int .i64 0, .bool false, .int .i64 0, .string ⟨#[]⟩, .slice none 0 0, .slice none 0 0] 0 0 w1 → Below w.heap.size w w1 →
      Hid (R3 w.heap.size 39 #[.int .i64 0, .string ⟨#[]⟩, .int .i64 0, .bool false, .int .i64 0, .string ⟨#[]⟩, .slice none 0 0, .slice none 0 0] 0 0 ((w1.setCell ⟨w.heap.size + 1, 0, none⟩ (.int .i64 0)).setCell ⟨w.heap.size + 1 + 1, 0, none⟩ (.int .i64 0))) ∧ Hid (Below w.heap.size w ((w1.setCell ⟨w.heap.size + 1, 0, none⟩ (.int .i64 0)).setCell ⟨w.heap.size + 1 + 1, 0, none⟩ (.int .i64 0))) ∧ w.heap.size + 3 ≤ w1.heap.size ∧
      Hid (Calls Tryz.prog 32 #[v, .int .i64 (s.size : Int)] ((w1.setCell ⟨w.heap.size + 1, 0, none⟩ (.int .i64 0)).setCell ⟨w.heap.size + 1 + 1, 0, none⟩ (.int .i64 0)) fun e w' => ∃ B, e = .returned (.pointer (some ⟨B, 0, none⟩)) ∧ w.heap.size + 3 ≤ B ∧ PAt (B + 1) w' B (lexR s) 0 ∧ Below (w.heap.size + 3) ((w1.setCell ⟨w.heap.size + 1, 0, none⟩ (.int .i64 0)).setCell ⟨w.heap.size + 1 + 1, 0, none⟩ (.int .i64 0)) w') := by
    intro w1 v ho hR hB
    have hR2 := (hR.put1 0).put2 0
    have hB2 := (hB.setCell (p := ⟨w.heap.size + 1, 0, none⟩) (by simp) (.int .i64 0)).setCell (p := ⟨w.heap.size + 1 + 1, 0, none⟩) (by simp only; omega) (.int .i64 0)
    have hl := hR.lt
    refine ⟨hR2, hB2, by omega, ?_⟩
    refine (HNew (own_same ho fun g hg => ?_) (by simp; omega) (by omega) ?_).out
    · have := (ho.lt g hg).1
      exact (Below.heap_setCell _ _ _ _ (by simp only; omega)).trans (Below.heap_setCell _ _ _ _ (by simp only; omega))
    · obtain ⟨ev, h1, h2⟩ := hev
      exact ⟨ev, (hB2.cell (p := ⟨_, 0, none⟩) hE).trans h1, h2⟩
  clear HNew hev hgd hnl
  -- the deferred closure, behind a fault
  have hbad : ∀ (w4 : World) (q : Nat) (tmps : Array Value), R3 w.heap.size 39 #[.int .i64 0, .string ⟨#[]⟩, .int .i64 0, .bool false, .int .i64 0, .string ⟨#[]⟩, .slice none 0 0, .slice none 0 0] 0 0 w4 → Below w.heap.size w w4 → tmps.getD 4 undef = .pointer (some ⟨w.heap.size, 0, none⟩) → tmps.getD 5 undef = .pointer (some ⟨w.heap.size + 1, 0, none⟩) → tmps.getD 6 undef = .pointer (some ⟨w.heap.size + 1 + 1, 0, none⟩) →
      Leaves Tryz.prog Tryz.f25 tmps (fun x w' => Below w.heap.size w w' ∧ x = .returned (.tuple #[.agg #[.int .i64 0, .string ⟨#[]⟩, .int .i64 0, .bool false, .int .i64 0, .string ⟨#[]⟩, .slice none 0 0, .slice none 0 0], .int .i64 (q : Int), .int .i64 20])) [{ target := .fn (.func 48) #[.pointer (some ⟨w.heap.size + 1, 0, none⟩), .pointer (some ⟨w.heap.size + 1 + 1, 0, none⟩)], args := #[] }] (.panicking (flt q)) w4 := by
    intro w4 q tmps hR hB t4 t5 t6
    have hl := hR.lt
    refine leaves_cons (f := 48) (args := #[.pointer (some ⟨w.heap.size + 1, 0, none⟩), .pointer (some ⟨w.heap.size + 1 + 1, 0, none⟩)]) (by simp) (by simp [go_sem]) ?_
    refine (catchE (w.heap.size + 1) (w.heap.size + 1 + 1) q 0 0 w4 (by rw [(heap_cell hR.2.1 0).1]; rfl) (heap_cell hR.2.1 0).2 (by rw [(heap_cell hR.2.2 0).1]; rfl) (heap_cell hR.2.2 0).2 (by omega) (by omega) (by omega)).mono ?_
    rintro e u' w'' ⟨rfl, hset, rfl⟩
    show Leaves _ _ _ _ [] (settle u') _
    rw [hset]
    have hR' := ((hR.put1 (q : Int)).put2 20).below ((Below.refl _ _).alloc (Nat.le_refl _) (.cells #[.int .i64 (q : Int)] 74)) (by simp; omega)
    exact ⟨_, res3E t4 t5 t6 hR' rfl, ((hB.setCell (p := ⟨w.heap.size + 1, 0, none⟩) (by simp) (.int .i64 (q : Int))).setCell (p := ⟨w.heap.size + 1 + 1, 0, none⟩) (by simp only; omega) (.int .i64 20)).alloc (by simp; omega) _, rfl⟩
  have stay : ∀ (B : Nat) (w3 w4 : World), w.heap.size + 3 ≤ B → R3 w.heap.size 39 #[.int .i64 0, .string ⟨#[]⟩, .int .i64 0, .bool false, .int .i64 0, .string ⟨#[]⟩, .slice none 0 0, .slice none 0 0] 0 0 w3 → Below w.heap.size w w3 → Bt B w3 w4 → R3 w.heap.size 39 #[.int .i64 0, .string ⟨#[]⟩, .int .i64 0, .bool false, .int .i64 0, .string ⟨#[]⟩, .slice none 0 0, .slice none 0 0] 0 0 w4 ∧ Below w.heap.size w w4 := fun B w3 w4 hBn hR hB hb =>
    ⟨hR.same fun k h1 h2 => hb.block k (by have := hR.lt; omega) (by omega), hB.trans (hb.fresh (by omega) hB.size)⟩
  cases hm : (exprM 0 (lexR s)).bd fun t r => Rs.ok t.e r with
  | bad q =>
    rw [hm] at HPart
    clear HEnd hm
    simp only [bd_bad]
    go_enter_defers Tryz.func25, Tryz.ntmps25
    go_wp2_with fail
    refine (HL _).out.mono ?_
    rintro x w1 ⟨v, rfl, hown, hb1⟩
    have hR1 := hR0.below hb1 (by omega)
    have hB1 := b0.trans (hb1.mono (by omega))
    obtain ⟨hR2, hB2, hs1, hNew⟩ := start w1 v (by rw [hs0] at hown; exact hown) hR1 hB1
    have hl1 := hR1.lt
    have c1 := (heap_cell hR1.2.1 0).1
    have f1 := (heap_cell hR1.2.1 0).2
    have c2 := (heap_cell hR1.2.2 0).1
    have f2 := (heap_cell hR1.2.2 0).2
    simp only [List.getElem?_toArray, List.getElem?_cons_zero] at c1 c2
    go_wp2_with fail
    refine hNew.out.mono ?_
    rintro x w3 ⟨B, rfl, hBn, hp3, hb3⟩
    have hR3 := hR2.out.below hb3 (by omega)
    have hB3 := hB2.out.trans (hb3.mono (by omega))
    clear c1 f1 c2 f2 hown hNew
    go_wp2_with fail
    refine (HPart B w3 hp3).out.mono ?_
    rintro x w4 ⟨hb4, rfl⟩
    obtain ⟨hR4, hB4⟩ := stay B w3 w4 hBn hR3 hB3 hb4
    exact hbad w4 q _ hR4 hB4 rfl rfl rfl
  | ok b r1 =>
    rw [hm] at HPart
    clear hm
    simp only [bd_ok]
    have HEnd := fun B w' (hp : PAt (B + 1) w' B r1 0) => HEnd B w' r1 hp
    cases hk : isK (-1) r1 with
    | false =>
      rw [show endM b r1 = .bad (hA r1) by unfold endM; rw [hk]; rfl]
      simp only [hk, Bool.false_eq_true, if_false] at HEnd
      go_enter_defers Tryz.func25, Tryz.ntmps25
      go_wp2_with fail
      refine (HL _).out.mono ?_
      rintro x w1 ⟨v, rfl, hown, hb1⟩
      have hR1 := hR0.below hb1 (by omega)
      have hB1 := b0.trans (hb1.mono (by omega))
      obtain ⟨hR2, hB2, hs1, hNew⟩ := start w1 v (by rw [hs0] at hown; exact hown) hR1 hB1
      have hl1 := hR1.lt
      have c1 := (heap_cell hR1.2.1 0).1
      have f1 := (heap_cell hR1.2.1 0).2
      have c2 := (heap_cell hR1.2.2 0).1
      have f2 := (heap_cell hR1.2.2 0).2
      simp only [List.getElem?_toArray, List.getElem?_cons_zero] at c1 c2
      go_wp2_with fail
      refine hNew.out.mono ?_
      rintro x w3 ⟨B, rfl, hBn, hp3, hb3⟩
      have hR3 := hR2.out.below hb3 (by omega)
      have hB3 := hB2.out.trans (hb3.mono (by omega))
      clear c1 f1 c2 f2 hown hNew
      go_wp2_with fail
      refine (HPart B w3 hp3).out.mono ?_
      rintro x w4 ⟨hb4, hl4, hp4, v4, rfl, hv⟩
      obtain ⟨hR4, hB4⟩ := stay B w3 w4 hBn hR3 hB3 hb4
      have hsz4 := hB4.size
      have hl4' := hR4.lt
      have hv' := hv
      obtain ⟨pa, na, ca, pb, nb, cb, rfl, q1, q2⟩ := hv
      have hone : (#[.int .i64 b.op, .string b.t, .int .i64 b.v.k, .bool b.v.b, .int .i64 b.v.i, .string b.v.s, .slice pa na ca, .slice pb nb cb] : Array Value).all (·.oneCell') = true := by simp [Value.oneCell']
      have hbW : Below w4.heap.size w4 ((w4.alloc (.cells #[.int .i64 0, .string ⟨#[]⟩, .int .i64 0, .bool false, .int .i64 0, .string ⟨#[]⟩, .slice none 0 0, .slice none 0 0] 39)).setRow w4.heap.size #[.int .i64 b.op, .string b.t, .int .i64 b.v.k, .bool b.v.b, .int .i64 b.v.i, .string b.v.s, .slice pa na ca, .slice pb nb cb]) := below_row (below_al (Below.refl _ _) _) (Nat.le_refl _) _
      go_wp2_with (with_reducible refine (id (?_ : wpList _ _ _ (Oper.mk _ (Op.store _ _ _) _ _ _ _ :: _) _ _)); refine wpList_store_row rfl _ _ _ rfl _ _ rfl rfl _ _ (heap_alloc_new w4 _) infoExpr rfl rfl hone ?_)
      refine (HEnd B _ (hp4.via hbW)).out.mono ?_
      rintro x w5 ⟨hb5, rfl⟩
      have hR5 := hR4.below (hb5.via hbW) (by omega)
      have hB5 := hB4.trans ((hb5.via hbW).mono (by omega))
      exact hbad w5 _ _ hR5 hB5 rfl rfl rfl
    | true =>
      rw [show endM b r1 = .ok b r1 by unfold endM; rw [hk]; rfl]
      simp only [hk, if_true] at HEnd
      go_enter_defers Tryz.func25, Tryz.ntmps25
      go_wp2_with fail
      refine (HL _).out.mono ?_
      rintro x w1 ⟨v, rfl, hown, hb1⟩
      have hR1 := hR0.below hb1 (by omega)
      have hB1 := b0.trans (hb1.mono (by omega))
      obtain ⟨hR2, hB2, hs1, hNew⟩ := start w1 v (by rw [hs0] at hown; exact hown) hR1 hB1
      have hl1 := hR1.lt
      have c1 := (heap_cell hR1.2.1 0).1
      have f1 := (heap_cell hR1.2.1 0).2
      have c2 := (heap_cell hR1.2.2 0).1
      have f2 := (heap_cell hR1.2.2 0).2
      simp only [List.getElem?_toArray, List.getElem?_cons_zero] at c1 c2
      go_wp2_with fail
      refine hNew.out.mono ?_
      rintro x w3 ⟨B, rfl, hBn, hp3, hb3⟩
      have hR3 := hR2.out.below hb3 (by omega)
      have hB3 := hB2.out.trans (hb3.mono (by omega))
      clear c1 f1 c2 f2 hown hNew
      go_wp2_with fail
      refine (HPart B w3 hp3).out.mono ?_
      rintro x w4 ⟨hb4, hl4, hp4, v4, rfl, hv⟩
      obtain ⟨hR4, hB4⟩ := stay B w3 w4 hBn hR3 hB3 hb4
      have hsz4 := hB4.size
      have hl4' := hR4.lt
      have hv' := hv
      obtain ⟨pa, na, ca, pb, nb, cb, rfl, q1, q2⟩ := hv
      have hone : (#[.int .i64 b.op, .string b.t, .int .i64 b.v.k, .bool b.v.b, .int .i64 b.v.i, .string b.v.s, .slice pa na ca, .slice pb nb cb] : Array Value).all (·.oneCell') = true := by simp [Value.oneCell']
      have hbW : Below w4.heap.size w4 ((w4.alloc (.cells #[.int .i64 0, .string ⟨#[]⟩, .int .i64 0, .bool false, .int .i64 0, .string ⟨#[]⟩, .slice none 0 0, .slice none 0 0] 39)).setRow w4.heap.size #[.int .i64 b.op, .string b.t, .int .i64 b.v.k, .bool b.v.b, .int .i64 b.v.i, .string b.v.s, .slice pa na ca, .slice pb nb cb]) := below_row (below_al (Below.refl _ _) _) (Nat.le_refl _) _
      go_wp2_with (with_reducible refine (id (?_ : wpList _ _ _ (Oper.mk _ (Op.store _ _ _) _ _ _ _ :: _) _ _)); refine wpList_store_row rfl _ _ _ rfl _ _ rfl rfl _ _ (heap_alloc_new w4 _) infoExpr rfl rfl hone ?_)
      refine (HEnd B _ (hp4.via hbW)).out.mono ?_
      rintro x w5 ⟨hb5, rfl⟩
      have hR5 := Hid.intro (hR4.below (hb5.via hbW) (by omega))
      have hB5 := Hid.intro (hB4.trans ((hb5.via hbW).mono (by omega)))
      have HR5a : Hid (w5.heap[w.heap.size]? = some (.cells #[.int .i64 0, .string ⟨#[]⟩, .int .i64 0, .bool false, .int .i64 0, .string ⟨#[]⟩, .slice none 0 0, .slice none 0 0] 39 (0, 0))) := hR5.out.1
      have hT5 := Hid.intro (row_call hb5 (by simp) (setRow_heap _ _ _ _ _ _ (heap_alloc_new w4 (.cells #[.int .i64 0, .string ⟨#[]⟩, .int .i64 0, .bool false, .int .i64 0, .string ⟨#[]⟩, .slice none 0 0, .slice none 0 0] 39))))
      have hR6 := hR5.out.row #[.int .i64 b.op, .string b.t, .int .i64 b.v.k, .bool b.v.b, .int .i64 b.v.i, .string b.v.s, .slice pa na ca, .slice pb nb cb]
      have hB6 : Below w.heap.size w _ := below_row hB5.out (Nat.le_refl _) #[.int .i64 b.op, .string b.t, .int .i64 b.v.k, .bool b.v.b, .int .i64 b.v.i, .string b.v.s, .slice pa na ca, .slice pb nb cb]
      have c5 := (heap_cell hR6.2.1 0).1
      have c6 := (heap_cell hR6.2.2 0).1
      have c5f := (heap_cell hR6.2.1 0).2
      have c6f := (heap_cell hR6.2.2 0).2
      have hl5 := hR6.lt
      simp only [List.getElem?_toArray, List.getElem?_cons_zero] at c5 c6
      go_wp2_with (first | (with_reducible refine (id (?_ : wpList _ _ _ (Oper.mk _ (Op.load _ _) _ _ _ _ :: _) _ _)); refine wpList_load_cells rfl _ _ rfl _ rfl _ _ _ hT5.out Tryz.underlying39 infoExpr rfl ?_) | (with_reducible refine (id (?_ : wpList _ _ _ (Oper.mk _ (Op.store _ _ _) _ _ _ _ :: _) _ _)); refine wpList_store_row rfl _ _ _ rfl _ _ rfl rfl _ _ HR5a.out infoExpr rfl rfl hone ?_))
      have hR7 := (hR6.put1 0).put2 0
      have hB7 := (hB6.setCell (p := ⟨w.heap.size + 1, 0, none⟩) (by simp) (.int .i64 0)).setCell (p := ⟨w.heap.size + 1 + 1, 0, none⟩) (by simp only; omega) (.int .i64 0)
      have hk : Kp (fun k => w3.heap.size ≤ k) w4 (((w5.setRow w.heap.size #[.int .i64 b.op, .string b.t, .int .i64 b.v.k, .bool b.v.b, .int .i64 b.v.i, .string b.v.s, .slice pa na ca, .slice pb nb cb]).setCell ⟨w.heap.size + 1, 0, none⟩ (.int .i64 0)).setCell ⟨w.heap.size + 1 + 1, 0, none⟩ (.int .i64 0)) := by
        have hn3 := hR3.lt
        have h45 := hb5.via hbW
        refine ⟨by simpa using h45.size, fun b hb hlt o => World.cell?_of_block (a := ⟨b, o, none⟩) ?_⟩
        exact (Below.heap_setCell _ _ _ _ (by simp only; omega)).trans ((Below.heap_setCell _ _ _ _ (by simp only; omega)).trans ((setRow_other _ _ _ _ (by simp only; omega)).trans (h45.block b hlt)))
      refine leaves_cons (f := 48) (args := #[.pointer (some ⟨w.heap.size + 1, 0, none⟩), .pointer (some ⟨w.heap.size + 1 + 1, 0, none⟩)]) (by simp) (by simp [go_sem]) ?_
      refine (catchE_idle (w.heap.size + 1) (w.heap.size + 1 + 1) _).mono ?_
      rintro e u' w'' ⟨rfl, hset, rfl⟩
      show Leaves _ _ _ _ [] (settle u') _
      rw [hset]
      exact ⟨_, res3E rfl rfl rfl hR7 rfl, hB7, _, rfl, ExV.move hv' hk (fun b _ h => by have := hR3.lt; omega)⟩
end Go.Proofs.YtcgaadnfocmdbaaGreatDoor
end

section
/- Expr: what it tells. -/
namespace Go.Proofs.YtcgaadnfocmdbaaGreatDoor
open Go.RowKit

/-- What is told of a text. -/
def ParE (n : Nat) (w' : World) (x : Ending) : Told Ex → Prop
  | .long => x = .returned (.tuple #[.agg #[.int .i64 0, .string ⟨#[]⟩, .int .i64 0, .bool false, .int .i64 0, .string ⟨#[]⟩, .slice none 0 0, .slice none 0 0], .int .i64 0, .int .i64 21])
  | .bad q => x = .returned (.tuple #[.agg #[.int .i64 0, .string ⟨#[]⟩, .int .i64 0, .bool false, .int .i64 0, .string ⟨#[]⟩, .slice none 0 0, .slice none 0 0], .int .i64 (q : Int), .int .i64 20])
  | .ok b => ∃ v, x = .returned (.tuple #[v, .int .i64 0, .int .i64 0]) ∧ ExV (fun k => n ≤ k) w' b v
theorem readE_any (s : ByteArray) (w : World) (hE : 2 < w.heap.size) (hev : ∃ ev, w.cell? ⟨2, 0, none⟩ = some ev ∧ (ev = .nilIface ∨ ∃ te pe, ev = .iface te pe)) :
    Calls Tryz.prog 25 #[.string s, .func (.func 26) #[] #[]] w fun x w' => Below w.heap.size w w' ∧ ParE w.heap.size w' x (parseE s) := by
  unfold parseE readM
  by_cases hl : 65536 < s.size
  · rw [if_pos hl]
    exact readE_lex _ w 0 21 (by decide) fun w => Hid.intro (lex_long hl w)
  · rw [if_neg hl]
    have hs : s.size ≤ 65536 := by omega
    cases hF : lexF s with
    | some a => exact readE_lex _ w a 20 (by decide) fun w => Hid.intro (lex_bad hs hF w)
    | none =>
      obtain ⟨h1, h2⟩ := lexR_good hs hF
      refine (readE_go w hs hF h1 h2 hE hev).mono ?_
      rintro x w' ⟨hb, hr⟩
      refine ⟨hb, ?_⟩
      cases hm : ((exprM 0 (lexR s)).bd fun t r => Rs.ok t.e r).bd endM with
      | bad q => rw [hm] at hr; dsimp only; exact hr
      | ok b r => rw [hm] at hr; dsimp only; exact hr

set_option maxRecDepth 100000 in
set_option maxHeartbeats 4000000 in
theorem parsE_any (s : ByteArray) (w : World) (hE : 2 < w.heap.size) (hev : ∃ ev, w.cell? ⟨2, 0, none⟩ = some ev ∧ (ev = .nilIface ∨ ∃ te pe, ev = .iface te pe)) :
    Calls Tryz.prog 14 #[.string s] w fun x w' => Below w.heap.size w w' ∧ ParE w.heap.size w' x (parseE s) := by
  have hR0 : (w.alloc (.cells #[.int .i64 0, .string ⟨#[]⟩, .int .i64 0, .bool false, .int .i64 0, .string ⟨#[]⟩, .slice none 0 0, .slice none 0 0] 39)).heap[w.heap.size]? = some (.cells #[.int .i64 0, .string ⟨#[]⟩, .int .i64 0, .bool false, .int .i64 0, .string ⟨#[]⟩, .slice none 0 0, .slice none 0 0] 39) := heap_alloc_new w _
  have b0 : Below w.heap.size w (w.alloc (.cells #[.int .i64 0, .string ⟨#[]⟩, .int .i64 0, .bool false, .int .i64 0, .string ⟨#[]⟩, .slice none 0 0, .slice none 0 0] 39)) := below_al (Below.refl _ _) _
  have HR := Hid.intro (readE_any s (w.alloc (.cells #[.int .i64 0, .string ⟨#[]⟩, .int .i64 0, .bool false, .int .i64 0, .string ⟨#[]⟩, .slice none 0 0, .slice none 0 0] 39)) (by simp; omega) (by obtain ⟨ev, h1, h2⟩ := hev; exact ⟨ev, (b0.cell (p := ⟨_, 0, none⟩) hE).trans h1, h2⟩))
  clear hev
  have fin : ∀ (x : Ending) (w1 : World) (cells : Array Value) (a e : Int), Below (w.alloc (.cells #[.int .i64 0, .string ⟨#[]⟩, .int .i64 0, .bool false, .int .i64 0, .string ⟨#[]⟩, .slice none 0 0, .slice none 0 0] 39)).heap.size (w.alloc (.cells #[.int .i64 0, .string ⟨#[]⟩, .int .i64 0, .bool false, .int .i64 0, .string ⟨#[]⟩, .slice none 0 0, .slice none 0 0] 39)) w1 → cells.size = 8 →
      Hid (w1.heap[w.heap.size]? = some (.cells #[.int .i64 0, .string ⟨#[]⟩, .int .i64 0, .bool false, .int .i64 0, .string ⟨#[]⟩, .slice none 0 0, .slice none 0 0] 39)) ∧ Hid (Below w.heap.size w (w1.setRow w.heap.size cells)) := fun x w1 cells a e hb hc =>
    ⟨row_call hb (by simp) hR0, below_row (b0.trans (hb.mono (by simp))) (Nat.le_refl _) _⟩
  have hgo : ∀ (x : Ending) (w1 : World) (cells : Array Value) (a e : Int) (R : Ending → World → Prop), Below (w.alloc (.cells #[.int .i64 0, .string ⟨#[]⟩, .int .i64 0, .bool false, .int .i64 0, .string ⟨#[]⟩, .slice none 0 0, .slice none 0 0] 39)).heap.size (w.alloc (.cells #[.int .i64 0, .string ⟨#[]⟩, .int .i64 0, .bool false, .int .i64 0, .string ⟨#[]⟩, .slice none 0 0, .slice none 0 0] 39)) w1 → cells.size = 8 → R (.returned (.tuple #[.agg cells, .int .i64 a, .int .i64 e])) (w1.setRow w.heap.size cells) →
      bodyPost Tryz.prog Tryz.f14 R .ret ⟨#[.string s, undef, .pointer (some ⟨w.heap.size, 0, none⟩), .int .i64 a, .int .i64 e, .string s, .tuple #[.agg cells, .int .i64 a, .int .i64 e], .agg cells, .int .i64 a, .int .i64 e], []⟩ (w1.setRow w.heap.size cells) := by
    intro x w1 cells a e R hb hc hR
    have hr0 : w1.heap[w.heap.size]? = some (.cells #[.int .i64 0, .string ⟨#[]⟩, .int .i64 0, .bool false, .int .i64 0, .string ⟨#[]⟩, .slice none 0 0, .slice none 0 0] 39) := row_call hb (by simp) hR0
    have hrow := setRow_heap _ _ _ cells _ _ hr0
    refine bodyPost_ret (v := .tuple #[.agg cells, .int .i64 a, .int .i64 e]) ?_ rfl hR
    have hl := run_loadVar_mid (P := Tryz.prog) (w1.setRow w.heap.size cells) w.heap.size 0 39 cells.toList _ (fun j v hv => by rw [Nat.zero_add, (heap_cell hrow j).1]; simpa using hv) Tryz.underlying39 rfl (by rw [Array.length_toList, hc]; kernel_rfl)
    simp [results, Tryz.results14, asAddr, Result.andThen, hl]
  clear hE
  cases hm : parseE s with
  | long =>
    rw [hm] at HR
    go_enter Tryz.func14, Tryz.ntmps14
    go_wp2_with fail
    refine HR.out.mono ?_
    rintro x w1 ⟨hb, rfl⟩
    obtain ⟨h1, h2⟩ := fin (.returned undef) w1 #[.int .i64 0, .string ⟨#[]⟩, .int .i64 0, .bool false, .int .i64 0, .string ⟨#[]⟩, .slice none 0 0, .slice none 0 0] 0 0 hb rfl
    go_wp2_with (with_reducible refine (id (?_ : wpList _ _ _ (Oper.mk _ (Op.store _ _ _) _ _ _ _ :: _) _ _)); refine wpList_store_row rfl _ _ _ rfl _ _ rfl rfl _ _ h1.out infoExpr rfl rfl (by simp [Value.oneCell']) ?_)
    exact hgo (.returned undef) w1 _ _ _ _ hb rfl ⟨h2.out, rfl⟩
  | bad q =>
    rw [hm] at HR
    go_enter Tryz.func14, Tryz.ntmps14
    go_wp2_with fail
    refine HR.out.mono ?_
    rintro x w1 ⟨hb, rfl⟩
    obtain ⟨h1, h2⟩ := fin (.returned undef) w1 #[.int .i64 0, .string ⟨#[]⟩, .int .i64 0, .bool false, .int .i64 0, .string ⟨#[]⟩, .slice none 0 0, .slice none 0 0] 0 0 hb rfl
    go_wp2_with (with_reducible refine (id (?_ : wpList _ _ _ (Oper.mk _ (Op.store _ _ _) _ _ _ _ :: _) _ _)); refine wpList_store_row rfl _ _ _ rfl _ _ rfl rfl _ _ h1.out infoExpr rfl rfl (by simp [Value.oneCell']) ?_)
    exact hgo (.returned undef) w1 _ _ _ _ hb rfl ⟨h2.out, rfl⟩
  | ok b =>
    rw [hm] at HR
    go_enter Tryz.func14, Tryz.ntmps14
    go_wp2_with fail
    refine HR.out.mono ?_
    rintro x w1 ⟨hb, v, rfl, hv⟩
    have hv' := hv
    obtain ⟨pa, na, ca, pb, nb, cb, rfl, q1, q2⟩ := hv
    have hone : (#[.int .i64 b.op, .string b.t, .int .i64 b.v.k, .bool b.v.b, .int .i64 b.v.i, .string b.v.s, .slice pa na ca, .slice pb nb cb] : Array Value).all (·.oneCell') = true := by simp [Value.oneCell']
    obtain ⟨h1, h2⟩ := fin (.returned undef) w1 #[.int .i64 b.op, .string b.t, .int .i64 b.v.k, .bool b.v.b, .int .i64 b.v.i, .string b.v.s, .slice pa na ca, .slice pb nb cb] 0 0 hb rfl
    go_wp2_with (with_reducible refine (id (?_ : wpList _ _ _ (Oper.mk _ (Op.store _ _ _) _ _ _ _ :: _) _ _)); refine wpList_store_row rfl _ _ _ rfl _ _ rfl rfl _ _ h1.out infoExpr rfl rfl hone ?_)
    refine hgo (.returned undef) w1 _ _ _ _ hb rfl ⟨h2.out, _, rfl, ExV.move hv' ⟨by simp, fun k hk _ o => World.cell?_of_block (a := ⟨k, o, none⟩) (setRow_other _ _ _ _ ?_)⟩ ?_⟩
    · simp only; simp at hk; omega
    · intro k _ hk; simp at hk; omega
end Go.Proofs.YtcgaadnfocmdbaaGreatDoor
end

section
/- What the laws' own wakes tells. -/
namespace Go.Proofs.YtcgaadnfocmdbaaGreatDoor
open Go.RowKit

/-- The variable ErrRange holds an error. -/
def ErrW (w : World) : Prop := 2 < w.heap.size ∧ ∃ ev, w.cell? ⟨2, 0, none⟩ = some ev ∧ (ev = .nilIface ∨ ∃ te pe, ev = .iface te pe)
theorem ErrW.below {w w' : World} (h : ErrW w) (hb : Below w.heap.size w w') : ErrW w' := by
  obtain ⟨h1, ev, h2, h3⟩ := h
  exact ⟨Nat.lt_of_lt_of_le h1 hb.size, ev, (hb.cell (p := ⟨_, 0, none⟩) h1).trans h2, h3⟩
def wk1 : Told Bs → Bool
  | .ok b => match b.r with
    | [u] => decide (u.sal = -2) && decide (u.whn.length = 2)
    | _ => false
  | _ => false
def wk2 : Told Bs → Bool
  | .bad q => q == 4
  | _ => false
abbrev wT1 : ByteArray := ⟨#[114, 117, 108, 101, 32, 34, 114, 34, 32, 115, 97, 108, 105, 101, 110, 99, 101, 32, 45, 50, 32, 119, 104, 101, 110, 32, 36, 112, 32, 58, 32, 80, 40, 120, 32, 62, 32, 49, 44, 32, 36, 121, 32, 58, 32, 121, 41, 32, 110, 111, 116, 32, 40, 81, 40, 122, 32, 61, 61, 32, 36, 121, 41, 41, 32, 116, 104, 101, 110, 32, 105, 110, 115, 101, 114, 116, 32, 82, 32, 123, 32, 97, 32, 61, 32, 36, 121, 32, 43, 32, 49, 32, 125, 59, 32, 101, 110, 100]⟩
abbrev wT2 : ByteArray := ⟨#[114, 117, 108, 101]⟩
theorem wk1_ok : wk1 (parseM wT1) = true := by kernel_rfl
theorem wk2_ok : wk2 (parseM wT2) = true := by kernel_rfl
theorem wk1_ex : ∃ b u, parseM wT1 = .ok b ∧ b.r = [u] ∧ u.sal = -2 ∧ u.whn.length = 2 := by
  have h := wk1_ok
  cases hm : parseM wT1 with
  | ok b =>
    rw [hm] at h
    unfold wk1 at h
    simp only at h
    split at h
    · rename_i u hu
      simp at h
      exact ⟨b, u, rfl, hu, h.1, h.2⟩
    · cases h
  | bad q => rw [hm] at h; cases h
  | long => rw [hm] at h; cases h
theorem wk2_ex : parseM wT2 = .bad 4 := by
  have h := wk2_ok
  cases hm : parseM wT2 with
  | ok b => rw [hm] at h; cases h
  | bad q => rw [hm] at h; unfold wk2 at h; rw [eq_of_beq h]
  | long => rw [hm] at h; cases h

set_option maxRecDepth 100000 in
set_option maxHeartbeats 4000000 in
theorem wakes_any {w : World} (hw : ErrW w) : Calls Tryz.prog 13 #[] w fun e w' => e = .returned (.bool true) ∧ Below w.heap.size w w' := by
  obtain ⟨b, u, hm1, hr, hs, hn⟩ := wk1_ex
  have H1 := Hid.intro (parse_any wT1 w hw.1 hw.2)
  have H2 := fun w' (h : ErrW w') => Hid.intro (parse_any wT2 w' h.1 h.2)
  rw [hm1] at H1
  simp only [wk2_ex] at H2
  clear hm1
  go_enter Tryz.func13, Tryz.ntmps13
  go_wp2_with fail
  refine H1.out.mono ?_
  rintro e w1 ⟨hb1, v, rfl, x, y, z, rfl, hx, hy, hz⟩
  rw [hr] at hy
  obtain ⟨px, cx, rfl, -⟩ := sl_form hx
  obtain ⟨pz, cz, rfl, -⟩ := sl_form hz
  simp only [rep, List.length_singleton] at hy
  obtain ⟨py, cy, vs, rfl, -, -, hvs, -, hcs⟩ := hy
  obtain ⟨g, o, rfl, hgP, hgs, hcell⟩ := hcs (by omega)
  simp only [List.flatMap_cons, List.flatMap_nil, List.append_nil, Ru.cs] at hvs
  obtain ⟨v0, _, rfl, -, hvs⟩ := hvs.uncons
  obtain ⟨v1, _, rfl, h1, hvs⟩ := hvs.uncons
  obtain ⟨v2, _, rfl, -, hvs⟩ := hvs.uncons
  obtain ⟨v3, _, rfl, -, hvs⟩ := hvs.uncons
  obtain ⟨v4, _, rfl, -, hvs⟩ := hvs.uncons
  obtain ⟨v5, _, rfl, -, hvs⟩ := hvs.uncons
  obtain ⟨v6, _, rfl, h6, hvs⟩ := hvs.uncons
  obtain ⟨rfl, -⟩ := rep.lit_iff.1 h1
  obtain ⟨p6, c6, rfl, -⟩ := sl_form h6
  have k1 := hcell 1 _ rfl
  have k6 := hcell 6 _ rfl
  rw [hs] at k1
  rw [hn] at k6
  have hb1' : Below w.heap.size w (w1.alloc (.cells #[.slice px b.c.length cx, .slice (some ⟨g, o, none⟩) 1 cy, .slice pz b.q.length cz] 27)) := hb1.alloc hb1.size _
  have hR1 := heap_alloc_new w1 (.cells #[.slice px b.c.length cx, .slice (some ⟨g, o, none⟩) 1 cy, .slice pz b.q.length cz] 27)
  go_wp2_with fail
  refine (H2 _ (hw.below hb1')).out.mono ?_
  rintro e w2 ⟨hb2, rfl⟩
  have hR2 := row_call hb2 (by simp) hR1
  have d1 : w2.cell? ⟨w1.heap.size, 1, none⟩ = some (.slice (some ⟨g, o, none⟩) 1 cy) := (heap_cell hR2 1).1
  have d2 : w2.cell? ⟨g, o + 1, none⟩ = some (.int .i64 (-2)) := by
    rw [hb2.cell (p := ⟨g, o + 1, none⟩) (by simp; omega)]
    exact (World.cell?_of_block (a := ⟨g, o + 1, none⟩) (heap_alloc_old _ _ hgs)).trans k1
  have d3 : w2.cell? ⟨g, o + 6, none⟩ = some (.slice p6 2 c6) := by
    rw [hb2.cell (p := ⟨g, o + 6, none⟩) (by simp; omega)]
    exact (World.cell?_of_block (a := ⟨g, o + 6, none⟩) (heap_alloc_old _ _ hgs)).trans k6
  have hl2 : w1.heap.size < w2.heap.size := (Array.getElem?_eq_some_iff.1 hR2).1
  have hg2 : g < w2.heap.size := by omega
  go_wp2_with fail
  go_ret
  exact ⟨rfl, (hb1'.trans (hb2.mono hb1'.size)).alloc (by have := hb1'.size; have := hb2.size; omega) _⟩
end Go.Proofs.YtcgaadnfocmdbaaGreatDoor
end

section
/- What the Parse laws' rows list, in a world; what it gives. -/
namespace Go.Proofs.YtcgaadnfocmdbaaGreatDoor.pLaid
open Go.ChangeShapes Go.WideShapes Go.ChangeAt Go.RowKit Go.Proofs.YtcgaadnfocmdbaaGreatDoor

theorem own : ownKnob Tryz.prog.godebug = none := by kernel_rfl
/-- The variables, holding what their initialisers lay. -/
def put (cs : Array Value) : Obj → Obj
  | .cells _ t frozen => .cells cs t frozen
  | o => o
def lay (w : World) : World :=
  { w with heap := ((((((w.heap.modify 3 (put #[.int .u64 1, .int .u64 10, .int .u64 100, .int .u64 1000, .int .u64 10000, .int .u64 100000, .int .u64 1000000, .int .u64 10000000, .int .u64 100000000, .int .u64 1000000000, .int .u64 10000000000, .int .u64 100000000000, .int .u64 1000000000000, .int .u64 10000000000000, .int .u64 100000000000000, .int .u64 1000000000000000, .int .u64 10000000000000000, .int .u64 100000000000000000, .int .u64 1000000000000000000, .int .u64 10000000000000000000])).modify 4 (put #[.int .u8 0, .int .u8 1, .int .u8 28, .int .u8 2, .int .u8 29, .int .u8 14, .int .u8 24, .int .u8 3, .int .u8 30, .int .u8 22, .int .u8 20, .int .u8 15, .int .u8 25, .int .u8 17, .int .u8 4, .int .u8 8, .int .u8 31, .int .u8 27, .int .u8 13, .int .u8 23, .int .u8 21, .int .u8 19, .int .u8 16, .int .u8 7, .int .u8 26, .int .u8 12, .int .u8 18, .int .u8 6, .int .u8 11, .int .u8 5, .int .u8 10, .int .u8 9])).modify 5 (put #[.int .u8 0, .int .u8 1, .int .u8 56, .int .u8 2, .int .u8 57, .int .u8 49, .int .u8 28, .int .u8 3, .int .u8 61, .int .u8 58, .int .u8 42, .int .u8 50, .int .u8 38, .int .u8 29, .int .u8 17, .int .u8 4, .int .u8 62, .int .u8 47, .int .u8 59, .int .u8 36, .int .u8 45, .int .u8 43, .int .u8 51, .int .u8 22, .int .u8 53, .int .u8 39, .int .u8 33, .int .u8 30, .int .u8 24, .int .u8 18, .int .u8 12, .int .u8 5, .int .u8 63, .int .u8 55, .int .u8 48, .int .u8 27, .int .u8 60, .int .u8 41, .int .u8 37, .int .u8 16, .int .u8 46, .int .u8 35, .int .u8 44, .int .u8 21, .int .u8 52, .int .u8 32, .int .u8 23, .int .u8 11, .int .u8 54, .int .u8 26, .int .u8 40, .int .u8 15, .int .u8 34, .int .u8 20, .int .u8 31, .int .u8 10, .int .u8 25, .int .u8 14, .int .u8 19, .int .u8 9, .int .u8 13, .int .u8 8, .int .u8 7, .int .u8 6])).modify 1 (put #[.iface 193 (.pointer (some ⟨w.heap.size, 0, none⟩))])).modify 2 (put #[.iface 193 (.pointer (some ⟨w.heap.size + 1, 0, none⟩))])).push (.cells #[.string ⟨#[105, 110, 118, 97, 108, 105, 100, 32, 115, 121, 110, 116, 97, 120]⟩] 195)).push (.cells #[.string ⟨#[118, 97, 108, 117, 101, 32, 111, 117, 116, 32, 111, 102, 32, 114, 97, 110, 103, 101]⟩] 195) }
theorem laid_met (os : Os) : laidMet Tryz.prog Rows.parseLimitsRow.laid ((lay (World.holding Tryz.prog os ⟨#[], #[], []⟩)).forCall (fun _ _ => 0) ⟨#[], #[], []⟩).memory :=
  laidMet_of_run' 8 (by kernel_rfl) (by kernel_rfl)
theorem row_err : ∀ u, Tryz.prog.typeName? 3 u = some "*errors.errorString" → u = 193 := fun u hu =>
  typeName_ptr_named (nm := "errors.errorString") (by kernel_rfl) (by kernel_rfl) (by decide) u hu
theorem errW {W : World} (h : laidMetH Tryz.prog Rows.parseLimitsRow.laid W) : ErrW W := by
  rw [MakeChecks.laidMetH_plain _ _ _ (by kernel_rfl)] at h
  have hg : Tryz.prog.globalNamed "strconv.ErrRange" = some 2 := by kernel_rfl
  obtain ⟨a, s, hv, -, -, -⟩ := laid_sentinel h.tail.tail.tail hg (by kernel_rfl) Tryz.underlying170 row_err Tryz.underlying193 Tryz.underlying195 rfl rfl Tryz.underlying9 (by kernel_rfl) (by kernel_rfl)
  have hc : W.cell? ⟨2, 0, none⟩ = some (.iface 193 (.pointer (some a))) := by simpa using World.var?_cell hg hv 0
  refine ⟨?_, _, hc, .inr ⟨_, _, rfl⟩⟩
  cases hh : W.heap[2]? with
  | none => unfold World.cell? at hc; rw [show (⟨2, 0, none⟩ : Addr).block = 2 from rfl] at hc; simp [hh] at hc
  | some o => exact (Array.getElem?_eq_some_iff.1 hh).1
end Go.Proofs.YtcgaadnfocmdbaaGreatDoor.pLaid
end

section
/- A fault's place is the beginning of one of the lexemes, or of what stands behind them. -/
namespace Go.Proofs.YtcgaadnfocmdbaaGreatDoor
open Go.RowKit

/-- What is left of the lexemes R. -/
def In (R r : List Lx) : Prop := r <:+ R ∧ Gd r
def Good {σ : Type} (R : List Lx) : Rs σ → Prop
  | .bad a => ∃ x ∈ R, x.a = a
  | .ok _ r => In R r
theorem In.tail {R : List Lx} {x : Lx} {r : List Lx} (h : In R (x :: r)) (hk : x.k ≠ -1) : In R r := by
  refine ⟨(List.suffix_cons x r).trans h.1, ?_⟩
  cases r with
  | nil => exact absurd h.2 hk
  | cons y r => exact h.2.2
theorem In.here {R r : List Lx} (h : In R r) : ∃ x ∈ R, x.a = hA r := by
  obtain ⟨h1, h2⟩ := h
  cases r with
  | nil => exact absurd h2 (by simp [Gd])
  | cons x r => exact ⟨x, h1.subset (List.mem_cons_self ..), rfl⟩
theorem In.head {R : List Lx} {x : Lx} {r : List Lx} (h : In R (x :: r)) : ∃ y ∈ R, y.a = x.a := h.here
theorem Good.bd {σ τ : Type} {R : List Lx} {a : Rs σ} {f : σ → List Lx → Rs τ} (h : Good R a) (k : ∀ s r, In R r → Good R (f s r)) : Good R (a.bd f) := by
  cases a with
  | bad a => exact h
  | ok s r => exact k s r h
theorem isM_tail {R r : List Lx} {s : ByteArray} (h : In R r) (hm : isM s r = true) : In R r.tail := by
  cases r with
  | nil => exact h
  | cons x r =>
    refine h.tail fun e => ?_
    simp [isM, spl, e] at hm
theorem isK_tail {R r : List Lx} {k : Int} (h : In R r) (hm : isK k r = true) (hk : k ≠ -1) : In R r.tail := by
  cases r with
  | nil => exact h
  | cons x r =>
    refine h.tail fun e => hk ?_
    simp [isK] at hm
    omega
theorem take_g {R r : List Lx} (h : In R r) (s : ByteArray) : Good R (takeM s r) := by
  unfold takeM
  split
  · next hm => exact isM_tail h hm
  · exact h.here
theorem push_g {R r : List Lx} (h : In R r) (s : ByteArray) (o : Nat) : Good R (pushM s o r) := by
  unfold pushM
  split
  · next hm => exact isM_tail h hm.1
  · exact h.here
theorem name_g {R r : List Lx} (h : In R r) : Good R (nameM r) := by
  unfold nameM
  split
  · exact absurd h.2 (by simp [Gd])
  · split
    · next hm => exact h.tail (by rw [hm.1]; decide)
    · exact h.head
theorem var_g {R r : List Lx} (h : In R r) : Good R (varM r) := by
  unfold varM
  split
  · exact absurd h.2 (by simp [Gd])
  · split
    · next hm => exact h.tail (by rw [hm.1]; decide)
    · exact h.head
theorem text_g {R r : List Lx} (h : In R r) : Good R (textM r) := by
  unfold textM
  split
  · exact absurd h.2 (by simp [Gd])
  · split
    · next hm => exact h.tail (by rw [hm]; decide)
    · exact h.head
theorem num_g {R r : List Lx} (h : In R r) (m : Nat) : Good R (numM m r) := by
  unfold numM
  split
  · exact absurd h.2 (by simp [Gd])
  · split
    · next hm => exact h.tail (by rw [hm.1]; decide)
    · exact h.head
theorem push_most {s : ByteArray} {o : Nat} {r : List Lx} {a : Nat} {r' : List Lx} (h : pushM s o r = .ok a r') : o ≠ 30 := by
  unfold pushM at h
  split at h
  · next hm => exact hm.2
  · cases h
theorem push_here {s : ByteArray} {o : Nat} {r : List Lx} {a : Nat} {r' : List Lx} (h : pushM s o r = .ok a r') : a = hA r := by
  unfold pushM at h
  split at h
  · cases h; rfl
  · cases h
theorem within_g {σ : Type} {R r : List Lx} (h : In R r) (a z : ByteArray) {o : Nat} (ho : o ≤ 30) {inner : List Lx → Rs σ} (hi : o + 1 ≤ 30 → ∀ r, In R r → Good R (inner r)) : Good R (withinM a z o inner r) := by
  unfold withinM
  have hp := push_g h a o
  cases hm : pushM a o r with
  | bad b => rw [hm] at hp; exact hp
  | ok b r' =>
    rw [hm] at hp
    have := push_most hm
    exact (hi (by omega) r' hp).bd fun s r h => (take_g h z).bd fun _ r h => h
theorem commasL_g {σ : Type} {R : List Lx} {item : σ → List Lx → Rs σ} (hi : ∀ s r, In R r → Good R (item s r)) : ∀ (f : Nat) (s : σ) (r : List Lx), In R r → Good R (commasL item f s r)
  | 0, s, r, h => h
  | f + 1, s, r, h => by
    unfold commasL
    split
    · next hm => exact (hi s _ (isM_tail h hm)).bd fun s r h => commasL_g hi f s r h
    · exact h
theorem commas_g {σ : Type} {R : List Lx} {item : σ → List Lx → Rs σ} (hi : ∀ s r, In R r → Good R (item s r)) (s : σ) (r : List Lx) (h : In R r) : Good R (commasM item s r) :=
  (hi s r h).bd fun s r h => commasL_g hi _ s r h
theorem list_g {σ : Type} {R r : List Lx} (h : In R r) (a z : ByteArray) {o : Nat} (ho : o ≤ 30) {item : σ → List Lx → Rs σ} (hi : o + 1 ≤ 30 → ∀ s r, In R r → Good R (item s r)) (s : σ) : Good R (listM a z o item s r) := by
  refine within_g h a z ho fun ho r h => ?_
  split
  · exact h
  · exact commas_g (hi ho) s r h

theorem node_g {R r : List Lx} {a : Nat} (ha : ∃ x ∈ R, x.a = a) (h : In R r) (e : Ex) (l : List Te) : Good R (nodeM a e l r) := by
  unfold nodeM
  split
  · exact ha
  · exact h
theorem op_tail {R r : List Lx} {n : Nat} {op : Int} (h : In R r) (hm : opM n r = some op) : In R r.tail := by
  cases r with
  | nil => exact h
  | cons x r =>
    refine h.tail fun e => ?_
    simp [opM, e] at hm
theorem levelL_g {R : List Lx} {N : List Lx → Rs Te} (hN : ∀ r, In R r → Good R (N r)) (n : Nat) : ∀ (f : Nat) (t : Te) (r : List Lx), In R r → Good R (levelL N n f t r)
  | 0, t, r, h => h
  | f + 1, t, r, h => by
    unfold levelL
    split
    · exact h
    · next op hm =>
      refine (hN _ (op_tail h hm)).bd fun u r' h' => (node_g h.here h' _ _).bd fun t r h => ?_
      split
      · exact h
      · exact levelL_g hN n f t r h
theorem level_g {R : List Lx} {S : Ps Te} {o : Nat} (hS : ∀ r, In R r → Good R (S o r)) : ∀ (k : Nat) (r : List Lx), In R r → Good R (levelM S o k r)
  | 0, r, h => hS r h
  | k + 1, r, h => (level_g hS k r h).bd fun t r h => levelL_g (level_g hS k) _ _ t r h
theorem post_g {R : List Lx} : ∀ (f : Nat) (t : Te) (r : List Lx), In R r → Good R (postL f t r)
  | 0, t, r, h => h
  | f + 1, t, r, h => by
    unfold postL
    split
    · next hm => exact (name_g (isM_tail h hm)).bd fun s r' h' => (node_g h.here h' _ _).bd fun t r h => post_g f t r h
    · exact h
theorem sign_g {R : List Lx} {A : Ps Te} {m : Nat} (hA : ∀ o r, o ≤ 30 → m ≤ o → In R r → Good R (A o r)) : ∀ (f o : Nat) (r : List Lx), o ≤ 30 → m ≤ o → 32 ≤ f + o → In R r → Good R (signM A f o r)
  | 0, o, r, ho, _, hf, _ => absurd hf (by omega)
  | f + 1, o, r, ho, hm', hf, h => by
    unfold signM
    split
    · have hp := push_g h ⟨#[45]⟩ o
      cases hm : pushM ⟨#[45]⟩ o r with
      | bad b => rw [hm] at hp; exact hp
      | ok b r' =>
        rw [hm] at hp
        have := push_most hm
        obtain rfl := push_here hm
        exact (sign_g hA f (o + 1) r' (by omega) (by omega) (by omega) hp).bd fun t r h' => node_g h.here h' _ _
    · split
      · have hp := push_g h ⟨#[33]⟩ o
        cases hm : pushM ⟨#[33]⟩ o r with
        | bad b => rw [hm] at hp; exact hp
        | ok b r' =>
          rw [hm] at hp
          have := push_most hm
          obtain rfl := push_here hm
          exact (sign_g hA f (o + 1) r' (by omega) (by omega) (by omega) hp).bd fun t r h' => node_g h.here h' _ _
      · exact (hA o r ho hm' h).bd fun t r h => post_g _ t r h
theorem paren_g {R r : List Lx} (h : In R r) {T : Ps Te} {o : Nat} (ho : o ≤ 30) (hT : o + 1 ≤ 30 → ∀ r, In R r → Good R (T (o + 1) r)) : Good R (parenM T o r) := within_g h _ _ ho hT
theorem atom_g {R r : List Lx} (h : In R r) {T : Ps Te} {o : Nat} (ho : o ≤ 30) (hT : o + 1 ≤ 30 → ∀ r, In R r → Good R (T (o + 1) r)) : Good R (atomM T o r) := by
  unfold atomM
  split; · exact (num_g h _).bd fun _ r h => h
  split; · exact (text_g h).bd fun _ r h => h
  split; · next hm => exact isM_tail h hm
  split; · next hm => exact isM_tail h hm
  split; · next hm => exact isM_tail h hm
  split; · exact (var_g h).bd fun _ r h => h
  split; · exact paren_g h ho hT
  split; · (unfold valuesM; refine Good.bd (list_g h _ _ ho (fun ho l r h => ?_) []) fun l r' h' => node_g h.here h' _ _; exact Good.bd (hT ho r h) fun t r h => h)
  split; · next hm => exact (paren_g (isM_tail h hm) ho hT).bd fun t r' h' => node_g h.here h' _ _
  split
  · next hm => (unfold hasM; exact Good.bd (within_g (isM_tail h hm) _ _ ho fun ho r h => Good.bd (hT ho r h) fun l r h => Good.bd (take_g h _) fun _ r h => Good.bd (hT ho r h) fun v r h => h) fun p r' h' => node_g h.here h' _ _)
  · exact (name_g h).bd fun _ r h => h
theorem tree_g {R : List Lx} : ∀ (f o : Nat) (r : List Lx), o ≤ 30 → 31 ≤ f + o → In R r → Good R (treeM f o r)
  | 0, o, r, ho, hf, _ => absurd hf (by omega)
  | f + 1, o, r, ho, hf, h => by
    unfold treeM
    refine level_g (fun r h => ?_) 5 r h
    have : ∀ o' r, o' ≤ 30 → o ≤ o' → In R r → Good R (atomM (treeM f) o' r) := fun o' r ho' hle h => atom_g h ho' fun hh r h => tree_g f (o' + 1) r hh (by omega) h
    exact sign_g this 32 o r ho (Nat.le_refl _) (by omega) h
theorem expr_g {R r : List Lx} (h : In R r) {o : Nat} (ho : o ≤ 30) : Good R (exprM o r) := tree_g _ o r ho (by omega) h

theorem condsL_g {R : List Lx} {C : List Lx → Rs Cd} (hC : ∀ r, In R r → Good R (C r)) (ends : List ByteArray) : ∀ (f : Nat) (l : List Cd) (r : List Lx), In R r → Good R (condsL C ends f l r)
  | 0, l, r, h => h
  | f + 1, l, r, h => by
    unfold condsL
    split
    · exact h
    · exact Good.bd (hC r h) fun c r h => condsL_g hC ends f _ r h
theorem conds_g {R r : List Lx} (h : In R r) {C : List Lx → Rs Cd} (hC : ∀ r, In R r → Good R (C r)) (ends : List ByteArray) : Good R (condsM C ends r) := Good.bd (hC r h) fun _ r h => condsL_g hC ends _ _ r h
theorem block_g {R r : List Lx} (h : In R r) {C : Ps Cd} {o : Nat} (ho : o ≤ 30) (hC : o + 1 ≤ 30 → ∀ r, In R r → Good R (C (o + 1) r)) : Good R (blockM C o r) := within_g h _ _ ho fun ho _ h => conds_g h (hC ho) _
theorem bind_g {R r : List Lx} (h : In R r) : Good R (bindM r) := by
  unfold bindM
  exact Good.bd (var_g h) fun v r h => Good.bd (take_g h _) fun _ r h => Good.bd (name_g h) fun f r h => h
theorem pattern_g {R r : List Lx} (h : In R r) (v : ByteArray) {o : Nat} (ho : o ≤ 30) : Good R (patternM v o r) := by
  unfold patternM
  refine Good.bd (name_g h) fun c r h => Good.bd (list_g h _ _ ho (fun ho p r h => ?_) _) fun p r h => h
  split
  · exact Good.bd (bind_g h) fun b r h => h
  · exact Good.bd (expr_g h ho) fun t r h => h
theorem ofVar_g {R r : List Lx} (h : In R r) {o : Nat} (ho : o ≤ 30) : Good R (ofVarM o r) := by
  unfold ofVarM
  refine Good.bd (var_g h) fun v r h => ?_
  split
  · next hm => exact pattern_g (isM_tail h hm) v ho
  · exact Good.bd (take_g h _) fun _ r h => Good.bd (expr_g h ho) fun t r h => h
theorem forall_g {R r : List Lx} (h : In R r) {C : Ps Cd} {o : Nat} (ho : o ≤ 30) (hC : o + 1 ≤ 30 → ∀ r, In R r → Good R (C (o + 1) r)) : Good R (forallM C o r) := by
  unfold forallM
  exact within_g h _ _ ho fun ho r h => Good.bd (conds_g h (hC ho) _) fun l r h => Good.bd (take_g h _) fun _ r h => Good.bd (conds_g h (hC ho) _) fun t r h => h
theorem orL_g {R : List Lx} {C : List Lx → Rs Cd} (hC : ∀ r, In R r → Good R (C r)) : ∀ (f : Nat) (l : List (List Cd)) (r : List Lx), In R r → Good R (orL C f l r)
  | 0, l, r, h => h
  | f + 1, l, r, h => by
    unfold orL
    split
    · next hm => exact Good.bd (conds_g (isM_tail h hm) hC _) fun c r h => orL_g hC f _ r h
    · exact h
theorem or_g {R r : List Lx} (h : In R r) {C : Ps Cd} {o : Nat} (ho : o ≤ 30) (hC : o + 1 ≤ 30 → ∀ r, In R r → Good R (C (o + 1) r)) : Good R (orM C o r) := by
  unfold orM
  exact Good.bd (within_g h _ _ ho fun ho r h => Good.bd (conds_g h (hC ho) _) fun l r h => orL_g (hC ho) _ _ r h) fun l r h => h
theorem fn_g {R r : List Lx} (h : In R r) : Good R (fnM r) := by
  unfold fnM
  split
  · next hm =>
    split
    · exact isM_tail h hm
    · exact absurd h.2 (by simp [Gd])
  · exact name_g h
theorem acc_g {R r : List Lx} (h : In R r) {C : Ps Cd} {o : Nat} (ho : o ≤ 30) (hC : o + 1 ≤ 30 → ∀ r, In R r → Good R (C (o + 1) r)) : Good R (accM C o r) := by
  unfold accM
  exact within_g h _ _ ho fun ho r h => Good.bd (var_g h) fun v r h => Good.bd (take_g h _) fun _ r h => Good.bd (fn_g h) fun f r h => Good.bd (paren_g h ho fun ho r h => expr_g h ho) fun t r h => Good.bd (take_g h _) fun _ r h => Good.bd (conds_g h (hC ho) _) fun l r h => h
theorem arg_g {R r : List Lx} (h : In R r) {o : Nat} (ho : o ≤ 30) : Good R (argM o r) := by
  unfold argM
  split
  · exact Good.bd (var_g h) fun v r h => Good.bd (take_g h _) fun _ r h => h
  · exact Good.bd (expr_g h ho) fun t r h => h
theorem question_g {R r : List Lx} (h : In R r) {o : Nat} (ho : o ≤ 30) : Good R (questionM o r) := by
  unfold questionM
  refine Good.bd (name_g h) fun s r h => Good.bd (list_g h _ _ ho (fun ho l r h => ?_) _) fun l r h => h
  exact Good.bd (arg_g h ho) fun a r h => h
theorem cond_g {R : List Lx} : ∀ (f o : Nat) (r : List Lx), o ≤ 30 → 31 ≤ f + o → In R r → Good R (condM f o r)
  | 0, o, r, ho, hf, _ => absurd hf (by omega)
  | f + 1, o, r, ho, hf, h => by
    have hC : o + 1 ≤ 30 → ∀ r, In R r → Good R (condM f (o + 1) r) := fun hh r h => cond_g f (o + 1) r hh (by omega) h
    unfold condM
    split; · exact ofVar_g h ho
    split; · next hm => exact Good.bd (block_g (isM_tail h hm) ho hC) fun l r h => h
    split; · next hm => exact Good.bd (block_g (isM_tail h hm) ho hC) fun l r h => h
    split; · next hm => exact forall_g (isM_tail h hm) ho hC
    split; · exact or_g h ho hC
    split; · next hm => exact Good.bd (paren_g (isM_tail h hm) ho fun ho r h => expr_g h ho) fun t r h => h
    split; · next hm => exact acc_g (isM_tail h hm) ho hC
    split; · next hm => exact question_g (isM_tail h hm) ho
    exact pattern_g h _ ho

theorem assign_g {R r : List Lx} (h : In R r) {o : Nat} (ho : o ≤ 30) : Good R (assignM o r) := by
  unfold assignM
  exact Good.bd (name_g h) fun f r h => Good.bd (take_g h _) fun _ r h => Good.bd (expr_g h ho) fun t r h => h
theorem ass_g {R r : List Lx} (h : In R r) {o : Nat} (ho : o ≤ 30) (l : List As) : Good R (assM o l r) := by
  unfold assM
  exact Good.bd (assign_g h ho) fun a r h => h
theorem ins_g {R r : List Lx} (h : In R r) (k : Int) : Good R (insM k r) := by
  unfold insM
  exact Good.bd (name_g h) fun c r h => Good.bd (list_g h _ _ (by omega) (fun _ l r h => ass_g h (by omega) l) _) fun l r h => h
theorem upd_g {R r : List Lx} (h : In R r) : Good R (updM r) := by
  unfold updM
  exact Good.bd (expr_g h (by omega)) fun t r h => Good.bd (within_g h _ _ (by omega) fun _ r h => commas_g (fun l r h => ass_g h (by omega) l) _ r h) fun l r h => h
theorem deed_g {R r : List Lx} (h : In R r) : Good R (deedM r) := by
  unfold deedM
  split; · next hm => exact ins_g (isM_tail h hm) _
  split; · next hm => exact ins_g (isM_tail h hm) _
  split; · next hm => exact upd_g (isM_tail h hm)
  split; · next hm => exact Good.bd (expr_g (isM_tail h hm) (by omega)) fun t r h => h
  split; · next hm => exact Good.bd (text_g (isM_tail h hm)) fun t r h => h
  split; · next hm => exact Good.bd (expr_g (isM_tail h hm) (by omega)) fun t r h => h
  exact Good.bd (take_g h _) fun t r h => h
theorem action_g {R r : List Lx} (h : In R r) : Good R (actionM r) := by
  unfold actionM
  exact Good.bd (deed_g h) fun a r h => Good.bd (take_g h _) fun _ r h => h
theorem field_g {R r : List Lx} (h : In R r) : Good R (fieldM r) := by
  unfold fieldM
  refine Good.bd (name_g h) fun n r h => Good.bd (take_g h _) fun _ r h => ?_
  split; · next hm => exact isM_tail h hm
  split; · next hm => exact isM_tail h hm
  split; · next hm => exact isM_tail h hm
  split; · next hm => exact isM_tail h hm
  split; · next hm => exact isM_tail h hm
  split; · next hm => exact Good.bd (name_g (isM_tail h hm)) fun c r h => h
  exact h.here
theorem fieldsL_g {R : List Lx} : ∀ (f : Nat) (l : List Fd) (r : List Lx), In R r → Good R (fieldsL f l r)
  | 0, l, r, h => h
  | f + 1, l, r, h => by
    unfold fieldsL
    split
    · exact h
    · refine Good.bd (field_g ?_) fun x r h => fieldsL_g f _ r h
      split
      · next hm => exact isM_tail h hm.2
      · exact h
theorem class_g {R r : List Lx} (h : In R r) : Good R (classM r) := by
  unfold classM
  refine Good.bd (name_g h) fun n r h => Good.bd (?_) fun s r h => Good.bd (within_g h _ _ (by omega) fun _ r h => fieldsL_g _ _ r h) fun l r h => h
  split
  · next hm => exact name_g (isM_tail h hm)
  · exact h
theorem sal_g {R r : List Lx} (h : In R r) : Good R (salM r) := by
  unfold salM
  split
  · next hm => exact Good.bd (num_g (isM_tail h hm) _) fun n r h => h
  · exact Good.bd (num_g h _) fun n r h => h
theorem attrsL_g {R : List Lx} : ∀ (f : Nat) (u : Ru) (r : List Lx), In R r → Good R (attrsL f u r)
  | 0, u, r, h => h
  | f + 1, u, r, h => by
    unfold attrsL
    split; · next hm => exact Good.bd (sal_g (isM_tail h hm)) fun i r h => attrsL_g f _ r h
    split; · next hm => exact Good.bd (text_g (isM_tail h hm)) fun i r h => attrsL_g f _ r h
    split; · next hm => exact Good.bd (text_g (isM_tail h hm)) fun i r h => attrsL_g f _ r h
    split; · next hm => exact attrsL_g f _ _ (isM_tail h hm)
    split; · next hm => exact attrsL_g f _ _ (isM_tail h hm)
    exact h
theorem untilL_g {σ : Type} {R : List Lx} (z : ByteArray) {item : List Lx → Rs σ} (hi : ∀ r, In R r → Good R (item r)) : ∀ (f : Nat) (l : List σ) (r : List Lx), In R r → Good R (untilL z item f l r)
  | 0, l, r, h => h
  | f + 1, l, r, h => by
    unfold untilL
    split
    · next hm => exact isM_tail h hm
    · exact Good.bd (hi r h) fun x r h => untilL_g z hi f _ r h
theorem rule_g {R r : List Lx} (h : In R r) : Good R (ruleM r) := by
  unfold ruleM
  exact Good.bd (text_g h) fun n r h => Good.bd (attrsL_g _ _ r h) fun u r h => Good.bd (take_g h _) fun _ r h => Good.bd (untilL_g _ (fun r h => cond_g 31 0 r (by omega) (by omega) h) _ _ r h) fun l r h => Good.bd (untilL_g _ (fun r h => action_g h) _ _ r h) fun t r h => h
theorem query_g {R r : List Lx} (h : In R r) : Good R (queryM r) := by
  unfold queryM
  refine Good.bd (name_g h) fun n r h => Good.bd (list_g h _ _ (by omega) (fun _ l r h => ?_) _) fun p r h => Good.bd (untilL_g _ (fun r h => cond_g 31 0 r (by omega) (by omega) h) _ _ r h) fun l r h => h
  exact Good.bd (var_g h) fun s r h => h
theorem fileL_g {R : List Lx} : ∀ (f : Nat) (b : Bs) (r : List Lx), In R r → Good R (fileL f b r)
  | 0, b, r, h => h
  | f + 1, b, r, h => by
    unfold fileL
    split; · exact h
    split; · next hm => exact Good.bd (class_g (isM_tail h hm)) fun c r h => fileL_g f _ r h
    split; · next hm => exact Good.bd (rule_g (isM_tail h hm)) fun c r h => fileL_g f _ r h
    split; · next hm => exact Good.bd (query_g (isM_tail h hm)) fun c r h => fileL_g f _ r h
    exact h.here
theorem end_g {σ : Type} {R r : List Lx} (h : In R r) (x : σ) : Good R (endM x r) := by
  unfold endM
  split
  · exact h
  · exact h.here
theorem lexR_in {s : ByteArray} (h : Gd (lexR s)) : In (lexR s) (lexR s) := ⟨List.suffix_refl _, h⟩
/-- A fault of a rule file: where lex refuses, or a lexeme's beginning, or the text's end. -/
theorem bad_place {s : ByteArray} {a : Nat} (hg : lexF s = none → Gd (lexR s)) (h : parseM s = .bad a) : lexF s = some a ∨ (lexF s = none ∧ ∃ x ∈ lexR s, x.a = a) := by
  unfold parseM readM at h
  split at h
  · cases h
  · split at h
    · next q hq => cases h; exact .inl hq
    · next hq =>
      refine .inr ⟨hq, ?_⟩
      have hG : Good (lexR s) ((fileL (lexR s).length {} (lexR s)).bd endM) := Good.bd (fileL_g _ _ _ (lexR_in (hg hq))) fun x r h => end_g h x
      split at h
      · next b hb => cases h; dsimp only at hb; rw [hb] at hG; exact hG
      · cases h
end Go.Proofs.YtcgaadnfocmdbaaGreatDoor
end

section
/- What the laws' own equality tells of two bases that are empty. -/
namespace Go.Proofs.YtcgaadnfocmdbaaGreatDoor
open Go.RowKit

set_option maxRecDepth 100000 in
set_option maxHeartbeats 4000000 in
theorem eqBase_none (w : World) : Calls Tryz.prog 12 #[.agg #[.slice none 0 0, .slice none 0 0, .slice none 0 0], .agg #[.slice none 0 0, .slice none 0 0, .slice none 0 0]] w fun e w' => e = .returned (.bool true) ∧ Below w.heap.size w w' := by
  have b0 : Below w.heap.size w ((w.alloc (.cells #[.slice none 0 0, .slice none 0 0, .slice none 0 0] 27)).alloc (.cells #[.slice none 0 0, .slice none 0 0, .slice none 0 0] 27)) := below_al (below_al (Below.refl _ _) _) _
  go_enter Tryz.func12, Tryz.ntmps12
  go_wp2_with fail
  go_loopw [5] (fun i wr => wr = (w.alloc (.cells #[.slice none 0 0, .slice none 0 0, .slice none 0 0] 27)).alloc (.cells #[.slice none 0 0, .slice none 0 0, .slice none 0 0] 27) ∧ i = .int .i64 0) (fun _ _ => 0)
  case atStart => exact ⟨rfl, rfl⟩
  case round =>
    obtain ⟨hw, rfl⟩ := hrel
    subst hw
    go_wp2_with fail
    go_loopw [6] (fun i wr => wr = (w.alloc (.cells #[.slice none 0 0, .slice none 0 0, .slice none 0 0] 27)).alloc (.cells #[.slice none 0 0, .slice none 0 0, .slice none 0 0] 27) ∧ i = .int .i64 0) (fun _ _ => 0)
    case atStart => exact ⟨rfl, rfl⟩
    case round =>
      obtain ⟨hw, rfl⟩ := hrel
      subst hw
      go_wp2_with fail
      go_loopw [9] (fun i wr => wr = (w.alloc (.cells #[.slice none 0 0, .slice none 0 0, .slice none 0 0] 27)).alloc (.cells #[.slice none 0 0, .slice none 0 0, .slice none 0 0] 27) ∧ i = .int .i64 0) (fun _ _ => 0)
      case atStart => exact ⟨rfl, rfl⟩
      case round =>
        obtain ⟨hw, rfl⟩ := hrel
        subst hw
        go_wp2_with fail
        go_ret
        exact ⟨rfl, b0⟩
end Go.Proofs.YtcgaadnfocmdbaaGreatDoor
end
