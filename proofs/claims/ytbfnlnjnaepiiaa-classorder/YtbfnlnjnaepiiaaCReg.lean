/- Region 36 of ClassOrder: 'a is b, and b is c, and a is not c'. -/
import Derived.Test.YtbfnlnjnaepiiaaCOrd
import Derived.Test.YtbfnlnjnaepiiaaCLight
namespace Go.Proofs.Ytbfnlnjnaepiiaa
open Go.RowKit Go.Maps

/-- The region of the number n. -/
def rgn (n : Nat) : Code → Option Code
  | .region id ops b => if id == n then some (.region id ops b) else none
  | .loop c => rgn n c
  | .seq a b => match rgn n a with
    | some c => some c
    | none => rgn n b
  | .block _ c => rgn n c
  | .scope c => rgn n c
  | .cond _ a b => match rgn n a with
    | some c => some c
    | none => rgn n b
  | _ => none
/-- A step that is taken first; its slot written out. -/
theorem take_at {P : Program} {md : Region.Mode} {ops : Array Oper} {Q : Exit → Act → World → Prop} {S : World → Prop} (i d : Nat) (v : Value) {fuel : Nat} {listed : Array Bool} {tmps : Array Value} {df : List _} {w : World}
    (hi : ∃ oi, ops[i]? = some oi ∧ oi.dst = some d ∧ YieldsIf P ops S oi v ⟨tmps, df⟩) (hs : Region.noSelect ops = true) (hf : Region.free md ops listed i = true) (hr : (Region.ready md ops listed).contains i = true) (hS : S w)
    (h : wpAnyH P md ops (NoPanic Q) S fuel (listed.setIfInBounds i true) ⟨tmps.setIfInBounds d v, df⟩ w) : wpAnyH P md ops (NoPanic Q) S (fuel + 1) listed ⟨tmps, df⟩ w := by
  obtain ⟨oi, h1, h2, h3⟩ := hi
  refine wpAnyH_take h1 hs hf hr (fun _ _ _ h => h) h3 hS ?_
  rw [h2]
  exact h

set_option maxRecDepth 1000000 in
set_option maxHeartbeats 4000000 in
theorem reg36A (g A0 bn on ln cap j n : Nat) (wr : World) (x1 x2 x3 : ByteArray) (u1 u2 u4 u5 u7 u8 u9 u10 u11 u12 u13 u14 u15 u16 u17 u20 u21 u22 u23 u24 u25 u26 u27 u28 u29 u30 u31 u32 u33 u34 u35 u36 u37 u38 u39 u40 u41 u42 u43 u44 u45 u46 u47 u48 u49 u50 u51 u52 u53 u54 u55 u56 u57 u58 u59 u60 u61 u62 u63 u64 u65 u66 u67 u68 u69 u70 u71 u72 u73 u74 u75 u76 u77 u78 u79 u80 u81 u82 u83 u84 u85 u86 u87 u88 u89 u90 u91 u92 u93 u94 u95 u96 u97 u98 u99 u100 u101 u102 u103 u104 u105 u106 u107 u108 u109 u110 u111 u112 u113 u114 u115 u116 u117 u118 u119 u120 u121 u122 u123 u124 u125 u126 u127 u128 u129 u130 u131 u132 u133 u134 u135 u136 u137 u138 u139 u140 u141 u142 u143 u144 u145 u146 u147 u148 u149 u150 u151 u152 u153 u154 u155 u156 u157 u158 u159 u160 u161 u162 u163 u164 u165 u166 u167 u168 u169 u170 u171 u172 u173 u174 u175 u176 u177 u178 u179 u180 u181 u182 u183 u184 u185 u186 u187 u188 u189 u190 u191 u192 u193 u194 u195 u196 u197 u198 u199 u200 u201 u202 u203 u204 u205 u206 u207 u208 u209 u210 u211 u212 u213 u214 u215 u216 u217 u218 u219 u220 u221 u222 u223 u224 u225 u226 u227 u228 u229 u230 u231 u232 u233 : Value) (Q : Exit → Act → World → Prop)
    (HS : Hid (∀ w', Below wr.heap.size wr w' → w'.cell? ⟨A0, 0, none⟩ = some (.string x1) ∧ w'.cell? ⟨bn, on + j * 3, none⟩ = some (.string x2) ∧ w'.cell? ⟨bn, on + n * 3, none⟩ = some (.string x3)))
    (hjt1 : (j : Int) < (ln : Int)) (_hnt1 : (n : Int) < (ln : Int)) (j0 : (0 : Int) ≤ (j : Int)) (_n0 : (0 : Int) ≤ (n : Int))
    (I1 : Hid (∀ w', Below wr.heap.size wr w' → Calls Try.prog 14 #[.pointer (some ⟨g, 0, none⟩), .string x1, .string x2] w' fun e w'' => e = .returned (.bool false) ∧ Below w'.heap.size w' w''))
    (hQ : Hid (∀ (y198 y199 y200 y201 y202 y203 y204 y205 y206 y207 y208 y209 y210 y211 y212 y213 y214 y215 y216 y217 y218 y219 y220 y221 y222 y223 y224 y225 y226 y227 y228 y229 y230 y231 : Value) (wx : World), Below wr.heap.size wr wx → Q .normal ⟨List.toArray ((.slice (some ⟨bn, on, none⟩) ln cap) :: u1 :: u2 :: (.pointer (some ⟨g, 0, none⟩)) :: u4 :: u5 :: (.pointer (some ⟨A0, 0, none⟩)) :: u7 :: u8 :: u9 :: u10 :: u11 :: u12 :: u13 :: u14 :: u15 :: u16 :: u17 :: (.int .i64 (j : Int)) :: (.int .i64 (n : Int)) :: u20 :: u21 :: u22 :: u23 :: u24 :: u25 :: u26 :: u27 :: u28 :: u29 :: u30 :: u31 :: u32 :: u33 :: u34 :: u35 :: u36 :: u37 :: u38 :: u39 :: u40 :: u41 :: u42 :: u43 :: u44 :: u45 :: u46 :: u47 :: u48 :: u49 :: u50 :: u51 :: u52 :: u53 :: u54 :: u55 :: u56 :: u57 :: u58 :: u59 :: u60 :: u61 :: u62 :: u63 :: u64 :: u65 :: u66 :: u67 :: u68 :: u69 :: u70 :: u71 :: u72 :: u73 :: u74 :: u75 :: u76 :: u77 :: u78 :: u79 :: u80 :: u81 :: u82 :: u83 :: u84 :: u85 :: u86 :: u87 :: u88 :: u89 :: u90 :: u91 :: u92 :: u93 :: u94 :: u95 :: u96 :: u97 :: u98 :: u99 :: u100 :: u101 :: u102 :: u103 :: u104 :: u105 :: u106 :: u107 :: u108 :: u109 :: u110 :: u111 :: u112 :: u113 :: u114 :: u115 :: u116 :: u117 :: u118 :: u119 :: u120 :: u121 :: u122 :: u123 :: u124 :: u125 :: u126 :: u127 :: u128 :: u129 :: u130 :: u131 :: u132 :: u133 :: u134 :: u135 :: u136 :: u137 :: u138 :: u139 :: u140 :: u141 :: u142 :: u143 :: u144 :: u145 :: u146 :: u147 :: u148 :: u149 :: u150 :: u151 :: u152 :: u153 :: u154 :: u155 :: u156 :: u157 :: u158 :: u159 :: u160 :: u161 :: u162 :: u163 :: u164 :: u165 :: u166 :: u167 :: u168 :: u169 :: u170 :: u171 :: u172 :: u173 :: u174 :: u175 :: u176 :: u177 :: u178 :: u179 :: u180 :: u181 :: u182 :: u183 :: u184 :: u185 :: u186 :: u187 :: u188 :: u189 :: u190 :: u191 :: u192 :: u193 :: u194 :: u195 :: u196 :: u197 :: y198 :: y199 :: y200 :: y201 :: y202 :: y203 :: y204 :: y205 :: y206 :: y207 :: y208 :: y209 :: y210 :: y211 :: y212 :: y213 :: y214 :: y215 :: y216 :: y217 :: y218 :: y219 :: y220 :: y221 :: y222 :: y223 :: y224 :: y225 :: y226 :: y227 :: y228 :: y229 :: y230 :: y231 :: (.bool false) :: u233 :: []), []⟩ wx)) :
    Code.wp Try.prog ((Try.f5.body.bind (rgn 36)).getD .skip) Q ⟨List.toArray ((.slice (some ⟨bn, on, none⟩) ln cap) :: u1 :: u2 :: (.pointer (some ⟨g, 0, none⟩)) :: u4 :: u5 :: (.pointer (some ⟨A0, 0, none⟩)) :: u7 :: u8 :: u9 :: u10 :: u11 :: u12 :: u13 :: u14 :: u15 :: u16 :: u17 :: (.int .i64 (j : Int)) :: (.int .i64 (n : Int)) :: u20 :: u21 :: u22 :: u23 :: u24 :: u25 :: u26 :: u27 :: u28 :: u29 :: u30 :: u31 :: u32 :: u33 :: u34 :: u35 :: u36 :: u37 :: u38 :: u39 :: u40 :: u41 :: u42 :: u43 :: u44 :: u45 :: u46 :: u47 :: u48 :: u49 :: u50 :: u51 :: u52 :: u53 :: u54 :: u55 :: u56 :: u57 :: u58 :: u59 :: u60 :: u61 :: u62 :: u63 :: u64 :: u65 :: u66 :: u67 :: u68 :: u69 :: u70 :: u71 :: u72 :: u73 :: u74 :: u75 :: u76 :: u77 :: u78 :: u79 :: u80 :: u81 :: u82 :: u83 :: u84 :: u85 :: u86 :: u87 :: u88 :: u89 :: u90 :: u91 :: u92 :: u93 :: u94 :: u95 :: u96 :: u97 :: u98 :: u99 :: u100 :: u101 :: u102 :: u103 :: u104 :: u105 :: u106 :: u107 :: u108 :: u109 :: u110 :: u111 :: u112 :: u113 :: u114 :: u115 :: u116 :: u117 :: u118 :: u119 :: u120 :: u121 :: u122 :: u123 :: u124 :: u125 :: u126 :: u127 :: u128 :: u129 :: u130 :: u131 :: u132 :: u133 :: u134 :: u135 :: u136 :: u137 :: u138 :: u139 :: u140 :: u141 :: u142 :: u143 :: u144 :: u145 :: u146 :: u147 :: u148 :: u149 :: u150 :: u151 :: u152 :: u153 :: u154 :: u155 :: u156 :: u157 :: u158 :: u159 :: u160 :: u161 :: u162 :: u163 :: u164 :: u165 :: u166 :: u167 :: u168 :: u169 :: u170 :: u171 :: u172 :: u173 :: u174 :: u175 :: u176 :: u177 :: u178 :: u179 :: u180 :: u181 :: u182 :: u183 :: u184 :: u185 :: u186 :: u187 :: u188 :: u189 :: u190 :: u191 :: u192 :: u193 :: u194 :: u195 :: u196 :: u197 :: u198 :: u199 :: u200 :: u201 :: u202 :: u203 :: u204 :: u205 :: u206 :: u207 :: u208 :: u209 :: u210 :: u211 :: u212 :: u213 :: u214 :: u215 :: u216 :: u217 :: u218 :: u219 :: u220 :: u221 :: u222 :: u223 :: u224 :: u225 :: u226 :: u227 :: u228 :: u229 :: u230 :: u231 :: u232 :: u233 :: []), []⟩ wr := by
  conv => arg 2; whnf
  refine wp_region_noPanic ?_
  refine wp_region_held_drew (S := (fun w' => w'.cell? ⟨A0, 0, none⟩ = some (.string x1) ∧ w'.cell? ⟨bn, on + j * 3, none⟩ = some (.string x2) ∧ w'.cell? ⟨bn, on + n * 3, none⟩ = some (.string x3))) (by kernel_rfl) (HS.out _ (Below.refl _ _).drew) (fun hH => ?_)
  refine take_at 0 198 (.pointer (some ⟨g, 0, none⟩)) ⟨_, rfl, rfl, Or.inl ⟨by rfl, fun w hSw => by obtain ⟨q1, q2, q3⟩ := hSw; go_simp⟩⟩ (by kernel_rfl) (by kernel_rfl) (by kernel_rfl) hH ?_
  simp only [List.setIfInBounds_toArray, List.set_cons_succ, List.set_cons_zero]
  refine take_at 1 199 (.pointer (some ⟨A0, 0, none⟩)) ⟨_, rfl, rfl, Or.inl ⟨by rfl, fun w hSw => by obtain ⟨q1, q2, q3⟩ := hSw; go_simp⟩⟩ (by kernel_rfl) (by kernel_rfl) (by kernel_rfl) hH ?_
  simp only [List.setIfInBounds_toArray, List.set_cons_succ, List.set_cons_zero]
  refine take_at 2 200 (.string x1) ⟨_, rfl, rfl, Or.inl ⟨by rfl, fun w hSw => by obtain ⟨q1, q2, q3⟩ := hSw; go_simp⟩⟩ (by kernel_rfl) (by kernel_rfl) (by kernel_rfl) hH ?_
  simp only [List.setIfInBounds_toArray, List.set_cons_succ, List.set_cons_zero]
  refine take_at 3 201 (.slice (some ⟨bn, on, none⟩) ln cap) ⟨_, rfl, rfl, Or.inl ⟨by rfl, fun w hSw => by obtain ⟨q1, q2, q3⟩ := hSw; go_simp⟩⟩ (by kernel_rfl) (by kernel_rfl) (by kernel_rfl) hH ?_
  simp only [List.setIfInBounds_toArray, List.set_cons_succ, List.set_cons_zero]
  refine take_at 4 202 (.int .i64 (j : Int)) ⟨_, rfl, rfl, Or.inl ⟨by rfl, fun w hSw => by obtain ⟨q1, q2, q3⟩ := hSw; go_simp⟩⟩ (by kernel_rfl) (by kernel_rfl) (by kernel_rfl) hH ?_
  simp only [List.setIfInBounds_toArray, List.set_cons_succ, List.set_cons_zero]
  refine take_at 5 203 (.pointer (some ⟨bn, on + j * 3, none⟩)) ⟨_, rfl, rfl, Or.inl ⟨by rfl, fun w hSw => by obtain ⟨q1, q2, q3⟩ := hSw; go_simp⟩⟩ (by kernel_rfl) (by kernel_rfl) (by kernel_rfl) hH ?_
  simp only [List.setIfInBounds_toArray, List.set_cons_succ, List.set_cons_zero]
  refine take_at 6 204 (.pointer (some ⟨bn, on + j * 3, none⟩)) ⟨_, rfl, rfl, Or.inl ⟨by rfl, fun w hSw => by obtain ⟨q1, q2, q3⟩ := hSw; go_simp⟩⟩ (by kernel_rfl) (by kernel_rfl) (by kernel_rfl) hH ?_
  simp only [List.setIfInBounds_toArray, List.set_cons_succ, List.set_cons_zero]
  refine take_at 7 205 (.string x2) ⟨_, rfl, rfl, Or.inl ⟨by rfl, fun w hSw => by obtain ⟨q1, q2, q3⟩ := hSw; go_simp⟩⟩ (by kernel_rfl) (by kernel_rfl) (by kernel_rfl) hH ?_
  simp only [List.setIfInBounds_toArray, List.set_cons_succ, List.set_cons_zero]
  refine wpAnyH_ready (rs := [8]) (by kernel_rfl) (by simp) ?_
  refine AllReadyH.cons rfl (fun K hK => ?_) AllReadyH.nil
  go_simp
  refine (I1.out _ (Below.refl _ _).drew).mono ?_
  rintro e w14 ⟨rfl, hb14⟩
  have D1 := Hid.intro (Below.trans (Below.refl wr.heap.size wr).drew hb14)
  clear hb14
  go_wp2_with fail
  refine hK.out _ _ (HS.out _ D1.out) (fun hH1 => ?_)
  clear hK K
  refine take_at 9 207 (.bool false) ⟨_, rfl, rfl, Or.inl ⟨by rfl, fun w hSw => by obtain ⟨q1, q2, q3⟩ := hSw; go_simp⟩⟩ (by kernel_rfl) (by kernel_rfl) (by kernel_rfl) hH1 ?_
  simp only [List.setIfInBounds_toArray, List.set_cons_succ, List.set_cons_zero]
  refine take_at 10 208 undef ⟨_, rfl, rfl, Or.inr ⟨by rfl, rfl⟩⟩ (by kernel_rfl) (by kernel_rfl) (by kernel_rfl) hH1 ?_
  simp only [List.setIfInBounds_toArray, List.set_cons_succ, List.set_cons_zero]
  refine take_at 11 209 undef ⟨_, rfl, rfl, Or.inr ⟨by rfl, rfl⟩⟩ (by kernel_rfl) (by kernel_rfl) (by kernel_rfl) hH1 ?_
  simp only [List.setIfInBounds_toArray, List.set_cons_succ, List.set_cons_zero]
  refine take_at 12 210 undef ⟨_, rfl, rfl, Or.inr ⟨by rfl, rfl⟩⟩ (by kernel_rfl) (by kernel_rfl) (by kernel_rfl) hH1 ?_
  simp only [List.setIfInBounds_toArray, List.set_cons_succ, List.set_cons_zero]
  refine take_at 13 211 undef ⟨_, rfl, rfl, Or.inr ⟨by rfl, rfl⟩⟩ (by kernel_rfl) (by kernel_rfl) (by kernel_rfl) hH1 ?_
  simp only [List.setIfInBounds_toArray, List.set_cons_succ, List.set_cons_zero]
  refine take_at 14 212 undef ⟨_, rfl, rfl, Or.inr ⟨by rfl, rfl⟩⟩ (by kernel_rfl) (by kernel_rfl) (by kernel_rfl) hH1 ?_
  simp only [List.setIfInBounds_toArray, List.set_cons_succ, List.set_cons_zero]
  refine take_at 15 213 undef ⟨_, rfl, rfl, Or.inr ⟨by rfl, rfl⟩⟩ (by kernel_rfl) (by kernel_rfl) (by kernel_rfl) hH1 ?_
  simp only [List.setIfInBounds_toArray, List.set_cons_succ, List.set_cons_zero]
  refine take_at 16 214 undef ⟨_, rfl, rfl, Or.inr ⟨by rfl, rfl⟩⟩ (by kernel_rfl) (by kernel_rfl) (by kernel_rfl) hH1 ?_
  simp only [List.setIfInBounds_toArray, List.set_cons_succ, List.set_cons_zero]
  refine take_at 17 215 undef ⟨_, rfl, rfl, Or.inr ⟨by rfl, rfl⟩⟩ (by kernel_rfl) (by kernel_rfl) (by kernel_rfl) hH1 ?_
  simp only [List.setIfInBounds_toArray, List.set_cons_succ, List.set_cons_zero]
  refine take_at 18 216 undef ⟨_, rfl, rfl, Or.inr ⟨by rfl, rfl⟩⟩ (by kernel_rfl) (by kernel_rfl) (by kernel_rfl) hH1 ?_
  simp only [List.setIfInBounds_toArray, List.set_cons_succ, List.set_cons_zero]
  refine take_at 19 217 undef ⟨_, rfl, rfl, Or.inr ⟨by rfl, rfl⟩⟩ (by kernel_rfl) (by kernel_rfl) (by kernel_rfl) hH1 ?_
  simp only [List.setIfInBounds_toArray, List.set_cons_succ, List.set_cons_zero]
  refine take_at 20 218 undef ⟨_, rfl, rfl, Or.inr ⟨by rfl, rfl⟩⟩ (by kernel_rfl) (by kernel_rfl) (by kernel_rfl) hH1 ?_
  simp only [List.setIfInBounds_toArray, List.set_cons_succ, List.set_cons_zero]
  refine take_at 21 219 undef ⟨_, rfl, rfl, Or.inr ⟨by rfl, rfl⟩⟩ (by kernel_rfl) (by kernel_rfl) (by kernel_rfl) hH1 ?_
  simp only [List.setIfInBounds_toArray, List.set_cons_succ, List.set_cons_zero]
  refine take_at 22 220 (.bool false) ⟨_, rfl, rfl, Or.inl ⟨by rfl, fun w hSw => by obtain ⟨q1, q2, q3⟩ := hSw; go_simp⟩⟩ (by kernel_rfl) (by kernel_rfl) (by kernel_rfl) hH1 ?_
  simp only [List.setIfInBounds_toArray, List.set_cons_succ, List.set_cons_zero]
  refine take_at 23 221 (.bool false) ⟨_, rfl, rfl, Or.inl ⟨by rfl, fun w hSw => by obtain ⟨q1, q2, q3⟩ := hSw; go_simp⟩⟩ (by kernel_rfl) (by kernel_rfl) (by kernel_rfl) hH1 ?_
  simp only [List.setIfInBounds_toArray, List.set_cons_succ, List.set_cons_zero]
  refine take_at 24 222 undef ⟨_, rfl, rfl, Or.inr ⟨by rfl, rfl⟩⟩ (by kernel_rfl) (by kernel_rfl) (by kernel_rfl) hH1 ?_
  simp only [List.setIfInBounds_toArray, List.set_cons_succ, List.set_cons_zero]
  refine take_at 25 223 undef ⟨_, rfl, rfl, Or.inr ⟨by rfl, rfl⟩⟩ (by kernel_rfl) (by kernel_rfl) (by kernel_rfl) hH1 ?_
  simp only [List.setIfInBounds_toArray, List.set_cons_succ, List.set_cons_zero]
  refine take_at 26 224 undef ⟨_, rfl, rfl, Or.inr ⟨by rfl, rfl⟩⟩ (by kernel_rfl) (by kernel_rfl) (by kernel_rfl) hH1 ?_
  simp only [List.setIfInBounds_toArray, List.set_cons_succ, List.set_cons_zero]
  refine take_at 27 225 undef ⟨_, rfl, rfl, Or.inr ⟨by rfl, rfl⟩⟩ (by kernel_rfl) (by kernel_rfl) (by kernel_rfl) hH1 ?_
  simp only [List.setIfInBounds_toArray, List.set_cons_succ, List.set_cons_zero]
  refine take_at 28 226 undef ⟨_, rfl, rfl, Or.inr ⟨by rfl, rfl⟩⟩ (by kernel_rfl) (by kernel_rfl) (by kernel_rfl) hH1 ?_
  simp only [List.setIfInBounds_toArray, List.set_cons_succ, List.set_cons_zero]
  refine take_at 29 227 undef ⟨_, rfl, rfl, Or.inr ⟨by rfl, rfl⟩⟩ (by kernel_rfl) (by kernel_rfl) (by kernel_rfl) hH1 ?_
  simp only [List.setIfInBounds_toArray, List.set_cons_succ, List.set_cons_zero]
  refine take_at 30 228 undef ⟨_, rfl, rfl, Or.inr ⟨by rfl, rfl⟩⟩ (by kernel_rfl) (by kernel_rfl) (by kernel_rfl) hH1 ?_
  simp only [List.setIfInBounds_toArray, List.set_cons_succ, List.set_cons_zero]
  refine take_at 31 229 undef ⟨_, rfl, rfl, Or.inr ⟨by rfl, rfl⟩⟩ (by kernel_rfl) (by kernel_rfl) (by kernel_rfl) hH1 ?_
  simp only [List.setIfInBounds_toArray, List.set_cons_succ, List.set_cons_zero]
  refine take_at 32 230 undef ⟨_, rfl, rfl, Or.inr ⟨by rfl, rfl⟩⟩ (by kernel_rfl) (by kernel_rfl) (by kernel_rfl) hH1 ?_
  simp only [List.setIfInBounds_toArray, List.set_cons_succ, List.set_cons_zero]
  refine take_at 33 231 undef ⟨_, rfl, rfl, Or.inr ⟨by rfl, rfl⟩⟩ (by kernel_rfl) (by kernel_rfl) (by kernel_rfl) hH1 ?_
  simp only [List.setIfInBounds_toArray, List.set_cons_succ, List.set_cons_zero]
  refine take_at 34 232 (.bool false) ⟨_, rfl, rfl, Or.inl ⟨by rfl, fun w hSw => by obtain ⟨q1, q2, q3⟩ := hSw; go_simp⟩⟩ (by kernel_rfl) (by kernel_rfl) (by kernel_rfl) hH1 ?_
  simp only [List.setIfInBounds_toArray, List.set_cons_succ, List.set_cons_zero]
  refine wpAnyH_done (by kernel_rfl) ?_ _
  refine NoPanic.normal ?_
  exact hQ.out _ _ _ _ _ _ _ _ _ _ _ _ _ _ _ _ _ _ _ _ _ _ _ _ _ _ _ _ _ _ _ _ _ _ _ D1.out

set_option maxRecDepth 1000000 in
set_option maxHeartbeats 4000000 in
theorem reg36B (g A0 bn on ln cap j n : Nat) (wr : World) (x1 x2 x3 : ByteArray) (u1 u2 u4 u5 u7 u8 u9 u10 u11 u12 u13 u14 u15 u16 u17 u20 u21 u22 u23 u24 u25 u26 u27 u28 u29 u30 u31 u32 u33 u34 u35 u36 u37 u38 u39 u40 u41 u42 u43 u44 u45 u46 u47 u48 u49 u50 u51 u52 u53 u54 u55 u56 u57 u58 u59 u60 u61 u62 u63 u64 u65 u66 u67 u68 u69 u70 u71 u72 u73 u74 u75 u76 u77 u78 u79 u80 u81 u82 u83 u84 u85 u86 u87 u88 u89 u90 u91 u92 u93 u94 u95 u96 u97 u98 u99 u100 u101 u102 u103 u104 u105 u106 u107 u108 u109 u110 u111 u112 u113 u114 u115 u116 u117 u118 u119 u120 u121 u122 u123 u124 u125 u126 u127 u128 u129 u130 u131 u132 u133 u134 u135 u136 u137 u138 u139 u140 u141 u142 u143 u144 u145 u146 u147 u148 u149 u150 u151 u152 u153 u154 u155 u156 u157 u158 u159 u160 u161 u162 u163 u164 u165 u166 u167 u168 u169 u170 u171 u172 u173 u174 u175 u176 u177 u178 u179 u180 u181 u182 u183 u184 u185 u186 u187 u188 u189 u190 u191 u192 u193 u194 u195 u196 u197 u198 u199 u200 u201 u202 u203 u204 u205 u206 u207 u208 u209 u210 u211 u212 u213 u214 u215 u216 u217 u218 u219 u220 u221 u222 u223 u224 u225 u226 u227 u228 u229 u230 u231 u232 u233 : Value) (Q : Exit → Act → World → Prop)
    (HS : Hid (∀ w', Below wr.heap.size wr w' → w'.cell? ⟨A0, 0, none⟩ = some (.string x1) ∧ w'.cell? ⟨bn, on + j * 3, none⟩ = some (.string x2) ∧ w'.cell? ⟨bn, on + n * 3, none⟩ = some (.string x3)))
    (hjt1 : (j : Int) < (ln : Int)) (hnt1 : (n : Int) < (ln : Int)) (j0 : (0 : Int) ≤ (j : Int)) (n0 : (0 : Int) ≤ (n : Int))
    (I1 : Hid (∀ w', Below wr.heap.size wr w' → Calls Try.prog 14 #[.pointer (some ⟨g, 0, none⟩), .string x1, .string x2] w' fun e w'' => e = .returned (.bool true) ∧ Below w'.heap.size w' w''))
    (I2 : Hid (∀ w', Below wr.heap.size wr w' → Calls Try.prog 14 #[.pointer (some ⟨g, 0, none⟩), .string x2, .string x3] w' fun e w'' => e = .returned (.bool false) ∧ Below w'.heap.size w' w''))
    (hQ : Hid (∀ (y198 y199 y200 y201 y202 y203 y204 y205 y206 y207 y208 y209 y210 y211 y212 y213 y214 y215 y216 y217 y218 y219 y220 y221 y222 y223 y224 y225 y226 y227 y228 y229 y230 y231 : Value) (wx : World), Below wr.heap.size wr wx → Q .normal ⟨List.toArray ((.slice (some ⟨bn, on, none⟩) ln cap) :: u1 :: u2 :: (.pointer (some ⟨g, 0, none⟩)) :: u4 :: u5 :: (.pointer (some ⟨A0, 0, none⟩)) :: u7 :: u8 :: u9 :: u10 :: u11 :: u12 :: u13 :: u14 :: u15 :: u16 :: u17 :: (.int .i64 (j : Int)) :: (.int .i64 (n : Int)) :: u20 :: u21 :: u22 :: u23 :: u24 :: u25 :: u26 :: u27 :: u28 :: u29 :: u30 :: u31 :: u32 :: u33 :: u34 :: u35 :: u36 :: u37 :: u38 :: u39 :: u40 :: u41 :: u42 :: u43 :: u44 :: u45 :: u46 :: u47 :: u48 :: u49 :: u50 :: u51 :: u52 :: u53 :: u54 :: u55 :: u56 :: u57 :: u58 :: u59 :: u60 :: u61 :: u62 :: u63 :: u64 :: u65 :: u66 :: u67 :: u68 :: u69 :: u70 :: u71 :: u72 :: u73 :: u74 :: u75 :: u76 :: u77 :: u78 :: u79 :: u80 :: u81 :: u82 :: u83 :: u84 :: u85 :: u86 :: u87 :: u88 :: u89 :: u90 :: u91 :: u92 :: u93 :: u94 :: u95 :: u96 :: u97 :: u98 :: u99 :: u100 :: u101 :: u102 :: u103 :: u104 :: u105 :: u106 :: u107 :: u108 :: u109 :: u110 :: u111 :: u112 :: u113 :: u114 :: u115 :: u116 :: u117 :: u118 :: u119 :: u120 :: u121 :: u122 :: u123 :: u124 :: u125 :: u126 :: u127 :: u128 :: u129 :: u130 :: u131 :: u132 :: u133 :: u134 :: u135 :: u136 :: u137 :: u138 :: u139 :: u140 :: u141 :: u142 :: u143 :: u144 :: u145 :: u146 :: u147 :: u148 :: u149 :: u150 :: u151 :: u152 :: u153 :: u154 :: u155 :: u156 :: u157 :: u158 :: u159 :: u160 :: u161 :: u162 :: u163 :: u164 :: u165 :: u166 :: u167 :: u168 :: u169 :: u170 :: u171 :: u172 :: u173 :: u174 :: u175 :: u176 :: u177 :: u178 :: u179 :: u180 :: u181 :: u182 :: u183 :: u184 :: u185 :: u186 :: u187 :: u188 :: u189 :: u190 :: u191 :: u192 :: u193 :: u194 :: u195 :: u196 :: u197 :: y198 :: y199 :: y200 :: y201 :: y202 :: y203 :: y204 :: y205 :: y206 :: y207 :: y208 :: y209 :: y210 :: y211 :: y212 :: y213 :: y214 :: y215 :: y216 :: y217 :: y218 :: y219 :: y220 :: y221 :: y222 :: y223 :: y224 :: y225 :: y226 :: y227 :: y228 :: y229 :: y230 :: y231 :: (.bool false) :: u233 :: []), []⟩ wx)) :
    Code.wp Try.prog ((Try.f5.body.bind (rgn 36)).getD .skip) Q ⟨List.toArray ((.slice (some ⟨bn, on, none⟩) ln cap) :: u1 :: u2 :: (.pointer (some ⟨g, 0, none⟩)) :: u4 :: u5 :: (.pointer (some ⟨A0, 0, none⟩)) :: u7 :: u8 :: u9 :: u10 :: u11 :: u12 :: u13 :: u14 :: u15 :: u16 :: u17 :: (.int .i64 (j : Int)) :: (.int .i64 (n : Int)) :: u20 :: u21 :: u22 :: u23 :: u24 :: u25 :: u26 :: u27 :: u28 :: u29 :: u30 :: u31 :: u32 :: u33 :: u34 :: u35 :: u36 :: u37 :: u38 :: u39 :: u40 :: u41 :: u42 :: u43 :: u44 :: u45 :: u46 :: u47 :: u48 :: u49 :: u50 :: u51 :: u52 :: u53 :: u54 :: u55 :: u56 :: u57 :: u58 :: u59 :: u60 :: u61 :: u62 :: u63 :: u64 :: u65 :: u66 :: u67 :: u68 :: u69 :: u70 :: u71 :: u72 :: u73 :: u74 :: u75 :: u76 :: u77 :: u78 :: u79 :: u80 :: u81 :: u82 :: u83 :: u84 :: u85 :: u86 :: u87 :: u88 :: u89 :: u90 :: u91 :: u92 :: u93 :: u94 :: u95 :: u96 :: u97 :: u98 :: u99 :: u100 :: u101 :: u102 :: u103 :: u104 :: u105 :: u106 :: u107 :: u108 :: u109 :: u110 :: u111 :: u112 :: u113 :: u114 :: u115 :: u116 :: u117 :: u118 :: u119 :: u120 :: u121 :: u122 :: u123 :: u124 :: u125 :: u126 :: u127 :: u128 :: u129 :: u130 :: u131 :: u132 :: u133 :: u134 :: u135 :: u136 :: u137 :: u138 :: u139 :: u140 :: u141 :: u142 :: u143 :: u144 :: u145 :: u146 :: u147 :: u148 :: u149 :: u150 :: u151 :: u152 :: u153 :: u154 :: u155 :: u156 :: u157 :: u158 :: u159 :: u160 :: u161 :: u162 :: u163 :: u164 :: u165 :: u166 :: u167 :: u168 :: u169 :: u170 :: u171 :: u172 :: u173 :: u174 :: u175 :: u176 :: u177 :: u178 :: u179 :: u180 :: u181 :: u182 :: u183 :: u184 :: u185 :: u186 :: u187 :: u188 :: u189 :: u190 :: u191 :: u192 :: u193 :: u194 :: u195 :: u196 :: u197 :: u198 :: u199 :: u200 :: u201 :: u202 :: u203 :: u204 :: u205 :: u206 :: u207 :: u208 :: u209 :: u210 :: u211 :: u212 :: u213 :: u214 :: u215 :: u216 :: u217 :: u218 :: u219 :: u220 :: u221 :: u222 :: u223 :: u224 :: u225 :: u226 :: u227 :: u228 :: u229 :: u230 :: u231 :: u232 :: u233 :: []), []⟩ wr := by
  conv => arg 2; whnf
  refine wp_region_noPanic ?_
  refine wp_region_held_drew (S := (fun w' => w'.cell? ⟨A0, 0, none⟩ = some (.string x1) ∧ w'.cell? ⟨bn, on + j * 3, none⟩ = some (.string x2) ∧ w'.cell? ⟨bn, on + n * 3, none⟩ = some (.string x3))) (by kernel_rfl) (HS.out _ (Below.refl _ _).drew) (fun hH => ?_)
  refine take_at 0 198 (.pointer (some ⟨g, 0, none⟩)) ⟨_, rfl, rfl, Or.inl ⟨by rfl, fun w hSw => by obtain ⟨q1, q2, q3⟩ := hSw; go_simp⟩⟩ (by kernel_rfl) (by kernel_rfl) (by kernel_rfl) hH ?_
  simp only [List.setIfInBounds_toArray, List.set_cons_succ, List.set_cons_zero]
  refine take_at 1 199 (.pointer (some ⟨A0, 0, none⟩)) ⟨_, rfl, rfl, Or.inl ⟨by rfl, fun w hSw => by obtain ⟨q1, q2, q3⟩ := hSw; go_simp⟩⟩ (by kernel_rfl) (by kernel_rfl) (by kernel_rfl) hH ?_
  simp only [List.setIfInBounds_toArray, List.set_cons_succ, List.set_cons_zero]
  refine take_at 2 200 (.string x1) ⟨_, rfl, rfl, Or.inl ⟨by rfl, fun w hSw => by obtain ⟨q1, q2, q3⟩ := hSw; go_simp⟩⟩ (by kernel_rfl) (by kernel_rfl) (by kernel_rfl) hH ?_
  simp only [List.setIfInBounds_toArray, List.set_cons_succ, List.set_cons_zero]
  refine take_at 3 201 (.slice (some ⟨bn, on, none⟩) ln cap) ⟨_, rfl, rfl, Or.inl ⟨by rfl, fun w hSw => by obtain ⟨q1, q2, q3⟩ := hSw; go_simp⟩⟩ (by kernel_rfl) (by kernel_rfl) (by kernel_rfl) hH ?_
  simp only [List.setIfInBounds_toArray, List.set_cons_succ, List.set_cons_zero]
  refine take_at 4 202 (.int .i64 (j : Int)) ⟨_, rfl, rfl, Or.inl ⟨by rfl, fun w hSw => by obtain ⟨q1, q2, q3⟩ := hSw; go_simp⟩⟩ (by kernel_rfl) (by kernel_rfl) (by kernel_rfl) hH ?_
  simp only [List.setIfInBounds_toArray, List.set_cons_succ, List.set_cons_zero]
  refine take_at 5 203 (.pointer (some ⟨bn, on + j * 3, none⟩)) ⟨_, rfl, rfl, Or.inl ⟨by rfl, fun w hSw => by obtain ⟨q1, q2, q3⟩ := hSw; go_simp⟩⟩ (by kernel_rfl) (by kernel_rfl) (by kernel_rfl) hH ?_
  simp only [List.setIfInBounds_toArray, List.set_cons_succ, List.set_cons_zero]
  refine take_at 6 204 (.pointer (some ⟨bn, on + j * 3, none⟩)) ⟨_, rfl, rfl, Or.inl ⟨by rfl, fun w hSw => by obtain ⟨q1, q2, q3⟩ := hSw; go_simp⟩⟩ (by kernel_rfl) (by kernel_rfl) (by kernel_rfl) hH ?_
  simp only [List.setIfInBounds_toArray, List.set_cons_succ, List.set_cons_zero]
  refine take_at 7 205 (.string x2) ⟨_, rfl, rfl, Or.inl ⟨by rfl, fun w hSw => by obtain ⟨q1, q2, q3⟩ := hSw; go_simp⟩⟩ (by kernel_rfl) (by kernel_rfl) (by kernel_rfl) hH ?_
  simp only [List.setIfInBounds_toArray, List.set_cons_succ, List.set_cons_zero]
  refine wpAnyH_ready (rs := [8]) (by kernel_rfl) (by simp) ?_
  refine AllReadyH.cons rfl (fun K hK => ?_) AllReadyH.nil
  go_simp
  refine (I1.out _ (Below.refl _ _).drew).mono ?_
  rintro e w14 ⟨rfl, hb14⟩
  have D1 := Hid.intro (Below.trans (Below.refl wr.heap.size wr).drew hb14)
  clear hb14
  go_wp2_with fail
  refine hK.out _ _ (HS.out _ D1.out) (fun hH1 => ?_)
  clear hK K
  refine take_at 9 207 (.bool true) ⟨_, rfl, rfl, Or.inl ⟨by rfl, fun w hSw => by obtain ⟨q1, q2, q3⟩ := hSw; go_simp⟩⟩ (by kernel_rfl) (by kernel_rfl) (by kernel_rfl) hH1 ?_
  simp only [List.setIfInBounds_toArray, List.set_cons_succ, List.set_cons_zero]
  refine take_at 10 208 (.pointer (some ⟨g, 0, none⟩)) ⟨_, rfl, rfl, Or.inl ⟨by rfl, fun w hSw => by obtain ⟨q1, q2, q3⟩ := hSw; go_simp⟩⟩ (by kernel_rfl) (by kernel_rfl) (by kernel_rfl) hH1 ?_
  simp only [List.setIfInBounds_toArray, List.set_cons_succ, List.set_cons_zero]
  refine take_at 11 209 (.slice (some ⟨bn, on, none⟩) ln cap) ⟨_, rfl, rfl, Or.inl ⟨by rfl, fun w hSw => by obtain ⟨q1, q2, q3⟩ := hSw; go_simp⟩⟩ (by kernel_rfl) (by kernel_rfl) (by kernel_rfl) hH1 ?_
  simp only [List.setIfInBounds_toArray, List.set_cons_succ, List.set_cons_zero]
  refine take_at 12 210 (.int .i64 (j : Int)) ⟨_, rfl, rfl, Or.inl ⟨by rfl, fun w hSw => by obtain ⟨q1, q2, q3⟩ := hSw; go_simp⟩⟩ (by kernel_rfl) (by kernel_rfl) (by kernel_rfl) hH1 ?_
  simp only [List.setIfInBounds_toArray, List.set_cons_succ, List.set_cons_zero]
  refine take_at 13 211 (.pointer (some ⟨bn, on + j * 3, none⟩)) ⟨_, rfl, rfl, Or.inl ⟨by rfl, fun w hSw => by obtain ⟨q1, q2, q3⟩ := hSw; go_simp⟩⟩ (by kernel_rfl) (by kernel_rfl) (by kernel_rfl) hH1 ?_
  simp only [List.setIfInBounds_toArray, List.set_cons_succ, List.set_cons_zero]
  refine take_at 14 212 (.pointer (some ⟨bn, on + j * 3, none⟩)) ⟨_, rfl, rfl, Or.inl ⟨by rfl, fun w hSw => by obtain ⟨q1, q2, q3⟩ := hSw; go_simp⟩⟩ (by kernel_rfl) (by kernel_rfl) (by kernel_rfl) hH1 ?_
  simp only [List.setIfInBounds_toArray, List.set_cons_succ, List.set_cons_zero]
  refine take_at 15 213 (.string x2) ⟨_, rfl, rfl, Or.inl ⟨by rfl, fun w hSw => by obtain ⟨q1, q2, q3⟩ := hSw; go_simp⟩⟩ (by kernel_rfl) (by kernel_rfl) (by kernel_rfl) hH1 ?_
  simp only [List.setIfInBounds_toArray, List.set_cons_succ, List.set_cons_zero]
  refine take_at 16 214 (.slice (some ⟨bn, on, none⟩) ln cap) ⟨_, rfl, rfl, Or.inl ⟨by rfl, fun w hSw => by obtain ⟨q1, q2, q3⟩ := hSw; go_simp⟩⟩ (by kernel_rfl) (by kernel_rfl) (by kernel_rfl) hH1 ?_
  simp only [List.setIfInBounds_toArray, List.set_cons_succ, List.set_cons_zero]
  refine take_at 17 215 (.int .i64 (n : Int)) ⟨_, rfl, rfl, Or.inl ⟨by rfl, fun w hSw => by obtain ⟨q1, q2, q3⟩ := hSw; go_simp⟩⟩ (by kernel_rfl) (by kernel_rfl) (by kernel_rfl) hH1 ?_
  simp only [List.setIfInBounds_toArray, List.set_cons_succ, List.set_cons_zero]
  refine take_at 18 216 (.pointer (some ⟨bn, on + n * 3, none⟩)) ⟨_, rfl, rfl, Or.inl ⟨by rfl, fun w hSw => by obtain ⟨q1, q2, q3⟩ := hSw; go_simp⟩⟩ (by kernel_rfl) (by kernel_rfl) (by kernel_rfl) hH1 ?_
  simp only [List.setIfInBounds_toArray, List.set_cons_succ, List.set_cons_zero]
  refine take_at 19 217 (.pointer (some ⟨bn, on + n * 3, none⟩)) ⟨_, rfl, rfl, Or.inl ⟨by rfl, fun w hSw => by obtain ⟨q1, q2, q3⟩ := hSw; go_simp⟩⟩ (by kernel_rfl) (by kernel_rfl) (by kernel_rfl) hH1 ?_
  simp only [List.setIfInBounds_toArray, List.set_cons_succ, List.set_cons_zero]
  refine take_at 20 218 (.string x3) ⟨_, rfl, rfl, Or.inl ⟨by rfl, fun w hSw => by obtain ⟨q1, q2, q3⟩ := hSw; go_simp⟩⟩ (by kernel_rfl) (by kernel_rfl) (by kernel_rfl) hH1 ?_
  simp only [List.setIfInBounds_toArray, List.set_cons_succ, List.set_cons_zero]
  refine wpAnyH_ready (rs := [21]) (by kernel_rfl) (by simp) ?_
  refine AllReadyH.cons rfl (fun K hK => ?_) AllReadyH.nil
  go_simp
  refine (I2.out _ D1.out).mono ?_
  rintro e w15 ⟨rfl, hb15⟩
  have D2 := Hid.intro (hb15.via D1.out)
  clear hb15
  go_wp2_with fail
  refine hK.out _ _ (HS.out _ D2.out) (fun hH2 => ?_)
  clear hK K
  refine take_at 22 220 (.bool false) ⟨_, rfl, rfl, Or.inl ⟨by rfl, fun w hSw => by obtain ⟨q1, q2, q3⟩ := hSw; go_simp⟩⟩ (by kernel_rfl) (by kernel_rfl) (by kernel_rfl) hH2 ?_
  simp only [List.setIfInBounds_toArray, List.set_cons_succ, List.set_cons_zero]
  refine take_at 23 221 (.bool false) ⟨_, rfl, rfl, Or.inl ⟨by rfl, fun w hSw => by obtain ⟨q1, q2, q3⟩ := hSw; go_simp⟩⟩ (by kernel_rfl) (by kernel_rfl) (by kernel_rfl) hH2 ?_
  simp only [List.setIfInBounds_toArray, List.set_cons_succ, List.set_cons_zero]
  refine take_at 24 222 undef ⟨_, rfl, rfl, Or.inr ⟨by rfl, rfl⟩⟩ (by kernel_rfl) (by kernel_rfl) (by kernel_rfl) hH2 ?_
  simp only [List.setIfInBounds_toArray, List.set_cons_succ, List.set_cons_zero]
  refine take_at 25 223 undef ⟨_, rfl, rfl, Or.inr ⟨by rfl, rfl⟩⟩ (by kernel_rfl) (by kernel_rfl) (by kernel_rfl) hH2 ?_
  simp only [List.setIfInBounds_toArray, List.set_cons_succ, List.set_cons_zero]
  refine take_at 26 224 undef ⟨_, rfl, rfl, Or.inr ⟨by rfl, rfl⟩⟩ (by kernel_rfl) (by kernel_rfl) (by kernel_rfl) hH2 ?_
  simp only [List.setIfInBounds_toArray, List.set_cons_succ, List.set_cons_zero]
  refine take_at 27 225 undef ⟨_, rfl, rfl, Or.inr ⟨by rfl, rfl⟩⟩ (by kernel_rfl) (by kernel_rfl) (by kernel_rfl) hH2 ?_
  simp only [List.setIfInBounds_toArray, List.set_cons_succ, List.set_cons_zero]
  refine take_at 28 226 undef ⟨_, rfl, rfl, Or.inr ⟨by rfl, rfl⟩⟩ (by kernel_rfl) (by kernel_rfl) (by kernel_rfl) hH2 ?_
  simp only [List.setIfInBounds_toArray, List.set_cons_succ, List.set_cons_zero]
  refine take_at 29 227 undef ⟨_, rfl, rfl, Or.inr ⟨by rfl, rfl⟩⟩ (by kernel_rfl) (by kernel_rfl) (by kernel_rfl) hH2 ?_
  simp only [List.setIfInBounds_toArray, List.set_cons_succ, List.set_cons_zero]
  refine take_at 30 228 undef ⟨_, rfl, rfl, Or.inr ⟨by rfl, rfl⟩⟩ (by kernel_rfl) (by kernel_rfl) (by kernel_rfl) hH2 ?_
  simp only [List.setIfInBounds_toArray, List.set_cons_succ, List.set_cons_zero]
  refine take_at 31 229 undef ⟨_, rfl, rfl, Or.inr ⟨by rfl, rfl⟩⟩ (by kernel_rfl) (by kernel_rfl) (by kernel_rfl) hH2 ?_
  simp only [List.setIfInBounds_toArray, List.set_cons_succ, List.set_cons_zero]
  refine take_at 32 230 undef ⟨_, rfl, rfl, Or.inr ⟨by rfl, rfl⟩⟩ (by kernel_rfl) (by kernel_rfl) (by kernel_rfl) hH2 ?_
  simp only [List.setIfInBounds_toArray, List.set_cons_succ, List.set_cons_zero]
  refine take_at 33 231 undef ⟨_, rfl, rfl, Or.inr ⟨by rfl, rfl⟩⟩ (by kernel_rfl) (by kernel_rfl) (by kernel_rfl) hH2 ?_
  simp only [List.setIfInBounds_toArray, List.set_cons_succ, List.set_cons_zero]
  refine take_at 34 232 (.bool false) ⟨_, rfl, rfl, Or.inl ⟨by rfl, fun w hSw => by obtain ⟨q1, q2, q3⟩ := hSw; go_simp⟩⟩ (by kernel_rfl) (by kernel_rfl) (by kernel_rfl) hH2 ?_
  simp only [List.setIfInBounds_toArray, List.set_cons_succ, List.set_cons_zero]
  refine wpAnyH_done (by kernel_rfl) ?_ _
  refine NoPanic.normal ?_
  exact hQ.out _ _ _ _ _ _ _ _ _ _ _ _ _ _ _ _ _ _ _ _ _ _ _ _ _ _ _ _ _ _ _ _ _ _ _ D2.out

set_option maxRecDepth 1000000 in
set_option maxHeartbeats 4000000 in
theorem reg36C (g A0 bn on ln cap j n : Nat) (wr : World) (x1 x2 x3 : ByteArray) (u1 u2 u4 u5 u7 u8 u9 u10 u11 u12 u13 u14 u15 u16 u17 u20 u21 u22 u23 u24 u25 u26 u27 u28 u29 u30 u31 u32 u33 u34 u35 u36 u37 u38 u39 u40 u41 u42 u43 u44 u45 u46 u47 u48 u49 u50 u51 u52 u53 u54 u55 u56 u57 u58 u59 u60 u61 u62 u63 u64 u65 u66 u67 u68 u69 u70 u71 u72 u73 u74 u75 u76 u77 u78 u79 u80 u81 u82 u83 u84 u85 u86 u87 u88 u89 u90 u91 u92 u93 u94 u95 u96 u97 u98 u99 u100 u101 u102 u103 u104 u105 u106 u107 u108 u109 u110 u111 u112 u113 u114 u115 u116 u117 u118 u119 u120 u121 u122 u123 u124 u125 u126 u127 u128 u129 u130 u131 u132 u133 u134 u135 u136 u137 u138 u139 u140 u141 u142 u143 u144 u145 u146 u147 u148 u149 u150 u151 u152 u153 u154 u155 u156 u157 u158 u159 u160 u161 u162 u163 u164 u165 u166 u167 u168 u169 u170 u171 u172 u173 u174 u175 u176 u177 u178 u179 u180 u181 u182 u183 u184 u185 u186 u187 u188 u189 u190 u191 u192 u193 u194 u195 u196 u197 u198 u199 u200 u201 u202 u203 u204 u205 u206 u207 u208 u209 u210 u211 u212 u213 u214 u215 u216 u217 u218 u219 u220 u221 u222 u223 u224 u225 u226 u227 u228 u229 u230 u231 u232 u233 : Value) (Q : Exit → Act → World → Prop)
    (HS : Hid (∀ w', Below wr.heap.size wr w' → w'.cell? ⟨A0, 0, none⟩ = some (.string x1) ∧ w'.cell? ⟨bn, on + j * 3, none⟩ = some (.string x2) ∧ w'.cell? ⟨bn, on + n * 3, none⟩ = some (.string x3)))
    (hjt1 : (j : Int) < (ln : Int)) (hnt1 : (n : Int) < (ln : Int)) (j0 : (0 : Int) ≤ (j : Int)) (n0 : (0 : Int) ≤ (n : Int))
    (I1 : Hid (∀ w', Below wr.heap.size wr w' → Calls Try.prog 14 #[.pointer (some ⟨g, 0, none⟩), .string x1, .string x2] w' fun e w'' => e = .returned (.bool true) ∧ Below w'.heap.size w' w''))
    (I2 : Hid (∀ w', Below wr.heap.size wr w' → Calls Try.prog 14 #[.pointer (some ⟨g, 0, none⟩), .string x2, .string x3] w' fun e w'' => e = .returned (.bool true) ∧ Below w'.heap.size w' w''))
    (I3 : Hid (∀ w', Below wr.heap.size wr w' → Calls Try.prog 14 #[.pointer (some ⟨g, 0, none⟩), .string x1, .string x3] w' fun e w'' => e = .returned (.bool true) ∧ Below w'.heap.size w' w''))
    (hQ : Hid (∀ (y198 y199 y200 y201 y202 y203 y204 y205 y206 y207 y208 y209 y210 y211 y212 y213 y214 y215 y216 y217 y218 y219 y220 y221 y222 y223 y224 y225 y226 y227 y228 y229 y230 y231 : Value) (wx : World), Below wr.heap.size wr wx → Q .normal ⟨List.toArray ((.slice (some ⟨bn, on, none⟩) ln cap) :: u1 :: u2 :: (.pointer (some ⟨g, 0, none⟩)) :: u4 :: u5 :: (.pointer (some ⟨A0, 0, none⟩)) :: u7 :: u8 :: u9 :: u10 :: u11 :: u12 :: u13 :: u14 :: u15 :: u16 :: u17 :: (.int .i64 (j : Int)) :: (.int .i64 (n : Int)) :: u20 :: u21 :: u22 :: u23 :: u24 :: u25 :: u26 :: u27 :: u28 :: u29 :: u30 :: u31 :: u32 :: u33 :: u34 :: u35 :: u36 :: u37 :: u38 :: u39 :: u40 :: u41 :: u42 :: u43 :: u44 :: u45 :: u46 :: u47 :: u48 :: u49 :: u50 :: u51 :: u52 :: u53 :: u54 :: u55 :: u56 :: u57 :: u58 :: u59 :: u60 :: u61 :: u62 :: u63 :: u64 :: u65 :: u66 :: u67 :: u68 :: u69 :: u70 :: u71 :: u72 :: u73 :: u74 :: u75 :: u76 :: u77 :: u78 :: u79 :: u80 :: u81 :: u82 :: u83 :: u84 :: u85 :: u86 :: u87 :: u88 :: u89 :: u90 :: u91 :: u92 :: u93 :: u94 :: u95 :: u96 :: u97 :: u98 :: u99 :: u100 :: u101 :: u102 :: u103 :: u104 :: u105 :: u106 :: u107 :: u108 :: u109 :: u110 :: u111 :: u112 :: u113 :: u114 :: u115 :: u116 :: u117 :: u118 :: u119 :: u120 :: u121 :: u122 :: u123 :: u124 :: u125 :: u126 :: u127 :: u128 :: u129 :: u130 :: u131 :: u132 :: u133 :: u134 :: u135 :: u136 :: u137 :: u138 :: u139 :: u140 :: u141 :: u142 :: u143 :: u144 :: u145 :: u146 :: u147 :: u148 :: u149 :: u150 :: u151 :: u152 :: u153 :: u154 :: u155 :: u156 :: u157 :: u158 :: u159 :: u160 :: u161 :: u162 :: u163 :: u164 :: u165 :: u166 :: u167 :: u168 :: u169 :: u170 :: u171 :: u172 :: u173 :: u174 :: u175 :: u176 :: u177 :: u178 :: u179 :: u180 :: u181 :: u182 :: u183 :: u184 :: u185 :: u186 :: u187 :: u188 :: u189 :: u190 :: u191 :: u192 :: u193 :: u194 :: u195 :: u196 :: u197 :: y198 :: y199 :: y200 :: y201 :: y202 :: y203 :: y204 :: y205 :: y206 :: y207 :: y208 :: y209 :: y210 :: y211 :: y212 :: y213 :: y214 :: y215 :: y216 :: y217 :: y218 :: y219 :: y220 :: y221 :: y222 :: y223 :: y224 :: y225 :: y226 :: y227 :: y228 :: y229 :: y230 :: y231 :: (.bool false) :: u233 :: []), []⟩ wx)) :
    Code.wp Try.prog ((Try.f5.body.bind (rgn 36)).getD .skip) Q ⟨List.toArray ((.slice (some ⟨bn, on, none⟩) ln cap) :: u1 :: u2 :: (.pointer (some ⟨g, 0, none⟩)) :: u4 :: u5 :: (.pointer (some ⟨A0, 0, none⟩)) :: u7 :: u8 :: u9 :: u10 :: u11 :: u12 :: u13 :: u14 :: u15 :: u16 :: u17 :: (.int .i64 (j : Int)) :: (.int .i64 (n : Int)) :: u20 :: u21 :: u22 :: u23 :: u24 :: u25 :: u26 :: u27 :: u28 :: u29 :: u30 :: u31 :: u32 :: u33 :: u34 :: u35 :: u36 :: u37 :: u38 :: u39 :: u40 :: u41 :: u42 :: u43 :: u44 :: u45 :: u46 :: u47 :: u48 :: u49 :: u50 :: u51 :: u52 :: u53 :: u54 :: u55 :: u56 :: u57 :: u58 :: u59 :: u60 :: u61 :: u62 :: u63 :: u64 :: u65 :: u66 :: u67 :: u68 :: u69 :: u70 :: u71 :: u72 :: u73 :: u74 :: u75 :: u76 :: u77 :: u78 :: u79 :: u80 :: u81 :: u82 :: u83 :: u84 :: u85 :: u86 :: u87 :: u88 :: u89 :: u90 :: u91 :: u92 :: u93 :: u94 :: u95 :: u96 :: u97 :: u98 :: u99 :: u100 :: u101 :: u102 :: u103 :: u104 :: u105 :: u106 :: u107 :: u108 :: u109 :: u110 :: u111 :: u112 :: u113 :: u114 :: u115 :: u116 :: u117 :: u118 :: u119 :: u120 :: u121 :: u122 :: u123 :: u124 :: u125 :: u126 :: u127 :: u128 :: u129 :: u130 :: u131 :: u132 :: u133 :: u134 :: u135 :: u136 :: u137 :: u138 :: u139 :: u140 :: u141 :: u142 :: u143 :: u144 :: u145 :: u146 :: u147 :: u148 :: u149 :: u150 :: u151 :: u152 :: u153 :: u154 :: u155 :: u156 :: u157 :: u158 :: u159 :: u160 :: u161 :: u162 :: u163 :: u164 :: u165 :: u166 :: u167 :: u168 :: u169 :: u170 :: u171 :: u172 :: u173 :: u174 :: u175 :: u176 :: u177 :: u178 :: u179 :: u180 :: u181 :: u182 :: u183 :: u184 :: u185 :: u186 :: u187 :: u188 :: u189 :: u190 :: u191 :: u192 :: u193 :: u194 :: u195 :: u196 :: u197 :: u198 :: u199 :: u200 :: u201 :: u202 :: u203 :: u204 :: u205 :: u206 :: u207 :: u208 :: u209 :: u210 :: u211 :: u212 :: u213 :: u214 :: u215 :: u216 :: u217 :: u218 :: u219 :: u220 :: u221 :: u222 :: u223 :: u224 :: u225 :: u226 :: u227 :: u228 :: u229 :: u230 :: u231 :: u232 :: u233 :: []), []⟩ wr := by
  conv => arg 2; whnf
  go_region_held3 (fun w' => w'.cell? ⟨A0, 0, none⟩ = some (.string x1) ∧ w'.cell? ⟨bn, on + j * 3, none⟩ = some (.string x2) ∧ w'.cell? ⟨bn, on + n * 3, none⟩ = some (.string x3)) ((first | (with_reducible exact HS.out _ D3.out) | (with_reducible exact HS.out _ D2.out) | (with_reducible exact HS.out _ D1.out) | exact HS.out _ (Below.refl _ _).drew)) ((first | (go_at_call_of 14 (Value.string x1); go_at_call_of 14 (Value.string x2); refine (I1.out _ (Below.refl _ _).drew).mono ?_; rintro e w14 ⟨rfl, hb14⟩; have D1 := Hid.intro (Below.trans (Below.refl wr.heap.size wr).drew hb14); clear hb14) | (go_at_call_of 14 (Value.string x2); go_at_call_of 14 (Value.string x3); refine (I2.out _ D1.out).mono ?_; rintro e w15 ⟨rfl, hb15⟩; have D2 := Hid.intro (hb15.via D1.out); clear hb15) | (go_at_call_of 14 (Value.string x1); go_at_call_of 14 (Value.string x3); refine (I3.out _ D2.out).mono ?_; rintro e w16 ⟨rfl, hb16⟩; have D3 := Hid.intro (hb16.via D2.out); clear hb16)))
  exact hQ.out _ _ _ _ _ _ _ _ _ _ _ _ _ _ _ _ _ _ _ _ _ _ _ _ _ _ _ _ _ _ _ _ _ _ _ D3.out
  

end Go.Proofs.Ytbfnlnjnaepiiaa
