/-
  SEAT Ytadlkikjfonkgaa: Vl, Xy.
-/
import Derived.Test.YtadlkikjfonkgaaQbf
import Derived.Test.YtadlkikjfonkgaaQba
import Derived.Test.YtadlkikjfonkgaaQbc
import Derived.Maps.AppendAt
import Derived.Test.YtadlkikjfonkgaaQa
import Derived.Test.YtadlkikjfonkgaaQs
import Derived.Test.YtadlkikjfonkgaaQbe
import Derived.Test.YtadlkikjfonkgaaQx
namespace Go.Proofs.Ytadlkikjfonkgaa
open Go.RowKit Go.Conc
set_option linter.unusedVariables false
set_option maxRecDepth 100000
set_option maxHeartbeats 4000000
variable {U v' w w' : World} {cn mn g c B g1 g2 k : Nat} {zs : List Int} {ms : List Bool} {f16 f5 f9 : Option Nat} {f4 f10 : Option (Nat × Nat)} {f8 : Option Value} {y : Value} {o : Oper} {a : Act} {K : Act → World → Prop} {Q : Exit → Act → World → Prop} {x : Array Edge} {ps : String} {P S : Int} {G H : Nat → Prop}
structure RLd (w w' : World) (B P S : Int) (cn mn : Nat) (zs : List Int) (ms : List Bool) (fs : List Fc) (sa : Option Addr) (n : Nat) (e : Ending) : Prop where
 no : LoadE B P S cn mn fs ≠ 0 → e = .returned (.tuple #[.pointer none, .int .i64 (LoadE B P S cn mn fs)])
 yes : LoadE B P S cn mn fs = 0 → ∃ p, e = .returned (.tuple #[.pointer (some ⟨p, 0, none⟩), .int .i64 0]) ∧ ∃ x rs, RAt w w' p (Nws w w') (loadC B.toNat P.toNat S.toNat zs ms (fs.map Fc.t)) fs x rs ∧ x.fa = sa ∧ x.fn = n
 bel : Below w.heap.size w w'
theorem rLoad_any (w : World) (B P S : Int) (ca : Option Addr) (cn cc : Nat) (hcc : cn ≤ cc) (zs : List Int) (hZ : Reads w ca cn zs) (ma : Option Addr) (mn mc : Nat) (ms : List Bool) (hM : ReadsB w ma mn ms) (sa : Option Addr) (n c : Nat) (fs : List Fc) (hF : ReadsF w sa n fs) (hn : n ≤ 9223372036854775807) :
  Calls Try.prog 39 #[.agg #[.int .i64 B, .int .i64 P, .int .i64 S, .slice ca cn cc, .slice ma mn mc], .slice sa n c] w fun e w' => RLd w w' B P S cn mn zs ms fs sa n e := by
 cases hf : Fits B P S with
 | false =>
  have e1 : LoadE B P S cn mn fs = 47 := by simp [LoadE, hf]
  refine (rload_fit w B P S hf ca cn cc ma mn mc sa n c).mono ?_
  rintro e w' ⟨rfl, hb⟩
  exact ⟨fun _ => by rw [e1], fun h => by (rw [e1] at h; cases h), hb⟩
 | true =>
  have h0 := of_decide_eq_true hf
  obtain ⟨B', rfl⟩ : ∃ b : Nat, B = b := ⟨B.toNat, by omega⟩
  obtain ⟨P', rfl⟩ : ∃ b : Nat, P = b := ⟨P.toNat, by omega⟩
  obtain ⟨S', rfl⟩ : ∃ b : Nat, S = b := ⟨S.toNat, by omega⟩
  by_cases h1 : cn = B' * P' * pgB S'
  ·by_cases h2 : mn = B'
   ·cases hs : faultsB fs with
    | false =>
     have e1 : LoadE B' P' S' cn mn fs = 48 := by simp only [LoadE, hf, hs, Int.toNat_natCast, h1, h2]; simp
     refine (rload_flt w B' P' S' hf ca cn cc ma mn mc sa n c h1 h2 fs hF hn hs).mono ?_
     rintro e w' ⟨rfl, hb'⟩
     exact ⟨fun _ => by rw [e1], fun h => by (rw [e1] at h; cases h), hb'⟩
    | true =>
     have e1 : LoadE B' P' S' cn mn fs = 0 := by simp only [LoadE, hf, hs, Int.toNat_natCast, h1, h2]; simp
     refine (rload_ok w B' P' S' hf ca cn cc ma mn mc sa n c h1 hcc h2 zs hZ ms hM fs hF hn hs).mono ?_
     rintro e w' ⟨p, rfl, hc, hb'⟩
     exact ⟨fun h => absurd e1 h, fun _ => ⟨p, rfl, hc⟩, hb'⟩
   ·have e1 : LoadE B' P' S' cn mn fs = 47 := by simp only [LoadE, hf, Int.toNat_natCast, h1]; simp [h2]
    refine (rload_marks w B' P' S' hf ca cn cc ma mn mc sa n c h1 h2).mono ?_
    rintro e w' ⟨rfl, hb'⟩
    exact ⟨fun _ => by rw [e1], fun h => by (rw [e1] at h; cases h), hb'⟩
  ·have e1 : LoadE B' P' S' cn mn fs = 47 := by simp only [LoadE, hf, Int.toNat_natCast]; simp [h1]
   refine (rload_cells w B' P' S' hf ca cn cc ma mn mc sa n c h1).mono ?_
   rintro e w' ⟨rfl, hb'⟩
   exact ⟨fun _ => by rw [e1], fun h => by (rw [e1] at h; cases h), hb'⟩
theorem info4b2 : (Try.prog.info? 4).map (fun i => (i.zero, i.size, i.bytes)) = some (some (.bool false), 1, 1) := by kernel_rfl
structure Ev (U v : World) (cn mn : Nat) (zs : List Int) (ms : List Bool) (f16 f5 f9 : Option Nat) (f4 f10 : Option (Nat × Nat)) (f8 : Option Value) : Prop where
 bel : Below U.heap.size U v
 x16 : ∀ q, f16 = some q → v.heap[q]? = some (.cells #[.int .i64 0, .int .i64 0, .int .i64 0, .slice none 0 0, .slice none 0 0] 27 (0, 0)) ∧ U.heap.size ≤ q
 x4 : ∀ g c, f4 = some (g, c) → Own v U.heap.size g (cn + 3) c (zs ++ [161, 178, 195])
 x5 : ∀ e, f5 = some e → v.ownsRow U.heap.size 4 1 (.slice (some ⟨e, 0, none⟩) 0 0) 0 []
 x9 : ∀ e, f9 = some e → v.heap[e]? = some (.cells #[.bool true] 4 (0, 0)) ∧ f5 ≠ some e ∧ ∀ y, f8 = some y → y.ownBlock ≠ some e
 x8 : ∀ y, f8 = some y → v.ownsRow U.heap.size 4 1 y mn (ms.map Value.bool)
 x10 : ∀ g c, f10 = some (g, c) → v.ownsRow U.heap.size 4 1 (.slice (some ⟨g, 0, none⟩) (mn + 1) c) (mn + 1) (ms.map Value.bool ++ [.bool true])
theorem Ev.below {v : World} (h : Ev U v cn mn zs ms f16 f5 f9 f4 f10 f8) (hb : Below v.heap.size v v') : Ev U v' cn mn zs ms f16 f5 f9 f4 f10 f8 :=
 ⟨below_trans h.bel hb, fun q e => ⟨(hb.block _ (lt_of_block (h.x16 q e).1)).trans (h.x16 q e).1, (h.x16 q e).2⟩, fun g c e => owns_bel (h.x4 g c e) hb, fun g e => owns_bel (h.x5 g e) hb, fun g e => ⟨(hb.block _ (lt_of_block (h.x9 g e).1)).trans (h.x9 g e).1, (h.x9 g e).2⟩, fun y e => owns_bel (h.x8 y e) hb, fun g c e => owns_bel (h.x10 g c e) hb⟩
theorem Ev.a16 {v : World} (h : Ev U v cn mn zs ms none f5 f9 f4 f10 f8) : Ev U (v.alloc (.cells #[.int .i64 0, .int .i64 0, .int .i64 0, .slice none 0 0, .slice none 0 0] 27)) cn mn zs ms (some v.heap.size) f5 f9 f4 f10 f8 := by
 have h1 := h.below (below_alloc v (.cells #[.int .i64 0, .int .i64 0, .int .i64 0, .slice none 0 0, .slice none 0 0] 27))
 exact ⟨h1.bel, fun q e => by cases e; exact ⟨alloc_new v _, h.bel.size⟩, h1.x4, h1.x5, h1.x9, h1.x8, h1.x10⟩
theorem Ev.a5 {v : World} (h : Ev U v cn mn zs ms f16 none f9 f4 f10 f8) : Ev U (v.alloc (.cells #[] 4)) cn mn zs ms f16 (some v.heap.size) f9 f4 f10 f8 := by
 have h1 := h.below (below_alloc v (.cells #[] 4))
 exact ⟨h1.bel, h1.x16, h1.x4, fun g e => by cases e; exact ⟨rfl, Or.inr ⟨_, 0, #[], rfl, h.bel.size, alloc_new v _, Nat.le_refl _, Nat.zero_le _, rfl, rfl⟩⟩, fun g e => ⟨(h1.x9 g e).1, (fun e2 => by have h2 := lt_of_block (h.x9 g e).1; have h3 : v.heap.size = g := Option.some.inj e2; omega), (h1.x9 g e).2.2⟩, h1.x8, h1.x10⟩
theorem Ev.a9 {v : World} (h : Ev U v cn mn zs ms f16 f5 none f4 f10 f8) : Ev U (v.alloc (.cells #[.bool true] 4)) cn mn zs ms f16 f5 (some v.heap.size) f4 f10 f8 := by
 have h1 := h.below (below_alloc v (.cells #[.bool true] 4))
 refine ⟨h1.bel, h1.x16, h1.x4, h1.x5, fun g e => ?_, h1.x8, h1.x10⟩
 cases e
 refine ⟨alloc_new v _, fun e2 => ?_, fun y e2 e3 => ?_⟩
 ·have h2 := ((h.x5 _ e2).lt v.heap.size rfl).2
  omega
 ·have h2 := ((h.x8 _ e2).lt v.heap.size e3).2
  omega
theorem Ev.c4 {v : World} (h : Ev U v cn mn zs ms f16 f5 f9 none f10 f8) (hb : Below v.heap.size v v') (ho : Own v' v.heap.size g (cn + 3) c (zs ++ [161, 178, 195])) : Ev U v' cn mn zs ms f16 f5 f9 (some (g, c)) f10 f8 := by
 have h1 := h.below hb
 exact ⟨h1.bel, h1.x16, fun g c e => by cases e; exact own_mono ho h.bel.size, h1.x5, h1.x9, h1.x8, h1.x10⟩
theorem Ev.grow {v : World} {m : Nat} {xs : List Value} (h : Ev U v cn mn zs ms f16 f5 f9 f4 f10 f8) (hy : v.ownsRow U.heap.size 4 1 y m xs) (hg : v.grownBy v' y.ownBlock) : Below U.heap.size U v' ∧ (∀ q, f16 = some q → v'.heap[q]? = some (.cells #[.int .i64 0, .int .i64 0, .int .i64 0, .slice none 0 0, .slice none 0 0] 27 (0, 0)) ∧ U.heap.size ≤ q) ∧ (∀ g c, f4 = some (g, c) → Own v' U.heap.size g (cn + 3) c (zs ++ [161, 178, 195])) :=
 ⟨h.bel.grown hg h.bel.size (fun k hk => (hy.lt k hk).1), fun q e => ⟨box_grow (h.x16 q e).1 hy hg (by decide), (h.x16 q e).2⟩, fun g c e => own_grow (h.x4 g c e) hy hg (by decide)⟩
theorem Ev.c8 {v : World} (e0 : Nat) (h5 : f5 = some e0) (h : Ev U v cn mn zs ms f16 f5 f9 f4 f10 none) (ho : v'.ownsRow U.heap.size 4 1 y mn (ms.map Value.bool)) (hg : v.grownBy v' (some e0)) (hl : y.ownBlock = some e0 ∨ ∀ g, y.ownBlock = some g → v.heap.size ≤ g) (h10 : f10 = none) : Ev U v' cn mn zs ms f16 none f9 f4 f10 (some y) := by
 subst h10
 subst h5
 obtain ⟨h1, h2, h3⟩ := h.grow (h.x5 e0 rfl) hg
 refine ⟨h1, h2, h3, (fun e he => by cases he), fun e he => ⟨(hg.block e (lt_of_block (h.x9 e he).1) (fun e2 => (h.x9 e he).2.1 e2.symm)).trans (h.x9 e he).1, (fun e2 => by cases e2), fun z hz e3 => ?_⟩, (fun z hz => by cases hz; exact ho), (fun g c e => by cases e)⟩
 cases hz
 rcases hl with hl | hl
 ·rw [hl] at e3
  exact (h.x9 e he).2.1 e3
 ·have h4 := hl e e3
  have h5 := lt_of_block (h.x9 e he).1
  omega
theorem Ev.c10 {v : World} {e9 : Nat} (h : Ev U v cn mn zs ms f16 none (some e9) f4 none (some y)) (ho : v'.ownsRow U.heap.size 4 1 (.slice (some ⟨g, 0, none⟩) (mn + 1) c) (mn + 1) (ms.map Value.bool ++ [.bool true])) (hg : v.grownBy v' y.ownBlock) : Ev U v' cn mn zs ms f16 none none f4 (some (g, c)) none := by
 obtain ⟨h1, h2, h3⟩ := h.grow (h.x8 y rfl) hg
 exact ⟨h1, h2, h3, (fun e he => by cases he), (fun e he => by cases he), (fun e he => by cases he), fun g c e => by cases e; exact ho⟩
theorem wp_app8 (s x : Operand) (ho : o.op = .call { callee := .builtin .append, args := #[s, x], argTypes := #[25, 25] }) {B e0 mn mc : Nat} {ma : Option Addr} {ms : List Bool} (hown : w.ownsRow B 4 1 (.slice (some ⟨e0, 0, none⟩) 0 0) 0 []) (hM : ReadsB w ma mn ms) (hs : a.eval s = .slice (some ⟨e0, 0, none⟩) 0 0) (hx : a.eval x = .slice ma mn mc) (hmc : ma = none → mc = 0) (hmn : mn ≤ 140737488355000) (hB : B ≤ w.heap.size)
  (h : ∀ y w', w'.ownsRow B 4 1 y mn (ms.map Value.bool) → w.grownBy w' (some e0) → (y.ownBlock = some e0 ∨ ∀ g, y.ownBlock = some g → w.heap.size ≤ g) → K (a.put o.dst y) w') : o.wp Try.prog a w K Q := by
 obtain ⟨i0, hi, hz0, hz1, hz2⟩ := info_parts info4b2
 have hl := hM.1
 cases ma with
 | none =>
  have h0 : mn = 0 := hM.2.1 rfl
  subst h0
  have h1 : mc = 0 := hmc rfl
  subst h1
  have hms : ms = [] := List.eq_nil_of_length_eq_zero hl
  subst hms
  have hr := run_append_owned_none (P := Try.prog) w B 25 o.type 4 i0 1 Try.underlying25 hi _ 0 [] hown
  unfold Oper.wp execOp
  simp only [ho, resolve, invoke, builtin, Sem.run_bind, Sem.run_pure, Result.andThen_ok, List.map_toArray, List.map_cons, List.map_nil, hs, hx, hr]
  exact h _ w hown (World.grownBy.refl _ _) (Or.inl rfl)
 | some ad =>
  obtain ⟨v', w', hr, h2, h3, _, h5⟩ := run_append_own_at (P := Try.prog) w B 25 o.type 4 i0 (.bool false) 1 1 Try.underlying25 hi hz0 hz1 hz2 rfl (by decide) (.slice (some ⟨e0, 0, none⟩) 0 0) 0 [] hown ad mn mc (ms.map Value.bool) (by simp [hl]) (fun j u hj => by
    have hjl : j < ms.length := by have := (List.getElem?_eq_some_iff.1 hj).1; simpa using this
    rw [hM.2.2 ad rfl j (by omega)]
    rw [List.getElem?_map, List.getElem?_eq_getElem hjl] at hj
    rw [← hj, List.getD_eq_getElem?_getD, List.getElem?_eq_getElem hjl]
    rfl) (fun u hu => by obtain ⟨z, _, rfl⟩ := List.mem_map.1 hu; rfl) (by simp [maxLen]; omega) (by omega) hB
  rw [Nat.zero_add, List.nil_append] at h2
  unfold Oper.wp execOp
  simp only [ho, resolve, invoke, builtin, Sem.run_bind, Sem.run_pure, Result.andThen_ok, List.map_toArray, List.map_cons, List.map_nil, hs, hx, hr]
  exact h v' w' h2 h3 (h5.imp id (fun e g hg => by rw [e] at hg; cases hg; exact Nat.le_refl _))
theorem wp_app10 (B mn : Nat) {y : Value} {ms : List Bool} {e9 : Nat} (ho : o.op = .call { callee := .builtin .append, args := #[.tmp 28, .tmp 29], argTypes := #[25, 25] }) (hmn : mn ≤ 1048576) (hown : w.ownsRow B 4 1 y mn (ms.map Value.bool)) (hs : a.eval (.tmp 28) = y) (hx : a.eval (.tmp 29) = .slice (some ⟨e9, 0, none⟩) 1 1) (h9 : w.heap[e9]? = some (.cells #[.bool true] 4 (0, 0))) (hB : B ≤ w.heap.size)
  (h : ∀ g c w', w'.ownsRow B 4 1 (.slice (some ⟨g, 0, none⟩) (mn + 1) c) (mn + 1) (ms.map Value.bool ++ [.bool true]) → w.grownBy w' y.ownBlock → K (a.put o.dst (.slice (some ⟨g, 0, none⟩) (mn + 1) c)) w') : o.wp Try.prog a w K Q := by
 obtain ⟨i4, hA1, hA2, hA3, hA4⟩ := info_parts info4b2
 exact wp_append_lies _ (.tmp 28) (.tmp 29) 25 ho B 4 i4 (.bool false) 1 1 Try.underlying25 hA1 hA2 hA3 hA4 rfl (by decide) y mn (ms.map Value.bool) hs hown ⟨e9, 0, none⟩ 1 1 [.bool true] hx rfl (news1 h9) (by intro u hu; simp at hu; rw [hu]; rfl) (by decide) (by simp [maxLen]; omega) (by omega) hB _ rfl fun g c w' o g9 _ _ => h g c w' o g9
theorem front25 (u : World) (g n m c : Nat) (hc : n ≤ c) : (Instr.sliceAt 25 (.slice (some ⟨g, 0, none⟩) m c) none (some (.int .i64 (n : Int))) none).run Try.prog u = .ok (.slice (some ⟨g, 0, none⟩) n c) u := by
 have h1 : (n : Int) ≤ c := by omega
 have h3 : (0 : Int) ≤ n := by omega
 simp [go_sem]
 omega
theorem st5b {c0 c1 c2 c3 c4 : Value} {T : TypeId} (h : w.heap[g]? = some (.cells #[c0, c1, c2, c3, c4] T (0, 0))) (v0 v1 v2 v3 v4 : Value) : (((((w.setCell ⟨g, 0, none⟩ v0).setCell ⟨g, 1, none⟩ v1).setCell ⟨g, 2, none⟩ v2).setCell ⟨g, 3, none⟩ v3).setCell ⟨g, 4, none⟩ v4).heap[g]? = some (.cells #[v0, v1, v2, v3, v4] T (0, 0)) :=
 heap_setCell_same _ g 4 #[v0, v1, v2, v3, c4] T _ (heap_setCell_same _ g 3 #[v0, v1, v2, c3, c4] T _ (heap_setCell_same _ g 2 #[v0, v1, c2, c3, c4] T _ (heap_setCell_same _ g 1 #[v0, c1, c2, c3, c4] T _ (heap_setCell_same w g 0 _ T _ h))))
theorem on5b (w : World) (g : Nat) (v0 v1 v2 v3 v4 : Value) : Only (· = g) w (((((w.setCell ⟨g, 0, none⟩ v0).setCell ⟨g, 1, none⟩ v1).setCell ⟨g, 2, none⟩ v2).setCell ⟨g, 3, none⟩ v3).setCell ⟨g, 4, none⟩ v4) :=
 ((((Only.setCell (· = g) w g 0 v0 rfl).trans' (Only.setCell _ _ g 1 v1 rfl)).trans' (Only.setCell _ _ g 2 v2 rfl)).trans' (Only.setCell _ _ g 3 v3 rfl)).trans' (Only.setCell _ _ g 4 v4 rfl)
theorem st16 {t : TypeId} (h : K (a.put (some 8) (.pointer (some ⟨w.heap.size, 0, none⟩))) (w.alloc (.cells #[.int .i64 0, .int .i64 0, .int .i64 0, .slice none 0 0, .slice none 0 0] 27))) : Oper.wp Try.prog { dst := some 8, op := Op.alloc 27, type := t, pos := ps, after := x, guard := none } a w K Q := by
 go_simp
 go_wp2_with fail
 exact h
theorem st5 {t : TypeId} (h : K (a.put (some 25) (.slice (some ⟨w.heap.size, 0, none⟩) 0 0)) (w.alloc (.cells #[] 4))) : Oper.wp Try.prog { dst := some 25, op := Op.buildSlice 25 0 #[], type := t, pos := ps, after := x, guard := none } a w K Q := by
 go_simp
 go_wp2_with fail
 exact h
theorem st9 {t : TypeId} (h : K (a.put (some 29) (.slice (some ⟨w.heap.size, 0, none⟩) 1 1)) (w.alloc (.cells #[.bool true] 4))) : Oper.wp Try.prog { dst := some 29, op := Op.buildSlice 25 1 #[(0, Operand.const (Value.bool true))], type := t, pos := ps, after := x, guard := none } a w K Q := by
 go_simp
 go_wp2_with fail
 exact h
structure InR (U v : World) (B P S : Int) (cn mn : Nat) (zs : List Int) (ms : List Bool) (q g1 c1 g2 c2 : Nat) : Prop where
 box : v.heap[q]? = some (.cells #[.int .i64 B, .int .i64 P, .int .i64 S, .slice (some ⟨g1, 0, none⟩) cn c1, .slice (some ⟨g2, 0, none⟩) mn c2] 27 (0, 0))
 o1 : Own v U.heap.size g1 (cn + 3) c1 (zs ++ [161, 178, 195])
 o2 : v.ownsRow U.heap.size 4 1 (.slice (some ⟨g2, 0, none⟩) (mn + 1) c2) (mn + 1) (ms.map Value.bool ++ [.bool true])
 bel : Below U.heap.size U v
 ge : U.heap.size ≤ q
theorem Ev.store {v : World} {B : Int} {c1 c2 : Nat} (q : Nat) (hq0 : f16 = some q) (h : Ev U v cn mn zs ms f16 f5 f9 (some (g1, c1)) (some (g2, c2)) f8) : InR U (((((v.setCell ⟨q, 0, none⟩ (.int .i64 B)).setCell ⟨q, 1, none⟩ (.int .i64 P)).setCell ⟨q, 2, none⟩ (.int .i64 S)).setCell ⟨q, 3, none⟩ (.slice (some ⟨g1, 0, none⟩) cn c1)).setCell ⟨q, 4, none⟩ (.slice (some ⟨g2, 0, none⟩) mn c2)) B P S cn mn zs ms q g1 c1 g2 c2 := by
 subst hq0
 have hq := h.x16 q rfl
 have ho := on5b v q (.int .i64 B) (.int .i64 P) (.int .i64 S) (.slice (some ⟨g1, 0, none⟩) cn c1) (.slice (some ⟨g2, 0, none⟩) mn c2)
 have hk : ∀ {e sz m : Nat} {y : Value} {xs : List Value}, v.ownsRow U.heap.size e sz y m xs → e ≠ 27 → World.ownsRow _ U.heap.size e sz y m xs := fun hy hne => owns_keep (w' := _) hy (fun g hg => by
  obtain ⟨cs, hcs⟩ := own_tag hy hg
  exact ho.block g (lt_of_block hcs) (fun e9 => by rw [e9, hq.1] at hcs; cases hcs; exact hne rfl))
 exact ⟨st5b hq.1 _ _ _ _ _, hk (h.x4 _ _ rfl) (by decide), hk (h.x10 _ _ rfl) (by decide), h.bel.trans (ho.below (fun j hj => by rw [hj]; exact hq.2) h.bel.size), hq.2⟩
theorem st4 {t : TypeId} {ca : Option Addr} {cc : Nat} (hZ : Reads w ca cn zs) (hcn : cn ≤ 140737488355000) (he : a.tmps[23]?.getD undef = .slice ca cn cc) (h : ∀ g c u, Own u w.heap.size g (cn + 3) c (zs ++ [161, 178, 195]) → Below w.heap.size w u → K (a.put (some 24) (.slice (some ⟨g, 0, none⟩) cn c)) u) : Oper.wp Try.prog { dst := some 24, op := Op.call { callee := Callee.value (Operand.func 38), args := #[Operand.tmp 23], argTypes := #[24] }, type := t, pos := ps, after := x, guard := none } a w K Q := by
 go_simp
 go_at_call 38
 refine (marked_any ca cn cc zs w hZ hcn).mono ?_
 rintro e u ⟨g, c, rfl, o1, b1⟩
 exact h g c u o1 b1
theorem st17 {t : TypeId} {v : World} {B : Int} {q c1 c2 : Nat} (h : Ev U v cn mn zs ms (some q) f5 f9 (some (g1, c1)) (some (g2, c2)) f8) (h8 : a.tmps[8]?.getD undef = .pointer (some ⟨q, 0, none⟩)) (h35 : a.tmps[35]?.getD undef = .agg #[.int .i64 B, .int .i64 P, .int .i64 S, .slice (some ⟨g1, 0, none⟩) cn c1, .slice (some ⟨g2, 0, none⟩) mn c2])
  (hk : ∀ v', InR U v' B P S cn mn zs ms q g1 c1 g2 c2 → K a v') : Oper.wp Try.prog { dst := none, op := Op.store 27 (Operand.tmp 8) (Operand.tmp 35), type := t, pos := ps, after := x, guard := none } a v K Q := by
 obtain ⟨t0, t1, t2, t3, t4⟩ := cells5 (h.x16 q rfl).1
 have fz := fun j => frozen_of_row v q j _ 27 (h.x16 q rfl).1
 go_simp
 go_wp2_with fail
 exact Ev.store q rfl h
theorem info24b : (Try.prog.info? 24).map (fun i => (i.zero, i.size, i.bytes)) = some (some (.slice none 0 0), 1, 24) := by kernel_rfl
structure Rw where
 a : Option Addr
 n : Nat
 c : Nat
 xs : List Value
def Rw.v (r : Rw) : Value := .slice r.a r.n r.c
structure RowsAt (w : World) (B : Nat) (G : Nat → Prop) (E e sz : Nat) (v : Value) (L : List Rw) : Prop where
 row : w.ownsRow B E 1 v L.length (L.map Rw.v)
 own : ∀ r ∈ L, w.ownsRow B e sz r.v r.n r.xs
 far : L.Pairwise (fun r s => ∀ k, r.v.ownBlock = some k → s.v.ownBlock ≠ some k)
 gr : ∀ k, v.ownBlock = some k → G k
 gl : ∀ r ∈ L, ∀ k, r.v.ownBlock = some k → G k
theorem RowsAt.keep {E e sz : Nat} {v : Value} {L : List Rw} (h : RowsAt w B G E e sz v L) (hk : ∀ (k : Nat) (cs : Array Value) (t : Nat), G k → w.heap[k]? = some (.cells cs t (0, 0)) → t = E ∨ t = e → w'.heap[k]? = w.heap[k]?) (hG : ∀ k, G k → H k) : RowsAt w' B H E e sz v L :=
 ⟨owns_keep h.row (fun g hg => by obtain ⟨cs, hcs⟩ := own_tag h.row hg; exact hk g cs E (h.gr g hg) hcs (Or.inl rfl)),
  fun r hr => owns_keep (h.own r hr) (fun g hg => by obtain ⟨cs, hcs⟩ := own_tag (h.own r hr) hg; exact hk g cs e (h.gl r hr g hg) hcs (Or.inr rfl)),
  h.far, fun k hk => hG k (h.gr k hk), fun r hr k hk => hG k (h.gl r hr k hk)⟩
structure BookAt (w : World) (B k : Nat) (G : Nat → Prop) (P M T : List Rw) : Prop where
 ex : ∃ vp vm vt, w.heap[k]? = some (.cells #[vp, vm, vt] 76 (0, 0)) ∧ RowsAt w B G 24 5 1 vp P ∧ RowsAt w B G 25 4 1 vm M ∧ RowsAt w B G 45 120 4 vt T
 gk : G k
 lim : ∀ j, G j → B ≤ j ∧ j < w.heap.size
theorem BookAt.only {P M T : List Rw} (h : BookAt w B k G P M T) (ho : Only H w w') (hd : ∀ j, G j → ¬ H j) : BookAt w' B k G P M T := by
 obtain ⟨vp, vm, vt, h0, h1, h2, h3⟩ := h.ex
 have hk : ∀ (j : Nat) (cs : Array Value) (t : Nat), G j → w.heap[j]? = some (.cells cs t (0, 0)) → w'.heap[j]? = w.heap[j]? := fun j cs t hg hc => ho.block j (h.lim j hg).2 (hd j hg)
 exact ⟨⟨vp, vm, vt, (ho.block _ (lt_of_block h0) (hd _ h.gk)).trans h0, h1.keep (fun j cs t hg hc _ => hk j cs t hg hc) (fun _ e => e), h2.keep (fun j cs t hg hc _ => hk j cs t hg hc) (fun _ e => e), h3.keep (fun j cs t hg hc _ => hk j cs t hg hc) (fun _ e => e)⟩, h.gk, fun j hj => ⟨(h.lim j hj).1, Nat.lt_of_lt_of_le (h.lim j hj).2 ho.size⟩⟩
theorem BookAt.below {P M T : List Rw} (h : BookAt w B k G P M T) (hb : Below w.heap.size w w') : BookAt w' B k G P M T :=
 h.only (Only.ofB (F := fun _ => False) hb) (fun _ _ e => e)
def Gx (G : Nat → Prop) (L : List Rw) (w w' : World) : Nat → Prop := fun j => G j ∨ (∃ r ∈ L, r.v.ownBlock = some j) ∨ (w.heap.size ≤ j ∧ j < w'.heap.size)
theorem pages_far {P L : List Rw} (hP : P.Pairwise (fun r s => ∀ k, r.v.ownBlock = some k → s.v.ownBlock ≠ some k)) (hL : L.Pairwise (fun r s => ∀ k, r.v.ownBlock = some k → s.v.ownBlock ≠ some k)) (hg : ∀ r ∈ P, ∀ k, r.v.ownBlock = some k → G k) (hn : ∀ r ∈ L, ∀ k, r.v.ownBlock = some k → ¬ G k) : (P ++ L).Pairwise (fun r s => ∀ k, r.v.ownBlock = some k → s.v.ownBlock ≠ some k) := by
 rw [List.pairwise_append]
 exact ⟨hP, hL, fun r hr s hs k h1 h2 => hn s hs k h2 (hg r hr k h1)⟩
theorem BookAt.addP {W Y z : World} {P M T L : List Rw} {gn tc : Nat} {vp vm vt : Value} (h : BookAt w B k G P M T) (hb : Below w.heap.size w W) (h0 : w.heap[k]? = some (.cells #[vp, vm, vt] 76 (0, 0))) (own : Y.ownsRow B 24 1 (.slice (some ⟨gn, 0, none⟩) (P.length + L.length) tc) (P.length + L.length) (P.map Rw.v ++ L.map Rw.v)) (grow : W.grownBy Y vp.ownBlock) (lies : vp.ownBlock = some gn ∨ W.heap.size ≤ gn) (hz : Y.setCell ⟨k, 0, none⟩ (.slice (some ⟨gn, 0, none⟩) (P.length + L.length) tc) = z)
  (hL : ∀ r ∈ L, w.ownsRow B 5 1 r.v r.n r.xs) (hLf : L.Pairwise (fun r s => ∀ k, r.v.ownBlock = some k → s.v.ownBlock ≠ some k)) (hLn : ∀ r ∈ L, ∀ j, r.v.ownBlock = some j → ¬ G j) : BookAt z B k (Gx G L w z) (P ++ L) M T ∧ Only G w z := by
 obtain ⟨vp', vm', vt', h0', h1, h2, h3⟩ := h.ex
 rw [h0] at h0'
 cases h0'
 have oY : Only (fun j => vp.ownBlock = some j) W Y := Only.ofG grow (fun j e => e)
 have oZ : Only (· = k) Y z := by rw [← hz]; exact Only.setCell (· = k) Y k 0 _ rfl
 have hvk : ∀ j, vp.ownBlock = some j → ∃ cs, w.heap[j]? = some (.cells cs 24 (0, 0)) := fun j hj => own_tag h1.row hj
 have s0 := hb.size
 have s1 := oY.size
 have s2 := oZ.size
 have hne : ∀ (j : Nat) (cs : Array Value) (t : Nat), w.heap[j]? = some (.cells cs t (0, 0)) → t ≠ 24 → t ≠ 76 → z.heap[j]? = w.heap[j]? := fun j cs t hc n1 n2 => by
  have hj := lt_of_block hc
  refine (oZ.block j (by omega) (fun e => ?_)).trans ((oY.block j (by omega) (fun e => ?_)).trans (hb.block j hj))
  ·have e' : j = k := e
   rw [e', h0] at hc; cases hc; exact n2 rfl
  ·obtain ⟨cs', hc'⟩ := hvk j e
   rw [hc'] at hc; cases hc; exact n1 rfl
 have hzk : z.heap[k]? = some (.cells #[.slice (some ⟨gn, 0, none⟩) (P.length + L.length) tc, vm, vt] 76 (0, 0)) := by
  have hk1 : W.heap[k]? = some (.cells #[vp, vm, vt] 76 (0, 0)) := (hb.block k (lt_of_block h0)).trans h0
  have hk2 : Y.heap[k]? = some (.cells #[vp, vm, vt] 76 (0, 0)) := (oY.block k (lt_of_block hk1) (fun e => by obtain ⟨cs', hc'⟩ := hvk k e; rw [hc'] at h0; cases h0)).trans hk1
  rw [← hz]
  exact heap_setCell_same Y k 0 #[vp, vm, vt] 76 _ hk2
 have hgn : gn < z.heap.size := by
  obtain ⟨cs, hc⟩ := own_tag own rfl
  have h7 : gn < Y.heap.size := lt_of_block hc
  omega
 have hGgn : G gn ∨ w.heap.size ≤ gn := lies.elim (fun e => Or.inl (h1.gr gn e)) (fun e => Or.inr (by omega))
 have hnk : gn ≠ k := fun e => by
  rcases lies with e1 | e1
  ·obtain ⟨cs', hc'⟩ := hvk gn e1; rw [e, h0] at hc'; cases hc'
  ·have := lt_of_block h0; omega
 have hGx : ∀ j, G j → Gx G L w z j := fun j e => Or.inl e
 refine ⟨⟨⟨_, vm, vt, hzk, ⟨?_, fun r hr => ?_, pages_far h1.far hLf h1.gl hLn, fun j hj => ?_, fun r hr j hj => ?_⟩, h2.keep (fun j cs t hg hc ht => hne j cs t hc (by omega) (by omega)) hGx, h3.keep (fun j cs t hg hc ht => hne j cs t hc (by omega) (by omega)) hGx⟩, Or.inl h.gk, fun j hj => ?_⟩, ?_⟩
 ·have h9 := owns_keep (w' := z) own (fun g hg => oZ.block g (by obtain ⟨cs, hc⟩ := own_tag own hg; exact lt_of_block hc) (fun e => by have e2 : gn = g := Option.some.inj hg; exact hnk (e2.trans e)))
  rw [List.length_append, List.map_append]
  exact h9
 ·rcases List.mem_append.1 hr with h9 | h9
  ·exact owns_keep (h1.own r h9) (fun g hg => by obtain ⟨cs, hc⟩ := own_tag (h1.own r h9) hg; exact hne g cs 5 hc (by omega) (by omega))
  ·exact owns_keep (hL r h9) (fun g hg => by obtain ⟨cs, hc⟩ := own_tag (hL r h9) hg; exact hne g cs 5 hc (by omega) (by omega))
 ·have e2 : gn = j := Option.some.inj hj
  rw [← e2]
  exact hGgn.elim (fun e => Or.inl e) (fun e => Or.inr (Or.inr ⟨e, hgn⟩))
 ·rcases List.mem_append.1 hr with h9 | h9
  ·exact Or.inl (h1.gl r h9 j hj)
  ·exact Or.inr (Or.inl ⟨r, h9, hj⟩)
 ·have hBk := h.lim k h.gk
  rcases hj with e | ⟨r, hr, e⟩ | e
  ·have := h.lim j e; exact ⟨this.1, by omega⟩
  ·have h8 := (hL r hr).lt j e
   exact ⟨h8.1, by omega⟩
  ·exact ⟨by have := e.1; omega, e.2⟩
 ·have e1 : Only G w W := Only.ofB hb
  exact (e1.trans oY (fun j _ e => h1.gr j e)).trans oZ (fun j _ e => by have e' : j = k := e; rw [e']; exact h.gk)
theorem page71_any (w : World) (B k : Nat) (G : Nat → Prop) (P M T : List Rw) (h : BookAt w B k G P M T) (hl : P.length ≤ 1000000000000) (a1 : Option Addr) (n1 c1 : Nat) (X1 : List Value) (a2 : Option Addr) (n2 c2 : Nat) (X2 : List Value) (h1 : w.ownsRow B 5 1 (.slice a1 n1 c1) n1 X1) (h2 : w.ownsRow B 5 1 (.slice a2 n2 c2) n2 X2) (hf : ∀ g, (Value.slice a1 n1 c1).ownBlock = some g → (Value.slice a2 n2 c2).ownBlock ≠ some g) (hg1 : ∀ j, (Value.slice a1 n1 c1).ownBlock = some j → ¬ G j) (hg2 : ∀ j, (Value.slice a2 n2 c2).ownBlock = some j → ¬ G j) :
  Calls Try.prog 71 #[.pointer (some ⟨k, 0, none⟩), .agg #[.slice a1 n1 c1, .slice a2 n2 c2]] w fun e w' => e = .returned (.tuple #[]) ∧ BookAt w' B k (Gx G [⟨a1, n1, c1, X1⟩, ⟨a2, n2, c2, X2⟩] w w') (P ++ [⟨a1, n1, c1, X1⟩, ⟨a2, n2, c2, X2⟩]) M T ∧ Only G w w' := by
 obtain ⟨i0, hi, hz0, hz1, hz2⟩ := info_parts info24b
 have HBK := J h
 obtain ⟨vp, vm, vt, hk0, hrp, hrm, hrt⟩ := h.ex
 have HK0 := J hk0
 have HO12 := J (And.intro h1 h2)
 have HLF : Hid (([⟨a1, n1, c1, X1⟩, ⟨a2, n2, c2, X2⟩] : List Rw).Pairwise (fun r s => ∀ k, r.v.ownBlock = some k → s.v.ownBlock ≠ some k)) := List.Pairwise.cons (fun s hs => by simp at hs; subst hs; exact hf) (List.pairwise_singleton _ _)
 have HLN : Hid (∀ r ∈ ([⟨a1, n1, c1, X1⟩, ⟨a2, n2, c2, X2⟩] : List Rw), ∀ j, r.v.ownBlock = some j → ¬ G j) := by unfold Hid; intro r hr; simp at hr; (rcases hr with rfl | rfl) <;> first | exact hg1 | exact hg2
 have HBW : Hid (Below w.heap.size w ((w.alloc (.cells #[.slice a1 n1 c1, .slice a2 n2 c2] 36)).alloc (.cells #[.slice a1 n1 c1, .slice a2 n2 c2] 24)).drew) := below_trans (below_trans (below_alloc w (.cells #[.slice a1 n1 c1, .slice a2 n2 c2] 36)) (below_alloc _ (.cells #[.slice a1 n1 c1, .slice a2 n2 c2] 24))) (drew_below _)
 have HRP : Hid (((w.alloc (.cells #[.slice a1 n1 c1, .slice a2 n2 c2] 36)).alloc (.cells #[.slice a1 n1 c1, .slice a2 n2 c2] 24)).drew.ownsRow B 24 1 vp P.length (P.map Rw.v)) := owns_bel hrp.row HBW.out
 have HRG := J hrp.gr
 have HNK : Hid (∀ j, vp.ownBlock = some j → j ≠ k) := fun j hj e => by obtain ⟨cs, hc⟩ := own_tag hrp.row hj; rw [e, hk0] at hc; cases hc
 have HKW : Hid (((w.alloc (.cells #[.slice a1 n1 c1, .slice a2 n2 c2] 36)).alloc (.cells #[.slice a1 n1 c1, .slice a2 n2 c2] 24)).drew.heap[k]? = some (.cells #[vp, vm, vt] 76 (0, 0))) := (HBW.out.block k (lt_of_block hk0)).trans hk0
 have HS0 : Hid ((fun u => u.cell? ⟨w.heap.size, 0, none⟩ = some (.slice a1 n1 c1) ∧ u.cell? ⟨w.heap.size, 1, none⟩ = some (.slice a2 n2 c2)) ((w.alloc (.cells #[.slice a1 n1 c1, .slice a2 n2 c2] 36)).alloc (.cells #[.slice a1 n1 c1, .slice a2 n2 c2] 24)).drew) := ⟨by simp, by simp⟩
 have HNW : Hid (∀ j u, ([.slice a1 n1 c1, .slice a2 n2 c2] : List Value)[j]? = some u → (((w.alloc (.cells #[.slice a1 n1 c1, .slice a2 n2 c2] 36)).alloc (.cells #[.slice a1 n1 c1, .slice a2 n2 c2] 24)).drew).cell? ((⟨w.heap.size + 1, 0, none⟩ : Addr).add j) = some u) := by
  intro j u hj
  rw [plain_add, Nat.zero_add]
  match j, hj with
  | 0, hj => simp at hj; subst hj; simp
  | 1, hj => simp at hj; subst hj; simp
 have c0 : (w.alloc (.cells #[.slice a1 n1 c1, .slice a2 n2 c2] 36)).drew.cell? ⟨k, 0, none⟩ = some vp := (cells3 (((below_alloc w (.cells #[.slice a1 n1 c1, .slice a2 n2 c2] 36)).block k (lt_of_block hk0)).trans hk0)).1
 have c1b : ((w.alloc (.cells #[.slice a1 n1 c1, .slice a2 n2 c2] 36)).alloc (.cells #[.slice a1 n1 c1, .slice a2 n2 c2] 24)).drew.cell? ⟨k, 0, none⟩ = some vp := (cells3 HKW.out).1
 clear h hk0 h1 h2 hf hg1 hg2 hrp hrm hrt
 go_enter Try.func71, Try.ntmps71
 go_wp2
 refine wp_region_held_drew (S := (fun u => u.cell? ⟨w.heap.size, 0, none⟩ = some (.slice a1 n1 c1) ∧ u.cell? ⟨w.heap.size, 1, none⟩ = some (.slice a2 n2 c2))) (by kernel_rfl) (⟨by simp, by simp⟩) fun O => ?_
 refine tk 0 ?_
 refine tk 1 ?_
 refine tk 2 ?_
 refine tk 3 ?_
 refine tk 5 ?_
 refine tk 6 ?_
 refine tk 7 ?_
 refine tk 8 ?_
 refine wpAnyH_ready (rs := [4, 9]) (by kernel_rfl) (by simp) ?_
 refine AllReadyH.cons (o := { dst := some 8, op := Op.load 61 (Operand.tmp 7), type := 61, pos := "book.go:14", after := #[{ on := 3, ground := Ground.data }], guard := none }) rfl (fun K N => ?_) (AllReadyH.cons (o := { dst := some 13, op := Op.buildSlice 61 2 #[(0, Operand.tmp 10), (1, Operand.tmp 12)], type := 61, pos := "book.go:14", after := #[{ on := 6, ground := Ground.data }, { on := 8, ground := Ground.data }], guard := none }) rfl (fun K N => ?_) AllReadyH.nil)
 ·go_simp
  go_wp2_with fail
  have hZ := O
  clear O
  refine N.out _ _ hZ fun O => ?_
  clear N K hZ
  try simp only [zz]
  refine rd 9 fun K N => ?_
  go_simp
  go_wp2_with fail
  have hZ := HS0.out
  clear O
  refine N.out _ _ hZ fun O => ?_
  clear N K hZ
  try simp only [zz]
  refine rd 10 fun K N => ?_
  refine wp_append_lies _ (.tmp 8) (.tmp 13) 61 rfl B 24 i0 (.slice none 0 0) 1 24 Try.underlying61 hi hz0 hz1 hz2 rfl (by decide) vp P.length (P.map Rw.v) rfl HRP.out ⟨w.heap.size + 1, 0, none⟩ 2 2 [.slice a1 n1 c1, .slice a2 n2 c2] rfl rfl HNW.out (by intro u hu; simp at hu; rcases hu with rfl | rfl <;> rfl) (by decide) (by simp [maxLen]; omega) (by omega) (Nat.le_trans (Nat.le_trans (HBK.out.lim k HBK.out.gk).1 (Nat.le_of_lt (HBK.out.lim k HBK.out.gk).2)) HBW.out.size) (w.heap.size + 2) (by simp) ?_
  intro gn tc Y own grow lies _
  have kb : ∀ g, vp.ownBlock = some g → g < w.heap.size := fun g hg => (HBK.out.lim g (HRG.out g hg)).2
  have hkY : Y.heap[k]? = some (.cells #[vp, vm, vt] 76 (0, 0)) := (grow.block k (lt_of_block HKW.out) (fun e => HNK.out k e.symm rfl)).trans HKW.out
  have hZ : (fun u => u.cell? ⟨w.heap.size, 0, none⟩ = some (.slice a1 n1 c1) ∧ u.cell? ⟨w.heap.size, 1, none⟩ = some (.slice a2 n2 c2)) Y := ⟨grow.cell HS0.out.1 (fun e => Nat.lt_irrefl _ (kb _ e.symm)), grow.cell HS0.out.2 (fun e => Nat.lt_irrefl _ (kb _ e.symm))⟩
  have HOW := J own
  have HG := J grow
  have HLI := J lies
  have HKY := J hkY
  have fz0 := fun j => frozen_of_row Y k j _ 76 hkY
  obtain ⟨e0, e1, e2⟩ := cells3 hkY
  clear own grow lies kb hkY
  clear O
  refine N.out _ _ hZ fun O => ?_
  clear N K hZ
  try simp only [zz]
  refine tk 11 ?_
  refine tk 12 ?_
  refine rd 13 fun K N => ?_
  go_simp
  go_wp2_with fail
  have hn0 : w.heap.size ≠ k := fun e => by have := (HBK.out.lim k HBK.out.gk).2; omega
  have hZ : (fun u => u.cell? ⟨w.heap.size, 0, none⟩ = some (.slice a1 n1 c1) ∧ u.cell? ⟨w.heap.size, 1, none⟩ = some (.slice a2 n2 c2)) (Y.setCell ⟨k, 0, none⟩ (.slice (some ⟨gn, 0, none⟩) (P.length + 2) tc)) := ⟨(Only.setCell (· = k) Y k 0 _ rfl).cell O.1 hn0, (Only.setCell (· = k) Y k 0 _ rfl).cell O.2 hn0⟩
  refine N.out _ _ hZ (fun hHeld13 => ?_)
  clear N K hZ O hHeld13
  try simp only [zz]
  refine td ?_
  clear c0 c1b
  go_wp2
  go_end0
  exact ⟨rfl, HBK.out.addP (L := [⟨a1, n1, c1, X1⟩, ⟨a2, n2, c2, X2⟩]) HBW.out HK0.out HOW.out HG.out (HLI.out.imp id (fun e => by rw [e]; simp)) rfl (by intro r hr; simp at hr; (rcases hr with rfl | rfl) <;> first | exact HO12.out.1 | exact HO12.out.2) HLF.out HLN.out⟩
 ·go_simp
  go_wp2_with fail
  have hZ := HS0.out
  clear O
  refine N.out _ _ hZ fun O => ?_
  clear N K hZ
  try simp only [zz]
  refine rd 4 fun K N => ?_
  go_simp
  go_wp2_with fail
  have hZ := O
  clear O
  refine N.out _ _ hZ fun O => ?_
  clear N K hZ
  try simp only [zz]
  refine rd 10 fun K N => ?_
  refine wp_append_lies _ (.tmp 8) (.tmp 13) 61 rfl B 24 i0 (.slice none 0 0) 1 24 Try.underlying61 hi hz0 hz1 hz2 rfl (by decide) vp P.length (P.map Rw.v) rfl HRP.out ⟨w.heap.size + 1, 0, none⟩ 2 2 [.slice a1 n1 c1, .slice a2 n2 c2] rfl rfl HNW.out (by intro u hu; simp at hu; rcases hu with rfl | rfl <;> rfl) (by decide) (by simp [maxLen]; omega) (by omega) (Nat.le_trans (Nat.le_trans (HBK.out.lim k HBK.out.gk).1 (Nat.le_of_lt (HBK.out.lim k HBK.out.gk).2)) HBW.out.size) (w.heap.size + 2) (by simp) ?_
  intro gn tc Y own grow lies _
  have kb : ∀ g, vp.ownBlock = some g → g < w.heap.size := fun g hg => (HBK.out.lim g (HRG.out g hg)).2
  have hkY : Y.heap[k]? = some (.cells #[vp, vm, vt] 76 (0, 0)) := (grow.block k (lt_of_block HKW.out) (fun e => HNK.out k e.symm rfl)).trans HKW.out
  have hZ : (fun u => u.cell? ⟨w.heap.size, 0, none⟩ = some (.slice a1 n1 c1) ∧ u.cell? ⟨w.heap.size, 1, none⟩ = some (.slice a2 n2 c2)) Y := ⟨grow.cell HS0.out.1 (fun e => Nat.lt_irrefl _ (kb _ e.symm)), grow.cell HS0.out.2 (fun e => Nat.lt_irrefl _ (kb _ e.symm))⟩
  have HOW := J own
  have HG := J grow
  have HLI := J lies
  have HKY := J hkY
  have fz0 := fun j => frozen_of_row Y k j _ 76 hkY
  obtain ⟨e0, e1, e2⟩ := cells3 hkY
  clear own grow lies kb hkY
  clear O
  refine N.out _ _ hZ fun O => ?_
  clear N K hZ
  try simp only [zz]
  refine tk 11 ?_
  refine tk 12 ?_
  refine rd 13 fun K N => ?_
  go_simp
  go_wp2_with fail
  have hn0 : w.heap.size ≠ k := fun e => by have := (HBK.out.lim k HBK.out.gk).2; omega
  have hZ : (fun u => u.cell? ⟨w.heap.size, 0, none⟩ = some (.slice a1 n1 c1) ∧ u.cell? ⟨w.heap.size, 1, none⟩ = some (.slice a2 n2 c2)) (Y.setCell ⟨k, 0, none⟩ (.slice (some ⟨gn, 0, none⟩) (P.length + 2) tc)) := ⟨(Only.setCell (· = k) Y k 0 _ rfl).cell O.1 hn0, (Only.setCell (· = k) Y k 0 _ rfl).cell O.2 hn0⟩
  refine N.out _ _ hZ (fun hHeld13 => ?_)
  clear N K hZ O hHeld13
  try simp only [zz]
  refine td ?_
  clear c0 c1b
  go_wp2
  go_end0
  exact ⟨rfl, HBK.out.addP (L := [⟨a1, n1, c1, X1⟩, ⟨a2, n2, c2, X2⟩]) HBW.out HK0.out HOW.out HG.out (HLI.out.imp id (fun e => by rw [e]; simp)) rfl (by intro r hr; simp at hr; (rcases hr with rfl | rfl) <;> first | exact HO12.out.1 | exact HO12.out.2) HLF.out HLN.out⟩
end Go.Proofs.Ytadlkikjfonkgaa
