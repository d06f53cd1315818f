/-
  SEAT Ytoaahellfflooaa.
-/
import Derived.ProofKit
import Derived.OpenShut
import Derived.ChangeOld
import Derived.SizedLaws
import Derived.Deep.Grids
import Derived.Deep.SlicePairs
import Derived.Lib.SmallJoins
import Derived.Test.YtoaahellfflooaaVWd
namespace Go.Proofs.Ytoaahellfflooaa
open Go.ChangeShapes Go.WideShapes Go.ChangeAt Go.RowKit Go.Joins Go.Deep Go.ChangeMaps
set_option linter.unusedVariables false

theorem wts_all {H : Type} {P : Program} {e : TypeId} : ∀ {l : List (DataW H)} {d : DataW H}, d ∈ l → ∀ n ∈ d.weights P e, n ∈ DataW.weightsAll P e l
  | [], _, h, _, _ => by cases h
  | x :: r, d, h, n, hn => by
    simp only [DataW.weightsAll, List.mem_append]
    rcases List.mem_cons.1 h with rfl | h
    · exact Or.inl hn
    · exact Or.inr (wts_all h n hn)
/-- No weight is too great. -/
def Wts {H : Type} (d : DataW H) (t : TypeId) : Prop := ∀ n ∈ d.weights Try.prog t, n ≤ reachBytes
theorem Wts.slice {H : Type} {t e : TypeId} {elems spare : List (DataW H)} (hu : Try.prog.underlying t = some (.slice e)) (h : Wts (.slice elems spare) t) : (elems.length + spare.length) * Try.prog.bytesOf e ≤ reachBytes ∧ ∀ d ∈ elems, Wts d e := by
  refine ⟨h _ (by simp [DataW.weights, hu]), fun d hd n hn => h n ?_⟩
  simp only [DataW.weights, hu, List.mem_cons, List.mem_append]
  exact Or.inr (Or.inl (wts_all hd n hn))
theorem Wts.part {H : Type} {t u : TypeId} {fs : Array Field} {parts : List (DataW H)} {d : DataW H} {j : Nat} (hu : Try.prog.underlying t = some (.struct fs)) (h : Wts (.agg parts) t) (ht : (fs.toList.map (·.type))[j]? = some u) (hd : parts[j]? = some d) : Wts d u := fun n hn => h n (by
  simp only [DataW.weights, hu]
  exact DataW.weights_mem_each ht hd n hn)
theorem wts_each {H : Type} {ts : List TypeId} {ds : List (DataW H)} (h : (DataW.weightsEach Try.prog ts ds).all (· ≤ reachBytes) = true) {j : Nat} {t : TypeId} {d : DataW H} (ht : ts[j]? = some t) (hd : ds[j]? = some d) : Wts d t := fun n hn => by
  have := List.all_eq_true.1 h _ (DataW.weights_mem_each ht hd n hn)
  simpa using this
theorem ce3 : Try.prog.cellsOf 3 = 1 := by kernel_rfl
theorem ce4 : Try.prog.cellsOf 4 = 1 := by kernel_rfl
theorem ce9 : Try.prog.cellsOf 9 = 1 := by kernel_rfl
theorem ce23 : Try.prog.cellsOf 23 = 1 := by kernel_rfl
theorem ce24 : Try.prog.cellsOf 24 = 1 := by kernel_rfl
theorem ce25 : Try.prog.cellsOf 25 = 1 := by kernel_rfl
theorem ce48 : Try.prog.cellsOf 48 = 4 := by kernel_rfl
theorem ce50 : Try.prog.cellsOf 50 = 8 := by kernel_rfl
theorem ce52 : Try.prog.cellsOf 52 = 2 := by kernel_rfl
theorem ce53 : Try.prog.cellsOf 53 = 1 := by kernel_rfl
theorem ce55 : Try.prog.cellsOf 55 = 13 := by kernel_rfl
theorem ce69 : Try.prog.cellsOf 69 = 3 := by kernel_rfl
theorem ce71 : Try.prog.cellsOf 71 = 4 := by kernel_rfl
theorem by48 : Try.prog.bytesOf 48 = 32 := by kernel_rfl
theorem by55 : Try.prog.bytesOf 55 = 136 := by kernel_rfl
theorem by71 : Try.prog.bytesOf 71 = 32 := by kernel_rfl

theorem flat_inv {α : Type} {f : α → List Value} {st : Nat} (hf : ∀ x, (f x).length = st) (hst : 0 < st) {l : List α} {j : Nat} {u : Value} (h : (l.flatMap f)[j]? = some u) : ∃ i r, ∃ hi : i < l.length, r < st ∧ j = i * st + r ∧ (f l[i])[r]? = some u := by
  have hj : j < (l.flatMap f).length := (List.getElem?_eq_some_iff.1 h).1
  rw [flat_len hf] at hj
  have hr := Nat.mod_lt j hst
  have he : j = j / st * st + j % st := by have := Nat.div_add_mod j st; rw [Nat.mul_comm] at this; omega
  have hi : j / st < l.length := Nat.div_lt_of_lt_mul (by rw [Nat.mul_comm]; exact hj)
  refine ⟨j / st, j % st, hi, hr, he, ?_⟩
  rw [he, flat_get hf l _ _ hi hr] at h
  exact h
theorem readsL_mk {α : Type} {f : α → List Value} {st : Nat} (hf : ∀ x, (f x).length = st) (hst : 0 < st) {w : World} {x : Addr} {l : List α} (h : ∀ i (hi : i < l.length) r u, (f l[i])[r]? = some u → w.cell? (x.add (i * st + r)) = some u) : ReadsL w (some x) l.length st (l.flatMap f) := by
  refine ⟨flat_len hf l, (fun h => by cases h), fun y hy j u hj => ?_⟩
  cases hy
  obtain ⟨i, r, hi, hr, rfl, hu⟩ := flat_inv hf hst hj
  exact h i hi r u hu
theorem readsL_nil {α : Type} {f : α → List Value} {st : Nat} {w : World} : ReadsL w none 0 st (([] : List α).flatMap f) := ⟨by simp, fun _ => rfl, fun _ h => by cases h⟩

section
variable {H : Type} {enc : TypeId × Value → H} {W : World}
set_option maxRecDepth 100000 in
theorem open_blk {fuel : Nat} {cs : List Value} {y : DataW H × List MemPlace} (hlen : cs.length = 4) (h : DataW.trod enc Try.prog W 0 (fun _ => true) true fuel 48 cs = some y) : ∃ b : Blk, cs = b.cells ∧ 0 ≤ b.hd := by
  obtain ⟨y0, y1, y2, y3, k, hy, hcl, g0, g1, g2, g3⟩ := trod_struct4 Try.underlying48 h
  match cs, hlen with
  | [v0, v1, v2, v3], _ =>
    obtain ⟨z0, e0, _, wf0⟩ := DataW.trod_int Try.underlying3 g0
    obtain ⟨z1, e1, _, wf1⟩ := DataW.trod_int Try.underlying23 g1
    obtain ⟨b2, e2, _⟩ := DataW.trod_bool Try.underlying4 g2
    obtain ⟨z3, e3, _, wf3⟩ := DataW.trod_int Try.underlying3 g3
    simp [ce3, ce4, ce23] at e0 e1 e2 e3
    subst e0 e1 e2 e3
    exact ⟨⟨z0, z1, b2, z3⟩, rfl, (bounds_u64 wf1).1⟩
set_option maxRecDepth 100000 in
theorem open_chk {fuel : Nat} {cs : List Value} {y : DataW H × List MemPlace} (hlen : cs.length = 4) (h : DataW.trod enc Try.prog W 0 (fun _ => true) true fuel 71 cs = some y) : ∃ b : Chk, cs = b.cells := by
  obtain ⟨p0, p1, k, _, _, g0, g1⟩ := trod_struct2 Try.underlying71 h
  match cs, hlen with
  | [v0, v1, v2, v3], _ =>
    obtain ⟨z0, e0, _, wf0⟩ := DataW.trod_int Try.underlying3 g0
    obtain ⟨r0, r1, k2, _, _, s0, s1⟩ := trod_struct2 Try.underlying69 g1
    obtain ⟨t0, t1, k3, _, _, q0, q1⟩ := trod_struct2 Try.underlying52 s0
    obtain ⟨z1, e1, _, wf1⟩ := DataW.trod_int Try.underlying3 q0
    obtain ⟨z2, e2, _, wf2⟩ := DataW.trod_int Try.underlying3 q1
    obtain ⟨z3, e3, _, wf3⟩ := DataW.trod_int Try.underlying3 s1
    simp [ce3, ce52, ce69] at e0 e1 e2 e3
    subst e0 e1 e2 e3
    exact ⟨⟨z0, (z1, z2), z3⟩, rfl⟩
theorem open_list {α : Type} {f : α → List Value} {st : Nat} (hf : ∀ x, (f x).length = st) (hst : 0 < st) {t e : TypeId} (hu : Try.prog.underlying t = some (.slice e)) (hc : Try.prog.cellsOf e = st) {R : α → Prop} [Inhabited α] {by_ : Nat} (hby : Try.prog.bytesOf e = by_) (hby0 : 0 < by_)
    (hel : ∀ fuel cs y, cs.length = st → DataW.trod enc Try.prog W 0 (fun _ => true) true fuel e cs = some y → Wts y.1 e → ∃ q : α, cs = f q ∧ R q) {fuel : Nat} {v : Value} {y : DataW H × List MemPlace} (h : DataW.trod enc Try.prog W 0 (fun _ => true) true fuel t [v] = some y) (hw : Wts y.1 t) :
    ∃ (a : Option Addr) (c : Nat) (l : List α), v = .slice a l.length c ∧ ReadsL W a l.length st (l.flatMap f) ∧ l.length * by_ ≤ reachBytes ∧ (∀ q ∈ l, R q) := by
  rcases open_slice hu h with ⟨hcs, _⟩ | ⟨x, l, c, m, n, D, Pl, hcs, _, hl, hm, hmm, hx, hcell⟩
  · injection hcs with hcs
    exact ⟨none, 0, [], hcs, readsL_nil, by simp [reachBytes], fun _ h => by cases h⟩
  · injection hcs with hcs
    have hd := congrArg Prod.fst hx
    simp only at hd
    rw [hd] at hw
    obtain ⟨h1, h2⟩ := hw.slice hu
    rw [hby] at h1
    simp only [List.length_map, List.length_range] at h1
    have each : ∀ i, i < l → ∃ q : α, R q ∧ ∀ r u, (f q)[r]? = some u → W.cell? (x.add (i * st + r)) = some u := by
      intro i hi
      obtain ⟨cs', k1, k2⟩ := hcell i (by rw [hmm]; simp; omega)
      rw [hc] at k1
      obtain ⟨_, hlen, hcc⟩ := World.cells?_some k1
      obtain ⟨q, hq, hR⟩ := hel _ _ _ hlen k2 (h2 _ (List.mem_map.2 ⟨i, List.mem_range.2 hi, rfl⟩))
      refine ⟨q, hR, fun r u hu => ?_⟩
      have hr : r < st := by rw [← hf q]; exact (List.getElem?_eq_some_iff.1 hu).1
      have h9 := hcc r hr
      rw [Deep.add_add] at h9
      rw [h9, hq, hu]
    obtain ⟨q, hq⟩ := Deep.choose_lt each
    have hll : ((List.range l).map q).length = l := by simp
    refine ⟨some x, c, (List.range l).map q, by rw [hll]; exact hcs, readsL_mk hf hst (fun i hi r u hu => ?_), ?_, fun z hz => ?_⟩
    · have hi' : i < l := by simpa using hi
      refine (hq i hi').2 r u ?_
      simpa using hu
    · rw [hll]
      exact Nat.le_trans (Nat.mul_le_mul_right _ (Nat.le_add_right _ _)) h1
    · obtain ⟨i, hi, rfl⟩ := List.mem_map.1 hz
      exact (hq i (List.mem_range.1 hi)).1
/-- What an object that is read must be. -/
structure ObR (W : World) (x : Ob × Value) : Prop where
  c : ∃ a c, x.2 = .slice a x.1.ch.length c ∧ ReadsC W a x.1.ch.length x.1.ch ∧ x.1.ch.length ≤ 4398046510976
  sz : x.1.Sz
  st : 0 ≤ x.1.nd.st ∧ x.1.nd.st < 18446744073709551616
instance : Inhabited Chk := ⟨⟨0, (0, 0), 0⟩⟩
instance : Inhabited Blk := ⟨⟨0, 0, false, 0⟩⟩
instance : Inhabited (Ob × Value) := ⟨⟨⟨0, false, ⟨0, 0, ⟨#[]⟩, 0, 0, 0, 0, ⟨#[]⟩⟩, (0, 0), []⟩, .slice none 0 0⟩⟩
set_option maxRecDepth 100000 in
theorem open_ob {fuel : Nat} {cs : List Value} {y : DataW H × List MemPlace} (hlen : cs.length = 13) (h : DataW.trod enc Try.prog W 0 (fun _ => true) true fuel 55 cs = some y) (hw : Wts y.1 55) : ∃ q : Ob × Value, cs = q.1.cells q.2 ∧ ObR W q := by
  obtain ⟨xs, n, _, hy, hcl, hxl, hf⟩ := DataW.trod_struct Try.underlying55 h
  match xs, hxl with
  | [y0, y1, y2, y3, y4], _ =>
    rw [hy] at hw
    have w4 : Wts y4.1 53 := hw.part (j := 4) Try.underlying55 rfl rfl
    match cs, hlen with
    | [v0, v1, v2, v3, v4, v5, v6, v7, v8, v9, v10, v11, v12], _ =>
      have g0 : DataW.trod enc Try.prog W 0 (fun _ => true) true n 3 [v0] = some y0 := by simpa [ce3] using hf 0 _ rfl
      have g1 : DataW.trod enc Try.prog W 0 (fun _ => true) true n 4 [v1] = some y1 := by simpa [ce4] using hf 1 _ rfl
      have g2 : DataW.trod enc Try.prog W 0 (fun _ => true) true n 50 [v2, v3, v4, v5, v6, v7, v8, v9] = some y2 := by simpa [ce50] using hf 2 _ rfl
      have g3 : DataW.trod enc Try.prog W 0 (fun _ => true) true n 52 [v10, v11] = some y3 := by simpa [ce52] using hf 3 _ rfl
      have g4 : DataW.trod enc Try.prog W 0 (fun _ => true) true n 53 [v12] = some y4 := by simpa [ce53] using hf 4 _ rfl
      obtain ⟨z0, e0, _, _⟩ := DataW.trod_int Try.underlying3 g0
      obtain ⟨b1, e1, _⟩ := DataW.trod_bool Try.underlying4 g1
      obtain ⟨us, n2, _, _, _, hul, hg⟩ := DataW.trod_struct Try.underlying50 g2
      match us, hul with
      | [u0, u1, u2, u3, u4, u5, u6, u7], _ =>
        have k0 : DataW.trod enc Try.prog W 0 (fun _ => true) true n2 3 [v2] = some u0 := by simpa [ce3] using hg 0 _ rfl
        have k1 : DataW.trod enc Try.prog W 0 (fun _ => true) true n2 3 [v3] = some u1 := by simpa [ce3] using hg 1 _ rfl
        have k2 : DataW.trod enc Try.prog W 0 (fun _ => true) true n2 9 [v4] = some u2 := by simpa [ce9] using hg 2 _ rfl
        have k3 : DataW.trod enc Try.prog W 0 (fun _ => true) true n2 3 [v5] = some u3 := by simpa [ce3] using hg 3 _ rfl
        have k4 : DataW.trod enc Try.prog W 0 (fun _ => true) true n2 3 [v6] = some u4 := by simpa [ce3] using hg 4 _ rfl
        have k5 : DataW.trod enc Try.prog W 0 (fun _ => true) true n2 23 [v7] = some u5 := by simpa [ce23] using hg 5 _ rfl
        have k6 : DataW.trod enc Try.prog W 0 (fun _ => true) true n2 3 [v8] = some u6 := by simpa [ce3] using hg 6 _ rfl
        have k7 : DataW.trod enc Try.prog W 0 (fun _ => true) true n2 9 [v9] = some u7 := by simpa [ce9] using hg 7 _ rfl
        obtain ⟨q0, f0, _, _⟩ := DataW.trod_int Try.underlying3 k0
        obtain ⟨q1, f1, _, _⟩ := DataW.trod_int Try.underlying3 k1
        obtain ⟨q2, f2, _, wN⟩ := DataW.trod_string Try.underlying9 k2
        obtain ⟨q3, f3, _, _⟩ := DataW.trod_int Try.underlying3 k3
        obtain ⟨q4, f4, _, _⟩ := DataW.trod_int Try.underlying3 k4
        obtain ⟨q5, f5, _, w5⟩ := DataW.trod_int Try.underlying23 k5
        obtain ⟨q6, f6, _, _⟩ := DataW.trod_int Try.underlying3 k6
        obtain ⟨q7, f7, _, wT⟩ := DataW.trod_string Try.underlying9 k7
        obtain ⟨t0, t1, n3, _, _, r0, r1⟩ := trod_struct2 Try.underlying52 g3
        obtain ⟨p0, l0, _, _⟩ := DataW.trod_int Try.underlying3 r0
        obtain ⟨p1, l1, _, _⟩ := DataW.trod_int Try.underlying3 r1
        obtain ⟨a, c, l, e12, hr, hn, _⟩ := open_list (R := fun _ : Chk => True) chk_len (by decide) Try.underlying53 ce71 by71 (by decide) (fun fuel cs y hl ht _ => (open_chk hl ht).imp fun q hq => ⟨hq, trivial⟩) g4 w4
        simp [ce3] at e0 e1 f0 f1 f2 f3 f4 f5 f6 f7 l0 l1
        subst e0 e1 f0 f1 f2 f3 f4 f5 f6 f7 l0 l1 e12
        have b5 := bounds_u64 w5
        refine ⟨⟨⟨z0, b1, ⟨q0, q1, q2, q3, q4, q5, q6, q7⟩, (p0, p1), l⟩, .slice a l.length c⟩, rfl, ⟨a, c, rfl, hr, by simp only [reachBytes] at hn; show l.length ≤ _; omega⟩, ⟨wN, wT⟩, ⟨b5.1, by simp only; have := b5.2; omega⟩⟩
theorem array6 {α : Type} {cs : Array α} (h : cs.size = 6) : ∃ c0 c1 c2 c3 c4 c5, cs = #[c0, c1, c2, c3, c4, c5] := by
  obtain ⟨l⟩ := cs
  match l, h with
  | [c0, c1, c2, c3, c4, c5], _ => exact ⟨c0, c1, c2, c3, c4, c5, rfl⟩
/-- The bounds of a state that is handed in. -/
structure StSz (W : World) (s : St) (n m : Nat) (ls : List (Ob × Value)) : Prop where
  n : n ≤ 4398046510976
  m : m ≤ 1034834473170
  o : ∀ x ∈ ls, ObR W x
  nat : St.Nat s
set_option maxRecDepth 100000 in
theorem open_st {base : Nat} {v : Value} {d : DataW H} {p : List MemPlace} (hv : Value.okWide Try.prog W .any base 27 v) (h : DataW.Trod enc Try.prog W 0 (fun _ => true) true 27 v d p) (hw : Wts d 27) :
    ∃ (s : St) (ba oa : Option Addr) (n m bc oc : Nat) (ls : List (Ob × Value)), v = .agg #[.int .u64 s.fl, .int .u64 s.nx, .int .i64 s.cu, .int .i64 s.la, .slice ba n bc, .slice oa m oc] ∧ StOn W s ba oa n m ls ∧ StSz W s n m ls := by
  obtain ⟨cs, rfl, hsz⟩ := okWide_struct Try.underlying27 hv
  obtain ⟨c0, c1, c2, c3, c4, c5, rfl⟩ := array6 (hsz.trans (by kernel_rfl))
  obtain ⟨fuel, hf⟩ := h
  obtain ⟨xs, k, _, hx, _, hxl, hg⟩ := DataW.trod_struct Try.underlying27 hf
  match xs, hxl with
  | [y0, y1, y2, y3, y4, y5], _ =>
    have hd := congrArg Prod.fst hx
    simp only at hd
    rw [hd] at hw
    have w4 : Wts y4.1 24 := hw.part (j := 4) Try.underlying27 rfl rfl
    have w5 : Wts y5.1 25 := hw.part (j := 5) Try.underlying27 rfl rfl
    have g0 : DataW.trod enc Try.prog W 0 (fun _ => true) true k 23 [c0] = some y0 := by simpa [Value.cells, ce23] using hg 0 _ rfl
    have g1 : DataW.trod enc Try.prog W 0 (fun _ => true) true k 23 [c1] = some y1 := by simpa [Value.cells, ce23] using hg 1 _ rfl
    have g2 : DataW.trod enc Try.prog W 0 (fun _ => true) true k 3 [c2] = some y2 := by simpa [Value.cells, ce3] using hg 2 _ rfl
    have g3 : DataW.trod enc Try.prog W 0 (fun _ => true) true k 3 [c3] = some y3 := by simpa [Value.cells, ce3] using hg 3 _ rfl
    have g4 : DataW.trod enc Try.prog W 0 (fun _ => true) true k 24 [c4] = some y4 := by simpa [Value.cells, ce24] using hg 4 _ rfl
    have g5 : DataW.trod enc Try.prog W 0 (fun _ => true) true k 25 [c5] = some y5 := by simpa [Value.cells, ce25] using hg 5 _ rfl
    obtain ⟨z0, e0, _, w0⟩ := DataW.trod_int Try.underlying23 g0
    obtain ⟨z1, e1, _, w1⟩ := DataW.trod_int Try.underlying23 g1
    obtain ⟨z2, e2, _, _⟩ := DataW.trod_int Try.underlying3 g2
    obtain ⟨z3, e3, _, _⟩ := DataW.trod_int Try.underlying3 g3
    obtain ⟨ba, bc, bl, e4, rb, nb, hb⟩ := open_list (R := fun b : Blk => 0 ≤ b.hd) blk_len (by decide) Try.underlying24 ce48 by48 (by decide) (fun fuel cs y hl ht _ => open_blk hl ht) g4 w4
    obtain ⟨oa, oc, ls, e5, ro, no, ho⟩ := open_list (R := ObR W) (f := fun x : Ob × Value => x.1.cells x.2) ob_len (by decide) Try.underlying25 ce55 by55 (by decide) (fun fuel cs y hl ht hw => open_ob hl ht hw) g5 w5
    simp at e0 e1 e2 e3
    subst e0 e1 e2 e3 e4 e5
    simp only [reachBytes] at nb no
    refine ⟨⟨z0, z1, z2, z3, bl, ls.map Prod.fst⟩, ba, oa, bl.length, ls.length, bc, oc, ls, rfl, ⟨rb, ro, fun x hx => ?_, fun x hx => (ho x hx).sz, rfl, by omega, by omega⟩, ⟨by omega, by omega, ho, ⟨(bounds_u64 w0).1, (bounds_u64 w1).1, hb, fun o hm => ?_⟩⟩⟩
    · obtain ⟨a, c, h1, h2, h3⟩ := (ho x hx).c
      exact ⟨a, c, h1, h2, by omega⟩
    · obtain ⟨x, hx, rfl⟩ := List.mem_map.1 hm
      exact (ho x hx).st
end
end Go.Proofs.Ytoaahellfflooaa
