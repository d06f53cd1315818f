/-
  SEAT Ytjginocbbnmgaaa: a row of calls, opened.
-/
import Derived.Test.YtjginocbbnmgaaaToC
import Derived.Deep.Strs
namespace Go.Proofs.Ytjginocbbnmgaaa
open Go.ChangeShapes Go.WideShapes Go.ChangeAt Go.RowKit Go.Joins
set_option linter.unusedVariables false

/-- A call as it is told. -/
structure Opn where
  q : Int
  k : Int
  v : Int
def Opn.zero : Opn := ⟨0, 0, 0⟩
def Opn.cell (o : Opn) : Nat → Value
  | 0 => .int .i64 o.q
  | 1 => .int .i64 o.k
  | _ => .int .i64 o.v
structure Opn.Ok (o : Opn) : Prop where
  q : Wf o.q
  k : Wf o.k
  v : Wf o.v
def ReadsO (w : World) (a : Option Addr) (len : Nat) (os : List Opn) : Prop :=
  os.length = len ∧ (∀ c ∈ os, c.Ok) ∧ (a = none → len = 0) ∧ ∀ x, a = some x → ∀ i, i < len → ∀ j, j < 3 → w.cell? (x.add (i * 3 + j)) = some ((os.getD i Opn.zero).cell j)
theorem ReadsO.pos {w : World} {a : Option Addr} {len : Nat} {os : List Opn} (h : ReadsO w a len os) (hp : 0 < len) :
    ∃ b off, a = some ⟨b, off, none⟩ ∧ b < w.heap.size ∧ ∀ i, i < len → w.cell? ⟨b, off + i * 3, none⟩ = some (.int .i64 (os.getD i Opn.zero).q) ∧ w.cell? ⟨b, off + i * 3 + 1, none⟩ = some (.int .i64 (os.getD i Opn.zero).k) ∧ w.cell? ⟨b, off + i * 3 + 2, none⟩ = some (.int .i64 (os.getD i Opn.zero).v) := by
  obtain ⟨hl, _, hn, hc⟩ := h
  cases a with
  | none => have := hn rfl; omega
  | some x =>
    obtain ⟨b, off, spot⟩ := x
    have h0 := hc _ rfl 0 hp 0 (by omega)
    have hspot : spot = none := by simpa [Addr.add] using World.cell?_spot h0
    subst hspot
    refine ⟨b, off, rfl, by simpa [Addr.add] using block_lt_of_cell h0, fun i hi => ?_⟩
    have k0 := hc _ rfl i hi 0 (by omega)
    have k1 := hc _ rfl i hi 1 (by omega)
    have k2 := hc _ rfl i hi 2 (by omega)
    rw [plain_add] at k0 k1 k2
    exact ⟨k0, k1, k2⟩
theorem okAtO {os : List Opn} (h : ∀ c ∈ os, c.Ok) (i : Nat) (hi : i < os.length) : (os.getD i Opn.zero).Ok := by
  rw [List.getD_eq_getElem?_getD, List.getElem?_eq_getElem hi]
  exact h _ (List.getElem_mem hi)
theorem ReadsO.below {A B : World} {a : Option Addr} {len : Nat} {os : List Opn} (h : ReadsO A a len os) (hb : Below A.heap.size A B) : ReadsO B a len os := by
  obtain ⟨q1, q2, q3, q4⟩ := h
  refine ⟨q1, q2, q3, fun x hx i hi j hj => ?_⟩
  have h1 := q4 x hx i hi j hj
  exact (hb.cell (block_lt_of_cell h1)).trans h1
theorem cells64 : Try.prog.cellsOf 64 = 3 := by kernel_rfl
theorem bytes64 : Try.prog.bytesOf 64 = 24 := by kernel_rfl

set_option maxRecDepth 100000 in
theorem open_ops {H : Type} {enc : TypeId × Value → H} {W : World} {base : Nat} {v : Value} {d : DataW H} {p : List MemPlace} (hv : Value.okWide Try.prog W .any base 58 v) (h : DataW.Trod enc Try.prog W 0 (fun _ => true) true 58 v d p) :
    ∃ a len cap cs, v = .slice a len cap ∧ ReadsO W a len cs ∧ (len = 0 ∨ ∃ elems spare, d = .slice elems spare ∧ len ≤ elems.length + spare.length) := by
  obtain ⟨a, len, cap, rfl⟩ := okWide_slice Try.underlying58 hv
  obtain ⟨fuel, hf⟩ := h
  rcases Deep.open_slice Try.underlying58 hf with ⟨hcs, _⟩ | ⟨x, l, c, m, n, D, Pl, hcs, _, hl, hm, hmm, hx, hcell⟩
  · simp [Value.cells] at hcs
    obtain ⟨rfl, rfl, rfl⟩ := hcs
    exact ⟨none, 0, 0, [], rfl, ⟨rfl, (fun _ h => by cases h), fun _ => rfl, fun _ h => by cases h⟩, Or.inl rfl⟩
  · simp [Value.cells] at hcs
    obtain ⟨rfl, rfl, rfl⟩ := hcs
    have hmc : m = cap := by rw [hmm]; simp
    have each : ∀ i, i < len → ∃ q : Opn, q.Ok ∧ ∀ j, j < 3 → W.cell? (x.add (i * 3 + j)) = some (q.cell j) := by
      intro i hi
      obtain ⟨cs', h1, h2⟩ := hcell i (by omega)
      rw [cells64] at h1
      obtain ⟨_, hlen, hc⟩ := World.cells?_some h1
      obtain ⟨y0, y1, y2, k, _, hcl, g0, g1, g2⟩ := Deep.trod_struct3 Try.underlying64 h2
      match cs', hlen with
      | [v0, v1, v2], _ =>
        obtain ⟨z0, e0, _, wf0⟩ := DataW.trod_int Try.underlying3 g0
        obtain ⟨z1, e1, _, wf1⟩ := DataW.trod_int Try.underlying3 g1
        obtain ⟨z2, e2, _, wf2⟩ := DataW.trod_int Try.underlying3 g2
        have c1 : Try.prog.cellsOf 3 = 1 := by kernel_rfl
        simp [c1] at e0 e1 e2
        subst e0 e1 e2
        refine ⟨⟨z0, z1, z2⟩, ⟨wf_of wf0, wf_of wf1, wf_of wf2⟩, fun j hj => ?_⟩
        have := hc j hj
        rw [Deep.add_add] at this
        match j, hj with
        | 0, _ => simpa [Opn.cell] using this
        | 1, _ => simpa [Opn.cell] using this
        | 2, _ => simpa [Opn.cell] using this
    have : Inhabited Opn := ⟨Opn.zero⟩
    obtain ⟨q, hq⟩ := Deep.choose_lt each
    refine ⟨some x, len, cap, (List.range len).map q, rfl, ⟨by simp, ?_, (fun h => by cases h), fun y hy i hi j hj => ?_⟩, Or.inr ?_⟩
    · intro c hc
      obtain ⟨i, hi, rfl⟩ := List.mem_map.1 hc
      exact (hq i (by simpa using hi)).1
    · cases hy
      rw [(hq i hi).2 j hj]
      simp [List.getD_eq_getElem?_getD, hi]
    · have hd := (Prod.mk.inj hx).1
      refine ⟨_, _, hd, ?_⟩
      simp
end Go.Proofs.Ytjginocbbnmgaaa
