/-
  SEAT YtnjcjaaciphcgaaDoor: a report opened; the tables that the text lays.
-/
import Derived.Test.YtnjcjaaciphcgaaDoorUc
import Derived.Deep.Strs
import Derived.Deep.Grids
import Derived.Lib.LaidTab
import Derived.Stop.LaidErr
namespace Go.Proofs.YtnjcjaaciphcgaaDoor
open Go.ChangeShapes Go.WideShapes Go.ChangeAt Go.RowKit Go.Joins
set_option linter.unusedVariables false

theorem own : ownKnob Tryd.prog.godebug = none := by kernel_rfl
theorem laidOut : laidOutB Tryd.prog = true := by kernel_rfl
def strData {H : Type} (ss : List (List UInt8)) : DataW H := .agg (ss.map fun s => .lit (.string s))
theorem cells_of_strs {H : Type} {enc : TypeId × Value → H} {P : Program} {w : World} {base : Nat} {sp : Nat → Bool} {held : Bool} {fuel : Nat} {t e : TypeId} {n : Nat} {cs : List Value} {ss : List (List UInt8)} {p : List MemPlace}
    (ht : P.underlying t = some (.array n e)) (he : P.underlying e = some .string) (hce : P.cellsOf e = 1) (hct : P.cellsOf t = n)
    (h : DataW.trod enc P w base sp held fuel t cs = some (strData ss, p)) : cs = ss.map fun s => Value.string ⟨s.toArray⟩ := by
  cases fuel with
  | zero => simp [DataW.trod] at h
  | succ fuel =>
    simp only [DataW.trod, ht, hce, hct, Nat.mul_one] at h
    split at h
    · rename_i hl
      obtain ⟨xs, hm, hx⟩ := Option.map_eq_some_iff.1 h
      have hxs : xs.map (·.1) = ss.map fun s => (DataW.lit (.string s) : DataW H) := by
        have := congrArg Prod.fst hx
        simpa [strData] using this
      have hxl : xs.length = n := by simpa using Lib.mapM_length hm
      have hzl : ss.length = n := by
        have := congrArg List.length hxs
        simp at this
        omega
      apply List.ext_getElem?
      intro i
      by_cases hi : i < n
      · obtain ⟨b, hb, hf⟩ := Lib.mapM_at hm i i (by simp [hi])
        obtain ⟨s, hc, rfl, _⟩ := DataW.trod_string he hf
        have h1 : cs[i]? = some (.string s) := by
          have := congrArg (·[0]?) hc
          simpa [List.getElem?_take, List.getElem?_drop] using this
        have h2 : (xs.map (·.1))[i]? = some (DataW.lit (.string s.data.toList) : DataW H) := by simp [hb]
        rw [hxs] at h2
        simp only [List.getElem?_map, Option.map_eq_some_iff, DataW.lit.injEq, Lit.string.injEq] at h2
        obtain ⟨z', hz', hz2⟩ := h2
        subst hz2
        simp [h1, hz']
      · rw [List.getElem?_eq_none (by omega), List.getElem?_eq_none (by simp; omega)]
    · cases h

def kws : List (List UInt8) := [[], [98, 114, 111, 107, 101, 110], [102, 105, 120, 101, 100], [115, 116, 97, 108, 101], [114, 101, 102, 117, 115, 101, 100], [112, 104, 97, 110, 116, 111, 109], [108, 111, 115, 116], [116, 119, 105, 99, 101], [117, 110, 108, 105, 110, 107, 101, 100], [98, 97, 100]]
theorem kws_kw : ∀ i, i < 10 → kws.getD i [] = kw i := by decide
theorem gKw : Tryd.prog.globalNamed "shale/audit.kindWords" = some 0 := by kernel_rfl
theorem gKwType : (Tryd.prog.globals[0]?).map (·.type) = some 73 := by kernel_rfl
theorem cells73 : Tryd.prog.cellsOf 73 = 10 := by kernel_rfl
theorem cells9 : Tryd.prog.cellsOf 9 = 1 := by kernel_rfl
theorem cells101 : Tryd.prog.cellsOf 101 = 20 := by kernel_rfl
theorem cells22 : Tryd.prog.cellsOf 22 = 1 := by kernel_rfl
theorem kw_of {W : World} {rest : List (String × DataW Unit)} (h : laidMet Tryd.prog (("shale/audit.kindWords", strData kws) :: rest) W) : KW W := by
  obtain ⟨ps, ⟨g', t', cs, fuel, p, q, hg', ht', hvar, hd, _, _⟩, _⟩ := h
  obtain rfl := Option.some.inj (gKw.symm.trans hg')
  obtain rfl := Option.some.inj (gKwType.symm.trans ht')
  have hcs := cells_of_strs Tryd.underlying73 Tryd.underlying9 cells9 cells73 hd
  intro i hi
  have h9 := World.var?_cell gKw hvar i
  rw [h9]
  have h8 : cs.toList[i]? = some (.string ⟨(kw i).toArray⟩) := by
    rw [hcs, List.getElem?_map, ← kws_kw i hi, List.getD_eq_getElem?_getD]
    have hl : kws.length = 10 := rfl
    rw [List.getElem?_eq_getElem (by omega)]
    rfl
  simpa using h8
theorem gP : Tryd.prog.globalNamed "internal/strconv.uint64pow10" = some 1 := by kernel_rfl
theorem gPType : (Tryd.prog.globals[1]?).map (·.type) = some 101 := by kernel_rfl
theorem p10_of {W : World} {rest : List (String × DataW Unit)} (h : laidMet Tryd.prog (("internal/strconv.uint64pow10", Lib.tabData .u64 Lib.pow10Tab) :: rest) W) : P10 W :=
  Lib.tabIs_of_head gP gPType Tryd.underlying101 Tryd.underlying22 cells22 cells101 h

theorem cells29 : Tryd.prog.cellsOf 29 = 4 := by kernel_rfl
theorem cells27 : Tryd.prog.cellsOf 27 = 2 := by kernel_rfl
theorem cells25 : Tryd.prog.cellsOf 25 = 7 := by kernel_rfl
theorem cells3 : Tryd.prog.cellsOf 3 = 1 := by kernel_rfl
theorem cells4' : Tryd.prog.cellsOf 4 = 1 := by kernel_rfl
theorem cells23 : Tryd.prog.cellsOf 23 = 1 := by kernel_rfl
theorem array7 {α : Type} {cs : Array α} (h : cs.size = 7) : ∃ c0 c1 c2 c3 c4 c5 c6, cs = #[c0, c1, c2, c3, c4, c5, c6] := by
  obtain ⟨l⟩ := cs
  match l, h with
  | [c0, c1, c2, c3, c4, c5, c6], _ => exact ⟨c0, c1, c2, c3, c4, c5, c6, rfl⟩

theorem some_bulk {H : Type} (d : DataW H) : 0 < Rows.uptoBulk d := by
  rcases d with l | _ | _ | _ | _ | _ | _ | _
  · cases l <;> simp [Rows.uptoBulk]
  all_goals simp [Rows.uptoBulk]
theorem many_bulk {H : Type} : ∀ l : List (DataW H), l.length ≤ Rows.uptoBulkAll l
  | [] => Nat.zero_le _
  | d :: r => by
    have h1 := many_bulk r
    have h2 := some_bulk d
    simp only [Rows.uptoBulkAll, List.length_cons]
    omega
theorem bulk_mem {H : Type} : ∀ (l : List (DataW H)) (d : DataW H), d ∈ l → Rows.uptoBulk d ≤ Rows.uptoBulkAll l
  | [], _, h => by cases h
  | x :: r, d, h => by
    simp only [Rows.uptoBulkAll]
    rcases List.mem_cons.1 h with rfl | h
    · omega
    · have := bulk_mem r d h
      omega

section
variable {H : Type} {enc : TypeId × Value → H} {W : World}
set_option maxRecDepth 100000 in
theorem open_fs {fuel : Nat} {v : Value} {y : DataW H × List MemPlace} (h : DataW.trod enc Tryd.prog W 0 (fun _ => true) true fuel 23 [v] = some y) :
    ∃ a len cap fs, v = .slice a len cap ∧ ReadsF W a len fs ∧ (∀ f ∈ fs, f.Ok) ∧ len ≤ Rows.uptoBulk y.1 := by
  rcases Deep.open_slice Tryd.underlying23 h with ⟨hcs, _⟩ | ⟨x, l, c, m, n, D, Pl, hcs, _, hl, hm, hmm, hx, hcell⟩
  · injection hcs with hcs
    subst hcs
    exact ⟨none, 0, 0, [], rfl, ⟨rfl, fun _ => rfl, fun _ h => (by cases h)⟩, fun _ h => (by cases h), Nat.zero_le _⟩
  · injection hcs with hcs
    subst hcs
    have each : ∀ i, i < l → ∃ q : Fd, q.Ok ∧ ∀ j, j < 4 → W.cell? (x.add (i * 4 + j)) = some (q.cell j) := by
      intro i hi
      obtain ⟨cs', h1, h2⟩ := hcell i (by rw [hmm]; simp; omega)
      rw [cells29] at h1
      obtain ⟨_, hlen, hc⟩ := World.cells?_some h1
      obtain ⟨y0, y1, y2, k, _, hcl, g0, g1, g2⟩ := Deep.trod_struct3 Tryd.underlying29 h2
      match cs', hlen with
      | [v0, v1, v2, v3], _ =>
        simp only [cells3, cells27, List.drop_zero, List.drop_succ_cons, List.take_succ_cons, List.take_zero] at g0 g1 g2
        obtain ⟨xs, k2, _, _, _, hxl, hf⟩ := DataW.trod_struct Tryd.underlying27 g1
        match xs, hxl with
        | [p0, p1], _ =>
          have q0 : DataW.trod enc Tryd.prog W 0 (fun _ => true) true k2 3 [v1] = some p0 := by simpa [cells3] using hf 0 _ rfl
          have q1 : DataW.trod enc Tryd.prog W 0 (fun _ => true) true k2 3 [v2] = some p1 := by simpa [cells3] using hf 1 _ rfl
          obtain ⟨z0, e0, _, wf0⟩ := DataW.trod_int Tryd.underlying3 g0
          obtain ⟨z1, e1, _, wf1⟩ := DataW.trod_int Tryd.underlying3 q0
          obtain ⟨z2, e2, _, wf2⟩ := DataW.trod_int Tryd.underlying3 q1
          obtain ⟨z3, e3, _, wf3⟩ := DataW.trod_int Tryd.underlying3 g2
          injection e0 with e0
          injection e1 with e1
          injection e2 with e2
          injection e3 with e3
          subst e0 e1 e2 e3
          refine ⟨⟨z0, z1, z2, z3⟩, ⟨bounds_i64 wf0, bounds_i64 wf1, bounds_i64 wf2, bounds_i64 wf3⟩, fun j hj => ?_⟩
          have := hc j hj
          rw [Deep.add_add] at this
          match j, hj with
          | 0, _ => simpa [Fd.cell] using this
          | 1, _ => simpa [Fd.cell] using this
          | 2, _ => simpa [Fd.cell] using this
          | 3, _ => simpa [Fd.cell] using this
    have : Inhabited Fd := ⟨Fd.zero⟩
    obtain ⟨q, hq⟩ := Deep.choose_lt each
    refine ⟨some x, l, c, (List.range l).map q, rfl, ⟨by simp, (fun h => by cases h), fun y hy i hi j hj => ?_⟩, ?_, ?_⟩
    · cases hy
      rw [(hq i hi).2 j hj]
      simp [List.getD_eq_getElem?_getD, hi]
    · intro f hf
      obtain ⟨i, hi, rfl⟩ := List.mem_map.1 hf
      exact (hq i (by simpa using hi)).1
    · have hd := (Prod.mk.inj hx).1
      rw [hd]
      simp only [Rows.uptoBulk]
      have := many_bulk (H := H) ((List.range l).map D)
      simp at this
      omega

set_option maxRecDepth 100000 in
theorem open_rep {base : Nat} {v : Value} {d : DataW H} {p : List MemPlace} (hv : Value.okWide Tryd.prog W .any base 25 v) (h : DataW.Trod enc Tryd.prog W 0 (fun _ => true) true 25 v d p) (hb : Rows.uptoBulk d ≤ 1048576) :
    ∃ (r : Rp) (a : Option Addr) (n c : Nat), v = .agg #[.int .u64 (r.fl : Int), .int .i64 r.c, .int .i64 r.l, .int .i64 r.u, .int .i64 r.b, .bool r.s, .slice a n c] ∧ ReadsF W a n r.fs ∧ r.Ok := by
  obtain ⟨cs, rfl, hsz⟩ := okWide_struct Tryd.underlying25 hv
  obtain ⟨v0, v1, v2, v3, v4, v5, v6, rfl⟩ := array7 (hsz.trans cells25)
  obtain ⟨fuel, hf⟩ := h
  obtain ⟨xs, k, _, hx, _, hxl, hg⟩ := DataW.trod_struct Tryd.underlying25 hf
  match xs, hxl with
  | [y0, y1, y2, y3, y4, y5, y6], _ =>
    have g0 : DataW.trod enc Tryd.prog W 0 (fun _ => true) true k 22 [v0] = some y0 := by simpa [Value.cells, cells22] using hg 0 _ rfl
    have g1 : DataW.trod enc Tryd.prog W 0 (fun _ => true) true k 3 [v1] = some y1 := by simpa [Value.cells, cells3] using hg 1 _ rfl
    have g2 : DataW.trod enc Tryd.prog W 0 (fun _ => true) true k 3 [v2] = some y2 := by simpa [Value.cells, cells3] using hg 2 _ rfl
    have g3 : DataW.trod enc Tryd.prog W 0 (fun _ => true) true k 3 [v3] = some y3 := by simpa [Value.cells, cells3] using hg 3 _ rfl
    have g4 : DataW.trod enc Tryd.prog W 0 (fun _ => true) true k 3 [v4] = some y4 := by simpa [Value.cells, cells3] using hg 4 _ rfl
    have g5 : DataW.trod enc Tryd.prog W 0 (fun _ => true) true k 4 [v5] = some y5 := by simpa [Value.cells, cells4'] using hg 5 _ rfl
    have g6 : DataW.trod enc Tryd.prog W 0 (fun _ => true) true k 23 [v6] = some y6 := by simpa [Value.cells, cells23] using hg 6 _ rfl
    obtain ⟨z0, e0, _, w0⟩ := DataW.trod_int Tryd.underlying22 g0
    obtain ⟨z1, e1, _, w1⟩ := DataW.trod_int Tryd.underlying3 g1
    obtain ⟨z2, e2, _, w2⟩ := DataW.trod_int Tryd.underlying3 g2
    obtain ⟨z3, e3, _, w3⟩ := DataW.trod_int Tryd.underlying3 g3
    obtain ⟨z4, e4, _, w4⟩ := DataW.trod_int Tryd.underlying3 g4
    obtain ⟨z5, e5, _⟩ := DataW.trod_bool Tryd.underlying4 g5
    obtain ⟨a, n, c, fs, e6, hr, hok, hbk⟩ := open_fs g6
    injection e0 with e0
    injection e1 with e1
    injection e2 with e2
    injection e3 with e3
    injection e4 with e4
    injection e5 with e5
    subst e0 e1 e2 e3 e4 e5 e6
    have b0 := bounds_u64 w0
    obtain ⟨u, rfl⟩ := Int.eq_ofNat_of_zero_le b0.1
    have hd : d = .agg [y0.1, y1.1, y2.1, y3.1, y4.1, y5.1, y6.1] := by
      have := (Prod.mk.inj hx).1
      simpa using this
    have hn : n ≤ 1048576 := by
      rw [hd] at hb
      simp only [Rows.uptoBulk, Rows.uptoBulkAll] at hb
      omega
    exact ⟨⟨u, z1, z2, z3, z4, z5, fs⟩, a, n, c, rfl, hr, ⟨by have := b0.2; simp only; omega, bounds_i64 w1, bounds_i64 w2, bounds_i64 w3, bounds_i64 w4, hok, by simp only; rw [hr.1]; exact hn⟩⟩
end
end Go.Proofs.YtnjcjaaciphcgaaDoor
