/-
  SEAT Ytadlkikjfonkgaa: ChipFaults: what stands in memory.
-/
import Derived.Test.YtadlkikjfonkgaaFf
namespace Go.Proofs.Ytadlkikjfonkgaa
open Go.RowKit Go.Conc
set_option linter.unusedVariables false

def Fc.row (c : Fc) : List Value := [.int .i64 c.a, .int .i64 c.k, .slice c.ma c.ml c.mc, .int .u8 c.f]
theorem Fc.row_len (c : Fc) : c.row.length = 4 := rfl
/-- Faults that were picked, beside what was told. -/
structure FS (w u : World) (p b7 : Nat) (F : Nat → Prop) (C : Ch) (v : Value) (i : Nat) (ts : List Int) (v2 : Value) (xs : List Fc) : Prop where
  fa : FA w u p b7 F C v i ts
  own : u.ownsRow w.heap.size 58 4 v2 xs.length (xs.flatMap Fc.row)
  sf : ∀ g, v2.ownBlock = some g → ¬ F g
theorem own_lo {u : World} {B e size n g : Nat} {v : Value} {xs : List Value} (h : u.ownsRow B e size v n xs) (hg : v.ownBlock = some g) : B ≤ g := by
  rcases h.2 with ⟨hv, _⟩ | ⟨g', cap, cur, hv, hb, _⟩
  · rw [hv] at hg; cases hg
  · rw [hv] at hg; cases hg; exact hb
theorem FS.app {w u w1 : World} {p b7 : Nat} {F : Nat → Prop} {C : Ch} {v : Value} {i : Nat} {ts : List Int} {v2 : Value} {xs : List Fc} {x : Fc} {o : Obj} {g c : Nat} (h : FS w u p b7 F C v i ts v2 xs) (ho : w1.ownsRow w.heap.size 58 4 (.slice (some ⟨g, 0, none⟩) (xs.length + 1) c) (xs.length + 1) (xs.flatMap Fc.row ++ x.row)) (hg : (u.alloc o).grownBy w1 v2.ownBlock) (hl : v2.ownBlock = some g ∨ g = u.heap.size + 1) :
    FS w w1 p b7 F C v i ts (.slice (some ⟨g, 0, none⟩) (xs.length + 1) c) (xs ++ [x]) := by
  have hal := below_alloc u o
  have fa1 := h.fa.below hal
  have hG : Only (fun k => v2.ownBlock = some k) (u.alloc o) w1 := Only.ofG hg (fun j hj => hj)
  refine ⟨⟨fa1.hd.keepO hG (fun k hk hv => h.sf k hv hk) (fun y hy hv => ?_) (fun k hk => own_lo h.own hk), ?_, h.fa.tf⟩, ?_, fun k hk hf => ?_⟩
  · simp at hy
    subst hy
    obtain ⟨cs, hcs⟩ := own_tag h.own hv
    exact tag_ne (h.fa.hd.blk (List.mem_cons_self)) hcs (t := 23) (u := 58) rfl rfl (by decide) rfl
  · refine owns_keep fa1.told (fun k hk => ?_)
    obtain ⟨cs, hcs⟩ := own_tag fa1.told hk
    refine hG.block k (lt_of_block hcs) (fun hv => ?_)
    obtain ⟨cs2, hcs2⟩ := own_tag h.own hv
    have hcs3 : (u.alloc o).heap[k]? = some (.cells cs2 58 (0, 0)) := (alloc_old _ _ (lt_of_block hcs2)).trans hcs2
    exact tag_ne hcs hcs3 (t := 30) (u := 58) rfl rfl (by decide) rfl
  · rw [List.length_append, List.flatMap_append]
    simp only [List.length_cons, List.length_nil, List.flatMap_cons, List.flatMap_nil, List.append_nil]
    exact ho
  · cases hk
    rcases hl with hl | hl
    · exact h.sf g hl hf
    · have h9 : g < u.heap.size := h.fa.hd.ch.fin g hf
      omega
theorem FS.drew {w u : World} {p b7 : Nat} {F : Nat → Prop} {C : Ch} {v : Value} {i : Nat} {ts : List Int} {v2 : Value} {xs : List Fc} (h : FS w u p b7 F C v i ts v2 xs) : FS w u.drew p b7 F C v i ts v2 xs := ⟨h.fa.below (drew_below u), h.own, h.sf⟩
theorem FcOk.below {w w' : World} {c : Fc} (h : FcOk w c) (hb : Below w.heap.size w w') : FcOk w' c := ⟨h.rd.below hb, h.le, h.cap, h.fill, h.a, h.k⟩
theorem readsF_own {u : World} {B n c : Nat} {a : Option Addr} {xs : List Fc} (h : u.ownsRow B 58 4 (.slice a n c) n (xs.flatMap Fc.row)) (hok : ∀ x ∈ xs, FcOk u x) : ReadsF u a n xs := by
  have hl := flat_len Fc.row 4 Fc.row_len xs
  have hn : xs.length = n := by have := h.1; omega
  refine ⟨hn, hok, ?_, fun y hy i hi j hj => ?_⟩
  · intro ha
    rcases h.2 with ⟨_, h0⟩ | ⟨g, cap, cur, hv, _⟩
    · exact h0
    · rw [ha] at hv; cases hv
  · obtain ⟨g, c', hv, _⟩ := h.form (by omega)
    cases hv
    cases hy
    rw [plain_add, Nat.zero_add]
    have hil : i < xs.length := by omega
    rw [World.ownsRow.cellAt h (i * 4 + j) (by omega), flat_get Fc.row 4 Fc.row_len j hj xs i xs[i] (List.getElem?_eq_getElem hil)]
    rw [List.getD_eq_getElem?_getD, List.getElem?_eq_getElem hil]
    simp only [Option.getD_some]
    rcases j with _ | _ | _ | _ | j
    · rfl
    · rfl
    · rfl
    · rfl
    · omega
theorem news_fault (w : World) (x : Fc) : ∀ j u, x.row[j]? = some u → (w.alloc (.cells #[.int .i64 x.a, .int .i64 x.k, .slice x.ma x.ml x.mc, .int .u8 x.f] 58)).cell? ((⟨w.heap.size, 0, none⟩ : Addr).add j) = some u := by
  intro j u hj
  rw [plain_add, Nat.zero_add]
  have h := alloc_new w (.cells #[.int .i64 x.a, .int .i64 x.k, .slice x.ma x.ml x.mc, .int .u8 x.f] 58)
  simp only [World.cell?, h]
  rw [← hj]
  rcases j with _ | _ | _ | _ | j <;> rfl
theorem ReadsF.get {w : World} {a : Option Addr} {len : Nat} {fs : List Fc} (h : ReadsF w a len fs) {i : Nat} (hi : i < len) : ∃ b off x, a = some ⟨b, off, none⟩ ∧ b < w.heap.size ∧ fs[i]? = some x ∧ w.cell? ⟨b, off + i * 4, none⟩ = some (.int .i64 x.a) ∧ w.cell? ⟨b, off + i * 4 + 1, none⟩ = some (.int .i64 x.k) ∧ w.cell? ⟨b, off + i * 4 + 2, none⟩ = some (.slice x.ma x.ml x.mc) ∧ w.cell? ⟨b, off + i * 4 + 3, none⟩ = some (.int .u8 x.f) := by
  obtain ⟨b, off, ha, hb, hc⟩ := h.pos (by omega)
  have hil : i < fs.length := by rw [h.1]; exact hi
  have e : fs.getD i Fc.zero = fs[i] := by rw [List.getD_eq_getElem?_getD, List.getElem?_eq_getElem hil]; rfl
  obtain ⟨c0, c1, c2, c3⟩ := hc i hi
  rw [e] at c0 c1 c2 c3
  exact ⟨b, off, fs[i], ha, hb, List.getElem?_eq_getElem hil, c0, c1, c2, c3⟩
/-- Two chips, and what was told. -/
structure FD (w u : World) (p p2 b7 : Nat) (F F2 : Nat → Prop) (C D : Ch) (v : Value) (i : Nat) (ts : List Int) : Prop where
  fa : FA w u p2 b7 F2 D v i ts
  c : ChipAt u p F C
  dj : ∀ k, F k → ¬ F2 k
theorem FD.does {w u v' : World} {p p2 b7 : Nat} {F F2 : Nat → Prop} {C D D' : Ch} {v : Value} {i : Nat} {ts : List Int} (h : FD w u p p2 b7 F F2 C D v i ts) (hc : ChipAt v' p2 (Fx F2 u v') D') (ho : Only F2 u v') : FD w v' p p2 b7 F (Fx F2 u v') C D' v i ts :=
  ⟨h.fa.does hc ho, h.c.only ho h.dj, fun k hk hf => hf.elim (h.dj k hk) (fun h9 => by have := h.c.fin k hk; omega)⟩
theorem FD.below {w u v' : World} {p p2 b7 : Nat} {F F2 : Nat → Prop} {C D : Ch} {v : Value} {i : Nat} {ts : List Int} (h : FD w u p p2 b7 F F2 C D v i ts) (hb : Below u.heap.size u v') : FD w v' p p2 b7 F F2 C D v i ts := ⟨h.fa.below hb, h.c.below hb, h.dj⟩
theorem fd_start {w u v' : World} {p p2 b7 : Nat} {F : Nat → Prop} {C D : Ch} {v : Value} {i : Nat} {ts : List Int} (h : FA w u p b7 F C v i ts) (hc : ChipAt v' p2 (fun k => u.heap.size ≤ k ∧ k < v'.heap.size) D) (hb : Below u.heap.size u v') : FD w v' p p2 b7 F (fun k => u.heap.size ≤ k ∧ k < v'.heap.size) C D v i ts := by
  have h1 := h.below hb
  refine ⟨⟨⟨h1.hd.bel, hc, fun k hk => Nat.le_trans h.hd.bel.size hk.1, fun x hx => ⟨(h1.hd.kp x hx).1, fun hf => ?_, (h1.hd.kp x hx).2.2⟩⟩, h1.told, fun g hg hf => ?_⟩, h1.hd.ch, fun k hk hf => ?_⟩
  · have := lt_of_block (h.hd.kp x hx).1
    have := hf.1
    omega
  · obtain ⟨cs, hcs⟩ := own_tag h.told hg
    have := lt_of_block hcs
    have := hf.1
    omega
  · have := h.hd.ch.fin k hk
    have := hf.1
    omega
theorem told_cell {u : World} {B n g c : Nat} {ts : List Int} (h : u.ownsRow B 30 1 (.slice (some ⟨g, 0, none⟩) n c) n (ts.map (Value.int .i64))) {m : Nat} {z : Int} (hz : ts[m]? = some z) : u.cell? ⟨g, m, none⟩ = some (.int .i64 z) := by
  have hm : m < ts.length := (List.getElem?_eq_some_iff.1 hz).1
  have hl : ts.length = n := by have := h.1; simpa using this
  rw [World.ownsRow.cellAt h m (by omega), List.getElem?_map, hz]
  rfl
theorem owns_bel {u v' : World} {B e size n : Nat} {v : Value} {xs : List Value} (h : u.ownsRow B e size v n xs) (hb : Below u.heap.size u v') : v'.ownsRow B e size v n xs := owns_keep h (fun g hg => by obtain ⟨cs, hcs⟩ := own_tag h hg; exact hb.block g (lt_of_block hcs))
end Go.Proofs.Ytadlkikjfonkgaa
