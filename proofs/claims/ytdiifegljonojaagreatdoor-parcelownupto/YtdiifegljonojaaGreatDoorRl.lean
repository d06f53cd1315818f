/-
  SEAT YtdiifegljonojaaGreatDoor: a row is opened; what the reader gave up with is taken.
-/
import Derived.Test.YtdiifegljonojaaGreatDoorRk
import Derived.Defers
import Derived.Recover
namespace Go.Proofs.YtdiifegljonojaaGreatDoor
open Go.RowKit
set_option linter.unusedVariables false

theorem catch_idle (p1 p2 : Addr) (w : World) :
    CallsD Tryz.prog 42 #[.pointer (some p1), .pointer (some p2)] .returning w fun e u' w' => e = .returned (.tuple #[]) ∧ u' = .returning ∧ w' = w := by
  refine callsD_of_wpS Tryz.func42 rfl fun c₀ cs hu => ?_
  apply wpS_seq
  apply wpS_region
  simp [wpOpsS, go_sem, recoverD, hu, Tryz.ntmps42, Exit.thenS]
  refine wpS_of_wp ?_
  go_wp2
  cases c₀
  simp_all [bodyPostS, results, Tryz.results42]

theorem assert_fault (x : Int) (w : World) : (Instr.typeAssert (.iface 88 (.agg #[.int .i64 x])) 20 88 true).run Tryz.prog w = .ok (.tuple #[.agg #[.int .i64 x], .bool true]) w := by
  simp [Instr.typeAssert, run_underlying Tryz.underlying88]

set_option maxHeartbeats 1000000 in
set_option maxRecDepth 100000 in
theorem catch_fault (l g : Nat) (x y : Int) (s : Value) (older : List PanicEntry) (w : World) (hl : w.heap[l]? = some (.cells #[s] 58 (0, 0))) (hg : w.heap[g]? = some (.cells #[.int .i64 y] 26 (0, 0))) (hs : ∃ a n c, s = .slice a n c) :
    CallsD Tryz.prog 42 #[.pointer (some ⟨l, 0, none⟩), .pointer (some ⟨g, 0, none⟩)] (.panicking ({ v := .iface 88 (.agg #[.int .i64 x]), recovered := false } :: older)) w fun e u' w' =>
      e = .returned (.tuple #[]) ∧ u' = .panicking ({ v := .iface 88 (.agg #[.int .i64 x]), recovered := true } :: older) ∧ w'.heap[l]? = some (.cells #[.slice none 0 0] 58 (0, 0)) ∧ w'.heap[g]? = some (.cells #[.int .i64 x] 26 (0, 0)) ∧ Two w w' l g := by
  obtain ⟨a, n, c, rfl⟩ := hs
  have c1 : w.cell? ⟨l, 0, none⟩ = some (.slice a n c) := by simp [World.cell?, hl]
  have c2 : w.cell? ⟨g, 0, none⟩ = some (.int .i64 y) := by simp [World.cell?, hg]
  have f1 : w.frozen? ⟨l, 0, none⟩ = false := by simp [World.frozen?, hl]
  have f2 : w.frozen? ⟨g, 0, none⟩ = false := by simp [World.frozen?, hg]
  refine callsD_of_wpS Tryz.func42 rfl fun c₀ cs hu => ?_
  have ht : (#[.pointer (some ⟨l, 0, none⟩), .pointer (some ⟨g, 0, none⟩)] ++ Array.replicate (Tryz.f42.ntmps - (#[Value.pointer (some ⟨l, 0, none⟩), .pointer (some ⟨g, 0, none⟩)] : Array Value).size) undef : Array Value) = #[.pointer (some ⟨l, 0, none⟩), .pointer (some ⟨g, 0, none⟩), undef, undef, undef, undef, undef, undef, undef, undef, undef, undef, undef] := by rw [Tryz.ntmps42]; rfl
  rw [ht]
  clear ht
  apply wpS_seq
  apply wpS_region
  simp [wpOpsS, go_sem, recoverD, hu, Exit.thenS]
  refine wpS_of_wp ?_
  have HL := hide hl
  have HG := hide hg
  have HU := hide hu
  have hlt := (Array.getElem?_eq_some_iff.1 hl).1
  have hgt := (Array.getElem?_eq_some_iff.1 hg).1
  have hne : l ≠ g := fun e => by rw [e, hg] at hl; cases hl
  have hta := assert_fault x
  clear hl hg hu
  have HLT := hide hlt
  have HGT := hide hgt
  have b1 : (w.alloc (.cells #[.int .i64 x] 88)).cell? ⟨l, 0, none⟩ = some (.slice a n c) := by rw [(below_alloc w _).cell hlt]; exact c1
  have b2 : (w.alloc (.cells #[.int .i64 x] 88)).cell? ⟨g, 0, none⟩ = some (.int .i64 y) := by rw [(below_alloc w _).cell hgt]; exact c2
  have b3 : (w.alloc (.cells #[.int .i64 x] 88)).frozen? ⟨l, 0, none⟩ = false := by rw [(below_alloc w _).frozen hlt]; exact f1
  have b4 : (w.alloc (.cells #[.int .i64 x] 88)).frozen? ⟨g, 0, none⟩ = false := by rw [(below_alloc w _).frozen hgt]; exact f2
  have n1 : ¬ w.heap.size = l := by omega
  have n2 : ¬ l = w.heap.size := by omega
  have n3 : ¬ w.heap.size = g := by omega
  have n4 : ¬ g = w.heap.size := by omega
  have n5 : ¬ g = l := fun e => hne e.symm
  have n6 : ¬ l = g := hne
  have q1 : ((w.alloc (.cells #[.int .i64 x] 88)).setCell ⟨l, 0, none⟩ (.slice none 0 0)).cell? ⟨w.heap.size, 0, none⟩ = some (.int .i64 x) := by
    rw [World.cell?_setCell_other _ _ _ _ (by simp)]; simp
  have q2 : ((w.alloc (.cells #[.int .i64 x] 88)).setCell ⟨l, 0, none⟩ (.slice none 0 0)).cell? ⟨g, 0, none⟩ = some (.int .i64 y) := by
    rw [World.cell?_setCell_other _ _ _ _ (by simp)]; exact b2
  clear hlt hgt hne
  go_wp2
  go_region
  have k0 : (w.alloc (.cells #[.int .i64 x] 88)).heap[l]? = some (.cells #[.slice a n c] 58 (0, 0)) := by rw [Below.heap_alloc _ _ _ HLT.out]; exact HL.out
  have k1 : (w.alloc (.cells #[.int .i64 x] 88)).heap[g]? = some (.cells #[.int .i64 y] 26 (0, 0)) := by rw [Below.heap_alloc _ _ _ HGT.out]; exact HG.out
  have k2 := blk1_set k0 (.slice none 0 0)
  have k3 : ((w.alloc (.cells #[.int .i64 x] 88)).setCell ⟨l, 0, none⟩ (.slice none 0 0)).heap[g]? = some (.cells #[.int .i64 y] 26 (0, 0)) := by rw [Below.heap_setCell _ _ _ _ n5]; exact k1
  have k4 := blk1_set k3 (.int .i64 x)
  have k5 : (((w.alloc (.cells #[.int .i64 x] 88)).setCell ⟨l, 0, none⟩ (.slice none 0 0)).setCell ⟨g, 0, none⟩ (.int .i64 x)).heap[l]? = some (.cells #[.slice none 0 0] 58 (0, 0)) := by rw [Below.heap_setCell _ _ _ _ n6]; exact k2
  refine ⟨rfl, _, rfl, .tuple #[], by simp [results, Tryz.results42], rfl, rfl, k5, k4, ?_⟩
  have h1 : Two w (w.alloc (.cells #[.int .i64 x] 88)) l g := Two.of g (World.grownBy_alloc w _ _)
  have h2 : Two (w.alloc (.cells #[.int .i64 x] 88)) ((w.alloc (.cells #[.int .i64 x] 88)).setCell ⟨l, 0, none⟩ (.slice none 0 0)) l g := Two.of g (set_grown _ _ 0 _)
  have h3 : Two ((w.alloc (.cells #[.int .i64 x] 88)).setCell ⟨l, 0, none⟩ (.slice none 0 0)) (((w.alloc (.cells #[.int .i64 x] 88)).setCell ⟨l, 0, none⟩ (.slice none 0 0)).setCell ⟨g, 0, none⟩ (.int .i64 x)) l g := Two.of' l (set_grown _ _ 0 _)
  have h4 := (h1.trans h2).trans h3
  exact ⟨h4.os, h4.tape, h4.output, h4.size, h4.block⟩

/-- What opened answers. -/
def OpV (w : World) (B : Nat) (r : Except Int (List Pc)) (e : Ending) (w' : World) : Prop :=
  match r with
  | .error x => e = .returned (.tuple #[.slice none 0 0, .int .i64 x])
  | .ok l => ∃ v, e = .returned (.tuple #[v, .int .i64 0]) ∧ ∃ es : List Pe, es.map Pe.p = l ∧ w'.ownsRow w.heap.size 63 10 v es.length (flatP es) ∧ (∀ x ∈ es, x.Ok w' w.heap.size B) ∧ es.length ≤ 5000000

theorem openR_eq (bs : List Int) : openR bs = match piecesR bs with
  | .error e => .error e
  | .ok (l, r) => match endR bs r with
    | .error e => .error e
    | .ok _ => .ok l := by
  unfold openR endR
  cases piecesR bs with
  | error e => rfl
  | ok p =>
    obtain ⟨l, r⟩ := p
    simp only
    cases numR 4 r with
    | error e => rfl
    | ok p =>
      obtain ⟨s, r2⟩ := p
      simp only
      split
      · split <;> rfl
      · rfl

/-- What stands as the reader begins. -/
structure OpS (w u : World) (v : Value) (rest : List Int) : Prop where
  rd : RdAt u w.heap.size (w.heap.size + 2) rest
  lb : u.heap[w.heap.size]? = some (.cells #[v] 58 (0, 0))
  eb : u.heap[w.heap.size + 1]? = some (.cells #[.int .i64 0] 26 (0, 0))
  gr : Below w.heap.size w u

theorem OpS.call {w u u' : World} {v : Value} {rest r2 : List Int} (h : OpS w u v rest) (hg : u.grownBy u' (some (w.heap.size + 2))) (hr : RdAt u' w.heap.size (w.heap.size + 2) r2) : OpS w u' v r2 :=
  ⟨hr, (hg.block _ (Array.getElem?_eq_some_iff.1 h.lb).1 (fun e => by have := Option.some.inj e; omega)).trans h.lb, (hg.block _ (Array.getElem?_eq_some_iff.1 h.eb).1 (fun e => by have := Option.some.inj e; omega)).trans h.eb, h.gr.grown hg h.gr.size (fun k hk => by have := Option.some.inj hk; omega)⟩
theorem OpS.fail {w u u' : World} {v : Value} {rest : List Int} (h : OpS w u v rest) (hg : u.grownBy u' (some (w.heap.size + 2))) : u'.heap[w.heap.size]? = some (.cells #[v] 58 (0, 0)) ∧ u'.heap[w.heap.size + 1]? = some (.cells #[.int .i64 0] 26 (0, 0)) ∧ Below w.heap.size w u' :=
  ⟨(hg.block _ (Array.getElem?_eq_some_iff.1 h.lb).1 (fun e => by have := Option.some.inj e; omega)).trans h.lb, (hg.block _ (Array.getElem?_eq_some_iff.1 h.eb).1 (fun e => by have := Option.some.inj e; omega)).trans h.eb, h.gr.grown hg h.gr.size (fun k hk => by have := Option.some.inj hk; omega)⟩

theorem op_start (b off n c : Nat) (bs : List Int) (w : World) (hrow : Reads w (some ⟨b, off, none⟩) n bs) (hbw : b < w.heap.size) (hnc : n ≤ c) (hc : c ≤ 9223372036854775807) : OpS w (((w.alloc (.cells #[.slice none 0 0] 58)).alloc (.cells #[.int .i64 0] 26)).alloc (.cells #[.slice (some ⟨b, off, none⟩) n c] 91)) (.slice none 0 0) bs := by
  have hl := hrow.1
  have hb3 : Below w.heap.size w (((w.alloc (.cells #[.slice none 0 0] 58)).alloc (.cells #[.int .i64 0] 26)).alloc (.cells #[.slice (some ⟨b, off, none⟩) n c] 91)) := (((Below.refl _ _).alloc (Nat.le_refl _) _).alloc (by simp) _).alloc (by simp; omega) _
  refine ⟨⟨b, off, c, ?_, ?_, by omega, hc, hbw, by omega⟩, ?_, ?_, hb3⟩
  · rw [hl]
    have h9 := heap_alloc_new ((w.alloc (.cells #[.slice none 0 0] 58)).alloc (.cells #[.int .i64 0] 26)) (.cells #[.slice (some ⟨b, off, none⟩) n c] 91); rw [World.size_alloc, World.size_alloc] at h9; exact h9
  · rw [hl]; exact hrow.below hb3
  · rw [Below.heap_alloc _ _ _ (by simp; omega), Below.heap_alloc _ _ _ (by simp)]; exact heap_alloc_new _ _
  · rw [Below.heap_alloc _ _ _ (by simp)]
    have h9 := heap_alloc_new (w.alloc (.cells #[.slice none 0 0] 58)) (.cells #[.int .i64 0] 26); rw [World.size_alloc] at h9; exact h9

set_option maxHeartbeats 2000000 in
set_option maxRecDepth 100000 in
theorem opened_err (b off n c : Nat) (bs : List Int) (x : Int) (w : World) (hrow : Reads w (some ⟨b, off, none⟩) n bs) (hbw : b < w.heap.size) (hn : n ≤ 4194304) (hnc : n ≤ c) (hc : c ≤ 9223372036854775807) (ht : Tab w) (hp : piecesR bs = .error x) :
    Calls Tryz.prog 23 #[.slice (some ⟨b, off, none⟩) n c] w fun e w' => e = .returned (.tuple #[.slice none 0 0, .int .i64 x]) ∧ Below w.heap.size w w' := by
  have hmf : ∀ (fn : Fn) (first cap : Array Value) (w : World), (Instr.makeFunc fn first cap).run Tryz.prog w = .ok (.func fn first cap) w := fun _ _ _ _ => rfl
  have HS := hide (op_start b off n c bs w hrow hbw hnc hc)
  have hl := hrow.1
  have HL := hide hl
  have HP := hide hp
  clear hrow hp hl
  go_enter_defers Tryz.func23, Tryz.ntmps23
  go_wp2_with (first
    | (go_at_call 43; refine (pieces_any w.heap.size (w.heap.size + 2) bs _ HS.out.rd (by have := HL.out; omega)).mono ?_; intro e u1 lf; rw [HP.out] at lf; obtain ⟨rfl, g1⟩ := lf; have HF := hide (HS.out.fail g1); clear g1))
  refine leaves_cons (f := 42) (args := #[.pointer (some ⟨w.heap.size, 0, none⟩), .pointer (some ⟨w.heap.size + 1, 0, none⟩)]) (by simp) (by simp [go_sem]) ?_
  refine (catch_fault w.heap.size (w.heap.size + 1) x 0 (.slice none 0 0) [] _ HF.out.1 HF.out.2.1 ⟨_, _, _, rfl⟩).mono ?_
  rintro e u' w'' ⟨rfl, rfl, k1, k2, t3⟩
  have d1 : w''.cell? ⟨w.heap.size, 0, none⟩ = some (.slice none 0 0) := by simp [World.cell?, k1]
  have d2 : w''.cell? ⟨w.heap.size + 1, 0, none⟩ = some (.int .i64 x) := by simp [World.cell?, k2]
  simp [Leaves, settle, results, Tryz.results23, go_sem, d1, d2]
  have hb := HF.out.2.2
  exact ⟨t3.os.trans hb.os, t3.tape.trans hb.tape, t3.output.trans hb.output, Nat.le_trans hb.size t3.size, fun k hk => (t3.block k (Nat.lt_of_lt_of_le hk hb.size) (by omega) (by omega)).trans (hb.block k hk)⟩

/-- A list of pieces, as it lies. -/
structure PsK (B0 B : Nat) (v : Value) (es : List Pe) (w : World) : Prop where
  own : w.ownsRow B0 63 10 v es.length (flatP es)
  oks : ∀ x ∈ es, x.Ok w B0 B
theorem PsK.kept {w w' : World} {B0 B i : Nat} {v : Value} {es : List Pe} {cs : Array Value} {t : TypeId} (h : PsK B0 B v es w) (hg : w.grownBy w' (some i)) (hi : w.heap[i]? = some (.cells cs t (0, 0))) (h1 : t ≠ 9) (h2 : t ≠ 94) (h3 : t ≠ 63) (hB : B ≤ i) (hBw : B ≤ w.heap.size) : PsK B0 B v es w' := by
  refine ⟨h.own.kept hg ?_, fun x hx => (h.oks x hx).kept hg hi h1 h2 hB hBw⟩
  rcases h.own.2 with ⟨hv, _⟩ | ⟨g, cap, cur, hv, _, hg2, _⟩
  · left; rw [hv]; rfl
  · right
    rw [hv]
    intro e
    have e' : g = i := Option.some.inj e
    rw [← e', hg2] at hi
    cases hi
    exact h3 rfl
theorem PsK.below {w w' : World} {B0 B : Nat} {v : Value} {es : List Pe} (h : PsK B0 B v es w) (hb : Below w.heap.size w w') (hBw : B ≤ w.heap.size) : PsK B0 B v es w' := by
  refine ⟨h.own.kept (grown_of hb none) ?_, fun x hx => (h.oks x hx).below hb hBw⟩
  cases v.ownBlock with
  | none => exact Or.inl rfl
  | some k => exact Or.inr (fun e => by cases e)
theorem PsK.shape {w : World} {B0 B : Nat} {v : Value} {es : List Pe} (h : PsK B0 B v es w) : ∃ a c, v = .slice a es.length c ∧ es.length ≤ c := by
  rcases h.own.2 with ⟨hv, h0⟩ | ⟨g, cap, cur, hv, _, _, hc, _⟩
  · exact ⟨none, 0, by rw [hv, h0], by omega⟩
  · exact ⟨_, _, hv, hc⟩
theorem PsK.lower {w : World} {B0 B1 B : Nat} {v : Value} {es : List Pe} (h : PsK B0 B v es w) (hb : B1 ≤ B0) : PsK B1 B v es w :=
  ⟨row_lower h.own hb, fun x hx => ⟨Pt.Ow.lower (h.oks x hx).ow hb, SgOn.lower (h.oks x hx).sg hb, (h.oks x hx).sz, (h.oks x hx).nm⟩⟩

theorem OpS.setL {w u : World} {v : Value} {rest : List Int} (h : OpS w u v rest) (x : Value) : OpS w (u.setCell ⟨w.heap.size, 0, none⟩ x) x rest := by
  have hg := set_grown u w.heap.size 0 x
  exact ⟨h.rd.set (by omega) (Nat.le_refl _) x, blk1_set h.lb x, (hg.block _ (Array.getElem?_eq_some_iff.1 h.eb).1 (fun e => by have := Option.some.inj e; omega)).trans h.eb, h.gr.grown hg h.gr.size (fun k hk => by have := Option.some.inj hk; omega)⟩

theorem piecesR_len {bs r : List Int} {l : List Pc} (h : piecesR bs = .ok (l, r)) : r.length ≤ bs.length := by
  unfold piecesR at h
  split at h
  · split at h
    · cases h
    · rename_i ms r1 h1
      have l1 := modeR_le h1
      rw [List.length_drop] at l1
      have key : ∀ (f : Nat) (a : Pc) (acc : List Pc) (b : List Int), piecesL f a acc b = .ok (l, r) → Nms a.names → r.length ≤ b.length := by
        intro f
        induction f with
        | zero => intro a acc b h; cases h
        | succ f ih =>
          intro a acc b h hn
          rw [piecesL] at h
          split at h
          · cases h
          · rename_i d r2 h2
            have l2 : r2.length ≤ b.length := by rw [(numR_ok h2).2.2, List.length_drop]; omega
            split at h
            · cases h; exact l2
            · split at h
              · rename_i hd
                split at h
                · cases h
                · rename_i p r3 h3
                  have h4 := pieceR_ok h3 hn (by have := hd.1; omega)
                  have := ih _ _ _ h h4.1
                  omega
              · cases h
      have := key _ _ _ _ h ⟨Nat.zero_le _, fun x hx => by cases hx⟩
      omega
  · cases h

set_option maxHeartbeats 2000000 in
set_option maxRecDepth 100000 in
theorem opened_bad (b off n c : Nat) (bs r : List Int) (l : List Pc) (x : Int) (w : World) (hrow : Reads w (some ⟨b, off, none⟩) n bs) (hbw : b < w.heap.size) (hn : n ≤ 4194304) (hnc : n ≤ c) (hc : c ≤ 9223372036854775807) (ht : Tab w) (hp : piecesR bs = .ok (l, r)) (he : endR bs r = .error x) :
    Calls Tryz.prog 23 #[.slice (some ⟨b, off, none⟩) n c] w fun e w' => e = .returned (.tuple #[.slice none 0 0, .int .i64 x]) ∧ Below w.heap.size w w' := by
  have hmf : ∀ (fn : Fn) (first cap : Array Value) (w : World), (Instr.makeFunc fn first cap).run Tryz.prog w = .ok (.func fn first cap) w := fun _ _ _ _ => rfl
  have HS := hide (op_start b off n c bs w hrow hbw hnc hc)
  have hl := hrow.1
  have HL := hide hl
  have HP := hide hp
  have HE := hide he
  have HRW := hide hrow
  have HT := hide ht
  have hrn : r.length ≤ n := by have := piecesR_len hp; omega
  clear hrow hp hl he ht
  go_enter_defers Tryz.func23, Tryz.ntmps23
  go_wp2_with (first
    | (go_at_call 43; refine (pieces_any w.heap.size (w.heap.size + 2) bs _ HS.out.rd (by have := HL.out; omega)).mono ?_; intro e u1 lf; rw [HP.out] at lf; obtain ⟨val, rfl, pv, rd1, g1⟩ := lf
       obtain ⟨es, he1, he2, he3, he4⟩ := pv
       have hk : PsK _ _ val es u1 := ⟨he2, he3⟩
       obtain ⟨va, vc, rfl, _⟩ := hk.shape
       have hs1 := HS.out.call g1 rd1
       have q1 : u1.cell? ⟨w.heap.size, 0, none⟩ = some (.slice none 0 0) := by have := hs1.lb; simp [World.cell?, this]
       have q2 : u1.frozen? ⟨w.heap.size, 0, none⟩ = false := by have := hs1.lb; simp [World.frozen?, this]
       have HS1 := hide (hs1.setL (.slice va es.length vc))
       clear rd1 g1 he1 he2 he3 he4 hk hs1)
    | (go_at_call 44; refine (end_any w.heap.size (w.heap.size + 2) b off n c bs r _ HS1.out.rd (HRW.out.below HS1.out.gr) (by omega) hnc hc hrn (HT.out.below HS1.out.gr)).mono ?_; intro e u2 lf; rw [HE.out] at lf; obtain ⟨rfl, g2⟩ := lf; have HF := hide (HS1.out.fail g2); clear g2 q1 q2))
  refine leaves_cons (f := 42) (args := #[.pointer (some ⟨w.heap.size, 0, none⟩), .pointer (some ⟨w.heap.size + 1, 0, none⟩)]) (by simp) (by simp [go_sem]) ?_
  refine (catch_fault w.heap.size (w.heap.size + 1) x 0 (.slice va es.length vc) [] _ HF.out.1 HF.out.2.1 ⟨_, _, _, rfl⟩).mono ?_
  rintro e u' w'' ⟨rfl, rfl, k1, k2, t3⟩
  have d1 : w''.cell? ⟨w.heap.size, 0, none⟩ = some (.slice none 0 0) := by simp [World.cell?, k1]
  have d2 : w''.cell? ⟨w.heap.size + 1, 0, none⟩ = some (.int .i64 x) := by simp [World.cell?, k2]
  simp [Leaves, settle, results, Tryz.results23, go_sem, d1, d2]
  have hb := HF.out.2.2
  exact ⟨t3.os.trans hb.os, t3.tape.trans hb.tape, t3.output.trans hb.output, Nat.le_trans hb.size t3.size, fun k hk => (t3.block k (Nat.lt_of_lt_of_le hk hb.size) (by omega) (by omega)).trans (hb.block k hk)⟩

set_option maxHeartbeats 2000000 in
set_option maxRecDepth 100000 in
theorem opened_ok (b off n c : Nat) (bs r : List Int) (l : List Pc) (y : Unit × List Int) (w : World) (hrow : Reads w (some ⟨b, off, none⟩) n bs) (hbw : b < w.heap.size) (hn : n ≤ 4194304) (hnc : n ≤ c) (hc : c ≤ 9223372036854775807) (ht : Tab w) (hp : piecesR bs = .ok (l, r)) (he : endR bs r = .ok y) :
    Calls Tryz.prog 23 #[.slice (some ⟨b, off, none⟩) n c] w fun e w' => (∃ v es, e = .returned (.tuple #[v, .int .i64 0]) ∧ es.map Pe.p = l ∧ PsK w.heap.size w.heap.size v es w' ∧ es.length ≤ 5000000) ∧ Below w.heap.size w w' := by
  have hmf : ∀ (fn : Fn) (first cap : Array Value) (w : World), (Instr.makeFunc fn first cap).run Tryz.prog w = .ok (.func fn first cap) w := fun _ _ _ _ => rfl
  have HS := hide (op_start b off n c bs w hrow hbw hnc hc)
  have hl := hrow.1
  have HL := hide hl
  have HP := hide hp
  have HE := hide he
  have HRW := hide hrow
  have HT := hide ht
  have hrn : r.length ≤ n := by have := piecesR_len hp; omega
  clear hrow hp hl he ht
  go_enter_defers Tryz.func23, Tryz.ntmps23
  go_wp2_with (first
    | (go_at_call 43; refine (pieces_any w.heap.size (w.heap.size + 2) bs _ HS.out.rd (by have := HL.out; omega)).mono ?_; intro e u1 lf; rw [HP.out] at lf; obtain ⟨val, rfl, pv, rd1, g1⟩ := lf
       obtain ⟨es, he1, he2, he3, he4⟩ := pv
       have hk : PsK _ _ val es u1 := ⟨he2, he3⟩
       obtain ⟨va, vc, rfl, _⟩ := hk.shape
       have hs1 := HS.out.call g1 rd1
       have q1 : u1.cell? ⟨w.heap.size, 0, none⟩ = some (.slice none 0 0) := by have := hs1.lb; simp [World.cell?, this]
       have q2 : u1.frozen? ⟨w.heap.size, 0, none⟩ = false := by have := hs1.lb; simp [World.frozen?, this]
       have HS1 := hide (hs1.setL (.slice va es.length vc))
       have HK1 := hide ((hk.lower HS.out.gr.size).kept (set_grown u1 w.heap.size 0 (.slice va es.length vc)) hs1.lb (by decide) (by decide) (by decide) (Nat.le_refl _) hs1.gr.size)
       have HE1 := hide he1
       have HE4 := hide he4
       clear rd1 g1 he1 he2 he3 he4 hk hs1)
    | (go_at_call 44; refine (end_any w.heap.size (w.heap.size + 2) b off n c bs r _ HS1.out.rd (HRW.out.below HS1.out.gr) (by omega) hnc hc hrn (HT.out.below HS1.out.gr)).mono ?_; intro e u2 lf; rw [HE.out] at lf; obtain ⟨val, rfl, rfl, rd2, g2⟩ := lf
       have hs2 := HS1.out.call g2 rd2
       have HK2 : Hid (PsK w.heap.size w.heap.size (.slice va es.length vc) es u2) := (by obtain ⟨b9, o9, c9, h9, _⟩ := HS1.out.rd; exact HK1.out.kept g2 h9 (by decide) (by decide) (by decide) (by omega) HS1.out.gr.size)
       clear q1 q2
       have q1 : u2.cell? ⟨w.heap.size, 0, none⟩ = some (.slice va es.length vc) := by have := hs2.lb; simp [World.cell?, this]
       have q2 : u2.frozen? ⟨w.heap.size, 0, none⟩ = false := by have := hs2.lb; simp [World.frozen?, this]
       have q3 : u2.cell? ⟨w.heap.size + 1, 0, none⟩ = some (.int .i64 0) := by have := hs2.eb; simp [World.cell?, this]
       have q4 : u2.frozen? ⟨w.heap.size + 1, 0, none⟩ = false := by have := hs2.eb; simp [World.frozen?, this]
       have HS2 := hide hs2
       clear g2 rd2 hs2))
  have hs3 := HS2.out.setL (.slice va es.length vc)
  have hk3 := HK2.out.kept (set_grown u2 w.heap.size 0 (.slice va es.length vc)) HS2.out.lb (by decide) (by decide) (by decide) (Nat.le_refl _) HS2.out.gr.size
  have hk4 := hk3.kept (set_grown _ (w.heap.size + 1) 0 (.int .i64 0)) hs3.eb (by decide) (by decide) (by decide) (by omega) hs3.gr.size
  have hb4 := hs3.gr.grown (set_grown _ (w.heap.size + 1) 0 (.int .i64 0)) hs3.gr.size (fun k hk => by have := Option.some.inj hk; omega)
  have d1 : (((u2.setCell ⟨w.heap.size, 0, none⟩ (.slice va es.length vc)).setCell ⟨w.heap.size + 1, 0, none⟩ (.int .i64 0))).cell? ⟨w.heap.size, 0, none⟩ = some (.slice va es.length vc) := by
    rw [World.cell?_setCell_other _ _ _ _ (by simp)]; have := hs3.lb; simp [World.cell?, this]
  have d2 : (((u2.setCell ⟨w.heap.size, 0, none⟩ (.slice va es.length vc)).setCell ⟨w.heap.size + 1, 0, none⟩ (.int .i64 0))).cell? ⟨w.heap.size + 1, 0, none⟩ = some (.int .i64 0) := by
    have := blk1_set hs3.eb (.int .i64 0); simp [World.cell?, this]
  generalize ((u2.setCell ⟨w.heap.size, 0, none⟩ (.slice va es.length vc)).setCell ⟨w.heap.size + 1, 0, none⟩ (.int .i64 0)) = W at *
  refine leaves_cons (f := 42) (args := #[.pointer (some ⟨w.heap.size, 0, none⟩), .pointer (some ⟨w.heap.size + 1, 0, none⟩)]) (by simp) (by simp [go_sem]) ?_
  refine (catch_idle ⟨w.heap.size, 0, none⟩ ⟨w.heap.size + 1, 0, none⟩ _).mono ?_
  rintro e u' w'' ⟨rfl, rfl, rfl⟩
  simp [Leaves, settle, results, Tryz.results23, go_sem, d1, d2]
  exact ⟨⟨es, HE1.out, hk4, HE4.out⟩, hb4⟩
end Go.Proofs.YtdiifegljonojaaGreatDoor
