/-
  SEAT YtdiifegljonojaaDoor: the reference reads a row.
-/
import Derived.Test.YtdiifegljonojaaDoorSx
import Derived.Test.YtdiifegljonojaaDoorSm
namespace Go.Proofs.YtdiifegljonojaaDoor
open Go.RowKit
set_option linter.unusedVariables false

theorem past_two {w u u' : World} {i : Nat} (h : Below w.heap.size w u) (hg : u.grownBy u' (some i)) (hi : w.heap.size ≤ i) : Below w.heap.size w u' :=
  h.grown hg h.size (fun k e => by have := Option.some.inj e; omega)
theorem below_drewN {B : Nat} {w u : World} (h : Below B w u) (k : Nat) : Below B w (u.drewN k) := ⟨h.os, h.tape, h.output, h.size, h.block⟩
theorem modeR_rest {x r : List Int} {ms : Int × Int} (h : modeR x = .ok (ms, r)) : r = x.drop 10 := by
  unfold modeR at h
  cases h1 : wholeR 2 0 4095 x with
  | error e => rw [h1] at h; cases h
  | ok p =>
    obtain ⟨m, r1⟩ := p
    rw [h1] at h
    simp only at h
    have hr1 := (wholeR_ok h1).2.2.2.2
    unfold numR at h
    by_cases h2 : 8 ≤ r1.length
    · rw [if_pos h2] at h
      cases h
      rw [hr1, List.drop_drop]
    · rw [if_neg h2] at h
      cases h
theorem leafR_er {ns : List ByteArray} {most x : Int} {bs : List Int} (hb : Byt bs) (h : leafR ns most bs = .error x) : Er x := by
  rw [leafR_piece hb] at h
  cases h1 : numR 1 bs with
  | error e => rw [h1] at h; cases h; exact numR_er h1
  | ok p =>
    obtain ⟨d, r⟩ := p
    rw [h1] at h
    simp only at h
    by_cases hd : d ≤ most
    · rw [if_pos hd] at h; exact pieceR_er h
    · rw [if_neg hd] at h; cases h; exact er1
theorem mostT_lt (ty : Int) (n : Nat) : mostT ty n < 64 := by unfold mostT; split <;> omega
theorem LsOn.two {w u : World} {B0 i : Nat} {v : Value} {es : List Le} {cs : Array Value} {t : TypeId} (h : LsOn w B0 v es) (hg : w.grownBy u (some i)) (hi : w.heap[i]? = some (.cells cs t (0, 0))) (h5 : t ≠ 5) (h41 : t ≠ 41) : LsOn u B0 v es :=
  ⟨row_two h.own hg hi h41, fun x hx => (h.oks x hx).two hg hi h5⟩
theorem RW.past_row {w u : World} {q B0 n : Nat} {t : Rw} {v : Value} {vs : List Value} (h : RW w q t) (ho : w.ownsRow B0 41 6 v n vs) (hg : w.grownBy u v.ownBlock) : RW u q t := by
  refine h.other hg ?_
  intro e
  rcases ho.2 with ⟨hv, _⟩ | ⟨g, cap, cur, hv, _, hg2, _⟩
  · rw [hv] at e; cases e
  · rw [hv] at e
    have e' : g = q := Option.some.inj e
    rw [e', h] at hg2
    cases hg2
theorem num_take4 {rs : List Int} {z : Int} (h : takeR 4 rs = .error z) : numR 4 rs = .error 190 := by
  unfold takeR at h
  unfold numR
  by_cases h4 : 4 ≤ rs.length
  · rw [if_pos h4] at h; cases h
  · rw [if_neg h4]

set_option maxHeartbeats 2000000 in
set_option maxRecDepth 100000 in
theorem rread_bad (b off n c : Nat) (bs : List Int) (w : World) (hrow : Reads w (some ⟨b, off, none⟩) n bs) (hn : n ≤ 1048640) (hbad : ¬ bs.take 5 = [80, 82, 67, 76, 1]) :
    Calls Tryd.prog 9 #[.slice (some ⟨b, off, none⟩) n c] w fun e w' => e = .returned (.tuple #[.slice none 0 0, .int .i64 190]) ∧ w' = w := by
  have hl := hrow.1
  by_cases h5 : n < 5
  · have i5 : (n : Int) < 5 := by omega
    clear hrow hbad hl
    go_enter Tryd.func9, Tryd.ntmps9
    go_wp2
    go_ret2
    exact ⟨rfl, rfl⟩
  · have d5 : decide ((n : Int) < 5) = false := decide_eq_false (by omega)
    obtain ⟨x0, x1, x2, x3, x4, r, hbs⟩ : ∃ x0 x1 x2 x3 x4 r, bs = x0 :: x1 :: x2 :: x3 :: x4 :: r := by
      have h9 : 5 ≤ bs.length := by omega
      match bs, h9 with
      | x0 :: x1 :: x2 :: x3 :: x4 :: r, _ => exact ⟨x0, x1, x2, x3, x4, r, rfl⟩
    have c0 : w.cell? ⟨b, off, none⟩ = some (.int .u8 x0) := by have h9 := hrow.2.2.2 _ rfl 0 (by omega); rw [hbs, plain_add] at h9; exact h9
    have c1 : w.cell? ⟨b, off + 1, none⟩ = some (.int .u8 x1) := by have h9 := hrow.2.2.2 _ rfl 1 (by omega); rw [hbs, plain_add] at h9; exact h9
    have c2 : w.cell? ⟨b, off + 2, none⟩ = some (.int .u8 x2) := by have h9 := hrow.2.2.2 _ rfl 2 (by omega); rw [hbs, plain_add] at h9; exact h9
    have c3 : w.cell? ⟨b, off + 3, none⟩ = some (.int .u8 x3) := by have h9 := hrow.2.2.2 _ rfl 3 (by omega); rw [hbs, plain_add] at h9; exact h9
    have c4 : w.cell? ⟨b, off + 4, none⟩ = some (.int .u8 x4) := by have h9 := hrow.2.2.2 _ rfl 4 (by omega); rw [hbs, plain_add] at h9; exact h9
    have j0 : (0 : Int) < (n : Int) := by omega
    have j1 : (1 : Int) < (n : Int) := by omega
    have j2 : (2 : Int) < (n : Int) := by omega
    have j3 : (3 : Int) < (n : Int) := by omega
    have j4 : (4 : Int) < (n : Int) := by omega
    rw [hbs] at hbad
    clear hrow hl h5 hbs
    by_cases h0 : x0 = 80
    · subst h0
      by_cases h1 : x1 = 82
      · subst h1
        by_cases h2 : x2 = 67
        · subst h2
          by_cases h3 : x3 = 76
          · subst h3
            by_cases h4 : x4 = 1
            · subst h4
              exact absurd rfl hbad
            · have e4 : (x4 != 1) = true := by simp [h4]
              clear hbad
              go_enter Tryd.func9, Tryd.ntmps9
              go_wp2
              go_ret2
              exact ⟨rfl, rfl⟩
          · have e3 : (x3 != 76) = true := by simp [h3]
            clear hbad
            go_enter Tryd.func9, Tryd.ntmps9
            go_wp2
            go_ret2
            exact ⟨rfl, rfl⟩
        · have e2 : (x2 != 67) = true := by simp [h2]
          clear hbad
          go_enter Tryd.func9, Tryd.ntmps9
          go_wp2
          go_ret2
          exact ⟨rfl, rfl⟩
      · have e1 : (x1 != 82) = true := by simp [h1]
        clear hbad
        go_enter Tryd.func9, Tryd.ntmps9
        go_wp2
        go_ret2
        exact ⟨rfl, rfl⟩
    · have e0 : (x0 != 80) = true := by simp [h0]
      clear hbad
      go_enter Tryd.func9, Tryd.ntmps9
      go_wp2
      go_ret2
      exact ⟨rfl, rfl⟩

/-- What stands in the rounds of the reference's Read. -/
def RrInv (w : World) (bs : List Int) (g : Nat) (s6 : Value) (wr : World) : Prop :=
  ∃ (t : Rw) (es : List Le), (∃ a c, s6 = .slice a es.length c) ∧ Below w.heap.size w wr ∧ t.dry = false ∧ RW wr w.heap.size t ∧ t.Ok wr bs w.heap.size w.heap.size ∧ wr.ownsRow w.heap.size 41 6 s6 es.length (flatL es) ∧ es.length + g ≤ 1048640 ∧
    ((t.e = 0 ∧ ∃ (a : Pc) (ps : List Pc) (es0 : List Le) (d : Value), es = es0 ++ [⟨leafOf a, d⟩] ∧ es.map Le.l = ps.map leafOf ∧ (∀ x ∈ es, DtOn wr w.heap.size x.d x.l.data) ∧ Nv a.names ∧ (a.ty = 2 ∨ 1 ≤ a.names.length) ∧ (bs.drop t.pos).length ≤ g ∧ piecesR bs = piecesL (g + 1) a ps (bs.drop t.pos))
      ∨ (t.e ≠ 0 ∧ piecesR bs = .error t.e))
theorem pr_head {bs : List Int} (h : bs.take 5 = [80, 82, 67, 76, 1]) : piecesR bs = match modeR (bs.drop 5) with
    | .error e => .error e
    | .ok (ms, r) => piecesL (r.length + 1) (rootP ms.1 ms.2) [rootP ms.1 ms.2] r := by unfold piecesR; rw [if_pos h]; rfl
theorem mode_both {bs : List Int} {s0 s1 s2 : Rw} {v1 v2 : Int} (hb : Byt bs) (h0 : s0.e = 0) (f1 : NumF 2 0 4095 bs s0 s1 v1) (f2 : NumF 8 0 18446744073709551615 bs s1 s2 v2) :
    (s2.e ≠ 0 ∧ modeR (bs.drop s0.pos) = .error s2.e) ∨ (s2.e = 0 ∧ modeR (bs.drop s0.pos) = .ok ((v1, v2), bs.drop s2.pos)) := by
  unfold modeR
  cases h1 : wholeR 2 0 4095 (bs.drop s0.pos) with
  | error x =>
    have e1 := f1.er x h0 h1
    have hx := (wholeR_er h1).ne
    have e2 := f2.dead (by rw [e1]; exact hx)
    left
    rw [e2, e1]
    exact ⟨hx, rfl⟩
  | ok p =>
    obtain ⟨v, r⟩ := p
    obtain ⟨z1, rfl, rfl⟩ := f1.ok _ _ h0 h1
    simp only
    rw [← whole8 (byt_drop hb _)]
    cases h2 : wholeR 8 0 18446744073709551615 (bs.drop s1.pos) with
    | error x =>
      have e2 := f2.er x z1 h2
      left
      rw [e2]
      exact ⟨(wholeR_er h2).ne, rfl⟩
    | ok p =>
      obtain ⟨v', r'⟩ := p
      obtain ⟨z2, rfl, rfl⟩ := f2.ok _ _ z1 h2
      exact Or.inr ⟨z2, rfl⟩
theorem openR_err {bs : List Int} {x : Int} (h : piecesR bs = .error x) : openR bs = .error x := by unfold openR; rw [h]
theorem openR_fine {bs r : List Int} {l : List Pc} (h : piecesR bs = .ok (l, r)) : openR bs = match numR 4 r with
    | .error e => .error e
    | .ok (s, r2) => if s = ((sumL (nats (bs.take (bs.length - r.length))) : Nat) : Int) then (if r2 = [] then .ok l else .error 190) else .error 192 := by unfold openR; rw [h]; rfl
theorem nv_nil : Nv [] := ⟨fun x hx => (by cases hx), (by simp), (by decide)⟩

set_option maxHeartbeats 8000000 in
set_option maxRecDepth 100000 in
theorem rread_main (b off n c : Nat) (bs : List Int) (w : World) (hrow : Reads w (some ⟨b, off, none⟩) n bs) (hbw : b < w.heap.size) (hn : n ≤ 1048640) (hnc : n ≤ c) (hc : c ≤ 9223372036854775807) (hok : bs.take 5 = [80, 82, 67, 76, 1]) :
    Calls Tryd.prog 9 #[.slice (some ⟨b, off, none⟩) n c] w fun e w' => RdV w (openR bs) e w' ∧ Below w.heap.size w w' := by
  have hl := hrow.1
  have hby : Byt bs := hrow.2.1
  have HBY := hide hby
  have HROW := hide hrow
  have HPR := hide (pr_head hok)
  have h5 : 5 ≤ n := by have h9 := congrArg List.length hok; rw [List.length_take] at h9; simp at h9; omega
  obtain ⟨r5, hbs⟩ : ∃ r, bs = 80 :: 82 :: 67 :: 76 :: 1 :: r := ⟨bs.drop 5, by have h9 := (List.take_append_drop 5 bs).symm; rw [hok] at h9; exact h9⟩
  have c0 : w.cell? ⟨b, off, none⟩ = some (.int .u8 80) := by have h9 := hrow.2.2.2 _ rfl 0 (by omega); rw [hbs, plain_add] at h9; exact h9
  have c1 : w.cell? ⟨b, off + 1, none⟩ = some (.int .u8 82) := by have h9 := hrow.2.2.2 _ rfl 1 (by omega); rw [hbs, plain_add] at h9; exact h9
  have c2 : w.cell? ⟨b, off + 2, none⟩ = some (.int .u8 67) := by have h9 := hrow.2.2.2 _ rfl 2 (by omega); rw [hbs, plain_add] at h9; exact h9
  have c3 : w.cell? ⟨b, off + 3, none⟩ = some (.int .u8 76) := by have h9 := hrow.2.2.2 _ rfl 3 (by omega); rw [hbs, plain_add] at h9; exact h9
  have c4 : w.cell? ⟨b, off + 4, none⟩ = some (.int .u8 1) := by have h9 := hrow.2.2.2 _ rfl 4 (by omega); rw [hbs, plain_add] at h9; exact h9
  have j0 : (0 : Int) < (n : Int) := by omega
  have j1 : (1 : Int) < (n : Int) := by omega
  have j2 : (2 : Int) < (n : Int) := by omega
  have j3 : (3 : Int) < (n : Int) := by omega
  have j4 : (4 : Int) < (n : Int) := by omega
  have d5 : decide ((n : Int) < 5) = false := decide_eq_false (by omega)
  have hb0 := below_alloc w (.cells #[.slice (some ⟨b, off, none⟩) n c, .int .i64 5, .int .i64 0, .int .i64 0, .bool false] 50)
  have hb1 := below_alloc (w.alloc (.cells #[.slice (some ⟨b, off, none⟩) n c, .int .i64 5, .int .i64 0, .int .i64 0, .bool false] 50)) (.cells #[.string ⟨#[47]⟩, .int .i64 2, .int .i64 0, .int .u64 0, .slice none 0 0, .string ⟨#[]⟩] 41)
  have hf1 : FB ((w.alloc (.cells #[.slice (some ⟨b, off, none⟩) n c, .int .i64 5, .int .i64 0, .int .i64 0, .bool false] 50)).alloc (.cells #[.string ⟨#[47]⟩, .int .i64 2, .int .i64 0, .int .u64 0, .slice none 0 0, .string ⟨#[]⟩] 41)) (w.alloc (.cells #[.slice (some ⟨b, off, none⟩) n c, .int .i64 5, .int .i64 0, .int .i64 0, .bool false] 50)).heap.size (.string ⟨#[47]⟩) (.int .i64 2) (.int .i64 0) (.int .u64 0) (.slice none 0 0) (.string ⟨#[]⟩) := heap_alloc_new _ _
  rw [World.size_alloc] at hf1
  have hr0 : RW (w.alloc (.cells #[.slice (some ⟨b, off, none⟩) n c, .int .i64 5, .int .i64 0, .int .i64 0, .bool false] 50)) w.heap.size ⟨b, off, n, c, 5, 0, 0, false⟩ := heap_alloc_new w _
  have ho0 : (⟨b, off, n, c, 5, 0, 0, false⟩ : Rw).Ok w bs w.heap.size w.heap.size := ⟨hrow, hbw, Nat.le_refl _, h5, hnc, hc, hn, by simp⟩
  have HP0 := hide hf1
  have HR0 := hide (hr0.below hb1)
  have HO0 := hide ((ho0.below hb0).below hb1)
  have HB0 := hide (below_join hb0 hb1)
  obtain ⟨s0, hs0⟩ : ∃ s0 : Rw, (⟨b, off, n, c, 5, 0, 0, false⟩ : Rw) = s0 := ⟨_, rfl⟩
  have he0 : s0.e = 0 := by rw [← hs0]
  have hp0 : s0.pos = 5 := by rw [← hs0]
  have hd0 : s0.dry = false := by rw [← hs0]
  rw [hs0] at HR0 HO0
  obtain ⟨u0, hu0⟩ : ∃ u0, (w.alloc (.cells #[.slice (some ⟨b, off, none⟩) n c, .int .i64 5, .int .i64 0, .int .i64 0, .bool false] 50)).alloc (.cells #[.string ⟨#[47]⟩, .int .i64 2, .int .i64 0, .int .u64 0, .slice none 0 0, .string ⟨#[]⟩] 41) = u0 := ⟨_, rfl⟩
  have HU0 := hide hu0
  rw [hu0] at HP0 HR0 HO0 HB0
  have HE0 := hide he0
  have HQ0 := hide hp0
  have HD0 := hide hd0
  have HL := hide hl
  have HBW := hide hbw
  have hu0s : w.heap.size + 2 ≤ u0.heap.size := by rw [← hu0]; simp
  have T1 : Hid True := trivial
  clear hrow hby hbs hok hb0 hb1 hf1 hr0 ho0 hs0 hu0 he0 hp0 hd0 hl hbw
  go_enter Tryd.func9, Tryd.ntmps9
  go_upto_region 5 with fail
  rw [HU0.out]
  clear c0 c1 c2 c3 c4 j0 j1 j2 j3 j4 d5
  go_upto_region 7 with (first
    | (go_at_call 20; have zz := T1; clear T1 zz; refine (rnumU w.heap.size w.heap.size 2 0 4095 s0 bs _ HR0.out HO0.out (by omega) (by omega) (by omega) (by omega)).mono ?_; rintro e u1 ⟨m9, s1, rfl, m9a, m9b, r9, o9, g9, f9⟩
       have hp9 := HP0.out.kept g9 (by omega)
       have f52 := fb_frozen2 hp9
       have c52 := fb_cell2 hp9
       have hwm : IntKind.i64.wrap m9 = m9 := (by rw [IntKind.wrap_i64]; omega)
       have HP1 := hide (fb_set2 hp9 (.int .i64 m9))
       have hsg := set_grown u1 (w.heap.size + 1) 2 (.int .i64 m9)
       have HR1 := hide (r9.other hsg (fun e => by have := Option.some.inj e; omega))
       have HO1 := hide (o9.other hsg (fun k e => by have := Option.some.inj e; omega) (Nat.le_trans HB0.out.size g9.size))
       have HB1 := hide (past_two (past_two HB0.out g9 (by omega)) hsg (by omega))
       have hu1s : w.heap.size + 2 ≤ (u1.setCell ⟨w.heap.size + 1, 2, none⟩ (.int .i64 m9)).heap.size := Nat.le_trans hu0s (Nat.le_trans g9.size hsg.size)
       have HF1 := hide f9
       clear r9 o9 g9 f9 hp9 hsg; have T2 : Hid True := trivial)
    | (go_at_call 20; have zz := T2; clear T2 zz; refine (rnumU w.heap.size w.heap.size 8 0 18446744073709551615 s1 bs _ HR1.out HO1.out (by omega) (by omega) (by omega) (by omega)).mono ?_; rintro e u2 ⟨z9, s2, rfl, z9a, z9b, r9, o9, g9, f9⟩
       have hp9 := HP1.out.kept g9 (by omega)
       have f53 := fb_frozen3 hp9
       have c53 := fb_cell3 hp9
       have HP2 := hide (fb_set3 hp9 (.int .u64 z9))
       have hsg := set_grown u2 (w.heap.size + 1) 3 (.int .u64 z9)
       have HR2 := hide (r9.other hsg (fun e => by have := Option.some.inj e; omega))
       have HO2 := hide (o9.other hsg (fun k e => by have := Option.some.inj e; omega) (Nat.le_trans HB1.out.size g9.size))
       have HB2 := hide (past_two (past_two HB1.out g9 (by omega)) hsg (by omega))
       have hu2s : w.heap.size + 2 ≤ (u2.setCell ⟨w.heap.size + 1, 3, none⟩ (.int .u64 z9)).heap.size := Nat.le_trans hu1s (Nat.le_trans g9.size hsg.size)
       have HF2 := hide f9
       clear r9 o9 g9 f9 hp9 hsg; have T3 : Hid True := trivial))
  obtain ⟨u3, hu3⟩ : ∃ u3, u2.setCell ⟨w.heap.size + 1, 3, none⟩ (.int .u64 z9) = u3 := ⟨_, rfl⟩
  rw [hu3] at HP2 HR2 HO2 HB2 hu2s ⊢
  have hmode := mode_both HBY.out HE0.out HF1.out HF2.out
  rw [HQ0.out] at hmode
  have HDD : Hid (s2.dry = false) := by unfold Hid; rw [HF2.out.dry, HF1.out.dry, HD0.out]
  have HMB := hide hmode
  have hb4 := below_alloc u3 (.cells #[.string ⟨#[47]⟩, .int .i64 2, .int .i64 m9, .int .u64 z9, .slice none 0 0, .string ⟨#[]⟩] 41)
  have HR4 := hide (HR2.out.below hb4)
  have HO4 := hide (HO2.out.below hb4)
  have HB4 := hide (below_join HB2.out hb4)
  have hlit : (u3.alloc (.cells #[.string ⟨#[47]⟩, .int .i64 2, .int .i64 m9, .int .u64 z9, .slice none 0 0, .string ⟨#[]⟩] 41)).ownsRow w.heap.size 41 6 (.slice (some ⟨u3.heap.size, 0, none⟩) 1 1) 1 [.string ⟨#[47]⟩, .int .i64 2, .int .i64 m9, .int .u64 z9, .slice none 0 0, .string ⟨#[]⟩] := World.ownsRow_lit u3 #[.string ⟨#[47]⟩, .int .i64 2, .int .i64 m9, .int .u64 z9, .slice none 0 0, .string ⟨#[]⟩] 1 (by omega) (by decide) rfl
  have HOW := hide hlit
  have p0 := fb_cell0 HP2.out
  have p1 := fb_cell1 HP2.out
  have p2 := fb_cell2 HP2.out
  have p3 := fb_cell3 HP2.out
  have p4 := fb_cell4 HP2.out
  have p5 := fb_cell5 HP2.out
  have H4 := hide hu3
  clear hu3 hmode hb4 hlit HF1 HF2 HR0 HO0 HP0 HB0 HR1 HO1 HP1 HB1 HR2 HO2 HB2 HD0 HE0 HQ0 HU0 f52 c52 hwm f53 c53 hu1s hu0s
  go_wp2_with fail
  obtain ⟨i0, hi0, hz0, hz1, hz2⟩ := info_parts info41
  have HI : Hid (Tryd.prog.info? 41 = some i0 ∧ i0.zero = some (.agg #[.string ⟨#[]⟩, .int .i64 0, .int .i64 0, .int .u64 0, .slice none 0 0, .string ⟨#[]⟩]) ∧ i0.size = 6 ∧ i0.bytes = 80) := ⟨hi0, hz0, hz1, hz2⟩
  clear hi0 hz0 hz1 hz2
  obtain ⟨G, hG⟩ : ∃ G, n - 15 = G := ⟨_, rfl⟩
  have hG2 : 1 + G ≤ 1048640 := by omega
  go_loopg [6] G (fun g s6 wr => Hid (RrInv w bs g s6 wr))
  case atStart =>
    rcases HMB.out with ⟨he, hm⟩ | ⟨he, hm⟩
    · refine (show Hid _ from ⟨s2, [⟨leafOf (rootP m9 z9), .slice none 0 0⟩], ⟨_, _, rfl⟩, HB4.out, HDD.out, HR4.out, HO4.out, HOW.out, by show 1 + G ≤ 1048640; omega, Or.inr ⟨he, ?_⟩⟩)
      rw [HPR.out, hm]
    · have hr9 : bs.drop s2.pos = (bs.drop 5).drop 10 := modeR_rest hm
      have hl9 : (bs.drop s2.pos).length = G := by rw [hr9, List.length_drop, List.length_drop, HL.out]; omega
      refine (show Hid _ from ⟨s2, [⟨leafOf (rootP m9 z9), .slice none 0 0⟩], ⟨_, _, rfl⟩, HB4.out, HDD.out, HR4.out, HO4.out, HOW.out, by show 1 + G ≤ 1048640; omega, Or.inl ⟨he, rootP m9 z9, [rootP m9 z9], [], .slice none 0 0, rfl, rfl, ?_, nv_nil, Or.inl rfl, Nat.le_of_eq hl9, ?_⟩⟩)
      · intro x hx
        rw [List.mem_singleton.1 hx]
        exact World.ownsRow_nil _ _ _ _
      · rw [HPR.out, hm]
        show piecesL ((bs.drop s2.pos).length + 1) _ _ _ = _
        rw [hl9]
  case round =>
    clear p0 p1 p2 p3 p4 p5 H4 HP2 hu2s
    obtain ⟨t, es, ⟨a6, c6, rfl⟩, bw, htd, rw1, ok1, own, hel, hcase⟩ := hrel.out
    clear hrel
    obtain ⟨k0, k1, k2, k3, k4⟩ := rw_cell rw1
    have htm : t.m = n := by have h8 := ok1.rd.1; have h9 := HL.out; omega
    have hpm : t.pos ≤ n := by have := ok1.pm; omega
    have HBR := hide bw
    have HTD := hide htd
    have HRW := hide rw1
    have HOK := hide ok1
    have HOWR := hide own
    obtain ⟨m, hm⟩ : ∃ m, es.length = m := ⟨_, rfl⟩
    have HM := hide hm
    rw [hm] at own hel HOWR ⊢
    clear bw htd rw1 ok1 HR4 HO4 HB4 HOW HMB HDD HPR htm
    rcases hcase with ⟨hte, a, ps, es0, d, hes, hmp, hds, hnv, hty, hlen, hpr⟩ | ⟨hte, hpr⟩
    · rw [hte] at k2
      have HPP := hide hpr
      have HMP := hide hmp
      have HNV := hide hnv
      have HTY := hide hty
      have HLT : Hid (LsOn wr w.heap.size (.slice a6 m c6) es) := ⟨by rw [hm]; exact own, hds⟩
      clear hpr hmp hnv hty
      by_cases hlt : t.pos < n
      · have i1 : (t.pos : Int) < (n : Int) := by omega
        obtain ⟨x, hx⟩ : ∃ x, bs.getD t.pos 0 = x := ⟨_, rfl⟩
        obtain ⟨rs, hrs⟩ : ∃ rs, bs.drop (t.pos + 1) = rs := ⟨_, rfl⟩
        have hdr : bs.drop t.pos = x :: rs := by
          rw [List.drop_eq_getElem_cons (by rw [HL.out]; exact hlt), hrs, ← hx, List.getD_eq_getElem?_getD, List.getElem?_eq_getElem (by rw [HL.out]; exact hlt)]
          rfl
        have cx : wr.cell? ⟨b, off + t.pos, none⟩ = some (.int .u8 x) := by
          have h9 := (HROW.out.below HBR.out).2.2.2 _ rfl t.pos (by omega)
          rw [hx, plain_add] at h9
          exact h9
        have HDR := hide hdr
        have HRS := hide hrs
        have HBD : Hid (Byt (x :: rs)) := by unfold Hid; rw [← hdr]; exact byt_drop HBY.out _
        rw [hdr] at hlen
        have HLN := hide hlen
        clear hx hrs hdr
        by_cases h255 : x = 255
        · subst h255
          have HTK : Hid (takeR 1 (bs.drop t.pos) = .ok ([255], rs)) := by unfold Hid; rw [HDR.out]; rfl
          have HPO : Hid (piecesR bs = .ok (ps, rs)) := by unfold Hid; rw [HPP.out, HDR.out]; exact pl_end num_cons
          clear own hds hes hlen hm
          cases ht4 : takeR 4 rs with
          | error z =>
            have HT4 := hide ht4
            clear ht4
            have HTE : Hid (openR bs = .error 190) := by unfold Hid; rw [openR_fine HPO.out, (num_take4 HT4.out)]
            have T1 : Hid True := trivial
            go_wp2_with (first
                | (go_at_call 21; have zz := T1; clear T1 zz; refine (rtake_any w.heap.size w.heap.size 1 t bs _ HRW.out HOK.out hte (by omega)).mono ?_; rintro e v1 ⟨g9, hm⟩; rw [HTK.out] at hm; obtain ⟨⟨o1, cc1, rfl, _⟩, r9, o9, hr9⟩ := hm
                   obtain ⟨s1, hs1⟩ : ∃ s1 : Rw, ({ t with pos := t.pos + 1 } : Rw) = s1 := ⟨_, rfl⟩
                   rw [hs1] at r9 o9
                   have HR1 := hide r9
                   have HO1 := hide o9
                   have HE1 : Hid (s1.e = 0) := (by rw [← hs1]; exact hte)
                   have hp1 : s1.pos = t.pos + 1 := (by rw [← hs1])
                   have HB1 := hide (past_two HBR.out g9 (Nat.le_refl _))
                   have HLS1 := hide (LsOn.two HLT.out g9 HRW.out (by decide) (by decide))
                   clear k0 k1 k2 k3 k4
                   obtain ⟨k0, k1, k2, k3, k4⟩ := rw_cell r9
                   rw [hp1] at k1
                   have HP1 := hide hp1
                   clear r9 o9 g9 hr9 hs1 hp1; have T2 : Hid True := trivial)
                | (go_at_call 21; have zz := T2; clear T2 zz; refine (rtake_any w.heap.size w.heap.size 4 s1 bs _ HR1.out HO1.out HE1.out (by omega)).mono ?_; rintro e v2 ⟨g9, hm⟩; rw [HP1.out, HRS.out, HT4.out] at hm; obtain ⟨rfl, _, r9, o9⟩ := hm
                   have HB2 := hide (past_two HB1.out g9 (Nat.le_refl _))
                   clear k0 k1 k2 k3 k4
                   obtain ⟨k0, k1, k2, k3, k4⟩ := rw_cell r9
                   clear r9 o9 g9; have T3 : Hid True := trivial))
            go_quiet (fail)
            go_wp2
            go_ret2
            refine ⟨?_, below_drewN HB2.out _⟩
            rw [HTE.out]
            exact rfl
          | ok pr =>
            obtain ⟨fb, r2⟩ := pr
            have HT4 := hide ht4
            clear ht4
            obtain ⟨F, hF⟩ : ∃ F, strOfNums fb = F := ⟨_, rfl⟩
            have HFF := hide hF
            clear hF
            have T1 : Hid True := trivial
            go_upto_region 16 with (first
                | (go_at_call 21; have zz := T1; clear T1 zz; refine (rtake_any w.heap.size w.heap.size 1 t bs _ HRW.out HOK.out hte (by omega)).mono ?_; rintro e v1 ⟨g9, hm⟩; rw [HTK.out] at hm; obtain ⟨⟨o1, cc1, rfl, _⟩, r9, o9, hr9⟩ := hm
                   obtain ⟨s1, hs1⟩ : ∃ s1 : Rw, ({ t with pos := t.pos + 1 } : Rw) = s1 := ⟨_, rfl⟩
                   rw [hs1] at r9 o9
                   have HR1 := hide r9
                   have HO1 := hide o9
                   have HE1 : Hid (s1.e = 0) := (by rw [← hs1]; exact hte)
                   have hp1 : s1.pos = t.pos + 1 := (by rw [← hs1])
                   have HB1 := hide (past_two HBR.out g9 (Nat.le_refl _))
                   have HLS1 := hide (LsOn.two HLT.out g9 HRW.out (by decide) (by decide))
                   clear k0 k1 k2 k3 k4
                   obtain ⟨k0, k1, k2, k3, k4⟩ := rw_cell r9
                   rw [hp1] at k1
                   have HP1 := hide hp1
                   clear r9 o9 g9 hr9 hs1 hp1; have T2 : Hid True := trivial)
                | (go_at_call 21; have zz := T2; clear T2 zz; refine (rtake_any w.heap.size w.heap.size 4 s1 bs _ HR1.out HO1.out HE1.out (by omega)).mono ?_; rintro e v2 ⟨g9, hm⟩; rw [HP1.out, HRS.out, HT4.out] at hm; obtain ⟨⟨oo, cc, rfl, rd4⟩, r9, o9, hr9⟩ := hm
                   obtain ⟨s2', hs2⟩ : ∃ s2' : Rw, ({ s1 with pos := t.pos + 1 + 4 } : Rw) = s2' := ⟨_, rfl⟩
                   rw [hs2] at r9 o9
                   obtain ⟨bb, hbb⟩ : ∃ bb, s1.b = bb := ⟨_, rfl⟩
                   rw [hbb] at rd4 ⊢
                   have HR2' := hide r9
                   have hp2 : s2'.pos = t.pos + 5 := (by rw [← hs2])
                   have he2 : s2'.e = 0 := (by rw [← hs2]; exact HE1.out)
                   have HB2 := hide (past_two HB1.out g9 (Nat.le_refl _))
                   have HLS2 := hide (LsOn.two HLS1.out g9 HR1.out (by decide) (by decide))
                   have HRF := hide rd4
                   clear k0 k1 k2 k3 k4
                   obtain ⟨k0, k1, k2, k3, k4⟩ := rw_cell r9
                   rw [hp2] at k1
                   rw [he2] at k2
                   have HP2' := hide hp2
                   clear r9 o9 g9 hr9 hs2 hbb hp2 he2 rd4; have T3 : Hid True := trivial))
            have HBX := hide HB2.out.drew
            have HLSX := hide (HLS2.out.below (Below.refl _ _).drew)
            have HRX := hide (HR2'.out.below (Below.refl _ _).drew)
            have HRT2 := hide (((HROW.out.below HBX.out).front (t.pos + 1) (by omega)))
            have HRF := hide (HRF.out.below (Below.refl _ _).drew)
            have hcvX : (convert 22 9 (.slice (some ⟨bb, oo, none⟩) 4 cc)).run Tryd.prog v2.drew = .ok (.string F) v2.drew := by rw [← HFF.out]; exact conv _ _ _ _ _ HRF.out
            obtain ⟨P1, hP1⟩ : ∃ P1, t.pos + 1 = P1 := ⟨_, rfl⟩
            have e9 : (t.pos : Int) + 1 = (P1 : Int) := by omega
            rw [e9]
            rw [hP1] at HRT2
            have j1 : (P1 : Int) ≤ (c : Int) := by omega
            have hpb : P1 ≤ 1048640 := by omega
            obtain ⟨SS, hSS⟩ : ∃ SS, sumL (nats (bs.take P1)) = SS := ⟨_, rfl⟩
            have hss : SS < 4294967296 := by rw [← hSS]; exact sumL_lt HRT2.out.2.1
            have HSS := hide hSS
            have HPP1 := hide hP1
            have hw6 : IntKind.u64.wrap (SS : Int) = (SS : Int) := by rw [IntKind.wrap_u64]; omega
            have hfine := takeR_fine HT4.out
            have hgl : getL rs 0 4 = getL fb 0 4 := by rw [hfine.2.1]; exact (getL_take _ 4 4 (Nat.le_refl _)).symm
            have hrl : rs.length = n - P1 := by rw [← HRS.out, hP1, List.length_drop, HL.out]
            have HOP : Hid (openR bs = if getL fb 0 4 = (SS : Int) then (if r2 = [] then .ok ps else .error 190) else .error 192) := by
              unfold Hid
              rw [openR_fine HPO.out]
              have hnr : numR 4 rs = .ok (getL fb 0 4, r2) := by unfold numR; rw [if_pos hfine.1, hgl, hfine.2.2]
              have hlen9 : bs.length - rs.length = P1 := by rw [hrl, HL.out]; omega
              rw [hnr]
              simp only
              rw [hlen9, hSS]
            have hbf : Byt fb := by rw [hfine.2.1]; exact fun x hx => HBD.out x (List.mem_cons_of_mem _ (List.mem_of_mem_take hx))
            have hfl : fb.length = 4 := by rw [hfine.2.1, List.length_take]; omega
            have hr2 : r2.length = n - P1 - 4 := by rw [hfine.2.2, List.length_drop, hrl]
            have HRL := hide hr2
            clear e9 hSS hP1 k0 k2 k3 k4 hfine hgl hrl hr2
            by_cases hs : getL fb 0 4 = (SS : Int)
            · have HSY := hide hs
              have HF2 : Hid (strOfNums (leN SS 4) = F) := by unfold Hid; rw [← sum_yes hbf hfl hs]; exact HFF.out
              clear hbf hfl hs
              refine wp_region_held_drew (S := (fun xx : World => (convert 22 9 (.slice (some ⟨bb, oo, none⟩) 4 cc)).run Tryd.prog xx = .ok (.string F) xx)) (by kernel_rfl) (hcvX) (fun hHeld => ?_)
              refine wpAnyH_take (i := 0) (oi := { dst := some 109, op := Op.move (Operand.tmp 9), type := 22, pos := "ref.go:391", after := #[], guard := none }) (v := ?v0y) rfl (by kernel_rfl) (by kernel_rfl) (by kernel_rfl) (fun _ _ _ h => h) (Or.inl ⟨by rfl, ?y0y⟩) (by assumption) ?r0y
              case y0y => (intro x hx; (try dsimp only at hx); go_simp; try with_reducible rfl)
              try simp only [Act.put, List.setIfInBounds_toArray, List.set_cons_zero, List.set_cons_succ]
              refine wpAnyH_take (i := 1) (oi := { dst := some 110, op := Op.convert 22 9 (Operand.tmp 109), type := 9, pos := "ref.go:391", after := #[{ on := 0, ground := Ground.data }], guard := none }) (v := ?v1y) rfl (by kernel_rfl) (by kernel_rfl) (by kernel_rfl) (fun _ _ _ h => h) (Or.inl ⟨by rfl, ?y1y⟩) (by assumption) ?r1y
              case y1y => (intro x hx; (try dsimp only at hx); go_simp; try with_reducible rfl)
              try simp only [Act.put, List.setIfInBounds_toArray, List.set_cons_zero, List.set_cons_succ]
              refine wpAnyH_take (i := 2) (oi := { dst := some 111, op := Op.move (Operand.tmp 0), type := 22, pos := "ref.go:391", after := #[], guard := none }) (v := ?v2y) rfl (by kernel_rfl) (by kernel_rfl) (by kernel_rfl) (fun _ _ _ h => h) (Or.inl ⟨by rfl, ?y2y⟩) (by assumption) ?r2y
              case y2y => (intro x hx; (try dsimp only at hx); go_simp; try with_reducible rfl)
              try simp only [Act.put, List.setIfInBounds_toArray, List.set_cons_zero, List.set_cons_succ]
              refine wpAnyH_take (i := 3) (oi := { dst := some 112, op := Op.move (Operand.tmp 8), type := 3, pos := "ref.go:391", after := #[], guard := none }) (v := ?v3y) rfl (by kernel_rfl) (by kernel_rfl) (by kernel_rfl) (fun _ _ _ h => h) (Or.inl ⟨by rfl, ?y3y⟩) (by assumption) ?r3y
              case y3y => (intro x hx; (try dsimp only at hx); go_simp; try with_reducible rfl)
              try simp only [Act.put, List.setIfInBounds_toArray, List.set_cons_zero, List.set_cons_succ]
              refine wpAnyH_take (i := 4) (oi := { dst := some 113, op := Op.slice 22 (Operand.tmp 111) none (some (Operand.tmp 112)) none, type := 22, pos := "ref.go:391", after := #[{ on := 2, ground := Ground.data }, { on := 3, ground := Ground.data }], guard := none }) (v := ?v4y) rfl (by kernel_rfl) (by kernel_rfl) (by kernel_rfl) (fun _ _ _ h => h) (Or.inl ⟨by rfl, ?y4y⟩) (by assumption) ?r4y
              case y4y => (intro x hx; (try dsimp only at hx); go_simp; try with_reducible rfl)
              try simp only [Act.put, List.setIfInBounds_toArray, List.set_cons_zero, List.set_cons_succ]
              refine wpAnyH_ready (rs := [5]) (by kernel_rfl) (by simp) ?_
              refine AllReadyH.cons (o := { dst := some 114, op := Op.call { callee := Callee.value (Operand.func 18), args := #[Operand.tmp 113], argTypes := #[22] }, type := 46, pos := "ref.go:391", after := #[{ on := 4, ground := Ground.data }], guard := none }) rfl (fun K hK => ?_) AllReadyH.nil
              go_simp
              go_at_call 18
              refine (rsum_any (some ⟨b, off, none⟩) P1 c (bs.take P1) _ (by omega) HRT2.out).mono ?_
              rintro e wz ⟨rfl, rfl⟩
              rw [HSS.out]
              have hSnew := hHeld
              go_wp2_with fail
              refine hK.out _ _ hSnew (fun hHeld5 => ?_)
              clear hK K hSnew
              clear hHeld
              have hHeld := hHeld5
              clear hHeld5
              try simp only [Act.put, List.setIfInBounds_toArray, List.set_cons_zero, List.set_cons_succ]
              refine wpAnyH_take (i := 6) (oi := { dst := some 115, op := Op.convert 46 39 (Operand.tmp 114), type := 39, pos := "ref.go:391", after := #[{ on := 5, ground := Ground.data }], guard := none }) (v := ?v6y) rfl (by kernel_rfl) (by kernel_rfl) (by kernel_rfl) (fun _ _ _ h => h) (Or.inl ⟨by rfl, ?y6y⟩) (by assumption) ?r6y
              case y6y => (intro x hx; (try dsimp only at hx); go_simp; try with_reducible rfl)
              try simp only [Act.put, List.setIfInBounds_toArray, List.set_cons_zero, List.set_cons_succ]
              refine wpAnyH_ready (rs := [7]) (by kernel_rfl) (by simp) ?_
              refine AllReadyH.cons (o := { dst := some 116, op := Op.call { callee := Callee.value (Operand.func 17), args := #[Operand.tmp 115, Operand.const (Value.int IntKind.i64 4)], argTypes := #[39, 3] }, type := 22, pos := "ref.go:391", after := #[{ on := 6, ground := Ground.data }, { on := 5, ground := Ground.chain }], guard := none }) rfl (fun K hK => ?_) AllReadyH.nil
              go_simp
              go_at_call 17
              refine (put_any SS _ hss).mono ?_
              rintro e wz ⟨v7, rfl, dt7, bl7⟩
              obtain ⟨a7, c7, hv7, rd7⟩ := own_any dt7 (leN_byt 4 SS)
              rw [leN_len] at hv7 rd7
              subst hv7
              have HB7 := hide (below_join HBX.out bl7)
              have HLS7 := hide (HLSX.out.below bl7)
              have HR7 := hide (HRX.out.below bl7)
              have hcv7 := conv a7 4 c7 (leN SS 4) wz rd7
              rw [HF2.out] at hcv7
              have hSnew : (convert 22 9 (.slice (some ⟨bb, oo, none⟩) 4 cc)).run Tryd.prog wz = .ok (.string F) wz := (by rw [← HFF.out]; exact conv _ _ _ _ _ (HRF.out.below bl7))
              clear dt7 bl7 rd7 hcvX
              go_wp2_with fail
              refine hK.out _ _ hSnew (fun hHeld7 => ?_)
              clear hK K hSnew
              clear hHeld
              have hHeld := hHeld7
              clear hHeld7
              try simp only [Act.put, List.setIfInBounds_toArray, List.set_cons_zero, List.set_cons_succ]
              refine wpAnyH_ready (rs := [8]) (by kernel_rfl) (by simp) ?_
              refine AllReadyH.cons (o := { dst := some 117, op := Op.convert 22 9 (Operand.tmp 116), type := 9, pos := "ref.go:391", after := #[{ on := 7, ground := Ground.data }], guard := none }) rfl (fun K hK => ?_) AllReadyH.nil
              go_simp
              go_wp2_with fail
              refine hK.out _ _ hHeld (fun hHeld8 => ?_)
              clear hK K
              clear hHeld8
              try simp only [Act.put, List.setIfInBounds_toArray, List.set_cons_zero, List.set_cons_succ]
              refine wpAnyH_take (i := 9) (oi := { dst := some 118, op := Op.binOp BinOp.neq 9 (Operand.tmp 110) (Operand.tmp 117) 9, type := 4, pos := "ref.go:391", after := #[{ on := 1, ground := Ground.data }, { on := 8, ground := Ground.data }], guard := none }) (v := ?v9y) rfl (by kernel_rfl) (by kernel_rfl) (by kernel_rfl) (fun _ _ _ h => h) (Or.inl ⟨by rfl, ?y9y⟩) (by assumption) ?r9y
              case y9y => (intro x hx; (try dsimp only at hx); go_simp; try with_reducible rfl)
              try simp only [Act.put, List.setIfInBounds_toArray, List.set_cons_zero, List.set_cons_succ]
              refine wpAnyH_done (by kernel_rfl) ?_ _
              obtain ⟨_, k1, _, _, _⟩ := rw_cell HR7.out
              rw [HP2'.out] at k1
              clear hcv7 hHeld
              by_cases hlt5 : t.pos + 5 < n
              · have d5 : ((t.pos + 5 : Nat) : Int) < (n : Int) := by omega
                have d5' : (t.pos : Int) + 5 < (n : Int) := by omega
                go_wp2_with fail
                go_ret2
                refine ⟨?_, HB7.out⟩
                rw [HOP.out, if_pos HSY.out, if_neg (fun h9 => by have h8 := HRL.out; rw [h9] at h8; have h7 := HPP1.out; simp at h8; omega)]
                exact rfl
              · have d5 : ¬ ((t.pos + 5 : Nat) : Int) < (n : Int) := by omega
                have d5' : ¬ (t.pos : Int) + 5 < (n : Int) := by omega
                go_wp2_with fail
                go_ret2
                refine ⟨?_, HB7.out⟩
                rw [HOP.out, if_pos HSY.out, if_pos (List.eq_nil_of_length_eq_zero (by have h8 := HRL.out; have h7 := HPP1.out; omega))]
                exact ⟨_, es, rfl, HMP.out, HLS7.out⟩
            · have HSN := hide hs
              have hnf := sum_not hbf hss hs
              obtain ⟨G2, hG2⟩ : ∃ G2, strOfNums (leN SS 4) = G2 := ⟨_, rfl⟩
              have HF2 := hide hG2
              rw [hG2, HFF.out] at hnf
              have hnl : (F.toList == G2.toList) = false := by
                rw [beq_eq_false_iff_ne]
                intro h9
                rw [Pt.toList_data, Pt.toList_data] at h9
                exact hnf (ByteArray.ext (Array.ext' h9))
              clear hbf hfl hs hG2 hnf
              refine wp_region_held_drew (S := (fun xx : World => (convert 22 9 (.slice (some ⟨bb, oo, none⟩) 4 cc)).run Tryd.prog xx = .ok (.string F) xx)) (by kernel_rfl) (hcvX) (fun hHeld => ?_)
              refine wpAnyH_take (i := 0) (oi := { dst := some 109, op := Op.move (Operand.tmp 9), type := 22, pos := "ref.go:391", after := #[], guard := none }) (v := ?v0n) rfl (by kernel_rfl) (by kernel_rfl) (by kernel_rfl) (fun _ _ _ h => h) (Or.inl ⟨by rfl, ?y0n⟩) (by assumption) ?r0n
              case y0n => (intro x hx; (try dsimp only at hx); go_simp; try with_reducible rfl)
              try simp only [Act.put, List.setIfInBounds_toArray, List.set_cons_zero, List.set_cons_succ]
              refine wpAnyH_take (i := 1) (oi := { dst := some 110, op := Op.convert 22 9 (Operand.tmp 109), type := 9, pos := "ref.go:391", after := #[{ on := 0, ground := Ground.data }], guard := none }) (v := ?v1n) rfl (by kernel_rfl) (by kernel_rfl) (by kernel_rfl) (fun _ _ _ h => h) (Or.inl ⟨by rfl, ?y1n⟩) (by assumption) ?r1n
              case y1n => (intro x hx; (try dsimp only at hx); go_simp; try with_reducible rfl)
              try simp only [Act.put, List.setIfInBounds_toArray, List.set_cons_zero, List.set_cons_succ]
              refine wpAnyH_take (i := 2) (oi := { dst := some 111, op := Op.move (Operand.tmp 0), type := 22, pos := "ref.go:391", after := #[], guard := none }) (v := ?v2n) rfl (by kernel_rfl) (by kernel_rfl) (by kernel_rfl) (fun _ _ _ h => h) (Or.inl ⟨by rfl, ?y2n⟩) (by assumption) ?r2n
              case y2n => (intro x hx; (try dsimp only at hx); go_simp; try with_reducible rfl)
              try simp only [Act.put, List.setIfInBounds_toArray, List.set_cons_zero, List.set_cons_succ]
              refine wpAnyH_take (i := 3) (oi := { dst := some 112, op := Op.move (Operand.tmp 8), type := 3, pos := "ref.go:391", after := #[], guard := none }) (v := ?v3n) rfl (by kernel_rfl) (by kernel_rfl) (by kernel_rfl) (fun _ _ _ h => h) (Or.inl ⟨by rfl, ?y3n⟩) (by assumption) ?r3n
              case y3n => (intro x hx; (try dsimp only at hx); go_simp; try with_reducible rfl)
              try simp only [Act.put, List.setIfInBounds_toArray, List.set_cons_zero, List.set_cons_succ]
              refine wpAnyH_take (i := 4) (oi := { dst := some 113, op := Op.slice 22 (Operand.tmp 111) none (some (Operand.tmp 112)) none, type := 22, pos := "ref.go:391", after := #[{ on := 2, ground := Ground.data }, { on := 3, ground := Ground.data }], guard := none }) (v := ?v4n) rfl (by kernel_rfl) (by kernel_rfl) (by kernel_rfl) (fun _ _ _ h => h) (Or.inl ⟨by rfl, ?y4n⟩) (by assumption) ?r4n
              case y4n => (intro x hx; (try dsimp only at hx); go_simp; try with_reducible rfl)
              try simp only [Act.put, List.setIfInBounds_toArray, List.set_cons_zero, List.set_cons_succ]
              refine wpAnyH_ready (rs := [5]) (by kernel_rfl) (by simp) ?_
              refine AllReadyH.cons (o := { dst := some 114, op := Op.call { callee := Callee.value (Operand.func 18), args := #[Operand.tmp 113], argTypes := #[22] }, type := 46, pos := "ref.go:391", after := #[{ on := 4, ground := Ground.data }], guard := none }) rfl (fun K hK => ?_) AllReadyH.nil
              go_simp
              go_at_call 18
              refine (rsum_any (some ⟨b, off, none⟩) P1 c (bs.take P1) _ (by omega) HRT2.out).mono ?_
              rintro e wz ⟨rfl, rfl⟩
              rw [HSS.out]
              have hSnew := hHeld
              go_wp2_with fail
              refine hK.out _ _ hSnew (fun hHeld5 => ?_)
              clear hK K hSnew
              clear hHeld
              have hHeld := hHeld5
              clear hHeld5
              try simp only [Act.put, List.setIfInBounds_toArray, List.set_cons_zero, List.set_cons_succ]
              refine wpAnyH_take (i := 6) (oi := { dst := some 115, op := Op.convert 46 39 (Operand.tmp 114), type := 39, pos := "ref.go:391", after := #[{ on := 5, ground := Ground.data }], guard := none }) (v := ?v6n) rfl (by kernel_rfl) (by kernel_rfl) (by kernel_rfl) (fun _ _ _ h => h) (Or.inl ⟨by rfl, ?y6n⟩) (by assumption) ?r6n
              case y6n => (intro x hx; (try dsimp only at hx); go_simp; try with_reducible rfl)
              try simp only [Act.put, List.setIfInBounds_toArray, List.set_cons_zero, List.set_cons_succ]
              refine wpAnyH_ready (rs := [7]) (by kernel_rfl) (by simp) ?_
              refine AllReadyH.cons (o := { dst := some 116, op := Op.call { callee := Callee.value (Operand.func 17), args := #[Operand.tmp 115, Operand.const (Value.int IntKind.i64 4)], argTypes := #[39, 3] }, type := 22, pos := "ref.go:391", after := #[{ on := 6, ground := Ground.data }, { on := 5, ground := Ground.chain }], guard := none }) rfl (fun K hK => ?_) AllReadyH.nil
              go_simp
              go_at_call 17
              refine (put_any SS _ hss).mono ?_
              rintro e wz ⟨v7, rfl, dt7, bl7⟩
              obtain ⟨a7, c7, hv7, rd7⟩ := own_any dt7 (leN_byt 4 SS)
              rw [leN_len] at hv7 rd7
              subst hv7
              have HB7 := hide (below_join HBX.out bl7)
              have HLS7 := hide (HLSX.out.below bl7)
              have HR7 := hide (HRX.out.below bl7)
              have hcv7 := conv a7 4 c7 (leN SS 4) wz rd7
              rw [HF2.out] at hcv7
              have hSnew : (convert 22 9 (.slice (some ⟨bb, oo, none⟩) 4 cc)).run Tryd.prog wz = .ok (.string F) wz := (by rw [← HFF.out]; exact conv _ _ _ _ _ (HRF.out.below bl7))
              clear dt7 bl7 rd7 hcvX
              go_wp2_with fail
              refine hK.out _ _ hSnew (fun hHeld7 => ?_)
              clear hK K hSnew
              clear hHeld
              have hHeld := hHeld7
              clear hHeld7
              try simp only [Act.put, List.setIfInBounds_toArray, List.set_cons_zero, List.set_cons_succ]
              refine wpAnyH_ready (rs := [8]) (by kernel_rfl) (by simp) ?_
              refine AllReadyH.cons (o := { dst := some 117, op := Op.convert 22 9 (Operand.tmp 116), type := 9, pos := "ref.go:391", after := #[{ on := 7, ground := Ground.data }], guard := none }) rfl (fun K hK => ?_) AllReadyH.nil
              go_simp
              go_wp2_with fail
              refine hK.out _ _ hHeld (fun hHeld8 => ?_)
              clear hK K
              clear hHeld8
              try simp only [Act.put, List.setIfInBounds_toArray, List.set_cons_zero, List.set_cons_succ]
              refine wpAnyH_take (i := 9) (oi := { dst := some 118, op := Op.binOp BinOp.neq 9 (Operand.tmp 110) (Operand.tmp 117) 9, type := 4, pos := "ref.go:391", after := #[{ on := 1, ground := Ground.data }, { on := 8, ground := Ground.data }], guard := none }) (v := ?v9n) rfl (by kernel_rfl) (by kernel_rfl) (by kernel_rfl) (fun _ _ _ h => h) (Or.inl ⟨by rfl, ?y9n⟩) (by assumption) ?r9n
              case y9n => (intro x hx; (try dsimp only at hx); go_simp; try with_reducible rfl)
              try simp only [Act.put, List.setIfInBounds_toArray, List.set_cons_zero, List.set_cons_succ]
              refine wpAnyH_done (by kernel_rfl) ?_ _
              clear hcv7 hHeld
              go_wp2_with fail
              go_ret2
              refine ⟨?_, HB7.out⟩
              rw [HOP.out, if_neg HSN.out]
              exact rfl
        · have e255 : (x != 255) = true := by simp [h255]
          obtain ⟨f, rfl⟩ : ∃ f, gk = f + 1 := ⟨gk - 1, by simp at hlen; omega⟩
          have hm1 : m = es0.length + 1 := by rw [← hm, hes, List.length_append]; rfl
          have hdl := hds ⟨leafOf a, d⟩ (by rw [hes]; simp)
          obtain ⟨da, dl, dc, hd⟩ := DtOn.slice hdl
          simp only at hd
          subst hd
          obtain ⟨g9, ha6, hcells⟩ : ∃ g9, a6 = some ⟨g9, 0, none⟩ ∧ (∀ j, j < 6 → wr.cell? ⟨g9, es0.length * 6 + j, none⟩ = (Le.cells ⟨leafOf a, .slice da dl dc⟩)[j]?) := by
            have hw := HOWR.out
            rcases hw.2 with ⟨h0, h1⟩ | ⟨g, cap, cur, hv, _, hg, _⟩
            · omega
            · have hv2 := hv
              injection hv with h7 h8 h9
              refine ⟨g, h7, fun j hj => ?_⟩
              rw [hv2] at hw
              rw [World.ownsRow.cellAt hw (es0.length * 6 + j) (by omega), hes, flatL_append, List.getElem?_append_right (by rw [flatL_len]; omega), flatL_len, Nat.add_sub_cancel_left]
              simp [flatL]
          subst ha6
          obtain ⟨L, hL⟩ : ∃ L, es0.length = L := ⟨_, rfl⟩
          rw [hL] at hcells hm1
          have y0 : wr.cell? ⟨g9, L * 6, none⟩ = some (.string (Pt.tg a.names)) := hcells 0 (by omega)
          have y1' : wr.cell? ⟨g9, L * 6 + 1, none⟩ = some (.int .i64 a.ty) := hcells 1 (by omega)
          have y2 : wr.cell? ⟨g9, L * 6 + 2, none⟩ = some (.int .i64 a.mode) := hcells 2 (by omega)
          have y3 : wr.cell? ⟨g9, L * 6 + 3, none⟩ = some (.int .u64 a.stamp) := hcells 3 (by omega)
          have y4 : wr.cell? ⟨g9, L * 6 + 4, none⟩ = some (.slice da dl dc) := hcells 4 (by omega)
          have y5 : wr.cell? ⟨g9, L * 6 + 5, none⟩ = some (.string a.target) := hcells 5 (by omega)
          have i2 : (L : Int) < (m : Int) := by omega
          have i3 : IntKind.i64.wrap ((m : Int) - 1) = (L : Int) := by rw [IntKind.wrap_i64]; omega
          have i4 : (m : Int) - 1 = (L : Int) := by omega
          have hmb : m ≤ 1048640 := by omega
          clear hcells hL hdl hds hes own hm hlen hm1
          cases hlf : leafR a.names (mostT a.ty a.names.length) (x :: rs) with
          | error z =>
            have HLF := hide hlf
            clear hlf
            go_wp2_with (first
                | (go_at_call 19; refine (rleaf_any w.heap.size w.heap.size t bs a.names _ a.ty a.mode a.stamp da dl dc a.target _ HRW.out HOK.out hte HNV.out rfl _ rfl HTY.out).mono ?_; rintro e t1 ⟨g9', hm⟩; rw [HDR.out, HLF.out] at hm
                   obtain ⟨⟨p1, y1, m1, z1, a1, l1, c1, g1, rfl⟩, sz, hse, hsd, r9, o9⟩ := hm
                   have b1 := past_two HBR.out g9' (Nat.le_refl _)
                   have b2 := below_alloc t1 (.cells #[.string p1, .int .i64 y1, .int .i64 m1, .int .u64 z1, .slice a1 l1 c1, .string g1] 41)
                   have b3 := below_alloc (t1.alloc (.cells #[.string p1, .int .i64 y1, .int .i64 m1, .int .u64 z1, .slice a1 l1 c1, .string g1] 41)) (.cells #[.string p1, .int .i64 y1, .int .i64 m1, .int .u64 z1, .slice a1 l1 c1, .string g1] 41)
                   have HB3 := hide (below_join (below_join b1 b2) b3)
                   have HR3 := hide ((r9.below b2).below b3)
                   have HO3 := hide ((o9.below b2).below b3)
                   have HLS := hide (((LsOn.two HLT.out g9' HRW.out (by decide) (by decide)).below b2).below b3)
                   have hcn := cells_news (heap_alloc_new (t1.alloc (.cells #[.string p1, .int .i64 y1, .int .i64 m1, .int .u64 z1, .slice a1 l1 c1, .string g1] 41)) (.cells #[.string p1, .int .i64 y1, .int .i64 m1, .int .u64 z1, .slice a1 l1 c1, .string g1] 41))
                   rw [World.size_alloc] at hcn
                   have HCN := hide hcn
                   have HSE := hide hse
                   have HSD := hide hsd
                   have HOW := hide (row_below (row_below (row_two HOWR.out g9' HRW.out (by decide)) b2) b3)
                   clear b1 b2 b3 hcn r9 o9 g9' hse hsd k0 k1 k2 k3 k4 y0 y1' y2 y3 y4 y5 cx)
                | (at_builtin; go_loud (refine wpList_append_own ((t1.alloc (.cells #[.string p1, .int .i64 y1, .int .i64 m1, .int .u64 z1, .slice a1 l1 c1, .string g1] 41)).alloc (.cells #[.string p1, .int .i64 y1, .int .i64 m1, .int .u64 z1, .slice a1 l1 c1, .string g1] 41)) rfl (.tmp 88) (.tmp 90) 26 rfl w.heap.size 41 i0 _ 6 80 Tryd.underlying26 HI.out.1 HI.out.2.1 HI.out.2.2.1 HI.out.2.2.2 rfl (by decide) (.slice (some ⟨g9, 0, none⟩) m c6) m (flatL es) rfl HOW.out ⟨t1.heap.size + 1, 0, none⟩ 1 1 [.string p1, .int .i64 y1, .int .i64 m1, .int .u64 z1, .slice a1 l1 c1, .string g1] rfl rfl HCN.out (by simp [Value.oneCell']) (by simp only [maxLen]; omega) (by omega) HB3.out.size ?_); intro v8 t8 own8 grow8 _h8
                   have HO8 := hide own8
                   have HG8 := hide grow8
                   clear own8 grow8 _h8))
            go_roundg f
            case measure => omega
            case rel =>
              obtain ⟨av, cv, hsv⟩ : ∃ av cv, v8 = .slice av (m + 1) cv := by rcases HO8.out.2 with ⟨hv, h0⟩ | ⟨g, cap, cur, hv, _⟩; exact ⟨_, _, by rw [hv, h0]⟩; exact ⟨_, _, hv⟩
              refine (show Hid _ from ⟨sz, es ++ [⟨⟨p1, y1, m1, z1, [], g1⟩, .slice a1 l1 c1⟩], ⟨av, cv, by rw [List.length_append, HM.out]; exact hsv⟩, HB3.out.grown HG8.out HB3.out.size (fun i e => (HOW.out.lt i e).1), HSD.out.trans HTD.out, HR3.out.past_row HOW.out HG8.out, HO3.out.other HG8.out (fun k e => (HOW.out.lt k e).1) HB3.out.size, ?_, ?_, Or.inr ⟨?_, ?_⟩⟩)
              · rw [List.length_append, flatL_append, HM.out]; exact HO8.out
              · rw [List.length_append, HM.out]; show m + 1 + f ≤ 1048640; omega
              · rw [HSE.out]; exact (leafR_er HBD.out HLF.out).ne
              · rw [HPP.out, HSE.out, HDR.out]; exact pl_leaf_err HBD.out h255 (by rw [← mostT_mostP]; exact HLF.out)
          | ok pr =>
            obtain ⟨p, r2⟩ := pr
            have HLF := hide hlf
            clear hlf
            go_wp2_with (first
                | (go_at_call 19; refine (rleaf_any w.heap.size w.heap.size t bs a.names _ a.ty a.mode a.stamp da dl dc a.target _ HRW.out HOK.out hte HNV.out rfl _ rfl HTY.out).mono ?_; rintro e t1 ⟨g9', hm⟩; rw [HDR.out, HLF.out] at hm
                   obtain ⟨hnp, v1, rfl, dt1, sz, hse, hsd, r9, o9, hr9⟩ := hm
                   obtain ⟨a1, l1, c1, hv1⟩ := DtOn.slice dt1
                   subst hv1
                   have b1 := past_two HBR.out g9' (Nat.le_refl _)
                   have b2 := below_alloc t1 (.cells #[.string (Pt.tg p.names), .int .i64 p.ty, .int .i64 p.mode, .int .u64 p.stamp, .slice a1 l1 c1, .string p.target] 41)
                   have b3 := below_alloc (t1.alloc (.cells #[.string (Pt.tg p.names), .int .i64 p.ty, .int .i64 p.mode, .int .u64 p.stamp, .slice a1 l1 c1, .string p.target] 41)) (.cells #[.string (Pt.tg p.names), .int .i64 p.ty, .int .i64 p.mode, .int .u64 p.stamp, .slice a1 l1 c1, .string p.target] 41)
                   have HB3 := hide (below_join (below_join b1 b2) b3)
                   have HR3 := hide ((r9.below b2).below b3)
                   have HO3 := hide ((o9.below b2).below b3)
                   have HLS := hide (((LsOn.two HLT.out g9' HRW.out (by decide) (by decide)).below b2).below b3)
                   have hcn := cells_news (heap_alloc_new (t1.alloc (.cells #[.string (Pt.tg p.names), .int .i64 p.ty, .int .i64 p.mode, .int .u64 p.stamp, .slice a1 l1 c1, .string p.target] 41)) (.cells #[.string (Pt.tg p.names), .int .i64 p.ty, .int .i64 p.mode, .int .u64 p.stamp, .slice a1 l1 c1, .string p.target] 41))
                   rw [World.size_alloc] at hcn
                   have HCN := hide hcn
                   have HSE := hide hse
                   have HSD := hide hsd
                   have HOW := hide (row_below (row_below (row_two HOWR.out g9' HRW.out (by decide)) b2) b3)
                   have hdt : DtOn t1 w.heap.size (.slice a1 l1 c1) (layD p.size p.segs) := (by rw [HTD.out] at dt1; exact DtOn.base dt1 HBR.out.size)
                   have HDT := hide (DtOn.below (DtOn.below hdt (below_alloc t1 (.cells #[.string (Pt.tg p.names), .int .i64 p.ty, .int .i64 p.mode, .int .u64 p.stamp, .slice a1 l1 c1, .string p.target] 41))) (below_alloc (t1.alloc (.cells #[.string (Pt.tg p.names), .int .i64 p.ty, .int .i64 p.mode, .int .u64 p.stamp, .slice a1 l1 c1, .string p.target] 41)) (.cells #[.string (Pt.tg p.names), .int .i64 p.ty, .int .i64 p.mode, .int .u64 p.stamp, .slice a1 l1 c1, .string p.target] 41)))
                   have HNP := hide hnp
                   have HR9 := hide hr9
                   clear hdt dt1 hnp hr9
                   clear b1 b2 b3 hcn r9 o9 g9' hse hsd k0 k1 k2 k3 k4 y0 y1' y2 y3 y4 y5 cx)
                | (at_builtin; go_loud (refine wpList_append_own ((t1.alloc (.cells #[.string (Pt.tg p.names), .int .i64 p.ty, .int .i64 p.mode, .int .u64 p.stamp, .slice a1 l1 c1, .string p.target] 41)).alloc (.cells #[.string (Pt.tg p.names), .int .i64 p.ty, .int .i64 p.mode, .int .u64 p.stamp, .slice a1 l1 c1, .string p.target] 41)) rfl (.tmp 88) (.tmp 90) 26 rfl w.heap.size 41 i0 _ 6 80 Tryd.underlying26 HI.out.1 HI.out.2.1 HI.out.2.2.1 HI.out.2.2.2 rfl (by decide) (.slice (some ⟨g9, 0, none⟩) m c6) m (flatL es) rfl HOW.out ⟨t1.heap.size + 1, 0, none⟩ 1 1 [.string (Pt.tg p.names), .int .i64 p.ty, .int .i64 p.mode, .int .u64 p.stamp, .slice a1 l1 c1, .string p.target] rfl rfl HCN.out (by simp [Value.oneCell']) (by simp only [maxLen]; omega) (by omega) HB3.out.size ?_); intro v8 t8 own8 grow8 _h8
                   have HO8 := hide own8
                   have HG8 := hide grow8
                   clear own8 grow8 _h8))
            go_roundg f
            case measure => omega
            case rel =>
              obtain ⟨av, cv, hsv⟩ : ∃ av cv, v8 = .slice av (m + 1) cv := by rcases HO8.out.2 with ⟨hv, h0⟩ | ⟨g, cap, cur, hv, _⟩; exact ⟨_, _, by rw [hv, h0]⟩; exact ⟨_, _, hv⟩
              have hlm := HM.out
              have hpush := LsOn.push (x := ⟨leafOf p, .slice a1 l1 c1⟩) HLS.out HG8.out (by rw [hlm]; exact HO8.out) HDT.out
              have hles := leafR_less HBD.out HNV.out.nms (mostT_lt _ _) HLF.out
              refine (show Hid _ from ⟨sz, es ++ [⟨leafOf p, .slice a1 l1 c1⟩], ⟨av, cv, by rw [List.length_append, HM.out]; exact hsv⟩, HB3.out.grown HG8.out HB3.out.size (fun i e => (HOW.out.lt i e).1), HSD.out.trans HTD.out, HR3.out.past_row HOW.out HG8.out, HO3.out.other HG8.out (fun k e => (HOW.out.lt k e).1) HB3.out.size, hpush.own, ?_, Or.inl ⟨HSE.out, p, ps ++ [p], es, .slice a1 l1 c1, rfl, ?_, hpush.oks, HNP.out, Or.inr hles.2, ?_, ?_⟩⟩)
              · rw [List.length_append, HM.out]; show m + 1 + f ≤ 1048640; omega
              · rw [List.map_append, HMP.out, List.map_append]; rfl
              · rw [← HR9.out]; have := HLN.out; simp at this; have := hles.1; simp at this; omega
              · rw [HPP.out, HDR.out, ← HR9.out]; exact pl_leaf_ok HBD.out h255 (by rw [← mostT_mostP]; exact HLF.out)
      · clear own hds hes hlen hm
        have d1 : decide ((t.pos : Int) < (n : Int)) = false := decide_eq_false (by omega)
        have hnil : bs.drop t.pos = [] := List.drop_eq_nil_of_le (by rw [HL.out]; omega)
        have HTK : Hid (takeR 1 (bs.drop t.pos) = .error 190) := by unfold Hid; rw [hnil]; rfl
        have HPE : Hid (piecesR bs = .error 190) := by unfold Hid; rw [HPP.out, hnil]; exact pl_short rfl
        have T1 : Hid True := trivial
        clear hnil
        go_wp2_with (first
            | (go_at_call 21; have zz := T1; clear T1 zz; refine (rtake_any w.heap.size w.heap.size 1 t bs _ HRW.out HOK.out hte (by omega)).mono ?_; rintro e v1 ⟨g9, hm⟩; rw [HTK.out] at hm; obtain ⟨rfl, _, r9, o9⟩ := hm
               have HR1 := hide r9
               have HO1 := hide o9
               have HB1 := hide (past_two HBR.out g9 (Nat.le_refl _))
               clear k0 k1 k2 k3 k4
               obtain ⟨k0, k1, k2, k3, k4⟩ := rw_cell r9
               clear r9 o9 g9; have T2 : Hid True := trivial)
            | (go_at_call 21; have zz := T2; clear T2 zz; refine (rtake_dead w.heap.size w.heap.size 4 { t with e := 190 } bs _ HR1.out HO1.out (by simp) (by omega)).mono ?_; rintro e v2 ⟨rfl, r9, o9, g9⟩
               have HB2 := hide (past_two HB1.out g9 (Nat.le_refl _))
               clear k0 k1 k2 k3 k4
               obtain ⟨k0, k1, k2, k3, k4⟩ := rw_cell r9
               clear r9 o9 g9; have T3 : Hid True := trivial))
        go_quiet (fail)
        go_wp2
        go_ret2
        refine ⟨?_, below_drewN HB2.out _⟩
        rw [openR_err HPE.out]
        exact rfl
    · have HPP := hide hpr
      clear own hpr hm
      have e1 : (t.e == 0) = false := by simp [hte]
      have e2 : (t.e != 0) = true := by simp [hte]
      have T1 : Hid True := trivial
      go_wp2_with (first
          | (go_at_call 21; have zz := T1; clear T1 zz; refine (rtake_dead w.heap.size w.heap.size 1 t bs _ HRW.out HOK.out hte (by omega)).mono ?_; rintro e v1 ⟨rfl, r9, o9, g9⟩
             have HR1 := hide r9
             have HO1 := hide o9
             have HB1 := hide (past_two HBR.out g9 (Nat.le_refl _))
             clear k0 k1 k2 k3 k4
             obtain ⟨k0, k1, k2, k3, k4⟩ := rw_cell r9
             clear r9 o9 g9; have T2 : Hid True := trivial)
          | (go_at_call 21; have zz := T2; clear T2 zz; refine (rtake_dead w.heap.size w.heap.size 4 t bs _ HR1.out HO1.out hte (by omega)).mono ?_; rintro e v2 ⟨rfl, r9, o9, g9⟩
             have HB2 := hide (past_two HB1.out g9 (Nat.le_refl _))
             clear k0 k1 k2 k3 k4
             obtain ⟨k0, k1, k2, k3, k4⟩ := rw_cell r9
             clear r9 o9 g9; have T3 : Hid True := trivial))
      go_quiet (fail)
      go_wp2
      go_ret2
      refine ⟨?_, below_drewN HB2.out _⟩
      rw [openR_err HPP.out]
      exact rfl
end Go.Proofs.YtdiifegljonojaaDoor
