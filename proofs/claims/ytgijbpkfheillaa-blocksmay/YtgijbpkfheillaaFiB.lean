/-
  SEAT Ytgijbpkfheillaa: Oldest.
-/
import Derived.Test.YtgijbpkfheillaaFiA
import Derived.Deep.RegionWith
namespace Go.Proofs.Ytgijbpkfheillaa
open Go.RowKit
set_option linter.unusedVariables false

/-- Of the first k entries that are so, the one with the least Head. -/
def lowest (es : List Ent) (p : Ent → Bool) : Nat → Option Nat
  | 0 => none
  | k + 1 => if p (es.getD k Ent.zero) && olderB es k (lowest es p k) then some k else lowest es p k
theorem lowest_lt {es : List Ent} {p : Ent → Bool} {a : Nat} : ∀ {k}, lowest es p k = some a → a < k ∧ p (es.getD a Ent.zero) = true
  | 0, h => by cases h
  | k + 1, h => by
    rw [lowest] at h
    split at h
    · rename_i hc
      cases h
      simp only [Bool.and_eq_true] at hc
      exact ⟨by omega, hc.1⟩
    · have := lowest_lt h
      exact ⟨by omega, this.2⟩
theorem lowest_none {es : List Ent} {p : Ent → Bool} : ∀ {k}, lowest es p k = none → ∀ i, i < k → p (es.getD i Ent.zero) = false
  | 0, h, i, hi => absurd hi (Nat.not_lt_zero _)
  | k + 1, h, i, hi => by
    rw [lowest] at h
    split at h
    · cases h
    · rename_i hc
      by_cases e : i = k
      · subst e
        rw [h] at hc
        cases hp : p (es.getD i Ent.zero) with
        | false => rfl
        | true => rw [hp] at hc; exact absurd rfl hc
      · exact lowest_none h i (by omega)

theorem lowest_le {es : List Ent} {p : Ent → Bool} {a : Nat} : ∀ {k}, lowest es p k = some a → ∀ i, i < k → p (es.getD i Ent.zero) = true → (es.getD a Ent.zero).h ≤ (es.getD i Ent.zero).h
  | 0, h, i, hi, _ => absurd hi (Nat.not_lt_zero _)
  | k + 1, h, i, hi, hp => by
    rw [lowest] at h
    split at h
    · rename_i hc
      have hka : k = a := by simpa using h
      simp only [Bool.and_eq_true] at hc
      by_cases e : i = k
      · rw [e, hka]; exact Int.le_refl _
      · cases ho : lowest es p k with
        | none =>
          have := lowest_none ho i (by omega)
          rw [hp] at this
          cases this
        | some b =>
          have h1 := lowest_le ho i (by omega) hp
          rw [ho] at hc
          have h2 : (es.getD k Ent.zero).h < (es.getD b Ent.zero).h := of_decide_eq_true hc.2
          rw [← hka]
          omega
    · rename_i hc
      by_cases e : i = k
      · subst e
        rw [hp, h] at hc
        have h2 : ¬ ((es.getD i Ent.zero).h < (es.getD a Ent.zero).h) := fun hh => hc (by simpa [olderB] using hh)
        omega
      · exact lowest_le h i (by omega) hp
def logE (e : Ent) : Bool := loggedB e.s e.left
def candE (e : Ent) : Bool := logE e && (e.s != 2)
def aboveE (h : Int) (e : Ent) : Bool := logE e && decide (h < e.h)
/-- What Oldest tells. -/
def oldE (es : List Ent) : Option (Nat × Int) := match lowest es candE es.length with
  | none => none
  | some v => match lowest es (aboveE (es.getD v Ent.zero).h) es.length with
    | none => none
    | some x => some (v, (es.getD x Ent.zero).h)
def oldV (o : Option (Nat × Int)) : Value := match o with
  | none => .tuple #[.int .i64 0, .int .u64 0, .bool false]
  | some (v, h) => .tuple #[.int .i64 (v : Nat), .int .u64 h, .bool true]
theorem lowest_step {es : List Ent} {p : Ent → Bool} {k : Nat} {X : Ent} {b : Bool} (hX : es.getD k Ent.zero = X) (hb : (p X && olderB es k (lowest es p k)) = b) : lowest es p (k + 1) = if b then some k else lowest es p k := by
  rw [lowest, hX, hb]

set_option maxHeartbeats 4000000 in
theorem oldest_any (gb gk : Nat) (P : Int) (es : List Ent) (cur last vic : Int) (w : World) (h : BookAt w gb gk P es cur last vic) (hn : es.length ≤ 5000) :
    Calls Try.prog 28 #[.pointer (some ⟨gb, 0, none⟩)] w fun e w' => e = .returned (oldV (oldE es)) ∧ Below w.heap.size w w' := by
  obtain ⟨c0, c1, c2, c3, c4⟩ := h.cells
  have HB : Hid (BookAt w gb gk P es cur last vic) := h
  clear h
  go_enter Try.func28, Try.ntmps28
  go_wp2
  go_loopw [5, 7, 8, 16] (fun s5 s7 s8 s16 wr => ∃ k : Nat, k ≤ es.length ∧ s16 = .int .i64 k ∧ s5 = .int .i64 (optI (lowest es candE k)) ∧ Below w.heap.size w wr)
    (fun _ _ _ i _ => es.length - (intOf i).toNat)
  case atStart => exact ⟨0, Nat.zero_le _, rfl, rfl, Below.refl _ _⟩
  case round =>
    obtain ⟨k, hk, rfl, rfl, hb⟩ := hrel
    obtain ⟨O, hO⟩ : ∃ O, lowest es candE k = O := ⟨_, rfl⟩
    have HO : Hid _ := hO
    have HOL : Hid (∀ a, O = some a → a < es.length) := fun a ha => by have := (lowest_lt (hO.trans ha)).1; omega
    rw [hO]
    clear hO
    by_cases hlt : k < es.length
    · obtain ⟨e0, e1, e2, e3, e4⟩ := (HB.out.below hb).entry k hlt
      obtain ⟨X, hX⟩ : ∃ X, es.getD k Ent.zero = X := ⟨_, rfl⟩
      have HX : Hid _ := hX
      rw [hX] at e0 e1 e2 e3 e4
      obtain ⟨s, h, r, l, lf⟩ := X
      simp only at e0 e1 e2 e3 e4
      have d1 : (k : Int) < es.length := by omega
      clear hX
      obtain ⟨ov, hov⟩ : ∃ ov, olderB es k O = ov := ⟨_, rfl⟩
      obtain ⟨lv, hlv⟩ : ∃ lv, loggedB s lf = lv := ⟨_, rfl⟩
      obtain ⟨sv, hsv⟩ : ∃ sv, (s != 2) = sv := ⟨_, rfl⟩
      have HST : Hid (lowest es candE (k + 1) = if ((lv && sv) && ov) then some k else O) := by
        have h9 := lowest_step (p := candE) HX.out (b := (lv && sv) && ov) (by rw [HO.out, hov]; unfold candE logE; simp only; rw [hlv, hsv])
        rw [HO.out] at h9
        exact h9
      have HB2 : Hid (∀ u, Below (wr.alloc (.cells #[.int .i64 s, .int .u64 h, .bool r, .int .i64 l, .bool lf] 71)).heap.size (wr.alloc (.cells #[.int .i64 s, .int .u64 h, .bool r, .int .i64 l, .bool lf] 71)) u → Below w.heap.size w u) := fun u hu => hb.trans ((below1 hu).mono hb.size)
      cases lv with
      | false =>
        go_wp2_with (first | (go_at_call 39; refine (logged_any _ _ _ _ _ _).mono ?_; rintro e u1 ⟨rfl, q1⟩; rw [hlv]; have Q1 : Hid _ := q1; clear q1))
        go_roundw
        case rel => exact ⟨k + 1, by omega, by go_num, by rw [HST.out]; rfl, HB2.out _ Q1.out⟩
        case measure => simp [intOf]; omega
      | true =>
        cases sv with
        | false =>
          go_wp2_with (first | (go_at_call 39; refine (logged_any _ _ _ _ _ _).mono ?_; rintro e u1 ⟨rfl, q1⟩; rw [hlv]; obtain ⟨x0, x1, x2, x3, x4⟩ := box5 q1; have Q1 : Hid _ := q1; clear q1))
          go_roundw
          case rel => exact ⟨k + 1, by omega, by go_num, by rw [HST.out]; rfl, HB2.out _ Q1.out⟩
          case measure => simp [intOf]; omega
        | true =>
          cases ov with
          | false =>
            go_wp2_with (first | (go_at_call 39; refine (logged_any _ _ _ _ _ _).mono ?_; rintro e u1 ⟨rfl, q1⟩; rw [hlv]; obtain ⟨x0, x1, x2, x3, x4⟩ := box5 q1; have Q1 : Hid _ := q1; clear q1) | (go_at_call 50; refine (older_any gb gk P es cur last vic k O _ (HB.out.below (HB2.out _ Q1.out)) hn hlt HOL.out).mono ?_; rintro e u2 ⟨rfl, q2, rfl⟩; rw [hov]))
            go_roundw
            case rel => exact ⟨k + 1, by omega, by go_num, by rw [HST.out]; rfl, below_drewN (HB2.out _ Q1.out) _⟩
            case measure => simp [intOf]; omega
          | true =>
            go_wp2_with (first | (go_at_call 39; refine (logged_any _ _ _ _ _ _).mono ?_; rintro e u1 ⟨rfl, q1⟩; rw [hlv]; obtain ⟨x0, x1, x2, x3, x4⟩ := box5 q1; have Q1 : Hid _ := q1; clear q1) | (go_at_call 50; refine (older_any gb gk P es cur last vic k O _ (HB.out.below (HB2.out _ Q1.out)) hn hlt HOL.out).mono ?_; rintro e u2 ⟨rfl, q2, rfl⟩; rw [hov]))
            go_roundw
            case rel => exact ⟨k + 1, by omega, by go_num, by rw [HST.out]; rfl, below_drewN (HB2.out _ Q1.out) _⟩
            case measure => simp [intOf]; omega
    · have hkn : k = es.length := by omega
      subst hkn
      cases O with
      | none =>
        have oI : optI none = -1 := rfl
        rw [oI]
        go_wp2
        go_ret3
        exact ⟨by unfold oldE; rw [HO.out]; rfl, hb⟩
      | some v =>
        have oI : optI (some v) = (v : Int) := rfl
        rw [oI]
        have dv : ((v : Int) == -1) = false := by simp
        obtain ⟨b0, b1, b2, b3, b4⟩ := (HB.out.below hb).cells
        go_wp2
        have hvl := HOL.out v rfl
        obtain ⟨H, hH⟩ : ∃ H, (es.getD v Ent.zero).h = H := ⟨_, rfl⟩
        have HH : Hid _ := hH
        have dv2 : (v : Int) < es.length := by omega
        clear hH
        go_loopw [6, 9, 10, 44] (fun s6 s9 s10 s44 wy => ∃ k : Nat, k ≤ es.length ∧ s44 = .int .i64 k ∧ s6 = .int .i64 (optI (lowest es (aboveE H) k)) ∧ Below w.heap.size w wy)
          (fun _ _ _ i _ => es.length - (intOf i).toNat)
        case atStart => exact ⟨0, Nat.zero_le _, rfl, rfl, hb⟩
        case round =>
          obtain ⟨k, hk, rfl, rfl, hb3⟩ := hrel
          obtain ⟨O, hO⟩ : ∃ O, lowest es (aboveE H) k = O := ⟨_, rfl⟩
          have HO3 : Hid _ := hO
          have HOL3 : Hid (∀ a, O = some a → a < es.length) := fun a ha => by have := (lowest_lt (hO.trans ha)).1; omega
          rw [hO]
          clear hO
          by_cases hlt : k < es.length
          · obtain ⟨e0, e1, e2, e3, e4⟩ := (HB.out.below hb3).entry k hlt
            obtain ⟨X, hX⟩ : ∃ X, es.getD k Ent.zero = X := ⟨_, rfl⟩
            have HX : Hid _ := hX
            rw [hX] at e0 e1 e2 e3 e4
            obtain ⟨s, h, r, l, lf⟩ := X
            simp only at e0 e1 e2 e3 e4
            have d1 : (k : Int) < es.length := by omega
            clear hX
            obtain ⟨ov, hov⟩ : ∃ ov, olderB es k O = ov := ⟨_, rfl⟩
            obtain ⟨lv, hlv⟩ : ∃ lv, loggedB s lf = lv := ⟨_, rfl⟩
            obtain ⟨sv, hsv⟩ : ∃ sv, decide (H < h) = sv := ⟨_, rfl⟩
            have HST : Hid (lowest es (aboveE H) (k + 1) = if ((lv && sv) && ov) then some k else O) := by
              have h9 := lowest_step (p := aboveE H) HX.out (b := (lv && sv) && ov) (by rw [HO3.out, hov]; unfold aboveE logE; simp only; rw [hlv, hsv])
              rw [HO3.out] at h9
              exact h9
            have HB2 : Hid (∀ u, Below (wr.alloc (.cells #[.int .i64 s, .int .u64 h, .bool r, .int .i64 l, .bool lf] 71)).heap.size (wr.alloc (.cells #[.int .i64 s, .int .u64 h, .bool r, .int .i64 l, .bool lf] 71)) u → Below w.heap.size w u) := fun u hu => hb3.trans ((below1 hu).mono hb3.size)
            have HSH : Hid (∀ x, Below (wr.alloc (.cells #[.int .i64 s, .int .u64 h, .bool r, .int .i64 l, .bool lf] 71)).heap.size (wr.alloc (.cells #[.int .i64 s, .int .u64 h, .bool r, .int .i64 l, .bool lf] 71)) x → (fun x => Below (wr.alloc (.cells #[.int .i64 s, .int .u64 h, .bool r, .int .i64 l, .bool lf] 71)).heap.size (wr.alloc (.cells #[.int .i64 s, .int .u64 h, .bool r, .int .i64 l, .bool lf] 71)) x ∧ x.cell? ⟨wr.heap.size, 0, none⟩ = some (.int .i64 s) ∧ x.cell? ⟨wr.heap.size, 1, none⟩ = some (.int .u64 h) ∧ x.cell? ⟨wr.heap.size, 2, none⟩ = some (.bool r) ∧ x.cell? ⟨wr.heap.size, 3, none⟩ = some (.int .i64 l) ∧ x.cell? ⟨wr.heap.size, 4, none⟩ = some (.bool lf) ∧ x.cell? ⟨gb, 1, none⟩ = some (.slice (some ⟨gk, 0, none⟩) es.length es.length) ∧ x.cell? ⟨gk, v * 5 + 1, none⟩ = some (.int .u64 H)) x) := fun x hx => by
              obtain ⟨x0, x1, x2, x3, x4⟩ := box5 hx
              have hB := HB.out.below (HB2.out _ hx)
              obtain ⟨_, g1, _, _, _⟩ := hB.entry v hvl
              rw [HH.out] at g1
              exact ⟨hx, x0, x1, x2, x3, x4, hB.cells.2.1, g1⟩
            go_upto_region 13 with fail
            clear e0 e1 e2 e3 e4 b0 b1 b2 b3 b4 c0 c1 c2 c3 c4
            go_cut [71] (fun s71 wx => s71 = .bool ((lv && sv) && ov) ∧ Below w.heap.size w wx)
            case first =>
              cases lv with
              | false =>
                refine wp_region_held_drew (S := (fun x => Below (wr.alloc (.cells #[.int .i64 s, .int .u64 h, .bool r, .int .i64 l, .bool lf] 71)).heap.size (wr.alloc (.cells #[.int .i64 s, .int .u64 h, .bool r, .int .i64 l, .bool lf] 71)) x ∧ x.cell? ⟨wr.heap.size, 0, none⟩ = some (.int .i64 s) ∧ x.cell? ⟨wr.heap.size, 1, none⟩ = some (.int .u64 h) ∧ x.cell? ⟨wr.heap.size, 2, none⟩ = some (.bool r) ∧ x.cell? ⟨wr.heap.size, 3, none⟩ = some (.int .i64 l) ∧ x.cell? ⟨wr.heap.size, 4, none⟩ = some (.bool lf) ∧ x.cell? ⟨gb, 1, none⟩ = some (.slice (some ⟨gk, 0, none⟩) es.length es.length) ∧ x.cell? ⟨gk, v * 5 + 1, none⟩ = some (.int .u64 H))) (by kernel_rfl) (HSH.out _ (Below.refl _ _).drew) (fun hHeld => ?_)
                refine wpAnyH_take (i := 0) (oi := { dst := some 49, op := Op.load 71 (Operand.tmp 10), type := 71, pos := "blocks.go:160", after := #[], guard := none }) (v := ?v0a) rfl (by kernel_rfl) (by kernel_rfl) (by kernel_rfl) (fun _ _ _ h => h) (Or.inl ⟨by rfl, ?y0a⟩) (by assumption) ?r0a
                case y0a => (intro x hx; (try dsimp only at hx); go_simp; try with_reducible rfl)
                try simp only [Act.put, List.setIfInBounds_toArray, List.set_cons_zero, List.set_cons_succ]
                refine wpAnyH_ready (rs := [1]) (by kernel_rfl) (by simp) ?_
                refine AllReadyH.cons (o := { dst := some 50, op := Op.call { callee := Callee.value (Operand.func 39), args := #[Operand.tmp 49], argTypes := #[71] }, type := 4, pos := "blocks.go:160", after := #[{ on := 0, ground := Ground.data }], guard := none }) rfl (fun K hK => ?_) AllReadyH.nil
                go_simp
                go_at_call 39
                refine (logged_any _ _ _ _ _ _).mono ?_
                rintro e u1 ⟨rfl, q1⟩
                rw [hlv]
                have q2 := (Below.refl _ _).drew.trans q1
                have hSnew := HSH.out u1 q2
                go_wp2_with fail
                refine hK.out _ _ hSnew (fun hHeld1 => ?_)
                clear hK K hSnew
                clear hHeld
                have hHeld := hHeld1
                clear hHeld1
                try simp only [Act.put, List.setIfInBounds_toArray, List.set_cons_zero, List.set_cons_succ]
                refine wpAnyH_take (i := 2) (oi := { dst := some 51, op := Op.move (Operand.tmp 50), type := 4, pos := "blocks.go:160", after := #[{ on := 1, ground := Ground.data }, { on := 1, ground := Ground.chain }], guard := none }) (v := ?v2a) rfl (by kernel_rfl) (by kernel_rfl) (by kernel_rfl) (fun _ _ _ h => h) (Or.inl ⟨by rfl, ?y2a⟩) (by assumption) ?r2a
                case y2a => (intro x hx; (try dsimp only at hx); go_simp; try with_reducible rfl)
                try simp only [Act.put, List.setIfInBounds_toArray, List.set_cons_zero, List.set_cons_succ]
                refine wpAnyH_take (i := 3) (oi := { dst := some 52, op := Op.fieldAddr 71 (Operand.tmp 10) 0, type := 0, pos := "blocks.go:160", after := #[{ on := 2, ground := Ground.guard }], guard := some (2, true) }) (v := undef) rfl (by kernel_rfl) (by kernel_rfl) (by kernel_rfl) (fun _ _ _ h => h) (Or.inr ⟨by rfl, rfl⟩) (by assumption) ?_
                try simp only [Act.put, List.setIfInBounds_toArray, List.set_cons_zero, List.set_cons_succ]
                refine wpAnyH_take (i := 4) (oi := { dst := some 53, op := Op.fieldAddr 34 (Operand.tmp 52) 1, type := 0, pos := "blocks.go:160", after := #[{ on := 3, ground := Ground.data }, { on := 2, ground := Ground.guard }], guard := some (2, true) }) (v := undef) rfl (by kernel_rfl) (by kernel_rfl) (by kernel_rfl) (fun _ _ _ h => h) (Or.inr ⟨by rfl, rfl⟩) (by assumption) ?_
                try simp only [Act.put, List.setIfInBounds_toArray, List.set_cons_zero, List.set_cons_succ]
                refine wpAnyH_take (i := 5) (oi := { dst := some 54, op := Op.load 32 (Operand.tmp 53), type := 32, pos := "blocks.go:160", after := #[{ on := 4, ground := Ground.data }, { on := 2, ground := Ground.guard }], guard := some (2, true) }) (v := undef) rfl (by kernel_rfl) (by kernel_rfl) (by kernel_rfl) (fun _ _ _ h => h) (Or.inr ⟨by rfl, rfl⟩) (by assumption) ?_
                try simp only [Act.put, List.setIfInBounds_toArray, List.set_cons_zero, List.set_cons_succ]
                refine wpAnyH_take (i := 6) (oi := { dst := some 55, op := Op.move (Operand.tmp 0), type := 25, pos := "blocks.go:160", after := #[{ on := 2, ground := Ground.guard }], guard := some (2, true) }) (v := undef) rfl (by kernel_rfl) (by kernel_rfl) (by kernel_rfl) (fun _ _ _ h => h) (Or.inr ⟨by rfl, rfl⟩) (by assumption) ?_
                try simp only [Act.put, List.setIfInBounds_toArray, List.set_cons_zero, List.set_cons_succ]
                refine wpAnyH_take (i := 7) (oi := { dst := some 56, op := Op.nilCheck (Operand.tmp 55), type := 0, pos := "blocks.go:160", after := #[{ on := 6, ground := Ground.data }, { on := 2, ground := Ground.guard }], guard := some (2, true) }) (v := undef) rfl (by kernel_rfl) (by kernel_rfl) (by kernel_rfl) (fun _ _ _ h => h) (Or.inr ⟨by rfl, rfl⟩) (by assumption) ?_
                try simp only [Act.put, List.setIfInBounds_toArray, List.set_cons_zero, List.set_cons_succ]
                refine wpAnyH_take (i := 8) (oi := { dst := some 57, op := Op.fieldAddr 69 (Operand.tmp 56) 1, type := 0, pos := "blocks.go:160", after := #[{ on := 7, ground := Ground.data }, { on := 2, ground := Ground.guard }], guard := some (2, true) }) (v := undef) rfl (by kernel_rfl) (by kernel_rfl) (by kernel_rfl) (fun _ _ _ h => h) (Or.inr ⟨by rfl, rfl⟩) (by assumption) ?_
                try simp only [Act.put, List.setIfInBounds_toArray, List.set_cons_zero, List.set_cons_succ]
                refine wpAnyH_take (i := 9) (oi := { dst := some 58, op := Op.load 67 (Operand.tmp 57), type := 67, pos := "blocks.go:160", after := #[{ on := 8, ground := Ground.data }, { on := 2, ground := Ground.guard }], guard := some (2, true) }) (v := undef) rfl (by kernel_rfl) (by kernel_rfl) (by kernel_rfl) (fun _ _ _ h => h) (Or.inr ⟨by rfl, rfl⟩) (by assumption) ?_
                try simp only [Act.put, List.setIfInBounds_toArray, List.set_cons_zero, List.set_cons_succ]
                refine wpAnyH_take (i := 10) (oi := { dst := some 59, op := Op.move (Operand.tmp 5), type := 3, pos := "blocks.go:160", after := #[{ on := 2, ground := Ground.guard }], guard := some (2, true) }) (v := undef) rfl (by kernel_rfl) (by kernel_rfl) (by kernel_rfl) (fun _ _ _ h => h) (Or.inr ⟨by rfl, rfl⟩) (by assumption) ?_
                try simp only [Act.put, List.setIfInBounds_toArray, List.set_cons_zero, List.set_cons_succ]
                refine wpAnyH_take (i := 11) (oi := { dst := some 60, op := Op.indexAddr 67 (Operand.tmp 58) (Operand.tmp 59), type := 0, pos := "blocks.go:160", after := #[{ on := 9, ground := Ground.data }, { on := 10, ground := Ground.data }, { on := 2, ground := Ground.guard }], guard := some (2, true) }) (v := undef) rfl (by kernel_rfl) (by kernel_rfl) (by kernel_rfl) (fun _ _ _ h => h) (Or.inr ⟨by rfl, rfl⟩) (by assumption) ?_
                try simp only [Act.put, List.setIfInBounds_toArray, List.set_cons_zero, List.set_cons_succ]
                refine wpAnyH_take (i := 12) (oi := { dst := some 61, op := Op.fieldAddr 71 (Operand.tmp 60) 0, type := 0, pos := "blocks.go:160", after := #[{ on := 11, ground := Ground.data }, { on := 2, ground := Ground.guard }], guard := some (2, true) }) (v := undef) rfl (by kernel_rfl) (by kernel_rfl) (by kernel_rfl) (fun _ _ _ h => h) (Or.inr ⟨by rfl, rfl⟩) (by assumption) ?_
                try simp only [Act.put, List.setIfInBounds_toArray, List.set_cons_zero, List.set_cons_succ]
                refine wpAnyH_take (i := 13) (oi := { dst := some 62, op := Op.fieldAddr 34 (Operand.tmp 61) 1, type := 0, pos := "blocks.go:160", after := #[{ on := 12, ground := Ground.data }, { on := 2, ground := Ground.guard }], guard := some (2, true) }) (v := undef) rfl (by kernel_rfl) (by kernel_rfl) (by kernel_rfl) (fun _ _ _ h => h) (Or.inr ⟨by rfl, rfl⟩) (by assumption) ?_
                try simp only [Act.put, List.setIfInBounds_toArray, List.set_cons_zero, List.set_cons_succ]
                refine wpAnyH_take (i := 14) (oi := { dst := some 63, op := Op.load 32 (Operand.tmp 62), type := 32, pos := "blocks.go:160", after := #[{ on := 13, ground := Ground.data }, { on := 2, ground := Ground.guard }], guard := some (2, true) }) (v := undef) rfl (by kernel_rfl) (by kernel_rfl) (by kernel_rfl) (fun _ _ _ h => h) (Or.inr ⟨by rfl, rfl⟩) (by assumption) ?_
                try simp only [Act.put, List.setIfInBounds_toArray, List.set_cons_zero, List.set_cons_succ]
                refine wpAnyH_take (i := 15) (oi := { dst := some 64, op := Op.binOp BinOp.gtr 32 (Operand.tmp 54) (Operand.tmp 63) 32, type := 4, pos := "blocks.go:160", after := #[{ on := 5, ground := Ground.data }, { on := 14, ground := Ground.data }, { on := 2, ground := Ground.guard }], guard := some (2, true) }) (v := undef) rfl (by kernel_rfl) (by kernel_rfl) (by kernel_rfl) (fun _ _ _ h => h) (Or.inr ⟨by rfl, rfl⟩) (by assumption) ?_
                try simp only [Act.put, List.setIfInBounds_toArray, List.set_cons_zero, List.set_cons_succ]
                refine wpAnyH_take (i := 16) (oi := { dst := some 65, op := Op.pick (Operand.tmp 51) (Operand.tmp 64) (Operand.const (Value.bool false)), type := 4, pos := "blocks.go:160", after := #[{ on := 2, ground := Ground.data }, { on := 15, ground := Ground.data }], guard := none }) (v := ?v16a) rfl (by kernel_rfl) (by kernel_rfl) (by kernel_rfl) (fun _ _ _ h => h) (Or.inl ⟨by rfl, ?y16a⟩) (by assumption) ?r16a
                case y16a => (intro x hx; (try dsimp only at hx); go_simp; try with_reducible rfl)
                try simp only [Act.put, List.setIfInBounds_toArray, List.set_cons_zero, List.set_cons_succ]
                refine wpAnyH_take (i := 17) (oi := { dst := some 66, op := Op.move (Operand.tmp 65), type := 4, pos := "blocks.go:160", after := #[{ on := 16, ground := Ground.data }, { on := 2, ground := Ground.chain }], guard := none }) (v := ?v17a) rfl (by kernel_rfl) (by kernel_rfl) (by kernel_rfl) (fun _ _ _ h => h) (Or.inl ⟨by rfl, ?y17a⟩) (by assumption) ?r17a
                case y17a => (intro x hx; (try dsimp only at hx); go_simp; try with_reducible rfl)
                try simp only [Act.put, List.setIfInBounds_toArray, List.set_cons_zero, List.set_cons_succ]
                refine wpAnyH_take (i := 18) (oi := { dst := some 67, op := Op.move (Operand.tmp 0), type := 25, pos := "blocks.go:160", after := #[{ on := 17, ground := Ground.guard }], guard := some (17, true) }) (v := undef) rfl (by kernel_rfl) (by kernel_rfl) (by kernel_rfl) (fun _ _ _ h => h) (Or.inr ⟨by rfl, rfl⟩) (by assumption) ?_
                try simp only [Act.put, List.setIfInBounds_toArray, List.set_cons_zero, List.set_cons_succ]
                refine wpAnyH_take (i := 19) (oi := { dst := some 68, op := Op.move (Operand.tmp 9), type := 3, pos := "blocks.go:160", after := #[{ on := 17, ground := Ground.guard }], guard := some (17, true) }) (v := undef) rfl (by kernel_rfl) (by kernel_rfl) (by kernel_rfl) (fun _ _ _ h => h) (Or.inr ⟨by rfl, rfl⟩) (by assumption) ?_
                try simp only [Act.put, List.setIfInBounds_toArray, List.set_cons_zero, List.set_cons_succ]
                refine wpAnyH_take (i := 20) (oi := { dst := some 69, op := Op.move (Operand.tmp 6), type := 3, pos := "blocks.go:160", after := #[{ on := 17, ground := Ground.guard }], guard := some (17, true) }) (v := undef) rfl (by kernel_rfl) (by kernel_rfl) (by kernel_rfl) (fun _ _ _ h => h) (Or.inr ⟨by rfl, rfl⟩) (by assumption) ?_
                try simp only [Act.put, List.setIfInBounds_toArray, List.set_cons_zero, List.set_cons_succ]
                refine wpAnyH_take (i := 21) (oi := { dst := some 70, op := Op.call { callee := Callee.value (Operand.func 50), args := #[Operand.tmp 67, Operand.tmp 68, Operand.tmp 69], argTypes := #[25, 3, 3] }, type := 4, pos := "blocks.go:160", after := #[{ on := 18, ground := Ground.data }, { on := 19, ground := Ground.data }, { on := 20, ground := Ground.data }, { on := 17, ground := Ground.chain }, { on := 17, ground := Ground.guard }], guard := some (17, true) }) (v := undef) rfl (by kernel_rfl) (by kernel_rfl) (by kernel_rfl) (fun _ _ _ h => h) (Or.inr ⟨by rfl, rfl⟩) (by assumption) ?_
                try simp only [Act.put, List.setIfInBounds_toArray, List.set_cons_zero, List.set_cons_succ]
                refine wpAnyH_take (i := 22) (oi := { dst := some 71, op := Op.pick (Operand.tmp 66) (Operand.tmp 70) (Operand.const (Value.bool false)), type := 4, pos := "blocks.go:160", after := #[{ on := 17, ground := Ground.data }, { on := 21, ground := Ground.data }], guard := none }) (v := ?v22a) rfl (by kernel_rfl) (by kernel_rfl) (by kernel_rfl) (fun _ _ _ h => h) (Or.inl ⟨by rfl, ?y22a⟩) (by assumption) ?r22a
                case y22a => (intro x hx; (try dsimp only at hx); go_simp; try with_reducible rfl)
                try simp only [Act.put, List.setIfInBounds_toArray, List.set_cons_zero, List.set_cons_succ]
                refine wpAnyH_done (by kernel_rfl) ?_ _
                all_goals go_wp2
                all_goals go_meet
                all_goals exact ⟨rfl, HB2.out _ q2⟩
              | true =>
                cases sv with
                | false =>
                  refine wp_region_held_drew (S := (fun x => Below (wr.alloc (.cells #[.int .i64 s, .int .u64 h, .bool r, .int .i64 l, .bool lf] 71)).heap.size (wr.alloc (.cells #[.int .i64 s, .int .u64 h, .bool r, .int .i64 l, .bool lf] 71)) x ∧ x.cell? ⟨wr.heap.size, 0, none⟩ = some (.int .i64 s) ∧ x.cell? ⟨wr.heap.size, 1, none⟩ = some (.int .u64 h) ∧ x.cell? ⟨wr.heap.size, 2, none⟩ = some (.bool r) ∧ x.cell? ⟨wr.heap.size, 3, none⟩ = some (.int .i64 l) ∧ x.cell? ⟨wr.heap.size, 4, none⟩ = some (.bool lf) ∧ x.cell? ⟨gb, 1, none⟩ = some (.slice (some ⟨gk, 0, none⟩) es.length es.length) ∧ x.cell? ⟨gk, v * 5 + 1, none⟩ = some (.int .u64 H))) (by kernel_rfl) (HSH.out _ (Below.refl _ _).drew) (fun hHeld => ?_)
                  refine wpAnyH_take (i := 0) (oi := { dst := some 49, op := Op.load 71 (Operand.tmp 10), type := 71, pos := "blocks.go:160", after := #[], guard := none }) (v := ?v0b) rfl (by kernel_rfl) (by kernel_rfl) (by kernel_rfl) (fun _ _ _ h => h) (Or.inl ⟨by rfl, ?y0b⟩) (by assumption) ?r0b
                  case y0b => (intro x hx; (try dsimp only at hx); go_simp; try with_reducible rfl)
                  try simp only [Act.put, List.setIfInBounds_toArray, List.set_cons_zero, List.set_cons_succ]
                  refine wpAnyH_ready (rs := [1]) (by kernel_rfl) (by simp) ?_
                  refine AllReadyH.cons (o := { dst := some 50, op := Op.call { callee := Callee.value (Operand.func 39), args := #[Operand.tmp 49], argTypes := #[71] }, type := 4, pos := "blocks.go:160", after := #[{ on := 0, ground := Ground.data }], guard := none }) rfl (fun K hK => ?_) AllReadyH.nil
                  go_simp
                  go_at_call 39
                  refine (logged_any _ _ _ _ _ _).mono ?_
                  rintro e u1 ⟨rfl, q1⟩
                  rw [hlv]
                  have q2 := (Below.refl _ _).drew.trans q1
                  have hSnew := HSH.out u1 q2
                  go_wp2_with fail
                  refine hK.out _ _ hSnew (fun hHeld1 => ?_)
                  clear hK K hSnew
                  clear hHeld
                  have hHeld := hHeld1
                  clear hHeld1
                  try simp only [Act.put, List.setIfInBounds_toArray, List.set_cons_zero, List.set_cons_succ]
                  refine wpAnyH_take (i := 2) (oi := { dst := some 51, op := Op.move (Operand.tmp 50), type := 4, pos := "blocks.go:160", after := #[{ on := 1, ground := Ground.data }, { on := 1, ground := Ground.chain }], guard := none }) (v := ?v2b) rfl (by kernel_rfl) (by kernel_rfl) (by kernel_rfl) (fun _ _ _ h => h) (Or.inl ⟨by rfl, ?y2b⟩) (by assumption) ?r2b
                  case y2b => (intro x hx; (try dsimp only at hx); go_simp; try with_reducible rfl)
                  try simp only [Act.put, List.setIfInBounds_toArray, List.set_cons_zero, List.set_cons_succ]
                  refine wpAnyH_take (i := 3) (oi := { dst := some 52, op := Op.fieldAddr 71 (Operand.tmp 10) 0, type := 0, pos := "blocks.go:160", after := #[{ on := 2, ground := Ground.guard }], guard := some (2, true) }) (v := ?v3b) rfl (by kernel_rfl) (by kernel_rfl) (by kernel_rfl) (fun _ _ _ h => h) (Or.inl ⟨by rfl, ?y3b⟩) (by assumption) ?r3b
                  case y3b => (intro x hx; (try dsimp only at hx); go_simp; try with_reducible rfl)
                  try simp only [Act.put, List.setIfInBounds_toArray, List.set_cons_zero, List.set_cons_succ]
                  refine wpAnyH_take (i := 4) (oi := { dst := some 53, op := Op.fieldAddr 34 (Operand.tmp 52) 1, type := 0, pos := "blocks.go:160", after := #[{ on := 3, ground := Ground.data }, { on := 2, ground := Ground.guard }], guard := some (2, true) }) (v := ?v4b) rfl (by kernel_rfl) (by kernel_rfl) (by kernel_rfl) (fun _ _ _ h => h) (Or.inl ⟨by rfl, ?y4b⟩) (by assumption) ?r4b
                  case y4b => (intro x hx; (try dsimp only at hx); go_simp; try with_reducible rfl)
                  try simp only [Act.put, List.setIfInBounds_toArray, List.set_cons_zero, List.set_cons_succ]
                  refine wpAnyH_take (i := 5) (oi := { dst := some 54, op := Op.load 32 (Operand.tmp 53), type := 32, pos := "blocks.go:160", after := #[{ on := 4, ground := Ground.data }, { on := 2, ground := Ground.guard }], guard := some (2, true) }) (v := ?v5b) rfl (by kernel_rfl) (by kernel_rfl) (by kernel_rfl) (fun _ _ _ h => h) (Or.inl ⟨by rfl, ?y5b⟩) (by assumption) ?r5b
                  case y5b => (intro x hx; (try dsimp only at hx); go_simp; try with_reducible rfl)
                  try simp only [Act.put, List.setIfInBounds_toArray, List.set_cons_zero, List.set_cons_succ]
                  refine wpAnyH_take (i := 6) (oi := { dst := some 55, op := Op.move (Operand.tmp 0), type := 25, pos := "blocks.go:160", after := #[{ on := 2, ground := Ground.guard }], guard := some (2, true) }) (v := ?v6b) rfl (by kernel_rfl) (by kernel_rfl) (by kernel_rfl) (fun _ _ _ h => h) (Or.inl ⟨by rfl, ?y6b⟩) (by assumption) ?r6b
                  case y6b => (intro x hx; (try dsimp only at hx); go_simp; try with_reducible rfl)
                  try simp only [Act.put, List.setIfInBounds_toArray, List.set_cons_zero, List.set_cons_succ]
                  refine wpAnyH_take (i := 7) (oi := { dst := some 56, op := Op.nilCheck (Operand.tmp 55), type := 0, pos := "blocks.go:160", after := #[{ on := 6, ground := Ground.data }, { on := 2, ground := Ground.guard }], guard := some (2, true) }) (v := ?v7b) rfl (by kernel_rfl) (by kernel_rfl) (by kernel_rfl) (fun _ _ _ h => h) (Or.inl ⟨by rfl, ?y7b⟩) (by assumption) ?r7b
                  case y7b => (intro x hx; (try dsimp only at hx); go_simp; try with_reducible rfl)
                  try simp only [Act.put, List.setIfInBounds_toArray, List.set_cons_zero, List.set_cons_succ]
                  refine wpAnyH_take (i := 8) (oi := { dst := some 57, op := Op.fieldAddr 69 (Operand.tmp 56) 1, type := 0, pos := "blocks.go:160", after := #[{ on := 7, ground := Ground.data }, { on := 2, ground := Ground.guard }], guard := some (2, true) }) (v := ?v8b) rfl (by kernel_rfl) (by kernel_rfl) (by kernel_rfl) (fun _ _ _ h => h) (Or.inl ⟨by rfl, ?y8b⟩) (by assumption) ?r8b
                  case y8b => (intro x hx; (try dsimp only at hx); go_simp; try with_reducible rfl)
                  try simp only [Act.put, List.setIfInBounds_toArray, List.set_cons_zero, List.set_cons_succ]
                  refine wpAnyH_take (i := 9) (oi := { dst := some 58, op := Op.load 67 (Operand.tmp 57), type := 67, pos := "blocks.go:160", after := #[{ on := 8, ground := Ground.data }, { on := 2, ground := Ground.guard }], guard := some (2, true) }) (v := ?v9b) rfl (by kernel_rfl) (by kernel_rfl) (by kernel_rfl) (fun _ _ _ h => h) (Or.inl ⟨by rfl, ?y9b⟩) (by assumption) ?r9b
                  case y9b => (intro x hx; (try dsimp only at hx); go_simp; try with_reducible rfl)
                  try simp only [Act.put, List.setIfInBounds_toArray, List.set_cons_zero, List.set_cons_succ]
                  refine wpAnyH_take (i := 10) (oi := { dst := some 59, op := Op.move (Operand.tmp 5), type := 3, pos := "blocks.go:160", after := #[{ on := 2, ground := Ground.guard }], guard := some (2, true) }) (v := ?v10b) rfl (by kernel_rfl) (by kernel_rfl) (by kernel_rfl) (fun _ _ _ h => h) (Or.inl ⟨by rfl, ?y10b⟩) (by assumption) ?r10b
                  case y10b => (intro x hx; (try dsimp only at hx); go_simp; try with_reducible rfl)
                  try simp only [Act.put, List.setIfInBounds_toArray, List.set_cons_zero, List.set_cons_succ]
                  refine wpAnyH_take (i := 11) (oi := { dst := some 60, op := Op.indexAddr 67 (Operand.tmp 58) (Operand.tmp 59), type := 0, pos := "blocks.go:160", after := #[{ on := 9, ground := Ground.data }, { on := 10, ground := Ground.data }, { on := 2, ground := Ground.guard }], guard := some (2, true) }) (v := ?v11b) rfl (by kernel_rfl) (by kernel_rfl) (by kernel_rfl) (fun _ _ _ h => h) (Or.inl ⟨by rfl, ?y11b⟩) (by assumption) ?r11b
                  case y11b => (intro x hx; (try dsimp only at hx); go_simp; try with_reducible rfl)
                  try simp only [Act.put, List.setIfInBounds_toArray, List.set_cons_zero, List.set_cons_succ]
                  refine wpAnyH_take (i := 12) (oi := { dst := some 61, op := Op.fieldAddr 71 (Operand.tmp 60) 0, type := 0, pos := "blocks.go:160", after := #[{ on := 11, ground := Ground.data }, { on := 2, ground := Ground.guard }], guard := some (2, true) }) (v := ?v12b) rfl (by kernel_rfl) (by kernel_rfl) (by kernel_rfl) (fun _ _ _ h => h) (Or.inl ⟨by rfl, ?y12b⟩) (by assumption) ?r12b
                  case y12b => (intro x hx; (try dsimp only at hx); go_simp; try with_reducible rfl)
                  try simp only [Act.put, List.setIfInBounds_toArray, List.set_cons_zero, List.set_cons_succ]
                  refine wpAnyH_take (i := 13) (oi := { dst := some 62, op := Op.fieldAddr 34 (Operand.tmp 61) 1, type := 0, pos := "blocks.go:160", after := #[{ on := 12, ground := Ground.data }, { on := 2, ground := Ground.guard }], guard := some (2, true) }) (v := ?v13b) rfl (by kernel_rfl) (by kernel_rfl) (by kernel_rfl) (fun _ _ _ h => h) (Or.inl ⟨by rfl, ?y13b⟩) (by assumption) ?r13b
                  case y13b => (intro x hx; (try dsimp only at hx); go_simp; try with_reducible rfl)
                  try simp only [Act.put, List.setIfInBounds_toArray, List.set_cons_zero, List.set_cons_succ]
                  refine wpAnyH_take (i := 14) (oi := { dst := some 63, op := Op.load 32 (Operand.tmp 62), type := 32, pos := "blocks.go:160", after := #[{ on := 13, ground := Ground.data }, { on := 2, ground := Ground.guard }], guard := some (2, true) }) (v := ?v14b) rfl (by kernel_rfl) (by kernel_rfl) (by kernel_rfl) (fun _ _ _ h => h) (Or.inl ⟨by rfl, ?y14b⟩) (by assumption) ?r14b
                  case y14b => (intro x hx; (try dsimp only at hx); go_simp; try with_reducible rfl)
                  try simp only [Act.put, List.setIfInBounds_toArray, List.set_cons_zero, List.set_cons_succ]
                  refine wpAnyH_take (i := 15) (oi := { dst := some 64, op := Op.binOp BinOp.gtr 32 (Operand.tmp 54) (Operand.tmp 63) 32, type := 4, pos := "blocks.go:160", after := #[{ on := 5, ground := Ground.data }, { on := 14, ground := Ground.data }, { on := 2, ground := Ground.guard }], guard := some (2, true) }) (v := ?v15b) rfl (by kernel_rfl) (by kernel_rfl) (by kernel_rfl) (fun _ _ _ h => h) (Or.inl ⟨by rfl, ?y15b⟩) (by assumption) ?r15b
                  case y15b => (intro x hx; (try dsimp only at hx); go_simp; try with_reducible rfl)
                  try simp only [Act.put, List.setIfInBounds_toArray, List.set_cons_zero, List.set_cons_succ]
                  refine wpAnyH_take (i := 16) (oi := { dst := some 65, op := Op.pick (Operand.tmp 51) (Operand.tmp 64) (Operand.const (Value.bool false)), type := 4, pos := "blocks.go:160", after := #[{ on := 2, ground := Ground.data }, { on := 15, ground := Ground.data }], guard := none }) (v := ?v16b) rfl (by kernel_rfl) (by kernel_rfl) (by kernel_rfl) (fun _ _ _ h => h) (Or.inl ⟨by rfl, ?y16b⟩) (by assumption) ?r16b
                  case y16b => (intro x hx; (try dsimp only at hx); go_simp; try with_reducible rfl)
                  try simp only [Act.put, List.setIfInBounds_toArray, List.set_cons_zero, List.set_cons_succ]
                  refine wpAnyH_take (i := 17) (oi := { dst := some 66, op := Op.move (Operand.tmp 65), type := 4, pos := "blocks.go:160", after := #[{ on := 16, ground := Ground.data }, { on := 2, ground := Ground.chain }], guard := none }) (v := ?v17b) rfl (by kernel_rfl) (by kernel_rfl) (by kernel_rfl) (fun _ _ _ h => h) (Or.inl ⟨by rfl, ?y17b⟩) (by assumption) ?r17b
                  case y17b => (intro x hx; (try dsimp only at hx); go_simp; try with_reducible rfl)
                  try simp only [Act.put, List.setIfInBounds_toArray, List.set_cons_zero, List.set_cons_succ]
                  refine wpAnyH_take (i := 18) (oi := { dst := some 67, op := Op.move (Operand.tmp 0), type := 25, pos := "blocks.go:160", after := #[{ on := 17, ground := Ground.guard }], guard := some (17, true) }) (v := undef) rfl (by kernel_rfl) (by kernel_rfl) (by kernel_rfl) (fun _ _ _ h => h) (Or.inr ⟨by rfl, rfl⟩) (by assumption) ?_
                  try simp only [Act.put, List.setIfInBounds_toArray, List.set_cons_zero, List.set_cons_succ]
                  refine wpAnyH_take (i := 19) (oi := { dst := some 68, op := Op.move (Operand.tmp 9), type := 3, pos := "blocks.go:160", after := #[{ on := 17, ground := Ground.guard }], guard := some (17, true) }) (v := undef) rfl (by kernel_rfl) (by kernel_rfl) (by kernel_rfl) (fun _ _ _ h => h) (Or.inr ⟨by rfl, rfl⟩) (by assumption) ?_
                  try simp only [Act.put, List.setIfInBounds_toArray, List.set_cons_zero, List.set_cons_succ]
                  refine wpAnyH_take (i := 20) (oi := { dst := some 69, op := Op.move (Operand.tmp 6), type := 3, pos := "blocks.go:160", after := #[{ on := 17, ground := Ground.guard }], guard := some (17, true) }) (v := undef) rfl (by kernel_rfl) (by kernel_rfl) (by kernel_rfl) (fun _ _ _ h => h) (Or.inr ⟨by rfl, rfl⟩) (by assumption) ?_
                  try simp only [Act.put, List.setIfInBounds_toArray, List.set_cons_zero, List.set_cons_succ]
                  refine wpAnyH_take (i := 21) (oi := { dst := some 70, op := Op.call { callee := Callee.value (Operand.func 50), args := #[Operand.tmp 67, Operand.tmp 68, Operand.tmp 69], argTypes := #[25, 3, 3] }, type := 4, pos := "blocks.go:160", after := #[{ on := 18, ground := Ground.data }, { on := 19, ground := Ground.data }, { on := 20, ground := Ground.data }, { on := 17, ground := Ground.chain }, { on := 17, ground := Ground.guard }], guard := some (17, true) }) (v := undef) rfl (by kernel_rfl) (by kernel_rfl) (by kernel_rfl) (fun _ _ _ h => h) (Or.inr ⟨by rfl, rfl⟩) (by assumption) ?_
                  try simp only [Act.put, List.setIfInBounds_toArray, List.set_cons_zero, List.set_cons_succ]
                  refine wpAnyH_take (i := 22) (oi := { dst := some 71, op := Op.pick (Operand.tmp 66) (Operand.tmp 70) (Operand.const (Value.bool false)), type := 4, pos := "blocks.go:160", after := #[{ on := 17, ground := Ground.data }, { on := 21, ground := Ground.data }], guard := none }) (v := ?v22b) rfl (by kernel_rfl) (by kernel_rfl) (by kernel_rfl) (fun _ _ _ h => h) (Or.inl ⟨by rfl, ?y22b⟩) (by assumption) ?r22b
                  case y22b => (intro x hx; (try dsimp only at hx); go_simp; try with_reducible rfl)
                  try simp only [Act.put, List.setIfInBounds_toArray, List.set_cons_zero, List.set_cons_succ]
                  refine wpAnyH_done (by kernel_rfl) ?_ _
                  all_goals go_wp2
                  all_goals go_meet
                  all_goals exact ⟨rfl, HB2.out _ q2⟩
                | true =>
                  refine wp_region_held_drew (S := (fun x => Below (wr.alloc (.cells #[.int .i64 s, .int .u64 h, .bool r, .int .i64 l, .bool lf] 71)).heap.size (wr.alloc (.cells #[.int .i64 s, .int .u64 h, .bool r, .int .i64 l, .bool lf] 71)) x ∧ x.cell? ⟨wr.heap.size, 0, none⟩ = some (.int .i64 s) ∧ x.cell? ⟨wr.heap.size, 1, none⟩ = some (.int .u64 h) ∧ x.cell? ⟨wr.heap.size, 2, none⟩ = some (.bool r) ∧ x.cell? ⟨wr.heap.size, 3, none⟩ = some (.int .i64 l) ∧ x.cell? ⟨wr.heap.size, 4, none⟩ = some (.bool lf) ∧ x.cell? ⟨gb, 1, none⟩ = some (.slice (some ⟨gk, 0, none⟩) es.length es.length) ∧ x.cell? ⟨gk, v * 5 + 1, none⟩ = some (.int .u64 H))) (by kernel_rfl) (HSH.out _ (Below.refl _ _).drew) (fun hHeld => ?_)
                  refine wpAnyH_take (i := 0) (oi := { dst := some 49, op := Op.load 71 (Operand.tmp 10), type := 71, pos := "blocks.go:160", after := #[], guard := none }) (v := ?v0c) rfl (by kernel_rfl) (by kernel_rfl) (by kernel_rfl) (fun _ _ _ h => h) (Or.inl ⟨by rfl, ?y0c⟩) (by assumption) ?r0c
                  case y0c => (intro x hx; (try dsimp only at hx); go_simp; try with_reducible rfl)
                  try simp only [Act.put, List.setIfInBounds_toArray, List.set_cons_zero, List.set_cons_succ]
                  refine wpAnyH_ready (rs := [1]) (by kernel_rfl) (by simp) ?_
                  refine AllReadyH.cons (o := { dst := some 50, op := Op.call { callee := Callee.value (Operand.func 39), args := #[Operand.tmp 49], argTypes := #[71] }, type := 4, pos := "blocks.go:160", after := #[{ on := 0, ground := Ground.data }], guard := none }) rfl (fun K hK => ?_) AllReadyH.nil
                  go_simp
                  go_at_call 39
                  refine (logged_any _ _ _ _ _ _).mono ?_
                  rintro e u1 ⟨rfl, q1⟩
                  rw [hlv]
                  have q2 := (Below.refl _ _).drew.trans q1
                  have hSnew := HSH.out u1 q2
                  go_wp2_with fail
                  refine hK.out _ _ hSnew (fun hHeld1 => ?_)
                  clear hK K hSnew
                  clear hHeld
                  have hHeld := hHeld1
                  clear hHeld1
                  try simp only [Act.put, List.setIfInBounds_toArray, List.set_cons_zero, List.set_cons_succ]
                  refine wpAnyH_take (i := 2) (oi := { dst := some 51, op := Op.move (Operand.tmp 50), type := 4, pos := "blocks.go:160", after := #[{ on := 1, ground := Ground.data }, { on := 1, ground := Ground.chain }], guard := none }) (v := ?v2c) rfl (by kernel_rfl) (by kernel_rfl) (by kernel_rfl) (fun _ _ _ h => h) (Or.inl ⟨by rfl, ?y2c⟩) (by assumption) ?r2c
                  case y2c => (intro x hx; (try dsimp only at hx); go_simp; try with_reducible rfl)
                  try simp only [Act.put, List.setIfInBounds_toArray, List.set_cons_zero, List.set_cons_succ]
                  refine wpAnyH_take (i := 3) (oi := { dst := some 52, op := Op.fieldAddr 71 (Operand.tmp 10) 0, type := 0, pos := "blocks.go:160", after := #[{ on := 2, ground := Ground.guard }], guard := some (2, true) }) (v := ?v3c) rfl (by kernel_rfl) (by kernel_rfl) (by kernel_rfl) (fun _ _ _ h => h) (Or.inl ⟨by rfl, ?y3c⟩) (by assumption) ?r3c
                  case y3c => (intro x hx; (try dsimp only at hx); go_simp; try with_reducible rfl)
                  try simp only [Act.put, List.setIfInBounds_toArray, List.set_cons_zero, List.set_cons_succ]
                  refine wpAnyH_take (i := 4) (oi := { dst := some 53, op := Op.fieldAddr 34 (Operand.tmp 52) 1, type := 0, pos := "blocks.go:160", after := #[{ on := 3, ground := Ground.data }, { on := 2, ground := Ground.guard }], guard := some (2, true) }) (v := ?v4c) rfl (by kernel_rfl) (by kernel_rfl) (by kernel_rfl) (fun _ _ _ h => h) (Or.inl ⟨by rfl, ?y4c⟩) (by assumption) ?r4c
                  case y4c => (intro x hx; (try dsimp only at hx); go_simp; try with_reducible rfl)
                  try simp only [Act.put, List.setIfInBounds_toArray, List.set_cons_zero, List.set_cons_succ]
                  refine wpAnyH_take (i := 5) (oi := { dst := some 54, op := Op.load 32 (Operand.tmp 53), type := 32, pos := "blocks.go:160", after := #[{ on := 4, ground := Ground.data }, { on := 2, ground := Ground.guard }], guard := some (2, true) }) (v := ?v5c) rfl (by kernel_rfl) (by kernel_rfl) (by kernel_rfl) (fun _ _ _ h => h) (Or.inl ⟨by rfl, ?y5c⟩) (by assumption) ?r5c
                  case y5c => (intro x hx; (try dsimp only at hx); go_simp; try with_reducible rfl)
                  try simp only [Act.put, List.setIfInBounds_toArray, List.set_cons_zero, List.set_cons_succ]
                  refine wpAnyH_take (i := 6) (oi := { dst := some 55, op := Op.move (Operand.tmp 0), type := 25, pos := "blocks.go:160", after := #[{ on := 2, ground := Ground.guard }], guard := some (2, true) }) (v := ?v6c) rfl (by kernel_rfl) (by kernel_rfl) (by kernel_rfl) (fun _ _ _ h => h) (Or.inl ⟨by rfl, ?y6c⟩) (by assumption) ?r6c
                  case y6c => (intro x hx; (try dsimp only at hx); go_simp; try with_reducible rfl)
                  try simp only [Act.put, List.setIfInBounds_toArray, List.set_cons_zero, List.set_cons_succ]
                  refine wpAnyH_take (i := 7) (oi := { dst := some 56, op := Op.nilCheck (Operand.tmp 55), type := 0, pos := "blocks.go:160", after := #[{ on := 6, ground := Ground.data }, { on := 2, ground := Ground.guard }], guard := some (2, true) }) (v := ?v7c) rfl (by kernel_rfl) (by kernel_rfl) (by kernel_rfl) (fun _ _ _ h => h) (Or.inl ⟨by rfl, ?y7c⟩) (by assumption) ?r7c
                  case y7c => (intro x hx; (try dsimp only at hx); go_simp; try with_reducible rfl)
                  try simp only [Act.put, List.setIfInBounds_toArray, List.set_cons_zero, List.set_cons_succ]
                  refine wpAnyH_take (i := 8) (oi := { dst := some 57, op := Op.fieldAddr 69 (Operand.tmp 56) 1, type := 0, pos := "blocks.go:160", after := #[{ on := 7, ground := Ground.data }, { on := 2, ground := Ground.guard }], guard := some (2, true) }) (v := ?v8c) rfl (by kernel_rfl) (by kernel_rfl) (by kernel_rfl) (fun _ _ _ h => h) (Or.inl ⟨by rfl, ?y8c⟩) (by assumption) ?r8c
                  case y8c => (intro x hx; (try dsimp only at hx); go_simp; try with_reducible rfl)
                  try simp only [Act.put, List.setIfInBounds_toArray, List.set_cons_zero, List.set_cons_succ]
                  refine wpAnyH_take (i := 9) (oi := { dst := some 58, op := Op.load 67 (Operand.tmp 57), type := 67, pos := "blocks.go:160", after := #[{ on := 8, ground := Ground.data }, { on := 2, ground := Ground.guard }], guard := some (2, true) }) (v := ?v9c) rfl (by kernel_rfl) (by kernel_rfl) (by kernel_rfl) (fun _ _ _ h => h) (Or.inl ⟨by rfl, ?y9c⟩) (by assumption) ?r9c
                  case y9c => (intro x hx; (try dsimp only at hx); go_simp; try with_reducible rfl)
                  try simp only [Act.put, List.setIfInBounds_toArray, List.set_cons_zero, List.set_cons_succ]
                  refine wpAnyH_take (i := 10) (oi := { dst := some 59, op := Op.move (Operand.tmp 5), type := 3, pos := "blocks.go:160", after := #[{ on := 2, ground := Ground.guard }], guard := some (2, true) }) (v := ?v10c) rfl (by kernel_rfl) (by kernel_rfl) (by kernel_rfl) (fun _ _ _ h => h) (Or.inl ⟨by rfl, ?y10c⟩) (by assumption) ?r10c
                  case y10c => (intro x hx; (try dsimp only at hx); go_simp; try with_reducible rfl)
                  try simp only [Act.put, List.setIfInBounds_toArray, List.set_cons_zero, List.set_cons_succ]
                  refine wpAnyH_take (i := 11) (oi := { dst := some 60, op := Op.indexAddr 67 (Operand.tmp 58) (Operand.tmp 59), type := 0, pos := "blocks.go:160", after := #[{ on := 9, ground := Ground.data }, { on := 10, ground := Ground.data }, { on := 2, ground := Ground.guard }], guard := some (2, true) }) (v := ?v11c) rfl (by kernel_rfl) (by kernel_rfl) (by kernel_rfl) (fun _ _ _ h => h) (Or.inl ⟨by rfl, ?y11c⟩) (by assumption) ?r11c
                  case y11c => (intro x hx; (try dsimp only at hx); go_simp; try with_reducible rfl)
                  try simp only [Act.put, List.setIfInBounds_toArray, List.set_cons_zero, List.set_cons_succ]
                  refine wpAnyH_take (i := 12) (oi := { dst := some 61, op := Op.fieldAddr 71 (Operand.tmp 60) 0, type := 0, pos := "blocks.go:160", after := #[{ on := 11, ground := Ground.data }, { on := 2, ground := Ground.guard }], guard := some (2, true) }) (v := ?v12c) rfl (by kernel_rfl) (by kernel_rfl) (by kernel_rfl) (fun _ _ _ h => h) (Or.inl ⟨by rfl, ?y12c⟩) (by assumption) ?r12c
                  case y12c => (intro x hx; (try dsimp only at hx); go_simp; try with_reducible rfl)
                  try simp only [Act.put, List.setIfInBounds_toArray, List.set_cons_zero, List.set_cons_succ]
                  refine wpAnyH_take (i := 13) (oi := { dst := some 62, op := Op.fieldAddr 34 (Operand.tmp 61) 1, type := 0, pos := "blocks.go:160", after := #[{ on := 12, ground := Ground.data }, { on := 2, ground := Ground.guard }], guard := some (2, true) }) (v := ?v13c) rfl (by kernel_rfl) (by kernel_rfl) (by kernel_rfl) (fun _ _ _ h => h) (Or.inl ⟨by rfl, ?y13c⟩) (by assumption) ?r13c
                  case y13c => (intro x hx; (try dsimp only at hx); go_simp; try with_reducible rfl)
                  try simp only [Act.put, List.setIfInBounds_toArray, List.set_cons_zero, List.set_cons_succ]
                  refine wpAnyH_take (i := 14) (oi := { dst := some 63, op := Op.load 32 (Operand.tmp 62), type := 32, pos := "blocks.go:160", after := #[{ on := 13, ground := Ground.data }, { on := 2, ground := Ground.guard }], guard := some (2, true) }) (v := ?v14c) rfl (by kernel_rfl) (by kernel_rfl) (by kernel_rfl) (fun _ _ _ h => h) (Or.inl ⟨by rfl, ?y14c⟩) (by assumption) ?r14c
                  case y14c => (intro x hx; (try dsimp only at hx); go_simp; try with_reducible rfl)
                  try simp only [Act.put, List.setIfInBounds_toArray, List.set_cons_zero, List.set_cons_succ]
                  refine wpAnyH_take (i := 15) (oi := { dst := some 64, op := Op.binOp BinOp.gtr 32 (Operand.tmp 54) (Operand.tmp 63) 32, type := 4, pos := "blocks.go:160", after := #[{ on := 5, ground := Ground.data }, { on := 14, ground := Ground.data }, { on := 2, ground := Ground.guard }], guard := some (2, true) }) (v := ?v15c) rfl (by kernel_rfl) (by kernel_rfl) (by kernel_rfl) (fun _ _ _ h => h) (Or.inl ⟨by rfl, ?y15c⟩) (by assumption) ?r15c
                  case y15c => (intro x hx; (try dsimp only at hx); go_simp; try with_reducible rfl)
                  try simp only [Act.put, List.setIfInBounds_toArray, List.set_cons_zero, List.set_cons_succ]
                  refine wpAnyH_take (i := 16) (oi := { dst := some 65, op := Op.pick (Operand.tmp 51) (Operand.tmp 64) (Operand.const (Value.bool false)), type := 4, pos := "blocks.go:160", after := #[{ on := 2, ground := Ground.data }, { on := 15, ground := Ground.data }], guard := none }) (v := ?v16c) rfl (by kernel_rfl) (by kernel_rfl) (by kernel_rfl) (fun _ _ _ h => h) (Or.inl ⟨by rfl, ?y16c⟩) (by assumption) ?r16c
                  case y16c => (intro x hx; (try dsimp only at hx); go_simp; try with_reducible rfl)
                  try simp only [Act.put, List.setIfInBounds_toArray, List.set_cons_zero, List.set_cons_succ]
                  refine wpAnyH_take (i := 17) (oi := { dst := some 66, op := Op.move (Operand.tmp 65), type := 4, pos := "blocks.go:160", after := #[{ on := 16, ground := Ground.data }, { on := 2, ground := Ground.chain }], guard := none }) (v := ?v17c) rfl (by kernel_rfl) (by kernel_rfl) (by kernel_rfl) (fun _ _ _ h => h) (Or.inl ⟨by rfl, ?y17c⟩) (by assumption) ?r17c
                  case y17c => (intro x hx; (try dsimp only at hx); go_simp; try with_reducible rfl)
                  try simp only [Act.put, List.setIfInBounds_toArray, List.set_cons_zero, List.set_cons_succ]
                  refine wpAnyH_take (i := 18) (oi := { dst := some 67, op := Op.move (Operand.tmp 0), type := 25, pos := "blocks.go:160", after := #[{ on := 17, ground := Ground.guard }], guard := some (17, true) }) (v := ?v18c) rfl (by kernel_rfl) (by kernel_rfl) (by kernel_rfl) (fun _ _ _ h => h) (Or.inl ⟨by rfl, ?y18c⟩) (by assumption) ?r18c
                  case y18c => (intro x hx; (try dsimp only at hx); go_simp; try with_reducible rfl)
                  try simp only [Act.put, List.setIfInBounds_toArray, List.set_cons_zero, List.set_cons_succ]
                  refine wpAnyH_take (i := 19) (oi := { dst := some 68, op := Op.move (Operand.tmp 9), type := 3, pos := "blocks.go:160", after := #[{ on := 17, ground := Ground.guard }], guard := some (17, true) }) (v := ?v19c) rfl (by kernel_rfl) (by kernel_rfl) (by kernel_rfl) (fun _ _ _ h => h) (Or.inl ⟨by rfl, ?y19c⟩) (by assumption) ?r19c
                  case y19c => (intro x hx; (try dsimp only at hx); go_simp; try with_reducible rfl)
                  try simp only [Act.put, List.setIfInBounds_toArray, List.set_cons_zero, List.set_cons_succ]
                  refine wpAnyH_take (i := 20) (oi := { dst := some 69, op := Op.move (Operand.tmp 6), type := 3, pos := "blocks.go:160", after := #[{ on := 17, ground := Ground.guard }], guard := some (17, true) }) (v := ?v20c) rfl (by kernel_rfl) (by kernel_rfl) (by kernel_rfl) (fun _ _ _ h => h) (Or.inl ⟨by rfl, ?y20c⟩) (by assumption) ?r20c
                  case y20c => (intro x hx; (try dsimp only at hx); go_simp; try with_reducible rfl)
                  try simp only [Act.put, List.setIfInBounds_toArray, List.set_cons_zero, List.set_cons_succ]
                  refine wpAnyH_ready (rs := [21]) (by kernel_rfl) (by simp) ?_
                  refine AllReadyH.cons (o := { dst := some 70, op := Op.call { callee := Callee.value (Operand.func 50), args := #[Operand.tmp 67, Operand.tmp 68, Operand.tmp 69], argTypes := #[25, 3, 3] }, type := 4, pos := "blocks.go:160", after := #[{ on := 18, ground := Ground.data }, { on := 19, ground := Ground.data }, { on := 20, ground := Ground.data }, { on := 17, ground := Ground.chain }, { on := 17, ground := Ground.guard }], guard := some (17, true) }) rfl (fun K hK => ?_) AllReadyH.nil
                  go_simp
                  go_at_call 50
                  refine (older_any gb gk P es cur last vic k O _ (HB.out.below (HB2.out _ q2)) hn hlt HOL3.out).mono ?_
                  rintro e u2 ⟨rfl, q3, rfl⟩
                  rw [hov]
                  have q4 := below_drewN q2 q3
                  have hSnew := HSH.out _ q4
                  go_wp2_with fail
                  refine hK.out _ _ hSnew (fun hHeld21 => ?_)
                  clear hK K hSnew
                  clear hHeld
                  have hHeld := hHeld21
                  clear hHeld21
                  try simp only [Act.put, List.setIfInBounds_toArray, List.set_cons_zero, List.set_cons_succ]
                  refine wpAnyH_take (i := 22) (oi := { dst := some 71, op := Op.pick (Operand.tmp 66) (Operand.tmp 70) (Operand.const (Value.bool false)), type := 4, pos := "blocks.go:160", after := #[{ on := 17, ground := Ground.data }, { on := 21, ground := Ground.data }], guard := none }) (v := ?v22c) rfl (by kernel_rfl) (by kernel_rfl) (by kernel_rfl) (fun _ _ _ h => h) (Or.inl ⟨by rfl, ?y22c⟩) (by assumption) ?r22c
                  case y22c => (intro x hx; (try dsimp only at hx); go_simp; try with_reducible rfl)
                  try simp only [Act.put, List.setIfInBounds_toArray, List.set_cons_zero, List.set_cons_succ]
                  refine wpAnyH_done (by kernel_rfl) ?_ _
                  all_goals go_wp2
                  all_goals go_meet
                  all_goals exact ⟨rfl, HB2.out _ q4⟩
            case rest =>
            obtain ⟨rfl, Q2⟩ := hcut
            have HQ2 : Hid _ := Q2
            cases hcc : ((lv && sv) && ov) with
            | false =>
              rw [hcc] at HST
              go_wp2
              go_roundw
              case rel => exact ⟨k + 1, by omega, by go_num, by rw [HST.out]; rfl, HQ2.out⟩
              case measure => simp [intOf]; omega
            | true =>
              rw [hcc] at HST
              go_wp2
              go_roundw
              case rel => exact ⟨k + 1, by omega, by go_num, by rw [HST.out]; rfl, HQ2.out⟩
              case measure => simp [intOf]; omega
          · have hkn : k = es.length := by omega
            subst hkn
            obtain ⟨f0, f1, f2, f3, f4⟩ := (HB.out.below hb3).cells
            cases O with
            | none =>
              have oI : optI none = -1 := rfl
              rw [oI]
              go_wp2
              go_ret3
              exact ⟨by unfold oldE; rw [HO.out]; simp only; rw [HH.out, HO3.out]; rfl, hb3⟩
            | some y =>
              have oI : optI (some y) = (y : Int) := rfl
              rw [oI]
              have dy : ((y : Int) == -1) = false := by simp
              have hyl := HOL3.out y rfl
              have dy2 : (y : Int) < es.length := by omega
              obtain ⟨_, g1, _, _, _⟩ := (HB.out.below hb3).entry y hyl
              obtain ⟨Y, hY⟩ : ∃ Y, (es.getD y Ent.zero).h = Y := ⟨_, rfl⟩
              rw [hY] at g1
              have HY : Hid _ := hY
              clear hY
              go_wp2
              go_quiet (fail)
              go_wp2
              go_ret3
              exact ⟨by unfold oldE; rw [HO.out]; simp only; rw [HH.out, HO3.out]; simp only; rw [HY.out]; rfl, below_drewN hb3 _⟩
end Go.Proofs.Ytgijbpkfheillaa
