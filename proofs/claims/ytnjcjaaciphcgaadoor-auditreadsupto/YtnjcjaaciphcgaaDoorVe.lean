/-
  SEAT YtnjcjaaciphcgaaDoor: the lines of a number, of the floor, and the last of the head.
-/
import Derived.Test.YtnjcjaaciphcgaaDoorVd
namespace Go.Proofs.YtnjcjaaciphcgaaDoor
open Go.RowKit Go.Sort
set_option linter.unusedVariables false

theorem Two.too {q t : Nat} {a b : World} (h : Two t t a b) : Two q t a b := ⟨h.os, h.tape, h.output, h.size, fun i hi _ h1 => h.block i hi h1 h1⟩
theorem rda_two {q t k : Nat} {l : List UInt8} {w u : World} (h : RdA w q l k) (hb : Two t t w u) (hne : q ≠ t) : RdA u q l k := by
  unfold RdA at *
  rw [hb.block q (Array.getElem?_eq_some_iff.1 h).1 hne hne]
  exact h
theorem blk_two {q t : Nat} {o : Obj} {w u : World} (h : w.heap[t]? = some o) (hb : Two q q w u) (hne : t ≠ q) : u.heap[t]? = some o := by
  rw [hb.block t (Array.getElem?_eq_some_iff.1 h).1 hne hne]
  exact h

theorem mem_pp (l : List UInt8) : ∀ w x, x ∈ pp w l → x.length ≤ w.length + l.length := by
  induction l with
  | nil => intro w x h; simp [pp] at h; subst h; simp
  | cons b r ih =>
    intro w x h
    unfold pp at h
    split at h
    · rcases List.mem_cons.1 h with h | h
      · subst h; simp
      · have := ih [] x h
        simp at this ⊢
        omega
    · have := ih (w ++ [b]) x h
      simp at this ⊢
      omega
theorem bh_len {l word x : List UInt8} (h : bh l word = some x) : x.length ≤ l.length := by
  unfold bh at h
  split at h
  · have e := Option.some.inj h
    rw [← e]
    rw [List.getD_eq_getElem?_getD]
    cases hx : (thL l)[1]? with
    | none => simp
    | some y =>
      have h1 := mem_pp (cutN l).1 [] y (List.mem_of_getElem? hx)
      have h2 := (cut_len l).1
      simp at h1 ⊢
      omega
  · cases h

/-- The number behind a word. -/
def nb (l word : List UInt8) : Option Int := (bh l word).bind numOf

set_option maxHeartbeats 2000000 in
set_option maxRecDepth 100000 in
theorem number_any (q k tb o : Nat) (l word : List UInt8) (cs : Array Value) (ty : TypeId) (w : World) (hR : RdA w q l k) (hl : l.length < 4294967281) (hk : k ≤ 1000000000000) (hb : w.heap[tb]? = some (.cells cs ty (0, 0))) (ho : o < cs.size) (v0 : Int) (hco : cs.setIfInBounds o (.int .i64 v0) = cs) (ht : P10 w) (hv : EV w) (h9 : 9 ≤ tb) (hq9 : 9 ≤ q) (hne : tb ≠ q) :
    Calls Tryd.prog 38 #[.pointer (some ⟨q, 0, none⟩), .string ⟨word.toArray⟩, .pointer (some ⟨tb, o, none⟩)] w fun e w' => ∃ v : Int, e = .returned (.bool (nb l word).isSome) ∧ (∀ n, nb l word = some n → v = n) ∧ w'.heap[tb]? = some (.cells (cs.setIfInBounds o (.int .i64 v)) ty (0, 0)) ∧ RdA w' q (cutN l).2.1 (k + 1) ∧ Two q tb w w' := by
  have HBE := behind_any q k l word w hR hl hk
  have HP : Hid (P10 w) := ht
  have HV : Hid (EV w) := hv
  have HB : Hid (w.heap[tb]? = some (.cells cs ty (0, 0))) := hb
  have HCO : Hid (cs.setIfInBounds o (.int .i64 v0) = cs) := hco
  clear hR ht hv hb hco
  cases hbh : bh l word with
  | none =>
    have HN : Hid (nb l word = none) := by unfold Hid nb; rw [hbh]; rfl
    rw [hbh] at HBE
    clear hbh
    go_enter Tryd.func38, Tryd.ntmps38
    go_wp2_with (first
      | (go_at_call 49; refine HBE.mono ?_; rintro e t1 ⟨he1, hr, tw⟩
         have he2 : e = .returned (.tuple #[.string ⟨#[]⟩, .bool false]) := he1
         clear he1
         subst he2
         have HR1 : Hid (RdA t1 q (cutN l).2.1 (k + 1)) := hr
         have HW1 : Hid (Two q q w t1) := tw
         clear hr tw))
    go_ret
    exact ⟨v0, by rw [HN.out]; rfl, fun n hn => (by rw [HN.out] at hn; cases hn), by rw [HCO.out]; exact blk_two HB.out HW1.out hne, HR1.out, HW1.out.one⟩
  | some x =>
    have hxl := bh_len hbh
    have HN : Hid (nb l word = numOf x) := by unfold Hid nb; rw [hbh]; rfl
    rw [hbh] at HBE
    clear hbh
    go_enter Tryd.func38, Tryd.ntmps38
    go_wp2_with (first
      | (go_at_call 49; refine HBE.mono ?_; rintro e t1 ⟨he1, hr, tw⟩
         have he2 : e = .returned (.tuple #[.string ⟨x.toArray⟩, .bool true]) := he1
         clear he1
         subst he2
         have HR1 : Hid (RdA t1 q (cutN l).2.1 (k + 1)) := hr
         have HW1 : Hid (Two q q w t1) := tw
         clear hr tw)
      | (go_at_call 51; refine (isnum_any x tb o cs ty _ (by omega) (blk_two HB.out HW1.out hne) ho (p10_two HP.out HW1.out hq9 hq9) (HV.out.two HW1.out hq9 hq9) h9).mono ?_; rintro e t2 ⟨v, rfl, hn, hb2, tw⟩
         have HN2 : Hid (∀ n, numOf x = some n → v = n) := hn
         have HB2 : Hid (t2.heap[tb]? = some (.cells (cs.setIfInBounds o (.int .i64 v)) ty (0, 0))) := hb2
         have HR2 : Hid (RdA t2 q (cutN l).2.1 (k + 1)) := rda_two HR1.out tw (fun h => hne h.symm)
         have HW2 : Hid (Two q tb w t2) := HW1.out.one.trans tw.too
         clear hn hb2 tw))
    go_ret
    exact ⟨v, by rw [HN.out]; rfl, fun n hn => (by rw [HN.out] at hn; exact HN2.out n hn), HB2.out, HR2.out, HW2.out⟩

/-- What is said of being saved. -/
def sv (l : List UInt8) : Option Bool := (bh l [115, 97, 118, 101, 100]).bind fun x => if x = [121, 101, 115] then some true else if x = [110, 111] then some false else none

set_option maxHeartbeats 2000000 in
set_option maxRecDepth 100000 in
theorem saved_any (q k tb o : Nat) (l : List UInt8) (cs : Array Value) (ty : TypeId) (w : World) (hR : RdA w q l k) (hl : l.length < 4294967281) (hk : k ≤ 1000000000000) (hb : w.heap[tb]? = some (.cells cs ty (0, 0))) (ho : o < cs.size) (hne : tb ≠ q) :
    Calls Tryd.prog 39 #[.pointer (some ⟨q, 0, none⟩), .pointer (some ⟨tb, o, none⟩)] w fun e w' => ∃ v : Bool, e = .returned (.bool (sv l).isSome) ∧ (∀ n, sv l = some n → v = n) ∧ w'.heap[tb]? = some (.cells (cs.setIfInBounds o (.bool v)) ty (0, 0)) ∧ RdA w' q (cutN l).2.1 (k + 1) ∧ Two q tb w w' := by
  have HBE := behind_any q k l [115, 97, 118, 101, 100] w hR hl hk
  have HB : Hid (w.heap[tb]? = some (.cells cs ty (0, 0))) := hb
  have hcell : ∀ u : World, u.heap[tb]? = some (.cells cs ty (0, 0)) → (∃ x, u.cell? ⟨tb, o, none⟩ = some x) ∧ u.frozen? ⟨tb, o, none⟩ = false := fun u hu => by
    constructor
    · exact ⟨cs[o], by simp [World.cell?, hu, ho]⟩
    · simp [World.frozen?, hu]
  have HC : Hid _ := hcell
  clear hR hb hcell
  obtain ⟨r, hr⟩ : ∃ r, bh l [115, 97, 118, 101, 100] = r := ⟨_, rfl⟩
  obtain ⟨X, hX⟩ : ∃ X, r.getD [] = X := ⟨_, rfl⟩
  obtain ⟨f, hf⟩ : ∃ f, r.isSome = f := ⟨_, rfl⟩
  rw [hr, hX, hf] at HBE
  have HN : Hid (sv l = if f = true then (if X = [121, 101, 115] then some true else if X = [110, 111] then some false else none) else none) := by
    unfold Hid sv
    rw [hr, ← hX, ← hf]
    cases r <;> rfl
  clear hr hX hf
  obtain ⟨y, hy⟩ : ∃ y, (X == [121, 101, 115]) = y := ⟨_, rfl⟩
  obtain ⟨z, hz⟩ : ∃ z, (X == [110, 111]) = z := ⟨_, rfl⟩
  have HN2 : Hid (sv l = if f = true then (if y = true then some true else if z = true then some false else none) else none) := by
    have h9 := HN.out
    unfold Hid
    rw [h9, ← hy, ← hz]
    simp
  clear HN
  have hyn : y = false ∨ z = false ∨ True := Or.inr (Or.inr trivial)
  clear hyn
  cases f <;> cases y <;> cases z
  all_goals
    go_enter Tryd.func39, Tryd.ntmps39
    go_upto_region 2 with (first
      | (go_at_call 49; refine HBE.mono ?_; rintro e t1 ⟨rfl, hr, tw⟩
         have HB1 : Hid (t1.heap[tb]? = some (.cells cs ty (0, 0))) := blk_two HB.out tw hne
         have HR1 : Hid (RdA t1 q (cutN l).2.1 (k + 1)) := hr
         have HW1 : Hid (Two q q w t1) := tw
         clear hr tw))
    obtain ⟨⟨x, hx⟩, fz⟩ := HC.out t1 HB1.out
    have HBx : Hid (∀ b : Bool, (t1.setCell ⟨tb, o, none⟩ (.bool b)).heap[tb]? = some (.cells (cs.setIfInBounds o (.bool b)) ty (0, 0))) := fun b => Joins.block_setCell HB1.out _
    have HWx : Hid (∀ b : Bool, Two q tb w (t1.setCell ⟨tb, o, none⟩ (.bool b))) := fun b => HW1.out.one.trans (Two.set t1 tb o _ (Or.inr rfl))
    have HRx : Hid (∀ b : Bool, RdA (t1.setCell ⟨tb, o, none⟩ (.bool b)) q (cutN l).2.1 (k + 1)) := fun b => rda_two HR1.out (Two.set t1 tb o _ (Or.inl rfl)) (fun h => hne h.symm)
    go_wp2_with fail
    go_ret
    exact ⟨_, by rw [HN2.out]; rfl, fun n hn => (by rw [HN2.out] at hn; first | (cases hn; rfl) | cases hn), HBx.out _, HRx.out _, HWx.out _⟩

end Go.Proofs.YtnjcjaaciphcgaaDoor
