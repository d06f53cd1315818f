/-
  SEAT YteefekhlbillfaaDoor: the front of a row, all cases; what pieces that were read are.
-/
import Derived.Test.YteefekhlbillfaaDoorRn
namespace Go.Proofs.YteefekhlbillfaaDoor
open Go.RowKit
set_option linter.unusedVariables false

def FrRes (w w' : World) (B q : Nat) (e : Ending) : Except Int (Nat × Nat × Nat × List Bool × List Int) → Prop
  | .error x => e = .returned (.tuple #[.agg #[.int .i64 0, .int .i64 0, .int .i64 0, .slice none 0 0, .slice none 0 0], .int .i64 x]) ∧ x ≠ 0
  | .ok (b, p, s, mk, r) => Fits (b : Int) (p : Int) (s : Int) = true ∧ ∃ g, e = .returned (.tuple #[.agg #[.int .i64 (b : Int), .int .i64 (p : Int), .int .i64 (s : Int), .slice none 0 0, .slice (some ⟨g, 0, none⟩) b b], .int .i64 0]) ∧ OwnB w' w.heap.size g b b mk ∧ RdAt w' B q r ∧ r.length ≤ 200000000000000

theorem byt_getD {bs : List Int} (h : Byt bs) (i : Nat) : 0 ≤ bs.getD i 0 ∧ bs.getD i 0 ≤ 255 := by
  rw [List.getD_eq_getElem?_getD]
  rcases Nat.lt_or_ge i bs.length with hi | hi
  · rw [List.getElem?_eq_getElem hi]; exact h _ (List.getElem_mem hi)
  · rw [List.getElem?_eq_none hi]; simp

theorem front_any (B q : Nat) (rest : List Int) (w : World) (hR : RdAt w B q rest) (hl : rest.length ≤ 200000000000000) :
    Calls Tryd.prog 31 #[.pointer (some ⟨q, 0, none⟩)] w fun e w' => FrRes w w' B q e (rdHead rest) ∧ w.grownBy w' (some q) := by
  have hby := hR.byt
  by_cases h1 : rest.take 4 = [83, 72, 65, 76]
  · by_cases h2 : rest.length < 5
    · refine (front_s5 B q rest w hR hl h1 h2).mono fun e w' h => ⟨?_, h.2⟩
      rw [rdHead, if_neg (by simp [h1]), if_pos h2]
      exact ⟨h.1, by decide⟩
    · by_cases h3 : rest.getD 4 0 = 1
      · by_cases h4 : rest.length < 10
        · refine (front_s10 B q rest w hR hl h1 (by omega) h3 h4).mono fun e w' h => ⟨?_, h.2⟩
          rw [rdHead, if_neg (by simp [h1]), if_neg h2, if_neg (by simp only [ne_eq, h3]; simp), if_pos h4]
          exact ⟨h.1, by decide⟩
        · have g5 := byt_getD hby 5
          have g6 := byt_getD hby 6
          have g7 := byt_getD hby 7
          have g8 := byt_getD hby 8
          have g9 := byt_getD hby 9
          obtain ⟨b, hb⟩ := Int.eq_ofNat_of_zero_le (show 0 ≤ rest.getD 5 0 + 256 * rest.getD 6 0 by omega)
          obtain ⟨p, hp⟩ := Int.eq_ofNat_of_zero_le (show 0 ≤ rest.getD 7 0 + 256 * rest.getD 8 0 by omega)
          obtain ⟨s, hs⟩ := Int.eq_ofNat_of_zero_le g9.1
          have e0 : rdHead rest = (if Fits (b : Int) (p : Int) (s : Int) = false then .error 40
              else if rest.length < 10 + (b + 7) / 8 then .error 10
              else if bitsOf (unbits b ((rest.drop 10).take ((b + 7) / 8))) ≠ (rest.drop 10).take ((b + 7) / 8) then .error 47
              else .ok (b, p, s, unbits b ((rest.drop 10).take ((b + 7) / 8)), rest.drop (10 + (b + 7) / 8))) := by
            rw [rdHead, if_neg (by simp [h1]), if_neg h2, if_neg (by simp only [ne_eq, h3]; simp), if_neg h4, hb, hp, hs]
            rfl
          rw [e0]
          cases hf : Fits (b : Int) (p : Int) (s : Int) with
          | false =>
            refine (front_shape B q rest w hR hl h1 (by omega) h3 b p s hb hp hs hf).mono fun e w' h => ⟨?_, h.2⟩
            rw [if_pos rfl]
            exact ⟨h.1, by decide⟩
          | true =>
            rw [if_neg (by simp)]
            by_cases h5 : rest.length < 10 + (b + 7) / 8
            · refine (front_sm B q rest w hR hl h1 (by omega) h3 b p s hb hp hs hf h5).mono fun e w' h => ⟨?_, h.2⟩
              rw [if_pos h5]
              exact ⟨h.1, by decide⟩
            · rw [if_neg h5]
              by_cases h6 : bitsOf (unbits b ((rest.drop 10).take ((b + 7) / 8))) = (rest.drop 10).take ((b + 7) / 8)
              · refine (front_ok B q rest w hR hl h1 (by omega) h3 b p s hb hp hs hf (by omega) h6).mono fun e w' h => ?_
                obtain ⟨g, he, ho, hr, hg⟩ := h
                refine ⟨?_, hg⟩
                rw [if_neg (by simp [h6])]
                exact ⟨hf, g, he, ho, hr, by rw [List.length_drop]; omega⟩
              · refine (front_mk B q rest w hR hl h1 (by omega) h3 b p s hb hp hs hf (by omega) h6).mono fun e w' h => ⟨?_, h.2⟩
                rw [if_pos h6]
                exact ⟨h.1, by decide⟩
      · refine (front_ver B q rest w hR hl h1 (by omega) h3).mono fun e w' h => ⟨?_, h.2⟩
        rw [rdHead, if_neg (by simp [h1]), if_neg h2, if_pos h3]
        exact ⟨h.1, by decide⟩
  · refine (front_magic B q rest w hR hl h1).mono fun e w' h => ⟨?_, h.2⟩
    rw [rdHead, if_pos h1]
    exact ⟨h.1, by decide⟩

theorem chain_n {L : Nat} : ∀ {ps : List Pc} {a : Pc}, chain L a ps → ∀ p ∈ ps, 1 ≤ p.n
  | [], _, _ => fun p hp => by cases hp
  | x :: r, a, h => fun p hp => by
    rcases List.mem_cons.1 hp with rfl | hp
    · exact okP_n h.1
    · exact chain_n h.2 p hp

theorem cnt_le : ∀ (ps : List Pc), (∀ p ∈ ps, 1 ≤ p.n) → ps.length ≤ cnt ps
  | [], _ => by simp [cnt]
  | x :: r, h => by
    have h1 := h x (by simp)
    have h2 := cnt_le r (fun p hp => h p (by simp [hp]))
    simp only [cnt, List.map_cons, List.sum_cons, List.length_cons] at h2 ⊢
    omega

theorem flat_len (L : Nat) : ∀ (P : List (List Int)), (∀ g ∈ P, g.length = L) → P.flatten.length = P.length * L
  | [], _ => by simp
  | g :: P, h => by
    rw [List.flatten_cons, List.length_append, flat_len L P (fun x hx => h x (by simp [hx])), h g (by simp), List.length_cons, Nat.succ_mul]
    omega

theorem ps_facts {C S N : Nat} {bs t : List Int} {ps : List Pc} (hb : Byt bs) (h : rdPs C S N N Pc.z bs = .ok (ps, t)) :
    (∀ p ∈ ps, p.g.length = C + S) ∧ ps.length ≤ N ∧ cnt ps = N ∧ (pgs ps).flatten.length = N * (C + S) ∧ t.length ≤ bs.length := by
  obtain ⟨p1, p2, p3⟩ := rdPs_sound hb h
  have hlen := chain_len p2 (Or.inl ⟨rfl, rfl⟩)
  have hn := chain_n p2
  refine ⟨fun p hp => hlen p.g ?_, by have := cnt_le ps hn; omega, p3, ?_, by rw [p1, List.length_append]; omega⟩
  · unfold pgs
    rw [List.mem_flatMap]
    exact ⟨p, hp, by rw [List.mem_replicate]; exact ⟨by have := hn p hp; omega, rfl⟩⟩
  · rw [flat_len _ _ hlen, pgs_length, p3]

end Go.Proofs.YteefekhlbillfaaDoor
