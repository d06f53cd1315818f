/-
  SEAT YtdiifegljonojaaGreatDoor: what a row tells, over lists.
-/
import Derived.Test.YtdiifegljonojaaGreatDoorRa
import Derived.Test.YtdiifegljonojaaGreatDoorQG
namespace Go.Proofs.YtdiifegljonojaaGreatDoor
open Go.RowKit
set_option linter.unusedVariables false

/-- How many bytes 0 stand at the front. -/
def zrs : List Int → Nat
  | [] => 0
  | x :: r => if x = 0 then zrs r + 1 else 0
/-- Where the first hole begins. -/
def fhN : List Int → Nat
  | [] => 0
  | x :: r => if 16 ≤ zrs (x :: r) then 0 else fhN r + 1

theorem zrs_le : ∀ b : List Int, zrs b ≤ b.length
  | [] => Nat.le_refl _
  | x :: r => by
    have := zrs_le r
    unfold zrs
    split <;> simp <;> omega
theorem fhN_le : ∀ b : List Int, fhN b ≤ b.length
  | [] => Nat.le_refl _
  | x :: r => by
    have := fhN_le r
    unfold fhN
    split <;> simp <;> omega
theorem fhN_hole {b : List Int} (h : 16 ≤ zrs b) : fhN b = 0 := by
  cases b with
  | nil => rfl
  | cons x r => rw [fhN, if_pos h]
theorem fhN_skip : ∀ (b : List Int), zrs b < 16 → b ≠ [] → fhN b = min b.length (zrs b + 1 + fhN (b.drop (zrs b + 1)))
  | [], _, h => absurd rfl h
  | x :: r, hz, _ => by
    have hle := fhN_le r
    by_cases hx : x = 0
    · have e : zrs (x :: r) = zrs r + 1 := by simp [zrs, hx]
      rw [e] at hz ⊢
      have e2 : fhN (x :: r) = fhN r + 1 := by rw [fhN, if_neg (by omega)]
      rw [e2, List.drop_succ_cons]
      cases r with
      | nil => simp [fhN, zrs]
      | cons y t =>
        have ih := fhN_skip (y :: t) (by omega) (by simp)
        simp only [List.length_cons] at ih ⊢
        omega
    · have e : zrs (x :: r) = 0 := by simp [zrs, hx]
      rw [e]
      have e2 : fhN (x :: r) = fhN r + 1 := by rw [fhN, if_neg (by omega)]
      rw [e2]
      simp only [List.length_cons, Nat.zero_add, List.drop_succ_cons, List.drop_zero]
      omega
/-- The first hole from a place on. -/
def fhAt (zs : List Int) (k : Nat) : Nat := min zs.length (k + fhN (zs.drop k))
theorem fhAt_le (zs : List Int) (k : Nat) : fhAt zs k ≤ zs.length := Nat.min_le_left _ _
theorem fhAt_end {zs : List Int} {k : Nat} (h : zs.length ≤ k) : fhAt zs k = zs.length := by
  unfold fhAt
  omega
theorem fhAt_hole {zs : List Int} {k : Nat} (h : 16 ≤ zrs (zs.drop k)) : fhAt zs k = k := by
  have := zrs_le (zs.drop k)
  rw [List.length_drop] at this
  unfold fhAt
  rw [fhN_hole h]
  omega
theorem fhAt_skip {zs : List Int} {k : Nat} (hk : k < zs.length) (h : zrs (zs.drop k) < 16) : fhAt zs k = fhAt zs (k + zrs (zs.drop k) + 1) := by
  have hs := fhN_skip (zs.drop k) h (by intro e; have := congrArg List.length e; simp at this; omega)
  rw [List.drop_drop] at hs
  have hl := zrs_le (zs.drop k)
  rw [List.length_drop] at hs hl
  unfold fhAt
  rw [hs, show k + (zrs (zs.drop k) + 1) = k + zrs (zs.drop k) + 1 by omega]
  omega
theorem fhAt_zero (zs : List Int) : fhAt zs 0 = fhN zs := by
  have := fhN_le zs
  unfold fhAt
  rw [List.drop_zero]
  omega
theorem zrs_step {zs : List Int} {k : Nat} (hk : k < zs.length) (h : zs.getD k 0 = 0) : zrs (zs.drop k) = zrs (zs.drop (k + 1)) + 1 := by
  rw [List.drop_eq_getElem_cons hk, zrs]
  have : zs[k] = 0 := by rw [← h, List.getD_eq_getElem?_getD, List.getElem?_eq_getElem hk]; rfl
  rw [if_pos this]
theorem zrs_stop {zs : List Int} {k : Nat} (hk : k < zs.length) (h : zs.getD k 0 ≠ 0) : zrs (zs.drop k) = 0 := by
  rw [List.drop_eq_getElem_cons hk, zrs]
  have : zs[k] ≠ 0 := by
    intro e
    exact h (by rw [List.getD_eq_getElem?_getD, List.getElem?_eq_getElem hk, ← e]; rfl)
  rw [if_neg this]

/-- May bytes be a filled stretch? -/
def filledB (b : List Int) (behind more : Bool) : Bool := decide (fhN b = b.length) && !(behind && (b.getD 0 0 == 0)) && !(more && (b.getD (b.length - 1) 0 == 0))

/-- A filled stretch: where, and its bytes. -/
structure Sg where
  pos : Nat
  bs : List Int

/-- The next bytes. -/
def takeR (n : Nat) (bs : List Int) : Except Int (List Int × List Int) :=
  if n ≤ bs.length then .ok (bs.take n, bs.drop n) else .error 190
def numR (n : Nat) (bs : List Int) : Except Int (Int × List Int) :=
  if n ≤ bs.length then .ok (getL bs 0 n, bs.drop n) else .error 190

/-- The stretches of a file's data. -/
def dataL (size : Nat) : Nat → Nat → Int → List Sg → List Int → Except Int (List Sg × List Int)
  | 0, _, _, acc, bs => .ok (acc, bs)
  | f + 1, pos, last, acc, bs =>
    if pos < size then
      match wholeR 1 0 1 bs with
      | .error e => .error e
      | .ok (kd, r1) =>
        if kd = last then .error 191 else
        match wholeR 4 (if kd = 0 then 16 else 1) ((size : Int) - (pos : Int)) r1 with
        | .error e => .error e
        | .ok (k, r2) =>
          if kd = 1 then
            match takeR k.toNat r2 with
            | .error e => .error e
            | .ok (b, r3) => if filledB b (last == 0) (decide (pos + k.toNat < size)) then dataL size f (pos + k.toNat) 1 (acc ++ [⟨pos, b⟩]) r3 else .error 191
          else dataL size f (pos + k.toNat) 0 acc r2
    else .ok (acc, bs)

/-- A file's data: how many bytes, and the filled stretches. -/
def dataR (bs : List Int) : Except Int ((Nat × List Sg) × List Int) :=
  match wholeR 4 0 16777216 bs with
  | .error e => .error e
  | .ok (n, r) =>
    match dataL n.toNat n.toNat 0 (-1) [] r with
    | .error e => .error e
    | .ok (l, r2) => .ok ((n.toNat, l), r2)

/-- A piece as it is read. -/
structure Pc where
  names : List ByteArray
  ty : Int
  mode : Int
  stamp : Int
  target : ByteArray
  size : Nat
  segs : List Sg

def Pc.deep (p : Pc) : Int := if p.ty = 2 then (p.names.length : Int) else (p.names.length : Int) - 1

/-- Does a leaf of this name come behind the one ahead? -/
def aheadB (l : List ByteArray) (d : Nat) (name : ByteArray) : Bool := decide (d = l.length) || !(Op.bytesLess name.toList (l.getD d ByteArray.empty).toList || (name.toList == (l.getD d ByteArray.empty).toList))

/-- The last name and its leaf's names. -/
def namesR (ahead : List ByteArray) (depth : Nat) (bs : List Int) : Except Int (List ByteArray × List Int) :=
  match wholeR 1 1 63 bs with
  | .error e => .error e
  | .ok (n, r) =>
    match takeR n.toNat r with
    | .error e => .error e
    | .ok (b, r2) =>
      if !Pt.upB (strOfNums b) && decide (Pt.joE (ahead.take depth ++ [strOfNums b]) = 0) && aheadB ahead depth (strOfNums b) then .ok (ahead.take depth ++ [strOfNums b], r2) else .error 191

def modeR (bs : List Int) : Except Int ((Int × Int) × List Int) :=
  match wholeR 2 0 4095 bs with
  | .error e => .error e
  | .ok (m, r) =>
    match numR 8 r with
    | .error e => .error e
    | .ok (s, r2) => .ok ((m, s), r2)

def targetR (bs : List Int) : Except Int (ByteArray × List Int) :=
  match wholeR 1 1 127 bs with
  | .error e => .error e
  | .ok (n, r) =>
    match takeR n.toNat r with
    | .error e => .error e
    | .ok (b, r2) => if Pt.zeroB (strOfNums b) then .error 191 else .ok (strOfNums b, r2)

/-- A piece behind its first number. -/
def pieceR (ahead : List ByteArray) (depth : Nat) (bs : List Int) : Except Int (Pc × List Int) :=
  match wholeR 1 1 3 bs with
  | .error e => .error e
  | .ok (ty, r1) =>
    match modeR r1 with
    | .error e => .error e
    | .ok (ms, r2) =>
      match namesR ahead depth r2 with
      | .error e => .error e
      | .ok (ns, r3) =>
        if ty = 1 then
          match dataR r3 with
          | .error e => .error e
          | .ok (d, r4) => .ok (⟨ns, ty, ms.1, ms.2, ⟨#[]⟩, d.1, d.2⟩, r4)
        else if ty = 3 then
          match targetR r3 with
          | .error e => .error e
          | .ok (t, r4) => .ok (⟨ns, ty, ms.1, ms.2, t, 0, []⟩, r4)
        else .ok (⟨ns, ty, ms.1, ms.2, ⟨#[]⟩, 0, []⟩, r3)

/-- The pieces, up to their end. -/
def piecesL : Nat → Pc → List Pc → List Int → Except Int (List Pc × List Int)
  | 0, _, _, _ => .error 190
  | f + 1, ahead, acc, bs =>
    match numR 1 bs with
    | .error e => .error e
    | .ok (d, r) =>
      if d = 255 then .ok (acc, r) else
      if d < 64 ∧ d ≤ ahead.deep then
        match pieceR ahead.names d.toNat r with
        | .error e => .error e
        | .ok (p, r2) => piecesL f p (acc ++ [p]) r2
      else .error 191

def rootP (m s : Int) : Pc := ⟨[], 2, m, s, ⟨#[]⟩, 0, []⟩

def piecesR (bs : List Int) : Except Int (List Pc × List Int) :=
  if bs.take 5 = [80, 82, 67, 76, 1] then
    match modeR (bs.drop 5) with
    | .error e => .error e
    | .ok (ms, r) => piecesL (r.length + 1) (rootP ms.1 ms.2) [rootP ms.1 ms.2] r
  else .error 190

/-- All of a row. -/
def openR (bs : List Int) : Except Int (List Pc) :=
  match piecesR bs with
  | .error e => .error e
  | .ok (l, r) =>
    match numR 4 r with
    | .error e => .error e
    | .ok (s, r2) => if s = ((sumL (nats (bs.take (bs.length - r.length))) : Nat) : Int) then (if r2 = [] then .ok l else .error 190) else .error 192
end Go.Proofs.YtdiifegljonojaaGreatDoor
