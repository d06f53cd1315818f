/-
  SEAT YtnmnhgagnfodhaaDoor: Vd, Ve.
-/
import Derived.Test.YtnmnhgagnfodhaaDoorMbq
namespace Go.Proofs.YtnmnhgagnfodhaaDoor.Cp
open Go.RowKit Go.Conc
set_option linter.unusedVariables false
theorem own_same {u v : World} {B e size n g c : Nat} {xs : List Value} (h : u.ownsRow B e size (.slice (some ⟨g, 0, none⟩) n c) n xs) (hv : v.heap[g]? = u.heap[g]?) : v.ownsRow B e size (.slice (some ⟨g, 0, none⟩) n c) n xs := by
 refine ⟨h.1, ?_⟩
 rcases h.2 with hn | ⟨gg, cap, cu, hvv, hb2, hh, rest⟩
 ·exact Or.inl hn
 ·have hv9 := hvv
  injection hvv with h1
  injection h1 with h1
  injection h1 with h1
  subst h1
  exact Or.inr ⟨g, cap, cu, hv9, hb2, hv.trans hh, rest⟩
theorem mks_len {C : Ch} {n : Nat} (h : CI C n) : (mks C).length = 8 := by unfold mks; rw [List.length_map, h.ok.bl, h.B]
theorem marks_row {v : World} {g : Nat} {ms : List Bool} (hl : ms.length = 8) (h : v.heap[g]? = some (.cells (ms.map Value.bool).toArray 4 (0, 0))) : ReadsB v (some ⟨g, 0, none⟩) 8 ms :=
 ⟨hl, (fun h => by cases h), fun x hx i hi => by
  cases hx
  rw [plain_add, Nat.zero_add]
  have hi' : i < ms.length := by omega
  simp [World.cell?, h, List.getD_eq_getElem?_getD, hi']⟩
theorem img_held {w u u1 : World} {p : Nat} {F : Nat → Prop} {K : List (Nat × Obj)} {C : Ch} {e : Ending} {n : Nat} (h : HD w u p F K C) (hci : CI C n) (hI : ImV u u1 C e) :
  ∃ gc cc gm cm o1, e = .returned (.agg #[.int .i64 8, .int .i64 4, .int .i64 1, .slice (some ⟨gc, 0, none⟩) 10016 cc, .slice (some ⟨gm, 0, none⟩) 8 cm]) ∧ 10016 ≤ cc ∧ cc ≤ 9223372036854775807 ∧
   HD w u1 p F ((gc, o1) :: (gm, .cells ((mks C).map Value.bool).toArray 4 (0, 0)) :: K) C ∧ ∀ v : World, v.heap[gc]? = some o1 → Reads v (some ⟨gc, 0, none⟩) 10016 (imgL C) := by
 obtain ⟨gc, cc, gm, cm, he, ho, hgm, hgl⟩ := hI.ex
 rw [hci.B, hci.P, hci.S] at he
 rw [hci.B, hci.P, hci.S] at ho
 have hby := img_byt h.ch.pok
 have ho9 : u1.ownsRow (u.heap.size + 1) 5 1 (.slice (some ⟨gc, 0, none⟩) 10016 cc) 10016 ((imgL C).map (Value.int .u8)) := ho
 have hob := ho9
 rcases hob.2 with ⟨hv, _⟩ | ⟨gg, cap, cu, hvv, hb2, hh, rest⟩
 ·cases hv
 ·injection hvv with h1 h2 h3
  injection h1 with h1
  injection h1 with h1
  subst h1 h3
  obtain ⟨_, _, _, hc1, hc2, _, _⟩ := own_shape ho9 (by omega)
  have hcap : 10016 ≤ cc ∧ cc ≤ 9223372036854775807 := by
   obtain ⟨g9, c9, e9, q1, q2, _⟩ := own_shape ho9 (by omega)
   injection e9 with e1 e2 e3
   subst e3
   simp [maxLen] at q2
   exact ⟨q1, by omega⟩
  have hm1 := (h.below hI.bel).hold (g := gm) hgm (fun hf => by have := h.ch.fin _ hf; omega) (Nat.le_trans h.bel.size hgl)
  have hm2 := hm1.hold (g := gc) hh (fun hf => by have := h.ch.fin _ hf; omega) (by have := h.bel.size; omega)
  refine ⟨gc, cc, gm, cm, _, by rw [he]; rfl, hcap.1, hcap.2, ?_, fun v hv => own_rd (own_same ho9 (by rw [hv, hh])) hby⟩
  have e9 : (C.bl.map (fun b => Value.bool b.m)) = (mks C).map Value.bool := by unfold mks; rw [List.map_map]; rfl
  rw [← e9]
  exact hm2
theorem diff_img (a1 a2 a3 a4 : Option Addr) (c1 c2 c3 c4 : Nat) (xs ys : List Int) (ms ns : List Bool) (w : World) (r1 : Reads w a1 10016 xs) (r2 : ReadsB w a2 8 ms) (r3 : Reads w a3 10016 ys) (r4 : ReadsB w a4 8 ns) (k1 : 10016 ≤ c1 ∧ c1 ≤ 9223372036854775807) (k3 : 10016 ≤ c3 ∧ c3 ≤ 9223372036854775807) :
  Calls Tryd.prog 9 #[.agg #[.int .i64 8, .int .i64 4, .int .i64 1, .slice a1 10016 c1, .slice a2 8 c2], .agg #[.int .i64 8, .int .i64 4, .int .i64 1, .slice a3 10016 c3, .slice a4 8 c4]] w fun e w' => ∃ v, e = .returned (.tuple #[v, .int .i64 0]) ∧ w'.ownsRow w.heap.size 45 2 v (dfL xs ys ms ns 313 4 32).length (flatP (dfL xs ys ms ns 313 4 32)) ∧ Below w.heap.size w w' := by
 refine (diff_any 8 4 1 8 4 1 a1 a2 a3 a4 10016 c1 8 c2 10016 c3 8 c4 xs ys ms ns w (by omega) (by omega) (by omega) (by omega) r1 r2 r3 r4 k1 k3).mono ?_
 rintro e w' ⟨v, rfl, ho, hb⟩
 have e9 : difE 8 4 1 8 4 1 (chkE 8 4 1 10016 8) (chkE 8 4 1 10016 8) = 0 := by rw [hd_chk]; rfl
 rw [e9] at ho ⊢
 have e8 : difD 8 4 1 0 xs ys ms ns = dfL xs ys ms ns 313 4 32 := by unfold difD; rw [if_pos rfl]; rfl
 rw [e8] at ho
 exact ⟨v, rfl, ho, hb⟩
theorem pl_shape {w : World} {B : Nat} {v : Value} {L : List Pl} (h : w.ownsRow B 45 2 v L.length (flatP L)) : ∃ a c, v = .slice a L.length c := by
 rcases h.2 with ⟨hv, h0⟩ | ⟨g, cap, cur, hv, _⟩
 ·exact ⟨none, 0, by rw [hv, h0]⟩
 ·exact ⟨_, _, hv⟩
theorem pl_at {w : World} {B k c : Nat} {a : Option Addr} {L : List Pl} (h : w.ownsRow B 45 2 (.slice a L.length c) L.length (flatP L)) (hk : k < L.length) : ∃ g q, a = some ⟨g, 0, none⟩ ∧ q ∈ L ∧ g < w.heap.size ∧ w.cell? ⟨g, k * 2, none⟩ = some (.int .i64 q.x) ∧ w.cell? ⟨g, k * 2 + 1, none⟩ = some (.int .i64 q.y) := by
 rcases h.2 with ⟨hv, h0⟩ | ⟨g, cap, cur, hv, _, hh, _⟩
 ·omega
 ·injection hv with h1 h2 h3
  subst h1
  obtain ⟨q, hq⟩ : ∃ q, L[k]? = some q := ⟨_, List.getElem?_eq_getElem hk⟩
  have fl : ∀ (L : List Pl) (k j : Nat) (q : Pl), j < 2 → L[k]? = some q → (flatP L)[k * 2 + j]? = q.cells[j]? := by
   intro L
   induction L with
   | nil => intro k j q _ h; cases h
   | cons x r ih =>
    intro k j q hj h
    cases k with
    | zero =>
     simp at h
     subst h
     rw [show flatP (x :: r) = x.cells ++ flatP r from rfl, List.getElem?_append_left (by simp [Pl.cells]; omega)]
     simp
    | succ k =>
     simp at h
     rw [show flatP (x :: r) = x.cells ++ flatP r from rfl, List.getElem?_append_right (by simp [Pl.cells]; omega)]
     have := ih k j q hj h
     rw [show (k + 1) * 2 + j - x.cells.length = k * 2 + j by simp [Pl.cells]; omega]
     exact this
  refine ⟨g, q, rfl, List.mem_of_getElem? hq, lt_of_block hh, ?_, ?_⟩
  ·rw [show k * 2 = k * 2 + 0 from rfl, World.ownsRow.cellAt h (k * 2 + 0) (by omega), fl L k 0 q (by omega) hq]; rfl
  ·rw [World.ownsRow.cellAt h (k * 2 + 1) (by omega), fl L k 1 q (by omega) hq]; rfl
theorem owns_bel {u v' : World} {B e size n c : Nat} {a : Option Addr} {xs : List Value} (h : u.ownsRow B e size (.slice a n c) n xs) (hb : Below u.heap.size u v') : v'.ownsRow B e size (.slice a n c) n xs := by
 refine ⟨h.1, ?_⟩
 rcases h.2 with hn | ⟨gg, cap, cu, hv, hb2, hh, rest⟩
 ·exact Or.inl hn
 ·exact Or.inr ⟨gg, cap, cu, hv, hb2, (hb.block gg (lt_of_block hh)).trans hh, rest⟩
def Sp.cell (s : Sp) : Nat → Value
 | 0 => .int .i64 s.k
 | 1 => .int .i64 s.b
 | 2 => .int .i64 s.p
 | 3 => .int .i64 s.t
 | 4 => .slice s.da s.dn s.dc
 | _ => .int .u8 s.f
def Sp.zero : Sp := ⟨0, 0, 0, 0, 0, none, 0, 0, []⟩
structure SpOk (w : World) (s : Sp) : Prop where
 rd : Reads w s.da s.dn s.d
 dn : s.dn ≤ 9223372036854775807
 f : 0 ≤ s.f ∧ s.f ≤ 255
 t : s.t ≤ 9223372036854775807
def ReadsS (w : World) (a : Option Addr) (len : Nat) (xs : List Sp) : Prop :=
 xs.length = len ∧ (∀ s ∈ xs, SpOk w s) ∧ (a = none → len = 0) ∧ ∀ x, a = some x → ∀ i, i < len → ∀ j, j < 6 → w.cell? (x.add (i * 6 + j)) = some ((xs.getD i Sp.zero).cell j)
theorem ReadsS.pos {w : World} {a : Option Addr} {len : Nat} {xs : List Sp} (h : ReadsS w a len xs) {i : Nat} (hi : i < len) :
  ∃ (b off : Nat) (s : Sp), a = some ⟨b, off, none⟩ ∧ SpOk w s ∧ w.cell? ⟨b, off + i * 6, none⟩ = some (.int .i64 s.k) ∧ w.cell? ⟨b, off + i * 6 + 1, none⟩ = some (.int .i64 s.b) ∧ w.cell? ⟨b, off + i * 6 + 2, none⟩ = some (.int .i64 s.p) ∧ w.cell? ⟨b, off + i * 6 + 3, none⟩ = some (.int .i64 s.t) ∧ w.cell? ⟨b, off + i * 6 + 4, none⟩ = some (.slice s.da s.dn s.dc) ∧ w.cell? ⟨b, off + i * 6 + 5, none⟩ = some (.int .u8 s.f) := by
 obtain ⟨hl, hok, hn, hc⟩ := h
 cases a with
 | none => have := hn rfl; omega
 | some y =>
  obtain ⟨b, off, spot⟩ := y
  have h0 := hc _ rfl 0 (by omega) 0 (by omega)
  have hspot : spot = none := by simpa [Addr.add] using World.cell?_spot h0
  subst hspot
  have k0 := hc _ rfl i hi 0 (by omega)
  have k1 := hc _ rfl i hi 1 (by omega)
  have k2 := hc _ rfl i hi 2 (by omega)
  have k3 := hc _ rfl i hi 3 (by omega)
  have k4 := hc _ rfl i hi 4 (by omega)
  have k5 := hc _ rfl i hi 5 (by omega)
  rw [plain_add] at k0 k1 k2 k3 k4 k5
  refine ⟨b, off, xs.getD i Sp.zero, rfl, ?_, k0, k1, k2, k3, k4, k5⟩
  rw [List.getD_eq_getElem?_getD, List.getElem?_eq_getElem (by omega)]
  exact hok _ (List.getElem_mem _)
theorem load_read {B P S : Nat} {zs : List Int} {ms : List Bool} {q : List Ft} {i k : Nat} (hi : i < B) (hk : k < P) : readL (loadC B P S zs ms q) i k = (zs.drop ((i * P + k) * pgB S)).take (pgB S) := by
 have h1 : (loadC B P S zs ms q).bl[i]? = some (ldB (pgB S) P zs ms B (B * P) i) := ldL_get hi
 have h2 : (ldB (pgB S) P zs ms B (B * P) i).ps[k]? = some (ldP (pgB S) P zs (B * P) i k) := by
  unfold ldB
  simp [hk]
 rw [readL_of h1 h2]
 have hlt : i * P + k < B * P := by
  have := Nat.mul_le_mul_right P (show i + 1 ≤ B by omega)
  rw [Nat.succ_mul] at this
  omega
 unfold ldP
 rw [if_pos hlt]
 rfl
theorem load_img {zs : List Int} {ms : List Bool} {q : List Ft} (hl : zs.length = 10016) : imgL (loadC 8 4 1 zs ms q) = zs := by
 rw [img_flat]
 have e : (List.range ((loadC 8 4 1 zs ms q).B * (loadC 8 4 1 zs ms q).P)).flatMap (fun t => readL (loadC 8 4 1 zs ms q) (t / (loadC 8 4 1 zs ms q).P) (t % (loadC 8 4 1 zs ms q).P)) = (List.range 32).flatMap (fun t => (zs.drop (t * 313)).take 313) := by
  refine fm_congr _ (fun t ht => ?_)
  have ht' : t < 32 := List.mem_range.1 ht
  show readL (loadC 8 4 1 zs ms q) (t / 4) (t % 4) = _
  rw [load_read (by omega) (by omega), show t / 4 * 4 + t % 4 = t by omega]
  rfl
 rw [e]
 have ch : ∀ n, (List.range n).flatMap (fun t => (zs.drop (t * 313)).take 313) = zs.take (n * 313) := by
  intro n
  induction n with
  | zero => simp
  | succ n ih =>
   rw [List.range_succ, List.flatMap_append, ih, Nat.succ_mul]
   simp only [List.flatMap_cons, List.flatMap_nil, List.append_nil]
   rw [List.take_add]
 rw [ch, List.take_of_length_le (by omega)]
theorem load_mks {zs : List Int} {ms : List Bool} {q : List Ft} (hl : ms.length = 8) : mks (loadC 8 4 1 zs ms q) = ms := by
 unfold mks
 show (ldL (pgB 1) 8 4 zs ms 8 (8 * 4)).map (fun b => b.m) = ms
 unfold ldL
 rw [List.map_map]
 refine List.ext_getElem (by simp [hl]) (fun i h1 h2 => ?_)
 simp at h1
 simp [ldB, h1, List.getD_eq_getElem?_getD, h2]
theorem load_ci (zs : List Int) (ms : List Bool) : CI (loadC 8 4 1 zs ms []) 0 :=
 ⟨loadC_ok 8 4 1 zs ms [] (by decide), fun _ _ => Nat.le_refl _, Nat.le_refl _, rfl, rfl, rfl⟩
theorem new_ci (bad : List Int) : CI (newC 8 4 1 bad []) 0 :=
 ⟨newC_ok 8 4 1 bad [] (by decide), newC_fl _ _ _ _ _, Nat.le_refl _, rfl, rfl, rfl⟩
end Go.Proofs.YtnmnhgagnfodhaaDoor.Cp
namespace Go.Proofs.YtnmnhgagnfodhaaDoor.Cp
open Go.RowKit Go.Conc
set_option linter.unusedVariables false
theorem own_caps {w : World} {B g n c : Nat} {X : List Int} (h : Own w B g n c X) : n ≤ c ∧ c ≤ 9223372036854775807 ∧ B ≤ g ∧ g < w.heap.size := by
 have h9 : w.ownsRow B 5 1 (.slice (some ⟨g, 0, none⟩) n c) n (X.map (Value.int .u8)) := h
 rcases h9.2 with ⟨hv, _⟩ | ⟨gg, cap, cu, hvv, hb2, hh, r1, r2, _⟩
 ·cases hv
 ·injection hvv with h1 h2 h3
  injection h1 with h1
  injection h1 with h1
  subst h1 h3
  simp [maxLen] at r2
  exact ⟨r1, by omega, hb2, lt_of_block hh⟩
theorem readsF_nil (w : World) : ReadsF w none 0 [] := ⟨rfl, (fun _ h => by cases h), fun _ => rfl, fun _ h => by cases h⟩
structure TL (w U : World) (q gc cc gm cm : Nat) (zs : List Int) (ms : List Bool) : Prop where
 bel : Below w.heap.size w U
 tab : Tab U
 rd : Reads U (some ⟨gc, 0, none⟩) 10016 zs
 rb : ReadsB U (some ⟨gm, 0, none⟩) 8 ms
 bx : U.heap[q]? = some (.cells #[.int .i64 8, .int .i64 4, .int .i64 1, .slice (some ⟨gc, 0, none⟩) 10016 cc, .slice (some ⟨gm, 0, none⟩) 8 cm] 35 (0, 0))
theorem TL.below {w U V : World} {q gc cc gm cm : Nat} {zs : List Int} {ms : List Bool} (h : TL w U q gc cc gm cm zs ms) (hb : Below U.heap.size U V) : TL w V q gc cc gm cm zs ms :=
 ⟨h.bel.trans (hb.mono h.bel.size), h.tab.below hb, h.rd.below hb, h.rb.below hb, (hb.block _ (lt_of_block h.bx)).trans h.bx⟩
theorem pg_img (bk : Nat) (a' : Option Addr) (c c' i : Nat) (x y : Int) (zs : List Int) (w : World) (hc1 : 10016 ≤ c) (hc : c ≤ 9223372036854775807) (hr : Reads w (some ⟨bk, 0, none⟩) 10016 zs) (hi : i < 32) (hx : x = ((i / 4 : Nat) : Int)) (hy : y = ((i % 4 : Nat) : Int)) :
  Calls Tryd.prog 15 #[.agg #[.int .i64 8, .int .i64 4, .int .i64 1, .slice (some ⟨bk, 0, none⟩) 10016 c, .slice a' 8 c'], .agg #[.int .i64 x, .int .i64 y]] w fun e w' => ∃ g1 k1 g2 k2, e = .returned (.tuple #[.agg #[.slice (some ⟨g1, 0, none⟩) 256 k1, .slice (some ⟨g2, 0, none⟩) 57 k2], .int .i64 0]) ∧ Reads w' (some ⟨g1, 0, none⟩) 256 (((zs.drop (i * 313)).take 313).take 256) ∧ Reads w' (some ⟨g2, 0, none⟩) 57 (((zs.drop (i * 313)).take 313).drop 256) ∧ Below w.heap.size w w' := by
 have hby : Bts zs := hr.2.1
 refine (pPage_ok 8 4 1 bk 0 a' 10016 c 8 c' x y zs w i 313 (i * 313) ((i + 1) * 313) 256 (x * 4) hc1 hc (by omega) (by omega) hd_chk (by decide) hr rfl rfl rfl rfl (by omega) (by omega) rfl (by omega) (by omega) (by omega) (by omega) (by omega)).mono ?_
 rintro e w' ⟨g1, k1, g2, k2, rfl, o1, o2, _, hb⟩
 exact ⟨g1, k1, g2, k2, rfl, own_rd o1 (fun z hz => hby z (List.mem_of_mem_drop (List.mem_of_mem_take (List.mem_of_mem_take hz)))), own_rd o2 (fun z hz => hby z (List.mem_of_mem_drop (List.mem_of_mem_take (List.mem_of_mem_drop hz)))), hb⟩
theorem rd_img (p i : Nat) (F : Nat → Prop) (x y : Int) (zs : List Int) (ms : List Bool) (w : World) (h : ChipAt w p F (loadC 8 4 1 zs ms [])) (hi : i < 32) (hx : x = ((i / 4 : Nat) : Int)) (hy : y = ((i % 4 : Nat) : Int)) :
  Calls Tryd.prog 16 #[.pointer (some ⟨p, 0, none⟩), .agg #[.int .i64 x, .int .i64 y]] w fun e w' => ∃ a1 c1 a2 c2, e = .returned (.tuple #[.agg #[.slice a1 256 c1, .slice a2 57 c2], .int .i64 0]) ∧ Reads w' a1 256 (((zs.drop (i * 313)).take 313).take 256) ∧ Reads w' a2 57 (((zs.drop (i * 313)).take 313).drop 256) ∧ Below w.heap.size w w' := by
 refine (Read_any w p F _ h (load_ci zs ms).ok x y).mono ?_
 intro e w' hv
 have hE : ReadE (loadC 8 4 1 zs ms []) x y = 0 := by
  unfold ReadE
  have hp : hasP (loadC 8 4 1 zs ms []).B (loadC 8 4 1 zs ms []).P x y = true := by
   show hasP 8 4 x y = true
   unfold hasP hasB
   rw [hx, hy, decide_eq_true (by omega), decide_eq_true (by omega)]
   rfl
  rw [if_neg (show ¬ ((loadC 8 4 1 zs ms []).dark = true) from fun h9 => by cases h9), if_pos hp]
 obtain ⟨a1, m1, c1, a2, m2, c2, D, Z, he, o1, o2, _, hc⟩ := hv.ex
 rw [hE, if_pos rfl] at hc
 obtain ⟨e1, e2, e3⟩ := hc
 have e1' : m1 = 256 := e1
 have e2' : m2 = 57 := e2
 subst e1' e2'
 rw [hx, hy] at e3
 simp only [Int.toNat_natCast] at e3
 have hrb := readL_byt h.pok (i / 4) (i % 4)
 rw [← e3] at hrb
 rw [load_read (by omega) (by omega), show i / 4 * 4 + i % 4 = i by omega] at e3
 have e4 : D ++ Z = (zs.drop (i * 313)).take 313 := e3
 have hD : D.length = 256 := by have := o1.1; simpa using this
 obtain ⟨a9, k9, h9, r1⟩ := own_any o1 (fun z hz => hrb z (List.mem_append_left _ hz))
 obtain ⟨a8, k8, h8, r2⟩ := own_any o2 (fun z hz => hrb z (List.mem_append_right _ hz))
 injection h9 with h91 _ _
 injection h8 with h81 _ _
 subst h91 h81
 refine ⟨a1, c1, a2, c2, by rw [he, hE], ?_, ?_, hv.bel⟩
 ·rw [← e4, List.take_append_of_le_length (by omega), List.take_of_length_le (by omega)]
  exact r1
 ·rw [← e4, List.drop_append_of_le_length (by omega), List.drop_of_length_le (by omega), List.nil_append]
  exact r2
theorem loadE_zero : LoadE 8 4 1 10016 8 [] = 0 := by decide
end Go.Proofs.YtnmnhgagnfodhaaDoor.Cp
