/-
  SEAT YtdiifegljonojaaDoor: a row is not too long; the law of ParcelBack.
-/
import Derived.Test.YtdiifegljonojaaDoorXf
namespace Go.Proofs.YtdiifegljonojaaDoor
open Go.RowKit
set_option linter.unusedVariables false

/-- How many letters stand behind the last slash. -/
def tlF (n : Nat) (l : List UInt8) : Nat := l.foldl (fun n b => if b = 47 then 0 else n + 1) n
theorem tlF_free (l : List UInt8) (h : (47 : UInt8) ∉ l) : ∀ n, tlF n l = n + l.length := by
  induction l with
  | nil => intro n; rfl
  | cons x r ih =>
    intro n
    have hx : ¬ x = 47 := fun e => h (by rw [e]; exact List.mem_cons_self)
    show tlF (if x = 47 then 0 else n + 1) r = _
    rw [if_neg hx, ih (fun hm => h (List.mem_cons_of_mem _ hm)), List.length_cons]
    omega
theorem tlF_app (n : Nat) (a b : List UInt8) : tlF n (a ++ b) = tlF (tlF n a) b := by unfold tlF; rw [List.foldl_append]
theorem tlF_last (n : Nat) (a b : List UInt8) (h : (47 : UInt8) ∉ b) : tlF n (a ++ 47 :: b) = b.length := by
  rw [tlF_app]
  show tlF 0 b = _
  rw [tlF_free b h, Nat.zero_add]
theorem tlF_snoc (n : Nat) (a : List UInt8) (x : UInt8) : tlF n (a ++ [x]) = if x = 47 then 0 else tlF n a + 1 := by rw [tlF_app]; rfl
theorem tlF_le (l : List UInt8) : ∀ n, tlF n l ≤ n + l.length := by
  induction l with
  | nil => intro n; exact Nat.le_refl _
  | cons x r ih =>
    intro n
    show tlF (if x = 47 then 0 else n + 1) r ≤ _
    rw [List.length_cons]
    by_cases hx : x = 47
    · rw [if_pos hx]; have := ih 0; omega
    · rw [if_neg hx]; have := ih (n + 1); omega
/-- What the law lets a leaf take. -/
def mostF (l : Lf) : Nat := 22 + tlF 0 l.path.data.toList + l.target.size + l.data.length
def mostS : List Lf → Nat
  | [] => 0
  | l :: r => mostF l + mostS r

theorem cutF_most (zs : List Int) : ∀ (f k : Nat), k ≤ zs.length → ((cutF zs f k).flatMap (encR zs)).length ≤ 5 + (zs.length - k)
  | 0, k, _ => by simp [cutF]
  | f + 1, k, hk => by
    rw [cutF]
    split
    · rename_i hlt
      have h1 := fhAt_ge hk
      have h2 := enAt_gt hlt
      have h3 := enAt_le zs k
      have h4 := cutF_most zs f (enAt zs k) h3
      have h5 := fhAt_le zs k
      have h6 : fhAt zs k ≤ enAt zs k := by unfold enAt; omega
      rw [List.flatMap_append, List.flatMap_append, List.length_append, List.length_append]
      have a1 : ((if k < fhAt zs k then [(⟨k, fhAt zs k - k, false⟩ : Sr)] else []).flatMap (encR zs)).length ≤ 5 + (fhAt zs k - k) := by
        split
        · rw [List.flatMap_cons, List.flatMap_nil, List.append_nil]
          unfold encR
          simp only [List.length_append, numL_length, Bool.false_eq_true, if_false, List.length_take, List.length_drop]
          omega
        · simp
      by_cases hB : fhAt zs k < zs.length
      · have hol := at_hole hk hB
        have hol2 : fhAt zs k + 16 ≤ enAt zs k := by unfold enAt; omega
        have a2 : ((if fhAt zs k < enAt zs k then [(⟨fhAt zs k, enAt zs k - fhAt zs k, true⟩ : Sr)] else []).flatMap (encR zs)).length ≤ 5 := by
          split
          · rw [List.flatMap_cons, List.flatMap_nil, List.append_nil]
            unfold encR
            simp only [List.length_append, numL_length, if_true, List.length_nil]
            omega
          · simp
        omega
      · have he : fhAt zs k = zs.length := by omega
        have he2 : enAt zs k = zs.length := by omega
        have a2 : ((if fhAt zs k < enAt zs k then [(⟨fhAt zs k, enAt zs k - fhAt zs k, true⟩ : Sr)] else []).flatMap (encR zs)).length = 0 := by
          rw [if_neg (by omega)]; rfl
        have a3 : ((cutF zs f (enAt zs k)).flatMap (encR zs)).length = 0 := by
          rw [he2]
          cases f with
          | zero => rfl
          | succ f => rw [cutF, if_neg (by omega)]; rfl
        omega
    · simp
theorem encD_most (zs : List Int) : (encD zs).length ≤ 9 + zs.length := by
  unfold encD
  rw [List.length_append, numL_length]
  have := cutF_most zs (zs.length - 0) 0 (Nat.zero_le _)
  have h2 : (cuts zs).flatMap (encR zs) = (cutF zs (zs.length - 0) 0).flatMap (encR zs) := rfl
  rw [h2]
  omega
theorem tg_last {ns : List ByteArray} (h : 1 ≤ ns.length) (hn : ∀ x ∈ ns, (47 : UInt8) ∉ x.data.toList) : tlF 0 (Pt.tg ns).data.toList = (ns.getD (ns.length - 1) ByteArray.empty).size := by
  have hne : ns ≠ [] := fun e => by rw [e] at h; exact absurd h (by decide)
  rw [Pt.tg_cons hne, Pt.data_byteOf]
  have hs := last_split ns h
  have hm := hn _ (getD_mem ns h)
  conv => lhs; rw [← hs]
  rw [Pt.tgA_append]
  have : Pt.tgA [ns.getD (ns.length - 1) ByteArray.empty] = 47 :: (ns.getD (ns.length - 1) ByteArray.empty).data.toList := by simp [Pt.tgA, Pt.tgL]
  rw [this, tlF_last _ _ _ hm]
  rfl
theorem encL_most {ns0 : List ByteArray} {d0 : Bool} {l : Lf} (h : okL ns0 d0 l = true) : (encL l).length ≤ mostF l := by
  unfold okL at h
  rw [Bool.and_eq_true, Bool.and_eq_true] at h
  obtain ⟨⟨h1, h2⟩, h3⟩ := h
  have hm := nms_more h1
  have hf := nms_facts h1
  have hl := fol_len h3
  have ht := tg_last hl (fun x hx => (Pt.sp_mem hf.1 hx).2.2.1)
  rw [hm.1] at ht
  unfold mostF encL encP
  rw [ht]
  simp only [List.length_append, numL_length, numsS_len]
  unfold encB
  split
  · have := encD_most l.data
    omega
  · split
    · simp only [List.length_append, numL_length, numsS_len]; omega
    · simp; omega
theorem goL_most : ∀ (es : List Lf) (ns0 : List ByteArray) (d0 : Bool) (laid x : List Int), goL ns0 d0 laid es = .ok x → x.length ≤ laid.length + mostS es
  | [], ns0, d0, laid, x, h => by
    rw [goL] at h
    injection h with h
    rw [← h]; exact Nat.le_add_right _ _
  | l :: es, ns0, d0, laid, x, h => by
    rw [goL] at h
    split at h
    · rename_i ho
      have h1 := goL_most es _ _ _ x h
      have h2 := encL_most ho
      rw [List.length_append] at h1
      rw [mostS]
      omega
    · cases h
/-- A row is not too long. -/
theorem pack_most (es : List Lf) (row : List Int) (h : packM es = .ok row) : row.length ≤ 20 + mostS es.tail := by
  cases es with
  | nil => cases h
  | cons l r =>
    rw [packM] at h
    split at h
    · split at h
      · split at h
        · cases h
        · rename_i x hx
          injection h with h
          have h1 := goL_most r _ _ _ x hx
          rw [← h]
          unfold sealW
          simp only [List.length_append, numL_length]
          have h2 : (headW l).length = 15 := by unfold headW; simp only [List.length_append, numL_length]; rfl
          rw [h2] at h1
          show _ ≤ 20 + mostS r
          omega
      · cases h
    · cases h

theorem goL_err : ∀ (es : List Lf) (ns0 : List ByteArray) (d0 : Bool) (laid : List Int) (x : Int), goL ns0 d0 laid es = .error x → x = 191
  | [], ns0, d0, laid, x, h => by rw [goL] at h; cases h
  | l :: es, ns0, d0, laid, x, h => by
    rw [goL] at h
    split at h
    · exact goL_err es _ _ _ x h
    · injection h with h; exact h.symm
theorem packM_err (es : List Lf) (x : Int) (h : packM es = .error x) : ¬ x = 0 := by
  cases es with
  | nil => rw [packM] at h; injection h with h; omega
  | cons l r =>
    rw [packM] at h
    split at h
    · split at h
      · split at h
        · rename_i e he
          have := goL_err r _ _ _ e he
          injection h with h
          omega
        · cases h
      · injection h with h; omega
    · injection h with h; omega
theorem mostS_take (l : List Lf) (j : Nat) (h : j < l.length) : mostS (l.take (j + 1)) = mostS (l.take j) + mostF l[j] := by
  induction l generalizing j with
  | nil => simp at h
  | cons x r ih =>
    cases j with
    | zero => simp [mostS]
    | succ j =>
      rw [List.take_succ_cons, List.take_succ_cons, mostS, mostS, ih j (by simpa using h), List.getElem_cons_succ]
      omega
theorem mostS_le (l : List Lf) (j : Nat) : mostS (l.take j) ≤ mostS l := by
  induction l generalizing j with
  | nil => simp
  | cons x r ih =>
    cases j with
    | zero => simp [mostS]
    | succ j => rw [List.take_succ_cons, mostS, mostS]; have := ih j; omega

/-- What stands once the tree is packed. -/
structure BkS (w u : World) (v : Value) (es : List Le) (row : List Int) (g m cap : Nat) : Prop where
  below : Below w.heap.size w u
  row : Reads u (some ⟨g, 0, none⟩) m row
  lt : g < u.heap.size
  c1 : m ≤ cap
  c2 : cap ≤ 9223372036854775807
  tree : VwL u v es
  tab : Tab u
theorem bel_up {w u u2 : World} {B : Nat} (h : Below B w u) (hb : Below u.heap.size u u2) (hB : B ≤ u.heap.size) : Below B w u2 :=
  ⟨hb.os.trans h.os, hb.tape.trans h.tape, hb.output.trans h.output, Nat.le_trans h.size hb.size, fun k hk => (hb.block k (Nat.lt_of_lt_of_le hk hB)).trans (h.block k hk)⟩
theorem BkS.up {w u u2 : World} {v : Value} {es : List Le} {row : List Int} {g m cap : Nat} (h : BkS w u v es row g m cap) (hb : Below u.heap.size u u2) : BkS w u2 v es row g m cap :=
  ⟨bel_up h.below hb h.below.size, h.row.below hb, Nat.lt_of_lt_of_le h.lt hb.size, h.c1, h.c2, h.tree.below hb, h.tab.below hb⟩
theorem RdL.up {w u : World} {v : Value} {es : List Le} (h : RdL w w.heap.size v es) (hb : Below w.heap.size w u) : RdL u u.heap.size v es := by
  have h1 := h.low hb
  refine ⟨?_, ?_, h1.stamp, h1.text⟩
  · obtain ⟨a, c, e1, e2, e3, e4⟩ := h1.shape
    refine ⟨a, c, e1, e2, e3, fun h0 => ?_⟩
    obtain ⟨b, off, g1, g2, g3⟩ := e4 h0
    exact ⟨b, off, g1, Nat.lt_of_lt_of_le g2 hb.size, g3⟩
  · intro x hx
    obtain ⟨da, dn, dc, g1, g2, g3, g4, g5⟩ := h1.data x hx
    exact ⟨da, dn, dc, g1, g2, g3, g4, fun y hy h9 => Nat.lt_of_lt_of_le (g5 y hy h9) hb.size⟩
theorem RdL.lok {w : World} {B : Nat} {v : Value} {es : List Le} (h : RdL w B v es) : ∀ l ∈ es.map Le.l, Lok l := by
  intro l hl
  obtain ⟨x, hx, rfl⟩ := List.mem_map.1 hl
  obtain ⟨da, dn, dc, g1, g2, _⟩ := h.data x hx
  exact ⟨(h.stamp x hx).1, (h.stamp x hx).2, g2.2.1⟩
theorem bk_packed (w u : World) (v : Value) (es : List Le) (row : List Int) (h : RdL w w.heap.size v es) (ht : Tab w) (hb : Below w.heap.size w u) (hp : packM (es.map Le.l) = .ok row) (hsz : szL (es.map Le.l) ≤ 100000000000) :
    Calls Tryd.prog 16 #[v] u fun e u' => ∃ g cap, e = .returned (.tuple #[.slice (some ⟨g, 0, none⟩) row.length cap, .int .i64 0]) ∧ BkS w u' v es row g row.length cap := by
  have hu := h.up hb
  refine (pack_any v es u hu hsz (ht.below hb)).mono ?_
  rintro e u' ⟨hv, hb2⟩
  rw [hp] at hv
  obtain ⟨g, cap, he, ho⟩ := hv
  refine ⟨g, cap, he, ?_⟩
  have hby := (pack_open _ _ hp h.lok).1
  have hr := ho.reads hby row.length (Nat.le_refl _)
  rw [List.take_length] at hr
  have hpos : 0 < row.length := by
    obtain ⟨_, ps, h1, _⟩ := pack_open _ _ hp h.lok
    cases row with
    | nil => cases h1
    | cons x r => simp
  obtain ⟨g', cap', he', q1, q2, q3, q4⟩ := own_shape ho hpos
  cases he'
  exact ⟨bel_up hb hb2 hb.size, hr, q4, q1, q2, (hu.vw (Nat.le_refl _)).below hb2, (ht.below hb).below hb2⟩
theorem bk_read (w u : World) (v : Value) (es : List Le) (row : List Int) (g m cap : Nat) (h : BkS w u v es row g m cap) (hm : m ≤ 4194304) (hl : ∀ l ∈ es.map Le.l, Lok l) (hp : packM (es.map Le.l) = .ok row) :
    Calls Tryd.prog 11 #[.slice (some ⟨g, 0, none⟩) m cap] u fun e u' => ∃ v2 fs, e = .returned (.tuple #[v2, .int .i64 0]) ∧ VwL u' v2 fs ∧ fs.map Le.l = es.map Le.l ∧ BkS w u' v es row g m cap := by
  refine (read_any g 0 m cap row u h.row h.lt (by omega) h.c1 h.c2 h.tab).mono ?_
  rintro e u' ⟨hv, hb⟩
  obtain ⟨hby, ps, ho, hpm⟩ := pack_open _ _ hp hl
  rw [ho] at hv
  obtain ⟨v2, fs, he, hes, hls⟩ := hv
  refine ⟨v2, fs, he, hls.vw ?_, by rw [hes, hpm], h.up hb⟩
  intro x hx
  exact (hl x.l (by rw [← hpm, ← hes]; exact List.mem_map_of_mem hx)).byt

set_option maxHeartbeats 2000000 in
set_option maxRecDepth 100000 in
theorem back_err (v : Value) (es : List Le) (x : Int) (w : World) (h : RdL w w.heap.size v es) (hT : Tab w) (hsz : szL (es.map Le.l) ≤ 100000000000) (hp : packM (es.map Le.l) = .error x) :
    Calls Tryd.prog 4 #[v] w fun e w' => e = .returned (.bool true) ∧ Below w.heap.size w w' := by
  have hx := packM_err _ _ hp
  have HT := hide hT
  have HP := hide hp
  have HR := hide h
  have HZ := hide hsz
  obtain ⟨a, c, rfl, _⟩ := h.shape
  clear hT hp h hsz
  go_enter Tryd.func4, Tryd.ntmps4
  go_wp2_with (first
    | (go_at_call 15; refine (heads_any _ HT.out).mono ?_; rintro e u0 ⟨rfl, hb0⟩; have HB0 := hide hb0; clear hb0)
    | (go_at_call 12; refine (lno_any _ _).mono ?_; rintro e u9 ⟨rfl, rfl⟩)
    | (go_at_call 16; refine (pack_any _ es _ (HR.out.up HB0.out) HZ.out (HT.out.below HB0.out)).mono ?_; rintro e u1 ⟨hv, hb1⟩
       rw [HP.out] at hv
       have hv2 : e = .returned (.tuple #[.slice none 0 0, .int .i64 x]) := hv
       subst hv2
       have HB1 := hide (bel_up HB0.out hb1 HB0.out.size)
       clear hv hb1))
  go_ret
  exact ⟨rfl, HB1.out⟩
set_option maxHeartbeats 2000000 in
set_option maxRecDepth 100000 in
theorem back_ok (v : Value) (es : List Le) (row : List Int) (w : World) (h : RdL w w.heap.size v es) (hT : Tab w) (hsz : szL (es.map Le.l) ≤ 100000000000) (hp : packM (es.map Le.l) = .ok row) (hms : mostS (es.map Le.l).tail ≤ 4000000) :
    Calls Tryd.prog 4 #[v] w fun e w' => e = .returned (.bool true) ∧ Below w.heap.size w w' := by
  have hrow := pack_most _ _ hp
  obtain ⟨m, hm⟩ : ∃ m, row.length = m := ⟨_, rfl⟩
  have hlok := hide h.lok
  have HT := hide hT
  have HP := hide hp
  have HR := hide h
  have HZ := hide hsz
  have HM := hide hm
  have HMS := hide hms
  have HRow : Hid (m ≤ 20 + mostS (es.map Le.l).tail) := by rw [← hm]; exact hrow
  have HN : Hid (m ≤ 4194304) := by unfold Hid; rw [← hm]; omega
  obtain ⟨a, c, hv, -⟩ := h.shape
  obtain ⟨n, hn⟩ : ∃ n, es.length = n := ⟨_, rfl⟩
  have HNL := hide hn
  have HPK := fun (u : World) (hb : Below w.heap.size w u) => bk_packed w u v es row h hT hb hp hsz
  rw [hv, hn, hm] at HPK
  rw [hv, hn] at HR ⊢
  have HPK := hide HPK
  clear hT hp h hsz hms hrow hm hn hv
  go_enter Tryd.func4, Tryd.ntmps4
  go_wp2_with (first
    | (go_at_call 15; refine (heads_any _ HT.out).mono ?_; rintro e u0 ⟨rfl, hb0⟩; have HB0 := hide hb0; clear hb0)
    | (go_at_call 12; refine (lno_any _ _).mono ?_; rintro e u9 ⟨rfl, rfl⟩)
    | (go_at_call 16; refine (HPK.out _ HB0.out).mono ?_; rintro e u1 ⟨g, cap, rfl, hs⟩
       have HS := hide hs
       clear hs HPK HB0)
    | (go_at_call 11; refine (bk_read _ _ _ _ _ _ _ _ HS.out HN.out hlok.out HP.out).mono ?_; rintro e u2 ⟨v2, fs, rfl, hv2, he2, hs2⟩
       have HV := hide hv2
       have HE := hide he2
       have HS2 := hide hs2
       clear hv2 he2 hs2 HS)
    | (go_at_call 13; refine (alike_vw _ _ fs es _ HV.out HS2.out.tree HE.out).mono ?_; rintro e u4 ⟨rfl, hb4⟩
       have HS4 := hide (HS2.out.up hb4)
       clear hb4 HS2 HV HE))
  have hn1 : 1 ≤ n := by
    have h1 := HP.out
    have h2 := HNL.out
    cases es with
    | nil => cases h1
    | cons y r => rw [← h2]; simp
  have HC : Hid (∀ k, k < n → ∃ g off, a = some ⟨g, off, none⟩ ∧ g < u4.heap.size ∧ ∀ j, j < 6 → u4.cell? ⟨g, off + k * 6 + j, none⟩ = es[k]?.bind (fun x => x.cells[j]?)) := by
    intro k hk
    obtain ⟨a9, c9, e9, h9⟩ := HS4.out.tree.shape
    rw [HNL.out] at e9 h9
    injection e9 with e91 e92 e93
    subst e91
    obtain ⟨g9, o9, q1, q2, q3⟩ := h9 k hk
    exact ⟨g9, o9, q1, q2, q3⟩
  have HX : Hid (∀ x ∈ es, x.l.path.size ≤ 9223372036854775807) := fun x hx => (HR.out.text x hx).1
  have hnm : n ≤ 9223372036854775807 := by
    have := HS4.out.tree.most
    rw [HNL.out] at this
    exact this
  go_loopw [7, 8] (fun s7 s8 wr => ∃ i : Nat, 1 ≤ i ∧ i ≤ n ∧ s7 = .int .i64 (20 + (mostS ((es.map Le.l).tail.take (i - 1)) : Int)) ∧ s8 = .int .i64 (i : Int) ∧ Hid (Below u4.heap.size u4 wr)) (fun _ s8 _ => n - (intOf s8).toNat)
  case atStart => exact ⟨1, Nat.le_refl _, hn1, by simp [mostS], rfl, Below.refl _ _⟩
  case round =>
    obtain ⟨i, hi1, hi, rfl, rfl, HBR⟩ := hrel
    by_cases hlt : i < n
    · have i1 : (i : Int) < (n : Int) := by omega
      obtain ⟨g1, o1, rfl, hg1, hcell⟩ := HC.out i hlt
      have hie : i < es.length := by rw [HNL.out]; exact hlt
      obtain ⟨x, hx⟩ : ∃ x, es[i] = x := ⟨_, rfl⟩
      rw [List.getElem?_eq_getElem hie, hx] at hcell
      have hpx := HX.out x (by rw [← hx]; exact List.getElem_mem hie)
      obtain ⟨da, dc, hd, hrd⟩ := HS4.out.tree.data x (by rw [← hx]; exact List.getElem_mem hie)
      have hmo : mostS ((es.map Le.l).tail.take i) = mostS ((es.map Le.l).tail.take (i - 1)) + mostF x.l := by
        have h8 : i - 1 < (es.map Le.l).tail.length := by simp; omega
        have h9 := mostS_take (es.map Le.l).tail (i - 1) h8
        rw [show i - 1 + 1 = i by omega] at h9
        rw [h9]
        congr 2
        simp only [List.getElem_tail, List.getElem_map]
        rw [← hx]
        congr 2
        omega
      have hml := mostS_le (es.map Le.l).tail i
      have hml2 := HMS.out
      rw [hmo] at hml
      obtain ⟨⟨p, t, m9, s, xs, tg⟩, d⟩ := x
      simp only at hd hrd hpx
      subst hd
      unfold mostF at hmo hml
      simp only at hmo hml
      obtain ⟨dn, hdn⟩ : ∃ dn, xs.length = dn := ⟨_, rfl⟩
      rw [hdn] at hrd hmo hml hcell
      obtain ⟨M, hM⟩ : ∃ M, mostS ((es.map Le.l).tail.take (i - 1)) = M := ⟨_, rfl⟩
      rw [hM] at hmo hml ⊢
      have x0 : wr.cell? ⟨g1, o1 + i * 6, none⟩ = some (.string p) := by rw [HBR.out.cell hg1]; exact hcell 0 (by omega)
      have x4 : wr.cell? ⟨g1, o1 + i * 6 + 4, none⟩ = some (.slice da dn dc) := by rw [HBR.out.cell hg1]; exact hcell 4 (by omega)
      have x5 : wr.cell? ⟨g1, o1 + i * 6 + 5, none⟩ = some (.string tg) := by rw [HBR.out.cell hg1]; exact hcell 5 (by omega)
      have HMO := hide hmo
      have HML := hide hml
      clear hcell hmo hml hml2 hM hdn hx hie hrd
      go_wp2
      go_loopw [9, 10] (fun s9 s10 wx => ∃ k : Nat, k ≤ p.size ∧ s9 = .int .i64 (tlF 0 (p.data.toList.take k) : Int) ∧ s10 = .int .i64 (k : Int) ∧ wr = wx) (fun _ s10 _ => p.size - (intOf s10).toNat)
      case atStart => exact ⟨0, Nat.zero_le _, rfl, rfl, rfl⟩
      case round =>
        obtain ⟨k, hk, rfl, rfl, hwr⟩ := hrel
        subst hwr
        have htk := tlF_le (p.data.toList.take k) 0
        have htk2 : tlF 0 (p.data.toList.take k) ≤ k := by have := List.length_take_le k p.data.toList; omega
        obtain ⟨N, hN⟩ : ∃ N, tlF 0 (p.data.toList.take k) = N := ⟨_, rfl⟩
        rw [hN] at htk htk2 ⊢
        have HN9 := hide hN
        clear hN htk
        by_cases hkl : k < p.size
        · have k1 : (k : Int) < (p.size : Int) := by omega
          have wN : IntKind.i64.wrap ((N : Int) + 1) = (N : Int) + 1 := by rw [IntKind.wrap_i64]; omega
          have wk : IntKind.i64.wrap ((k : Int) + 1) = (k : Int) + 1 := by rw [IntKind.wrap_i64]; omega
          have hget : p.data.toList.take (k + 1) = p.data.toList.take k ++ [p[k]] := by
            have h1 : k < p.data.toList.length := hkl
            rw [← List.take_append_getElem h1]
            rfl
          have hsn := tlF_snoc 0 (p.data.toList.take k) p[k]
          rw [← hget, HN9.out] at hsn
          have HSN := hide hsn
          clear hsn hget
          cases hb : ((p[k].toNat : Int) == 47) with
          | false =>
            have HSE : Hid (tlF 0 (p.data.toList.take (k + 1)) = N + 1) := by
              unfold Hid
              rw [HSN.out, if_neg (fun e => by rw [e] at hb; cases hb)]
            go_wp2
            refine ⟨⟨k + 1, by omega, by rw [HSE.out]; go_num, by go_num, trivial⟩, ?_⟩
            simp [intOf]; omega
          | true =>
            have HSE : Hid (tlF 0 (p.data.toList.take (k + 1)) = 0) := by
              unfold Hid
              rw [HSN.out, if_pos (by have h9 := eq_of_beq hb; apply UInt8.toNat_inj.1; show p[k].toNat = 47; omega)]
            go_wp2
            refine ⟨⟨k + 1, by omega, by rw [HSE.out]; rfl, by go_num, trivial⟩, ?_⟩
            simp [intOf]; omega
        · obtain rfl : k = p.size := by omega
          have k1 : ¬ (p.size : Int) < (p.size : Int) := by omega
          have htN : tlF 0 p.data.toList = N := by
            rw [← HN9.out, List.take_of_length_le (show p.data.toList.length ≤ p.size from Nat.le_refl _)]
          have hmo := HMO.out
          have hml := HML.out
          rw [htN] at hmo hml
          have hml2 := HMS.out
          have w1 : IntKind.i64.wrap (20 + (M : Int) + 22) = 20 + (M : Int) + 22 := by rw [IntKind.wrap_i64]; omega
          have w2 : IntKind.i64.wrap (20 + (M : Int) + 22 + (N : Int)) = 20 + (M : Int) + 22 + (N : Int) := by rw [IntKind.wrap_i64]; omega
          have w3 : IntKind.i64.wrap (20 + (M : Int) + 22 + (N : Int) + (tg.size : Int)) = 20 + (M : Int) + 22 + (N : Int) + (tg.size : Int) := by rw [IntKind.wrap_i64]; omega
          have w4 : IntKind.i64.wrap (20 + (M : Int) + 22 + (N : Int) + (tg.size : Int) + (dn : Int)) = 20 + (M : Int) + 22 + (N : Int) + (tg.size : Int) + (dn : Int) := by rw [IntKind.wrap_i64]; omega
          have wi : IntKind.i64.wrap ((i : Int) + 1) = (i : Int) + 1 := by rw [IntKind.wrap_i64]; omega
          have HMO2 := hide hmo
          clear hmo hml hml2 htN
          go_wp2
          go_quiet (fail)
          go_wp2
          go_roundw
          case rel => exact ⟨i + 1, by omega, by omega, by rw [Nat.add_sub_cancel, HMO2.out]; go_num, by go_num, bel_drewN HBR.out _⟩
          case measure => simp [intOf]; omega
    · obtain rfl : i = n := by omega
      have i1 : ¬ (i : Int) < (i : Int) := by omega
      have hend : (m : Int) ≤ 20 + (mostS ((es.map Le.l).tail.take (i - 1)) : Int) := by
        have h1 := HRow.out
        rw [List.take_of_length_le (by simp; have := HNL.out; omega)]
        omega
      go_wp2
      go_ret
      exact ⟨by simp, bel_up HS4.out.below HBR.out HS4.out.below.size⟩
end Go.Proofs.YtdiifegljonojaaDoor
