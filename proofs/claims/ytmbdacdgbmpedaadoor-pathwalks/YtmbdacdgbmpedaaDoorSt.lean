/-
  SEAT YtmbdacdgbmpedaaDoor: a tree of things with names; Step.
-/
import Derived.Test.YtmbdacdgbmpedaaDoorEc
namespace Go.Proofs.YtmbdacdgbmpedaaDoor
open Go.RowKit
set_option linter.unusedVariables false

structure Tr where
  nms : List (List ByteArray)
  to : List (List Int)
  lnk : List ByteArray
  is : List Bool

/-- Slices of numbers, of bools, of slices. -/
structure RdI (w : World) (a : Option Addr) (n : Nat) (ks : List Int) : Prop where
  len : ks.length = n
  nil : a = none → n = 0
  cell : ∀ x, a = some x → ∀ j u, ks[j]? = some u → w.cell? (x.add j) = some (.int .i64 u)
structure RdB (w : World) (a : Option Addr) (n : Nat) (bs : List Bool) : Prop where
  len : bs.length = n
  nil : a = none → n = 0
  cell : ∀ x, a = some x → ∀ j u, bs[j]? = some u → w.cell? (x.add j) = some (.bool u)
structure RdSS (w : World) (a : Option Addr) (n : Nat) (xss : List (List ByteArray)) : Prop where
  len : xss.length = n
  nil : a = none → n = 0
  cell : ∀ x, a = some x → ∀ j u, xss[j]? = some u → ∃ b m c, w.cell? (x.add j) = some (.slice b m c) ∧ RdS w b m u ∧ m ≤ 9223372036854775807
structure RdII (w : World) (a : Option Addr) (n : Nat) (kss : List (List Int)) : Prop where
  len : kss.length = n
  nil : a = none → n = 0
  cell : ∀ x, a = some x → ∀ j u, kss[j]? = some u → ∃ b m c, w.cell? (x.add j) = some (.slice b m c) ∧ RdI w b m u ∧ m ≤ 9223372036854775807
theorem RdI.below {w w' : World} {a : Option Addr} {n : Nat} {ks : List Int} (h : RdI w a n ks) (hb : Below w.heap.size w w') : RdI w' a n ks :=
  ⟨h.len, h.nil, fun x hx j u hj => by
    have hc := h.cell x hx j u hj
    rw [hb.cell (World.block_lt_of_cell? _ _ hc)]; exact hc⟩
theorem RdB.below {w w' : World} {a : Option Addr} {n : Nat} {ks : List Bool} (h : RdB w a n ks) (hb : Below w.heap.size w w') : RdB w' a n ks :=
  ⟨h.len, h.nil, fun x hx j u hj => by
    have hc := h.cell x hx j u hj
    rw [hb.cell (World.block_lt_of_cell? _ _ hc)]; exact hc⟩
theorem RdSS.below {w w' : World} {a : Option Addr} {n : Nat} {ks : List (List ByteArray)} (h : RdSS w a n ks) (hb : Below w.heap.size w w') : RdSS w' a n ks :=
  ⟨h.len, h.nil, fun x hx j u hj => by
    obtain ⟨b, m, c, hc, hr, hm⟩ := h.cell x hx j u hj
    exact ⟨b, m, c, by rw [hb.cell (World.block_lt_of_cell? _ _ hc)]; exact hc, hr.below hb, hm⟩⟩
theorem RdII.below {w w' : World} {a : Option Addr} {n : Nat} {ks : List (List Int)} (h : RdII w a n ks) (hb : Below w.heap.size w w') : RdII w' a n ks :=
  ⟨h.len, h.nil, fun x hx j u hj => by
    obtain ⟨b, m, c, hc, hr, hm⟩ := h.cell x hx j u hj
    exact ⟨b, m, c, by rw [hb.cell (World.block_lt_of_cell? _ _ hc)]; exact hc, hr.below hb, hm⟩⟩

/-- A tree, as it came in. -/
structure TrOn (w : World) (a0 a1 a2 a3 : Option Addr) (n0 n1 n2 n3 : Nat) (T : Tr) : Prop where
  nms : RdSS w a0 n0 T.nms
  to : RdII w a1 n1 T.to
  lnk : RdS w a2 n2 T.lnk
  is : RdB w a3 n3 T.is
  s0 : n0 ≤ 9223372036854775807
  s1 : n1 ≤ 9223372036854775807
  s2 : n2 ≤ 9223372036854775807
  s3 : n3 ≤ 9223372036854775807
theorem TrOn.below {w w' : World} {a0 a1 a2 a3 : Option Addr} {n0 n1 n2 n3 : Nat} {T : Tr} (h : TrOn w a0 a1 a2 a3 n0 n1 n2 n3 T) (hb : Below w.heap.size w w') : TrOn w' a0 a1 a2 a3 n0 n1 n2 n3 T :=
  ⟨h.nms.below hb, h.to.below hb, h.lnk.below hb, h.is.below hb, h.s0, h.s1, h.s2, h.s3⟩

def scanF : List ByteArray → List Int → ByteArray → Option Int
  | x :: xs, k :: ks, name => if x = name then some k else scanF xs ks name
  | _, _, _ => none
/-- What a step tells: the next thing, a link's text, whether it is a link, the error. -/
structure Out where
  next : Int
  link : ByteArray
  is : Bool
  e : Int
def outF (T : Tr) : Option Int → Out
  | none => ⟨0, ⟨#[]⟩, false, 170⟩
  | some k => if 0 ≤ k ∧ k < T.lnk.length ∧ k < T.is.length ∧ T.is.getD k.toNat false = true then ⟨k, T.lnk.getD k.toNat ByteArray.empty, true, 0⟩ else ⟨k, ⟨#[]⟩, false, 0⟩
def stepF (T : Tr) (at' : Int) (name : ByteArray) : Out :=
  if at' < 0 ∨ (T.nms.length : Int) ≤ at' ∨ (T.to.length : Int) ≤ at' then ⟨0, ⟨#[]⟩, false, 172⟩
  else outF T (scanF (T.nms.getD at'.toNat []) (T.to.getD at'.toNat []) name)
def Out.val (o : Out) : Value := .tuple #[.int .i64 o.next, .string o.link, .bool o.is, .int .i64 o.e]

theorem results_tmp4 {fn : Func} {t u v x : Tmp} (h : fn.results = #[.tmp t, .tmp u, .tmp v, .tmp x]) (tmps : Array Value) (P : Program) (w : World) :
    (results fn tmps).run P w = .ok (.tuple #[tmps.getD t undef, tmps.getD u undef, tmps.getD v undef, tmps.getD x undef]) w := by
  simp [results, h, go_sem]

set_option maxHeartbeats 2000000 in
set_option maxRecDepth 100000 in
theorem step_bad (a0 a1 a2 a3 : Option Addr) (n0 n1 n2 n3 c0 c1 c2 c3 : Nat) (T : Tr) (at' : Int) (name : ByteArray) (w : World) (h : TrOn w a0 a1 a2 a3 n0 n1 n2 n3 T)
    (hbad : at' < 0 ∨ (n0 : Int) ≤ at' ∨ (n1 : Int) ≤ at') :
    Calls Tryd.prog 15 #[.agg #[.slice a0 n0 c0, .slice a1 n1 c1, .slice a2 n2 c2, .slice a3 n3 c3], .int .i64 at', .string name] w fun e w' => e = .returned (stepF T at' name).val ∧ Below w.heap.size w w' := by
  have hb0 : Below w.heap.size w (w.alloc (.cells #[.slice a0 n0 c0, .slice a1 n1 c1, .slice a2 n2 c2, .slice a3 n3 c3] 35)) := (Below.refl _ _).alloc (Nat.le_refl _) _
  have hv : stepF T at' name = ⟨0, ⟨#[]⟩, false, 172⟩ := by
    unfold stepF
    rw [h.nms.len, h.to.len, if_pos hbad]
  rw [hv]
  have HB : Hid (Below w.heap.size w (w.alloc (.cells #[.slice a0 n0 c0, .slice a1 n1 c1, .slice a2 n2 c2, .slice a3 n3 c3] 35))) := hb0
  clear hb0 h hv
  by_cases q0 : at' < 0
  · go_enter Tryd.func15, Tryd.ntmps15
    go_wp2
    refine bodyPost_ret (results_tmp4 rfl _ _ _) rfl ?_
    exact ⟨rfl, HB.out⟩
  · have q0' : decide (at' < 0) = false := decide_eq_false q0
    by_cases q1 : (n0 : Int) ≤ at'
    · go_enter Tryd.func15, Tryd.ntmps15
      go_wp2
      refine bodyPost_ret (results_tmp4 rfl _ _ _) rfl ?_
      exact ⟨rfl, HB.out⟩
    · have q1' : decide ((n0 : Int) ≤ at') = false := decide_eq_false q1
      have q2 : (n1 : Int) ≤ at' := by
        rcases hbad with h | h | h
        · exact absurd h q0
        · exact absurd h q1
        · exact h
      go_enter Tryd.func15, Tryd.ntmps15
      go_wp2
      refine bodyPost_ret (results_tmp4 rfl _ _ _) rfl ?_
      exact ⟨rfl, HB.out⟩

theorem scan_nil (ks : List Int) (name : ByteArray) : scanF [] ks name = none := by cases ks <;> rfl
theorem scan_hit {xs : List ByteArray} {ks : List Int} {name : ByteArray} {i : Nat} {k : Int} (h1 : xs[i]? = some name) (h2 : ks[i]? = some k) : scanF (xs.drop i) (ks.drop i) name = some k := by
  obtain ⟨l1, e1⟩ := List.getElem?_eq_some_iff.1 h1
  obtain ⟨l2, e2⟩ := List.getElem?_eq_some_iff.1 h2
  rw [List.drop_eq_getElem_cons l1, List.drop_eq_getElem_cons l2, scanF, e1, e2, if_pos rfl]
theorem scan_miss {xs : List ByteArray} {ks : List Int} {name y : ByteArray} {i : Nat} (h1 : xs[i]? = some y) (hne : y ≠ name ∨ ks.length ≤ i) : scanF (xs.drop i) (ks.drop i) name = scanF (xs.drop (i + 1)) (ks.drop (i + 1)) name := by
  obtain ⟨l1, e1⟩ := List.getElem?_eq_some_iff.1 h1
  rw [List.drop_eq_getElem_cons l1]
  by_cases hk : i < ks.length
  · rcases hne with hne | hne
    · rw [List.drop_eq_getElem_cons hk, scanF, e1, if_neg hne]
    · omega
  · rw [List.drop_eq_nil_of_le (by omega : ks.length ≤ i), List.drop_eq_nil_of_le (by omega : ks.length ≤ i + 1)]
    cases xs.drop (i + 1) <;> rfl

set_option maxHeartbeats 4000000 in
set_option maxRecDepth 100000 in
theorem step_ok (a0 a1 a2 a3 : Option Addr) (n0 n1 n2 n3 c0 c1 c2 c3 : Nat) (T : Tr) (p : Nat) (name : ByteArray) (w : World) (h : TrOn w a0 a1 a2 a3 n0 n1 n2 n3 T) (hp0 : p < n0) (hp1 : p < n1) :
    Calls Tryd.prog 15 #[.agg #[.slice a0 n0 c0, .slice a1 n1 c1, .slice a2 n2 c2, .slice a3 n3 c3], .int .i64 (p : Int), .string name] w fun e w' => e = .returned (stepF T (p : Int) name).val ∧ Below w.heap.size w w' := by
  obtain ⟨xs, hxs⟩ : ∃ xs, T.nms[p]? = some xs := ⟨_, List.getElem?_eq_getElem (by rw [h.nms.len]; exact hp0)⟩
  obtain ⟨ks, hks⟩ : ∃ ks, T.to[p]? = some ks := ⟨_, List.getElem?_eq_getElem (by rw [h.to.len]; exact hp1)⟩
  have hv : stepF T (p : Int) name = outF T (scanF xs ks name) := by
    unfold stepF
    rw [h.nms.len, h.to.len, if_neg (by omega)]
    have e1 : T.nms.getD (p : Int).toNat [] = xs := by simp [List.getD_eq_getElem?_getD, hxs]
    have e2 : T.to.getD (p : Int).toNat [] = ks := by simp [List.getD_eq_getElem?_getD, hks]
    rw [e1, e2]
  rw [hv]
  obtain ⟨R, hR⟩ : ∃ R, scanF xs ks name = R := ⟨_, rfl⟩
  rw [hR]
  have hb0 : Below w.heap.size w (w.alloc (.cells #[.slice a0 n0 c0, .slice a1 n1 c1, .slice a2 n2 c2, .slice a3 n3 c3] 35)) := (Below.refl _ _).alloc (Nat.le_refl _) _
  have h' := h.below hb0
  obtain ⟨W, hW⟩ : ∃ W, w.alloc (.cells #[.slice a0 n0 c0, .slice a1 n1 c1, .slice a2 n2 c2, .slice a3 n3 c3] 35) = W := ⟨_, rfl⟩
  have f0 : W.cell? ⟨w.heap.size, 0, none⟩ = some (.slice a0 n0 c0) := by rw [← hW, cell_of_row _ _ 0 _ 35 (0, 0) (heap_alloc_new w _)]; rfl
  have f1 : W.cell? ⟨w.heap.size, 1, none⟩ = some (.slice a1 n1 c1) := by rw [← hW, cell_of_row _ _ 1 _ 35 (0, 0) (heap_alloc_new w _)]; rfl
  have f2 : W.cell? ⟨w.heap.size, 2, none⟩ = some (.slice a2 n2 c2) := by rw [← hW, cell_of_row _ _ 2 _ 35 (0, 0) (heap_alloc_new w _)]; rfl
  have f3 : W.cell? ⟨w.heap.size, 3, none⟩ = some (.slice a3 n3 c3) := by rw [← hW, cell_of_row _ _ 3 _ 35 (0, 0) (heap_alloc_new w _)]; rfl
  rw [hW] at hb0 h'
  have HB : Hid (Below w.heap.size w W) := hb0
  have HT : Hid (TrOn W a0 a1 a2 a3 n0 n1 n2 n3 T) := h'
  obtain ⟨G, hG⟩ : ∃ G, w.heap.size = G := ⟨_, rfl⟩
  rw [hG] at f0 f1 f2 f3
  cases a0 with
  | none => have := h.nms.nil rfl; omega
  | some x0 =>
    cases a1 with
    | none => have := h.to.nil rfl; omega
    | some x1 =>
      obtain ⟨b, m, c, hcn, rdn, hm⟩ := h'.nms.cell x0 rfl p xs hxs
      obtain ⟨b', m', c', hct, rdt, hm'⟩ := h'.to.cell x1 rfl p ks hks
      have RN : Hid (RdS W b m xs) := rdn
      have RT : Hid (RdI W b' m' ks) := rdt
      have hlx := rdn.len
      have hlk := rdt.len
      have HS : Hid (T.lnk.length = n2) := h'.lnk.len
      have HS3 : Hid (T.is.length = n3) := h'.is.len
      have z0 := h.s0
      have z1 := h.s1
      have z2 := h.s2
      have z3 := h.s3
      have i0 : (p : Int) < (n0 : Int) := by omega
      have i1 : (p : Int) < (n1 : Int) := by omega
      have j0 : decide ((n0 : Int) ≤ (p : Int)) = false := decide_eq_false (by omega)
      have j1 : decide ((n1 : Int) ≤ (p : Int)) = false := decide_eq_false (by omega)
      have HX : Hid (xs.length = m) := hlx
      have HK : Hid (ks.length = m') := hlk
      have HR : Hid (scanF xs ks name = R) := hR
      clear h h' hb0 hv rdn rdt hlx hlk hxs hks hR
      go_enter Tryd.func15, Tryd.ntmps15
      go_wp2
      clear hW hG
      go_loopw [10] (fun i wr => ∃ k : Nat, k ≤ m ∧ i = .int .i64 k ∧ wr = W ∧ scanF (xs.drop k) (ks.drop k) name = R) (fun i _ => m - (intOf i).toNat)
      case atStart => exact ⟨0, Nat.zero_le _, rfl, rfl, HR.out⟩
      case round =>
        obtain ⟨k, hk, rfl, rfl, hall⟩ := hrel
        have HC : Hid (scanF (xs.drop k) (ks.drop k) name = R) := hall
        clear hall HR
        by_cases hlt : k < m
        · have d1 : decide ((k : Int) < (m : Int)) = true := decide_eq_true (by omega)
          cases b with
          | none => have := RN.out.nil rfl; omega
          | some y0 =>
            have hc := RN.out.at hlt
            obtain ⟨y, hy⟩ : ∃ y, xs[k]'(by rw [HX.out]; exact hlt) = y := ⟨_, rfl⟩
            rw [hy] at hc
            have hyk : xs[k]? = some y := by rw [List.getElem?_eq_getElem (by rw [HX.out]; exact hlt), hy]
            have HY : Hid (xs[k]? = some y) := hyk
            clear hy hyk
            by_cases hyn : y = name
            · subst hyn
              by_cases hlt' : k < m'
              · have d2 : decide ((k : Int) < (m' : Int)) = true := decide_eq_true (by omega)
                cases b' with
                | none => have := RT.out.nil rfl; omega
                | some y1 =>
                  obtain ⟨q, hq⟩ : ∃ q, ks[k]? = some q := ⟨_, List.getElem?_eq_getElem (by rw [HK.out]; exact hlt')⟩
                  have hcq := RT.out.cell y1 rfl k q hq
                  have HO : Hid (R = some q) := by show R = some q; rw [← HC.out]; exact scan_hit HY.out hq
                  clear hq
                  by_cases q0 : 0 ≤ q
                  · obtain ⟨qn, rfl⟩ : ∃ qn : Nat, q = (qn : Int) := ⟨q.toNat, by omega⟩
                    have e0 : decide (0 ≤ (qn : Int)) = true := decide_eq_true q0
                    by_cases q2 : qn < n2
                    · have e2 : decide ((qn : Int) < (n2 : Int)) = true := decide_eq_true (by omega)
                      have e2' : (qn : Int) < (n2 : Int) := by omega
                      by_cases q3 : qn < n3
                      · have e3 : decide ((qn : Int) < (n3 : Int)) = true := decide_eq_true (by omega)
                        have e3' : (qn : Int) < (n3 : Int) := by omega
                        cases a3 with
                        | none => have := HT.out.is.nil rfl; omega
                        | some y3 =>
                          cases a2 with
                          | none => have := HT.out.lnk.nil rfl; omega
                          | some y2 =>
                            obtain ⟨bq, hbq⟩ : ∃ bq, T.is[qn]? = some bq := ⟨_, List.getElem?_eq_getElem (by rw [HS3.out]; exact q3)⟩
                            obtain ⟨lq, hlq⟩ : ∃ lq, T.lnk[qn]? = some lq := ⟨_, List.getElem?_eq_getElem (by rw [HS.out]; exact q2)⟩
                            have hcb := HT.out.is.cell y3 rfl qn bq hbq
                            have hcl := HT.out.lnk.cell y2 rfl qn lq hlq
                            cases bq with
                            | false =>
                              have HF : Hid (outF T (some (qn : Int)) = ⟨(qn : Int), ⟨#[]⟩, false, 0⟩) := by
                                show outF T (some (qn : Int)) = _
                                unfold outF
                                simp only
                                rw [if_neg (by intro h; have := h.2.2.2; simp [List.getD_eq_getElem?_getD, hbq] at this)]
                              clear hbq hlq
                              go_wp2
                              refine bodyPost_ret (results_tmp4 rfl _ _ _) rfl ?_
                              exact ⟨by rw [HO.out, HF.out]; rfl, HB.out⟩
                            | true =>
                              have HF : Hid (outF T (some (qn : Int)) = ⟨(qn : Int), lq, true, 0⟩) := by
                                show outF T (some (qn : Int)) = _
                                unfold outF
                                simp only
                                rw [if_pos (by
                                  rw [HS.out, HS3.out]
                                  exact ⟨q0, by omega, by omega, by simp [List.getD_eq_getElem?_getD, hbq]⟩)]
                                simp [List.getD_eq_getElem?_getD, hlq]
                              clear hbq hlq
                              go_wp2
                              go_quiet (fail)
                              go_wp2
                              refine bodyPost_ret (results_tmp4 rfl _ _ _) rfl ?_
                              exact ⟨by rw [HO.out, HF.out]; rfl, below_drewN HB.out nq⟩
                      · have e3 : decide ((qn : Int) < (n3 : Int)) = false := decide_eq_false (by omega)
                        have e3' : ¬ (qn : Int) < (n3 : Int) := by omega
                        have HF : Hid (outF T (some (qn : Int)) = ⟨(qn : Int), ⟨#[]⟩, false, 0⟩) := by
                          show outF T (some (qn : Int)) = _
                          unfold outF
                          simp only
                          rw [if_neg (by rw [HS3.out]; omega)]
                        go_wp2
                        refine bodyPost_ret (results_tmp4 rfl _ _ _) rfl ?_
                        exact ⟨by rw [HO.out, HF.out]; rfl, HB.out⟩
                    · have e2 : decide ((qn : Int) < (n2 : Int)) = false := decide_eq_false (by omega)
                      have e2' : ¬ (qn : Int) < (n2 : Int) := by omega
                      have HF : Hid (outF T (some (qn : Int)) = ⟨(qn : Int), ⟨#[]⟩, false, 0⟩) := by
                        show outF T (some (qn : Int)) = _
                        unfold outF
                        simp only
                        rw [if_neg (by rw [HS.out]; omega)]
                      go_wp2
                      refine bodyPost_ret (results_tmp4 rfl _ _ _) rfl ?_
                      exact ⟨by rw [HO.out, HF.out]; rfl, HB.out⟩
                  · have e0 : decide (0 ≤ q) = false := decide_eq_false q0
                    have HF : Hid (outF T (some q) = ⟨q, ⟨#[]⟩, false, 0⟩) := by
                      show outF T (some q) = _
                      unfold outF
                      simp only
                      rw [if_neg (by omega)]
                    go_wp2
                    refine bodyPost_ret (results_tmp4 rfl _ _ _) rfl ?_
                    exact ⟨by rw [HO.out, HF.out]; rfl, HB.out⟩
              · have d2 : decide ((k : Int) < (m' : Int)) = false := decide_eq_false (by omega)
                have d2' : ¬ (k : Int) < (m' : Int) := by omega
                go_wp2
                go_roundw
                case rel => exact ⟨k + 1, by omega, by go_num, by simp, by rw [← HC.out]; exact (scan_miss HY.out (Or.inr (by rw [HK.out]; omega))).symm⟩
                case measure => simp [intOf]; omega
            · have g0 : ¬ y.toList = name.toList := fun h => hyn (toList_inj h)
              have g1 : (y.toList == name.toList) = false := by simp [g0]
              have HN : Hid (y ≠ name) := hyn
              clear hyn
              go_wp2
              go_roundw
              case rel => exact ⟨k + 1, by omega, by go_num, by simp, by rw [← HC.out]; exact (scan_miss HY.out (Or.inl HN.out)).symm⟩
              case measure => simp [intOf]; omega
        · obtain rfl : k = m := by omega
          have HO : Hid (R = none) := by
            show R = none
            rw [← HC.out, List.drop_eq_nil_of_le (by rw [HX.out]; exact Nat.le_refl _)]
            exact scan_nil _ _
          go_wp2
          refine bodyPost_ret (results_tmp4 rfl _ _ _) rfl ?_
          exact ⟨by rw [HO.out]; rfl, HB.out⟩

theorem step_any (a0 a1 a2 a3 : Option Addr) (n0 n1 n2 n3 c0 c1 c2 c3 : Nat) (T : Tr) (at' : Int) (name : ByteArray) (w : World) (h : TrOn w a0 a1 a2 a3 n0 n1 n2 n3 T) :
    Calls Tryd.prog 15 #[.agg #[.slice a0 n0 c0, .slice a1 n1 c1, .slice a2 n2 c2, .slice a3 n3 c3], .int .i64 at', .string name] w fun e w' => e = .returned (stepF T at' name).val ∧ Below w.heap.size w w' := by
  by_cases hb : at' < 0 ∨ (n0 : Int) ≤ at' ∨ (n1 : Int) ≤ at'
  · exact step_bad a0 a1 a2 a3 n0 n1 n2 n3 c0 c1 c2 c3 T at' name w h hb
  · obtain ⟨p, rfl⟩ : ∃ p : Nat, at' = (p : Int) := ⟨at'.toNat, by omega⟩
    exact step_ok a0 a1 a2 a3 n0 n1 n2 n3 c0 c1 c2 c3 T p name w h (by omega) (by omega)
end Go.Proofs.YtmbdacdgbmpedaaDoor
