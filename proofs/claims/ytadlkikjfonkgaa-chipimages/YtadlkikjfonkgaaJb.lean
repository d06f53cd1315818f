/-
  SEAT Ytadlkikjfonkgaa: ChipImages: the walk.
-/
import Derived.Test.YtadlkikjfonkgaaJa
namespace Go.Proofs.Ytadlkikjfonkgaa
open Go.RowKit Go.Conc
set_option linter.unusedVariables false

set_option maxHeartbeats 8000000 in
set_option maxRecDepth 100000 in
theorem images_yes (w : World) (B P S : Nat) (hf : Fits B P S = true) (h128 : B * P ≤ 128) (a : Option Addr) (len cap : Nat) (b : List Int) (hR : Reads w a len b) (hl : len ≤ 9223372036854775807) (ma : Option Addr) (mn mc : Nat) (ms0 : List Bool) (hM : ReadsB w ma mn ms0) (hmn : mn ≤ 9223372036854775807) (av : Int) :
    Calls Try.prog 3 #[.agg #[.int .i64 (B : Int), .int .i64 (P : Int), .int .i64 (S : Int)], .slice a len cap, .slice ma mn mc, .int .i64 av] w fun e w' => e = .returned (.bool true) ∧ Below w.heap.size w w' := by
  have hFB := of_decide_eq_true hf
  obtain ⟨n, hn⟩ : ∃ n, n = B * P * pgB S := ⟨_, rfl⟩
  obtain ⟨zs, hzs⟩ : ∃ z, z = fitL b n := ⟨_, rfl⟩
  obtain ⟨ms, hms⟩ : ∃ m, m = marksL ms0 B := ⟨_, rfl⟩
  have hzl : zs.length = n := by rw [hzs]; simp [fitL]
  have hml : ms.length = B := by rw [hms]; simp [marksL]
  have hr255 : ∀ z ∈ zs, 0 ≤ z ∧ z ≤ 255 := by rw [hzs]; exact fitL_range hR.2.1 n
  obtain ⟨C, hC⟩ : ∃ C, C = loadC B P S zs ms [] := ⟨_, rfl⟩
  have hok : C.Ok := by rw [hC]; exact loadC_ok B P S zs ms [] hf
  have hCB : C.B = B := by rw [hC]; rfl
  have hCP : C.P = P := by rw [hC]; rfl
  have hCS : C.S = S := by rw [hC]; rfl
  have hdk : C.dark = false := by rw [hC]; rfl
  have hcn0 : C.cnt = 0 := by rw [hC]; rfl
  have htr0 : C.tr = [] := by rw [hC]; rfl
  have himg : imgL C = zs := by rw [hC]; exact load_img (by rw [hzl, hn])
  have himk : C.bl.map (fun b => b.m) = ms := by rw [hC]; exact load_marks' hml
  have hle : LoadE B P S n B [] = 0 := by
    unfold LoadE
    rw [if_neg (by rw [hf]; decide), if_neg (by simp only [Int.toNat_natCast]; exact fun h => h hn), if_neg (by simp), if_neg (by rw [faultsL_nil]; decide)]
  have hB8 : 1 ≤ (B : Int) ∧ (B : Int) ≤ 1000000 := by omega
  have hP8 : 1 ≤ (P : Int) ∧ (P : Int) ≤ 1000000 := by omega
  have HNE := hide hn
  have HZS := hide hzs
  have HMS := hide hms
  have HCC := hide hC
  have HR := hide hR
  have HM := hide hM
  have HW1 : Hid (IntKind.i64.wrap (256 * (S : Int)) = ((256 * S : Nat) : Int)) := by unfold Hid; simp only [IntKind.wrap_i64]; omega
  have HB0 := hide (below_alloc w (.cells #[.int .i64 (B : Int), .int .i64 (P : Int), .int .i64 (S : Int)] 23))
  have HG0 := hide (alloc_new w (.cells #[.int .i64 (B : Int), .int .i64 (P : Int), .int .i64 (S : Int)] 23))
  clear hFB hn hzs hms hC hR hM
  go_enter Try.func3, Try.ntmps3
  go_upto_region 2 with (first | (go_at_call 9; refine (full_yes _ B P S hf h128 a len cap b (HR.out.below HB0.out) hl ma mn mc ms0 (HM.out.below HB0.out) hmn).mono ?_; rintro e u1 ⟨gc, cc, vm, rfl, oc, om, b1⟩; rw [← HNE.out] at oc ⊢; rw [← HZS.out] at oc; rw [← HMS.out] at om; obtain ⟨gm, cm, hvm, _⟩ := om.form (by omega); subst hvm; have HB1 := hide b1; have HRC := hide (own_reads oc hr255); have HCP := hide (own_cap oc); have HRM := hide (readsB_own om); clear b1 oc om))
  have hb2 := below_alloc u1 (.cells #[.int .i64 (B : Int), .int .i64 (P : Int), .int .i64 (S : Int), .slice (some ⟨gc, 0, none⟩) n cc, .slice (some ⟨gm, 0, none⟩) B cm] 27)
  have HB2 := hide (below_trans (below_trans HB0.out HB1.out) hb2)
  have HG2 : Hid ((u1.alloc (.cells #[.int .i64 (B : Int), .int .i64 (P : Int), .int .i64 (S : Int), .slice (some ⟨gc, 0, none⟩) n cc, .slice (some ⟨gm, 0, none⟩) B cm] 27)).heap[w.heap.size]? = some (.cells #[.int .i64 (B : Int), .int .i64 (P : Int), .int .i64 (S : Int)] 23 (0, 0))) := (hb2.block _ (by have := HB1.out.size; simp at this; omega)).trans ((HB1.out.block _ (lt_of_block HG0.out)).trans HG0.out)
  have HM2 := hide (alloc_new u1 (.cells #[.int .i64 (B : Int), .int .i64 (P : Int), .int .i64 (S : Int), .slice (some ⟨gc, 0, none⟩) n cc, .slice (some ⟨gm, 0, none⟩) B cm] 27))
  have HRC := hide (HRC.out.below hb2)
  have HRM := hide (HRM.out.below hb2)
  generalize hU : u1.alloc (.cells #[.int .i64 (B : Int), .int .i64 (P : Int), .int .i64 (S : Int), .slice (some ⟨gc, 0, none⟩) n cc, .slice (some ⟨gm, 0, none⟩) B cm] 27) = U2 at HB2 HG2 HM2 HRC HRM ⊢
  generalize hq9 : u1.heap.size = q9 at HM2 ⊢
  clear hU hq9 hb2 HB1 HB0 HG0 HR HM
  obtain ⟨x0, x1, x2, x3, x4⟩ := cells5 HM2.out
  go_upto_region 5 with (first
    | (go_at_call 10; refine (Load_any _ B P S (some ⟨gc, 0, none⟩) n cc HCP.out zs HRC.out (some ⟨gm, 0, none⟩) B cm ms HRM.out none 0 0 [] (readsF_nil _) (by omega)).mono ?_; rintro e u3 hv; obtain ⟨p, hE, hch⟩ := hv.yes hle; subst hE; simp only [Int.toNat_natCast, List.map_nil] at hch; rw [← HCC.out] at hch; have H3 : Hid (JV w u3 p B P S C q9 gc n cc gm cm zs ms) := ⟨below_trans HB2.out hv.bel, ⟨_, hch⟩, (hv.bel.block _ (lt_of_block HG2.out)).trans HG2.out, (hv.bel.block _ (lt_of_block HM2.out)).trans HM2.out, HRC.out.below hv.bel, HRM.out.below hv.bel⟩; clear hv hch x0 x1 x2 x3 x4)
    | (go_at_call 11; refine (no_any' 0 _).mono ?_; rintro e v0 ⟨rfl, hv0⟩; subst hv0))
  go_cut [12, 13] from 43 to 57 (fun s12 s13 wx => ∃ (q12 : Nat) (a1 : Option Addr) (m1 c1 : Nat) (a2 : Option Addr) (m2 c2 : Nat), s12 = .pointer (some ⟨q12, 0, none⟩) ∧ s13 = .int .i64 0 ∧ Hid (m1 = 256 * S) ∧ Hid (JV w wx p B P S C q9 gc n cc gm cm zs ms) ∧ Hid (wx.heap[q12]? = some (.cells #[.slice a1 m1 c1, .slice a2 m2 c2] 36 (0, 0))))
  case first =>
    obtain ⟨W0, hW0⟩ : ∃ W, W = v0.drew := ⟨_, rfl⟩
    have H00 : Hid (JV w W0 p B P S C q9 gc n cc gm cm zs ms) := by rw [hW0]; exact H3.out.keep (drew_below _)
    have H0 := H00
    have HB := hide (Below.refl W0.heap.size W0)
    rw [hW0] at H0
    refine wp_region_held_drew (S := (fun u => u.cell? ⟨w.heap.size, 0, none⟩ = some (.int .i64 (B : Int)) ∧ u.cell? ⟨w.heap.size, 1, none⟩ = some (.int .i64 (P : Int)) ∧ u.cell? ⟨w.heap.size, 2, none⟩ = some (.int .i64 (S : Int)))) (by kernel_rfl) (cells3 H0.out.bg) (fun hHeld => ?_)
    refine wpAnyH_take (i := 0) (oi := { dst := some 44, op := Op.move (Operand.tmp 10), type := 29, pos := "law.go:293", after := #[], guard := none }) (v := ?v0) rfl (by kernel_rfl) (by kernel_rfl) (by kernel_rfl) (fun _ _ _ h => h) (Or.inl ⟨by rfl, ?y0⟩) (by assumption) ?r0
    case y0 => (intro x hx; (try dsimp only at hx); go_simp; try with_reducible rfl)
    try simp only [Act.put, List.setIfInBounds_toArray, List.set_cons_zero, List.set_cons_succ]
    refine wpAnyH_take (i := 1) (oi := { dst := some 45, op := Op.move (Operand.tmp 3), type := 3, pos := "law.go:293", after := #[], guard := none }) (v := ?v1) rfl (by kernel_rfl) (by kernel_rfl) (by kernel_rfl) (fun _ _ _ h => h) (Or.inl ⟨by rfl, ?y1⟩) (by assumption) ?r1
    case y1 => (intro x hx; (try dsimp only at hx); go_simp; try with_reducible rfl)
    try simp only [Act.put, List.setIfInBounds_toArray, List.set_cons_zero, List.set_cons_succ]
    refine wpAnyH_take (i := 2) (oi := { dst := some 46, op := Op.fieldAddr 23 (Operand.tmp 4) 0, type := 0, pos := "law.go:293", after := #[], guard := none }) (v := ?v2) rfl (by kernel_rfl) (by kernel_rfl) (by kernel_rfl) (fun _ _ _ h => h) (Or.inl ⟨by rfl, ?y2⟩) (by assumption) ?r2
    case y2 => (intro x hx; (try dsimp only at hx); go_simp; try with_reducible rfl)
    try simp only [Act.put, List.setIfInBounds_toArray, List.set_cons_zero, List.set_cons_succ]
    refine wpAnyH_take (i := 3) (oi := { dst := some 47, op := Op.load 3 (Operand.tmp 46), type := 3, pos := "law.go:293", after := #[{ on := 2, ground := Ground.data }], guard := none }) (v := ?v3) rfl (by kernel_rfl) (by kernel_rfl) (by kernel_rfl) (fun _ _ _ h => h) (Or.inl ⟨by rfl, ?y3⟩) (by assumption) ?r3
    case y3 => (intro x hx; (try dsimp only at hx); go_simp; try with_reducible rfl)
    try simp only [Act.put, List.setIfInBounds_toArray, List.set_cons_zero, List.set_cons_succ]
    refine wpAnyH_take (i := 5) (oi := { dst := some 49, op := Op.move (Operand.tmp 3), type := 3, pos := "law.go:293", after := #[], guard := none }) (v := ?v5) rfl (by kernel_rfl) (by kernel_rfl) (by kernel_rfl) (fun _ _ _ h => h) (Or.inl ⟨by rfl, ?y5⟩) (by assumption) ?r5
    case y5 => (intro x hx; (try dsimp only at hx); go_simp; try with_reducible rfl)
    try simp only [Act.put, List.setIfInBounds_toArray, List.set_cons_zero, List.set_cons_succ]
    refine wpAnyH_take (i := 6) (oi := { dst := some 50, op := Op.binOp BinOp.quo 3 (Operand.tmp 49) (Operand.const (Value.int IntKind.i64 8)) 3, type := 3, pos := "law.go:293", after := #[{ on := 5, ground := Ground.data }], guard := none }) (v := ?v6) rfl (by kernel_rfl) (by kernel_rfl) (by kernel_rfl) (fun _ _ _ h => h) (Or.inl ⟨by rfl, ?y6⟩) (by assumption) ?r6
    case y6 => (intro x hx; (try dsimp only at hx); go_simp; try with_reducible rfl)
    try simp only [Act.put, List.setIfInBounds_toArray, List.set_cons_zero, List.set_cons_succ]
    refine wpAnyH_take (i := 7) (oi := { dst := some 51, op := Op.fieldAddr 23 (Operand.tmp 4) 1, type := 0, pos := "law.go:293", after := #[], guard := none }) (v := ?v7) rfl (by kernel_rfl) (by kernel_rfl) (by kernel_rfl) (fun _ _ _ h => h) (Or.inl ⟨by rfl, ?y7⟩) (by assumption) ?r7
    case y7 => (intro x hx; (try dsimp only at hx); go_simp; try with_reducible rfl)
    try simp only [Act.put, List.setIfInBounds_toArray, List.set_cons_zero, List.set_cons_succ]
    refine wpAnyH_take (i := 8) (oi := { dst := some 52, op := Op.load 3 (Operand.tmp 51), type := 3, pos := "law.go:293", after := #[{ on := 7, ground := Ground.data }], guard := none }) (v := ?v8) rfl (by kernel_rfl) (by kernel_rfl) (by kernel_rfl) (fun _ _ _ h => h) (Or.inl ⟨by rfl, ?y8⟩) (by assumption) ?r8
    case y8 => (intro x hx; (try dsimp only at hx); go_simp; try with_reducible rfl)
    try simp only [Act.put, List.setIfInBounds_toArray, List.set_cons_zero, List.set_cons_succ]
    rw [← hW0] at hHeld H0 ⊢
    clear hW0
    refine wpAnyH_ready (rs := [4, 15]) (by kernel_rfl) (by simp) ?_
    refine AllReadyH.cons (o := { dst := some 48, op := Op.call { callee := Callee.value (Operand.func 14), args := #[Operand.tmp 45, Operand.tmp 47], argTypes := #[3, 3] }, type := 3, pos := "law.go:293", after := #[{ on := 1, ground := Ground.data }, { on := 3, ground := Ground.data }], guard := none }) rfl (fun K hK => ?_) (AllReadyH.cons (o := { dst := some 12, op := Op.alloc 36, type := 0, pos := "law.go:293", after := #[], guard := none }) rfl (fun K hK => ?_) AllReadyH.nil)
    · go_simp
      go_at_call 14
      refine (mod_any _ (B : Int) _ (by omega)).mono ?_
      rintro e U1 ⟨r1, rfl, r1a, r1b, hbk⟩
      go_wp2_with fail
      have H0k := hide (H0.out.keep hbk)
      have HBk := hide (below_trans HB.out hbk)
      have hSnew := cells3 H0k.out.bg
      clear hbk
      clear H0 HB
      refine hK.out _ _ hSnew (fun hHeld4 => ?_)
      clear hK K hSnew hHeld
      have hHeld := hHeld4
      clear hHeld4
      try simp only [Act.put, List.setIfInBounds_toArray, List.set_cons_zero, List.set_cons_succ]
      have H0 := H0k
      have HB := HBk
      clear H0k HBk
      refine wpAnyH_ready (rs := [9, 15]) (by kernel_rfl) (by simp) ?_
      refine AllReadyH.cons (o := { dst := some 53, op := Op.call { callee := Callee.value (Operand.func 14), args := #[Operand.tmp 50, Operand.tmp 52], argTypes := #[3, 3] }, type := 3, pos := "law.go:293", after := #[{ on := 6, ground := Ground.data }, { on := 8, ground := Ground.data }, { on := 4, ground := Ground.chain }], guard := none }) rfl (fun K hK => ?_) (AllReadyH.cons (o := { dst := some 12, op := Op.alloc 36, type := 0, pos := "law.go:293", after := #[], guard := none }) rfl (fun K hK => ?_) AllReadyH.nil)
      · go_simp
        go_at_call 14
        refine (mod_any _ (P : Int) _ (by omega)).mono ?_
        rintro e U2 ⟨r2, rfl, r2a, r2b, hbk⟩
        go_wp2_with fail
        have H0k := hide (H0.out.keep hbk)
        have HBk := hide (below_trans HB.out hbk)
        have hSnew := cells3 H0k.out.bg
        clear hbk
        clear H0 HB
        refine hK.out _ _ hSnew (fun hHeld9 => ?_)
        clear hK K hSnew hHeld
        have hHeld := hHeld9
        clear hHeld9
        try simp only [Act.put, List.setIfInBounds_toArray, List.set_cons_zero, List.set_cons_succ]
        have H0 := H0k
        have HB := HBk
        clear H0k HBk
        refine wpAnyH_take (i := 10) (oi := { dst := some 54, op := Op.build 41 #[(0, Operand.tmp 48), (1, Operand.tmp 53)], type := 41, pos := "law.go:293", after := #[{ on := 4, ground := Ground.data }, { on := 9, ground := Ground.data }], guard := none }) (v := ?v10p49) rfl (by kernel_rfl) (by kernel_rfl) (by kernel_rfl) (fun _ _ _ h => h) (Or.inl ⟨by rfl, ?y10p49⟩) (by assumption) ?r10p49
        case y10p49 => (intro x hx; (try dsimp only at hx); go_simp; try with_reducible rfl)
        try simp only [Act.put, List.setIfInBounds_toArray, List.set_cons_zero, List.set_cons_succ]
        refine wpAnyH_ready (rs := [11, 15]) (by kernel_rfl) (by simp) ?_
        refine AllReadyH.cons (o := { dst := some 55, op := Op.call { callee := Callee.value (Operand.func 13), args := #[Operand.tmp 44, Operand.tmp 54], argTypes := #[29, 41] }, type := 37, pos := "law.go:293", after := #[{ on := 0, ground := Ground.data }, { on := 10, ground := Ground.data }, { on := 9, ground := Ground.chain }], guard := none }) rfl (fun K hK => ?_) (AllReadyH.cons (o := { dst := some 12, op := Op.alloc 36, type := 0, pos := "law.go:293", after := #[], guard := none }) rfl (fun K hK => ?_) AllReadyH.nil)
        · go_simp
          go_at_call 13
          obtain ⟨FF, hch⟩ := H0.out.ch
          refine (Read_any _ p FF C hch hok r1 r2).mono ?_
          rintro e U3 ⟨⟨a1, m1, c1, a2, m2, c2, D, Z, rfl, _, _, _, hif⟩, hbk⟩
          have hre : ReadE C r1 r2 = 0 := read_in hdk hCB hCP r1a r1b r2a r2b
          rw [hre] at hif ⊢
          rw [if_pos rfl] at hif
          rw [hCS] at hif
          have em1 := hide hif.1
          clear hre hch hif
          go_wp2_with fail
          have H0k := hide (H0.out.keep hbk)
          have HBk := hide (below_trans HB.out hbk)
          have hSnew := cells3 H0k.out.bg
          clear hbk
          clear H0 HB
          refine hK.out _ _ hSnew (fun hHeld11 => ?_)
          clear hK K hSnew hHeld
          have hHeld := hHeld11
          clear hHeld11
          try simp only [Act.put, List.setIfInBounds_toArray, List.set_cons_zero, List.set_cons_succ]
          have H0 := H0k
          have HB := HBk
          clear H0k HBk
          refine wpAnyH_take (i := 12) (oi := { dst := some 43, op := Op.move (Operand.tmp 55), type := 37, pos := "law.go:293", after := #[{ on := 11, ground := Ground.data }], guard := none }) (v := ?v12p4911) rfl (by kernel_rfl) (by kernel_rfl) (by kernel_rfl) (fun _ _ _ h => h) (Or.inl ⟨by rfl, ?y12p4911⟩) (by assumption) ?r12p4911
          case y12p4911 => (intro x hx; (try dsimp only at hx); go_simp; try with_reducible rfl)
          try simp only [Act.put, List.setIfInBounds_toArray, List.set_cons_zero, List.set_cons_succ]
          refine wpAnyH_take (i := 13) (oi := { dst := some 56, op := Op.extract (Operand.tmp 43) 0, type := 36, pos := "law.go:293", after := #[{ on := 12, ground := Ground.data }], guard := none }) (v := ?v13p4911) rfl (by kernel_rfl) (by kernel_rfl) (by kernel_rfl) (fun _ _ _ h => h) (Or.inl ⟨by rfl, ?y13p4911⟩) (by assumption) ?r13p4911
          case y13p4911 => (intro x hx; (try dsimp only at hx); go_simp; try with_reducible rfl)
          try simp only [Act.put, List.setIfInBounds_toArray, List.set_cons_zero, List.set_cons_succ]
          refine wpAnyH_take (i := 14) (oi := { dst := some 57, op := Op.extract (Operand.tmp 43) 1, type := 30, pos := "law.go:293", after := #[{ on := 12, ground := Ground.data }, { on := 16, ground := Ground.gcOnly Departure.lateStores }], guard := none }) (v := ?v14p4911) rfl (by kernel_rfl) (by kernel_rfl) (by kernel_rfl) (fun _ _ _ h => h) (Or.inl ⟨by rfl, ?y14p4911⟩) (by assumption) ?r14p4911
          case y14p4911 => (intro x hx; (try dsimp only at hx); go_simp; try with_reducible rfl)
          try simp only [Act.put, List.setIfInBounds_toArray, List.set_cons_zero, List.set_cons_succ]
          refine wpAnyH_ready (rs := [15]) (by kernel_rfl) (by simp) ?_
          refine AllReadyH.cons (o := { dst := some 12, op := Op.alloc 36, type := 0, pos := "law.go:293", after := #[], guard := none }) rfl (fun K hK => ?_) AllReadyH.nil
          go_simp
          go_wp2_with fail
          change K _ ((U3).alloc (.cells #[.slice none 0 0, .slice none 0 0] 36))
          have hbk : Below (U3).heap.size (U3) ((U3).alloc (.cells #[.slice none 0 0, .slice none 0 0] 36)) := below_alloc _ _
          have HXk : Hid (IP W0 ((U3).alloc (.cells #[.slice none 0 0, .slice none 0 0] 36)) (U3).heap.size) := ⟨alloc_new _ _, HB.out.size⟩
          have H0k := hide (H0.out.keep hbk)
          have HBk := hide (below_trans HB.out hbk)
          have hSnew := cells3 H0k.out.bg
          clear hbk
          clear H0 HB
          refine hK.out _ _ hSnew (fun hHeld15 => ?_)
          clear hK K hSnew hHeld
          have hHeld := hHeld15
          clear hHeld15
          try simp only [Act.put, List.setIfInBounds_toArray, List.set_cons_zero, List.set_cons_succ]
          obtain ⟨gU4, hgU4⟩ : ∃ g, g = (U3).heap.size := ⟨_, rfl⟩
          obtain ⟨U4, hU4⟩ : ∃ u, u = ((U3).alloc (.cells #[.slice none 0 0, .slice none 0 0] 36)) := ⟨_, rfl⟩
          rw [← hgU4] at HXk ⊢
          rw [← hU4] at hHeld H0k HBk HXk ⊢
          clear hU4 hgU4
          have H0 := H0k
          have HB := HBk
          have HX := HXk
          clear H0k HBk HXk
          refine wpAnyH_ready (rs := [16]) (by kernel_rfl) (by simp) ?_
          refine AllReadyH.cons (o := { dst := none, op := Op.store 36 (Operand.tmp 12) (Operand.tmp 56), type := 0, pos := "law.go:293", after := #[{ on := 15, ground := Ground.data }, { on := 13, ground := Ground.data }, { on := 11, ground := Ground.chain }, { on := 0, ground := Ground.phase }, { on := 1, ground := Ground.phase }, { on := 2, ground := Ground.phase }, { on := 3, ground := Ground.phase }, { on := 4, ground := Ground.phase }, { on := 5, ground := Ground.phase }, { on := 6, ground := Ground.phase }, { on := 7, ground := Ground.phase }, { on := 8, ground := Ground.phase }, { on := 9, ground := Ground.phase }, { on := 10, ground := Ground.phase }, { on := 11, ground := Ground.phase }, { on := 12, ground := Ground.phase }, { on := 13, ground := Ground.phase }, { on := 14, ground := Ground.textOnly Departure.lateStores }, { on := 15, ground := Ground.phase }], guard := none }) rfl (fun K hK => ?_) AllReadyH.nil
          obtain ⟨x0, x1⟩ := cells2 HX.out.1
          have fx := fun j => frozen_of_row U4 gU4 j _ 36 HX.out.1
          go_simp
          go_wp2_with fail
          have HST := JV.store (u0 := W0) H00.out HB.out HX.out (.slice a1 m1 c1) (.slice a2 m2 c2)
          have HJ := hide HST.1
          have HX2 := hide HST.2
          have hSnew := cells3 HJ.out.bg
          clear HST
          refine hK.out _ _ hSnew (fun hHeld16 => ?_)
          clear hK K hSnew hHeld
          have hHeld := hHeld16
          clear hHeld16
          try simp only [Act.put, List.setIfInBounds_toArray, List.set_cons_zero, List.set_cons_succ]
          refine wpAnyH_take (i := 17) (oi := { dst := some 13, op := Op.assign (Operand.tmp 57), type := 30, pos := "law.go:293", after := #[{ on := 14, ground := Ground.data }, { on := 16, ground := Ground.chain }, { on := 0, ground := Ground.phase }, { on := 1, ground := Ground.phase }, { on := 2, ground := Ground.phase }, { on := 3, ground := Ground.phase }, { on := 4, ground := Ground.phase }, { on := 5, ground := Ground.phase }, { on := 6, ground := Ground.phase }, { on := 7, ground := Ground.phase }, { on := 8, ground := Ground.phase }, { on := 9, ground := Ground.phase }, { on := 10, ground := Ground.phase }, { on := 11, ground := Ground.phase }, { on := 12, ground := Ground.phase }, { on := 13, ground := Ground.phase }, { on := 14, ground := Ground.phase }, { on := 15, ground := Ground.phase }, { on := 16, ground := Ground.phase }], guard := none }) (v := ?v17e491115) rfl (by kernel_rfl) (by kernel_rfl) (by kernel_rfl) (fun _ _ _ h => h) (Or.inl ⟨by rfl, ?y17e491115⟩) (by assumption) ?r17e491115
          case y17e491115 => (intro x hx; (try dsimp only at hx); go_simp; try with_reducible rfl)
          try simp only [Act.put, List.setIfInBounds_toArray, List.set_cons_zero, List.set_cons_succ]
          refine wpAnyH_done (by kernel_rfl) ?_ _
          clear hHeld x0 x1 fx
          go_wp2
          go_meet
          exact ⟨gU4, a1, m1, c1, a2, m2, c2, rfl, rfl, em1, HJ, HX2⟩
        · go_simp
          go_wp2_with fail
          change K _ ((U2).alloc (.cells #[.slice none 0 0, .slice none 0 0] 36))
          have hbk : Below (U2).heap.size (U2) ((U2).alloc (.cells #[.slice none 0 0, .slice none 0 0] 36)) := below_alloc _ _
          have HXk : Hid (IP W0 ((U2).alloc (.cells #[.slice none 0 0, .slice none 0 0] 36)) (U2).heap.size) := ⟨alloc_new _ _, HB.out.size⟩
          have H0k := hide (H0.out.keep hbk)
          have HBk := hide (below_trans HB.out hbk)
          have hSnew := cells3 H0k.out.bg
          clear hbk
          clear H0 HB
          refine hK.out _ _ hSnew (fun hHeld15 => ?_)
          clear hK K hSnew hHeld
          have hHeld := hHeld15
          clear hHeld15
          try simp only [Act.put, List.setIfInBounds_toArray, List.set_cons_zero, List.set_cons_succ]
          obtain ⟨gU3, hgU3⟩ : ∃ g, g = (U2).heap.size := ⟨_, rfl⟩
          obtain ⟨U3, hU3⟩ : ∃ u, u = ((U2).alloc (.cells #[.slice none 0 0, .slice none 0 0] 36)) := ⟨_, rfl⟩
          rw [← hgU3] at HXk ⊢
          rw [← hU3] at hHeld H0k HBk HXk ⊢
          clear hU3 hgU3
          have H0 := H0k
          have HB := HBk
          have HX := HXk
          clear H0k HBk HXk
          refine wpAnyH_ready (rs := [11]) (by kernel_rfl) (by simp) ?_
          refine AllReadyH.cons (o := { dst := some 55, op := Op.call { callee := Callee.value (Operand.func 13), args := #[Operand.tmp 44, Operand.tmp 54], argTypes := #[29, 41] }, type := 37, pos := "law.go:293", after := #[{ on := 0, ground := Ground.data }, { on := 10, ground := Ground.data }, { on := 9, ground := Ground.chain }], guard := none }) rfl (fun K hK => ?_) AllReadyH.nil
          go_simp
          go_at_call 13
          obtain ⟨FF, hch⟩ := H0.out.ch
          refine (Read_any _ p FF C hch hok r1 r2).mono ?_
          rintro e U4 ⟨⟨a1, m1, c1, a2, m2, c2, D, Z, rfl, _, _, _, hif⟩, hbk⟩
          have hre : ReadE C r1 r2 = 0 := read_in hdk hCB hCP r1a r1b r2a r2b
          rw [hre] at hif ⊢
          rw [if_pos rfl] at hif
          rw [hCS] at hif
          have em1 := hide hif.1
          clear hre hch hif
          go_wp2_with fail
          have H0k := hide (H0.out.keep hbk)
          have HXk := hide (HX.out.keep hbk)
          have HBk := hide (below_trans HB.out hbk)
          have hSnew := cells3 H0k.out.bg
          clear hbk
          clear H0 HB HX
          refine hK.out _ _ hSnew (fun hHeld11 => ?_)
          clear hK K hSnew hHeld
          have hHeld := hHeld11
          clear hHeld11
          try simp only [Act.put, List.setIfInBounds_toArray, List.set_cons_zero, List.set_cons_succ]
          have H0 := H0k
          have HB := HBk
          have HX := HXk
          clear H0k HBk HXk
          refine wpAnyH_take (i := 12) (oi := { dst := some 43, op := Op.move (Operand.tmp 55), type := 37, pos := "law.go:293", after := #[{ on := 11, ground := Ground.data }], guard := none }) (v := ?v12p491511) rfl (by kernel_rfl) (by kernel_rfl) (by kernel_rfl) (fun _ _ _ h => h) (Or.inl ⟨by rfl, ?y12p491511⟩) (by assumption) ?r12p491511
          case y12p491511 => (intro x hx; (try dsimp only at hx); go_simp; try with_reducible rfl)
          try simp only [Act.put, List.setIfInBounds_toArray, List.set_cons_zero, List.set_cons_succ]
          refine wpAnyH_take (i := 13) (oi := { dst := some 56, op := Op.extract (Operand.tmp 43) 0, type := 36, pos := "law.go:293", after := #[{ on := 12, ground := Ground.data }], guard := none }) (v := ?v13p491511) rfl (by kernel_rfl) (by kernel_rfl) (by kernel_rfl) (fun _ _ _ h => h) (Or.inl ⟨by rfl, ?y13p491511⟩) (by assumption) ?r13p491511
          case y13p491511 => (intro x hx; (try dsimp only at hx); go_simp; try with_reducible rfl)
          try simp only [Act.put, List.setIfInBounds_toArray, List.set_cons_zero, List.set_cons_succ]
          refine wpAnyH_take (i := 14) (oi := { dst := some 57, op := Op.extract (Operand.tmp 43) 1, type := 30, pos := "law.go:293", after := #[{ on := 12, ground := Ground.data }, { on := 16, ground := Ground.gcOnly Departure.lateStores }], guard := none }) (v := ?v14p491511) rfl (by kernel_rfl) (by kernel_rfl) (by kernel_rfl) (fun _ _ _ h => h) (Or.inl ⟨by rfl, ?y14p491511⟩) (by assumption) ?r14p491511
          case y14p491511 => (intro x hx; (try dsimp only at hx); go_simp; try with_reducible rfl)
          try simp only [Act.put, List.setIfInBounds_toArray, List.set_cons_zero, List.set_cons_succ]
          refine wpAnyH_ready (rs := [16]) (by kernel_rfl) (by simp) ?_
          refine AllReadyH.cons (o := { dst := none, op := Op.store 36 (Operand.tmp 12) (Operand.tmp 56), type := 0, pos := "law.go:293", after := #[{ on := 15, ground := Ground.data }, { on := 13, ground := Ground.data }, { on := 11, ground := Ground.chain }, { on := 0, ground := Ground.phase }, { on := 1, ground := Ground.phase }, { on := 2, ground := Ground.phase }, { on := 3, ground := Ground.phase }, { on := 4, ground := Ground.phase }, { on := 5, ground := Ground.phase }, { on := 6, ground := Ground.phase }, { on := 7, ground := Ground.phase }, { on := 8, ground := Ground.phase }, { on := 9, ground := Ground.phase }, { on := 10, ground := Ground.phase }, { on := 11, ground := Ground.phase }, { on := 12, ground := Ground.phase }, { on := 13, ground := Ground.phase }, { on := 14, ground := Ground.textOnly Departure.lateStores }, { on := 15, ground := Ground.phase }], guard := none }) rfl (fun K hK => ?_) AllReadyH.nil
          obtain ⟨x0, x1⟩ := cells2 HX.out.1
          have fx := fun j => frozen_of_row U4 gU3 j _ 36 HX.out.1
          go_simp
          go_wp2_with fail
          have HST := JV.store (u0 := W0) H00.out HB.out HX.out (.slice a1 m1 c1) (.slice a2 m2 c2)
          have HJ := hide HST.1
          have HX2 := hide HST.2
          have hSnew := cells3 HJ.out.bg
          clear HST
          refine hK.out _ _ hSnew (fun hHeld16 => ?_)
          clear hK K hSnew hHeld
          have hHeld := hHeld16
          clear hHeld16
          try simp only [Act.put, List.setIfInBounds_toArray, List.set_cons_zero, List.set_cons_succ]
          refine wpAnyH_take (i := 17) (oi := { dst := some 13, op := Op.assign (Operand.tmp 57), type := 30, pos := "law.go:293", after := #[{ on := 14, ground := Ground.data }, { on := 16, ground := Ground.chain }, { on := 0, ground := Ground.phase }, { on := 1, ground := Ground.phase }, { on := 2, ground := Ground.phase }, { on := 3, ground := Ground.phase }, { on := 4, ground := Ground.phase }, { on := 5, ground := Ground.phase }, { on := 6, ground := Ground.phase }, { on := 7, ground := Ground.phase }, { on := 8, ground := Ground.phase }, { on := 9, ground := Ground.phase }, { on := 10, ground := Ground.phase }, { on := 11, ground := Ground.phase }, { on := 12, ground := Ground.phase }, { on := 13, ground := Ground.phase }, { on := 14, ground := Ground.phase }, { on := 15, ground := Ground.phase }, { on := 16, ground := Ground.phase }], guard := none }) (v := ?v17e491511) rfl (by kernel_rfl) (by kernel_rfl) (by kernel_rfl) (fun _ _ _ h => h) (Or.inl ⟨by rfl, ?y17e491511⟩) (by assumption) ?r17e491511
          case y17e491511 => (intro x hx; (try dsimp only at hx); go_simp; try with_reducible rfl)
          try simp only [Act.put, List.setIfInBounds_toArray, List.set_cons_zero, List.set_cons_succ]
          refine wpAnyH_done (by kernel_rfl) ?_ _
          clear hHeld x0 x1 fx
          go_wp2
          go_meet
          exact ⟨gU3, a1, m1, c1, a2, m2, c2, rfl, rfl, em1, HJ, HX2⟩
      · go_simp
        go_wp2_with fail
        change K _ ((U1).alloc (.cells #[.slice none 0 0, .slice none 0 0] 36))
        have hbk : Below (U1).heap.size (U1) ((U1).alloc (.cells #[.slice none 0 0, .slice none 0 0] 36)) := below_alloc _ _
        have HXk : Hid (IP W0 ((U1).alloc (.cells #[.slice none 0 0, .slice none 0 0] 36)) (U1).heap.size) := ⟨alloc_new _ _, HB.out.size⟩
        have H0k := hide (H0.out.keep hbk)
        have HBk := hide (below_trans HB.out hbk)
        have hSnew := cells3 H0k.out.bg
        clear hbk
        clear H0 HB
        refine hK.out _ _ hSnew (fun hHeld15 => ?_)
        clear hK K hSnew hHeld
        have hHeld := hHeld15
        clear hHeld15
        try simp only [Act.put, List.setIfInBounds_toArray, List.set_cons_zero, List.set_cons_succ]
        obtain ⟨gU2, hgU2⟩ : ∃ g, g = (U1).heap.size := ⟨_, rfl⟩
        obtain ⟨U2, hU2⟩ : ∃ u, u = ((U1).alloc (.cells #[.slice none 0 0, .slice none 0 0] 36)) := ⟨_, rfl⟩
        rw [← hgU2] at HXk ⊢
        rw [← hU2] at hHeld H0k HBk HXk ⊢
        clear hU2 hgU2
        have H0 := H0k
        have HB := HBk
        have HX := HXk
        clear H0k HBk HXk
        refine wpAnyH_ready (rs := [9]) (by kernel_rfl) (by simp) ?_
        refine AllReadyH.cons (o := { dst := some 53, op := Op.call { callee := Callee.value (Operand.func 14), args := #[Operand.tmp 50, Operand.tmp 52], argTypes := #[3, 3] }, type := 3, pos := "law.go:293", after := #[{ on := 6, ground := Ground.data }, { on := 8, ground := Ground.data }, { on := 4, ground := Ground.chain }], guard := none }) rfl (fun K hK => ?_) AllReadyH.nil
        go_simp
        go_at_call 14
        refine (mod_any _ (P : Int) _ (by omega)).mono ?_
        rintro e U3 ⟨r2, rfl, r2a, r2b, hbk⟩
        go_wp2_with fail
        have H0k := hide (H0.out.keep hbk)
        have HXk := hide (HX.out.keep hbk)
        have HBk := hide (below_trans HB.out hbk)
        have hSnew := cells3 H0k.out.bg
        clear hbk
        clear H0 HB HX
        refine hK.out _ _ hSnew (fun hHeld9 => ?_)
        clear hK K hSnew hHeld
        have hHeld := hHeld9
        clear hHeld9
        try simp only [Act.put, List.setIfInBounds_toArray, List.set_cons_zero, List.set_cons_succ]
        have H0 := H0k
        have HB := HBk
        have HX := HXk
        clear H0k HBk HXk
        refine wpAnyH_take (i := 10) (oi := { dst := some 54, op := Op.build 41 #[(0, Operand.tmp 48), (1, Operand.tmp 53)], type := 41, pos := "law.go:293", after := #[{ on := 4, ground := Ground.data }, { on := 9, ground := Ground.data }], guard := none }) (v := ?v10p4159) rfl (by kernel_rfl) (by kernel_rfl) (by kernel_rfl) (fun _ _ _ h => h) (Or.inl ⟨by rfl, ?y10p4159⟩) (by assumption) ?r10p4159
        case y10p4159 => (intro x hx; (try dsimp only at hx); go_simp; try with_reducible rfl)
        try simp only [Act.put, List.setIfInBounds_toArray, List.set_cons_zero, List.set_cons_succ]
        refine wpAnyH_ready (rs := [11]) (by kernel_rfl) (by simp) ?_
        refine AllReadyH.cons (o := { dst := some 55, op := Op.call { callee := Callee.value (Operand.func 13), args := #[Operand.tmp 44, Operand.tmp 54], argTypes := #[29, 41] }, type := 37, pos := "law.go:293", after := #[{ on := 0, ground := Ground.data }, { on := 10, ground := Ground.data }, { on := 9, ground := Ground.chain }], guard := none }) rfl (fun K hK => ?_) AllReadyH.nil
        go_simp
        go_at_call 13
        obtain ⟨FF, hch⟩ := H0.out.ch
        refine (Read_any _ p FF C hch hok r1 r2).mono ?_
        rintro e U4 ⟨⟨a1, m1, c1, a2, m2, c2, D, Z, rfl, _, _, _, hif⟩, hbk⟩
        have hre : ReadE C r1 r2 = 0 := read_in hdk hCB hCP r1a r1b r2a r2b
        rw [hre] at hif ⊢
        rw [if_pos rfl] at hif
        rw [hCS] at hif
        have em1 := hide hif.1
        clear hre hch hif
        go_wp2_with fail
        have H0k := hide (H0.out.keep hbk)
        have HXk := hide (HX.out.keep hbk)
        have HBk := hide (below_trans HB.out hbk)
        have hSnew := cells3 H0k.out.bg
        clear hbk
        clear H0 HB HX
        refine hK.out _ _ hSnew (fun hHeld11 => ?_)
        clear hK K hSnew hHeld
        have hHeld := hHeld11
        clear hHeld11
        try simp only [Act.put, List.setIfInBounds_toArray, List.set_cons_zero, List.set_cons_succ]
        have H0 := H0k
        have HB := HBk
        have HX := HXk
        clear H0k HBk HXk
        refine wpAnyH_take (i := 12) (oi := { dst := some 43, op := Op.move (Operand.tmp 55), type := 37, pos := "law.go:293", after := #[{ on := 11, ground := Ground.data }], guard := none }) (v := ?v12p415911) rfl (by kernel_rfl) (by kernel_rfl) (by kernel_rfl) (fun _ _ _ h => h) (Or.inl ⟨by rfl, ?y12p415911⟩) (by assumption) ?r12p415911
        case y12p415911 => (intro x hx; (try dsimp only at hx); go_simp; try with_reducible rfl)
        try simp only [Act.put, List.setIfInBounds_toArray, List.set_cons_zero, List.set_cons_succ]
        refine wpAnyH_take (i := 13) (oi := { dst := some 56, op := Op.extract (Operand.tmp 43) 0, type := 36, pos := "law.go:293", after := #[{ on := 12, ground := Ground.data }], guard := none }) (v := ?v13p415911) rfl (by kernel_rfl) (by kernel_rfl) (by kernel_rfl) (fun _ _ _ h => h) (Or.inl ⟨by rfl, ?y13p415911⟩) (by assumption) ?r13p415911
        case y13p415911 => (intro x hx; (try dsimp only at hx); go_simp; try with_reducible rfl)
        try simp only [Act.put, List.setIfInBounds_toArray, List.set_cons_zero, List.set_cons_succ]
        refine wpAnyH_take (i := 14) (oi := { dst := some 57, op := Op.extract (Operand.tmp 43) 1, type := 30, pos := "law.go:293", after := #[{ on := 12, ground := Ground.data }, { on := 16, ground := Ground.gcOnly Departure.lateStores }], guard := none }) (v := ?v14p415911) rfl (by kernel_rfl) (by kernel_rfl) (by kernel_rfl) (fun _ _ _ h => h) (Or.inl ⟨by rfl, ?y14p415911⟩) (by assumption) ?r14p415911
        case y14p415911 => (intro x hx; (try dsimp only at hx); go_simp; try with_reducible rfl)
        try simp only [Act.put, List.setIfInBounds_toArray, List.set_cons_zero, List.set_cons_succ]
        refine wpAnyH_ready (rs := [16]) (by kernel_rfl) (by simp) ?_
        refine AllReadyH.cons (o := { dst := none, op := Op.store 36 (Operand.tmp 12) (Operand.tmp 56), type := 0, pos := "law.go:293", after := #[{ on := 15, ground := Ground.data }, { on := 13, ground := Ground.data }, { on := 11, ground := Ground.chain }, { on := 0, ground := Ground.phase }, { on := 1, ground := Ground.phase }, { on := 2, ground := Ground.phase }, { on := 3, ground := Ground.phase }, { on := 4, ground := Ground.phase }, { on := 5, ground := Ground.phase }, { on := 6, ground := Ground.phase }, { on := 7, ground := Ground.phase }, { on := 8, ground := Ground.phase }, { on := 9, ground := Ground.phase }, { on := 10, ground := Ground.phase }, { on := 11, ground := Ground.phase }, { on := 12, ground := Ground.phase }, { on := 13, ground := Ground.phase }, { on := 14, ground := Ground.textOnly Departure.lateStores }, { on := 15, ground := Ground.phase }], guard := none }) rfl (fun K hK => ?_) AllReadyH.nil
        obtain ⟨x0, x1⟩ := cells2 HX.out.1
        have fx := fun j => frozen_of_row U4 gU2 j _ 36 HX.out.1
        go_simp
        go_wp2_with fail
        have HST := JV.store (u0 := W0) H00.out HB.out HX.out (.slice a1 m1 c1) (.slice a2 m2 c2)
        have HJ := hide HST.1
        have HX2 := hide HST.2
        have hSnew := cells3 HJ.out.bg
        clear HST
        refine hK.out _ _ hSnew (fun hHeld16 => ?_)
        clear hK K hSnew hHeld
        have hHeld := hHeld16
        clear hHeld16
        try simp only [Act.put, List.setIfInBounds_toArray, List.set_cons_zero, List.set_cons_succ]
        refine wpAnyH_take (i := 17) (oi := { dst := some 13, op := Op.assign (Operand.tmp 57), type := 30, pos := "law.go:293", after := #[{ on := 14, ground := Ground.data }, { on := 16, ground := Ground.chain }, { on := 0, ground := Ground.phase }, { on := 1, ground := Ground.phase }, { on := 2, ground := Ground.phase }, { on := 3, ground := Ground.phase }, { on := 4, ground := Ground.phase }, { on := 5, ground := Ground.phase }, { on := 6, ground := Ground.phase }, { on := 7, ground := Ground.phase }, { on := 8, ground := Ground.phase }, { on := 9, ground := Ground.phase }, { on := 10, ground := Ground.phase }, { on := 11, ground := Ground.phase }, { on := 12, ground := Ground.phase }, { on := 13, ground := Ground.phase }, { on := 14, ground := Ground.phase }, { on := 15, ground := Ground.phase }, { on := 16, ground := Ground.phase }], guard := none }) (v := ?v17e415911) rfl (by kernel_rfl) (by kernel_rfl) (by kernel_rfl) (fun _ _ _ h => h) (Or.inl ⟨by rfl, ?y17e415911⟩) (by assumption) ?r17e415911
        case y17e415911 => (intro x hx; (try dsimp only at hx); go_simp; try with_reducible rfl)
        try simp only [Act.put, List.setIfInBounds_toArray, List.set_cons_zero, List.set_cons_succ]
        refine wpAnyH_done (by kernel_rfl) ?_ _
        clear hHeld x0 x1 fx
        go_wp2
        go_meet
        exact ⟨gU2, a1, m1, c1, a2, m2, c2, rfl, rfl, em1, HJ, HX2⟩
    · go_simp
      go_wp2_with fail
      change K _ ((W0).alloc (.cells #[.slice none 0 0, .slice none 0 0] 36))
      have hbk : Below (W0).heap.size (W0) ((W0).alloc (.cells #[.slice none 0 0, .slice none 0 0] 36)) := below_alloc _ _
      have HXk : Hid (IP W0 ((W0).alloc (.cells #[.slice none 0 0, .slice none 0 0] 36)) (W0).heap.size) := ⟨alloc_new _ _, HB.out.size⟩
      have H0k := hide (H0.out.keep hbk)
      have HBk := hide (below_trans HB.out hbk)
      have hSnew := cells3 H0k.out.bg
      clear hbk
      clear H0 HB
      refine hK.out _ _ hSnew (fun hHeld15 => ?_)
      clear hK K hSnew hHeld
      have hHeld := hHeld15
      clear hHeld15
      try simp only [Act.put, List.setIfInBounds_toArray, List.set_cons_zero, List.set_cons_succ]
      obtain ⟨gU1, hgU1⟩ : ∃ g, g = (W0).heap.size := ⟨_, rfl⟩
      obtain ⟨U1, hU1⟩ : ∃ u, u = ((W0).alloc (.cells #[.slice none 0 0, .slice none 0 0] 36)) := ⟨_, rfl⟩
      rw [← hgU1] at HXk ⊢
      rw [← hU1] at hHeld H0k HBk HXk ⊢
      clear hU1 hgU1
      have H0 := H0k
      have HB := HBk
      have HX := HXk
      clear H0k HBk HXk
      refine wpAnyH_ready (rs := [4]) (by kernel_rfl) (by simp) ?_
      refine AllReadyH.cons (o := { dst := some 48, op := Op.call { callee := Callee.value (Operand.func 14), args := #[Operand.tmp 45, Operand.tmp 47], argTypes := #[3, 3] }, type := 3, pos := "law.go:293", after := #[{ on := 1, ground := Ground.data }, { on := 3, ground := Ground.data }], guard := none }) rfl (fun K hK => ?_) AllReadyH.nil
      go_simp
      go_at_call 14
      refine (mod_any _ (B : Int) _ (by omega)).mono ?_
      rintro e U2 ⟨r1, rfl, r1a, r1b, hbk⟩
      go_wp2_with fail
      have H0k := hide (H0.out.keep hbk)
      have HXk := hide (HX.out.keep hbk)
      have HBk := hide (below_trans HB.out hbk)
      have hSnew := cells3 H0k.out.bg
      clear hbk
      clear H0 HB HX
      refine hK.out _ _ hSnew (fun hHeld4 => ?_)
      clear hK K hSnew hHeld
      have hHeld := hHeld4
      clear hHeld4
      try simp only [Act.put, List.setIfInBounds_toArray, List.set_cons_zero, List.set_cons_succ]
      have H0 := H0k
      have HB := HBk
      have HX := HXk
      clear H0k HBk HXk
      refine wpAnyH_ready (rs := [9]) (by kernel_rfl) (by simp) ?_
      refine AllReadyH.cons (o := { dst := some 53, op := Op.call { callee := Callee.value (Operand.func 14), args := #[Operand.tmp 50, Operand.tmp 52], argTypes := #[3, 3] }, type := 3, pos := "law.go:293", after := #[{ on := 6, ground := Ground.data }, { on := 8, ground := Ground.data }, { on := 4, ground := Ground.chain }], guard := none }) rfl (fun K hK => ?_) AllReadyH.nil
      go_simp
      go_at_call 14
      refine (mod_any _ (P : Int) _ (by omega)).mono ?_
      rintro e U3 ⟨r2, rfl, r2a, r2b, hbk⟩
      go_wp2_with fail
      have H0k := hide (H0.out.keep hbk)
      have HXk := hide (HX.out.keep hbk)
      have HBk := hide (below_trans HB.out hbk)
      have hSnew := cells3 H0k.out.bg
      clear hbk
      clear H0 HB HX
      refine hK.out _ _ hSnew (fun hHeld9 => ?_)
      clear hK K hSnew hHeld
      have hHeld := hHeld9
      clear hHeld9
      try simp only [Act.put, List.setIfInBounds_toArray, List.set_cons_zero, List.set_cons_succ]
      have H0 := H0k
      have HB := HBk
      have HX := HXk
      clear H0k HBk HXk
      refine wpAnyH_take (i := 10) (oi := { dst := some 54, op := Op.build 41 #[(0, Operand.tmp 48), (1, Operand.tmp 53)], type := 41, pos := "law.go:293", after := #[{ on := 4, ground := Ground.data }, { on := 9, ground := Ground.data }], guard := none }) (v := ?v10p1549) rfl (by kernel_rfl) (by kernel_rfl) (by kernel_rfl) (fun _ _ _ h => h) (Or.inl ⟨by rfl, ?y10p1549⟩) (by assumption) ?r10p1549
      case y10p1549 => (intro x hx; (try dsimp only at hx); go_simp; try with_reducible rfl)
      try simp only [Act.put, List.setIfInBounds_toArray, List.set_cons_zero, List.set_cons_succ]
      refine wpAnyH_ready (rs := [11]) (by kernel_rfl) (by simp) ?_
      refine AllReadyH.cons (o := { dst := some 55, op := Op.call { callee := Callee.value (Operand.func 13), args := #[Operand.tmp 44, Operand.tmp 54], argTypes := #[29, 41] }, type := 37, pos := "law.go:293", after := #[{ on := 0, ground := Ground.data }, { on := 10, ground := Ground.data }, { on := 9, ground := Ground.chain }], guard := none }) rfl (fun K hK => ?_) AllReadyH.nil
      go_simp
      go_at_call 13
      obtain ⟨FF, hch⟩ := H0.out.ch
      refine (Read_any _ p FF C hch hok r1 r2).mono ?_
      rintro e U4 ⟨⟨a1, m1, c1, a2, m2, c2, D, Z, rfl, _, _, _, hif⟩, hbk⟩
      have hre : ReadE C r1 r2 = 0 := read_in hdk hCB hCP r1a r1b r2a r2b
      rw [hre] at hif ⊢
      rw [if_pos rfl] at hif
      rw [hCS] at hif
      have em1 := hide hif.1
      clear hre hch hif
      go_wp2_with fail
      have H0k := hide (H0.out.keep hbk)
      have HXk := hide (HX.out.keep hbk)
      have HBk := hide (below_trans HB.out hbk)
      have hSnew := cells3 H0k.out.bg
      clear hbk
      clear H0 HB HX
      refine hK.out _ _ hSnew (fun hHeld11 => ?_)
      clear hK K hSnew hHeld
      have hHeld := hHeld11
      clear hHeld11
      try simp only [Act.put, List.setIfInBounds_toArray, List.set_cons_zero, List.set_cons_succ]
      have H0 := H0k
      have HB := HBk
      have HX := HXk
      clear H0k HBk HXk
      refine wpAnyH_take (i := 12) (oi := { dst := some 43, op := Op.move (Operand.tmp 55), type := 37, pos := "law.go:293", after := #[{ on := 11, ground := Ground.data }], guard := none }) (v := ?v12p154911) rfl (by kernel_rfl) (by kernel_rfl) (by kernel_rfl) (fun _ _ _ h => h) (Or.inl ⟨by rfl, ?y12p154911⟩) (by assumption) ?r12p154911
      case y12p154911 => (intro x hx; (try dsimp only at hx); go_simp; try with_reducible rfl)
      try simp only [Act.put, List.setIfInBounds_toArray, List.set_cons_zero, List.set_cons_succ]
      refine wpAnyH_take (i := 13) (oi := { dst := some 56, op := Op.extract (Operand.tmp 43) 0, type := 36, pos := "law.go:293", after := #[{ on := 12, ground := Ground.data }], guard := none }) (v := ?v13p154911) rfl (by kernel_rfl) (by kernel_rfl) (by kernel_rfl) (fun _ _ _ h => h) (Or.inl ⟨by rfl, ?y13p154911⟩) (by assumption) ?r13p154911
      case y13p154911 => (intro x hx; (try dsimp only at hx); go_simp; try with_reducible rfl)
      try simp only [Act.put, List.setIfInBounds_toArray, List.set_cons_zero, List.set_cons_succ]
      refine wpAnyH_take (i := 14) (oi := { dst := some 57, op := Op.extract (Operand.tmp 43) 1, type := 30, pos := "law.go:293", after := #[{ on := 12, ground := Ground.data }, { on := 16, ground := Ground.gcOnly Departure.lateStores }], guard := none }) (v := ?v14p154911) rfl (by kernel_rfl) (by kernel_rfl) (by kernel_rfl) (fun _ _ _ h => h) (Or.inl ⟨by rfl, ?y14p154911⟩) (by assumption) ?r14p154911
      case y14p154911 => (intro x hx; (try dsimp only at hx); go_simp; try with_reducible rfl)
      try simp only [Act.put, List.setIfInBounds_toArray, List.set_cons_zero, List.set_cons_succ]
      refine wpAnyH_ready (rs := [16]) (by kernel_rfl) (by simp) ?_
      refine AllReadyH.cons (o := { dst := none, op := Op.store 36 (Operand.tmp 12) (Operand.tmp 56), type := 0, pos := "law.go:293", after := #[{ on := 15, ground := Ground.data }, { on := 13, ground := Ground.data }, { on := 11, ground := Ground.chain }, { on := 0, ground := Ground.phase }, { on := 1, ground := Ground.phase }, { on := 2, ground := Ground.phase }, { on := 3, ground := Ground.phase }, { on := 4, ground := Ground.phase }, { on := 5, ground := Ground.phase }, { on := 6, ground := Ground.phase }, { on := 7, ground := Ground.phase }, { on := 8, ground := Ground.phase }, { on := 9, ground := Ground.phase }, { on := 10, ground := Ground.phase }, { on := 11, ground := Ground.phase }, { on := 12, ground := Ground.phase }, { on := 13, ground := Ground.phase }, { on := 14, ground := Ground.textOnly Departure.lateStores }, { on := 15, ground := Ground.phase }], guard := none }) rfl (fun K hK => ?_) AllReadyH.nil
      obtain ⟨x0, x1⟩ := cells2 HX.out.1
      have fx := fun j => frozen_of_row U4 gU1 j _ 36 HX.out.1
      go_simp
      go_wp2_with fail
      have HST := JV.store (u0 := W0) H00.out HB.out HX.out (.slice a1 m1 c1) (.slice a2 m2 c2)
      have HJ := hide HST.1
      have HX2 := hide HST.2
      have hSnew := cells3 HJ.out.bg
      clear HST
      refine hK.out _ _ hSnew (fun hHeld16 => ?_)
      clear hK K hSnew hHeld
      have hHeld := hHeld16
      clear hHeld16
      try simp only [Act.put, List.setIfInBounds_toArray, List.set_cons_zero, List.set_cons_succ]
      refine wpAnyH_take (i := 17) (oi := { dst := some 13, op := Op.assign (Operand.tmp 57), type := 30, pos := "law.go:293", after := #[{ on := 14, ground := Ground.data }, { on := 16, ground := Ground.chain }, { on := 0, ground := Ground.phase }, { on := 1, ground := Ground.phase }, { on := 2, ground := Ground.phase }, { on := 3, ground := Ground.phase }, { on := 4, ground := Ground.phase }, { on := 5, ground := Ground.phase }, { on := 6, ground := Ground.phase }, { on := 7, ground := Ground.phase }, { on := 8, ground := Ground.phase }, { on := 9, ground := Ground.phase }, { on := 10, ground := Ground.phase }, { on := 11, ground := Ground.phase }, { on := 12, ground := Ground.phase }, { on := 13, ground := Ground.phase }, { on := 14, ground := Ground.phase }, { on := 15, ground := Ground.phase }, { on := 16, ground := Ground.phase }], guard := none }) (v := ?v17e154911) rfl (by kernel_rfl) (by kernel_rfl) (by kernel_rfl) (fun _ _ _ h => h) (Or.inl ⟨by rfl, ?y17e154911⟩) (by assumption) ?r17e154911
      case y17e154911 => (intro x hx; (try dsimp only at hx); go_simp; try with_reducible rfl)
      try simp only [Act.put, List.setIfInBounds_toArray, List.set_cons_zero, List.set_cons_succ]
      refine wpAnyH_done (by kernel_rfl) ?_ _
      clear hHeld x0 x1 fx
      go_wp2
      go_meet
      exact ⟨gU1, a1, m1, c1, a2, m2, c2, rfl, rfl, em1, HJ, HX2⟩
  case rest =>
  obtain ⟨q12, a1, m1, c1, a2, m2, c2, rfl, rfl, em1, H5, HX5⟩ := hcut
  have HE1 := em1
  clear em1 H3
  go_upto_region 7 with (first | (go_at_call 15; obtain ⟨FF, hch⟩ := H5.out.ch; refine (Image_any _ p FF C hch hok).mono ?_; rintro e u6 ⟨⟨gc2, cc2, gm2, cm2, rfl, oc2, om2, _⟩, b6⟩; rw [hCB, hCP, hCS]; rw [hCB, hCP, hCS, ← HNE.out, himg] at oc2; rw [← HNE.out]; have HC2 := hide (own_reads oc2 hr255); have HCP2 := hide (own_cap oc2); have HM2' := hide (readsB_img om2 himk hml); have HB6 := hide b6; clear oc2 om2 hch b6))
  have hb7 := below_alloc u6 (.cells #[.int .i64 (B : Int), .int .i64 (P : Int), .int .i64 (S : Int), .slice (some ⟨gc2, 0, none⟩) n cc2, .slice (some ⟨gm2, 0, none⟩) B cm2] 27)
  have H7 := hide ((H5.out.keep HB6.out).keep hb7)
  have HX7 := hide ((hb7.block _ (lt_of_block ((HB6.out.block _ (lt_of_block HX5.out)).trans HX5.out))).trans ((HB6.out.block _ (lt_of_block HX5.out)).trans HX5.out))
  have HC2 := hide (HC2.out.below hb7)
  have HM2' := hide (HM2'.out.below hb7)
  have HN7 := hide (alloc_new u6 (.cells #[.int .i64 (B : Int), .int .i64 (P : Int), .int .i64 (S : Int), .slice (some ⟨gc2, 0, none⟩) n cc2, .slice (some ⟨gm2, 0, none⟩) B cm2] 27))
  generalize hU : u6.alloc (.cells #[.int .i64 (B : Int), .int .i64 (P : Int), .int .i64 (S : Int), .slice (some ⟨gc2, 0, none⟩) n cc2, .slice (some ⟨gm2, 0, none⟩) B cm2] 27) = U7 at H7 HX7 HC2 HM2' HN7 ⊢
  generalize hq14 : u6.heap.size = q14 at HN7 ⊢
  clear hU hq14 hb7 HB6 H5 HX5
  obtain ⟨x0, x1, x2, x3, x4⟩ := cells5 HN7.out
  go_upto_region 8 with (first | (go_at_call 10; refine (Load_any _ B P S (some ⟨gc2, 0, none⟩) n cc2 HCP2.out zs HC2.out (some ⟨gm2, 0, none⟩) B cm2 ms HM2'.out none 0 0 [] (readsF_nil _) (by omega)).mono ?_; rintro e u8 hv; obtain ⟨d, hE, hch⟩ := hv.yes hle; subst hE; simp only [Int.toNat_natCast, List.map_nil] at hch; rw [← HCC.out] at hch; have H8 : Hid (KV w u8 p d B P S C q9 gc n cc gm cm q12 a1 m1 c1 a2 m2 c2 q14 gc2 cc2 gm2 cm2 zs ms) := ⟨H7.out.keep hv.bel, ⟨below_trans H7.out.bel hv.bel, ⟨_, hch⟩, (H7.out.keep hv.bel).bg, (hv.bel.block _ (lt_of_block HN7.out)).trans HN7.out, HC2.out.below hv.bel, HM2'.out.below hv.bel⟩, (hv.bel.block _ (lt_of_block HX7.out)).trans HX7.out⟩; clear hv hch x0 x1 x2 x3 x4))
  have HK := hide (H8.out.keep (drew_below _))
  clear H8 H7 HX7 HC2 HM2' HN7
  have hmm := HE1.out
  subst hmm
  clear HE1
  refine wp_region_held_drew (S := (fun u => u.cell? ⟨w.heap.size, 0, none⟩ = some (.int .i64 (B : Int)) ∧ u.cell? ⟨w.heap.size, 1, none⟩ = some (.int .i64 (P : Int)) ∧ u.cell? ⟨w.heap.size, 2, none⟩ = some (.int .i64 (S : Int)) ∧ u.cell? ⟨q12, 0, none⟩ = some (.slice a1 (256 * S) c1) ∧ u.cell? ⟨q12, 1, none⟩ = some (.slice a2 m2 c2) ∧ u.cell? ⟨q14, 0, none⟩ = some (.int .i64 (B : Int)) ∧ u.cell? ⟨q14, 1, none⟩ = some (.int .i64 (P : Int)) ∧ u.cell? ⟨q14, 2, none⟩ = some (.int .i64 (S : Int)) ∧ u.cell? ⟨q14, 3, none⟩ = some (.slice (some ⟨gc2, 0, none⟩) n cc2) ∧ u.cell? ⟨q14, 4, none⟩ = some (.slice (some ⟨gm2, 0, none⟩) B cm2) ∧ u.cell? ⟨q9, 0, none⟩ = some (.int .i64 (B : Int)) ∧ u.cell? ⟨q9, 1, none⟩ = some (.int .i64 (P : Int)) ∧ u.cell? ⟨q9, 2, none⟩ = some (.int .i64 (S : Int)) ∧ u.cell? ⟨q9, 3, none⟩ = some (.slice (some ⟨gc, 0, none⟩) n cc) ∧ u.cell? ⟨q9, 4, none⟩ = some (.slice (some ⟨gm, 0, none⟩) B cm))) (by kernel_rfl) (HK.out.s) (fun hHeld => ?_)
  refine wpAnyH_take (i := 0) (oi := { dst := some 65, op := Op.move (Operand.tmp 13), type := 30, pos := "law.go:296", after := #[], guard := none }) (v := ?v0w) rfl (by kernel_rfl) (by kernel_rfl) (by kernel_rfl) (fun _ _ _ h => h) (Or.inl ⟨by rfl, ?y0w⟩) (by assumption) ?r0w
  case y0w => (intro x hx; (try dsimp only at hx); go_simp; try with_reducible rfl)
  try simp only [Act.put, List.setIfInBounds_toArray, List.set_cons_zero, List.set_cons_succ]
  refine wpAnyH_ready (rs := [1]) (by kernel_rfl) (by simp) ?_
  refine AllReadyH.cons (o := { dst := some 66, op := Op.call { callee := Callee.value (Operand.func 11), args := #[Operand.tmp 65], argTypes := #[30] }, type := 3, pos := "law.go:296", after := #[{ on := 0, ground := Ground.data }], guard := none }) rfl (fun K hK => ?_) AllReadyH.nil
  go_simp
  go_at_call 11
  refine (no_any' 0 _).mono ?_
  rintro e v0 ⟨rfl, hv0⟩
  subst hv0
  have hSnew := HK.out.s
  go_wp2_with fail
  refine hK.out _ _ hSnew (fun hHeld1 => ?_)
  clear hK K hSnew
  clear hHeld
  have hHeld := hHeld1
  clear hHeld1
  try simp only [Act.put, List.setIfInBounds_toArray, List.set_cons_zero, List.set_cons_succ]
  refine wpAnyH_take (i := 2) (oi := { dst := some 67, op := Op.binOp BinOp.eql 3 (Operand.tmp 66) (Operand.const (Value.int IntKind.i64 0)) 3, type := 4, pos := "law.go:296", after := #[{ on := 1, ground := Ground.data }], guard := none }) (v := ?v2w) rfl (by kernel_rfl) (by kernel_rfl) (by kernel_rfl) (fun _ _ _ h => h) (Or.inl ⟨by rfl, ?y2w⟩) (by assumption) ?r2w
  case y2w => (intro x hx; (try dsimp only at hx); go_simp; try with_reducible rfl)
  try simp only [Act.put, List.setIfInBounds_toArray, List.set_cons_zero, List.set_cons_succ]
  refine wpAnyH_take (i := 3) (oi := { dst := some 68, op := Op.move (Operand.tmp 67), type := 4, pos := "law.go:296", after := #[{ on := 2, ground := Ground.data }, { on := 1, ground := Ground.chain }], guard := none }) (v := ?v3w) rfl (by kernel_rfl) (by kernel_rfl) (by kernel_rfl) (fun _ _ _ h => h) (Or.inl ⟨by rfl, ?y3w⟩) (by assumption) ?r3w
  case y3w => (intro x hx; (try dsimp only at hx); go_simp; try with_reducible rfl)
  try simp only [Act.put, List.setIfInBounds_toArray, List.set_cons_zero, List.set_cons_succ]
  refine wpAnyH_take (i := 4) (oi := { dst := some 69, op := Op.fieldAddr 36 (Operand.tmp 12) 0, type := 0, pos := "law.go:296", after := #[{ on := 3, ground := Ground.guard }], guard := some (3, true) }) (v := ?v4w) rfl (by kernel_rfl) (by kernel_rfl) (by kernel_rfl) (fun _ _ _ h => h) (Or.inl ⟨by rfl, ?y4w⟩) (by assumption) ?r4w
  case y4w => (intro x hx; (try dsimp only at hx); go_simp; try with_reducible rfl)
  try simp only [Act.put, List.setIfInBounds_toArray, List.set_cons_zero, List.set_cons_succ]
  refine wpAnyH_take (i := 5) (oi := { dst := some 70, op := Op.load 24 (Operand.tmp 69), type := 24, pos := "law.go:296", after := #[{ on := 4, ground := Ground.data }, { on := 3, ground := Ground.guard }], guard := some (3, true) }) (v := ?v5w) rfl (by kernel_rfl) (by kernel_rfl) (by kernel_rfl) (fun _ _ _ h => h) (Or.inl ⟨by rfl, ?y5w⟩) (by assumption) ?r5w
  case y5w => (intro x hx; (try dsimp only at hx); go_simp; try with_reducible rfl)
  try simp only [Act.put, List.setIfInBounds_toArray, List.set_cons_zero, List.set_cons_succ]
  refine wpAnyH_take (i := 6) (oi := { dst := some 71, op := Op.call { callee := Callee.builtin Builtin.len, args := #[Operand.tmp 70], argTypes := #[24] }, type := 3, pos := "law.go:296", after := #[{ on := 5, ground := Ground.data }, { on := 3, ground := Ground.guard }], guard := some (3, true) }) (v := ?v6w) rfl (by kernel_rfl) (by kernel_rfl) (by kernel_rfl) (fun _ _ _ h => h) (Or.inl ⟨by rfl, ?y6w⟩) (by assumption) ?r6w
  case y6w => (intro x hx; (try dsimp only at hx); go_simp; try with_reducible rfl)
  try simp only [Act.put, List.setIfInBounds_toArray, List.set_cons_zero, List.set_cons_succ]
  refine wpAnyH_take (i := 7) (oi := { dst := some 72, op := Op.fieldAddr 23 (Operand.tmp 4) 2, type := 0, pos := "law.go:296", after := #[{ on := 3, ground := Ground.guard }], guard := some (3, true) }) (v := ?v7w) rfl (by kernel_rfl) (by kernel_rfl) (by kernel_rfl) (fun _ _ _ h => h) (Or.inl ⟨by rfl, ?y7w⟩) (by assumption) ?r7w
  case y7w => (intro x hx; (try dsimp only at hx); go_simp; try with_reducible rfl)
  try simp only [Act.put, List.setIfInBounds_toArray, List.set_cons_zero, List.set_cons_succ]
  refine wpAnyH_take (i := 8) (oi := { dst := some 73, op := Op.load 3 (Operand.tmp 72), type := 3, pos := "law.go:296", after := #[{ on := 7, ground := Ground.data }, { on := 3, ground := Ground.guard }], guard := some (3, true) }) (v := ?v8w) rfl (by kernel_rfl) (by kernel_rfl) (by kernel_rfl) (fun _ _ _ h => h) (Or.inl ⟨by rfl, ?y8w⟩) (by assumption) ?r8w
  case y8w => (intro x hx; (try dsimp only at hx); go_simp; try with_reducible rfl)
  try simp only [Act.put, List.setIfInBounds_toArray, List.set_cons_zero, List.set_cons_succ]
  refine wpAnyH_take (i := 9) (oi := { dst := some 74, op := Op.binOp BinOp.mul 3 (Operand.const (Value.int IntKind.i64 256)) (Operand.tmp 73) 3, type := 3, pos := "law.go:296", after := #[{ on := 8, ground := Ground.data }, { on := 3, ground := Ground.guard }], guard := some (3, true) }) (v := ?v9w) rfl (by kernel_rfl) (by kernel_rfl) (by kernel_rfl) (fun _ _ _ h => h) (Or.inl ⟨by rfl, ?y9w⟩) (by assumption) ?r9w
  case y9w => (intro x hx; (try dsimp only at hx); go_simp; try with_reducible rfl)
  try simp only [Act.put, List.setIfInBounds_toArray, List.set_cons_zero, List.set_cons_succ]
  rw [HW1.out]
  refine wpAnyH_take (i := 10) (oi := { dst := some 75, op := Op.binOp BinOp.eql 3 (Operand.tmp 71) (Operand.tmp 74) 3, type := 4, pos := "law.go:296", after := #[{ on := 6, ground := Ground.data }, { on := 9, ground := Ground.data }, { on := 3, ground := Ground.guard }], guard := some (3, true) }) (v := ?v10w) rfl (by kernel_rfl) (by kernel_rfl) (by kernel_rfl) (fun _ _ _ h => h) (Or.inl ⟨by rfl, ?y10w⟩) (by assumption) ?r10w
  case y10w => (intro x hx; (try dsimp only at hx); go_simp; try with_reducible rfl)
  try simp only [Act.put, List.setIfInBounds_toArray, List.set_cons_zero, List.set_cons_succ]
  refine wpAnyH_take (i := 11) (oi := { dst := some 76, op := Op.pick (Operand.tmp 68) (Operand.tmp 75) (Operand.const (Value.bool false)), type := 4, pos := "law.go:296", after := #[{ on := 3, ground := Ground.data }, { on := 10, ground := Ground.data }], guard := none }) (v := ?v11w) rfl (by kernel_rfl) (by kernel_rfl) (by kernel_rfl) (fun _ _ _ h => h) (Or.inl ⟨by rfl, ?y11w⟩) (by assumption) ?r11w
  case y11w => (intro x hx; (try dsimp only at hx); go_simp; try with_reducible rfl)
  try simp only [Act.put, List.setIfInBounds_toArray, List.set_cons_zero, List.set_cons_succ]
  refine wpAnyH_take (i := 12) (oi := { dst := some 77, op := Op.move (Operand.tmp 76), type := 4, pos := "law.go:296", after := #[{ on := 11, ground := Ground.data }, { on := 3, ground := Ground.chain }], guard := none }) (v := ?v12w) rfl (by kernel_rfl) (by kernel_rfl) (by kernel_rfl) (fun _ _ _ h => h) (Or.inl ⟨by rfl, ?y12w⟩) (by assumption) ?r12w
  case y12w => (intro x hx; (try dsimp only at hx); go_simp; try with_reducible rfl)
  try simp only [Act.put, List.setIfInBounds_toArray, List.set_cons_zero, List.set_cons_succ]
  refine wpAnyH_take (i := 13) (oi := { dst := some 78, op := Op.load 27 (Operand.tmp 14), type := 27, pos := "law.go:296", after := #[{ on := 12, ground := Ground.guard }], guard := some (12, true) }) (v := ?v13w) rfl (by kernel_rfl) (by kernel_rfl) (by kernel_rfl) (fun _ _ _ h => h) (Or.inl ⟨by rfl, ?y13w⟩) (by assumption) ?r13w
  case y13w => (intro x hx; (try dsimp only at hx); go_simp; try with_reducible rfl)
  try simp only [Act.put, List.setIfInBounds_toArray, List.set_cons_zero, List.set_cons_succ]
  refine wpAnyH_take (i := 14) (oi := { dst := some 79, op := Op.load 27 (Operand.tmp 9), type := 27, pos := "law.go:296", after := #[{ on := 12, ground := Ground.guard }], guard := some (12, true) }) (v := ?v14w) rfl (by kernel_rfl) (by kernel_rfl) (by kernel_rfl) (fun _ _ _ h => h) (Or.inl ⟨by rfl, ?y14w⟩) (by assumption) ?r14w
  case y14w => (intro x hx; (try dsimp only at hx); go_simp; try with_reducible rfl)
  try simp only [Act.put, List.setIfInBounds_toArray, List.set_cons_zero, List.set_cons_succ]
  refine wpAnyH_ready (rs := [15]) (by kernel_rfl) (by simp) ?_
  refine AllReadyH.cons (o := { dst := some 80, op := Op.call { callee := Callee.value (Operand.func 16), args := #[Operand.tmp 78, Operand.tmp 79], argTypes := #[27, 27] }, type := 4, pos := "law.go:296", after := #[{ on := 13, ground := Ground.data }, { on := 14, ground := Ground.data }, { on := 12, ground := Ground.chain }, { on := 12, ground := Ground.guard }], guard := some (12, true) }) rfl (fun K hK => ?_) AllReadyH.nil
  go_simp
  go_at_call 16
  refine (sameImage_eq _ _ _ _ _ _ _ _ n _ _ B _ _ zs ms HK.out.jw.rc HK.out.jv.rc HK.out.jw.rm HK.out.jv.rm (by omega)).mono ?_
  rintro e w3 ⟨rfl, hbk⟩
  have HKn := hide (HK.out.keep hbk)
  clear HK hbk
  have HK := HKn
  clear HKn
  have hSnew := HK.out.s
  go_wp2_with fail
  refine hK.out _ _ hSnew (fun hHeld15 => ?_)
  clear hK K hSnew
  clear hHeld
  have hHeld := hHeld15
  clear hHeld15
  try simp only [Act.put, List.setIfInBounds_toArray, List.set_cons_zero, List.set_cons_succ]
  refine wpAnyH_take (i := 16) (oi := { dst := some 81, op := Op.pick (Operand.tmp 77) (Operand.tmp 80) (Operand.const (Value.bool false)), type := 4, pos := "law.go:296", after := #[{ on := 12, ground := Ground.data }, { on := 15, ground := Ground.data }], guard := none }) (v := ?v16w) rfl (by kernel_rfl) (by kernel_rfl) (by kernel_rfl) (fun _ _ _ h => h) (Or.inl ⟨by rfl, ?y16w⟩) (by assumption) ?r16w
  case y16w => (intro x hx; (try dsimp only at hx); go_simp; try with_reducible rfl)
  try simp only [Act.put, List.setIfInBounds_toArray, List.set_cons_zero, List.set_cons_succ]
  refine wpAnyH_take (i := 17) (oi := { dst := some 82, op := Op.move (Operand.tmp 81), type := 4, pos := "law.go:296", after := #[{ on := 16, ground := Ground.data }, { on := 15, ground := Ground.chain }], guard := none }) (v := ?v17w) rfl (by kernel_rfl) (by kernel_rfl) (by kernel_rfl) (fun _ _ _ h => h) (Or.inl ⟨by rfl, ?y17w⟩) (by assumption) ?r17w
  case y17w => (intro x hx; (try dsimp only at hx); go_simp; try with_reducible rfl)
  try simp only [Act.put, List.setIfInBounds_toArray, List.set_cons_zero, List.set_cons_succ]
  refine wpAnyH_take (i := 18) (oi := { dst := some 83, op := Op.move (Operand.tmp 10), type := 29, pos := "law.go:296", after := #[{ on := 17, ground := Ground.guard }], guard := some (17, true) }) (v := ?v18w) rfl (by kernel_rfl) (by kernel_rfl) (by kernel_rfl) (fun _ _ _ h => h) (Or.inl ⟨by rfl, ?y18w⟩) (by assumption) ?r18w
  case y18w => (intro x hx; (try dsimp only at hx); go_simp; try with_reducible rfl)
  try simp only [Act.put, List.setIfInBounds_toArray, List.set_cons_zero, List.set_cons_succ]
  refine wpAnyH_ready (rs := [19]) (by kernel_rfl) (by simp) ?_
  refine AllReadyH.cons (o := { dst := some 84, op := Op.call { callee := Callee.value (Operand.func 17), args := #[Operand.tmp 83], argTypes := #[29] }, type := 4, pos := "law.go:296", after := #[{ on := 18, ground := Ground.data }, { on := 17, ground := Ground.chain }, { on := 17, ground := Ground.guard }], guard := some (17, true) }) rfl (fun K hK => ?_) AllReadyH.nil
  go_simp
  obtain ⟨FF, hch⟩ := HK.out.jv.ch
  go_at_call 17
  refine (Dark_any _ p FF C hch).mono ?_
  rintro e v0 ⟨rfl, hv0⟩
  subst hv0
  rw [hdk]
  clear hch
  have hSnew := HK.out.s
  go_wp2_with fail
  refine hK.out _ _ hSnew (fun hHeld19 => ?_)
  clear hK K hSnew
  clear hHeld
  have hHeld := hHeld19
  clear hHeld19
  try simp only [Act.put, List.setIfInBounds_toArray, List.set_cons_zero, List.set_cons_succ]
  refine wpAnyH_take (i := 20) (oi := { dst := some 85, op := Op.unOp UnOp.not 4 (Operand.tmp 84), type := 4, pos := "law.go:296", after := #[{ on := 19, ground := Ground.data }, { on := 17, ground := Ground.guard }], guard := some (17, true) }) (v := ?v20w) rfl (by kernel_rfl) (by kernel_rfl) (by kernel_rfl) (fun _ _ _ h => h) (Or.inl ⟨by rfl, ?y20w⟩) (by assumption) ?r20w
  case y20w => (intro x hx; (try dsimp only at hx); go_simp; try with_reducible rfl)
  try simp only [Act.put, List.setIfInBounds_toArray, List.set_cons_zero, List.set_cons_succ]
  refine wpAnyH_take (i := 21) (oi := { dst := some 86, op := Op.pick (Operand.tmp 82) (Operand.tmp 85) (Operand.const (Value.bool false)), type := 4, pos := "law.go:296", after := #[{ on := 17, ground := Ground.data }, { on := 20, ground := Ground.data }], guard := none }) (v := ?v21w) rfl (by kernel_rfl) (by kernel_rfl) (by kernel_rfl) (fun _ _ _ h => h) (Or.inl ⟨by rfl, ?y21w⟩) (by assumption) ?r21w
  case y21w => (intro x hx; (try dsimp only at hx); go_simp; try with_reducible rfl)
  try simp only [Act.put, List.setIfInBounds_toArray, List.set_cons_zero, List.set_cons_succ]
  refine wpAnyH_take (i := 22) (oi := { dst := some 87, op := Op.move (Operand.tmp 86), type := 4, pos := "law.go:296", after := #[{ on := 21, ground := Ground.data }, { on := 19, ground := Ground.chain }], guard := none }) (v := ?v22w) rfl (by kernel_rfl) (by kernel_rfl) (by kernel_rfl) (fun _ _ _ h => h) (Or.inl ⟨by rfl, ?y22w⟩) (by assumption) ?r22w
  case y22w => (intro x hx; (try dsimp only at hx); go_simp; try with_reducible rfl)
  try simp only [Act.put, List.setIfInBounds_toArray, List.set_cons_zero, List.set_cons_succ]
  refine wpAnyH_take (i := 23) (oi := { dst := some 88, op := Op.move (Operand.tmp 10), type := 29, pos := "law.go:296", after := #[{ on := 22, ground := Ground.guard }], guard := some (22, true) }) (v := ?v23w) rfl (by kernel_rfl) (by kernel_rfl) (by kernel_rfl) (fun _ _ _ h => h) (Or.inl ⟨by rfl, ?y23w⟩) (by assumption) ?r23w
  case y23w => (intro x hx; (try dsimp only at hx); go_simp; try with_reducible rfl)
  try simp only [Act.put, List.setIfInBounds_toArray, List.set_cons_zero, List.set_cons_succ]
  refine wpAnyH_ready (rs := [24]) (by kernel_rfl) (by simp) ?_
  refine AllReadyH.cons (o := { dst := some 89, op := Op.call { callee := Callee.value (Operand.func 18), args := #[Operand.tmp 88], argTypes := #[29] }, type := 3, pos := "law.go:296", after := #[{ on := 23, ground := Ground.data }, { on := 22, ground := Ground.chain }, { on := 22, ground := Ground.guard }], guard := some (22, true) }) rfl (fun K hK => ?_) AllReadyH.nil
  go_simp
  obtain ⟨FF, hch⟩ := HK.out.jv.ch
  go_at_call 18
  refine (Count_any _ p FF C hch).mono ?_
  rintro e v0 ⟨rfl, hv0⟩
  subst hv0
  rw [hcn0]
  clear hch
  have hSnew := HK.out.s
  go_wp2_with fail
  refine hK.out _ _ hSnew (fun hHeld24 => ?_)
  clear hK K hSnew
  clear hHeld
  have hHeld := hHeld24
  clear hHeld24
  try simp only [Act.put, List.setIfInBounds_toArray, List.set_cons_zero, List.set_cons_succ]
  refine wpAnyH_take (i := 25) (oi := { dst := some 90, op := Op.binOp BinOp.eql 3 (Operand.tmp 89) (Operand.const (Value.int IntKind.i64 0)) 3, type := 4, pos := "law.go:296", after := #[{ on := 24, ground := Ground.data }, { on := 22, ground := Ground.guard }], guard := some (22, true) }) (v := ?v25w) rfl (by kernel_rfl) (by kernel_rfl) (by kernel_rfl) (fun _ _ _ h => h) (Or.inl ⟨by rfl, ?y25w⟩) (by assumption) ?r25w
  case y25w => (intro x hx; (try dsimp only at hx); go_simp; try with_reducible rfl)
  try simp only [Act.put, List.setIfInBounds_toArray, List.set_cons_zero, List.set_cons_succ]
  refine wpAnyH_take (i := 26) (oi := { dst := some 91, op := Op.pick (Operand.tmp 87) (Operand.tmp 90) (Operand.const (Value.bool false)), type := 4, pos := "law.go:296", after := #[{ on := 22, ground := Ground.data }, { on := 25, ground := Ground.data }], guard := none }) (v := ?v26w) rfl (by kernel_rfl) (by kernel_rfl) (by kernel_rfl) (fun _ _ _ h => h) (Or.inl ⟨by rfl, ?y26w⟩) (by assumption) ?r26w
  case y26w => (intro x hx; (try dsimp only at hx); go_simp; try with_reducible rfl)
  try simp only [Act.put, List.setIfInBounds_toArray, List.set_cons_zero, List.set_cons_succ]
  refine wpAnyH_take (i := 27) (oi := { dst := some 92, op := Op.move (Operand.tmp 91), type := 4, pos := "law.go:296", after := #[{ on := 26, ground := Ground.data }, { on := 24, ground := Ground.chain }], guard := none }) (v := ?v27w) rfl (by kernel_rfl) (by kernel_rfl) (by kernel_rfl) (fun _ _ _ h => h) (Or.inl ⟨by rfl, ?y27w⟩) (by assumption) ?r27w
  case y27w => (intro x hx; (try dsimp only at hx); go_simp; try with_reducible rfl)
  try simp only [Act.put, List.setIfInBounds_toArray, List.set_cons_zero, List.set_cons_succ]
  refine wpAnyH_take (i := 28) (oi := { dst := some 93, op := Op.move (Operand.tmp 10), type := 29, pos := "law.go:296", after := #[{ on := 27, ground := Ground.guard }], guard := some (27, true) }) (v := ?v28w) rfl (by kernel_rfl) (by kernel_rfl) (by kernel_rfl) (fun _ _ _ h => h) (Or.inl ⟨by rfl, ?y28w⟩) (by assumption) ?r28w
  case y28w => (intro x hx; (try dsimp only at hx); go_simp; try with_reducible rfl)
  try simp only [Act.put, List.setIfInBounds_toArray, List.set_cons_zero, List.set_cons_succ]
  refine wpAnyH_ready (rs := [29]) (by kernel_rfl) (by simp) ?_
  refine AllReadyH.cons (o := { dst := some 94, op := Op.call { callee := Callee.value (Operand.func 19), args := #[Operand.tmp 93], argTypes := #[29] }, type := 45, pos := "law.go:296", after := #[{ on := 28, ground := Ground.data }, { on := 27, ground := Ground.chain }, { on := 27, ground := Ground.guard }], guard := some (27, true) }) rfl (fun K hK => ?_) AllReadyH.nil
  go_simp
  obtain ⟨FF, hch⟩ := HK.out.jv.ch
  go_at_call 19
  refine (Trace_any _ p FF C hch (by rw [htr0]; simp)).mono ?_
  rintro e w4 ⟨vv, rfl, hov, hbk⟩
  rw [htr0] at hov
  obtain ⟨tg, tl, tc, hvv⟩ := own_slice hov
  subst hvv
  have htl := own_n hov
  simp only [List.length_nil] at htl
  subst htl
  clear hov hch
  have HKn := hide (HK.out.keep hbk)
  clear HK hbk
  have HK := HKn
  clear HKn
  have hSnew := HK.out.s
  go_wp2_with fail
  refine hK.out _ _ hSnew (fun hHeld29 => ?_)
  clear hK K hSnew
  clear hHeld
  have hHeld := hHeld29
  clear hHeld29
  try simp only [Act.put, List.setIfInBounds_toArray, List.set_cons_zero, List.set_cons_succ]
  refine wpAnyH_take (i := 30) (oi := { dst := some 95, op := Op.call { callee := Callee.builtin Builtin.len, args := #[Operand.tmp 94], argTypes := #[45] }, type := 3, pos := "law.go:296", after := #[{ on := 29, ground := Ground.data }, { on := 27, ground := Ground.guard }], guard := some (27, true) }) (v := ?v30w) rfl (by kernel_rfl) (by kernel_rfl) (by kernel_rfl) (fun _ _ _ h => h) (Or.inl ⟨by rfl, ?y30w⟩) (by assumption) ?r30w
  case y30w => (intro x hx; (try dsimp only at hx); go_simp; try with_reducible rfl)
  try simp only [Act.put, List.setIfInBounds_toArray, List.set_cons_zero, List.set_cons_succ]
  refine wpAnyH_take (i := 31) (oi := { dst := some 96, op := Op.binOp BinOp.eql 3 (Operand.tmp 95) (Operand.const (Value.int IntKind.i64 0)) 3, type := 4, pos := "law.go:296", after := #[{ on := 30, ground := Ground.data }, { on := 27, ground := Ground.guard }], guard := some (27, true) }) (v := ?v31w) rfl (by kernel_rfl) (by kernel_rfl) (by kernel_rfl) (fun _ _ _ h => h) (Or.inl ⟨by rfl, ?y31w⟩) (by assumption) ?r31w
  case y31w => (intro x hx; (try dsimp only at hx); go_simp; try with_reducible rfl)
  try simp only [Act.put, List.setIfInBounds_toArray, List.set_cons_zero, List.set_cons_succ]
  refine wpAnyH_take (i := 32) (oi := { dst := some 97, op := Op.pick (Operand.tmp 92) (Operand.tmp 96) (Operand.const (Value.bool false)), type := 4, pos := "law.go:296", after := #[{ on := 27, ground := Ground.data }, { on := 31, ground := Ground.data }], guard := none }) (v := ?v32w) rfl (by kernel_rfl) (by kernel_rfl) (by kernel_rfl) (fun _ _ _ h => h) (Or.inl ⟨by rfl, ?y32w⟩) (by assumption) ?r32w
  case y32w => (intro x hx; (try dsimp only at hx); go_simp; try with_reducible rfl)
  try simp only [Act.put, List.setIfInBounds_toArray, List.set_cons_zero, List.set_cons_succ]
  refine wpAnyH_take (i := 33) (oi := { dst := some 98, op := Op.move (Operand.tmp 97), type := 4, pos := "law.go:296", after := #[{ on := 32, ground := Ground.data }, { on := 29, ground := Ground.chain }], guard := none }) (v := ?v33w) rfl (by kernel_rfl) (by kernel_rfl) (by kernel_rfl) (fun _ _ _ h => h) (Or.inl ⟨by rfl, ?y33w⟩) (by assumption) ?r33w
  case y33w => (intro x hx; (try dsimp only at hx); go_simp; try with_reducible rfl)
  try simp only [Act.put, List.setIfInBounds_toArray, List.set_cons_zero, List.set_cons_succ]
  refine wpAnyH_take (i := 34) (oi := { dst := some 99, op := Op.move (Operand.tmp 16), type := 30, pos := "law.go:296", after := #[{ on := 33, ground := Ground.guard }], guard := some (33, true) }) (v := ?v34w) rfl (by kernel_rfl) (by kernel_rfl) (by kernel_rfl) (fun _ _ _ h => h) (Or.inl ⟨by rfl, ?y34w⟩) (by assumption) ?r34w
  case y34w => (intro x hx; (try dsimp only at hx); go_simp; try with_reducible rfl)
  try simp only [Act.put, List.setIfInBounds_toArray, List.set_cons_zero, List.set_cons_succ]
  refine wpAnyH_ready (rs := [35]) (by kernel_rfl) (by simp) ?_
  refine AllReadyH.cons (o := { dst := some 100, op := Op.call { callee := Callee.value (Operand.func 11), args := #[Operand.tmp 99], argTypes := #[30] }, type := 3, pos := "law.go:296", after := #[{ on := 34, ground := Ground.data }, { on := 33, ground := Ground.chain }, { on := 33, ground := Ground.guard }], guard := some (33, true) }) rfl (fun K hK => ?_) AllReadyH.nil
  go_simp
  go_at_call 11
  refine (no_any' 0 _).mono ?_
  rintro e v0 ⟨rfl, hv0⟩
  subst hv0
  have hSnew := HK.out.s
  go_wp2_with fail
  refine hK.out _ _ hSnew (fun hHeld35 => ?_)
  clear hK K hSnew
  clear hHeld
  have hHeld := hHeld35
  clear hHeld35
  try simp only [Act.put, List.setIfInBounds_toArray, List.set_cons_zero, List.set_cons_succ]
  refine wpAnyH_take (i := 36) (oi := { dst := some 101, op := Op.binOp BinOp.eql 3 (Operand.tmp 100) (Operand.const (Value.int IntKind.i64 0)) 3, type := 4, pos := "law.go:296", after := #[{ on := 35, ground := Ground.data }, { on := 33, ground := Ground.guard }], guard := some (33, true) }) (v := ?v36w) rfl (by kernel_rfl) (by kernel_rfl) (by kernel_rfl) (fun _ _ _ h => h) (Or.inl ⟨by rfl, ?y36w⟩) (by assumption) ?r36w
  case y36w => (intro x hx; (try dsimp only at hx); go_simp; try with_reducible rfl)
  try simp only [Act.put, List.setIfInBounds_toArray, List.set_cons_zero, List.set_cons_succ]
  refine wpAnyH_take (i := 37) (oi := { dst := some 102, op := Op.pick (Operand.tmp 98) (Operand.tmp 101) (Operand.const (Value.bool false)), type := 4, pos := "law.go:296", after := #[{ on := 33, ground := Ground.data }, { on := 36, ground := Ground.data }], guard := none }) (v := ?v37w) rfl (by kernel_rfl) (by kernel_rfl) (by kernel_rfl) (fun _ _ _ h => h) (Or.inl ⟨by rfl, ?y37w⟩) (by assumption) ?r37w
  case y37w => (intro x hx; (try dsimp only at hx); go_simp; try with_reducible rfl)
  try simp only [Act.put, List.setIfInBounds_toArray, List.set_cons_zero, List.set_cons_succ]
  refine wpAnyH_take (i := 38) (oi := { dst := some 103, op := Op.move (Operand.tmp 102), type := 4, pos := "law.go:296", after := #[{ on := 37, ground := Ground.data }, { on := 35, ground := Ground.chain }], guard := none }) (v := ?v38w) rfl (by kernel_rfl) (by kernel_rfl) (by kernel_rfl) (fun _ _ _ h => h) (Or.inl ⟨by rfl, ?y38w⟩) (by assumption) ?r38w
  case y38w => (intro x hx; (try dsimp only at hx); go_simp; try with_reducible rfl)
  try simp only [Act.put, List.setIfInBounds_toArray, List.set_cons_zero, List.set_cons_succ]
  refine wpAnyH_take (i := 39) (oi := { dst := some 104, op := Op.move (Operand.tmp 15), type := 29, pos := "law.go:296", after := #[{ on := 38, ground := Ground.guard }], guard := some (38, true) }) (v := ?v39w) rfl (by kernel_rfl) (by kernel_rfl) (by kernel_rfl) (fun _ _ _ h => h) (Or.inl ⟨by rfl, ?y39w⟩) (by assumption) ?r39w
  case y39w => (intro x hx; (try dsimp only at hx); go_simp; try with_reducible rfl)
  try simp only [Act.put, List.setIfInBounds_toArray, List.set_cons_zero, List.set_cons_succ]
  refine wpAnyH_take (i := 40) (oi := { dst := some 105, op := Op.binOp BinOp.neq 29 (Operand.tmp 104) (Operand.const (Value.pointer none)) 29, type := 4, pos := "law.go:296", after := #[{ on := 39, ground := Ground.data }, { on := 38, ground := Ground.guard }], guard := some (38, true) }) (v := ?v40w) rfl (by kernel_rfl) (by kernel_rfl) (by kernel_rfl) (fun _ _ _ h => h) (Or.inl ⟨by rfl, ?y40w⟩) (by assumption) ?r40w
  case y40w => (intro x hx; (try dsimp only at hx); go_simp; try with_reducible rfl)
  try simp only [Act.put, List.setIfInBounds_toArray, List.set_cons_zero, List.set_cons_succ]
  refine wpAnyH_take (i := 41) (oi := { dst := some 106, op := Op.pick (Operand.tmp 103) (Operand.tmp 105) (Operand.const (Value.bool false)), type := 4, pos := "law.go:296", after := #[{ on := 38, ground := Ground.data }, { on := 40, ground := Ground.data }], guard := none }) (v := ?v41w) rfl (by kernel_rfl) (by kernel_rfl) (by kernel_rfl) (fun _ _ _ h => h) (Or.inl ⟨by rfl, ?y41w⟩) (by assumption) ?r41w
  case y41w => (intro x hx; (try dsimp only at hx); go_simp; try with_reducible rfl)
  try simp only [Act.put, List.setIfInBounds_toArray, List.set_cons_zero, List.set_cons_succ]
  refine wpAnyH_take (i := 42) (oi := { dst := some 107, op := Op.move (Operand.tmp 106), type := 4, pos := "law.go:296", after := #[{ on := 41, ground := Ground.data }, { on := 38, ground := Ground.chain }], guard := none }) (v := ?v42w) rfl (by kernel_rfl) (by kernel_rfl) (by kernel_rfl) (fun _ _ _ h => h) (Or.inl ⟨by rfl, ?y42w⟩) (by assumption) ?r42w
  case y42w => (intro x hx; (try dsimp only at hx); go_simp; try with_reducible rfl)
  try simp only [Act.put, List.setIfInBounds_toArray, List.set_cons_zero, List.set_cons_succ]
  refine wpAnyH_take (i := 43) (oi := { dst := some 108, op := Op.move (Operand.tmp 15), type := 29, pos := "law.go:296", after := #[{ on := 42, ground := Ground.guard }], guard := some (42, true) }) (v := ?v43w) rfl (by kernel_rfl) (by kernel_rfl) (by kernel_rfl) (fun _ _ _ h => h) (Or.inl ⟨by rfl, ?y43w⟩) (by assumption) ?r43w
  case y43w => (intro x hx; (try dsimp only at hx); go_simp; try with_reducible rfl)
  try simp only [Act.put, List.setIfInBounds_toArray, List.set_cons_zero, List.set_cons_succ]
  refine wpAnyH_take (i := 45) (oi := { dst := some 110, op := Op.load 27 (Operand.tmp 9), type := 27, pos := "law.go:296", after := #[{ on := 42, ground := Ground.guard }], guard := some (42, true) }) (v := ?v45w) rfl (by kernel_rfl) (by kernel_rfl) (by kernel_rfl) (fun _ _ _ h => h) (Or.inl ⟨by rfl, ?y45w⟩) (by assumption) ?r45w
  case y45w => (intro x hx; (try dsimp only at hx); go_simp; try with_reducible rfl)
  try simp only [Act.put, List.setIfInBounds_toArray, List.set_cons_zero, List.set_cons_succ]
  refine wpAnyH_ready (rs := [44]) (by kernel_rfl) (by simp) ?_
  refine AllReadyH.cons (o := { dst := some 109, op := Op.call { callee := Callee.value (Operand.func 15), args := #[Operand.tmp 108], argTypes := #[29] }, type := 27, pos := "law.go:296", after := #[{ on := 43, ground := Ground.data }, { on := 42, ground := Ground.chain }, { on := 42, ground := Ground.guard }], guard := some (42, true) }) rfl (fun K hK => ?_) AllReadyH.nil
  go_simp
  obtain ⟨FF, hch⟩ := HK.out.jw.ch
  go_at_call 15
  refine (Image_any _ d FF C hch hok).mono ?_
  rintro e w5 ⟨⟨gc3, cc3, gm3, cm3, rfl, oc3, om3, _⟩, hbk⟩
  rw [hCB, hCP, hCS]
  rw [hCB, hCP, hCS, ← HNE.out, himg] at oc3
  rw [← HNE.out]
  have HC3 := hide (own_reads oc3 hr255)
  have HM3 := hide (readsB_img om3 himk hml)
  clear oc3 om3 hch
  have HKn := hide (HK.out.keep hbk)
  clear HK hbk
  have HK := HKn
  clear HKn
  have hSnew := HK.out.s
  go_wp2_with fail
  refine hK.out _ _ hSnew (fun hHeld44 => ?_)
  clear hK K hSnew
  clear hHeld
  have hHeld := hHeld44
  clear hHeld44
  try simp only [Act.put, List.setIfInBounds_toArray, List.set_cons_zero, List.set_cons_succ]
  refine wpAnyH_ready (rs := [46]) (by kernel_rfl) (by simp) ?_
  refine AllReadyH.cons (o := { dst := some 111, op := Op.call { callee := Callee.value (Operand.func 16), args := #[Operand.tmp 109, Operand.tmp 110], argTypes := #[27, 27] }, type := 4, pos := "law.go:296", after := #[{ on := 44, ground := Ground.data }, { on := 45, ground := Ground.data }, { on := 44, ground := Ground.chain }, { on := 42, ground := Ground.guard }], guard := some (42, true) }) rfl (fun K hK => ?_) AllReadyH.nil
  go_simp
  go_at_call 16
  refine (sameImage_eq _ _ _ _ _ _ _ _ n _ _ B _ _ zs ms HC3.out HK.out.jv.rc HM3.out HK.out.jv.rm (by omega)).mono ?_
  rintro e w6 ⟨rfl, hbk⟩
  have HKn := hide (HK.out.keep hbk)
  clear HK hbk
  have HK := HKn
  clear HKn
  have hSnew := HK.out.s
  go_wp2_with fail
  refine hK.out _ _ hSnew (fun hHeld46 => ?_)
  clear hK K hSnew
  clear hHeld
  have hHeld := hHeld46
  clear hHeld46
  try simp only [Act.put, List.setIfInBounds_toArray, List.set_cons_zero, List.set_cons_succ]
  refine wpAnyH_take (i := 47) (oi := { dst := some 112, op := Op.pick (Operand.tmp 107) (Operand.tmp 111) (Operand.const (Value.bool false)), type := 4, pos := "law.go:296", after := #[{ on := 42, ground := Ground.data }, { on := 46, ground := Ground.data }], guard := none }) (v := ?v47w) rfl (by kernel_rfl) (by kernel_rfl) (by kernel_rfl) (fun _ _ _ h => h) (Or.inl ⟨by rfl, ?y47w⟩) (by assumption) ?r47w
  case y47w => (intro x hx; (try dsimp only at hx); go_simp; try with_reducible rfl)
  try simp only [Act.put, List.setIfInBounds_toArray, List.set_cons_zero, List.set_cons_succ]
  refine wpAnyH_take (i := 48) (oi := { dst := some 113, op := Op.move (Operand.tmp 112), type := 4, pos := "law.go:296", after := #[{ on := 47, ground := Ground.data }, { on := 46, ground := Ground.chain }], guard := none }) (v := ?v48w) rfl (by kernel_rfl) (by kernel_rfl) (by kernel_rfl) (fun _ _ _ h => h) (Or.inl ⟨by rfl, ?y48w⟩) (by assumption) ?r48w
  case y48w => (intro x hx; (try dsimp only at hx); go_simp; try with_reducible rfl)
  try simp only [Act.put, List.setIfInBounds_toArray, List.set_cons_zero, List.set_cons_succ]
  refine wpAnyH_ready (rs := [49]) (by kernel_rfl) (by simp) ?_
  refine AllReadyH.cons (o := { dst := some 114, op := Op.call { callee := Callee.value (Operand.func 12), args := #[], argTypes := #[] }, type := 4, pos := "law.go:296", after := #[{ on := 48, ground := Ground.chain }, { on := 48, ground := Ground.guard }], guard := some (48, true) }) rfl (fun K hK => ?_) AllReadyH.nil
  go_simp
  go_at_call 12
  refine (heads_any _).mono ?_
  rintro e w7 ⟨rfl, hbk⟩
  have HKn := hide (HK.out.keep hbk)
  clear HK hbk
  have HK := HKn
  clear HKn
  have hSnew := HK.out.s
  go_wp2_with fail
  refine hK.out _ _ hSnew (fun hHeld49 => ?_)
  clear hK K hSnew
  clear hHeld
  have hHeld := hHeld49
  clear hHeld49
  try simp only [Act.put, List.setIfInBounds_toArray, List.set_cons_zero, List.set_cons_succ]
  refine wpAnyH_take (i := 50) (oi := { dst := some 115, op := Op.pick (Operand.tmp 113) (Operand.tmp 114) (Operand.const (Value.bool false)), type := 4, pos := "law.go:296", after := #[{ on := 48, ground := Ground.data }, { on := 49, ground := Ground.data }], guard := none }) (v := ?v50w) rfl (by kernel_rfl) (by kernel_rfl) (by kernel_rfl) (fun _ _ _ h => h) (Or.inl ⟨by rfl, ?y50w⟩) (by assumption) ?r50w
  case y50w => (intro x hx; (try dsimp only at hx); go_simp; try with_reducible rfl)
  try simp only [Act.put, List.setIfInBounds_toArray, List.set_cons_zero, List.set_cons_succ]
  refine wpAnyH_take (i := 51) (oi := { dst := some 8, op := Op.assign (Operand.tmp 115), type := 4, pos := "law.go:296", after := #[{ on := 50, ground := Ground.data }, { on := 49, ground := Ground.chain }, { on := 0, ground := Ground.phase }, { on := 1, ground := Ground.phase }, { on := 2, ground := Ground.phase }, { on := 3, ground := Ground.phase }, { on := 4, ground := Ground.phase }, { on := 5, ground := Ground.phase }, { on := 6, ground := Ground.phase }, { on := 7, ground := Ground.phase }, { on := 8, ground := Ground.phase }, { on := 9, ground := Ground.phase }, { on := 10, ground := Ground.phase }, { on := 11, ground := Ground.phase }, { on := 12, ground := Ground.phase }, { on := 13, ground := Ground.phase }, { on := 14, ground := Ground.phase }, { on := 15, ground := Ground.phase }, { on := 16, ground := Ground.phase }, { on := 17, ground := Ground.phase }, { on := 18, ground := Ground.phase }, { on := 19, ground := Ground.phase }, { on := 20, ground := Ground.phase }, { on := 21, ground := Ground.phase }, { on := 22, ground := Ground.phase }, { on := 23, ground := Ground.phase }, { on := 24, ground := Ground.phase }, { on := 25, ground := Ground.phase }, { on := 26, ground := Ground.phase }, { on := 27, ground := Ground.phase }, { on := 28, ground := Ground.phase }, { on := 29, ground := Ground.phase }, { on := 30, ground := Ground.phase }, { on := 31, ground := Ground.phase }, { on := 32, ground := Ground.phase }, { on := 33, ground := Ground.phase }, { on := 34, ground := Ground.phase }, { on := 35, ground := Ground.phase }, { on := 36, ground := Ground.phase }, { on := 37, ground := Ground.phase }, { on := 38, ground := Ground.phase }, { on := 39, ground := Ground.phase }, { on := 40, ground := Ground.phase }, { on := 41, ground := Ground.phase }, { on := 42, ground := Ground.phase }, { on := 43, ground := Ground.phase }, { on := 44, ground := Ground.phase }, { on := 45, ground := Ground.phase }, { on := 46, ground := Ground.phase }, { on := 47, ground := Ground.phase }, { on := 48, ground := Ground.phase }, { on := 49, ground := Ground.phase }, { on := 50, ground := Ground.phase }], guard := none }) (v := ?v51w) rfl (by kernel_rfl) (by kernel_rfl) (by kernel_rfl) (fun _ _ _ h => h) (Or.inl ⟨by rfl, ?y51w⟩) (by assumption) ?r51w
  case y51w => (intro x hx; (try dsimp only at hx); go_simp; try with_reducible rfl)
  try simp only [Act.put, List.setIfInBounds_toArray, List.set_cons_zero, List.set_cons_succ]
  refine wpAnyH_done (by kernel_rfl) ?_ _
  clear hHeld
  go_wp2
  go_ret
  exact ⟨rfl, HK.out.jv.bel⟩
theorem imagesWalk (B P S : Int) (a : Option Addr) (len cap : Nat) (b : List Int) (ma : Option Addr) (mn mc : Nat) (ms : List Bool) (av : Int) (w : World) (hR : Reads w a len b) (hl : len ≤ 140737488351232) (hc : len ≤ cap) (hcm : cap ≤ 9223372036854775807) (hM : ReadsB w ma mn ms) (hmn : mn ≤ 140737488351232) (wi : (Lit.int .i64 av).wf = true) :
    Calls Try.prog 3 #[.agg #[.int .i64 B, .int .i64 P, .int .i64 S], .slice a len cap, .slice ma mn mc, .int .i64 av] w fun e w' => e = .returned (.bool true) ∧ Below w.heap.size w w' := by
  cases hf : (Fits B P S && decide (B * P ≤ 128)) with
  | false => exact images_no w B P S hf a len cap ma mn mc av
  | true =>
    rw [Bool.and_eq_true] at hf
    obtain ⟨h1, h2⟩ := hf
    have h0 := of_decide_eq_true h1
    have h3 := of_decide_eq_true h2
    obtain ⟨B', rfl⟩ : ∃ b : Nat, B = b := ⟨B.toNat, by omega⟩
    obtain ⟨P', rfl⟩ : ∃ b : Nat, P = b := ⟨P.toNat, by omega⟩
    obtain ⟨S', rfl⟩ : ∃ b : Nat, S = b := ⟨S.toNat, by omega⟩
    rw [← Int.natCast_mul] at h3
    exact images_yes w B' P' S' h1 (by omega) a len cap b hR (by omega) ma mn mc ms hM (by omega) av
end Go.Proofs.Ytadlkikjfonkgaa
