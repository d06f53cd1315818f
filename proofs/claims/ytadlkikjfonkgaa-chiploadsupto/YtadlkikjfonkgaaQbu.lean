/-
  SEAT Ytadlkikjfonkgaa: Vn.
-/
import Derived.Test.YtadlkikjfonkgaaQa
import Derived.Test.YtadlkikjfonkgaaQbt
namespace Go.Proofs.Ytadlkikjfonkgaa
open Go.RowKit Go.Conc
set_option linter.unusedVariables false
set_option maxRecDepth 100000
set_option maxHeartbeats 4000000
set_option maxHeartbeats 16000000 in
theorem loadsWalk (B P S : Int) (ca : Option Addr) (cn cc : Nat) (zs : List Int) (ma : Option Addr) (mn mc : Nat) (ms : List Bool) (sa : Option Addr) (n cp : Nat) (fs : List Fc) (oa : Option Addr) (on oc : Nat) (xs : List Ox) (w : World) (hZ : Reads w ca cn zs) (hcn : cn ≤ 1048576) (hcc : cn ≤ cc) (hM : ReadsB w ma mn ms) (hmn : mn ≤ 1048576) (hmc : ma = none → mc = 0) (hF : ReadsF w sa n fs) (hn : n ≤ 1048576) (hO : ReadsO w oa on xs) (hon : on ≤ 1048576) :
  Calls Try.prog 8 #[.agg #[.int .i64 B, .int .i64 P, .int .i64 S, .slice ca cn cc, .slice ma mn mc], .slice sa n cp, .slice oa on oc] w fun e w' => e = .returned (.bool true) ∧ Below w.heap.size w w' := by
 have HBM := J (below_alloc w (.cells #[.int .i64 B, .int .i64 P, .int .i64 S, .slice ca cn cc, .slice ma mn mc] 27))
 have HMX0 : Hid ((w.alloc (.cells #[.int .i64 B, .int .i64 P, .int .i64 S, .slice ca cn cc, .slice ma mn mc] 27)).heap[w.heap.size]? = some (.cells #[.int .i64 B, .int .i64 P, .int .i64 S, .slice ca cn cc, .slice ma mn mc] 27 (0, 0))) := alloc_new w (.cells #[.int .i64 B, .int .i64 P, .int .i64 S, .slice ca cn cc, .slice ma mn mc] 27)
 have HZ := J hZ
 have HMS := J hM
 have HRF0 := J hF
 have HO := J hO
 obtain ⟨i4, hA1, hA2, hA3, hA4⟩ := info_parts info4b2
 clear hZ hM hF hO
 go_enter Try.func8, Try.ntmps8
 go_upto_region 2 with (go_at_call 37; refine (faultsL_any _ sa n cp fs (HRF0.out.below HBM.out) (by omega)).mono ?_; rintro e v1 hv1; obtain ⟨gf, cf, fx, rfl, of, hcy⟩ := hv1.ex; have HOF := J of; have HCY := J hcy; have HB1 := J hv1.bel; clear hv1 of hcy)
 generalize hqm : w.heap.size = qm at HMX0 ⊢
 have HQM := J hqm
 obtain ⟨U, hU⟩ : ∃ x, v1.drew = x := ⟨_, rfl⟩
 have HU := J (show Below v1.heap.size v1 U by rw [← hU]; exact drew_below v1)
 have HBU := J (below_trans HBM.out (below_trans HB1.out HU.out))
 have HMU0 := J (((below_trans HB1.out HU.out).block _ (lt_of_block HMX0.out)).trans HMX0.out)
 have HZU := J (HZ.out.below HBU.out)
 have HMU := J (HMS.out.below HBU.out)
 have HS : Hid (∀ u, Below U.heap.size U u → u.cell? ⟨qm, 0, none⟩ = some (.int .i64 B) ∧ u.cell? ⟨qm, 1, none⟩ = some (.int .i64 P) ∧ u.cell? ⟨qm, 2, none⟩ = some (.int .i64 S) ∧ u.cell? ⟨qm, 3, none⟩ = some (.slice ca cn cc) ∧ u.cell? ⟨qm, 4, none⟩ = some (.slice ma mn mc)) := fun u hu => cells5 ((hu.block _ (lt_of_block HMU0.out)).trans HMU0.out)
 have HSd : Hid ((fun u => u.cell? ⟨qm, 0, none⟩ = some (.int .i64 B) ∧ u.cell? ⟨qm, 1, none⟩ = some (.int .i64 P) ∧ u.cell? ⟨qm, 2, none⟩ = some (.int .i64 S) ∧ u.cell? ⟨qm, 3, none⟩ = some (.slice ca cn cc) ∧ u.cell? ⟨qm, 4, none⟩ = some (.slice ma mn mc)) v1.drew) := by rw [hU]; exact HS.out U (Below.refl _ _)
 have H0 : (Ev U U cn mn zs ms none none none none none none) := ⟨Below.refl _ _, (fun _ e => by cases e), (fun _ _ e => by cases e), (fun _ e => by cases e), (fun _ e => by cases e), (fun _ e => by cases e), (fun _ _ e => by cases e)⟩
 go_cut [8] from 8 to 35 (fun s8 wx => ∃ q g1 c1 g2 c2, s8 = .pointer (some ⟨q, 0, none⟩) ∧ InR U wx B P S cn mn zs ms q g1 c1 g2 c2)
 case first =>
  refine wp_region_held_drew (S := (fun u => u.cell? ⟨qm, 0, none⟩ = some (.int .i64 B) ∧ u.cell? ⟨qm, 1, none⟩ = some (.int .i64 P) ∧ u.cell? ⟨qm, 2, none⟩ = some (.int .i64 S) ∧ u.cell? ⟨qm, 3, none⟩ = some (.slice ca cn cc) ∧ u.cell? ⟨qm, 4, none⟩ = some (.slice ma mn mc))) (by kernel_rfl) (HSd.out) fun O => ?_
  rw [hU] at O ⊢
  refine tk 0 ?_
  refine tk 1 ?_
  refine tk 2 ?_
  refine tk 3 ?_
  refine tk 6 ?_
  refine tk 7 ?_
  refine tk 11 ?_
  refine tk 12 ?_
  refine tk 13 ?_
  have H := H0
  clear H0
  refine rn4 4 5 9 16 (fun K N => ?x1a) (fun K N => ?x1b) (fun K N => ?x1c) (fun K N => ?x1d)
  case' x1a =>
   refine st4 (HZU.out.below H.bel) (by omega) rfl fun g1 c1 u4 o1 b1 => ?_
   have H := H.c4 b1 o1
   refine N.out _ _ (HS.out _ H.bel) fun O => ?_
   try simp only [zz]
   refine rn3 5 9 16 (fun K N => ?x2a) (fun K N => ?x2b) (fun K N => ?x2c)
   case' x2a =>
    have H := H.a5
    refine st5 (N.out _ _ (HS.out _ H.bel) fun O => ?_)
    refine rn3 8 9 16 (fun K N => ?x3a) (fun K N => ?x3b) (fun K N => ?x3c)
    case' x3a =>
     refine wp_app8 (.tmp 25) (.tmp 27) rfl (H.x5 _ rfl) (HMU.out.below H.bel) rfl rfl hmc (by omega) H.bel.size fun y8 u8 o8 g8 l8 => ?_
     have H := Ev.c8 _ rfl H o8 g8 l8 rfl
     refine N.out _ _ (HS.out _ H.bel) fun O => ?_
     try simp only [zz]
    case' x3b =>
     have H := H.a9
     refine st9 (N.out _ _ (HS.out _ H.bel) fun O => ?_)
    case' x3c =>
     have H := H.a16
     refine st16 (N.out _ _ (HS.out _ H.bel) fun O => ?_)
   case' x2b =>
    have H := H.a9
    refine st9 (N.out _ _ (HS.out _ H.bel) fun O => ?_)
    refine rn2 5 16 (fun K N => ?x4a) (fun K N => ?x4b)
    case' x4a =>
     have H := H.a5
     refine st5 (N.out _ _ (HS.out _ H.bel) fun O => ?_)
    case' x4b =>
     have H := H.a16
     refine st16 (N.out _ _ (HS.out _ H.bel) fun O => ?_)
   case' x2c =>
    have H := H.a16
    refine st16 (N.out _ _ (HS.out _ H.bel) fun O => ?_)
    refine rn2 5 9 (fun K N => ?x5a) (fun K N => ?x5b)
    case' x5a =>
     have H := H.a5
     refine st5 (N.out _ _ (HS.out _ H.bel) fun O => ?_)
    case' x5b =>
     have H := H.a9
     refine st9 (N.out _ _ (HS.out _ H.bel) fun O => ?_)
  case' x1b =>
   have H := H.a5
   refine st5 (N.out _ _ (HS.out _ H.bel) fun O => ?_)
   refine rn3 4 9 16 (fun K N => ?x6a) (fun K N => ?x6b) (fun K N => ?x6c)
   case' x6a =>
    refine st4 (HZU.out.below H.bel) (by omega) rfl fun g1 c1 u4 o1 b1 => ?_
    have H := H.c4 b1 o1
    refine N.out _ _ (HS.out _ H.bel) fun O => ?_
    try simp only [zz]
    refine rn3 8 9 16 (fun K N => ?x7a) (fun K N => ?x7b) (fun K N => ?x7c)
    case' x7a =>
     refine wp_app8 (.tmp 25) (.tmp 27) rfl (H.x5 _ rfl) (HMU.out.below H.bel) rfl rfl hmc (by omega) H.bel.size fun y8 u8 o8 g8 l8 => ?_
     have H := Ev.c8 _ rfl H o8 g8 l8 rfl
     refine N.out _ _ (HS.out _ H.bel) fun O => ?_
     try simp only [zz]
    case' x7b =>
     have H := H.a9
     refine st9 (N.out _ _ (HS.out _ H.bel) fun O => ?_)
    case' x7c =>
     have H := H.a16
     refine st16 (N.out _ _ (HS.out _ H.bel) fun O => ?_)
   case' x6b =>
    have H := H.a9
    refine st9 (N.out _ _ (HS.out _ H.bel) fun O => ?_)
    refine rn2 4 16 (fun K N => ?x8a) (fun K N => ?x8b)
    case' x8a =>
     refine st4 (HZU.out.below H.bel) (by omega) rfl fun g1 c1 u4 o1 b1 => ?_
     have H := H.c4 b1 o1
     refine N.out _ _ (HS.out _ H.bel) fun O => ?_
     try simp only [zz]
    case' x8b =>
     have H := H.a16
     refine st16 (N.out _ _ (HS.out _ H.bel) fun O => ?_)
   case' x6c =>
    have H := H.a16
    refine st16 (N.out _ _ (HS.out _ H.bel) fun O => ?_)
    refine rn2 4 9 (fun K N => ?x9a) (fun K N => ?x9b)
    case' x9a =>
     refine st4 (HZU.out.below H.bel) (by omega) rfl fun g1 c1 u4 o1 b1 => ?_
     have H := H.c4 b1 o1
     refine N.out _ _ (HS.out _ H.bel) fun O => ?_
     try simp only [zz]
    case' x9b =>
     have H := H.a9
     refine st9 (N.out _ _ (HS.out _ H.bel) fun O => ?_)
  case' x1c =>
   have H := H.a9
   refine st9 (N.out _ _ (HS.out _ H.bel) fun O => ?_)
   refine rn3 4 5 16 (fun K N => ?x10a) (fun K N => ?x10b) (fun K N => ?x10c)
   case' x10a =>
    refine st4 (HZU.out.below H.bel) (by omega) rfl fun g1 c1 u4 o1 b1 => ?_
    have H := H.c4 b1 o1
    refine N.out _ _ (HS.out _ H.bel) fun O => ?_
    try simp only [zz]
    refine rn2 5 16 (fun K N => ?x11a) (fun K N => ?x11b)
    case' x11a =>
     have H := H.a5
     refine st5 (N.out _ _ (HS.out _ H.bel) fun O => ?_)
    case' x11b =>
     have H := H.a16
     refine st16 (N.out _ _ (HS.out _ H.bel) fun O => ?_)
   case' x10b =>
    have H := H.a5
    refine st5 (N.out _ _ (HS.out _ H.bel) fun O => ?_)
    refine rn2 4 16 (fun K N => ?x12a) (fun K N => ?x12b)
    case' x12a =>
     refine st4 (HZU.out.below H.bel) (by omega) rfl fun g1 c1 u4 o1 b1 => ?_
     have H := H.c4 b1 o1
     refine N.out _ _ (HS.out _ H.bel) fun O => ?_
     try simp only [zz]
    case' x12b =>
     have H := H.a16
     refine st16 (N.out _ _ (HS.out _ H.bel) fun O => ?_)
   case' x10c =>
    have H := H.a16
    refine st16 (N.out _ _ (HS.out _ H.bel) fun O => ?_)
    refine rn2 4 5 (fun K N => ?x13a) (fun K N => ?x13b)
    case' x13a =>
     refine st4 (HZU.out.below H.bel) (by omega) rfl fun g1 c1 u4 o1 b1 => ?_
     have H := H.c4 b1 o1
     refine N.out _ _ (HS.out _ H.bel) fun O => ?_
     try simp only [zz]
    case' x13b =>
     have H := H.a5
     refine st5 (N.out _ _ (HS.out _ H.bel) fun O => ?_)
  case' x1d =>
   have H := H.a16
   refine st16 (N.out _ _ (HS.out _ H.bel) fun O => ?_)
   refine rn3 4 5 9 (fun K N => ?x14a) (fun K N => ?x14b) (fun K N => ?x14c)
   case' x14a =>
    refine st4 (HZU.out.below H.bel) (by omega) rfl fun g1 c1 u4 o1 b1 => ?_
    have H := H.c4 b1 o1
    refine N.out _ _ (HS.out _ H.bel) fun O => ?_
    try simp only [zz]
    refine rn2 5 9 (fun K N => ?x15a) (fun K N => ?x15b)
    case' x15a =>
     have H := H.a5
     refine st5 (N.out _ _ (HS.out _ H.bel) fun O => ?_)
    case' x15b =>
     have H := H.a9
     refine st9 (N.out _ _ (HS.out _ H.bel) fun O => ?_)
   case' x14b =>
    have H := H.a5
    refine st5 (N.out _ _ (HS.out _ H.bel) fun O => ?_)
    refine rn2 4 9 (fun K N => ?x16a) (fun K N => ?x16b)
    case' x16a =>
     refine st4 (HZU.out.below H.bel) (by omega) rfl fun g1 c1 u4 o1 b1 => ?_
     have H := H.c4 b1 o1
     refine N.out _ _ (HS.out _ H.bel) fun O => ?_
     try simp only [zz]
    case' x16b =>
     have H := H.a9
     refine st9 (N.out _ _ (HS.out _ H.bel) fun O => ?_)
   case' x14c =>
    have H := H.a9
    refine st9 (N.out _ _ (HS.out _ H.bel) fun O => ?_)
    refine rn2 4 5 (fun K N => ?x17a) (fun K N => ?x17b)
    case' x17a =>
     refine st4 (HZU.out.below H.bel) (by omega) rfl fun g1 c1 u4 o1 b1 => ?_
     have H := H.c4 b1 o1
     refine N.out _ _ (HS.out _ H.bel) fun O => ?_
     try simp only [zz]
    case' x17b =>
     have H := H.a5
     refine st5 (N.out _ _ (HS.out _ H.bel) fun O => ?_)
  case x3a | x7a =>
   refine rn2 9 16 (fun K N => ?_) fun K N => ?_
   ·have H := H.a9
    refine st9 (N.out _ _ (HS.out _ H.bel) fun O => ?_)
    refine rn2 10 16 (fun K N => ?_) fun K N => ?_
    ·refine wp_app10 U.heap.size mn rfl hmn (H.x8 _ rfl) rfl rfl (H.x9 _ rfl).1 H.bel.size fun g2 c2 u10 o10 g10 => ?_
     have hfr := fun u : World => front25 u g2 mn (mn + 1) c2 (by have := own_capG o10; omega)
     have H := H.c10 o10 g10
     refine N.out _ _ (HS.out _ H.bel) fun O => ?_
     try simp only [zz]
     refine tk 14 ?_
     refine tk 15 ?_
     refine rn1 16 fun K N => ?_
     have H := H.a16
     refine st16 (N.out _ _ (HS.out _ H.bel) fun O => ?_)
     refine rn1 17 fun K N => st17 H rfl rfl fun v9 hin => N.out _ _ (HS.out _ hin.bel) fun O => ?_
     try simp only [alloc_size] at hin
     refine td ?_
     clear O
     go_wp2
     go_meet
     exact ⟨_, _, _, _, _, rfl, hin⟩
    ·have H := H.a16
     refine st16 (N.out _ _ (HS.out _ H.bel) fun O => ?_)
     refine rn1 10 fun K N => ?_
     refine wp_app10 U.heap.size mn rfl hmn (H.x8 _ rfl) rfl rfl (H.x9 _ rfl).1 H.bel.size fun g2 c2 u10 o10 g10 => ?_
     have hfr := fun u : World => front25 u g2 mn (mn + 1) c2 (by have := own_capG o10; omega)
     have H := H.c10 o10 g10
     refine N.out _ _ (HS.out _ H.bel) fun O => ?_
     try simp only [zz]
     refine tk 14 ?_
     refine tk 15 ?_
     refine rn1 17 fun K N => st17 H rfl rfl fun v9 hin => N.out _ _ (HS.out _ hin.bel) fun O => ?_
     try simp only [alloc_size] at hin
     refine td ?_
     clear O
     go_wp2
     go_meet
     exact ⟨_, _, _, _, _, rfl, hin⟩
   ·have H := H.a16
    refine st16 (N.out _ _ (HS.out _ H.bel) fun O => ?_)
    refine rn1 9 fun K N => ?_
    have H := H.a9
    refine st9 (N.out _ _ (HS.out _ H.bel) fun O => ?_)
    refine rn1 10 fun K N => ?_
    refine wp_app10 U.heap.size mn rfl hmn (H.x8 _ rfl) rfl rfl (H.x9 _ rfl).1 H.bel.size fun g2 c2 u10 o10 g10 => ?_
    have hfr := fun u : World => front25 u g2 mn (mn + 1) c2 (by have := own_capG o10; omega)
    have H := H.c10 o10 g10
    refine N.out _ _ (HS.out _ H.bel) fun O => ?_
    try simp only [zz]
    refine tk 14 ?_
    refine tk 15 ?_
    refine rn1 17 fun K N => st17 H rfl rfl fun v9 hin => N.out _ _ (HS.out _ hin.bel) fun O => ?_
    try simp only [alloc_size] at hin
    refine td ?_
    clear O
    go_wp2
    go_meet
    exact ⟨_, _, _, _, _, rfl, hin⟩
  case x3b | x4a | x7b | x8a | x11a | x12a =>
   refine rn2 8 16 (fun K N => ?_) fun K N => ?_
   ·refine wp_app8 (.tmp 25) (.tmp 27) rfl (H.x5 _ rfl) (HMU.out.below H.bel) rfl rfl hmc (by omega) H.bel.size fun y8 u8 o8 g8 l8 => ?_
    have H := Ev.c8 _ rfl H o8 g8 l8 rfl
    refine N.out _ _ (HS.out _ H.bel) fun O => ?_
    try simp only [zz]
    refine rn2 10 16 (fun K N => ?_) fun K N => ?_
    ·refine wp_app10 U.heap.size mn rfl hmn (H.x8 _ rfl) rfl rfl (H.x9 _ rfl).1 H.bel.size fun g2 c2 u10 o10 g10 => ?_
     have hfr := fun u : World => front25 u g2 mn (mn + 1) c2 (by have := own_capG o10; omega)
     have H := H.c10 o10 g10
     refine N.out _ _ (HS.out _ H.bel) fun O => ?_
     try simp only [zz]
     refine tk 14 ?_
     refine tk 15 ?_
     refine rn1 16 fun K N => ?_
     have H := H.a16
     refine st16 (N.out _ _ (HS.out _ H.bel) fun O => ?_)
     refine rn1 17 fun K N => st17 H rfl rfl fun v9 hin => N.out _ _ (HS.out _ hin.bel) fun O => ?_
     try simp only [alloc_size] at hin
     refine td ?_
     clear O
     go_wp2
     go_meet
     exact ⟨_, _, _, _, _, rfl, hin⟩
    ·have H := H.a16
     refine st16 (N.out _ _ (HS.out _ H.bel) fun O => ?_)
     refine rn1 10 fun K N => ?_
     refine wp_app10 U.heap.size mn rfl hmn (H.x8 _ rfl) rfl rfl (H.x9 _ rfl).1 H.bel.size fun g2 c2 u10 o10 g10 => ?_
     have hfr := fun u : World => front25 u g2 mn (mn + 1) c2 (by have := own_capG o10; omega)
     have H := H.c10 o10 g10
     refine N.out _ _ (HS.out _ H.bel) fun O => ?_
     try simp only [zz]
     refine tk 14 ?_
     refine tk 15 ?_
     refine rn1 17 fun K N => st17 H rfl rfl fun v9 hin => N.out _ _ (HS.out _ hin.bel) fun O => ?_
     try simp only [alloc_size] at hin
     refine td ?_
     clear O
     go_wp2
     go_meet
     exact ⟨_, _, _, _, _, rfl, hin⟩
   ·have H := H.a16
    refine st16 (N.out _ _ (HS.out _ H.bel) fun O => ?_)
    refine rn1 8 fun K N => ?_
    refine wp_app8 (.tmp 25) (.tmp 27) rfl (H.x5 _ rfl) (HMU.out.below H.bel) rfl rfl hmc (by omega) H.bel.size fun y8 u8 o8 g8 l8 => ?_
    have H := Ev.c8 _ rfl H o8 g8 l8 rfl
    refine N.out _ _ (HS.out _ H.bel) fun O => ?_
    try simp only [zz]
    refine rn1 10 fun K N => ?_
    refine wp_app10 U.heap.size mn rfl hmn (H.x8 _ rfl) rfl rfl (H.x9 _ rfl).1 H.bel.size fun g2 c2 u10 o10 g10 => ?_
    have hfr := fun u : World => front25 u g2 mn (mn + 1) c2 (by have := own_capG o10; omega)
    have H := H.c10 o10 g10
    refine N.out _ _ (HS.out _ H.bel) fun O => ?_
    try simp only [zz]
    refine tk 14 ?_
    refine tk 15 ?_
    refine rn1 17 fun K N => st17 H rfl rfl fun v9 hin => N.out _ _ (HS.out _ hin.bel) fun O => ?_
    try simp only [alloc_size] at hin
    refine td ?_
    clear O
    go_wp2
    go_meet
    exact ⟨_, _, _, _, _, rfl, hin⟩
  case x3c | x5a | x7c | x9a | x15a | x16a =>
   refine rn2 8 9 (fun K N => ?_) fun K N => ?_
   ·refine wp_app8 (.tmp 25) (.tmp 27) rfl (H.x5 _ rfl) (HMU.out.below H.bel) rfl rfl hmc (by omega) H.bel.size fun y8 u8 o8 g8 l8 => ?_
    have H := Ev.c8 _ rfl H o8 g8 l8 rfl
    refine N.out _ _ (HS.out _ H.bel) fun O => ?_
    try simp only [zz]
    refine rn1 9 fun K N => ?_
    have H := H.a9
    refine st9 (N.out _ _ (HS.out _ H.bel) fun O => ?_)
    refine rn1 10 fun K N => ?_
    refine wp_app10 U.heap.size mn rfl hmn (H.x8 _ rfl) rfl rfl (H.x9 _ rfl).1 H.bel.size fun g2 c2 u10 o10 g10 => ?_
    have hfr := fun u : World => front25 u g2 mn (mn + 1) c2 (by have := own_capG o10; omega)
    have H := H.c10 o10 g10
    refine N.out _ _ (HS.out _ H.bel) fun O => ?_
    try simp only [zz]
    refine tk 14 ?_
    refine tk 15 ?_
    refine rn1 17 fun K N => st17 H rfl rfl fun v9 hin => N.out _ _ (HS.out _ hin.bel) fun O => ?_
    try simp only [alloc_size] at hin
    refine td ?_
    clear O
    go_wp2
    go_meet
    exact ⟨_, _, _, _, _, rfl, hin⟩
   ·have H := H.a9
    refine st9 (N.out _ _ (HS.out _ H.bel) fun O => ?_)
    refine rn1 8 fun K N => ?_
    refine wp_app8 (.tmp 25) (.tmp 27) rfl (H.x5 _ rfl) (HMU.out.below H.bel) rfl rfl hmc (by omega) H.bel.size fun y8 u8 o8 g8 l8 => ?_
    have H := Ev.c8 _ rfl H o8 g8 l8 rfl
    refine N.out _ _ (HS.out _ H.bel) fun O => ?_
    try simp only [zz]
    refine rn1 10 fun K N => ?_
    refine wp_app10 U.heap.size mn rfl hmn (H.x8 _ rfl) rfl rfl (H.x9 _ rfl).1 H.bel.size fun g2 c2 u10 o10 g10 => ?_
    have hfr := fun u : World => front25 u g2 mn (mn + 1) c2 (by have := own_capG o10; omega)
    have H := H.c10 o10 g10
    refine N.out _ _ (HS.out _ H.bel) fun O => ?_
    try simp only [zz]
    refine tk 14 ?_
    refine tk 15 ?_
    refine rn1 17 fun K N => st17 H rfl rfl fun v9 hin => N.out _ _ (HS.out _ hin.bel) fun O => ?_
    try simp only [alloc_size] at hin
    refine td ?_
    clear O
    go_wp2
    go_meet
    exact ⟨_, _, _, _, _, rfl, hin⟩
  case x4b | x5b | x11b | x13a | x15b | x17a =>
   refine rn1 5 fun K N => ?_
   have H := H.a5
   refine st5 (N.out _ _ (HS.out _ H.bel) fun O => ?_)
   refine rn1 8 fun K N => ?_
   refine wp_app8 (.tmp 25) (.tmp 27) rfl (H.x5 _ rfl) (HMU.out.below H.bel) rfl rfl hmc (by omega) H.bel.size fun y8 u8 o8 g8 l8 => ?_
   have H := Ev.c8 _ rfl H o8 g8 l8 rfl
   refine N.out _ _ (HS.out _ H.bel) fun O => ?_
   try simp only [zz]
   refine rn1 10 fun K N => ?_
   refine wp_app10 U.heap.size mn rfl hmn (H.x8 _ rfl) rfl rfl (H.x9 _ rfl).1 H.bel.size fun g2 c2 u10 o10 g10 => ?_
   have hfr := fun u : World => front25 u g2 mn (mn + 1) c2 (by have := own_capG o10; omega)
   have H := H.c10 o10 g10
   refine N.out _ _ (HS.out _ H.bel) fun O => ?_
   try simp only [zz]
   refine tk 14 ?_
   refine tk 15 ?_
   refine rn1 17 fun K N => st17 H rfl rfl fun v9 hin => N.out _ _ (HS.out _ hin.bel) fun O => ?_
   try simp only [alloc_size] at hin
   refine td ?_
   clear O
   go_wp2
   go_meet
   exact ⟨_, _, _, _, _, rfl, hin⟩
  case x8b | x9b | x12b | x13b | x16b | x17b =>
   refine rn1 4 fun K N => ?_
   refine st4 (HZU.out.below H.bel) (by omega) rfl fun g1 c1 u4 o1 b1 => ?_
   have H := H.c4 b1 o1
   refine N.out _ _ (HS.out _ H.bel) fun O => ?_
   try simp only [zz]
   refine rn1 8 fun K N => ?_
   refine wp_app8 (.tmp 25) (.tmp 27) rfl (H.x5 _ rfl) (HMU.out.below H.bel) rfl rfl hmc (by omega) H.bel.size fun y8 u8 o8 g8 l8 => ?_
   have H := Ev.c8 _ rfl H o8 g8 l8 rfl
   refine N.out _ _ (HS.out _ H.bel) fun O => ?_
   try simp only [zz]
   refine rn1 10 fun K N => ?_
   refine wp_app10 U.heap.size mn rfl hmn (H.x8 _ rfl) rfl rfl (H.x9 _ rfl).1 H.bel.size fun g2 c2 u10 o10 g10 => ?_
   have hfr := fun u : World => front25 u g2 mn (mn + 1) c2 (by have := own_capG o10; omega)
   have H := H.c10 o10 g10
   refine N.out _ _ (HS.out _ H.bel) fun O => ?_
   try simp only [zz]
   refine tk 14 ?_
   refine tk 15 ?_
   refine rn1 17 fun K N => st17 H rfl rfl fun v9 hin => N.out _ _ (HS.out _ hin.bel) fun O => ?_
   try simp only [alloc_size] at hin
   refine td ?_
   clear O
   go_wp2
   go_meet
   exact ⟨_, _, _, _, _, rfl, hin⟩
 case rest =>
 obtain ⟨q, g1, c1, g2, c2, rfl, hin⟩ := hcut
 have HIN := J hin
 clear hin H0 HSd HS hU
 have HSZ : Hid (w.heap.size < U.heap.size) := by have h1 := lt_of_block HMU0.out; have h2 := HQM.out; unfold Hid; omega
 have HUW : Hid (U.heap.size ≤ wc.heap.size) := HIN.out.bel.size
 have HG1 : Hid (U.heap.size ≤ g1) := HIN.out.o1.lt.1
 have HG2 : Hid (U.heap.size ≤ g2) := (HIN.out.o2.lt g2 rfl).1
 have HGL : Hid (g1 < wc.heap.size ∧ g2 < wc.heap.size) := ⟨HIN.out.o1.lt.2, (HIN.out.o2.lt g2 rfl).2⟩
 have HBC := J (below_trans HBU.out HIN.out.bel)
 have HMC := J ((HIN.out.bel.block _ (lt_of_block HMU0.out)).trans HMU0.out)
 have HNQ : Hid (¬ q = g1 ∧ ¬ q = g2) := ⟨(fun e => by obtain ⟨cs, hcs⟩ := own_tag HIN.out.o1 (g := g1) rfl; rw [← e, HIN.out.box] at hcs; cases hcs), (fun e => by obtain ⟨cs, hcs⟩ := own_tag HIN.out.o2 (g := g2) rfl; rw [← e, HIN.out.box] at hcs; cases hcs)⟩
 have HNM : Hid (¬ qm = g1 ∧ ¬ qm = g2) := ⟨(fun e => by have h1 := HQM.out; have h2 := HG1.out; have h3 := HSZ.out; omega), (fun e => by have h1 := HQM.out; have h2 := HG2.out; have h3 := HSZ.out; omega)⟩
 have HN12 : Hid (¬ g1 = g2) := fun e => by obtain ⟨cs, hcs⟩ := own_tag HIN.out.o1 (g := g1) rfl; obtain ⟨cs2, hcs2⟩ := own_tag HIN.out.o2 (g := g2) rfl; rw [← e, hcs] at hcs2; cases hcs2
 have hc1 : cn ≤ c1 := by have h1 := own_capG HIN.out.o1; omega
 have HR1 := J (HIN.out.rz HZ.out.1 HZ.out.2.1)
 have HR2 := J (HIN.out.rm HMS.out.1)
 have HFX : Hid (ReadsF wc (some ⟨gf, 0, none⟩) n fx) := ReadsF.below (readsF_own (own_front4 HOF.out (HXLx HCY.out HRF0.out.1)) (HCY.out.fok (HRF0.out.below HBM.out).2.1)) (below_trans HU.out HIN.out.bel)
 obtain ⟨p0, p1, p2, p3, p4⟩ := cells5 HIN.out.box
 obtain ⟨m0, m1, m2, m3, m4⟩ := cells5 HMC.out
 obtain ⟨zE, hzE⟩ : ∃ z, LoadE B P S cn mn fs = z := ⟨_, rfl⟩
 have HZE := J hzE
 clear hzE
 by_cases hz0 : zE = 0
 case' pos =>
  subst hz0
  have HFT := J (loadE_zero HZE.out).1
  have HFB := J (loadE_zero HZE.out).2
  go_upto_region 5 with (first
   | (go_at_call 39; have h9 := HB3; clear h9; refine (rLoad_any v3 B P S ca cn cc hcc zs (HZ.out.below HB03.out) ma mn mc ms (HMS.out.below HB03.out) sa n cp fs (HRF0.out.below HB03.out) (by omega)).mono ?_; rintro e v4 hv4; obtain ⟨d, rfl, xr, rsr, hra, hxa, hxn⟩ := hv4.yes HZE.out; have HRA := J (And.intro hra (And.intro hxa hxn)); clear hra hxa hxn; have HB4 := J hv4.bel; clear hv4 m0 m1 m2 m3 m4)
   | (go_at_call 10; refine (Load_any wc B P S (some ⟨g1, 0, none⟩) cn c1 hc1 zs HR1.out (some ⟨g2, 0, none⟩) mn c2 ms HR2.out (some ⟨gf, 0, none⟩) n cf fx HFX.out (by omega)).mono ?_; rintro e v3 hv3; obtain ⟨p, rfl, hch⟩ := hv3.yes ((loadE_eq HCY.out).trans HZE.out); rw [HCY.out.t] at hch; have HCH := J hch; clear hch; have HB3 := J hv3.bel; have HB03 := J (below_trans HBC.out HB3.out); obtain ⟨m0, m1, m2, m3, m4⟩ := cells5 ((HB3.out.block _ (lt_of_block HMC.out)).trans HMC.out); clear hv3 p0 p1 p2 p3 p4))
  have HB14 := J (show Below v1.heap.size v1 v4 from below_trans HU.out (below_trans HIN.out.bel (below_trans HB3.out HB4.out)))
  have HCY4 := J (HCY.out.below HB14.out)
  have HOF4 := J (owns_bel HOF.out HB14.out)
  have HBC4 := J (below_trans HB3.out HB4.out)
  have HFH : Hid (∀ (j : Nat) (c d : Fc), fs[j]? = some c → fx[j]? = some d → ∀ y, d.ma = some y → y.block < v1.heap.size) := fun j c d hc hd y hy => by
   obtain ⟨g9, k9, e9, ho9⟩ := HCY.out.ok j c d hc hd
   rw [e9] at hy
   cases hy
   exact ho9.lt.2
  have HGF : Hid (gf < v1.heap.size) := (HOF.out.lt gf rfl).2
  have hz1 : ((0 : Int) != 0) = false := by simp
  have HQ4 := J ((HBC4.out.block _ (lt_of_block HIN.out.box)).trans HIN.out.box)
  have HM4 := J ((HBC4.out.block _ (lt_of_block HMC.out)).trans HMC.out)
  have HNF : Hid (∀ j, j < w.heap.size + 1 ∨ U.heap.size ≤ j → ¬ ((w.alloc (.cells #[.int .i64 B, .int .i64 P, .int .i64 S, .slice ca cn cc, .slice ma mn mc] 27)).heap.size ≤ j ∧ j < v1.heap.size)) := fun j hj e => by have h1 := HU.out.size; have h2 := e.1; have h3 := e.2; simp at h2; omega
  go_upto_region 7 with (first
   | (go_at_call 11; refine (no_any' _ _).mono ?_; rintro e u9 ⟨rfl, hu9⟩; subst u9)
   | (go_at_call 41; have h9 := HO5; clear h9; refine (kept_any U.heap.size g1 cn c1 cn cc ca zs v5 (by omega) HZ5.out HP5.out).mono ?_; rintro e u6x ⟨rfl, k6, hk6⟩; subst u6x; clear r3 s3)
   | (go_at_call 40; refine (unspoilt_any (w.alloc (.cells #[.int .i64 B, .int .i64 P, .int .i64 S, .slice ca cn cc, .slice ma mn mc] 27)) _ v1.heap.size gf cf n sa cp fs fx (HRF0.out.below HBM.out) (by omega) (below_trans HB1.out HB14.out) HCY4.out HOF4.out HFH.out HGF.out).mono ?_; rintro e v5 ⟨rfl, ho5⟩; have HO5 := J ho5; have HQ5 := J ((ho5.block _ (lt_of_block HQ4.out) (HNF.out _ (Or.inr HIN.out.ge))).trans HQ4.out); have HM5 := J ((ho5.block _ (lt_of_block HM4.out) (HNF.out _ (Or.inl (by have := HQM.out; omega)))).trans HM4.out); have r3 := (cells5 HQ5.out).2.2.2.1; have s3 := (cells5 HM5.out).2.2.2.1; have HP5 : Hid (Own v5 U.heap.size g1 (cn + 3) c1 (zs ++ [161, 178, 195])) := owns_keep (owns_bel HIN.out.o1 HBC4.out) (fun g hg => by cases hg; obtain ⟨cs, hcs⟩ := own_tag (owns_bel HIN.out.o1 HBC4.out) (g := g1) rfl; exact ho5.block g1 (lt_of_block hcs) (HNF.out _ (Or.inr HG1.out))); have HZ5 := J (reads_keep (HZ.out.below (below_trans HBC.out HBC4.out)) (fun y hy h0 => ho5.block _ (Nat.lt_of_lt_of_le (reads_low' HZ.out hy h0) (below_trans HBC.out HBC4.out).size) (HNF.out _ (Or.inl (by have h9 := reads_low' HZ.out hy h0; omega))))); clear ho5))
  obtain ⟨v6, hv6x⟩ : ∃ x, x = v5.drewN k6 := ⟨_, rfl⟩
  rw [← hv6x]
  have HB56 := J (show Below v5.heap.size v5 v6 by rw [hv6x]; exact drewN_below v5 k6)
  clear hv6x
  have HQ6 := J ((HB56.out.block _ (lt_of_block HQ5.out)).trans HQ5.out)
  have HM6 := J ((HB56.out.block _ (lt_of_block HM5.out)).trans HM5.out)
  have HO1 := J (owns_bel HP5.out HB56.out)
  have HO2 : Hid (v6.ownsRow U.heap.size 4 1 (.slice (some ⟨g2, 0, none⟩) (mn + 1) c2) (mn + 1) (ms.map Value.bool ++ [.bool true])) := owns_bel (owns_keep (owns_bel HIN.out.o2 HBC4.out) (fun g hg => by cases hg; obtain ⟨cs, hcs⟩ := own_tag (owns_bel HIN.out.o2 HBC4.out) (g := g2) rfl; exact HO5.out.block g2 (lt_of_block hcs) (HNF.out _ (Or.inr HG2.out)))) HB56.out
  have HB6 : Hid (Below w.heap.size w v6) := by
   have h1 := below_trans HBC.out HBC4.out
   have h2 := h1.trans (HO5.out.below (B := w.heap.size) (fun j hj => by have h9 := hj.1; simp at h9; omega) h1.size)
   exact h2.trans (HB56.out.mono h2.size)
  have HLM : Hid (∀ (gM oM i : Nat) (z : Bool), gM < w.heap.size → w.cell? ⟨gM, oM + i, none⟩ = some (.bool z) → v6.cell? ⟨gM, oM + i, none⟩ = some (.bool z)) := fun gM oM i z hg hc => (HB6.out.cell (show (⟨gM, oM + i, none⟩ : Addr).block < w.heap.size from hg)).trans hc
  have HS3 := J HB3.out.size
  have HS4 := J HB4.out.size
  have HCH6 := J (((HCH.out.below HB4.out).only HO5.out (fun k hk => HNF.out k (Or.inr (by have h1 : wc.heap.size < k := hk.1; have h2 := HUW.out; omega)))).below HB56.out)
  have HRF6 : Hid (RefAt w v6 d (Nws v3 v4) (loadC B.toNat P.toNat S.toNat zs ms (fs.map Fc.t)) fs) := by
   have h0 : RefAt w v4 d (Nws v3 v4) (loadC B.toNat P.toNat S.toNat zs ms (fs.map Fc.t)) fs := ⟨xr, rsr, HRA.out.1.base HB03.out (by rw [HRA.out.2.1, HRA.out.2.2]; exact HRF0.out)⟩
   exact (h0.only HO5.out (fun k hk => HNF.out k (Or.inr (by have h1 : v3.heap.size ≤ k := hk.1; have h2 := HUW.out; have h3 := HS3.out; omega))) (fun k hk => by have h9 := hk.1; simp at h9; omega)).below HB56.out
  have HLF := J (loadC_life (B := B.toNat) (P := P.toNat) (S := S.toNat) (zs := zs) (ms := ms) (q := fs.map Fc.t) (by have h9 := HFT.out; have h8 := of_decide_eq_true h9; rw [show ((B.toNat : Nat) : Int) = B by omega, show ((P.toNat : Nat) : Int) = P by omega, show ((S.toNat : Nat) : Int) = S by omega]; exact h9))
  obtain ⟨C, hC⟩ : ∃ x, x = loadC B.toNat P.toNat S.toNat zs ms (fs.map Fc.t) := ⟨_, rfl⟩
  rw [← hC] at HCH6 HRF6 HLF
  clear hC HCH HRA
  clear hz1 HQ4 HM4 HQ5 HM5 HP5 HZ5 HCY4 HOF4 HFH
 case' neg =>
  go_upto_region 5 with (first
   | (go_at_call 39; have h9 := HB3; clear h9; refine (rLoad_any v3 B P S ca cn cc hcc zs (HZ.out.below HB03.out) ma mn mc ms (HMS.out.below HB03.out) sa n cp fs (HRF0.out.below HB03.out) (by omega)).mono ?_; rintro e v4 hv4; obtain rfl := hv4.no (by rw [HZE.out]; exact hz0); rw [HZE.out]; have HB4 := J hv4.bel; clear hv4 m0 m1 m2 m3 m4)
   | (go_at_call 10; refine (Load_any wc B P S (some ⟨g1, 0, none⟩) cn c1 hc1 zs HR1.out (some ⟨g2, 0, none⟩) mn c2 ms HR2.out (some ⟨gf, 0, none⟩) n cf fx HFX.out (by omega)).mono ?_; rintro e v3 hv3; obtain rfl := hv3.no (by rw [loadE_eq HCY.out, HZE.out]; exact hz0); rw [loadE_eq HCY.out, HZE.out]; have HB3 := J hv3.bel; have HB03 := J (below_trans HBC.out HB3.out); obtain ⟨m0, m1, m2, m3, m4⟩ := cells5 ((HB3.out.block _ (lt_of_block HMC.out)).trans HMC.out); clear hv3 p0 p1 p2 p3 p4))
  have HB14 := J (show Below v1.heap.size v1 v4 from below_trans HU.out (below_trans HIN.out.bel (below_trans HB3.out HB4.out)))
  have HCY4 := J (HCY.out.below HB14.out)
  have HOF4 := J (owns_bel HOF.out HB14.out)
  have HBC4 := J (below_trans HB3.out HB4.out)
  have HFH : Hid (∀ (j : Nat) (c d : Fc), fs[j]? = some c → fx[j]? = some d → ∀ y, d.ma = some y → y.block < v1.heap.size) := fun j c d hc hd y hy => by
   obtain ⟨g9, k9, e9, ho9⟩ := HCY.out.ok j c d hc hd
   rw [e9] at hy
   cases hy
   exact ho9.lt.2
  have HGF : Hid (gf < v1.heap.size) := (HOF.out.lt gf rfl).2
  have hz1 : ((zE : Int) != zE) = false := by simp
  have HQ4 := J ((HBC4.out.block _ (lt_of_block HIN.out.box)).trans HIN.out.box)
  have HM4 := J ((HBC4.out.block _ (lt_of_block HMC.out)).trans HMC.out)
  have HNF : Hid (∀ j, j < w.heap.size + 1 ∨ U.heap.size ≤ j → ¬ ((w.alloc (.cells #[.int .i64 B, .int .i64 P, .int .i64 S, .slice ca cn cc, .slice ma mn mc] 27)).heap.size ≤ j ∧ j < v1.heap.size)) := fun j hj e => by have h1 := HU.out.size; have h2 := e.1; have h3 := e.2; simp at h2; omega
  go_upto_region 7 with (first
   | (go_at_call 11; refine (no_any' _ _).mono ?_; rintro e u9 ⟨rfl, hu9⟩; subst u9)
   | (go_at_call 41; have h9 := HO5; clear h9; refine (kept_any U.heap.size g1 cn c1 cn cc ca zs v5 (by omega) HZ5.out HP5.out).mono ?_; rintro e u6x ⟨rfl, k6, hk6⟩; subst u6x; clear r3 s3)
   | (go_at_call 40; refine (unspoilt_any (w.alloc (.cells #[.int .i64 B, .int .i64 P, .int .i64 S, .slice ca cn cc, .slice ma mn mc] 27)) _ v1.heap.size gf cf n sa cp fs fx (HRF0.out.below HBM.out) (by omega) (below_trans HB1.out HB14.out) HCY4.out HOF4.out HFH.out HGF.out).mono ?_; rintro e v5 ⟨rfl, ho5⟩; have HO5 := J ho5; have HQ5 := J ((ho5.block _ (lt_of_block HQ4.out) (HNF.out _ (Or.inr HIN.out.ge))).trans HQ4.out); have HM5 := J ((ho5.block _ (lt_of_block HM4.out) (HNF.out _ (Or.inl (by have := HQM.out; omega)))).trans HM4.out); have r3 := (cells5 HQ5.out).2.2.2.1; have s3 := (cells5 HM5.out).2.2.2.1; have HP5 : Hid (Own v5 U.heap.size g1 (cn + 3) c1 (zs ++ [161, 178, 195])) := owns_keep (owns_bel HIN.out.o1 HBC4.out) (fun g hg => by cases hg; obtain ⟨cs, hcs⟩ := own_tag (owns_bel HIN.out.o1 HBC4.out) (g := g1) rfl; exact ho5.block g1 (lt_of_block hcs) (HNF.out _ (Or.inr HG1.out))); have HZ5 := J (reads_keep (HZ.out.below (below_trans HBC.out HBC4.out)) (fun y hy h0 => ho5.block _ (Nat.lt_of_lt_of_le (reads_low' HZ.out hy h0) (below_trans HBC.out HBC4.out).size) (HNF.out _ (Or.inl (by have h9 := reads_low' HZ.out hy h0; omega))))); clear ho5))
  obtain ⟨v6, hv6x⟩ : ∃ x, x = v5.drewN k6 := ⟨_, rfl⟩
  rw [← hv6x]
  have HB56 := J (show Below v5.heap.size v5 v6 by rw [hv6x]; exact drewN_below v5 k6)
  clear hv6x
  have HQ6 := J ((HB56.out.block _ (lt_of_block HQ5.out)).trans HQ5.out)
  have HM6 := J ((HB56.out.block _ (lt_of_block HM5.out)).trans HM5.out)
  have HO1 := J (owns_bel HP5.out HB56.out)
  have HO2 : Hid (v6.ownsRow U.heap.size 4 1 (.slice (some ⟨g2, 0, none⟩) (mn + 1) c2) (mn + 1) (ms.map Value.bool ++ [.bool true])) := owns_bel (owns_keep (owns_bel HIN.out.o2 HBC4.out) (fun g hg => by cases hg; obtain ⟨cs, hcs⟩ := own_tag (owns_bel HIN.out.o2 HBC4.out) (g := g2) rfl; exact HO5.out.block g2 (lt_of_block hcs) (HNF.out _ (Or.inr HG2.out)))) HB56.out
  have HB6 : Hid (Below w.heap.size w v6) := by
   have h1 := below_trans HBC.out HBC4.out
   have h2 := h1.trans (HO5.out.below (B := w.heap.size) (fun j hj => by have h9 := hj.1; simp at h9; omega) h1.size)
   exact h2.trans (HB56.out.mono h2.size)
  have HLM : Hid (∀ (gM oM i : Nat) (z : Bool), gM < w.heap.size → w.cell? ⟨gM, oM + i, none⟩ = some (.bool z) → v6.cell? ⟨gM, oM + i, none⟩ = some (.bool z)) := fun gM oM i z hg hc => (HB6.out.cell (show (⟨gM, oM + i, none⟩ : Addr).block < w.heap.size from hg)).trans hc
  have HS3 := J HB3.out.size
  have HS4 := J HB4.out.size
  clear hz1 HQ4 HM4 HQ5 HM5 HP5 HZ5 HCY4 HOF4 HFH
 all_goals
  go_wp2
  go_loopw [13] (fun s13 wr => ∃ (i : Nat) (vals : List Value), i ≤ mn ∧ s13 = .int .i64 i ∧ Hid (Only (· = g2) v6 wr) ∧ Hid (wr.ownsRow U.heap.size 4 1 (.slice (some ⟨g2, 0, none⟩) (mn + 1) c2) (mn + 1) vals) ∧ Hid (∀ j z, i ≤ j → ms[j]? = some z → vals[j]? = some (.bool z))) (fun s13 _ => mn - (intOf s13).toNat)
  case atStart => exact ⟨0, _, Nat.zero_le _, rfl, J (Only.refl _ _), HO2.out, J (fun j z _ hz => by rw [List.getElem?_append_left (by rw [List.length_map]; exact (List.getElem?_eq_some_iff.1 hz).1), List.getElem?_map, hz]; rfl)⟩
  case round =>
   obtain ⟨i, vals, hi, rfl, HOr, HRr, HVr⟩ := hrel
   have HQr := J ((HOr.out.block _ (lt_of_block HQ6.out) HNQ.out.2).trans HQ6.out)
   have HMr := J ((HOr.out.block _ (lt_of_block HM6.out) HNM.out.2).trans HM6.out)
   obtain ⟨p0, p1, p2, p3, p4⟩ := cells5 HQr.out
   obtain ⟨m0, m1, m2, m3, m4⟩ := cells5 HMr.out
   by_cases hlt : i < mn
   ·have d0 : decide ((i : Int) < (mn : Int)) = true := decide_eq_true (by omega)
    have d1 : (i : Int) < (mn : Int) := by omega
    obtain ⟨gM, oM, hma, hgM, hcM⟩ := HMS.out.pos (by omega)
    subst hma
    obtain ⟨z, hz⟩ : ∃ z, ms[i]? = some z := ⟨_, List.getElem?_eq_getElem (by have := HMS.out.1; omega)⟩
    have hcm := hcM i hlt
    rw [List.getD_eq_getElem?_getD, hz] at hcm
    have hcm6 : wr.cell? ⟨gM, oM + i, none⟩ = some (.bool z) := HOr.out.cell (HLM.out gM oM i z hgM hcm) (fun e => by have h1 : gM = g2 := e; have h2 := HG2.out; have h3 := HSZ.out; omega)
    have hci : wr.cell? ⟨g2, i, none⟩ = some (.bool z) := (World.ownsRow.cellAt HRr.out i (by omega)).trans (HVr.out i z (Nat.le_refl _) hz)
    obtain ⟨cg, hcg⟩ := own_tag HRr.out rfl
    have HQ := J (And.intro (And.intro p4 m4) (And.intro hci hcm6))
    have HCI := J hci
    have HVn : Hid (∀ j y, i + 1 ≤ j → ms[j]? = some y → (vals.set i (.bool (!z)))[j]? = some (.bool y)) := fun j y hj hy => by rw [List.getElem?_set_ne (by omega)]; exact HVr.out j y (by omega) hy
    have HRn : Hid (((wr.drew).drew.setCell ⟨g2, i, none⟩ (.bool (!z))).ownsRow U.heap.size 4 1 (.slice (some ⟨g2, 0, none⟩) (mn + 1) c2) (mn + 1) (vals.set i (.bool (!z)))) := (World.ownsRow.stored (owns_bel (owns_bel HRr.out (drew_below wr)) (drew_below _)) i (.bool (!z))).1
    have HOn : Hid (Only (· = g2) v6 ((wr.drew).drew.setCell ⟨g2, i, none⟩ (.bool (!z)))) := ((HOr.out.trans' (Only.ofB (drew_below wr))).trans' (Only.ofB (drew_below _))).trans' (Only.setCell _ _ g2 i _ rfl)
    have HCG := J hcg
    clear hcM hcm hcm6 hci hcg hz p0 p1 p2 p3 p4 m0 m1 m2 m3
    go_upto_region 10 with fail
    clear m4
    refine wp_region_held_drew (S := (fun u => (u.cell? ⟨q, 4, none⟩ = some (.slice (some ⟨g2, 0, none⟩) mn c2) ∧ u.cell? ⟨qm, 4, none⟩ = some (.slice (some ⟨gM, oM, none⟩) mn mc)) ∧ u.cell? ⟨g2, i, none⟩ = some (.bool z) ∧ u.cell? ⟨gM, oM + i, none⟩ = some (.bool z))) (by kernel_rfl) (HQ.out) fun O => ?_
    refine tk 0 ?_
    refine tk 1 ?_
    refine tk 2 ?_
    refine tk 3 ?_
    refine tk 4 ?_
    refine tk 5 ?_
    refine tk 6 ?_
    refine tk 7 ?_
    refine tk 8 ?_
    refine tk 9 ?_
    refine tk 10 ?_
    refine td ?_
    clear O
    have p4 : wr.drew.drew.cell? ⟨q, 4, none⟩ = some (.slice (some ⟨g2, 0, none⟩) mn c2) := HQ.out.1.1
    have hqd : wr.drew.drew.cell? ⟨g2, i, none⟩ = some (.bool z) := HCI.out
    have hfz : wr.drew.drew.frozen? ⟨g2, i, none⟩ = false := frozen_of_row wr.drew.drew g2 i _ 4 HCG.out
    go_upto_region 12 with fail
    refine wp_region_held_drew (S := (fun u => u.cell? ⟨q, 4, none⟩ = some (.slice (some ⟨g2, 0, none⟩) mn c2))) (by kernel_rfl) (p4) fun O => ?_
    refine tk 0 ?_
    refine tk 1 ?_
    refine tk 2 ?_
    refine tk 3 ?_
    refine tk 4 ?_
    refine tk 5 ?_
    refine tk 6 ?_
    refine rd 7 fun K N => ?_
    go_simp
    go_wp2_with fail
    refine N.out _ _ O (fun hHeld7 => ?_)
    clear N K
    clear hHeld7
    try simp only [zz]
    refine tk 8 ?_
    refine tk 9 ?_
    refine rd 10 fun K N => ?_
    go_simp
    go_wp2_with fail
    have hZ : (fun u => u.cell? ⟨q, 4, none⟩ = some (.slice (some ⟨g2, 0, none⟩) mn c2)) (wr.drew.drew.setCell ⟨g2, i, none⟩ (.bool (!z))) := (Only.setCell (· = g2) wr.drew.drew g2 i (.bool (!z)) rfl).cell p4 HNQ.out.2
    refine N.out _ _ hZ (fun hHeld10 => ?_)
    clear N K hZ O hHeld10
    try simp only [zz]
    refine td ?_
    clear p4 hqd hfz
    go_wp2
    go_roundw
    case rel => exact ⟨i + 1, _, by omega, by go_num, HOn, HRn, HVn⟩
    case measure => simp [intOf]; omega
   ·have d0 : decide ((i : Int) < (mn : Int)) = false := decide_eq_false (by omega)
    obtain ⟨v7, hu7⟩ : ∃ x, x = wr := ⟨_, rfl⟩
    subst hu7
    have HO17 : Hid (Own v7 U.heap.size g1 (cn + 3) c1 (zs ++ [161, 178, 195])) := owns_keep HO1.out (fun g hg => by cases hg; obtain ⟨cs, hcs⟩ := own_tag HO1.out (g := g1) rfl; exact HOr.out.block g1 (lt_of_block hcs) HN12.out)
    go_wp2
    go_loopw [14] (fun s14 wr => ∃ (i : Nat) (X : List Int), i ≤ cn ∧ s14 = .int .i64 i ∧ Hid (Only (· = g1) v7 wr) ∧ Hid (Own wr U.heap.size g1 (cn + 3) c1 X)) (fun s14 _ => cn - (intOf s14).toNat)
    case atStart => exact ⟨0, _, Nat.zero_le _, rfl, J (Only.refl _ _), HO17⟩
    case round =>
     clear HO17
     obtain ⟨i, X, hi, rfl, HPr, HXr⟩ := hrel
     have HQs := J ((HPr.out.block _ (lt_of_block HQr.out) HNQ.out.1).trans HQr.out)
     obtain ⟨p0, p1, p2, p3, p4⟩ := cells5 HQs.out
     by_cases hlt2 : i < cn
     ·have d0 : decide ((i : Int) < (cn : Int)) = true := decide_eq_true (by omega)
      have d1 : (i : Int) < (cn : Int) := by omega
      obtain ⟨y, hy⟩ : ∃ y, X[i]? = some y := ⟨_, List.getElem?_eq_getElem (by have := HXr.out.len; omega)⟩
      have hqd : wr.drew.cell? ⟨g1, i, none⟩ = some (.int .u8 y) := by
       have h1 := World.ownsRow.cellAt HXr.out i (by omega)
       rw [List.getElem?_map, hy] at h1
       exact h1
      obtain ⟨cg, hcg⟩ := own_tag HXr.out (g := g1) rfl
      have hfz : wr.drew.frozen? ⟨g1, i, none⟩ = false := frozen_of_row wr.drew g1 i _ 5 hcg
      have HXn : Hid (Own (wr.drew.setCell ⟨g1, i, none⟩ (.int .u8 (bits .xor .u8 y 90))) U.heap.size g1 (cn + 3) c1 (X.set i (bits .xor .u8 y 90))) := by
       have h1 := (World.ownsRow.stored (owns_bel HXr.out (drew_below wr)) i (.int .u8 (bits .xor .u8 y 90))).1
       rw [← List.map_set] at h1
       exact h1
      have HPn : Hid (Only (· = g1) v7 (wr.drew.setCell ⟨g1, i, none⟩ (.int .u8 (bits .xor .u8 y 90)))) := (HPr.out.trans' (Only.ofB (drew_below wr))).trans' (Only.setCell _ _ g1 i _ rfl)
      have HP3 := J p3
      clear hy hcg p0 p1 p2 p4
      go_upto_region 16 with fail
      have p3d : wr.drew.cell? ⟨q, 3, none⟩ = some (.slice (some ⟨g1, 0, none⟩) cn c1) := HP3.out
      clear p3
      refine wp_region_held_drew (S := (fun u => u.cell? ⟨q, 3, none⟩ = some (.slice (some ⟨g1, 0, none⟩) cn c1))) (by kernel_rfl) (p3d) fun O => ?_
      refine tk 0 ?_
      refine tk 1 ?_
      refine tk 2 ?_
      refine tk 3 ?_
      refine tk 4 ?_
      refine tk 5 ?_
      refine tk 6 ?_
      refine rd 7 fun K N => ?_
      go_simp
      go_wp2_with fail
      refine N.out _ _ O (fun hHeld7 => ?_)
      clear N K
      clear hHeld7
      try simp only [zz]
      refine tk 8 ?_
      refine tk 9 ?_
      refine rd 10 fun K N => ?_
      go_simp
      go_wp2_with fail
      have hZ : (fun u => u.cell? ⟨q, 3, none⟩ = some (.slice (some ⟨g1, 0, none⟩) cn c1)) (wr.drew.setCell ⟨g1, i, none⟩ (.int .u8 (bits .xor .u8 y 90))) := (Only.setCell (· = g1) wr.drew g1 i (.int .u8 (bits .xor .u8 y 90)) rfl).cell p3d HNQ.out.1
      refine N.out _ _ hZ (fun hHeld10 => ?_)
      clear N K hZ O hHeld10
      try simp only [zz]
      refine td ?_
      clear p3d hqd hfz
      go_wp2
      go_roundw
      case rel => exact ⟨i + 1, _, by omega, by go_num, HPn, HXn⟩
      case measure => simp [intOf]; omega
     ·have d0 : decide ((i : Int) < (cn : Int)) = false := decide_eq_false (by omega)
      have HMs := J ((HPr.out.block _ (lt_of_block HMr.out) HNM.out.1).trans HMr.out)
      have HB7 : Hid (Below w.heap.size w wr) := by
       have h1 := HB6.out.trans (HOr.out.below (B := w.heap.size) (fun j hj => by rw [hj]; have h2 := HG2.out; have h3 := HSZ.out; omega) HB6.out.size)
       exact h1.trans (HPr.out.below (B := w.heap.size) (fun j hj => by rw [hj]; have h2 := HG1.out; have h3 := HSZ.out; omega) h1.size)
      have HOL : Hid (Only (fun j => j = g1 ∨ j = g2) v6 wr) := (HOr.out.mono (fun j _ e => Or.inr e)).trans' (HPr.out.mono (fun j _ e => Or.inl e))
      obtain ⟨m0, m1, m2, m3, m4⟩ := cells5 HMs.out
      clear p0 p1 p2 p4 m3 m4
      first
       |
        have h9 := HCH6
        clear h9
        cases hw : decide (B * P ≤ 128) with
        | false =>
         have HFW : Hid ((Fits B P S && decide (B * P ≤ 128)) = false) := by rw [HFT.out, hw]; rfl
         clear hw
         go_wp2_with (first
          | (go_at_call 12; have h9 := HBF; clear h9; refine (heads_any _).mono ?_; rintro e uH ⟨rfl, bH⟩; have HBH := J (below_trans HBF.out bH); clear bH)
          | (go_at_call 32; refine (few_any B P S _).mono ?_; rintro e vF ⟨he, bF⟩; rw [HFW.out] at he; subst he; have HBF := J (below_trans HB7.out bF); clear bF))
         go_ret
         exact ⟨rfl, HBH.out⟩
        | true =>
         have HFW : Hid ((Fits B P S && decide (B * P ≤ 128)) = true) := by rw [HFT.out, hw]; rfl
         clear hw
         go_upto_region 20 with (first | (go_at_call 32; refine (few_any B P S _).mono ?_; rintro e vF ⟨he, bF⟩; rw [HFW.out] at he; subst he; have HBF := J bF; clear bF))
         have HLK : Hid (∃ F, BothAt w (vF.alloc (.cells #[.pointer (some ⟨p, 0, none⟩), .pointer (some ⟨d, 0, none⟩)] 88)) vF.heap.size F C fs) := by
          have b9 := below_trans HBF.out (below_alloc vF (.cells #[.pointer (some ⟨p, 0, none⟩), .pointer (some ⟨d, 0, none⟩)] 88))
          have k1 : ∀ k, (k = g1 ∨ k = g2) → U.heap.size ≤ k ∧ k < wc.heap.size := fun k e => by
           rcases e with e | e
           ·rw [e]; exact ⟨HG1.out, HGL.out.1⟩
           ·rw [e]; exact ⟨HG2.out, HGL.out.2⟩
          have s1 := HOL.out.size
          have s2 := HBF.out.size
          have s3 := HS3.out
          have s4 := HS4.out
          have s5 := HSZ.out
          have s6 := HUW.out
          have s7 := HO5.out.size
          have s8 := HB56.out.size
          have hch := ((HCH6.out.only HOL.out (fun k hk e => by have h1 := (k1 k e).2; have h2 : wc.heap.size < k := hk.1; omega)).below b9)
          have hrf := ((HRF6.out.only HOL.out (fun k hk e => by have h1 := (k1 k e).2; have h2 : v3.heap.size ≤ k := hk.1; omega) (fun k e => by have h1 := (k1 k e).1; omega)).below b9)
          exact ⟨fun j => wc.heap.size ≤ j ∧ j < (vF.alloc (.cells #[.pointer (some ⟨p, 0, none⟩), .pointer (some ⟨d, 0, none⟩)] 88)).heap.size, p, d, _, _, alloc_new vF _, hch, hrf, fun k hk => ⟨⟨by have h1 : wc.heap.size < k := hk.1; omega, by have h1 : k < v3.heap.size := hk.2; simp; omega⟩, (fun e => by have h1 : v3.heap.size ≤ k := e.1; have h2 : k < v3.heap.size := hk.2; omega), (fun e => by have h2 : k < v3.heap.size := hk.2; omega)⟩, fun k hk => ⟨⟨by have h1 : v3.heap.size ≤ k := hk.1; omega, by have h1 : k < v4.heap.size := hk.2; simp; omega⟩, (fun e => by have h2 : k < v4.heap.size := hk.2; omega)⟩, ⟨by omega, by simp⟩, fun k hk => ⟨by have h1 : wc.heap.size ≤ k := hk.1; omega, hk.2⟩⟩
         have HST : Hid (Lk1 w ((vF.alloc (.cells #[.pointer (some ⟨p, 0, none⟩), .pointer (some ⟨d, 0, none⟩)] 88)).alloc (.cells #[.slice none 0 0, .slice none 0 0, .slice none 0 0] 76)) vF.heap.size C fs (vF.heap.size + 1) 0) := by
          have h9 := newLk1 HLK.out
          rw [alloc_size] at h9
          exact h9
         go_upto_region 21 with fail
         generalize hbq : vF.heap.size = bq at HST ⊢
         clear HLK hbq m0 m1 m2
         generalize hkq : bq + 1 = kq at HST ⊢
         clear hkq
         go_wp2
         go_loopw [17] (fun s17 wr => ∃ (i mm : Nat) (C : Ch), i ≤ on ∧ s17 = .int .i64 i ∧ mm ≤ i ∧ Hid (Life C i) ∧ Hid (Lk1 w wr bq C fs kq mm)) (fun s17 _ => on - (intOf s17).toNat)
         case atStart => exact ⟨0, 0, C, Nat.zero_le _, rfl, Nat.le_refl _, HLF, HST⟩
         case round =>
          clear HST HLF
          obtain ⟨i, mm, C, hi, rfl, hmm, HLF, HST⟩ := hrel
          by_cases hlt3 : i < on
          ·have d0 : decide ((i : Int) < (on : Int)) = true := decide_eq_true (by omega)
           have HOW := J (rdO_below HO.out HST.out.old)
           obtain ⟨gO, oO, x, hoa, hgO, hxi, hxo, k0, k1, k2, k3, k4, k5, k6⟩ := ReadsO.pos HOW.out hlt3
           have HX := J (HO.out.2.1 x (List.mem_of_getElem? hxi))
           subst hoa
           have HMM := J hmm
           have hb4 : mm ≤ 400000000 := by omega
           have hb6 : i ≤ 2000000000 := by omega
           clear hxi hxo hmm HOW
           go_wp2_with (go_at_call 34; refine (HST.out.plays i HLF.out hb6 HFB.out hb4 x HX.out).mono ?_; rintro e u9 ⟨rfl, hs9⟩; have HS9 := J hs9; clear hs9)
           go_roundw
           case rel => exact ⟨i + 1, mm + 1, _, by omega, by go_num, by have := HMM.out; omega, HLF.out.does _, HS9⟩
           case measure => simp [intOf]; omega
          ·have d0 : decide ((i : Int) < (on : Int)) = false := decide_eq_false (by omega)
           have hb4 : mm ≤ 300000000 := by omega
           have hb7 : mm + 30 ≤ 400000000 := by omega
           have hb6 : i ≤ 2000000000 := by omega
           clear hmm hi
           go_wp2_with (first
            | (go_at_call 12; refine (heads_any _).mono ?_; rintro e uH ⟨rfl, bH⟩; have HE := J (below_trans HS8.out.old bH); clear bH)
            | (go_at_call 35; have h9 := HA5; clear h9; refine ((newLk1 HA5.out).looks i HLF.out hb6 HFB.out (by decide)).mono ?_; rintro e u8 ⟨rfl, hs8⟩; have HS8 := J hs8; clear hs8 HA5)
            | (go_at_call 36; refine (HS4b.out.apart hb7).mono ?_; rintro e u7b ⟨rfl, hs7⟩; have HA5 := J hs7; clear hs7 HS4b)
            | (go_at_call 35; have h9 := HST; clear h9; refine (HST.out.looks i HLF.out hb6 HFB.out hb4).mono ?_; rintro e u5b ⟨rfl, hs5⟩; have HS4b := J hs5; clear hs5 HST))
           go_ret
           exact ⟨rfl, HE.out⟩
       |
        have h9 := hz0
        clear h9
        go_wp2_with (first | (go_at_call 12; refine (heads_any _).mono ?_; rintro e uH ⟨rfl, bH⟩; have HBH := J (below_trans HB7.out bH); clear bH))
        go_ret
        exact ⟨rfl, HBH.out⟩
end Go.Proofs.Ytadlkikjfonkgaa
