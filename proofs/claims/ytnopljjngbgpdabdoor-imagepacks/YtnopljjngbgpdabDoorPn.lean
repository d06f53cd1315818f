/-
  SEAT YtnopljjngbgpdabDoor: the reference's Pack: a row with its sum behind it; the head.
-/
import Derived.Test.YtnopljjngbgpdabDoorPm
import Derived.Test.YtnopljjngbgpdabDoorNb
namespace Go.Proofs.YtnopljjngbgpdabDoor
open Go.RowKit
set_option linter.unusedVariables false

theorem reads_new (u : World) (zs : List Int) (hb : Byt zs) : Reads (u.alloc (.cells (zs.map (Value.int .u8)).toArray 5)) (some ⟨u.heap.size, 0, none⟩) zs.length zs := by
  refine ⟨rfl, hb, by simp, fun x hx i hi => ?_⟩
  cases hx
  rw [plain_add, Nat.zero_add]
  have h9 := heap_alloc_new u (.cells (zs.map (Value.int .u8)).toArray 5)
  simp only [World.cell?, h9]
  simp [List.getD, List.getElem?_eq_getElem hi]
theorem le4_row (u : World) (s : Nat) : Reads (u.alloc (.cells #[.int .u8 ((s % 256 : Nat) : Int), .int .u8 ((s / 256 % 256 : Nat) : Int), .int .u8 ((s / 65536 % 256 : Nat) : Int), .int .u8 ((s / 16777216 % 256 : Nat) : Int)] 5)) (some ⟨u.heap.size, 0, none⟩) 4 (le4 s) :=
  reads_new u (le4 s) (by intro x hx; simp [le4] at hx; omega)


set_option maxHeartbeats 1000000 in
set_option maxRecDepth 100000 in
theorem rsealed_any (a : Option Addr) (n c : Nat) (bs : List Int) (w : World) (hr : Reads w a n bs) (hn : n ≤ 100000000000000) :
    Calls Tryd.prog 43 #[.slice a n c] w fun e w' => ∃ g cc, e = .returned (.slice (some ⟨g, 0, none⟩) (n + 4) cc) ∧ Own w' w.heap.size g (n + 4) cc (sealL bs) ∧ Below w.heap.size w w' := by
  obtain ⟨s, hs⟩ : ∃ s, sumL (nats bs) = s := ⟨_, rfl⟩
  have HS : Hid (sumL (nats bs) = s) := hs
  have hs4 : s < 4294967296 := by rw [← hs]; exact sumL_lt hr.2.1
  have w0 : IntKind.u8.wrap (s : Int) = ((s % 256 : Nat) : Int) := by rw [IntKind.wrap_u8]; omega
  have w1 : IntKind.u8.wrap ((s : Int) / 256) = ((s / 256 % 256 : Nat) : Int) := by rw [IntKind.wrap_u8]; omega
  have w2 : IntKind.u8.wrap ((s : Int) / 65536) = ((s / 65536 % 256 : Nat) : Int) := by rw [IntKind.wrap_u8]; omega
  have w3 : IntKind.u8.wrap ((s : Int) / 16777216) = ((s / 16777216 % 256 : Nat) : Int) := by rw [IntKind.wrap_u8]; omega
  have HR : Hid (Reads w a n bs) := hr
  have HTK : Hid ((bs.drop 0).take (n - 0) = bs) := by unfold Hid; rw [List.drop_zero, List.take_of_length_le (by have := hr.1; omega)]
  clear hs hr
  go_enter Tryd.func43, Tryd.ntmps43
  go_wp2_with (first
    | (go_at_call 70; refine (rsum_any _ _ _ bs _ (by omega) HR.out).mono ?_; rintro e t1 ⟨rfl, ht1⟩; rw [← ht1, HS.out]; clear ht1)
    | (go_at_call 69; refine (part_any a n c 0 n bs _ (by omega) (by omega) (by omega) HR.out).mono ?_; rintro e u1 ⟨v1, rfl, own1, bl⟩; rw [HTK.out, Nat.sub_zero] at own1
       have HB6 : Hid (Below w.heap.size w u1) := bl
       have HO6 : Hid (u1.ownsRow w.heap.size 5 1 v1 n (bs.map (Value.int .u8))) := own1
       clear own1 bl)
    | (at_builtin; refine wpList_append_reads rfl (.tmp 9) (.tmp 21) rfl w.heap.size v1 n bs rfl (HO6.out.alloc _) _ 4 4 (le4 s) rfl (le4_row u1 s) (by omega) (by have := HB6.out.size; simp; omega) ?_; intro v2 w2 own2 grow2; obtain ⟨g2, c2, rfl, hc21, hc22, hg21, hg22⟩ := own_shape own2 (by omega)
       have HB7 : Hid (Below w.heap.size w w2) := (HB6.out.alloc HB6.out.size _).grown grow2 (by have := HB6.out.size; simp; omega) (fun q hq => (HO6.out.lt q hq).1)
       have HO7 : Hid (Own w2 w.heap.size g2 (n + 4) c2 (bs ++ le4 s)) := own2
       clear own2 grow2 hc21 hc22 hg21 hg22))
  go_ret
  exact ⟨g2, c2, rfl, by unfold sealL; rw [HS.out]; exact HO7.out, HB7.out⟩

end Go.Proofs.YtnopljjngbgpdabDoor
