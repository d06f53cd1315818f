/-
  SEAT Ytjhphkfpcpfdnaa: the chapter's examples, without memory.
-/
import Derived.Test.YtjhphkfpcpfdnaaLd
namespace Go.Proofs.Ytjhphkfpcpfdnaa
open Go.RowKit Go.Conc
set_option linter.unusedVariables false

def zer : List Int := List.replicate 256 0 ++ List.replicate 57 0
def hc0 : Ch := newC 8 4 1 [2] []
def hc1 : Ch := (EraseC hc0 2).2
def hc2 : Ch := (MarkC hc1 8).2
def hc3 : Ch := (ProgramC hc2 0 1 256 57 zer).2
def hc4 : Ch := (ProgramC hc3 0 0 256 57 zer).2
def hc5 : Ch := (FlipC hc4 0 1 5).2
def hc6 : Ch := (FlipC hc5 0 1 2047).2
def hc7 : Ch := (FlipC hc6 0 1 2048).2
def hc8 : Ch := (FlipC hc7 0 1 2500).2
def hc9 : Ch := (FlipC hc8 0 0 1).2
def hc10 : Ch := (EraseC hc9 0).2
theorem hm0 : MarkedE hc0 2 = 0 ∧ MarkedB hc0 2 = true := ⟨by kernel_rfl, by kernel_rfl⟩
theorem he1 : (EraseC hc0 2).1 = 43 := by kernel_rfl
theorem he2 : (MarkC hc1 8).1 = 41 := by kernel_rfl
theorem he3 : (ProgramC hc2 0 1 256 57 zer).1 = 0 := by kernel_rfl
theorem he4 : (ProgramC hc3 0 0 256 57 zer).1 = 43 := by kernel_rfl
theorem hr4 : ReadE hc4 0 1 = 0 ∧ readL hc4 0 1 = zer := ⟨by kernel_rfl, by kernel_rfl⟩
theorem he5 : (FlipC hc4 0 1 5).1 = 0 := by kernel_rfl
theorem he6 : (FlipC hc5 0 1 2047).1 = 46 := by kernel_rfl
theorem he7 : (FlipC hc6 0 1 2048).1 = 0 := by kernel_rfl
theorem he8 : (FlipC hc7 0 1 2500).1 = 46 := by kernel_rfl
theorem he9 : (FlipC hc8 0 0 1).1 = 46 := by kernel_rfl
theorem hr9 : ReadE hc9 0 1 = 0 ∧ readL hc9 0 1 = (32 :: List.replicate 255 0) ++ (1 :: List.replicate 56 0) := ⟨by kernel_rfl, by kernel_rfl⟩
theorem he10 : (EraseC hc9 0).1 = 0 := by kernel_rfl
theorem hr10 : ReadE hc10 0 1 = 0 ∧ readL hc10 0 1 = List.replicate 256 255 ++ List.replicate 57 255 := ⟨by kernel_rfl, by kernel_rfl⟩
theorem hn10 : hc10.cnt = 2 ∧ hc10.tr.length = 5 := ⟨by kernel_rfl, by kernel_rfl⟩
theorem htl : hc0.tr.length ≤ 5 ∧ hc1.tr.length ≤ 5 ∧ hc2.tr.length ≤ 5 ∧ hc3.tr.length ≤ 5 ∧ hc9.tr.length ≤ 5 := ⟨by decide, by decide, by decide, by decide, by decide⟩
theorem hk0 : hc0.Ok := newC_ok 8 4 1 [2] [] (by decide)
theorem hk1 : hc1.Ok := EraseC_ok _ hk0 _
theorem hk2 : hc2.Ok := MarkC_ok _ hk1 _
theorem hk3 : hc3.Ok := ProgramC_ok _ hk2 _ _ _ _ _
theorem hk4 : hc4.Ok := ProgramC_ok _ hk3 _ _ _ _ _
theorem hk5 : hc5.Ok := FlipC_ok _ hk4 _ _ _
theorem hk6 : hc6.Ok := FlipC_ok _ hk5 _ _ _
theorem hk7 : hc7.Ok := FlipC_ok _ hk6 _ _ _
theorem hk8 : hc8.Ok := FlipC_ok _ hk7 _ _ _
theorem hk9 : hc9.Ok := FlipC_ok _ hk8 _ _ _
theorem hk10 : hc10.Ok := EraseC_ok _ hk9 _
end Go.Proofs.Ytjhphkfpcpfdnaa
