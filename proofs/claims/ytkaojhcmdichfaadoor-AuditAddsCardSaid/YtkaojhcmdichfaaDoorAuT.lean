/- The links of the examples, and their tags, reckoned by the kernel. -/
import Derived.Test.YtkaojhcmdichfaaDoorAuL
import Derived.Test.YtkaojhcmdichfaaDoorB3
namespace Go.Proofs.YtkaojhcmdichfaaDoor
open Go.ChangeShapes Go.WideShapes Go.ChangeAt Go.RowKit
set_option linter.unusedVariables false
set_option linter.unusedSimpArgs false
open Plain Sha Au
set_option maxRecDepth 100000
def mA1 : List Int := [0, 0, 0, 0, 0, 0, 0, 1, 0, 0, 0, 0, 0, 0, 0, 1, 0, 0, 0, 0, 0, 0, 0, 6, 0, 0, 0, 0, 0, 0, 0, 1, 0, 0, 0, 0, 0, 0, 0, 2, 0, 0, 0, 0, 0, 0, 0, 0, 0, 0, 0, 0, 0, 0, 0, 0, 0, 0, 0, 0, 0, 0, 0, 0, 0, 0, 0, 0, 0, 0, 0, 0, 0, 0, 0, 0, 0, 0, 0, 0, 0, 0, 0, 0, 0, 0, 0, 0]
def vA1 : H8 := ⟨3700824513, 1182659762, 1148102753, 2980117591, 3304854371, 4208892570, 905120995, 2325465099⟩
theorem shaA1 : shaZ mA1 = tagZ vA1 := sha_of mA1 2 (by decide +kernel) vA1 (by decide +kernel)
def mA3 : List Int := [0, 0, 0, 0, 0, 0, 0, 1, 0, 0, 0, 0, 0, 0, 0, 1, 0, 0, 0, 0, 0, 0, 0, 6, 0, 0, 0, 0, 0, 0, 0, 1, 0, 0, 0, 0, 0, 0, 0, 3, 0, 0, 0, 0, 0, 0, 0, 0, 0, 0, 0, 0, 0, 0, 0, 0, 0, 0, 0, 0, 0, 0, 0, 0, 0, 0, 0, 0, 0, 0, 0, 0, 0, 0, 0, 0, 0, 0, 0, 0, 0, 0, 0, 0, 0, 0, 0, 0]
def vA3 : H8 := ⟨2087612322, 1570034885, 2270182115, 610491457, 2236160350, 2463512331, 2983661991, 3040536713⟩
theorem shaA3 : shaZ mA3 = tagZ vA3 := sha_of mA3 2 (by decide +kernel) vA3 (by decide +kernel)
def mA2 : List Int := [0, 0, 0, 0, 0, 0, 0, 2, 0, 0, 0, 0, 0, 0, 0, 5, 0, 0, 0, 0, 0, 0, 0, 8, 0, 0, 0, 0, 0, 0, 0, 1, 0, 0, 0, 0, 0, 0, 0, 3, 0, 0, 0, 0, 0, 0, 0, 9, 0, 0, 0, 0, 0, 0, 0, 1, 220, 150, 25, 193, 70, 125, 244, 178, 68, 110, 168, 97, 177, 160, 252, 87, 196, 252, 19, 99, 250, 222, 154, 154, 53, 243, 12, 227, 138, 155, 200, 11]
def vA2 : H8 := ⟨1136417335, 775306880, 3680690746, 2623342154, 1437478446, 140399171, 1861066783, 3367013228⟩
theorem shaA2 : shaZ mA2 = tagZ vA2 := sha_of mA2 2 (by decide +kernel) vA2 (by decide +kernel)
theorem bytesA1 : numsB [1, 1, 6, 1, 2, 0, 0] ++ zT = mA1 := by decide +kernel
theorem bytesA3 : numsB [1, 1, 6, 1, 3, 0, 0] ++ zT = mA3 := by decide +kernel
theorem bytesA2 : numsB [2, 5, 8, 1, 3, 9, 1] ++ tagZ vA1 = mA2 := by decide +kernel
theorem ne12 : eqB (tagZ vA1) (tagZ vA2) = false := by decide +kernel
theorem ne13 : eqB (tagZ vA1) (tagZ vA3) = false := by decide +kernel
def aA : AZ := ⟨1, 6, 1, 2, 0, 0⟩
def aB : AZ := ⟨5, 8, 1, 3, 9, 1⟩
def gA : LinkZ := nextL [] 1 6 1 2 0 0
def gB : LinkZ := nextL [gA] 5 8 1 3 9 1
def gC : LinkZ := { gA with a := 3 }
theorem chainAB : chainZ [aA, aB] = [gA, gB] := rfl
theorem gA_S : gA.S = tagZ vA1 := by
  show shaZ (numsB [1, 1, 6, 1, 2, 0, 0] ++ zT) = _
  rw [bytesA1, shaA1]
theorem gB_S : gB.S = tagZ vA2 := by
  show shaZ (numsB [2, 5, 8, 1, 3, 9, 1] ++ gA.S) = _
  rw [gA_S, bytesA2, shaA2]
theorem gC_hash : hashZ gC = tagZ vA3 := by
  show shaZ (numsB [1, 1, 6, 1, 3, 0, 0] ++ zT) = _
  rw [bytesA3, shaA3]
theorem neAB : eqB gA.S gB.S = false := by rw [gA_S, gB_S]; exact ne12
theorem gB_H : gB.H = gA.S := rfl
theorem checkAB : checkZ [gA, gB] = 0 := by rw [← chainAB]; exact chain_check _
theorem checkCB : checkZ [gC, gB] = 1 := by
  have : follows [] gC = false := by
    unfold follows
    rw [gC_hash, show gC.S = gA.S from rfl, gA_S, ne13]
    simp
  unfold checkZ checkFrom
  rw [this]; rfl
theorem checkB : checkZ [gB] = 1 := by
  have : follows [] gB = false := by
    unfold follows
    rw [show (gB.n == (([] : List LinkZ).length : Int) + 1) = false from rfl]; rfl
  unfold checkZ checkFrom
  rw [this]; rfl
theorem headAB : headZ [gA, gB] = gB.S := rfl
end Go.Proofs.YtkaojhcmdichfaaDoor
