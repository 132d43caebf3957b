/- The HMACs of the examples, and of single bytes, keys and numbers, reckoned by the kernel. -/
import Derived.Test.YtmglhfhcljdfcaaDoorNoughts
import Derived.Test.YtmglhfhcljdfcaaDoorHmacZ
namespace Go.Proofs.YtmglhfhcljdfcaaDoor.Sha
open Go.Proofs.YtmglhfhcljdfcaaDoor.Plain
set_option linter.unusedVariables false
set_option maxRecDepth 100000
def k_x1 : List Int := List.replicate 20 11
def b_x1 : List Int := [72, 105, 32, 84, 104, 101, 114, 101]
def mi_x1 : List Int := [61, 61, 61, 61, 61, 61, 61, 61, 61, 61, 61, 61, 61, 61, 61, 61, 61, 61, 61, 61, 54, 54, 54, 54, 54, 54, 54, 54, 54, 54, 54, 54, 54, 54, 54, 54, 54, 54, 54, 54, 54, 54, 54, 54, 54, 54, 54, 54, 54, 54, 54, 54, 54, 54, 54, 54, 54, 54, 54, 54, 54, 54, 54, 54, 72, 105, 32, 84, 104, 101, 114, 101]
def mo_x1 : List Int := [87, 87, 87, 87, 87, 87, 87, 87, 87, 87, 87, 87, 87, 87, 87, 87, 87, 87, 87, 87, 92, 92, 92, 92, 92, 92, 92, 92, 92, 92, 92, 92, 92, 92, 92, 92, 92, 92, 92, 92, 92, 92, 92, 92, 92, 92, 92, 92, 92, 92, 92, 92, 92, 92, 92, 92, 92, 92, 92, 92, 92, 92, 92, 92, 146, 171, 77, 154, 31, 59, 97, 82, 188, 169, 221, 158, 105, 175, 67, 244, 206, 153, 228, 47, 212, 227, 15, 249, 114, 196, 128, 37, 185, 249, 207, 239]
def vi_x1 : H8 := ⟨2460700058, 523985234, 3165248926, 1773093876, 3466191919, 3571650553, 1925480485, 3120156655⟩
def vo_x1 : H8 := ⟨2956217441, 3638245459, 1554558926, 2936795435, 2283651584, 3380821415, 652818284, 775081975⟩
def t_x1 : List Int := [176, 52, 76, 97, 216, 219, 56, 83, 92, 168, 175, 206, 175, 11, 241, 43, 136, 29, 194, 0, 201, 131, 61, 167, 38, 233, 55, 108, 46, 50, 207, 247]
theorem bi_x1 : blockZ k_x1 54 ++ b_x1 = mi_x1 := by decide +kernel
theorem si_x1 : shaZ mi_x1 = tagZ vi_x1 := sha_of mi_x1 2 (by decide +kernel) vi_x1 (by decide +kernel)
theorem bo_x1 : blockZ k_x1 92 ++ tagZ vi_x1 = mo_x1 := by decide +kernel
theorem so_x1 : shaZ mo_x1 = tagZ vo_x1 := sha_of mo_x1 2 (by decide +kernel) vo_x1 (by decide +kernel)
theorem tt_x1 : tagZ vo_x1 = t_x1 := by decide +kernel
theorem hmac_x1 : hmacZ k_x1 b_x1 = t_x1 := by unfold hmacZ; rw [bi_x1, si_x1, bo_x1, so_x1, tt_x1]
def k_x2 : List Int := [74, 101, 102, 101]
def b_x2 : List Int := [119, 104, 97, 116, 32, 100, 111, 32, 121, 97, 32, 119, 97, 110, 116, 32, 102, 111, 114, 32, 110, 111, 116, 104, 105, 110, 103, 63]
def mi_x2 : List Int := [124, 83, 80, 83, 54, 54, 54, 54, 54, 54, 54, 54, 54, 54, 54, 54, 54, 54, 54, 54, 54, 54, 54, 54, 54, 54, 54, 54, 54, 54, 54, 54, 54, 54, 54, 54, 54, 54, 54, 54, 54, 54, 54, 54, 54, 54, 54, 54, 54, 54, 54, 54, 54, 54, 54, 54, 54, 54, 54, 54, 54, 54, 54, 54, 119, 104, 97, 116, 32, 100, 111, 32, 121, 97, 32, 119, 97, 110, 116, 32, 102, 111, 114, 32, 110, 111, 116, 104, 105, 110, 103, 63]
def mo_x2 : List Int := [22, 57, 58, 57, 92, 92, 92, 92, 92, 92, 92, 92, 92, 92, 92, 92, 92, 92, 92, 92, 92, 92, 92, 92, 92, 92, 92, 92, 92, 92, 92, 92, 92, 92, 92, 92, 92, 92, 92, 92, 92, 92, 92, 92, 92, 92, 92, 92, 92, 92, 92, 92, 92, 92, 92, 92, 92, 92, 92, 92, 92, 92, 92, 92, 162, 228, 133, 134, 61, 39, 249, 216, 100, 172, 141, 128, 36, 50, 161, 237, 71, 125, 140, 76, 111, 52, 157, 22, 212, 231, 233, 23, 198, 41, 202, 215]
def vi_x2 : H8 := ⟨2732885382, 1026030040, 1689030016, 607298029, 1199410252, 1865719062, 3571968279, 3324627671⟩
def vo_x2 : H8 := ⟨1541194054, 3210769742, 1778656294, 144012743, 1509965576, 2636593539, 2649512121, 1693202499⟩
def t_x2 : List Int := [91, 220, 193, 70, 191, 96, 117, 78, 106, 4, 36, 38, 8, 149, 117, 199, 90, 0, 63, 8, 157, 39, 57, 131, 157, 236, 88, 185, 100, 236, 56, 67]
theorem bi_x2 : blockZ k_x2 54 ++ b_x2 = mi_x2 := by decide +kernel
theorem si_x2 : shaZ mi_x2 = tagZ vi_x2 := sha_of mi_x2 2 (by decide +kernel) vi_x2 (by decide +kernel)
theorem bo_x2 : blockZ k_x2 92 ++ tagZ vi_x2 = mo_x2 := by decide +kernel
theorem so_x2 : shaZ mo_x2 = tagZ vo_x2 := sha_of mo_x2 2 (by decide +kernel) vo_x2 (by decide +kernel)
theorem tt_x2 : tagZ vo_x2 = t_x2 := by decide +kernel
theorem hmac_x2 : hmacZ k_x2 b_x2 = t_x2 := by unfold hmacZ; rw [bi_x2, si_x2, bo_x2, so_x2, tt_x2]
end Go.Proofs.YtmglhfhcljdfcaaDoor.Sha
