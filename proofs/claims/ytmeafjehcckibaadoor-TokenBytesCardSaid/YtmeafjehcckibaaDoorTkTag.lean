/- The tags of the chapter's tokens, reckoned by the kernel. -/
import Derived.Test.YtmeafjehcckibaaDoorB3
import Derived.Test.YtmeafjehcckibaaDoorTkPr
namespace Go.Proofs.YtmeafjehcckibaaDoor.Sha
open Go.Proofs.YtmeafjehcckibaaDoor.Plain
set_option linter.unusedVariables false
set_option maxRecDepth 100000
def ex_g : GrantZ := ⟨3, 100, 1⟩
def ex_h : GrantZ := ⟨1, 50, 2⟩
def k_e1 : List Int := List.replicate 32 7
def b_e1 : List Int := [0, 0, 0, 0, 0, 0, 0, 2, 0, 0, 0, 0, 0, 0, 0, 3, 0, 0, 0, 0, 0, 0, 0, 100, 0, 0, 0, 0, 0, 0, 0, 1]
def mi_e1 : List Int := [49, 49, 49, 49, 49, 49, 49, 49, 49, 49, 49, 49, 49, 49, 49, 49, 49, 49, 49, 49, 49, 49, 49, 49, 49, 49, 49, 49, 49, 49, 49, 49, 54, 54, 54, 54, 54, 54, 54, 54, 54, 54, 54, 54, 54, 54, 54, 54, 54, 54, 54, 54, 54, 54, 54, 54, 54, 54, 54, 54, 54, 54, 54, 54, 0, 0, 0, 0, 0, 0, 0, 2, 0, 0, 0, 0, 0, 0, 0, 3, 0, 0, 0, 0, 0, 0, 0, 100, 0, 0, 0, 0, 0, 0, 0, 1]
def mo_e1 : List Int := [91, 91, 91, 91, 91, 91, 91, 91, 91, 91, 91, 91, 91, 91, 91, 91, 91, 91, 91, 91, 91, 91, 91, 91, 91, 91, 91, 91, 91, 91, 91, 91, 92, 92, 92, 92, 92, 92, 92, 92, 92, 92, 92, 92, 92, 92, 92, 92, 92, 92, 92, 92, 92, 92, 92, 92, 92, 92, 92, 92, 92, 92, 92, 92, 94, 50, 44, 147, 164, 57, 136, 126, 71, 238, 129, 151, 197, 115, 206, 255, 209, 216, 97, 71, 103, 174, 60, 206, 74, 117, 30, 95, 103, 22, 229, 98]
def vi_e1 : H8 := ⟨1580346515, 2755233918, 1206813079, 3312701183, 3520618823, 1739472078, 1249189471, 1729553762⟩
def vo_e1 : H8 := ⟨1697112906, 2122563558, 4177914123, 2476624585, 3110441480, 4270076273, 2155203668, 1682659103⟩
def t_e1 : List Int := [101, 39, 227, 74, 126, 131, 191, 230, 249, 5, 233, 11, 147, 158, 74, 201, 185, 101, 146, 8, 254, 132, 49, 113, 128, 117, 204, 84, 100, 75, 87, 31]
theorem bi_e1 : blockZ k_e1 54 ++ b_e1 = mi_e1 := by decide +kernel
theorem si_e1 : shaZ mi_e1 = tagZ vi_e1 := sha_of mi_e1 2 (by decide +kernel) vi_e1 (by decide +kernel)
theorem bo_e1 : blockZ k_e1 92 ++ tagZ vi_e1 = mo_e1 := by decide +kernel
theorem so_e1 : shaZ mo_e1 = tagZ vo_e1 := sha_of mo_e1 2 (by decide +kernel) vo_e1 (by decide +kernel)
theorem tt_e1 : tagZ vo_e1 = t_e1 := by decide +kernel
theorem hmac_e1 : hmacZ k_e1 b_e1 = t_e1 := by unfold hmacZ; rw [bi_e1, si_e1, bo_e1, so_e1, tt_e1]
def k_e2 : List Int := [101, 39, 227, 74, 126, 131, 191, 230, 249, 5, 233, 11, 147, 158, 74, 201, 185, 101, 146, 8, 254, 132, 49, 113, 128, 117, 204, 84, 100, 75, 87, 31]
def b_e2 : List Int := [0, 0, 0, 0, 0, 0, 0, 1, 0, 0, 0, 0, 0, 0, 0, 50, 0, 0, 0, 0, 0, 0, 0, 2]
def mi_e2 : List Int := [83, 17, 213, 124, 72, 181, 137, 208, 207, 51, 223, 61, 165, 168, 124, 255, 143, 83, 164, 62, 200, 178, 7, 71, 182, 67, 250, 98, 82, 125, 97, 41, 54, 54, 54, 54, 54, 54, 54, 54, 54, 54, 54, 54, 54, 54, 54, 54, 54, 54, 54, 54, 54, 54, 54, 54, 54, 54, 54, 54, 54, 54, 54, 54, 0, 0, 0, 0, 0, 0, 0, 1, 0, 0, 0, 0, 0, 0, 0, 50, 0, 0, 0, 0, 0, 0, 0, 2]
def mo_e2 : List Int := [57, 123, 191, 22, 34, 223, 227, 186, 165, 89, 181, 87, 207, 194, 22, 149, 229, 57, 206, 84, 162, 216, 109, 45, 220, 41, 144, 8, 56, 23, 11, 67, 92, 92, 92, 92, 92, 92, 92, 92, 92, 92, 92, 92, 92, 92, 92, 92, 92, 92, 92, 92, 92, 92, 92, 92, 92, 92, 92, 92, 92, 92, 92, 92, 110, 76, 107, 107, 31, 163, 83, 36, 53, 173, 35, 37, 165, 77, 146, 140, 209, 202, 8, 168, 253, 16, 195, 8, 96, 250, 78, 89, 223, 102, 230, 160]
def vi_e2 : H8 := ⟨1850501995, 530797348, 900539173, 2773324428, 3519678632, 4245734152, 1627016793, 3748062880⟩
def vo_e2 : H8 := ⟨1606905510, 492228088, 4012862799, 4006043474, 4027908792, 2274557679, 3482017633, 3838702945⟩
def t_e2 : List Int := [95, 199, 110, 166, 29, 86, 205, 248, 239, 47, 109, 79, 238, 199, 95, 82, 240, 21, 2, 184, 135, 146, 254, 239, 207, 139, 95, 97, 228, 205, 245, 97]
theorem bi_e2 : blockZ k_e2 54 ++ b_e2 = mi_e2 := by decide +kernel
theorem si_e2 : shaZ mi_e2 = tagZ vi_e2 := sha_of mi_e2 2 (by decide +kernel) vi_e2 (by decide +kernel)
theorem bo_e2 : blockZ k_e2 92 ++ tagZ vi_e2 = mo_e2 := by decide +kernel
theorem so_e2 : shaZ mo_e2 = tagZ vo_e2 := sha_of mo_e2 2 (by decide +kernel) vo_e2 (by decide +kernel)
theorem tt_e2 : tagZ vo_e2 = t_e2 := by decide +kernel
theorem hmac_e2 : hmacZ k_e2 b_e2 = t_e2 := by unfold hmacZ; rw [bi_e2, si_e2, bo_e2, so_e2, tt_e2]
def k_e3 : List Int := List.replicate 32 7
def b_e3 : List Int := [0, 0, 0, 0, 0, 0, 0, 3, 0, 0, 0, 0, 0, 0, 0, 3, 0, 0, 0, 0, 0, 0, 0, 100, 0, 0, 0, 0, 0, 0, 0, 1]
def mi_e3 : List Int := [49, 49, 49, 49, 49, 49, 49, 49, 49, 49, 49, 49, 49, 49, 49, 49, 49, 49, 49, 49, 49, 49, 49, 49, 49, 49, 49, 49, 49, 49, 49, 49, 54, 54, 54, 54, 54, 54, 54, 54, 54, 54, 54, 54, 54, 54, 54, 54, 54, 54, 54, 54, 54, 54, 54, 54, 54, 54, 54, 54, 54, 54, 54, 54, 0, 0, 0, 0, 0, 0, 0, 3, 0, 0, 0, 0, 0, 0, 0, 3, 0, 0, 0, 0, 0, 0, 0, 100, 0, 0, 0, 0, 0, 0, 0, 1]
def mo_e3 : List Int := [91, 91, 91, 91, 91, 91, 91, 91, 91, 91, 91, 91, 91, 91, 91, 91, 91, 91, 91, 91, 91, 91, 91, 91, 91, 91, 91, 91, 91, 91, 91, 91, 92, 92, 92, 92, 92, 92, 92, 92, 92, 92, 92, 92, 92, 92, 92, 92, 92, 92, 92, 92, 92, 92, 92, 92, 92, 92, 92, 92, 92, 92, 92, 92, 21, 168, 160, 235, 217, 169, 221, 183, 235, 85, 19, 208, 185, 199, 166, 57, 138, 215, 80, 237, 223, 45, 7, 15, 5, 8, 85, 145, 154, 98, 201, 18]
def vi_e3 : H8 := ⟨363372779, 3651788215, 3948221392, 3116869177, 2329366765, 3744270095, 84432273, 2590165266⟩
def vo_e3 : H8 := ⟨3861135602, 2499138707, 3952236308, 932325390, 3440419838, 695024905, 3514199366, 3466398654⟩
def t_e3 : List Int := [230, 36, 64, 242, 148, 245, 212, 147, 235, 146, 87, 20, 55, 146, 40, 14, 205, 16, 163, 254, 41, 109, 61, 9, 209, 118, 109, 70, 206, 157, 11, 190]
theorem bi_e3 : blockZ k_e3 54 ++ b_e3 = mi_e3 := by decide +kernel
theorem si_e3 : shaZ mi_e3 = tagZ vi_e3 := sha_of mi_e3 2 (by decide +kernel) vi_e3 (by decide +kernel)
theorem bo_e3 : blockZ k_e3 92 ++ tagZ vi_e3 = mo_e3 := by decide +kernel
theorem so_e3 : shaZ mo_e3 = tagZ vo_e3 := sha_of mo_e3 2 (by decide +kernel) vo_e3 (by decide +kernel)
theorem tt_e3 : tagZ vo_e3 = t_e3 := by decide +kernel
theorem hmac_e3 : hmacZ k_e3 b_e3 = t_e3 := by unfold hmacZ; rw [bi_e3, si_e3, bo_e3, so_e3, tt_e3]
def k_e4 : List Int := [230, 36, 64, 242, 148, 245, 212, 147, 235, 146, 87, 20, 55, 146, 40, 14, 205, 16, 163, 254, 41, 109, 61, 9, 209, 118, 109, 70, 206, 157, 11, 190]
def b_e4 : List Int := [0, 0, 0, 0, 0, 0, 0, 1, 0, 0, 0, 0, 0, 0, 0, 50, 0, 0, 0, 0, 0, 0, 0, 2]
def mi_e4 : List Int := [208, 18, 118, 196, 162, 195, 226, 165, 221, 164, 97, 34, 1, 164, 30, 56, 251, 38, 149, 200, 31, 91, 11, 63, 231, 64, 91, 112, 248, 171, 61, 136, 54, 54, 54, 54, 54, 54, 54, 54, 54, 54, 54, 54, 54, 54, 54, 54, 54, 54, 54, 54, 54, 54, 54, 54, 54, 54, 54, 54, 54, 54, 54, 54, 0, 0, 0, 0, 0, 0, 0, 1, 0, 0, 0, 0, 0, 0, 0, 50, 0, 0, 0, 0, 0, 0, 0, 2]
def mo_e4 : List Int := [186, 120, 28, 174, 200, 169, 136, 207, 183, 206, 11, 72, 107, 206, 116, 82, 145, 76, 255, 162, 117, 49, 97, 85, 141, 42, 49, 26, 146, 193, 87, 226, 92, 92, 92, 92, 92, 92, 92, 92, 92, 92, 92, 92, 92, 92, 92, 92, 92, 92, 92, 92, 92, 92, 92, 92, 92, 92, 92, 92, 92, 92, 92, 92, 111, 6, 241, 90, 1, 13, 101, 72, 174, 196, 226, 73, 167, 121, 122, 100, 254, 94, 35, 44, 215, 16, 233, 234, 92, 252, 74, 56, 125, 67, 176, 1]
def vi_e4 : H8 := ⟨1862725978, 17655112, 2932138569, 2809756260, 4267582252, 3608209898, 1560037944, 2101587969⟩
def vo_e4 : H8 := ⟨1157359032, 500750161, 2041097638, 2782260134, 3020420442, 4225270096, 3576225135, 123780928⟩
def t_e4 : List Int := [68, 251, 229, 184, 29, 216, 215, 81, 121, 168, 173, 166, 165, 213, 235, 166, 180, 7, 245, 90, 251, 216, 129, 80, 213, 40, 221, 111, 7, 96, 191, 64]
theorem bi_e4 : blockZ k_e4 54 ++ b_e4 = mi_e4 := by decide +kernel
theorem si_e4 : shaZ mi_e4 = tagZ vi_e4 := sha_of mi_e4 2 (by decide +kernel) vi_e4 (by decide +kernel)
theorem bo_e4 : blockZ k_e4 92 ++ tagZ vi_e4 = mo_e4 := by decide +kernel
theorem so_e4 : shaZ mo_e4 = tagZ vo_e4 := sha_of mo_e4 2 (by decide +kernel) vo_e4 (by decide +kernel)
theorem tt_e4 : tagZ vo_e4 = t_e4 := by decide +kernel
theorem hmac_e4 : hmacZ k_e4 b_e4 = t_e4 := by unfold hmacZ; rw [bi_e4, si_e4, bo_e4, so_e4, tt_e4]
theorem n_e1 : numsB ((2 : Int) :: gN ex_g) = b_e1 := by decide +kernel
theorem n_e3 : numsB ((3 : Int) :: gN ex_g) = b_e3 := by decide +kernel
theorem n_e2 : numsB (gN ex_h) = b_e2 := by decide +kernel
theorem n_e4 : numsB (gN ex_h) = b_e4 := by decide +kernel
theorem tag_g : tokTag k_e1 2 [ex_g] = t_e1 := by
  show hmacZ k_e1 (numsB ((2 : Int) :: gN ex_g)) = _
  rw [n_e1, hmac_e1]
theorem next_gh : nextZ t_e1 ex_h = t_e2 := by
  show hmacZ k_e2 (numsB (gN ex_h)) = _
  rw [n_e2, hmac_e2]
theorem tag_gh : tokTag k_e1 2 [ex_g, ex_h] = t_e2 := by
  show nextZ (hmacZ k_e1 (numsB ((2 : Int) :: gN ex_g))) ex_h = _
  rw [n_e1, hmac_e1, next_gh]
theorem tag_gh3 : tokTag k_e1 3 [ex_g, ex_h] = t_e4 := by
  show nextZ (hmacZ k_e3 (numsB ((3 : Int) :: gN ex_g))) ex_h = _
  rw [n_e3, hmac_e3]
  show hmacZ k_e4 (numsB (gN ex_h)) = _
  rw [n_e4, hmac_e4]
theorem unlike_1 : eqB t_e2 t_e1 = false := by decide +kernel
theorem unlike_2 : eqB t_e2 t_e4 = false := by decide +kernel
end Go.Proofs.YtmeafjehcckibaaDoor.Sha
