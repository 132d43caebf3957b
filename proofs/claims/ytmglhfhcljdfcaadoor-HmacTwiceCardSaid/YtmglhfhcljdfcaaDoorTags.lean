/- The tags of the examples, and of up to 200 noughts, reckoned by the kernel. -/
import Derived.Test.YtmglhfhcljdfcaaDoorFast
namespace Go.Proofs.YtmglhfhcljdfcaaDoor.Sha
open Go.Proofs.YtmglhfhcljdfcaaDoor.Plain
set_option linter.unusedVariables false
set_option maxRecDepth 100000
def m_nil : List Int := []
def v_nil : H8 := ⟨3820012610, 2566659092, 2600203464, 2574235940, 665731556, 1687917388, 2761267483, 2018687061⟩
theorem sha_nil : shaZ m_nil = tagZ v_nil := sha_of m_nil 1 (by decide +kernel) v_nil (by decide +kernel)
def m_abc : List Int := [97, 98, 99]
def v_abc : H8 := ⟨3128432319, 2399260650, 1094795486, 1571693091, 2953011619, 2518121116, 3021012833, 4060091821⟩
theorem sha_abc : shaZ m_abc = tagZ v_abc := sha_of m_abc 1 (by decide +kernel) v_abc (by decide +kernel)
def m_two : List Int := [97, 98, 99, 100, 98, 99, 100, 101, 99, 100, 101, 102, 100, 101, 102, 103, 101, 102, 103, 104, 102, 103, 104, 105, 103, 104, 105, 106, 104, 105, 106, 107, 105, 106, 107, 108, 106, 107, 108, 109, 107, 108, 109, 110, 108, 109, 110, 111, 109, 110, 111, 112, 110, 111, 112, 113]
def v_two : H8 := ⟨613247585, 3523623096, 3854575251, 205414457, 2738676825, 1694441831, 4142722516, 433784513⟩
theorem sha_two : shaZ m_two = tagZ v_two := sha_of m_two 2 (by decide +kernel) v_two (by decide +kernel)
def z_1 : H8 := ⟨3663108286, 398046313, 1647531929, 2006957770, 2363872401, 3235013187, 3137272298, 406301144⟩
def z_2 : H8 := ⟨1753322530, 427712285, 3703720195, 2823132263, 2087222896, 476200146, 2194495960, 3856981803⟩
def z_3 : H8 := ⟨3900125012, 916005393, 2860375374, 1682130322, 2832640372, 623511342, 345115685, 886862940⟩
def zst (z : Nat) : H8 := match z with | 0 => h0 | 1 => z_1 | 2 => z_2 | _ => z_3
/-- The first number of the tag of 64 z + r noughts. -/
def headF (z r : Nat) : Nat := (fbeh (zst z).list (List.replicate r 0 ++ padZ (64 * z + r)) ((r + (padZ (64 * z + r)).length) / 64)).headD 0
def heads : List Nat := [3820012610, 1848904604, 2527237842, 1889435848, 3745472920, 2287292554, 2968939228, 2205713864, 2941612277, 1047558141, 30689455, 1907802581, 367819760, 3712402414, 3891063740, 1394802383, 927402239, 176689432, 1624941477, 3606930165, 3729246642, 3372364376, 1783133661, 22181350, 2643496655, 1628597729, 1704801994, 3930696351, 987626260, 300167618, 108602477, 4245208725, 1718123181, 2140970545, 3943967500, 223688161, 1840668629, 2871306591, 1982530102, 2495684307, 741658141, 2652321476, 155994417, 2241278649, 2239077176, 2316312675, 2274308855, 336517701, 397440543, 2022145960, 3425142497, 2391794814, 2035665709, 893376040, 3932527836, 41391206, 3565255333, 1705077943, 1723115698, 3718538892, 1573657432, 3336727614, 515582940, 3346153377, 4121296194, 2563654366, 4022010807, 467841945, 391228434, 3439706664, 2197618002, 134601948, 2202693787, 2622944394, 3498052817, 913598452, 4072723781, 123036143, 1431467147, 1097342864, 1534047630, 1735968711, 281820216, 8432119, 1340759658, 1782223617, 921197452, 1772410763, 284095109, 2696905651, 2559183305, 664136851, 1655785575, 3687828599, 3548305469, 2235721748, 782871441, 325964199, 807882522, 1261011032, 3439387282, 3767392662, 3290016044, 927229301, 972259213, 1379680582, 886822591, 2734464934, 1997750083, 3045754337, 4063465816, 616112379, 3053300600, 2501581973, 2150350609, 600663941, 1532066130, 4276343713, 24818871, 4128682197, 1860018031, 3625098724, 292644460, 1083867011, 2072955101, 1121360345, 3955522838, 366667159, 947010094, 746611101, 3847904295, 3546802366, 291220756, 1476381130, 3890723452, 1101636653, 3070698517, 1251182927, 1214939666, 1043699442, 604265488, 3693093313, 3085984948, 1712000982, 2177241587, 3280933524, 1442852139, 600202682, 991479180, 1443049353, 495145355, 1024674892, 2242749822, 4050009294, 4178694156, 816272703, 1505726609, 1589722449, 381865141, 3616185035, 3012794248, 2668558037, 2067508820, 2114831265, 1260580456, 715259243, 2159400996, 219280420, 3821186869, 1616725926, 3497779160, 1103592471, 1492261038, 868439618, 3937310890, 1427432262, 2261962587, 2374299434, 1760763262, 1577500585, 280143464, 3676591266, 182527153, 4048019392, 3625712464, 3132976998, 3044855468, 2533948684, 3816612784, 116003214, 132946937, 1354080417, 1569321046, 3844497973, 1544092804, 530468711, 3640975857, 2363834279, 2800399362, 1333037101, 1838961886]
theorem z1_eq : fbeh h0.list (List.replicate 64 0) 1 = z_1.list := by decide +kernel
theorem z2_eq : fbeh z_1.list (List.replicate 64 0) 1 = z_2.list := by decide +kernel
theorem z3_eq : fbeh z_2.list (List.replicate 64 0) 1 = z_3.list := by decide +kernel
/-- The heads from n on, so many of them, are the table's. -/
def headsOk (n : Nat) : Nat → Bool
  | 0 => true
  | k + 1 => and (Nat.beq (headF ((n + k) / 64) ((n + k) % 64)) (heads.getD (n + k) 0)) (headsOk n k)
theorem headsOk_at (n : Nat) : ∀ k, headsOk n k = true → ∀ j, j < k → headF ((n + j) / 64) ((n + j) % 64) = heads.getD (n + j) 0
  | 0, _, j, hj => absurd hj (by omega)
  | k + 1, h, j, hj => by
    simp only [headsOk, Bool.and_eq_true] at h
    by_cases e : j = k
    · subst e; exact Nat.eq_of_beq_eq_true h.1
    · exact headsOk_at n k h.2 j (by omega)
theorem heads_0 : headsOk 0 28 = true := by decide +kernel
theorem heads_1 : headsOk 28 28 = true := by decide +kernel
theorem heads_2 : headsOk 56 36 = true := by decide +kernel
theorem heads_3 : headsOk 92 28 = true := by decide +kernel
theorem heads_4 : headsOk 120 36 = true := by decide +kernel
theorem heads_5 : headsOk 156 28 = true := by decide +kernel
theorem heads_6 : headsOk 184 17 = true := by decide +kernel
theorem heads_at (n : Nat) (h : n ≤ 200) : headF (n / 64) (n % 64) = heads.getD n 0 := by
  by_cases h0 : n < 28
  · have := headsOk_at 0 28 heads_0 (n - 0) (by omega)
    rwa [show 0 + (n - 0) = n from by omega] at this
  by_cases h1 : n < 56
  · have := headsOk_at 28 28 heads_1 (n - 28) (by omega)
    rwa [show 28 + (n - 28) = n from by omega] at this
  by_cases h2 : n < 92
  · have := headsOk_at 56 36 heads_2 (n - 56) (by omega)
    rwa [show 56 + (n - 56) = n from by omega] at this
  by_cases h3 : n < 120
  · have := headsOk_at 92 28 heads_3 (n - 92) (by omega)
    rwa [show 92 + (n - 92) = n from by omega] at this
  by_cases h4 : n < 156
  · have := headsOk_at 120 36 heads_4 (n - 120) (by omega)
    rwa [show 120 + (n - 120) = n from by omega] at this
  by_cases h5 : n < 184
  · have := headsOk_at 156 28 heads_5 (n - 156) (by omega)
    rwa [show 156 + (n - 156) = n from by omega] at this
  by_cases h6 : n < 201
  · have := headsOk_at 184 17 heads_6 (n - 184) (by omega)
    rwa [show 184 + (n - 184) = n from by omega] at this
  omega
def freshB (x : Nat) : List Nat → Bool
  | [] => true
  | y :: l => and (Bool.not (Nat.beq x y)) (freshB x l)
def unlikeB : List Nat → Bool
  | [] => true
  | x :: l => and (freshB x l) (unlikeB l)
theorem freshB_at (x : Nat) : ∀ l, freshB x l = true → ∀ j, j < l.length → l.getD j 0 ≠ x
  | [], _, j, hj => absurd hj (by simp)
  | y :: l, h, j, hj => by
    simp only [freshB, Bool.and_eq_true] at h
    cases j with
    | zero =>
      intro e
      simp at e
      subst e
      have := h.1
      rw [show Nat.beq y y = true from Nat.beq_refl y] at this
      cases this
    | succ j =>
      have := freshB_at x l h.2 j (by simpa using hj)
      simpa using this
theorem unlikeB_at : ∀ l, unlikeB l = true → ∀ i j, i < j → j < l.length → l.getD i 0 ≠ l.getD j 0
  | [], _, i, j, _, hj => absurd hj (by simp)
  | x :: l, h, i, j, hij, hj => by
    simp only [unlikeB, Bool.and_eq_true] at h
    cases j with
    | zero => omega
    | succ j =>
      cases i with
      | zero =>
        have := freshB_at x l h.1 j (by simpa using hj)
        simp only [List.getD_cons_zero, List.getD_cons_succ]
        exact fun e => this e.symm
      | succ i =>
        have := unlikeB_at l h.2 i j (by omega) (by simpa using hj)
        simpa using this
theorem heads_unlike : unlikeB heads = true := by decide +kernel
end Go.Proofs.YtmglhfhcljdfcaaDoor.Sha
