/- HMACs of unlike single bytes, keys, numbers are unlike: reckoned by the kernel. -/
import Derived.Test.YtmglhfhcljdfcaaDoorHTags
namespace Go.Proofs.YtmglhfhcljdfcaaDoor.Sha
open Go.Proofs.YtmglhfhcljdfcaaDoor.Plain
set_option linter.unusedVariables false
set_option maxRecDepth 100000
def tagL (s : List Nat) : List Int := s.flatMap fun (x : Nat) => putZ (x : Int) 4
theorem tagL_eq (v : H8) : tagL v.list = tagZ v := by simp [tagL, H8.list, tagZ, List.append_assoc]
def headH (vi vo : List Nat) (m : List Int) : Nat := fzl (fbeh vi (m ++ padZ (64 + m.length)) 1) fun s => (fbeh vo (tagL s ++ padZ 96) 1).headD 0
theorem behind_one (v : H8) (m : List Int) (h : m.length = 64) : (Sha.behind v m).list = fbeh v.list m 1 := by
  rw [fbeh_eq]; unfold Sha.behind; rw [h]
theorem headH_eq (key m : List Int) (hm : m.length ≤ 55) (VI VO : H8) (hi : Sha.behind h0 (blockZ key 54) = VI) (ho : Sha.behind h0 (blockZ key 92) = VO) :
    ∃ S : H8, S.ok ∧ hmacZ key m = tagZ S ∧ S.a = headH VI.list VO.list m := by
  have l1 : (m ++ padZ (64 + m.length)).length = 64 := by rw [List.length_append, padZ_len]; omega
  obtain ⟨S1, h1⟩ : ∃ S, Sha.behind VI (m ++ padZ (64 + m.length)) = S := ⟨_, rfl⟩
  obtain ⟨S2, h2⟩ : ∃ S, Sha.behind VO (tagZ S1 ++ padZ 96) = S := ⟨_, rfl⟩
  have l2 : (tagZ S1 ++ padZ 96).length = 64 := by rw [List.length_append, padZ_len, tagZ_len]
  have e1 : shaZ (blockZ key 54 ++ m) = tagZ S1 := by
    unfold shaZ
    rw [List.length_append, blockZ_len, List.append_assoc, ← behind_whole _ _ _ (by rw [blockZ_len]), hi, h1]
  have e2 : shaZ (blockZ key 92 ++ tagZ S1) = tagZ S2 := by
    unfold shaZ
    rw [List.length_append, blockZ_len, tagZ_len, List.append_assoc, ← behind_whole _ _ _ (by rw [blockZ_len]), ho, h2]
  have okO : VO.ok := by rw [← ho]; exact behind_ok h0_ok _
  refine ⟨S2, by rw [← h2]; exact behind_ok okO _, by unfold hmacZ; rw [e1, e2], ?_⟩
  unfold headH
  rw [fzl_eq, ← behind_one VI _ l1, h1, tagL_eq, ← behind_one VO _ l2, h2]
  rfl
def tabOk (f : Nat → Nat) (tab : List Nat) (n : Nat) : Nat → Bool
  | 0 => true
  | k + 1 => and (Nat.beq (f (n + k)) (tab.getD (n + k) 0)) (tabOk f tab n k)
theorem tabOk_at (f : Nat → Nat) (tab : List Nat) (n : Nat) : ∀ k, tabOk f tab n k = true → ∀ j, j < k → f (n + j) = tab.getD (n + j) 0
  | 0, _, j, hj => absurd hj (by omega)
  | k + 1, h, j, hj => by
    simp only [tabOk, Bool.and_eq_true] at h
    by_cases e : j = k
    · subst e; exact Nat.eq_of_beq_eq_true h.1
    · exact tabOk_at f tab n k h.2 j (by omega)
theorem tab_unlike {f : Nat → Nat} {tab : List Nat} (hl : tab.length = 256) (hu : unlikeB tab = true) (h : ∀ n, n < 256 → f n = tab.getD n 0) (n m : Nat) (hn : n < 256) (hm : m < 256) (e : f n = f m) : n = m := by
  rw [h n hn, h m hm] at e
  by_cases e2 : n = m
  · exact e2
  · exfalso
    rcases Nat.lt_or_gt_of_ne e2 with h3 | h3
    · exact unlikeB_at tab hu n m h3 (by omega) e
    · exact unlikeB_at tab hu m n h3 (by omega) e.symm
theorem unlike_of (F : Nat → List Int) (f : Nat → Nat) (hF : ∀ n, n < 256 → ∃ S : H8, S.ok ∧ F n = tagZ S ∧ S.a = f n) (hinj : ∀ n m, n < 256 → m < 256 → f n = f m → n = m) (n m : Nat) (hn : n < 256) (hm : m < 256) (h : F n = F m) : n = m := by
  obtain ⟨S, o1, e1, a1⟩ := hF n hn
  obtain ⟨R, o2, e2, a2⟩ := hF m hm
  rw [e1, e2] at h
  have h1 := congrArg (List.take 4) h
  rw [tagZ_a, tagZ_a] at h1
  have h2 := putZ4_inj _ _ o1.a o2.a h1
  exact hinj n m hn hm (by rw [← a1, ← a2, h2])
def vik : H8 := ⟨3690320081, 3937412416, 514508918, 3184350150, 1139450408, 531523931, 3833582886, 4168685675⟩
def vok : H8 := ⟨1124968994, 333640425, 3398940844, 2892595454, 3493942986, 552989959, 3679927956, 1637605473⟩
theorem vik_eq : Sha.behind h0 (blockZ [107] 54) = vik := h8_ext (by rw [behind_one _ _ (blockZ_len _ _)]; decide +kernel)
theorem vok_eq : Sha.behind h0 (blockZ [107] 92) = vok := h8_ext (by rw [behind_one _ _ (blockZ_len _ _)]; decide +kernel)
def f1 (a : Nat) : Nat := headH vik.list vok.list [(a : Int)]
def f2 (a : Nat) : Nat := fzl (fbeh h0.list (blockZ [(a : Int)] 54) 1) fun vi => fzl (fbeh h0.list (blockZ [(a : Int)] 92) 1) fun vo => headH vi vo [107]
def f3 (n : Nat) : Nat := headH vik.list vok.list ([120, 0] ++ putZ (n : Int) 8)
def tab1 : List Nat := [1738474944, 1905299478, 1875969052, 1470096769, 1861986543, 3859830401, 1652951419, 2156730822, 2921179216, 931068047, 4097100420, 1180874088, 3678990931, 3486018422, 2771992594, 3646645490, 2442176582, 2609769397, 4000445626, 1972576749, 3827257259, 2747860840, 2842982311, 1471550020, 2809563577, 371389865, 1713590782, 1116529806, 842874973, 3515546858, 471966805, 1385039937, 2019404732, 817293752, 906388695, 1268783224, 3514428060, 3643222157, 192081187, 3639362537, 2823265837, 1709112738, 3118768144, 2816018600, 1877322520, 3610279957, 3790974368, 1256493215, 3024949434, 178390349, 3914186872, 1940720000, 2807307457, 2917238729, 3891069586, 2624814358, 464604120, 3325277628, 4250617279, 700473043, 2015696909, 964661379, 141068287, 1499518483, 4213291387, 2595126512, 416223596, 1813131862, 2811549290, 3219813619, 2493811522, 257157390, 525683097, 968464433, 2159472239, 2781897446, 1468691148, 3298386885, 3374300310, 1578802024, 3616316501, 1516468833, 1736645610, 2378209907, 652249496, 712552569, 1119956453, 2550588281, 681975383, 4070496951, 1719844329, 2985839257, 3754982052, 97901499, 3703933572, 3343505409, 2835892872, 2027589969, 800299160, 2057481205, 3890880963, 392808616, 3149329920, 303855797, 2108350101, 216713347, 2981624952, 3482370320, 1357234702, 3053490403, 3265021900, 1379181053, 3514754294, 875629260, 2018212074, 2807362565, 3892100118, 3091325064, 3319053849, 3070985454, 3280919688, 3279782799, 4259213033, 3775350630, 3513824746, 2469437774, 837567512, 126860703, 957060432, 1139508853, 2302909604, 1409823781, 4147086004, 418663350, 939154313, 1923298213, 2296438152, 3135864196, 1130814647, 1006090379, 1465491580, 1987867803, 392676315, 3941220940, 2576889060, 3901968728, 1762394405, 2047314863, 4229371386, 1143645340, 491593806, 3674806278, 1029468562, 2113979495, 3804730074, 239190963, 343928144, 150521679, 2342354360, 1699162873, 4103125570, 3646091877, 75153179, 3988831871, 3632227529, 2271850637, 2814090891, 1280112734, 1254491248, 270623350, 429108964, 2931971650, 694584012, 2500086940, 1664452272, 4009308410, 1065305801, 1034490304, 2924786038, 3654839383, 1518811510, 1293553176, 181351523, 3111551207, 1984152358, 1429508532, 1748776969, 1492597013, 1503930283, 1783029133, 2636732888, 2427976717, 3745027098, 1161538395, 1446105628, 464729380, 3886176291, 2457477616, 2882968006, 3647302853, 1387858623, 1767090836, 1722150138, 2765189156, 532243107, 585439511, 2679821906, 1861014835, 1877935432, 1806130566, 1043079827, 2727324067, 694477979, 2799633152, 846893034, 1351038991, 1060062040, 3738138086, 1696596201, 3018094960, 225287553, 3127094127, 2465968773, 4001899850, 4210211743, 546213352, 1018084170, 760723530, 3582700939, 478801258, 3041232169, 4017573857, 3554845736, 3303266890, 1937771250, 1068378040, 3380103082, 295298110, 1245183007, 2288210583, 2565619814, 2952301929, 2458354828, 1077264981, 1175364102, 1207126277, 1778568831, 438825134, 358664637, 928368437, 4091427094, 534050347, 176317874, 3325838769, 3469954110, 3203967163]
theorem ok1_0 : tabOk f1 tab1 0 16 = true := by decide +kernel
theorem ok1_16 : tabOk f1 tab1 16 16 = true := by decide +kernel
theorem ok1_32 : tabOk f1 tab1 32 16 = true := by decide +kernel
theorem ok1_48 : tabOk f1 tab1 48 16 = true := by decide +kernel
theorem ok1_64 : tabOk f1 tab1 64 16 = true := by decide +kernel
theorem ok1_80 : tabOk f1 tab1 80 16 = true := by decide +kernel
theorem ok1_96 : tabOk f1 tab1 96 16 = true := by decide +kernel
theorem ok1_112 : tabOk f1 tab1 112 16 = true := by decide +kernel
theorem ok1_128 : tabOk f1 tab1 128 16 = true := by decide +kernel
theorem ok1_144 : tabOk f1 tab1 144 16 = true := by decide +kernel
theorem ok1_160 : tabOk f1 tab1 160 16 = true := by decide +kernel
theorem ok1_176 : tabOk f1 tab1 176 16 = true := by decide +kernel
theorem ok1_192 : tabOk f1 tab1 192 16 = true := by decide +kernel
theorem ok1_208 : tabOk f1 tab1 208 16 = true := by decide +kernel
theorem ok1_224 : tabOk f1 tab1 224 16 = true := by decide +kernel
theorem ok1_240 : tabOk f1 tab1 240 16 = true := by decide +kernel
theorem at1 (n : Nat) (h : n < 256) : f1 n = tab1.getD n 0 := by
  by_cases h0 : n < 16
  · have := tabOk_at f1 tab1 0 16 ok1_0 (n - 0) (by omega)
    rwa [show 0 + (n - 0) = n from by omega] at this
  by_cases h16 : n < 32
  · have := tabOk_at f1 tab1 16 16 ok1_16 (n - 16) (by omega)
    rwa [show 16 + (n - 16) = n from by omega] at this
  by_cases h32 : n < 48
  · have := tabOk_at f1 tab1 32 16 ok1_32 (n - 32) (by omega)
    rwa [show 32 + (n - 32) = n from by omega] at this
  by_cases h48 : n < 64
  · have := tabOk_at f1 tab1 48 16 ok1_48 (n - 48) (by omega)
    rwa [show 48 + (n - 48) = n from by omega] at this
  by_cases h64 : n < 80
  · have := tabOk_at f1 tab1 64 16 ok1_64 (n - 64) (by omega)
    rwa [show 64 + (n - 64) = n from by omega] at this
  by_cases h80 : n < 96
  · have := tabOk_at f1 tab1 80 16 ok1_80 (n - 80) (by omega)
    rwa [show 80 + (n - 80) = n from by omega] at this
  by_cases h96 : n < 112
  · have := tabOk_at f1 tab1 96 16 ok1_96 (n - 96) (by omega)
    rwa [show 96 + (n - 96) = n from by omega] at this
  by_cases h112 : n < 128
  · have := tabOk_at f1 tab1 112 16 ok1_112 (n - 112) (by omega)
    rwa [show 112 + (n - 112) = n from by omega] at this
  by_cases h128 : n < 144
  · have := tabOk_at f1 tab1 128 16 ok1_128 (n - 128) (by omega)
    rwa [show 128 + (n - 128) = n from by omega] at this
  by_cases h144 : n < 160
  · have := tabOk_at f1 tab1 144 16 ok1_144 (n - 144) (by omega)
    rwa [show 144 + (n - 144) = n from by omega] at this
  by_cases h160 : n < 176
  · have := tabOk_at f1 tab1 160 16 ok1_160 (n - 160) (by omega)
    rwa [show 160 + (n - 160) = n from by omega] at this
  by_cases h176 : n < 192
  · have := tabOk_at f1 tab1 176 16 ok1_176 (n - 176) (by omega)
    rwa [show 176 + (n - 176) = n from by omega] at this
  by_cases h192 : n < 208
  · have := tabOk_at f1 tab1 192 16 ok1_192 (n - 192) (by omega)
    rwa [show 192 + (n - 192) = n from by omega] at this
  by_cases h208 : n < 224
  · have := tabOk_at f1 tab1 208 16 ok1_208 (n - 208) (by omega)
    rwa [show 208 + (n - 208) = n from by omega] at this
  by_cases h224 : n < 240
  · have := tabOk_at f1 tab1 224 16 ok1_224 (n - 224) (by omega)
    rwa [show 224 + (n - 224) = n from by omega] at this
  by_cases h240 : n < 256
  · have := tabOk_at f1 tab1 240 16 ok1_240 (n - 240) (by omega)
    rwa [show 240 + (n - 240) = n from by omega] at this
  omega
theorem un1 : unlikeB tab1 = true := by decide +kernel
def tab2 : List Nat := [1090266143, 651372880, 468758955, 473910569, 868707607, 4012664406, 3305077867, 1158436202, 763376059, 2129947012, 4087264740, 3559133177, 3879557422, 2247821724, 2663806101, 3563569649, 3040800204, 2839003851, 3183925125, 2733259698, 2434628597, 3444059920, 3819896814, 2954081735, 1299829025, 983774885, 864236749, 3719983974, 3307526579, 979350193, 3158926697, 1092030908, 2555048034, 2146973182, 140895970, 31000613, 3935190551, 1185029452, 4012317682, 2038665795, 287420451, 736817497, 2129327480, 2852813696, 2651215406, 40841246, 3674648818, 2641864257, 1777265024, 162309784, 3680550551, 2485512531, 3158759351, 12382442, 356421591, 2429953024, 1153740338, 454490903, 4062018476, 3028140950, 2200681828, 4066880659, 2111527932, 1255757421, 649159120, 2024882827, 644471383, 29527152, 149539113, 2700742785, 1198943863, 1042035732, 2147170562, 851593005, 3736918204, 567272644, 1055055841, 3089046427, 1003288425, 3572275312, 352382535, 1260632971, 2978075294, 1838726273, 2636461042, 730581092, 2717510503, 473399242, 2671116567, 2938512349, 4286118228, 4282908571, 593843408, 3232373928, 22432733, 4159450460, 2878953026, 1550774623, 3108301478, 4203493884, 1889101580, 959194943, 2681514973, 386167097, 3139624613, 3299833624, 3198300976, 3482370320, 4161866087, 4085911000, 1451753640, 443411313, 2012181266, 1314474952, 2422570976, 4025808796, 4157083836, 295570749, 1183723880, 2756863555, 791836164, 3514387461, 912127523, 360365329, 2730507114, 392204474, 1947930122, 258053875, 214407731, 891141497, 1935577596, 186321048, 4286637743, 2826046359, 1403214557, 1748045184, 3933510083, 1568631450, 1898843007, 1072157056, 2032774717, 1219754072, 925713646, 1217900764, 3237080081, 913721926, 639632602, 622294411, 615416065, 3521584518, 1559327856, 743980352, 4244970792, 1776563186, 3528940684, 242561173, 629970772, 3533319678, 3598182793, 1245941298, 1468609371, 1562576168, 1681403447, 1551298545, 2958771703, 2772177106, 1473551398, 3667971111, 3079238004, 2489929357, 700921337, 1731539390, 2704957469, 2747709432, 3156262571, 2053665738, 1520975527, 362078807, 3118704845, 3780397526, 2728969681, 552361958, 366257173, 2637054162, 1286319969, 3023281393, 1056377533, 93789499, 867170733, 12867495, 3504817638, 849369353, 3041053069, 3442982739, 568395659, 1451441456, 1205314114, 224378367, 3092776233, 2911104922, 3208422512, 3704028874, 1233826252, 2223710132, 2417072186, 2305705287, 296052636, 776481575, 368996921, 692617439, 4201998334, 3157555873, 864476696, 3749822399, 1550482023, 1639221496, 1778083543, 92548005, 1884343343, 707002468, 688737319, 2326396335, 143095319, 723348465, 1117844693, 2269163776, 1348240112, 2478338206, 2074938127, 3189864474, 1564263774, 3762647356, 2500487321, 4134792845, 1387941702, 2287728289, 3493525362, 3210282602, 1501571671, 2676040500, 2723952359, 168552829, 2491450732, 1543142474, 1592910789, 677881663, 2736944651, 3024313195, 4075031279, 164916656, 346132403, 268395388, 3985659893, 3669598388, 2279956201, 549807370]
theorem ok2_0 : tabOk f2 tab2 0 16 = true := by decide +kernel
theorem ok2_16 : tabOk f2 tab2 16 16 = true := by decide +kernel
theorem ok2_32 : tabOk f2 tab2 32 16 = true := by decide +kernel
theorem ok2_48 : tabOk f2 tab2 48 16 = true := by decide +kernel
theorem ok2_64 : tabOk f2 tab2 64 16 = true := by decide +kernel
theorem ok2_80 : tabOk f2 tab2 80 16 = true := by decide +kernel
theorem ok2_96 : tabOk f2 tab2 96 16 = true := by decide +kernel
theorem ok2_112 : tabOk f2 tab2 112 16 = true := by decide +kernel
theorem ok2_128 : tabOk f2 tab2 128 16 = true := by decide +kernel
theorem ok2_144 : tabOk f2 tab2 144 16 = true := by decide +kernel
theorem ok2_160 : tabOk f2 tab2 160 16 = true := by decide +kernel
theorem ok2_176 : tabOk f2 tab2 176 16 = true := by decide +kernel
theorem ok2_192 : tabOk f2 tab2 192 16 = true := by decide +kernel
theorem ok2_208 : tabOk f2 tab2 208 16 = true := by decide +kernel
theorem ok2_224 : tabOk f2 tab2 224 16 = true := by decide +kernel
theorem ok2_240 : tabOk f2 tab2 240 16 = true := by decide +kernel
theorem at2 (n : Nat) (h : n < 256) : f2 n = tab2.getD n 0 := by
  by_cases h0 : n < 16
  · have := tabOk_at f2 tab2 0 16 ok2_0 (n - 0) (by omega)
    rwa [show 0 + (n - 0) = n from by omega] at this
  by_cases h16 : n < 32
  · have := tabOk_at f2 tab2 16 16 ok2_16 (n - 16) (by omega)
    rwa [show 16 + (n - 16) = n from by omega] at this
  by_cases h32 : n < 48
  · have := tabOk_at f2 tab2 32 16 ok2_32 (n - 32) (by omega)
    rwa [show 32 + (n - 32) = n from by omega] at this
  by_cases h48 : n < 64
  · have := tabOk_at f2 tab2 48 16 ok2_48 (n - 48) (by omega)
    rwa [show 48 + (n - 48) = n from by omega] at this
  by_cases h64 : n < 80
  · have := tabOk_at f2 tab2 64 16 ok2_64 (n - 64) (by omega)
    rwa [show 64 + (n - 64) = n from by omega] at this
  by_cases h80 : n < 96
  · have := tabOk_at f2 tab2 80 16 ok2_80 (n - 80) (by omega)
    rwa [show 80 + (n - 80) = n from by omega] at this
  by_cases h96 : n < 112
  · have := tabOk_at f2 tab2 96 16 ok2_96 (n - 96) (by omega)
    rwa [show 96 + (n - 96) = n from by omega] at this
  by_cases h112 : n < 128
  · have := tabOk_at f2 tab2 112 16 ok2_112 (n - 112) (by omega)
    rwa [show 112 + (n - 112) = n from by omega] at this
  by_cases h128 : n < 144
  · have := tabOk_at f2 tab2 128 16 ok2_128 (n - 128) (by omega)
    rwa [show 128 + (n - 128) = n from by omega] at this
  by_cases h144 : n < 160
  · have := tabOk_at f2 tab2 144 16 ok2_144 (n - 144) (by omega)
    rwa [show 144 + (n - 144) = n from by omega] at this
  by_cases h160 : n < 176
  · have := tabOk_at f2 tab2 160 16 ok2_160 (n - 160) (by omega)
    rwa [show 160 + (n - 160) = n from by omega] at this
  by_cases h176 : n < 192
  · have := tabOk_at f2 tab2 176 16 ok2_176 (n - 176) (by omega)
    rwa [show 176 + (n - 176) = n from by omega] at this
  by_cases h192 : n < 208
  · have := tabOk_at f2 tab2 192 16 ok2_192 (n - 192) (by omega)
    rwa [show 192 + (n - 192) = n from by omega] at this
  by_cases h208 : n < 224
  · have := tabOk_at f2 tab2 208 16 ok2_208 (n - 208) (by omega)
    rwa [show 208 + (n - 208) = n from by omega] at this
  by_cases h224 : n < 240
  · have := tabOk_at f2 tab2 224 16 ok2_224 (n - 224) (by omega)
    rwa [show 224 + (n - 224) = n from by omega] at this
  by_cases h240 : n < 256
  · have := tabOk_at f2 tab2 240 16 ok2_240 (n - 240) (by omega)
    rwa [show 240 + (n - 240) = n from by omega] at this
  omega
theorem un2 : unlikeB tab2 = true := by decide +kernel
def tab3 : List Nat := [471597689, 2070566185, 341588149, 4014042621, 2193404829, 3780241163, 3854806834, 3201301717, 715708305, 3442012230, 1602795618, 2313278846, 1670862119, 704062755, 3480844178, 175513259, 351627687, 3313140989, 2011042415, 654480171, 4192696545, 801857956, 3819578504, 1577098992, 1580581130, 4175245290, 2912810219, 3888007765, 2211510959, 2336800175, 1838395439, 1532914077, 3948339985, 195925030, 4060016370, 460852482, 1092796585, 1163876490, 1703628919, 1105582709, 2863054917, 2627618507, 2727778226, 4125402883, 3326600954, 718912675, 1969625101, 57504303, 3142726053, 1031332217, 3592026686, 3211912188, 2625863622, 491576173, 1202443143, 1245807593, 4252428237, 1233359842, 1611088063, 3153659487, 350920004, 1232433769, 275590802, 2056481114, 1143052384, 2326361574, 456178977, 989184534, 770734458, 844435854, 1568619507, 3957564609, 4269962068, 3818591771, 3195203448, 4021401884, 3786352565, 3066993196, 2525669531, 3778396967, 2140775887, 3391145185, 1025027479, 4007006119, 1836357581, 3774258651, 4081400838, 1893542655, 2544966592, 2216321772, 2344720959, 387987794, 3353956887, 1156685307, 2219002049, 1529821206, 2142757089, 1573603069, 3380225313, 2225748452, 3613185069, 3949925112, 1623900999, 1642071488, 4246568597, 2999686102, 2147503406, 4266926115, 480381880, 565396149, 3912927737, 2170780100, 1442292119, 3173401227, 2943173331, 3207463182, 2901568465, 3474395765, 1442681757, 898614136, 759476405, 645559397, 2757247168, 1330471479, 2620675536, 3235698696, 1487307565, 1830679795, 2128332628, 4068813870, 3710704143, 2552144359, 2986195460, 129718411, 319186745, 2025535795, 95256427, 113555989, 3951341210, 4184835616, 922205573, 1509870426, 3081043759, 3879864235, 22372031, 1022053532, 7817173, 3861326542, 2549102649, 2965066680, 1876962030, 112037329, 2284164700, 2971744475, 1882596885, 2967054879, 2429887043, 2016050812, 3477930881, 2147719341, 2576050167, 3772592493, 986363774, 1511487236, 1940110006, 234143169, 2350193972, 3303081310, 1108448922, 2291520099, 2262606934, 4134407724, 3568698208, 1294634308, 1005267637, 542440822, 2137889828, 25344146, 2659388023, 1702780015, 3443244686, 515408138, 3746452855, 152396980, 3621243311, 4150412035, 1521517296, 3350966896, 3620799939, 758003107, 63512603, 2006637847, 2038735128, 542073631, 4176759820, 3092920748, 149685973, 2963201138, 1601248945, 3123387912, 2259657615, 1441840686, 1339892465, 4004012439, 4004909399, 3708267254, 1810955092, 1968726067, 906086540, 2015324019, 2117861422, 2958507228, 4279084028, 297408351, 2906153429, 1988970036, 2259581837, 2652588482, 4274971945, 2415603240, 2979498778, 2030855909, 29753834, 1790150728, 435646669, 1758783438, 88931869, 3249891466, 2470990962, 3087488685, 460483488, 927482742, 3466315817, 2276907466, 2723184591, 1123901087, 2104283699, 1163936738, 3261649459, 3950018284, 421463329, 3770490291, 1079109354, 3925067255, 1453811344, 4165957734, 1071689983, 960017778, 364475490, 1648443810, 3012537729, 3086886655, 3886248690, 1032498198, 1100575577, 134417074]
theorem ok3_0 : tabOk f3 tab3 0 16 = true := by decide +kernel
theorem ok3_16 : tabOk f3 tab3 16 16 = true := by decide +kernel
theorem ok3_32 : tabOk f3 tab3 32 16 = true := by decide +kernel
theorem ok3_48 : tabOk f3 tab3 48 16 = true := by decide +kernel
theorem ok3_64 : tabOk f3 tab3 64 16 = true := by decide +kernel
theorem ok3_80 : tabOk f3 tab3 80 16 = true := by decide +kernel
theorem ok3_96 : tabOk f3 tab3 96 16 = true := by decide +kernel
theorem ok3_112 : tabOk f3 tab3 112 16 = true := by decide +kernel
theorem ok3_128 : tabOk f3 tab3 128 16 = true := by decide +kernel
theorem ok3_144 : tabOk f3 tab3 144 16 = true := by decide +kernel
theorem ok3_160 : tabOk f3 tab3 160 16 = true := by decide +kernel
theorem ok3_176 : tabOk f3 tab3 176 16 = true := by decide +kernel
theorem ok3_192 : tabOk f3 tab3 192 16 = true := by decide +kernel
theorem ok3_208 : tabOk f3 tab3 208 16 = true := by decide +kernel
theorem ok3_224 : tabOk f3 tab3 224 16 = true := by decide +kernel
theorem ok3_240 : tabOk f3 tab3 240 16 = true := by decide +kernel
theorem at3 (n : Nat) (h : n < 256) : f3 n = tab3.getD n 0 := by
  by_cases h0 : n < 16
  · have := tabOk_at f3 tab3 0 16 ok3_0 (n - 0) (by omega)
    rwa [show 0 + (n - 0) = n from by omega] at this
  by_cases h16 : n < 32
  · have := tabOk_at f3 tab3 16 16 ok3_16 (n - 16) (by omega)
    rwa [show 16 + (n - 16) = n from by omega] at this
  by_cases h32 : n < 48
  · have := tabOk_at f3 tab3 32 16 ok3_32 (n - 32) (by omega)
    rwa [show 32 + (n - 32) = n from by omega] at this
  by_cases h48 : n < 64
  · have := tabOk_at f3 tab3 48 16 ok3_48 (n - 48) (by omega)
    rwa [show 48 + (n - 48) = n from by omega] at this
  by_cases h64 : n < 80
  · have := tabOk_at f3 tab3 64 16 ok3_64 (n - 64) (by omega)
    rwa [show 64 + (n - 64) = n from by omega] at this
  by_cases h80 : n < 96
  · have := tabOk_at f3 tab3 80 16 ok3_80 (n - 80) (by omega)
    rwa [show 80 + (n - 80) = n from by omega] at this
  by_cases h96 : n < 112
  · have := tabOk_at f3 tab3 96 16 ok3_96 (n - 96) (by omega)
    rwa [show 96 + (n - 96) = n from by omega] at this
  by_cases h112 : n < 128
  · have := tabOk_at f3 tab3 112 16 ok3_112 (n - 112) (by omega)
    rwa [show 112 + (n - 112) = n from by omega] at this
  by_cases h128 : n < 144
  · have := tabOk_at f3 tab3 128 16 ok3_128 (n - 128) (by omega)
    rwa [show 128 + (n - 128) = n from by omega] at this
  by_cases h144 : n < 160
  · have := tabOk_at f3 tab3 144 16 ok3_144 (n - 144) (by omega)
    rwa [show 144 + (n - 144) = n from by omega] at this
  by_cases h160 : n < 176
  · have := tabOk_at f3 tab3 160 16 ok3_160 (n - 160) (by omega)
    rwa [show 160 + (n - 160) = n from by omega] at this
  by_cases h176 : n < 192
  · have := tabOk_at f3 tab3 176 16 ok3_176 (n - 176) (by omega)
    rwa [show 176 + (n - 176) = n from by omega] at this
  by_cases h192 : n < 208
  · have := tabOk_at f3 tab3 192 16 ok3_192 (n - 192) (by omega)
    rwa [show 192 + (n - 192) = n from by omega] at this
  by_cases h208 : n < 224
  · have := tabOk_at f3 tab3 208 16 ok3_208 (n - 208) (by omega)
    rwa [show 208 + (n - 208) = n from by omega] at this
  by_cases h224 : n < 240
  · have := tabOk_at f3 tab3 224 16 ok3_224 (n - 224) (by omega)
    rwa [show 224 + (n - 224) = n from by omega] at this
  by_cases h240 : n < 256
  · have := tabOk_at f3 tab3 240 16 ok3_240 (n - 240) (by omega)
    rwa [show 240 + (n - 240) = n from by omega] at this
  omega
theorem un3 : unlikeB tab3 = true := by decide +kernel
theorem unlike1 (n m : Nat) (hn : n < 256) (hm : m < 256) (h : hmacZ [107] [(n : Int)] = hmacZ [107] [(m : Int)]) : n = m :=
  unlike_of (fun n => hmacZ [107] [(n : Int)]) f1 (fun n hn => headH_eq [107] [(n : Int)] (by simp) vik vok vik_eq vok_eq) (tab_unlike rfl un1 at1) n m hn hm h
theorem unlike2 (n m : Nat) (hn : n < 256) (hm : m < 256) (h : hmacZ [(n : Int)] [107] = hmacZ [(m : Int)] [107]) : n = m :=
  unlike_of (fun n => hmacZ [(n : Int)] [107]) f2 (fun n hn => by
    obtain ⟨S, h1, h2, h3⟩ := headH_eq [(n : Int)] [107] (by simp) _ _ rfl rfl
    refine ⟨S, h1, h2, ?_⟩
    rw [h3]
    unfold f2
    rw [fzl_eq, fzl_eq, behind_one _ _ (blockZ_len _ _), behind_one _ _ (blockZ_len _ _)]) (tab_unlike rfl un2 at2) n m hn hm h
theorem unlike3 (n m : Nat) (hn : n < 256) (hm : m < 256) (h : hmacZ [107] ([120, 0] ++ putZ (n : Int) 8) = hmacZ [107] ([120, 0] ++ putZ (m : Int) 8)) : n = m :=
  unlike_of (fun n => hmacZ [107] ([120, 0] ++ putZ (n : Int) 8)) f3 (fun n hn => headH_eq [107] ([120, 0] ++ putZ (n : Int) 8) (by rw [List.length_append, putZ_len]; decide) vik vok vik_eq vok_eq) (tab_unlike rfl un3 at3) n m hn hm h
end Go.Proofs.YtmglhfhcljdfcaaDoor.Sha
