/- The HMAC of a key and bytes, plainly. -/
import Derived.Test.YtmglhfhcljdfcaaDoorSha
import Derived.Test.YtmglhfhcljdfcaaDoorXor
namespace Go.Proofs.YtmglhfhcljdfcaaDoor
open Go.ChangeShapes Go.WideShapes Go.ChangeAt Go.RowKit
set_option linter.unusedVariables false
open Plain
namespace Sha
/-- A key as the block takes it: a long one as its tag. -/
def shortZ (key : List Int) : List Int := if 64 < key.length then shaZ key else key
def keyZ (key : List Int) : List Int := shortZ key ++ List.replicate (64 - (shortZ key).length) 0
def blockZ (key : List Int) (x : Int) : List Int := xorZ (keyZ key) (List.replicate 64 x)
def hmacZ (key b : List Int) : List Int := shaZ (blockZ key 92 ++ shaZ (blockZ key 54 ++ b))
theorem shaZ_len32 (bs : List Int) : (shaZ bs).length = 32 := by unfold shaZ; exact tagZ_len _
theorem shaZ_bytes (bs : List Int) : IsBytes (shaZ bs) := by unfold shaZ; exact tagZ_bytes _
theorem shortZ_le (key : List Int) : (shortZ key).length ≤ 64 := by
  unfold shortZ
  split
  · rw [shaZ_len32]; omega
  · omega
theorem keyZ_len (key : List Int) : (keyZ key).length = 64 := by
  unfold keyZ
  have := shortZ_le key
  rw [List.length_append, List.length_replicate]; omega
theorem rep_bytes (n : Nat) (x : Int) (h0 : 0 ≤ x) (h1 : x < 256) : IsBytes (List.replicate n x) := by
  rw [isBytes_iff]
  intro z hz
  rw [List.mem_replicate] at hz
  omega
theorem shortZ_bytes {key : List Int} (h : IsBytes key) : IsBytes (shortZ key) := by
  unfold shortZ
  split
  · exact shaZ_bytes _
  · exact h
theorem keyZ_bytes {key : List Int} (h : IsBytes key) : IsBytes (keyZ key) := (shortZ_bytes h).app (rep_bytes _ _ (by omega) (by omega))
theorem blockZ_len (key : List Int) (x : Int) : (blockZ key x).length = 64 := by unfold blockZ; rw [xorZ_len, keyZ_len, List.length_replicate]; omega
theorem blockZ_bytes {key : List Int} (h : IsBytes key) (x : Int) (h0 : 0 ≤ x) (h1 : x < 256) : IsBytes (blockZ key x) := xorZ_bytes (keyZ_bytes h) (rep_bytes _ _ h0 h1)
theorem hmacZ_len (key b : List Int) : (hmacZ key b).length = 32 := shaZ_len32 _
theorem hmacZ_bytes (key b : List Int) : IsBytes (hmacZ key b) := shaZ_bytes _
theorem shortZ_of {key : List Int} (h : key.length ≤ 64) : shortZ key = key := by unfold shortZ; rw [if_neg (by omega)]
theorem shortZ_long {key : List Int} (h : 64 < key.length) : shortZ key = shaZ key := by unfold shortZ; rw [if_pos h]
/-- P3.3. -/
theorem keyZ_long {key : List Int} (h : 64 < key.length) : keyZ (shaZ key) = keyZ key := by
  unfold keyZ
  rw [shortZ_long h, shortZ_of (by rw [shaZ_len32]; omega)]
theorem keyZ_more {key : List Int} (n : Nat) (h : key.length + n ≤ 64) : keyZ (key ++ List.replicate n 0) = keyZ key := by
  unfold keyZ
  rw [shortZ_of (by rw [List.length_append, List.length_replicate]; exact h), shortZ_of (by omega), List.append_assoc, List.replicate_append_replicate]
  congr 2
  rw [List.length_append, List.length_replicate]; omega
theorem hmacZ_long {key : List Int} (b : List Int) (h : 64 < key.length) : hmacZ (shaZ key) b = hmacZ key b := by unfold hmacZ blockZ; rw [keyZ_long h]
theorem hmacZ_more {key : List Int} (b : List Int) (n : Nat) (h : key.length + n ≤ 64) : hmacZ (key ++ List.replicate n 0) b = hmacZ key b := by unfold hmacZ blockZ; rw [keyZ_more n h]
end Sha
end Go.Proofs.YtmglhfhcljdfcaaDoor
