/-
  The mathematics of package box: the exclusive or with a key stream, the tag; and the law file's example by a fast SHA-256.
-/
import Derived.Test.YtdgflobdnkopbaaDoorFast
namespace Go.Proofs.YtdgflobdnkopbaaDoor

def xors (a b : List UInt8) : List UInt8 := List.zipWith (· ^^^ ·) a b
theorem xors_len (a b : List UInt8) (h : b.length = a.length) : (xors a b).length = a.length := by
  unfold xors
  rw [List.length_zipWith]; omega
theorem xors_at (a b : List UInt8) (k : Nat) (x y : UInt8) (hx : a[k]? = some x) (hy : b[k]? = some y) : (xors a b)[k]? = some (x ^^^ y) := by
  unfold xors
  rw [List.getElem?_zipWith, hx, hy]
theorem u8_xor_twice (x y : UInt8) : (x ^^^ y) ^^^ y = x := by rw [UInt8.xor_assoc, UInt8.xor_self, UInt8.xor_zero]
theorem xors_twice : ∀ (a b : List UInt8), b.length = a.length → xors (xors a b) b = a
  | [], _, _ => rfl
  | _ :: _, [], h => by cases h
  | x :: a, y :: b, h => by
    show ((x ^^^ y) ^^^ y) :: xors (xors a b) b = x :: a
    rw [u8_xor_twice, xors_twice a b (by simpa using h)]

/-- "encrypt", "authenticate". -/
def encL : List UInt8 := [101, 110, 99, 114, 121, 112, 116]
def authL : List UInt8 := [97, 117, 116, 104, 101, 110, 116, 105, 99, 97, 116, 101]
def encK (key : List UInt8) (n : Int) : List UInt8 := mac key (encBytesL encL ++ encParts [encInt n])
def authK (key : List UInt8) : List UInt8 := mac key (encBytesL authL ++ encParts [])
/-- The bytes s under the key stream of a nonce. -/
def cryp (key : List UInt8) (n : Int) (s : List UInt8) : List UInt8 := xors s (stream (encK key n) s.length)
/-- The tag of a nonce and a cipher text. -/
def btag (key : List UInt8) (n : Int) (c : List UInt8) : List UInt8 := mac (authK key) (encInt n ++ encBytesL c)
theorem mac16 (key b : List UInt8) : (mac key b).length = 16 := by unfold mac; rw [List.length_take, hmac_len]; rfl
theorem encK_len (key : List UInt8) (n : Int) : (encK key n).length = 16 := mac16 _ _
theorem authK_len (key : List UInt8) : (authK key).length = 16 := mac16 _ _
theorem btag_len (key : List UInt8) (n : Int) (c : List UInt8) : (btag key n c).length = 16 := mac16 _ _
theorem cryp_len (key : List UInt8) (n : Int) (s : List UInt8) : (cryp key n s).length = s.length := xors_len _ _ (stream_len _ _)
theorem cryp_twice (key : List UInt8) (n : Int) (s : List UInt8) : cryp key n (cryp key n s) = s := by
  have h := cryp_len key n s
  unfold cryp at h ⊢
  rw [h]
  exact xors_twice _ _ (stream_len _ _)
theorem cryp_at (key : List UInt8) (n : Int) (s : List UInt8) (k : Nat) (x : UInt8) (hx : s[k]? = some x) : ∃ y, (stream (encK key n) s.length)[k]? = some y ∧ (cryp key n s)[k]? = some (x ^^^ y) := by
  have hk : k < s.length := (List.getElem?_eq_some_iff.1 hx).1
  have hy : (stream (encK key n) s.length)[k]? = some ((stream (encK key n) s.length)[k]'(by rw [stream_len]; exact hk)) := List.getElem?_eq_getElem _
  exact ⟨_, hy, xors_at _ _ _ _ _ hx hy⟩
/-- Two texts under one key and nonce differ by what the texts differ. -/
theorem cryp_differ (key : List UInt8) (n : Int) (a b : List UInt8) (k : Nat) (x y : UInt8) (hx : a[k]? = some x) (hy : b[k]? = some y) :
    ∃ p q, (cryp key n a)[k]? = some p ∧ (cryp key n b)[k]? = some q ∧ p ^^^ q = x ^^^ y := by
  obtain ⟨u, hu, hp⟩ := cryp_at key n a k x hx
  obtain ⟨v, hv, hq⟩ := cryp_at key n b k y hy
  have hka : k < a.length := (List.getElem?_eq_some_iff.1 hx).1
  have hkb : k < b.length := (List.getElem?_eq_some_iff.1 hy).1
  have e : u = v := by
    have h1 : (stream (encK key n) (min a.length b.length))[k]? = some u := by
      rw [← stream_pre (encK key n) (min a.length b.length) a.length (Nat.min_le_left _ _), List.getElem?_take_of_lt (by omega)]; exact hu
    have h2 : (stream (encK key n) (min a.length b.length))[k]? = some v := by
      rw [← stream_pre (encK key n) (min a.length b.length) b.length (Nat.min_le_right _ _), List.getElem?_take_of_lt (by omega)]; exact hv
    rw [h1] at h2
    exact Option.some.inj h2
  subst e
  exact ⟨_, _, hp, hq, by rw [UInt8.xor_comm y u, UInt8.xor_assoc, ← UInt8.xor_assoc u u y, UInt8.xor_self, UInt8.zero_xor]⟩
/-- What Open returns. -/
def opens (key : List UInt8) (n : Int) (c t : List UInt8) : Bool := t == btag key n c
def openS (key : List UInt8) (n : Int) (c t : List UInt8) : List UInt8 := if opens key n c t then cryp key n c else []
def openE (key : List UInt8) (n : Int) (c t : List UInt8) : Int := if opens key n c t then 0 else 8

/-! ## The law file's example -/
theorem hmac_of {key b i o : List UInt8} (h1 : fSha (maskB 54 (key64 key) ++ b) = i) (h2 : fSha (maskB 92 (key64 key) ++ i) = o) : hmac key b = o := by
  unfold hmac
  rw [← fSha_eq (maskB 54 (key64 key) ++ b), h1, ← fSha_eq, h2]
theorem x_ek7 : (hmac [7, 0, 0, 0, 0, 0, 0, 0, 0, 0, 0, 0, 0, 0, 0, 0] [14, 101, 110, 99, 114, 121, 112, 116, 2, 6]).take 16 = [122, 249, 241, 103, 30, 213, 16, 171, 170, 166, 216, 95, 124, 249, 215, 238] := by
  rw [hmac_of (i := [94, 102, 201, 200, 247, 222, 210, 61, 10, 241, 183, 78, 106, 63, 71, 134, 83, 167, 46, 52, 19, 194, 140, 215, 189, 33, 73, 252, 239, 169, 101, 186]) (o := [122, 249, 241, 103, 30, 213, 16, 171, 170, 166, 216, 95, 124, 249, 215, 238, 6, 79, 194, 2, 183, 168, 145, 103, 213, 173, 55, 189, 135, 138, 252, 152]) (by decide +kernel) (by decide +kernel)]
  rfl
theorem x_st7 : (hmac [122, 249, 241, 103, 30, 213, 16, 171, 170, 166, 216, 95, 124, 249, 215, 238] [0]).take 6 = [62, 234, 187, 138, 87, 72] := by
  rw [hmac_of (i := [89, 168, 191, 47, 126, 49, 44, 1, 250, 17, 125, 27, 221, 203, 207, 190, 73, 48, 135, 64, 198, 66, 58, 31, 214, 55, 233, 184, 181, 200, 204, 107]) (o := [62, 234, 187, 138, 87, 72, 37, 241, 150, 215, 24, 184, 101, 228, 144, 229, 158, 210, 249, 113, 190, 58, 65, 195, 234, 241, 138, 1, 53, 72, 144, 131]) (by decide +kernel) (by decide +kernel)]
  rfl
theorem x_ak7 : (hmac [7, 0, 0, 0, 0, 0, 0, 0, 0, 0, 0, 0, 0, 0, 0, 0] [24, 97, 117, 116, 104, 101, 110, 116, 105, 99, 97, 116, 101]).take 16 = [223, 56, 50, 13, 12, 159, 220, 102, 234, 207, 63, 99, 209, 61, 158, 170] := by
  rw [hmac_of (i := [79, 190, 179, 58, 105, 62, 60, 186, 87, 45, 202, 253, 195, 106, 62, 169, 52, 35, 62, 162, 55, 179, 237, 11, 122, 23, 73, 28, 65, 49, 97, 140]) (o := [223, 56, 50, 13, 12, 159, 220, 102, 234, 207, 63, 99, 209, 61, 158, 170, 42, 91, 253, 223, 54, 14, 66, 19, 7, 139, 122, 107, 33, 215, 231, 92]) (by decide +kernel) (by decide +kernel)]
  rfl
theorem x_ak8 : (hmac [8, 0, 0, 0, 0, 0, 0, 0, 0, 0, 0, 0, 0, 0, 0, 0] [24, 97, 117, 116, 104, 101, 110, 116, 105, 99, 97, 116, 101]).take 16 = [238, 228, 11, 224, 127, 29, 207, 160, 92, 244, 157, 103, 100, 92, 84, 76] := by
  rw [hmac_of (i := [105, 66, 11, 82, 158, 165, 132, 160, 155, 190, 7, 150, 15, 222, 141, 190, 105, 48, 12, 83, 192, 49, 198, 161, 101, 115, 179, 202, 167, 76, 254, 254]) (o := [238, 228, 11, 224, 127, 29, 207, 160, 92, 244, 157, 103, 100, 92, 84, 76, 166, 196, 217, 231, 243, 17, 14, 128, 80, 203, 188, 149, 219, 56, 76, 245]) (by decide +kernel) (by decide +kernel)]
  rfl
theorem x_t7 : (hmac [223, 56, 50, 13, 12, 159, 220, 102, 234, 207, 63, 99, 209, 61, 158, 170] [6, 12, 77, 143, 216, 248, 50, 60]).take 16 = [102, 20, 23, 237, 182, 71, 206, 217, 43, 52, 109, 86, 95, 206, 112, 88] := by
  rw [hmac_of (i := [48, 215, 0, 47, 212, 125, 194, 177, 239, 16, 153, 57, 10, 75, 198, 3, 98, 213, 113, 214, 70, 198, 224, 69, 169, 145, 150, 14, 90, 174, 131, 225]) (o := [102, 20, 23, 237, 182, 71, 206, 217, 43, 52, 109, 86, 95, 206, 112, 88, 144, 60, 149, 122, 114, 133, 89, 230, 223, 67, 115, 110, 165, 82, 57, 45]) (by decide +kernel) (by decide +kernel)]
  rfl
theorem x_t8 : (hmac [238, 228, 11, 224, 127, 29, 207, 160, 92, 244, 157, 103, 100, 92, 84, 76] [6, 12, 77, 143, 216, 248, 50, 60]).take 16 = [11, 137, 21, 42, 0, 175, 143, 200, 234, 146, 217, 229, 51, 232, 36, 139] := by
  rw [hmac_of (i := [219, 53, 77, 40, 14, 194, 49, 8, 117, 176, 58, 225, 149, 172, 65, 113, 241, 123, 159, 28, 72, 103, 145, 58, 91, 96, 124, 210, 59, 254, 102, 9]) (o := [11, 137, 21, 42, 0, 175, 143, 200, 234, 146, 217, 229, 51, 232, 36, 139, 188, 242, 76, 199, 166, 17, 182, 154, 237, 50, 64, 241, 134, 173, 132, 193]) (by decide +kernel) (by decide +kernel)]
  rfl
theorem x_te : (hmac [223, 56, 50, 13, 12, 159, 220, 102, 234, 207, 63, 99, 209, 61, 158, 170] [6, 0]).take 16 = [50, 48, 231, 206, 46, 254, 105, 195, 27, 228, 120, 120, 5, 105, 192, 152] := by
  rw [hmac_of (i := [116, 209, 212, 83, 116, 122, 152, 56, 185, 85, 130, 205, 24, 151, 27, 112, 140, 118, 33, 125, 179, 79, 27, 83, 76, 176, 107, 161, 178, 117, 47, 111]) (o := [50, 48, 231, 206, 46, 254, 105, 195, 27, 228, 120, 120, 5, 105, 192, 152, 23, 126, 146, 1, 190, 98, 178, 46, 212, 205, 102, 9, 191, 39, 193, 246]) (by decide +kernel) (by decide +kernel)]
  rfl
def key7 : List UInt8 := 7 :: List.replicate 15 0
def key8 : List UInt8 := 8 :: List.replicate 15 0
def secret : List UInt8 := [115, 101, 99, 114, 101, 116]
def ciph7 : List UInt8 := [77, 143, 216, 248, 50, 60]
def tag7 : List UInt8 := [102, 20, 23, 237, 182, 71, 206, 217, 43, 52, 109, 86, 95, 206, 112, 88]
def tag8 : List UInt8 := [11, 137, 21, 42, 0, 175, 143, 200, 234, 146, 217, 229, 51, 232, 36, 139]
def tagE : List UInt8 := [50, 48, 231, 206, 46, 254, 105, 195, 27, 228, 120, 120, 5, 105, 192, 152]
def bad7 : List UInt8 := [103, 20, 23, 237, 182, 71, 206, 217, 43, 52, 109, 86, 95, 206, 112, 88]
theorem encInt_small (n : Int) (h : (decide (0 ≤ n) && decide (n < 64)) = true) : encInt n = [UInt8.ofNat (2 * n).toNat] := by
  rw [Bool.and_eq_true, decide_eq_true_eq, decide_eq_true_eq] at h
  unfold encInt zz
  rw [if_pos h.1]
  exact leb_small (by omega)
theorem encBytesL_small (l : List UInt8) (h : decide (l.length < 64) = true) : encBytesL l = UInt8.ofNat (2 * l.length) :: l := by
  rw [decide_eq_true_eq] at h
  unfold encBytesL
  rw [encInt_small _ (by rw [Bool.and_eq_true, decide_eq_true_eq, decide_eq_true_eq]; omega)]
  congr 2
theorem x_parts : encBytesL encL ++ encParts [encInt 3] = [14, 101, 110, 99, 114, 121, 112, 116, 2, 6] := by
  unfold encParts
  rw [encBytesL_small encL rfl, encInt_small 3 rfl]
  simp only [List.flatMap_cons, List.flatMap_nil]
  rw [encBytesL_small _ rfl]
  decide
theorem x_auth : encBytesL authL ++ encParts [] = [24, 97, 117, 116, 104, 101, 110, 116, 105, 99, 97, 116, 101] := by
  rw [encBytesL_small authL rfl]
  decide
theorem ciph7_eq : cryp key7 3 secret = ciph7 := by
  have e1 : encK key7 3 = [122, 249, 241, 103, 30, 213, 16, 171, 170, 166, 216, 95, 124, 249, 215, 238] := by
    unfold encK mac
    rw [x_parts]
    exact x_ek7
  unfold cryp
  rw [e1, ← stream_eq _ secret.length 1 (by decide)]
  have e2 : (streamK [122, 249, 241, 103, 30, 213, 16, 171, 170, 166, 216, 95, 124, 249, 215, 238] 1).take secret.length = [62, 234, 187, 138, 87, 72] := by
    show (([] : List UInt8) ++ hmac [122, 249, 241, 103, 30, 213, 16, 171, 170, 166, 216, 95, 124, 249, 215, 238] (encInt 0)).take 6 = _
    rw [List.nil_append, encInt_small 0 rfl]
    exact x_st7
  rw [e2]
  decide
theorem x_au7 : authK key7 = [223, 56, 50, 13, 12, 159, 220, 102, 234, 207, 63, 99, 209, 61, 158, 170] := by
  unfold authK mac
  rw [x_auth]
  exact x_ak7
theorem x_au8 : authK key8 = [238, 228, 11, 224, 127, 29, 207, 160, 92, 244, 157, 103, 100, 92, 84, 76] := by
  unfold authK mac
  rw [x_auth]
  exact x_ak8
theorem tag7_eq : btag key7 3 ciph7 = tag7 := by
  unfold btag mac
  rw [x_au7, encInt_small 3 rfl, encBytesL_small ciph7 rfl]
  exact x_t7
theorem tag8_eq : btag key8 3 ciph7 = tag8 := by
  unfold btag mac
  rw [x_au8, encInt_small 3 rfl, encBytesL_small ciph7 rfl]
  exact x_t8
theorem tagE_eq : btag key7 3 [] = tagE := by
  unfold btag mac
  rw [x_au7, encInt_small 3 rfl, encBytesL_small [] rfl]
  exact x_te
theorem open7 : opens key7 3 ciph7 tag7 = true := by unfold opens; rw [tag7_eq]; decide
theorem open7_bad : opens key7 3 ciph7 bad7 = false := by unfold opens; rw [tag7_eq]; decide
theorem open8 : opens key8 3 ciph7 tag7 = false := by unfold opens; rw [tag8_eq]; decide
end Go.Proofs.YtdgflobdnkopbaaDoor
