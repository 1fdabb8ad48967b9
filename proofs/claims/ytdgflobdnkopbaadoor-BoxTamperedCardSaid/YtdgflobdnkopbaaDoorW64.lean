/-
  BoxTampered's walk, whole. Condition: the table of constants as laid.
-/
import Derived.Test.YtdgflobdnkopbaaDoorW642
namespace Go.Proofs.YtdgflobdnkopbaaDoor
open Go.RowKit

theorem walk64 (key : List UInt8) (hkey : key.length = 16) (n : Int) (hn1 : -9223372036854775808 ≤ n) (hn2 : n ≤ 9223372036854775807) (s : ByteArray) (hsb : s.size ≤ 140737488351232) (a : Int) (ha : 0 ≤ a) (ha2 : a ≤ 65535) (y : Int) (hy : 0 ≤ y) (hy2 : y ≤ 255) (z : Int) (hz : 0 ≤ z) (hz2 : z ≤ 255) (w : World) (hCo : Consts w) :
    Calls Tryd.prog 6 #[.agg (bvs key).toArray, .int .i64 n, .string s, .int .u16 a, .int .u8 y, .int .u8 z] w (TellsB true w) := by
  obtain ⟨a, rfl⟩ : ∃ k : Nat, a = (k : Int) := ⟨a.toNat, by omega⟩
  obtain ⟨z, rfl⟩ : ∃ k : Nat, z = (k : Int) := ⟨z.toNat, by omega⟩
  obtain ⟨b, rfl⟩ : ∃ b : UInt8, y = (b.toNat : Int) := ⟨UInt8.ofNat y.toNat, by rw [UInt8.toNat_ofNat']; omega⟩
  by_cases hs : 300 < s.size
  · exact walk64_long key hkey n hn1 hn2 s a (by omega) b z (by omega) hs hsb w hCo
  by_cases hb : b = 0
  · exact walk64_none key hkey n hn1 hn2 s a (by omega) b z (by omega) (by omega) hb w hCo
  rcases (show (z : Int) % 3 = 0 ∨ (z : Int) % 3 = 1 ∨ (z : Int) % 3 = 2 by omega) with hr | hr | hr
  · by_cases h0 : s.size = 0
    · exact walk64_empty key hkey n hn1 hn2 s a (by omega) b z (by omega) (by omega) hb hr h0 w hCo
    · exact walk64_byte key hkey n hn1 hn2 s a (by omega) b z (by omega) (by omega) hb hr (by omega) w hCo
  · exact walk64_nonce key hkey n hn1 hn2 s a (by omega) b z (by omega) (by omega) hb hr w hCo
  · exact walk64_tag key hkey n hn1 hn2 s a (by omega) b z (by omega) (by omega) hb hr w hCo
end Go.Proofs.YtdgflobdnkopbaaDoor
