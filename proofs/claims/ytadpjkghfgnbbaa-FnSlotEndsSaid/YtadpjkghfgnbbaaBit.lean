/- The bitwise operators on 64-bit ints: masks are remainders, parts that do not overlap are added. No program's text. -/
import Derived.WalkKit
import Derived.Laws.BitsLemmas
namespace Go.Proofs.Ytadpjkghfgnbbaa.Bit
open Go
theorem wraps_i64 (n : Int) (h0 : 0 ≤ n) (h1 : n < 2 ^ 63) : IntKind.i64.wrap n = n := by rw [IntKind.wrap_i64]; omega
theorem i64_mask (x : Int) (i : Nat) (hi : i ≤ 62) : bits .and .i64 x (2 ^ i - 1) = x % 2 ^ i := by
  have hpos : 0 < 2 ^ i := Nat.two_pow_pos i
  have hle : 2 ^ i ≤ 2 ^ 62 := Nat.pow_le_pow_right (by decide) hi
  have hc : ((2 : Int) ^ i - 1) = ((2 ^ i - 1 : Nat) : Int) := by rw [Int.natCast_sub hpos]; simp
  have hm : (2 ^ i - 1 : Nat) % 2 ^ 64 = 2 ^ i - 1 := Nat.mod_eq_of_lt (by omega)
  have hz : (BitVec.ofInt 64 x).toNat = (x % 2 ^ 64).toNat := by rw [BitVec.toNat_ofInt]; rfl
  have hd : (2 : Int) ^ i ∣ 2 ^ 64 := ⟨2 ^ (64 - i), by rw [← Int.pow_add]; congr 1; omega⟩
  have key : (((x % 2 ^ 64).toNat % 2 ^ i : Nat) : Int) = x % 2 ^ i := by
    have h1 : (((x % 2 ^ 64).toNat : Nat) : Int) = x % 2 ^ 64 := Int.toNat_of_nonneg (Int.emod_nonneg _ (by decide))
    rw [Int.natCast_emod, h1]
    push_cast
    exact Int.emod_emod_of_dvd _ hd
  rw [hc]
  show IntKind.i64.wrap (((BitVec.ofInt 64 x &&& BitVec.ofInt 64 ((2 ^ i - 1 : Nat) : Int)).toNat : Nat) : Int) = _
  rw [BitVec.ofInt_natCast, BitVec.toNat_and, BitVec.toNat_ofNat, hm, hz, Nat.and_two_pow_sub_one_eq_mod, key]
  have hp2 : (0 : Int) < 2 ^ i := by exact_mod_cast hpos
  have hb := Int.emod_lt_of_pos x hp2
  have hb2 : (2 : Int) ^ i ≤ 2 ^ 62 := by exact_mod_cast hle
  exact wraps_i64 _ (Int.emod_nonneg _ (by omega)) (by omega)
theorem i64_and (a b : Nat) (ha : a < 2 ^ 62) (hb : b < 2 ^ 62) : bits .and .i64 a b = ((a &&& b : Nat) : Int) := (bits_nat .i64 62 (by decide) (fun n h0 h1 => wraps_i64 n h0 (by omega)) a b ha hb).1
theorem i64_join (i : Nat) (x y : Int) (hx0 : 0 ≤ x) (hx : x % 2 ^ i = 0) (hx1 : x < 2 ^ 62) (hy0 : 0 ≤ y) (hy : y < 2 ^ i) (hy1 : y < 2 ^ 62) : bits .or .i64 x y = x + y :=
  bits_join .i64 62 (by decide) (fun n h0 h1 => wraps_i64 n h0 (by omega)) i x y hx0 hx hx1 hy0 hy hy1
theorem mask16 (x : Int) : bits .and .i64 x 65535 = x % 65536 := i64_mask x 16 (by decide)
theorem mask2 (x : Int) : bits .and .i64 x 3 = x % 4 := i64_mask x 2 (by decide)
theorem and16 (a b : Int) (ha : 0 ≤ a) (ha1 : a < 65536) (hb : 0 ≤ b) (hb1 : b < 65536) : 0 ≤ bits .and .i64 a b ∧ bits .and .i64 a b < 65536 := by
  obtain ⟨x, rfl⟩ := Int.eq_ofNat_of_zero_le ha
  obtain ⟨y, rfl⟩ := Int.eq_ofNat_of_zero_le hb
  rw [i64_and x y (by omega) (by omega)]
  have : x &&& y < 2 ^ 16 := Nat.and_lt_two_pow _ (by omega)
  exact ⟨Int.natCast_nonneg _, by omega⟩
end Go.Proofs.Ytadpjkghfgnbbaa.Bit
