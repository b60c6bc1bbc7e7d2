/- The plain mathematics of package sum's ways: half bytes looked up, products of polynomials. -/
import Derived.Test.YthnoebdfofbpoaaSumPure
namespace Go.Proofs.Ythnoebdfofbpoaa
namespace Crc

/-! Half bytes. -/
def halves : List Nat := [0, 274646895, 549293790, 820201905, 1098587580, 1361435347, 1640403810, 1905808397, 2197175160, 2460548119, 2722870694, 2987750089, 3280807620, 3553878443, 3811616794, 4084100981]

theorem halves_eq : halves = (List.range 16).map (shN 4) := by decide +kernel

theorem halves_get (j : Nat) (h : j < 16) : halves[j]? = some (shN 4 j) := by
  rw [halves_eq, List.getElem?_map, List.getElem?_range h]; rfl

theorem low_xor (q r : Nat) (hr : r < 16) : 16 * q + r = (16 * q) ^^^ r := by
  have h := Nat.two_pow_add_eq_or_of_lt (i := 4) (b := r) (by simpa using hr) q
  have e : (2 : Nat) ^ 4 = 16 := by decide
  rw [e] at h
  rw [h]
  apply Nat.eq_of_testBit_eq
  intro i
  rw [Nat.testBit_or, Nat.testBit_xor]
  by_cases hi : i < 4
  · have : (16 * q).testBit i = false := by
      rw [show 16 * q = 2 ^ 4 * q from by rw [e], Nat.testBit_two_pow_mul]
      simp; omega
    rw [this]; simp
  · have : r.testBit i = false := Nat.testBit_lt_two_pow (Nat.lt_of_lt_of_le hr (by rw [← e]; exact Nat.pow_le_pow_right (by omega) (by omega)))
    rw [this]; simp

theorem shN4_high (q : Nat) : shN 4 (16 * q) = q := by
  show sh (sh (sh (sh (16 * q)))) = q
  rw [show 16 * q = 2 * (2 * (2 * (2 * q))) from by omega, sh_double, sh_double, sh_double, sh_double]

theorem nib (x : Nat) : shN 4 x = (x / 16) ^^^ shN 4 (x % 16) := by
  conv => lhs; rw [show x = 16 * (x / 16) + x % 16 from by omega, low_xor _ _ (Nat.mod_lt _ (by omega)), shN_xor, shN4_high]

theorem word_bits8 (b : Nat) (h : b < 256) : word (bits8 b) = b := by
  simp only [word, bits8]
  omega

theorem stps_byte (b x : Nat) (h : b < 256) : stps (bits8 b) x = shN 4 (shN 4 (x ^^^ b)) := by
  rw [stps_word _ _ (bits8_lt b), word_bits8 b h, ← shN_add]
  rfl

/-! Products. -/
/-- The polynomial 1. -/
def one : Nat := 2147483648

/-- The first k rounds' part of the product. -/
def acc : Nat → Nat → Nat → Nat
  | 0, _, _ => 0
  | k + 1, a, b => acc k a b ^^^ (if b / 2 ^ (31 - k) % 2 = 1 then shN k a else 0)

theorem acc_lt {a : Nat} (ha : U32 a) (b : Nat) : ∀ k, U32 (acc k a b)
  | 0 => by unfold U32 acc; decide
  | k + 1 => by
    refine xor_lt (acc_lt ha b k) ?_
    split
    · exact shN_lt ha
    · unfold U32; decide

theorem acc_xor (b x y : Nat) : ∀ k, acc k (x ^^^ y) b = acc k x b ^^^ acc k y b
  | 0 => by simp [acc]
  | k + 1 => by
    simp only [acc, acc_xor b x y k]
    split
    · rw [shN_xor]; ac_rfl
    · simp

theorem shN_sh (n x : Nat) : shN n (sh x) = sh (shN n x) := shN_succ n x

theorem acc_sh (b x : Nat) : ∀ k, acc k (sh x) b = sh (acc k x b)
  | 0 => by simp [acc, sh_zero]
  | k + 1 => by
    simp only [acc, acc_sh b x k, sh_xor]
    split
    · rw [shN_sh]
    · rw [sh_zero]

theorem shN_one : ∀ k, k ≤ 31 → shN k one = 2 ^ (31 - k)
  | 0, _ => by decide
  | k + 1, h => by
    rw [shN_succ, shN_one k (by omega), show 31 - k = (31 - (k + 1)) + 1 from by omega, Nat.pow_succ, Nat.mul_comm, sh_double]

theorem acc_one (b : Nat) (hb : U32 b) : ∀ k, k ≤ 32 → acc k one b = b / 2 ^ (32 - k) * 2 ^ (32 - k)
  | 0, _ => by
    have : b / 2 ^ 32 = 0 := Nat.div_eq_of_lt hb
    simp [acc, this]
  | k + 1, h => by
    rw [acc, acc_one b hb k (by omega), shN_one k (by omega), show 32 - (k + 1) = 31 - k from by omega, show 32 - k = (31 - k) + 1 from by omega]
    generalize 31 - k = m
    have e1 : b / 2 ^ (m + 1) = b / 2 ^ m / 2 := by rw [Nat.pow_succ, Nat.div_div_eq_div_mul]
    rw [e1, Nat.pow_succ]
    generalize b / 2 ^ m = c
    have hc : c / 2 * (2 ^ m * 2) = (c / 2 * 2) * 2 ^ m := by rw [Nat.mul_comm (2 ^ m) 2, Nat.mul_assoc]
    rw [hc]
    have key : ∀ y r : Nat, r < 2 → (2 * y * 2 ^ m) ^^^ (if r = 1 then 2 ^ m else 0) = (2 * y + r) * 2 ^ m := by
      intro y r hr
      have e : (if r = 1 then 2 ^ m else 0) = r * 2 ^ m := by
        have : r = 0 ∨ r = 1 := by omega
        rcases this with rfl | rfl <;> simp
      rw [e, ← Nat.shiftLeft_eq, ← Nat.shiftLeft_eq, ← Nat.shiftLeft_eq, ← Nat.shiftLeft_xor_distrib, Nat.xor_comm, ← add_eq_xor hr, Nat.add_comm]
    have h2 := key (c / 2) (c % 2) (Nat.mod_lt _ (by omega))
    rw [show c / 2 * 2 = 2 * (c / 2) from by omega, h2, show 2 * (c / 2) + c % 2 = c from by omega]

theorem acc_lin (f : Nat → Nat) (fx : ∀ x y, f (x ^^^ y) = f x ^^^ f y) (fs : ∀ x, f (sh x) = sh (f x)) (x b : Nat) : ∀ k, f (acc k x b) = acc k (f x) b := by
  have f0 : f 0 = 0 := by
    have := fx 0 0
    rw [Nat.xor_self] at this
    rw [this, Nat.xor_self]
  have fn : ∀ n x, f (shN n x) = shN n (f x) := by
    intro n
    induction n with
    | zero => intro x; rfl
    | succ n ih => intro x; rw [shN_succ, shN_succ, fs, ih]
  intro k
  induction k with
  | zero => exact f0
  | succ k ih =>
    simp only [acc, fx, ih]
    split
    · rw [fn]
    · rw [f0]

theorem lin_at (f : Nat → Nat) (fx : ∀ x y, f (x ^^^ y) = f x ^^^ f y) (fs : ∀ x, f (sh x) = sh (f x)) {a : Nat} (ha : U32 a) : f a = acc 32 (f one) a := by
  rw [← acc_lin f fx fs]
  have h := acc_one a ha 32 (Nat.le_refl _)
  rw [h]
  simp

theorem times_shN {a : Nat} (ha : U32 a) (m : Nat) : acc 32 a (shN m one) = shN m a := by
  have h1 : U32 (shN m one) := shN_lt (by unfold U32 one; decide)
  have e1 := lin_at (fun x => acc 32 x (shN m one)) (fun x y => acc_xor _ x y 32) (fun x => acc_sh _ x 32) ha
  have e2 := lin_at (shN m) (shN_xor m) (shN_sh m) ha
  have e3 : acc 32 one (shN m one) = shN m one := by
    have h := acc_one (shN m one) h1 32 (Nat.le_refl _)
    rw [h]
    simp
  simp only [e3] at e1
  rw [e1, e2]

/-- The second factor behind k rounds. -/
def fac (b k : Nat) : Nat := b * 2 ^ k % 4294967296

theorem fac_zero (b : Nat) (hb : U32 b) : fac b 0 = b := by
  unfold fac; unfold U32 at hb
  rw [Nat.pow_zero, Nat.mul_one]; exact Nat.mod_eq_of_lt hb
theorem fac_succ (b k : Nat) : fac b (k + 1) = fac b k * 2 % 4294967296 := by
  unfold fac
  rw [Nat.pow_succ, ← Nat.mul_assoc]
  omega
theorem fac_lt (b k : Nat) : fac b k < 4294967296 := Nat.mod_lt _ (by decide)
theorem fac_bit (b k : Nat) (hk : k ≤ 31) : fac b k / 2147483648 = b / 2 ^ (31 - k) % 2 := by
  have e1 : fac b k = (b <<< k) % 2 ^ 32 := by unfold fac; rw [Nat.shiftLeft_eq]
  have h1 : (fac b k).testBit 31 = b.testBit (31 - k) := by
    rw [e1, Nat.testBit_mod_two_pow, Nat.testBit_shiftLeft]
    simp [hk]
  rw [Nat.testBit_eq_decide_div_mod_eq, Nat.testBit_eq_decide_div_mod_eq, show (2 : Nat) ^ 31 = 2147483648 from by decide] at h1
  have h2 := fac_lt b k
  generalize b / 2 ^ (31 - k) = c at h1 ⊢
  have h3 : fac b k / 2147483648 < 2 := by omega
  generalize fac b k / 2147483648 = d at h1 h3 ⊢
  have hd : d % 2 = d := by omega
  rw [hd] at h1
  have h4 : (d = 1) ↔ (c % 2 = 1) := by simpa using h1
  omega
theorem fac_end (b : Nat) (k : Nat) (hk : 32 ≤ k) : fac b k = 0 := by
  unfold fac
  rw [show k = 32 + (k - 32) from by omega, Nat.pow_add, show (2 : Nat) ^ 32 = 4294967296 from by decide, ← Nat.mul_assoc, Nat.mul_comm b, Nat.mul_assoc]
  exact Nat.mul_mod_right _ _
theorem fac_stays (b k : Nat) (h : fac b k = 0) : ∀ d, fac b (k + d) = 0
  | 0 => h
  | d + 1 => by rw [← Nat.add_assoc, fac_succ, fac_stays b k h d]
theorem acc_stop (a b k : Nat) (h : fac b k = 0) : ∀ d, k + d ≤ 32 → acc (k + d) a b = acc k a b
  | 0, _ => rfl
  | d + 1, hd => by
    rw [← Nat.add_assoc, acc, acc_stop a b k h d (by omega)]
    have h1 := fac_bit b (k + d) (by omega)
    rw [fac_stays b k h d] at h1
    rw [if_neg (by omega), Nat.xor_zero]
theorem acc_done (a b k : Nat) (hk : k ≤ 32) (h : fac b k = 0) : acc k a b = acc 32 a b := by
  have := acc_stop a b k h (32 - k) (by omega)
  rw [show k + (32 - k) = 32 from by omega] at this
  exact this.symm

end Crc
end Go.Proofs.Ythnoebdfofbpoaa
