/- Sums, a bit at a time and half a byte at a time, without a program. -/
import Derived.Test.YtikaeeaepnflnaaKr
namespace Go.Proofs.Ytikaeeaepnflnaa
namespace Crc

/-- The polynomial without its highest power, the coefficient of power 31 lowest. -/
def poly : Nat := 2197175160
/-- All 32 bits. -/
def ones : Nat := 4294967295
def U32 (x : Nat) : Prop := x < 2 ^ 32

/-- The register shifted one down. -/
def sh (x : Nat) : Nat := (x / 2) ^^^ (if x % 2 = 1 then poly else 0)
/-- .. so many times. -/
def shN : Nat → Nat → Nat
  | 0, x => x
  | n + 1, x => shN n (sh x)
/-- The register behind a bit. -/
def stp (x b : Nat) : Nat := sh (x ^^^ b)
/-- The register behind so many bits. -/
def stps : List Nat → Nat → Nat
  | [], x => x
  | b :: l, x => stps l (stp x b)
/-- A byte's bits, the lowest first. -/
def bits8 (x : Nat) : List Nat := [x % 2, x / 2 % 2, x / 4 % 2, x / 8 % 2, x / 16 % 2, x / 32 % 2, x / 64 % 2, x / 128 % 2]
def bitsOf : List UInt8 → List Nat
  | [] => []
  | x :: l => bits8 x.toNat ++ bitsOf l
/-- The sum gone on with. -/
def more (from_ : Nat) (l : List UInt8) : Nat := ones ^^^ stps (bitsOf l) (ones ^^^ from_)
def of (l : List UInt8) : Nat := more 0 l
def join (a b n : Nat) : Nat := shN (8 * n) a ^^^ b

theorem poly_lt : U32 poly := by unfold U32 poly; decide
theorem ones_lt : U32 ones := by unfold U32 ones; decide
theorem xor_lt {x y : Nat} (hx : U32 x) (hy : U32 y) : U32 (x ^^^ y) := Nat.xor_lt_two_pow hx hy
theorem sh_lt {x : Nat} (hx : U32 x) : U32 (sh x) := by
  unfold sh
  refine xor_lt ?_ ?_
  · unfold U32 at *; omega
  · split
    · exact poly_lt
    · unfold U32; decide
theorem shN_lt : ∀ {n x : Nat}, U32 x → U32 (shN n x)
  | 0, _, h => h
  | n + 1, _, h => shN_lt (n := n) (sh_lt h)
theorem bit_lt {b : Nat} (h : b < 2) : U32 b := by unfold U32; omega
theorem stps_lt : ∀ {l : List Nat} {x : Nat}, U32 x → (∀ b ∈ l, b < 2) → U32 (stps l x)
  | [], _, h, _ => h
  | b :: l, x, h, hb => stps_lt (l := l) (sh_lt (xor_lt h (bit_lt (hb b (by simp))))) (fun c hc => hb c (by simp [hc]))
theorem bits8_lt (x : Nat) : ∀ b ∈ bits8 x, b < 2 := by
  intro b hb
  simp only [bits8, List.mem_cons, List.not_mem_nil, or_false] at hb
  omega
theorem bitsOf_lt (l : List UInt8) : ∀ b ∈ bitsOf l, b < 2 := by
  induction l with
  | nil => intro b hb; simp [bitsOf] at hb
  | cons x l ih =>
    intro b hb
    rcases List.mem_append.1 hb with h | h
    · exact bits8_lt _ b h
    · exact ih b h
theorem more_lt {a : Nat} (l : List UInt8) (ha : U32 a) : U32 (more a l) := xor_lt ones_lt (stps_lt (xor_lt ones_lt ha) (bitsOf_lt l))
theorem of_lt (l : List UInt8) : U32 (of l) := more_lt l (by unfold U32; decide)

theorem mod_xor (x y : Nat) : (x ^^^ y) % 2 = (x % 2 + y % 2) % 2 := by
  have hx := Nat.mod_two_eq_zero_or_one x
  have hy := Nat.mod_two_eq_zero_or_one y
  have hz := Nat.mod_two_eq_zero_or_one (x ^^^ y)
  have h := Nat.testBit_xor x y 0
  simp only [Nat.testBit_zero] at h
  rcases hx with hx | hx <;> rcases hy with hy | hy <;> rcases hz with hz | hz <;> simp [hx, hy, hz] at h ⊢
theorem div_xor (x y : Nat) : (x ^^^ y) / 2 = (x / 2) ^^^ (y / 2) := Nat.xor_div_two

/-- Shifting goes over an adding without carry. -/
theorem sh_xor (x y : Nat) : sh (x ^^^ y) = sh x ^^^ sh y := by
  unfold sh
  rw [div_xor, mod_xor]
  have hx := Nat.mod_two_eq_zero_or_one x
  have hy := Nat.mod_two_eq_zero_or_one y
  have e : (if (x % 2 + y % 2) % 2 = 1 then poly else 0) = (if x % 2 = 1 then poly else 0) ^^^ (if y % 2 = 1 then poly else 0) := by
    rcases hx with hx | hx <;> rcases hy with hy | hy <;> simp [hx, hy]
  rw [e]
  ac_rfl
theorem sh_zero : sh 0 = 0 := by simp [sh]
theorem shN_xor : ∀ (n x y : Nat), shN n (x ^^^ y) = shN n x ^^^ shN n y
  | 0, _, _ => rfl
  | n + 1, x, y => by
    show shN n (sh (x ^^^ y)) = shN n (sh x) ^^^ shN n (sh y)
    rw [sh_xor, shN_xor n]
theorem shN_zero : ∀ n, shN n 0 = 0
  | 0 => rfl
  | n + 1 => by show shN n (sh 0) = 0; rw [sh_zero]; exact shN_zero n
theorem shN_add : ∀ (m n x : Nat), shN (m + n) x = shN n (shN m x)
  | 0, n, x => by rw [Nat.zero_add]; rfl
  | m + 1, n, x => by
    rw [Nat.add_right_comm]
    exact shN_add m n (sh x)
theorem shN_succ (n x : Nat) : shN (n + 1) x = sh (shN n x) := shN_add n 1 x

/-- The register behind bits: what it held, shifted, and what the bits do alone. -/
theorem stps_split : ∀ (l : List Nat) (x y : Nat), stps l (x ^^^ y) = stps l x ^^^ shN l.length y
  | [], _, _ => rfl
  | b :: l, x, y => by
    show stps l (sh (x ^^^ y ^^^ b)) = stps l (sh (x ^^^ b)) ^^^ shN l.length (sh y)
    rw [show x ^^^ y ^^^ b = (x ^^^ b) ^^^ y from by ac_rfl, sh_xor, stps_split l]
theorem stps_from (l : List Nat) (x : Nat) : stps l x = stps l 0 ^^^ shN l.length x := by
  have := stps_split l 0 x
  rwa [Nat.zero_xor] at this
theorem stps_append : ∀ (l m : List Nat) (x : Nat), stps (l ++ m) x = stps m (stps l x)
  | [], _, _ => rfl
  | b :: l, m, x => stps_append l m (stp x b)

/-- Bits added without carry, place by place. -/
def addB : List Nat → List Nat → List Nat
  | [], _ => []
  | _, [] => []
  | b :: l, c :: m => (b ^^^ c) :: addB l m
theorem stps_add : ∀ (l m : List Nat) (x y : Nat), l.length = m.length → stps (addB l m) (x ^^^ y) = stps l x ^^^ stps m y
  | [], [], _, _, _ => rfl
  | [], _ :: _, _, _, h => by simp at h
  | _ :: _, [], _, _, h => by simp at h
  | b :: l, c :: m, x, y, h => by
    show stps (addB l m) (sh (x ^^^ y ^^^ (b ^^^ c))) = stps l (sh (x ^^^ b)) ^^^ stps m (sh (y ^^^ c))
    rw [show x ^^^ y ^^^ (b ^^^ c) = (x ^^^ b) ^^^ (y ^^^ c) from by ac_rfl, sh_xor]
    exact stps_add l m _ _ (by simpa using h)

theorem bitsOf_length (l : List UInt8) : (bitsOf l).length = 8 * l.length := by
  induction l with
  | nil => rfl
  | cons x l ih => simp [bitsOf, bits8, ih]; omega
theorem bitsOf_append (l m : List UInt8) : bitsOf (l ++ m) = bitsOf l ++ bitsOf m := by
  induction l with
  | nil => rfl
  | cons x l ih => simp [bitsOf, ih]

theorem ones_ones (x : Nat) : ones ^^^ (ones ^^^ x) = x := by rw [← Nat.xor_assoc, Nat.xor_self, Nat.zero_xor]

/-- P2.4: the sum of two texts. -/
theorem more_append (a : Nat) (l m : List UInt8) : more (more a l) m = more a (l ++ m) := by
  unfold more
  rw [ones_ones, bitsOf_append, stps_append]
theorem join_of (l m : List UInt8) : join (of l) (of m) m.length = of (l ++ m) := by
  unfold join of more
  rw [bitsOf_append, stps_append, Nat.xor_zero, stps_from (bitsOf m) (stps (bitsOf l) ones), stps_from (bitsOf m) ones, ← bitsOf_length, shN_xor]
  have e : ∀ A B C D : Nat, (A ^^^ B) ^^^ (C ^^^ (D ^^^ A)) = C ^^^ (D ^^^ B) := by
    intro A B C D
    rw [show (A ^^^ B) ^^^ (C ^^^ (D ^^^ A)) = (A ^^^ A) ^^^ (C ^^^ (D ^^^ B)) from by ac_rfl, Nat.xor_self, Nat.zero_xor]
  exact e _ _ _ _
theorem join_parts (a b m n : Nat) : join a b (m + n) = join (join a 0 m) b n := by
  unfold join
  rw [Nat.xor_zero, Nat.mul_add, shN_add]

/-- P2.5: three texts added. -/
def addL : List UInt8 → List UInt8 → List UInt8
  | [], _ => []
  | _, [] => []
  | b :: l, c :: m => (b ^^^ c) :: addL l m
theorem bits8_xor (x y : UInt8) : bits8 (x ^^^ y).toNat = addB (bits8 x.toNat) (bits8 y.toNat) := by
  have hd : ∀ (k a b : Nat), (a ^^^ b) / 2 ^ k % 2 = (a / 2 ^ k % 2) ^^^ (b / 2 ^ k % 2) := by
    intro k a b
    have h1 : (a ^^^ b) / 2 ^ k = (a / 2 ^ k) ^^^ (b / 2 ^ k) := by
      rw [← Nat.shiftRight_eq_div_pow, ← Nat.shiftRight_eq_div_pow, ← Nat.shiftRight_eq_div_pow, Nat.shiftRight_xor_distrib]
    rw [h1, mod_xor]
    have hx := Nat.mod_two_eq_zero_or_one (a / 2 ^ k)
    have hy := Nat.mod_two_eq_zero_or_one (b / 2 ^ k)
    rcases hx with hx | hx <;> rcases hy with hy | hy <;> simp [hx, hy]
  rw [UInt8.toNat_xor]
  have h0 := hd 0 x.toNat y.toNat
  have h1 := hd 1 x.toNat y.toNat
  have h2 := hd 2 x.toNat y.toNat
  have h3 := hd 3 x.toNat y.toNat
  have h4 := hd 4 x.toNat y.toNat
  have h5 := hd 5 x.toNat y.toNat
  have h6 := hd 6 x.toNat y.toNat
  have h7 := hd 7 x.toNat y.toNat
  simp only [Nat.pow_zero, Nat.div_one, Nat.reducePow] at h0 h1 h2 h3 h4 h5 h6 h7
  simp only [bits8, addB, h0, h1, h2, h3, h4, h5, h6, h7]
theorem addB_append : ∀ (l m k j : List Nat), l.length = m.length → addB (l ++ k) (m ++ j) = addB l m ++ addB k j
  | [], [], _, _, _ => rfl
  | [], _ :: _, _, _, h => by simp at h
  | _ :: _, [], _, _, h => by simp at h
  | b :: l, c :: m, k, j, h => by
    show (b ^^^ c) :: addB (l ++ k) (m ++ j) = (b ^^^ c) :: (addB l m ++ addB k j)
    rw [addB_append l m k j (by simpa using h)]
theorem bitsOf_add : ∀ (l m : List UInt8), l.length = m.length → bitsOf (addL l m) = addB (bitsOf l) (bitsOf m)
  | [], [], _ => rfl
  | [], _ :: _, h => by simp at h
  | _ :: _, [], h => by simp at h
  | b :: l, c :: m, h => by
    show bits8 (b ^^^ c).toNat ++ bitsOf (addL l m) = addB (bits8 b.toNat ++ bitsOf l) (bits8 c.toNat ++ bitsOf m)
    rw [addB_append _ _ _ _ (by simp [bits8]), bits8_xor, bitsOf_add l m (by simpa using h)]
theorem addL_length : ∀ (l m : List UInt8), l.length = m.length → (addL l m).length = m.length
  | [], [], _ => rfl
  | [], _ :: _, h => by simp at h
  | _ :: _, [], h => by simp at h
  | b :: l, c :: m, h => by
    show (addL l m).length + 1 = m.length + 1
    rw [addL_length l m (by simpa using h)]
theorem of_add (a b c : List UInt8) (h1 : a.length = b.length) (h2 : b.length = c.length) : of (addL (addL a b) c) = of a ^^^ of b ^^^ of c := by
  unfold of more
  rw [Nat.xor_zero, bitsOf_add _ _ (by rw [addL_length _ _ h1, h2]), bitsOf_add _ _ h1]
  have e1 : ones = (ones ^^^ ones) ^^^ ones := by rw [Nat.xor_self, Nat.zero_xor]
  have hl : (addB (bitsOf a) (bitsOf b)).length = (bitsOf c).length := by rw [← bitsOf_add _ _ h1, bitsOf_length, bitsOf_length, addL_length _ _ h1, h2]
  have h3 : stps (addB (addB (bitsOf a) (bitsOf b)) (bitsOf c)) ones = stps (bitsOf a) ones ^^^ stps (bitsOf b) ones ^^^ stps (bitsOf c) ones := by
    have h4 := stps_add (addB (bitsOf a) (bitsOf b)) (bitsOf c) (ones ^^^ ones) ones hl
    rw [← e1] at h4
    rw [h4, stps_add (bitsOf a) (bitsOf b) ones ones (by rw [bitsOf_length, bitsOf_length, h1])]
  rw [h3]
  have e : ∀ O A B C : Nat, O ^^^ (A ^^^ B ^^^ C) = (O ^^^ A) ^^^ (O ^^^ B) ^^^ (O ^^^ C) := by
    intro O A B C
    rw [show (O ^^^ A) ^^^ (O ^^^ B) ^^^ (O ^^^ C) = (O ^^^ O) ^^^ (O ^^^ (A ^^^ B ^^^ C)) from by ac_rfl, Nat.xor_self, Nat.zero_xor]
  exact e _ _ _ _

/-! P2.6: what is turned within 32 bits is found out. -/
/-- Shifting can be undone. -/
theorem sh_inj {x : Nat} (hx : U32 x) (h : sh x = 0) : x = 0 := by
  unfold sh at h
  by_cases h1 : x % 2 = 1
  · rw [if_pos h1] at h
    have h2 : x / 2 = poly := by
      have := congrArg (· ^^^ poly) h
      simpa [Nat.xor_assoc] using this
    unfold U32 at hx
    unfold poly at h2
    omega
  · rw [if_neg h1, Nat.xor_zero] at h
    omega
theorem shN_inj : ∀ {n x : Nat}, U32 x → shN n x = 0 → x = 0
  | 0, _, _, h => h
  | _ + 1, _, hx, h => sh_inj hx (shN_inj (sh_lt hx) h)

/-- The number of bits, the first one lowest. -/
def word : List Nat → Nat
  | [] => 0
  | b :: l => b + 2 * word l
theorem word_lt : ∀ (l : List Nat), (∀ b ∈ l, b < 2) → word l < 2 ^ l.length
  | [], _ => by simp [word]
  | b :: l, h => by
    have h1 := word_lt l (fun c hc => h c (by simp [hc]))
    have h2 := h b (by simp)
    simp only [word, List.length_cons, Nat.pow_succ]
    omega
theorem sh_double (x : Nat) : sh (2 * x) = x := by
  unfold sh
  rw [if_neg (by omega), Nat.xor_zero]
  omega
theorem add_eq_xor {b x : Nat} (hb : b < 2) : b + 2 * x = b ^^^ (2 * x) := by
  have h1 := div_xor b (2 * x)
  have h2 := mod_xor b (2 * x)
  have e1 : 2 * x / 2 = x := by omega
  have e2 : b / 2 = 0 := by omega
  rw [e1, e2, Nat.zero_xor] at h1
  omega
theorem stps_word : ∀ (l : List Nat) (x : Nat), (∀ b ∈ l, b < 2) → stps l x = shN l.length (x ^^^ word l)
  | [], x, _ => by simp [stps, shN, word]
  | b :: l, x, h => by
    show stps l (sh (x ^^^ b)) = shN l.length (sh (x ^^^ (b + 2 * word l)))
    rw [stps_word l _ (fun c hc => h c (by simp [hc])), add_eq_xor (h b (by simp)), ← Nat.xor_assoc, sh_xor (x ^^^ b), sh_double]
theorem word_zero : ∀ (l : List Nat), word l = 0 → ∀ b ∈ l, b = 0
  | [], _, _, h => by simp at h
  | c :: l, h, b, hb => by
    simp only [word] at h
    rcases List.mem_cons.1 hb with rfl | hb
    · omega
    · exact word_zero l (by omega) b hb

/-- At most 32 bits, not all of them 0, do not leave the register 0. -/
theorem stps_ne {l : List Nat} (h : ∀ b ∈ l, b < 2) (hl : l.length ≤ 32) (h0 : stps l 0 = 0) : ∀ b ∈ l, b = 0 := by
  rw [stps_word l 0 h, Nat.zero_xor] at h0
  have h1 := word_lt l h
  have h2 : 2 ^ l.length ≤ 2 ^ 32 := Nat.pow_le_pow_right (by omega) hl
  exact word_zero l (shN_inj (show U32 (word l) from Nat.lt_of_lt_of_le h1 h2) h0)

theorem stps_zeros (n : Nat) : stps (List.replicate n 0) 0 = 0 := by
  induction n with
  | zero => rfl
  | succ n ih => simp [List.replicate_succ, stps, stp, sh_zero, ih]

/-- Bits of which only some within 32 that follow one another are not 0. -/
theorem spoilt {m n : Nat} {l : List Nat} (h : ∀ b ∈ l, b < 2) (hl : l.length ≤ 32) (h0 : stps (List.replicate m 0 ++ l ++ List.replicate n 0) 0 = 0) : ∀ b ∈ l, b = 0 := by
  rw [stps_append, stps_append, stps_zeros, stps_from, stps_zeros, Nat.zero_xor] at h0
  exact stps_ne h hl (shN_inj (stps_lt (by unfold U32; decide) h) h0)

/-- Two texts of one length have one sum just if the bits in which they differ leave the register 0. -/
theorem of_eq_iff (a b : List UInt8) (h : a.length = b.length) : of a = of b ↔ stps (bitsOf (addL a b)) 0 = 0 := by
  have h1 := stps_add (bitsOf a) (bitsOf b) ones ones (by rw [bitsOf_length, bitsOf_length, h])
  rw [Nat.xor_self, ← bitsOf_add _ _ h] at h1
  unfold of more
  rw [Nat.xor_zero, h1]
  constructor
  · intro e
    have e2 : stps (bitsOf a) ones = stps (bitsOf b) ones := by
      have := congrArg (ones ^^^ ·) e
      simpa [ones_ones] using this
    rw [e2, Nat.xor_self]
  · intro e
    have e2 : stps (bitsOf a) ones = stps (bitsOf b) ones := by
      have := congrArg (· ^^^ stps (bitsOf b) ones) e
      simpa [Nat.xor_assoc] using this
    rw [e2]

/-- The document's own words for a step. -/
theorem stp_sum (x b : Nat) (hb : b < 2) : stp x b = (if (x + b) % 2 = 1 then (x / 2) ^^^ poly else x / 2) := by
  unfold stp sh
  rw [mod_xor, div_xor]
  have e1 : b / 2 = 0 := by omega
  have e2 : (x % 2 + b % 2) % 2 = (x + b) % 2 := by omega
  rw [e1, e2, Nat.xor_zero]
  split <;> simp

def halves : List Nat := [0, 274646895, 549293790, 820201905, 1098587580, 1361435347, 1640403810, 1905808397, 2197175160, 2460548119, 2722870694, 2987750089, 3280807620, 3553878443, 3811616794, 4084100981]

theorem halves_eq : halves = (List.range 16).map (shN 4) := by decide +kernel

theorem halves_get (j : Nat) (h : j < 16) : halves[j]? = some (shN 4 j) := by
  rw [halves_eq, List.getElem?_map, List.getElem?_range h]; rfl

theorem low_xor (q r : Nat) (hr : r < 16) : 16 * q + r = (16 * q) ^^^ r := by
  have h := Nat.two_pow_add_eq_or_of_lt (i := 4) (b := r) (by simpa using hr) q
  have e : (2 : Nat) ^ 4 = 16 := by decide
  rw [e] at h
  rw [h]
  apply Nat.eq_of_testBit_eq
  intro i
  rw [Nat.testBit_or, Nat.testBit_xor]
  by_cases hi : i < 4
  · have : (16 * q).testBit i = false := by
      rw [show 16 * q = 2 ^ 4 * q from by rw [e], Nat.testBit_two_pow_mul]
      simp; omega
    rw [this]; simp
  · have : r.testBit i = false := Nat.testBit_lt_two_pow (Nat.lt_of_lt_of_le hr (by rw [← e]; exact Nat.pow_le_pow_right (by omega) (by omega)))
    rw [this]; simp

theorem shN4_high (q : Nat) : shN 4 (16 * q) = q := by
  show sh (sh (sh (sh (16 * q)))) = q
  rw [show 16 * q = 2 * (2 * (2 * (2 * q))) from by omega, sh_double, sh_double, sh_double, sh_double]

theorem nib (x : Nat) : shN 4 x = (x / 16) ^^^ shN 4 (x % 16) := by
  conv => lhs; rw [show x = 16 * (x / 16) + x % 16 from by omega, low_xor _ _ (Nat.mod_lt _ (by omega)), shN_xor, shN4_high]

theorem word_bits8 (b : Nat) (h : b < 256) : word (bits8 b) = b := by
  simp only [word, bits8]
  omega

theorem stps_byte (b x : Nat) (h : b < 256) : stps (bits8 b) x = shN 4 (shN 4 (x ^^^ b)) := by
  rw [stps_word _ _ (bits8_lt b), word_bits8 b h, ← shN_add]
  rfl

end Crc
end Go.Proofs.Ytikaeeaepnflnaa
