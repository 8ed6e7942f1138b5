/-
  THE DIGEST OF A LIST, empty or not, by both; rows of digests behind new blocks.
  · THE GENERATOR OF THE LAWS' INPUTS DOES NOT STAND STILL: from any place on, one of two draws that follow each other helps within fewer than 2^50 draws. (Its low k bits come again behind 2^k rounds of the bytes; so behind P = 2^40 rounds two draws differ by D, which grows by the generator's factor at each draw; where all draws at every second place are multiples of 90, D is 0: then all comes again, also the first seed, whose draw is 80192, and helps.)
  · THE KIT's NUMBERS, EACH ONE TOLD: the seed behind so many draws.
  · BYTES IN PIECES: what is taken of some bytes, and then of more behind the rest, is what is taken of both at once.
  · A STATE OF SOME BYTES, and of more: Write and Done.
  · ROWS OF SLICES OF BYTES: each has a block of bytes of its own.
  · THE LAWS' joined: a byte and digests, one behind the other, and their digest; rows of slices of bytes.
  · A TREE THAT GROWS HAS THE DIGEST OF ITS LIST; two unlike lists with one digest show two unlike lists of bytes with one digest.
  · THE REFERENCE's List: the digest of a list.
-/
import Derived.Test.YtffdkniahdekjaaDoorMBl
import Derived.Test.YtffdkniahdekjaaDoorMBb
import Derived.Test.YtffdkniahdekjaaDoorMBc
import Derived.Test.YtffdkniahdekjaaDoorMBd
import Derived.Great.BuildSlice
import Derived.Test.YtffdkniahdekjaaDoorMBj
section
namespace Go.Proofs.YtffdkniahdekjaaDoor
namespace Gen
def nextSeed (b x : Nat) : Nat := ((x ^^^ b) * 6364136223846793005 + 1442695040888963407) % 18446744073709551616
def E (k : Nat) (x y : Nat) : Prop := ((2 ^ k : Nat) : Int) ∣ (x : Int) - (y : Int)
theorem E_iff {k x y : Nat} : E k x y ↔ x % 2 ^ k = y % 2 ^ k := by
  unfold E
  constructor
  · intro h
    have h1 := Int.emod_emod_of_dvd ((x : Int) - y) h
    have h2 : ((x : Int) - y) % ((2 ^ k : Nat) : Int) = 0 := Int.emod_eq_zero_of_dvd h
    have h3 := Int.emod_eq_emod_iff_emod_sub_eq_zero.2 h2
    have h4 : ((x % 2 ^ k : Nat) : Int) = ((y % 2 ^ k : Nat) : Int) := by
      rw [Int.natCast_emod, Int.natCast_emod]; exact h3
    exact Int.ofNat.inj h4
  · intro h
    apply Int.dvd_of_emod_eq_zero
    apply Int.emod_eq_emod_iff_emod_sub_eq_zero.1
    rw [← Int.natCast_emod, ← Int.natCast_emod, h]
theorem E_refl (k x : Nat) : E k x x := E_iff.2 rfl
theorem E_symm {k x y : Nat} (h : E k x y) : E k y x := E_iff.2 (E_iff.1 h).symm
theorem E_trans {k x y z : Nat} (h : E k x y) (h' : E k y z) : E k x z := E_iff.2 ((E_iff.1 h).trans (E_iff.1 h'))
theorem E_xor {k x y b : Nat} : E k (x ^^^ b) (y ^^^ b) ↔ E k x y := by
  rw [E_iff, E_iff, Nat.xor_mod_two_pow, Nat.xor_mod_two_pow]
  constructor
  · intro h
    have h1 := congrArg (fun t => t ^^^ (b % 2 ^ k)) h
    simpa [Nat.xor_assoc] using h1
  · intro h; rw [h]
theorem next_is (b x : Nat) : ∃ q : Nat, (x ^^^ b) * 6364136223846793005 + 1442695040888963407 = nextSeed b x + 18446744073709551616 * q :=
  ⟨_, (Nat.mod_add_div _ _).symm⟩
theorem next_lt (b x : Nat) : nextSeed b x < 18446744073709551616 := Nat.mod_lt _ (by decide)
theorem dvd64 {k : Nat} (hk : k ≤ 64) : ((2 ^ k : Nat) : Int) ∣ (18446744073709551616 : Int) := by
  have h : (2 ^ k : Nat) ∣ 2 ^ 64 := Nat.pow_dvd_pow 2 hk
  have h2 : ((2 ^ k : Nat) : Int) ∣ ((2 ^ 64 : Nat) : Int) := Int.ofNat_dvd.2 h
  simpa using h2
/-- One draw keeps what two seeds have alike in their low bits, and tells it. -/
theorem E_next {k : Nat} (hk : k ≤ 64) (b x y : Nat) : E k (nextSeed b x) (nextSeed b y) ↔ E k x y := by
  rw [← E_xor (b := b) (x := x) (y := y)]
  obtain ⟨q, hq⟩ := next_is b x
  obtain ⟨p, hp⟩ := next_is b y
  generalize x ^^^ b = u at *
  generalize y ^^^ b = v at *
  generalize nextSeed b x = m at *
  generalize nextSeed b y = n at *
  obtain ⟨c, hc⟩ := dvd64 hk
  unfold E
  constructor
  · rintro ⟨s, hs⟩
    have h1 : ((u : Int) - v) * 6364136223846793005 = ((2 ^ k : Nat) : Int) * (s + c * (q - p)) := by
      rw [Int.mul_add, ← Int.mul_assoc, ← hc, ← hs]; omega
    have h2 : (u : Int) - v = ((u : Int) - v) * 6364136223846793005 * 13877824140714322085 - 18446744073709551616 * (((u : Int) - v) * 4787856489426250814) := by omega
    rw [h2, h1, hc, Int.mul_assoc, Int.mul_assoc, ← Int.mul_sub]
    exact Int.dvd_mul_right _ _
  · rintro ⟨s, hs⟩
    refine ⟨s * 6364136223846793005 - c * ((q : Int) - p), ?_⟩
    rw [Int.mul_sub, ← Int.mul_assoc, ← Int.mul_assoc, ← hc, ← hs]
    omega
theorem E_zero (x y : Nat) : E 0 x y := E_iff.2 (by rw [Nat.pow_zero, Nat.mod_one, Nat.mod_one])
theorem E_flip {k a b c : Nat} (h1 : E k a b) (n1 : ¬ E (k + 1) a b) (h2 : E k b c) (n2 : ¬ E (k + 1) b c) : E (k + 1) a c := by
  obtain ⟨s, hs⟩ := h1
  obtain ⟨t, ht⟩ := h2
  unfold E at *
  rw [Nat.pow_succ, Int.natCast_mul] at *
  generalize ((2 ^ k : Nat) : Int) = m at *
  have e1 : s % 2 = 1 := by
    rcases Int.emod_two_eq s with h | h
    · exact absurd ⟨s / 2, by rw [hs, Int.mul_assoc]; congr 1; omega⟩ n1
    · exact h
  have e2 : t % 2 = 1 := by
    rcases Int.emod_two_eq t with h | h
    · exact absurd ⟨t / 2, by rw [ht, Int.mul_assoc]; congr 1; omega⟩ n2
    · exact h
  refine ⟨(s + t) / 2, ?_⟩
  have e3 : (a : Int) - c = m * (s + t) := by rw [Int.mul_add, ← hs, ← ht]; omega
  rw [e3, Int.mul_assoc]
  congr 1
  omega
theorem again {β : Nat → Nat} {L : Nat} (hβ : ∀ i, β (i + L) = β i) : ∀ n i, β (i + n * L) = β i
  | 0, i => by rw [Nat.zero_mul, Nat.add_zero]
  | n + 1, i => by rw [Nat.succ_mul, ← Nat.add_assoc, hβ, again hβ n i]
/-- The low k bits come again behind 2^k rounds. -/
theorem low {β x : Nat → Nat} {L : Nat} (hβ : ∀ i, β (i + L) = β i) (hx : ∀ i, x (i + 1) = nextSeed (β i) (x i)) : ∀ k, k ≤ 64 → ∀ i, E k (x i) (x (i + 2 ^ k * L))
  | 0, _, i => E_zero _ _
  | k + 1, hk, i => by
    have ih := low hβ hx k (by omega)
    obtain ⟨P, hP⟩ : ∃ P, P = 2 ^ k * L := ⟨_, rfl⟩
    have hb : ∀ i, β (i + P) = β i := fun i => by rw [hP]; exact again hβ _ i
    rw [← hP] at ih
    have e : 2 ^ (k + 1) * L = P + P := by rw [hP, Nat.pow_succ, Nat.mul_right_comm, Nat.mul_two]
    have hs : ∀ i, E (k + 1) (x (i + 1)) (x (i + 1 + P)) ↔ E (k + 1) (x i) (x (i + P)) := fun i => by
      rw [show i + 1 + P = i + P + 1 by omega, hx, hx, hb]
      exact E_next hk _ _ _
    have h0 : ∀ i, E (k + 1) (x i) (x (i + P)) ↔ E (k + 1) (x 0) (x (0 + P)) := fun i => by
      induction i with
      | zero => exact Iff.rfl
      | succ i ih => exact (hs i).trans ih
    rw [e, ← Nat.add_assoc]
    by_cases h : E (k + 1) (x 0) (x (0 + P))
    · exact E_trans ((h0 i).2 h) ((h0 (i + P)).2 h)
    · exact E_flip (ih i) (fun k => h ((h0 i).1 k)) (ih (i + P)) (fun k => h ((h0 (i + P)).1 k))
theorem xor_low {x y b : Nat} (h : x % 256 = y % 256) (hb : b < 256) : ((x ^^^ b : Nat) : Int) - ((y ^^^ b : Nat) : Int) = (x : Int) - y := by
  have d1 : ∀ z, (z ^^^ b) / 256 = z / 256 := fun z => by
    have h := Nat.xor_div_two_pow (a := z) (b := b) (n := 8)
    rw [show (2 : Nat) ^ 8 = 256 from rfl, Nat.div_eq_of_lt hb, Nat.xor_zero] at h
    exact h
  have m1 : (x ^^^ b) % 256 = (y ^^^ b) % 256 := by
    have h1 := Nat.xor_mod_two_pow (a := x) (b := b) (n := 8)
    have h2 := Nat.xor_mod_two_pow (a := y) (b := b) (n := 8)
    rw [show (2 : Nat) ^ 8 = 256 from rfl] at h1 h2
    rw [h1, h2, h]
  have a1 := d1 x
  have a2 := d1 y
  omega
/-- How two draws differ that are so many rounds apart goes on by the generator's factor. -/
theorem gap {u v m n q p : Nat} {e : Int} (hu : u * 6364136223846793005 + 1442695040888963407 = m + 18446744073709551616 * q) (hv : v * 6364136223846793005 + 1442695040888963407 = n + 18446744073709551616 * p)
    (huv : (v : Int) - u = 1099511627776 * e) (hl : m % 1099511627776 = n % 1099511627776) : ∃ w : Int, ((n / 1099511627776 : Nat) : Int) - ((m / 1099511627776 : Nat) : Int) = 9797421 * e + 16777216 * w :=
  ⟨379332078924 * e - ((p : Int) - q), by omega⟩
/-- The factor behind 2^r draws. -/
def fac : Nat → Nat
  | 0 => 9797421
  | r + 1 => fac r * fac r % 16777216
theorem fac_is : ∀ r : Fin 22, 1 ≤ r.val → fac r.val % 2 ^ (r.val + 3) = 1 + 2 ^ (r.val + 2) := by decide +kernel
structure Run (β x : Nat → Nat) (L : Nat) : Prop where
  pos : 0 < L
  rep : ∀ i, β (i + L) = β i
  byte : ∀ i, β i < 256
  next : ∀ i, x (i + 1) = nextSeed (β i) (x i)
  first : x 0 = 88172645463325252
section
variable {β x : Nat → Nat} {L : Nat}
theorem Run.lt (h : Run β x L) (i : Nat) : x i < 18446744073709551616 := by
  cases i with
  | zero => rw [h.first]; decide
  | succ i => rw [h.next]; exact next_lt _ _
theorem Run.low40 (h : Run β x L) (i : Nat) : x i % 1099511627776 = x (i + 1099511627776 * L) % 1099511627776 := E_iff.1 (low h.rep h.next 40 (by decide) i)
def dr (x : Nat → Nat) (i : Nat) : Nat := x i / 1099511627776
theorem Run.dr_lt (h : Run β x L) (i : Nat) : dr x i < 16777216 := by
  have := h.lt i
  unfold dr
  omega
def gapOf (x : Nat → Nat) (P i : Nat) : Int := (dr x (i + P) : Int) - dr x i
theorem gap_one {a b m n by0 : Nat} (hB : by0 < 256) (h0 : a % 1099511627776 = b % 1099511627776) (h1 : m % 1099511627776 = n % 1099511627776) (n1 : m = nextSeed by0 a) (n2 : n = nextSeed by0 b) :
    ∃ w : Int, ((n / 1099511627776 : Nat) : Int) - ((m / 1099511627776 : Nat) : Int) = 9797421 * (((b / 1099511627776 : Nat) : Int) - ((a / 1099511627776 : Nat) : Int)) + 16777216 * w := by
  have h8 : b % 256 = a % 256 := by
    have e1 : a % 1099511627776 % 256 = b % 1099511627776 % 256 := by rw [h0]
    rw [Nat.mod_mod_of_dvd _ (by decide), Nat.mod_mod_of_dvd _ (by decide)] at e1
    exact e1.symm
  have h40 : (b : Int) - a = 1099511627776 * (((b / 1099511627776 : Nat) : Int) - ((a / 1099511627776 : Nat) : Int)) := by
    clear n1 n2 h1 h8
    omega
  obtain ⟨q, hq⟩ := next_is by0 a
  obtain ⟨p, hp⟩ := next_is by0 b
  rw [← n1] at hq
  rw [← n2] at hp
  have hx := xor_low (x := b) (y := a) (b := by0) h8 hB
  clear n1 n2
  generalize b ^^^ by0 = v at *
  generalize a ^^^ by0 = u at *
  exact gap hq hp (e := ((b / 1099511627776 : Nat) : Int) - ((a / 1099511627776 : Nat) : Int)) (hx.trans h40) h1
theorem Run.gap_next (h : Run β x L) (i : Nat) : ∃ w : Int, gapOf x (1099511627776 * L) (i + 1) = 9797421 * gapOf x (1099511627776 * L) i + 16777216 * w := by
  have hb : β (i + 1099511627776 * L) = β i := again h.rep _ i
  have h0 := h.low40 i
  have h1 := h.low40 (i + 1)
  have n1 := h.next i
  have n2 := h.next (i + 1099511627776 * L)
  rw [hb] at n2
  rw [show i + 1099511627776 * L + 1 = i + 1 + 1099511627776 * L from Nat.add_right_comm _ _ _] at n2
  exact gap_one (h.byte i) h0 h1 n1 n2
theorem Run.gap_pow (h : Run β x L) : ∀ r i, ∃ w : Int, gapOf x (1099511627776 * L) (i + 2 ^ r) = (fac r : Int) * gapOf x (1099511627776 * L) i + 16777216 * w
  | 0, i => h.gap_next i
  | r + 1, i => by
    obtain ⟨w1, h1⟩ := h.gap_pow r i
    obtain ⟨w2, h2⟩ := h.gap_pow r (i + 2 ^ r)
    have e : i + 2 ^ (r + 1) = i + 2 ^ r + 2 ^ r := by rw [Nat.pow_succ]; omega
    have hf := (Nat.mod_add_div (fac r * fac r) 16777216).symm
    have hF : fac r * fac r % 16777216 = fac (r + 1) := rfl
    rw [hF] at hf
    have hf2 : (fac r : Int) * (fac r : Int) = (fac (r + 1) : Int) + 16777216 * ((fac r * fac r / 16777216 : Nat) : Int) := by
      rw [← Int.natCast_mul]
      omega
    generalize ((fac r * fac r / 16777216 : Nat) : Int) = q at hf2
    rw [e, h2, h1]
    generalize gapOf x (1099511627776 * L) i = D
    generalize (fac r : Int) = f at *
    generalize (fac (r + 1) : Int) = F at *
    refine ⟨q * D + f * w1 + w2, ?_⟩
    have e1 : f * (f * D) = F * D + 16777216 * (q * D) := by rw [← Int.mul_assoc, hf2, Int.add_mul, Int.mul_assoc]
    have e2 : f * (16777216 * w1) = 16777216 * (f * w1) := Int.mul_left_comm _ _ _
    rw [Int.mul_add, e1, e2]
    omega
theorem Run.half (h : Run β x L) (i0 m : Nat) (hm : m ≤ 20) (t : Int) (ht : gapOf x (1099511627776 * L) i0 = ((2 ^ m : Nat) : Int) * t)
    (c0 : dr x i0 % 90 = 0) (c1 : dr x (i0 + 1099511627776 * L) % 90 = 0) (c2 : dr x (i0 + 2 ^ (21 - m)) % 90 = 0) (c3 : dr x (i0 + 2 ^ (21 - m) + 1099511627776 * L) % 90 = 0) : t % 2 = 0 := by
  rcases Int.emod_two_eq t with h2 | h2
  · exact h2
  exfalso
  obtain ⟨r, hr⟩ : ∃ r, r = 21 - m := ⟨_, rfl⟩
  rw [← hr] at c2 c3
  have hf := fac_is ⟨r, by omega⟩ (by show 1 ≤ r; omega)
  dsimp only at hf
  obtain ⟨w, hw⟩ := h.gap_pow r i0
  have hXY : (2 ^ (r + 2) : Nat) * 2 ^ m = 8388608 := by
    rw [← Nat.pow_add, show r + 2 + m = 23 by omega]
  have hd := (Nat.mod_add_div (fac r) (2 ^ (r + 3))).symm
  rw [hf, Nat.pow_succ 2 (r + 2)] at hd
  generalize fac r / (2 ^ (r + 2) * 2) = c at hd
  have hXY2 : ((2 ^ (r + 2) : Nat) : Int) * ((2 ^ m : Nat) : Int) = 8388608 := by rw [← Int.natCast_mul, hXY]; rfl
  have hd2 : (fac r : Int) = 1 + ((2 ^ (r + 2) : Nat) : Int) * (1 + 2 * c) := by
    rw [hd]
    push_cast
    rw [Int.mul_add, Int.mul_one, Int.mul_assoc, Int.add_assoc]
  have b0 := h.dr_lt i0
  have b1 := h.dr_lt (i0 + 1099511627776 * L)
  have b2 := h.dr_lt (i0 + 2 ^ r)
  have b3 := h.dr_lt (i0 + 2 ^ r + 1099511627776 * L)
  rw [ht, hd2] at hw
  generalize ((2 ^ (r + 2) : Nat) : Int) = X at *
  generalize ((2 ^ m : Nat) : Int) = Y at *
  have e1 : (1 + X * (1 + 2 * (c : Int))) * (Y * t) = Y * t + 8388608 * ((1 + 2 * (c : Int)) * t) := by
    rw [Int.add_mul, Int.one_mul, ← hXY2]
    congr 1
    rw [Int.mul_assoc, Int.mul_assoc, Int.mul_left_comm (1 + 2 * (c : Int)) Y t]
  rw [e1, ← ht] at hw
  have e2 : (1 + 2 * (c : Int)) * t = t + 2 * ((c : Int) * t) := by rw [Int.add_mul, Int.one_mul, Int.mul_assoc]
  rw [e2] at hw
  generalize (c : Int) * t = z at hw
  unfold gapOf at hw
  omega
theorem Run.still (h : Run β x L) (i0 H : Nat) (hH : 549755813888 * L + 1048576 ≤ H) (hA : ∀ j, j ≤ H → dr x (i0 + 2 * j) % 90 = 0) : x (i0 + 1099511627776 * L) = x i0 := by
  have hP : 1099511627776 * L = 2 * (549755813888 * L) := by omega
  have c0 := hA 0 (by omega)
  have c1 := hA (549755813888 * L) (by omega)
  rw [← hP] at c1
  have key : ∀ m, m ≤ 21 → ∃ t : Int, gapOf x (1099511627776 * L) i0 = ((2 ^ m : Nat) : Int) * t := fun m => by
    induction m with
    | zero => exact fun _ => ⟨_, by rw [Nat.pow_zero]; exact (Int.one_mul _).symm⟩
    | succ m ih =>
      intro hm
      obtain ⟨t, ht⟩ := ih (by omega)
      have e : 2 ^ (21 - m) = 2 * 2 ^ (20 - m) := by rw [show 21 - m = 20 - m + 1 by omega, Nat.pow_succ, Nat.mul_comm]
      have hb : 2 ^ (20 - m) ≤ 1048576 := Nat.pow_le_pow_right (n := 2) (by decide) (show 20 - m ≤ 20 by omega)
      have c2 := hA (2 ^ (20 - m)) (by omega)
      have c3 := hA (2 ^ (20 - m) + 549755813888 * L) (by omega)
      rw [← e] at c2
      rw [show i0 + 2 * (2 ^ (20 - m) + 549755813888 * L) = i0 + 2 ^ (21 - m) + 1099511627776 * L by omega] at c3
      have h2 := h.half i0 m (by omega) t ht c0 c1 c2 c3
      refine ⟨t / 2, ?_⟩
      rw [ht, Nat.pow_succ, Int.natCast_mul, Int.mul_assoc]
      congr 1
      omega
  obtain ⟨t, ht⟩ := key 21 (Nat.le_refl _)
  have b0 := h.dr_lt i0
  have b1 := h.dr_lt (i0 + 1099511627776 * L)
  have hl := h.low40 i0
  rw [show ((2 ^ 21 : Nat) : Int) = 2097152 from rfl] at ht
  rw [Nat.mul_zero, Nat.add_zero] at c0
  unfold gapOf at ht
  unfold dr at *
  omega
theorem Run.back (h : Run β x L) (i : Nat) (he : x (i + 1099511627776 * L) = x i) : ∀ k, k ≤ i → x (i - k + 1099511627776 * L) = x (i - k)
  | 0, _ => he
  | k + 1, hk => by
    have ih := h.back i he k (by omega)
    obtain ⟨j, hj⟩ : ∃ j, j = i - (k + 1) := ⟨_, rfl⟩
    rw [show i - k = j + 1 by omega, show j + 1 + 1099511627776 * L = j + 1099511627776 * L + 1 by omega, h.next, h.next, show β (j + 1099511627776 * L) = β j from again h.rep _ j] at ih
    rw [← hj]
    have h1 : E 64 (nextSeed (β j) (x (j + 1099511627776 * L))) (nextSeed (β j) (x j)) := by rw [ih]; exact E_refl _ _
    have h2 := E_iff.1 ((E_next (Nat.le_refl _) _ _ _).1 h1)
    have l1 := h.lt j
    have l2 := h.lt (j + 1099511627776 * L)
    rw [show (2 : Nat) ^ 64 = 18446744073709551616 from rfl] at h2
    omega
theorem Run.round (h : Run β x L) (h0 : x (1099511627776 * L) = x 0) : ∀ n, x (1099511627776 * L * n) = x 0 := by
  have hf : ∀ j, x (j + 1099511627776 * L) = x j := fun j => by
    induction j with
    | zero => rw [Nat.zero_add]; exact h0
    | succ j ih => rw [show j + 1 + 1099511627776 * L = j + 1099511627776 * L + 1 by omega, h.next, h.next, ih, show β (j + 1099511627776 * L) = β j from again h.rep _ j]
  intro n
  induction n with
  | zero => rw [Nat.mul_zero]
  | succ n ih => rw [Nat.mul_succ, hf, ih]
/-- From any place on, one of two draws that follow each other helps, soon enough. -/
theorem Run.helps (h : Run β x L) (i0 H : Nat) (hH : 549755813888 * L + 1048576 ≤ H) : ¬ ∀ j, j ≤ H → dr x (i0 + 2 * j) % 90 = 0 ∧ dr x (i0 + 2 * j + 1) % 2 = 1 := fun hn => by
  have hs := h.still i0 H hH (fun j hj => (hn j hj).1)
  have h0 := h.back i0 hs i0 (Nat.le_refl _)
  rw [Nat.sub_self, Nat.zero_add] at h0
  have hr := h.round h0
  have hp := h.pos
  obtain ⟨P, hP⟩ : ∃ P, P = 1099511627776 * L := ⟨_, rfl⟩
  rw [← hP] at hr
  have hd := Nat.div_add_mod (i0 + P - 1) P
  have hm := Nat.mod_lt (i0 + P - 1) (show 0 < P by omega)
  have hx := hr ((i0 + P - 1) / P)
  generalize P * ((i0 + P - 1) / P) = e at *
  have hd0 : dr x e = 80192 := by unfold dr; rw [hx, h.first]
  obtain ⟨s, hs2⟩ : ∃ s, e = i0 + s := ⟨e - i0, by omega⟩
  rcases Nat.mod_two_eq_zero_or_one s with h2 | h2
  · have k := (hn (s / 2) (by omega)).1
    rw [show i0 + 2 * (s / 2) = e by omega, hd0] at k
    exact absurd k (by decide)
  · have k := (hn (s / 2) (by omega)).2
    rw [show i0 + 2 * (s / 2) + 1 = e by omega, hd0] at k
    exact absurd k (by decide)
end
/-- How many pairs of draws do not help from here on, as far as n. -/
def count (p : Nat → Bool) : Nat → Nat → Nat
  | 0, _ => 0
  | n + 1, t => if p t then count p n (t + 2) + 1 else 0
theorem count_le (p : Nat → Bool) : ∀ n t, count p n t ≤ n
  | 0, _ => Nat.le_refl _
  | n + 1, t => by
    rw [count]
    split
    · have := count_le p n (t + 2); omega
    · omega
theorem count_stays (p : Nat → Bool) : ∀ n t, (∃ u, u < n ∧ p (t + 2 * u) = false) → count p (n + 1) t = count p n t
  | 0, _, ⟨u, h, _⟩ => absurd h (Nat.not_lt_zero _)
  | n + 1, t, ⟨u, hu, hp⟩ => by
    have a1 : count p (n + 1 + 1) t = if p t then count p (n + 1) (t + 2) + 1 else 0 := rfl
    have a2 : count p (n + 1) t = if p t then count p n (t + 2) + 1 else 0 := rfl
    rw [a1, a2]
    by_cases h : p t = true
    · rw [if_pos h, if_pos h]
      rw [count_stays p n (t + 2) ⟨u - 1, by
        have h0 : u ≠ 0 := fun e => by rw [e, Nat.mul_zero, Nat.add_zero, h] at hp; cases hp
        exact ⟨by omega, by rw [show t + 2 + 2 * (u - 1) = t + 2 * u by omega]; exact hp⟩⟩]
    · rw [if_neg h, if_neg h]
theorem count_down (p : Nat → Bool) (n t : Nat) (he : ∃ u, u < n ∧ p (t + 2 * u) = false) (h : p t = true) : count p n t = count p n (t + 2) + 1 := by
  obtain ⟨u, hu, hp⟩ := he
  have h0 : u ≠ 0 := fun e => by rw [e, Nat.mul_zero, Nat.add_zero, h] at hp; cases hp
  obtain ⟨m, rfl⟩ : ∃ m, n = m + 1 := ⟨n - 1, by omega⟩
  rw [count_stays p m (t + 2) ⟨u - 1, by omega, by rw [show t + 2 + 2 * (u - 1) = t + 2 * u by omega]; exact hp⟩, count, if_pos h]
/-- The seed behind t draws. -/
def seedAt (bs : List Nat) : Nat → Nat
  | 0 => 88172645463325252
  | t + 1 => nextSeed (bs.getD (t % bs.length) 0) (seedAt bs t)
def drawAt (bs : List Nat) (t : Nat) : Nat := seedAt bs (t + 1) / 1099511627776
theorem runOf (bs : List Nat) (hb : ∀ b ∈ bs, b < 256) : ∃ L, L ≤ bs.length + 1 ∧ Run (fun t => bs.getD (t % bs.length) 0) (seedAt bs) L := by
  have hb2 : ∀ i, bs.getD i 0 < 256 := fun i => by
    rw [List.getD_eq_getElem?_getD]
    cases h : bs[i]? with
    | none => decide
    | some v => exact hb v (List.mem_of_getElem? h)
  rcases Nat.eq_zero_or_pos bs.length with h0 | hp
  · obtain rfl := List.length_eq_zero_iff.1 h0
    exact ⟨1, by decide, by decide, fun i => by simp, fun i => by simp, fun i => rfl, rfl⟩
  · exact ⟨bs.length, by omega, hp, fun i => by rw [Nat.add_mod_right], fun i => hb2 _, fun i => rfl, rfl⟩
/-- What a loop that waits for a draw that helps goes down by. -/
theorem rem_of (bs : List Nat) (hb : ∀ b ∈ bs, b < 256) (hl : bs.length ≤ 300) : ∃ rem : Nat → Nat, (∀ t, rem t ≤ 1125899906842624) ∧ ∀ t, drawAt bs t % 90 = 0 → drawAt bs (t + 1) % 2 = 1 → rem (t + 2) < rem t := by
  obtain ⟨L, hL, hR⟩ := runOf bs hb
  obtain ⟨p, hp⟩ : ∃ p : Nat → Bool, ∀ t, p t = decide (drawAt bs t % 90 = 0 ∧ drawAt bs (t + 1) % 2 = 1) := ⟨_, fun _ => rfl⟩
  obtain ⟨N, hN⟩ : ∃ N, N = 549755813888 * L + 1048577 := ⟨_, rfl⟩
  have he : ∀ t, ∃ u, u < N ∧ p (t + 2 * u) = false := fun t => by
    refine Classical.byContradiction fun hn => hR.helps (t + 1) (N - 1) (by omega) fun j hj => ?_
    have h1 : p (t + 2 * j) = true := by
      cases h : p (t + 2 * j) with
      | true => rfl
      | false => exact absurd ⟨j, by omega, h⟩ hn
    rw [hp, decide_eq_true_eq] at h1
    rw [show t + 1 + 2 * j = t + 2 * j + 1 by omega]
    exact h1
  refine ⟨count p N, fun t => ?_, fun t h1 h2 => ?_⟩
  · have := count_le p N t
    omega
  · rw [count_down p N t (he t) (by rw [hp]; exact decide_eq_true ⟨h1, h2⟩)]
    omega
end Gen
end Go.Proofs.YtffdkniahdekjaaDoor
end
section
namespace Go.Proofs.YtffdkniahdekjaaDoor
open Go.RowKit Go.Hoar
theorem bits_xor_u64_nat (a b : Nat) (ha : a < 18446744073709551616) (hb : b < 18446744073709551616) : bits .xor .u64 (a : Int) (b : Int) = ((a ^^^ b : Nat) : Int) := by
  have hx : a ^^^ b < 2 ^ 64 := Nat.xor_lt_two_pow (by omega) (by omega)
  have h1 : (BitVec.ofInt 64 (a : Int)).toNat = a := by
    rw [BitVec.ofInt_natCast, BitVec.toNat_ofNat]; exact Nat.mod_eq_of_lt (by omega)
  have h2 : (BitVec.ofInt 64 (b : Int)).toNat = b := by
    rw [BitVec.ofInt_natCast, BitVec.toNat_ofNat]; exact Nat.mod_eq_of_lt (by omega)
  show IntKind.u64.wrap ((BitVec.ofInt 64 (a : Int) ^^^ BitVec.ofInt 64 (b : Int)).toNat : Int) = _
  rw [BitVec.toNat_xor, h1, h2]
  simp [IntKind.wrap, IntKind.bits, IntKind.signed]
  omega
theorem seed_is (Y x S : Nat) (h : Y = S ^^^ x) : IntKind.u64.wrap (IntKind.u64.wrap ((Y : Int) * 6364136223846793005) + 1442695040888963407) = ((Gen.nextSeed x S : Nat) : Int) := by
  unfold Gen.nextSeed
  rw [← h]
  simp [IntKind.wrap, IntKind.bits, IntKind.signed]
set_option maxRecDepth 100000 in
set_option maxHeartbeats 3000000 in
theorem draw_seed (g gb ob c : Nat) (bs : List Nat) (k S : Nat) (hS : S < 18446744073709551616) (w : World) (hpos : 0 < bs.length) (hbl : bs.length ≤ 300) (hk : k < 4611686018427387904) (hK : KitAt w g (some ⟨gb, ob, none⟩) c bs k (S : Int)) (hbb : Sha.Bytes bs) :
    Calls Tryd.prog 83 #[.pointer (some ⟨g, 0, none⟩)] w fun e w' => e = .returned (.int .i64 ((Gen.nextSeed (bs.getD (k % bs.length) 0) S / 1099511627776 : Nat) : Int)) ∧ KitAt w' g (some ⟨gb, ob, none⟩) c bs (k + 1) ((Gen.nextSeed (bs.getD (k % bs.length) 0) S : Nat) : Int) ∧ But g w w' := by
  obtain ⟨hH, hP, hne⟩ := hK
  have t0 : w.cell? ⟨g, 0, none⟩ = some (.slice (some ⟨gb, ob, none⟩) bs.length c) := hH.cell 0
  have t1 : w.cell? ⟨g, 1, none⟩ = some (.int .i64 (k : Int)) := hH.cell 1
  have t2 : w.cell? ⟨g, 2, none⟩ = some (.int .u64 (S : Int)) := hH.cell 2
  have hpos2 : (0 : Int) < (bs.length : Int) := by omega
  obtain ⟨x, hx⟩ : ∃ x, x = bs.getD (k % bs.length) 0 := ⟨_, rfl⟩
  have hmod : k % bs.length < bs.length := Nat.mod_lt _ hpos
  have hx256 : x < 256 := by rw [hx]; exact Sha.getD_lt hbb (by decide) _
  have hbyte : ∀ Z, But g w Z → Z.cell? ⟨gb, ob + k % bs.length, none⟩ = some (.int .u8 ((x : Nat) : Int)) := fun Z hZ => by
    rcases hP with ⟨h, _⟩ | ⟨g', o', h, hg', hb⟩
    · cases h
    · cases h
      rw [hZ.cell hg' (hne _ _ rfl), hb _ hmod, hx]
  have HByte := Lib.hid hbyte
  have HH := Lib.hid hH
  have HP := Lib.hid hP
  have HX := Lib.hid hx
  obtain ⟨Y, hY⟩ : ∃ Y, Y = S ^^^ x := ⟨_, rfl⟩
  have hY64 : Y < 18446744073709551616 := by rw [hY]; exact Nat.xor_lt_two_pow (n := 64) (by omega) (by omega)
  have hxor : bits BinOp.xor IntKind.u64 (S : Int) (x : Int) = (Y : Int) := by rw [hY]; exact bits_xor_u64_nat S x hS (by omega)
  have HY := Lib.hid hY
  clear hH hP hx hbyte hY
  obtain ⟨n, hn⟩ : ∃ n, n = bs.length := ⟨_, rfl⟩
  obtain ⟨r, hr⟩ : ∃ r, r = k % n := ⟨_, rfl⟩
  rw [← hn] at HByte HH t0 hpos hpos2 hbl hmod
  rw [← hr] at HByte hmod
  have htm : ((k : Int)).tmod (n : Int) = (r : Int) := by rw [hr]; exact (Int.ofNat_tmod k n).symm
  have hn0 : ¬ n = 0 := by omega
  have hr2 : (r : Int) < (n : Int) := by omega
  have hwx : IntKind.u64.wrap (x : Int) = (x : Int) := wrapU x (by omega)
  have HN := Lib.hid hn
  clear hn hr
  go_enter Tryd.func83, Tryd.ntmps83
  go_upto_region 2 with (fail)
  change Code.wp _ (Code.region 2 (drOps 2) true) _ _ _
  refine wp_region_held (S := fun V => But g w V ∧ V.cell? ⟨g, 0, none⟩ = some (.slice (some ⟨gb, ob, none⟩) n c) ∧ V.cell? ⟨g, 1, none⟩ = some (.int .i64 (k : Int))) (by kernel_rfl) ?_
  have hsz : (drOps 2).size = 25 := by kernel_rfl
  rw [hsz]
  clear hsz
  refine gen_world (P := fun W' => wpAnyH _ _ _ _ _ _ _ _ W') (I := fun V => Below w.heap.size w V) _ (Below.refl _ w).drew ?_
  rintro V hBV
  have HHV := Lib.hid (HH.out.below hBV HH.out.lt)
  have HS0 : Hid (But g w V ∧ V.cell? ⟨g, 0, none⟩ = some (.slice (some ⟨gb, ob, none⟩) n c) ∧ V.cell? ⟨g, 1, none⟩ = some (.int .i64 (k : Int))) := Lib.hid ⟨But.of_below hBV, HHV.out.cell 0, HHV.out.cell 1⟩
  have hc0 := HByte.out
  have t2V : V.cell? ⟨g, 2, none⟩ = some (.int .u64 (S : Int)) := HHV.out.cell 2
  have f2V := HHV.out.free 2
  clear hBV
  refine wpAnyH_take (i := 0) (oi := ⟨some 9, _, _, _, _, _⟩) (v := ?_) rfl (by kernel_rfl) (by kernel_rfl) (by kernel_rfl) (fun _ _ _ h => h) (Or.inl ⟨by rfl, fun w' hw' => by go_simp; with_reducible rfl⟩) HS0.out ?_
  try simp only [Act.put, List.setIfInBounds_toArray, List.set_cons_succ, List.set_cons_zero]
  refine wpAnyH_take (i := 1) (oi := ⟨some 10, _, _, _, _, _⟩) (v := ?_) rfl (by kernel_rfl) (by kernel_rfl) (by kernel_rfl) (fun _ _ _ h => h) (Or.inl ⟨by rfl, fun w' hw' => by go_simp; with_reducible rfl⟩) HS0.out ?_
  try simp only [Act.put, List.setIfInBounds_toArray, List.set_cons_succ, List.set_cons_zero]
  refine wpAnyH_take (i := 2) (oi := ⟨some 11, _, _, _, _, _⟩) (v := .pointer (some ⟨g, 2, none⟩)) rfl (by kernel_rfl) (by kernel_rfl) (by kernel_rfl) (fun _ _ _ h => h) (Or.inl ⟨by rfl, fun w' hw' => by go_simp⟩) HS0.out ?_
  try simp only [Act.put, List.setIfInBounds_toArray, List.set_cons_succ, List.set_cons_zero]
  refine wpAnyH_take (i := 4) (oi := ⟨some 13, _, _, _, _, _⟩) (v := ?_) rfl (by kernel_rfl) (by kernel_rfl) (by kernel_rfl) (fun _ _ _ h => h) (Or.inl ⟨by rfl, fun w' hw' => by go_simp; with_reducible rfl⟩) HS0.out ?_
  try simp only [Act.put, List.setIfInBounds_toArray, List.set_cons_succ, List.set_cons_zero]
  refine wpAnyH_take (i := 5) (oi := ⟨some 14, _, _, _, _, _⟩) (v := ?_) rfl (by kernel_rfl) (by kernel_rfl) (by kernel_rfl) (fun _ _ _ h => h) (Or.inl ⟨by rfl, fun w' hw' => by go_simp; with_reducible rfl⟩) HS0.out ?_
  try simp only [Act.put, List.setIfInBounds_toArray, List.set_cons_succ, List.set_cons_zero]
  refine wpAnyH_take (i := 6) (oi := ⟨some 15, _, _, _, _, _⟩) (v := .pointer (some ⟨g, 0, none⟩)) rfl (by kernel_rfl) (by kernel_rfl) (by kernel_rfl) (fun _ _ _ h => h) (Or.inl ⟨by rfl, fun w' hw' => by go_simp⟩) HS0.out ?_
  try simp only [Act.put, List.setIfInBounds_toArray, List.set_cons_succ, List.set_cons_zero]
  refine wpAnyH_take (i := 8) (oi := ⟨some 17, _, _, _, _, _⟩) (v := ?_) rfl (by kernel_rfl) (by kernel_rfl) (by kernel_rfl) (fun _ _ _ h => h) (Or.inl ⟨by rfl, fun w' hw' => by go_simp; with_reducible rfl⟩) HS0.out ?_
  try simp only [Act.put, List.setIfInBounds_toArray, List.set_cons_succ, List.set_cons_zero]
  refine wpAnyH_take (i := 9) (oi := ⟨some 18, _, _, _, _, _⟩) (v := ?_) rfl (by kernel_rfl) (by kernel_rfl) (by kernel_rfl) (fun _ _ _ h => h) (Or.inl ⟨by rfl, fun w' hw' => by go_simp; with_reducible rfl⟩) HS0.out ?_
  try simp only [Act.put, List.setIfInBounds_toArray, List.set_cons_succ, List.set_cons_zero]
  refine wpAnyH_take (i := 10) (oi := ⟨some 19, _, _, _, _, _⟩) (v := .pointer (some ⟨g, 1, none⟩)) rfl (by kernel_rfl) (by kernel_rfl) (by kernel_rfl) (fun _ _ _ h => h) (Or.inl ⟨by rfl, fun w' hw' => by go_simp⟩) HS0.out ?_
  try simp only [Act.put, List.setIfInBounds_toArray, List.set_cons_succ, List.set_cons_zero]
  refine wpAnyH_take (i := 12) (oi := ⟨some 21, _, _, _, _, _⟩) (v := ?_) rfl (by kernel_rfl) (by kernel_rfl) (by kernel_rfl) (fun _ _ _ h => h) (Or.inl ⟨by rfl, fun w' hw' => by go_simp; with_reducible rfl⟩) HS0.out ?_
  try simp only [Act.put, List.setIfInBounds_toArray, List.set_cons_succ, List.set_cons_zero]
  refine wpAnyH_take (i := 13) (oi := ⟨some 22, _, _, _, _, _⟩) (v := ?_) rfl (by kernel_rfl) (by kernel_rfl) (by kernel_rfl) (fun _ _ _ h => h) (Or.inl ⟨by rfl, fun w' hw' => by go_simp; with_reducible rfl⟩) HS0.out ?_
  try simp only [Act.put, List.setIfInBounds_toArray, List.set_cons_succ, List.set_cons_zero]
  refine wpAnyH_take (i := 14) (oi := ⟨some 23, _, _, _, _, _⟩) (v := .pointer (some ⟨g, 0, none⟩)) rfl (by kernel_rfl) (by kernel_rfl) (by kernel_rfl) (fun _ _ _ h => h) (Or.inl ⟨by rfl, fun w' hw' => by go_simp⟩) HS0.out ?_
  try simp only [Act.put, List.setIfInBounds_toArray, List.set_cons_succ, List.set_cons_zero]
  refine wpAnyH_take (i := 7) (oi := ⟨some 16, _, _, _, _, _⟩) (v := .slice (some ⟨gb, ob, none⟩) n c) rfl (by kernel_rfl) (by kernel_rfl) (by kernel_rfl) (fun _ _ _ h => h) (Or.inl ⟨by rfl, fun w' hw' => by have hq := hw'.2.1; go_simp⟩) HS0.out ?_
  try simp only [Act.put, List.setIfInBounds_toArray, List.set_cons_succ, List.set_cons_zero]
  refine wpAnyH_take (i := 11) (oi := ⟨some 20, _, _, _, _, _⟩) (v := .int .i64 (k : Int)) rfl (by kernel_rfl) (by kernel_rfl) (by kernel_rfl) (fun _ _ _ h => h) (Or.inl ⟨by rfl, fun w' hw' => by have hq := hw'.2.2; go_simp⟩) HS0.out ?_
  try simp only [Act.put, List.setIfInBounds_toArray, List.set_cons_succ, List.set_cons_zero]
  refine wpAnyH_take (i := 15) (oi := ⟨some 24, _, _, _, _, _⟩) (v := .slice (some ⟨gb, ob, none⟩) n c) rfl (by kernel_rfl) (by kernel_rfl) (by kernel_rfl) (fun _ _ _ h => h) (Or.inl ⟨by rfl, fun w' hw' => by have hq := hw'.2.1; go_simp⟩) HS0.out ?_
  try simp only [Act.put, List.setIfInBounds_toArray, List.set_cons_succ, List.set_cons_zero]
  refine wpAnyH_take (i := 16) (oi := ⟨some 25, _, _, _, _, _⟩) (v := .int .i64 (n : Int)) rfl (by kernel_rfl) (by kernel_rfl) (by kernel_rfl) (fun _ _ _ h => h) (Or.inl ⟨by rfl, fun w' hw' => by go_simp⟩) HS0.out ?_
  try simp only [Act.put, List.setIfInBounds_toArray, List.set_cons_succ, List.set_cons_zero]
  refine wpAnyH_take (i := 17) (oi := ⟨some 26, _, _, _, _, _⟩) (v := .int .i64 (r : Int)) rfl (by kernel_rfl) (by kernel_rfl) (by kernel_rfl) (fun _ _ _ h => h) (Or.inl ⟨by rfl, fun w' hw' => by go_simp⟩) HS0.out ?_
  try simp only [Act.put, List.setIfInBounds_toArray, List.set_cons_succ, List.set_cons_zero]
  refine wpAnyH_take (i := 18) (oi := ⟨some 27, _, _, _, _, _⟩) (v := .pointer (some ⟨gb, ob + r, none⟩)) rfl (by kernel_rfl) (by kernel_rfl) (by kernel_rfl) (fun _ _ _ h => h) (Or.inl ⟨by rfl, fun w' hw' => by go_simp⟩) HS0.out ?_
  try simp only [Act.put, List.setIfInBounds_toArray, List.set_cons_succ, List.set_cons_zero]
  refine wpAnyH_take (i := 19) (oi := ⟨some 28, _, _, _, _, _⟩) (v := .int .u8 (x : Int)) rfl (by kernel_rfl) (by kernel_rfl) (by kernel_rfl) (fun _ _ _ h => h) (Or.inl ⟨by rfl, fun w' hw' => by have hq := hc0 w' hw'.1; go_simp⟩) HS0.out ?_
  try simp only [Act.put, List.setIfInBounds_toArray, List.set_cons_succ, List.set_cons_zero]
  refine wpAnyH_take (i := 20) (oi := ⟨some 29, _, _, _, _, _⟩) (v := .int .u64 (x : Int)) rfl (by kernel_rfl) (by kernel_rfl) (by kernel_rfl) (fun _ _ _ h => h) (Or.inl ⟨by rfl, fun w' hw' => by go_simp⟩) HS0.out ?_
  try simp only [Act.put, List.setIfInBounds_toArray, List.set_cons_succ, List.set_cons_zero]
  refine wpAnyH_all (rs := [3]) (by kernel_rfl) (by simp) ?_
  intro i hi
  obtain rfl : i = 3 := by simpa using hi
  clear hi
  refine wpOp_step (o := ⟨some 12, _, _, _, _, _⟩) rfl (fun K' hK' => ?_)
  rw [if_pos (show Region.wanted _ _ = true from rfl)]
  go_simp
  refine hK' _ _ ⟨HS0.out, ?_⟩
  clear hK' K'
  try simp only [Act.put, List.setIfInBounds_toArray, List.set_cons_succ, List.set_cons_zero]
  refine wpAnyH_take (i := 21) (oi := ⟨some 30, _, _, _, _, _⟩) (v := ?_) rfl (by kernel_rfl) (by kernel_rfl) (by kernel_rfl) (fun _ _ _ h => h) (Or.inl ⟨by rfl, fun w' hw' => by go_simp; with_reducible rfl⟩) HS0.out ?_
  try simp only [Act.put, List.setIfInBounds_toArray, List.set_cons_succ, List.set_cons_zero]
  refine wpAnyH_take (i := 22) (oi := ⟨some 31, _, _, _, _, _⟩) (v := ?_) rfl (by kernel_rfl) (by kernel_rfl) (by kernel_rfl) (fun _ _ _ h => h) (Or.inl ⟨by rfl, fun w' hw' => by go_simp; with_reducible rfl⟩) HS0.out ?_
  try simp only [Act.put, List.setIfInBounds_toArray, List.set_cons_succ, List.set_cons_zero]
  refine wpAnyH_take (i := 23) (oi := ⟨some 32, _, _, _, _, _⟩) (v := .pointer (some ⟨g, 2, none⟩)) rfl (by kernel_rfl) (by kernel_rfl) (by kernel_rfl) (fun _ _ _ h => h) (Or.inl ⟨by rfl, fun w' hw' => by go_simp⟩) HS0.out ?_
  try simp only [Act.put, List.setIfInBounds_toArray, List.set_cons_succ, List.set_cons_zero]
  refine wpAnyH_all (rs := [24]) (by kernel_rfl) (by simp) ?_
  intro i hi
  obtain rfl : i = 24 := by simpa using hi
  clear hi
  refine wpOp_step (o := ⟨none, _, _, _, _, _⟩) rfl (fun K' hK' => ?_)
  rw [if_pos (show Region.wanted _ _ = true from rfl)]
  go_simp
  refine hK' _ _ ⟨⟨HS0.out.1.put 2 _, (World.cell?_setCell_other _ _ _ _ (by simp)).trans HS0.out.2.1, (World.cell?_setCell_other _ _ _ _ (by simp)).trans HS0.out.2.2⟩, ?_⟩
  clear hK' K'
  try simp only [Act.put, List.setIfInBounds_toArray, List.set_cons_succ, List.set_cons_zero]
  refine wpAnyH_done (by kernel_rfl) ?_ _
  refine gen_world (P := fun W => _) (I := fun Z => But g w Z ∧ Has Z g 122 #[.slice (some ⟨gb, ob, none⟩) n c, .int .i64 (k : Int), .int .u64 (Y : Int)]) _ ⟨HS0.out.1.put 2 _, (HHV.out.put 2 _).of_eq (by simp)⟩ ?_
  rintro Z ⟨hBZ, hZ⟩
  have z0 : Z.cell? ⟨g, 0, none⟩ = some (.slice (some ⟨gb, ob, none⟩) n c) := hZ.cell 0
  have z1 : Z.cell? ⟨g, 1, none⟩ = some (.int .i64 (k : Int)) := hZ.cell 1
  have z2 : Z.cell? ⟨g, 2, none⟩ = some (.int .u64 (Y : Int)) := hZ.cell 2
  have e1 := hZ.free 1
  have e2 := hZ.free 2
  have HBZ := Lib.hid hBZ
  have HZ := Lib.hid hZ
  clear hBZ hZ t0 t1 t2 t2V f2V HS0 HHV HH
  go_wp2
  go_ret
  obtain ⟨v, hv⟩ : ∃ v, v = IntKind.u64.wrap (IntKind.u64.wrap ((Y : Int) * 6364136223846793005) + 1442695040888963407) := ⟨_, rfl⟩
  have hw := wrapU_small (IntKind.u64.wrap ((Y : Int) * 6364136223846793005) + 1442695040888963407)
  rw [← hv] at hw ⊢
  have hns : v = ((Gen.nextSeed x S : Nat) : Int) := by rw [hv]; exact seed_is Y x S HY.out
  have hq : wrap64 (v / 1099511627776) = v / 1099511627776 := by unfold wrap64; omega
  have hbut : But g w ((Z.setCell ⟨g, 1, none⟩ (.int .i64 ((k : Int) + 1))).setCell ⟨g, 2, none⟩ (.int .u64 v)) := (HBZ.out.put 1 _).put 2 _
  rw [← HX.out]
  refine ⟨?_, ⟨((HZ.out.put 1 (.int .i64 ((k : Int) + 1))).put 2 (.int .u64 v)).of_eq (by rw [HN.out, hns]; rfl), HP.out.but hbut (fun x off h => hne x off h), hne⟩, hbut⟩
  show Ending.returned (.int .i64 (wrap64 (v / 1099511627776))) = _
  rw [hq, hns]
  rfl
set_option maxRecDepth 100000 in
set_option maxHeartbeats 3000000 in
theorem draw_bare (g : Nat) (a : Option Addr) (c : Nat) (k S : Nat) (w : World) (hK : KitAt w g a c [] k (S : Int)) :
    Calls Tryd.prog 83 #[.pointer (some ⟨g, 0, none⟩)] w fun e w' => e = .returned (.int .i64 ((Gen.nextSeed 0 S / 1099511627776 : Nat) : Int)) ∧ KitAt w' g a c [] k ((Gen.nextSeed 0 S : Nat) : Int) ∧ But g w w' := by
  obtain ⟨hH, hP, hne⟩ := hK
  have t0 : w.cell? ⟨g, 0, none⟩ = some (.slice a 0 c) := hH.cell 0
  have t2 : w.cell? ⟨g, 2, none⟩ = some (.int .u64 (S : Int)) := hH.cell 2
  have f2 := hH.free 2
  have HH := Lib.hid hH
  have HP := Lib.hid hP
  have HNe := Lib.hid hne
  clear hH hP hne
  go_enter Tryd.func83, Tryd.ntmps83
  go_wp2
  go_ret
  obtain ⟨v, hv⟩ : ∃ v, v = IntKind.u64.wrap (IntKind.u64.wrap ((S : Int) * 6364136223846793005) + 1442695040888963407) := ⟨_, rfl⟩
  have hw := wrapU_small (IntKind.u64.wrap ((S : Int) * 6364136223846793005) + 1442695040888963407)
  rw [← hv] at hw ⊢
  have hq : wrap64 (v / 1099511627776) = v / 1099511627776 := by unfold wrap64; omega
  have hbut : But g w (w.setCell ⟨g, 2, none⟩ (.int .u64 v)) := (But.refl _ _).put 2 _
  have hns : v = ((Gen.nextSeed 0 S : Nat) : Int) := by rw [hv]; exact seed_is S 0 S (Nat.xor_zero S).symm
  refine ⟨?_, ⟨(HH.out.put 2 (.int .u64 v)).of_eq (by rw [hns]; rfl), HP.out.but hbut HNe.out, HNe.out⟩, hbut⟩
  show Ending.returned (.int .i64 (wrap64 (v / 1099511627776))) = _
  rw [hq, hns]
  rfl
/-- A store of numbers at g, of which t were taken. -/
def KitT (w : World) (g B : Nat) (bs : List Nat) (t : Nat) : Prop := g < B ∧ ∃ (a : Option Addr) (c : Nat), KitAt w g a c bs (if bs.length = 0 then 0 else t) ((Gen.seedAt bs t : Nat) : Int) ∧ ∀ x off, a = some ⟨x, off, none⟩ → x < B
theorem KitT.lt {w : World} {g B t : Nat} {bs : List Nat} (h : KitT w g B bs t) : g < w.heap.size := by
  obtain ⟨_, a, c, ⟨h, _⟩, _⟩ := h
  exact h.lt
theorem KitT.below {w w' : World} {g B t : Nat} {bs : List Nat} (h : KitT w g B bs t) (hb : Below B w w') : KitT w' g B bs t := by
  obtain ⟨hB, a, c, ⟨h4, h5, h6⟩, h7⟩ := h
  exact ⟨hB, a, c, ⟨h4.below hb hB, h5.belowB hb h7, h6⟩, h7⟩
theorem seed_lt (bs : List Nat) (t : Nat) : Gen.seedAt bs t < 18446744073709551616 := by
  cases t with
  | zero => unfold Gen.seedAt; decide
  | succ t => unfold Gen.seedAt; exact Gen.next_lt _ _
theorem draw_t (g B : Nat) (bs : List Nat) (t : Nat) (hbb : Sha.Bytes bs) (hbl : bs.length ≤ 300) (ht : t < 4611686018427387904) (w : World) (hK : KitT w g B bs t) :
    Calls Tryd.prog 83 #[.pointer (some ⟨g, 0, none⟩)] w fun e w' => e = .returned (.int .i64 ((Gen.drawAt bs t : Nat) : Int)) ∧ KitT w' g B bs (t + 1) ∧ But g w w' := by
  obtain ⟨hB, a, c, hK, hA⟩ := hK
  rcases Nat.eq_zero_or_pos bs.length with h0 | hp
  · obtain rfl := List.length_eq_zero_iff.1 h0
    rw [if_pos (show ([] : List Nat).length = 0 from rfl)] at hK
    refine (draw_bare g a c 0 _ w hK).mono ?_
    rintro e w' ⟨rfl, hK', hb⟩
    exact ⟨rfl, ⟨hB, a, c, by rw [if_pos (show ([] : List Nat).length = 0 from rfl)]; exact hK', hA⟩, hb⟩
  · have hn : ¬ bs.length = 0 := by omega
    rw [if_neg hn] at hK
    rcases hK.2.1 with ⟨_, h, _⟩ | ⟨gb, ob, rfl, _, _⟩
    · rw [h] at hp; exact absurd hp (Nat.lt_irrefl _)
    · refine (draw_seed g gb ob c bs t _ (seed_lt bs t) w hp hbl ht hK hbb).mono ?_
      rintro e w' ⟨rfl, hK', hb⟩
      exact ⟨rfl, ⟨hB, _, c, by rw [if_neg hn]; exact hK', hA⟩, hb⟩
set_option maxHeartbeats 1000000 in
theorem less_t (g B : Nat) (bs : List Nat) (t : Nat) (hbb : Sha.Bytes bs) (hbl : bs.length ≤ 300) (ht : t < 4611686018427387904) (n : Nat) (hn0 : 0 < n) (hn : n < 1000000) (w : World) (hK : KitT w g B bs t) :
    Calls Tryd.prog 50 #[.pointer (some ⟨g, 0, none⟩), .int .i64 (n : Int)] w fun e w' => e = .returned (.int .i64 ((Gen.drawAt bs t % n : Nat) : Int)) ∧ KitT w' g B bs (t + 1) ∧ But g w w' := by
  have HD := Lib.hid (draw_t g B bs t hbb hbl ht w hK)
  obtain ⟨d, hd⟩ : ∃ d, d = Gen.drawAt bs t := ⟨_, rfl⟩
  rw [← hd] at HD ⊢
  have h1 : ¬ (n : Int) = 0 := by omega
  have h2 : ¬ (n : Int) ≤ 0 := by omega
  have h3 : ¬ n = 0 := by omega
  clear hK hd
  go_enter Tryd.func50, Tryd.ntmps50
  go_wp2_with (go_at_call 83; (with_reducible refine HD.out.mono ?_); rintro e w1 ⟨rfl, hK1, hb1⟩; have HK1 := Lib.hid hK1; have HB1 := Lib.hid hb1; clear hK1 hb1)
  go_ret
  refine ⟨?_, HK1.out, HB1.out⟩
  have e1 : ((d : Int)).tmod n = ((d % n : Nat) : Int) := (Int.ofNat_tmod d n).symm
  rw [← e1]
  first | rfl | simp
set_option maxHeartbeats 1000000 in
theorem seldom_t (g B : Nat) (bs : List Nat) (t : Nat) (hbb : Sha.Bytes bs) (hbl : bs.length ≤ 300) (ht : t < 4611686018427387904) (n : Nat) (hn0 : 0 < n) (hn : n < 1000000) (w : World) (hK : KitT w g B bs t) :
    Calls Tryd.prog 51 #[.pointer (some ⟨g, 0, none⟩), .int .i64 (n : Int)] w fun e w' => e = .returned (.bool (decide (Gen.drawAt bs t % n = 0))) ∧ KitT w' g B bs (t + 1) ∧ But g w w' := by
  have HD := Lib.hid (less_t g B bs t hbb hbl ht n hn0 hn w hK)
  obtain ⟨d, hd⟩ : ∃ d, d = Gen.drawAt bs t % n := ⟨_, rfl⟩
  rw [← hd] at HD ⊢
  clear hK hd
  go_enter Tryd.func51, Tryd.ntmps51
  go_wp2_with (go_at_call 50; (with_reducible refine HD.out.mono ?_); rintro e w1 ⟨rfl, hK1, hb1⟩; have HK1 := Lib.hid hK1; have HB1 := Lib.hid hb1; clear hK1 hb1)
  go_ret
  refine ⟨?_, HK1.out, HB1.out⟩
  have e : ((d : Int) == 0) = decide (d = 0) := by by_cases h : d = 0 <;> simp [h]
  simp [e]
set_option maxRecDepth 100000 in
set_option maxHeartbeats 1000000 in
theorem kitOf_t (bs : List Nat) (hbb : Sha.Bytes bs) (a : Option Addr) (c : Nat) (w : World) (hp : PartOk w a c bs) (hcap : bs.length ≤ c ∧ c ≤ maxLen) :
    Calls Tryd.prog 49 #[.slice a bs.length c] w fun e w' => ∃ g, e = .returned (.pointer (some ⟨g, 0, none⟩)) ∧ KitT w' g (g + 1) (bs.take (min bs.length 300)) 0 ∧ w.heap.size ≤ g ∧ Below w.heap.size w w' := by
  obtain ⟨m, hm⟩ : ∃ m, m = min bs.length 300 := ⟨_, rfl⟩
  rw [← hm]
  have hpm : PartOk w a c (bs.take m) := by
    rcases hp with ⟨rfl, rfl, rfl⟩ | ⟨g, off, rfl, hg, hb⟩
    · exact .inl ⟨rfl, by simp, rfl⟩
    · refine .inr ⟨g, off, rfl, hg, fun i hi => ?_⟩
      rw [List.length_take] at hi
      rw [hb i (by omega), List.getD_eq_getElem?_getD, List.getD_eq_getElem?_getD, List.getElem?_take_of_lt (by omega)]
  have hlm : (bs.take m).length = m := by rw [List.length_take]; omega
  have hcl := cloneBytes_any (bs.take m) a c w hpm (by omega)
  rw [hlm] at hcl
  have HCl := Lib.hid hcl
  have HLm := Lib.hid hlm
  obtain ⟨hc1, hc2⟩ := hcap
  unfold maxLen at hc2
  have hm300 : m ≤ 300 := by omega
  have hmn : m ≤ bs.length := by omega
  have hmt : (min (bs.length : Int) 300).toNat = m := by omega
  clear hp hpm hcl hlm hbb hm
  go_enter Tryd.func49, Tryd.ntmps49
  go_wp2_with (go_at_call 82; (with_reducible refine HCl.out.mono ?_); rintro e w1 ⟨a1, c1, rfl, ho1, hb1⟩; have HO1 := Lib.hid ho1; have HB1 := Lib.hid hb1; clear ho1 hb1)
  go_ret
  have hb := HB1.out
  have hpt := (part_own HO1.out).1
  have hlt : ∀ x off, a1 = some ⟨x, off, none⟩ → x < w1.heap.size := fun x off h => by
    subst h
    exact (HO1.out.lt x rfl).2
  refine ⟨w1.heap.size, rfl, ⟨Nat.lt_succ_self _, a1, c1, ⟨by rw [HLm.out, ite_self]; exact Has.fresh _ _ _, hpt.below ((Below.refl _ w1).alloc (Nat.le_refl _) _), fun x off h => Nat.ne_of_lt (hlt x off h)⟩, fun x off h => Nat.lt_succ_of_lt (hlt x off h)⟩, hb.size, hb.alloc hb.size _⟩
end Go.Proofs.YtffdkniahdekjaaDoor
end
section
namespace Go.Proofs.YtffdkniahdekjaaDoor
namespace Joins
theorem takes_add (h B : List Nat) (n : Nat) : ∀ m, Sha.takes (Sha.takes h B n) (B.drop (64 * n)) m = Sha.takes h B (n + m)
  | 0 => rfl
  | m + 1 => by
    show Sha.take (Sha.takes (Sha.takes h B n) (B.drop (64 * n)) m) (((B.drop (64 * n)).drop (64 * m)).take 64) = Sha.take (Sha.takes h B (n + m)) ((B.drop (64 * (n + m))).take 64)
    rw [takes_add h B n m, List.drop_drop, Nat.mul_add]
theorem takes_front (h d e : List Nat) : ∀ k, 64 * k ≤ d.length → Sha.takes h (d ++ e) k = Sha.takes h d k
  | 0, _ => rfl
  | k + 1, hk => by
    show Sha.take (Sha.takes h (d ++ e) k) (((d ++ e).drop (64 * k)).take 64) = Sha.take (Sha.takes h d k) ((d.drop (64 * k)).take 64)
    rw [takes_front h d e k (by omega), List.drop_append_of_le_length (by omega), List.take_append_of_le_length (by rw [List.length_drop]; omega)]
theorem rest_drop (d e : List Nat) : restOf d ++ e = (d ++ e).drop (64 * (d.length / 64)) := by
  rw [restOf, List.drop_append_of_le_length (by omega)]
theorem all_more (h d e : List Nat) : Sha.all (Sha.all h d) (restOf d ++ e) = Sha.all h (d ++ e) := by
  have h1 : Sha.all h d = Sha.takes h (d ++ e) (d.length / 64) := (takes_front h d e _ (by omega)).symm
  rw [h1, rest_drop, Sha.all, takes_add, Sha.all]
  congr 1
  rw [List.length_drop, List.length_append]
  omega
theorem rest_more (d e : List Nat) : restOf (restOf d ++ e) = restOf (d ++ e) := by
  rw [rest_drop, restOf, List.drop_drop, restOf]
  congr 1
  rw [List.length_drop, List.length_append]
  omega
theorem sha_is (b : List Nat) : Sha.sha b = Sha.ended (Sha.all Sha.first b) (restOf b) b.length := rfl
theorem rest_len (b : List Nat) : (restOf b).length = b.length % 64 := by
  rw [restOf, List.length_drop]
  omega
theorem exists_least (p : Nat → Prop) : ∀ n, p n → ∃ k, p k ∧ ∀ m, p m → k ≤ m := fun n => by
  induction n using Nat.strongRecOn with
  | _ n ih =>
    intro hn
    by_cases h : ∃ m, m < n ∧ p m
    · obtain ⟨m, hm, hp⟩ := h
      exact ih m hm hp
    · exact ⟨n, hn, fun m hm => Nat.le_of_not_lt fun hlt => h ⟨m, hlt, hm⟩⟩
open Classical in
/-- The least number of which something holds. -/
noncomputable def leastOf (p : Nat → Prop) : Nat := if h : ∃ k, p k ∧ ∀ m, p m → k ≤ m then Classical.choose h else 0
theorem leastOf_spec {p : Nat → Prop} {n : Nat} (h : p n) : p (leastOf p) ∧ leastOf p ≤ n := by
  have he := exists_least p n h
  unfold leastOf
  rw [dif_pos he]
  exact ⟨(Classical.choose_spec he).1, (Classical.choose_spec he).2 n h⟩
end Joins
end Go.Proofs.YtffdkniahdekjaaDoor
end
section
namespace Go.Proofs.YtffdkniahdekjaaDoor
open Go.RowKit Go.Hoar
/-- The cells of the state behind some bytes. -/
noncomputable def stOf (d : List Nat) (r : Value) : Array Value := stateCells (Sha.all Sha.first d) r (d.length : Int)
theorem all8 (d : List Nat) : (Sha.all Sha.first d).length = 8 ∧ Sha.Words (Sha.all Sha.first d) := ⟨by rw [Sha.all, Sha.takes_length]; rfl, Sha.takes_words Sha.first_words _ _⟩
theorem sound_of (d : List Nat) (h : d.length ≤ 1000000) : Sound (restOf d).length (d.length : Int) := by
  refine ⟨by omega, by omega, ?_⟩
  rw [Joins.rest_len]
  omega
theorem write_more (d e : List Nat) (hd : Sha.Bytes d) (he : Sha.Bytes e) (hl : d.length + e.length ≤ 100000) (V : World) (ra a : Option Addr) (rc c : Nat) (hr : PartOk V ra rc (restOf d)) (hp : PartOk V a c e) (hcap : CapOk a e.length c) (hc : ConstAt V) :
    Calls Tryd.prog 20 #[.agg (stOf d (.slice ra (restOf d).length rc)), .slice a e.length c] V fun x w' => ∃ a' c', x = .returned (.tuple #[.agg (stOf (d ++ e) (.slice a' (restOf (d ++ e)).length c')), .int .i64 0]) ∧ PartOk w' a' c' (restOf (d ++ e)) ∧ (∀ g, a' = some g → V.heap.size ≤ g.block) ∧ Below V.heap.size V w' := by
  have h8 := all8 d
  have h := write_any (Sha.all Sha.first d) (restOf d) e ra a rc c (d.length : Int) V h8.1 h8.2 hr hp (bytes_drop hd _) he (sound_of d (by omega)) (by omega) hcap hc (restOf d ++ e) (Lib.hid rfl)
  rw [Joins.all_more, Joins.rest_more, show (d.length : Int) + e.length = ((d ++ e).length : Int) by rw [List.length_append]; omega] at h
  refine h.mono ?_
  rintro x w' ⟨a', c', rfl, ho, hb⟩
  refine ⟨a', c', rfl, (part_own ho).1, fun g hg => ?_, hb⟩
  rcases ho.2 with ⟨hv, _⟩ | ⟨g', cap', cur, hv, hb', _⟩
  · injection hv with e1
    rw [hg] at e1
    cases e1
  · injection hv with e1
    rw [hg] at e1
    rw [Option.some.inj e1]
    exact hb'
theorem done_more (d : List Nat) (hd : Sha.Bytes d) (hl : d.length ≤ 100000) (V : World) (ra : Option Addr) (rc : Nat) (hr : PartOk V ra rc (restOf d)) (hc : ConstAt V) (X : List Nat) (hX : Hid (X = Sha.sha d)) :
    Calls Tryd.prog 22 #[.agg (stOf d (.slice ra (restOf d).length rc))] V fun x w' => x = .returned (.tuple #[.agg (arr32 X), .int .i64 0]) ∧ Below V.heap.size V w' := by
  have h8 := all8 d
  have h := done_any (Sha.all Sha.first d) (restOf d) ra rc (d.length : Int) V h8.1 h8.2 hr (bytes_drop hd _) hc X (Lib.hid (by rw [hX.out, Joins.sha_is, Int.toNat_natCast]))
  rw [if_pos (sound_of d (by omega))] at h
  exact h
theorem stOf_size (d : List Nat) (r : Value) : (stOf d r).size = 10 := state_size _ _ _ (all8 d).1
theorem stOf_info (d : List Nat) (r : Value) : (Tryd.prog.info? 33).map (·.size) = some (stOf d r).size := state_info _ _ _ (all8 d).1
theorem stOf_one (d : List Nat) (r : Value) (hr : r.oneCell' = true) : (stOf d r).all (·.oneCell') = true := state_one _ _ _ hr
theorem stOf_nil : stOf [] (.slice none 0 0) = stateCells Sha.first (.slice none 0 0) 0 := rfl
end Go.Proofs.YtffdkniahdekjaaDoor
end
section
namespace Go.Proofs.YtffdkniahdekjaaDoor
open Go.RowKit Go.Hoar
/-- A slice from the first place of a block of bytes on. -/
def BPart (w : World) (v : Value) (b : List Nat) : Prop := ∃ (g c : Nat) (cs : Array Value), v = .slice (some ⟨g, 0, none⟩) b.length c ∧ Has w g 5 cs ∧ cs.toList.take b.length = b.map BV ∧ b.length ≤ c ∧ c ≤ maxLen
theorem bpart_own {V : World} {base n : Nat} {v : Value} {b : List Nat} (h : V.ownsRow base 5 1 v n (b.map BV)) (hn : n = b.length) (hp : 0 < n) : BPart V v b := by
  subst hn
  rcases h.2 with ⟨_, h0⟩ | ⟨g, cap, cur, rfl, _, hh, hc, hm, _, ht⟩
  · omega
  · exact ⟨g, cap, cur, rfl, hh, by rw [Nat.mul_one] at ht; exact ht, hc, hm⟩
theorem BPart.part {w : World} {v : Value} {b : List Nat} (h : BPart w v b) : ∃ g c, v = .slice (some ⟨g, 0, none⟩) b.length c ∧ PartOk w (some ⟨g, 0, none⟩) c b ∧ b.length ≤ c ∧ c ≤ maxLen := by
  obtain ⟨g, c, cs, rfl, hh, ht, hc, hm⟩ := h
  refine ⟨g, c, rfl, .inr ⟨g, 0, rfl, hh.lt, fun i hi => ?_⟩, hc, hm⟩
  rw [Nat.zero_add, hh.cell, ← Array.getElem?_toList, ← List.getElem?_take_of_lt hi, ht, List.getElem?_map, List.getD_eq_getElem?_getD, List.getElem?_eq_getElem hi]
  rfl
theorem BPart.on {w w' : World} {v : Value} {b : List Nat} (h : BPart w v b) (hk : ∀ g t cs, Has w g t cs → v.ownBlock = some g → t = 5 → Has w' g t cs) : BPart w' v b := by
  obtain ⟨g, c, cs, rfl, hh, ht, hc, hm⟩ := h
  exact ⟨g, c, cs, rfl, hk g _ cs hh rfl rfl, ht, hc, hm⟩
theorem BPart.below {w w' : World} {v : Value} {b : List Nat} (h : BPart w v b) (hb : Below w.heap.size w w') : BPart w' v b := h.on fun _ _ _ hh _ _ => hh.below hb hh.lt
theorem BPart.setRow {w : World} {v : Value} {b : List Nat} (h : BPart w v b) {g0 : Nat} (hne : v.ownBlock ≠ some g0) (cs0 : Array Value) : BPart (w.setRow g0 cs0) v b := h.on fun g _ _ hh hv _ => (setRow_heap_other w g0 g cs0 (fun e => hne (by rw [hv, e]))).trans hh
/-- A row of slices is no block of bytes. -/
theorem own_not_bytes {w : World} {base n g : Nat} {v : Value} {xs : List Value} {cs : Array Value} (h : w.ownsRow base 22 1 v n xs) (hh : Has w g 5 cs) : some g ≠ v.ownBlock := by
  intro e
  rcases h.2 with ⟨rfl, _⟩ | ⟨g', cap, cur, rfl, _, h2, _⟩
  · cases e
  · obtain rfl : g = g' := Option.some.inj e
    have h3 : w.heap[g]? = some (.cells cs 5 (0, 0)) := hh
    rw [h3] at h2
    injection h2 with h2
    injection h2 with _ h2
    exact absurd h2 (by decide)
theorem BPart.grown {w w' : World} {v r : Value} {b : List Nat} {base n : Nat} {xs : List Value} (h : BPart w v b) (ho : w.ownsRow base 22 1 r n xs) (hg : w.grownBy w' r.ownBlock) : BPart w' v b := h.on fun g _ _ hh _ ht => by
  subst ht
  exact has_grown hh hg (own_not_bytes ho hh)
/-- Slices of bytes, one for each. -/
def BRows (w : World) : List Value → List (List Nat) → Prop
  | [], [] => True
  | v :: vs, b :: bs => BPart w v b ∧ BRows w vs bs
  | _, _ => False
theorem BRows.on {w w' : World} (hk : ∀ v b, BPart w v b → BPart w' v b) : ∀ {vs : List Value} {bs : List (List Nat)}, BRows w vs bs → BRows w' vs bs
  | [], [], _ => trivial
  | _ :: _, _ :: _, h => ⟨hk _ _ h.1, BRows.on hk h.2⟩
  | [], _ :: _, h => h
  | _ :: _, [], h => h
theorem BRows.below {w w' : World} {vs : List Value} {bs : List (List Nat)} (h : BRows w vs bs) (hb : Below w.heap.size w w') : BRows w' vs bs := h.on fun _ _ k => k.below hb
theorem BRows.grown {w w' : World} {r : Value} {base n : Nat} {xs vs : List Value} {bs : List (List Nat)} (h : BRows w vs bs) (ho : w.ownsRow base 22 1 r n xs) (hg : w.grownBy w' r.ownBlock) : BRows w' vs bs := h.on fun _ _ k => k.grown ho hg
theorem BRows.append {w : World} : ∀ {vs us : List Value} {bs cs : List (List Nat)}, BRows w vs bs → BRows w us cs → BRows w (vs ++ us) (bs ++ cs)
  | [], _, [], _, _, k => k
  | _ :: _, _, _ :: _, _, h, k => ⟨h.1, BRows.append h.2 k⟩
  | [], _, _ :: _, _, h, _ => h.elim
  | _ :: _, _, [], _, h, _ => h.elim
theorem BRows.len {w : World} : ∀ {vs : List Value} {bs : List (List Nat)}, BRows w vs bs → vs.length = bs.length
  | [], [], _ => rfl
  | _ :: _, _ :: _, h => by rw [List.length_cons, List.length_cons, BRows.len h.2]
  | [], _ :: _, h => h.elim
  | _ :: _, [], h => h.elim
theorem BRows.get {w : World} : ∀ {vs : List Value} {bs : List (List Nat)} (i : Nat) {b : List Nat}, BRows w vs bs → bs[i]? = some b → ∃ v, vs[i]? = some v ∧ BPart w v b
  | [], [], i, b, _, hi => by simp at hi
  | v :: _, _ :: _, 0, b, h, hi => ⟨v, rfl, by simp at hi; rw [← hi]; exact h.1⟩
  | _ :: _, _ :: _, i + 1, b, h, hi => by
    rw [List.getElem?_cons_succ] at hi ⊢
    exact BRows.get i h.2 hi
  | [], _ :: _, _, _, h, _ => h.elim
  | _ :: _, [], _, _, h, _ => h.elim
theorem brows_one {w : World} : ∀ {vs : List Value} {bs : List (List Nat)}, BRows w vs bs → ∀ u ∈ vs, u.oneCell' = true
  | [], _, _, u, hu => absurd hu List.not_mem_nil
  | v :: vs, b :: bs, h, u, hu => by
    rcases List.mem_cons.1 hu with rfl | hu
    · obtain ⟨g, c, cs, rfl, _⟩ := h.1
      rfl
    · exact brows_one h.2 u hu
  | _ :: _, [], h, _, _ => h.elim
/-- A row of one slice. -/
theorem own_one {V : World} {g base : Nat} {u : Value} (h : Has V g 22 #[u]) (hb : base ≤ g) : V.ownsRow base 22 1 (.slice (some ⟨g, 0, none⟩) 1 1) 1 [u] :=
  ⟨rfl, .inr ⟨g, 1, #[u], rfl, hb, h, Nat.le_refl _, by decide, rfl, rfl⟩⟩
theorem bytesInfo3 : (Tryd.prog.info? 22).map (fun i => (i.zero, i.size, i.bytes)) = some (some (.slice none 0 0), 1, 24) := by kernel_rfl
/-- The cells of a row, where it is read as news. -/
theorem own_news {w : World} {base n g c : Nat} {e : TypeId} {xs : List Value} (h : w.ownsRow base e 1 (.slice (some ⟨g, 0, none⟩) n c) n xs) : ∀ j u, xs[j]? = some u → w.cell? ((⟨g, 0, none⟩ : Addr).add j) = some u := fun j u hj => h.cells (g := g) rfl j u hj
end Go.Proofs.YtffdkniahdekjaaDoor
namespace Go.Hoar
open Go Go.RowKit
/-- A slice literal of arrays or structs, as one operation of a region that draws its order. -/
theorem opw_slices {P : Program} {a : Act} {w : World} {K : Act → World → Prop} {Q : Exit → Act → World → Prop} {dst : Option Tmp} {t T : TypeId} {xs : Array (Nat × Operand)} {n : Nat} {pos : String} {af : Array Edge}
    (e : TypeId) (ie : TypeInfo) (z : Value) (css : List (Array Value)) (hu : P.underlying t = some (.slice e)) (hie : P.info? e = some ie) (hz : ie.zero = some z) (hsz : ∀ c ∈ css, c.size = ie.size) (hn : n = css.length) (hsmall : n * ie.size ≤ 1000) (hpos : 0 < n * ie.size)
    (hx : (xs.map fun (i, x) => (i, a.eval x)).toList = (css.zipIdx 0).map fun x => (x.2, Value.agg x.1)) (h : K (a.put dst (.slice (some ⟨w.heap.size, 0, none⟩) n n)) (w.alloc (.cells (css.flatMap Array.toList).toArray e))) :
    Oper.wp P ⟨dst, .buildSlice t n xs, T, pos, af, none⟩ a w K Q := by
  refine wp_buildSlice t e n _ rfl _ ie z hu hie hz (by omega) (by omega) ?_ h
  have ht : ∀ A : Array Value, A.toList.toArray = A := fun A => by simp
  have hf := fill_rows ie.size css 0 [] ((Array.range (n * ie.size)).map (z.cells[· % z.cells.size]!)).toList hsz (by simp [hn]) (by simp)
  rw [hx]
  rw [List.nil_append, ht] at hf
  rw [hf]
  simp
end Go.Hoar
end
section
namespace Go.Proofs.YtffdkniahdekjaaDoor
open Go.RowKit Go.Hoar
theorem flat32 {ls : List (List Nat)} (hok : SumsOk ls) : ls.flatten.length = 32 * ls.length ∧ Sha.Bytes ls.flatten := by
  induction ls with
  | nil => exact ⟨rfl, fun _ h => absurd h List.not_mem_nil⟩
  | cons x r ih =>
    obtain ⟨h1, h2⟩ := ih (fun l hl => hok l (List.mem_cons_of_mem _ hl))
    have hx := hok x List.mem_cons_self
    refine ⟨by rw [List.flatten_cons, List.length_append, hx.1, h1, List.length_cons]; omega, fun v hv => ?_⟩
    rw [List.flatten_cons, List.mem_append] at hv
    exact hv.elim (hx.2 v) (h2 v)
theorem flat_snoc (ls : List (List Nat)) (j : Nat) (x : List Nat) (h : ls[j]? = some x) : (ls.take (j + 1)).flatten = (ls.take j).flatten ++ x := by
  rw [List.take_add_one, h]
  simp
theorem own_cast {w : World} {base n m : Nat} {e : TypeId} {size : Nat} {v : Value} {xs ys : List Value} (h : w.ownsRow base e size v n xs) (hn : n = m) (hx : xs = ys) : w.ownsRow base e size v m ys := by subst hn; subst hx; exact h
set_option maxRecDepth 100000 in
set_option maxHeartbeats 3000000 in
theorem joined_any (first : Nat) (hf : first < 256) (ls : List (List Nat)) (hok : SumsOk ls) (hn : ls.length ≤ 100) (a : Option Addr) (c : Nat) (w : World) (hr : RowOk w a c ls) (hc : ConstAt w) (out : List Nat) (hout : Hid (out = Sha.sha (first :: ls.flatten))) :
    Calls Tryd.prog 86 #[.int .u8 (first : Int), .slice a ls.length c] w fun e w' => ∃ v, e = .returned (.tuple #[.agg (arr32 out), v]) ∧ BPart w' v (first :: ls.flatten) ∧ out.length = 32 ∧ Below w.heap.size w w' := by
  obtain ⟨i0, hi, hz0, hz1, hz2⟩ := info_parts info8
  have hol : out.length = 32 := by rw [hout.out]; exact (sha_bytes _).1
  have HIo := Lib.hid (arr32_info out (by omega))
  have HSo := Lib.hid (zero32_size out (by omega))
  have HRw := Lib.hid hr
  have HC := Lib.hid hc
  obtain ⟨fl, fb⟩ := flat32 hok
  have hby : Sha.Bytes (first :: ls.flatten) := fun x hx => (List.mem_cons.1 hx).elim (fun e => by omega) (fb x)
  have hof : ∀ (a : Option Addr) (c : Nat) (V : World), V.ownsRow (w.heap.size + 1) 5 1 (.slice a (1 + 32 * ls.length) c) (1 + 32 * ls.length) ((first :: ls.flatten).map BV) → ConstAt V → Calls Tryd.prog 17 #[.slice a (1 + 32 * ls.length) c] V fun e w' => e = .returned (.agg (arr32 out)) ∧ out.length = 32 ∧ Below V.heap.size V w' := fun a c V ho hcv =>
    of_own (first :: ls.flatten) (1 + 32 * ls.length) (by rw [List.length_cons, fl]; omega) hby (by omega) ho hcv out hout
  have HOf := Lib.hid hof
  have hone : ∀ l : List Nat, ∀ u ∈ l.map BV, u.oneCell' = true := by
    intro l u hu
    obtain ⟨x, _, rfl⟩ := List.mem_map.1 hu
    rfl
  have HOne := Lib.hid hone
  clear hr hc hof hone hby
  go_enter Tryd.func86, Tryd.ntmps86
  go_upto_region 1 with (fail)
  refine gen_world (P := fun W => Code.wp _ _ _ _ W) (I := fun W => Below w.heap.size w W ∧ Has W w.heap.size 26 zero32 ∧ W.heap.size = w.heap.size + 1) _ ⟨(Below.refl _ w).alloc (Nat.le_refl _) _, fresh_sum w, by simp⟩ ?_
  rintro W ⟨hB, hR, hsz⟩
  have HB := Lib.hid hB
  have HR := Lib.hid hR
  clear hB hR
  go_upto_region 2 with (fail)
  refine gen_world (P := fun W => Code.wp _ _ _ _ W) (I := fun V => Below w.heap.size w V ∧ Has V w.heap.size 26 zero32 ∧ V.ownsRow (w.heap.size + 1) 5 1 (.slice (some ⟨w.heap.size + 1, 0, none⟩) 1 1) 1 ([first].map BV)) _ ⟨HB.out.alloc HB.out.size _, HR.out.alloc _, own_row (bs := [first]) (Has.fresh_at W 5 _ (w.heap.size + 1) hsz.symm) (Nat.le_refl _) (by show 1 ≤ maxLen; decide)⟩ ?_
  rintro W2 ⟨hB, hR, hO⟩
  have HB2 := Lib.hid hB
  have HR2 := Lib.hid hR
  have HO2 := Lib.hid hO
  clear hB hR hO HB HR hsz
  go_wp2
  go_loopw [6, 13] (fun bv iv wr => ∃ (j : Nat) (vv : Value), vv = bv ∧ j ≤ ls.length ∧ iv = .int .i64 (j : Int) ∧ wr.ownsRow (w.heap.size + 1) 5 1 vv (1 + 32 * j) ((first :: (ls.take j).flatten).map BV) ∧ Has wr w.heap.size 26 zero32 ∧ Below w.heap.size w wr) (fun _ iv _ => ls.length - (intOf iv).toNat)
  case atStart => exact ⟨0, _, rfl, Nat.zero_le _, rfl, HO2.out, HR2.out, HB2.out⟩
  case round =>
    obtain ⟨j, vv, hvv, hj, rfl, hO, hR, hB⟩ := hrel
    subst hvv
    obtain ⟨a6, c6, rfl, hc6, hcm6⟩ := own_shape hO
    unfold maxLen at hcm6
    by_cases hlt : j < ls.length
    · obtain ⟨x, hx⟩ : ∃ x, ls[j]? = some x := ⟨_, List.getElem?_eq_getElem hlt⟩
      rcases HRw.out with ⟨_, he, _⟩ | ⟨g, off, rfl, hg, hs, hcc, hcm⟩
      · rw [he] at hx; simp at hx
      obtain ⟨hxl, hxb, _⟩ := hs j x hx
      have HRow := Lib.hid ((hs.below hg hB).row hx)
      have HI := Lib.hid (arr32_info x (by omega))
      have HSz := Lib.hid (zero32_size x (by omega))
      have HF := Lib.hid (fresh_sum wr)
      have HO := Lib.hid hO
      have HR3 := Lib.hid hR
      have HB3 := Lib.hid hB
      have HFl := Lib.hid (flat_snoc ls j x hx)
      unfold maxLen at hcm
      have hjc : j < c := by omega
      clear hO hR hB hs hx
      go_upto_region 5 with (first
        | ((with_reducible refine arm_load (w := wr) ⟨g, off + j * 32, none⟩ _ _ HRow.out Tryd.underlying26 HI.out ?h1 ?h2 ?_); (case h1 => rfl); (case h2 => rfl))
        | ((with_reducible refine arm_store wr.heap.size (arr32 x) 26 zero32 HF.out HSz.out HI.out (arr32_one _) ?h5 ?h6 ?_); (case h5 => rfl); (case h6 => rfl)))
      have hb3 : w.heap.size + 1 ≤ wr.heap.size := by have := HR3.out.lt; omega
      refine gen_world (P := fun W => Code.wp _ _ _ _ W) (I := fun V => Below w.heap.size w V ∧ Has V wr.heap.size 26 (arr32 x) ∧ Has V w.heap.size 26 zero32 ∧ V.ownsRow (w.heap.size + 1) 5 1 (.slice a6 (1 + 32 * j) c6) (1 + 32 * j) ((first :: (ls.take j).flatten).map BV) ∧ wr.heap.size < V.heap.size) _ ⟨below_setRow (HB3.out.alloc HB3.out.size _) HB3.out.size _, HF.out.setRow, Has.below (HR3.out) (below_setRow ((Below.refl _ wr).alloc (Nat.le_refl _) _) (Nat.le_refl _) _) HR3.out.lt, own_setRow (HO.out.alloc _) (fun e => by have := (HO.out.lt _ e).2; omega) _, HF.out.setRow.lt⟩ ?_
      rintro U ⟨hBU, hXU, hRU, hOU, hgU⟩
      generalize wr.heap.size = b5 at *
      have HN : Hid (∀ q u, (x.map BV)[q]? = some u → U.cell? ((⟨b5, 0, none⟩ : Addr).add q) = some u) := Lib.hid fun q u hq => hXU.row q u (by rw [arr32_whole x hxl, List.getElem?_toArray]; exact hq)
      have HBU := Lib.hid hBU
      have HRU := Lib.hid hRU
      have HOU := Lib.hid hOU
      have hl32 : (x.map BV).length = 32 * 1 := by simp [hxl]
      have hbase : w.heap.size + 1 ≤ U.heap.size := by omega
      clear hBU hXU hRU hOU HO HR3 HB3 HF HRow
      go_wp2_with (first
        | (at_builtin; refine wpList_append_own _ rfl _ _ 22 rfl (w.heap.size + 1) 5 i0 (.int .u8 0) 1 1 Tryd.underlying22 hi hz0 hz1 hz2 rfl (by decide) _ _ _ rfl HOU.out ⟨b5, 0, none⟩ 32 32 (x.map BV) rfl hl32 HN.out (HOne.out x) (by unfold maxLen; omega) (by omega) hbase ?_; intro v' w9 hown9 hgrow9 _
           have HO9 : Hid (w9.ownsRow (w.heap.size + 1) 5 1 v' (1 + 32 * (j + 1)) ((first :: (ls.take (j + 1)).flatten).map BV)) := Lib.hid (own_cast hown9 (by omega) (by rw [HFl.out, List.map_cons, List.map_cons, List.map_append, List.cons_append]))
           have HB9 := Lib.hid (HBU.out.grown hgrow9 (by omega) (fun q hq => by have := (HOU.out.lt q hq).1; omega))
           have HR9 := Lib.hid (has_grown HRU.out hgrow9 (fun e => by have := (HOU.out.lt _ e.symm).1; omega))
           clear hown9 hgrow9))
      go_roundw
      case rel => exact ⟨j + 1, _, rfl, by omega, by go_num, HO9.out, HR9.out, HB9.out⟩
      case measure => simp [intOf]; omega
    · obtain rfl : j = ls.length := by omega
      have HO : Hid (wr.ownsRow (w.heap.size + 1) 5 1 (.slice a6 (1 + 32 * ls.length) c6) (1 + 32 * ls.length) ((first :: ls.flatten).map BV)) := Lib.hid (own_cast hO rfl (by rw [List.take_length]))
      have HR3 := Lib.hid hR
      have HB3 := Lib.hid hB
      have HP : Hid (BPart wr (.slice a6 (1 + 32 * ls.length) c6) (first :: ls.flatten)) := Lib.hid (bpart_own HO.out (by rw [List.length_cons, fl]; omega) (by omega))
      clear hO hR hB
      go_wp2_with (first
        | (go_at_call 17; refine (HOf.out a6 c6 wr HO.out (HC.out.below HB3.out rfl)).mono ?_; rintro e w7 ⟨rfl, _, hb7⟩; have HB7 := Lib.hid (HB3.out.trans (hb7.mono HB3.out.size)); have HR7 := Lib.hid (HR3.out.below hb7 HR3.out.lt); have HP7 := Lib.hid (HP.out.below hb7); clear hb7)
        | ((with_reducible refine arm_store w.heap.size (arr32 out) 26 zero32 HR7.out HSo.out HIo.out (arr32_one _) ?h5 ?h6 ?_); (case h5 => rfl); (case h6 => rfl)))
      refine bodyPost_ret (results_row_tmp rfl _ _ w.heap.size 26 (arr32 out) (0, 0) _ rfl HR7.out.setRow rfl Tryd.underlying26 HIo.out) rfl ⟨_, rfl, ?_, hol, below_setRow HB7.out (Nat.le_refl _) _⟩
      exact HP7.out.setRow (fun e => by have := (HO.out.lt _ e).1; omega) _
end Go.Proofs.YtffdkniahdekjaaDoor
end
section
namespace Go.Proofs.YtffdkniahdekjaaDoor
open Go.RowKit Go.Hoar
/-- The digest of a list. -/
def rootOf (ls : List (List Nat)) : List Nat := listOf (ls.length + 1) ls
theorem rootOf_len (ls : List (List Nat)) : (rootOf ls).length = 32 ∧ Sha.Bytes (rootOf ls) := listOf_len _ _
theorem listOf_fuel : ∀ (f g : Nat) (ls : List (List Nat)), ls.length < f → ls.length < g → ls.length ≤ 1000000 → listOf f ls = listOf g ls
  | 0, _, _, h, _, _ => absurd h (Nat.not_lt_zero _)
  | _ + 1, 0, _, _, h, _ => absurd h (Nat.not_lt_zero _)
  | f + 1, g + 1, [], _, _, _ => by rw [listOf, listOf]
  | f + 1, g + 1, [x], _, _, _ => by rw [listOf, listOf]
  | f + 1, g + 1, x :: y :: r, hf, hg, hb => by
    have hl : (x :: y :: r).length = r.length + 2 := rfl
    obtain ⟨_, b2, _⟩ := halfOf_bounds (n := r.length + 2) (by omega) (by omega)
    have b1 := halfOf_pos (r.length + 2)
    rw [listOf, listOf]
    generalize halfOf (r.length + 2) = p at *
    have h1 : ((x :: y :: r).take p).length = p := by rw [List.length_take]; omega
    have h2 : ((x :: y :: r).drop p).length = r.length + 2 - p := by rw [List.length_drop]; rfl
    rw [listOf_fuel f g _ (by omega) (by omega) (by omega), listOf_fuel f g ((x :: y :: r).drop p) (by omega) (by omega) (by omega)]
theorem rootOf_none : rootOf [] = Sha.sha [0] := by rw [rootOf, List.length_nil, listOf]
theorem rootOf_one (x : List Nat) : rootOf [x] = Sha.sha (1 :: x) := by rw [rootOf]; rfl
theorem rootOf_many (ls : List (List Nat)) (h2 : 2 ≤ ls.length) (hb : ls.length ≤ 1000000) : rootOf ls = Sha.sha (2 :: (rootOf (ls.take (halfOf ls.length)) ++ rootOf (ls.drop (halfOf ls.length)))) := by
  obtain ⟨_, b2, _⟩ := halfOf_bounds (n := ls.length) h2 (by omega)
  have b1 := halfOf_pos ls.length
  match ls, h2, hb, b2, b1 with
  | [], h2, _, _, _ => simp at h2
  | [_], h2, _, _, _ => simp at h2
  | x :: y :: r, _, hb, b2, b1 =>
    have hl : (x :: y :: r).length = r.length + 2 := rfl
    rw [rootOf, hl, listOf, rootOf, rootOf]
    rw [hl] at b2 b1
    generalize halfOf (r.length + 2) = p at *
    have h1 : ((x :: y :: r).take p).length = p := by rw [List.length_take]; omega
    have h2 : ((x :: y :: r).drop p).length = r.length + 2 - p := by rw [List.length_drop]; rfl
    rw [listOf_fuel (r.length + 2) (((x :: y :: r).take p).length + 1) _ (by omega) (by omega) (by omega), listOf_fuel (r.length + 2) (((x :: y :: r).drop p).length + 1) _ (by omega) (by omega) (by omega)]
/-- The greatest power of 2 below a number is the one that lies so. -/
theorem halfOf_is (n k : Nat) (h1 : 2 ^ k < n) (h2 : n ≤ 2 * 2 ^ k) (hb : n ≤ 1000000) : halfOf n = 2 ^ k := by
  have hp : 0 < 2 ^ k := Nat.two_pow_pos k
  obtain ⟨_, b2, b3⟩ := halfOf_bounds (n := n) (by omega) (by omega)
  obtain ⟨j, hj⟩ : ∃ j, halfOf n = 2 ^ j := ⟨_, rfl⟩
  rw [hj] at b2 b3 ⊢
  rcases Nat.lt_trichotomy j k with h | h | h
  · have : 2 ^ (j + 1) ≤ 2 ^ k := Nat.pow_le_pow_right (by decide) h
    rw [Nat.pow_succ] at this
    omega
  · rw [h]
  · have : 2 ^ (k + 1) ≤ 2 ^ j := Nat.pow_le_pow_right (by decide) h
    rw [Nat.pow_succ] at this
    omega
/-- The peaks of a list, from the greatest one on. -/
def peaksK : Nat → List (List Nat) → List (List Nat)
  | 0, _ => []
  | k + 1, ls => if 2 ^ k ≤ ls.length then rootOf (ls.take (2 ^ k)) :: peaksK k (ls.drop (2 ^ k)) else peaksK k ls
theorem peaksK_nil : ∀ k, peaksK k [] = []
  | 0 => rfl
  | k + 1 => by
    have hp : 0 < 2 ^ k := Nat.two_pow_pos k
    rw [peaksK, if_neg (by rw [List.length_nil]; omega), peaksK_nil k]
theorem peaksK_ok : ∀ (k : Nat) (ls : List (List Nat)), SumsOk (peaksK k ls)
  | 0, _ => fun _ h => absurd h List.not_mem_nil
  | k + 1, ls => by
    rw [peaksK]
    split
    · intro l hl
      rcases List.mem_cons.1 hl with rfl | hl
      · exact rootOf_len _
      · exact peaksK_ok k _ l hl
    · exact peaksK_ok k ls
theorem ones_top (k r : Nat) (hr : r < 2 ^ k) (hk : k < 31) : ones (2 ^ k + r) = 1 + ones r := by
  induction k generalizing r with
  | zero =>
    obtain rfl : r = 0 := by simpa using hr
    decide
  | succ k ih =>
    have h1 : 2 ^ (k + 1) ≤ 2 ^ 31 := Nat.pow_le_pow_right (by decide) (by omega)
    rw [Nat.pow_succ] at *
    rw [ones_step (2 ^ k * 2 + r) (by omega), ones_step r (by omega), show (2 ^ k * 2 + r) % 2 = r % 2 by omega, show (2 ^ k * 2 + r) / 2 = 2 ^ k + r / 2 by omega, ih (r / 2) (by omega) (by omega)]
    omega
theorem ones_zero : ones 0 = 0 := onesF_zero 32
theorem peaksK_len : ∀ (k : Nat) (ls : List (List Nat)), k < 31 → ls.length < 2 ^ k → (peaksK k ls).length = ones ls.length
  | 0, ls, _, h => by
    have h0 : ls.length = 0 := by simpa using h
    rw [h0, ones_zero]; rfl
  | k + 1, ls, hk, h => by
    rw [Nat.pow_succ] at h
    rw [peaksK]
    split
    · next hp =>
      have hd : (ls.drop (2 ^ k)).length = ls.length - 2 ^ k := List.length_drop
      rw [List.length_cons, peaksK_len k _ (by omega) (by omega), hd]
      have := ones_top k (ls.length - 2 ^ k) (by omega) (by omega)
      rw [show 2 ^ k + (ls.length - 2 ^ k) = ls.length by omega] at this
      omega
    · exact peaksK_len k ls (by omega) (by omega)
/-- What the peaks are together. -/
def topOf : List (List Nat) → List Nat
  | [] => Sha.sha [0]
  | [p] => p
  | p :: q :: r => Sha.sha (2 :: (p ++ topOf (q :: r)))
theorem topOf_cons (p : List Nat) (l : List (List Nat)) (h : l ≠ []) : topOf (p :: l) = Sha.sha (2 :: (p ++ topOf l)) := by
  cases l with
  | nil => exact absurd rfl h
  | cons q r => rfl
theorem peaksK_ne : ∀ (k : Nat) (ls : List (List Nat)), ls.length < 2 ^ k → ls ≠ [] → peaksK k ls ≠ []
  | 0, ls, h, hn => absurd (List.length_eq_zero_iff.1 (by simpa using h)) hn
  | k + 1, ls, h, hn => by
    rw [peaksK]
    split
    · exact List.cons_ne_nil _ _
    · exact peaksK_ne k ls (by omega) hn
theorem top_peaks : ∀ (k : Nat) (ls : List (List Nat)), k < 19 → ls.length < 2 ^ k → topOf (peaksK k ls) = rootOf ls
  | 0, ls, _, h => by
    obtain rfl : ls = [] := List.length_eq_zero_iff.1 (by simpa using h)
    rw [rootOf_none]; rfl
  | k + 1, ls, hk, h => by
    have hpw : 2 ^ k ≤ 2 ^ 17 := Nat.pow_le_pow_right (by decide) (by omega)
    rw [Nat.pow_succ] at h
    rw [peaksK]
    split
    · next hp =>
      have hd : (ls.drop (2 ^ k)).length = ls.length - 2 ^ k := List.length_drop
      by_cases he : ls.length = 2 ^ k
      · have e1 : ls.drop (2 ^ k) = [] := List.length_eq_zero_iff.1 (by omega)
        have e2 : ls.take (2 ^ k) = ls := List.take_of_length_le (by omega)
        rw [e1, e2, peaksK_nil]
        rfl
      · have hne : ls.drop (2 ^ k) ≠ [] := fun e => by rw [e, List.length_nil] at hd; omega
        rw [topOf_cons _ _ (peaksK_ne k _ (by omega) hne), top_peaks k _ (by omega) (by omega), rootOf_many ls (by have := Nat.two_pow_pos k; omega) (by omega), halfOf_is ls.length k (by omega) (by omega) (by omega)]
    · exact top_peaks k ls (by omega) (by omega)
theorem getLastD_cons {P : List Nat} {ps : List (List Nat)} (h : ps ≠ []) : (P :: ps).getLastD [] = ps.getLastD [] ∧ (P :: ps).dropLast = P :: ps.dropLast := by
  cases ps with
  | nil => exact absurd rfl h
  | cons q r => exact ⟨by simp, rfl⟩
theorem grow_under (P : List Nat) : ∀ (f k r : Nat) (ps : List (List Nat)) (pk : List Nat), r + 1 < 2 ^ k → k < 31 → ps.length = ones r → growOf f (2 ^ k + r) (P :: ps) pk = P :: growOf f r ps pk
  | 0, k, r, ps, pk, _, _, _ => by rw [growOf, growOf]; rfl
  | f + 1, 0, r, ps, pk, h, _, _ => by simp at h
  | f + 1, k + 1, r, ps, pk, h, hk, hl => by
    have hpw : 2 ^ (k + 1) ≤ 2 ^ 31 := Nat.pow_le_pow_right (by decide) (by omega)
    rw [Nat.pow_succ] at *
    rw [growOf, growOf, show (2 ^ k * 2 + r) % 2 = r % 2 by omega]
    split
    · next ho =>
      rw [ones_step r (by omega)] at hl
      have hne : ps ≠ [] := fun e => by rw [e, List.length_nil] at hl; omega
      obtain ⟨e1, e2⟩ := getLastD_cons (P := P) hne
      rw [e1, e2, show (2 ^ k * 2 + r) / 2 = 2 ^ k + r / 2 by omega]
      exact grow_under P f k (r / 2) _ _ (by omega) (by omega) (by rw [List.length_dropLast]; omega)
    · rfl
theorem grow_over (P : List Nat) : ∀ (k f r : Nat) (ps : List (List Nat)) (pk y : List Nat), r + 1 = 2 ^ k → k < 31 → k < f → ps.length = ones r → growOf f r ps pk = [y] → growOf f (2 ^ k + r) (P :: ps) pk = [Sha.sha (2 :: (P ++ y))]
  | _, 0, _, _, _, _, _, _, h, _, _ => absurd h (Nat.not_lt_zero _)
  | 0, f + 1, r, ps, pk, y, h, _, _, hl, hg => by
    obtain rfl : r = 0 := by simpa using h
    rw [ones_zero] at hl
    obtain rfl := List.length_eq_zero_iff.1 hl
    rw [growOf, if_neg (by decide), List.nil_append] at hg
    obtain rfl : pk = y := by simpa using hg
    rw [growOf, if_pos (by decide)]
    cases f with
    | zero => rw [growOf]; rfl
    | succ f => rw [growOf, if_neg (by decide)]; rfl
  | k + 1, f + 1, r, ps, pk, y, h, hk, hf, hl, hg => by
    have hpw : 2 ^ (k + 1) ≤ 2 ^ 31 := Nat.pow_le_pow_right (by decide) (by omega)
    have h0 := Nat.two_pow_pos k
    rw [Nat.pow_succ] at *
    rw [ones_step r (by omega)] at hl
    have hne : ps ≠ [] := fun e => by rw [e, List.length_nil] at hl; omega
    obtain ⟨e1, e2⟩ := getLastD_cons (P := P) hne
    rw [growOf, if_pos (by omega)] at hg
    rw [growOf, if_pos (by omega), e1, e2, show (2 ^ k * 2 + r) / 2 = 2 ^ k + r / 2 by omega]
    exact grow_over P k f (r / 2) _ _ y (by omega) (by omega) (by omega) (by rw [List.length_dropLast]; omega) hg
/-- A tree that grows by one digest. -/
theorem grow_peaks (x : List Nat) (f : Nat) : ∀ (k : Nat) (ls : List (List Nat)), k < 19 → k < f →
    (ls.length + 1 < 2 ^ k → growOf f ls.length (peaksK k ls) (Sha.sha (1 :: x)) = peaksK k (ls ++ [x])) ∧
    (ls.length + 1 = 2 ^ k → growOf f ls.length (peaksK k ls) (Sha.sha (1 :: x)) = [rootOf (ls ++ [x])])
  | 0, ls, _, hf => by
    refine ⟨fun h => by simp at h, fun h => ?_⟩
    obtain rfl : ls = [] := List.length_eq_zero_iff.1 (by simpa using h)
    rw [List.nil_append, rootOf_one]
    cases f with
    | zero => exact absurd hf (Nat.not_lt_zero _)
    | succ f => rw [List.length_nil, growOf, if_neg (by decide)]; rfl
  | k + 1, ls, hk, hf => by
    have hpw : 2 ^ k ≤ 2 ^ 18 := Nat.pow_le_pow_right (by decide) (by omega)
    have h0 := Nat.two_pow_pos k
    have hl1 : (ls ++ [x]).length = ls.length + 1 := by simp
    rw [Nat.pow_succ]
    by_cases hp : 2 ^ k ≤ ls.length
    · have hd : (ls.drop (2 ^ k)).length = ls.length - 2 ^ k := List.length_drop
      have e1 : (ls ++ [x]).take (2 ^ k) = ls.take (2 ^ k) := List.take_append_of_le_length hp
      have e2 : (ls ++ [x]).drop (2 ^ k) = ls.drop (2 ^ k) ++ [x] := List.drop_append_of_le_length hp
      obtain ⟨i1, i2⟩ := grow_peaks x f k (ls.drop (2 ^ k)) (by omega) (by omega)
      rw [hd] at i1 i2
      have el : ls.length = 2 ^ k + (ls.length - 2 ^ k) := by omega
      refine ⟨fun h => ?_, fun h => ?_⟩
      · rw [peaksK, if_pos hp, peaksK, if_pos (by omega), e1, e2, ← i1 (by omega)]
        have := grow_under (rootOf (ls.take (2 ^ k))) f k (ls.length - 2 ^ k) (peaksK k (ls.drop (2 ^ k))) (Sha.sha (1 :: x)) (by omega) (by omega) (by rw [peaksK_len k _ (by omega) (by omega), hd])
        rwa [← el] at this
      · rw [peaksK, if_pos hp, rootOf_many (ls ++ [x]) (by omega) (by omega), halfOf_is (ls ++ [x]).length k (by omega) (by omega) (by omega), e1, e2]
        have := grow_over (rootOf (ls.take (2 ^ k))) k f (ls.length - 2 ^ k) (peaksK k (ls.drop (2 ^ k))) (Sha.sha (1 :: x)) _ (by omega) (by omega) (by omega) (by rw [peaksK_len k _ (by omega) (by omega), hd]) (i2 (by omega))
        rwa [← el] at this
    · obtain ⟨i1, i2⟩ := grow_peaks x f k ls (by omega) (by omega)
      refine ⟨fun h => ?_, fun h => by omega⟩
      rw [peaksK, if_neg hp]
      by_cases hq : ls.length + 1 = 2 ^ k
      · have e1 : (ls ++ [x]).take (2 ^ k) = ls ++ [x] := List.take_of_length_le (by omega)
        have e2 : (ls ++ [x]).drop (2 ^ k) = [] := List.drop_eq_nil_of_le (by omega)
        rw [peaksK, if_pos (by omega), e1, e2, peaksK_nil]
        exact i2 hq
      · rw [peaksK, if_neg (by omega)]
        exact i1 (by omega)
/-- The lists of bytes that are made for the digest of a list. -/
def madeOf : Nat → List (List Nat) → List (List Nat)
  | 0, _ => []
  | f + 1, ls =>
    match ls with
    | [] => [[0]]
    | [x] => [1 :: x]
    | x :: y :: r => ((2 :: (rootOf ((x :: y :: r).take (halfOf (r.length + 2))) ++ rootOf ((x :: y :: r).drop (halfOf (r.length + 2))))) :: madeOf f ((x :: y :: r).take (halfOf (r.length + 2)))) ++ madeOf f ((x :: y :: r).drop (halfOf (r.length + 2)))
theorem madeOf_many (f : Nat) (ls : List (List Nat)) (h2 : 2 ≤ ls.length) : madeOf (f + 1) ls = ((2 :: (rootOf (ls.take (halfOf ls.length)) ++ rootOf (ls.drop (halfOf ls.length)))) :: madeOf f (ls.take (halfOf ls.length))) ++ madeOf f (ls.drop (halfOf ls.length)) := by
  match ls, h2 with
  | [], h2 => simp at h2
  | [_], h2 => simp at h2
  | x :: y :: r, _ => rfl
/-- The first one of them. -/
def headOf (ls : List (List Nat)) : List Nat :=
  match ls with
  | [] => [0]
  | [x] => 1 :: x
  | x :: y :: r => 2 :: (rootOf ((x :: y :: r).take (halfOf (r.length + 2))) ++ rootOf ((x :: y :: r).drop (halfOf (r.length + 2))))
theorem headOf_many (ls : List (List Nat)) (h2 : 2 ≤ ls.length) : headOf ls = 2 :: (rootOf (ls.take (halfOf ls.length)) ++ rootOf (ls.drop (halfOf ls.length))) := by
  match ls, h2 with
  | [], h2 => simp at h2
  | [_], h2 => simp at h2
  | x :: y :: r, _ => rfl
theorem headOf_sha (ls : List (List Nat)) (hb : ls.length ≤ 1000000) : Sha.sha (headOf ls) = rootOf ls := by
  match ls, hb with
  | [], _ => rw [rootOf_none]; rfl
  | [x], _ => rw [rootOf_one]; rfl
  | x :: y :: r, hb =>
    have h2 : 2 ≤ (x :: y :: r).length := by simp
    rw [rootOf_many _ h2 hb, headOf_many _ h2]
theorem headOf_mem (f : Nat) (ls : List (List Nat)) : headOf ls ∈ madeOf (f + 1) ls := by
  match ls with
  | [] => exact List.mem_singleton.2 rfl
  | [x] => exact List.mem_singleton.2 rfl
  | x :: y :: r =>
    have h2 : 2 ≤ (x :: y :: r).length := by simp
    rw [madeOf_many f _ h2, headOf_many _ h2]
    exact List.mem_append_left _ List.mem_cons_self
/-- Two unlike lists with one digest: among what is made for them are two unlike lists of bytes with one digest. -/
theorem clash_of : ∀ (f : Nat) (l m : List (List Nat)), l.length < f → m.length < f → l.length ≤ 1000000 → m.length ≤ 1000000 → l ≠ m → rootOf l = rootOf m → ∃ b ∈ madeOf f l, ∃ d ∈ madeOf f m, b ≠ d ∧ Sha.sha b = Sha.sha d
  | 0, _, _, h, _, _, _, _, _ => absurd h (Nat.not_lt_zero _)
  | f + 1, l, m, hl, hm, bl, bm, hne, he => by
    by_cases hh : headOf l = headOf m
    · rcases Nat.lt_or_ge l.length 2 with h1 | h1
      · match l, h1, hne, hh with
        | [], _, hne, hh =>
          match m, hne, hh with
          | [], hne, _ => exact absurd rfl hne
          | [y], _, hh => cases hh
          | y :: z :: r, _, hh => cases hh
        | [x], _, hne, hh =>
          match m, hne, hh with
          | [], _, hh => cases hh
          | [y], hne, hh =>
            injection hh with _ hh
            exact absurd (by rw [hh]) hne
          | y :: z :: r, _, hh => cases hh
      · rcases Nat.lt_or_ge m.length 2 with h2 | h2
        · match m, h2, hh with
          | [], _, hh => rw [headOf_many l h1] at hh; cases hh
          | [y], _, hh => rw [headOf_many l h1] at hh; cases hh
        · rw [headOf_many l h1, headOf_many m h2] at hh
          obtain ⟨_, b2, _⟩ := halfOf_bounds (n := l.length) h1 (by omega)
          obtain ⟨_, c2, _⟩ := halfOf_bounds (n := m.length) h2 (by omega)
          have b1 := halfOf_pos l.length
          have c1 := halfOf_pos m.length
          rw [madeOf_many f l h1, madeOf_many f m h2]
          generalize halfOf l.length = p at *
          generalize halfOf m.length = q at *
          injection hh with _ hh
          obtain ⟨e1, e2⟩ := List.append_inj hh (by rw [(rootOf_len _).1, (rootOf_len _).1])
          have l1 : (l.take p).length = p := by rw [List.length_take]; omega
          have l2 : (l.drop p).length = l.length - p := List.length_drop
          have m1 : (m.take q).length = q := by rw [List.length_take]; omega
          have m2 : (m.drop q).length = m.length - q := List.length_drop
          by_cases ht : l.take p = m.take q
          · have hd : l.drop p ≠ m.drop q := fun e => hne (by rw [← List.take_append_drop p l, ← List.take_append_drop q m, ht, e])
            obtain ⟨b, hb, d, hdm, h3, h4⟩ := clash_of f _ _ (by omega) (by omega) (by omega) (by omega) hd e2
            exact ⟨b, List.mem_append_right _ hb, d, List.mem_append_right _ hdm, h3, h4⟩
          · obtain ⟨b, hb, d, hdm, h3, h4⟩ := clash_of f _ _ (by omega) (by omega) (by omega) (by omega) ht e1
            exact ⟨b, List.mem_append_left _ (List.mem_cons_of_mem _ hb), d, List.mem_append_left _ (List.mem_cons_of_mem _ hdm), h3, h4⟩
    · exact ⟨headOf l, headOf_mem f l, headOf m, headOf_mem f m, hh, by rw [headOf_sha l bl, headOf_sha m bm, he]⟩
end Go.Proofs.YtffdkniahdekjaaDoor
end
section
namespace Go.Proofs.YtffdkniahdekjaaDoor
open Go.RowKit Go.Hoar
noncomputable def listOps : Array Oper := (Tryd.f36.body.bind (opsAt 6)).getD #[]
set_option maxRecDepth 100000 in
set_option maxHeartbeats 1000000 in
theorem refList_none (a : Option Addr) (c : Nat) (w : World) (out : List Nat) (hout : Hid (out = Sha.sha [0])) :
    Calls Tryd.prog 36 #[.slice a 0 c] w fun e w' => e = .returned (.agg (arr32 out)) ∧ out.length = 32 ∧ Below w.heap.size w w' := by
  have hof : ∀ (V : World) (g : Nat), Has V g 5 #[.int .u8 0] → Calls Tryd.prog 18 #[.slice (some ⟨g, 0, none⟩) 1 1] V fun e w' => e = .returned (.agg (arr32 out)) ∧ out.length = 32 ∧ Below V.heap.size V w' := fun V g h =>
    (refOf_any [0] (some ⟨g, 0, none⟩) 1 V (fun x hx => by rw [List.mem_singleton.1 hx]; decide) (pad_part (bs := [0]) h) (Nat.le_refl _) (by decide) (by decide) (by decide) out hout).mono fun e w' ⟨he, hb⟩ => ⟨he, by rw [hout.out]; exact (sha_bytes _).1, hb⟩
  have HOf := Lib.hid hof
  clear hof
  go_enter Tryd.func36, Tryd.ntmps36
  go_upto_region 1 with (fail)
  refine gen_world (P := fun W => Code.wp _ _ _ _ W) (I := fun W => Below w.heap.size w W ∧ Has W w.heap.size 26 (arr32 []) ∧ W.heap.size = w.heap.size + 1) _ ⟨(Below.refl _ w).alloc (Nat.le_refl _) _, Has.fresh_at _ _ _ _ rfl, by simp⟩ ?_
  rintro W ⟨hB, hR, hsz⟩
  have HBa := Lib.hid (hB.alloc hB.size (.cells #[.int .u8 0] 5))
  have HRa := Lib.hid (hR.alloc (.cells #[.int .u8 0] 5))
  clear hB hR
  go_wp2_with (first
    | (go_at_call 18; refine (HOf.out _ _ (Has.fresh_at W 5 _ (w.heap.size + 1) hsz.symm)).mono ?_; rintro e w3 ⟨rfl, hol, hbel⟩; have HB3 := Lib.hid hbel; have HR3 := Lib.hid (HRa.out.below hbel HRa.out.lt); have HI32 := Lib.hid (arr32_info out (by omega)); have HS32 := Lib.hid ((arr32_size [] (by simp)).trans (arr32_size out (by omega)).symm); clear hbel)
    | ((with_reducible refine arm_store w.heap.size _ _ _ HR3.out HS32.out HI32.out (arr32_one _) ?h5 ?h6 ?_); (case h5 => rfl); (case h6 => rfl)))
  exact bodyPost_ret (results_cell_row (P := Tryd.prog) rfl _ _ w.heap.size 26 (arr32 out) (0, 0) _ rfl HR3.out.setRow Tryd.underlying26 rfl HI32.out) rfl ⟨rfl, hol, below_setRow (HBa.out.trans (HB3.out.mono HBa.out.size)) (Nat.le_refl _) _⟩
set_option maxRecDepth 100000 in
set_option maxHeartbeats 1000000 in
theorem refList_one (l : List Nat) (g off c : Nat) (w : World) (hs : SumsAt w g off [l]) (hg : g < w.heap.size) (_hcm : c ≤ maxLen) (_h1c : 1 ≤ c) (out : List Nat) (hout : Hid (out = Sha.sha (1 :: l))) :
    Calls Tryd.prog 36 #[.slice (some ⟨g, off, none⟩) 1 c] w fun e w' => e = .returned (.agg (arr32 out)) ∧ out.length = 32 ∧ Below w.heap.size w w' := by
  obtain ⟨hl, hlb, _⟩ := hs 0 l rfl
  unfold maxLen at _hcm
  have HI := Lib.hid (arr32_info l (by omega))
  go_enter Tryd.func36, Tryd.ntmps36
  go_upto_region 1 with (fail)
  refine gen_world (P := fun W => Code.wp _ _ _ _ W) (I := fun W => Below w.heap.size w W ∧ Has W w.heap.size 26 (arr32 [])) _ ⟨(Below.refl _ w).alloc (Nat.le_refl _) _, Has.fresh_at _ _ _ _ rfl⟩ ?_
  rintro W ⟨hB, hR⟩
  have hrow := (hs.below hg hB).row (i := 0) (l := l) rfl
  rw [Nat.zero_mul, Nat.add_zero] at hrow
  have HRow := Lib.hid hrow
  have HB := Lib.hid hB
  have HR := Lib.hid hR
  clear hB hR hs hrow
  go_wp2_with (first
    | ((with_reducible refine arm_load ⟨g, off, none⟩ _ _ HRow.out Tryd.underlying26 HI.out ?h1 ?h2 ?_); (case h1 => rfl); (case h2 => rfl))
    | (go_at_call 72; refine (refLeaf_any l hl hlb _ out hout).mono ?_; rintro e w3 ⟨rfl, hol, hbel⟩; have HB3 := Lib.hid hbel; have HR3 := Lib.hid (HR.out.below hbel HR.out.lt); have HI32 := Lib.hid (arr32_info out (by omega)); have HS32 := Lib.hid ((arr32_size [] (by simp)).trans (arr32_size out (by omega)).symm); clear hbel)
    | ((with_reducible refine arm_store w.heap.size _ _ _ HR3.out HS32.out HI32.out (arr32_one _) ?h5 ?h6 ?_); (case h5 => rfl); (case h6 => rfl)))
  exact bodyPost_ret (results_cell_row (P := Tryd.prog) rfl _ _ w.heap.size 26 (arr32 out) (0, 0) _ rfl HR3.out.setRow Tryd.underlying26 rfl HI32.out) rfl ⟨rfl, hol, below_setRow (HB.out.trans (HB3.out.mono HB.out.size)) (Nat.le_refl _) _⟩
def RefListOk (f : Nat) : Prop := ∀ (ls : List (List Nat)) (g off c : Nat) (w : World), ls.length < f → 0 < ls.length → ls.length ≤ c → c ≤ maxLen → ls.length ≤ 140737488355328 → SumsAt w g off ls → g < w.heap.size → ∀ out, Hid (out = listOf f ls) →
    Calls Tryd.prog 36 #[.slice (some ⟨g, off, none⟩) ls.length c] w fun e w' => e = .returned (.agg (arr32 out)) ∧ out.length = 32 ∧ Below w.heap.size w w'
set_option maxRecDepth 100000 in
set_option maxHeartbeats 2000000 in
theorem refList_step (f : Nat) (ih : RefListOk f) (ls : List (List Nat)) (n : Nat) (hnl : n = ls.length) (h2 : 2 ≤ n) (g off c : Nat) (w : World) (hf : n < f + 1) (hnc : n ≤ c) (hcm : c ≤ maxLen) (hn : n ≤ 140737488355328) (hs : SumsAt w g off ls) (hg : g < w.heap.size) (out : List Nat)
    (hlo : out = Sha.sha (2 :: (listOf f (ls.take (halfOf n)) ++ listOf f (ls.drop (halfOf n))))) :
    Calls Tryd.prog 36 #[.slice (some ⟨g, off, none⟩) n c] w fun e w' => e = .returned (.agg (arr32 out)) ∧ out.length = 32 ∧ Below w.heap.size w w' := by
  obtain ⟨_, b2, _⟩ := halfOf_bounds h2 hn
  have b0 := halfOf_pos n
  obtain ⟨h, hh⟩ : ∃ h, h = halfOf n := ⟨_, rfl⟩
  rw [← hh] at b2 b0 hlo
  have lt1 : (ls.take h).length = h := by rw [List.length_take]; omega
  have lt2 : (ls.drop h).length = n - h := by rw [List.length_drop]; omega
  obtain ⟨A, hA⟩ : ∃ A, A = listOf f (ls.take h) := ⟨_, rfl⟩
  obtain ⟨B, hB⟩ : ∃ B, B = listOf f (ls.drop h) := ⟨_, rfl⟩
  have hAb : Sha.Bytes A := by rw [hA]; exact listOf_bytes _ _
  have hBb : Sha.Bytes B := by rw [hB]; exact listOf_bytes _ _
  rw [← hA, ← hB] at hlo
  have hfirst : ∀ V, Below w.heap.size w V → Calls Tryd.prog 36 #[.slice (some ⟨g, off, none⟩) h c] V fun e w' => e = .returned (.agg (arr32 A)) ∧ A.length = 32 ∧ Below V.heap.size V w' := fun V hv => by
    have k := ih (ls.take h) g off c V (by rw [lt1]; omega) (by rw [lt1]; omega) (by rw [lt1]; omega) hcm (by rw [lt1]; omega) ((hs.below hg hv).take h) (Nat.lt_of_lt_of_le hg hv.size) A (Lib.hid hA)
    rwa [lt1] at k
  have hrest : ∀ V, Below w.heap.size w V → Calls Tryd.prog 36 #[.slice (some ⟨g, off + h * 32, none⟩) (n - h) (c - h)] V fun e w' => e = .returned (.agg (arr32 B)) ∧ B.length = 32 ∧ Below V.heap.size V w' := fun V hv => by
    have k := ih (ls.drop h) g (off + h * 32) (c - h) V (by rw [lt2]; omega) (by rw [lt2]; omega) (by rw [lt2]; omega) (by omega) (by rw [lt2]; omega) ((hs.below hg hv).drop h) (Nat.lt_of_lt_of_le hg hv.size) B (Lib.hid hB)
    rwa [lt2] at k
  have hpair : ∀ V, Below w.heap.size w V → A.length = 32 → B.length = 32 → Calls Tryd.prog 73 #[.agg (arr32 A), .agg (arr32 B)] V fun e w' => e = .returned (.agg (arr32 out)) ∧ out.length = 32 ∧ Below V.heap.size V w' := fun V hv ha hb => refInner_any A B ha hb hAb hBb V out (Lib.hid hlo)
  have hcut := refBelow_any n h2 hn
  rw [← hh] at hcut
  unfold maxLen at hcm
  have HF := Lib.hid hfirst
  have HS := Lib.hid hrest
  have HP := Lib.hid hpair
  have HK := Lib.hid hcut
  have n0 : ¬ n = 0 := by omega
  have n1 : ¬ n = 1 := by omega
  clear hfirst hrest hpair hcut hs hA hB hlo lt1 lt2 hnl hh ih
  go_enter Tryd.func36, Tryd.ntmps36
  go_upto_region 1 with (fail)
  refine gen_world (P := fun W => Code.wp _ _ _ _ W) (I := fun W => Below w.heap.size w W ∧ Has W w.heap.size 26 (arr32 [])) _ ⟨(Below.refl _ w).alloc (Nat.le_refl _) _, Has.fresh_at _ _ _ _ rfl⟩ ?_
  rintro W ⟨hBW, hRW⟩
  have HB := Lib.hid hBW
  have HR := Lib.hid hRW
  clear hBW hRW
  have hhc : ¬ c = h := by omega
  have hhc2 : h ≤ c := by omega
  have hhn : h ≤ n := by omega
  go_upto_region 6 with (go_at_call 71; (with_reducible refine (HK.out _).mono ?_); rintro e w1 ⟨rfl, rfl⟩)
  change Code.wp _ (Code.region 6 listOps true) _ _ _
  refine wp_region_held (S := fun V => Below w.heap.size w V) (by kernel_rfl) ?_
  have hsz : listOps.size = 10 := by kernel_rfl
  rw [hsz]
  clear hsz
  refine gen_world (P := fun W' => wpAnyH _ _ _ _ _ _ _ _ W') (I := fun V => Below w.heap.size w V ∧ Has V w.heap.size 26 (arr32 [])) _ ⟨HB.out.drew, HR.out.drew⟩ ?_
  rintro V ⟨hBV, hRV⟩
  have HB0 := Lib.hid hBV
  have HR0 := Lib.hid hRV
  clear hBV hRV HB HR
  refine wpAnyH_take (i := 0) (oi := ⟨some 19, _, _, _, _, _⟩) (v := .slice (some ⟨g, off, none⟩) n c) rfl (by kernel_rfl) (by kernel_rfl) (by kernel_rfl) (fun _ _ _ h => h) (Or.inl ⟨by rfl, fun w' hw' => by go_simp⟩) HB0.out ?_
  try simp only [Act.put, List.setIfInBounds_toArray, List.set_cons_succ, List.set_cons_zero]
  refine wpAnyH_take (i := 1) (oi := ⟨some 20, _, _, _, _, _⟩) (v := .int .i64 (h : Int)) rfl (by kernel_rfl) (by kernel_rfl) (by kernel_rfl) (fun _ _ _ h => h) (Or.inl ⟨by rfl, fun w' hw' => by go_simp⟩) HB0.out ?_
  try simp only [Act.put, List.setIfInBounds_toArray, List.set_cons_succ, List.set_cons_zero]
  refine wpAnyH_take (i := 2) (oi := ⟨some 21, _, _, _, _, _⟩) (v := .slice (some ⟨g, off, none⟩) h c) rfl (by kernel_rfl) (by kernel_rfl) (by kernel_rfl) (fun _ _ _ h => h) (Or.inl ⟨by rfl, fun w' hw' => by go_simp⟩) HB0.out ?_
  try simp only [Act.put, List.setIfInBounds_toArray, List.set_cons_succ, List.set_cons_zero]
  refine wpAnyH_take (i := 4) (oi := ⟨some 23, _, _, _, _, _⟩) (v := .slice (some ⟨g, off, none⟩) n c) rfl (by kernel_rfl) (by kernel_rfl) (by kernel_rfl) (fun _ _ _ h => h) (Or.inl ⟨by rfl, fun w' hw' => by go_simp⟩) HB0.out ?_
  try simp only [Act.put, List.setIfInBounds_toArray, List.set_cons_succ, List.set_cons_zero]
  refine wpAnyH_take (i := 5) (oi := ⟨some 24, _, _, _, _, _⟩) (v := .int .i64 (h : Int)) rfl (by kernel_rfl) (by kernel_rfl) (by kernel_rfl) (fun _ _ _ h => h) (Or.inl ⟨by rfl, fun w' hw' => by go_simp⟩) HB0.out ?_
  try simp only [Act.put, List.setIfInBounds_toArray, List.set_cons_succ, List.set_cons_zero]
  refine wpAnyH_take (i := 6) (oi := ⟨some 25, _, _, _, _, _⟩) (v := .slice (some ⟨g, off + h * 32, none⟩) (n - h) (c - h)) rfl (by kernel_rfl) (by kernel_rfl) (by kernel_rfl) (fun _ _ _ h => h) (Or.inl ⟨by rfl, fun w' hw' => by go_simp⟩) HB0.out ?_
  try simp only [Act.put, List.setIfInBounds_toArray, List.set_cons_succ, List.set_cons_zero]
  refine wpAnyH_all (rs := [3]) (by kernel_rfl) (by simp) ?_
  intro i hi
  obtain rfl : i = 3 := by simpa using hi
  clear hi
  refine wpOp_step (o := ⟨some 22, _, _, _, _, _⟩) rfl (fun K' hK' => ?_)
  rw [if_pos (show Region.wanted _ _ = true from rfl)]
  go_simp
  (with_reducible refine (HF.out _ HB0.out).mono ?_)
  rintro e v1 ⟨rfl, hal, hbx⟩
  have HB1 := Lib.hid (HB0.out.trans (hbx.mono HB0.out.size))
  have HR1 := Lib.hid (HR0.out.below hbx HR0.out.lt)
  clear hbx
  refine hK' _ _ ⟨HB1.out, ?_⟩
  clear hK' K'
  try simp only [Act.put, List.setIfInBounds_toArray, List.set_cons_succ, List.set_cons_zero]
  refine wpAnyH_all (rs := [7]) (by kernel_rfl) (by simp) ?_
  intro i hi
  obtain rfl : i = 7 := by simpa using hi
  clear hi
  refine wpOp_step (o := ⟨some 26, _, _, _, _, _⟩) rfl (fun K' hK' => ?_)
  rw [if_pos (show Region.wanted _ _ = true from rfl)]
  go_simp
  (with_reducible refine (HS.out _ HB1.out).mono ?_)
  rintro e v2 ⟨rfl, hbl, hbx⟩
  have HB2 := Lib.hid (HB1.out.trans (hbx.mono HB1.out.size))
  have HR2 := Lib.hid (HR1.out.below hbx HR1.out.lt)
  clear hbx
  refine hK' _ _ ⟨HB2.out, ?_⟩
  clear hK' K'
  try simp only [Act.put, List.setIfInBounds_toArray, List.set_cons_succ, List.set_cons_zero]
  refine wpAnyH_all (rs := [8]) (by kernel_rfl) (by simp) ?_
  intro i hi
  obtain rfl : i = 8 := by simpa using hi
  clear hi
  refine wpOp_step (o := ⟨some 27, _, _, _, _, _⟩) rfl (fun K' hK' => ?_)
  rw [if_pos (show Region.wanted _ _ = true from rfl)]
  go_simp
  (with_reducible refine (HP.out _ HB2.out hal hbl).mono ?_)
  rintro e v3 ⟨rfl, hol, hbx⟩
  have HB4 := Lib.hid (HB2.out.trans (hbx.mono HB2.out.size))
  have HR4 := Lib.hid (HR2.out.below hbx HR2.out.lt)
  clear hbx
  refine hK' _ _ ⟨HB4.out, ?_⟩
  clear hK' K'
  try simp only [Act.put, List.setIfInBounds_toArray, List.set_cons_succ, List.set_cons_zero]
  have HI32 := Lib.hid (arr32_info out (by omega))
  have HS32 := Lib.hid ((arr32_size [] (by simp)).trans (arr32_size out (by omega)).symm)
  refine wpAnyH_all (rs := [9]) (by kernel_rfl) (by simp) ?_
  intro i hi
  obtain rfl : i = 9 := by simpa using hi
  clear hi
  refine wpOp_step (o := ⟨none, _, _, _, _, _⟩) rfl (fun K' hK' => ?_)
  rw [if_pos (show Region.wanted _ _ = true from rfl)]
  refine opw_store w.heap.size (arr32 out) _ _ HR4.out HS32.out HI32.out (arr32_one _) rfl rfl ?_
  refine hK' _ _ ⟨below_setRow HB4.out (Nat.le_refl _) _, ?_⟩
  clear hK' K'
  try simp only [Act.put, List.setIfInBounds_toArray, List.set_cons_succ, List.set_cons_zero]
  refine wpAnyH_done (by kernel_rfl) ?_ _
  go_wp2
  exact bodyPost_ret (results_cell_row (P := Tryd.prog) rfl _ _ w.heap.size 26 (arr32 out) (0, 0) _ rfl HR4.out.setRow Tryd.underlying26 rfl HI32.out) rfl ⟨rfl, hol, below_setRow HB4.out (Nat.le_refl _) _⟩
theorem refList_any : ∀ (f : Nat), RefListOk f
  | 0 => fun _ _ _ _ _ h _ _ _ _ _ _ _ _ => absurd h (Nat.not_lt_zero _)
  | f + 1 => fun ls g off c w hf hp hnc hcm hn hs hg out hout => by
    match ls, hf, hp, hnc, hn, hs, hout with
    | [], _, hp, _, _, _, _ => exact absurd hp (Nat.lt_irrefl _)
    | [x], _, _, h1, _, hs, hout => exact refList_one x g off c w hs hg hcm h1 out (Lib.hid (hout.out.trans (by rw [listOf])))
    | x :: y :: r, hf, _, hnc, hn, hs, hout => exact refList_step f (refList_any f) (x :: y :: r) _ rfl (by simp) g off c w hf hnc hcm hn hs hg out (hout.out.trans (by rw [listOf]; exact Eq.refl _))
end Go.Proofs.YtffdkniahdekjaaDoor
end
section
namespace Go.Proofs.YtffdkniahdekjaaDoor
open Go.RowKit Go.Hoar
theorem listAll_any (ls : List (List Nat)) (V : World) (a : Option Addr) (c : Nat) (hr : RowOk V a c ls) (hn : ls.length ≤ 1073741824) (hc : ConstAt V) :
    Calls Tryd.prog 33 #[.slice a ls.length c] V fun e w' => e = .returned (.agg (arr32 (listOf (ls.length + 1) ls))) ∧ (listOf (ls.length + 1) ls).length = 32 ∧ Below V.heap.size V w' := by
  rcases hr with ⟨rfl, rfl, rfl⟩ | ⟨g, off, rfl, hg, hs, hc1, hm⟩
  · exact list_none none 0 V hc _ (Lib.hid (by rw [listOf]))
  · rcases Nat.eq_zero_or_pos ls.length with h0 | hp
    · obtain rfl := List.length_eq_zero_iff.1 h0
      exact list_none _ c V hc _ (Lib.hid (by rw [listOf]))
    · exact list_any (ls.length + 1) ls g off c V (Nat.lt_succ_self _) hp hc1 hm (by omega) hs hg hc _ (Lib.hid rfl)
theorem refListAll_any (ls : List (List Nat)) (V : World) (a : Option Addr) (c : Nat) (hr : RowOk V a c ls) (hn : ls.length ≤ 1073741824) :
    Calls Tryd.prog 36 #[.slice a ls.length c] V fun e w' => e = .returned (.agg (arr32 (listOf (ls.length + 1) ls))) ∧ (listOf (ls.length + 1) ls).length = 32 ∧ Below V.heap.size V w' := by
  rcases hr with ⟨rfl, rfl, rfl⟩ | ⟨g, off, rfl, hg, hs, hc1, hm⟩
  · exact refList_none none 0 V _ (Lib.hid (by rw [listOf]))
  · rcases Nat.eq_zero_or_pos ls.length with h0 | hp
    · obtain rfl := List.length_eq_zero_iff.1 h0
      exact refList_none _ c V _ (Lib.hid (by rw [listOf]))
    · exact refList_any (ls.length + 1) ls g off c V (Nat.lt_succ_self _) hp hc1 hm (by omega) hs hg _ (Lib.hid rfl)
theorem zero32_all : ((Value.agg zero32).cells.all fun x => x.oneCell') = true := by
  first | rfl | simp [Value.cells, zero32, Value.oneCell']
/-- slices.Equal of a list with itself. -/
theorem sumsEqual_same (ls : List (List Nat)) (hok : SumsOk ls) (hn : ls.length ≤ 1000000) (a b : Option Addr) (c d : Nat) (w : World) (ha : RowOk w a c ls) (hb : RowOk w b d ls) :
    Calls Tryd.prog 37 #[.slice a ls.length c, .slice b ls.length d] w fun e w' => e = .returned (.bool true) ∧ Below w.heap.size w w' := by
  refine (sumsEqual_any ls ls hok hok a b c d w ha hb hn hn).mono ?_
  rintro e w' ⟨rfl, q, rfl⟩
  exact ⟨by rw [decide_eq_true rfl], below_drewN (Below.refl _ _) _⟩
end Go.Proofs.YtffdkniahdekjaaDoor
end
