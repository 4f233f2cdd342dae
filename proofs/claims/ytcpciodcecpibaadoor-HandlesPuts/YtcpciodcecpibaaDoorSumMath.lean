/- The sum of bytes (a step on 32 bits, eight times a byte) as plain mathematics: it goes with exclusive or, and turns nothing but 0 into 0. Nothing of the program. -/
import Derived.Test.YtcpciodcecpibaaDoorBytes
namespace Go.Proofs.YtcpciodcecpibaaDoor
set_option linter.unusedVariables false

/-- One step: the lowest bit goes out, and takes the rest against a number. -/
def sm1 (x : Nat) : Nat := x / 2 ^^^ (if x % 2 = 1 then 3988292384 else 0)

/-- So many steps. -/
def smN : Nat → Nat → Nat
  | 0, x => x
  | n + 1, x => smN n (sm1 x)

/-- Bytes taken, from a number on. -/
def smF (x : Nat) (cs : List Nat) : Nat := cs.foldl (fun y c => smN 8 (y ^^^ c)) x

/-- Bytes as a number, the lowest first, by exclusive or. -/
def lo : List Nat → Nat
  | [] => 0
  | c :: cs => c ^^^ 256 * lo cs

theorem smN_zero (x : Nat) : smN 0 x = x := rfl
theorem smN_succ (n x : Nat) : smN (n + 1) x = smN n (sm1 x) := rfl
theorem smN_add (m n x : Nat) : smN (m + n) x = smN n (smN m x) := by
  induction m generalizing x with
  | zero => simp [smN]
  | succ m ih => rw [show m + 1 + n = (m + n) + 1 from by omega, smN_succ, smN_succ, ih]

theorem smN_snoc (n x : Nat) : smN (n + 1) x = sm1 (smN n x) := by rw [smN_add]; rfl

theorem sm1_lt {x : Nat} (h : x < 4294967296) : sm1 x < 4294967296 := by
  unfold sm1
  refine Nat.xor_lt_two_pow (n := 32) (by omega) ?_
  split <;> omega

theorem smN_lt (n : Nat) {x : Nat} (h : x < 4294967296) : smN n x < 4294967296 := by
  induction n generalizing x with
  | zero => exact h
  | succ n ih => exact ih (sm1_lt h)

theorem xor_div2 (a b : Nat) : (a ^^^ b) / 2 = a / 2 ^^^ b / 2 := by
  simpa using Nat.xor_div_two_pow (n := 1) (a := a) (b := b)

theorem xor_mod2 (a b : Nat) : (a ^^^ b) % 2 = (a % 2 + b % 2) % 2 := by
  have := Nat.xor_mod_two_pow (n := 1) (a := a) (b := b)
  simp only [Nat.pow_one] at this
  rw [this]
  rcases Nat.mod_two_eq_zero_or_one a with h | h <;> rcases Nat.mod_two_eq_zero_or_one b with k | k <;> rw [h, k] <;> rfl

theorem xor_none {a b : Nat} (h : a ^^^ b = 0) : a = b := by
  have : a ^^^ b ^^^ b = b := by rw [h, Nat.zero_xor]
  rwa [Nat.xor_assoc, Nat.xor_self, Nat.xor_zero] at this

theorem sm1_xor (a b : Nat) : sm1 (a ^^^ b) = sm1 a ^^^ sm1 b := by
  unfold sm1
  rw [xor_div2, xor_mod2]
  generalize a / 2 = x
  generalize b / 2 = y
  rcases Nat.mod_two_eq_zero_or_one a with h | h <;> rcases Nat.mod_two_eq_zero_or_one b with k | k <;> rw [h, k] <;> simp only [Nat.reduceAdd, Nat.reduceMod, if_true, if_false, Nat.xor_zero, Nat.zero_ne_one]
  · rw [Nat.xor_assoc]
  · rw [Nat.xor_assoc, Nat.xor_assoc, Nat.xor_comm y]
  · rw [Nat.xor_assoc, ← Nat.xor_assoc 3988292384, Nat.xor_comm 3988292384 y, Nat.xor_assoc y, Nat.xor_self, Nat.xor_zero]

theorem smN_xor (n a b : Nat) : smN n (a ^^^ b) = smN n a ^^^ smN n b := by
  induction n generalizing a b with
  | zero => rfl
  | succ n ih => rw [smN_succ, sm1_xor, ih]; rfl

theorem sm1_even (y : Nat) : sm1 (2 * y) = y := by
  unfold sm1
  have h1 : 2 * y / 2 = y := by omega
  have h2 : 2 * y % 2 = 0 := by omega
  rw [h1, h2]
  simp

theorem smN_shift (n y : Nat) : smN n (2 ^ n * y) = y := by
  induction n with
  | zero => simp [smN]
  | succ n ih => rw [smN_succ, Nat.pow_succ, show 2 ^ n * 2 * y = 2 * (2 ^ n * y) from by rw [Nat.mul_comm (2 ^ n) 2, Nat.mul_assoc], sm1_even, ih]

theorem sm8 (y : Nat) : smN 8 (256 * y) = y := smN_shift 8 y

theorem sm1_none {x : Nat} (h : x < 4294967296) (h0 : sm1 x = 0) : x = 0 := by
  unfold sm1 at h0
  rcases Nat.mod_two_eq_zero_or_one x with k | k
  · rw [if_neg (by omega), Nat.xor_zero] at h0
    omega
  · rw [if_pos k] at h0
    have := xor_none h0
    omega

theorem smN_none (n : Nat) {x : Nat} (h : x < 4294967296) (h0 : smN n x = 0) : x = 0 := by
  induction n generalizing x with
  | zero => exact h0
  | succ n ih => exact sm1_none h (ih (sm1_lt h) h0)

theorem smN_inj (n : Nat) {x y : Nat} (hx : x < 4294967296) (hy : y < 4294967296) (h : smN n x = smN n y) : x = y := by
  refine xor_none (smN_none n (Nat.xor_lt_two_pow (n := 32) hx hy) ?_)
  rw [smN_xor, h, Nat.xor_self]

/-- Bytes taken one by one are taken all at once. -/
theorem smF_lo (cs : List Nat) : ∀ x, smF x cs = smN (8 * cs.length) (x ^^^ lo cs) := by
  induction cs with
  | nil => intro x; simp [smF, lo, smN]
  | cons c cs ih =>
    intro x
    show smF (smN 8 (x ^^^ c)) cs = _
    rw [ih, List.length_cons, show 8 * (cs.length + 1) = 8 + 8 * cs.length from by omega, smN_add]
    congr 1
    rw [lo, ← Nat.xor_assoc, smN_xor _ (x ^^^ c), sm8]

theorem smF_append (x : Nat) (as bs : List Nat) : smF x (as ++ bs) = smF (smF x as) bs := by simp [smF]

theorem smF_lt {x : Nat} (h : x < 4294967296) (cs : List Nat) (hc : ∀ c ∈ cs, c < 256) : smF x cs < 4294967296 := by
  induction cs generalizing x with
  | nil => exact h
  | cons c cs ih =>
    have := hc c (by simp)
    exact ih (smN_lt 8 (Nat.xor_lt_two_pow (n := 32) h (by omega))) (fun d hd => hc d (by simp [hd]))

theorem smF_inj (cs : List Nat) (hc : ∀ c ∈ cs, c < 256) : ∀ {x y : Nat}, x < 4294967296 → y < 4294967296 → smF x cs = smF y cs → x = y := by
  induction cs with
  | nil => intro x y _ _ h; exact h
  | cons c cs ih =>
    intro x y hx hy h
    have hb := hc c (by simp)
    have h1 := ih (fun d hd => hc d (by simp [hd])) (smN_lt 8 (Nat.xor_lt_two_pow (n := 32) hx (by omega))) (smN_lt 8 (Nat.xor_lt_two_pow (n := 32) hy (by omega))) h
    have h2 := smN_inj 8 (Nat.xor_lt_two_pow (n := 32) hx (by omega)) (Nat.xor_lt_two_pow (n := 32) hy (by omega)) h1
    have h3 : x ^^^ c ^^^ c = y ^^^ c ^^^ c := by rw [h2]
    rwa [Nat.xor_assoc, Nat.xor_assoc, Nat.xor_self, Nat.xor_zero, Nat.xor_zero] at h3

theorem join_mod (c y : Nat) (h : c < 256) : (c ^^^ 256 * y) % 256 = c ∧ (c ^^^ 256 * y) / 256 = y := by
  have h1 := Nat.xor_mod_two_pow (n := 8) (a := c) (b := 256 * y)
  have h2 := Nat.xor_div_two_pow (n := 8) (a := c) (b := 256 * y)
  simp only [Nat.reducePow] at h1 h2
  rw [show 256 * y % 256 = 0 from by omega, Nat.mod_eq_of_lt h, Nat.xor_zero] at h1
  rw [show 256 * y / 256 = y from by omega, show c / 256 = 0 from by omega, Nat.zero_xor] at h2
  exact ⟨h1, h2⟩

theorem lo_inj (as : List Nat) : ∀ bs : List Nat, as.length = bs.length → (∀ c ∈ as, c < 256) → (∀ c ∈ bs, c < 256) → lo as = lo bs → as = bs := by
  induction as with
  | nil => intro bs h _ _ _; cases bs with | nil => rfl | cons b bs => simp at h
  | cons a as ih =>
    intro bs h ha hb he
    cases bs with
    | nil => simp at h
    | cons b bs =>
      obtain ⟨h1, h2⟩ := join_mod a (lo as) (ha a (by simp))
      obtain ⟨h3, h4⟩ := join_mod b (lo bs) (hb b (by simp))
      change a ^^^ 256 * lo as = b ^^^ 256 * lo bs at he
      rw [he] at h1 h2
      rw [ih bs (by simpa using h) (fun c hc => ha c (by simp [hc])) (fun c hc => hb c (by simp [hc])) (h2.symm.trans h4), h1.symm.trans h3]

theorem lo_lt (as : List Nat) (ha : ∀ c ∈ as, c < 256) : lo as < 2 ^ (8 * as.length) := by
  induction as with
  | nil => simp [lo]
  | cons a as ih =>
    have h1 := ih (fun c hc => ha c (by simp [hc]))
    have h2 := ha a (by simp)
    have e : 2 ^ (8 * (as.length + 1)) = 256 * 2 ^ (8 * as.length) := by rw [show 8 * (as.length + 1) = 8 + 8 * as.length from by omega, Nat.pow_add]
    rw [List.length_cons, lo]
    have hp : 0 < 2 ^ (8 * as.length) := Nat.pow_pos (by omega)
    refine Nat.xor_lt_two_pow ?_ (by omega)
    rw [e]
    omega

/-- Up to four bytes, from the same number on, that are taken alike are alike. -/
theorem smF_four {x : Nat} (hx : x < 4294967296) (as bs : List Nat) (h : as.length = bs.length) (h4 : as.length ≤ 4) (ha : ∀ c ∈ as, c < 256) (hb : ∀ c ∈ bs, c < 256) (he : smF x as = smF x bs) : as = bs := by
  have hp : 2 ^ (8 * as.length) ≤ 2 ^ 32 := Nat.pow_le_pow_right (by omega) (by omega)
  have l1 := lo_lt as ha
  have l2 := lo_lt bs hb
  rw [← h] at l2
  rw [smF_lo, smF_lo, ← h] at he
  have h1 := smN_inj _ (Nat.xor_lt_two_pow (n := 32) hx (by omega)) (Nat.xor_lt_two_pow (n := 32) hx (by omega)) he
  have h2 : x ^^^ (x ^^^ lo as) = x ^^^ (x ^^^ lo bs) := by rw [h1]
  rw [← Nat.xor_assoc, ← Nat.xor_assoc, Nat.xor_self, Nat.zero_xor, Nat.zero_xor] at h2
  exact lo_inj as bs h ha hb h2

/-- Bytes that part in up to four side by side alone are taken otherwise. -/
theorem smF_part {x : Nat} (hx : x < 4294967296) (p as bs q : List Nat) (h : as.length = bs.length) (h4 : as.length ≤ 4) (hp : ∀ c ∈ p, c < 256) (ha : ∀ c ∈ as, c < 256) (hb : ∀ c ∈ bs, c < 256) (hq : ∀ c ∈ q, c < 256)
    (he : smF x (p ++ (as ++ q)) = smF x (p ++ (bs ++ q))) : as = bs := by
  have hs := smF_lt hx p hp
  rw [smF_append, smF_append, smF_append, smF_append] at he
  exact smF_four hs as bs h h4 ha hb (smF_inj q hq (smF_lt hs as ha) (smF_lt hs bs hb) he)

/-- Four numbers that pair against one another: what is taken does, too. -/
theorem smF_pairs (x : Nat) (a b c d : List Nat) (h1 : a.length = b.length) (h2 : c.length = d.length) : smF x (a ++ c) ^^^ smF x (b ++ c) ^^^ smF x (a ++ d) ^^^ smF x (b ++ d) = 0 := by
  simp only [smF_append]
  rw [smF_lo a, smF_lo b, h1]
  simp only [smF_lo c, smF_lo d, h2]
  generalize smN (8 * b.length) (x ^^^ lo a) = A
  generalize smN (8 * b.length) (x ^^^ lo b) = B
  simp only [smN_xor]
  generalize smN (8 * d.length) A = A
  generalize smN (8 * d.length) B = B
  generalize smN (8 * d.length) (lo c) = C
  generalize smN (8 * d.length) (lo d) = D
  refine Nat.eq_of_testBit_eq fun i => ?_
  simp only [Nat.testBit_xor, Nat.zero_testBit]
  cases A.testBit i <;> cases B.testBit i <;> cases C.testBit i <;> cases D.testBit i <;> rfl
end Go.Proofs.YtcpciodcecpibaaDoor
