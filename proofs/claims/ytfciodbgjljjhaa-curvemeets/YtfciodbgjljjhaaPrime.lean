/- That 2^255 - 19 is a prime, and what follows: each number that is not 0 modulo it, to the power of it less 1, is 1. By certificates after Lucas and Pratt; no program in this text. -/
import Derived.Test.YtfciodbgjljjhaaNum
namespace Go.Proofs.Ytfciodbgjljjhaa

def IsP (n : Nat) : Prop := 1 < n ∧ ∀ d, d ∣ n → d = 1 ∨ d = n

theorem isP_small (n B : Nat) (h1 : 1 < n) (hB : n < B * B) (h : ((List.range B).all fun d => decide (d < 2) || n % d != 0) = true) : IsP n := by
  refine ⟨h1, fun d hd => ?_⟩
  have no : ∀ d, 2 ≤ d → d < B → ¬ d ∣ n := fun d h2 h3 hdn => by
    have := List.all_eq_true.1 h d (List.mem_range.2 h3)
    simp only [Bool.or_eq_true, decide_eq_true_eq, bne_iff_ne, ne_eq] at this
    rcases this with h | h
    · omega
    · exact h (Nat.mod_eq_zero_of_dvd hdn)
  obtain ⟨e, he⟩ := hd
  by_cases hd1 : d = 1
  · exact Or.inl hd1
  · right
    by_cases he1 : e = 1
    · rw [he, he1, Nat.mul_one]
    · exfalso
      have hd0 : d ≠ 0 := fun h0 => by rw [h0, Nat.zero_mul] at he; omega
      have he0 : e ≠ 0 := fun h0 => by rw [h0, Nat.mul_zero] at he; omega
      have d1 : B ≤ d := by
        rcases Nat.lt_or_ge d B with h' | h'
        · exact (no d (by omega) h' ⟨e, he⟩).elim
        · exact h'
      have e1 : B ≤ e := by
        rcases Nat.lt_or_ge e B with h' | h'
        · exact (no e (by omega) h' ⟨d, by rw [he, Nat.mul_comm]⟩).elim
        · exact h'
      have := Nat.mul_le_mul d1 e1
      omega

/-- A power modulo n, a bit a step. -/
def pm (n : Nat) : Nat → Nat → Nat → Nat
  | 0, _, _ => 1 % n
  | f + 1, g, e => if e % 2 = 1 then g * pm n f (g * g % n) (e / 2) % n else pm n f (g * g % n) (e / 2)
theorem pow_mod_mod (a k n : Nat) : (a % n) ^ k % n = a ^ k % n := (Nat.pow_mod a k n).symm
theorem pm_eq (n : Nat) : ∀ (f g e : Nat), e < 2 ^ f → pm n f g e = g ^ e % n
  | 0, g, e, h => by
    have : e = 0 := by simpa using h
    subst this
    simp [pm]
  | f + 1, g, e, h => by
    have ih := pm_eq n f (g * g % n) (e / 2) (by rw [Nat.pow_succ] at h; omega)
    unfold pm
    rw [ih, pow_mod_mod]
    have e2 : (g * g) ^ (e / 2) = g ^ (2 * (e / 2)) := by rw [Nat.pow_mul, Nat.pow_two]
    rw [e2]
    split
    · rename_i h1
      rw [Nat.mul_mod_mod]
      have : e = 2 * (e / 2) + 1 := by omega
      conv => rhs; rw [this, Nat.pow_succ, Nat.mul_comm]
    · rename_i h1
      have : e = 2 * (e / 2) := by omega
      conv => rhs; rw [this]

theorem pig : ∀ (N : Nat) (f : Nat → Nat), (∀ i, i < N → f i < N) → (∀ i j, i < N → j < N → f i = f j → i = j) → ∀ y, y < N → ∃ i, i < N ∧ f i = y
  | 0, _, _, _, y, hy => by omega
  | N + 1, f, hf, hi, y, hy => by
    have h1 : ∀ i, i < N → (if f i = N then f N else f i) < N := fun i hiN => by
      have a := hf i (by omega)
      have b := hf N (by omega)
      split
      · rename_i e
        have : f N ≠ N := fun h => by have := hi i N (by omega) (by omega) (by rw [e, h]); omega
        omega
      · omega
    have h2 : ∀ i j, i < N → j < N → (if f i = N then f N else f i) = (if f j = N then f N else f j) → i = j := fun i j hiN hjN e => by
      by_cases ei : f i = N
      · by_cases ej : f j = N
        · exact hi i j (by omega) (by omega) (by rw [ei, ej])
        · rw [if_pos ei, if_neg ej] at e
          have := hi N j (by omega) (by omega) e
          omega
      · by_cases ej : f j = N
        · rw [if_neg ei, if_pos ej] at e
          have := hi i N (by omega) (by omega) e
          omega
        · rw [if_neg ei, if_neg ej] at e
          exact hi i j (by omega) (by omega) e
    have ih := pig N (fun i => if f i = N then f N else f i) h1 h2
    by_cases hya : f N = y
    · exact ⟨N, by omega, hya⟩
    · by_cases hyN : y = N
      · have hlt : f N < N := by have := hf N (by omega); omega
        obtain ⟨i, hiN, e⟩ := ih (f N) hlt
        by_cases ei : f i = N
        · exact ⟨i, by omega, by omega⟩
        · simp only [if_neg ei] at e
          have := hi i N (by omega) (by omega) e
          omega
      · obtain ⟨i, hiN, e⟩ := ih y (by omega)
        by_cases ei : f i = N
        · simp only [if_pos ei] at e
          exact (hya e).elim
        · simp only [if_neg ei] at e
          exact ⟨i, by omega, e⟩

theorem pow_one_mul {n a : Nat} (h1 : 1 < n) (h : a % n = 1) (k : Nat) : a ^ k % n = 1 := by
  rw [← pow_mod_mod, h, Nat.one_pow, Nat.mod_eq_of_lt h1]
theorem pow_gcd {n g : Nat} (h1 : 1 < n) (a b : Nat) : g ^ a % n = 1 → g ^ b % n = 1 → g ^ (Nat.gcd a b) % n = 1 := by
  induction a, b using Nat.gcd.induction with
  | H0 b => intro _ h; simpa using h
  | H1 a b _ ih =>
    intro ha hb
    rw [Nat.gcd_rec]
    refine ih ?_ ha
    have e : b = a * (b / a) + b % a := (Nat.div_add_mod b a).symm
    rw [e, Nat.pow_add, Nat.mul_mod, Nat.pow_mul, pow_one_mul h1 ha, Nat.one_mul, Nat.mod_mod] at hb
    exact hb

def prodOf : List (Nat × Nat) → Nat
  | [] => 1
  | x :: l => x.1 ^ x.2 * prodOf l

theorem coprime_of {q m : Nat} (hq : IsP q) (h : ¬ q ∣ m) : Nat.Coprime m q := by
  rcases hq.2 _ (Nat.gcd_dvd_right m q) with e | e
  · exact e
  · exact (h (e ▸ Nat.gcd_dvd_left m q)).elim
theorem coprime_prod {m : Nat} : ∀ fs : List (Nat × Nat), (∀ x ∈ fs, Nat.Coprime m x.1) → Nat.Coprime m (prodOf fs)
  | [], _ => Nat.coprime_one_right m
  | x :: l, h => Nat.Coprime.mul_right (Nat.Coprime.pow_right _ (h x (by simp))) (coprime_prod l fun y hy => h y (by simp [hy]))

/-- Lucas: with such a g, n is a prime, and each number below it, to the power of n - 1, is 1. -/
theorem lucas (n g : Nat) (hn : 2 < n) (fs : List (Nat × Nat)) (hprod : n - 1 = prodOf fs) (hp : ∀ x ∈ fs, IsP x.1) (h1 : g ^ (n - 1) % n = 1) (hq : ∀ x ∈ fs, g ^ ((n - 1) / x.1) % n ≠ 1) :
    IsP n ∧ ∀ x, 0 < x → x < n → x ^ (n - 1) % n = 1 := by
  have c1 : ∀ k, 0 < k → k < n - 1 → g ^ k % n ≠ 1 := fun k k0 k1 hk => by
    have hd := pow_gcd (by omega) k (n - 1) hk h1
    obtain ⟨m, hm⟩ := Nat.gcd_dvd_right k (n - 1)
    have hle : Nat.gcd k (n - 1) ≤ k := Nat.gcd_le_left _ k0
    generalize Nat.gcd k (n - 1) = d at *
    have hm1 : m ≠ 1 := fun h => by rw [h, Nat.mul_one] at hm; omega
    have cop : Nat.Coprime m (n - 1) := by
      rw [hprod]
      refine coprime_prod fs fun x hx => coprime_of (hp x hx) fun ⟨j, hj⟩ => hq x hx ?_
      have hx0 : 0 < x.1 := Nat.lt_trans Nat.zero_lt_one (hp x hx).1
      have : (n - 1) / x.1 = d * j := by
        rw [hm, hj, ← Nat.mul_assoc, Nat.mul_comm d x.1, Nat.mul_assoc, Nat.mul_div_cancel_left _ hx0]
      rw [this, Nat.pow_mul]
      exact pow_one_mul (by omega) hd j
    have : Nat.gcd m (n - 1) = m := Nat.gcd_eq_left ⟨d, by rw [hm, Nat.mul_comm]⟩
    exact hm1 (this.symm.trans cop)
  have inv : ∀ i, i ≤ n - 1 → g ^ i % n * (g ^ (n - 1 - i) % n) % n = 1 := fun i hi => by
    rw [← Nat.mul_mod, ← Nat.pow_add, show i + (n - 1 - i) = n - 1 by omega, h1]
  have pos : ∀ i, i ≤ n - 1 → 0 < g ^ i % n := fun i hi => by
    rcases Nat.eq_zero_or_pos (g ^ i % n) with h | h
    · have := inv i hi; rw [h, Nat.zero_mul, Nat.zero_mod] at this; omega
    · exact h
  have inj : ∀ i j, i < j → j < n - 1 → g ^ i % n ≠ g ^ j % n := fun i j hij hj e => by
    have a := inv i (by omega)
    rw [e, ← Nat.mul_mod, ← Nat.pow_add, show j + (n - 1 - i) = (n - 1) + (j - i) by omega, Nat.pow_add, Nat.mul_mod, h1, Nat.one_mul, Nat.mod_mod] at a
    exact c1 (j - i) (by omega) (by omega) a
  have sur : ∀ x, 0 < x → x < n → ∃ i, i < n - 1 ∧ g ^ i % n = x := fun x h0 hx => by
    obtain ⟨i, hi, e⟩ := pig (n - 1) (fun i => g ^ i % n - 1) (fun i hi => by
        have := Nat.mod_lt (g ^ i) (show 0 < n by omega)
        have := pos i (by omega)
        omega) (fun i j hi hj e => by
        have p1 := pos i (by omega)
        have p2 := pos j (by omega)
        have e' : g ^ i % n = g ^ j % n := by
          have : g ^ i % n - 1 = g ^ j % n - 1 := e
          omega
        rcases Nat.lt_trichotomy i j with h | h | h
        · exact (inj i j h hj e').elim
        · exact h
        · exact (inj j i h hi e'.symm).elim) (x - 1) (by omega)
    have := pos i (by omega)
    have e' : g ^ i % n - 1 = x - 1 := e
    exact ⟨i, hi, by omega⟩
  refine ⟨⟨by omega, fun d hd => ?_⟩, fun x h0 hx => ?_⟩
  · by_cases hdn : d = n
    · exact Or.inr hdn
    · left
      have hle := Nat.le_of_dvd (by omega) hd
      have hd0 : 0 < d := Nat.pos_of_dvd_of_pos hd (by omega)
      obtain ⟨i, hi, e⟩ := sur d hd0 (by omega)
      have a := inv i (by omega)
      rw [e] at a
      have hdv : d ∣ d * (g ^ (n - 1 - i) % n) % n := (Nat.dvd_mod_iff hd).2 ⟨_, rfl⟩
      rw [a] at hdv
      exact Nat.dvd_one.1 hdv
  · obtain ⟨i, hi, e⟩ := sur x h0 hx
    rw [← e, pow_mod_mod, ← Nat.pow_mul, Nat.mul_comm, Nat.pow_mul]
    exact pow_one_mul (by omega) h1 i

/-- The same, asked by reckoning. -/
theorem lucas_pm (n g f : Nat) (hn : 2 < n) (hf : n < 2 ^ f) (fs : List (Nat × Nat)) (hprod : n - 1 = prodOf fs) (hp : ∀ x ∈ fs, IsP x.1) (h1 : pm n f g (n - 1) = 1) (hq : (fs.all fun x => pm n f g ((n - 1) / x.1) != 1) = true) :
    IsP n ∧ ∀ x, 0 < x → x < n → x ^ (n - 1) % n = 1 := by
  refine lucas n g hn fs hprod hp (by rw [← pm_eq n f g (n - 1) (by omega)]; exact h1) fun x hx => ?_
  have := List.all_eq_true.1 hq x hx
  rw [← pm_eq n f g ((n - 1) / x.1) (Nat.lt_of_le_of_lt (Nat.div_le_self _ _) (by omega))]
  simpa using this

theorem prime2 : IsP 2 := isP_small 2 2 (by decide) (by decide) (by decide +kernel)
theorem prime3 : IsP 3 := isP_small 3 2 (by decide) (by decide) (by decide +kernel)
theorem prime5 : IsP 5 := isP_small 5 3 (by decide) (by decide) (by decide +kernel)
theorem prime7 : IsP 7 := isP_small 7 3 (by decide) (by decide) (by decide +kernel)
theorem prime13 : IsP 13 := isP_small 13 4 (by decide) (by decide) (by decide +kernel)
theorem prime17 : IsP 17 := isP_small 17 5 (by decide) (by decide) (by decide +kernel)
theorem prime19 : IsP 19 := isP_small 19 5 (by decide) (by decide) (by decide +kernel)
theorem prime23 : IsP 23 := isP_small 23 5 (by decide) (by decide) (by decide +kernel)
theorem prime29 : IsP 29 := isP_small 29 6 (by decide) (by decide) (by decide +kernel)
theorem prime31 : IsP 31 := isP_small 31 6 (by decide) (by decide) (by decide +kernel)
theorem prime41 : IsP 41 := isP_small 41 7 (by decide) (by decide) (by decide +kernel)
theorem prime43 : IsP 43 := isP_small 43 7 (by decide) (by decide) (by decide +kernel)
theorem prime47 : IsP 47 := isP_small 47 7 (by decide) (by decide) (by decide +kernel)
theorem prime59 : IsP 59 := isP_small 59 8 (by decide) (by decide) (by decide +kernel)
theorem prime83 : IsP 83 := isP_small 83 10 (by decide) (by decide) (by decide +kernel)
theorem prime97 : IsP 97 := isP_small 97 10 (by decide) (by decide) (by decide +kernel)
theorem prime103 : IsP 103 := isP_small 103 11 (by decide) (by decide) (by decide +kernel)
theorem prime107 : IsP 107 := isP_small 107 11 (by decide) (by decide) (by decide +kernel)
theorem prime127 : IsP 127 := isP_small 127 12 (by decide) (by decide) (by decide +kernel)
theorem prime131 : IsP 131 := isP_small 131 12 (by decide) (by decide) (by decide +kernel)
theorem prime173 : IsP 173 := isP_small 173 14 (by decide) (by decide) (by decide +kernel)
theorem prime223 : IsP 223 := isP_small 223 15 (by decide) (by decide) (by decide +kernel)
theorem prime353 : IsP 353 := isP_small 353 19 (by decide) (by decide) (by decide +kernel)
theorem prime419 : IsP 419 := isP_small 419 21 (by decide) (by decide) (by decide +kernel)
theorem prime479 : IsP 479 := isP_small 479 22 (by decide) (by decide) (by decide +kernel)
theorem prime487 : IsP 487 := isP_small 487 23 (by decide) (by decide) (by decide +kernel)
theorem prime991 : IsP 991 := isP_small 991 32 (by decide) (by decide) (by decide +kernel)
theorem prime1723 : IsP 1723 := isP_small 1723 42 (by decide) (by decide) (by decide +kernel)
theorem prime2437 : IsP 2437 := isP_small 2437 50 (by decide) (by decide) (by decide +kernel)
theorem prime3727 : IsP 3727 := isP_small 3727 62 (by decide) (by decide) (by decide +kernel)
theorem prime4153 : IsP 4153 := isP_small 4153 65 (by decide) (by decide) (by decide +kernel)
theorem prime9463 : IsP 9463 := isP_small 9463 98 (by decide) (by decide) (by decide +kernel)
theorem prime32573 : IsP 32573 := isP_small 32573 181 (by decide) (by decide) (by decide +kernel)
theorem prime37853 : IsP 37853 := isP_small 37853 195 (by decide) (by decide) (by decide +kernel)
theorem prime57467 : IsP 57467 := isP_small 57467 240 (by decide) (by decide) (by decide +kernel)
theorem prime65147 : IsP 65147 := isP_small 65147 256 (by decide) (by decide) (by decide +kernel)
theorem prime75707 : IsP 75707 := isP_small 75707 276 (by decide) (by decide) (by decide +kernel)
theorem prime132049 : IsP 132049 := isP_small 132049 364 (by decide) (by decide) (by decide +kernel)
theorem prime430751 : IsP 430751 := isP_small 430751 657 (by decide) (by decide) (by decide +kernel)
theorem prime569003 : IsP 569003 := isP_small 569003 755 (by decide) (by decide) (by decide +kernel)
theorem prime1923133 : IsP 1923133 := isP_small 1923133 1387 (by decide) (by decide) (by decide +kernel)
theorem prime31757755568855353 : IsP 31757755568855353 :=
  (lucas_pm 31757755568855353 10 56 (by decide +kernel) (by decide +kernel) [(2, 3), (3, 1), (31, 1), (107, 1), (223, 1), (4153, 1), (430751, 1)] (by decide +kernel) (fun x hx => by
    simp only [List.mem_cons, List.not_mem_nil, or_false] at hx
    rcases hx with rfl | rfl | rfl | rfl | rfl | rfl | rfl
    all_goals first | exact prime2 | exact prime3 | exact prime31 | exact prime107 | exact prime223 | exact prime4153 | exact prime430751) (by decide +kernel) (by decide +kernel)).1
theorem prime2773320623 : IsP 2773320623 :=
  (lucas_pm 2773320623 5 33 (by decide +kernel) (by decide +kernel) [(2, 1), (2437, 1), (569003, 1)] (by decide +kernel) (fun x hx => by
    simp only [List.mem_cons, List.not_mem_nil, or_false] at hx
    rcases hx with rfl | rfl | rfl
    all_goals first | exact prime2 | exact prime2437 | exact prime569003) (by decide +kernel) (by decide +kernel)).1
theorem prime72106336199 : IsP 72106336199 :=
  (lucas_pm 72106336199 7 38 (by decide +kernel) (by decide +kernel) [(2, 1), (13, 1), (2773320623, 1)] (by decide +kernel) (fun x hx => by
    simp only [List.mem_cons, List.not_mem_nil, or_false] at hx
    rcases hx with rfl | rfl | rfl
    all_goals first | exact prime2 | exact prime13 | exact prime2773320623) (by decide +kernel) (by decide +kernel)).1
theorem prime8574133 : IsP 8574133 :=
  (lucas_pm 8574133 2 25 (by decide +kernel) (by decide +kernel) [(2, 2), (3, 1), (7, 1), (103, 1), (991, 1)] (by decide +kernel) (fun x hx => by
    simp only [List.mem_cons, List.not_mem_nil, or_false] at hx
    rcases hx with rfl | rfl | rfl | rfl | rfl
    all_goals first | exact prime2 | exact prime3 | exact prime7 | exact prime103 | exact prime991) (by decide +kernel) (by decide +kernel)).1
theorem prime1919519569386763 : IsP 1919519569386763 :=
  (lucas_pm 1919519569386763 2 52 (by decide +kernel) (by decide +kernel) [(2, 1), (3, 1), (7, 1), (19, 1), (47, 2), (127, 1), (8574133, 1)] (by decide +kernel) (fun x hx => by
    simp only [List.mem_cons, List.not_mem_nil, or_false] at hx
    rcases hx with rfl | rfl | rfl | rfl | rfl | rfl | rfl
    all_goals first | exact prime2 | exact prime3 | exact prime7 | exact prime19 | exact prime47 | exact prime127 | exact prime8574133) (by decide +kernel) (by decide +kernel)).1
theorem prime75445702479781427272750846543864801 : IsP 75445702479781427272750846543864801 :=
  (lucas_pm 75445702479781427272750846543864801 7 117 (by decide +kernel) (by decide +kernel) [(2, 5), (3, 2), (5, 2), (75707, 1), (72106336199, 1), (1919519569386763, 1)] (by decide +kernel) (fun x hx => by
    simp only [List.mem_cons, List.not_mem_nil, or_false] at hx
    rcases hx with rfl | rfl | rfl | rfl | rfl | rfl
    all_goals first | exact prime2 | exact prime3 | exact prime5 | exact prime75707 | exact prime72106336199 | exact prime1919519569386763) (by decide +kernel) (by decide +kernel)).1
theorem prime74058212732561358302231226437062788676166966415465897661863160754340907 : IsP 74058212732561358302231226437062788676166966415465897661863160754340907 :=
  (lucas_pm 74058212732561358302231226437062788676166966415465897661863160754340907 2 237 (by decide +kernel) (by decide +kernel) [(2, 1), (3, 1), (353, 1), (57467, 1), (132049, 1), (1923133, 1), (31757755568855353, 1), (75445702479781427272750846543864801, 1)] (by decide +kernel) (fun x hx => by
    simp only [List.mem_cons, List.not_mem_nil, or_false] at hx
    rcases hx with rfl | rfl | rfl | rfl | rfl | rfl | rfl | rfl
    all_goals first | exact prime2 | exact prime3 | exact prime353 | exact prime57467 | exact prime132049 | exact prime1923133 | exact prime31757755568855353 | exact prime75445702479781427272750846543864801) (by decide +kernel) (by decide +kernel)).1
theorem pN_lucas : IsP pN ∧ ∀ x, 0 < x → x < pN → x ^ (pN - 1) % pN = 1 :=
  (lucas_pm pN 2 256 (by decide +kernel) (by decide +kernel) [(2, 2), (3, 1), (65147, 1), (74058212732561358302231226437062788676166966415465897661863160754340907, 1)] (by decide +kernel) (fun x hx => by
    simp only [List.mem_cons, List.not_mem_nil, or_false] at hx
    rcases hx with rfl | rfl | rfl | rfl
    all_goals first | exact prime2 | exact prime3 | exact prime65147 | exact prime74058212732561358302231226437062788676166966415465897661863160754340907) (by decide +kernel) (by decide +kernel))
end Go.Proofs.Ytfciodbgjljjhaa
