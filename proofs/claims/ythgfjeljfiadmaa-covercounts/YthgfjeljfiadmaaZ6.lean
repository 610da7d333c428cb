/- Several texts in one: Covers that meet: numbers. No program in this text. The library: strings.Clone; rows of texts; requests. Package drop: the groups. Package drop: Match. Package drop: Count. The law CoverCounts. -/
import Derived.Test.YthgfjeljfiadmaaZ5
import Derived.Test.YthgfjeljfiadmaaZ3
import Derived.Laws.StructEq
import Derived.Laws.Small
import Derived.Laws.BitsAllLaws
namespace Go.Proofs.Ythgfjeljfiadmaa
open Go.RowKit
theorem ifc {α : Type} {c d : Prop} [Decidable c] [Decidable d] (h : c ↔ d) (a b : α) : (if c then a else b) = if d then a else b := by
  by_cases hc : c
  · rw [if_pos hc, if_pos (h.1 hc)]
  · rw [if_neg hc, if_neg (fun q => hc (h.2 q))]
/-- Whether one of the first m bears request i's name. -/
def alk (s : Nat → List Nat) (i : Nat) : Nat → Bool
  | 0 => false
  | m + 1 => alk s i m || decide ((s m).take 16 = (s i).take 16)
theorem alk_yes {s : Nat → List Nat} {i m : Nat} (h : alk s i m = true) : alk s i (m + 1) = true := by rw [alk, h]; rfl
theorem alk_eq {s : Nat → List Nat} {i m : Nat} (h : alk s i m = false) (he : (s m).take 16 = (s i).take 16) : alk s i (m + 1) = true := by rw [alk, h, decide_eq_true he]; rfl
theorem alk_ne {s : Nat → List Nat} {i m : Nat} (h : alk s i m = false) (he : ¬ (s m).take 16 = (s i).take 16) : alk s i (m + 1) = false := by rw [alk, h, decide_eq_false he]; rfl
theorem alk_of {s : Nat → List Nat} {i j : Nat} (he : (s j).take 16 = (s i).take 16) : ∀ {m : Nat}, j < m → alk s i m = true
  | 0, h => absurd h (Nat.not_lt_zero _)
  | m + 1, h => by
    rcases Nat.lt_or_ge j m with h1 | h1
    · exact alk_yes (alk_of he h1)
    · obtain rfl : j = m := by omega
      rw [alk, decide_eq_true he, Bool.or_true]
/-- How many of the first m bear a name that none ahead bears. -/
def fstN (s : Nat → List Nat) : Nat → Nat
  | 0 => 0
  | i + 1 => fstN s i + if alk s i i = true then 0 else 1
theorem fstN_yes {s : Nat → List Nat} {i : Nat} (h : alk s i i = true) : fstN s (i + 1) = fstN s i := by rw [fstN, if_pos h, Nat.add_zero]
theorem fstN_no {s : Nat → List Nat} {i : Nat} (h : alk s i i = false) : fstN s (i + 1) = fstN s i + 1 := by rw [fstN, if_neg (by rw [h]; decide)]
theorem fstN_le (s : Nat → List Nat) : ∀ i, fstN s i ≤ i
  | 0 => Nat.le_refl _
  | i + 1 => by
    have := fstN_le s i
    rw [fstN]
    split <;> omega
theorem fst_all {s : Nat → List Nat} : ∀ {m : Nat}, fstN s m = m → ∀ i, i < m → alk s i i = false
  | 0, _, i, h => absurd h (Nat.not_lt_zero _)
  | m + 1, h, i, hi => by
    have h1 := fstN_le s m
    cases h2 : alk s m m with
    | true => rw [fstN_yes h2] at h; omega
    | false =>
      rw [fstN_no h2] at h
      rcases Nat.lt_or_ge i m with h3 | h3
      · exact fst_all (by omega) i h3
      · obtain rfl : i = m := by omega
        exact h2
theorem fst_two {s : Nat → List Nat} {o j : Nat} (hP : (s (o + 2 * j + 1)).take 16 = (s (o + 2 * j)).take 16) : fstN s (o + 2 * (j + 1)) = fstN s (o + 2 * j) + if alk s (o + 2 * j) (o + 2 * j) = true then 0 else 1 := by
  rw [show o + 2 * (j + 1) = o + 2 * j + 1 + 1 by omega, fstN_yes (i := o + 2 * j + 1) (alk_of hP.symm (Nat.lt_succ_self _)), fstN]
theorem fst_pairs {s : Nat → List Nat} {o t : Nat} (hP : ∀ j, j < t → (s (o + 2 * j + 1)).take 16 = (s (o + 2 * j)).take 16) : ∀ j, j ≤ t → fstN s (o + 2 * j) ≤ fstN s o + j ∧ (fstN s (o + 2 * j) = fstN s o + j → ∀ k, k < j → alk s (o + 2 * k) (o + 2 * k) = false)
  | 0, _ => ⟨Nat.le_refl _, fun _ k hk => absurd hk (Nat.not_lt_zero _)⟩
  | j + 1, hj => by
    obtain ⟨h1, h2⟩ := fst_pairs hP j (by omega)
    rw [fst_two (hP j (by omega))]
    cases h3 : alk s (o + 2 * j) (o + 2 * j) with
    | true =>
      rw [if_pos rfl]
      exact ⟨by omega, fun h => by omega⟩
    | false =>
      rw [if_neg (by decide)]
      refine ⟨by omega, fun h k hk => ?_⟩
      rcases Nat.lt_or_ge k j with h4 | h4
      · exact h2 (by omega) k h4
      · obtain rfl : k = j := by omega
        exact h3
theorem names_le {s : Nat → List Nat} {o t : Nat} (hP : ∀ j, j < t → (s (o + 2 * j + 1)).take 16 = (s (o + 2 * j)).take 16) : fstN s (o + 2 * t) ≤ o + t := by
  have := (fst_pairs hP t (Nat.le_refl _)).1
  have := fstN_le s o
  omega
theorem heads {s : Nat → List Nat} {o t : Nat} (hP : ∀ j, j < t → (s (o + 2 * j + 1)).take 16 = (s (o + 2 * j)).take 16) (h : fstN s (o + 2 * t) = o + t) : (∀ i, i < o → alk s i i = false) ∧ ∀ j, j < t → alk s (o + 2 * j) (o + 2 * j) = false := by
  have h1 := (fst_pairs hP t (Nat.le_refl _)).1
  have h2 := fstN_le s o
  exact ⟨fst_all (by omega), (fst_pairs hP t (Nat.le_refl _)).2 (by omega)⟩
def Twin (o a b : Nat) : Prop := a = b ∨ (o ≤ a ∧ o ≤ b ∧ (a - o) / 2 = (b - o) / 2)
/-- Just the two of a pair bear one name. -/
structure Met (s : Nat → List Nat) (o t : Nat) : Prop where
  len : ∀ k, (s k).length = 52
  sm : ∀ a b, a < o + 2 * t → b < o + 2 * t → (SM s a b ↔ Twin o a b)
theorem met_of {s : Nat → List Nat} {o t : Nat} (hL : ∀ k, (s k).length = 52) (hP : ∀ j, j < t → (s (o + 2 * j + 1)).take 16 = (s (o + 2 * j)).take 16) (h : fstN s (o + 2 * t) = o + t) : Met s o t := by
  obtain ⟨h1, h2⟩ := heads hP h
  -- the place of the first one of a name
  have hd : ∀ a, a < o + 2 * t → ∃ x, (s a).take 16 = (s x).take 16 ∧ alk s x x = false ∧ ((a < o ∧ x = a) ∨ (o ≤ a ∧ x = o + 2 * ((a - o) / 2))) := fun a ha => by
    rcases Nat.lt_or_ge a o with h3 | h3
    · exact ⟨a, rfl, h1 a h3, .inl ⟨h3, rfl⟩⟩
    · refine ⟨o + 2 * ((a - o) / 2), ?_, h2 _ (by omega), .inr ⟨h3, rfl⟩⟩
      rcases Nat.lt_or_ge (o + 2 * ((a - o) / 2)) a with h4 | h4
      · have e := hP ((a - o) / 2) (by omega)
        rwa [show o + 2 * ((a - o) / 2) + 1 = a by omega] at e
      · rw [show o + 2 * ((a - o) / 2) = a by omega]
  refine ⟨hL, fun a b ha hb => ⟨fun hs => ?_, fun ht => ⟨hL a, hL b, ?_⟩⟩⟩
  · obtain ⟨x, hx1, hx2, hx3⟩ := hd a ha
    obtain ⟨y, hy1, hy2, hy3⟩ := hd b hb
    have e : (s x).take 16 = (s y).take 16 := hx1.symm.trans (hs.2.2.trans hy1)
    unfold Twin
    rcases Nat.lt_trichotomy x y with h4 | h4 | h4
    · rw [alk_of e h4] at hy2; cases hy2
    · omega
    · rw [alk_of e.symm h4] at hx2; cases hx2
  · obtain ⟨x, hx1, _, hx3⟩ := hd a ha
    obtain ⟨y, hy1, _, hy3⟩ := hd b hb
    unfold Twin at ht
    obtain rfl : x = y := by omega
    exact hx1.trans hy1.symm
theorem Met.cnt {s : Nat → List Nat} {o t : Nat} (M : Met s o t) {i : Nat} (hi : i < o + 2 * t) : ∀ m, m ≤ o + 2 * t → cntS s i m = (if (i < o ∧ i < m) ∨ (o ≤ i ∧ o + 2 * ((i - o) / 2) < m) then 1 else 0) + (if o ≤ i ∧ o + 2 * ((i - o) / 2) + 1 < m then 1 else 0)
  | 0, _ => by rw [cntS, if_neg (by omega), if_neg (by omega)]
  | m + 1, hm => by
    have h1 := M.sm i m hi (by omega)
    unfold Twin at h1
    rw [cntS, M.cnt hi m (by omega)]
    by_cases h2 : SM s i m
    · have h3 := h1.1 h2
      rw [if_pos h2]
      by_cases h4 : i < o
      · rw [if_neg (by omega), if_neg (by omega), if_pos (by omega), if_neg (by omega)]
      · by_cases h5 : m = o + 2 * ((i - o) / 2)
        · rw [if_neg (by omega), if_neg (by omega), if_pos (by omega), if_neg (by omega)]
        · rw [if_pos (by omega), if_neg (by omega), if_pos (by omega), if_pos (by omega)]
    · have h3 := fun h => h2 (h1.2 h)
      rw [if_neg h2, Nat.add_zero]
      have e1 : ((i < o ∧ i < m) ∨ (o ≤ i ∧ o + 2 * ((i - o) / 2) < m)) ↔ ((i < o ∧ i < m + 1) ∨ (o ≤ i ∧ o + 2 * ((i - o) / 2) < m + 1)) := by
        constructor
        · intro h; omega
        · intro h
          refine Classical.byContradiction fun hn => h3 ?_
          omega
      have e2 : (o ≤ i ∧ o + 2 * ((i - o) / 2) + 1 < m) ↔ (o ≤ i ∧ o + 2 * ((i - o) / 2) + 1 < m + 1) := by
        constructor
        · intro h; omega
        · intro h
          refine Classical.byContradiction fun hn => h3 ?_
          omega
      rw [ifc e1, ifc e2]
theorem Met.one {s : Nat → List Nat} {o t : Nat} (M : Met s o t) {i : Nat} (hi : i < o) : cntS s i i = 0 ∧ cntS s i (o + 2 * t) = 1 := by
  rw [M.cnt (by omega) i (by omega), M.cnt (by omega) _ (Nat.le_refl _), if_neg (by omega), if_neg (by omega), if_pos (by omega), if_neg (by omega)]
  exact ⟨rfl, rfl⟩
theorem Met.two {s : Nat → List Nat} {o t : Nat} (M : Met s o t) {i : Nat} (h1 : o ≤ i) (hi : i < o + 2 * t) : cntS s i i = (i - o) % 2 ∧ cntS s i (o + 2 * t) = 2 := by
  have hA := M.cnt hi i (by omega)
  have hB := M.cnt hi _ (Nat.le_refl _)
  rw [if_pos (by omega), if_pos (by omega)] at hB
  refine ⟨?_, hB⟩
  rcases Nat.mod_two_eq_zero_or_one (i - o) with h | h
  · rw [if_neg (by omega), if_neg (by omega)] at hA
    rw [hA, h]
  · rw [if_pos (by omega), if_neg (by omega)] at hA
    rw [hA, h]
theorem Met.cls1 {s : Nat → List Nat} {o t : Nat} (M : Met s o t) : ∀ m, m ≤ o + 2 * t → cls s (o + 2 * t) c1 m = min m o
  | 0, _ => by rw [cls, Nat.zero_min]
  | m + 1, hm => by
    rw [cls, M.cls1 m (by omega)]
    by_cases h : m < o
    · rw [if_pos (show Fst s m ∧ c1 (cntS s m (o + 2 * t)) = true from ⟨⟨M.len m, (M.one h).1⟩, decide_eq_true (M.one h).2⟩)]
      omega
    · rw [if_neg (show ¬ (Fst s m ∧ c1 (cntS s m (o + 2 * t)) = true) from fun q => absurd (of_decide_eq_true q.2) (by rw [(M.two (by omega) (by omega)).2]; decide))]
      omega
theorem Met.cls2 {s : Nat → List Nat} {o t : Nat} (M : Met s o t) : ∀ m, m ≤ o + 2 * t → cls s (o + 2 * t) c2 m = (m - o + 1) / 2
  | 0, _ => by rw [cls]; omega
  | m + 1, hm => by
    rw [cls, M.cls2 m (by omega)]
    by_cases h : m < o
    · rw [if_neg (show ¬ (Fst s m ∧ c2 (cntS s m (o + 2 * t)) = true) from fun q => absurd (of_decide_eq_true q.2) (by rw [(M.one h).2]; decide))]
      omega
    · obtain ⟨h1, h2⟩ := M.two (i := m) (by omega) (by omega)
      by_cases h3 : (m - o) % 2 = 0
      · rw [if_pos (show Fst s m ∧ c2 (cntS s m (o + 2 * t)) = true from ⟨⟨M.len m, h1.trans h3⟩, decide_eq_true h2⟩)]
        omega
      · rw [if_neg (show ¬ (Fst s m ∧ c2 (cntS s m (o + 2 * t)) = true) from fun q => h3 (h1.symm.trans q.1.2))]
        omega
theorem Met.cls3 {s : Nat → List Nat} {o t : Nat} (M : Met s o t) : ∀ m, m ≤ o + 2 * t → cls s (o + 2 * t) c3 m = 0
  | 0, _ => by rw [cls]
  | m + 1, hm => by
    rw [cls, M.cls3 m (by omega), if_neg (show ¬ (Fst s m ∧ c3 (cntS s m (o + 2 * t)) = true) from fun q => absurd (of_decide_eq_true q.2) (by
      by_cases h : m < o
      · rw [(M.one h).2]; decide
      · rw [(M.two (by omega) (by omega)).2]; decide))]
theorem one_other {s : Nat → List Nat} {n x y : Nat} (h : ∀ k, k < n → ((k ≠ x ∧ SM s x k) ↔ k = y)) : ∀ m, m ≤ n → oN s x m = (if y < m then 1 else 0) ∧ oB s x m = if y < m then (s y).drop 16 else []
  | 0, _ => by rw [oN, oB, if_neg (Nat.not_lt_zero _), if_neg (Nat.not_lt_zero _)]; exact ⟨rfl, rfl⟩
  | m + 1, hm => by
    obtain ⟨h1, h2⟩ := one_other h m (by omega)
    have h3 := h m (by omega)
    rw [oN, oB, h1, h2]
    by_cases h4 : m = y
    · subst h4
      rw [if_pos (h3.2 rfl), if_pos (h3.2 rfl), if_neg (Nat.lt_irrefl _), if_pos (Nat.lt_succ_self _), if_pos (Nat.lt_succ_self _)]
      exact ⟨rfl, rfl⟩
    · rw [if_neg (fun q => h4 (h3.1 q)), if_neg (fun q => h4 (h3.1 q)), Nat.add_zero]
      have e : y < m ↔ y < m + 1 := by omega
      rw [ifc e, ifc e]
      exact ⟨rfl, rfl⟩
theorem Met.at_two {s : Nat → List Nat} {o t : Nat} (M : Met s o t) {x y : Nat} (hx : o ≤ x) (hx2 : x < o + 2 * t) (hy : o ≤ y) (hy2 : y < o + 2 * t) (hne : x ≠ y) (he : (x - o) / 2 = (y - o) / 2) : mAt s (o + 2 * t) x = (s y).drop 16 := by
  obtain ⟨h1, h2⟩ := one_other (s := s) (n := o + 2 * t) (x := x) (y := y) (fun k hk => by
    have h3 := M.sm x k hx2 hk
    unfold Twin at h3
    constructor
    · intro ⟨h4, h5⟩
      have := h3.1 h5
      omega
    · rintro rfl
      exact ⟨Ne.symm hne, h3.2 (.inr ⟨hx, hy, he⟩)⟩) _ (Nat.le_refl _)
  rw [if_pos hy2] at h1 h2
  rw [mAt_one h1, h2]
theorem Met.at_a {s : Nat → List Nat} {o t j : Nat} (M : Met s o t) (hj : j < t) : mAt s (o + 2 * t) (o + 2 * j) = (s (o + 2 * j + 1)).drop 16 := M.at_two (by omega) (by omega) (by omega) (by omega) (by omega) (by omega)
theorem Met.at_b {s : Nat → List Nat} {o t j : Nat} (M : Met s o t) (hj : j < t) : mAt s (o + 2 * t) (o + 2 * j + 1) = (s (o + 2 * j)).drop 16 := M.at_two (by omega) (by omega) (by omega) (by omega) (by omega) (by omega)
theorem reqC_pair (o : Nat) (Y : List Nat) (j : Nat) : (reqC o Y (o + 2 * j + 1)).take 16 = (reqC o Y (o + 2 * j)).take 16 := by
  rw [← reqC_a, ← reqC_b, List.take_left' (takN_len _ _), List.take_left' (takN_len _ _)]
end Go.Proofs.Ythgfjeljfiadmaa
namespace Go.Proofs.Ythgfjeljfiadmaa
open Go.RowKit
theorem en_lclone : Enters Try.prog 69 := fun args w => by simp [go_sem]
theorem en_clone : Enters Try.prog 57 := fun args w => by simp [go_sem]
theorem en_parts : Enters Try.prog 40 := fun args w => by simp [go_sem]
theorem en_dno : Enters Try.prog 28 := fun args w => by simp [go_sem]
theorem en_dbox : Enters Try.prog 29 := fun args w => by simp [go_sem]
theorem en_grp : Enters Try.prog 27 := fun args w => by simp [go_sem]
theorem en_dm : Enters Try.prog 18 := fun args w => by simp [go_sem]
theorem en_dc : Enters Try.prog 17 := fun args w => by simp [go_sem]
set_option maxRecDepth 100000 in
theorem lclone_any (X : List Nat) (hX : ∀ i, X.getD i 0 < 256) (hl : X.length ≤ 1000000) (w0 : World) :
    Calls Try.prog 69 #[sB X] w0 fun e w' => e = .returned (sB X) ∧ Below w0.heap.size w0 w' := by
  refine enter_fr Try.func69 rfl Try.ntmps69 (by simp) fun ac (FF : Fr 18 ac [(0, sB X)]) => ?_
  have MM := MemS.start w0
  refine wp_seq (rg_c FF MM [(0, t_ (sB []))] 3 [] [] (⟨(by kernel_rfl), fun _ _ FF1 MM1 => then_n ?_⟩))
  refine wp_seq ?_
  refine wp_seq (rg_c FF1 MM1 [(1, t_ (iN X.length))] 3 [6] [] (⟨(vI (bs_size _)), fun _ _ FF2 MM2 => then_n ?_⟩))
  by_cases hs6 : X.length = 0
  · refine wp_cond_true ((FF2.ev 0 rfl).trans (dec_t hs6)) ?_
    obtain rfl : X = [] := List.eq_nil_of_length_eq_zero hs6
    refine wp_seq (rg_c FF2 MM2 [(0, t_ (sB []))] 3 [] [] (⟨(by kernel_rfl), fun _ _ FF3 MM3 => then_n ?_⟩))
    refine wp_ret ?_
    repeat first | refine then_ret ?_ | refine inb_ret ?_
    exact (ret_fr FF3 0 Try.results69 rfl ⟨rfl, MM3.below⟩)
  · refine wp_cond_false ((FF2.ev 0 rfl).trans (dec_f hs6)) ?_
    refine wp_skip ?_
    refine then_n ?_
    refine wp_seq (rg_c FF2 MM2 [(1, t_ (iN X.length)), (0, n_ (.slice none X.length X.length) (.cells (cn .u8 (List.replicate X.length 0)) 5))] 4 [] [] (⟨(vI (bs_size _)), (make_ok (t := 63) (e := 5) (p := (.tmp 8)) (q := (.tmp 8)) (by kernel_rfl) rfl rfl Try.underlying63 (by kernel_rfl) (by omega)), fun bl => fun _ _ FF4 MM4 => then_n ?_⟩))
    refine wp_seq (rg_c FF4 MM4 [(2, r_ (iN (min X.length X.length)) [(0, .cells (cn .u8 X) 5)])] 4 [] [] (⟨(copyStr_ok (p := .tmp 10) (q := .tmp 11) (t := 63) (tq := 9) (e := 5) (T := 5) (off := 0) (len := X.length) (X := X) (cs := cn .u8 (List.replicate X.length 0)) (i := 0) (by kernel_rfl) rfl rfl hX Try.underlying63 (by kernel_rfl) rfl (by rw [cn_size, List.length_replicate, Nat.zero_add]; exact Nat.le_refl _) (by rw [List.take_length]; exact setFrom_new8 (by rw [List.length_replicate]))), fun _ _ FF5 MM5 => then_n ?_⟩))
    refine wp_seq (rg_c FF5 MM5 [(1, w_ 1), (2, r_ (sB X) [(0, .cells (cn .u8 X) 5 (0, X.length))])] 4 [] [] (⟨by omega, (usRow_ok (t := 120) (u := 3) (e := 5) (i := 0) (x := .tmp 14) (y := .tmp 16) (by kernel_rfl) rfl rfl Try.underlying120 (by kernel_rfl) rfl (by omega) hX (by rw [cn_size]; exact Nat.le_refl _) (by omega) (fun j hj => cn_get _ _ _ hj)), fun _ _ FF6 MM6 => then_n ?_⟩))
    refine wp_ret ?_
    repeat first | refine then_ret ?_ | refine inb_ret ?_
    exact (ret_fr FF6 0 Try.results69 rfl ⟨rfl, MM6.below⟩)
set_option maxRecDepth 100000 in
theorem clone_any (X : List Nat) (hX : ∀ i, X.getD i 0 < 256) (hl : X.length ≤ 1000000) (w0 : World) :
    Calls Try.prog 57 #[sB X] w0 fun e w' => e = .returned (sB X) ∧ Below w0.heap.size w0 w' := by
  refine enter_fr Try.func57 rfl Try.ntmps57 (by simp) fun ac (FF : Fr 5 ac [(0, sB X)]) => ?_
  have MM := MemS.start w0
  refine wp_seq (rg_c FF MM [(0, t_ (sB []))] 3 [] [] (⟨(by kernel_rfl), fun _ _ FF1 MM1 => then_n ?_⟩))
  refine wp_seq (rg_c FF1 MM1 [(1, t_ (sB X))] 0 [2] [] (⟨(callP_of en_lclone (lclone_any X hX hl) _), fun _ _ FF2 MM2 => then_n ?_⟩))
  refine wp_ret ?_
  repeat first | refine then_ret ?_ | refine inb_ret ?_
  exact (ret_fr FF2 0 Try.results57 rfl ⟨rfl, MM2.below⟩)
set_option maxRecDepth 100000 in
theorem parts_any (X : List Nat) (hX : ∀ i, X.getD i 0 < 256) (w0 : World) :
    Calls Try.prog 40 #[sB X] w0 fun e w' => e = .returned (.tuple #[.agg (cn .u8 (partsR X).1), .string (bs (partsR X).2.1), .bool (partsR X).2.2]) ∧ Below w0.heap.size w0 w' := by
  refine enter_fr Try.func40 rfl Try.ntmps40 (by simp) fun ac (FF : Fr 19 ac [(0, sB X)]) => ?_
  have MM := MemS.start w0
  refine wp_seq (rg_c FF MM [(0, s_ 0 (.cells (cn .u8 (List.replicate 16 0)) 68)), (0, t_ (sB []))] 5 [] [] (⟨(by kernel_rfl), fun br => ⟨(by kernel_rfl), fun _ _ FF1 MM1 => then_n ?_⟩⟩))
  refine wp_seq ?_
  refine wp_seq (rg_c FF1 MM1 [(1, t_ (iN X.length))] 5 [9] [] (⟨(vI (bs_size _)), fun _ _ FF2 MM2 => then_n ?_⟩))
  by_cases hs9 : X.length ≠ 52
  · refine wp_cond_true ((FF2.ev 0 rfl).trans (dec_t hs9)) ?_
    refine wp_seq (rg_c FF2 MM2 [(0, t_ (.agg (cn .u8 (List.replicate 16 0)))), (0, b_ 0), (0, t_ (sB []))] 5 [] [] (⟨(by kernel_rfl), rfl, ((cn_size _ _).trans (List.length_replicate ..)), ((cn_size _ _).trans (List.length_replicate ..)), (cn_one _ _), rfl, (by kernel_rfl), fun _ _ FF3 MM3 => then_n ?_⟩))
    refine wp_ret ?_
    repeat first | refine then_ret ?_ | refine inb_ret ?_
    exact (ret_ctt FF3 MM3 (k := 16) (i := 0) (j := 2) (m := 1) (m2 := 0) Try.results40 rfl rfl rfl rfl Try.underlying68 rfl (by kernel_rfl) ((cn_size _ _).trans (List.length_replicate ..)) ⟨by rw [partsR_no hs9], MM3.below⟩)
  · refine wp_cond_false ((FF2.ev 0 rfl).trans (dec_f hs9)) ?_
    have h52 : X.length = 52 := Decidable.of_not_not hs9
    refine wp_skip ?_
    refine then_n ?_
    refine wp_seq (rg_c FF2 MM2 [(0, s_ 0 (.cells (cn .u8 (List.replicate 16 0)) 68))] 6 [] [] (⟨(by kernel_rfl), fun bi => fun _ _ FF4 MM4 => then_n ?_⟩))
    refine wp_seq (rg_c FF4 MM4 [(2, r_ (iN 16) [(0, .cells (cn .u8 (X.take 16)) 68)])] 7 [] [] (⟨by decide, by decide, by decide, (by have h0 := copyStr_ok (P := Try.prog) (l := [(12, sB X), (11, .slice (some ⟨bi, 0, none⟩) 16 16), (5, pT bi), (4, .bool false), (3, sB []), (2, pT br), (0, sB X)]) (L := [(bi, .cells (cn .u8 (List.replicate 16 0)) 68), (br, .cells (cn .u8 (List.replicate 16 0)) 68)]) (o := opAt Try.f40 4 2) (p := .tmp 11) (q := .tmp 12) (t := 63) (tq := 9) (e := 5) (T := 68) (off := 0) (len := 16) (X := X) (cs := cn .u8 (List.replicate 16 0)) (i := 0) (by kernel_rfl) rfl rfl hX Try.underlying63 (by kernel_rfl) rfl (by rw [cn_size, List.length_replicate]; decide) (parts_cells h52); rw [show min X.length 16 = 16 by omega] at h0; exact h0), fun _ _ FF5 MM5 => then_n ?_⟩))
    refine wp_seq (rg_dc 5 FF5 MM5 [(0, b_ 0), (2, t_ (sB (X.drop 16))), (0, t_ (sB (X.drop 16)))] [(0, b_ 1)] 6 [] [] (⟨rfl, ((cn_size _ _).trans (by rw [List.length_take, h52]; rfl)), (by simp only [bs_size]; omega), (Nat.zero_le _), (vS2 (bs_from _ _)), (callP_of en_clone (clone_any (X.drop 16) (drop_lt hX) (by rw [List.length_drop]; omega)) _), rfl, ((cn_size _ _).trans (List.length_replicate ..)), ((cn_size _ _).trans (by rw [List.length_take, h52]; rfl)), (cn_one _ _), rfl, fun _ _ FF6 MM6 => then_n ?_⟩))
    refine wp_ret ?_
    repeat first | refine then_ret ?_ | refine inb_ret ?_
    exact (ret_ctt FF6 MM6 (k := 16) (i := 1) (j := 3) (m := 1) (m2 := 0) Try.results40 rfl rfl rfl rfl Try.underlying68 rfl (by kernel_rfl) ((cn_size _ _).trans (by rw [List.length_take, h52]; rfl)) ⟨by rw [partsR_ok h52], MM6.below⟩)
end Go.Proofs.Ythgfjeljfiadmaa
namespace Go.Proofs.Ythgfjeljfiadmaa
open Go.RowKit
set_option maxRecDepth 100000 in
theorem dno_any  (w0 : World) :
    Calls Try.prog 28 #[] w0 fun e w' => e = .returned (sB (List.replicate 36 0)) ∧ Below w0.heap.size w0 w' := by
  refine enter_fr Try.func28 rfl Try.ntmps28 (by simp) fun ac (FF : Fr 3 ac []) => ?_
  have MM := MemS.start w0
  refine wp_seq (rg_c FF MM [(0, t_ (sB []))] 1 [] [] (⟨(by kernel_rfl), fun _ _ FF1 MM1 => then_n ?_⟩))
  refine wp_seq (rg_c FF1 MM1 [(0, n_ (.slice none 36 36) (.cells (cn .u8 (List.replicate 36 0)) 5)), (0, l_ 0 (sB (List.replicate 36 0)))] 1 [] [] (⟨(make_ok (t := 63) (e := 5) (p := (.const (iN 36))) (q := (.const (iN 36))) (by kernel_rfl) rfl rfl Try.underlying63 (by kernel_rfl) (by decide)), fun b1 => ⟨rfl, (str_all (List.length_replicate ..) (rep0_lt)), fun _ _ FF2 MM2 => then_n ?_⟩⟩))
  refine wp_ret ?_
  repeat first | refine then_ret ?_ | refine inb_ret ?_
  exact (ret_fr FF2 0 Try.results28 rfl ⟨rfl, MM2.below⟩)
set_option maxRecDepth 100000 in
theorem dbox_any (X : List Nat) (hX : ∀ i, X.getD i 0 < 256) (w0 : World) :
    Calls Try.prog 29 #[sB X] w0 fun e w' => e = .returned (.string (bs (partsR X).2.1)) ∧ Below w0.heap.size w0 w' := by
  refine enter_fr Try.func29 rfl Try.ntmps29 (by simp) fun ac (FF : Fr 13 ac [(0, sB X)]) => ?_
  have MM := MemS.start w0
  refine wp_seq (rg_c FF MM [(0, t_ (sB []))] 3 [] [] (⟨(by kernel_rfl), fun _ _ FF1 MM1 => then_n ?_⟩))
  refine wp_seq (rg_c FF1 MM1 [(1, t_ (.tuple #[.agg (cn .u8 ((partsR X).1)), sB ((partsR X).2.1), .bool ((partsR X).2.2)])), (4, s_ 0 (.cells (cn .u8 (List.replicate 16 0)) 68)), (0, b_ 0)] 3 [4] [0] (⟨(callP_of en_parts (parts_any X hX) _), (by kernel_rfl), fun bi => ⟨rfl, ((cn_size _ _).trans (List.length_replicate ..)), ((cn_size _ _).trans (partsR_len X)), (cn_one _ _), rfl, fun _ _ FF2 MM2 => then_n ?_⟩⟩))
  refine wp_seq (rg_c FF2 MM2 [] 3 [] [] (fun _ _ FF3 MM3 => then_n ?_))
  refine wp_ret ?_
  repeat first | refine then_ret ?_ | refine inb_ret ?_
  exact (ret_fr FF3 0 Try.results29 rfl ⟨rfl, MM3.below⟩)
/-- The groups, as the program keeps them. -/
abbrev GMO (l : List (List Nat × Grp)) : Obj := mapO (fun X => .agg (cn .u8 X)) grpV l
theorem id_law : MKey Try.prog 68 (fun X => .agg (cn .u8 X)) (BytesK 16) := bytes_key (e := 5) (d := 138) Try.laidOut (by decide +kernel) (by decide +kernel) (by decide +kernel) (by decide +kernel) Try.underlying68 Try.underlying5 (by kernel_rfl) (by kernel_rfl)
/-- A map of groups that a call has made. -/
def NewM (l : List (List Nat × Grp)) (w w' : World) (v : Value) : Prop := ∃ g, v = .map (some g) ∧ Below w.heap.size w w' ∧ w.heap.size ≤ g ∧ w'.heap[g]? = some (GMO l)
set_option maxRecDepth 100000 in
theorem grp_O (O : Blks) (hD : Distinct O) (p : Option Addr) (n c : Nat) (s : Nat → List Nat) (hn : n ≤ 1000000) (hs : ∀ i, i < n → ∀ j, (s i).getD j 0 < 256) (hF : RowO O p n (fun k9 => sB (s k9))) (w0 : World) (H : Has w0 O) :
    Calls Try.prog 27 #[.slice p n c] w0 fun e w' => ∃ v, e = .returned v ∧ NewM (grpS s n) w0 w' v := by
  refine enter_fr Try.func27 rfl Try.ntmps27 (by simp) fun ac (FF : Fr 45 ac [(0, .slice p n c)]) => ?_
  have MM : MemS (fun k => k < w0.heap.size ∧ ∀ x ∈ O, x.1 ≠ k) w0 w0 O [] := MemS.startN H hD
  refine wp_seq (rg_c FF MM [] 3 [] [] (fun _ _ FF1 MM1 => then_n ?_))
  refine wp_seq (rg_c FF1 MM1 [(0, n_ (.map none) (GMO []))] 4 [] [] (⟨(makeMap_ok (t := 66) (by kernel_rfl)), fun bm => fun _ _ FF2 MM2 => then_n ?_⟩))
  have MMr3 : MemS _ _ _ ((bm, GMO (grpS s 0)) :: _) _ := MM2
  refine wp_seq ?_
  refine wp_seq (rg_c FF2 MMr3 [] 14 [] [0] (fun _ _ FF4 MM4 => then_n ?_))
  refine wp_for (fun a' w' => ∃ i : Nat, i ≤ n ∧ Fr 45 a' [(13, iN i), (12, iN n), (11, .slice p n c), (3, .map (some bm))] ∧ MemS (fun k => k < w0.heap.size ∧ ∀ x ∈ O, x.1 ≠ k) w0 w' ((bm, GMO (grpS s i)) :: O) []) (fun a' _ => (n - cnt 13 a').toNat) ⟨0, Nat.zero_le _, FF4.pick [0, 1, 2, 3], MM4⟩ ?_
  rintro ac5 wd5 ⟨i, hi, FF5, MM5⟩
  have hc := cnt_of (FF5.get 0 rfl)
  refine rg_c FF5 MM5 [] 15 [] [] (fun _ _ FF6 MM6 => ?_)
  by_cases hlt : i < n
  · skip
    refine then_n (.inl ⟨(FF6.ev 0 rfl).trans (dec_t hlt), ?_⟩)
    refine wp_seq (rg_c FF6 MM6 [(1, f_ (.pointer (some ⟨gOf p, oOf p + i, none⟩))), (0, f_ (sB (s i)))] 14 [] [] (⟨(rowX_addr (x := (.tmp 11)) (y := (.tmp 13)) (k := 1) (i := i) (by kernel_rfl) rfl rfl Try.underlying36 (by kernel_rfl) hF (by omega) (by omega)), (rowX_load (x := (.tmp 16)) (j := i) (by kernel_rfl) rfl Try.underlying9 rfl hF (fun _ hx => List.mem_cons_of_mem _ (hx)) (by omega) rfl), fun _ _ FF7 MM7 => then_n ?_⟩))
    by_cases hl : (s i).length = 52
    · skip
      refine wp_seq (rg_c FF7 MM7 [(1, t_ (.tuple #[.agg (cn .u8 ((s i).take 16)), sB ((s i).drop 16), .bool true])), (4, s_ 0 (.cells (cn .u8 (List.replicate 16 0)) 68)), (0, b_ 0)] 14 [] [7] (⟨(callP_of en_parts (fun w => by have h0 := parts_any (s i) (hs i hlt) w; rw [partsR_ok hl] at h0; exact h0) _), (by kernel_rfl), fun bi => ⟨rfl, ((cn_size _ _).trans (List.length_replicate ..)), ((cn_size _ _).trans (by rw [List.length_take, hl]; rfl)), (cn_one _ _), rfl, fun _ _ FF8 MM8 => then_n ?_⟩⟩))
      refine wp_seq ?_
      refine wp_seq (rg_c FF8 MM8 [] 14 [25] [] (fun _ _ FF9 MM9 => then_n ?_))
      refine wp_cond_false (FF9.ev 0 rfl) ?_
      refine wp_skip ?_
      refine then_n ?_
      cases hg : mget ((s i).take 16) (grpS s i) with
      | none =>
        refine wp_seq (rg_c FF9 MM9 [(1, b_ 0), (0, f_ (aG #[iN 0, iN 0, iN 0])), (1, b_ 0)] 14 [] [] (⟨rfl, ((cn_size _ _).trans (by rw [List.length_take, hl]; rfl)), (mapNo_ok (t := 66) (m := (.tmp 26)) (y := (.tmp 27)) (b := bm) (i := 1) (kf := (fun X => .agg (cn .u8 X))) (vf := grpV) (l := grpS s i) (x := (s i).take 16) (c := false) (z := aG #[iN 0, iN 0, iN 0]) (by kernel_rfl) rfl rfl Try.underlying66 id_law (grp_keys i (fun j hj => hs j (by omega))) (grp_uniq s i) ⟨(by rw [List.length_take, hl]; rfl), take_lt (hs i hlt)⟩ rfl (by kernel_rfl) hg), fun bg => ⟨rfl, rfl, rfl, (by kernel_rfl), rfl, fun _ _ FF10 MM10 => then_n ?_⟩⟩))
        refine wp_seq ?_
        refine wp_seq (rg_c FF10 MM10 [(1, l_ 0 (iN 0)), (0, w_ 2)] 14 [31] [] (⟨rfl, rfl, by decide, fun _ _ FF11 MM11 => then_n ?_⟩))
        refine wp_cond_true (FF11.ev 0 rfl) ?_
        refine rg_c FF11 MM11 [(2, s_ 0 (oC #[iN 0, iN i, iN 0] 70))] 14 [] [] (⟨rfl, (by simp), (.inl rfl), rfl, fun _ _ FF12 MM12 => ?_⟩)
        refine then_n ?_
        refine wp_seq (rg_c FF12 MM12 [(1, l_ 0 (iN 0)), (2, s_ 0 (oC #[iN 1, iN i, iN 0] 70))] 14 [] [] (⟨rfl, rfl, by decide, rfl, (by simp), (.inl rfl), rfl, fun _ _ FF13 MM13 => then_n ?_⟩))
        refine wp_seq (rg_c FF13 MM13 [(2, s_ 0 (oC #[iN 1, iN i, iN i] 70))] 14 [] [] (⟨rfl, (by simp), (.inl rfl), rfl, fun _ _ FF14 MM14 => then_n ?_⟩))
        refine rg_c FF14 MM14 [(1, b_ 1), (0, b_ 0), (0, r_ undef [(2, GMO (grpS s (i + 1)))])] 14 [] [] (⟨rfl, ((cn_size _ _).trans (by rw [List.length_take, hl]; rfl)), rfl, rfl, (by rw [grp_yes hl, hg]; exact (mapPut_ok (t := 66) (m := (.tmp 40)) (y := (.tmp 41)) (z := (.tmp 42)) (b := bm) (i := 2) (kf := (fun X => .agg (cn .u8 X))) (vf := grpV) (l := grpS s i) (x := (s i).take 16) (v := (1, i, i)) (by kernel_rfl) rfl rfl rfl Try.underlying66 id_law (grp_keys i (fun j hj => hs j (by omega))) (grp_uniq s i) ⟨(by rw [List.length_take, hl]; rfl), take_lt (hs i hlt)⟩ rfl)), fun _ _ FF15 MM15 => ?_⟩)
        refine inb_n (then_n ?_)
        refine rg_c FF15 MM15 [] 14 [] [] (⟨by omega, fun _ _ FF16 MM16 => ?_⟩)
        have hd := cnt_of (FF16.get 0 rfl)
        refine then_n ⟨⟨i + 1, by omega, FF16.pick [0, 6, 7, 8], ((MM16.dropAt 1).dropAt 0)⟩, ?_⟩
        rw [hc, hd]; omega
      | some g =>
        obtain ⟨pg, hpg⟩ := grp_get hg
        obtain ⟨ha1, ha2, ha3, ha4, ha5, ha6⟩ := grp_at hpg
        have ha7 := cnt_le s g.2.1 i
        refine wp_seq (rg_c FF9 MM9 [(1, b_ 0), (0, f_ (aG #[iN g.1, iN g.2.1, iN g.2.2])), (1, b_ 0)] 14 [] [] (⟨rfl, ((cn_size _ _).trans (by rw [List.length_take, hl]; rfl)), (mapYes_ok (t := 66) (m := (.tmp 26)) (y := (.tmp 27)) (b := bm) (i := 1) (kf := (fun X => .agg (cn .u8 X))) (vf := grpV) (l := grpS s i) (x := (s i).take 16) (c := false) (v := g) (by kernel_rfl) rfl rfl Try.underlying66 id_law (grp_keys i (fun j hj => hs j (by omega))) (grp_uniq s i) ⟨(by rw [List.length_take, hl]; rfl), take_lt (hs i hlt)⟩ rfl hg), fun bg => ⟨rfl, rfl, rfl, (by kernel_rfl), rfl, fun _ _ FF17 MM17 => then_n ?_⟩⟩))
        refine wp_seq ?_
        refine wp_seq (rg_c FF17 MM17 [(1, l_ 0 (iN g.1)), (0, w_ 3)] 14 [31] [] (⟨rfl, rfl, by omega, fun _ _ FF18 MM18 => then_n ?_⟩))
        refine wp_cond_false (FF18.ev 0 rfl) ?_
        refine wp_skip ?_
        refine then_n ?_
        refine wp_seq (rg_c FF18 MM18 [(1, l_ 0 (iN g.1)), (2, s_ 0 (oC #[iN (g.1 + 1), iN g.2.1, iN g.2.2] 70))] 14 [] [] (⟨rfl, rfl, by omega, rfl, (by simp), (.inl rfl), rfl, fun _ _ FF19 MM19 => then_n ?_⟩))
        refine wp_seq (rg_c FF19 MM19 [(2, s_ 0 (oC #[iN (g.1 + 1), iN g.2.1, iN i] 70))] 14 [] [] (⟨rfl, (by simp), (.inl rfl), rfl, fun _ _ FF20 MM20 => then_n ?_⟩))
        refine rg_c FF20 MM20 [(1, b_ 1), (0, b_ 0), (0, r_ undef [(2, GMO (grpS s (i + 1)))])] 14 [] [] (⟨rfl, ((cn_size _ _).trans (by rw [List.length_take, hl]; rfl)), rfl, rfl, (by rw [grp_yes hl, hg]; exact (mapPut_ok (t := 66) (m := (.tmp 40)) (y := (.tmp 41)) (z := (.tmp 42)) (b := bm) (i := 2) (kf := (fun X => .agg (cn .u8 X))) (vf := grpV) (l := grpS s i) (x := (s i).take 16) (v := (g.1 + 1, g.2.1, i)) (by kernel_rfl) rfl rfl rfl Try.underlying66 id_law (grp_keys i (fun j hj => hs j (by omega))) (grp_uniq s i) ⟨(by rw [List.length_take, hl]; rfl), take_lt (hs i hlt)⟩ rfl)), fun _ _ FF21 MM21 => ?_⟩)
        refine inb_n (then_n ?_)
        refine rg_c FF21 MM21 [] 14 [] [] (⟨by omega, fun _ _ FF22 MM22 => ?_⟩)
        have hd := cnt_of (FF22.get 0 rfl)
        refine then_n ⟨⟨i + 1, by omega, FF22.pick [0, 6, 7, 8], ((MM22.dropAt 1).dropAt 0)⟩, ?_⟩
        rw [hc, hd]; omega
    · skip
      refine wp_seq (rg_c FF7 MM7 [(1, t_ (.tuple #[.agg (cn .u8 (List.replicate 16 0)), sB [], .bool false])), (4, s_ 0 (.cells (cn .u8 (List.replicate 16 0)) 68)), (0, b_ 0)] 14 [] [7] (⟨(callP_of en_parts (fun w => by have h0 := parts_any (s i) (hs i hlt) w; rw [partsR_no hl] at h0; exact h0) _), (by kernel_rfl), fun bi => ⟨rfl, ((cn_size _ _).trans (List.length_replicate ..)), ((cn_size _ _).trans (List.length_replicate ..)), (cn_one _ _), rfl, fun _ _ FF23 MM23 => then_n ?_⟩⟩))
      refine wp_seq ?_
      refine wp_seq (rg_c FF23 MM23 [] 14 [25] [] (fun _ _ FF24 MM24 => then_n ?_))
      have MMr25 : MemS _ _ _ (_ :: (bm, GMO (grpS s (i + 1))) :: _) _ := MM24.eqA 1 rfl (by rw [grp_no hl] <;> rfl)
      refine wp_cond_true (FF24.ev 0 rfl) ?_
      refine wp_exit ?_
      repeat first | refine then_exit ?_ | refine (inb_other (by decide) _ _ _).2 ?_ | refine (inb_exit _ _ _ _).2 ?_
      refine then_n ?_
      refine rg_c FF24 MMr25 [] 14 [] [] (⟨by omega, fun _ _ FF26 MM26 => ?_⟩)
      have hd := cnt_of (FF26.get 0 rfl)
      refine then_n ⟨⟨i + 1, by omega, FF26.pick [0, 5, 6, 7], (MM26.dropAt 0)⟩, ?_⟩
      rw [hc, hd]; omega
  · skip
    refine then_n (.inr ⟨(FF6.ev 0 rfl).trans (dec_f hlt), ?_⟩)
    obtain rfl : n = i := by omega
    refine then_n ?_
    refine wp_seq (rg_c FF6 MM6 [] 14 [] [] (fun _ _ FF27 MM27 => then_n ?_))
    refine wp_ret ?_
    repeat first | refine then_ret ?_ | refine inb_ret ?_
    exact (ret_fr FF27 0 Try.results27 rfl ⟨_, rfl, bm, rfl, MM27.belowN H (fun _ hx => List.mem_cons_of_mem _ (hx)), MM27.newest (fun _ hx => hx), MM27.get 0 rfl⟩)
theorem grp_w (p : Option Addr) (n c : Nat) (s : Nat → List Nat) (hn : n ≤ 1000000) (hs : ∀ i, i < n → ∀ j, (s i).getD j 0 < 256) (w : World) (hF : RowIn w p n (fun k9 => sB (s k9))) :
    Calls Try.prog 27 #[.slice p n c] w fun e w' => ∃ v, e = .returned v ∧ NewM (grpS s n) w w' v := by
  obtain ⟨O, h1, h2, h3⟩ := row_O hF
  exact grp_O O h2 p n c s hn hs h3 w h1
end Go.Proofs.Ythgfjeljfiadmaa
namespace Go.Proofs.Ythgfjeljfiadmaa
open Go.RowKit
theorem upto_set (f : Nat → List Nat) (i j : Nat) : (if j = i then f i else if j < i then f j else []) = if j < i + 1 then f j else [] := by
  by_cases h : j = i
  · subst h; rw [if_pos rfl, if_pos (by omega)]
  · rw [if_neg h]
    by_cases h2 : j < i
    · rw [if_pos h2, if_pos (by omega)]
    · rw [if_neg h2, if_neg (by omega)]
/-- A row that was made. -/
def NewF (n : Nat) (F : Nat → Value) (T : TypeId) (w w' : World) (v : Value) : Prop := ∃ g, v = .slice (some ⟨g, 0, none⟩) n n ∧ Below w.heap.size w w' ∧ w.heap.size ≤ g ∧ w'.heap[g]? = some (.cells (fc n F) T)
set_option maxHeartbeats 1000000 in
set_option maxRecDepth 100000 in
theorem dm_O (O : Blks) (hD : Distinct O) (p : Option Addr) (n c : Nat) (s : Nat → List Nat) (hn : n ≤ 1000000) (hs : ∀ i, i < n → ∀ j, (s i).getD j 0 < 256) (hF : RowO O p n (fun k9 => sB (s k9))) (w0 : World) (H : Has w0 O) :
    Calls Try.prog 18 #[.slice p n c] w0 fun e w' => ∃ v, e = .returned v ∧ NewF n (fun k9 => sB (mAt s n k9)) 9 w0 w' v := by
  refine enter_fr Try.func18 rfl Try.ntmps18 (by simp) fun ac (FF : Fr 51 ac [(0, .slice p n c)]) => ?_
  have MM : MemS (fun k => k < w0.heap.size ∧ ∀ x ∈ O, x.1 ≠ k) w0 w0 O [] := MemS.startN H hD
  refine wp_seq (rg_c FF MM [] 3 [] [] (fun _ _ FF1 MM1 => then_n ?_))
  refine wp_seq (rg_c FF1 MM1 [(2, n_ (.slice none n n) (.cells (fc n (fun k9 => sB [])) 9))] 4 [] [] (⟨(makeF_ok (t := 36) (e := 9) (p := (.tmp 8)) (q := (.tmp 8)) (bb := 16) (z := sB []) (by kernel_rfl) rfl rfl Try.underlying36 (by kernel_rfl) rfl (by omega) (by omega)), fun bl => fun _ _ FF2 MM2 => then_n ?_⟩))
  have MMr3 : MemS _ _ _ ((bl, .cells (fc n (fun k9 => sB (if k9 < 0 then List.replicate 36 0 else []))) 9) :: _) _ := MM2.eqA 0 rfl (by rw [show fc n (fun k9 => sB (if k9 < 0 then List.replicate 36 0 else [])) = fc n (fun k9 => sB []) from fc_cong fun j _ => vS (if_neg (Nat.not_lt_zero j))] <;> rfl)
  refine wp_seq ?_
  refine wp_seq (rg_c FF2 MMr3 [] 13 [] [10] (fun _ _ FF4 MM4 => then_n ?_))
  refine wp_for (fun a' w' => ∃ i : Nat, i ≤ n ∧ Fr 51 a' [(12, iN i), (11, iN n), (3, .slice (some ⟨bl, 0, none⟩) n n), (0, .slice p n c)] ∧ MemS (fun k => k < w0.heap.size ∧ ∀ x ∈ O, x.1 ≠ k) w0 w' ((bl, .cells (fc n (fun k9 => sB (if k9 < i then List.replicate 36 0 else []))) 9) :: O) []) (fun a' _ => (n - cnt 12 a').toNat) ⟨0, Nat.zero_le _, FF4.pick [0, 1, 2, 4], MM4⟩ ?_
  rintro ac5 wd5 ⟨i, hi, FF5, MM5⟩
  have hc := cnt_of (FF5.get 0 rfl)
  refine rg_c FF5 MM5 [] 14 [] [] (fun _ _ FF6 MM6 => ?_)
  by_cases hlt : i < n
  · skip
    refine then_n (.inl ⟨(FF6.ev 0 rfl).trans (dec_t hlt), ?_⟩)
    refine wp_seq (rg_c FF6 MM6 [] 13 [] [] (fun _ _ FF7 MM7 => then_n ?_))
    refine rg_c FF7 MM7 [(2, t_ (sB (List.replicate 36 0))), (0, w_ 1), (0, s_ 0 (.cells (fc n (fun k9 => sB (if k9 < i + 1 then List.replicate 36 0 else []))) 9))] 13 [] [] (⟨(callP_of en_dno dno_any _), by omega, rfl, (by rw [fc_size]; exact hlt), (.inl rfl), ((fc_set _ _ _ _).trans (fc_cong fun j _ => ite_str.trans (vS (upto_set (fun _ => List.replicate 36 0) i j)))), fun _ _ FF8 MM8 => ?_⟩)
    refine inb_n (then_n ?_)
    refine rg_c FF8 MM8 [] 13 [] [] (⟨by omega, fun _ _ FF9 MM9 => ?_⟩)
    have hd := cnt_of (FF9.get 0 rfl)
    refine then_n ⟨⟨i + 1, by omega, FF9.pick [0, 2, 3, 4], MM9⟩, ?_⟩
    rw [hc, hd]; omega
  · skip
    refine then_n (.inr ⟨(FF6.ev 0 rfl).trans (dec_f hlt), ?_⟩)
    obtain rfl : n = i := by omega
    have MMr10 : MemS _ _ _ ((bl, .cells (fc n (fun k9 => sB (mV s n [] k9))) 9) :: _) _ := MM6.eqA 0 rfl (by rw [show fc n (fun k9 => sB (mV s n [] k9)) = fc n (fun k9 => sB (if k9 < n then List.replicate 36 0 else [])) from fc_cong fun j hj => vS ((mV_nil s n j).trans (if_pos hj).symm)] <;> rfl)
    refine then_n ?_
    refine wp_seq ?_
    refine wp_seq (wp_region_list ?_)
    refine rp_c 1 FF6 MMr10 [] 13 [20] [] (fun _ _ FF11 MM11 => ?_)
    refine st_callE [12, 11, 3, 0, 21] FF11 (d := 21) (mk := fun v => v) en_grp rfl rfl (grp_w p n c s (by omega) hs _ (hF.at (Has.tl MM11.hasL))) rfl (by kernel_rfl) (by decide) fun ac13 wd13 lv12 FF13 hr14 => ?_
    obtain ⟨bm, rfl, hB_bm, hf_bm, hb_bm⟩ := hr14
    have MM15 := MM11.keep hB_bm
    have MM16 : MemS (fun k => k < w0.heap.size ∧ ∀ x ∈ O, x.1 ≠ k) w0 wd13 ((bm, GMO (grpS s n)) :: (bl, .cells (fc n (fun k9 => sB (mV s n [] k9))) 9) :: O) [] := MM11.addFresh MM15 hb_bm hf_bm
    refine rp_c 1 FF13 MM16 [(0, n_ (.pointer none) (iterO bm (grpS s n).length []))] 13 [22] [] (⟨(range_ok (t := 66) (m := (.tmp 21)) (i := 0) (kf := (fun X => .agg (cn .u8 X))) (vf := grpV) (l := grpS s n) (by kernel_rfl) rfl Try.underlying66 rfl), fun it => fun _ _ FF17 MM17 => ?_⟩)
    refine wpl_nil (then_n ?_)
    refine wp_forw (fun a' w' => ∃ seen : List Nat, seen.Nodup ∧ (∀ p ∈ seen, p < (grpS s n).length) ∧ Fr 51 a' [(22, pT it), (12, iN n), (11, iN n), (3, .slice (some ⟨bl, 0, none⟩) n n), (0, .slice p n c)] ∧ MemS (fun k => k < w0.heap.size ∧ ∀ x ∈ O, x.1 ≠ k) w0 w' ((it, iterO bm (grpS s n).length seen) :: (bm, GMO (grpS s n)) :: (bl, .cells (fc n (fun k9 => sB (mV s n seen k9))) 9) :: O) []) (fun _ w' => (Go.leftOf (ents (fun X => Value.agg (cn .u8 X)) grpV 0 (grpS s n)).toArray (w'.iterSeen it)).size) ⟨[], (.nil), (fun _ h => (nomatch h)), FF17.pick [0, 1, 2, 3, 4], MM17⟩ ?_
    rintro ac18 wd18 ⟨seen, hnd, hsb, FF18, MM18⟩
    have hc := iterSeen_of (MM18.get 0 rfl)
    refine wp_region_list ?_
    refine st_next [22, 12, 11, 3, 0, 24, 23] FF18 MM18 (m := .tmp 22) (i := 1) (j := 0) (l := grpS s n) (seen := seen) rfl rfl rfl rfl (d := 23) rfl rfl (by decide) (fun hall ac18a FFa => ?_) (fun pz x g ac18b wdb hp hns FFb MMb => ?_)
    · skip
      refine rp_c 1 FFa MM18 [] 23 [24] [] (fun _ _ FF19 MM19 => ?_)
      refine wpl_nil ?_
      refine then_n (.inr ⟨FF19.ev 0 rfl, ?_⟩)
      have MMr20 : MemS _ _ _ (_ :: _ :: (bl, .cells (fc n (fun k9 => sB (mAt s n k9))) 9) :: _) _ := MM19.eqA 2 rfl (by rw [show fc n (fun k9 => sB (mAt s n k9)) = fc n (fun k9 => sB (mV s n seen k9)) from fc_cong fun j hj => vS (mV_all hall hj).symm] <;> rfl)
      refine then_n ?_
      refine wp_seq (rg_c FF19 MMr20 [] 23 [] [] (fun _ _ FF21 MM21 => then_n ?_))
      refine wp_ret ?_
      repeat first | refine then_ret ?_ | refine inb_ret ?_
      exact (ret_fr FF21 0 Try.results18 rfl ⟨_, rfl, bl, rfl, MM21.belowN H (fun _ hx => List.mem_cons_of_mem _ (List.mem_cons_of_mem _ (List.mem_cons_of_mem _ (hx)))), (((MM21.dropAt 1).dropAt 0)).newest (fun _ hx => hx), MM21.get 2 rfl⟩)
    · skip
      obtain ⟨ha1, ha2, ha3, ha4, ha5, ha6⟩ := grp_at hp
      obtain ⟨hb1, hb2⟩ := grp_lst hp
      have hpl : pz < (grpS s n).length := (List.getElem?_eq_some_iff.1 hp).1
      have hnd' : (seen ++ [pz]).Nodup := List.nodup_append.2 ⟨hnd, (by simp), fun a ha b hb => by rw [List.mem_singleton.1 hb]; exact fun e => hns (e ▸ ha)⟩
      have hsb' : ∀ q ∈ seen ++ [pz], q < (grpS s n).length := fun q hq => (List.mem_append.1 hq).elim (hsb q) (fun h => List.mem_singleton.1 h ▸ hpl)
      refine rp_c 1 FFb MMb [] 23 [24] [] (fun _ _ FF22 MM22 => ?_)
      refine wpl_nil ?_
      refine then_n (.inl ⟨FF22.ev 0 rfl, ?_⟩)
      refine wp_seq (rg_c FF22 MM22 [(0, f_ (.tuple #[.agg (cn .u8 x), aG #[iN g.1, iN g.2.1, iN g.2.2]])), (2, b_ 0)] 23 [] [] (⟨(entry_ok (m := (.tmp 22)) (i := 1) (j := 0) (b := bm) (r := it) (kf := (fun X => .agg (cn .u8 X))) (vf := grpV) (l := grpS s n) (seen := seen) (p := pz) (x := x) (v := g) (by kernel_rfl) rfl rfl rfl hp), fun bg => ⟨rfl, rfl, rfl, (by kernel_rfl), rfl, fun _ _ FF23 MM23 => then_n ?_⟩⟩))
      refine wp_seq (rg_c FF23 MM23 [(1, l_ 0 (iN g.1))] 23 [29] [] (⟨rfl, rfl, fun _ _ FF24 MM24 => then_n ?_⟩))
      by_cases hs29 : g.1 = 2
      · refine wp_cond_true ((FF24.ev 0 rfl).trans (dec_t hs29)) ?_
        have hlf : (s g.2.1).length = 52 := ha1.1
        have hll : (s g.2.2).length = 52 := hb2.2.1
        refine late_stand (N := 22) ((bg, oC #[iN g.1, iN g.2.1, iN g.2.2] 70) :: O) (by kernel_rfl) (by kernel_rfl) MM24 fun wq25 MM26 => ?_
        refine late_take FF24 (i := 0) (oi := (opAt Try.f18 11 0)) (v := (.slice (some ⟨bl, 0, none⟩) n n)) (d := 30) ((((MM26.dropAt 3).dropAt 2).dropAt 1)).hasL (by kernel_rfl) (by kernel_rfl) (by kernel_rfl) (by kernel_rfl) (by kernel_rfl) (fun _ _ _ _ _ h => h) (by kernel_rfl) (by decide) (by kernel_rfl) (mvV (x := (.tmp 3)) (by kernel_rfl) rfl) fun _ FF27 => ?_
        refine late_take FF27 (i := 1) (oi := (opAt Try.f18 11 1)) (v := (.pointer (some ⟨bg, 1, none⟩))) (d := 31) ((((MM26.dropAt 3).dropAt 2).dropAt 1)).hasL (by kernel_rfl) (by kernel_rfl) (by kernel_rfl) (by kernel_rfl) (by kernel_rfl) (fun _ _ _ _ _ h => h) (by kernel_rfl) (by decide) (by kernel_rfl) (fldV (x := (.tmp 6)) (t := 70) (k := 1) (cs := []) (by kernel_rfl) rfl (by kernel_rfl)) fun _ FF28 => ?_
        refine late_take FF28 (i := 2) (oi := (opAt Try.f18 11 2)) (v := (iN g.2.1)) (d := 32) ((((MM26.dropAt 3).dropAt 2).dropAt 1)).hasL (by kernel_rfl) (by kernel_rfl) (by kernel_rfl) (by kernel_rfl) (by kernel_rfl) (fun _ _ _ _ _ h => h) (by kernel_rfl) (by decide) (by kernel_rfl) (loadVi (x := (.tmp 31)) (k := 0) (by kernel_rfl) rfl Try.underlying3 rfl rfl rfl) fun ac29 FF29 => ?_
        have FFz30 : Fr 51 ac29 [(32, iN g.2.1), (30, .slice (some ⟨bl, 0, none⟩) n n), (6, pT bg), (22, pT it), (12, iN n), (11, iN n), (3, .slice (some ⟨bl, 0, none⟩) n n), (0, .slice p n c)] := FF29.pick [0, 2, 4, 5, 6, 7, 8, 9]
        refine late_take FFz30 (i := 3) (oi := (opAt Try.f18 11 3)) (v := (.slice (some ⟨bl, 0, none⟩) n n)) (d := 33) ((((MM26.dropAt 3).dropAt 2).dropAt 1)).hasL (by kernel_rfl) (by kernel_rfl) (by kernel_rfl) (by kernel_rfl) (by kernel_rfl) (fun _ _ _ _ _ h => h) (by kernel_rfl) (by decide) (by kernel_rfl) (mvV (x := (.tmp 3)) (by kernel_rfl) rfl) fun _ FF31 => ?_
        refine late_take FF31 (i := 4) (oi := (opAt Try.f18 11 4)) (v := (.pointer (some ⟨bg, 2, none⟩))) (d := 34) ((((MM26.dropAt 3).dropAt 2).dropAt 1)).hasL (by kernel_rfl) (by kernel_rfl) (by kernel_rfl) (by kernel_rfl) (by kernel_rfl) (fun _ _ _ _ _ h => h) (by kernel_rfl) (by decide) (by kernel_rfl) (fldV (x := (.tmp 6)) (t := 70) (k := 2) (cs := []) (by kernel_rfl) rfl (by kernel_rfl)) fun _ FF32 => ?_
        refine late_take FF32 (i := 5) (oi := (opAt Try.f18 11 5)) (v := (iN g.2.2)) (d := 35) ((((MM26.dropAt 3).dropAt 2).dropAt 1)).hasL (by kernel_rfl) (by kernel_rfl) (by kernel_rfl) (by kernel_rfl) (by kernel_rfl) (fun _ _ _ _ _ h => h) (by kernel_rfl) (by decide) (by kernel_rfl) (loadVi (x := (.tmp 34)) (k := 0) (by kernel_rfl) rfl Try.underlying3 rfl rfl rfl) fun ac33 FF33 => ?_
        have FFz34 : Fr 51 ac33 [(35, iN g.2.2), (33, .slice (some ⟨bl, 0, none⟩) n n), (32, iN g.2.1), (30, .slice (some ⟨bl, 0, none⟩) n n), (6, pT bg), (22, pT it), (12, iN n), (11, iN n), (3, .slice (some ⟨bl, 0, none⟩) n n), (0, .slice p n c)] := FF33.pick [0, 2, 3, 4, 5, 6, 7, 8, 9, 10]
        refine late_take FFz34 (i := 6) (oi := (opAt Try.f18 11 6)) (v := (.slice p n c)) (d := 36) ((((MM26.dropAt 3).dropAt 2).dropAt 1)).hasL (by kernel_rfl) (by kernel_rfl) (by kernel_rfl) (by kernel_rfl) (by kernel_rfl) (fun _ _ _ _ _ h => h) (by kernel_rfl) (by decide) (by kernel_rfl) (mvV (x := (.tmp 0)) (by kernel_rfl) rfl) fun _ FF35 => ?_
        refine late_take FF35 (i := 7) (oi := (opAt Try.f18 11 7)) (v := (.pointer (some ⟨bg, 2, none⟩))) (d := 37) ((((MM26.dropAt 3).dropAt 2).dropAt 1)).hasL (by kernel_rfl) (by kernel_rfl) (by kernel_rfl) (by kernel_rfl) (by kernel_rfl) (fun _ _ _ _ _ h => h) (by kernel_rfl) (by decide) (by kernel_rfl) (fldV (x := (.tmp 6)) (t := 70) (k := 2) (cs := []) (by kernel_rfl) rfl (by kernel_rfl)) fun _ FF36 => ?_
        refine late_take FF36 (i := 8) (oi := (opAt Try.f18 11 8)) (v := (iN g.2.2)) (d := 38) ((((MM26.dropAt 3).dropAt 2).dropAt 1)).hasL (by kernel_rfl) (by kernel_rfl) (by kernel_rfl) (by kernel_rfl) (by kernel_rfl) (fun _ _ _ _ _ h => h) (by kernel_rfl) (by decide) (by kernel_rfl) (loadVi (x := (.tmp 37)) (k := 0) (by kernel_rfl) rfl Try.underlying3 rfl rfl rfl) fun ac37 FF37 => ?_
        have FFz38 : Fr 51 ac37 [(38, iN g.2.2), (36, .slice p n c), (35, iN g.2.2), (33, .slice (some ⟨bl, 0, none⟩) n n), (32, iN g.2.1), (30, .slice (some ⟨bl, 0, none⟩) n n), (6, pT bg), (22, pT it), (12, iN n), (11, iN n), (3, .slice (some ⟨bl, 0, none⟩) n n), (0, .slice p n c)] := FF37.pick [0, 2, 3, 4, 5, 6, 7, 8, 9, 10, 11, 12]
        refine late_take FFz38 (i := 9) (oi := (opAt Try.f18 11 9)) (v := (.pointer (some ⟨gOf p, oOf p + g.2.2, none⟩))) (d := 39) ((((MM26.dropAt 3).dropAt 2).dropAt 1)).hasL (by kernel_rfl) (by kernel_rfl) (by kernel_rfl) (by kernel_rfl) (by kernel_rfl) (fun _ _ _ _ _ h => h) (by kernel_rfl) (by decide) (by kernel_rfl) (rowX_addr (x := (.tmp 36)) (y := (.tmp 38)) (k := 1) (i := g.2.2) (by kernel_rfl) rfl rfl Try.underlying36 (by kernel_rfl) hF (by omega) hb1) fun _ FF39 => ?_
        refine late_take FF39 (i := 10) (oi := (opAt Try.f18 11 10)) (v := (sB (s g.2.2))) (d := 40) ((((MM26.dropAt 3).dropAt 2).dropAt 1)).hasL (by kernel_rfl) (by kernel_rfl) (by kernel_rfl) (by kernel_rfl) (by kernel_rfl) (fun _ _ _ _ _ h => h) (by kernel_rfl) (by decide) (by kernel_rfl) (rowX_load (x := (.tmp 39)) (j := g.2.2) (by kernel_rfl) rfl Try.underlying9 rfl hF (fun _ hx => List.mem_cons_of_mem _ (hx)) (by omega) rfl) fun _ FF40 => ?_
        refine late_take FF40 (i := 12) (oi := (opAt Try.f18 11 12)) (v := (.slice p n c)) (d := 42) ((((MM26.dropAt 3).dropAt 2).dropAt 1)).hasL (by kernel_rfl) (by kernel_rfl) (by kernel_rfl) (by kernel_rfl) (by kernel_rfl) (fun _ _ _ _ _ h => h) (by kernel_rfl) (by decide) (by kernel_rfl) (mvV (x := (.tmp 0)) (by kernel_rfl) rfl) fun ac41 FF41 => ?_
        have FFz42 : Fr 51 ac41 [(42, .slice p n c), (40, sB (s g.2.2)), (35, iN g.2.2), (33, .slice (some ⟨bl, 0, none⟩) n n), (32, iN g.2.1), (30, .slice (some ⟨bl, 0, none⟩) n n), (6, pT bg), (22, pT it), (12, iN n), (11, iN n), (3, .slice (some ⟨bl, 0, none⟩) n n), (0, .slice p n c)] := FF41.pick [0, 1, 5, 6, 7, 8, 9, 10, 11, 12, 13, 14]
        refine late_take FFz42 (i := 13) (oi := (opAt Try.f18 11 13)) (v := (.pointer (some ⟨bg, 1, none⟩))) (d := 43) ((((MM26.dropAt 3).dropAt 2).dropAt 1)).hasL (by kernel_rfl) (by kernel_rfl) (by kernel_rfl) (by kernel_rfl) (by kernel_rfl) (fun _ _ _ _ _ h => h) (by kernel_rfl) (by decide) (by kernel_rfl) (fldV (x := (.tmp 6)) (t := 70) (k := 1) (cs := []) (by kernel_rfl) rfl (by kernel_rfl)) fun _ FF43 => ?_
        refine late_take FF43 (i := 14) (oi := (opAt Try.f18 11 14)) (v := (iN g.2.1)) (d := 44) ((((MM26.dropAt 3).dropAt 2).dropAt 1)).hasL (by kernel_rfl) (by kernel_rfl) (by kernel_rfl) (by kernel_rfl) (by kernel_rfl) (fun _ _ _ _ _ h => h) (by kernel_rfl) (by decide) (by kernel_rfl) (loadVi (x := (.tmp 43)) (k := 0) (by kernel_rfl) rfl Try.underlying3 rfl rfl rfl) fun _ FF44 => ?_
        refine late_take FF44 (i := 15) (oi := (opAt Try.f18 11 15)) (v := (.pointer (some ⟨gOf p, oOf p + g.2.1, none⟩))) (d := 45) ((((MM26.dropAt 3).dropAt 2).dropAt 1)).hasL (by kernel_rfl) (by kernel_rfl) (by kernel_rfl) (by kernel_rfl) (by kernel_rfl) (fun _ _ _ _ _ h => h) (by kernel_rfl) (by decide) (by kernel_rfl) (rowX_addr (x := (.tmp 42)) (y := (.tmp 44)) (k := 1) (i := g.2.1) (by kernel_rfl) rfl rfl Try.underlying36 (by kernel_rfl) hF (by omega) ha2) fun ac45 FF45 => ?_
        have FFz46 : Fr 51 ac45 [(45, .pointer (some ⟨gOf p, oOf p + g.2.1, none⟩)), (40, sB (s g.2.2)), (35, iN g.2.2), (33, .slice (some ⟨bl, 0, none⟩) n n), (32, iN g.2.1), (30, .slice (some ⟨bl, 0, none⟩) n n), (6, pT bg), (22, pT it), (12, iN n), (11, iN n), (3, .slice (some ⟨bl, 0, none⟩) n n), (0, .slice p n c)] := FF45.pick [0, 4, 5, 6, 7, 8, 9, 10, 11, 12, 13, 14]
        refine late_take FFz46 (i := 16) (oi := (opAt Try.f18 11 16)) (v := (sB (s g.2.1))) (d := 46) ((((MM26.dropAt 3).dropAt 2).dropAt 1)).hasL (by kernel_rfl) (by kernel_rfl) (by kernel_rfl) (by kernel_rfl) (by kernel_rfl) (fun _ _ _ _ _ h => h) (by kernel_rfl) (by decide) (by kernel_rfl) (rowX_load (x := (.tmp 45)) (j := g.2.1) (by kernel_rfl) rfl Try.underlying9 rfl hF (fun _ hx => List.mem_cons_of_mem _ (hx)) (by omega) rfl) fun ac47 FF47 => ?_
        have FFz48 : Fr 51 ac47 [(46, sB (s g.2.1)), (40, sB (s g.2.2)), (35, iN g.2.2), (33, .slice (some ⟨bl, 0, none⟩) n n), (32, iN g.2.1), (30, .slice (some ⟨bl, 0, none⟩) n n), (6, pT bg), (22, pT it), (12, iN n), (11, iN n), (3, .slice (some ⟨bl, 0, none⟩) n n), (0, .slice p n c)] := FF47.pick [0, 2, 3, 4, 5, 6, 7, 8, 9, 10, 11, 12]
        refine late_one (i := 11) (oi := (opAt Try.f18 11 11)) (by kernel_rfl) (by kernel_rfl) ?_
        refine rp_c 1 FFz48 MM26 [(0, t_ (sB ((s g.2.2).drop 16)))] 47 [] [40] (⟨(callP_of en_dbox (fun w => by have h0 := dbox_any (s g.2.2) (hs _ hb1) w; rw [partsR_ok hll] at h0; exact h0) _), fun ac49 _ FF49 MM49 => ?_⟩)
        refine wpl_nil (onN_n ⟨fun _ => ((((MM49.dropAt 3).dropAt 2).dropAt 1)).hasL, ?_⟩)
        have FFz50 : Fr 51 ac49 [(41, sB ((s g.2.2).drop 16)), (46, sB (s g.2.1)), (35, iN g.2.2), (33, .slice (some ⟨bl, 0, none⟩) n n), (32, iN g.2.1), (30, .slice (some ⟨bl, 0, none⟩) n n), (6, pT bg), (22, pT it), (12, iN n), (11, iN n), (3, .slice (some ⟨bl, 0, none⟩) n n), (0, .slice p n c)] := FF49.pick [0, 1, 2, 3, 4, 5, 6, 7, 8, 9, 10, 11]
        refine late_one (i := 17) (oi := (opAt Try.f18 11 17)) (by kernel_rfl) (by kernel_rfl) ?_
        refine rp_c 1 FFz50 MM49 [(0, t_ (sB ((s g.2.1).drop 16)))] 42 [47] [] (⟨(callP_of en_dbox (fun w => by have h0 := dbox_any (s g.2.1) (hs _ ha2) w; rw [partsR_ok hlf] at h0; exact h0) _), fun ac51 _ FF51 MM51 => ?_⟩)
        refine wpl_nil (onN_n ⟨fun _ => ((((MM51.dropAt 3).dropAt 2).dropAt 1)).hasL, ?_⟩)
        have FFz52 : Fr 51 ac51 [(47, sB ((s g.2.1).drop 16)), (41, sB ((s g.2.2).drop 16)), (35, iN g.2.2), (33, .slice (some ⟨bl, 0, none⟩) n n), (32, iN g.2.1), (30, .slice (some ⟨bl, 0, none⟩) n n), (6, pT bg), (22, pT it), (12, iN n), (11, iN n), (3, .slice (some ⟨bl, 0, none⟩) n n), (0, .slice p n c)] := FF51.pick [0, 1, 2, 3, 4, 5, 6, 7, 8, 9, 10, 11]
        refine late_one (i := 18) (oi := (opAt Try.f18 11 18)) (by kernel_rfl) (by kernel_rfl) ?_
        refine rp_c 1 FFz52 MM51 [(0, w_ 1)] 49 [] [32, 30] (⟨ha2, fun ac53 _ FF53 MM53 => ?_⟩)
        refine wpl_nil (onN_n ⟨fun _ => ((((MM53.dropAt 3).dropAt 2).dropAt 1)).hasL, ?_⟩)
        have FFz54 : Fr 51 ac53 [(48, .pointer (some ⟨bl, g.2.1, none⟩)), (47, sB ((s g.2.1).drop 16)), (41, sB ((s g.2.2).drop 16)), (35, iN g.2.2), (33, .slice (some ⟨bl, 0, none⟩) n n), (6, pT bg), (22, pT it), (12, iN n), (11, iN n), (3, .slice (some ⟨bl, 0, none⟩) n n), (0, .slice p n c)] := FF53.pick [0, 1, 2, 3, 4, 5, 6, 7, 8, 9, 10]
        refine late_one (i := 19) (oi := (opAt Try.f18 11 19)) (by kernel_rfl) (by kernel_rfl) ?_
        refine rp_c 1 FFz54 MM53 [(0, s_ 3 (.cells (fc n (fun k9 => sB (if k9 = g.2.1 then (s g.2.2).drop 16 else mV s n seen k9))) 9))] 36 [47] [] (⟨rfl, (by rw [fc_size]; exact ha2), (.inl rfl), ((fc_set _ _ _ _).trans (fc_cong fun j _ => ite_str)), fun ac55 _ FF55 MM55 => ?_⟩)
        refine wpl_nil (onN_n ⟨fun _ => ((((MM55.dropAt 3).dropAt 2).dropAt 1)).hasL, ?_⟩)
        have FFz56 : Fr 51 ac55 [(47, sB ((s g.2.1).drop 16)), (35, iN g.2.2), (33, .slice (some ⟨bl, 0, none⟩) n n), (6, pT bg), (22, pT it), (12, iN n), (11, iN n), (3, .slice (some ⟨bl, 0, none⟩) n n), (0, .slice p n c)] := FF55.pick [0, 1, 2, 3, 4, 5, 6, 7, 8]
        refine late_one (i := 20) (oi := (opAt Try.f18 11 20)) (by kernel_rfl) (by kernel_rfl) ?_
        refine rp_c 1 FFz56 MM55 [(0, w_ 1)] 23 [47, 49] [] (⟨hb1, fun ac57 _ FF57 MM57 => ?_⟩)
        refine wpl_nil (onN_n ⟨fun _ => ((((MM57.dropAt 3).dropAt 2).dropAt 1)).hasL, ?_⟩)
        have FFz58 : Fr 51 ac57 [(49, .pointer (some ⟨bl, g.2.2, none⟩)), (47, sB ((s g.2.1).drop 16)), (6, pT bg), (22, pT it), (12, iN n), (11, iN n), (3, .slice (some ⟨bl, 0, none⟩) n n), (0, .slice p n c)] := FF57.pick [0, 1, 2, 3, 4, 5, 6, 7]
        refine late_one (i := 21) (oi := (opAt Try.f18 11 21)) (by kernel_rfl) (by kernel_rfl) ?_
        refine rp_c 1 FFz58 MM57 [(0, s_ 3 (.cells (fc n (fun k9 => sB (mV s n (seen ++ [pz]) k9))) 9))] 23 [] [] (⟨rfl, (by rw [fc_size]; exact hb1), (.inl rfl), ((fc_set _ _ _ _).trans (fc_cong fun j hj => ite_str.trans (vS (mV_put hp hs29 seen hj).symm))), fun _ _ FF59 MM59 => ?_⟩)
        refine wpl_nil (onN_n ⟨fun _ => ((((MM59.dropAt 3).dropAt 2).dropAt 1)).hasL, ?_⟩)
        refine late_none (by kernel_rfl) ?_
        refine inb_n ?_
        have hd := iterSeen_of (MM59.get 1 rfl)
        refine then_n ⟨⟨(seen ++ [pz]), hnd', hsb', FF59.pick [1, 2, 3, 4, 5], (MM59.dropAt 0)⟩, ?_⟩
        rw [hc, hd]; exact left_less hp hns
      · refine wp_cond_false ((FF24.ev 0 rfl).trans (dec_f hs29)) ?_
        have MMr60 : MemS _ _ _ (_ :: _ :: _ :: (bl, .cells (fc n (fun k9 => sB (mV s n (seen ++ [pz]) k9))) 9) :: _) _ := MM24.eqA 3 rfl (by rw [show fc n (fun k9 => sB (mV s n (seen ++ [pz]) k9)) = fc n (fun k9 => sB (mV s n seen k9)) from fc_cong fun j hj => vS (mV_skip hp hs29 seen hj)] <;> rfl)
        refine wp_skip ?_
        refine inb_n ?_
        have hd := iterSeen_of (MMr60.get 1 rfl)
        refine then_n ⟨⟨(seen ++ [pz]), hnd', hsb', FF24.pick [2, 3, 4, 5, 6], (MMr60.dropAt 0)⟩, ?_⟩
        rw [hc, hd]; exact left_less hp hns
theorem dmf_w (p : Option Addr) (n c : Nat) (s : Nat → List Nat) (hn : n ≤ 1000000) (hs : ∀ i, i < n → ∀ j, (s i).getD j 0 < 256) (w : World) (hF : RowIn w p n (fun k9 => sB (s k9))) :
    Calls Try.prog 18 #[.slice p n c] w fun e w' => ∃ v, e = .returned v ∧ NewF n (fun k9 => sB (mAt s n k9)) 9 w w' v := by
  obtain ⟨O, h1, h2, h3⟩ := row_O hF
  exact dm_O O h2 p n c s hn hs h3 w h1
theorem dm_w (p : Option Addr) (n c : Nat) (s : Nat → List Nat) (hn : n ≤ 1000000) (hs : ∀ i, i < n → ∀ j, (s i).getD j 0 < 256) (w : World) (hF : RowIn w p n (fun k9 => sB (s k9))) :
    Calls Try.prog 18 #[.slice p n c] w fun e w' => ∃ v, e = .returned (.slice (pOf v) n (cOf v)) ∧ Below w.heap.size w w' ∧ RowNew w.heap.size w' (pOf v) n (fun k9 => sB (mAt s n k9)) := by
  refine (dmf_w p n c s hn hs w hF).mono fun e w' ⟨v, h1, g, h2, h3, h4, h5⟩ => ?_
  subst h2
  exact ⟨.slice (some ⟨g, 0, none⟩) n n, h1, h3, rowNew_fc h5 h4⟩
end Go.Proofs.Ythgfjeljfiadmaa
namespace Go.Proofs.Ythgfjeljfiadmaa
open Go.RowKit
set_option maxHeartbeats 1000000 in
set_option maxRecDepth 100000 in
theorem dc_O (O : Blks) (hD : Distinct O) (p : Option Addr) (n c : Nat) (s : Nat → List Nat) (hn : n ≤ 1000000) (hs : ∀ i, i < n → ∀ j, (s i).getD j 0 < 256) (hF : RowO O p n (fun k9 => sB (s k9))) (w0 : World) (H : Has w0 O) :
    Calls Try.prog 17 #[.slice p n c] w0 fun e w' => e = .returned (.tuple #[iN (cls s n c1 n), iN (cls s n c2 n), iN (cls s n c3 n)]) ∧ Below w0.heap.size w0 w' := by
  refine enter_fr Try.func17 rfl Try.ntmps17 (by simp) fun ac (FF : Fr 29 ac [(0, .slice p n c)]) => ?_
  have MM : MemS (fun k => k < w0.heap.size ∧ ∀ x ∈ O, x.1 ≠ k) w0 w0 O [] := MemS.startN H hD
  refine wp_seq (rg_c FF MM [] 5 [] [] (fun _ _ FF1 MM1 => then_n ?_))
  refine wp_seq ?_
  refine wp_seq (wp_region_list ?_)
  refine rp_c 1 FF1 MM1 [] 8 [] [0] (fun _ _ FF2 MM2 => ?_)
  refine st_callE [4, 3, 2, 8] FF2 (d := 8) (mk := fun v => v) en_grp rfl rfl (grp_w p n c s (by omega) hs _ (hF.at MM2.hasL)) rfl (by kernel_rfl) (by decide) fun ac4 wd4 lv3 FF4 hr5 => ?_
  obtain ⟨bm, rfl, hB_bm, hf_bm, hb_bm⟩ := hr5
  have MM6 := MM2.keep hB_bm
  have MM7 : MemS (fun k => k < w0.heap.size ∧ ∀ x ∈ O, x.1 ≠ k) w0 wd4 ((bm, GMO (grpS s n)) :: O) [] := MM2.addFresh MM6 hb_bm hf_bm
  refine rp_c 1 FF4 MM7 [(0, n_ (.pointer none) (iterO bm (grpS s n).length []))] 5 [9] [] (⟨(range_ok (t := 66) (m := (.tmp 8)) (i := 0) (kf := (fun X => .agg (cn .u8 X))) (vf := grpV) (l := grpS s n) (by kernel_rfl) rfl Try.underlying66 rfl), fun it => fun _ _ FF8 MM8 => ?_⟩)
  refine wpl_nil (then_n ?_)
  refine wp_forw (fun a' w' => ∃ seen : List Nat, seen.Nodup ∧ (∀ p ∈ seen, p < (grpS s n).length) ∧ Fr 29 a' [(9, pT it), (4, iN (cSn (grpS s n) c3 seen)), (3, iN (cSn (grpS s n) c2 seen)), (2, iN (cSn (grpS s n) c1 seen))] ∧ MemS (fun k => k < w0.heap.size ∧ ∀ x ∈ O, x.1 ≠ k) w0 w' ((it, iterO bm (grpS s n).length seen) :: (bm, GMO (grpS s n)) :: O) []) (fun _ w' => (Go.leftOf (ents (fun X => Value.agg (cn .u8 X)) grpV 0 (grpS s n)).toArray (w'.iterSeen it)).size) ⟨[], (.nil), (fun _ h => (nomatch h)), FF8.pick [0, 1, 2, 3], MM8⟩ ?_
  rintro ac9 wd9 ⟨seen, hnd, hsb, FF9, MM9⟩
  have hc := iterSeen_of (MM9.get 0 rfl)
  refine wp_region_list ?_
  refine st_next [9, 4, 3, 2, 11, 10] FF9 MM9 (m := .tmp 9) (i := 1) (j := 0) (l := grpS s n) (seen := seen) rfl rfl rfl rfl (d := 10) rfl rfl (by decide) (fun hall ac9a FFa => ?_) (fun pz x g ac9b wdb hp hns FFb MMb => ?_)
  · skip
    refine rp_c 1 FFa MM9 [] 10 [11] [] (fun ac10 _ FF10 MM10 => ?_)
    refine wpl_nil ?_
    refine then_n (.inr ⟨FF10.ev 0 rfl, ?_⟩)
    have FFz11 : Fr 29 ac10 [(11, .bool false), (9, pT it), (4, iN (cls s n c3 n)), (3, iN (cls s n c2 n)), (2, iN (cls s n c1 n))] := by rw [← cSn_all c1 hnd hsb hall, ← cSn_all c2 hnd hsb hall, ← cSn_all c3 hnd hsb hall]; exact FF10
    refine then_n ?_
    refine wp_seq (rg_c FFz11 MM10 [] 5 [9] [] (fun _ _ FF12 MM12 => then_n ?_))
    refine wp_ret ?_
    repeat first | refine then_ret ?_ | refine inb_ret ?_
    exact (ret_tup3 FF12 2 1 0 Try.results17 rfl rfl rfl ⟨rfl, MM12.belowN H (fun _ hx => List.mem_cons_of_mem _ (List.mem_cons_of_mem _ (hx)))⟩)
  · skip
    obtain ⟨ha1, ha2, ha3, ha4, ha5, ha6⟩ := grp_at hp
    obtain ⟨hb1, hb2⟩ := grp_lst hp
    have hpl : pz < (grpS s n).length := (List.getElem?_eq_some_iff.1 hp).1
    have hnd' : (seen ++ [pz]).Nodup := List.nodup_append.2 ⟨hnd, (by simp), fun a ha b hb => by rw [List.mem_singleton.1 hb]; exact fun e => hns (e ▸ ha)⟩
    have hsb' : ∀ q ∈ seen ++ [pz], q < (grpS s n).length := fun q hq => (List.mem_append.1 hq).elim (hsb q) (fun h => List.mem_singleton.1 h ▸ hpl)
    refine rp_c 1 FFb MMb [] 10 [11] [] (fun _ _ FF13 MM13 => ?_)
    refine wpl_nil ?_
    refine then_n (.inl ⟨FF13.ev 0 rfl, ?_⟩)
    have hln := seen_len hnd'  hsb'
    have hgl := grp_len s n
    rw [List.length_append, List.length_singleton] at hln
    have hk1 := cSn_le (grpS s n) c1 seen
    have hk2 := cSn_le (grpS s n) c2 seen
    have hk3 := cSn_le (grpS s n) c3 seen
    refine wp_seq (rg_c FF13 MM13 [(0, f_ (.tuple #[.agg (cn .u8 x), aG #[iN g.1, iN g.2.1, iN g.2.2]])), (2, b_ 0)] 7 [9] [] (⟨(entry_ok (m := (.tmp 9)) (i := 1) (j := 0) (b := bm) (r := it) (kf := (fun X => .agg (cn .u8 X))) (vf := grpV) (l := grpS s n) (seen := seen) (p := pz) (x := x) (v := g) (by kernel_rfl) rfl rfl rfl hp), fun bg => ⟨rfl, rfl, rfl, (by kernel_rfl), rfl, fun _ _ FF14 MM14 => then_n ?_⟩⟩))
    refine wp_seq (rg_c FF14 MM14 [(1, l_ 0 (iN g.1))] 10 [15] [] (⟨rfl, rfl, fun _ _ FF15 MM15 => then_n ?_⟩))
    refine wp_block ?_
    refine wp_seq (rg_c FF15 MM15 [] 19 [] [] (fun _ _ FF16 MM16 => then_n ?_))
    by_cases hs18 : g.1 = 1
    · refine wp_cond_true ((FF16.ev 0 rfl).trans (dec_t hs18)) ?_
      refine rg_c FF16 MM16 [] 16 [] [] (⟨by omega, fun ac17 _ FF17 MM17 => ?_⟩)
      have FFz18 : Fr 29 ac17 [(2, iN (cSn (grpS s n) c1 (seen ++ [pz]))), (15, iN g.1), (6, pT bg), (9, pT it), (4, iN (cSn (grpS s n) c3 (seen ++ [pz]))), (3, iN (cSn (grpS s n) c2 (seen ++ [pz])))] := by rw [show cSn (grpS s n) c1 (seen ++ [pz]) = cSn (grpS s n) c1 seen + 1 from (cSn_push hp c1 seen).trans (by rw [if_pos (show c1 g.1 = true from decide_eq_true (by omega))]), show cSn (grpS s n) c2 (seen ++ [pz]) = cSn (grpS s n) c2 seen from (cSn_push hp c2 seen).trans (by rw [if_neg (show ¬ c2 g.1 = true from fun h => absurd (of_decide_eq_true h) (by omega)), Nat.add_zero]), show cSn (grpS s n) c3 (seen ++ [pz]) = cSn (grpS s n) c3 seen from (cSn_push hp c3 seen).trans (by rw [if_neg (show ¬ c3 g.1 = true from fun h => absurd (of_decide_eq_true h) (by omega)), Nat.add_zero])]; exact FF17
      refine inb_n ?_
      refine inb_n ?_
      have hd := iterSeen_of (MM17.get 1 rfl)
      refine then_n ⟨⟨(seen ++ [pz]), hnd', hsb', FFz18.pick [3, 4, 5, 0], (MM17.dropAt 0)⟩, ?_⟩
      rw [hc, hd]; exact left_less hp hns
    · refine wp_cond_false ((FF16.ev 0 rfl).trans (dec_f hs18)) ?_
      refine wp_seq (rg_c FF16 MM16 [] 16 [22] [] (fun _ _ FF19 MM19 => then_n ?_))
      by_cases hs22 : g.1 = 2
      · refine wp_cond_true ((FF19.ev 0 rfl).trans (dec_t hs22)) ?_
        refine rg_c FF19 MM19 [] 16 [] [] (⟨by omega, fun ac20 _ FF20 MM20 => ?_⟩)
        have FFz21 : Fr 29 ac20 [(3, iN (cSn (grpS s n) c2 (seen ++ [pz]))), (15, iN g.1), (6, pT bg), (9, pT it), (4, iN (cSn (grpS s n) c3 (seen ++ [pz]))), (2, iN (cSn (grpS s n) c1 (seen ++ [pz])))] := by rw [show cSn (grpS s n) c1 (seen ++ [pz]) = cSn (grpS s n) c1 seen from (cSn_push hp c1 seen).trans (by rw [if_neg (show ¬ c1 g.1 = true from fun h => absurd (of_decide_eq_true h) (by omega)), Nat.add_zero]), show cSn (grpS s n) c2 (seen ++ [pz]) = cSn (grpS s n) c2 seen + 1 from (cSn_push hp c2 seen).trans (by rw [if_pos (show c2 g.1 = true from decide_eq_true (by omega))]), show cSn (grpS s n) c3 (seen ++ [pz]) = cSn (grpS s n) c3 seen from (cSn_push hp c3 seen).trans (by rw [if_neg (show ¬ c3 g.1 = true from fun h => absurd (of_decide_eq_true h) (by omega)), Nat.add_zero])]; exact FF20
        refine inb_n ?_
        refine inb_n ?_
        have hd := iterSeen_of (MM20.get 1 rfl)
        refine then_n ⟨⟨(seen ++ [pz]), hnd', hsb', FFz21.pick [3, 4, 0, 5], (MM20.dropAt 0)⟩, ?_⟩
        rw [hc, hd]; exact left_less hp hns
      · refine wp_cond_false ((FF19.ev 0 rfl).trans (dec_f hs22)) ?_
        refine rg_c FF19 MM19 [] 16 [] [] (⟨by omega, fun ac22 _ FF22 MM22 => ?_⟩)
        have FFz23 : Fr 29 ac22 [(4, iN (cSn (grpS s n) c3 (seen ++ [pz]))), (15, iN g.1), (6, pT bg), (9, pT it), (3, iN (cSn (grpS s n) c2 (seen ++ [pz]))), (2, iN (cSn (grpS s n) c1 (seen ++ [pz])))] := by rw [show cSn (grpS s n) c1 (seen ++ [pz]) = cSn (grpS s n) c1 seen from (cSn_push hp c1 seen).trans (by rw [if_neg (show ¬ c1 g.1 = true from fun h => absurd (of_decide_eq_true h) (by omega)), Nat.add_zero]), show cSn (grpS s n) c2 (seen ++ [pz]) = cSn (grpS s n) c2 seen from (cSn_push hp c2 seen).trans (by rw [if_neg (show ¬ c2 g.1 = true from fun h => absurd (of_decide_eq_true h) (by omega)), Nat.add_zero]), show cSn (grpS s n) c3 (seen ++ [pz]) = cSn (grpS s n) c3 seen + 1 from (cSn_push hp c3 seen).trans (by rw [if_pos (show c3 g.1 = true from decide_eq_true (by omega))])]; exact FF22
        refine inb_n ?_
        refine inb_n ?_
        have hd := iterSeen_of (MM22.get 1 rfl)
        refine then_n ⟨⟨(seen ++ [pz]), hnd', hsb', FFz23.pick [3, 0, 4, 5], (MM22.dropAt 0)⟩, ?_⟩
        rw [hc, hd]; exact left_less hp hns
theorem dc_w (p : Option Addr) (n c : Nat) (s : Nat → List Nat) (hn : n ≤ 1000000) (hs : ∀ i, i < n → ∀ j, (s i).getD j 0 < 256) (w : World) (hF : RowIn w p n (fun k9 => sB (s k9))) :
    Calls Try.prog 17 #[.slice p n c] w fun e w' => e = .returned (.tuple #[iN (cls s n c1 n), iN (cls s n c2 n), iN (cls s n c3 n)]) ∧ Below w.heap.size w w' := by
  obtain ⟨O, h1, h2, h3⟩ := row_O hF
  exact dc_O O h2 p n c s hn hs h3 w h1
end Go.Proofs.Ythgfjeljfiadmaa
namespace Go.Proofs.Ythgfjeljfiadmaa
open Go.RowKit
set_option maxRecDepth 100000 in
theorem counts_any (O : Blks) (hD : Distinct O) (X : List Nat) (hl : X.length = 4) (hX : ∀ i, X.getD i 0 < 256) (Y : List Nat) (hY : ∀ i, Y.getD i 0 < 256)  (w0 : World) (H : Has w0 O) :
    Calls Try.prog 4 #[.agg (cn .u8 X), sB Y] w0 fun e w' => e = .returned (.bool true) ∧ Below w0.heap.size w0 w' := by
  refine enter_fr Try.func4 rfl Try.ntmps4 (by simp) fun ac (FF : Fr 226 ac [(0, .agg (cn .u8 X)), (1, sB Y)]) => ?_
  have MM : MemS (fun k => k < w0.heap.size ∧ ∀ x ∈ O, x.1 ≠ k) w0 w0 O [] := MemS.startN H hD
  obtain ⟨a, b, r, m, hk, hF⟩ := few_ex X hl hX
  have ⟨k1, k2, k3, k4, k5⟩ := hk
  refine wp_seq (rg_c FF MM [(0, s_ 0 (.cells (cn .u8 X) 22))] 5 [] [0] (⟨(by kernel_rfl), fun bn => fun _ _ FF1 MM1 => then_n ?_⟩))
  refine wp_seq ?_
  by_cases h0 : Y.length > 2000
  · skip
    refine wp_seq (rg_c FF1 MM1 [(1, t_ (iN Y.length)), (0, w_ 2)] 5 [22] [] (⟨(vI (bs_size _)), h0, fun _ _ FF2 MM2 => then_n ?_⟩))
    refine wp_cond_true (FF2.ev 0 rfl) ?_
    refine wp_seq (rg_c FF2 MM2 [(0, t_ (.bool true))] 5 [] [] (⟨(callP_of en_lw_wakes wakes_w _), fun _ _ FF3 MM3 => then_n ?_⟩))
    refine wp_ret ?_
    repeat first | refine then_ret ?_ | refine inb_ret ?_
    exact (ret_fr FF3 0 Try.results4 rfl ⟨rfl, MM3.belowN H (fun _ hx => List.mem_cons_of_mem _ (hx))⟩)
  · skip
    refine wp_seq (rg_c FF1 MM1 [(1, t_ (iN Y.length)), (0, w_ 3)] 5 [22] [] (⟨(vI (bs_size _)), h0, fun _ _ FF4 MM4 => then_n ?_⟩))
    refine wp_cond_false (FF4.ev 0 rfl) ?_
    refine wp_skip ?_
    refine then_n ?_
    refine wp_seq (wp_region_list ?_)
    refine rp_c 2 FF4 MM4 [(0, b_ 0), (0, t_ (aG #[iN a, iN b, iN r, iN m]))] 5 [26] [2] (⟨rfl, ((cn_size _ _).trans hl), (callP_of en_lFew hF _), fun _ _ FF5 MM5 => ?_⟩)
    refine st_callE [4, 1, 27] FF5 (d := 27) (mk := fun v => .tuple #[v, iN 0]) en_lawOf rfl rfl (kof_yes a b r m hk _) rfl (by kernel_rfl) (by decide) fun ac7 wd7 lv6 FF7 hr8 => ?_
    obtain ⟨gk, rfl, hB_gk, hf_gk, hb_gk⟩ := hr8
    have MM9 := MM5.keep hB_gk
    have MM10 : MemS (fun k => k < w0.heap.size ∧ ∀ x ∈ O, x.1 ≠ k) w0 wd7 ((gk, oC #[iN a, iN b, iN r, iN m] 65) :: (bn, .cells (cn .u8 X) 22) :: O) [] := MM5.addFresh MM9 hb_gk hf_gk
    refine rp_c 5 FF7 MM10 [] 7 [] [] (fun _ _ FF11 MM11 => ?_)
    refine wpl_nil (then_n ?_)
    obtain ⟨Z, hZ⟩ : ∃ Z, Y.drop (uN a b r m 16 Y).2.2 = Z := ⟨_, rfl⟩
    have hZb : ∀ i, Z.getD i 0 < 256 := by rw [← hZ]; exact dropX_lt hY _
    obtain ⟨V, hV⟩ : ∃ V, Z.drop (uN a b r m 16 Z).2.2 = V := ⟨_, rfl⟩
    have hVb : ∀ i, V.getD i 0 < 256 := by rw [← hV]; exact dropX_lt hZb _
    have hVP : V = Y.drop ((uN a b r m 16 Y).2.2 + (uN a b r m 16 Z).2.2) := by rw [← hV, ← hZ, List.drop_drop]
    have hb1 : (uN a b r m 16 Y).2.2 ≤ 48 := un_bd hk (by decide)
    have hb2 : (uN a b r m 16 Z).2.2 ≤ 48 := un_bd hk (by decide)
    obtain ⟨o, ho⟩ : ∃ o, (drN a b r m 16 Y) = o := ⟨_, rfl⟩
    obtain ⟨t, ht⟩ : ∃ t, (drN a b r m 16 Z) = t := ⟨_, rfl⟩
    have ho8 : o ≤ 8 := ho ▸ dr_8 hk
    have ht8 : t ≤ 8 := ht ▸ dr_8 hk
    have he1 := un_err a b r m 16 Y
    have he2 := un_err a b r m 16 Z
    by_cases h1 : (uN a b r m 16 Y).2.1 = 0
    · by_cases h2 : (uN a b r m 16 Z).2.1 = 0
      · skip
        have hdo := dr_in hk h1
        have hdt := dr_in hk h2
        rw [ho] at hdo
        rw [ht] at hdt
        have hP := fun j (_ : j < t) => reqC_pair o V j
        have hNL := names_le hP
        refine wp_seq (wp_region_list ?_)
        refine rp_c 1 FF11 MM11 [] 32 [] [] (fun _ _ FF12 MM12 => ?_)
        refine st_callE [6, 5, 4, 1, 32] FF12 (d := 32) (mk := fun v => v) en_tnew rfl rfl (tnew_any Y _) rfl (by kernel_rfl) (by decide) fun ac14 wd14 lv13 FF14 hr15 => ?_
        obtain ⟨gp, rfl, hB_gp, hf_gp, hb_gp⟩ := hr15
        have MM16 := MM12.keep hB_gp
        have MM17 : MemS (fun k => k < w0.heap.size ∧ ∀ x ∈ O, x.1 ≠ k) w0 wd14 ((gp, oC #[sB Y, iN 0] 56) :: (gk, oC #[iN a, iN b, iN r, iN m] 65) :: (bn, .cells (cn .u8 X) 22) :: O) [] := MM12.addFresh MM16 hb_gp hf_gp
        refine rp_c 1 FF14 MM17 [] 34 [] [] (fun _ wd18 FF18 MM18 => ?_)
        refine st_callE [6, 5, 4, 1, 34] FF18 (d := 34) (mk := fun v => .tuple #[.agg #[iN o, iN t, .slice (pOf v) (o + 2 * t) (cOf v)], iN 0]) en_mk rfl rfl (by have h0 := mk_any gp gk a b r m hk Y 0 hY (by decide) ((16 : Nat) : Int) wd18 (MM18.get 1 rfl) (MM18.get 0 rfl); rw [cvZ_nat (by decide) (by decide), cvK_ok hZ h1 h2, ho, ht] at h0; exact h0) rfl (by kernel_rfl) (by decide) fun ac21 wd21 lv20 FF21 hr22 => ?_
        have ht9 := hr22.1
        have MM23 : MemS (fun k => k < w0.heap.size ∧ ∀ x ∈ O, x.1 ≠ k) w0 wd21 ((gp, oC #[sB (Y.drop ((uN a b r m 16 Y).2.2 + (uN a b r m 16 Z).2.2 + (52 * o + 88 * t))), iN (0 + ((uN a b r m 16 Y).2.2 + (uN a b r m 16 Z).2.2 + (52 * o + 88 * t)))] 56) :: (gk, oC #[iN a, iN b, iN r, iN m] 65) :: (bn, .cells (cn .u8 X) 22) :: O) [] := MM18.turnAt ht9 0 rfl
        obtain ⟨O24, MM250, hR26, hs27⟩ := MemS.addRowT (K := [(gp, oC #[sB (Y.drop ((uN a b r m 16 Y).2.2 + (uN a b r m 16 Z).2.2 + (52 * o + 88 * t))), iN (0 + ((uN a b r m 16 Y).2.2 + (uN a b r m 16 Z).2.2 + (52 * o + 88 * t)))] 56), (gk, oC #[iN a, iN b, iN r, iN m] 65), (bn, .cells (cn .u8 X) 22)]) (O := O) MM18 MM23 rfl hr22.2
        have MM25 : MemS (fun k => k < w0.heap.size ∧ ∀ x ∈ O, x.1 ≠ k) w0 wd21 ((gp, oC #[sB (Y.drop ((uN a b r m 16 Y).2.2 + (uN a b r m 16 Z).2.2 + (52 * o + 88 * t))), iN (0 + ((uN a b r m 16 Y).2.2 + (uN a b r m 16 Z).2.2 + (52 * o + 88 * t)))] 56) :: (gk, oC #[iN a, iN b, iN r, iN m] 65) :: (bn, .cells (cn .u8 X) 22) :: O24) [] := MM250
        have hR28 : RowO O24 (pOf lv20) (o + 2 * t) (fun k9 => sB (reqC o V k9)) := (by rw [hVP]; exact hR26)
        refine rp_c 6 FF21 MM25 [(4, b_ 0)] 9 [] [] (fun bc => ⟨rfl, rfl, rfl, (by kernel_rfl), rfl, fun _ _ FF29 MM29 => ?_⟩)
        refine wpl_nil (then_n ?_)
        refine wp_seq ?_
        refine wp_seq (rg_c FF29 MM29 [(1, w_ 3), (2, w_ 3)] 9 [42] [] (⟨(fun h => h rfl), (fun h => h rfl), fun _ _ FF30 MM30 => then_n ?_⟩))
        refine wp_cond_false (FF30.ev 0 rfl) ?_
        refine wp_skip ?_
        refine then_n ?_
        refine wp_seq ?_
        refine wp_seq (rg_dc 38 FF30 MM30 [(1, l_ 0 (iN o)), (1, u_ 1 (iN (m - r))), (0, w_ 3), (2, l_ 0 (iN o)), (1, u_ 1 (iN (m + r))), (0, w_ 3), (3, l_ 0 (iN t)), (1, u_ 1 (iN (m - r))), (0, w_ 3), (3, l_ 0 (iN t)), (1, u_ 1 (iN (m + r))), (0, w_ 3), (3, l_ 0 (.slice (pOf lv20) (o + 2 * t) (cOf lv20))), (2, l_ 0 (iN o)), (1, l_ 0 (iN t)), (2, w_ 3)] [] 9 [95] [] (⟨rfl, rfl, ⟨en_kleast, fun w Hw => kleast_any gk a b r m hk w (Hw 2 _ rfl)⟩, by omega, rfl, rfl, ⟨en_kmost, fun w Hw => kmost_any gk a b r m hk w (Hw 2 _ rfl)⟩, by omega, rfl, rfl, ⟨en_kleast, fun w Hw => kleast_any gk a b r m hk w (Hw 2 _ rfl)⟩, by omega, rfl, rfl, ⟨en_kmost, fun w Hw => kmost_any gk a b r m hk w (Hw 2 _ rfl)⟩, by omega, rfl, rfl, rfl, rfl, rfl, rfl, by omega, by omega, (fun h => h rfl), fun _ _ FF31 MM31 => then_n ?_⟩))
        refine wp_cond_false (FF31.ev 0 rfl) ?_
        refine wp_skip ?_
        refine then_n ?_
        refine wp_seq (rg_c FF31 MM31 [] 9 [9] [] (fun _ _ FF32 MM32 => then_n ?_))
        refine wp_seq ?_
        refine wp_seq (rg_c FF32 MM32 [] 11 [] [] (fun _ _ FF33 MM33 => then_n ?_))
        refine wp_for2 (fun a' w' => ∃ i : Nat, i ≤ o + 2 * t ∧ Fr 226 a' [(10, iN i), (9, iN (fstN (reqC o V) i)), (8, iN 0), (7, pT bc), (6, iN 0), (5, pT gk), (1, sB Y)] ∧ MemS (fun k => k < w0.heap.size ∧ ∀ x ∈ O, x.1 ≠ k) w0 w' ((bc, oC #[iN o, iN t, .slice (pOf lv20) (o + 2 * t) (cOf lv20)] 38) :: (gp, oC #[sB (Y.drop ((uN a b r m 16 Y).2.2 + (uN a b r m 16 Z).2.2 + (52 * o + 88 * t))), iN (0 + ((uN a b r m 16 Y).2.2 + (uN a b r m 16 Z).2.2 + (52 * o + 88 * t)))] 56) :: (gk, oC #[iN a, iN b, iN r, iN m] 65) :: (bn, .cells (cn .u8 X) 22) :: O24) []) (fun a' _ => ((o + 2 * t) - cnt 10 a').toNat) ⟨0, Nat.zero_le _, FF33.pick [0, 1, 2, 3, 4, 5, 7], MM33⟩ ?_
        rintro ac34 wd34 ⟨i, hi, FF34, MM34⟩
        have hc := cnt_of (FF34.get 0 rfl)
        refine rg_c FF34 MM34 [(2, l_ 0 (.slice (pOf lv20) (o + 2 * t) (cOf lv20)))] 11 [100] [] (⟨rfl, rfl, fun _ _ FF35 MM35 => ?_⟩)
        by_cases hlt : i < (o + 2 * t)
        · skip
          refine then_n (.inl ⟨(FF35.ev 0 rfl).trans (dec_t hlt), ?_⟩)
          refine wp_seq ?_
          have hfl := fstN_le (reqC o V) i
          refine wp_seq (rg_c FF35 MM35 [(1, l_ 0 (.slice (pOf lv20) (o + 2 * t) (cOf lv20))), (1, f_ (.pointer (some ⟨gOf (pOf lv20), oOf (pOf lv20) + i, none⟩))), (0, f_ (sB (reqC o V i))), (0, t_ (iN 52)), (0, w_ 3)] 11 [109] [] (⟨rfl, rfl, (rowX_addr (x := (.tmp 104)) (y := (.tmp 105)) (k := 1) (i := i) (by kernel_rfl) rfl rfl Try.underlying36 (by kernel_rfl) hR28 (by omega) (by omega)), (rowX_load (x := (.tmp 106)) (j := i) (by kernel_rfl) rfl Try.underlying9 rfl hR28 (fun _ hx => List.mem_cons_of_mem _ (List.mem_cons_of_mem _ (List.mem_cons_of_mem _ (List.mem_cons_of_mem _ (hx))))) (by omega) rfl), (vI ((bs_size _).trans (reqC_len _ _ _))), (fun h => h rfl), fun _ _ FF36 MM36 => then_n ?_⟩))
          refine wp_cond_false (FF36.ev 0 rfl) ?_
          refine wp_skip ?_
          refine then_n ?_
          refine wp_seq (rg_c FF36 MM36 [] 12 [] [] (fun _ _ FF37 MM37 => then_n ?_))
          refine wp_seq ?_
          refine wp_seq (rg_c FF37 MM37 [] 13 [] [] (fun _ _ FF38 MM38 => then_n ?_))
          refine wp_for2 (fun a' w' => ∃ j : Nat, j ≤ i ∧ Fr 226 a' [(12, iN j), (11, .bool (alk (reqC o V) i j)), (10, iN i), (9, iN (fstN (reqC o V) i)), (8, iN 0), (7, pT bc), (6, iN 0), (5, pT gk), (1, sB Y)] ∧ MemS (fun k => k < w0.heap.size ∧ ∀ x ∈ O, x.1 ≠ k) w0 w' ((bc, oC #[iN o, iN t, .slice (pOf lv20) (o + 2 * t) (cOf lv20)] 38) :: (gp, oC #[sB (Y.drop ((uN a b r m 16 Y).2.2 + (uN a b r m 16 Z).2.2 + (52 * o + 88 * t))), iN (0 + ((uN a b r m 16 Y).2.2 + (uN a b r m 16 Z).2.2 + (52 * o + 88 * t)))] 56) :: (gk, oC #[iN a, iN b, iN r, iN m] 65) :: (bn, .cells (cn .u8 X) 22) :: O24) []) (fun a' _ => (i - cnt 12 a').toNat) ⟨0, Nat.zero_le _, FF38.pick [0, 1, 2, 3, 4, 5, 6, 7, 8], MM38⟩ ?_
          rintro ac39 wd39 ⟨j, hj, FF39, MM39⟩
          have hcj := cnt_of (FF39.get 0 rfl)
          refine rg_c FF39 MM39 [] 13 [112] [] (fun ac40 _ FF40 MM40 => ?_)
          by_cases hlt : j < i
          · skip
            refine then_n (.inl ⟨(FF40.ev 0 rfl).trans (dec_t hlt), ?_⟩)
            have hji : j < i := by assumption
            by_cases ha : alk (reqC o V) i j = true
            · skip
              have FFz41 : Fr 226 ac40 [(112, .bool (decide (j < i))), (12, iN j), (11, .bool true), (10, iN i), (9, iN (fstN (reqC o V) i)), (8, iN 0), (7, pT bc), (6, iN 0), (5, pT gk), (1, sB Y)] := by have h9 := FF40; rw [ha] at h9; exact h9
              refine rg_dc 16 FFz41 MM40 [] [] 13 [] [] (fun ac42 _ FF42 MM42 => ?_)
              have FFz43 : Fr 226 ac42 [(11, .bool (alk (reqC o V) i (j + 1))), (12, iN j), (10, iN i), (9, iN (fstN (reqC o V) i)), (8, iN 0), (7, pT bc), (6, iN 0), (5, pT gk), (1, sB Y)] := by rw [alk_yes ha]; exact FF42
              refine inb_n (then_n ?_)
              refine rg_c FFz43 MM42 [] 13 [] [] (⟨by omega, fun _ _ FF44 MM44 => ?_⟩)
              have hdj := cnt_of (FF44.get 0 rfl)
              refine then_n ⟨⟨j + 1, by omega, FF44.pick [0, 1, 2, 3, 4, 5, 6, 7, 8], MM44⟩, ?_⟩
              rw [hcj, hdj]; omega
            · have hb := Bool.eq_false_iff.2 ha
              by_cases he : ((reqC o V) j).take 16 = ((reqC o V) i).take 16
              · skip
                have FFz45 : Fr 226 ac40 [(112, .bool (decide (j < i))), (12, iN j), (11, .bool false), (10, iN i), (9, iN (fstN (reqC o V) i)), (8, iN 0), (7, pT bc), (6, iN 0), (5, pT gk), (1, sB Y)] := by have h9 := FF40; rw [hb] at h9; exact h9
                refine rg_dc 16 FFz45 MM40 [(3, l_ 0 (.slice (pOf lv20) (o + 2 * t) (cOf lv20))), (1, f_ (.pointer (some ⟨gOf (pOf lv20), oOf (pOf lv20) + j, none⟩))), (0, f_ (sB (reqC o V j))), (0, t_ (sB (((reqC o V) j).take 16))), (1, l_ 0 (.slice (pOf lv20) (o + 2 * t) (cOf lv20))), (1, f_ (.pointer (some ⟨gOf (pOf lv20), oOf (pOf lv20) + i, none⟩))), (0, f_ (sB (reqC o V i))), (0, t_ (sB (((reqC o V) i).take 16))), (0, w_ 2)] [] 13 [] [] (⟨rfl, rfl, (rowX_addr (x := (.tmp 118)) (y := (.tmp 119)) (k := 1) (i := j) (by kernel_rfl) rfl rfl Try.underlying36 (by kernel_rfl) hR28 (by omega) (by omega)), (rowX_load (x := (.tmp 120)) (j := j) (by kernel_rfl) rfl Try.underlying9 rfl hR28 (fun _ hx => List.mem_cons_of_mem _ (List.mem_cons_of_mem _ (List.mem_cons_of_mem _ (List.mem_cons_of_mem _ (hx))))) (by omega) rfl), (Nat.zero_le _), (by rw [bs_size, show (reqC o V j).length = 52 from (reqC_len o V j)]; omega), (vS2 (bs_extract _ _ _)), rfl, rfl, (rowX_addr (x := (.tmp 124)) (y := (.tmp 125)) (k := 1) (i := i) (by kernel_rfl) rfl rfl Try.underlying36 (by kernel_rfl) hR28 (by omega) (by omega)), (rowX_load (x := (.tmp 126)) (j := i) (by kernel_rfl) rfl Try.underlying9 rfl hR28 (fun _ hx => List.mem_cons_of_mem _ (List.mem_cons_of_mem _ (List.mem_cons_of_mem _ (List.mem_cons_of_mem _ (hx))))) (by omega) rfl), (Nat.zero_le _), (by rw [bs_size, show (reqC o V i).length = 52 from (reqC_len o V i)]; omega), (vS2 (bs_extract _ _ _)), (congrArg bs he), fun ac46 _ FF46 MM46 => ?_⟩)
                have FFz47 : Fr 226 ac46 [(11, .bool (alk (reqC o V) i (j + 1))), (12, iN j), (10, iN i), (9, iN (fstN (reqC o V) i)), (8, iN 0), (7, pT bc), (6, iN 0), (5, pT gk), (1, sB Y)] := by rw [alk_eq hb he]; exact FF46
                refine inb_n (then_n ?_)
                refine rg_c FFz47 MM46 [] 13 [] [] (⟨by omega, fun _ _ FF48 MM48 => ?_⟩)
                have hdj := cnt_of (FF48.get 0 rfl)
                refine then_n ⟨⟨j + 1, by omega, FF48.pick [0, 1, 2, 3, 4, 5, 6, 7, 8], MM48⟩, ?_⟩
                rw [hcj, hdj]; omega
              · skip
                have FFz49 : Fr 226 ac40 [(112, .bool (decide (j < i))), (12, iN j), (11, .bool false), (10, iN i), (9, iN (fstN (reqC o V) i)), (8, iN 0), (7, pT bc), (6, iN 0), (5, pT gk), (1, sB Y)] := by have h9 := FF40; rw [hb] at h9; exact h9
                refine rg_dc 16 FFz49 MM40 [(3, l_ 0 (.slice (pOf lv20) (o + 2 * t) (cOf lv20))), (1, f_ (.pointer (some ⟨gOf (pOf lv20), oOf (pOf lv20) + j, none⟩))), (0, f_ (sB (reqC o V j))), (0, t_ (sB (((reqC o V) j).take 16))), (1, l_ 0 (.slice (pOf lv20) (o + 2 * t) (cOf lv20))), (1, f_ (.pointer (some ⟨gOf (pOf lv20), oOf (pOf lv20) + i, none⟩))), (0, f_ (sB (reqC o V i))), (0, t_ (sB (((reqC o V) i).take 16))), (0, w_ 3)] [] 13 [] [] (⟨rfl, rfl, (rowX_addr (x := (.tmp 118)) (y := (.tmp 119)) (k := 1) (i := j) (by kernel_rfl) rfl rfl Try.underlying36 (by kernel_rfl) hR28 (by omega) (by omega)), (rowX_load (x := (.tmp 120)) (j := j) (by kernel_rfl) rfl Try.underlying9 rfl hR28 (fun _ hx => List.mem_cons_of_mem _ (List.mem_cons_of_mem _ (List.mem_cons_of_mem _ (List.mem_cons_of_mem _ (hx))))) (by omega) rfl), (Nat.zero_le _), (by rw [bs_size, show (reqC o V j).length = 52 from (reqC_len o V j)]; omega), (vS2 (bs_extract _ _ _)), rfl, rfl, (rowX_addr (x := (.tmp 124)) (y := (.tmp 125)) (k := 1) (i := i) (by kernel_rfl) rfl rfl Try.underlying36 (by kernel_rfl) hR28 (by omega) (by omega)), (rowX_load (x := (.tmp 126)) (j := i) (by kernel_rfl) rfl Try.underlying9 rfl hR28 (fun _ hx => List.mem_cons_of_mem _ (List.mem_cons_of_mem _ (List.mem_cons_of_mem _ (List.mem_cons_of_mem _ (hx))))) (by omega) rfl), (Nat.zero_le _), (by rw [bs_size, show (reqC o V i).length = 52 from (reqC_len o V i)]; omega), (vS2 (bs_extract _ _ _)), (fun e => he (bs_inj (take_lt (reqC_lt o hVb j)) (take_lt (reqC_lt o hVb i)) e)), fun ac50 _ FF50 MM50 => ?_⟩)
                have FFz51 : Fr 226 ac50 [(11, .bool (alk (reqC o V) i (j + 1))), (12, iN j), (10, iN i), (9, iN (fstN (reqC o V) i)), (8, iN 0), (7, pT bc), (6, iN 0), (5, pT gk), (1, sB Y)] := by rw [alk_ne hb he]; exact FF50
                refine inb_n (then_n ?_)
                refine rg_c FFz51 MM50 [] 13 [] [] (⟨by omega, fun _ _ FF52 MM52 => ?_⟩)
                have hdj := cnt_of (FF52.get 0 rfl)
                refine then_n ⟨⟨j + 1, by omega, FF52.pick [0, 1, 2, 3, 4, 5, 6, 7, 8], MM52⟩, ?_⟩
                rw [hcj, hdj]; omega
          · skip
            refine then_n (.inr ⟨(FF40.ev 0 rfl).trans (dec_f hlt), ?_⟩)
            obtain rfl : i = j := by omega
            refine then_n ?_
            cases hq : alk (reqC o V) i i with
            | false =>
              have FFz53 : Fr 226 ac40 [(112, .bool (decide (i < i))), (12, iN i), (11, .bool false), (10, iN i), (9, iN (fstN (reqC o V) i)), (8, iN 0), (7, pT bc), (6, iN 0), (5, pT gk), (1, sB Y)] := by have h9 := FF40; rw [hq] at h9; exact h9
              refine wp_seq (rg_c FFz53 MM40 [] 13 [132] [] (fun _ _ FF54 MM54 => then_n ?_))
              refine wp_cond_true (FF54.ev 0 rfl) ?_
              refine rg_c FF54 MM54 [] 13 [] [] (⟨by omega, fun _ _ FF55 MM55 => ?_⟩)
              refine inb_n (then_n ?_)
              refine rg_c FF55 MM55 [] 13 [] [] (⟨by omega, fun ac56 _ FF56 MM56 => ?_⟩)
              have hd := cnt_of (FF56.get 0 rfl)
              have FFz57 : Fr 226 ac56 [(10, iN (i + 1)), (9, iN (fstN (reqC o V) (i + 1))), (12, iN i), (11, .bool false), (8, iN 0), (7, pT bc), (6, iN 0), (5, pT gk), (1, sB Y)] := by rw [fstN_no hq]; exact FF56
              refine then_n ⟨⟨i + 1, by omega, FFz57.pick [0, 1, 4, 5, 6, 7, 8], MM56⟩, ?_⟩
              rw [hc, hd]; omega
            | true =>
              have FFz58 : Fr 226 ac40 [(112, .bool (decide (i < i))), (12, iN i), (11, .bool true), (10, iN i), (9, iN (fstN (reqC o V) i)), (8, iN 0), (7, pT bc), (6, iN 0), (5, pT gk), (1, sB Y)] := by have h9 := FF40; rw [hq] at h9; exact h9
              refine wp_seq (rg_c FFz58 MM40 [] 13 [132] [] (fun _ _ FF59 MM59 => then_n ?_))
              refine wp_cond_false (FF59.ev 0 rfl) ?_
              refine wp_skip ?_
              refine inb_n (then_n ?_)
              refine rg_c FF59 MM59 [] 13 [] [] (⟨by omega, fun ac60 _ FF60 MM60 => ?_⟩)
              have hd := cnt_of (FF60.get 0 rfl)
              have FFz61 : Fr 226 ac60 [(10, iN (i + 1)), (12, iN i), (11, .bool true), (9, iN (fstN (reqC o V) (i + 1))), (8, iN 0), (7, pT bc), (6, iN 0), (5, pT gk), (1, sB Y)] := by rw [fstN_yes hq]; exact FF60
              refine then_n ⟨⟨i + 1, by omega, FFz61.pick [0, 3, 4, 5, 6, 7, 8], MM60⟩, ?_⟩
              rw [hc, hd]; omega
        · skip
          refine then_n (.inr ⟨(FF35.ev 0 rfl).trans (dec_f hlt), ?_⟩)
          obtain rfl : i = o + 2 * t := by omega
          refine then_n ?_
          refine wp_seq ?_
          by_cases hN : fstN (reqC o V) (o + 2 * t) = o + t
          · skip
            have hM : Met (reqC o V) o t := met_of (fun k => reqC_len o V k) hP hN
            have hcl1 := hM.cls1 _ (Nat.le_refl _)
            have hcl2 := hM.cls2 _ (Nat.le_refl _)
            have hcl3 := hM.cls3 _ (Nat.le_refl _)
            rw [show min (o + 2 * t) o = o by omega] at hcl1
            rw [show (o + 2 * t - o + 1) / 2 = t by omega] at hcl2
            refine wp_seq (rg_c FF35 MM35 [(2, l_ 0 (iN o)), (1, l_ 0 (iN t)), (1, w_ 3)] 11 [141] [] (⟨rfl, rfl, rfl, rfl, by omega, (fun h => h hN), fun _ _ FF62 MM62 => then_n ?_⟩))
            refine wp_cond_false (FF62.ev 0 rfl) ?_
            refine wp_skip ?_
            refine then_n ?_
            refine wp_seq (rg_c FF62 MM62 [(1, l_ 0 (.slice (pOf lv20) (o + 2 * t) (cOf lv20))), (0, u_ 1 (.tuple #[iN o, iN t, iN 0]))] 16 [] [] (⟨rfl, rfl, ⟨en_dc, fun w Hw => by have h0 := dc_w (pOf lv20) (o + 2 * t) (cOf lv20) (reqC o V) (by omega) (fun i _ j => reqC_lt o hVb i j) w (hR28.at (Has.tl (Has.tl (Has.tl (Has.tl Hw))))); rw [hcl1, hcl2, hcl3] at h0; exact h0⟩, fun _ _ FF63 MM63 => then_n ?_⟩))
            refine wp_seq (wp_region_list ?_)
            refine rp_c 2 FF63 MM63 [(1, l_ 0 (.slice (pOf lv20) (o + 2 * t) (cOf lv20)))] 16 [160] [] (⟨rfl, rfl, fun _ wd64 FF64 MM64 => ?_⟩)
            refine st_callE [15, 14, 13, 10, 9, 8, 7, 6, 5, 1, 161] FF64 (d := 161) (mk := fun v => .slice (pOf v) (o + 2 * t) (cOf v)) en_dm rfl rfl (dm_w (pOf lv20) (o + 2 * t) (cOf lv20) (reqC o V) (by omega) (fun i _ j => reqC_lt o hVb i j) wd64 (hR28.at (Has.tl (Has.tl (Has.tl (Has.tl MM64.hasL)))))) rfl (by kernel_rfl) (by decide) fun ac67 wd67 lv66 FF67 hr68 => ?_
            obtain ⟨O69, MM700, hR71, hs72⟩ := MemS.addRow (K := [(bc, oC #[iN o, iN t, .slice (pOf lv20) (o + 2 * t) (cOf lv20)] 38), (gp, oC #[sB (Y.drop ((uN a b r m 16 Y).2.2 + (uN a b r m 16 Z).2.2 + (52 * o + 88 * t))), iN (0 + ((uN a b r m 16 Y).2.2 + (uN a b r m 16 Z).2.2 + (52 * o + 88 * t)))] 56), (gk, oC #[iN a, iN b, iN r, iN m] 65), (bn, .cells (cn .u8 X) 22)]) (O := O24) MM64 hr68.1 hr68.2
            have MM70 : MemS (fun k => k < w0.heap.size ∧ ∀ x ∈ O, x.1 ≠ k) w0 wd67 ((bc, oC #[iN o, iN t, .slice (pOf lv20) (o + 2 * t) (cOf lv20)] 38) :: (gp, oC #[sB (Y.drop ((uN a b r m 16 Y).2.2 + (uN a b r m 16 Z).2.2 + (52 * o + 88 * t))), iN (0 + ((uN a b r m 16 Y).2.2 + (uN a b r m 16 Z).2.2 + (52 * o + 88 * t)))] 56) :: (gk, oC #[iN a, iN b, iN r, iN m] 65) :: (bn, .cells (cn .u8 X) 22) :: O69) [] := MM700
            have hk73 := hR28.mono hs72
            have hz74 : ∀ x ∈ O, x ∈ O69 := fun x hx => hs72 x (hs27 x hx)
            refine rp_c 1 FF67 MM70 [] 17 [] [] (fun _ _ FF75 MM75 => ?_)
            refine wpl_nil (then_n ?_)
            refine wp_seq ?_
            refine wp_seq (rg_c FF75 MM75 [(2, l_ 0 (iN o)), (0, w_ 3), (3, l_ 0 (iN t)), (0, w_ 3), (3, w_ 3), (5, l_ 0 (.slice (pOf lv20) (o + 2 * t) (cOf lv20))), (1, w_ 3)] 11 [16, 183] [] (⟨rfl, rfl, (fun h => h rfl), rfl, rfl, (fun h => h rfl), (fun h => h rfl), rfl, rfl, (fun h => h rfl), fun _ _ FF76 MM76 => then_n ?_⟩))
            refine wp_cond_false (FF76.ev 0 rfl) ?_
            refine wp_skip ?_
            refine then_n ?_
            refine wp_seq ?_
            refine wp_seq (rg_c FF76 MM76 [] 18 [] [] (fun _ _ FF77 MM77 => then_n ?_))
            refine wp_for2 (fun a' w' => ∃ j : Nat, j ≤ t ∧ Fr 226 a' [(17, iN j), (16, .slice (pOf lv66) (o + 2 * t) (cOf lv66)), (10, iN (o + 2 * t)), (9, iN (fstN (reqC o V) (o + 2 * t))), (8, iN 0), (7, pT bc), (6, iN 0), (5, pT gk), (1, sB Y)] ∧ MemS (fun k => k < w0.heap.size ∧ ∀ x ∈ O, x.1 ≠ k) w0 w' ((bc, oC #[iN o, iN t, .slice (pOf lv20) (o + 2 * t) (cOf lv20)] 38) :: (gp, oC #[sB (Y.drop ((uN a b r m 16 Y).2.2 + (uN a b r m 16 Z).2.2 + (52 * o + 88 * t))), iN (0 + ((uN a b r m 16 Y).2.2 + (uN a b r m 16 Z).2.2 + (52 * o + 88 * t)))] 56) :: (gk, oC #[iN a, iN b, iN r, iN m] 65) :: (bn, .cells (cn .u8 X) 22) :: O69) []) (fun a' _ => (t - cnt 17 a').toNat) ⟨0, Nat.zero_le _, FF77.pick [0, 1, 2, 3, 4, 5, 6, 7, 8], MM77⟩ ?_
            rintro ac78 wd78 ⟨j, hj, FF78, MM78⟩
            have hc := cnt_of (FF78.get 0 rfl)
            refine rg_c FF78 MM78 [(2, l_ 0 (iN t))] 18 [187] [] (⟨rfl, rfl, fun _ _ FF79 MM79 => ?_⟩)
            by_cases hlt : j < t
            · skip
              refine then_n (.inl ⟨(FF79.ev 0 rfl).trans (dec_t hlt), ?_⟩)
              refine wp_seq (rg_dc 13 FF79 MM79 [(1, l_ 0 (iN o)), (4, l_ 0 (iN o))] [] 20 [] [] (⟨rfl, rfl, by omega, by omega, rfl, rfl, by omega, by omega, by omega, fun _ _ FF80 MM80 => then_n ?_⟩))
              refine wp_seq (rg_dc 24 FF80 MM80 [(2, f_ (.pointer (some ⟨gOf (pOf lv66), oOf (pOf lv66) + (o + (2 * j)), none⟩))), (0, f_ (sB (mAt (reqC o V) (o + 2 * t) (o + (2 * j))))), (1, l_ 0 (.slice (pOf lv20) (o + 2 * t) (cOf lv20))), (1, f_ (.pointer (some ⟨gOf (pOf lv20), oOf (pOf lv20) + ((o + (2 * j)) + 1), none⟩))), (0, f_ (sB (reqC o V ((o + (2 * j)) + 1)))), (0, t_ (sB (((reqC o V) (o + 2 * j + 1)).drop 16))), (0, w_ 3), (3, f_ (.pointer (some ⟨gOf (pOf lv66), oOf (pOf lv66) + ((o + (2 * j)) + 1), none⟩))), (0, f_ (sB (mAt (reqC o V) (o + 2 * t) ((o + (2 * j)) + 1)))), (1, l_ 0 (.slice (pOf lv20) (o + 2 * t) (cOf lv20))), (1, f_ (.pointer (some ⟨gOf (pOf lv20), oOf (pOf lv20) + (o + (2 * j)), none⟩))), (0, f_ (sB (reqC o V (o + (2 * j))))), (0, t_ (sB (((reqC o V) (o + 2 * j)).drop 16))), (0, w_ 3)] [] 20 [224] [] (⟨(rowX_addr (x := (.tmp 201)) (y := (.tmp 202)) (k := 1) (i := o + (2 * j)) (by kernel_rfl) rfl rfl Try.underlying36 (by kernel_rfl) hR71 (by omega) (by omega)), (rowX_load (x := (.tmp 203)) (j := (o + (2 * j))) (by kernel_rfl) rfl Try.underlying9 rfl hR71 (fun _ hx => List.mem_cons_of_mem _ (List.mem_cons_of_mem _ (List.mem_cons_of_mem _ (List.mem_cons_of_mem _ (hx))))) (by omega) rfl), rfl, rfl, (rowX_addr (x := (.tmp 206)) (y := (.tmp 207)) (k := 1) (i := (o + (2 * j)) + 1) (by kernel_rfl) rfl rfl Try.underlying36 (by kernel_rfl) hk73 (by omega) (by omega)), (rowX_load (x := (.tmp 208)) (j := ((o + (2 * j)) + 1)) (by kernel_rfl) rfl Try.underlying9 rfl hk73 (fun _ hx => List.mem_cons_of_mem _ (List.mem_cons_of_mem _ (List.mem_cons_of_mem _ (List.mem_cons_of_mem _ (hx))))) (by omega) rfl), (by rw [bs_size, show (reqC o V ((o + (2 * j)) + 1)).length = 52 from (reqC_len o V ((o + (2 * j)) + 1))]; omega), (Nat.zero_le _), (vS2 (bs_from _ _)), (fun h => h (congrArg bs (hM.at_a hlt))), (rowX_addr (x := (.tmp 213)) (y := (.tmp 214)) (k := 1) (i := (o + (2 * j)) + 1) (by kernel_rfl) rfl rfl Try.underlying36 (by kernel_rfl) hR71 (by omega) (by omega)), (rowX_load (x := (.tmp 215)) (j := ((o + (2 * j)) + 1)) (by kernel_rfl) rfl Try.underlying9 rfl hR71 (fun _ hx => List.mem_cons_of_mem _ (List.mem_cons_of_mem _ (List.mem_cons_of_mem _ (List.mem_cons_of_mem _ (hx))))) (by omega) rfl), rfl, rfl, (rowX_addr (x := (.tmp 218)) (y := (.tmp 219)) (k := 1) (i := o + (2 * j)) (by kernel_rfl) rfl rfl Try.underlying36 (by kernel_rfl) hk73 (by omega) (by omega)), (rowX_load (x := (.tmp 220)) (j := (o + (2 * j))) (by kernel_rfl) rfl Try.underlying9 rfl hk73 (fun _ hx => List.mem_cons_of_mem _ (List.mem_cons_of_mem _ (List.mem_cons_of_mem _ (List.mem_cons_of_mem _ (hx))))) (by omega) rfl), (by rw [bs_size, show (reqC o V (o + (2 * j))).length = 52 from (reqC_len o V (o + (2 * j)))]; omega), (Nat.zero_le _), (vS2 (bs_from _ _)), (fun h => h (congrArg bs (hM.at_b hlt))), fun _ _ FF81 MM81 => then_n ?_⟩))
              refine wp_cond_false (FF81.ev 0 rfl) ?_
              refine wp_skip ?_
              refine inb_n (then_n ?_)
              refine rg_c FF81 MM81 [] 20 [] [] (⟨by omega, fun _ _ FF82 MM82 => ?_⟩)
              have hd := cnt_of (FF82.get 0 rfl)
              refine then_n ⟨⟨j + 1, by omega, FF82.pick [0, 3, 4, 5, 6, 7, 8, 9, 10], MM82⟩, ?_⟩
              rw [hc, hd]; omega
            · skip
              refine then_n (.inr ⟨(FF79.ev 0 rfl).trans (dec_f hlt), ?_⟩)
              obtain rfl : t = j := by omega
              refine then_n ?_
              refine wp_seq (rg_c FF79 MM79 [(0, t_ (.bool true))] 18 [] [] (⟨(callP_of en_lw_wakes wakes_w _), fun _ _ FF83 MM83 => then_n ?_⟩))
              refine wp_ret ?_
              repeat first | refine then_ret ?_ | refine inb_ret ?_
              exact (ret_fr FF83 0 Try.results4 rfl ⟨rfl, MM83.belowN H (fun _ hx => List.mem_cons_of_mem _ (List.mem_cons_of_mem _ (List.mem_cons_of_mem _ (List.mem_cons_of_mem _ (hz74 _ hx)))))⟩)
          · skip
            refine wp_seq (rg_c FF35 MM35 [(2, l_ 0 (iN o)), (1, l_ 0 (iN t)), (1, w_ 2)] 11 [141] [] (⟨rfl, rfl, rfl, rfl, by omega, hN, fun _ _ FF84 MM84 => then_n ?_⟩))
            refine wp_cond_true (FF84.ev 0 rfl) ?_
            refine wp_seq (rg_c FF84 MM84 [(2, l_ 0 (iN o)), (1, l_ 0 (iN t)), (1, w_ 2), (1, t_ (.bool true))] 11 [] [] (⟨rfl, rfl, rfl, rfl, by omega, by omega, (callP_of en_lw_wakes wakes_w _), fun _ _ FF85 MM85 => then_n ?_⟩))
            refine wp_ret ?_
            repeat first | refine then_ret ?_ | refine inb_ret ?_
            exact (ret_fr FF85 0 Try.results4 rfl ⟨rfl, MM85.belowN H (fun _ hx => List.mem_cons_of_mem _ (List.mem_cons_of_mem _ (List.mem_cons_of_mem _ (List.mem_cons_of_mem _ (hs27 _ hx)))))⟩)
      · skip
        refine wp_seq (wp_region_list ?_)
        refine rp_c 1 FF11 MM11 [] 32 [] [] (fun _ _ FF86 MM86 => ?_)
        refine st_callE [6, 5, 4, 1, 32] FF86 (d := 32) (mk := fun v => v) en_tnew rfl rfl (tnew_any Y _) rfl (by kernel_rfl) (by decide) fun ac88 wd88 lv87 FF88 hr89 => ?_
        obtain ⟨gp, rfl, hB_gp, hf_gp, hb_gp⟩ := hr89
        have MM90 := MM86.keep hB_gp
        have MM91 : MemS (fun k => k < w0.heap.size ∧ ∀ x ∈ O, x.1 ≠ k) w0 wd88 ((gp, oC #[sB Y, iN 0] 56) :: (gk, oC #[iN a, iN b, iN r, iN m] 65) :: (bn, .cells (cn .u8 X) 22) :: O) [] := MM86.addFresh MM90 hb_gp hf_gp
        refine rp_c 1 FF88 MM91 [] 34 [] [] (fun _ wd92 FF92 MM92 => ?_)
        refine st_callE [6, 5, 4, 1, 34] FF92 (d := 34) (mk := fun v => .tuple #[.agg #[iN 0, iN 0, .slice (pOf v) (0) (cOf v)], iN ((uN a b r m 16 Z).2.1)]) en_mk rfl rfl (by have h0 := mk_any gp gk a b r m hk Y 0 hY (by decide) ((16 : Nat) : Int) wd92 (MM92.get 1 rfl) (MM92.get 0 rfl); rw [cvZ_nat (by decide) (by decide), cvK_two hZ h1 h2] at h0; exact h0) rfl (by kernel_rfl) (by decide) fun ac95 wd95 lv94 FF95 hr96 => ?_
        have ht9 := hr96.1
        have MM97 : MemS (fun k => k < w0.heap.size ∧ ∀ x ∈ O, x.1 ≠ k) w0 wd95 ((gp, oC #[sB (Y.drop ((uN a b r m 16 Y).2.2 + (uN a b r m 16 Z).2.2 + (52 * 0 + 88 * 0))), iN (0 + ((uN a b r m 16 Y).2.2 + (uN a b r m 16 Z).2.2 + (52 * 0 + 88 * 0)))] 56) :: (gk, oC #[iN a, iN b, iN r, iN m] 65) :: (bn, .cells (cn .u8 X) 22) :: O) [] := MM92.turnAt ht9 0 rfl
        obtain ⟨O98, MM990, hR100, hs101⟩ := MemS.addRowT (K := [(gp, oC #[sB (Y.drop ((uN a b r m 16 Y).2.2 + (uN a b r m 16 Z).2.2 + (52 * 0 + 88 * 0))), iN (0 + ((uN a b r m 16 Y).2.2 + (uN a b r m 16 Z).2.2 + (52 * 0 + 88 * 0)))] 56), (gk, oC #[iN a, iN b, iN r, iN m] 65), (bn, .cells (cn .u8 X) 22)]) (O := O) MM92 MM97 rfl hr96.2
        have MM99 : MemS (fun k => k < w0.heap.size ∧ ∀ x ∈ O, x.1 ≠ k) w0 wd95 ((gp, oC #[sB (Y.drop ((uN a b r m 16 Y).2.2 + (uN a b r m 16 Z).2.2 + (52 * 0 + 88 * 0))), iN (0 + ((uN a b r m 16 Y).2.2 + (uN a b r m 16 Z).2.2 + (52 * 0 + 88 * 0)))] 56) :: (gk, oC #[iN a, iN b, iN r, iN m] 65) :: (bn, .cells (cn .u8 X) 22) :: O98) [] := MM990
        have hR102 : RowO O98 (pOf lv94) 0 (fun k9 => sB (reqC 0 (Y.drop ((uN a b r m 16 Y).2.2 + (uN a b r m 16 Z).2.2)) k9)) := hR100
        refine rp_c 6 FF95 MM99 [(4, b_ 0)] 9 [] [] (fun bc => ⟨rfl, rfl, rfl, (by kernel_rfl), rfl, fun _ _ FF103 MM103 => ?_⟩)
        refine wpl_nil (then_n ?_)
        refine wp_seq ?_
        refine wp_seq (rg_c FF103 MM103 [(1, w_ 3), (2, w_ 2)] 9 [42] [] (⟨(fun h => h rfl), h2, fun _ _ FF104 MM104 => then_n ?_⟩))
        refine wp_cond_true (FF104.ev 0 rfl) ?_
        refine wp_seq (rg_c FF104 MM104 [(1, w_ 2), (2, w_ 2), (3, l_ 0 (.slice (pOf lv94) 0 (cOf lv94))), (1, w_ 2), (2, t_ (.bool true))] 9 [] [] (⟨rfl, by omega, rfl, rfl, rfl, (callP_of en_lw_wakes wakes_w _), fun _ _ FF105 MM105 => then_n ?_⟩))
        refine wp_ret ?_
        repeat first | refine then_ret ?_ | refine inb_ret ?_
        exact (ret_fr FF105 0 Try.results4 rfl ⟨rfl, MM105.belowN H (fun _ hx => List.mem_cons_of_mem _ (List.mem_cons_of_mem _ (List.mem_cons_of_mem _ (List.mem_cons_of_mem _ (hs101 _ hx)))))⟩)
    · skip
      refine wp_seq (wp_region_list ?_)
      refine rp_c 1 FF11 MM11 [] 32 [] [] (fun _ _ FF106 MM106 => ?_)
      refine st_callE [6, 5, 4, 1, 32] FF106 (d := 32) (mk := fun v => v) en_tnew rfl rfl (tnew_any Y _) rfl (by kernel_rfl) (by decide) fun ac108 wd108 lv107 FF108 hr109 => ?_
      obtain ⟨gp, rfl, hB_gp, hf_gp, hb_gp⟩ := hr109
      have MM110 := MM106.keep hB_gp
      have MM111 : MemS (fun k => k < w0.heap.size ∧ ∀ x ∈ O, x.1 ≠ k) w0 wd108 ((gp, oC #[sB Y, iN 0] 56) :: (gk, oC #[iN a, iN b, iN r, iN m] 65) :: (bn, .cells (cn .u8 X) 22) :: O) [] := MM106.addFresh MM110 hb_gp hf_gp
      refine rp_c 1 FF108 MM111 [] 34 [] [] (fun _ wd112 FF112 MM112 => ?_)
      refine st_callE [6, 5, 4, 1, 34] FF112 (d := 34) (mk := fun v => .tuple #[.agg #[iN 0, iN 0, .slice (pOf v) (0) (cOf v)], iN ((uN a b r m 16 Y).2.1)]) en_mk rfl rfl (by have h0 := mk_any gp gk a b r m hk Y 0 hY (by decide) ((16 : Nat) : Int) wd112 (MM112.get 1 rfl) (MM112.get 0 rfl); rw [cvZ_nat (by decide) (by decide), cvK_one h1] at h0; exact h0) rfl (by kernel_rfl) (by decide) fun ac115 wd115 lv114 FF115 hr116 => ?_
      have ht9 := hr116.1
      have MM117 : MemS (fun k => k < w0.heap.size ∧ ∀ x ∈ O, x.1 ≠ k) w0 wd115 ((gp, oC #[sB (Y.drop ((uN a b r m 16 Y).2.2 + (52 * 0 + 88 * 0))), iN (0 + ((uN a b r m 16 Y).2.2 + (52 * 0 + 88 * 0)))] 56) :: (gk, oC #[iN a, iN b, iN r, iN m] 65) :: (bn, .cells (cn .u8 X) 22) :: O) [] := MM112.turnAt ht9 0 rfl
      obtain ⟨O118, MM1190, hR120, hs121⟩ := MemS.addRowT (K := [(gp, oC #[sB (Y.drop ((uN a b r m 16 Y).2.2 + (52 * 0 + 88 * 0))), iN (0 + ((uN a b r m 16 Y).2.2 + (52 * 0 + 88 * 0)))] 56), (gk, oC #[iN a, iN b, iN r, iN m] 65), (bn, .cells (cn .u8 X) 22)]) (O := O) MM112 MM117 rfl hr116.2
      have MM119 : MemS (fun k => k < w0.heap.size ∧ ∀ x ∈ O, x.1 ≠ k) w0 wd115 ((gp, oC #[sB (Y.drop ((uN a b r m 16 Y).2.2 + (52 * 0 + 88 * 0))), iN (0 + ((uN a b r m 16 Y).2.2 + (52 * 0 + 88 * 0)))] 56) :: (gk, oC #[iN a, iN b, iN r, iN m] 65) :: (bn, .cells (cn .u8 X) 22) :: O118) [] := MM1190
      have hR122 : RowO O118 (pOf lv114) 0 (fun k9 => sB (reqC 0 (Y.drop ((uN a b r m 16 Y).2.2)) k9)) := hR120
      refine rp_c 6 FF115 MM119 [(4, b_ 0)] 9 [] [] (fun bc => ⟨rfl, rfl, rfl, (by kernel_rfl), rfl, fun _ _ FF123 MM123 => ?_⟩)
      refine wpl_nil (then_n ?_)
      refine wp_seq ?_
      refine wp_seq (rg_c FF123 MM123 [(1, w_ 3), (2, w_ 2)] 9 [42] [] (⟨(fun h => h rfl), h1, fun _ _ FF124 MM124 => then_n ?_⟩))
      refine wp_cond_true (FF124.ev 0 rfl) ?_
      refine wp_seq (rg_c FF124 MM124 [(1, w_ 2), (2, w_ 2), (3, l_ 0 (.slice (pOf lv114) 0 (cOf lv114))), (1, w_ 2), (2, t_ (.bool true))] 9 [] [] (⟨rfl, by omega, rfl, rfl, rfl, (callP_of en_lw_wakes wakes_w _), fun _ _ FF125 MM125 => then_n ?_⟩))
      refine wp_ret ?_
      repeat first | refine then_ret ?_ | refine inb_ret ?_
      exact (ret_fr FF125 0 Try.results4 rfl ⟨rfl, MM125.belowN H (fun _ hx => List.mem_cons_of_mem _ (List.mem_cons_of_mem _ (List.mem_cons_of_mem _ (List.mem_cons_of_mem _ (hs121 _ hx)))))⟩)
end Go.Proofs.Ythgfjeljfiadmaa
