/- The walks of Num, Same, Pick, Sub and Inv of package field. -/
import Derived.Test.YtpgmaidbemndnaaW3
import Derived.Test.YtpgmaidbemndnaaReg
namespace Go.Proofs.Ytpgmaidbemndnaa
open Go.RowKit

set_option maxHeartbeats 1000000 in
theorem num_any (n : Nat) (hn : n < 18446744073709551616) (w : World) :
    Calls Try.prog 12 #[.int .u64 n] w fun e w' => e = .returned (E4 n) ∧ Below w.heap.size w w' := by
  obtain ⟨h0, h1, h2, h3⟩ := small_words n hn
  unfold E4
  rw [h0, h1, h2, h3]
  clear h0 h1 h2 h3 hn
  go_enter Try.func12, Try.ntmps12
  go_wp2
  refine bodyPost_ret (v := A4 n 0 0 0) (by simp [results, Try.results12, go_sem]) rfl ⟨rfl, ?_⟩
  exact (Below.refl _ _).alloc (Nat.le_refl _) _

set_option maxHeartbeats 1000000 in
theorem same_raw (a b c d a' b' c' d' : Nat) (w : World) :
    Calls Try.prog 19 #[A4 a b c d, A4 a' b' c' d'] w fun e w' => ∃ r : Bool, e = .returned (.bool r) ∧ (r = true ↔ a = a' ∧ b = b' ∧ c = c' ∧ d = d') ∧ Below w.heap.size w w' := by
  go_enter Try.func19, Try.ntmps19
  go_wp2
  all_goals
    go_ret
    exact ⟨_, rfl, by simp; omega, ((Below.refl _ _).alloc (Nat.le_refl _) _).alloc (by simp) _⟩

theorem E4_inj {x y : Nat} (hx : x < top4) (hy : y < top4) (h : w0 x = w0 y ∧ w1 x = w1 y ∧ w2 x = w2 y ∧ w3 x = w3 y) : x = y := by
  rw [← mk4_w x hx, ← mk4_w y hy, h.1, h.2.1, h.2.2.1, h.2.2.2]

theorem same_any (x y : Nat) (hx : x < top4) (hy : y < top4) (w : World) :
    Calls Try.prog 19 #[E4 x, E4 y] w fun e w' => e = .returned (.bool (x == y)) ∧ Below w.heap.size w w' := by
  refine (same_raw (w0 x) (w1 x) (w2 x) (w3 x) (w0 y) (w1 y) (w2 y) (w3 y) w).mono ?_
  rintro e w' ⟨r, rfl, hr, hb⟩
  refine ⟨?_, hb⟩
  have : r = (x == y) := by
    rw [Bool.eq_iff_iff, hr, beq_iff_eq]
    exact ⟨E4_inj hx hy, fun h => by subst h; exact ⟨rfl, rfl, rfl, rfl⟩⟩
  rw [this]

set_option maxHeartbeats 1000000 in
theorem sub_raw (x y z u r : Nat) (w : World)
    (k1 : ∀ w, Calls Try.prog 29 #[E4 y] w fun e w' => e = .returned (E4 z) ∧ Below w.heap.size w w')
    (k2 : ∀ w, Calls Try.prog 28 #[E4 x, E4 z] w fun e w' => e = .returned (E4 u) ∧ Below w.heap.size w w')
    (k3 : ∀ w, Calls Try.prog 26 #[E4 u, .int .u64 0] w fun e w' => e = .returned (E4 r) ∧ Below w.heap.size w w') :
    Calls Try.prog 14 #[E4 x, E4 y] w fun e w' => e = .returned (E4 r) ∧ Below w.heap.size w w' := by
  have K1 : Hid _ := k1
  have K2 : Hid _ := k2
  have K3 : Hid _ := k3
  clear k1 k2 k3
  go_enter Try.func14, Try.ntmps14
  go_wp2_with fail
  generalize hW : ((w.alloc (Obj.cells #[Value.int IntKind.u64 ↑(w0 x), Value.int IntKind.u64 ↑(w1 x), Value.int IntKind.u64 ↑(w2 x), Value.int IntKind.u64 ↑(w3 x)] 30)).alloc
      (Obj.cells #[Value.int IntKind.u64 ↑(w0 y), Value.int IntKind.u64 ↑(w1 y), Value.int IntKind.u64 ↑(w2 y), Value.int IntKind.u64 ↑(w3 y)] 30)).alloc
        (Obj.cells #[Value.int IntKind.u64 0, Value.int IntKind.u64 0, Value.int IntKind.u64 0, Value.int IntKind.u64 0] 30) = W
  refine region_list W.heap.size (C := fun w' => Below W.heap.size W w') [.inl (.pointer (some ⟨w.heap.size, 0, none⟩)), .inl (E4 x), .inl (.pointer (some ⟨w.heap.size + 1, 0, none⟩)), .inl (E4 y), .inl (E4 z), .inl (E4 u), .inl (E4 r), .inl (E4 r)] [] (by kernel_rfl) (by kernel_rfl) ⟨rfl, rfl, rfl, Nat.le_refl _, fun _ _ => rfl⟩
    (fun w1 w2 h1 h2 => h1.trans (h2.mono h1.size)) (fun i h => by simp at h) ?_ ?_
  · have X : W.heap[w.heap.size]? = some (.cells #[.int .u64 (w0 x), .int .u64 (w1 x), .int .u64 (w2 x), .int .u64 (w3 x)] 30) := by rw [← hW, heap_old _ _ (by simp; omega), heap_old _ _ (by simp)]; exact heap_new _ _
    have Y : W.heap[w.heap.size + 1]? = some (.cells #[.int .u64 (w0 y), .int .u64 (w1 y), .int .u64 (w2 y), .int .u64 (w3 y)] 30) := by rw [← hW, heap_old _ _ (by simp)]; exact heap_new' _ _ (by simp)
    clear hW
    refine ⟨?_, ?_, ?_, ?_, ?_, ?_, ?_, ?_, trivial⟩
    · intro a v hC hk hd
      have h2 : a.tmps[2]? = some (.pointer (some ⟨w.heap.size, 0, none⟩)) := hk 2 (by kernel_rfl)
      exact ok_value rfl (by simp [execOp, Act.eval, h2, go_sem])
    · intro a v hC hk hd
      have h2 : a.tmps[5]? = some (.pointer (some ⟨w.heap.size, 0, none⟩)) := hd 0 (by kernel_rfl)
      obtain ⟨p0, p1, p2, p3, _⟩ := cells4 (keep hC X)
      exact ok_value rfl (by simp [execOp, Act.eval, h2, go_sem, p0, p1, p2, p3])
    · intro a v hC hk hd
      have h2 : a.tmps[3]? = some (.pointer (some ⟨w.heap.size + 1, 0, none⟩)) := hk 3 (by kernel_rfl)
      exact ok_value rfl (by simp [execOp, Act.eval, h2, go_sem])
    · intro a v hC hk hd
      have h2 : a.tmps[7]? = some (.pointer (some ⟨w.heap.size + 1, 0, none⟩)) := hd 2 (by kernel_rfl)
      obtain ⟨p0, p1, p2, p3, _⟩ := cells4 (keep hC Y)
      exact ok_value rfl (by simp [execOp, Act.eval, h2, go_sem, p0, p1, p2, p3])
    · intro a v hC hk hd
      have h2 : a.tmps[8]? = some (E4 y) := hd 3 (by kernel_rfl)
      exact ok_call rfl (by simp [Act.eval, h2, go_sem]) (K1.out v)
    · intro a v hC hk hd
      have h2 : a.tmps[6]? = some (E4 x) := hd 1 (by kernel_rfl)
      have h3 : a.tmps[9]? = some (E4 z) := hd 4 (by kernel_rfl)
      exact ok_call rfl (by simp [Act.eval, h2, h3, go_sem]) (K2.out v)
    · intro a v hC hk hd
      have h2 : a.tmps[10]? = some (E4 u) := hd 5 (by kernel_rfl)
      exact ok_call rfl (by simp [Act.eval, h2, go_sem]) (K3.out v)
    · intro a v hC hk hd
      have h2 : a.tmps[11]? = some (E4 r) := hd 6 (by kernel_rfl)
      exact ok_value rfl (by simp [execOp, Act.eval, h2, go_sem])
  · intro b w2 hC hf _
    have R : W.heap[w.heap.size + 1 + 1]? = some (.cells #[.int .u64 0, .int .u64 0, .int .u64 0, .int .u64 0] 30) := by rw [← hW]; exact heap_new' _ _ (by simp)
    have B : Hid (Below w.heap.size w w2) := by
      have h0 : Below w.heap.size w W := by rw [← hW]; exact (((Below.refl _ _).alloc (Nat.le_refl _) _).alloc (by simp) _).alloc (by simp; omega) _
      exact h0.trans (hC.mono h0.size)
    obtain ⟨p0, p1, p2, p3, f0, f1, f2, f3⟩ := cells4 (keep hC R)
    clear hC hf hW R
    simp [valsOf, valOf, putAll, Act.put]
    go_wp2_with fail
    refine bodyPost_ret (v := E4 r) (by simp [results, Try.results14, go_sem, p0, p1, p2, p3]) rfl ⟨rfl, ?_⟩
    exact (((B.out.setCell (by simp; omega) _).setCell (by simp; omega) _).setCell (by simp; omega) _).setCell (by simp; omega) _

theorem sub_any (x y : Nat) (hx : x < pN) (hy : y < pN) (w : World) :
    Calls Try.prog 14 #[E4 x, E4 y] w fun e w' => e = .returned (E4 ((x + (pN - y)) % pN)) ∧ Below w.heap.size w w' := by
  have h : red (x + (pN - y)) 0 = (x + (pN - y)) % pN := rfl
  rw [← h]
  exact sub_raw x y _ _ _ w (opposite_any y (by omega)) (plus_any x (pN - y)) (settle_any _ 0 (by unfold pN top4 at *; omega) (by omega))

/-- What Pick makes of its number: all bits, if it is 1; else none. -/
theorem pick_mask1 : IntKind.u64.wrap (bits BinOp.or IntKind.u64 (bits BinOp.xor IntKind.u64 (IntKind.u64.wrap 1) 1) (IntKind.u64.wrap (-bits BinOp.xor IntKind.u64 (IntKind.u64.wrap 1) 1)) / 9223372036854775808 - 1) = 18446744073709551615 := by decide
theorem pick_mask0 (n : Int) (h1 : -9223372036854775808 ≤ n) (h2 : n ≤ 9223372036854775807) (hn : n ≠ 1) :
    IntKind.u64.wrap (bits BinOp.or IntKind.u64 (bits BinOp.xor IntKind.u64 (IntKind.u64.wrap n) 1) (IntKind.u64.wrap (-bits BinOp.xor IntKind.u64 (IntKind.u64.wrap n) 1)) / 9223372036854775808 - 1) = 0 := by
  obtain ⟨u, hu, hlt, hne⟩ : ∃ u : Nat, IntKind.u64.wrap n = (u : Int) ∧ u < 18446744073709551616 ∧ u ≠ 1 := by
    refine ⟨(n % 18446744073709551616).toNat, ?_, ?_, ?_⟩
    · rw [IntKind.wrap_u64]; omega
    · omega
    · omega
  rw [hu]
  have e1 : bits BinOp.xor IntKind.u64 (u : Int) 1 = ((u ^^^ 1 : Nat) : Int) := u64_xor_nat u 1 hlt (by omega)
  rw [e1]
  have hx : u ^^^ 1 < 18446744073709551616 := Nat.xor_lt_two_pow (n := 64) hlt (by decide)
  have hx0 : u ^^^ 1 ≠ 0 := fun h => hne (by
    have h' : u ^^^ 1 ^^^ 1 = 0 ^^^ 1 := by rw [h]
    rwa [Nat.xor_assoc, Nat.xor_self, Nat.xor_zero, Nat.zero_xor] at h')
  generalize u ^^^ 1 = x at *
  have e2 : IntKind.u64.wrap (-(x : Int)) = ((18446744073709551616 - x : Nat) : Int) := by rw [IntKind.wrap_u64]; omega
  rw [e2, u64_or_nat _ _ hx (by omega)]
  have g1 : x ≤ x ||| (18446744073709551616 - x) := Nat.left_le_or
  have g2 : 18446744073709551616 - x ≤ x ||| (18446744073709551616 - x) := Nat.right_le_or
  have g3 : x ||| (18446744073709551616 - x) < 18446744073709551616 := Nat.or_lt_two_pow (n := 64) hx (by omega)
  generalize x ||| (18446744073709551616 - x) = z at *
  rw [IntKind.wrap_u64]
  omega

set_option maxHeartbeats 1000000 in
theorem pick_raw (n m : Int) (x y r : Nat) (w : World)
    (hm : IntKind.u64.wrap (bits BinOp.or IntKind.u64 (bits BinOp.xor IntKind.u64 (IntKind.u64.wrap n) 1) (IntKind.u64.wrap (-bits BinOp.xor IntKind.u64 (IntKind.u64.wrap n) 1)) / 9223372036854775808 - 1) = m)
    (k : ∀ w, Calls Try.prog 32 #[.int .u64 m, E4 x, E4 y] w fun e w' => e = .returned (E4 r) ∧ Below w.heap.size w w') :
    Calls Try.prog 18 #[.int .i64 n, E4 x, E4 y] w fun e w' => e = .returned (E4 r) ∧ Below w.heap.size w w' := by
  have K : Hid _ := k
  have M : Hid _ := hm
  clear k hm
  go_enter Try.func18, Try.ntmps18
  go_wp2_with fail
  rw [M.out]
  refine (K.out _).mono ?_
  rintro e u ⟨rfl, hb⟩
  have R := keep hb (b := w.heap.size + 1 + 1) (heap_new' _ _ (by simp))
  have B : Hid (Below w.heap.size w u) := ((((Below.refl _ _).alloc (Nat.le_refl _) _).alloc (by simp) _).alloc (by simp; omega) _).trans (hb.mono (by simp; omega))
  obtain ⟨p0, p1, p2, p3, f0, f1, f2, f3⟩ := cells4 R
  clear hb R
  go_wp2_with fail
  refine bodyPost_ret (v := E4 r) (by simp [results, Try.results18, go_sem, p0, p1, p2, p3]) rfl ⟨rfl, ?_⟩
  exact (((B.out.setCell (by simp; omega) _).setCell (by simp; omega) _).setCell (by simp; omega) _).setCell (by simp; omega) _

theorem pick_any (n : Int) (x y : Nat) (h1 : -9223372036854775808 ≤ n) (h2 : n ≤ 9223372036854775807) (w : World) :
    Calls Try.prog 18 #[.int .i64 n, E4 x, E4 y] w fun e w' => e = .returned (E4 (if n = 1 then y else x)) ∧ Below w.heap.size w w' := by
  by_cases hn : n = 1
  · subst hn
    rw [if_pos rfl]
    exact pick_raw 1 _ x y y w pick_mask1 (choose_1 x y)
  · rw [if_neg hn]
    exact pick_raw n _ x y x w (pick_mask0 n h1 h2 hn) (choose_0 x y)

/-- The power p - 2, a bit a round. -/
def invTo (x : Nat) : Nat → Nat
  | 0 => 1
  | j + 1 => if j = 252 ∨ j = 250 then invTo x j * invTo x j % pN else (invTo x j * invTo x j % pN) * x % pN
theorem pN_top : pN < top4 := by decide
theorem invTo_lt (x j : Nat) : invTo x j < top4 := by
  cases j with
  | zero => show 1 < top4; decide
  | succ j =>
    unfold invTo
    split <;> exact Nat.lt_trans (Nat.mod_lt _ (by decide)) pN_top

theorem int_eq {k : IntKind} {a b : Int} (h : a = b) : Value.int k a = Value.int k b := by rw [h]

set_option maxHeartbeats 2000000 in
theorem inv_any (x : Nat) (hx : x < top4) (w : World) :
    Calls Try.prog 16 #[E4 x] w fun e w' => e = .returned (E4 (invTo x 255)) ∧ Below w.heap.size w w' := by
  obtain ⟨r, hr⟩ : ∃ r, invTo x 255 = r := ⟨_, rfl⟩
  rw [hr]
  have HR : Hid _ := hr
  clear hr
  go_enter Try.func16, Try.ntmps16
  go_wp2_with fail
  go_loopw [4] (fun i wr => ∃ j : Nat, j ≤ 255 ∧ i = .int .i64 (254 - (j : Int)) ∧ wr.heap[w.heap.size]? = some (.cells #[.int .u64 (w0 x), .int .u64 (w1 x), .int .u64 (w2 x), .int .u64 (w3 x)] 30) ∧
      wr.heap[w.heap.size + 1]? = some (.cells #[.int .u64 0, .int .u64 0, .int .u64 0, .int .u64 0] 30) ∧ wr.heap[w.heap.size + 1 + 1]? = some (.cells #[.int .u64 (w0 (invTo x j)), .int .u64 (w1 (invTo x j)), .int .u64 (w2 (invTo x j)), .int .u64 (w3 (invTo x j))] 28) ∧ Below w.heap.size w wr) (fun i _ => (intOf i + 1).toNat)
  case atStart =>
    refine ⟨0, by omega, rfl, ?_, ?_, ?_, ?_⟩
    · rw [heap_old _ _ (by simp; omega), heap_old _ _ (by simp)]; exact heap_new _ _
    · rw [heap_old _ _ (by simp)]; exact heap_new' _ _ (by simp)
    · rw [show invTo x 0 = 1 from rfl, show w0 1 = 1 by decide, show w1 1 = 0 by decide, show w2 1 = 0 by decide, show w3 1 = 0 by decide]
      exact heap_new' _ _ (by simp)
    · exact (((Below.refl _ _).alloc (Nat.le_refl _) _).alloc (by simp) _).alloc (by simp; omega) _
  case round =>
    obtain ⟨j, hj, rfl, X, Z, O, B⟩ := hrel
    obtain ⟨n, hn⟩ : ∃ n : Int, n = 254 - (j : Int) := ⟨_, rfl⟩
    rw [← hn]
    have BB : Hid _ := B
    have XX : Hid _ := X
    have ZZ : Hid _ := Z
    have OO : Hid _ := O
    have hz0 := lt_of_block X
    have hz1 := lt_of_block Z
    have hz2 := lt_of_block O
    obtain ⟨s, hs⟩ : ∃ s, invTo x j * invTo x j % pN = s := ⟨_, rfl⟩
    have P1 := fun w => product_any (invTo x j) (invTo x j) (invTo_lt x j) (invTo_lt x j) w
    rw [hs] at P1
    have P2 : Hid _ := P1
    clear P1
    have hsl : s < top4 := by rw [← hs]; exact Nat.lt_trans (Nat.mod_lt _ (by decide)) pN_top
    obtain ⟨t, ht⟩ : ∃ t, s * x % pN = t := ⟨_, rfl⟩
    have P3 := fun w => product_any s x hsl hx w
    rw [ht] at P3
    have P4 : Hid _ := P3
    clear P3 hsl
    have HS : Hid _ := hs
    have HT : Hid _ := ht
    clear hs ht
    by_cases hlt : j < 255
    · obtain ⟨p0, p1, p2, p3, f0, f1, f2, f3⟩ := cells4 O
      clear B X Z O
      have n0 : 0 ≤ n := by omega
      have n1 : n ≤ 254 := by omega
      have HN : Hid (n = 254 - (j : Int)) := hn
      clear hn
      go_wp2_with fail
      refine (P2.out _).mono ?_
      rintro e u1 ⟨rfl, hb⟩
      have X1 : Hid _ := keep hb XX.out
      have Z1 : Hid _ := keep hb ZZ.out
      have O1 := keep hb OO.out
      have B1 : Hid (Below w.heap.size w u1) := BB.out.trans (hb.mono BB.out.size)
      clear hb p0 p1 p2 p3 f0 f1 f2 f3 BB XX ZZ OO
      obtain ⟨p0, p1, p2, p3, f0, f1, f2, f3⟩ := cells4 O1
      have O2 : Hid _ := O1
      clear O1
      by_cases hb : j = 252 ∨ j = 250
      · have e1 : invTo x (j + 1) = s := by show (if j = 252 ∨ j = 250 then _ else _) = _; rw [if_pos hb]; exact HS.out
        have fin : ∀ u : World, u = ((((u1.setCell ⟨w.heap.size + 1 + 1, 0, none⟩ (.int .u64 (w0 s))).setCell ⟨w.heap.size + 1 + 1, 1, none⟩ (.int .u64 (w1 s))).setCell ⟨w.heap.size + 1 + 1, 2, none⟩ (.int .u64 (w2 s))).setCell ⟨w.heap.size + 1 + 1, 3, none⟩ (.int .u64 (w3 s))) →
            u.heap[w.heap.size]? = some (.cells #[.int .u64 (w0 x), .int .u64 (w1 x), .int .u64 (w2 x), .int .u64 (w3 x)] 30) ∧ u.heap[w.heap.size + 1]? = some (.cells #[.int .u64 0, .int .u64 0, .int .u64 0, .int .u64 0] 30) ∧
            u.heap[w.heap.size + 1 + 1]? = some (.cells #[.int .u64 (w0 (invTo x (j + 1))), .int .u64 (w1 (invTo x (j + 1))), .int .u64 (w2 (invTo x (j + 1))), .int .u64 (w3 (invTo x (j + 1)))] 28) ∧ Below w.heap.size w u := by
          rintro u rfl
          rw [e1]
          refine ⟨?_, ?_, heap_set4 O2.out, (((B1.out.setCell (by simp; omega) _).setCell (by simp; omega) _).setCell (by simp; omega) _).setCell (by simp; omega) _⟩
          · rw [heap_set_ne _ _ (by omega), heap_set_ne _ _ (by omega), heap_set_ne _ _ (by omega), heap_set_ne _ _ (by omega)]; exact X1.out
          · rw [heap_set_ne _ _ (by omega), heap_set_ne _ _ (by omega), heap_set_ne _ _ (by omega), heap_set_ne _ _ (by omega)]; exact Z1.out
        have FIN : Hid _ := fin
        clear fin e1
        rcases hb with hb | hb
        · have e : n = 2 := by have := HN.out; omega
          have HB : Hid _ := hb
          clear hb
          subst e
          go_wp2_with fail
          go_roundw
          case rel => exact ⟨j + 1, by have := HB.out; omega, by have := HB.out; exact int_eq (by omega), FIN.out _ rfl⟩
          case measure => simp [intOf]
        · have e : n = 4 := by have := HN.out; omega
          have HB : Hid _ := hb
          clear hb
          subst e
          go_wp2_with fail
          go_roundw
          case rel => exact ⟨j + 1, by have := HB.out; omega, by have := HB.out; exact int_eq (by omega), FIN.out _ rfl⟩
          case measure => simp [intOf]
      · have e1 : invTo x (j + 1) = t := by show (if j = 252 ∨ j = 250 then _ else _) = _; rw [if_neg hb, HS.out]; exact HT.out
        have E1 : Hid _ := e1
        have t2 : (n != 2) = true := by have := HN.out; simp; omega
        have t4 : (n != 4) = true := by have := HN.out; simp; omega
        clear e1 hb
        obtain ⟨q0, q1, q2, q3, g0, g1, g2, g3⟩ := cells4 X1.out
        go_wp2_with fail
        refine (P4.out _).mono ?_
        rintro e u2 ⟨rfl, hb⟩
        have X2 : Hid _ := keep hb (b := w.heap.size) (by rw [heap_set_ne _ _ (by omega), heap_set_ne _ _ (by omega), heap_set_ne _ _ (by omega), heap_set_ne _ _ (by omega)]; exact X1.out)
        have Z2 : Hid _ := keep hb (b := w.heap.size + 1) (by rw [heap_set_ne _ _ (by omega), heap_set_ne _ _ (by omega), heap_set_ne _ _ (by omega), heap_set_ne _ _ (by omega)]; exact Z1.out)
        have O1 := keep hb (heap_set4 O2.out)
        have B2 : Hid (Below w.heap.size w u2) := ((((B1.out.setCell (by simp; omega) _).setCell (by simp; omega) _).setCell (by simp; omega) _).setCell (by simp; omega) _).trans (hb.mono (by simp only [size_set]; exact B1.out.size))
        clear hb p0 p1 p2 p3 f0 f1 f2 f3 q0 q1 q2 q3 g0 g1 g2 g3 O2
        obtain ⟨p0, p1, p2, p3, f0, f1, f2, f3⟩ := cells4 O1
        have O2 : Hid _ := O1
        clear O1
        go_wp2_with fail
        go_roundw
        case rel =>
          refine ⟨j + 1, by omega, by have := HN.out; exact int_eq (by omega), ?_, ?_, ?_, ?_⟩
          · rw [heap_set_ne _ _ (by omega), heap_set_ne _ _ (by omega), heap_set_ne _ _ (by omega), heap_set_ne _ _ (by omega)]; exact X2.out
          · rw [heap_set_ne _ _ (by omega), heap_set_ne _ _ (by omega), heap_set_ne _ _ (by omega), heap_set_ne _ _ (by omega)]; exact Z2.out
          · rw [E1.out]; exact heap_set4 O2.out
          · exact (((B2.out.setCell (by simp; omega) _).setCell (by simp; omega) _).setCell (by simp; omega) _).setCell (by simp; omega) _
        case measure => simp [intOf]; omega
    · have e : j = 255 := by omega
      subst e
      have e2 : n = -1 := by omega
      clear hn
      subst e2
      obtain ⟨p0, p1, p2, p3, f0, f1, f2, f3⟩ := cells4 O
      obtain ⟨q0, q1, q2, q3, g0, g1, g2, g3⟩ := cells4 Z
      rw [HR.out] at p0 p1 p2 p3
      clear B X Z O hlt hj
      go_wp2_with fail
      refine bodyPost_ret (v := E4 r) (by simp [results, Try.results16, go_sem, q0, q1, q2, q3]) rfl ⟨rfl, ?_⟩
      exact (((BB.out.setCell (by simp) _).setCell (by simp) _).setCell (by simp) _).setCell (by simp) _
end Go.Proofs.Ytpgmaidbemndnaa
