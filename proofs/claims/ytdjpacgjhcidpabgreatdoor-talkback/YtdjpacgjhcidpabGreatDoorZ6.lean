/- Several texts in one: Package poly: words, products. Package poly: sums, products of numbers. Package poly: the least number, its bytes. Package poly: keys, blocks. Package poly: Sum. Numbers of ChaCha20. No program in this text. Numbers of layer 5: texts, sealed. What is taken from a tape. No program in this text. Maps: what one holds, as a list; made, asked, written, counted. Books: what is shared, what is noted, boxes. No program in this text. Numbers of layer 16: keys in common, names. Numbers of records: bodies, requests. Package tape: what is taken. -/
import Derived.Test.YtdjpacgjhcidpabGreatDoorZ5
import Derived.Test.YtdjpacgjhcidpabGreatDoorZ3
import Derived.Test.YtdjpacgjhcidpabGreatDoorProg
import Derived.Laws.Externs
import Derived.Test.YtdjpacgjhcidpabGreatDoorZ2
import Derived.DeepKeys5
import Derived.Test.YtdjpacgjhcidpabGreatDoorZ4
import Derived.Lib.MinMaxS
import Derived.Laws.Small
namespace Go.Proofs.YtdjpacgjhcidpabGreatDoor
open Go.RowKit
theorem ent17 : Enters Tryz.prog 83 := fun args w => by simp [go_sem]
theorem ent18 : Enters Tryz.prog 84 := fun args w => by simp [go_sem]
theorem ent19 : Enters Tryz.prog 85 := fun args w => by simp [go_sem]
theorem ent20 : Enters Tryz.prog 86 := fun args w => by simp [go_sem]
theorem ent21 : Enters Tryz.prog 87 := fun args w => by simp [go_sem]
theorem ent22 : Enters Tryz.prog 88 := fun args w => by simp [go_sem]
theorem ent23 : Enters Tryz.prog 89 := fun args w => by simp [go_sem]
theorem ent24 : Enters Tryz.prog 90 := fun args w => by simp [go_sem]
theorem ent30 : Enters Tryz.prog 104 := fun args w => by simp [go_sem]
theorem ent31 : Enters Tryz.prog 105 := fun args w => by simp [go_sem]
theorem ent32 : Enters Tryz.prog 106 := fun args w => by simp [go_sem]
theorem ent34 : Enters Tryz.prog 108 := fun args w => by simp [go_sem]
theorem ent36 : Enters Tryz.prog 79 := fun args w => by simp [go_sem]
theorem run_add64p (args : Array Value) (w : World) : (callFunc 107 args).run Tryz.prog w = ((add64Entry args).run Tryz.prog w).andThen fun v w' => .ok (.value v) w' :=
  run_callFunc_extern Tryz.func107 (by kernel_rfl) (by kernel_rfl) (by kernel_rfl) (by kernel_rfl) args w
theorem add64p_ok {l : Slots} {L : Blks} {o : Oper} {p q r : Operand} {x y c : Nat} {at_ : Array TypeId} (ho : o.op = .call ⟨.value (.func 107), #[p, q, r], at_⟩) (hp : evO l p = some (iW x)) (hq : evO l q = some (iW y)) (hr : evO l r = some (iW c)) (hc : c ≤ 1) :
    RunV Tryz.prog l L o (.tuple #[iW ((x + y + c) % 18446744073709551616), iW ((x + y + c) / 18446744073709551616)]) := fun ρ w A _ => by
  have h1 := A p _ hp
  have h2 := A q _ hq
  have h3 := A r _ hr
  have h4 := A (.func 107) _ rfl
  have e := run_add64 (P := Tryz.prog) x y c (by omega) (by omega) (by omega) (by omega) w
  simp only [← Int.natCast_add] at e
  simp [execOp, ho, resolve, Deferred.ofValue, invoke, h1, h2, h3, h4, run_add64p, e]
set_option maxRecDepth 100000 in
theorem py_word_any (X : List Nat) (hX : Bytes 8 X) (w0 : World) :
    Calls Tryz.prog 104 #[.agg (cn .u8 X)] w0 fun e w' => e = .returned (iW (le8 X)) ∧ Below w0.heap.size w0 w' := by
  refine enter_fr Tryz.func104 rfl Tryz.ntmps104 (by simp) fun ac (FF : Fr 41 ac [(0, .agg (cn .u8 X))]) => ?_
  have MM := MemS.start w0
  refine wp_seq (rg_c FF MM [(0, s_ 0 (.cells (cn .u8 X) 161))] 3 [] [0] (⟨(by kernel_rfl), fun b1 => fun _ _ FF1 MM1 => then_n ?_⟩))
  refine wp_seq (rg_c FF1 MM1 ((0, w_ 1) :: (0, l_ 0 (iB (X.getD 0 0))) :: (0, w_ 1) :: (0, w_ 1) :: (0, l_ 0 (iB (X.getD 1 0))) :: (0, w_ 1) :: (0, t_ (iW (X.getD 1 0 * 256))) :: (0, t_ (iW (X.getD 0 0 + X.getD 1 0 * 256))) :: (0, w_ 1) :: (0, l_ 0 (iB (X.getD 2 0))) :: (0, w_ 1) :: (0, t_ (iW (X.getD 2 0 * 65536))) :: (0, t_ (iW (X.getD 0 0 + X.getD 1 0 * 256 + X.getD 2 0 * 65536))) :: (0, w_ 1) :: (0, l_ 0 (iB (X.getD 3 0))) :: (0, w_ 1) :: (0, t_ (iW (X.getD 3 0 * 16777216))) :: (0, t_ (iW (X.getD 0 0 + X.getD 1 0 * 256 + X.getD 2 0 * 65536 + X.getD 3 0 * 16777216))) :: (0, w_ 1) :: (0, l_ 0 (iB (X.getD 4 0))) :: (0, w_ 1) :: (0, t_ (iW (X.getD 4 0 * 4294967296))) :: (0, t_ (iW (X.getD 0 0 + X.getD 1 0 * 256 + X.getD 2 0 * 65536 + X.getD 3 0 * 16777216 + X.getD 4 0 * 4294967296))) :: (0, w_ 1) :: (0, l_ 0 (iB (X.getD 5 0))) :: (0, w_ 1) :: (0, t_ (iW (X.getD 5 0 * 1099511627776))) :: (0, t_ (iW (X.getD 0 0 + X.getD 1 0 * 256 + X.getD 2 0 * 65536 + X.getD 3 0 * 16777216 + X.getD 4 0 * 4294967296 + X.getD 5 0 * 1099511627776))) :: (0, w_ 1) :: (0, l_ 0 (iB (X.getD 6 0))) :: (0, w_ 1) :: (0, t_ (iW (X.getD 6 0 * 281474976710656))) :: (0, t_ (iW (X.getD 0 0 + X.getD 1 0 * 256 + X.getD 2 0 * 65536 + X.getD 3 0 * 16777216 + X.getD 4 0 * 4294967296 + X.getD 5 0 * 1099511627776 + X.getD 6 0 * 281474976710656))) :: (0, w_ 1) :: (0, l_ 0 (iB (X.getD 7 0))) :: (0, w_ 1) :: (0, t_ (iW (X.getD 7 0 * 72057594037927936))) :: (0, t_ (iW (X.getD 0 0 + X.getD 1 0 * 256 + X.getD 2 0 * 65536 + X.getD 3 0 * 16777216 + X.getD 4 0 * 4294967296 + X.getD 5 0 * 1099511627776 + X.getD 6 0 * 281474976710656 + X.getD 7 0 * 72057594037927936))) :: []) 0 [2] [] (⟨by decide, rfl, (cn_get _ _ _ (by rw [hX.len]; decide)), (by have := hX.lt 0; omega), by decide, rfl, (cn_get _ _ _ (by rw [hX.len]; decide)), (by have := hX.lt 1; omega), (vI (Nat.mod_eq_of_lt (by have := hX.lt 1; omega))), (by have := hX.lt 0; omega), (by have := hX.lt 1; omega), (vI (or_shl 8 (by have := hX.lt 0; have := hX.lt 1; omega))), by decide, rfl, (cn_get _ _ _ (by rw [hX.len]; decide)), (by have := hX.lt 2; omega), (vI (Nat.mod_eq_of_lt (by have := hX.lt 2; omega))), (by have := hX.lt 0; have := hX.lt 1; omega), (by have := hX.lt 2; omega), (vI (or_shl 16 (by have := hX.lt 0; have := hX.lt 1; have := hX.lt 2; omega))), by decide, rfl, (cn_get _ _ _ (by rw [hX.len]; decide)), (by have := hX.lt 3; omega), (vI (Nat.mod_eq_of_lt (by have := hX.lt 3; omega))), (by have := hX.lt 0; have := hX.lt 1; have := hX.lt 2; omega), (by have := hX.lt 3; omega), (vI (or_shl 24 (by have := hX.lt 0; have := hX.lt 1; have := hX.lt 2; have := hX.lt 3; omega))), by decide, rfl, (cn_get _ _ _ (by rw [hX.len]; decide)), (by have := hX.lt 4; omega), (vI (Nat.mod_eq_of_lt (by have := hX.lt 4; omega))), (by have := hX.lt 0; have := hX.lt 1; have := hX.lt 2; have := hX.lt 3; omega), (by have := hX.lt 4; omega), (vI (or_shl 32 (by have := hX.lt 0; have := hX.lt 1; have := hX.lt 2; have := hX.lt 3; have := hX.lt 4; omega))), by decide, rfl, (cn_get _ _ _ (by rw [hX.len]; decide)), (by have := hX.lt 5; omega), (vI (Nat.mod_eq_of_lt (by have := hX.lt 5; omega))), (by have := hX.lt 0; have := hX.lt 1; have := hX.lt 2; have := hX.lt 3; have := hX.lt 4; omega), (by have := hX.lt 5; omega), (vI (or_shl 40 (by have := hX.lt 0; have := hX.lt 1; have := hX.lt 2; have := hX.lt 3; have := hX.lt 4; have := hX.lt 5; omega))), by decide, rfl, (cn_get _ _ _ (by rw [hX.len]; decide)), (by have := hX.lt 6; omega), (vI (Nat.mod_eq_of_lt (by have := hX.lt 6; omega))), (by have := hX.lt 0; have := hX.lt 1; have := hX.lt 2; have := hX.lt 3; have := hX.lt 4; have := hX.lt 5; omega), (by have := hX.lt 6; omega), (vI (or_shl 48 (by have := hX.lt 0; have := hX.lt 1; have := hX.lt 2; have := hX.lt 3; have := hX.lt 4; have := hX.lt 5; have := hX.lt 6; omega))), by decide, rfl, (cn_get _ _ _ (by rw [hX.len]; decide)), (by have := hX.lt 7; omega), (vI (Nat.mod_eq_of_lt (by have := hX.lt 7; omega))), (by have := hX.lt 0; have := hX.lt 1; have := hX.lt 2; have := hX.lt 3; have := hX.lt 4; have := hX.lt 5; have := hX.lt 6; omega), (by have := hX.lt 7; omega), (vI (or_shl 56 (by have := hX.lt 0; have := hX.lt 1; have := hX.lt 2; have := hX.lt 3; have := hX.lt 4; have := hX.lt 5; have := hX.lt 6; have := hX.lt 7; omega))), fun _ _ FF2 MM2 => then_n ?_⟩))
  refine wp_ret ?_
  repeat first | refine then_ret ?_ | refine inb_ret ?_
  exact (ret_fr FF2 0 Tryz.results104 rfl ⟨rfl, MM2.below⟩)
set_option maxRecDepth 100000 in
theorem py_mul64_any (x y : Nat) (hx : x < 18446744073709551616) (hy : y < 18446744073709551616) (w0 : World) :
    Calls Tryz.prog 79 #[iW x, iW y] w0 fun e w' => e = .returned (.tuple #[iW (x * y / 18446744073709551616), iW (x * y % 18446744073709551616)]) ∧ Below w0.heap.size w0 w' := by
  refine enter_fr Tryz.func79 rfl Tryz.ntmps79 (by simp) fun ac (FF : Fr 51 ac [(0, iW x), (1, iW y)]) => ?_
  have MM := MemS.start w0
  refine wp_seq (rg_c FF MM [] 6 [] [] (fun _ _ FF1 MM1 => then_n ?_))
  refine wp_seq (rg_c FF1 MM1 [(1, t_ (iW (x % 4294967296)))] 7 [] [] (⟨(by have := hx; omega), by decide, (vI (and_low 32 _)), fun _ _ FF2 MM2 => then_n ?_⟩))
  refine wp_seq (rg_c FF2 MM2 [(1, t_ (iW (x / 4294967296)))] 8 [] [] (⟨by decide, rfl, fun _ _ FF3 MM3 => then_n ?_⟩))
  refine wp_seq (rg_c FF3 MM3 [(1, t_ (iW (y % 4294967296)))] 9 [] [] (⟨(by have := hy; omega), by decide, (vI (and_low 32 _)), fun _ _ FF4 MM4 => then_n ?_⟩))
  refine wp_seq (rg_c FF4 MM4 [(1, t_ (iW (y / 4294967296)))] 9 [9] [] (⟨by decide, rfl, fun _ _ FF5 MM5 => then_n ?_⟩))
  refine wp_seq (rg_c FF5 MM5 [(2, w_ 1)] 11 [] [] (⟨(by have := mul32 (x := x % 4294967296) (y := y % 4294967296) (by omega) (by omega); omega), fun _ _ FF6 MM6 => then_n ?_⟩))
  refine wp_seq (rg_c FF6 MM6 [(2, w_ 1), (1, t_ (iW (((x % 4294967296) * (y % 4294967296)) / 4294967296))), (0, w_ 1)] 10 [11] [] (⟨(by have := mul32 (x := x / 4294967296) (y := y % 4294967296) (by omega) (by omega); omega), by decide, rfl, (by have := mul32 (x := x / 4294967296) (y := y % 4294967296) (by omega) (by omega); have := mul32 (x := x % 4294967296) (y := y % 4294967296) (by omega) (by omega); omega), fun _ _ FF7 MM7 => then_n ?_⟩))
  refine wp_seq (rg_c FF7 MM7 [(1, t_ (iW (((x / 4294967296) * (y % 4294967296) + (x % 4294967296) * (y % 4294967296) / 4294967296) % 4294967296)))] 13 [] [] (⟨(by have := mul32 (x := x / 4294967296) (y := y % 4294967296) (by omega) (by omega); have := mul32 (x := x % 4294967296) (y := y % 4294967296) (by omega) (by omega); omega), by decide, (vI (and_low 32 _)), fun _ _ FF8 MM8 => then_n ?_⟩))
  refine wp_seq (rg_c FF8 MM8 [(1, t_ (iW ((((x / 4294967296) * (y % 4294967296)) + (((x % 4294967296) * (y % 4294967296)) / 4294967296)) / 4294967296)))] 14 [] [] (⟨by decide, rfl, fun _ _ FF9 MM9 => then_n ?_⟩))
  refine wp_seq (rg_c FF9 MM9 [(3, w_ 1), (0, w_ 1)] 14 [] [] (⟨(by have := mul32 (x := x % 4294967296) (y := y / 4294967296) (by omega) (by omega); omega), (by have := mul32 (x := x % 4294967296) (y := y / 4294967296) (by omega) (by omega); omega), fun _ _ FF10 MM10 => then_n ?_⟩))
  refine wp_seq (rg_c FF10 MM10 [(2, w_ 1), (1, w_ 1), (1, t_ (iW (((((x / 4294967296) * (y % 4294967296) + (x % 4294967296) * (y % 4294967296) / 4294967296) % 4294967296) + ((x % 4294967296) * (y / 4294967296))) / 4294967296))), (0, u_ 1 (iW (x * y / 18446744073709551616)))] 13 [] [] (⟨(by have := mul32 (x := x / 4294967296) (y := y / 4294967296) (by omega) (by omega); omega), (by have := mul64_hi hx hy; omega), by decide, rfl, (by have := mul64_hi hx hy; omega), (vI (mul64_hi hx hy).1), fun _ _ FF11 MM11 => then_n ?_⟩))
  refine wp_seq (rg_c FF11 MM11 [] 13 [] [] (fun _ _ FF12 MM12 => then_n ?_))
  refine wp_ret ?_
  repeat first | refine then_ret ?_ | refine inb_ret ?_
  exact (ret_tup2 FF12 1 0 Tryz.results79 rfl rfl ⟨rfl, MM12.below⟩)
set_option maxRecDepth 100000 in
theorem mulAdd_any (n m s t : Nat) (hn : n < 18446744073709551616) (hm : m < 18446744073709551616) (hs : s < 18446744073709551616) (ht : t < 18446744073709551616) (w0 : World) :
    Calls Tryz.prog 105 #[iW n, iW m, iW s, iW t] w0 fun e w' => e = .returned (.tuple #[iW ((n * m + s + t) / 18446744073709551616), iW ((n * m + s + t) % 18446744073709551616)]) ∧ Below w0.heap.size w0 w' := by
  refine enter_fr Tryz.func105 rfl Tryz.ntmps105 (by simp) fun ac (FF : Fr 36 ac [(0, iW n), (1, iW m), (2, iW s), (3, iW t)]) => ?_
  have MM := MemS.start w0
  have hnm := mul64_le hn hm
  refine wp_seq (rg_c FF MM [] 9 [9] [] (fun _ _ FF1 MM1 => then_n ?_))
  refine wp_seq (rg_c FF1 MM1 [(2, t_ (.tuple #[iW (n * m / 18446744073709551616), iW (n * m % 18446744073709551616)]))] 9 [9] [0, 1] (⟨(callP_of ent36 (py_mul64_any _ _ (by have := hn; omega) (by have := hm; omega)) _), fun _ _ FF2 MM2 => then_n ?_⟩))
  refine wp_seq (rg_c FF2 MM2 [(2, f_ (.tuple #[iW (((n * m % 18446744073709551616) + s + 0) % 18446744073709551616), iW (((n * m % 18446744073709551616) + s + 0) / 18446744073709551616)]))] 11 [] [2] (⟨(add64p_ok (p := (.tmp 19)) (q := (.tmp 20)) (r := (.const (.int .u64 0))) (x := n * m % 18446744073709551616) (y := s) (c := 0) (at_ := #[24, 24, 24]) (by kernel_rfl) rfl rfl rfl (by decide)), fun _ _ FF3 MM3 => then_n ?_⟩))
  refine wp_seq (rg_c FF3 MM3 [(2, f_ (.tuple #[iW (((((n * m % 18446744073709551616) + s + 0) % 18446744073709551616) + t + 0) % 18446744073709551616), iW (((((n * m % 18446744073709551616) + s + 0) % 18446744073709551616) + t + 0) / 18446744073709551616)]))] 12 [] [3] (⟨(add64p_ok (p := (.tmp 25)) (q := (.tmp 26)) (r := (.const (.int .u64 0))) (x := ((n * m % 18446744073709551616) + s + 0) % 18446744073709551616) (y := t) (c := 0) (at_ := #[24, 24, 24]) (by kernel_rfl) rfl rfl rfl (by decide)), fun _ _ FF4 MM4 => then_n ?_⟩))
  refine wp_seq (rg_c FF4 MM4 [(2, w_ 1), (1, u_ 1 (iW ((n * m + s + t) / 18446744073709551616))), (0, t_ (iW ((n * m + s + t) % 18446744073709551616)))] 9 [9] [] (⟨by omega, by omega, (vI (by omega)), (vI (by omega)), fun _ _ FF5 MM5 => then_n ?_⟩))
  refine wp_ret ?_
  repeat first | refine then_ret ?_ | refine inb_ret ?_
  exact (ret_tup2 FF5 1 0 Tryz.results105 rfl rfl ⟨rfl, MM5.below⟩)
end Go.Proofs.YtdjpacgjhcidpabGreatDoor
namespace Go.Proofs.YtdjpacgjhcidpabGreatDoor
open Go.RowKit
/-- A number in three words. -/
def w3 (N : Nat) : Array Value := #[iW (N % 18446744073709551616), iW (N / 18446744073709551616 % 18446744073709551616), iW (N / 340282366920938463463374607431768211456 % 18446744073709551616)]
theorem w3_of {a b c N : Nat} (h : a = N % 18446744073709551616 ∧ b = N / 18446744073709551616 % 18446744073709551616 ∧ c = N / 340282366920938463463374607431768211456 % 18446744073709551616) : Value.agg #[iW a, iW b, iW c] = .agg (w3 N) := by rw [h.1, h.2.1, h.2.2]; rfl
set_option maxRecDepth 100000 in
theorem plus_any (m n : Nat) (w0 : World) :
    Calls Tryz.prog 87 #[.agg (w3 m), .agg (w3 n)] w0 fun e w' => e = .returned (.agg (w3 (m + n))) ∧ Below w0.heap.size w0 w' := by
  refine enter_fr Tryz.func87 rfl Tryz.ntmps87 (by simp) fun ac (FF : Fr 35 ac [(0, .agg (w3 m)), (1, .agg (w3 n))]) => ?_
  have MM := MemS.start w0
  refine wp_seq (rg_c FF MM [] 5 [] [0, 1] (fun b1 => fun b2 => fun b3 => fun _ _ FF1 MM1 => then_n ?_))
  refine wp_seq (rg_c FF1 MM1 [(1, l_ 2 (iW (m % 18446744073709551616))), (1, l_ 1 (iW (n % 18446744073709551616))), (0, f_ (.tuple #[iW (((m % 18446744073709551616) + (n % 18446744073709551616) + 0) % 18446744073709551616), iW (((m % 18446744073709551616) + (n % 18446744073709551616) + 0) / 18446744073709551616)])), (3, t_ (iW ((m % 18446744073709551616 + n % 18446744073709551616) % 18446744073709551616))), (0, t_ (iW ((m % 18446744073709551616 + n % 18446744073709551616) / 18446744073709551616)))] 7 [] [] (⟨rfl, rfl, rfl, rfl, (add64p_ok (p := (.tmp 10)) (q := (.tmp 12)) (r := (.const (.int .u64 0))) (x := m % 18446744073709551616) (y := n % 18446744073709551616) (c := 0) (at_ := #[24, 24, 24]) (by kernel_rfl) rfl rfl rfl (by decide)), (vI (by rw [Nat.add_zero])), (vI (by rw [Nat.add_zero])), fun _ _ FF2 MM2 => then_n ?_⟩))
  refine wp_seq (rg_c FF2 MM2 [(1, l_ 2 (iW (m / 18446744073709551616 % 18446744073709551616))), (1, l_ 1 (iW (n / 18446744073709551616 % 18446744073709551616))), (1, f_ (.tuple #[iW (((m / 18446744073709551616 % 18446744073709551616) + (n / 18446744073709551616 % 18446744073709551616) + ((m % 18446744073709551616 + n % 18446744073709551616) / 18446744073709551616)) % 18446744073709551616), iW (((m / 18446744073709551616 % 18446744073709551616) + (n / 18446744073709551616 % 18446744073709551616) + ((m % 18446744073709551616 + n % 18446744073709551616) / 18446744073709551616)) / 18446744073709551616)]))] 8 [] [] (⟨rfl, rfl, rfl, rfl, (add64p_ok (p := (.tmp 18)) (q := (.tmp 20)) (r := (.tmp 21)) (x := m / 18446744073709551616 % 18446744073709551616) (y := n / 18446744073709551616 % 18446744073709551616) (c := (m % 18446744073709551616 + n % 18446744073709551616) / 18446744073709551616) (at_ := #[24, 24, 24]) (by kernel_rfl) rfl rfl rfl (by omega)), fun _ _ FF3 MM3 => then_n ?_⟩))
  refine wp_seq (rg_c FF3 MM3 [(3, l_ 2 (iW (m / 340282366920938463463374607431768211456 % 18446744073709551616))), (1, l_ 1 (iW (n / 340282366920938463463374607431768211456 % 18446744073709551616))), (2, t_ (iW ((m / 340282366920938463463374607431768211456 % 18446744073709551616 + n / 340282366920938463463374607431768211456 % 18446744073709551616 + (m / 18446744073709551616 % 18446744073709551616 + n / 18446744073709551616 % 18446744073709551616 + (m % 18446744073709551616 + n % 18446744073709551616) / 18446744073709551616) / 18446744073709551616) % 18446744073709551616))), (0, t_ (.agg (w3 (m + n)))), (0, b_ 0)] 5 [6] [] (⟨rfl, rfl, rfl, rfl, (vI (by rw [Nat.mod_add_mod])), (Eq.trans (show _ = some (#[iW ((m % 18446744073709551616 + n % 18446744073709551616) % 18446744073709551616), iW (((m / 18446744073709551616 % 18446744073709551616) + (n / 18446744073709551616 % 18446744073709551616) + ((m % 18446744073709551616 + n % 18446744073709551616) / 18446744073709551616)) % 18446744073709551616), iW ((m / 340282366920938463463374607431768211456 % 18446744073709551616 + n / 340282366920938463463374607431768211456 % 18446744073709551616 + (m / 18446744073709551616 % 18446744073709551616 + n / 18446744073709551616 % 18446744073709551616 + (m % 18446744073709551616 + n % 18446744073709551616) / 18446744073709551616) / 18446744073709551616) % 18446744073709551616)] : Array Value) by kernel_rfl) (congrArg some (Value.agg.inj (w3_of (py_plus_words _ _ _ _ _ _ m n rfl rfl rfl rfl rfl rfl))))), rfl, rfl, rfl, (by kernel_rfl), rfl, fun _ _ FF4 MM4 => then_n ?_⟩))
  refine wp_ret ?_
  repeat first | refine then_ret ?_ | refine inb_ret ?_
  exact (retc FF4 MM4 (k := 3) (i := 0) (j := 1) Tryz.results87 rfl rfl Tryz.underlying151 rfl (by kernel_rfl) rfl ⟨rfl, MM4.below⟩)
set_option maxRecDepth 100000 in
theorem fold_any (a b c d : Nat) (ha : a < 18446744073709551616) (hb : b < 18446744073709551616) (hc : c < 18446744073709551616) (hd : d < 9223372036854775808) (w0 : World) :
    Calls Tryz.prog 106 #[iW a, iW b, iW c, iW d] w0 fun e w' => e = .returned (.agg (w3 (foldN (a + b * 18446744073709551616 + c * 340282366920938463463374607431768211456 + d * 6277101735386680763835789423207666416102355444464034512896)))) ∧ Below w0.heap.size w0 w' := by
  refine enter_fr Tryz.func106 rfl Tryz.ntmps106 (by simp) fun ac (FF : Fr 35 ac [(0, iW a), (1, iW b), (2, iW c), (3, iW d)]) => ?_
  have MM := MemS.start w0
  refine wp_seq (rg_c FF MM [] 9 [] [] (fun b1 => fun _ _ FF1 MM1 => then_n ?_))
  refine wp_seq (rg_c FF1 MM1 [(1, t_ (iW (c / 4))), (1, t_ (iW (d % 4 * 4611686018427387904))), (0, t_ (iW (c / 4 + d % 4 * 4611686018427387904))), (1, t_ (.tuple #[iW ((5 * (c / 4 + d % 4 * 4611686018427387904) + a + 0) / 18446744073709551616), iW ((5 * (c / 4 + d % 4 * 4611686018427387904) + a + 0) % 18446744073709551616)])), (3, t_ (iW ((5 * (c / 4 + d % 4 * 4611686018427387904) + a) / 18446744073709551616))), (0, t_ (iW ((5 * (c / 4 + d % 4 * 4611686018427387904) + a) % 18446744073709551616)))] 9 [9] [] (⟨by decide, rfl, (vI (by omega)), (by have := hc; omega), (by have := hd; omega), (vI (or_shl 62 (by omega))), (callP_of ent31 (mulAdd_any _ _ _ _ (by decide) (by have := hc; have := hd; omega) (by have := ha; omega) (by decide)) _), (vI (by rw [Nat.add_zero])), (vI (by rw [Nat.add_zero])), fun _ _ FF2 MM2 => then_n ?_⟩))
  refine wp_seq (rg_c FF2 MM2 [(1, t_ (iW (d / 4))), (2, t_ (.tuple #[iW ((5 * (d / 4) + b + ((5 * (c / 4 + d % 4 * 4611686018427387904) + a) / 18446744073709551616)) / 18446744073709551616), iW ((5 * (d / 4) + b + ((5 * (c / 4 + d % 4 * 4611686018427387904) + a) / 18446744073709551616)) % 18446744073709551616)]))] 9 [9] [] (⟨by decide, rfl, (callP_of ent31 (mulAdd_any _ _ _ _ (by decide) (by have := hd; omega) (by have := hb; omega) (by have := ha; omega)) _), fun _ _ FF3 MM3 => then_n ?_⟩))
  refine wp_seq (rg_c FF3 MM3 [(3, t_ (iW (c % 4))), (1, w_ 1), (0, t_ (.agg (w3 (foldN (a + b * 18446744073709551616 + c * 340282366920938463463374607431768211456 + d * 6277101735386680763835789423207666416102355444464034512896))))), (0, b_ 0)] 9 [9] [] (⟨(by have := hc; omega), by decide, (vI (and_low 2 _)), by omega, (Eq.trans (show _ = some (#[iW ((5 * (c / 4 + d % 4 * 4611686018427387904) + a) % 18446744073709551616), iW ((5 * (d / 4) + b + ((5 * (c / 4 + d % 4 * 4611686018427387904) + a) / 18446744073709551616)) % 18446744073709551616), iW ((c % 4) + ((5 * (d / 4) + b + ((5 * (c / 4 + d % 4 * 4611686018427387904) + a) / 18446744073709551616)) / 18446744073709551616))] : Array Value) by kernel_rfl) (congrArg some (Value.agg.inj (w3_of (fold_words a b c d ha hb hc hd))))), rfl, rfl, rfl, (by kernel_rfl), rfl, fun _ _ FF4 MM4 => then_n ?_⟩))
  refine wp_ret ?_
  repeat first | refine then_ret ?_ | refine inb_ret ?_
  exact (retc FF4 MM4 (k := 3) (i := 0) (j := 3) Tryz.results106 rfl rfl Tryz.underlying151 rfl (by kernel_rfl) rfl ⟨rfl, MM4.below⟩)
set_option maxRecDepth 100000 in
theorem times_any (x r0 r1 : Nat) (hx : x < 2381976568446569244243622252022377480192) (h0 : r0 < 1152921504606846976) (h1 : r1 < 1152921504606846976) (w0 : World) :
    Calls Tryz.prog 86 #[.agg (w3 x), .agg #[iW r0, iW r1]] w0 fun e w' => e = .returned (.agg (w3 (foldN (x * (r0 + r1 * 18446744073709551616))))) ∧ Below w0.heap.size w0 w' := by
  refine enter_fr Tryz.func86 rfl Tryz.ntmps86 (by simp) fun ac (FF : Fr 63 ac [(0, .agg (w3 x)), (1, aG #[iW r0, iW r1])]) => ?_
  have MM := MemS.start w0
  obtain ⟨x0, hx0⟩ : ∃ z, x % 18446744073709551616 = z := ⟨_, rfl⟩
  obtain ⟨x1, hx1⟩ : ∃ z, x / 18446744073709551616 % 18446744073709551616 = z := ⟨_, rfl⟩
  obtain ⟨x2, hx2⟩ : ∃ z, x / 340282366920938463463374607431768211456 % 18446744073709551616 = z := ⟨_, rfl⟩
  have b0 : x0 < 18446744073709551616 := by omega
  have b1 : x1 < 18446744073709551616 := by omega
  have b2 : x2 ≤ 6 := by omega
  have ex : x = x0 + x1 * 18446744073709551616 + x2 * 340282366920938463463374607431768211456 := by
    have e : x / 340282366920938463463374607431768211456 = x / 18446744073709551616 / 18446744073709551616 := by rw [Nat.div_div_eq_div_mul]
    omega
  have eW : w3 x = #[iW x0, iW x1, iW x2] := by simp only [w3, hx0, hx1, hx2]
  rw [eW] at FF
  clear eW hx0 hx1 hx2
  have q00 : r0 * x0 ≤ 21267647932558653966460912964485513216 := Nat.le_trans (Nat.mul_le_mul (Nat.le_of_lt h0) (Nat.le_of_lt b0)) (by decide)
  have q01 : r0 * x1 ≤ 21267647932558653966460912964485513216 := Nat.le_trans (Nat.mul_le_mul (Nat.le_of_lt h0) (Nat.le_of_lt b1)) (by decide)
  have q02 : r0 * x2 ≤ 6917529027641081856 := Nat.le_trans (Nat.mul_le_mul (Nat.le_of_lt h0) b2) (by decide)
  have q10 : r1 * x0 ≤ 21267647932558653966460912964485513216 := Nat.le_trans (Nat.mul_le_mul (Nat.le_of_lt h1) (Nat.le_of_lt b0)) (by decide)
  have q11 : r1 * x1 ≤ 21267647932558653966460912964485513216 := Nat.le_trans (Nat.mul_le_mul (Nat.le_of_lt h1) (Nat.le_of_lt b1)) (by decide)
  have q12 : r1 * x2 ≤ 6917529027641081856 := Nat.le_trans (Nat.mul_le_mul (Nat.le_of_lt h1) b2) (by decide)
  obtain ⟨t1, t2, t3⟩ := py_times_words (r0 * x0) (r0 * x1) (r0 * x2) (r1 * x0) (r1 * x1) (r1 * x2) q00 q01 q10 q11 q02 q12
  refine wp_seq (rg_c FF MM [] 5 [] [0, 1] (fun b1 => fun b2 => fun b3 => fun _ _ FF1 MM1 => then_n ?_))
  refine wp_seq (rg_c FF1 MM1 [(1, l_ 1 (iW r0)), (1, l_ 2 (iW x0)), (0, t_ (.tuple #[iW ((r0 * x0 + 0 + 0) / 18446744073709551616), iW ((r0 * x0 + 0 + 0) % 18446744073709551616)])), (3, t_ (iW (r0 * x0 / 18446744073709551616))), (0, t_ (iW (r0 * x0 % 18446744073709551616)))] 7 [] [] (⟨rfl, rfl, rfl, rfl, (callP_of ent31 (mulAdd_any _ _ _ _ (by have := h0; omega) (by have := b0; omega) (by decide) (by decide)) _), (vI (by simp only [Nat.add_zero])), (vI (by simp only [Nat.add_zero])), fun _ _ FF2 MM2 => then_n ?_⟩))
  refine wp_seq (rg_c FF2 MM2 [(1, l_ 1 (iW r0)), (1, l_ 2 (iW x1)), (1, t_ (.tuple #[iW ((r0 * x1 + (r0 * x0 / 18446744073709551616) + 0) / 18446744073709551616), iW ((r0 * x1 + (r0 * x0 / 18446744073709551616) + 0) % 18446744073709551616)])), (3, t_ (iW ((r0 * x1 + r0 * x0 / 18446744073709551616) / 18446744073709551616))), (0, t_ (iW ((r0 * x1 + r0 * x0 / 18446744073709551616) % 18446744073709551616)))] 8 [] [] (⟨rfl, rfl, rfl, rfl, (callP_of ent31 (mulAdd_any _ _ _ _ (by have := h0; omega) (by have := b1; omega) (by have := q00; omega) (by decide)) _), (vI (by simp only [Nat.add_zero])), (vI (by simp only [Nat.add_zero])), fun _ _ FF3 MM3 => then_n ?_⟩))
  refine wp_seq (rg_c FF3 MM3 [(1, l_ 1 (iW r0)), (1, l_ 2 (iW x2)), (0, w_ 1), (1, w_ 1)] 9 [] [] (⟨rfl, rfl, rfl, rfl, by omega, by omega, fun _ _ FF4 MM4 => then_n ?_⟩))
  refine wp_seq (rg_c FF4 MM4 [(1, l_ 1 (iW r1)), (1, l_ 2 (iW x0)), (1, t_ (.tuple #[iW ((r1 * x0 + ((r0 * x1 + r0 * x0 / 18446744073709551616) % 18446744073709551616) + 0) / 18446744073709551616), iW ((r1 * x0 + ((r0 * x1 + r0 * x0 / 18446744073709551616) % 18446744073709551616) + 0) % 18446744073709551616)])), (3, t_ (iW ((r1 * x0 + (r0 * x1 + r0 * x0 / 18446744073709551616) % 18446744073709551616) / 18446744073709551616))), (0, t_ (iW ((r1 * x0 + (r0 * x1 + r0 * x0 / 18446744073709551616) % 18446744073709551616) % 18446744073709551616)))] 9 [] [] (⟨rfl, rfl, rfl, rfl, (callP_of ent31 (mulAdd_any _ _ _ _ (by have := h1; omega) (by have := b0; omega) (by omega) (by decide)) _), (vI (by simp only [Nat.add_zero])), (vI (by simp only [Nat.add_zero])), fun _ _ FF5 MM5 => then_n ?_⟩))
  refine wp_seq (rg_c FF5 MM5 [(1, l_ 1 (iW r1)), (1, l_ 2 (iW x1)), (2, t_ (.tuple #[iW ((r1 * x1 + ((r0 * x2) + ((r0 * x1 + r0 * x0 / 18446744073709551616) / 18446744073709551616)) + ((r1 * x0 + (r0 * x1 + r0 * x0 / 18446744073709551616) % 18446744073709551616) / 18446744073709551616)) / 18446744073709551616), iW ((r1 * x1 + ((r0 * x2) + ((r0 * x1 + r0 * x0 / 18446744073709551616) / 18446744073709551616)) + ((r1 * x0 + (r0 * x1 + r0 * x0 / 18446744073709551616) % 18446744073709551616) / 18446744073709551616)) % 18446744073709551616)]))] 9 [] [] (⟨rfl, rfl, rfl, rfl, (callP_of ent31 (mulAdd_any _ _ _ _ (by have := h1; omega) (by have := b1; omega) (by have := h0; have := b2; have := q00; have := q01; omega) (by have := q10; omega)) _), fun _ _ FF6 MM6 => then_n ?_⟩))
  refine wp_seq (rg_c FF6 MM6 [(4, l_ 1 (iW r1)), (1, l_ 2 (iW x2)), (0, w_ 1), (1, w_ 1), (0, t_ (.agg (w3 (foldN (x * (r0 + r1 * 18446744073709551616)))))), (0, b_ 0)] 9 [] [6] (⟨rfl, rfl, rfl, rfl, by omega, by omega, (by have e : x * (r0 + r1 * 18446744073709551616) = r0 * x0 + (r0 * x1 + r1 * x0) * 18446744073709551616 + (r0 * x2 + r1 * x1) * 340282366920938463463374607431768211456 + r1 * x2 * 6277101735386680763835789423207666416102355444464034512896 := (by rw [ex]; grind); rw [e, ← t3]; exact callP_of ent32 (fold_any _ _ _ _ (Nat.mod_lt _ (by decide)) (Nat.mod_lt _ (by decide)) (Nat.mod_lt _ (by decide)) t2) _), rfl, rfl, rfl, (by kernel_rfl), rfl, fun _ _ FF7 MM7 => then_n ?_⟩))
  refine wp_ret ?_
  repeat first | refine then_ret ?_ | refine inb_ret ?_
  exact (retc FF7 MM7 (k := 3) (i := 0) (j := 3) Tryz.results86 rfl rfl Tryz.underlying151 rfl (by kernel_rfl) rfl ⟨rfl, MM7.below⟩)
end Go.Proofs.YtdjpacgjhcidpabGreatDoor
namespace Go.Proofs.YtdjpacgjhcidpabGreatDoor
open Go.RowKit
theorem w3_hi {x : Nat} (h1 : 1361129467683753853853498429727072845819 ≤ x) (h2 : x < 2722258935367507707706996859454145691638) : (w3 (x + 5)).setIfInBounds 2 (iW ((x + 5) / 340282366920938463463374607431768211456 % 18446744073709551616 % 4)) = w3 (x - 1361129467683753853853498429727072845819) := by
  have e : ∀ n : Nat, n / 340282366920938463463374607431768211456 = n / 18446744073709551616 / 18446744073709551616 := fun n => by rw [Nat.div_div_eq_div_mul]
  show (#[iW ((x + 5) % 18446744073709551616), iW ((x + 5) / 18446744073709551616 % 18446744073709551616), iW ((x + 5) / 340282366920938463463374607431768211456 % 18446744073709551616 % 4)] : Array Value) = w3 (x - 1361129467683753853853498429727072845819)
  unfold w3
  rw [show (x + 5) % 18446744073709551616 = (x - 1361129467683753853853498429727072845819) % 18446744073709551616 by omega, show (x + 5) / 18446744073709551616 % 18446744073709551616 = (x - 1361129467683753853853498429727072845819) / 18446744073709551616 % 18446744073709551616 by omega, show (x + 5) / 340282366920938463463374607431768211456 % 18446744073709551616 % 4 = (x - 1361129467683753853853498429727072845819) / 340282366920938463463374607431768211456 % 18446744073709551616 by rw [e, e]; omega]
set_option maxRecDepth 100000 in
theorem choose0_any (m n : Nat) (w0 : World) :
    Calls Tryz.prog 108 #[iW 0, .agg (w3 m), .agg (w3 n)] w0 fun e w' => e = .returned (.agg (w3 m)) ∧ Below w0.heap.size w0 w' := by
  refine enter_fr Tryz.func108 rfl Tryz.ntmps108 (by simp) fun ac (FF : Fr 41 ac [(0, iW 0), (1, .agg (w3 m)), (2, .agg (w3 n))]) => ?_
  have MM := MemS.start w0
  refine wp_seq (rg_c FF MM [] 7 [] [1, 2] (fun b1 => fun b2 => fun b3 => fun _ _ FF1 MM1 => then_n ?_))
  refine wp_seq (rg_c FF1 MM1 [(1, l_ 2 (iW (m % 18446744073709551616))), (2, l_ 2 (iW (m % 18446744073709551616))), (1, l_ 1 (iW (n % 18446744073709551616))), (2, t_ (iW (m % 18446744073709551616))), (1, s_ 2 (oC #[iW (m % 18446744073709551616), iW (m / 18446744073709551616 % 18446744073709551616), iW (m / 340282366920938463463374607431768211456 % 18446744073709551616)] 151))] 7 [] [] (⟨rfl, rfl, rfl, rfl, rfl, rfl, (Nat.mod_lt _ (by decide)), (Nat.mod_lt _ (by decide)), by decide, (xor64 (Nat.mod_lt _ (by decide)) (Nat.mod_lt _ (by decide))), (Nat.mod_lt _ (by decide)), (and64 (by decide)), (vI (ch0 _ _)), rfl, (by simp [w3]), (.inl rfl), rfl, fun _ _ FF2 MM2 => then_n ?_⟩))
  refine wp_seq (rg_c FF2 MM2 [(1, l_ 2 (iW (m / 18446744073709551616 % 18446744073709551616))), (2, l_ 2 (iW (m / 18446744073709551616 % 18446744073709551616))), (1, l_ 1 (iW (n / 18446744073709551616 % 18446744073709551616))), (2, t_ (iW (m / 18446744073709551616 % 18446744073709551616))), (1, s_ 2 (oC #[iW (m % 18446744073709551616), iW (m / 18446744073709551616 % 18446744073709551616), iW (m / 340282366920938463463374607431768211456 % 18446744073709551616)] 151))] 7 [] [] (⟨rfl, rfl, rfl, rfl, rfl, rfl, (Nat.mod_lt _ (by decide)), (Nat.mod_lt _ (by decide)), by decide, (xor64 (Nat.mod_lt _ (by decide)) (Nat.mod_lt _ (by decide))), (Nat.mod_lt _ (by decide)), (and64 (by decide)), (vI (ch0 _ _)), rfl, (by simp), (.inl rfl), rfl, fun _ _ FF3 MM3 => then_n ?_⟩))
  refine wp_seq (rg_c FF3 MM3 [(1, l_ 2 (iW (m / 340282366920938463463374607431768211456 % 18446744073709551616))), (2, l_ 2 (iW (m / 340282366920938463463374607431768211456 % 18446744073709551616))), (1, l_ 1 (iW (n / 340282366920938463463374607431768211456 % 18446744073709551616))), (2, t_ (iW (m / 340282366920938463463374607431768211456 % 18446744073709551616))), (1, s_ 2 (oC #[iW (m % 18446744073709551616), iW (m / 18446744073709551616 % 18446744073709551616), iW (m / 340282366920938463463374607431768211456 % 18446744073709551616)] 151))] 7 [] [] (⟨rfl, rfl, rfl, rfl, rfl, rfl, (Nat.mod_lt _ (by decide)), (Nat.mod_lt _ (by decide)), by decide, (xor64 (Nat.mod_lt _ (by decide)) (Nat.mod_lt _ (by decide))), (Nat.mod_lt _ (by decide)), (and64 (by decide)), (vI (ch0 _ _)), rfl, (by simp), (.inl rfl), rfl, fun _ _ FF4 MM4 => then_n ?_⟩))
  refine wp_seq (rg_c FF4 MM4 [(0, b_ 2), (0, b_ 0)] 7 [] [] (⟨rfl, rfl, rfl, rfl, rfl, (by kernel_rfl), rfl, fun _ _ FF5 MM5 => then_n ?_⟩))
  refine wp_ret ?_
  repeat first | refine then_ret ?_ | refine inb_ret ?_
  exact (retc FF5 MM5 (k := 3) (i := 0) (j := 0) Tryz.results108 rfl rfl Tryz.underlying151 rfl (by kernel_rfl) rfl ⟨rfl, MM5.below⟩)
set_option maxRecDepth 100000 in
theorem choose1_any (m n : Nat) (w0 : World) :
    Calls Tryz.prog 108 #[iW 18446744073709551615, .agg (w3 m), .agg (w3 n)] w0 fun e w' => e = .returned (.agg (w3 n)) ∧ Below w0.heap.size w0 w' := by
  refine enter_fr Tryz.func108 rfl Tryz.ntmps108 (by simp) fun ac (FF : Fr 41 ac [(0, iW 18446744073709551615), (1, .agg (w3 m)), (2, .agg (w3 n))]) => ?_
  have MM := MemS.start w0
  refine wp_seq (rg_c FF MM [] 7 [] [1, 2] (fun b1 => fun b2 => fun b3 => fun _ _ FF1 MM1 => then_n ?_))
  refine wp_seq (rg_c FF1 MM1 [(1, l_ 2 (iW (m % 18446744073709551616))), (2, l_ 2 (iW (m % 18446744073709551616))), (1, l_ 1 (iW (n % 18446744073709551616))), (2, t_ (iW (n % 18446744073709551616))), (1, s_ 2 (oC #[iW (n % 18446744073709551616), iW (m / 18446744073709551616 % 18446744073709551616), iW (m / 340282366920938463463374607431768211456 % 18446744073709551616)] 151))] 7 [] [] (⟨rfl, rfl, rfl, rfl, rfl, rfl, (Nat.mod_lt _ (by decide)), (Nat.mod_lt _ (by decide)), by decide, (xor64 (Nat.mod_lt _ (by decide)) (Nat.mod_lt _ (by decide))), (Nat.mod_lt _ (by decide)), (and64 (by decide)), (vI (ch1 (Nat.mod_lt _ (by decide)) (Nat.mod_lt _ (by decide)))), rfl, (by simp [w3]), (.inl rfl), rfl, fun _ _ FF2 MM2 => then_n ?_⟩))
  refine wp_seq (rg_c FF2 MM2 [(1, l_ 2 (iW (m / 18446744073709551616 % 18446744073709551616))), (2, l_ 2 (iW (m / 18446744073709551616 % 18446744073709551616))), (1, l_ 1 (iW (n / 18446744073709551616 % 18446744073709551616))), (2, t_ (iW (n / 18446744073709551616 % 18446744073709551616))), (1, s_ 2 (oC #[iW (n % 18446744073709551616), iW (n / 18446744073709551616 % 18446744073709551616), iW (m / 340282366920938463463374607431768211456 % 18446744073709551616)] 151))] 7 [] [] (⟨rfl, rfl, rfl, rfl, rfl, rfl, (Nat.mod_lt _ (by decide)), (Nat.mod_lt _ (by decide)), by decide, (xor64 (Nat.mod_lt _ (by decide)) (Nat.mod_lt _ (by decide))), (Nat.mod_lt _ (by decide)), (and64 (by decide)), (vI (ch1 (Nat.mod_lt _ (by decide)) (Nat.mod_lt _ (by decide)))), rfl, (by simp), (.inl rfl), rfl, fun _ _ FF3 MM3 => then_n ?_⟩))
  refine wp_seq (rg_c FF3 MM3 [(1, l_ 2 (iW (m / 340282366920938463463374607431768211456 % 18446744073709551616))), (2, l_ 2 (iW (m / 340282366920938463463374607431768211456 % 18446744073709551616))), (1, l_ 1 (iW (n / 340282366920938463463374607431768211456 % 18446744073709551616))), (2, t_ (iW (n / 340282366920938463463374607431768211456 % 18446744073709551616))), (1, s_ 2 (oC #[iW (n % 18446744073709551616), iW (n / 18446744073709551616 % 18446744073709551616), iW (n / 340282366920938463463374607431768211456 % 18446744073709551616)] 151))] 7 [] [] (⟨rfl, rfl, rfl, rfl, rfl, rfl, (Nat.mod_lt _ (by decide)), (Nat.mod_lt _ (by decide)), by decide, (xor64 (Nat.mod_lt _ (by decide)) (Nat.mod_lt _ (by decide))), (Nat.mod_lt _ (by decide)), (and64 (by decide)), (vI (ch1 (Nat.mod_lt _ (by decide)) (Nat.mod_lt _ (by decide)))), rfl, (by simp), (.inl rfl), rfl, fun _ _ FF4 MM4 => then_n ?_⟩))
  refine wp_seq (rg_c FF4 MM4 [(0, b_ 2), (0, b_ 0)] 7 [] [] (⟨rfl, rfl, rfl, rfl, rfl, (by kernel_rfl), rfl, fun _ _ FF5 MM5 => then_n ?_⟩))
  refine wp_ret ?_
  repeat first | refine then_ret ?_ | refine inb_ret ?_
  exact (retc FF5 MM5 (k := 3) (i := 0) (j := 0) Tryz.results108 rfl rfl Tryz.underlying151 rfl (by kernel_rfl) rfl ⟨rfl, MM5.below⟩)
theorem choose0r_any (m n : Nat) (w0 : World) : Calls Tryz.prog 108 #[iW 0, .agg (w3 m), .agg ((w3 n).setIfInBounds 2 (iW (n / 340282366920938463463374607431768211456 % 18446744073709551616 % 4)))] w0 fun e w' => e = .returned (.agg (w3 m)) ∧ Below w0.heap.size w0 w' := by
  have e : ∃ k, (w3 n).setIfInBounds 2 (iW (n / 340282366920938463463374607431768211456 % 18446744073709551616 % 4)) = w3 k := by
    refine ⟨n % 340282366920938463463374607431768211456 + n / 340282366920938463463374607431768211456 % 18446744073709551616 % 4 * 340282366920938463463374607431768211456, ?_⟩
    show (#[iW (n % 18446744073709551616), iW (n / 18446744073709551616 % 18446744073709551616), iW (n / 340282366920938463463374607431768211456 % 18446744073709551616 % 4)] : Array Value) = _
    unfold w3
    have e : ∀ n : Nat, n / 340282366920938463463374607431768211456 = n / 18446744073709551616 / 18446744073709551616 := fun n => by rw [Nat.div_div_eq_div_mul]
    generalize hk : n % 340282366920938463463374607431768211456 + n / 340282366920938463463374607431768211456 % 18446744073709551616 % 4 * 340282366920938463463374607431768211456 = k
    rw [show n % 18446744073709551616 = k % 18446744073709551616 by omega, show n / 18446744073709551616 % 18446744073709551616 = k / 18446744073709551616 % 18446744073709551616 by omega, show n / 340282366920938463463374607431768211456 % 18446744073709551616 % 4 = k / 340282366920938463463374607431768211456 % 18446744073709551616 by omega]
  obtain ⟨k, hk⟩ := e
  rw [hk]
  exact choose0_any m k w0
set_option maxRecDepth 100000 in
theorem settle0_any (x : Nat) (h1 : x < 1361129467683753853853498429727072845819) (w0 : World) :
    Calls Tryz.prog 90 #[.agg (w3 x)] w0 fun e w' => e = .returned (.agg (w3 x)) ∧ Below w0.heap.size w0 w' := by
  refine enter_fr Tryz.func90 rfl Tryz.ntmps90 (by simp) fun ac (FF : Fr 20 ac [(0, .agg (w3 x))]) => ?_
  have MM := MemS.start w0
  have e : (x + 5) / 340282366920938463463374607431768211456 = (x + 5) / 18446744073709551616 / 18446744073709551616 := by rw [Nat.div_div_eq_div_mul]
  refine wp_seq (rg_c FF MM [] 3 [] [0] (fun b1 => fun b2 => fun _ _ FF1 MM1 => then_n ?_))
  refine wp_seq (rg_c FF1 MM1 [(0, b_ 1), (0, t_ (.agg (w3 5))), (0, t_ (.agg (w3 (x + 5)))), (1, b_ 0)] 4 [] [] (⟨rfl, rfl, (Eq.trans (show _ = some (#[iW 5, iW 0, iW 0] : Array Value) by kernel_rfl) (congrArg some (Value.agg.inj rfl))), (callP_of ent21 (plus_any _ _) _), fun b3 => ⟨rfl, rfl, rfl, (by kernel_rfl), rfl, fun _ _ FF2 MM2 => then_n ?_⟩⟩))
  refine wp_seq (rg_c FF2 MM2 [(1, l_ 0 (iW ((x + 5) / 340282366920938463463374607431768211456 % 18446744073709551616))), (0, t_ (iW 0))] 5 [] [] (⟨rfl, rfl, by decide, (vI (by omega)), fun _ _ FF3 MM3 => then_n ?_⟩))
  refine wp_seq (rg_c FF3 MM3 [(1, l_ 0 (iW ((x + 5) / 340282366920938463463374607431768211456 % 18446744073709551616))), (0, t_ (iW (((x + 5) / 340282366920938463463374607431768211456 % 18446744073709551616) % 4))), (1, s_ 0 (.cells ((w3 (x + 5)).setIfInBounds 2 (iW ((x + 5) / 340282366920938463463374607431768211456 % 18446744073709551616 % 4))) 151))] 5 [] [] (⟨rfl, rfl, by omega, by decide, (vI (and_low 2 _)), rfl, (by simp [w3]), (.inl rfl), rfl, fun _ _ FF4 MM4 => then_n ?_⟩))
  refine wp_seq (rg_c FF4 MM4 [(1, t_ (iW 0)), (0, b_ 2), (0, b_ 0), (0, t_ (.agg (w3 x))), (0, b_ 1)] 4 [] [] (⟨by decide, rfl, rfl, rfl, rfl, (by simp [w3]), (callP_of ent34 (choose0r_any _ _) _), rfl, rfl, rfl, (by kernel_rfl), rfl, fun _ _ FF5 MM5 => then_n ?_⟩))
  refine wp_ret ?_
  repeat first | refine then_ret ?_ | refine inb_ret ?_
  exact (retc FF5 MM5 (k := 3) (i := 1) (j := 1) Tryz.results90 rfl rfl Tryz.underlying151 rfl (by kernel_rfl) rfl ⟨rfl, MM5.below⟩)
set_option maxRecDepth 100000 in
theorem settle1_any (x : Nat) (h1 : 1361129467683753853853498429727072845819 ≤ x) (h2 : x < 2722258935367507707706996859454145691638) (w0 : World) :
    Calls Tryz.prog 90 #[.agg (w3 x)] w0 fun e w' => e = .returned (.agg (w3 (x - 1361129467683753853853498429727072845819))) ∧ Below w0.heap.size w0 w' := by
  refine enter_fr Tryz.func90 rfl Tryz.ntmps90 (by simp) fun ac (FF : Fr 20 ac [(0, .agg (w3 x))]) => ?_
  have MM := MemS.start w0
  have e : (x + 5) / 340282366920938463463374607431768211456 = (x + 5) / 18446744073709551616 / 18446744073709551616 := by rw [Nat.div_div_eq_div_mul]
  refine wp_seq (rg_c FF MM [] 3 [] [0] (fun b1 => fun b2 => fun _ _ FF1 MM1 => then_n ?_))
  refine wp_seq (rg_c FF1 MM1 [(0, b_ 1), (0, t_ (.agg (w3 5))), (0, t_ (.agg (w3 (x + 5)))), (1, b_ 0)] 4 [] [] (⟨rfl, rfl, (Eq.trans (show _ = some (#[iW 5, iW 0, iW 0] : Array Value) by kernel_rfl) (congrArg some (Value.agg.inj rfl))), (callP_of ent21 (plus_any _ _) _), fun b3 => ⟨rfl, rfl, rfl, (by kernel_rfl), rfl, fun _ _ FF2 MM2 => then_n ?_⟩⟩))
  refine wp_seq (rg_c FF2 MM2 [(1, l_ 0 (iW ((x + 5) / 340282366920938463463374607431768211456 % 18446744073709551616))), (0, t_ (iW 1))] 5 [] [] (⟨rfl, rfl, by decide, (vI (by omega)), fun _ _ FF3 MM3 => then_n ?_⟩))
  refine wp_seq (rg_c FF3 MM3 [(1, l_ 0 (iW ((x + 5) / 340282366920938463463374607431768211456 % 18446744073709551616))), (0, t_ (iW (((x + 5) / 340282366920938463463374607431768211456 % 18446744073709551616) % 4))), (1, s_ 0 (.cells (w3 (x - 1361129467683753853853498429727072845819)) 151))] 5 [] [] (⟨rfl, rfl, by omega, by decide, (vI (and_low 2 _)), rfl, (by simp [w3]), (.inl rfl), (w3_hi h1 h2), fun _ _ FF4 MM4 => then_n ?_⟩))
  refine wp_seq (rg_c FF4 MM4 [(1, t_ (iW 18446744073709551615)), (0, b_ 2), (0, b_ 0), (0, t_ (.agg (w3 (x - 1361129467683753853853498429727072845819)))), (0, b_ 1)] 4 [] [] (⟨by decide, rfl, rfl, rfl, rfl, rfl, (callP_of ent34 (choose1_any _ _) _), rfl, rfl, rfl, (by kernel_rfl), rfl, fun _ _ FF5 MM5 => then_n ?_⟩))
  refine wp_ret ?_
  repeat first | refine then_ret ?_ | refine inb_ret ?_
  exact (retc FF5 MM5 (k := 3) (i := 1) (j := 1) Tryz.results90 rfl rfl Tryz.underlying151 rfl (by kernel_rfl) rfl ⟨rfl, MM5.below⟩)
theorem settle_any (x : Nat) (h : x < 2722258935367507707706996859454145691638) (w0 : World) : Calls Tryz.prog 90 #[.agg (w3 x)] w0 fun e w' => e = .returned (.agg (w3 (x % 1361129467683753853853498429727072845819))) ∧ Below w0.heap.size w0 w' := by
  by_cases h1 : x < 1361129467683753853853498429727072845819
  · rw [Nat.mod_eq_of_lt h1]; exact settle0_any x h1 w0
  · rw [show x % 1361129467683753853853498429727072845819 = x - 1361129467683753853853498429727072845819 by omega]; exact settle1_any x (by omega) h w0
set_option maxRecDepth 100000 in
theorem tag_any (n : Nat) (w0 : World) :
    Calls Tryz.prog 89 #[.agg (w3 n)] w0 fun e w' => e = .returned (.agg (cn .u8 (tagTo n 8))) ∧ Below w0.heap.size w0 w' := by
  refine enter_fr Tryz.func89 rfl Tryz.ntmps89 (by simp) fun ac (FF : Fr 27 ac [(0, .agg (w3 n))]) => ?_
  have MM := MemS.start w0
  refine wp_seq (rg_c FF MM [(1, s_ 0 (.cells (cn .u8 (List.replicate 16 0)) 89))] 3 [] [0] (fun b1 => ⟨(by kernel_rfl), fun b2 => fun _ _ FF1 MM1 => then_n ?_⟩))
  refine wp_seq (rg_c FF1 MM1 [(0, s_ 0 (.cells (cn .u8 (List.replicate 16 0)) 89))] 4 [] [] (⟨(by kernel_rfl), fun b3 => fun _ _ FF2 MM2 => then_n ?_⟩))
  rw [tagTo_zero n] at MM2
  refine wp_seq ?_
  refine wp_seq (rg_c FF2 MM2 [] 6 [] [] (fun _ _ FF3 MM3 => then_n ?_))
  refine wp_for (fun a' w' => ∃ i : Nat, i ≤ 8 ∧ Fr 27 a' [(5, iN i), (3, pT b3), (2, pT b2), (1, pT b1)] ∧ MemS (fun k => k < w0.heap.size) w0 w' [(b3, .cells (cn .u8 (tagTo n i)) 89), (b2, .cells (cn .u8 (List.replicate 16 0)) 89), (b1, .cells (w3 n) 151)] []) (fun a' _ => (8 - cnt 5 a').toNat) ⟨0, by omega, FF3.pick [0, 1, 2, 3], MM3⟩ ?_
  rintro ac4 wd4 ⟨i, hi, FF4, MM4⟩
  have hc := cnt_of (FF4.get 0 rfl)
  refine rg_c FF4 MM4 [] 7 [] [] (fun _ _ FF5 MM5 => ?_)
  by_cases hlt : i < 8
  · skip
    refine then_n (.inl ⟨(FF5.ev 0 rfl).trans (dec_t hlt), ?_⟩)
    refine wp_seq (rg_c FF5 MM5 [] 6 [] [] (fun _ _ FF6 MM6 => then_n ?_))
    refine wp_seq (rg_c FF6 MM6 [(2, l_ 2 (iW (n % 18446744073709551616))), (4, w_ 1), (0, s_ 0 (.cells (cn .u8 ((tagTo n i).set i (((n % 18446744073709551616) / (2 ^ (8 * i))) % 256))) 89))] 6 [] [] (⟨rfl, rfl, by omega, (by show _ ≤ 64; omega), by omega, rfl, (by rw [cn_size, (tagTo_len n i)]; omega), (.inl rfl), (cn_set _ _ _ _), fun _ _ FF7 MM7 => then_n ?_⟩))
    refine rg_c FF7 MM7 [(3, l_ 2 (iW (n / 18446744073709551616 % 18446744073709551616))), (4, w_ 1), (0, s_ 0 (.cells (cn .u8 (tagTo n (i + 1))) 89))] 6 [] [] (⟨by omega, rfl, rfl, by omega, (by show _ ≤ 64; omega), by omega, rfl, (by rw [cn_size, (len_set (tagTo_len n i))]; omega), (.inl rfl), ((cn_set _ _ _ _).trans (congrArg _ (tagTo_step n i hlt))), fun _ _ FF8 MM8 => ?_⟩)
    refine inb_n (then_n ?_)
    refine rg_c FF8 MM8 [] 6 [] [] (⟨by omega, fun _ _ FF9 MM9 => ?_⟩)
    have hc2 := cnt_of (FF9.get 0 rfl)
    refine then_n ⟨⟨i + 1, by omega, FF9.pick [0, 2, 3, 4], MM9⟩, ?_⟩
    rw [hc, hc2]; omega
  · skip
    refine then_n (.inr ⟨(FF5.ev 0 rfl).trans (dec_f hlt), ?_⟩)
    obtain rfl : i = 8 := by omega
    refine then_n ?_
    refine wp_seq (rg_c FF5 MM5 [(0, b_ 0), (0, b_ 1)] 6 [] [] (⟨rfl, ((cn_size _ _).trans (tagTo_len n 8)), rfl, ((cn_size _ _).trans (List.length_replicate ..)), ((cn_size _ _).trans (tagTo_len n 8)), (cn_one _ _), rfl, fun _ _ FF10 MM10 => then_n ?_⟩))
    refine wp_ret ?_
    repeat first | refine then_ret ?_ | refine inb_ret ?_
    exact (retc FF10 MM10 (k := 16) (i := 1) (j := 2) Tryz.results89 rfl rfl Tryz.underlying89 rfl (by kernel_rfl) ((cn_size _ _).trans (tagTo_len n 8)) ⟨rfl, MM10.below⟩)
end Go.Proofs.YtdjpacgjhcidpabGreatDoor
namespace Go.Proofs.YtdjpacgjhcidpabGreatDoor
open Go.RowKit
/-- A block: its bytes, noughts behind them, how many they are. -/
def blk (R : List Nat) : Array Value := cn .u8 (padR R) ++ (#[iN R.length] : Array Value)
theorem blk_size {R : List Nat} (h : R.length ≤ 16) : (blk R).size = 18 := by simp [blk, cn_size, padR_len h]
theorem fill_cells {R X : List Nat} (h : R.length ≤ 16) : setFrom (blk R) R.length (bcells (X.take (16 - R.length))) = cn .u8 (padR (R ++ X.take (16 - R.length))) ++ (#[iN R.length] : Array Value) := by
  have hz : (X.take (16 - R.length)).length ≤ 16 - R.length := by simp; omega
  rw [blk, setFrom_cat (by rw [padR_len h]; omega)]
  congr 2
  generalize X.take (16 - R.length) = Z at *
  unfold padR
  rw [List.take_append_of_le_length (Nat.le_refl _), List.take_length, List.drop_append, List.drop_eq_nil_of_le (by omega), List.nil_append, List.drop_replicate]
  congr 2
  simp; omega
set_option maxRecDepth 100000 in
theorem factorOf_any (K : List Nat) (hK : Bytes 32 K) (w0 : World) :
    Calls Tryz.prog 83 #[.agg (cn .u8 K)] w0 fun e w' => e = .returned (.agg #[iW (fac0 K), iW (fac1 K)]) ∧ Below w0.heap.size w0 w' := by
  refine enter_fr Tryz.func83 rfl Tryz.ntmps83 (by simp) fun ac (FF : Fr 14 ac [(0, .agg (cn .u8 K))]) => ?_
  have MM := MemS.start w0
  refine wp_seq (rg_c FF MM [(0, s_ 0 (.cells (cn .u8 K) 23))] 3 [] [0] (⟨(by kernel_rfl), fun b1 => fun b2 => fun _ _ FF1 MM1 => then_n ?_⟩))
  refine wp_seq (rg_dc 11 FF1 MM1 [(2, l_ 1 (.agg (cn .u8 ((K.drop 0).take 8)))), (0, t_ (iW (le8 ((K.drop 0).take 8)))), (3, l_ 1 (.agg (cn .u8 ((K.drop 8).take 8)))), (0, t_ (iW (le8 ((K.drop 8).take 8)))), (1, t_ (aG #[iW ((le8 ((K.drop 0).take 8)) &&& 1152921487695413247), iW ((le8 ((K.drop 8).take 8)) &&& 1152921487695413244)]))] [(0, b_ 0)] 0 [2] [] (⟨by decide, by decide, by decide, by decide, rfl, (part_cut hK.len (by decide)), ((cn_size _ _).trans (len_cut hK.len (by decide))), (callP_of ent30 (py_word_any _ ⟨(len_cut hK.len (by decide)), (cut_lt2 (off := 0) (len := 8) hK.lt)⟩) _), (by have := le8_lt _ (cut_lt2 (off := 0) (len := 8) hK.lt); omega), by decide, by decide, by decide, by decide, by decide, rfl, (part_cut hK.len (by decide)), ((cn_size _ _).trans (len_cut hK.len (by decide))), (callP_of ent30 (py_word_any _ ⟨(len_cut hK.len (by decide)), (cut_lt2 (off := 8) (len := 8) hK.lt)⟩) _), (by have := le8_lt _ (cut_lt2 (off := 8) (len := 8) hK.lt); omega), by decide, (by kernel_rfl), rfl, rfl, rfl, (by kernel_rfl), rfl, fun _ _ FF2 MM2 => then_n ?_⟩))
  refine wp_ret ?_
  repeat first | refine then_ret ?_ | refine inb_ret ?_
  exact (retc FF2 MM2 (k := 2) (i := 0) (j := 0) Tryz.results83 rfl rfl Tryz.underlying148 rfl (by kernel_rfl) rfl ⟨rfl, MM2.below⟩)
set_option maxRecDepth 100000 in
theorem lastHalf_any (K : List Nat) (hK : Bytes 32 K) (w0 : World) :
    Calls Tryz.prog 84 #[.agg (cn .u8 K)] w0 fun e w' => e = .returned (.agg (w3 (sOf K))) ∧ Below w0.heap.size w0 w' := by
  refine enter_fr Tryz.func84 rfl Tryz.ntmps84 (by simp) fun ac (FF : Fr 12 ac [(0, .agg (cn .u8 K))]) => ?_
  have MM := MemS.start w0
  refine wp_seq (rg_c FF MM [(0, s_ 0 (.cells (cn .u8 K) 23))] 3 [] [0] (⟨(by kernel_rfl), fun b1 => fun b2 => fun _ _ FF1 MM1 => then_n ?_⟩))
  refine wp_seq (rg_dc 9 FF1 MM1 [(2, l_ 1 (.agg (cn .u8 ((K.drop 16).take 8)))), (0, t_ (iW (le8 ((K.drop 16).take 8)))), (2, l_ 1 (.agg (cn .u8 ((K.drop 24).take 8)))), (0, t_ (iW (le8 ((K.drop 24).take 8)))), (0, t_ (.agg (w3 (sOf K))))] [(0, b_ 0)] 0 [2] [] (⟨by decide, by decide, by decide, by decide, rfl, (part_cut hK.len (by decide)), ((cn_size _ _).trans (len_cut hK.len (by decide))), (callP_of ent30 (py_word_any _ ⟨(len_cut hK.len (by decide)), (cut_lt2 (off := 16) (len := 8) hK.lt)⟩) _), by decide, by decide, by decide, by decide, rfl, (part_cut hK.len (by decide)), ((cn_size _ _).trans (len_cut hK.len (by decide))), (callP_of ent30 (py_word_any _ ⟨(len_cut hK.len (by decide)), (cut_lt2 (off := 24) (len := 8) hK.lt)⟩) _), (Eq.trans (show _ = some (#[iW (le8 ((K.drop 16).take 8)), iW (le8 ((K.drop 24).take 8)), iW 0] : Array Value) by kernel_rfl) (congrArg some (Value.agg.inj (w3_of (by have := (le8_lt _ (cut_lt2 (off := 16) (len := 8) hK.lt)); have := (le8_lt _ (cut_lt2 (off := 24) (len := 8) hK.lt)); unfold sOf; refine ⟨by omega, by omega, by omega⟩))))), rfl, rfl, rfl, (by kernel_rfl), rfl, fun _ _ FF2 MM2 => then_n ?_⟩))
  refine wp_ret ?_
  repeat first | refine then_ret ?_ | refine inb_ret ?_
  exact (retc FF2 MM2 (k := 3) (i := 0) (j := 0) Tryz.results84 rfl rfl Tryz.underlying151 rfl (by kernel_rfl) rfl ⟨rfl, MM2.below⟩)
set_option maxRecDepth 100000 in
theorem number_any (R : List Nat) (hR : R.length ≤ 16) (hl : ∀ i, R.getD i 0 < 256) (w0 : World) :
    Calls Tryz.prog 88 #[.agg (blk R)] w0 fun e w' => e = .returned (.agg (w3 (numR R))) ∧ Below w0.heap.size w0 w' := by
  refine enter_fr Tryz.func88 rfl Tryz.ntmps88 (by simp) fun ac (FF : Fr 22 ac [(0, .agg (blk R))]) => ?_
  have MM := MemS.start w0
  refine wp_seq (rg_c FF MM [(0, s_ 0 (.cells (blk R) 155))] 3 [] [0] (⟨(by kernel_rfl), fun b1 => fun b2 => fun _ _ FF1 MM1 => then_n ?_⟩))
  refine wp_seq (rg_c FF1 MM1 [(1, l_ 1 (iN R.length)), (1, w_ 1), (0, s_ 1 (.cells ((cn .u8 ((padR R).set R.length 1)) ++ (#[iN R.length] : Array Value)) 155))] 3 [] [] (⟨rfl, ((cat_r 0 ((cn_size _ _).trans (padR_len hR)) rfl).trans rfl), (by have := hR; omega), rfl, (by rw [show (blk R).size = 18 from (blk_size hR)]; omega), (.inl rfl), ((cat_set_l (by rw [cn_size, (padR_len hR)]; omega)).trans (congrArg (· ++ _) (cn_set _ _ _ _))), fun _ _ FF2 MM2 => then_n ?_⟩))
  refine wp_seq (rg_dc 15 FF2 MM2 [(3, l_ 1 (.agg (cn .u8 ((((padR R).set R.length 1).drop 0).take 8)))), (0, t_ (iW (le8 ((((padR R).set R.length 1).drop 0).take 8)))), (3, l_ 1 (.agg (cn .u8 ((((padR R).set R.length 1).drop 8).take 8)))), (0, t_ (iW (le8 ((((padR R).set R.length 1).drop 8).take 8)))), (1, w_ 1), (0, l_ 1 (iB (((padR R).set R.length 1).getD 16 0))), (0, w_ 1), (0, t_ (.agg (w3 (numR R))))] [(0, b_ 0)] 3 [] [] (⟨by decide, by decide, by decide, by decide, rfl, (part_l (part_cut (len_set (padR_len hR)) (by decide))), ((cn_size _ _).trans (len_cut (len_set (padR_len hR)) (by decide))), (callP_of ent30 (py_word_any _ ⟨(len_cut (len_set (padR_len hR)) (by decide)), (cut_lt2 (off := 0) (len := 8) (set_lt (j := R.length) (x := 1) (padR_lt hl) (by decide)))⟩) _), by decide, by decide, by decide, by decide, rfl, (part_l (part_cut (len_set (padR_len hR)) (by decide))), ((cn_size _ _).trans (len_cut (len_set (padR_len hR)) (by decide))), (callP_of ent30 (py_word_any _ ⟨(len_cut (len_set (padR_len hR)) (by decide)), (cut_lt2 (off := 8) (len := 8) (set_lt (j := R.length) (x := 1) (padR_lt hl) (by decide)))⟩) _), by decide, rfl, ((cat_l (by rw [cn_size, (len_set (padR_len hR))]; decide)).trans (cn_get _ _ _ (by rw [(len_set (padR_len hR))]; decide))), (by have := (set_lt (j := R.length) (x := 1) (padR_lt hl) (by decide)) 16; omega), (Eq.trans (show _ = some (#[iW (le8 ((((padR R).set R.length 1).drop 0).take 8)), iW (le8 ((((padR R).set R.length 1).drop 8).take 8)), iW (((padR R).set R.length 1).getD 16 0)] : Array Value) by kernel_rfl) (congrArg some (Value.agg.inj (w3_of (num_words hR hl))))), rfl, rfl, rfl, (by kernel_rfl), rfl, fun _ _ FF3 MM3 => then_n ?_⟩))
  refine wp_ret ?_
  repeat first | refine then_ret ?_ | refine inb_ret ?_
  exact (retc FF3 MM3 (k := 3) (i := 0) (j := 0) Tryz.results88 rfl rfl Tryz.underlying151 rfl (by kernel_rfl) rfl ⟨rfl, MM3.below⟩)
set_option maxRecDepth 100000 in
theorem fill_any (R X : List Nat) (b j : Nat) (hR : R.length ≤ 16) (hX : ∀ i, X.getD i 0 < 256) (L : Blks) (hj : L[j]? = some (b, .cells (blk R) 155)) (w0 : World) (H : Has w0 L) :
    Calls Tryz.prog 85 #[pT b, sB X] w0 fun e w' => e = .returned (sB (X.drop (16 - R.length))) ∧ Post w0 w' L ⟨fun _ => sB (X.drop (16 - R.length)), none, [(j, .cells (blk (R ++ X.take (16 - R.length))) 155)]⟩ 0 := by
  have MM := MemS.start1 (H j _ hj)
  refine enter_fr Tryz.func85 rfl Tryz.ntmps85 (by simp) fun ac (FF : Fr 27 ac [(0, pT b), (1, sB X)]) => ?_
  have hR2 : (R ++ X.take (16 - R.length)).length ≤ 16 := by simp; omega
  refine wp_seq (rg_c FF MM [(0, t_ (sB []))] 5 [] [] (⟨(by kernel_rfl), fun _ _ FF1 MM1 => then_n ?_⟩))
  refine wp_seq (rg_dc 9 FF1 MM1 [(6, l_ 0 (iN R.length)), (0, w_ 2)] [(0, r_ (iN (min X.length (16 - R.length))) [(0, .cells ((cn .u8 (padR (R ++ X.take (16 - R.length)))) ++ (#[iN R.length] : Array Value)) 155)])] 6 [] [] (⟨rfl, ((cat_r 0 ((cn_size _ _).trans (padR_len hR)) rfl).trans rfl), (by have := hR; omega), by decide, (by have := hR; omega), (copyStr_ok (p := .tmp 13) (q := .tmp 14) (t := 59) (tq := 9) (e := 5) (i := 0) (by kernel_rfl) rfl rfl hX Tryz.underlying59 (by kernel_rfl) rfl (by rw [blk_size hR]; omega) (fill_cells hR)), fun _ _ FF2 MM2 => then_n ?_⟩))
  refine wp_seq (rg_c FF2 MM2 [(3, l_ 0 (iN R.length)), (4, s_ 0 (.cells (blk (R ++ X.take (16 - R.length))) 155))] 6 [] [] (⟨rfl, ((cat_r 0 ((cn_size _ _).trans (padR_len hR2)) rfl).trans rfl), (by have := hR; omega), rfl, (by simp [cn_size, padR_len hR2]), (.inl rfl), ((cat_set_r 0 ((cn_size _ _).trans (padR_len hR2)) rfl).trans (congrArg (_ ++ ·) (by show (#[_] : Array Value) = #[_]; rw [show R.length + min X.length (16 - R.length) = (R ++ X.take (16 - R.length)).length by simp; omega]))), fun _ _ FF3 MM3 => then_n ?_⟩))
  refine wp_seq (rg_c FF3 MM3 [(2, t_ (sB (X.drop (16 - R.length))))] 6 [] [] (⟨(by simp only [bs_size]; omega), (Nat.zero_le _), (vS2 ((bs_from _ _).trans (congrArg bs (drop_min _ _)))), fun _ _ FF4 MM4 => then_n ?_⟩))
  refine wp_ret ?_
  repeat first | refine then_ret ?_ | refine inb_ret ?_
  exact (ret_fr FF4 0 Tryz.results85 rfl ⟨rfl, MM4.post1 0 rfl hj⟩)
end Go.Proofs.YtdjpacgjhcidpabGreatDoor
namespace Go.Proofs.YtdjpacgjhcidpabGreatDoor
open Go.RowKit
theorem fill_len {R X : List Nat} (h : R.length ≤ 16) : (R ++ X.take (16 - R.length)).length ≤ 16 := by simp; omega
theorem fill_lt {R X : List Nat} (h : ∀ i, R.getD i 0 < 256) (h' : ∀ i, X.getD i 0 < 256) (i : Nat) : (R ++ X.take (16 - R.length)).getD i 0 < 256 := app_lt h (take_lt h') i
theorem zero_blk : cn .u8 (List.replicate 17 0) ++ (#[iN 0] : Array Value) = blk (remT []) := by kernel_rfl
theorem zero_h (r : Nat) : (#[iW 0, iW 0, iW 0] : Array Value) = w3 (hT r []) := by kernel_rfl
theorem rem_le (T : List Nat) : (remT T).length ≤ 16 := by rw [remT_len]; omega
set_option maxRecDepth 100000 in
set_option maxHeartbeats 1000000 in
theorem sum_any (K : List Nat) (hK : Bytes 32 K) (Ps : List (List Nat)) (hP : ∀ X ∈ Ps, ∀ i, X.getD i 0 < 256) (hn : Ps.length < 9223372036854775808) (pb cap T9 : Nat) (fr : Nat × Nat) (cs : Array Value) (hp : ∀ j, j < Ps.length → cs[j]? = some (sB (Ps.getD j []))) (w0 : World) (hb : w0.heap[pb]? = some (.cells cs T9 fr)) :
    Calls Tryz.prog 64 #[.agg (cn .u8 K), .slice (some ⟨pb, 0, none⟩) Ps.length cap] w0 fun e w' => e = .returned (.agg (cn .u8 (polyN K Ps.flatten))) ∧ Below w0.heap.size w0 w' := by
  have MM := MemS.start1 hb
  refine enter_fr Tryz.func64 rfl Tryz.ntmps64 (by simp) fun ac (FF : Fr 51 ac [(0, .agg (cn .u8 K)), (1, .slice (some ⟨pb, 0, none⟩) Ps.length cap)]) => ?_
  refine wp_seq (rg_c FF MM [(0, s_ 0 (.cells (cn .u8 K) 23)), (0, s_ 0 (.cells (cn .u8 (List.replicate 16 0)) 89))] 5 [] [0] (⟨(by kernel_rfl), fun b1 => ⟨(by kernel_rfl), fun b2 => fun _ _ FF1 MM1 => then_n ?_⟩⟩))
  refine wp_seq (rg_draw FF1 MM1 [.inl (.agg (cn .u8 K)), .inl (aG #[iW (fac0 K), iW (fac1 K)]), .inl (.agg (cn .u8 K)), .inl (.agg (w3 (sOf K))), .inr (oC #[iW 0, iW 0] 148, fun b => pT b), .inr (oC #[iW 0, iW 0, iW 0] 151, fun b => pT b)] [4, 5] [b_ 1, t_ (aG #[iW (fac0 K), iW (fac1 K)]), b_ 1, t_ (.agg (w3 (sOf K))), o_, o_] [b_ 0, b_ 1] [4, 1, 5, 6] (fun nb => [b1 = b1, (cn .u8 K).size = 32, CallP Tryz.prog 83 [.agg (cn .u8 K)] [] (aG #[iW (fac0 K), iW (fac1 K)]), b1 = b1, (cn .u8 K).size = 32, CallP Tryz.prog 84 [.agg (cn .u8 K)] [] (.agg (w3 (sOf K)))]) (fun nb Kt => (nb 4) = (nb 4) ∧ (#[iW 0, iW 0] : Array Value).size = 2 ∧ (#[iW (fac0 K), iW (fac1 K)] : Array Value).size = 2 ∧ (#[iW (fac0 K), iW (fac1 K)] : Array Value).all (·.oneCell') = true ∧ (0, 0).2 = 0 ∧ (nb 5) = (nb 5) ∧ (#[iW 0, iW 0, iW 0] : Array Value).size = 3 ∧ (w3 (sOf K)).size = 3 ∧ (w3 (sOf K)).all (·.oneCell') = true ∧ (0, 0).2 = 0 ∧ Kt [(6, pT (nb 5)), (5, pT (nb 4)), (4, pT b2), (1, .slice (some ⟨pb, 0, none⟩) Ps.length cap)] [((nb 4), oC #[iW (fac0 K), iW (fac1 K)] 148), ((nb 5), .cells (w3 (sOf K)) 151), (b2, .cells (cn .u8 (List.replicate 16 0)) 89), (b1, .cells (cn .u8 K) 23), (pb, .cells cs T9 fr)]) (by kernel_rfl) (by kernel_rfl) (by kernel_rfl) (fun _ => by kernel_rfl) (fun _ _ => by kernel_rfl) ⟨⟨_, rfl⟩, rfl, ⟨⟨_, rfl⟩, rfl, trivial⟩⟩ (fun nb => ⟨rfl, ((cn_size _ _).trans hK.len), (callP_of ent17 (factorOf_any K hK) _), rfl, ((cn_size _ _).trans hK.len), (callP_of ent18 (lastHalf_any K hK) _), trivial⟩) (fun nb => ⟨rfl, rfl, rfl, (by kernel_rfl), rfl, rfl, rfl, rfl, (by kernel_rfl), rfl, fun _ _ FF2 MM2 => then_n ?_⟩))
  generalize nb 4 = br at *
  generalize nb 5 = bl at *
  refine wp_seq (rg_c FF2 MM2 [] 8 [] [] (fun bh => fun _ _ FF3 MM3 => then_n ?_))
  refine wp_seq (rg_c FF3 MM3 [(0, s_ 0 (.cells ((cn .u8 (List.replicate 17 0)) ++ (#[iN 0] : Array Value)) 155))] 9 [] [] (⟨(by kernel_rfl), fun bb => fun _ wd4 FF4 MM4 => then_n ?_⟩))
  have hn0 : ∀ i, ([] : List Nat).getD i 0 < 256 := fun i => by simp
  have MMs : MemS (fun k => k < w0.heap.size ∧ k ≠ pb) w0 wd4 [(bb, .cells (blk (remT [])) 155), (bh, .cells (w3 (hT (rOf K) [])) 151), (br, oC #[iW (fac0 K), iW (fac1 K)] 148), (bl, .cells (w3 (sOf K)) 151), (b2, .cells (cn .u8 (List.replicate 16 0)) 89), (b1, .cells (cn .u8 K) 23), (pb, .cells cs T9 fr)] [] := by rw [← zero_blk, ← zero_h (rOf K)]; exact MM4
  refine wp_seq ?_
  refine wp_seq (rg_c FF4 MMs [] 18 [] [1] (fun _ _ FF5 MM5 => then_n ?_))
  refine wp_for (fun a' w' => ∃ j : Nat, j ≤ Ps.length ∧ Fr 51 a' [(17, iN j), (16, iN Ps.length), (15, .slice (some ⟨pb, 0, none⟩) Ps.length cap), (8, pT bb), (7, pT bh), (6, pT bl), (5, pT br), (4, pT b2)] ∧ MemS (fun k => k < w0.heap.size ∧ k ≠ pb) w0 w' [(bb, .cells (blk (remT ((Ps.take j).flatten))) 155), (bh, .cells (w3 (hT (rOf K) ((Ps.take j).flatten))) 151), (br, oC #[iW (fac0 K), iW (fac1 K)] 148), (bl, .cells (w3 (sOf K)) 151), (b2, .cells (cn .u8 (List.replicate 16 0)) 89), (b1, .cells (cn .u8 K) 23), (pb, .cells cs T9 fr)] []) (fun a' _ => (Ps.length - cnt 17 a').toNat) ⟨0, by omega, FF5.pick [0, 1, 2, 3, 4, 5, 6, 7], MM5⟩ ?_
  rintro ac6 wd6 ⟨j, hj, FF6, MM6⟩
  have hc := cnt_of (FF6.get 0 rfl)
  refine rg_c FF6 MM6 [] 19 [] [] (fun _ _ FF7 MM7 => ?_)
  by_cases hlt : j < Ps.length
  · skip
    refine then_n (.inl ⟨(FF7.ev 0 rfl).trans (dec_t hlt), ?_⟩)
    have hPj : ∀ i, (Ps.getD j []).getD i 0 < 256 := hP _ (by rw [List.getD_eq_getElem?_getD, List.getElem?_eq_getElem hlt]; exact List.getElem_mem hlt)
    refine wp_seq (rg_c FF7 MM7 [(0, w_ 1), (0, l_ 6 (sB (Ps.getD j [])))] 18 [] [] (⟨by omega, rfl, (hp j hlt), fun _ _ FF8 MM8 => then_n ?_⟩))
    refine wp_for2w (fun a' w' => ∃ C : List Nat, ∃ X : List Nat, C ++ X = (Ps.take j).flatten ++ Ps.getD j [] ∧ (∀ i, C.getD i 0 < 256) ∧ (∀ i, X.getD i 0 < 256) ∧ Fr 51 a' [(10, sB X), (17, iN j), (16, iN Ps.length), (15, .slice (some ⟨pb, 0, none⟩) Ps.length cap), (8, pT bb), (7, pT bh), (6, pT bl), (5, pT br), (4, pT b2)] ∧ MemS (fun k => k < w0.heap.size ∧ k ≠ pb) w0 w' [(bb, .cells (blk (remT C)) 155), (bh, .cells (w3 (hT (rOf K) C)) 151), (br, oC #[iW (fac0 K), iW (fac1 K)] 148), (bl, .cells (w3 (sOf K)) 151), (b2, .cells (cn .u8 (List.replicate 16 0)) 89), (b1, .cells (cn .u8 K) 23), (pb, .cells cs T9 fr)] []) (fun a' _ => strLen 10 a') ⟨(Ps.take j).flatten, Ps.getD j [], rfl, flat_lt (fun Y hY => hP Y (List.mem_of_mem_take hY)), hPj, FF8.pick [0, 1, 2, 3, 4, 5, 6, 7, 8], MM8⟩ ?_
    rintro ac9 wd9 ⟨C, X, hC, hCl, hXl, FF9, MM9⟩
    have hm1 := strLen_of (FF9.get 0 rfl)
    refine rg_c FF9 MM9 [(1, t_ (iN X.length))] 18 [23] [] (⟨(vI (bs_size _)), fun _ _ FF10 MM10 => ?_⟩)
    by_cases hX0 : X.length > 0
    · skip
      refine then_n (.inl ⟨(FF10.ev 0 rfl).trans (dec_t hX0), ?_⟩)
      refine wp_seq (rg_c FF10 MM10 [(1, c_ (sB (X.drop (16 - (remT C).length))) [(0, .cells (blk ((remT C) ++ X.take (16 - (remT C).length))) 155)])] 18 [] [] (⟨⟨ent19, fun w H => fill_any _ _ _ 0 (rem_le _) hXl _ rfl w H⟩, fun _ _ FF11 MM11 => then_n ?_⟩))
      refine wp_seq (rg_c FF11 MM11 [(1, l_ 0 (iN (((remT C) ++ X.take (16 - (remT C).length)).length)))] 18 [28] [] (⟨rfl, ((cat_r 0 ((cn_size _ _).trans (padR_len (fill_len (rem_le _)))) rfl).trans rfl), fun _ wd12 FF12 MM12 => then_n ?_⟩))
      by_cases hs28 : (((remT C) ++ X.take (16 - (remT C).length)).length) = 16
      · refine wp_cond_true ((FF12.ev 0 rfl).trans (dec_t hs28)) ?_
        refine wp_seq (rg_dc 6 FF12 MM12 [(0, b_ 1), (0, b_ 0), (0, t_ (.agg (w3 (numR ((remT C) ++ X.take (16 - (remT C).length)))))), (0, t_ (.agg (w3 ((hT (rOf K) C) + (numR ((remT C) ++ X.take (16 - (remT C).length))))))), (0, b_ 2), (0, t_ (.agg (w3 (foldN (((hT (rOf K) C) + (numR ((remT C) ++ X.take (16 - (remT C).length)))) * rOf K)))))] [(0, b_ 1)] 18 [] [] (⟨rfl, rfl, rfl, (blk_size (fill_len (rem_le _))), (callP_of ent22 (number_any _ (fill_len (rem_le _)) (fill_lt (remT_lt hCl) hXl)) _), (callP_of ent21 (plus_any _ _) _), rfl, rfl, (callP_of ent20 (times_any _ _ _ (by have := hK_lt (rOf_lt K) hCl (C.length / 16); have := numR_lt (fill_len (rem_le C)) (fill_lt (remT_lt hCl) hXl); unfold hT; omega) (fac0_lt K) (fac1_lt K)) _), rfl, rfl, rfl, (by kernel_rfl), rfl, fun _ _ FF13 MM13 => then_n ?_⟩))
        refine rg_c FF13 MM13 [(0, t_ (.agg ((cn .u8 (List.replicate 17 0)) ++ (#[iN 0] : Array Value)))), (0, b_ 0)] 18 [] [] (⟨(by kernel_rfl), rfl, (blk_size (fill_len (rem_le _))), (by simp [cn_size]), (one_app (cn_one _ _) (by kernel_rfl)), rfl, fun _ wd14 FF14 MM14 => ?_⟩)
        refine inb_n ?_
        have hst := step_full (rOf K) C (X.take (16 - (remT C).length)) hs28
        have hl2 : ∀ i, (C ++ X.take (16 - (remT C).length)).getD i 0 < 256 := app_lt hCl (take_lt hXl)
        have MMx : MemS (fun k => k < w0.heap.size ∧ k ≠ pb) w0 wd14 [(bb, .cells (blk (remT (C ++ X.take (16 - (remT C).length)))) 155), (bh, .cells (w3 (hT (rOf K) (C ++ X.take (16 - (remT C).length)))) 151), (br, oC #[iW (fac0 K), iW (fac1 K)] 148), (bl, .cells (w3 (sOf K)) 151), (b2, .cells (cn .u8 (List.replicate 16 0)) 89), (b1, .cells (cn .u8 K) 23), (pb, .cells cs T9 fr)] [] := by rw [hst.1, hst.2]; exact MM14
        have hm2 := strLen_of (FF14.get 0 rfl)
        refine then_n ⟨⟨C ++ X.take (16 - (remT C).length), X.drop (16 - (remT C).length), by rw [List.append_assoc, List.take_append_drop, hC], hl2, drop_lt hXl, FF14.pick [0, 1, 2, 3, 4, 5, 6, 7, 8], MMx⟩, ?_⟩
        rw [hm1, hm2, bs_size, bs_size, List.length_drop]; have := remT_len C; omega
      · refine wp_cond_false ((FF12.ev 0 rfl).trans (dec_f hs28)) ?_
        refine wp_skip ?_
        refine inb_n ?_
        have hst := step_in (rOf K) C (X.take (16 - (remT C).length)) (by have := fill_len (X := X) (rem_le C); omega)
        have hl2 : ∀ i, (C ++ X.take (16 - (remT C).length)).getD i 0 < 256 := app_lt hCl (take_lt hXl)
        have MMx : MemS (fun k => k < w0.heap.size ∧ k ≠ pb) w0 wd12 [(bb, .cells (blk (remT (C ++ X.take (16 - (remT C).length)))) 155), (bh, .cells (w3 (hT (rOf K) (C ++ X.take (16 - (remT C).length)))) 151), (br, oC #[iW (fac0 K), iW (fac1 K)] 148), (bl, .cells (w3 (sOf K)) 151), (b2, .cells (cn .u8 (List.replicate 16 0)) 89), (b1, .cells (cn .u8 K) 23), (pb, .cells cs T9 fr)] [] := by rw [hst.1, hst.2]; exact MM12
        have hm2 := strLen_of (FF12.get 1 rfl)
        refine then_n ⟨⟨C ++ X.take (16 - (remT C).length), X.drop (16 - (remT C).length), by rw [List.append_assoc, List.take_append_drop, hC], hl2, drop_lt hXl, FF12.pick [1, 2, 3, 4, 5, 6, 7, 8, 9], MMx⟩, ?_⟩
        rw [hm1, hm2, bs_size, bs_size, List.length_drop]; have := remT_len C; omega
    · skip
      refine then_n (.inr ⟨(FF10.ev 0 rfl).trans (dec_f hX0), ?_⟩)
      obtain rfl : X = [] := List.eq_nil_of_length_eq_zero (by omega)
      rw [List.append_nil] at hC
      rw [← flat_take Ps j hlt] at hC
      subst hC
      refine inb_n (then_n ?_)
      refine rg_c FF10 MM10 [] 18 [] [] (⟨by omega, fun _ _ FF15 MM15 => ?_⟩)
      have hc2 := cnt_of (FF15.get 0 rfl)
      refine then_n ⟨⟨j + 1, by omega, FF15.pick [0, 2, 3, 4, 5, 6, 7, 8], MM15⟩, ?_⟩
      rw [hc, hc2]; omega
  · skip
    refine then_n (.inr ⟨(FF7.ev 0 rfl).trans (dec_f hlt), ?_⟩)
    obtain rfl : j = Ps.length := by omega
    rw [List.take_length] at MM7
    have hTl : ∀ i, Ps.flatten.getD i 0 < 256 := flat_lt hP
    refine then_n ?_
    refine wp_seq ?_
    refine wp_seq (rg_c FF7 MM7 [(1, l_ 0 (iN ((remT Ps.flatten).length)))] 18 [39] [] (⟨rfl, ((cat_r 0 ((cn_size _ _).trans (padR_len (rem_le _))) rfl).trans rfl), fun _ wd16 FF16 MM16 => then_n ?_⟩))
    by_cases hs39 : ((remT Ps.flatten).length) > 0
    · refine wp_cond_true ((FF16.ev 0 rfl).trans (dec_t hs39)) ?_
      refine rg_dc 6 FF16 MM16 [(0, b_ 1), (0, b_ 0), (0, t_ (.agg (w3 (numR (remT Ps.flatten))))), (0, t_ (.agg (w3 ((hT (rOf K) Ps.flatten) + (numR (remT Ps.flatten)))))), (0, b_ 2), (0, t_ (.agg (w3 (foldN (((hT (rOf K) Ps.flatten) + (numR (remT Ps.flatten))) * rOf K)))))] [(0, b_ 1)] 18 [] [] (⟨rfl, rfl, rfl, (blk_size (rem_le _)), (callP_of ent22 (number_any _ (rem_le _) (remT_lt hTl)) _), (callP_of ent21 (plus_any _ _) _), rfl, rfl, (callP_of ent20 (times_any _ _ _ (by have := hK_lt (rOf_lt K) hTl (Ps.flatten.length / 16); have := numR_lt (rem_le _) (remT_lt hTl); unfold hT; omega) (fac0_lt K) (fac1_lt K)) _), rfl, rfl, rfl, (by kernel_rfl), rfl, fun _ wd17 FF17 MM17 => ?_⟩)
      refine then_n ?_
      have MMz : MemS (fun k => k < w0.heap.size ∧ k ≠ pb) w0 wd17 [(bb, .cells (blk (remT Ps.flatten)) 155), (bh, .cells (w3 (hAll (rOf K) Ps.flatten)) 151), (br, oC #[iW (fac0 K), iW (fac1 K)] 148), (bl, .cells (w3 (sOf K)) 151), (b2, .cells (cn .u8 (List.replicate 16 0)) 89), (b1, .cells (cn .u8 K) 23), (pb, .cells cs T9 fr)] [] := by rw [hAll, if_pos hs39]; exact MM17
      refine wp_seq (rg_dc 5 FF17 MMz [(0, b_ 1), (0, t_ (.agg (w3 ((hAll (rOf K) Ps.flatten) % 1361129467683753853853498429727072845819)))), (0, b_ 3), (0, t_ (.agg (w3 (((hAll (rOf K) Ps.flatten) % 1361129467683753853853498429727072845819) + (sOf K))))), (0, t_ (.agg (cn .u8 (tagTo (((hAll (rOf K) Ps.flatten) % 1361129467683753853853498429727072845819) + (sOf K)) 8))))] [(0, b_ 4)] 18 [] [] (⟨rfl, rfl, (callP_of ent24 (settle_any _ (hAll_lt hTl)) _), rfl, rfl, (callP_of ent21 (plus_any _ _) _), (callP_of ent23 (tag_any _) _), rfl, ((cn_size _ _).trans (List.length_replicate ..)), ((cn_size _ _).trans (tagTo_len _ _)), (cn_one _ _), rfl, fun _ _ FF18 MM18 => then_n ?_⟩))
      refine wp_ret ?_
      repeat first | refine then_ret ?_ | refine inb_ret ?_
      exact (retc FF18 MM18 (k := 16) (i := 4) (j := 7) Tryz.results64 rfl rfl Tryz.underlying89 rfl (by kernel_rfl) ((cn_size _ _).trans (tagTo_len _ _)) ⟨rfl, MM18.below1 6 rfl hb⟩)
    · refine wp_cond_false ((FF16.ev 0 rfl).trans (dec_f hs39)) ?_
      refine wp_skip ?_
      refine then_n ?_
      have MMz : MemS (fun k => k < w0.heap.size ∧ k ≠ pb) w0 wd16 [(bb, .cells (blk (remT Ps.flatten)) 155), (bh, .cells (w3 (hAll (rOf K) Ps.flatten)) 151), (br, oC #[iW (fac0 K), iW (fac1 K)] 148), (bl, .cells (w3 (sOf K)) 151), (b2, .cells (cn .u8 (List.replicate 16 0)) 89), (b1, .cells (cn .u8 K) 23), (pb, .cells cs T9 fr)] [] := by rw [hAll, if_neg hs39]; exact MM16
      refine wp_seq (rg_dc 5 FF16 MMz [(0, b_ 1), (0, t_ (.agg (w3 ((hAll (rOf K) Ps.flatten) % 1361129467683753853853498429727072845819)))), (0, b_ 3), (0, t_ (.agg (w3 (((hAll (rOf K) Ps.flatten) % 1361129467683753853853498429727072845819) + (sOf K))))), (0, t_ (.agg (cn .u8 (tagTo (((hAll (rOf K) Ps.flatten) % 1361129467683753853853498429727072845819) + (sOf K)) 8))))] [(0, b_ 4)] 18 [] [] (⟨rfl, rfl, (callP_of ent24 (settle_any _ (hAll_lt hTl)) _), rfl, rfl, (callP_of ent21 (plus_any _ _) _), (callP_of ent23 (tag_any _) _), rfl, ((cn_size _ _).trans (List.length_replicate ..)), ((cn_size _ _).trans (tagTo_len _ _)), (cn_one _ _), rfl, fun _ _ FF19 MM19 => then_n ?_⟩))
      refine wp_ret ?_
      repeat first | refine then_ret ?_ | refine inb_ret ?_
      exact (retc FF19 MM19 (k := 16) (i := 4) (j := 7) Tryz.results64 rfl rfl Tryz.underlying89 rfl (by kernel_rfl) ((cn_size _ _).trans (tagTo_len _ _)) ⟨rfl, MM19.below1 6 rfl hb⟩)
end Go.Proofs.YtdjpacgjhcidpabGreatDoor
namespace Go.Proofs.YtdjpacgjhcidpabGreatDoor
open Go.RowKit
def rN (m d x : Nat) : Nat := (x * m % 4294967296) ||| (x / d)
theorem rN_lt (m d x : Nat) (hx : x < 4294967296) : rN m d x < 4294967296 :=
  Nat.or_lt_two_pow (n := 32) (Nat.mod_lt _ (by decide)) (Nat.lt_of_le_of_lt (Nat.div_le_self _ _) hx)
theorem xor_lt {a b : Nat} (ha : a < 4294967296) (hb : b < 4294967296) : a ^^^ b < 4294967296 := Nat.xor_lt_two_pow (n := 32) ha hb
structure Four where
  a : Nat
  b : Nat
  c : Nat
  d : Nat
/-- The quarter round. -/
def q4 (a b c d : Nat) : Four :=
  let a1 := (a + b) % 4294967296
  let d1 := rN 65536 65536 (d ^^^ a1)
  let c1 := (c + d1) % 4294967296
  let b1 := rN 4096 1048576 (b ^^^ c1)
  let a2 := (a1 + b1) % 4294967296
  let d2 := rN 256 16777216 (d1 ^^^ a2)
  let c2 := (c1 + d2) % 4294967296
  let b2 := rN 128 33554432 (b1 ^^^ c2)
  ⟨a2, b2, c2, d2⟩
theorem q4_lt {a b c d : Nat} (hb : b < 4294967296) (hd : d < 4294967296) :
    (q4 a b c d).a < 4294967296 ∧ (q4 a b c d).b < 4294967296 ∧ (q4 a b c d).c < 4294967296 ∧ (q4 a b c d).d < 4294967296 := by
  have m : ∀ x, x % 4294967296 < 4294967296 := fun x => Nat.mod_lt _ (by decide)
  exact ⟨m _, rN_lt _ _ _ (xor_lt (rN_lt _ _ _ (xor_lt hb (m _))) (m _)), m _, rN_lt _ _ _ (xor_lt (rN_lt _ _ _ (xor_lt hd (m _))) (m _))⟩
/-- A row of words. -/
structure Words (l : List Nat) : Prop where
  len : l.length = 16
  lt : ∀ i, l.getD i 0 < 4294967296
theorem Words.set {l : List Nat} (h : Words l) (i : Nat) {x : Nat} (hx : x < 4294967296) : Words (l.set i x) :=
  ⟨by simp [h.len], fun j => by rw [getD_set]; split; exact hx; exact h.lt j⟩
/-- The quarter round at four places. -/
def qAt (l : List Nat) (a b c d : Nat) : List Nat :=
  let q := q4 (l.getD a 0) (l.getD b 0) (l.getD c 0) (l.getD d 0)
  (((l.set a q.a).set b q.b).set c q.c).set d q.d
theorem Words.qAt {l : List Nat} (h : Words l) (a b c d : Nat) : Words (qAt l a b c d) := by
  obtain ⟨h1, h2, h3, h4⟩ := q4_lt (a := l.getD a 0) (c := l.getD c 0) (h.lt b) (h.lt d)
  exact (((h.set a h1).set b h2).set c h3).set d h4
def dbl (l : List Nat) : List Nat :=
  qAt (qAt (qAt (qAt (qAt (qAt (qAt (qAt l 0 4 8 12) 1 5 9 13) 2 6 10 14) 3 7 11 15) 0 5 10 15) 1 6 11 12) 2 7 8 13) 3 4 9 14
theorem Words.dbl {l : List Nat} (h : Words l) : Words (dbl l) :=
  (((((((h.qAt 0 4 8 12).qAt 1 5 9 13).qAt 2 6 10 14).qAt 3 7 11 15).qAt 0 5 10 15).qAt 1 6 11 12).qAt 2 7 8 13).qAt 3 4 9 14
def dblN (l : List Nat) : Nat → List Nat
  | 0 => l
  | n + 1 => dbl (dblN l n)
theorem Words.dblN {l : List Nat} (h : Words l) : ∀ n, Words (dblN l n)
  | 0 => h
  | n + 1 => (Words.dblN h n).dbl
/-- A word of four bytes. -/
def cwd (a b c d : Nat) : Nat := a + 256 * b + 65536 * c + 16777216 * d
theorem cwd_lt {a b c d : Nat} (ha : a < 256) (hb : b < 256) (hc : c < 256) (hd : d < 256) : cwd a b c d < 4294967296 := by unfold cwd; omega
def cwdAt (l : List Nat) (i : Nat) : Nat := cwd (l.getD (4 * i) 0) (l.getD (4 * i + 1) 0) (l.getD (4 * i + 2) 0) (l.getD (4 * i + 3) 0)
/-- The words ahead of the rounds. -/
def laid (ks : List Nat) (c : Nat) (ns : List Nat) : List Nat :=
  [1634760805, 857760878, 2036477234, 1797285236, cwdAt ks 0, cwdAt ks 1, cwdAt ks 2, cwdAt ks 3, cwdAt ks 4, cwdAt ks 5, cwdAt ks 6, cwdAt ks 7, c, cwdAt ns 0, cwdAt ns 1, cwdAt ns 2]
theorem Bytes.cwd {n : Nat} {l : List Nat} (h : Bytes n l) (i : Nat) : cwdAt l i < 4294967296 := cwd_lt (h.lt _) (h.lt _) (h.lt _) (h.lt _)
theorem laid_words {ks ns : List Nat} {c : Nat} (hk : Bytes 32 ks) (hc : c < 4294967296) (hn : Bytes 12 ns) : Words (laid ks c ns) := by
  refine ⟨rfl, fun i => ?_⟩
  match i with
  | 0 => show 1634760805 < _; decide
  | 1 => show 857760878 < _; decide
  | 2 => show 2036477234 < _; decide
  | 3 => show 1797285236 < _; decide
  | 4 => exact hk.cwd 0
  | 5 => exact hk.cwd 1
  | 6 => exact hk.cwd 2
  | 7 => exact hk.cwd 3
  | 8 => exact hk.cwd 4
  | 9 => exact hk.cwd 5
  | 10 => exact hk.cwd 6
  | 11 => exact hk.cwd 7
  | 12 => exact hc
  | 13 => exact hn.cwd 0
  | 14 => exact hn.cwd 1
  | 15 => exact hn.cwd 2
  | _ + 16 => show 0 < _; decide
/-- Words of bytes, one behind the other, laid from place p on. -/
def setTo (p : Nat) (s : List Nat) (l : List Nat) : Nat → List Nat
  | 0 => l
  | n + 1 => (setTo p s l n).set (p + n) (cwdAt s n)
theorem setTo_len (p : Nat) (s l : List Nat) : ∀ n, (setTo p s l n).length = l.length
  | 0 => rfl
  | n + 1 => by simp [setTo, setTo_len p s l n]
def lay0 (c : Nat) : List Nat := [1634760805, 857760878, 2036477234, 1797285236, 0, 0, 0, 0, 0, 0, 0, 0, c, 0, 0, 0]
/-- The bytes of a block. -/
def sumW (s t : List Nat) (i : Nat) : Nat := (s.getD i 0 + t.getD i 0) % 4294967296
def byteW (s t : List Nat) (j : Nat) : Nat := sumW s t (j / 4) / 256 ^ (j % 4) % 256
def blockW (l : List Nat) : List Nat := (List.range 64).map (byteW (dblN l 10) l)
def blockN (ks : List Nat) (c : Nat) (ns : List Nat) : List Nat := blockW (laid ks c ns)
theorem blockW_len (l : List Nat) : (blockW l).length = 64 := by simp [blockW]
theorem blockW_get (l : List Nat) (j : Nat) (hj : j < 64) : (blockW l).getD j 0 = byteW (dblN l 10) l j := by
  simp [blockW, hj]
theorem blockW_lt (l : List Nat) (j : Nat) : (blockW l).getD j 0 < 256 := by
  rcases Nat.lt_or_ge j 64 with hj | hj
  · rw [blockW_get l j hj]; exact Nat.mod_lt _ (by decide)
  · rw [List.getD_eq_getElem?_getD, List.getElem?_eq_none (by rw [blockW_len]; exact hj)]; decide
/-- A block's bytes, word by word. -/
def bset (s l : List Nat) : Nat → List Nat
  | 0 => List.replicate 64 0
  | n + 1 => ((((bset s l n).set (4 * n) (sumW s l n % 256)).set (4 * n + 1) (sumW s l n / 256 % 256)).set (4 * n + 2) (sumW s l n / 65536 % 256)).set (4 * n + 3) (sumW s l n / 16777216 % 256)
theorem bset_len (s l : List Nat) : ∀ n, (bset s l n).length = 64
  | 0 => List.length_replicate
  | n + 1 => by simp [bset, bset_len s l n]
theorem bset_get (s l : List Nat) : ∀ n, n ≤ 16 → ∀ j, j < 64 → (bset s l n).getD j 0 = if j < 4 * n then byteW s l j else 0
  | 0, _, j, h => by rw [if_neg (by omega)]; simp only [bset, List.getD_eq_getElem?_getD, List.getElem?_replicate, if_pos h, Option.getD_some]
  | n + 1, hn, j, h => by
    have ih := bset_get s l n (by omega) j h
    simp only [bset, getD_set, List.length_set, bset_len]
    unfold byteW
    by_cases e3 : 4 * n + 3 = j
    · rw [if_pos ⟨e3, by omega⟩, if_pos (by omega), show j / 4 = n by omega, show j % 4 = 3 by omega]
    rw [if_neg (fun x => e3 x.1)]
    by_cases e2 : 4 * n + 2 = j
    · rw [if_pos ⟨e2, by omega⟩, if_pos (by omega), show j / 4 = n by omega, show j % 4 = 2 by omega]
    rw [if_neg (fun x => e2 x.1)]
    by_cases e1 : 4 * n + 1 = j
    · rw [if_pos ⟨e1, by omega⟩, if_pos (by omega), show j / 4 = n by omega, show j % 4 = 1 by omega]
    rw [if_neg (fun x => e1 x.1)]
    by_cases e0 : 4 * n = j
    · rw [if_pos ⟨e0, by omega⟩, if_pos (by omega), show j / 4 = n by omega, show j % 4 = 0 by omega, Nat.pow_zero, Nat.div_one]
    rw [if_neg (fun x => e0 x.1), ih]
    by_cases hj : j < 4 * n
    · rw [if_pos hj, if_pos (by omega)]; rfl
    · rw [if_neg hj, if_neg (by omega)]
theorem bset_all (l : List Nat) : bset (dblN l 10) l 16 = blockW l := by
  refine ext_getD (by rw [bset_len, blockW_len]) fun i h => ?_
  rw [bset_len] at h
  rw [bset_get _ _ _ (Nat.le_refl _) i h, if_pos (by omega), blockW_get l i h]
/-- Bytes, turned by others, from place o on. -/
def xorTo (X : List Nat) (o : Nat) (B : List Nat) : Nat → List Nat
  | 0 => X
  | n + 1 => (xorTo X o B n).set (o + n) (X.getD (o + n) 0 ^^^ B.getD n 0)
theorem xorTo_len (X : List Nat) (o : Nat) (B : List Nat) : ∀ n, (xorTo X o B n).length = X.length
  | 0 => rfl
  | n + 1 => by simp [xorTo, xorTo_len X o B n]
theorem xorTo_get (X : List Nat) (o : Nat) (B : List Nat) (j : Nat) : ∀ n, o + n ≤ X.length → (xorTo X o B n).getD j 0 = if o ≤ j ∧ j < o + n then X.getD j 0 ^^^ B.getD (j - o) 0 else X.getD j 0
  | 0, _ => by rw [if_neg (by omega)]; rfl
  | n + 1, h => by
    simp only [xorTo, getD_set, xorTo_len, xorTo_get X o B j n (by omega)]
    by_cases e : o + n = j
    · rw [if_pos ⟨e, by omega⟩, if_pos (by omega), e, show j - o = n by omega]
    · rw [if_neg (fun x => e x.1)]
      by_cases h2 : o ≤ j ∧ j < o + n
      · rw [if_pos h2, if_pos (by omega)]
      · rw [if_neg h2, if_neg (by omega)]
/-- The mask. -/
def maskN (ks : List Nat) (c : Nat) (ns : List Nat) (t : List Nat) : List Nat :=
  (List.range t.length).map fun i => t.getD i 0 ^^^ (blockN ks ((c + i / 64) % 4294967296) ns).getD (i % 64) 0
theorem maskN_len (ks : List Nat) (c : Nat) (ns t : List Nat) : (maskN ks c ns t).length = t.length := by simp [maskN]
theorem maskN_get (ks : List Nat) (c : Nat) (ns t : List Nat) (i : Nat) (h : i < t.length) : (maskN ks c ns t).getD i 0 = t.getD i 0 ^^^ (blockN ks ((c + i / 64) % 4294967296) ns).getD (i % 64) 0 := by
  simp [maskN, h]
theorem maskN_twice (ks : List Nat) (c : Nat) (ns t : List Nat) : maskN ks c ns (maskN ks c ns t) = t := by
  refine ext_getD (by simp [maskN_len]) fun i h => ?_
  rw [maskN_len, maskN_len] at h
  rw [maskN_get _ _ _ _ _ (by rw [maskN_len]; exact h), maskN_get _ _ _ _ _ h, Nat.xor_assoc, Nat.xor_self, Nat.xor_zero]
/-- The mask, block by block. -/
def mTo (ks : List Nat) (c : Nat) (ns : List Nat) (X : List Nat) (N : Nat) : Nat → List Nat
  | 0 => X
  | k + 1 => xorTo (mTo ks c ns X N k) (min (64 * k) N) (blockN ks ((c + k) % 4294967296) ns) (min 64 (N - min (64 * k) N))
theorem mTo_len (ks : List Nat) (c : Nat) (ns X : List Nat) (N : Nat) : ∀ k, (mTo ks c ns X N k).length = X.length
  | 0 => rfl
  | k + 1 => by rw [mTo, xorTo_len, mTo_len ks c ns X N k]
theorem mTo_get (ks : List Nat) (c : Nat) (ns X : List Nat) (N : Nat) (hN : N ≤ X.length) (j : Nat) : ∀ k, (mTo ks c ns X N k).getD j 0 = if j < min (64 * k) N then X.getD j 0 ^^^ (blockN ks ((c + j / 64) % 4294967296) ns).getD (j % 64) 0 else X.getD j 0
  | 0 => by rw [if_neg (by omega)]; rfl
  | k + 1 => by
    have ih := mTo_get ks c ns X N hN j k
    rw [mTo, xorTo_get _ _ _ _ _ (by rw [mTo_len]; omega), ih]
    clear ih
    rcases Nat.le_total (64 * k) N with hk | hk
    · rw [Nat.min_eq_left hk]
      obtain ⟨r, hr⟩ : ∃ r, N - 64 * k = r := ⟨_, rfl⟩
      rw [hr]
      by_cases h : 64 * k ≤ j ∧ j < 64 * k + min 64 r
      · rw [if_pos h, if_neg (show ¬ j < 64 * k by omega), if_pos (show j < min (64 * (k + 1)) N by omega), show j / 64 = k by omega, show j - 64 * k = j % 64 by omega]
      · rw [if_neg h]
        by_cases h2 : j < 64 * k
        · rw [if_pos h2, if_pos (by omega)]
        · rw [if_neg h2, if_neg (by omega)]
    · rw [Nat.min_eq_right hk, Nat.sub_self, Nat.min_zero, if_neg (by omega), Nat.min_eq_right (by omega)]
theorem mTo_lt (ks : List Nat) (c : Nat) (ns X : List Nat) (N : Nat) (hN : N ≤ X.length) (hX : ∀ i, X.getD i 0 < 256) (k j : Nat) : (mTo ks c ns X N k).getD j 0 < 256 := by
  rw [mTo_get ks c ns X N hN j k]
  split
  · exact xor_lt8 (hX j) (blockW_lt _ _)
  · exact hX j
theorem mTo_all (ks : List Nat) (c : Nat) (ns X Z : List Nat) (k : Nat) (hk : X.length ≤ 64 * k) : (mTo ks c ns (X ++ Z) X.length k).take X.length = maskN ks c ns X := by
  refine ext_getD (by simp [mTo_len, maskN_len]) fun i h => ?_
  simp only [List.length_take, mTo_len, List.length_append] at h
  have e : ((mTo ks c ns (X ++ Z) X.length k).take X.length).getD i 0 = (mTo ks c ns (X ++ Z) X.length k).getD i 0 := by
    simp [show i < X.length by omega]
  rw [e, mTo_get _ _ _ _ _ (by simp) i k, if_pos (by omega), maskN_get _ _ _ _ _ (by omega), getD_app_l _ _ _ (by omega)]
theorem maskN_lt (ks : List Nat) (c : Nat) (ns t : List Nat) (ht : ∀ i, t.getD i 0 < 256) (i : Nat) : (maskN ks c ns t).getD i 0 < 256 := by
  rcases Nat.lt_or_ge i t.length with h | h
  · rw [maskN_get _ _ _ _ _ h]; exact xor_lt8 (ht i) (blockW_lt _ _)
  · rw [List.getD_eq_getElem?_getD, List.getElem?_eq_none (by rw [maskN_len]; exact h)]; decide
/-- A word's four bytes. -/
def quad (l : List Nat) (i : Nat) : List Nat := [l.getD (4 * i) 0, l.getD (4 * i + 1) 0, l.getD (4 * i + 2) 0, l.getD (4 * i + 3) 0]
theorem quad_lt {l : List Nat} (h : ∀ i, l.getD i 0 < 256) (i : Nat) : ∀ j, (quad l i).getD j 0 < 256
  | 0 => h _
  | 1 => h _
  | 2 => h _
  | 3 => h _
  | _ + 4 => (by decide : (0 : Nat) < 256)
theorem quad_part {l : List Nat} {i : Nat} (h : 4 * i + 4 ≤ l.length) : PartAt (cn .u8 l) (4 * i) (cn .u8 (quad l i)) := fun j v hj => by
  match j with
  | 0 => rw [cn_get _ _ _ (show 0 < (quad l i).length from (by decide : 0 < 4))] at hj; cases hj; exact cn_get .u8 l (4 * i + 0) (by omega)
  | 1 => rw [cn_get _ _ _ (show 1 < (quad l i).length from (by decide : 1 < 4))] at hj; cases hj; exact cn_get .u8 l (4 * i + 1) (by omega)
  | 2 => rw [cn_get _ _ _ (show 2 < (quad l i).length from (by decide : 2 < 4))] at hj; cases hj; exact cn_get .u8 l (4 * i + 2) (by omega)
  | 3 => rw [cn_get _ _ _ (show 3 < (quad l i).length from (by decide : 3 < 4))] at hj; cases hj; exact cn_get .u8 l (4 * i + 3) (by omega)
  | j + 4 => rw [Array.getElem?_eq_none (by rw [cn_size]; simp [quad])] at hj; cases hj
def cwdL (X : List Nat) : Nat := cwd (X.getD 0 0) (X.getD 1 0) (X.getD 2 0) (X.getD 3 0)
theorem cwdL_or {X : List Nat} (h : ∀ i, X.getD i 0 < 256) : X.getD 0 0 + X.getD 1 0 * 256 + X.getD 2 0 * 65536 ||| X.getD 3 0 * 16777216 = cwdL X := by
  have h1 := h 0
  have h2 := h 1
  have h3 := h 2
  rw [cwdL, cwd]
  have := or_shl (a := X.getD 0 0 + X.getD 1 0 * 256 + X.getD 2 0 * 65536) (b := X.getD 3 0) 24 (by omega)
  rw [show (2 : Nat) ^ 24 = 16777216 from rfl] at this
  omega
theorem setTo_len16 (p c : Nat) (s : List Nat) (n : Nat) : (setTo p s (lay0 c) n).length = 16 := (setTo_len p s _ n).trans rfl
end Go.Proofs.YtdjpacgjhcidpabGreatDoor
namespace Go.Proofs.YtdjpacgjhcidpabGreatDoor
open Go.RowKit
/-- The noughts that are missing to a multiple of 16. -/
def missN (X : List Nat) : List Nat := List.replicate ((16 - X.length % 16) % 16) 0
theorem missN_lt (X : List Nat) (i : Nat) : (missN X).getD i 0 < 256 := rep0_lt (by decide) i
def tagT (E C : List Nat) : List Nat := E ++ missN E ++ (C ++ missN C) ++ leB 8 E.length ++ leB 8 C.length
theorem tagT_flat (E C : List Nat) : [E, missN E, C, missN C, leB 8 E.length, leB 8 C.length].flatten = tagT E C := by simp [tagT]
/-- The key that a tag is made with. -/
def onceN (K N : List Nat) : List Nat := (blockN K 0 N).take 32
theorem onceN_bytes (K N : List Nat) : Bytes 32 (onceN K N) := ⟨by simp [onceN, blockN, blockW_len], fun i => take_lt (blockW_lt _) i⟩
def tagA (K N E C : List Nat) : List Nat := polyN (onceN K N) (tagT E C)
theorem tagA_len (K N E C : List Nat) : (tagA K N E C).length = 16 := tagTo_len _ _
theorem tagA_lt (K N E C : List Nat) (i : Nat) : (tagA K N E C).getD i 0 < 256 := by rw [tagA, poly_leB]; exact leB_lt 16 _ i
/-- Sealed. -/
def sealN (K N E X : List Nat) : List Nat := maskN K 1 N X ++ tagA K N E (maskN K 1 N X)
theorem sealN_len (K N E X : List Nat) : (sealN K N E X).length = X.length + 16 := by simp [sealN, maskN_len, tagA_len]
theorem sealN_lt (K N E : List Nat) {X : List Nat} (hX : ∀ i, X.getD i 0 < 256) (i : Nat) : (sealN K N E X).getD i 0 < 256 := app_lt (maskN_lt K 1 N X hX) (tagA_lt K N E _) i
/-- What opens, and to what. -/
def opensN (K N E Z : List Nat) : Prop := 16 ≤ Z.length ∧ Z.drop (Z.length - 16) = tagA K N E (Z.take (Z.length - 16))
def plainN (K N Z : List Nat) : List Nat := maskN K 1 N (Z.take (Z.length - 16))
theorem seal_opens (K N E X : List Nat) : opensN K N E (sealN K N E X) ∧ plainN K N (sealN K N E X) = X := by
  have h1 : (sealN K N E X).length - 16 = (maskN K 1 N X).length := by rw [sealN_len, maskN_len]; omega
  refine ⟨⟨by rw [sealN_len]; omega, ?_⟩, ?_⟩
  · rw [h1, sealN, List.drop_left, List.take_left]
  · rw [plainN, h1, sealN, List.take_left, maskN_twice]
theorem noughts_cut {k : Nat} (h : k ≤ 15) : (([0, 0, 0, 0, 0, 0, 0, 0, 0, 0, 0, 0, 0, 0, 0] : List Nat).take k).drop 0 = List.replicate k 0 := by
  rw [List.drop_zero, show ([0, 0, 0, 0, 0, 0, 0, 0, 0, 0, 0, 0, 0, 0, 0] : List Nat) = List.replicate 15 0 from rfl, List.take_replicate, Nat.min_eq_left h]
theorem gen_leB8 (n v : Nat) : genL n (fun i => v / 256 ^ i % 256) n = leB n v := by
  refine ext_getD (by rw [genL_len, leB_len]) fun i hi => ?_
  rw [genL_len] at hi
  rw [genL_get _ _ _ hi, if_pos hi, leB_get hi]
end Go.Proofs.YtdjpacgjhcidpabGreatDoor
namespace Go.Proofs.YtdjpacgjhcidpabGreatDoor
open Go.RowKit
theorem rep_get (n k : Nat) : (List.replicate n 0).getD k 0 = 0 := by rw [List.getD_eq_getElem?_getD, List.getElem?_replicate]; split <;> rfl
theorem one_has {w : World} {g : Nat} {ob : Obj} (h : w.heap[g]? = some ob) : Has w [(g, ob)] := fun i x hx => by
  cases i with
  | zero => simp at hx; subst hx; exact h
  | succ i => simp at hx
theorem MemS.fresh {w0 w : World} {L : Blks} {R : List Row} (M : MemS (fun k => k < w0.heap.size) w0 w L R) (i : Nat) {b : Nat} {ob : Obj} (h : L[i]? = some (b, ob)) : w0.heap.size ≤ b := Nat.le_of_not_lt (M.base i _ h)
/-- The next n bytes of a tape: its own, then noughts. -/
def takN (n : Nat) (X : List Nat) : List Nat := X.take n ++ List.replicate (n - X.length) 0
theorem takN_len (n : Nat) (X : List Nat) : (takN n X).length = n := by simp [takN]; omega
theorem takN_get {n i : Nat} (X : List Nat) (h : i < n) : (takN n X).getD i 0 = X.getD i 0 := by
  rw [takN]
  rcases Nat.lt_or_ge i X.length with h1 | h1
  · rw [getD_app_l _ _ _ (by simp; omega), List.getD_eq_getElem?_getD, List.getElem?_take, if_pos h, List.getD_eq_getElem?_getD]
  · rw [getD_app_r _ _ _ (by simp; omega), rep_get, getD_out h1]
theorem takN_lt {X : List Nat} (hX : ∀ i, X.getD i 0 < 256) (n : Nat) : ∀ i, (takN n X).getD i 0 < 256 := fun i => by
  rcases Nat.lt_or_ge i n with h | h
  · rw [takN_get X h]; exact hX i
  · rw [getD_out (by rw [takN_len]; exact h)]; decide
theorem dropX_min (X : List Nat) (n : Nat) : X.drop (min X.length n) = X.drop n := by
  rcases Nat.le_total X.length n with h | h
  · rw [Nat.min_eq_left h, List.drop_length, List.drop_of_length_le h]
  · rw [Nat.min_eq_right h]
theorem tak_cells (n : Nat) (X : List Nat) : setFrom (cn .u8 (List.replicate n 0)) 0 (bcells (X.take n)) = cn .u8 (takN n X) := by
  apply Array.ext_getElem?
  intro j
  rw [setFrom_get]
  have hb : (bcells (X.take n)).length = min n X.length := by simp [bcells]
  rcases Nat.lt_or_ge j n with h | h
  · rw [show (cn .u8 (takN n X))[j]? = some (iB (X.getD j 0)) by rw [cn_get _ _ _ (by rw [takN_len]; exact h), takN_get X h]]
    by_cases h1 : j < X.length
    · rw [if_pos ⟨Nat.zero_le _, by rw [hb]; omega, by rw [cn_size, List.length_replicate]; exact h⟩]
      simp [bcells, h, List.getD_eq_getElem?_getD, List.getElem?_eq_getElem h1]
    · rw [if_neg (fun q => by have := q.2.1; rw [hb] at this; omega), cn_get _ _ _ (by rw [List.length_replicate]; exact h), rep_get, getD_out (by omega)]
  · rw [if_neg (fun q => by have := q.2.2; rw [cn_size, List.length_replicate] at this; omega), Array.getElem?_eq_none (by rw [cn_size, List.length_replicate]; exact h), Array.getElem?_eq_none (by rw [cn_size, takN_len]; exact h)]
end Go.Proofs.YtdjpacgjhcidpabGreatDoor
namespace Go.Proofs.YtdjpacgjhcidpabGreatDoor
open Go.RowKit
section
variable {K V : Type}
/-- A map's entries: the one at place i was born i-th. -/
def ents (kf : K → Value) (vf : V → Value) : Nat → List (K × V) → List MapEntry
  | _, [] => []
  | i, p :: r => ⟨kf p.1, vf p.2, i⟩ :: ents kf vf (i + 1) r
def mapO (kf : K → Value) (vf : V → Value) (l : List (K × V)) : Obj := .map (ents kf vf 0 l).toArray l.length
def mget [DecidableEq K] (x : K) : List (K × V) → Option V
  | [] => none
  | p :: r => if p.1 = x then some p.2 else mget x r
def mput [DecidableEq K] (x : K) (v : V) : List (K × V) → List (K × V)
  | [] => [(x, v)]
  | p :: r => if p.1 = x then (x, v) :: r else p :: mput x v r
def Uniq (l : List (K × V)) : Prop := l.Pairwise fun p q => p.1 ≠ q.1
variable {kf : K → Value} {vf : V → Value}
theorem ents_get : ∀ (l : List (K × V)) (i j : Nat), (ents kf vf i l)[j]? = (l[j]?).map fun p => ⟨kf p.1, vf p.2, i + j⟩
  | [], _, _ => by simp [ents]
  | p :: r, i, 0 => by simp [ents]
  | p :: r, i, j + 1 => by
    simp only [ents, List.getElem?_cons_succ]
    rw [ents_get r (i + 1) j, Nat.add_right_comm, Nat.add_assoc]
theorem ents_app : ∀ (l : List (K × V)) (i : Nat) (p : K × V), ents kf vf i (l ++ [p]) = ents kf vf i l ++ [⟨kf p.1, vf p.2, i + l.length⟩]
  | [], i, p => by simp [ents]
  | q :: r, i, p => by
    simp only [List.cons_append, ents]
    rw [ents_app r (i + 1) p, List.length_cons, Nat.add_right_comm, Nat.add_assoc]
theorem ents_set (x : K) (v : V) : ∀ (l : List (K × V)) (i j : Nat), j < l.length → ents kf vf i (l.set j (x, v)) = (ents kf vf i l).set j ⟨kf x, vf v, i + j⟩
  | [], _, _, h => by simp at h
  | q :: r, i, 0, _ => by simp [ents]
  | q :: r, i, j + 1, h => by
    simp only [List.set_cons_succ, ents]
    rw [ents_set x v r (i + 1) j (by simpa using h), Nat.add_right_comm, Nat.add_assoc]
theorem makeMap_ok {P : Program} {t : TypeId} {sl : Slots} {L : Blks} {o : Oper} (ho : o.op = .makeMap t none) : RunN P sl L o (mkOf (.map none)) (mapO kf vf []) := fun ρ w A _ => by
  simp [execOp, ho, run_makeMap, mkOf, mapO, ents]
variable [DecidableEq K]
theorem mget_put (x : K) (v : V) : ∀ l : List (K × V), mget x (mput x v l) = some v
  | [] => by simp [mput, mget]
  | p :: r => by
    unfold mput
    split
    · simp [mget]
    · rename_i h
      rw [mget, if_neg h, mget_put x v r]
theorem mget_put_ne {x y : K} (h : x ≠ y) (v : V) : ∀ l : List (K × V), mget y (mput x v l) = mget y l
  | [] => by simp [mput, mget, h]
  | p :: r => by
    unfold mput
    split
    · rename_i e
      rw [mget, mget, if_neg (show ¬ x = y from h), if_neg (by rw [e]; exact h)]
    · rw [mget, mget, mget_put_ne h v r]
theorem mput_new {x : K} (v : V) : ∀ {l : List (K × V)}, mget x l = none → mput x v l = l ++ [(x, v)]
  | [], _ => rfl
  | p :: r, h => by
    rw [mget] at h
    split at h
    · cases h
    · rename_i e
      rw [mput, if_neg e, mput_new v h, List.cons_append]
theorem mget_mem {x : K} {v : V} : ∀ {l : List (K × V)}, mget x l = some v → (x, v) ∈ l
  | [], h => by cases h
  | p :: r, h => by
    rw [mget] at h
    split at h
    · rename_i e
      rw [← e, ← Option.some.inj h]
      exact List.mem_cons_self ..
    · exact List.mem_cons_of_mem _ (mget_mem h)
theorem mget_none {x : K} : ∀ {l : List (K × V)}, (∀ p ∈ l, p.1 ≠ x) → mget x l = none
  | [], _ => rfl
  | p :: r, h => by rw [mget, if_neg (h p (List.mem_cons_self ..)), mget_none fun q hq => h q (List.mem_cons_of_mem _ hq)]
/-- Where keys are unlike the one at place j is found, and turned there. -/
theorem mget_at {x : K} {v : V} : ∀ {l : List (K × V)} {j : Nat}, Uniq l → l[j]? = some (x, v) → mget x l = some v ∧ ∀ u, mput x u l = l.set j (x, u)
  | [], _, _, h => by simp at h
  | p :: r, 0, _, h => by
    simp only [List.getElem?_cons_zero, Option.some.injEq] at h
    subst h
    exact ⟨by rw [mget, if_pos rfl], fun u => by rw [mput, if_pos rfl, List.set_cons_zero]⟩
  | p :: r, j + 1, hu, h => by
    obtain ⟨h1, h2⟩ := List.pairwise_cons.1 hu
    simp only [List.getElem?_cons_succ] at h
    have hne : p.1 ≠ x := h1 (x, v) (List.mem_of_getElem? h)
    obtain ⟨a, b⟩ := mget_at h2 h
    exact ⟨by rw [mget, if_neg hne, a], fun u => by rw [mput, if_neg hne, b, List.set_cons_succ]⟩
theorem mem_mput {x : K} {v : V} {p : K × V} : ∀ {l : List (K × V)}, p ∈ mput x v l → p = (x, v) ∨ p ∈ l
  | [], h => by simpa [mput] using h
  | q :: r, h => by
    unfold mput at h
    split at h
    · rcases List.mem_cons.1 h with h | h
      · exact .inl h
      · exact .inr (List.mem_cons_of_mem _ h)
    · rcases List.mem_cons.1 h with h | h
      · exact .inr (h ▸ List.mem_cons_self ..)
      · exact (mem_mput h).imp_right (List.mem_cons_of_mem _)
theorem Uniq.put {l : List (K × V)} (h : Uniq l) (x : K) (v : V) : Uniq (mput x v l) := by
  induction l with
  | nil => simp [mput, Uniq]
  | cons p r ih =>
    obtain ⟨h1, h2⟩ := List.pairwise_cons.1 h
    unfold mput
    split
    · rename_i e
      exact List.pairwise_cons.2 ⟨fun q hq => by rw [← e]; exact h1 q hq, h2⟩
    · rename_i e
      refine List.pairwise_cons.2 ⟨fun q hq => ?_, ih h2⟩
      rcases mem_mput hq with rfl | hq
      · exact e
      · exact h1 q hq
/-- Keys that may be: what the program takes for one is one. -/
structure MKey (P : Program) (k : TypeId) (kf : K → Value) (Ok : K → Prop) : Prop where
  law : WideMaps.KeyLaw P k
  lit : ∀ x, Ok x → ∃ l, keyOf P k (kf x) = some l
  inj : ∀ x y, Ok x → Ok y → kf x = kf y → x = y
variable {P : Program} {k t e : TypeId} {Ok : K → Prop} {l : List (K × V)} {x : K}
theorem find_ents (H : MKey P k kf Ok) (hl : ∀ p ∈ l, Ok p.1) (hu : Uniq l) (hx : Ok x) (w : World) :
    (mget x l = none ∧ (Instr.findKey k (kf x) (ents kf vf 0 l)).run P w = .ok none w) ∨ ∃ v j, mget x l = some v ∧ l[j]? = some (x, v) ∧ (∀ u, mput x u l = l.set j (x, u)) ∧ (Instr.findKey k (kf x) (ents kf vf 0 l)).run P w = .ok (some (j, vf v)) w := by
  obtain ⟨lx, hlx⟩ := H.lit x hx
  rcases H.law.find w hlx (ents kf vf 0 l) (fun m hm => by
    obtain ⟨j, hj⟩ := List.mem_iff_getElem?.1 hm
    rw [ents_get] at hj
    obtain ⟨p, hp, rfl⟩ := Option.map_eq_some_iff.1 hj
    exact H.lit p.1 (hl p (List.mem_of_getElem? hp))) with ⟨h1, h2⟩ | ⟨j, m, h1, h2, h3⟩
  · refine .inl ⟨mget_none fun p hp hpx => ?_, h1⟩
    obtain ⟨j, hj⟩ := List.mem_iff_getElem?.1 hp
    exact h2 ⟨kf p.1, vf p.2, 0 + j⟩ (List.mem_of_getElem? ((ents_get l 0 j).trans (by rw [hj]; rfl))) (by rw [hpx])
  · rw [ents_get] at h2
    obtain ⟨p, hp, rfl⟩ := Option.map_eq_some_iff.1 h2
    obtain rfl := H.inj p.1 x (hl p (List.mem_of_getElem? hp)) hx h3
    have := mget_at hu hp
    exact .inr ⟨p.2, j, this.1, hp, this.2, h1⟩
variable {sl : Slots} {L : Blks} {o : Oper} {m y : Operand} {b i : Nat}
/-- 'v, ok := m[k]' of a key that is there. -/
theorem mapYes_ok {c : Bool} {v : V} (ho : o.op = .lookup t m y c) (hm : evO sl m = some (.map (some b))) (hy : evO sl y = some (kf x)) (ht : P.underlying t = some (.map k e)) (H : MKey P k kf Ok) (hl : ∀ p ∈ l, Ok p.1) (hu : Uniq l) (hx : Ok x)
    (hL : L[i]? = some (b, mapO kf vf l)) (h : mget x l = some v) : RunV P sl L o (if c then .tuple #[vf v, .bool true] else vf v) := fun ρ w A Hw => by
  obtain ⟨lx, hlx⟩ := H.lit x hx
  have h1 := A m _ hm
  have h2 := A y _ hy
  have hb : w.heap[b]? = some (.map (ents kf vf 0 l).toArray l.length) := Hw i _ hL
  rcases find_ents (vf := vf) H hl hu hx w with ⟨q, _⟩ | ⟨u, j, q, _, _, hf⟩
  · rw [h] at q; cases q
  · rw [h] at q
    obtain rfl := Option.some.inj q
    simp [execOp, ho, h1, h2, Instr.lookup, run_underlying ht, MapKept.run_getObj_map hb, H.law.check w _ hlx, hf, Result.andThen]
theorem zero_run {P : Program} {e : TypeId} {z : Value} (hi : (P.info? e).map (·.zero) = some (some z)) (w : World) : (zeroValue e).run P w = .ok z w := by
  obtain ⟨i, h1, h2⟩ := Option.map_eq_some_iff.1 hi
  simp [zeroValue, run_typeInfo w h1, h2]
/-- .. of one that is not. -/
theorem mapNo_ok {c : Bool} {z : Value} (ho : o.op = .lookup t m y c) (hm : evO sl m = some (.map (some b))) (hy : evO sl y = some (kf x)) (ht : P.underlying t = some (.map k e)) (H : MKey P k kf Ok) (hl : ∀ p ∈ l, Ok p.1) (hu : Uniq l) (hx : Ok x)
    (hL : L[i]? = some (b, mapO kf vf l)) (hi : (P.info? e).map (·.zero) = some (some z)) (h : mget x l = none) : RunV P sl L o (if c then .tuple #[z, .bool false] else z) := fun ρ w A Hw => by
  obtain ⟨lx, hlx⟩ := H.lit x hx
  have h1 := A m _ hm
  have h2 := A y _ hy
  have hb : w.heap[b]? = some (.map (ents kf vf 0 l).toArray l.length) := Hw i _ hL
  rcases find_ents (vf := vf) H hl hu hx w with ⟨_, hf⟩ | ⟨u, j, q, _, _, hf⟩
  · simp [execOp, ho, h1, h2, Instr.lookup, run_underlying ht, MapKept.run_getObj_map hb, H.law.check w _ hlx, hf, zero_run hi, Result.andThen]
  · rw [h] at q; cases q
theorem post_block {ob ob' : Obj} {w : World} {v : Nat → Value} (hL : L[i]? = some (b, ob)) (hb : w.heap[b]? = some ob) : Post w (ChangeMaps.setBlock w b ob') L ⟨v, none, [(i, ob')]⟩ 0 := by
  refine ⟨rfl, rfl, rfl, by simp [ChangeMaps.setBlock], fun j _ hn => ?_, fun o h => (nomatch h), fun _ => rfl, fun u hu z hz => ?_⟩
  · have : b ≠ j := hn (i, ob') (by simp) _ hL
    simp only [ChangeMaps.setBlock]
    exact Array.getElem?_setIfInBounds_ne this
  · obtain rfl : u = (i, ob') := by simpa using hu
    simp only at hz
    rw [hL] at hz
    obtain rfl := Option.some.inj hz
    simp only [ChangeMaps.setBlock]
    rw [Array.getElem?_setIfInBounds, if_pos rfl, if_pos (lt_of_block hb)]
/-- 'm[k] = v'. -/
theorem mapPut_ok {v : V} {z : Operand} (ho : o.op = .mapUpdate t m y z) (hm : evO sl m = some (.map (some b))) (hy : evO sl y = some (kf x)) (hz : evO sl z = some (vf v)) (ht : P.underlying t = some (.map k e)) (H : MKey P k kf Ok) (hl : ∀ p ∈ l, Ok p.1) (hu : Uniq l) (hx : Ok x)
    (hL : L[i]? = some (b, mapO kf vf l)) : RunU P sl L o undef [(i, mapO kf vf (mput x v l))] := fun ρ w A Hw => by
  obtain ⟨lx, hlx⟩ := H.lit x hx
  have h1 := A m _ hm
  have h2 := A y _ hy
  have h3 := A z _ hz
  have hb : w.heap[b]? = some (.map (ents kf vf 0 l).toArray l.length) := Hw i _ hL
  refine ⟨ChangeMaps.setBlock w b (mapO kf vf (mput x v l)), .inr ⟨rfl, ?_⟩, post_block hL hb⟩
  rcases find_ents (vf := vf) H hl hu hx w with ⟨q, hf⟩ | ⟨u, j, q, hj, hp, hf⟩
  · rw [mput_new v q]
    simp [execOp, ho, h1, h2, h3, Instr.mapUpdate, run_underlying ht, MapKept.run_getObj_map hb, H.law.check w _ hlx, hf, MapKept.run_setObj_map _ hb, Result.andThen, ChangeMaps.setBlock, mapO, ents_app]
  · have hjl : j < l.length := (List.getElem?_eq_some_iff.1 hj).1
    have hje : (ents kf vf 0 l)[j]? = some ⟨kf x, vf u, 0 + j⟩ := (ents_get l 0 j).trans (by rw [hj]; rfl)
    have hm' : (ents kf vf 0 l).modify j (fun e' => { e' with key := kf x, val := vf v }) = ents kf vf 0 (mput x v l) := by
      rw [ChangeMaps.modify_eq_set _ _ _ _ hje, hp, ents_set x v l 0 j hjl]
    simp [execOp, ho, h1, h2, h3, Instr.mapUpdate, run_underlying ht, MapKept.run_getObj_map hb, H.law.check w _ hlx, hf, hje, H.law.stays w hlx, MapKept.run_setObj_map _ hb, Result.andThen, ChangeMaps.setBlock, mapO, hm']
    rw [hp, List.length_set]
end
section
variable {P : Program} {d k e f n m : Nat}
theorem mapM_all {α β : Type} {g : α → Option β} : ∀ {l : List α}, (∀ x ∈ l, ∃ y, g x = some y) → ∃ ys, l.mapM g = some ys
  | [], _ => ⟨[], rfl⟩
  | x :: r, h => by
    obtain ⟨y, hy⟩ := h x (List.mem_cons_self ..)
    obtain ⟨ys, hys⟩ := mapM_all fun z hz => h z (List.mem_cons_of_mem _ hz)
    exact ⟨y :: ys, by simp [List.mapM_cons, hy, hys]⟩
def BytesK (n : Nat) (X : List Nat) : Prop := X.length = n ∧ ∀ i, X.getD i 0 < 256
theorem lits_u8 (he : P.underlying e = some (.int .u8)) {x : Nat} (hx : x < 256) : P.keyLits (d + 1) e [.int .u8 (x : Nat)] = some [.int .u8 (x : Nat)] := by
  unfold Program.keyLits
  rw [he]
  refine if_pos ⟨rfl, ?_⟩
  rw [Lit.wf, Bool.and_eq_true, decide_eq_true_eq, decide_eq_true_eq]
  exact ⟨by show (0 : Int) ≤ x; omega, by show (x : Int) ≤ 255; omega⟩
theorem lits_str (he : P.underlying e = some .string) {X : List Nat} (hX : X.length ≤ maxLen) : ∃ l, P.keyLits (d + 1) e [.string (bs X)] = some l := by
  unfold Program.keyLits
  rw [he]
  exact ⟨_, if_pos (by rw [bs_size]; exact hX)⟩
theorem lits_bytes {X : List Nat} (ht : P.underlying k = some (.array n e)) (he : P.underlying e = some (.int .u8)) (h1 : P.cellsOf e = 1) (hn : P.cellsOf k = n) (hX : BytesK n X) : ∃ l, P.keyLits (d + 2) k (cn .u8 X).toList = some l := by
  have hl : (cn .u8 X).toList.length = n := by rw [Array.length_toList, cn_size]; exact hX.1
  obtain ⟨ys, hys⟩ := mapM_all (g := fun i => P.keyLits (d + 1) e (((cn .u8 X).toList.drop (i * 1)).take 1)) (l := List.range n) fun i hi => by
    have hi' : i < X.length := by have := List.mem_range.1 hi; have := hX.1; omega
    have e1 : ((cn .u8 X).toList.drop (i * 1)).take 1 = [.int .u8 (X.getD i 0 : Nat)] := by
      rw [Nat.mul_one]
      refine List.ext_getElem? fun j => ?_
      rw [List.getElem?_take]
      split
      · obtain rfl : j = 0 := by omega
        rw [List.getElem?_drop, Nat.add_zero, Array.getElem?_toList, cn_get _ _ _ hi']
        rfl
      · rw [List.getElem?_eq_none (by simp only [List.length_cons, List.length_nil]; omega)]
    exact ⟨_, by rw [e1]; exact lits_u8 he (hX.2 i)⟩
  refine ⟨ys.flatten, ?_⟩
  unfold Program.keyLits
  rw [ht]
  dsimp only
  rw [if_pos (by rw [hl, hn]), h1, hys]
  rfl
theorem bytes_key (hl : laidOutB P = true) (hs : P.types.size + 2 ≤ 10000) (hd : P.types.size = d + 1) (hr : k < P.types.size) (hk : P.keyType k = true) (ht : P.underlying k = some (.array n e)) (he : P.underlying e = some (.int .u8)) (h1 : P.cellsOf e = 1) (hn : P.cellsOf k = n) :
    MKey P k (fun X => .agg (cn .u8 X)) (BytesK n) where
  law := deep_law_gate hl hs hr hk (by rw [ht])
  lit X hX := by
    obtain ⟨l, h⟩ := lits_bytes (d := d) ht he h1 hn hX
    exact ⟨_, by simp only [keyOf, ht, hk, Value.formed, Value.cells, cn_size, hX.1, hn, hd, h, BEq.rfl, Bool.and_self, if_true, Option.map_some]; rfl⟩
  inj X Y hX hY h := by
    refine List.ext_getElem (hX.1.trans hY.1.symm) fun i h1 h2 => ?_
    have e1 := cn_get .u8 X i h1
    rw [Value.agg.inj h, cn_get .u8 Y i h2] at e1
    have e2 := Int.ofNat.inj (Value.int.inj (Option.some.inj e1)).2
    rw [List.getD_eq_getElem?_getD, List.getD_eq_getElem?_getD, List.getElem?_eq_getElem h1, List.getElem?_eq_getElem h2] at e2
    exact e2.symm
end
end Go.Proofs.YtdjpacgjhcidpabGreatDoor
namespace Go.Proofs.YtdjpacgjhcidpabGreatDoor
open Go.RowKit
abbrev Pairs := List (List Nat × List Nat)
def OkP (n : Nat) (ks : Pairs) : Prop := (∀ p ∈ ks, BytesK n p.1 ∧ BytesK n p.2) ∧ Uniq ks
theorem okP_nil (n : Nat) : OkP n [] := ⟨fun _ h => (nomatch h), List.Pairwise.nil⟩
/-- What stands for a key. -/
def ownN (K : List Nat) (ks : Pairs) : List Nat := (mget K ks).getD K
theorem own_ok {n : Nat} {ks : Pairs} {K : List Nat} (hk : OkP n ks) (hK : BytesK n K) : BytesK n (ownN K ks) := by
  unfold ownN
  cases h : mget K ks with
  | none => exact hK
  | some v => exact (hk.1 _ (mget_mem h)).2
/-- What is shared behind a Share, what is left of the tape, how much was taken. -/
def shareK (i : Bool) (n : Nat) (K : List Nat) (ks : Pairs) (Y : List Nat) : Pairs := match mget K ks with | some _ => ks | none => ks ++ [(K, if i then takN n Y else K)]
def shareU (i : Bool) (n : Nat) (K : List Nat) (ks : Pairs) : Nat := match mget K ks with | some _ => 0 | none => if i then n else 0
theorem shareU_le (i : Bool) (n : Nat) (K : List Nat) (ks : Pairs) : shareU i n K ks ≤ n := by
  unfold shareU
  split
  · exact Nat.zero_le _
  · split
    · exact Nat.le_refl _
    · exact Nat.zero_le _
theorem share_yes {i : Bool} {n : Nat} {K own : List Nat} {ks : Pairs} (h : mget K ks = some own) (Y : List Nat) : shareK i n K ks Y = ks ∧ shareU i n K ks = 0 := by
  unfold shareK shareU
  rw [h]
  exact ⟨rfl, rfl⟩
theorem share_no {i : Bool} {n : Nat} {K : List Nat} {ks : Pairs} (h : mget K ks = none) (Y : List Nat) : shareK i n K ks Y = ks ++ [(K, if i then takN n Y else K)] ∧ shareU i n K ks = if i then n else 0 := by
  unfold shareK shareU
  rw [h]
  exact ⟨rfl, rfl⟩
theorem share_ok {n : Nat} {K : List Nat} {ks : Pairs} (i : Bool) {Y : List Nat} (hk : OkP n ks) (hK : BytesK n K) (hY : ∀ i, Y.getD i 0 < 256) : OkP n (shareK i n K ks Y) := by
  cases h : mget K ks with
  | some v => rw [(share_yes h Y).1]; exact hk
  | none =>
    rw [(share_no h Y).1, ← mput_new _ h]
    refine ⟨fun p hp => ?_, hk.2.put _ _⟩
    rcases mem_mput hp with rfl | hp
    · refine ⟨hK, ?_⟩
      show BytesK n (if i then takN n Y else K)
      split
      · exact ⟨takN_len _ _, takN_lt hY n⟩
      · exact hK
    · exact hk.1 p hp
abbrev BoxK := List Nat × List Nat × List Nat
abbrev Notes := List (BoxK × List Nat)
def OkB (x : BoxK) : Prop := BytesK 32 x.1 ∧ BytesK 12 x.2.1 ∧ (∀ i, x.2.2.getD i 0 < 256) ∧ x.2.2.length ≤ 1000000
/-- A box, what is noted of it. -/
def boxN (i : Bool) (K N : List Nat) (ks : Pairs) (X : List Nat) : List Nat := if i && (mget K ks).isSome then sealN (ownN K ks) N [] (List.replicate X.length 0) else sealN K N [] X
theorem boxN_len (i : Bool) (K N : List Nat) (ks : Pairs) (X : List Nat) : (boxN i K N ks X).length = X.length + 16 := by
  unfold boxN
  split
  · rw [sealN_len, List.length_replicate]
  · rw [sealN_len]
theorem boxN_lt (i : Bool) (K N : List Nat) (ks : Pairs) {X : List Nat} (hX : ∀ i, X.getD i 0 < 256) : ∀ j, (boxN i K N ks X).getD j 0 < 256 := by
  unfold boxN
  split
  · exact sealN_lt _ _ _ (rep0_lt (by decide))
  · exact sealN_lt _ _ _ hX
theorem box_no {i : Bool} {K N : List Nat} {ks : Pairs} (h : mget K ks = none) (X : List Nat) : boxN i K N ks X = sealN K N [] X := by
  unfold boxN
  rw [h, if_neg (by simp)]
theorem box_real {K N own : List Nat} {ks : Pairs} (_h : mget K ks = some own) (X : List Nat) : boxN false K N ks X = sealN K N [] X := if_neg (by simp)
theorem box_ideal {K N own : List Nat} {ks : Pairs} (h : mget K ks = some own) (X : List Nat) : boxN true K N ks X = sealN (ownN K ks) N [] (List.replicate X.length 0) := if_pos (by rw [h]; rfl)
def noteP (i : Bool) (K N : List Nat) (ks : Pairs) (X : List Nat) (pn : Notes) : Notes := if (mget K ks).isSome then mput (K, N, boxN i K N ks X) X pn else pn
instance (K N E Z : List Nat) : Decidable (opensN K N E Z) := by unfold opensN; infer_instance
theorem noteP_no {i : Bool} {K N : List Nat} {ks : Pairs} (h : mget K ks = none) (X : List Nat) (pn : Notes) : noteP i K N ks X pn = pn := if_neg (by rw [h]; simp)
theorem noteP_yes {i : Bool} {K N own : List Nat} {ks : Pairs} (h : mget K ks = some own) (X : List Nat) (pn : Notes) : noteP i K N ks X pn = mput (K, N, boxN i K N ks X) X pn := if_pos (by rw [h]; rfl)
/-- What a box opens to, by what is noted of it (look); whether it is a forgery. -/
def openN (i : Bool) (K N : List Nat) (ks : Pairs) (lk : Option (List Nat)) (Z : List Nat) : Option (List Nat) := if i && (mget K ks).isSome then lk else if opensN K N [] Z then some (plainN K N Z) else none
def openF (i : Bool) (K N : List Nat) (ks : Pairs) (lk : Option (List Nat)) (Z : List Nat) : Nat := if !i && (mget K ks).isSome && lk.isNone && decide (opensN K N [] Z) then 1 else 0
theorem opn_no {i : Bool} {K N Z : List Nat} {ks : Pairs} {lk : Option (List Nat)} (h : mget K ks = none) : openN i K N ks lk Z = (if opensN K N [] Z then some (plainN K N Z) else none) ∧ openF i K N ks lk Z = 0 := ⟨if_neg (by rw [h]; simp), if_neg (by rw [h]; simp)⟩
theorem opn_ideal {K N Z own : List Nat} {ks : Pairs} {lk : Option (List Nat)} (h : mget K ks = some own) : openN true K N ks lk Z = lk ∧ openF true K N ks lk Z = 0 := ⟨if_pos (by rw [h]; rfl), if_neg (by simp)⟩
theorem opn_real {K N Z own : List Nat} {ks : Pairs} {lk : Option (List Nat)} (h : mget K ks = some own) : openN false K N ks lk Z = (if opensN K N [] Z then some (plainN K N Z) else none) ∧ openF false K N ks lk Z = if lk.isNone && decide (opensN K N [] Z) then 1 else 0 := ⟨if_neg (by simp), by unfold openF; rw [h]; simp⟩
end Go.Proofs.YtdjpacgjhcidpabGreatDoor
namespace Go.Proofs.YtdjpacgjhcidpabGreatDoor
open Go.RowKit
theorem loadPi {P : Program} {l : Slots} {L : Blks} {o : Oper} {x : Operand} {t : TypeId} {g k m off : Nat} {cs ps : Array Value} {e : TypeId} {fr : Nat × Nat} {d : TypeDesc} (ho : o.op = .load t x) (hx : evO l x = some (.pointer (some ⟨g, off, none⟩))) (ht : P.underlying t = some d) (hd : d.isRow = true) (hi : (P.info? t).map (·.size) = some m) (hL : L[k]? = some (g, .cells cs e fr)) (hp : PartAt cs off ps) (hm : ps.size = m) : RunV P l L o (.agg ps) := fun ρ w A H => by
  have e1 : ρ x = .pointer (some ⟨g, off, none⟩) := A x _ hx
  have := run_loadAt_mid (P := P) w g off t ps.toList d (fun j v hv => by rw [cell_of (H k _ hL)]; exact hp j v (by simpa using hv)) ht hd (by rw [hi, ← hm]; simp)
  simp only [execOp, ho, e1, Sem.run_bind, this, Result.andThen_ok, Sem.run_pure]
theorem ret_cc {P : Program} {n : Nat} {a : Act} {l : Slots} {S : Nat → Prop} {w0 w : World} {L : Blks} {R : List Row} {fn : Func} {R' : Ending → World → Prop} {t u b b2 k k2 i i2 j m : Nat} {ty tu T T2 : TypeId} {cs cs2 : Array Value} {dd d2 : TypeDesc} (F : Fr n a l) (M : MemS S w0 w L R) (hf : fn.results = #[.cell t ty, .cell u tu]) (ht : l[j]? = some (t, pT b)) (hb : L[i]? = some (b, .cells cs T)) (hy : l[m]? = some (u, pT b2)) (hb2 : L[i2]? = some (b2, .cells cs2 T2))
    (hu : P.underlying ty = some dd) (hu2 : P.underlying tu = some d2) (hdd : dd.isRow = true) (hd2 : d2.isRow = true) (hi : (P.info? ty).map (·.size) = some k) (hi2 : (P.info? tu).map (·.size) = some k2) (hk : cs.size = k) (hk2 : cs2.size = k2) (hR : R' (.returned (.tuple #[.agg cs, .agg cs2])) w) : bodyPost P fn R' .ret a w := by
  refine bodyPost_ret (v := .tuple #[.agg cs, .agg cs2]) ?_ F.defers hR
  have hb' := M.get i hb
  have hc' := M.get i2 hb2
  have ha := F.get j ht
  have hy' := F.get m hy
  have hl := run_loadVar_mid (P := P) w b 0 ty cs.toList dd (fun j v hv => by rw [Nat.zero_add, cell_of hb']; simpa using hv) hu hdd (by rw [hi]; simp [hk])
  have hl2 := run_loadVar_mid (P := P) w b2 0 tu cs2.toList d2 (fun j v hv => by rw [Nat.zero_add, cell_of hc']; simpa using hv) hu2 hd2 (by rw [hi2]; simp [hk2])
  simp [results, hf, ha, hl, hl2, asAddr, hy']
theorem at3s (A B C : List Nat) : ∀ j, j < [A, B, C].length → (#[sB A, sB B, sB C] : Array Value)[0 + j]? = some (sB ([A, B, C].getD j [])) := fun j h => by
  have : j = 0 ∨ j = 1 ∨ j = 2 := by simp at h; omega
  rcases this with rfl | rfl | rfl <;> rfl
theorem lt3t {A B C : List Nat} (h1 : ∀ i, A.getD i 0 < 256) (h2 : ∀ i, B.getD i 0 < 256) (h3 : ∀ i, C.getD i 0 < 256) : ∀ V ∈ [A, B, C], ∀ i, V.getD i 0 < 256 := fun V hV => by
  simp only [List.mem_cons, List.not_mem_nil, or_false] at hV
  rcases hV with rfl | rfl | rfl <;> assumption
/-- The lesser of two texts. -/
def leT (X Y : List Nat) : Prop := (bs X).data.toList < (bs Y).data.toList ∨ (bs X).data.toList = (bs Y).data.toList
noncomputable def lesN (X Y : List Nat) : List Nat := @ite _ (leT X Y) (Classical.propDecidable _) X Y
theorem lesN_yes {X Y : List Nat} (h : leT X Y) : lesN X Y = X := if_pos h
theorem lesN_no {X Y : List Nat} (h : ¬ leT X Y) : lesN X Y = Y := if_neg h
theorem les_ok {n : Nat} {X Y : List Nat} (hX : BytesK n X) (hY : BytesK n Y) : BytesK n (lesN X Y) := by
  by_cases h : leT X Y
  · rw [lesN_yes h]; exact hX
  · rw [lesN_no h]; exact hY
theorem minS_bs (X Y : List Nat) : Go.Lib.minS (bs X) (bs Y) = bs (lesN X Y) := by
  by_cases h : leT X Y
  · rw [lesN_yes h]; exact if_pos h
  · rw [lesN_no h]; exact if_neg h
theorem minS_ok {P : Program} {l : Slots} {L : Blks} {o : Oper} {x y : Operand} {t u : TypeId} {X Y : List Nat} (ho : o.op = .call ⟨.builtin .min, #[x, y], #[t, u]⟩) (hx : evO l x = some (sB X)) (hy : evO l y = some (sB Y)) : RunV P l L o (sB (lesN X Y)) := fun ρ w A _ => by
  have h1 := A x _ hx
  have h2 := A y _ hy
  have h3 := Go.Lib.run_min_strs (P := P) w #[t, u] o.type (bs X) (bs Y)
  rw [minS_bs] at h3
  simp [execOp, ho, resolve, invoke, builtin, h1, h2, h3]
/-- Two keys, the lesser one first. -/
noncomputable def rowN (X Y : List Nat) : List Nat × List Nat := if lesN X Y = Y then (Y, X) else (X, Y)
theorem rowN_yes {X Y : List Nat} (h : lesN X Y = Y) : rowN X Y = (Y, X) := if_pos h
theorem rowN_no {X Y : List Nat} (h : ¬ lesN X Y = Y) : rowN X Y = (X, Y) := if_neg h
theorem rowN_ok {n : Nat} {X Y : List Nat} (hX : BytesK n X) (hY : BytesK n Y) : BytesK n (rowN X Y).1 ∧ BytesK n (rowN X Y).2 := by
  unfold rowN
  split
  · exact ⟨hY, hX⟩
  · exact ⟨hX, hY⟩
theorem bs_list_inj {n : Nat} {X Y : List Nat} (hX : BytesK n X) (hY : BytesK n Y) (h : (bs X).data.toList = (bs Y).data.toList) : X = Y :=
  bs_inj hX.2 hY.2 (by
    have h1 : (bs X).data = (bs Y).data := Array.toList_inj.1 h
    cases hx : bs X; cases hy : bs Y
    rw [hx, hy] at h1
    exact congrArg _ h1)
/-- The row is one, whichever is named first. -/
theorem rowN_comm {n : Nat} {X Y : List Nat} (hX : BytesK n X) (hY : BytesK n Y) : rowN X Y = rowN Y X := by
  by_cases e : X = Y
  · rw [e]
  have ne : (bs X).data.toList ≠ (bs Y).data.toList := fun h => e (bs_list_inj hX hY h)
  by_cases h : (bs X).data.toList < (bs Y).data.toList
  · have h2 : ¬ (bs Y).data.toList < (bs X).data.toList := List.lt_asymm h
    have e1 : lesN X Y = X := lesN_yes (.inl h)
    have e2 : lesN Y X = X := lesN_no (fun q => q.elim h2 (fun q => ne q.symm))
    rw [rowN_no (by rw [e1]; exact e), rowN_yes e2]
  · have h2 : (bs Y).data.toList < (bs X).data.toList := by
      rcases List.le_iff_lt_or_eq.1 (List.not_lt.1 h) with q | q
      · exact q
      · exact absurd q.symm ne
    have e1 : lesN X Y = Y := lesN_no (fun q => q.elim h ne)
    have e2 : lesN Y X = Y := lesN_yes (.inl h2)
    rw [rowN_yes e1, rowN_no (by rw [e2]; exact fun q => e q.symm)]
/-- A key of a label and three keys. -/
def kyN (L X Y Z : List Nat) : List Nat := shaN (packN [L] ++ packN [X, Y, Z])
theorem kyN_ok (L X Y Z : List Nat) : BytesK 32 (kyN L X Y Z) := ⟨(shaN_bytes _).len, (shaN_bytes _).lt⟩
def tLab : List Nat := [98, 105, 108, 108, 101, 116, 32, 116, 97, 108, 107]
def dLab : List Nat := [98, 105, 108, 108, 101, 116, 32, 100, 114, 111, 112]
def nLab : List Nat := [98, 105, 108, 108, 101, 116, 32, 110, 97, 109, 101]
/-- What two have in common. -/
def ssN (A B : List Nat) : List Nat := keyL (curveN A B)
theorem ssN_ok (A B : List Nat) : BytesK 32 (ssN A B) := ⟨(keyL_bytes _).1, (keyL_bytes _).2⟩
def pbN (A : List Nat) : List Nat := keyL (pubN A)
theorem pbN_ok (A : List Nat) : BytesK 32 (pbN A) := ⟨(keyL_bytes _).1, (keyL_bytes _).2⟩
def outN (A B : List Nat) : List Nat := kyN tLab (ssN A B) (pbN A) B
def inN (A B : List Nat) : List Nat := kyN tLab (ssN A B) B (pbN A)
noncomputable def rootN (A B : List Nat) : List Nat := kyN dLab (ssN A B) (rowN (pbN A) B).1 (rowN (pbN A) B).2
theorem outN_ok (A B : List Nat) : BytesK 32 (outN A B) := kyN_ok ..
theorem inN_ok (A B : List Nat) : BytesK 32 (inN A B) := kyN_ok ..
theorem rootN_ok (A B : List Nat) : BytesK 32 (rootN A B) := kyN_ok ..
/-- A root's name in a round. -/
def nmN (R : List Nat) (r : Nat) : List Nat := idN nLab [R, leN 8 r]
theorem nmN_ok (R : List Nat) (r : Nat) : BytesK 16 (nmN R r) := ⟨idN_len _ _, idN_lt _ _⟩
end Go.Proofs.YtdjpacgjhcidpabGreatDoor
namespace Go.Proofs.YtdjpacgjhcidpabGreatDoor
open Go.RowKit
theorem cons_lt {a : Nat} {X : List Nat} (ha : a < 256) (hX : ∀ i, X.getD i 0 < 256) : ∀ i, (a :: X).getD i 0 < 256
  | 0 => ha
  | i + 1 => hX i
/-- A text, filled up. -/
def bodyN (X : List Nat) : List Nat := X.length :: (X ++ List.replicate (19 - X.length) 0)
def bodyR (X : List Nat) : List Nat × Nat := if X.length ≤ 19 then (bodyN X, 0) else ([], 4)
theorem bodyR_ok {X : List Nat} (h : X.length ≤ 19) : bodyR X = (bodyN X, 0) := if_pos h
theorem bodyR_no {X : List Nat} (h : X.length > 19) : bodyR X = ([], 4) := if_neg (by omega)
theorem bodyN_len {X : List Nat} (h : X.length ≤ 19) : (bodyN X).length = 20 := by
  simp only [bodyN, List.length_cons, List.length_append, List.length_replicate]
  omega
theorem bodyN_lt {X : List Nat} (hX : ∀ i, X.getD i 0 < 256) (h : X.length ≤ 19) : ∀ i, (bodyN X).getD i 0 < 256 := cons_lt (by omega) (app_lt hX (rep0_lt))
theorem body_cells {X : List Nat} (h : X.length ≤ 19) : setFrom (cn .u8 ((List.replicate 20 0).set 0 X.length)) 1 (bcells (X.take 19)) = cn .u8 (bodyN X) := by
  have h1 := setFrom_cat (Y := (List.replicate 20 0).set 0 X.length) (Z := X) (d := #[]) (k := 1) (by simp; omega)
  rw [Array.append_empty, Array.append_empty] at h1
  rw [List.take_of_length_le h, h1]
  congr 1
  rw [show (List.replicate 20 0).set 0 X.length = X.length :: List.replicate 19 0 by rfl, Nat.add_comm, List.drop_succ_cons, List.drop_replicate]
  rfl
/-- What a body may tell. -/
def textN (B : List Nat) : List Nat := (B.take (1 + B.getD 0 0)).drop 1
def textR (B : List Nat) : List Nat × Bool := if B.length = 20 ∧ B.getD 0 0 ≤ 19 ∧ bodyN (textN B) = B then (textN B, true) else ([], false)
theorem textN_len {B : List Nat} (h : B.length = 20) (h2 : B.getD 0 0 ≤ 19) : (textN B).length = B.getD 0 0 := by
  simp only [textN, List.length_drop, List.length_take]
  omega
theorem textN_lt {B : List Nat} (hB : ∀ i, B.getD i 0 < 256) : ∀ i, (textN B).getD i 0 < 256 := drop_lt (take_lt hB)
theorem textR_ok {B : List Nat} (h1 : B.length = 20) (h2 : B.getD 0 0 ≤ 19) (h3 : bodyN (textN B) = B) : textR B = (textN B, true) := if_pos ⟨h1, h2, h3⟩
theorem textR_len {B : List Nat} (h : B.length ≠ 20) : textR B = ([], false) := if_neg fun q => h q.1
theorem textR_big {B : List Nat} (h : B.getD 0 0 > 19) : textR B = ([], false) := if_neg fun q => by have := q.2.1; omega
theorem textR_else {B : List Nat} (h : ¬ bodyN (textN B) = B) : textR B = ([], false) := if_neg fun q => h q.2.2
theorem text_body {X : List Nat} (h : X.length ≤ 19) : textR (bodyN X) = (X, true) := by
  have e : textN (bodyN X) = X := by
    rw [textN, show (bodyN X).getD 0 0 = X.length from rfl, bodyN, Nat.add_comm, List.take_succ_cons, List.drop_succ_cons, List.drop_zero, List.take_append_of_le_length (Nat.le_refl _), List.take_length]
  have h2 := textR_ok (B := bodyN X) (bodyN_len h) h (by rw [e])
  rw [h2, e]
def requestR (D B : List Nat) : List Nat × Nat := if B.length = 36 then (D ++ B, 0) else ([], 5)
theorem requestR_ok {D B : List Nat} (h : B.length = 36) : requestR D B = (D ++ B, 0) := if_pos h
theorem requestR_no {D B : List Nat} (h : B.length ≠ 36) : requestR D B = ([], 5) := if_neg h
def partsR (X : List Nat) : List Nat × List Nat × Bool := if X.length = 52 then (X.take 16, X.drop 16, true) else (List.replicate 16 0, [], false)
theorem partsR_ok {X : List Nat} (h : X.length = 52) : partsR X = (X.take 16, X.drop 16, true) := if_pos h
theorem partsR_no {X : List Nat} (h : X.length ≠ 52) : partsR X = (List.replicate 16 0, [], false) := if_neg h
theorem parts_cells {X : List Nat} (h : X.length = 52) : setFrom (cn .u8 (List.replicate 16 0)) 0 (bcells (X.take 16)) = cn .u8 (X.take 16) := setFrom_new8 (by rw [List.length_take, List.length_replicate, h]; rfl)
end Go.Proofs.YtdjpacgjhcidpabGreatDoor
namespace Go.Proofs.YtdjpacgjhcidpabGreatDoor
open Go.RowKit
theorem en_tnew : Enters Tryz.prog 11 := fun args w => by simp [go_sem]
theorem en_take : Enters Tryz.prog 40 := fun args w => by simp [go_sem]
theorem en_tkey : Enters Tryz.prog 18 := fun args w => by simp [go_sem]
theorem en_tid : Enters Tryz.prog 17 := fun args w => by simp [go_sem]
/-- A tape: the bytes that are left, how many were taken. -/
abbrev TB (X : List Nat) (u : Nat) : Obj := .cells #[sB X, iN u] 75
set_option maxRecDepth 100000 in
theorem take_any (g n : Nat) (X : List Nat) (u : Nat) (hX : ∀ i, X.getD i 0 < 256) (hu : u < 4611686018427387904) (hn : n ≤ 65536) (w0 : World) (hg : w0.heap[g]? = some (TB X u)) :
    Calls Tryz.prog 40 #[pT g, iN n] w0 fun e w' => e = .returned (sB (takN n X)) ∧ Turn g (TB (X.drop n) (u + n)) w0 w' := by
  refine enter_fr Tryz.func40 rfl Tryz.ntmps40 (by simp) fun ac (FF : Fr 42 ac [(0, pT g), (1, iN n)]) => ?_
  have MM : MemS (fun k => k < w0.heap.size ∧ ∀ x ∈ (g, oC #[sB X, iN u] 75) :: ([] : Blks), x.1 ≠ k) w0 w0 ((g, oC #[sB X, iN u] 75) :: ([] : Blks)) [] := MemS.startN (one_has hg) ⟨fun y hy => (nomatch hy), trivial⟩
  refine wp_seq (rg_c FF MM [(0, t_ (sB []))] 5 [] [] (⟨(by kernel_rfl), fun _ _ FF1 MM1 => then_n ?_⟩))
  refine wp_seq ?_
  refine wp_seq (rg_c FF1 MM1 [(1, f_ (.bool false)), (2, w_ 3), (3, w_ 3)] 5 [15] [] (⟨(ptrSome_ok (t := 41) (t' := 41) (x := (.tmp 6)) (y := (.const (.pointer none))) (by kernel_rfl) rfl rfl Tryz.underlying41), (by have := hn; omega), (by have := hn; omega), fun _ _ FF2 MM2 => then_n ?_⟩))
  refine wp_cond_false (FF2.ev 0 rfl) ?_
  refine wp_skip ?_
  refine then_n ?_
  refine wp_seq (rg_c FF2 MM2 [(1, n_ (.slice none n n) (.cells (cn .u8 (List.replicate n 0)) 5))] 6 [] [] (⟨(make_ok (t := 59) (e := 5) (p := (.tmp 16)) (q := (.tmp 16)) (by kernel_rfl) rfl rfl Tryz.underlying59 (by kernel_rfl) (by have := hn; omega)), fun bo => fun _ _ FF3 MM3 => then_n ?_⟩))
  refine wp_mid (fun a' w' => Fr 42 a' [(5, .slice (some ⟨bo, 0, none⟩) n n), (4, sB []), (0, pT g), (1, iN n)] ∧ MemS (fun k => k < w0.heap.size ∧ ∀ x ∈ (g, oC #[sB X, iN u] 75) :: ([] : Blks), x.1 ≠ k) w0 w' ((bo, .cells (cn .u8 (takN n X)) 5) :: (g, oC #[sB (X.drop n), iN u] 75) :: ([] : Blks)) []) ?_ ?_
  · skip
    refine draw_open (N := 15) (by kernel_rfl) (by kernel_rfl) MM3 fun wq4 (MM5 : MemS (fun k => k < w0.heap.size ∧ ∀ x ∈ (g, oC #[sB X, iN u] 75) :: ([] : Blks), x.1 ≠ k) w0 wq4 ((bo, .cells (cn .u8 (List.replicate n 0)) 5) :: (g, oC #[sB X, iN u] 75) :: ([] : Blks)) []) => ?_
    refine take_op FF3 (i := 0) (oi := (opAt Tryz.f40 4 0)) (v := (pT g)) (d := 18) (by kernel_rfl) (by kernel_rfl) (by kernel_rfl) (by kernel_rfl) (fun _ _ _ _ _ h => h) (by kernel_rfl) (by decide) (by kernel_rfl) (mvV (x := (.tmp 0)) (by kernel_rfl) rfl) fun _ FF6 => ?_
    refine take_op FF6 (i := 1) (oi := (opAt Tryz.f40 4 1)) (v := (pT g)) (d := 19) (by kernel_rfl) (by kernel_rfl) (by kernel_rfl) (by kernel_rfl) (fun _ _ _ _ _ h => h) (by kernel_rfl) (by decide) (by kernel_rfl) (mvV (x := (.tmp 0)) (by kernel_rfl) rfl) fun _ FF7 => ?_
    refine take_op FF7 (i := 2) (oi := (opAt Tryz.f40 4 2)) (v := (pT g)) (d := 20) (by kernel_rfl) (by kernel_rfl) (by kernel_rfl) (by kernel_rfl) (fun _ _ _ _ _ h => h) (by kernel_rfl) (by decide) (by kernel_rfl) (nilV (x := (.tmp 19)) (by kernel_rfl) rfl) fun _ FF8 => ?_
    refine take_op FF8 (i := 3) (oi := (opAt Tryz.f40 4 3)) (v := (pT g)) (d := 21) (by kernel_rfl) (by kernel_rfl) (by kernel_rfl) (by kernel_rfl) (fun _ _ _ _ _ h => h) (by kernel_rfl) (by decide) (by kernel_rfl) (fldV (x := (.tmp 20)) (t := 75) (k := 0) (cs := []) (by kernel_rfl) rfl (by kernel_rfl)) fun _ FF9 => ?_
    refine take_op FF9 (i := 5) (oi := (opAt Tryz.f40 4 5)) (v := (.slice (some ⟨bo, 0, none⟩) n n)) (d := 23) (by kernel_rfl) (by kernel_rfl) (by kernel_rfl) (by kernel_rfl) (fun _ _ _ _ _ h => h) (by kernel_rfl) (by decide) (by kernel_rfl) (mvV (x := (.tmp 5)) (by kernel_rfl) rfl) fun _ FF10 => ?_
    refine take_op FF10 (i := 6) (oi := (opAt Tryz.f40 4 6)) (v := (pT g)) (d := 24) (by kernel_rfl) (by kernel_rfl) (by kernel_rfl) (by kernel_rfl) (fun _ _ _ _ _ h => h) (by kernel_rfl) (by decide) (by kernel_rfl) (mvV (x := (.tmp 0)) (by kernel_rfl) rfl) fun _ FF11 => ?_
    refine take_op FF11 (i := 7) (oi := (opAt Tryz.f40 4 7)) (v := (pT g)) (d := 25) (by kernel_rfl) (by kernel_rfl) (by kernel_rfl) (by kernel_rfl) (fun _ _ _ _ _ h => h) (by kernel_rfl) (by decide) (by kernel_rfl) (nilV (x := (.tmp 24)) (by kernel_rfl) rfl) fun _ FF12 => ?_
    refine take_op FF12 (i := 8) (oi := (opAt Tryz.f40 4 8)) (v := (pT g)) (d := 26) (by kernel_rfl) (by kernel_rfl) (by kernel_rfl) (by kernel_rfl) (fun _ _ _ _ _ h => h) (by kernel_rfl) (by decide) (by kernel_rfl) (fldV (x := (.tmp 25)) (t := 75) (k := 0) (cs := []) (by kernel_rfl) rfl (by kernel_rfl)) fun _ FF13 => ?_
    refine any_two (i := 4) (oi := (opAt Tryz.f40 4 4)) (j := 9) (oj := (opAt Tryz.f40 4 9)) (by kernel_rfl) (by kernel_rfl) (by kernel_rfl) ?_ ?_
    · skip
      refine rp_c 1 FF13 MM5 [(0, l_ 1 (sB X))] 19 [26, 23, 22] [] (⟨rfl, rfl, fun _ _ FF14 MM14 => ?_⟩)
      refine wpl_nil (onN_n ?_)
      refine any_one (i := 9) (o := (opAt Tryz.f40 4 9)) (by kernel_rfl) (by kernel_rfl) ?_
      refine rp_c 1 FF14 MM14 [(0, l_ 1 (sB X))] 24 [27] [] (⟨rfl, rfl, fun _ _ FF15 MM15 => ?_⟩)
      refine wpl_nil (onN_n ?_)
      refine any_one (i := 10) (o := (opAt Tryz.f40 4 10)) (by kernel_rfl) (by kernel_rfl) ?_
      refine rp_c 1 FF15 MM15 [(0, r_ (iN (min X.length n)) [(0, .cells (cn .u8 (takN n X)) 5)])] 23 [28] [] (⟨(copyStr_ok (p := .tmp 23) (q := .tmp 27) (t := 59) (tq := 9) (e := 5) (T := 5) (off := 0) (len := n) (X := X) (cs := cn .u8 (List.replicate n 0)) (i := 0) (by kernel_rfl) rfl rfl hX Tryz.underlying59 (by kernel_rfl) rfl (by rw [cn_size, List.length_replicate, Nat.zero_add]; exact Nat.le_refl _) (tak_cells n X)), fun _ _ FF16 MM16 => ?_⟩)
      refine wpl_nil (onN_n ?_)
      refine any_one (i := 11) (o := (opAt Tryz.f40 4 11)) (by kernel_rfl) (by kernel_rfl) ?_
      refine rp_c 1 FF16 MM16 [(0, t_ (sB (X.drop n)))] 19 [29] [] (⟨(by simp only [bs_size]; omega), (Nat.zero_le _), (vS2 ((bs_from _ _).trans (congrArg bs (dropX_min X n)))), fun _ _ FF17 MM17 => ?_⟩)
      refine wpl_nil (onN_n ?_)
      refine take_op FF17 (i := 12) (oi := (opAt Tryz.f40 4 12)) (v := (pT g)) (d := 30) (by kernel_rfl) (by kernel_rfl) (by kernel_rfl) (by kernel_rfl) (fun _ _ _ _ _ h => h) (by kernel_rfl) (by decide) (by kernel_rfl) (nilV (x := (.tmp 18)) (by kernel_rfl) rfl) fun _ FF18 => ?_
      refine take_op FF18 (i := 13) (oi := (opAt Tryz.f40 4 13)) (v := (pT g)) (d := 31) (by kernel_rfl) (by kernel_rfl) (by kernel_rfl) (by kernel_rfl) (fun _ _ _ _ _ h => h) (by kernel_rfl) (by decide) (by kernel_rfl) (fldV (x := (.tmp 30)) (t := 75) (k := 0) (cs := []) (by kernel_rfl) rfl (by kernel_rfl)) fun _ FF19 => ?_
      refine any_one (i := 14) (o := (opAt Tryz.f40 4 14)) (by kernel_rfl) (by kernel_rfl) ?_
      refine rp_c 1 FF19 MM17 [(0, s_ 1 (oC #[sB (X.drop n), iN u] 75))] 6 [] [] (⟨rfl, (by simp), (.inl rfl), rfl, fun _ _ FF20 MM20 => ?_⟩)
      refine wpl_nil (onN_n ?_)
      refine any_none (by kernel_rfl) (then_n ?_)
      exact ⟨FF20.pick [0, 1, 2, 3], MM20⟩
    · skip
      refine rp_c 1 FF13 MM5 [(0, l_ 1 (sB X))] 24 [27] [20, 19] (⟨rfl, rfl, fun _ _ FF21 MM21 => ?_⟩)
      refine wpl_nil (onN_n ?_)
      refine any_two (i := 4) (oi := (opAt Tryz.f40 4 4)) (j := 10) (oj := (opAt Tryz.f40 4 10)) (by kernel_rfl) (by kernel_rfl) (by kernel_rfl) ?_ ?_
      · skip
        refine rp_c 1 FF21 MM21 [(0, l_ 1 (sB X))] 28 [] [21] (⟨rfl, rfl, fun _ _ FF22 MM22 => ?_⟩)
        refine wpl_nil (onN_n ?_)
        refine any_one (i := 10) (o := (opAt Tryz.f40 4 10)) (by kernel_rfl) (by kernel_rfl) ?_
        refine rp_c 1 FF22 MM22 [(0, r_ (iN (min X.length n)) [(0, .cells (cn .u8 (takN n X)) 5)])] 23 [28] [] (⟨(copyStr_ok (p := .tmp 23) (q := .tmp 27) (t := 59) (tq := 9) (e := 5) (T := 5) (off := 0) (len := n) (X := X) (cs := cn .u8 (List.replicate n 0)) (i := 0) (by kernel_rfl) rfl rfl hX Tryz.underlying59 (by kernel_rfl) rfl (by rw [cn_size, List.length_replicate, Nat.zero_add]; exact Nat.le_refl _) (tak_cells n X)), fun _ _ FF23 MM23 => ?_⟩)
        refine wpl_nil (onN_n ?_)
        refine any_one (i := 11) (o := (opAt Tryz.f40 4 11)) (by kernel_rfl) (by kernel_rfl) ?_
        refine rp_c 1 FF23 MM23 [(0, t_ (sB (X.drop n)))] 19 [29] [] (⟨(by simp only [bs_size]; omega), (Nat.zero_le _), (vS2 ((bs_from _ _).trans (congrArg bs (dropX_min X n)))), fun _ _ FF24 MM24 => ?_⟩)
        refine wpl_nil (onN_n ?_)
        refine take_op FF24 (i := 12) (oi := (opAt Tryz.f40 4 12)) (v := (pT g)) (d := 30) (by kernel_rfl) (by kernel_rfl) (by kernel_rfl) (by kernel_rfl) (fun _ _ _ _ _ h => h) (by kernel_rfl) (by decide) (by kernel_rfl) (nilV (x := (.tmp 18)) (by kernel_rfl) rfl) fun _ FF25 => ?_
        refine take_op FF25 (i := 13) (oi := (opAt Tryz.f40 4 13)) (v := (pT g)) (d := 31) (by kernel_rfl) (by kernel_rfl) (by kernel_rfl) (by kernel_rfl) (fun _ _ _ _ _ h => h) (by kernel_rfl) (by decide) (by kernel_rfl) (fldV (x := (.tmp 30)) (t := 75) (k := 0) (cs := []) (by kernel_rfl) rfl (by kernel_rfl)) fun _ FF26 => ?_
        refine any_one (i := 14) (o := (opAt Tryz.f40 4 14)) (by kernel_rfl) (by kernel_rfl) ?_
        refine rp_c 1 FF26 MM24 [(0, s_ 1 (oC #[sB (X.drop n), iN u] 75))] 6 [] [] (⟨rfl, (by simp), (.inl rfl), rfl, fun _ _ FF27 MM27 => ?_⟩)
        refine wpl_nil (onN_n ?_)
        refine any_none (by kernel_rfl) (then_n ?_)
        exact ⟨FF27.pick [0, 1, 2, 3], MM27⟩
      · skip
        refine rp_c 1 FF21 MM21 [(0, r_ (iN (min X.length n)) [(0, .cells (cn .u8 (takN n X)) 5)])] 22 [28] [] (⟨(copyStr_ok (p := .tmp 23) (q := .tmp 27) (t := 59) (tq := 9) (e := 5) (T := 5) (off := 0) (len := n) (X := X) (cs := cn .u8 (List.replicate n 0)) (i := 0) (by kernel_rfl) rfl rfl hX Tryz.underlying59 (by kernel_rfl) rfl (by rw [cn_size, List.length_replicate, Nat.zero_add]; exact Nat.le_refl _) (tak_cells n X)), fun _ _ FF28 MM28 => ?_⟩)
        refine wpl_nil (onN_n ?_)
        refine any_one (i := 4) (o := (opAt Tryz.f40 4 4)) (by kernel_rfl) (by kernel_rfl) ?_
        refine rp_c 1 FF28 MM28 [(0, l_ 1 (sB X))] 29 [] [21] (⟨rfl, rfl, fun _ _ FF29 MM29 => ?_⟩)
        refine wpl_nil (onN_n ?_)
        refine any_one (i := 11) (o := (opAt Tryz.f40 4 11)) (by kernel_rfl) (by kernel_rfl) ?_
        refine rp_c 1 FF29 MM29 [(0, t_ (sB (X.drop n)))] 19 [29] [] (⟨(by simp only [bs_size]; omega), (Nat.zero_le _), (vS2 ((bs_from _ _).trans (congrArg bs (dropX_min X n)))), fun _ _ FF30 MM30 => ?_⟩)
        refine wpl_nil (onN_n ?_)
        refine take_op FF30 (i := 12) (oi := (opAt Tryz.f40 4 12)) (v := (pT g)) (d := 30) (by kernel_rfl) (by kernel_rfl) (by kernel_rfl) (by kernel_rfl) (fun _ _ _ _ _ h => h) (by kernel_rfl) (by decide) (by kernel_rfl) (nilV (x := (.tmp 18)) (by kernel_rfl) rfl) fun _ FF31 => ?_
        refine take_op FF31 (i := 13) (oi := (opAt Tryz.f40 4 13)) (v := (pT g)) (d := 31) (by kernel_rfl) (by kernel_rfl) (by kernel_rfl) (by kernel_rfl) (fun _ _ _ _ _ h => h) (by kernel_rfl) (by decide) (by kernel_rfl) (fldV (x := (.tmp 30)) (t := 75) (k := 0) (cs := []) (by kernel_rfl) rfl (by kernel_rfl)) fun _ FF32 => ?_
        refine any_one (i := 14) (o := (opAt Tryz.f40 4 14)) (by kernel_rfl) (by kernel_rfl) ?_
        refine rp_c 1 FF32 MM30 [(0, s_ 1 (oC #[sB (X.drop n), iN u] 75))] 6 [] [] (⟨rfl, (by simp), (.inl rfl), rfl, fun _ _ FF33 MM33 => ?_⟩)
        refine wpl_nil (onN_n ?_)
        refine any_none (by kernel_rfl) (then_n ?_)
        exact ⟨FF33.pick [0, 1, 2, 3], MM33⟩
  · rintro ac34 wd34 ⟨FF34, MM34⟩
    refine wp_seq (rg_c FF34 MM34 [(3, l_ 1 (iN u)), (4, s_ 1 (oC #[sB (X.drop n), iN (u + n)] 75))] 6 [] [] (⟨rfl, rfl, (by have := hn; omega), rfl, (by simp), (.inl rfl), rfl, fun _ _ FF35 MM35 => then_n ?_⟩))
    refine wp_seq (rg_c FF35 MM35 [(1, l_ 0 (sB (takN n X)))] 6 [] [] (⟨rfl, (str_all (takN_len _ _) (takN_lt hX n)), fun _ _ FF36 MM36 => then_n ?_⟩))
    refine wp_ret ?_
    repeat first | refine then_ret ?_ | refine inb_ret ?_
    exact (ret_fr FF36 0 Tryz.results40 rfl ⟨rfl, MM36.turn (O := []) (fun i x hx => by simp at hx) 1 rfl (fun x hx => (nomatch hx))⟩)
set_option maxRecDepth 100000 in
theorem take_nil (z : Int) (w0 : World) :
    Calls Tryz.prog 40 #[.pointer none, .int .i64 z] w0 fun e w' => e = .returned (sB []) ∧ Below w0.heap.size w0 w' := by
  refine enter_fr Tryz.func40 rfl Tryz.ntmps40 (by simp) fun ac (FF : Fr 42 ac [(0, .pointer none), (1, .int .i64 (z : Int))]) => ?_
  have MM := MemS.start w0
  refine wp_seq (rg_c FF MM [(0, t_ (sB []))] 5 [] [] (⟨(by kernel_rfl), fun _ _ FF1 MM1 => then_n ?_⟩))
  refine wp_seq ?_
  refine wp_seq (rg_c FF1 MM1 [(1, f_ (.bool true))] 5 [15] [] (⟨(ptrNil_ok (t := 41) (t' := 41) (x := (.tmp 6)) (y := (.const (.pointer none))) (by kernel_rfl) rfl rfl Tryz.underlying41), fun _ _ FF2 MM2 => then_n ?_⟩))
  refine wp_cond_true (FF2.ev 0 rfl) ?_
  refine wp_seq (rg_c FF2 MM2 [(0, t_ (sB []))] 5 [] [] (⟨(by kernel_rfl), fun _ _ FF3 MM3 => then_n ?_⟩))
  refine wp_ret ?_
  repeat first | refine then_ret ?_ | refine inb_ret ?_
  exact (ret_fr FF3 0 Tryz.results40 rfl ⟨rfl, MM3.below⟩)
set_option maxRecDepth 100000 in
theorem tkey_any (g : Nat) (X : List Nat) (u : Nat) (hX : ∀ i, X.getD i 0 < 256) (hu : u < 4611686018427387904)  (w0 : World) (hg : w0.heap[g]? = some (TB X u)) :
    Calls Tryz.prog 18 #[pT g] w0 fun e w' => e = .returned (.agg (cn .u8 (takN 32 X))) ∧ Turn g (TB (X.drop 32) (u + 32)) w0 w' := by
  refine enter_fr Tryz.func18 rfl Tryz.ntmps18 (by simp) fun ac (FF : Fr 9 ac [(0, pT g)]) => ?_
  have MM : MemS (fun k => k < w0.heap.size ∧ ∀ x ∈ (g, oC #[sB X, iN u] 75) :: ([] : Blks), x.1 ≠ k) w0 w0 ((g, oC #[sB X, iN u] 75) :: ([] : Blks)) [] := MemS.startN (one_has hg) ⟨fun y hy => (nomatch hy), trivial⟩
  refine wp_seq (rg_c FF MM [(0, s_ 0 (.cells (cn .u8 (List.replicate 32 0)) 23))] 3 [] [] (⟨(by kernel_rfl), fun br => fun _ _ FF1 MM1 => then_n ?_⟩))
  refine wp_seq (rg_c FF1 MM1 [(0, s_ 0 (.cells (cn .u8 (List.replicate 32 0)) 23))] 4 [] [] (⟨(by kernel_rfl), fun bk => fun _ _ FF2 MM2 => then_n ?_⟩))
  refine wp_mid (fun a' w' => Fr 9 a' [(3, pT bk), (2, pT br)] ∧ MemS (fun k => k < w0.heap.size ∧ ∀ x ∈ (g, oC #[sB X, iN u] 75) :: ([] : Blks), x.1 ≠ k) w0 w' ((bk, .cells (cn .u8 (takN 32 X)) 23) :: (br, .cells (cn .u8 (List.replicate 32 0)) 23) :: (g, oC #[sB (X.drop 32), iN (u + 32)] 75) :: ([] : Blks)) []) ?_ ?_
  · skip
    refine draw_open (N := 4) (by kernel_rfl) (by kernel_rfl) MM2 fun wq3 (MM4 : MemS (fun k => k < w0.heap.size ∧ ∀ x ∈ (g, oC #[sB X, iN u] 75) :: ([] : Blks), x.1 ≠ k) w0 wq3 ((bk, .cells (cn .u8 (List.replicate 32 0)) 23) :: (br, .cells (cn .u8 (List.replicate 32 0)) 23) :: (g, oC #[sB X, iN u] 75) :: ([] : Blks)) []) => ?_
    refine take_op FF2 (i := 1) (oi := (opAt Tryz.f18 2 1)) (v := (pT g)) (d := 5) (by kernel_rfl) (by kernel_rfl) (by kernel_rfl) (by kernel_rfl) (fun _ _ _ _ _ h => h) (by kernel_rfl) (by decide) (by kernel_rfl) (mvV (x := (.tmp 0)) (by kernel_rfl) rfl) fun _ FF5 => ?_
    refine any_two (i := 0) (oi := (opAt Tryz.f18 2 0)) (j := 2) (oj := (opAt Tryz.f18 2 2)) (by kernel_rfl) (by kernel_rfl) (by kernel_rfl) ?_ ?_
    · skip
      refine rp_c 1 FF5 MM4 [] 6 [] [0] (⟨by decide, by decide, by decide, fun _ _ FF6 MM6 => ?_⟩)
      refine wpl_nil (onN_n ?_)
      refine any_one (i := 2) (o := (opAt Tryz.f18 2 2)) (by kernel_rfl) (by kernel_rfl) ?_
      refine rp_c 1 FF6 MM6 [(0, c_ (sB (takN 32 X)) [(2, oC #[sB (X.drop 32), iN (u + 32)] 75)])] 5 [6] [] (⟨(callU_turn en_take (g := g) (ob := TB X u) rfl fun w hg => by have h0 := take_any g 32 X u hX (by omega) (by decide) w hg; exact h0), fun _ _ FF7 MM7 => ?_⟩)
      refine wpl_nil (onN_n ?_)
      refine any_one (i := 3) (o := (opAt Tryz.f18 2 3)) (by kernel_rfl) (by kernel_rfl) ?_
      refine rp_c 1 FF7 MM7 [(0, r_ (iN (min (takN 32 X).length 32)) [(0, .cells (cn .u8 (takN 32 X)) 23)])] 4 [] [] (⟨(copyStr_ok (p := .tmp 4) (q := .tmp 6) (t := 59) (tq := 9) (e := 5) (T := 23) (off := 0) (len := 32) (X := takN 32 X) (cs := cn .u8 (List.replicate 32 0)) (i := 0) (by kernel_rfl) rfl rfl (takN_lt hX 32) Tryz.underlying59 (by kernel_rfl) rfl (by rw [cn_size, List.length_replicate]; decide) (by rw [List.take_of_length_le (by rw [takN_len]; decide)]; exact setFrom_new8 (by rw [List.length_replicate, takN_len]))), fun _ _ FF8 MM8 => ?_⟩)
      refine wpl_nil (onN_n ?_)
      refine any_none (by kernel_rfl) (then_n ?_)
      exact ⟨FF8.pick [0, 1], MM8⟩
    · skip
      refine rp_c 1 FF5 MM4 [(0, c_ (sB (takN 32 X)) [(2, oC #[sB (X.drop 32), iN (u + 32)] 75)])] 4 [6] [0] (⟨(callU_turn en_take (g := g) (ob := TB X u) rfl fun w hg => by have h0 := take_any g 32 X u hX (by omega) (by decide) w hg; exact h0), fun _ _ FF9 MM9 => ?_⟩)
      refine wpl_nil (onN_n ?_)
      refine any_one (i := 0) (o := (opAt Tryz.f18 2 0)) (by kernel_rfl) (by kernel_rfl) ?_
      refine rp_c 1 FF9 MM9 [] 7 [] [] (⟨by decide, by decide, by decide, fun _ _ FF10 MM10 => ?_⟩)
      refine wpl_nil (onN_n ?_)
      refine any_one (i := 3) (o := (opAt Tryz.f18 2 3)) (by kernel_rfl) (by kernel_rfl) ?_
      refine rp_c 1 FF10 MM10 [(0, r_ (iN (min (takN 32 X).length 32)) [(0, .cells (cn .u8 (takN 32 X)) 23)])] 4 [] [] (⟨(copyStr_ok (p := .tmp 4) (q := .tmp 6) (t := 59) (tq := 9) (e := 5) (T := 23) (off := 0) (len := 32) (X := takN 32 X) (cs := cn .u8 (List.replicate 32 0)) (i := 0) (by kernel_rfl) rfl rfl (takN_lt hX 32) Tryz.underlying59 (by kernel_rfl) rfl (by rw [cn_size, List.length_replicate]; decide) (by rw [List.take_of_length_le (by rw [takN_len]; decide)]; exact setFrom_new8 (by rw [List.length_replicate, takN_len]))), fun _ _ FF11 MM11 => ?_⟩)
      refine wpl_nil (onN_n ?_)
      refine any_none (by kernel_rfl) (then_n ?_)
      exact ⟨FF11.pick [0, 1], MM11⟩
  · rintro ac12 wd12 ⟨FF12, MM12⟩
    refine wp_seq (rg_c FF12 MM12 [(0, b_ 0), (0, b_ 1)] 4 [] [] (⟨rfl, ((cn_size _ _).trans (takN_len _ _)), rfl, ((cn_size _ _).trans (List.length_replicate ..)), ((cn_size _ _).trans (takN_len _ _)), (cn_one _ _), rfl, fun _ _ FF13 MM13 => then_n ?_⟩))
    refine wp_ret ?_
    repeat first | refine then_ret ?_ | refine inb_ret ?_
    exact (retc FF13 MM13 (k := 32) (i := 1) (j := 1) Tryz.results18 rfl rfl Tryz.underlying23 rfl (by kernel_rfl) ((cn_size _ _).trans (takN_len _ _)) ⟨rfl, MM13.turn (O := []) (fun i x hx => by simp at hx) 2 rfl (fun x hx => (nomatch hx))⟩)
set_option maxRecDepth 100000 in
theorem tkey_nil  (w0 : World) :
    Calls Tryz.prog 18 #[.pointer none] w0 fun e w' => e = .returned (.agg (cn .u8 (List.replicate 32 0))) ∧ Below w0.heap.size w0 w' := by
  refine enter_fr Tryz.func18 rfl Tryz.ntmps18 (by simp) fun ac (FF : Fr 9 ac [(0, .pointer none)]) => ?_
  have MM := MemS.start w0
  refine wp_seq (rg_c FF MM [(0, s_ 0 (.cells (cn .u8 (List.replicate 32 0)) 23))] 3 [] [] (⟨(by kernel_rfl), fun br => fun _ _ FF1 MM1 => then_n ?_⟩))
  refine wp_seq (rg_c FF1 MM1 [(0, s_ 0 (.cells (cn .u8 (List.replicate 32 0)) 23))] 4 [] [] (⟨(by kernel_rfl), fun bk => fun _ _ FF2 MM2 => then_n ?_⟩))
  refine wp_seq (rg_dc 3 FF2 MM2 [(2, t_ (sB []))] [(0, r_ (iN (min ([] : List Nat).length 32)) [(0, .cells (cn .u8 (List.replicate 32 0)) 23)])] 4 [] [0] (⟨by decide, by decide, by decide, (callP_of en_take (take_nil ((32 : Nat) : Int)) _), (copyStr_ok (p := .tmp 4) (q := .tmp 6) (t := 59) (tq := 9) (e := 5) (T := 23) (off := 0) (len := 32) (X := []) (cs := cn .u8 (List.replicate 32 0)) (i := 0) (by kernel_rfl) rfl rfl (lit_lt (by kernel_rfl)) Tryz.underlying59 (by kernel_rfl) rfl (by rw [cn_size, List.length_replicate]; decide) rfl), fun _ _ FF3 MM3 => then_n ?_⟩))
  refine wp_seq (rg_c FF3 MM3 [(0, b_ 0), (0, b_ 1)] 4 [] [] (⟨rfl, ((cn_size _ _).trans (List.length_replicate ..)), rfl, ((cn_size _ _).trans (List.length_replicate ..)), ((cn_size _ _).trans (List.length_replicate ..)), (cn_one _ _), rfl, fun _ _ FF4 MM4 => then_n ?_⟩))
  refine wp_ret ?_
  repeat first | refine then_ret ?_ | refine inb_ret ?_
  exact (retc FF4 MM4 (k := 32) (i := 1) (j := 1) Tryz.results18 rfl rfl Tryz.underlying23 rfl (by kernel_rfl) ((cn_size _ _).trans (List.length_replicate ..)) ⟨rfl, MM4.below⟩)
set_option maxRecDepth 100000 in
theorem tid_any (g : Nat) (X : List Nat) (u : Nat) (hX : ∀ i, X.getD i 0 < 256) (hu : u < 4611686018427387904)  (w0 : World) (hg : w0.heap[g]? = some (TB X u)) :
    Calls Tryz.prog 17 #[pT g] w0 fun e w' => e = .returned (.agg (cn .u8 (takN 16 X))) ∧ Turn g (TB (X.drop 16) (u + 16)) w0 w' := by
  refine enter_fr Tryz.func17 rfl Tryz.ntmps17 (by simp) fun ac (FF : Fr 9 ac [(0, pT g)]) => ?_
  have MM : MemS (fun k => k < w0.heap.size ∧ ∀ x ∈ (g, oC #[sB X, iN u] 75) :: ([] : Blks), x.1 ≠ k) w0 w0 ((g, oC #[sB X, iN u] 75) :: ([] : Blks)) [] := MemS.startN (one_has hg) ⟨fun y hy => (nomatch hy), trivial⟩
  refine wp_seq (rg_c FF MM [(0, s_ 0 (.cells (cn .u8 (List.replicate 16 0)) 32))] 3 [] [] (⟨(by kernel_rfl), fun br => fun _ _ FF1 MM1 => then_n ?_⟩))
  refine wp_seq (rg_c FF1 MM1 [(0, s_ 0 (.cells (cn .u8 (List.replicate 16 0)) 32))] 4 [] [] (⟨(by kernel_rfl), fun bk => fun _ _ FF2 MM2 => then_n ?_⟩))
  refine wp_mid (fun a' w' => Fr 9 a' [(3, pT bk), (2, pT br)] ∧ MemS (fun k => k < w0.heap.size ∧ ∀ x ∈ (g, oC #[sB X, iN u] 75) :: ([] : Blks), x.1 ≠ k) w0 w' ((bk, .cells (cn .u8 (takN 16 X)) 32) :: (br, .cells (cn .u8 (List.replicate 16 0)) 32) :: (g, oC #[sB (X.drop 16), iN (u + 16)] 75) :: ([] : Blks)) []) ?_ ?_
  · skip
    refine draw_open (N := 4) (by kernel_rfl) (by kernel_rfl) MM2 fun wq3 (MM4 : MemS (fun k => k < w0.heap.size ∧ ∀ x ∈ (g, oC #[sB X, iN u] 75) :: ([] : Blks), x.1 ≠ k) w0 wq3 ((bk, .cells (cn .u8 (List.replicate 16 0)) 32) :: (br, .cells (cn .u8 (List.replicate 16 0)) 32) :: (g, oC #[sB X, iN u] 75) :: ([] : Blks)) []) => ?_
    refine take_op FF2 (i := 1) (oi := (opAt Tryz.f17 2 1)) (v := (pT g)) (d := 5) (by kernel_rfl) (by kernel_rfl) (by kernel_rfl) (by kernel_rfl) (fun _ _ _ _ _ h => h) (by kernel_rfl) (by decide) (by kernel_rfl) (mvV (x := (.tmp 0)) (by kernel_rfl) rfl) fun _ FF5 => ?_
    refine any_two (i := 0) (oi := (opAt Tryz.f17 2 0)) (j := 2) (oj := (opAt Tryz.f17 2 2)) (by kernel_rfl) (by kernel_rfl) (by kernel_rfl) ?_ ?_
    · skip
      refine rp_c 1 FF5 MM4 [] 6 [] [0] (⟨by decide, by decide, by decide, fun _ _ FF6 MM6 => ?_⟩)
      refine wpl_nil (onN_n ?_)
      refine any_one (i := 2) (o := (opAt Tryz.f17 2 2)) (by kernel_rfl) (by kernel_rfl) ?_
      refine rp_c 1 FF6 MM6 [(0, c_ (sB (takN 16 X)) [(2, oC #[sB (X.drop 16), iN (u + 16)] 75)])] 5 [6] [] (⟨(callU_turn en_take (g := g) (ob := TB X u) rfl fun w hg => by have h0 := take_any g 16 X u hX (by omega) (by decide) w hg; exact h0), fun _ _ FF7 MM7 => ?_⟩)
      refine wpl_nil (onN_n ?_)
      refine any_one (i := 3) (o := (opAt Tryz.f17 2 3)) (by kernel_rfl) (by kernel_rfl) ?_
      refine rp_c 1 FF7 MM7 [(0, r_ (iN (min (takN 16 X).length 16)) [(0, .cells (cn .u8 (takN 16 X)) 32)])] 4 [] [] (⟨(copyStr_ok (p := .tmp 4) (q := .tmp 6) (t := 59) (tq := 9) (e := 5) (T := 32) (off := 0) (len := 16) (X := takN 16 X) (cs := cn .u8 (List.replicate 16 0)) (i := 0) (by kernel_rfl) rfl rfl (takN_lt hX 16) Tryz.underlying59 (by kernel_rfl) rfl (by rw [cn_size, List.length_replicate]; decide) (by rw [List.take_of_length_le (by rw [takN_len]; decide)]; exact setFrom_new8 (by rw [List.length_replicate, takN_len]))), fun _ _ FF8 MM8 => ?_⟩)
      refine wpl_nil (onN_n ?_)
      refine any_none (by kernel_rfl) (then_n ?_)
      exact ⟨FF8.pick [0, 1], MM8⟩
    · skip
      refine rp_c 1 FF5 MM4 [(0, c_ (sB (takN 16 X)) [(2, oC #[sB (X.drop 16), iN (u + 16)] 75)])] 4 [6] [0] (⟨(callU_turn en_take (g := g) (ob := TB X u) rfl fun w hg => by have h0 := take_any g 16 X u hX (by omega) (by decide) w hg; exact h0), fun _ _ FF9 MM9 => ?_⟩)
      refine wpl_nil (onN_n ?_)
      refine any_one (i := 0) (o := (opAt Tryz.f17 2 0)) (by kernel_rfl) (by kernel_rfl) ?_
      refine rp_c 1 FF9 MM9 [] 7 [] [] (⟨by decide, by decide, by decide, fun _ _ FF10 MM10 => ?_⟩)
      refine wpl_nil (onN_n ?_)
      refine any_one (i := 3) (o := (opAt Tryz.f17 2 3)) (by kernel_rfl) (by kernel_rfl) ?_
      refine rp_c 1 FF10 MM10 [(0, r_ (iN (min (takN 16 X).length 16)) [(0, .cells (cn .u8 (takN 16 X)) 32)])] 4 [] [] (⟨(copyStr_ok (p := .tmp 4) (q := .tmp 6) (t := 59) (tq := 9) (e := 5) (T := 32) (off := 0) (len := 16) (X := takN 16 X) (cs := cn .u8 (List.replicate 16 0)) (i := 0) (by kernel_rfl) rfl rfl (takN_lt hX 16) Tryz.underlying59 (by kernel_rfl) rfl (by rw [cn_size, List.length_replicate]; decide) (by rw [List.take_of_length_le (by rw [takN_len]; decide)]; exact setFrom_new8 (by rw [List.length_replicate, takN_len]))), fun _ _ FF11 MM11 => ?_⟩)
      refine wpl_nil (onN_n ?_)
      refine any_none (by kernel_rfl) (then_n ?_)
      exact ⟨FF11.pick [0, 1], MM11⟩
  · rintro ac12 wd12 ⟨FF12, MM12⟩
    refine wp_seq (rg_c FF12 MM12 [(0, b_ 0), (0, b_ 1)] 4 [] [] (⟨rfl, ((cn_size _ _).trans (takN_len _ _)), rfl, ((cn_size _ _).trans (List.length_replicate ..)), ((cn_size _ _).trans (takN_len _ _)), (cn_one _ _), rfl, fun _ _ FF13 MM13 => then_n ?_⟩))
    refine wp_ret ?_
    repeat first | refine then_ret ?_ | refine inb_ret ?_
    exact (retc FF13 MM13 (k := 16) (i := 1) (j := 1) Tryz.results17 rfl rfl Tryz.underlying32 rfl (by kernel_rfl) ((cn_size _ _).trans (takN_len _ _)) ⟨rfl, MM13.turn (O := []) (fun i x hx => by simp at hx) 2 rfl (fun x hx => (nomatch hx))⟩)
set_option maxRecDepth 100000 in
theorem tid_nil  (w0 : World) :
    Calls Tryz.prog 17 #[.pointer none] w0 fun e w' => e = .returned (.agg (cn .u8 (List.replicate 16 0))) ∧ Below w0.heap.size w0 w' := by
  refine enter_fr Tryz.func17 rfl Tryz.ntmps17 (by simp) fun ac (FF : Fr 9 ac [(0, .pointer none)]) => ?_
  have MM := MemS.start w0
  refine wp_seq (rg_c FF MM [(0, s_ 0 (.cells (cn .u8 (List.replicate 16 0)) 32))] 3 [] [] (⟨(by kernel_rfl), fun br => fun _ _ FF1 MM1 => then_n ?_⟩))
  refine wp_seq (rg_c FF1 MM1 [(0, s_ 0 (.cells (cn .u8 (List.replicate 16 0)) 32))] 4 [] [] (⟨(by kernel_rfl), fun bk => fun _ _ FF2 MM2 => then_n ?_⟩))
  refine wp_seq (rg_dc 3 FF2 MM2 [(2, t_ (sB []))] [(0, r_ (iN (min ([] : List Nat).length 16)) [(0, .cells (cn .u8 (List.replicate 16 0)) 32)])] 4 [] [0] (⟨by decide, by decide, by decide, (callP_of en_take (take_nil ((16 : Nat) : Int)) _), (copyStr_ok (p := .tmp 4) (q := .tmp 6) (t := 59) (tq := 9) (e := 5) (T := 32) (off := 0) (len := 16) (X := []) (cs := cn .u8 (List.replicate 16 0)) (i := 0) (by kernel_rfl) rfl rfl (lit_lt (by kernel_rfl)) Tryz.underlying59 (by kernel_rfl) rfl (by rw [cn_size, List.length_replicate]; decide) rfl), fun _ _ FF3 MM3 => then_n ?_⟩))
  refine wp_seq (rg_c FF3 MM3 [(0, b_ 0), (0, b_ 1)] 4 [] [] (⟨rfl, ((cn_size _ _).trans (List.length_replicate ..)), rfl, ((cn_size _ _).trans (List.length_replicate ..)), ((cn_size _ _).trans (List.length_replicate ..)), (cn_one _ _), rfl, fun _ _ FF4 MM4 => then_n ?_⟩))
  refine wp_ret ?_
  repeat first | refine then_ret ?_ | refine inb_ret ?_
  exact (retc FF4 MM4 (k := 16) (i := 1) (j := 1) Tryz.results17 rfl rfl Tryz.underlying32 rfl (by kernel_rfl) ((cn_size _ _).trans (List.length_replicate ..)) ⟨rfl, MM4.below⟩)
end Go.Proofs.YtdjpacgjhcidpabGreatDoor
