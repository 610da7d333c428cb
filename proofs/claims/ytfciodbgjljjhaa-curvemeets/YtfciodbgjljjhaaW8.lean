/- What 'wakes' of the statements of layer 1 comes to: true. -/
import Derived.Test.YtfciodbgjljjhaaW7
import Derived.Test.YtfciodbgjljjhaaEq
namespace Go.Proofs.Ytfciodbgjljjhaa
open Go.RowKit

theorem wanted_of {ops : Array Oper} {o : Oper} {a : Act} {g d : Nat} {b : Bool} (hg : o.guard = some (g, b)) (hd : (ops[g]?).bind (·.dst) = some d) (hv : a.tmps[d]? = some (.bool b)) : Region.wanted o (yielded ops a.tmps) = true := by
  unfold Region.wanted yielded
  simp only [hg, hd, Option.bind_some, hv]
  simp

theorem holds_new {base : Nat} (x : Option Value) (w : World) (o : Obj) (mk : Nat → Value) (h : holdsAt base (.inr (o, mk)) x w) : ∃ b, x = some (mk b) ∧ base ≤ b ∧ w.heap[b]? = some o := h

theorem cs8_ints (ks : List Nat) : cs8 ks = intCells .u8 (ks.map fun (n : Nat) => (n : Int)) := by simp [cs8, intCells]

/-- Two keys, compared. -/
theorem ok_eql_keys {base : Nat} {ops : Array Oper} {Q : Exit → Act → World → Prop} {o : Oper} {a : Act} {w : World} {x y : Nat} {t' : TypeId} (hw : Region.wanted o (yielded ops a.tmps) = true)
    (ho : o.op = .binOp .eql 23 (.tmp x) (.tmp y) t') (ls ms : List Int) (r : Bool) (ha : ls.length = 32) (hb : ms.length = 32) (hr : (ls == ms) = r) {A B : Array Value} (hx : a.tmps[x]? = some (.agg A)) (hy : a.tmps[y]? = some (.agg B)) (hA : A = intCells .u8 ls) (hB : B = intCells .u8 ms) :
    OpOk base Try.prog Q ops o (.inl (.bool r)) false a w := by
  subst hr hA hB
  exact ok_eql_ints 32 .u8 hw ho Try.underlying23 Try.underlying5 (by kernel_rfl) (by kernel_rfl) (by kernel_rfl) ls ms ha hb (by simp [Act.eval, hx]) (by simp [Act.eval, hy])

theorem row2 (x y : Nat) : Row #[.int .u64 (w0 x : Nat), .int .u64 (w1 x : Nat), .int .u64 (w2 x : Nat), .int .u64 (w3 x : Nat), .int .u64 (w0 y : Nat), .int .u64 (w1 y : Nat), .int .u64 (w2 y : Nat), .int .u64 (w3 y : Nat)] 2 (fun i => if i = 0 then x else y) := by
  intro i hi
  obtain rfl | rfl : i = 0 ∨ i = 1 := by omega
  all_goals exact ⟨rfl, rfl, rfl, rfl⟩
theorem row3 (x y z : Nat) : Row #[.int .u64 (w0 x : Nat), .int .u64 (w1 x : Nat), .int .u64 (w2 x : Nat), .int .u64 (w3 x : Nat), .int .u64 (w0 y : Nat), .int .u64 (w1 y : Nat), .int .u64 (w2 y : Nat), .int .u64 (w3 y : Nat), .int .u64 (w0 z : Nat), .int .u64 (w1 z : Nat), .int .u64 (w2 z : Nat), .int .u64 (w3 z : Nat)] 3 (fun i => if i = 0 then x else if i = 1 then y else z) := by
  intro i hi
  obtain rfl | rfl | rfl : i = 0 ∨ i = 1 ∨ i = 2 := by omega
  all_goals exact ⟨rfl, rfl, rfl, rfl⟩
theorem add2 (x y : Nat) (hx : x < pN) (hy : y < pN) (w : World) (b : Nat) (h : w.heap[b]? = some (.cells #[.int .u64 (w0 x : Nat), .int .u64 (w1 x : Nat), .int .u64 (w2 x : Nat), .int .u64 (w3 x : Nat), .int .u64 (w0 y : Nat), .int .u64 (w1 y : Nat), .int .u64 (w2 y : Nat), .int .u64 (w3 y : Nat)] 45)) :
    Calls Try.prog 33 #[.slice (some ⟨b, 0, none⟩) 2 2] w fun e w' => e = .returned (E4 ((x + y) % pN)) ∧ Below w.heap.size w w' :=
  add_raw b 1 1 _ (fun i => by split <;> assumption) _ _ _ (by omega) (by omega) (by omega) (row2 x y) w h
theorem mul2 (x y : Nat) (hx : x < pN) (hy : y < pN) (w : World) (b : Nat) (h : w.heap[b]? = some (.cells #[.int .u64 (w0 x : Nat), .int .u64 (w1 x : Nat), .int .u64 (w2 x : Nat), .int .u64 (w3 x : Nat), .int .u64 (w0 y : Nat), .int .u64 (w1 y : Nat), .int .u64 (w2 y : Nat), .int .u64 (w3 y : Nat)] 45)) :
    Calls Try.prog 20 #[.slice (some ⟨b, 0, none⟩) 2 2] w fun e w' => e = .returned (E4 (x * y % pN)) ∧ Below w.heap.size w w' :=
  mul_raw b 1 1 _ (fun i => by split <;> assumption) _ _ _ (by omega) (by omega) (by omega) (row2 x y) w h
theorem add3 (x y z : Nat) (hx : x < pN) (hy : y < pN) (hz : z < pN) (w : World) (b : Nat) (h : w.heap[b]? = some (.cells #[.int .u64 (w0 x : Nat), .int .u64 (w1 x : Nat), .int .u64 (w2 x : Nat), .int .u64 (w3 x : Nat), .int .u64 (w0 y : Nat), .int .u64 (w1 y : Nat), .int .u64 (w2 y : Nat), .int .u64 (w3 y : Nat), .int .u64 (w0 z : Nat), .int .u64 (w1 z : Nat), .int .u64 (w2 z : Nat), .int .u64 (w3 z : Nat)] 45)) :
    Calls Try.prog 33 #[.slice (some ⟨b, 0, none⟩) 3 3] w fun e w' => e = .returned (E4 (((x + y) % pN + z) % pN)) ∧ Below w.heap.size w w' :=
  add_raw b 2 2 _ (fun i => by split; assumption; split <;> assumption) _ _ _ (by omega) (by omega) (by omega) (row3 x y z) w h
theorem mul3 (x y z : Nat) (hx : x < pN) (hy : y < pN) (hz : z < pN) (w : World) (b : Nat) (h : w.heap[b]? = some (.cells #[.int .u64 (w0 x : Nat), .int .u64 (w1 x : Nat), .int .u64 (w2 x : Nat), .int .u64 (w3 x : Nat), .int .u64 (w0 y : Nat), .int .u64 (w1 y : Nat), .int .u64 (w2 y : Nat), .int .u64 (w3 y : Nat), .int .u64 (w0 z : Nat), .int .u64 (w1 z : Nat), .int .u64 (w2 z : Nat), .int .u64 (w3 z : Nat)] 45)) :
    Calls Try.prog 20 #[.slice (some ⟨b, 0, none⟩) 3 3] w fun e w' => e = .returned (E4 ((x * y % pN) * z % pN)) ∧ Below w.heap.size w w' :=
  mul_raw b 2 2 _ (fun i => by split; assumption; split <;> assumption) _ _ _ (by omega) (by omega) (by omega) (row3 x y z) w h
def inv7 : Nat := invTo 7 255
theorem inv_seven (w : World) : Calls Try.prog 21 #[E4 7] w fun e w' => e = .returned (E4 inv7) ∧ Below w.heap.size w w' := inv_any 7 (by decide) w
theorem inv7_lt : inv7 < pN := by decide +kernel
theorem inv7_one : 7 * inv7 % pN = 1 := by decide +kernel
theorem inv7_mul (w : World) (b : Nat) (h : w.heap[b]? = some (.cells #[.int .u64 (w0 7 : Nat), .int .u64 (w1 7 : Nat), .int .u64 (w2 7 : Nat), .int .u64 (w3 7 : Nat), .int .u64 (w0 inv7 : Nat), .int .u64 (w1 inv7 : Nat), .int .u64 (w2 inv7 : Nat), .int .u64 (w3 inv7 : Nat)] 45)) :
    Calls Try.prog 20 #[.slice (some ⟨b, 0, none⟩) 2 2] w fun e w' => e = .returned (E4 1) ∧ Below w.heap.size w w' := by
  have := mul2 7 inv7 (by decide) inv7_lt w b h
  rwa [inv7_one] at this
theorem bytes7 : Bytes [7, 0, 0, 0, 0, 0, 0, 0, 0, 0, 0, 0, 0, 0, 0, 0, 0, 0, 0, 0, 0, 0, 0, 0, 0, 0, 0, 0, 0, 0, 0, 0] := by
  refine ⟨rfl, fun i => ?_⟩
  rcases Nat.lt_or_ge i 32 with h | h
  · revert i; decide
  · simp [h]
theorem of_seven (w : World) : Calls Try.prog 16 #[.agg #[.int .u8 7, .int .u8 0, .int .u8 0, .int .u8 0, .int .u8 0, .int .u8 0, .int .u8 0, .int .u8 0, .int .u8 0, .int .u8 0, .int .u8 0, .int .u8 0, .int .u8 0, .int .u8 0, .int .u8 0, .int .u8 0, .int .u8 0, .int .u8 0, .int .u8 0, .int .u8 0, .int .u8 0, .int .u8 0, .int .u8 0, .int .u8 0, .int .u8 0, .int .u8 0, .int .u8 0, .int .u8 0, .int .u8 0, .int .u8 0, .int .u8 0, .int .u8 0]] w fun e w' => e = .returned (E4 7) ∧ Below w.heap.size w w' := by
  have h := of_any _ bytes7 w
  rw [show numOf [7, 0, 0, 0, 0, 0, 0, 0, 0, 0, 0, 0, 0, 0, 0, 0, 0, 0, 0, 0, 0, 0, 0, 0, 0, 0, 0, 0, 0, 0, 0, 0] % pN = 7 by decide +kernel] at h
  exact h

end Go.Proofs.Ytfciodbgjljjhaa
