/- What 'wakes' of the statements of layer 1 comes to: true. -/
import Derived.Test.YtpgmaidbemndnaaW7
import Derived.Test.YtpgmaidbemndnaaEq
namespace Go.Proofs.Ytpgmaidbemndnaa
open Go.RowKit

theorem wanted_of {ops : Array Oper} {o : Oper} {a : Act} {g d : Nat} {b : Bool} (hg : o.guard = some (g, b)) (hd : (ops[g]?).bind (·.dst) = some d) (hv : a.tmps[d]? = some (.bool b)) : Region.wanted o (yielded ops a.tmps) = true := by
  unfold Region.wanted yielded
  simp only [hg, hd, Option.bind_some, hv]
  simp

theorem holds_new {base : Nat} (x : Option Value) (w : World) (o : Obj) (mk : Nat → Value) (h : holdsAt base (.inr (o, mk)) x w) : ∃ b, x = some (mk b) ∧ base ≤ b ∧ w.heap[b]? = some o := h

theorem cs8_ints (ks : List Nat) : cs8 ks = intCells .u8 (ks.map fun (n : Nat) => (n : Int)) := by simp [cs8, intCells]

/-- Two keys, compared. -/
theorem ok_eql_keys {base : Nat} {ops : Array Oper} {Q : Exit → Act → World → Prop} {o : Oper} {a : Act} {w : World} {x y : Nat} {t' : TypeId} (hw : Region.wanted o (yielded ops a.tmps) = true)
    (ho : o.op = .binOp .eql 23 (.tmp x) (.tmp y) t') (ls ms : List Int) (r : Bool) (ha : ls.length = 32) (hb : ms.length = 32) (hr : (ls == ms) = r) {A B : Array Value} (hx : a.tmps[x]? = some (.agg A)) (hy : a.tmps[y]? = some (.agg B)) (hA : A = intCells .u8 ls) (hB : B = intCells .u8 ms) :
    OpOk base Try.prog Q ops o (.inl (.bool r)) false a w := by
  subst hr hA hB
  exact ok_eql_ints 32 .u8 hw ho Try.underlying23 Try.underlying5 (by kernel_rfl) (by kernel_rfl) (by kernel_rfl) ls ms ha hb (by simp [Act.eval, hx]) (by simp [Act.eval, hy])

theorem row2 (x y : Nat) : Row #[.int .u64 (w0 x : Nat), .int .u64 (w1 x : Nat), .int .u64 (w2 x : Nat), .int .u64 (w3 x : Nat), .int .u64 (w0 y : Nat), .int .u64 (w1 y : Nat), .int .u64 (w2 y : Nat), .int .u64 (w3 y : Nat)] 2 (fun i => if i = 0 then x else y) := by
  intro i hi
  obtain rfl | rfl : i = 0 ∨ i = 1 := by omega
  all_goals exact ⟨rfl, rfl, rfl, rfl⟩
theorem row3 (x y z : Nat) : Row #[.int .u64 (w0 x : Nat), .int .u64 (w1 x : Nat), .int .u64 (w2 x : Nat), .int .u64 (w3 x : Nat), .int .u64 (w0 y : Nat), .int .u64 (w1 y : Nat), .int .u64 (w2 y : Nat), .int .u64 (w3 y : Nat), .int .u64 (w0 z : Nat), .int .u64 (w1 z : Nat), .int .u64 (w2 z : Nat), .int .u64 (w3 z : Nat)] 3 (fun i => if i = 0 then x else if i = 1 then y else z) := by
  intro i hi
  obtain rfl | rfl | rfl : i = 0 ∨ i = 1 ∨ i = 2 := by omega
  all_goals exact ⟨rfl, rfl, rfl, rfl⟩
theorem add2 (x y : Nat) (hx : x < pN) (hy : y < pN) (w : World) (b : Nat) (h : w.heap[b]? = some (.cells #[.int .u64 (w0 x : Nat), .int .u64 (w1 x : Nat), .int .u64 (w2 x : Nat), .int .u64 (w3 x : Nat), .int .u64 (w0 y : Nat), .int .u64 (w1 y : Nat), .int .u64 (w2 y : Nat), .int .u64 (w3 y : Nat)] 30)) :
    Calls Try.prog 23 #[.slice (some ⟨b, 0, none⟩) 2 2] w fun e w' => e = .returned (E4 ((x + y) % pN)) ∧ Below w.heap.size w w' :=
  add_raw b 1 1 _ (fun i => by split <;> assumption) _ _ _ (by omega) (by omega) (by omega) (row2 x y) w h
theorem mul2 (x y : Nat) (hx : x < pN) (hy : y < pN) (w : World) (b : Nat) (h : w.heap[b]? = some (.cells #[.int .u64 (w0 x : Nat), .int .u64 (w1 x : Nat), .int .u64 (w2 x : Nat), .int .u64 (w3 x : Nat), .int .u64 (w0 y : Nat), .int .u64 (w1 y : Nat), .int .u64 (w2 y : Nat), .int .u64 (w3 y : Nat)] 30)) :
    Calls Try.prog 24 #[.slice (some ⟨b, 0, none⟩) 2 2] w fun e w' => e = .returned (E4 (x * y % pN)) ∧ Below w.heap.size w w' :=
  mul_raw b 1 1 _ (fun i => by split <;> assumption) _ _ _ (by omega) (by omega) (by omega) (row2 x y) w h
theorem add3 (x y z : Nat) (hx : x < pN) (hy : y < pN) (hz : z < pN) (w : World) (b : Nat) (h : w.heap[b]? = some (.cells #[.int .u64 (w0 x : Nat), .int .u64 (w1 x : Nat), .int .u64 (w2 x : Nat), .int .u64 (w3 x : Nat), .int .u64 (w0 y : Nat), .int .u64 (w1 y : Nat), .int .u64 (w2 y : Nat), .int .u64 (w3 y : Nat), .int .u64 (w0 z : Nat), .int .u64 (w1 z : Nat), .int .u64 (w2 z : Nat), .int .u64 (w3 z : Nat)] 30)) :
    Calls Try.prog 23 #[.slice (some ⟨b, 0, none⟩) 3 3] w fun e w' => e = .returned (E4 (((x + y) % pN + z) % pN)) ∧ Below w.heap.size w w' :=
  add_raw b 2 2 _ (fun i => by split; assumption; split <;> assumption) _ _ _ (by omega) (by omega) (by omega) (row3 x y z) w h
theorem mul3 (x y z : Nat) (hx : x < pN) (hy : y < pN) (hz : z < pN) (w : World) (b : Nat) (h : w.heap[b]? = some (.cells #[.int .u64 (w0 x : Nat), .int .u64 (w1 x : Nat), .int .u64 (w2 x : Nat), .int .u64 (w3 x : Nat), .int .u64 (w0 y : Nat), .int .u64 (w1 y : Nat), .int .u64 (w2 y : Nat), .int .u64 (w3 y : Nat), .int .u64 (w0 z : Nat), .int .u64 (w1 z : Nat), .int .u64 (w2 z : Nat), .int .u64 (w3 z : Nat)] 30)) :
    Calls Try.prog 24 #[.slice (some ⟨b, 0, none⟩) 3 3] w fun e w' => e = .returned (E4 ((x * y % pN) * z % pN)) ∧ Below w.heap.size w w' :=
  mul_raw b 2 2 _ (fun i => by split; assumption; split <;> assumption) _ _ _ (by omega) (by omega) (by omega) (row3 x y z) w h
/-- Two numbers that are one. -/
theorem same_eq (x y : Nat) (hx : x < pN) (hy : y < pN) (r : Bool) (h : (x == y) = r) (w : World) : Calls Try.prog 19 #[E4 x, E4 y] w fun e w' => e = .returned (.bool r) ∧ Below w.heap.size w w' := by
  subst h
  exact same_any x y (Nat.lt_trans hx pN_top) (Nat.lt_trans hy pN_top) w


def inv7 : Nat := invTo 7 255
theorem inv_seven (w : World) : Calls Try.prog 16 #[E4 7] w fun e w' => e = .returned (E4 inv7) ∧ Below w.heap.size w w' := inv_any 7 (by decide) w
theorem inv7_lt : inv7 < pN := by decide +kernel
theorem inv7_one : 7 * inv7 % pN = 1 := by decide +kernel
theorem inv7_mul (w : World) (b : Nat) (h : w.heap[b]? = some (.cells #[.int .u64 (w0 7 : Nat), .int .u64 (w1 7 : Nat), .int .u64 (w2 7 : Nat), .int .u64 (w3 7 : Nat), .int .u64 (w0 inv7 : Nat), .int .u64 (w1 inv7 : Nat), .int .u64 (w2 inv7 : Nat), .int .u64 (w3 inv7 : Nat)] 30)) :
    Calls Try.prog 24 #[.slice (some ⟨b, 0, none⟩) 2 2] w fun e w' => e = .returned (E4 1) ∧ Below w.heap.size w w' := by
  have := mul2 7 inv7 (by decide) inv7_lt w b h
  rwa [inv7_one] at this
theorem bytes7 : Bytes [7, 0, 0, 0, 0, 0, 0, 0, 0, 0, 0, 0, 0, 0, 0, 0, 0, 0, 0, 0, 0, 0, 0, 0, 0, 0, 0, 0, 0, 0, 0, 0] := by
  refine ⟨rfl, fun i => ?_⟩
  rcases Nat.lt_or_ge i 32 with h | h
  · revert i; decide
  · simp [h]
theorem of_seven (w : World) : Calls Try.prog 8 #[.agg #[.int .u8 7, .int .u8 0, .int .u8 0, .int .u8 0, .int .u8 0, .int .u8 0, .int .u8 0, .int .u8 0, .int .u8 0, .int .u8 0, .int .u8 0, .int .u8 0, .int .u8 0, .int .u8 0, .int .u8 0, .int .u8 0, .int .u8 0, .int .u8 0, .int .u8 0, .int .u8 0, .int .u8 0, .int .u8 0, .int .u8 0, .int .u8 0, .int .u8 0, .int .u8 0, .int .u8 0, .int .u8 0, .int .u8 0, .int .u8 0, .int .u8 0, .int .u8 0]] w fun e w' => e = .returned (E4 7) ∧ Below w.heap.size w w' := by
  have h := of_any _ bytes7 w
  rw [show numOf [7, 0, 0, 0, 0, 0, 0, 0, 0, 0, 0, 0, 0, 0, 0, 0, 0, 0, 0, 0, 0, 0, 0, 0, 0, 0, 0, 0, 0, 0, 0, 0] % pN = 7 by decide +kernel] at h
  exact h

set_option maxRecDepth 100000 in
set_option maxHeartbeats 4000000 in
theorem wakes_any (w : World) : Calls Try.prog 20 #[] w fun e w' => e = .returned (.bool true) ∧ Below w.heap.size w w' := by
  go_enter Try.func20, Try.ntmps20
  go_wp2_with fail
  refine (num_any 7 (by decide) _).mono ?_
  rintro e u1 ⟨rfl, hb1⟩
  have HB1 : Hid _ := hb1
  clear hb1
  go_wp2_with fail
  refine (num_any 5 (by decide) _).mono ?_
  rintro e u2 ⟨rfl, hb2⟩
  have HB2 : Hid (Below w.heap.size w u2) := HB1.out.trans (hb2.mono HB1.out.size)
  clear hb2 HB1
  go_wp2_with fail
  generalize hW : (u2.alloc (Obj.cells #[Value.int IntKind.u64 ↑(w0 7), Value.int IntKind.u64 ↑(w1 7), Value.int IntKind.u64 ↑(w2 7), Value.int IntKind.u64 ↑(w3 7)] 30)).alloc
    (Obj.cells #[Value.int IntKind.u64 ↑(w0 5), Value.int IntKind.u64 ↑(w1 5), Value.int IntKind.u64 ↑(w2 5), Value.int IntKind.u64 ↑(w3 5)] 30) = W
  have X : W.heap[u2.heap.size]? = some (.cells #[.int .u64 (w0 7), .int .u64 (w1 7), .int .u64 (w2 7), .int .u64 (w3 7)] 30) := by rw [← hW, heap_old _ _ (by simp)]; exact heap_new _ _
  have Y : W.heap[u2.heap.size + 1]? = some (.cells #[.int .u64 (w0 5), .int .u64 (w1 5), .int .u64 (w2 5), .int .u64 (w3 5)] 30) := by rw [← hW]; exact heap_new' _ _ (by simp)
  have B0 : Below w.heap.size w W := by rw [← hW]; exact (HB2.out.alloc HB2.out.size _).alloc (by have := HB2.out.size; simp; omega) _
  clear hW HB2
  generalize u2.heap.size = g1 at *
  have A1 : ∀ {v : World}, Below W.heap.size W v → v.heap[g1]? = some (.cells #[.int .u64 (w0 7), .int .u64 (w1 7), .int .u64 (w2 7), .int .u64 (w3 7)] 30) := fun hC => keep hC X
  have B1 : ∀ {v : World}, Below W.heap.size W v → v.heap[g1 + 1]? = some (.cells #[.int .u64 (w0 5), .int .u64 (w1 5), .int .u64 (w2 5), .int .u64 (w3 5)] 30) := fun hC => keep hC Y
  refine region_list W.heap.size (C := fun w' => Below W.heap.size W w') [.inl (E4 7),
    .inl (E4 5),
    .inr (.cells #[.int .u64 (w0 7 : Nat), .int .u64 (w1 7 : Nat), .int .u64 (w2 7 : Nat), .int .u64 (w3 7 : Nat), .int .u64 (w0 5 : Nat), .int .u64 (w1 5 : Nat), .int .u64 (w2 5 : Nat), .int .u64 (w3 5 : Nat)] 30, fun b => .slice (some ⟨b, 0, none⟩) 2 2),
    .inl (E4 12),
    .inl (.agg (cs8 (keyL 12))),
    .inl (.agg #[.int .u8 12, .int .u8 0, .int .u8 0, .int .u8 0, .int .u8 0, .int .u8 0, .int .u8 0, .int .u8 0, .int .u8 0, .int .u8 0, .int .u8 0, .int .u8 0, .int .u8 0, .int .u8 0, .int .u8 0, .int .u8 0, .int .u8 0, .int .u8 0, .int .u8 0, .int .u8 0, .int .u8 0, .int .u8 0, .int .u8 0, .int .u8 0, .int .u8 0, .int .u8 0, .int .u8 0, .int .u8 0, .int .u8 0, .int .u8 0, .int .u8 0, .int .u8 0]),
    .inl (.bool true),
    .inl (.bool true),
    .inl (E4 7),
    .inl (E4 5),
    .inr (.cells #[.int .u64 (w0 7 : Nat), .int .u64 (w1 7 : Nat), .int .u64 (w2 7 : Nat), .int .u64 (w3 7 : Nat), .int .u64 (w0 5 : Nat), .int .u64 (w1 5 : Nat), .int .u64 (w2 5 : Nat), .int .u64 (w3 5 : Nat)] 30, fun b => .slice (some ⟨b, 0, none⟩) 2 2),
    .inl (E4 35),
    .inl (.agg (cs8 (keyL 35))),
    .inl (.agg #[.int .u8 35, .int .u8 0, .int .u8 0, .int .u8 0, .int .u8 0, .int .u8 0, .int .u8 0, .int .u8 0, .int .u8 0, .int .u8 0, .int .u8 0, .int .u8 0, .int .u8 0, .int .u8 0, .int .u8 0, .int .u8 0, .int .u8 0, .int .u8 0, .int .u8 0, .int .u8 0, .int .u8 0, .int .u8 0, .int .u8 0, .int .u8 0, .int .u8 0, .int .u8 0, .int .u8 0, .int .u8 0, .int .u8 0, .int .u8 0, .int .u8 0, .int .u8 0]),
    .inl (.bool true),
    .inl (.bool true),
    .inl (.bool true),
    .inl (E4 7),
    .inl (E4 5),
    .inl (E4 2),
    .inl (.agg (cs8 (keyL 2))),
    .inl (.agg #[.int .u8 2, .int .u8 0, .int .u8 0, .int .u8 0, .int .u8 0, .int .u8 0, .int .u8 0, .int .u8 0, .int .u8 0, .int .u8 0, .int .u8 0, .int .u8 0, .int .u8 0, .int .u8 0, .int .u8 0, .int .u8 0, .int .u8 0, .int .u8 0, .int .u8 0, .int .u8 0, .int .u8 0, .int .u8 0, .int .u8 0, .int .u8 0, .int .u8 0, .int .u8 0, .int .u8 0, .int .u8 0, .int .u8 0, .int .u8 0, .int .u8 0, .int .u8 0]),
    .inl (.bool true),
    .inl (.bool true),
    .inl (.bool true),
    .inl (E4 7),
    .inl (.agg #[.int .u8 7, .int .u8 0, .int .u8 0, .int .u8 0, .int .u8 0, .int .u8 0, .int .u8 0, .int .u8 0, .int .u8 0, .int .u8 0, .int .u8 0, .int .u8 0, .int .u8 0, .int .u8 0, .int .u8 0, .int .u8 0, .int .u8 0, .int .u8 0, .int .u8 0, .int .u8 0, .int .u8 0, .int .u8 0, .int .u8 0, .int .u8 0, .int .u8 0, .int .u8 0, .int .u8 0, .int .u8 0, .int .u8 0, .int .u8 0, .int .u8 0, .int .u8 0]),
    .inl (E4 7),
    .inl (.bool true),
    .inl (.bool true),
    .inl (.bool true),
    .inl (E4 7),
    .inl (E4 5),
    .inl (.bool false),
    .inl (.bool true),
    .inl (.bool true),
    .inl (.bool true),
    .inl (E4 7),
    .inl (E4 7),
    .inl (E4 inv7),
    .inr (.cells #[.int .u64 (w0 7 : Nat), .int .u64 (w1 7 : Nat), .int .u64 (w2 7 : Nat), .int .u64 (w3 7 : Nat), .int .u64 (w0 inv7 : Nat), .int .u64 (w1 inv7 : Nat), .int .u64 (w2 inv7 : Nat), .int .u64 (w3 inv7 : Nat)] 30, fun b => .slice (some ⟨b, 0, none⟩) 2 2),
    .inl (E4 1),
    .inl (E4 1),
    .inl (.bool true),
    .inl (.bool true),
    .inl (.bool true),
    .inl (E4 7),
    .inl (E4 5),
    .inl (E4 5),
    .inl (.agg (cs8 (keyL 5))),
    .inl (.agg #[.int .u8 5, .int .u8 0, .int .u8 0, .int .u8 0, .int .u8 0, .int .u8 0, .int .u8 0, .int .u8 0, .int .u8 0, .int .u8 0, .int .u8 0, .int .u8 0, .int .u8 0, .int .u8 0, .int .u8 0, .int .u8 0, .int .u8 0, .int .u8 0, .int .u8 0, .int .u8 0, .int .u8 0, .int .u8 0, .int .u8 0, .int .u8 0, .int .u8 0, .int .u8 0, .int .u8 0, .int .u8 0, .int .u8 0, .int .u8 0, .int .u8 0, .int .u8 0]),
    .inl (.bool true),
    .inl (.bool true),
    .inl (.bool true)] [] (by kernel_rfl) (by kernel_rfl) ⟨rfl, rfl, rfl, Nat.le_refl _, fun _ _ => rfl⟩
    (fun w1 w2 h1 h2 => h1.trans (h2.mono h1.size)) (fun i h => by simp at h) ?_ ?_
  · refine ⟨?_, ?_, ?_, ?_, ?_, ?_, ?_, ?_, ?_, ?_, ?_, ?_, ?_, ?_, ?_, ?_, ?_, ?_, ?_, ?_, ?_, ?_, ?_, ?_, ?_, ?_, ?_, ?_, ?_, ?_, ?_, ?_, ?_, ?_, ?_, ?_, ?_, ?_, ?_, ?_, ?_, ?_, ?_, ?_, ?_, ?_, ?_, ?_, ?_, ?_, ?_, ?_, ?_, ?_, trivial⟩
    · intro s v hC hk hd
      have h : s.tmps[1]? = some (.pointer (some ⟨g1, 0, none⟩)) := hk 1 (by kernel_rfl)
      exact ok_load rfl rfl h (A1 hC) Try.underlying30 rfl (by kernel_rfl) rfl
    · intro s v hC hk hd
      have h : s.tmps[2]? = some (.pointer (some ⟨g1 + 1, 0, none⟩)) := hk 2 (by kernel_rfl)
      exact ok_load rfl rfl h (B1 hC) Try.underlying30 rfl (by kernel_rfl) rfl
    · intro s v hC hk hd
      have h0 : s.tmps[5]? = some (E4 7) := hd 0 (by kernel_rfl)
      have h1 : s.tmps[6]? = some (E4 5) := hd 1 (by kernel_rfl)
      exact ok_new hC.size rfl (by simp [execOp, Act.eval, h0, h1, go_sem])
    · intro s v hC hk hd
      obtain ⟨h0b, h0, h0l, h0h⟩ := holds_new (s.tmps[7]?) v (.cells #[.int .u64 (w0 7 : Nat), .int .u64 (w1 7 : Nat), .int .u64 (w2 7 : Nat), .int .u64 (w3 7 : Nat), .int .u64 (w0 5 : Nat), .int .u64 (w1 5 : Nat), .int .u64 (w2 5 : Nat), .int .u64 (w3 5 : Nat)] 30) (fun b => .slice (some ⟨b, 0, none⟩) 2 2) (hd 2 (by kernel_rfl))
      exact ok_call rfl (by simp [Act.eval, h0, go_sem]) (add2 7 5 (by decide) (by decide) v h0b h0h)
    · intro s v hC hk hd
      have h0 : s.tmps[8]? = some (E4 12) := hd 3 (by kernel_rfl)
      exact ok_call rfl (by simp [Act.eval, h0, go_sem]) (key_any 12 v)
    · intro s v hC hk hd
      exact ok_value rfl (by simp [execOp, Act.eval, go_sem])
    · intro s v hC hk hd
      have h0 : s.tmps[9]? = some (.agg (cs8 (keyL 12))) := hd 4 (by kernel_rfl)
      have h1 : s.tmps[10]? = some (.agg #[.int .u8 12, .int .u8 0, .int .u8 0, .int .u8 0, .int .u8 0, .int .u8 0, .int .u8 0, .int .u8 0, .int .u8 0, .int .u8 0, .int .u8 0, .int .u8 0, .int .u8 0, .int .u8 0, .int .u8 0, .int .u8 0, .int .u8 0, .int .u8 0, .int .u8 0, .int .u8 0, .int .u8 0, .int .u8 0, .int .u8 0, .int .u8 0, .int .u8 0, .int .u8 0, .int .u8 0, .int .u8 0, .int .u8 0, .int .u8 0, .int .u8 0, .int .u8 0]) := hd 5 (by kernel_rfl)
      exact ok_eql_keys rfl rfl ((keyL 12).map fun (n : Nat) => (n : Int)) [12, 0, 0, 0, 0, 0, 0, 0, 0, 0, 0, 0, 0, 0, 0, 0, 0, 0, 0, 0, 0, 0, 0, 0, 0, 0, 0, 0, 0, 0, 0, 0] true (by decide +kernel) (by decide) (by decide +kernel) h0 h1 (cs8_ints _) rfl
    · intro s v hC hk hd
      have h : s.tmps[11]? = some (.bool true) := hd 6 (by kernel_rfl)
      exact ok_value rfl (by simp [execOp, Act.eval, h])
    · intro s v hC hk hd
      have h : s.tmps[1]? = some (.pointer (some ⟨g1, 0, none⟩)) := hk 1 (by kernel_rfl)
      exact ok_load (wanted_of rfl rfl (hd 7 (by kernel_rfl))) rfl h (A1 hC) Try.underlying30 rfl (by kernel_rfl) rfl
    · intro s v hC hk hd
      have h : s.tmps[2]? = some (.pointer (some ⟨g1 + 1, 0, none⟩)) := hk 2 (by kernel_rfl)
      exact ok_load (wanted_of rfl rfl (hd 7 (by kernel_rfl))) rfl h (B1 hC) Try.underlying30 rfl (by kernel_rfl) rfl
    · intro s v hC hk hd
      have h0 : s.tmps[13]? = some (E4 7) := hd 8 (by kernel_rfl)
      have h1 : s.tmps[14]? = some (E4 5) := hd 9 (by kernel_rfl)
      exact ok_new hC.size (wanted_of rfl rfl (hd 7 (by kernel_rfl))) (by simp [execOp, Act.eval, h0, h1, go_sem])
    · intro s v hC hk hd
      obtain ⟨h0b, h0, h0l, h0h⟩ := holds_new (s.tmps[15]?) v (.cells #[.int .u64 (w0 7 : Nat), .int .u64 (w1 7 : Nat), .int .u64 (w2 7 : Nat), .int .u64 (w3 7 : Nat), .int .u64 (w0 5 : Nat), .int .u64 (w1 5 : Nat), .int .u64 (w2 5 : Nat), .int .u64 (w3 5 : Nat)] 30) (fun b => .slice (some ⟨b, 0, none⟩) 2 2) (hd 10 (by kernel_rfl))
      exact ok_call (wanted_of rfl rfl (hd 7 (by kernel_rfl))) (by simp [Act.eval, h0, go_sem]) (mul2 7 5 (by decide) (by decide) v h0b h0h)
    · intro s v hC hk hd
      have h0 : s.tmps[16]? = some (E4 35) := hd 11 (by kernel_rfl)
      exact ok_call (wanted_of rfl rfl (hd 7 (by kernel_rfl))) (by simp [Act.eval, h0, go_sem]) (key_any 35 v)
    · intro s v hC hk hd
      exact ok_value (wanted_of rfl rfl (hd 7 (by kernel_rfl))) (by simp [execOp, Act.eval, go_sem])
    · intro s v hC hk hd
      have h0 : s.tmps[17]? = some (.agg (cs8 (keyL 35))) := hd 12 (by kernel_rfl)
      have h1 : s.tmps[18]? = some (.agg #[.int .u8 35, .int .u8 0, .int .u8 0, .int .u8 0, .int .u8 0, .int .u8 0, .int .u8 0, .int .u8 0, .int .u8 0, .int .u8 0, .int .u8 0, .int .u8 0, .int .u8 0, .int .u8 0, .int .u8 0, .int .u8 0, .int .u8 0, .int .u8 0, .int .u8 0, .int .u8 0, .int .u8 0, .int .u8 0, .int .u8 0, .int .u8 0, .int .u8 0, .int .u8 0, .int .u8 0, .int .u8 0, .int .u8 0, .int .u8 0, .int .u8 0, .int .u8 0]) := hd 13 (by kernel_rfl)
      exact ok_eql_keys (wanted_of rfl rfl (hd 7 (by kernel_rfl))) rfl ((keyL 35).map fun (n : Nat) => (n : Int)) [35, 0, 0, 0, 0, 0, 0, 0, 0, 0, 0, 0, 0, 0, 0, 0, 0, 0, 0, 0, 0, 0, 0, 0, 0, 0, 0, 0, 0, 0, 0, 0] true (by decide +kernel) (by decide) (by decide +kernel) h0 h1 (cs8_ints _) rfl
    · intro s v hC hk hd
      have h0 : s.tmps[12]? = some (.bool true) := hd 7 (by kernel_rfl)
      have h1 : s.tmps[19]? = some (.bool true) := hd 14 (by kernel_rfl)
      exact ok_value rfl (by simp [execOp, Act.eval, h0, h1, go_sem])
    · intro s v hC hk hd
      have h : s.tmps[20]? = some (.bool true) := hd 15 (by kernel_rfl)
      exact ok_value rfl (by simp [execOp, Act.eval, h])
    · intro s v hC hk hd
      have h : s.tmps[1]? = some (.pointer (some ⟨g1, 0, none⟩)) := hk 1 (by kernel_rfl)
      exact ok_load (wanted_of rfl rfl (hd 16 (by kernel_rfl))) rfl h (A1 hC) Try.underlying30 rfl (by kernel_rfl) rfl
    · intro s v hC hk hd
      have h : s.tmps[2]? = some (.pointer (some ⟨g1 + 1, 0, none⟩)) := hk 2 (by kernel_rfl)
      exact ok_load (wanted_of rfl rfl (hd 16 (by kernel_rfl))) rfl h (B1 hC) Try.underlying30 rfl (by kernel_rfl) rfl
    · intro s v hC hk hd
      have h0 : s.tmps[22]? = some (E4 7) := hd 17 (by kernel_rfl)
      have h1 : s.tmps[23]? = some (E4 5) := hd 18 (by kernel_rfl)
      exact ok_call (wanted_of rfl rfl (hd 16 (by kernel_rfl))) (by simp [Act.eval, h0, h1, go_sem]) (sub_any 7 5 (by decide) (by decide) v)
    · intro s v hC hk hd
      have h0 : s.tmps[24]? = some (E4 2) := hd 19 (by kernel_rfl)
      exact ok_call (wanted_of rfl rfl (hd 16 (by kernel_rfl))) (by simp [Act.eval, h0, go_sem]) (key_any 2 v)
    · intro s v hC hk hd
      exact ok_value (wanted_of rfl rfl (hd 16 (by kernel_rfl))) (by simp [execOp, Act.eval, go_sem])
    · intro s v hC hk hd
      have h0 : s.tmps[25]? = some (.agg (cs8 (keyL 2))) := hd 20 (by kernel_rfl)
      have h1 : s.tmps[26]? = some (.agg #[.int .u8 2, .int .u8 0, .int .u8 0, .int .u8 0, .int .u8 0, .int .u8 0, .int .u8 0, .int .u8 0, .int .u8 0, .int .u8 0, .int .u8 0, .int .u8 0, .int .u8 0, .int .u8 0, .int .u8 0, .int .u8 0, .int .u8 0, .int .u8 0, .int .u8 0, .int .u8 0, .int .u8 0, .int .u8 0, .int .u8 0, .int .u8 0, .int .u8 0, .int .u8 0, .int .u8 0, .int .u8 0, .int .u8 0, .int .u8 0, .int .u8 0, .int .u8 0]) := hd 21 (by kernel_rfl)
      exact ok_eql_keys (wanted_of rfl rfl (hd 16 (by kernel_rfl))) rfl ((keyL 2).map fun (n : Nat) => (n : Int)) [2, 0, 0, 0, 0, 0, 0, 0, 0, 0, 0, 0, 0, 0, 0, 0, 0, 0, 0, 0, 0, 0, 0, 0, 0, 0, 0, 0, 0, 0, 0, 0] true (by decide +kernel) (by decide) (by decide +kernel) h0 h1 (cs8_ints _) rfl
    · intro s v hC hk hd
      have h0 : s.tmps[21]? = some (.bool true) := hd 16 (by kernel_rfl)
      have h1 : s.tmps[27]? = some (.bool true) := hd 22 (by kernel_rfl)
      exact ok_value rfl (by simp [execOp, Act.eval, h0, h1, go_sem])
    · intro s v hC hk hd
      have h : s.tmps[28]? = some (.bool true) := hd 23 (by kernel_rfl)
      exact ok_value rfl (by simp [execOp, Act.eval, h])
    · intro s v hC hk hd
      have h : s.tmps[1]? = some (.pointer (some ⟨g1, 0, none⟩)) := hk 1 (by kernel_rfl)
      exact ok_load (wanted_of rfl rfl (hd 24 (by kernel_rfl))) rfl h (A1 hC) Try.underlying30 rfl (by kernel_rfl) rfl
    · intro s v hC hk hd
      exact ok_value (wanted_of rfl rfl (hd 24 (by kernel_rfl))) (by simp [execOp, Act.eval, go_sem])
    · intro s v hC hk hd
      have h0 : s.tmps[31]? = some (.agg #[.int .u8 7, .int .u8 0, .int .u8 0, .int .u8 0, .int .u8 0, .int .u8 0, .int .u8 0, .int .u8 0, .int .u8 0, .int .u8 0, .int .u8 0, .int .u8 0, .int .u8 0, .int .u8 0, .int .u8 0, .int .u8 0, .int .u8 0, .int .u8 0, .int .u8 0, .int .u8 0, .int .u8 0, .int .u8 0, .int .u8 0, .int .u8 0, .int .u8 0, .int .u8 0, .int .u8 0, .int .u8 0, .int .u8 0, .int .u8 0, .int .u8 0, .int .u8 0]) := hd 26 (by kernel_rfl)
      exact ok_call (wanted_of rfl rfl (hd 24 (by kernel_rfl))) (by simp [Act.eval, h0, go_sem]) (of_seven v)
    · intro s v hC hk hd
      have h0 : s.tmps[30]? = some (E4 7) := hd 25 (by kernel_rfl)
      have h1 : s.tmps[32]? = some (E4 7) := hd 27 (by kernel_rfl)
      exact ok_call (wanted_of rfl rfl (hd 24 (by kernel_rfl))) (by simp [Act.eval, h0, h1, go_sem]) (same_eq 7 7 (by decide) (by decide) true rfl v)
    · intro s v hC hk hd
      have h0 : s.tmps[29]? = some (.bool true) := hd 24 (by kernel_rfl)
      have h1 : s.tmps[33]? = some (.bool true) := hd 28 (by kernel_rfl)
      exact ok_value rfl (by simp [execOp, Act.eval, h0, h1, go_sem])
    · intro s v hC hk hd
      have h : s.tmps[34]? = some (.bool true) := hd 29 (by kernel_rfl)
      exact ok_value rfl (by simp [execOp, Act.eval, h])
    · intro s v hC hk hd
      have h : s.tmps[1]? = some (.pointer (some ⟨g1, 0, none⟩)) := hk 1 (by kernel_rfl)
      exact ok_load (wanted_of rfl rfl (hd 30 (by kernel_rfl))) rfl h (A1 hC) Try.underlying30 rfl (by kernel_rfl) rfl
    · intro s v hC hk hd
      have h : s.tmps[2]? = some (.pointer (some ⟨g1 + 1, 0, none⟩)) := hk 2 (by kernel_rfl)
      exact ok_load (wanted_of rfl rfl (hd 30 (by kernel_rfl))) rfl h (B1 hC) Try.underlying30 rfl (by kernel_rfl) rfl
    · intro s v hC hk hd
      have h0 : s.tmps[36]? = some (E4 7) := hd 31 (by kernel_rfl)
      have h1 : s.tmps[37]? = some (E4 5) := hd 32 (by kernel_rfl)
      exact ok_call (wanted_of rfl rfl (hd 30 (by kernel_rfl))) (by simp [Act.eval, h0, h1, go_sem]) (same_eq 7 5 (by decide) (by decide) false rfl v)
    · intro s v hC hk hd
      have h : s.tmps[38]? = some (.bool false) := hd 33 (by kernel_rfl)
      exact ok_value (wanted_of rfl rfl (hd 30 (by kernel_rfl))) (by simp [execOp, Act.eval, h, go_sem])
    · intro s v hC hk hd
      have h0 : s.tmps[35]? = some (.bool true) := hd 30 (by kernel_rfl)
      have h1 : s.tmps[39]? = some (.bool true) := hd 34 (by kernel_rfl)
      exact ok_value rfl (by simp [execOp, Act.eval, h0, h1, go_sem])
    · intro s v hC hk hd
      have h : s.tmps[40]? = some (.bool true) := hd 35 (by kernel_rfl)
      exact ok_value rfl (by simp [execOp, Act.eval, h])
    · intro s v hC hk hd
      have h : s.tmps[1]? = some (.pointer (some ⟨g1, 0, none⟩)) := hk 1 (by kernel_rfl)
      exact ok_load (wanted_of rfl rfl (hd 36 (by kernel_rfl))) rfl h (A1 hC) Try.underlying30 rfl (by kernel_rfl) rfl
    · intro s v hC hk hd
      have h : s.tmps[1]? = some (.pointer (some ⟨g1, 0, none⟩)) := hk 1 (by kernel_rfl)
      exact ok_load (wanted_of rfl rfl (hd 36 (by kernel_rfl))) rfl h (A1 hC) Try.underlying30 rfl (by kernel_rfl) rfl
    · intro s v hC hk hd
      have h0 : s.tmps[43]? = some (E4 7) := hd 38 (by kernel_rfl)
      exact ok_call (wanted_of rfl rfl (hd 36 (by kernel_rfl))) (by simp [Act.eval, h0, go_sem]) (inv_seven v)
    · intro s v hC hk hd
      have h0 : s.tmps[42]? = some (E4 7) := hd 37 (by kernel_rfl)
      have h1 : s.tmps[44]? = some (E4 inv7) := hd 39 (by kernel_rfl)
      exact ok_new hC.size (wanted_of rfl rfl (hd 36 (by kernel_rfl))) (by simp [execOp, Act.eval, h0, h1, go_sem])
    · intro s v hC hk hd
      obtain ⟨h0b, h0, h0l, h0h⟩ := holds_new (s.tmps[45]?) v (.cells #[.int .u64 (w0 7 : Nat), .int .u64 (w1 7 : Nat), .int .u64 (w2 7 : Nat), .int .u64 (w3 7 : Nat), .int .u64 (w0 inv7 : Nat), .int .u64 (w1 inv7 : Nat), .int .u64 (w2 inv7 : Nat), .int .u64 (w3 inv7 : Nat)] 30) (fun b => .slice (some ⟨b, 0, none⟩) 2 2) (hd 40 (by kernel_rfl))
      exact ok_call (wanted_of rfl rfl (hd 36 (by kernel_rfl))) (by simp [Act.eval, h0, go_sem]) (inv7_mul v h0b h0h)
    · intro s v hC hk hd
      exact ok_call (wanted_of rfl rfl (hd 36 (by kernel_rfl))) (by simp [Act.eval, go_sem]) (num_any 1 (by decide) v)
    · intro s v hC hk hd
      have h0 : s.tmps[46]? = some (E4 1) := hd 41 (by kernel_rfl)
      have h1 : s.tmps[47]? = some (E4 1) := hd 42 (by kernel_rfl)
      exact ok_call (wanted_of rfl rfl (hd 36 (by kernel_rfl))) (by simp [Act.eval, h0, h1, go_sem]) (same_eq 1 1 (by decide) (by decide) true rfl v)
    · intro s v hC hk hd
      have h0 : s.tmps[41]? = some (.bool true) := hd 36 (by kernel_rfl)
      have h1 : s.tmps[48]? = some (.bool true) := hd 43 (by kernel_rfl)
      exact ok_value rfl (by simp [execOp, Act.eval, h0, h1, go_sem])
    · intro s v hC hk hd
      have h : s.tmps[49]? = some (.bool true) := hd 44 (by kernel_rfl)
      exact ok_value rfl (by simp [execOp, Act.eval, h])
    · intro s v hC hk hd
      have h : s.tmps[1]? = some (.pointer (some ⟨g1, 0, none⟩)) := hk 1 (by kernel_rfl)
      exact ok_load (wanted_of rfl rfl (hd 45 (by kernel_rfl))) rfl h (A1 hC) Try.underlying30 rfl (by kernel_rfl) rfl
    · intro s v hC hk hd
      have h : s.tmps[2]? = some (.pointer (some ⟨g1 + 1, 0, none⟩)) := hk 2 (by kernel_rfl)
      exact ok_load (wanted_of rfl rfl (hd 45 (by kernel_rfl))) rfl h (B1 hC) Try.underlying30 rfl (by kernel_rfl) rfl
    · intro s v hC hk hd
      have h1 : s.tmps[51]? = some (E4 7) := hd 46 (by kernel_rfl)
      have h2 : s.tmps[52]? = some (E4 5) := hd 47 (by kernel_rfl)
      exact ok_call (wanted_of rfl rfl (hd 45 (by kernel_rfl))) (by simp [Act.eval, h1, h2, go_sem]) (pick_any 1 7 5 (by omega) (by omega) v)
    · intro s v hC hk hd
      have h0 : s.tmps[53]? = some (E4 5) := hd 48 (by kernel_rfl)
      exact ok_call (wanted_of rfl rfl (hd 45 (by kernel_rfl))) (by simp [Act.eval, h0, go_sem]) (key_any 5 v)
    · intro s v hC hk hd
      exact ok_value (wanted_of rfl rfl (hd 45 (by kernel_rfl))) (by simp [execOp, Act.eval, go_sem])
    · intro s v hC hk hd
      have h0 : s.tmps[54]? = some (.agg (cs8 (keyL 5))) := hd 49 (by kernel_rfl)
      have h1 : s.tmps[55]? = some (.agg #[.int .u8 5, .int .u8 0, .int .u8 0, .int .u8 0, .int .u8 0, .int .u8 0, .int .u8 0, .int .u8 0, .int .u8 0, .int .u8 0, .int .u8 0, .int .u8 0, .int .u8 0, .int .u8 0, .int .u8 0, .int .u8 0, .int .u8 0, .int .u8 0, .int .u8 0, .int .u8 0, .int .u8 0, .int .u8 0, .int .u8 0, .int .u8 0, .int .u8 0, .int .u8 0, .int .u8 0, .int .u8 0, .int .u8 0, .int .u8 0, .int .u8 0, .int .u8 0]) := hd 50 (by kernel_rfl)
      exact ok_eql_keys (wanted_of rfl rfl (hd 45 (by kernel_rfl))) rfl ((keyL 5).map fun (n : Nat) => (n : Int)) [5, 0, 0, 0, 0, 0, 0, 0, 0, 0, 0, 0, 0, 0, 0, 0, 0, 0, 0, 0, 0, 0, 0, 0, 0, 0, 0, 0, 0, 0, 0, 0] true (by decide +kernel) (by decide) (by decide +kernel) h0 h1 (cs8_ints _) rfl
    · intro s v hC hk hd
      have h0 : s.tmps[50]? = some (.bool true) := hd 45 (by kernel_rfl)
      have h1 : s.tmps[56]? = some (.bool true) := hd 51 (by kernel_rfl)
      exact ok_value rfl (by simp [execOp, Act.eval, h0, h1, go_sem])
    · intro s v hC hk hd
      have h : s.tmps[57]? = some (.bool true) := hd 52 (by kernel_rfl)
      exact ok_value rfl (by simp [execOp, Act.eval, h])
  · intro b w2 hC _ _
    simp [valsOf, valOf, putAll, Act.put]
    have B : Hid (Below w.heap.size w w2) := B0.trans (hC.mono B0.size)
    clear hC X Y B0 A1 B1
    go_wp2_with fail
    go_ret
    exact ⟨rfl, B.out⟩
end Go.Proofs.Ytpgmaidbemndnaa
