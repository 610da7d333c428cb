/- Keys, compared; and one operation of a region of fixed order, by the law of any order's. -/
import Derived.Test.YtpgmaidbemndnaaMem
namespace Go.Proofs.Ytpgmaidbemndnaa
open Go.RowKit

def zero32 : List Nat := [0, 0, 0, 0, 0, 0, 0, 0, 0, 0, 0, 0, 0, 0, 0, 0, 0, 0, 0, 0, 0, 0, 0, 0, 0, 0, 0, 0, 0, 0, 0, 0]
theorem zero32_key : cs8 zero32 = #[.int .u8 0, .int .u8 0, .int .u8 0, .int .u8 0, .int .u8 0, .int .u8 0, .int .u8 0, .int .u8 0, .int .u8 0, .int .u8 0, .int .u8 0, .int .u8 0, .int .u8 0, .int .u8 0, .int .u8 0, .int .u8 0, .int .u8 0, .int .u8 0, .int .u8 0, .int .u8 0, .int .u8 0, .int .u8 0, .int .u8 0, .int .u8 0, .int .u8 0, .int .u8 0, .int .u8 0, .int .u8 0, .int .u8 0, .int .u8 0, .int .u8 0, .int .u8 0] := rfl
theorem zero32_bytes : Bytes zero32 := by
  refine ⟨rfl, fun i => ?_⟩
  rcases Nat.lt_or_ge i 32 with h | h
  · revert i; decide
  · simp [zero32, h]
def nine32 : List Nat := [9, 0, 0, 0, 0, 0, 0, 0, 0, 0, 0, 0, 0, 0, 0, 0, 0, 0, 0, 0, 0, 0, 0, 0, 0, 0, 0, 0, 0, 0, 0, 0]
theorem nine32_key : cs8 nine32 = #[.int .u8 9, .int .u8 0, .int .u8 0, .int .u8 0, .int .u8 0, .int .u8 0, .int .u8 0, .int .u8 0, .int .u8 0, .int .u8 0, .int .u8 0, .int .u8 0, .int .u8 0, .int .u8 0, .int .u8 0, .int .u8 0, .int .u8 0, .int .u8 0, .int .u8 0, .int .u8 0, .int .u8 0, .int .u8 0, .int .u8 0, .int .u8 0, .int .u8 0, .int .u8 0, .int .u8 0, .int .u8 0, .int .u8 0, .int .u8 0, .int .u8 0, .int .u8 0] := rfl
theorem nine32_bytes : Bytes nine32 := by
  refine ⟨rfl, fun i => ?_⟩
  rcases Nat.lt_or_ge i 32 with h | h
  · revert i; decide
  · simp [nine32, h]
def eight32 : List Nat := [8, 0, 0, 0, 0, 0, 0, 0, 0, 0, 0, 0, 0, 0, 0, 0, 0, 0, 0, 0, 0, 0, 0, 0, 0, 0, 0, 0, 0, 0, 0, 0]
theorem eight32_key : cs8 eight32 = #[.int .u8 8, .int .u8 0, .int .u8 0, .int .u8 0, .int .u8 0, .int .u8 0, .int .u8 0, .int .u8 0, .int .u8 0, .int .u8 0, .int .u8 0, .int .u8 0, .int .u8 0, .int .u8 0, .int .u8 0, .int .u8 0, .int .u8 0, .int .u8 0, .int .u8 0, .int .u8 0, .int .u8 0, .int .u8 0, .int .u8 0, .int .u8 0, .int .u8 0, .int .u8 0, .int .u8 0, .int .u8 0, .int .u8 0, .int .u8 0, .int .u8 0, .int .u8 0] := rfl
theorem eight32_bytes : Bytes eight32 := by
  refine ⟨rfl, fun i => ?_⟩
  rcases Nat.lt_or_ge i 32 with h | h
  · revert i; decide
  · simp [eight32, h]
def sixteen32 : List Nat := [16, 0, 0, 0, 0, 0, 0, 0, 0, 0, 0, 0, 0, 0, 0, 0, 0, 0, 0, 0, 0, 0, 0, 0, 0, 0, 0, 0, 0, 0, 0, 0]
theorem sixteen32_key : cs8 sixteen32 = #[.int .u8 16, .int .u8 0, .int .u8 0, .int .u8 0, .int .u8 0, .int .u8 0, .int .u8 0, .int .u8 0, .int .u8 0, .int .u8 0, .int .u8 0, .int .u8 0, .int .u8 0, .int .u8 0, .int .u8 0, .int .u8 0, .int .u8 0, .int .u8 0, .int .u8 0, .int .u8 0, .int .u8 0, .int .u8 0, .int .u8 0, .int .u8 0, .int .u8 0, .int .u8 0, .int .u8 0, .int .u8 0, .int .u8 0, .int .u8 0, .int .u8 0, .int .u8 0] := rfl
theorem sixteen32_bytes : Bytes sixteen32 := by
  refine ⟨rfl, fun i => ?_⟩
  rcases Nat.lt_or_ge i 32 with h | h
  · revert i; decide
  · simp [sixteen32, h]

section
variable {base : Nat} {P : Program} {ops : Array Oper} {rest : List Oper} {Q : Exit → Act → World → Prop} {o : Oper} {a : Act} {w : World}
theorem unwanted_of {g d : Nat} {b : Bool} (hg : o.guard = some (g, b)) (hd : (ops[g]?).bind (·.dst) = some d) (hv : a.tmps[d]? = some (.bool (!b))) : Region.wanted o (yielded ops a.tmps) = false := by
  unfold Region.wanted yielded
  simp only [hg, hd, Option.bind_some, hv]
  cases b <;> rfl
theorem ok_skip (h : Region.wanted o (yielded ops a.tmps) = false) : OpOk base P Q ops o (.inl undef) false a w := .inr ⟨h, rfl, rfl⟩
theorem wpList_ok {v : Value} (h : OpOk base P Q ops o (.inl v) false a w) (K : ∀ w', Below w.heap.size w w' → wpList P ops Q rest (a.put o.dst v) w') : wpList P ops Q (o :: rest) a w := by
  refine wpList_step fun K' hK => ?_
  rcases h with ⟨hw, hwp⟩ | ⟨hw, hu, _⟩
  · rw [if_pos hw]
    refine Oper.wp_mono (fun a' w' => ?_) hwp
    rintro ⟨v', rfl, hb, hv, _⟩
    obtain rfl : v' = v := by simpa [holdsAt] using hv
    exact hK _ _ (K w' hb)
  · rw [if_neg (by rw [hw]; decide)]
    obtain rfl : undef = v := by simpa [holdsAt] using hu
    exact hK _ _ (K w (Below.refl _ _))
end
theorem map_cast_beq (X Y : List Nat) : ((X.map fun (n : Nat) => (n : Int)) == (Y.map fun (n : Nat) => (n : Int))) = (X == Y) := by
  by_cases h : X = Y
  · subst h; simp
  · have h2 : (X.map fun (n : Nat) => (n : Int)) ≠ (Y.map fun (n : Nat) => (n : Int)) := fun e => h ((List.map_inj_right (fun a b hab => Int.ofNat.inj hab)).1 e)
    rw [beq_eq_false_iff_ne.2 h, beq_eq_false_iff_ne.2 h2]
section
variable {base : Nat} {ops : Array Oper} {Q : Exit → Act → World → Prop} {o : Oper} {a : Act} {w : World} {x y : Nat} {t t' : TypeId}
theorem ok_eql_cs8 (X Y : List Nat) (r : Bool) (hw : Region.wanted o (yielded ops a.tmps) = true) (ho : o.op = .binOp .eql t (.tmp x) (.tmp y) t') (ht : t = 23) (hX : X.length = 32) (hY : Y.length = 32) (hr : (X == Y) = r)
    (hx : a.tmps[x]? = some (.agg (cs8 X))) (hy : a.tmps[y]? = some (.agg (cs8 Y))) : OpOk base Try.prog Q ops o (.inl (.bool r)) false a w := by
  subst ht
  exact ok_eql_keys hw ho (X.map fun (n : Nat) => (n : Int)) (Y.map fun (n : Nat) => (n : Int)) r (by simpa using hX) (by simpa using hY) (by rw [map_cast_beq]; exact hr) hx hy (cs8_ints X) (cs8_ints Y)
theorem run_neq_cs8 (X Y : List Nat) (r : Bool) {e : TypeId} (ho : o.op = .binOp .neq t (.tmp x) (.tmp y) t') (ht : Try.prog.underlying t = some (.array 32 e)) (he : Try.prog.underlying e = some (.int .u8)) (hi : (Try.prog.info? e).isSome = true) (hc : Try.prog.cellsOf e = 1) (hq : Try.prog.eqGuardType Try.prog.depth t = false) (hX : X.length = 32) (hY : Y.length = 32) (hr : (!(X == Y)) = r)
    (hx : a.tmps[x]? = some (.agg (cs8 X))) (hy : a.tmps[y]? = some (.agg (cs8 Y))) : (execOp a.eval o).run Try.prog w = .ok (.value (.bool r)) w := by
  obtain ⟨i, hi⟩ := Option.isSome_iff_exists.1 hi
  have e1 := run_equalIn_ints (P := Try.prog) w 9998 32 .u8 ht he hi hc (X.map fun (n : Nat) => (n : Int)) (Y.map fun (n : Nat) => (n : Int)) (by simpa using hX) (by simpa using hY)
  rw [map_cast_beq, ← cs8_ints, ← cs8_ints] at e1
  have e2 : (eqGuard .neq t (.tmp x) (.tmp y) (.agg (cs8 X)) (.agg (cs8 Y))).run Try.prog w = .ok () w := by simp [eqGuard, hq]
  have ex : a.eval (.tmp x) = .agg (cs8 X) := by simp [Act.eval, hx]
  have ey : a.eval (.tmp y) = .agg (cs8 Y) := by simp [Act.eval, hy]
  simp only [execOp, ho, ex, ey, Sem.run_bind, e2, Result.andThen_ok, run_neq_struct, e1, Sem.run_pure, hr]
theorem ok_neq_cs8 (X Y : List Nat) (r : Bool) {e : TypeId} (hw : Region.wanted o (yielded ops a.tmps) = true) (ho : o.op = .binOp .neq t (.tmp x) (.tmp y) t') (ht : Try.prog.underlying t = some (.array 32 e)) (he : Try.prog.underlying e = some (.int .u8)) (hi : (Try.prog.info? e).isSome = true) (hc : Try.prog.cellsOf e = 1) (hq : Try.prog.eqGuardType Try.prog.depth t = false) (hX : X.length = 32) (hY : Y.length = 32) (hr : (!(X == Y)) = r)
    (hx : a.tmps[x]? = some (.agg (cs8 X))) (hy : a.tmps[y]? = some (.agg (cs8 Y))) : OpOk base Try.prog Q ops o (.inl (.bool r)) false a w := by
  exact ok_value hw (run_neq_cs8 X Y r ho ht he hi hc hq hX hY hr hx hy)
end
theorem cs8_size {X : List Nat} (h : X.length = 32) : (cs8 X).size = 32 := by simp [cs8, h]
end Go.Proofs.Ytpgmaidbemndnaa
