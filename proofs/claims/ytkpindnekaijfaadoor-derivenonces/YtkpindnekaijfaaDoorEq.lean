/- Two arrays of integers, compared. -/
import Derived.WalkKit
import Derived.ChangeKeysEq
import Derived.Test.YtkpindnekaijfaaDoorReg
namespace Go.Proofs.YtkpindnekaijfaaDoor
open Go.RowKit

def intCells (k : IntKind) (as : List Int) : Array Value := (as.map fun a => Value.int k a).toArray

theorem run_eqItems_ints {P : Program} (w : World) (d : Nat) (k : IntKind) {e : TypeId} (he : P.underlying e = some (.int k)) (as bs : List Int) : ∀ is : List Nat, (∀ i ∈ is, i < as.length ∧ i < bs.length) →
    (Op.eqItems (d + 1) e 1 (intCells k as) (intCells k bs) is).run P w = .ok (is.all fun i => as.getD i 0 == bs.getD i 0) w
  | [], _ => by simp [Op.eqItems]
  | i :: is, h => by
    obtain ⟨h1, h2⟩ := h i (by simp)
    have p1 : (part e (intCells k as) i).run P w = .ok (.int k (as.getD i 0)) w := by
      simp [part, isAgg, run_underlying he, intCells, h1]
    have p2 : (part e (intCells k bs) i).run P w = .ok (.int k (bs.getD i 0)) w := by
      simp [part, isAgg, run_underlying he, intCells, h2]
    have p3 : (Op.equalIn (d + 1) e (.int k (as.getD i 0)) (.int k (bs.getD i 0))).run P w = .ok (as.getD i 0 == bs.getD i 0) w := run_equalIn_int w d e k k _ _ he
    have ih := run_eqItems_ints w d k he as bs is (fun j hj => h j (by simp [hj]))
    simp only [Op.eqItems, Nat.mul_one, Sem.run_bind, p1, p2, p3, Result.andThen_ok, List.all_cons]
    cases as.getD i 0 == bs.getD i 0 with
    | false => simp
    | true => simpa using ih

theorem all_eq_iff (as bs : List Int) (n : Nat) (ha : as.length = n) (hb : bs.length = n) : ((List.range n).all fun i => as.getD i 0 == bs.getD i 0) = (as == bs) := by
  rw [Bool.eq_iff_iff, List.all_eq_true, beq_iff_eq]
  constructor
  · intro h
    refine List.ext_getElem (by omega) fun i h1 h2 => ?_
    have := h i (List.mem_range.2 (by omega))
    simpa [h1, h2] using this
  · rintro rfl i _
    simp

theorem run_equalIn_ints {P : Program} (w : World) (d n : Nat) (k : IntKind) {t e : TypeId} {i : TypeInfo} (hu : P.underlying t = some (.array n e)) (he : P.underlying e = some (.int k)) (hi : P.info? e = some i) (hc : P.cellsOf e = 1) (as bs : List Int) (ha : as.length = n) (hb : bs.length = n) :
    (Op.equalIn (d + 2) t (.agg (intCells k as)) (.agg (intCells k bs))).run P w = .ok (as == bs) w := by
  rw [run_equalIn_array w (d + 1) _ _ hu hi, hc, run_eqItems_ints w d k he as bs _ (fun j hj => by rw [List.mem_range] at hj; omega), all_eq_iff as bs n ha hb]

theorem ok_eql_ints {base : Nat} {P : Program} {ops : Array Oper} {Q : Exit → Act → World → Prop} {o : Oper} {a : Act} {w : World} {x y : Operand} (n : Nat) (k : IntKind) {t t' e : TypeId} (hw : Region.wanted o (yielded ops a.tmps) = true)
    (ho : o.op = .binOp .eql t x y t') (hu : P.underlying t = some (.array n e)) (he : P.underlying e = some (.int k)) (hi : (P.info? e).isSome = true) (hc : P.cellsOf e = 1) (hq : P.eqGuardType P.depth t = false) (as bs : List Int) (ha : as.length = n) (hb : bs.length = n)
    (hx : a.eval x = .agg (intCells k as)) (hy : a.eval y = .agg (intCells k bs)) : OpOk base P Q ops o (.inl (.bool (as == bs))) false a w := by
  refine ok_value hw ?_
  obtain ⟨i, hi⟩ := Option.isSome_iff_exists.1 hi
  have e1 := run_equalIn_ints w 9998 n k hu he hi hc as bs ha hb
  have e2 : (eqGuard .eql t x y (.agg (intCells k as)) (.agg (intCells k bs))).run P w = .ok () w := by simp [eqGuard, hq]
  simp only [execOp, ho, hx, hy, Sem.run_bind, e2, Result.andThen_ok, run_eql_struct, e1, Sem.run_pure]
end Go.Proofs.YtkpindnekaijfaaDoor
