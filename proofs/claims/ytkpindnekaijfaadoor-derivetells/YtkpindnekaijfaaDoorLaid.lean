/- Package-level tables of numbers: what the row says that they hold, as a block. -/
import Derived.Test.YtkpindnekaijfaaDoorCells
import Derived.ProofKit
import Derived.OpenShut
import Derived.MakeChecks
import Derived.LaidMore
import Derived.LaidHandle
import Derived.Stop.Joined
namespace Go.Proofs.YtkpindnekaijfaaDoor
open Go.RowKit

theorem laid_mem {P : Program} {W : World} : ∀ (laid : List (String × DataW Unit)) (ps : List MemPlace), DataW.LaidVars P W laid ps → ∀ x ∈ laid, ∃ g t cs fuel p, P.globalNamed x.1 = some g ∧ (P.globals[g]?).map (·.type) = some t ∧ W.var? P x.1 = some cs ∧ DataW.trod (fun _ => ()) P W 0 (fun _ => true) false fuel t cs.toList = some (x.2, p)
  | [], _, _, _, hx => by cases hx
  | (n, d) :: r, ps, h, x, hx => by
    obtain ⟨g, t, cs, fuel, p, q, h1, h2, h3, h4, h5, _⟩ := h
    rcases List.mem_cons.1 hx with rfl | hx
    · exact ⟨g, t, cs, fuel, p, h1, h2, h3, h4⟩
    · exact laid_mem r q h5 x hx
/-- A table of numbers that is laid lies in its block. -/
theorem tab_of {P : Program} {W : World} {laid : List (String × DataW Unit)} {n : String} {D : DataW Unit} {g : Nat} {t e : TypeId} {m : Nat} {k : IntKind} {K : List Nat} (h : laidMetH P laid W) (hH : (laid.all fun x => x.2.handleName?.isNone) = true) (hx : (n, D) ∈ laid)
    (hg : P.globalNamed n = some g) (ht : (P.globals[g]?).map (·.type) = some t) (hu : P.underlying t = some (.array m e)) (he : P.underlying e = some (.int k)) (hc : P.cellsOf e = 1) (hct : P.cellsOf t = m) (hD : D = .agg (K.map fun (x : Nat) => .lit (.int k (x : Int)))) (hK : K.length = m) :
    ∃ T fr, W.heap[g]? = some (.cells (cn k K) T fr) := by
  rw [MakeChecks.laidMetH_plain _ _ _ hH] at h
  obtain ⟨ps, hl, _⟩ := h
  obtain ⟨g', t', cs, fuel, p, h1, h2, h3, h4⟩ := laid_mem laid ps hl _ hx
  obtain rfl := Option.some.inj (hg.symm.trans h1)
  obtain rfl := Option.some.inj (ht.symm.trans h2)
  have hb : ∃ T fr, W.heap[g]? = some (.cells cs T fr) := by
    simp only [World.var?, hg, Option.bind_some] at h3
    split at h3
    · rename_i c T fr hb
      cases h3
      exact ⟨T, fr, hb⟩
    · cases h3
  obtain ⟨T, fr, hb⟩ := hb
  refine ⟨T, fr, ?_⟩
  rw [hb]
  obtain ⟨xs, m1, _, hx1, hlen, hn, hel⟩ := DataW.trod_array hu h4
  have hx2 : D = .agg (xs.map fun x => x.1) := (Prod.mk.inj hx1).1
  rw [hD] at hx2
  have hx3 : (K.map fun (x : Nat) => (DataW.lit (.int k (x : Int)) : DataW Unit)) = xs.map fun x => x.1 := by injection hx2
  have hcs : cs = cn k K := by
    refine Array.ext_getElem? fun i => ?_
    rcases Nat.lt_or_ge i m with hi | hi
    · have e1 := hel i hi
      have e2 : xs[i]? = some (xs[i]'(by omega)) := by simp
      rw [e2, hc] at e1
      obtain ⟨z, e3, e4, _⟩ := DataW.trod_int he e1
      have e5 := congrArg (fun l => l[i]?) hx3
      simp only [List.getElem?_map, e2, e4, List.getElem?_eq_getElem (show i < K.length by omega), Option.map_some, Option.some.injEq, DataW.lit.injEq, Lit.int.injEq] at e5
      have e6 := congrArg (fun l => l[0]?) e3
      rw [Nat.mul_one] at e6
      have e7 : cs[i]? = some (.int k z) := by simpa using e6
      rw [e7, cn_get k K i (by omega), ← e5.2]
      simp [show i < K.length by omega]
    · rw [Array.getElem?_eq_none (by rw [← Array.length_toList, hlen, hct]; exact hi), Array.getElem?_eq_none (by rw [cn_size, hK]; exact hi)]
  rw [hcs]
end Go.Proofs.YtkpindnekaijfaaDoor
