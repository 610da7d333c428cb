/- Several texts in one: Rows that come in: of calls. The table of the powers of ten, as the text lays it. Package-level tables of numbers: what the row says that they hold, as a block. -/
import Derived.Test.YtdeiodcfblldgaaDoorZ5
import Derived.Test.YtdeiodcfblldgaaDoorZ2
import Derived.Test.YtdeiodcfblldgaaDoorZ1
import Derived.ProofKit
import Derived.OpenShut
import Derived.MakeChecks
import Derived.LaidMore
import Derived.LaidHandle
import Derived.Stop.Joined
namespace Go.Proofs.YtdeiodcfblldgaaDoor
open Go.ChangeShapes Go.WideShapes Go.ChangeAt Go.RowKit
set_option maxRecDepth 100000 in
theorem act_cells {H : Type} {enc : TypeId × Value → H} {W : World} {base' : Nat} {spare : Nat → Bool} {held : Bool} {fuel : Nat} {X : List Value} {x : DataW H × List MemPlace} (h : DataW.trod enc Tryd.prog W base' spare held fuel 31 X = some x) :
    ∃ (k n t : Int) (w : List Nat), X[0]? = some (.int .i64 k) ∧ X[1]? = some (.int .i64 n) ∧ X[2]? = some (.int .i64 t) ∧ X[3]? = some (.string (bs w)) ∧ ∀ i, w.getD i 0 < 256 := by
  obtain ⟨xs, m, _, _, hl, hlen, hel⟩ := DataW.trod_struct Tryd.underlying31 h
  have hx : xs.length = 4 := hlen
  have g : ∀ i, i < 4 → xs[i]? = some (xs[i]?.getD (.agg [], [])) := fun i hi => by simp [hx, hi]
  have e0 : DataW.trod enc Tryd.prog W base' spare held m 3 (List.take (Tryd.prog.cellsOf 3) (List.drop 0 X)) = xs[0]? := hel 0 _ rfl
  rw [show Tryd.prog.cellsOf 3 = 1 by kernel_rfl, g 0 (by omega)] at e0
  obtain ⟨z0, q0, _, w0⟩ := DataW.trod_int Tryd.underlying3 e0
  have e1 : DataW.trod enc Tryd.prog W base' spare held m 3 (List.take (Tryd.prog.cellsOf 3) (List.drop 1 X)) = xs[1]? := hel 1 _ rfl
  rw [show Tryd.prog.cellsOf 3 = 1 by kernel_rfl, g 1 (by omega)] at e1
  obtain ⟨z1, q1, _, w1⟩ := DataW.trod_int Tryd.underlying3 e1
  have e2 : DataW.trod enc Tryd.prog W base' spare held m 3 (List.take (Tryd.prog.cellsOf 3) (List.drop 2 X)) = xs[2]? := hel 2 _ rfl
  rw [show Tryd.prog.cellsOf 3 = 1 by kernel_rfl, g 2 (by omega)] at e2
  obtain ⟨z2, q2, _, w2⟩ := DataW.trod_int Tryd.underlying3 e2
  have e3 : DataW.trod enc Tryd.prog W base' spare held m 9 (List.take (Tryd.prog.cellsOf 9) (List.drop 3 X)) = xs[3]? := hel 3 _ rfl
  rw [show Tryd.prog.cellsOf 9 = 1 by kernel_rfl, g 3 (by omega)] at e3
  obtain ⟨z3, q3, _, w3⟩ := DataW.trod_string Tryd.underlying9 e3
  refine ⟨z0, z1, z2, nl z3, ?_, ?_, ?_, ?_, nl_lt z3⟩
  · have h3 := congrArg (fun l => l[0]?) q0; simpa [Value.cells] using h3
  · have h3 := congrArg (fun l => l[0]?) q1; simpa [Value.cells] using h3
  · have h3 := congrArg (fun l => l[0]?) q2; simpa [Value.cells] using h3
  · rw [bs_nl]; have h3 := congrArg (fun l => l[0]?) q3; simpa [Value.cells] using h3
set_option maxRecDepth 100000 in
theorem acts_param {H : Type} {enc : TypeId × Value → H} {W : World} {r : Reach} {base base' : Nat} {spare : Nat → Bool} {held : Bool} {v : Value} {d : DataW H} {q : List MemPlace} (hv : Value.okWide Tryd.prog W r base 22 v) (h : DataW.Trod enc Tryd.prog W base' spare held 22 v d q) :
    ∃ (p : Option Addr) (n c : Nat) (fK fN fT : Nat → Int) (fW : Nat → List Nat), v = .slice p n c ∧ (∀ i j, (fW i).getD j 0 < 256) ∧ RowIn W p (n * 4) (actV fK fN fT fW) := by
  obtain ⟨p, n, c, rfl, h1⟩ := rowX_param Tryd.underlying22 (k := 4) (by kernel_rfl) (by decide) hv h
  rcases h1 with rfl | ⟨b, off, cs, T, fr, h2, h3, h4⟩
  · exact ⟨p, 0, c, fun _ => 0, fun _ => 0, fun _ => 0, fun _ => [], rfl, fun i j => by simp, .inl rfl⟩
  · have key : ∀ j, ∃ x : Int × Int × Int × List Nat, (∀ i, x.2.2.2.getD i 0 < 256) ∧ (j < n → cs[off + (j * 4 + 0)]? = some (.int .i64 x.1) ∧ cs[off + (j * 4 + 1)]? = some (.int .i64 x.2.1) ∧ cs[off + (j * 4 + 2)]? = some (.int .i64 x.2.2.1) ∧ cs[off + (j * 4 + 3)]? = some (.string (bs x.2.2.2))) := fun j => by
      by_cases hj : j < n
      · obtain ⟨X, x, fuel, q1, q2, q3⟩ := h4 j hj
        obtain ⟨k, m, t, w, a0, a1, a2, a3, hw⟩ := act_cells q3
        exact ⟨(k, m, t, w), hw, fun _ => ⟨(q2 0 (by decide)).trans a0, (q2 1 (by decide)).trans a1, (q2 2 (by decide)).trans a2, (q2 3 (by decide)).trans a3⟩⟩
      · exact ⟨(0, 0, 0, []), fun i => by simp, fun h => (hj h).elim⟩
    obtain ⟨f, hf⟩ := Classical.axiomOfChoice key
    refine ⟨p, n, c, fun i => (f i).1, fun i => (f i).2.1, fun i => (f i).2.2.1, fun i => (f i).2.2.2, rfl, fun i => (hf i).1, .inr ⟨b, off, cs, T, fr, h2, h3, fun j hj => ?_⟩⟩
    obtain ⟨g0, g1, g2, g3⟩ := (hf (j / 4)).2 (by omega)
    have hm : j % 4 = 0 ∨ j % 4 = 1 ∨ j % 4 = 2 ∨ j % 4 = 3 := by omega
    rcases hm with hm | hm | hm | hm
    · rw [show j = j / 4 * 4 + 0 by omega, g0, Nat.add_zero, actV_0]
    · rw [show j = j / 4 * 4 + 1 by omega, g1, actV_1]
    · rw [show j = j / 4 * 4 + 2 by omega, g2, actV_2]
    · rw [show j = j / 4 * 4 + 3 by omega, g3, actV_3]
end Go.Proofs.YtdeiodcfblldgaaDoor
namespace Go.Proofs.YtdeiodcfblldgaaDoor
open Go.RowKit
def pw10 : List Nat := [1, 10, 100, 1000, 10000, 100000, 1000000, 10000000, 100000000, 1000000000, 10000000000, 100000000000, 1000000000000, 10000000000000, 100000000000000, 1000000000000000, 10000000000000000, 100000000000000000, 1000000000000000000, 10000000000000000000]
theorem pw10_at : ∀ i : Fin 20, pw10[i.val]? = some (10 ^ i.val) := by decide +kernel
theorem tab_in {w : World} {T : TypeId} {fr : Nat × Nat} (h : w.heap[2]? = some (.cells (cn .u64 pw10) T fr)) : TabIn w := .inr ⟨2, _, T, fr, rfl, h, fun j hj => by
  have := pw10_at ⟨j, hj⟩
  simp [cn, this]⟩
end Go.Proofs.YtdeiodcfblldgaaDoor
namespace Go.Proofs.YtdeiodcfblldgaaDoor
open Go.RowKit
theorem laid_mem {P : Program} {W : World} : ∀ (laid : List (String × DataW Unit)) (ps : List MemPlace), DataW.LaidVars P W laid ps → ∀ x ∈ laid, ∃ g t cs fuel p, P.globalNamed x.1 = some g ∧ (P.globals[g]?).map (·.type) = some t ∧ W.var? P x.1 = some cs ∧ DataW.trod (fun _ => ()) P W 0 (fun _ => true) false fuel t cs.toList = some (x.2, p)
  | [], _, _, _, hx => by cases hx
  | (n, d) :: r, ps, h, x, hx => by
    obtain ⟨g, t, cs, fuel, p, q, h1, h2, h3, h4, h5, _⟩ := h
    rcases List.mem_cons.1 hx with rfl | hx
    · exact ⟨g, t, cs, fuel, p, h1, h2, h3, h4⟩
    · exact laid_mem r q h5 x hx
/-- A table of numbers that is laid lies in its block. -/
theorem tab_of {P : Program} {W : World} {laid : List (String × DataW Unit)} {n : String} {D : DataW Unit} {g : Nat} {t e : TypeId} {m : Nat} {k : IntKind} {K : List Nat} (h : laidMetH P laid W) (hH : (laid.all fun x => x.2.handleName?.isNone) = true) (hx : (n, D) ∈ laid)
    (hg : P.globalNamed n = some g) (ht : (P.globals[g]?).map (·.type) = some t) (hu : P.underlying t = some (.array m e)) (he : P.underlying e = some (.int k)) (hc : P.cellsOf e = 1) (hct : P.cellsOf t = m) (hD : D = .agg (K.map fun (x : Nat) => .lit (.int k (x : Int)))) (hK : K.length = m) :
    ∃ T fr, W.heap[g]? = some (.cells (cn k K) T fr) := by
  rw [MakeChecks.laidMetH_plain _ _ _ hH] at h
  obtain ⟨ps, hl, _⟩ := h
  obtain ⟨g', t', cs, fuel, p, h1, h2, h3, h4⟩ := laid_mem laid ps hl _ hx
  obtain rfl := Option.some.inj (hg.symm.trans h1)
  obtain rfl := Option.some.inj (ht.symm.trans h2)
  have hb : ∃ T fr, W.heap[g]? = some (.cells cs T fr) := by
    simp only [World.var?, hg, Option.bind_some] at h3
    split at h3
    · rename_i c T fr hb
      cases h3
      exact ⟨T, fr, hb⟩
    · cases h3
  obtain ⟨T, fr, hb⟩ := hb
  refine ⟨T, fr, ?_⟩
  rw [hb]
  obtain ⟨xs, m1, _, hx1, hlen, hn, hel⟩ := DataW.trod_array hu h4
  have hx2 : D = .agg (xs.map fun x => x.1) := (Prod.mk.inj hx1).1
  rw [hD] at hx2
  have hx3 : (K.map fun (x : Nat) => (DataW.lit (.int k (x : Int)) : DataW Unit)) = xs.map fun x => x.1 := by injection hx2
  have hcs : cs = cn k K := by
    refine Array.ext_getElem? fun i => ?_
    rcases Nat.lt_or_ge i m with hi | hi
    · have e1 := hel i hi
      have e2 : xs[i]? = some (xs[i]'(by omega)) := by simp
      rw [e2, hc] at e1
      obtain ⟨z, e3, e4, _⟩ := DataW.trod_int he e1
      have e5 := congrArg (fun l => l[i]?) hx3
      simp only [List.getElem?_map, e2, e4, List.getElem?_eq_getElem (show i < K.length by omega), Option.map_some, Option.some.injEq, DataW.lit.injEq, Lit.int.injEq] at e5
      have e6 := congrArg (fun l => l[0]?) e3
      rw [Nat.mul_one] at e6
      have e7 : cs[i]? = some (.int k z) := by simpa using e6
      rw [e7, cn_get k K i (by omega), ← e5.2]
      simp [show i < K.length by omega]
    · rw [Array.getElem?_eq_none (by rw [← Array.length_toList, hlen, hct]; exact hi), Array.getElem?_eq_none (by rw [cn_size, hK]; exact hi)]
  rw [hcs]
end Go.Proofs.YtdeiodcfblldgaaDoor
