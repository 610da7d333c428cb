/- OrderTells, for every tape of at most 3,000 bytes, every two whole numbers, every row of at most 100 whole numbers and every row of at most 100 texts: what is shuffled, or why not, and how much was taken; whether the row is an order, its inverse, what is laid by it, are what the document tells, and what was handed in has not turned: the law returns true, and nothing that was there has turned. No condition. -/
import Derived.Test.YtdckihmiggcpfaaW4
import Derived.Test.YtdckihmiggcpfaaZ2
import Derived.ChangeMaps5
import Derived.SizedLaws
import Derived.SliceStrings
namespace Go.Proofs.Ytdckihmiggcpfaa
open Go.ChangeShapes Go.WideShapes Go.ChangeAt Go.RowKit
theorem int2_in {H : Type} {enc : TypeId × Value → H} {P : Program} {W : World} {base' : Nat} {spare : Nat → Bool} {held : Bool} {fuel : Nat} {t e : TypeId} {L : List Value} {x : DataW H × List MemPlace} (hu : P.underlying t = some (.array 2 e)) (he : P.underlying e = some (.int .i64)) (hc : P.cellsOf e = 1) (hf : DataW.trod enc P W base' spare held fuel t L = some x) :
    ∃ a b : Int, ∀ (j : Nat) (v : Value), (#[.int .i64 a, .int .i64 b] : Array Value)[j]? = some v → L[j]? = some v := by
  obtain ⟨xs, m, _, _, _, hl, hel⟩ := DataW.trod_array hu hf
  rw [hc] at hel
  have key : ∀ i, i < 2 → ∃ k : Int, L[i]? = some (.int .i64 k) := fun i hi => by
    have h1 := hel i hi
    have h2 : xs[i]? = some (xs[i]'(by omega)) := by simp
    rw [h2] at h1
    obtain ⟨k, e, _, wf⟩ := DataW.trod_int he h1
    refine ⟨k, ?_⟩
    rw [Nat.mul_one] at e
    have h3 := congrArg (fun l => l[0]?) e
    simpa using h3
  obtain ⟨z0, q0⟩ := key 0 (by decide)
  obtain ⟨z1, q1⟩ := key 1 (by decide)
  refine ⟨z0, z1, fun j v hv => ?_⟩
  match j with
  | 0 => simp at hv; subst hv; exact q0
  | 1 => simp at hv; subst hv; exact q1
  | j + 2 => simp at hv
/-- A row of whole numbers that comes in. -/
theorem ints_cells {H : Type} {enc : TypeId × Value → H} {P : Program} {W : World} {base' : Nat} {spare : Nat → Bool} {held : Bool} {fuel : Nat} {t e : TypeId} {L : List Value} {x : DataW H × List MemPlace} (ht : P.underlying t = some (.slice e)) (he : P.underlying e = some (.int .i64)) (hc : P.cellsOf e = 1) (hf : DataW.trod enc P W base' spare held fuel t L = some x) :
    ∃ (q : Option Addr) (n c : Nat) (F : Nat → Int), L = [.slice q n c] ∧ RowIn W q n (fun k9 => .int .i64 (F k9)) := by
  rcases DataW.trod_slice ht hf with ⟨e, _⟩ | ⟨a, n, cap, elems, rest, m, _, e, _, hb, hl, hm, hlen, hel, _, _⟩
  · exact ⟨none, 0, 0, fun _ => 0, e, .inl rfl⟩
  · rw [hc] at hel
    have key : ∀ j, ∃ k : Int, j < n → W.cell? (a.add j) = some (.int .i64 k) := fun j => by
      by_cases hj : j < n
      · have h1 := hel j hj
        rw [List.getElem?_eq_getElem (by omega)] at h1
        obtain ⟨X, hL1, hL2⟩ := Option.bind_eq_some_iff.1 h1
        obtain ⟨_, h3, hcx⟩ := World.cells?_some hL1
        obtain ⟨k, e, _, _⟩ := DataW.trod_int he hL2
        refine ⟨k, fun _ => ?_⟩
        have h5 := hcx 0 (by decide)
        rw [e, Nat.mul_one] at h5
        simpa [Addr.add] using h5
      · exact ⟨0, fun h => (hj h).elim⟩
    obtain ⟨F, hF⟩ := Classical.axiomOfChoice key
    refine ⟨some a, n, cap, F, e, ?_⟩
    rcases Nat.eq_zero_or_pos n with h0 | h0
    · exact .inl h0
    · have hz := hF 0 h0
      rw [show a.add 0 = a by simp [Addr.add]] at hz
      have hsp : a.spot = none ∧ ∃ cs T9 fr, W.heap[a.block]? = some (.cells cs T9 fr) := by
        unfold World.cell? at hz
        split at hz
        · rename_i cs T9 fr hblk
          split at hz
          · cases hz
          · rename_i hs
            exact ⟨by cases hq : a.spot with | none => rfl | some x => (rw [hq] at hs; simp at hs), cs, T9, fr, hblk⟩
        · cases hz
      obtain ⟨hs, cs, T9, fr, hblk⟩ := hsp
      obtain ⟨ab, ao, asp⟩ := a
      simp only at hs hblk
      subst hs
      refine .inr ⟨ab, ao, cs, T9, fr, rfl, hblk, fun j hj => ?_⟩
      have := hF j hj
      rw [add_off, cell_of hblk] at this
      exact this
theorem part_inA {ps cs : Array Value} {k off : Nat} (h : ∀ (j : Nat) (v : Value), ps[j]? = some v → (List.take k (List.drop off (Value.agg cs).cells.toList))[j]? = some v) : ∀ (j : Nat) (v : Value), ps[j]? = some v → cs[off + j]? = some v := fun j v hv => by
  have := h j v hv
  rw [List.getElem?_take] at this
  split at this
  · simpa [Value.cells] using this
  · cases this
set_option maxRecDepth 10000 in
theorem tells_open {H : Type} {enc : TypeId × Value → H} {W : World} {r : Reach} {base base' : Nat} {spare : Nat → Bool} {held : Bool} {v : Value} {d : DataW H} {p : List MemPlace} (hv : Value.okWide Try.prog W r base 26 v) (h : DataW.Trod enc Try.prog W base' spare held 26 v d p) :
    ∃ (cp : Array Value) (X : List Nat) (a : Int) (b : Int) (p : Option Addr) (n : Nat) (c : Nat) (F : Nat → Int) (q : Option Addr) (Ps : List (List Nat)) (cq : Nat), v = .agg cp ∧ (∀ i, X.getD i 0 < 256) ∧ cp[0]? = some (.string (bs X)) ∧ X.length ≤ maxLen ∧ PartAt cp 1 #[.int .i64 a, .int .i64 b] ∧ cp[3]? = some (.slice p n c) ∧ RowIn W p n (fun k9 => .int .i64 (F k9)) ∧ (∀ X ∈ Ps, ∀ i, X.getD i 0 < 256) ∧ cp[4]? = some (.slice q Ps.length cq) ∧ StrsIn W q Ps ∧ Ps.length ≤ maxLen := by
  have hv' : ∃ cs, v = .agg cs := by
    simp only [Value.okWide, Try.underlying26] at hv
    obtain ⟨cs, h1, _⟩ := hv
    exact ⟨cs, h1⟩
  obtain ⟨cs, rfl⟩ := hv'
  obtain ⟨fuel, hf⟩ := h
  obtain ⟨xs, m, _, _, hl, hlen, hel⟩ := DataW.trod_struct Try.underlying26 hf
  have hx : xs.length = 4 := hlen
  have g : ∀ i, i < 4 → xs[i]? = some (xs[i]?.getD (.agg [], [])) := fun i hi => by simp [hx, hi]
  have e0 : DataW.trod enc Try.prog W base' spare held m 9 (List.take (Try.prog.cellsOf 9) (List.drop 0 (Value.agg cs).cells.toList)) = xs[0]? := hel 0 _ rfl
  rw [show Try.prog.cellsOf 9 = 1 by kernel_rfl, g 0 (by omega)] at e0
  obtain ⟨s0, q0, _, m0⟩ := DataW.trod_string Try.underlying9 e0
  have e1 : DataW.trod enc Try.prog W base' spare held m 22 (List.take (Try.prog.cellsOf 22) (List.drop 1 (Value.agg cs).cells.toList)) = xs[1]? := hel 1 _ rfl
  rw [show Try.prog.cellsOf 22 = 2 by kernel_rfl, g 1 (by omega)] at e1
  obtain ⟨a, b, p1⟩ := int2_in Try.underlying22 Try.underlying3 (by kernel_rfl) e1
  have e2 : DataW.trod enc Try.prog W base' spare held m 23 (List.take (Try.prog.cellsOf 23) (List.drop 3 (Value.agg cs).cells.toList)) = xs[2]? := hel 2 _ rfl
  rw [show Try.prog.cellsOf 23 = 1 by kernel_rfl, g 2 (by omega)] at e2
  obtain ⟨p, n, c, F, q2, hs2⟩ := ints_cells Try.underlying23 Try.underlying3 (by kernel_rfl) e2
  have e3 : DataW.trod enc Try.prog W base' spare held m 24 (List.take (Try.prog.cellsOf 24) (List.drop 4 (Value.agg cs).cells.toList)) = xs[3]? := hel 3 _ rfl
  rw [show Try.prog.cellsOf 24 = 1 by kernel_rfl, g 3 (by omega)] at e3
  obtain ⟨q, Ps, cq, q3, hb3, hs3, hm3⟩ := strs_cells Try.underlying24 Try.underlying9 (by kernel_rfl) e3
  exact ⟨cs, nl s0, a, b, p, n, c, F, q, Ps, cq, rfl, nl_lt s0, (by rw [bs_nl]; have h3 := congrArg (fun l => l[0]?) q0; simpa [Value.cells] using h3), (by rw [nl_len]; exact m0), part_inA p1, (by have h3 := congrArg (fun l => l[0]?) q2; simpa [Value.cells] using h3), hs2, hb3, (by have h3 := congrArg (fun l => l[0]?) q3; simpa [Value.cells] using h3), hs3, hm3⟩
set_option maxRecDepth 100000 in
theorem ordertells_lifted (os : Os) (started : os.Started) (H : Type) (enc : TypeId × Value → H) :
    ReturnsInHanded {} Try.checked os 3 .any (Rows.orderTellsSpec.pre6 enc Try.prog Try.f3 Rows.orderTellsRow.domain false) (Rows.orderTellsSpec.post enc Try.prog Try.f3 false true false false) := by
  refine returnsInHanded_of_change (C := Try.checked) Try.own started (by kernel_rfl) Try.func3
    (ChangeSpec.witness6 (enc := enc) (C := Try.checked) false ⟨#[], #[.agg #[.string (bs []), .int .i64 0, .int .i64 0, .slice none 0 0, .slice none 0 0]], []⟩ 8 (by kernel_rfl) (by kernel_rfl) (by kernel_rfl) (by kernel_rfl)) ?_
  intro W base args ds gs before hval0 hW hcnd _
  have hval : ∀ (j : Nat) t v, Try.f3.params[j]? = some t → args[j]? = some v → Value.okWide Try.prog W .any base t v := hval0
  have hW' := hW
  obtain ⟨p, q, hA0, hV, rfl, hfz, hnd⟩ := hW
  have hA : DataW.TrodAll enc Try.prog W 0 (fun _ => true) true Try.f3.params.toList args.toList ds p := hA0
  rw [Try.params3] at hA hval
  obtain ⟨v0, d0, rfl, rfl, h0_⟩ := trodAll_one hA
  obtain ⟨rfl, rfl⟩ := trodVars_none hV
  obtain ⟨cp, X, a, b, p, n, c, F, q, Ps, cq, rfl, hX, c0, _, c1, c3, hR, _, c4, hQ, _⟩ := tells_open (hval 0 26 v0 rfl rfl) h0_
  obtain ⟨O, hH, hD, hF, hG⟩ := row_O2 hR (rowIn_strs hQ)
  refine (tells_any O hD cp X hX a b p n c F q Ps.length cq (fun j => Ps.getD j []) c0 c1 c3 c4 hF hG W hH).mono fun e W' ⟨he, hb⟩ => ?_
  subst he
  exact ⟨_, rfl, post_true Try.laidOut (by rw [Try.params3]; decide +kernel) rfl hW' rfl rfl rfl rfl Try.underlying4 hb⟩
theorem orderTells_holds : Rows.OrderTellsSaid :=
  OpenClaim.holds_of_wide 3 Try.f3 rfl rfl rfl rfl rfl rfl rfl ⟨rfl, rfl, rfl, rfl, rfl⟩ rfl rfl rfl rfl rfl (by kernel_rfl) Try.func3 (by kernel_rfl)
    (of_decide_eq_true (by kernel_rfl)) (by unfold Func.isWrapper; first | (rw [if_pos (by decide +kernel)]; kernel_rfl) | (rw [if_neg (by decide +kernel)]; exact ⟨rfl, rfl⟩))
    (fun os started H enc _ => ordertells_lifted os started H enc)
#print axioms orderTells_holds
end Go.Proofs.Ytdckihmiggcpfaa
