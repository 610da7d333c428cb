/- A row of texts that comes in. -/
import Derived.Test.YtkpindnekaijfaaDoorEvJ
import Derived.Test.YtkpindnekaijfaaDoorLift
import Derived.SliceStrings
namespace Go.Proofs.YtkpindnekaijfaaDoor
open Go.ChangeShapes Go.WideShapes Go.ChangeAt Go.RowKit
section
variable {P : Program} {H : Type} {enc : TypeId × Value → H} {W : World} {r : Reach} {base base' : Nat} {spare : Nat → Bool} {held : Bool}
theorem strs_cells {t e : TypeId} {fuel : Nat} {cs0 : List Value} {x : DataW H × List MemPlace} (ht : P.underlying t = some (.slice e)) (he : P.underlying e = some .string) (hc : P.cellsOf e = 1) (hf : DataW.trod enc P W base' spare held fuel t cs0 = some x) :
    ∃ (q : Option Addr) (Ps : List (List Nat)) (c : Nat), cs0 = [.slice q Ps.length c] ∧ (∀ X ∈ Ps, ∀ i, X.getD i 0 < 256) ∧ StrsIn W q Ps ∧ Ps.length ≤ maxLen := by
  rcases Go.ChangeShapes.open_strings ht he hc hf with ⟨e, _⟩ | ⟨a, n, cap, ss, e, hb, hl, hm, hss, hx, hcell, hmax⟩
  · exact ⟨none, [], 0, e, fun X hX => (nomatch hX), .inl rfl, Nat.zero_le _⟩
  · rcases Nat.eq_zero_or_pos n with rfl | hn
    · exact ⟨some a, [], cap, e, fun X hX => (nomatch hX), .inl rfl, Nat.zero_le _⟩
    · have hle : n ≤ ss.length := by rw [hss]; split <;> omega
      have h0 := hcell 0 (by omega)
      rw [show a.add 0 = a from rfl] at h0
      have hsp : a.spot = none ∧ ∃ cs T9 fr, W.heap[a.block]? = some (.cells cs T9 fr) := by
        unfold World.cell? at h0
        split at h0
        · rename_i cs T9 fr hblk
          split at h0
          · cases h0
          · rename_i hs
            exact ⟨by cases hq : a.spot with | none => rfl | some x => (rw [hq] at hs; simp at hs), cs, T9, fr, hblk⟩
        · cases h0
      obtain ⟨hs, cs, T9, fr, hblk⟩ := hsp
      obtain ⟨ab, ao, asp⟩ := a
      simp only at hs hblk
      subst hs
      have hlen : ((ss.take n).map nl).length = n := by simp; omega
      refine ⟨some ⟨ab, ao, none⟩, (ss.take n).map nl, cap, by rw [e, hlen], fun X hX => ?_, .inr ⟨ab, ao, cs, T9, fr, rfl, hblk, fun j hj => ?_⟩, by omega⟩
      · obtain ⟨s, _, rfl⟩ := List.mem_map.1 hX
        exact nl_lt s
      · rw [hlen] at hj
        have := hcell j (by omega)
        rw [add_off, cell_of hblk] at this
        rw [this]
        congr 1
        rw [List.getD_eq_getElem?_getD, List.getD_eq_getElem?_getD, List.getElem?_map, List.getElem?_take, if_pos hj, List.getElem?_eq_getElem (show j < ss.length by omega)]
        simp [bs_nl]
theorem strs_param {t e : TypeId} {v : Value} {d : DataW H} {p : List MemPlace} (ht : P.underlying t = some (.slice e)) (he : P.underlying e = some .string) (hc : P.cellsOf e = 1) (hv : Value.okWide P W r base t v) (h : DataW.Trod enc P W base' spare held t v d p) :
    ∃ (q : Option Addr) (Ps : List (List Nat)) (c : Nat), v = .slice q Ps.length c ∧ (∀ X ∈ Ps, ∀ i, X.getD i 0 < 256) ∧ StrsIn W q Ps ∧ Ps.length ≤ maxLen := by
  obtain ⟨q, n, c, rfl⟩ := okWide_slice ht hv
  obtain ⟨fuel, hf⟩ := h
  obtain ⟨q', Ps, c', e, h1, h2, h3⟩ := strs_cells ht he hc hf
  exact ⟨q', Ps, c', by simpa [Value.cells] using e, h1, h2, h3⟩
end
end Go.Proofs.YtkpindnekaijfaaDoor
