/- What comes in: a key, a count, a nonce, a text. -/
import Derived.Test.YtlpoimmpjcldjaaLift
import Derived.Test.YtlpoimmpjcldjaaStr
namespace Go.Proofs.Ytlpoimmpjcldjaa
open Go.ChangeShapes Go.WideShapes Go.ChangeAt Go.RowKit

/-- Bytes that come in within something greater. -/
theorem bytes_in {H : Type} {enc : TypeId × Value → H} {W : World} {base' : Nat} {spare : Nat → Bool} {held : Bool} {fuel n : Nat} {t : TypeId} {L : List Value} {x : DataW H × List MemPlace} (hu : Try.prog.underlying t = some (.array n 5)) (hf : DataW.trod enc Try.prog W base' spare held fuel t L = some x) :
    ∃ ks : List Nat, Bytes n ks ∧ ∀ (j : Nat) (v : Value), (cn .u8 ks)[j]? = some v → L[j]? = some v := by
  obtain ⟨xs, m, _, _, _, hl, hel⟩ := DataW.trod_array hu hf
  rw [show Try.prog.cellsOf 5 = 1 by kernel_rfl] at hel
  have key : ∀ i, i < n → ∃ k : Nat, L[i]? = some (.int .u8 (k : Int)) ∧ k < 256 := fun i hi => by
    have h1 := hel i hi
    have h2 : xs[i]? = some (xs[i]'(by omega)) := by simp
    rw [h2] at h1
    obtain ⟨k, e, _, wf⟩ := DataW.trod_int Try.underlying5 h1
    obtain ⟨b0, b1⟩ := bounds_u8 wf
    obtain ⟨k, rfl⟩ := Int.eq_ofNat_of_zero_le b0
    refine ⟨k, ?_, by omega⟩
    rw [Nat.mul_one] at e
    have h3 := congrArg (fun l => l[0]?) e
    simpa using h3
  have hk : ∃ f : Nat → Nat, ∀ i, i < n → L[i]? = some (.int .u8 (f i : Int)) ∧ f i < 256 :=
    ⟨fun i => if h : i < n then (key i h).choose else 0, fun i hi => by simp only [hi, dif_pos]; exact (key i hi).choose_spec⟩
  obtain ⟨f, hf⟩ := hk
  refine ⟨(List.range n).map f, ⟨by simp, fun i => ?_⟩, fun j v hv => ?_⟩
  · rcases Nat.lt_or_ge i n with h | h
    · simp [h]; exact (hf i h).2
    · simp [h]
  · rcases Nat.lt_or_ge j n with h | h
    · rw [(hf j h).1, ← hv, cn_get _ _ _ (by simpa using h)]; simp [h]
    · rw [Array.getElem?_eq_none (by rw [cn_size]; simpa using h)] at hv; cases hv
theorem part_in {ks : List Nat} {cs : Array Value} {k off : Nat} (h : ∀ (j : Nat) (v : Value), (cn .u8 ks)[j]? = some v → (List.take k (List.drop off (Value.agg cs).cells.toList))[j]? = some v) : ∀ (j : Nat) (v : Value), (cn .u8 ks)[j]? = some v → cs[off + j]? = some v := fun j v hv => by
  have := h j v hv
  rw [List.getElem?_take] at this
  split at this
  · simpa [Value.cells] using this
  · cases this

theorem open_tells {H : Type} {enc : TypeId × Value → H} {W : World} {r : Reach} {base base' : Nat} {spare : Nat → Bool} {held : Bool} {v : Value} {d : DataW H} {p : List MemPlace} (hv : Value.okWide Try.prog W r base 28 v) (h : DataW.Trod enc Try.prog W base' spare held 28 v d p) :
    ∃ (cp : Array Value) (ks ns X : List Nat) (c : Nat), v = .agg cp ∧ Bytes 32 ks ∧ c < 4294967296 ∧ Bytes 12 ns ∧ (∀ i, X.getD i 0 < 256) ∧
      (∀ j v, (cn .u8 ks)[j]? = some v → cp[0 + j]? = some v) ∧ cp[32]? = some (.int .u32 (c : Nat)) ∧ (∀ j v, (cn .u8 ns)[j]? = some v → cp[33 + j]? = some v) ∧ cp[45]? = some (.string (bs X)) := by
  have hv' : ∃ cs, v = .agg cs := by
    simp only [Value.okWide, Try.underlying28] at hv
    obtain ⟨cs, h1, _⟩ := hv
    exact ⟨cs, h1⟩
  obtain ⟨cs, rfl⟩ := hv'
  obtain ⟨fuel, hf⟩ := h
  obtain ⟨xs, m, _, _, hl, hlen, hel⟩ := DataW.trod_struct Try.underlying28 hf
  have hx : xs.length = 4 := hlen
  have g : ∀ i, i < 4 → xs[i]? = some (xs[i]?.getD (.agg [], [])) := fun i hi => by simp [hx, hi]
  have e0 : DataW.trod enc Try.prog W base' spare held m 23 (List.take (Try.prog.cellsOf 23) (List.drop 0 (Value.agg cs).cells.toList)) = xs[0]? := hel 0 _ rfl
  rw [show Try.prog.cellsOf 23 = 32 by kernel_rfl, g 0 (by omega)] at e0
  have e1 : DataW.trod enc Try.prog W base' spare held m 24 (List.take (Try.prog.cellsOf 24) (List.drop 32 (Value.agg cs).cells.toList)) = xs[1]? := hel 1 _ rfl
  rw [show Try.prog.cellsOf 24 = 1 by kernel_rfl, g 1 (by omega)] at e1
  have e2 : DataW.trod enc Try.prog W base' spare held m 26 (List.take (Try.prog.cellsOf 26) (List.drop 33 (Value.agg cs).cells.toList)) = xs[2]? := hel 2 _ rfl
  rw [show Try.prog.cellsOf 26 = 12 by kernel_rfl, g 2 (by omega)] at e2
  have e3 : DataW.trod enc Try.prog W base' spare held m 9 (List.take (Try.prog.cellsOf 9) (List.drop 45 (Value.agg cs).cells.toList)) = xs[3]? := hel 3 _ rfl
  rw [show Try.prog.cellsOf 9 = 1 by kernel_rfl, g 3 (by omega)] at e3
  obtain ⟨ks, bk, pk⟩ := bytes_in Try.underlying23 e0
  obtain ⟨c, ec, _, wc⟩ := DataW.trod_int Try.underlying24 e1
  obtain ⟨ns, bn, pn⟩ := bytes_in Try.underlying26 e2
  obtain ⟨s, es, _, _⟩ := DataW.trod_string Try.underlying9 e3
  have bc := bounds_u32 wc
  obtain ⟨c, rfl⟩ := Int.eq_ofNat_of_zero_le bc.1
  refine ⟨cs, ks, ns, nl s, c, rfl, bk, by have := bc.2; omega, bn, nl_lt s, part_in pk, ?_, part_in pn, ?_⟩
  · have h3 := congrArg (fun l => l[0]?) ec
    simpa [Value.cells] using h3
  · rw [bs_nl]
    have h3 := congrArg (fun l => l[0]?) es
    simpa [Value.cells] using h3

theorem open_twice {H : Type} {enc : TypeId × Value → H} {W : World} {r : Reach} {base base' : Nat} {spare : Nat → Bool} {held : Bool} {v : Value} {d : DataW H} {p : List MemPlace} (hv : Value.okWide Try.prog W r base 35 v) (h : DataW.Trod enc Try.prog W base' spare held 35 v d p) :
    ∃ (cp : Array Value) (ks ns X : List Nat) (c : Nat), v = .agg cp ∧ Bytes 32 ks ∧ c < 4294967296 ∧ Bytes 12 ns ∧ (∀ i, X.getD i 0 < 256) ∧
      (∀ j v, (cn .u8 ks)[j]? = some v → cp[0 + j]? = some v) ∧ cp[32]? = some (.int .u32 (c : Nat)) ∧ (∀ j v, (cn .u8 ns)[j]? = some v → cp[33 + j]? = some v) ∧ cp[45]? = some (.string (bs X)) := by
  have hv' : ∃ cs, v = .agg cs := by
    simp only [Value.okWide, Try.underlying35] at hv
    obtain ⟨cs, h1, _⟩ := hv
    exact ⟨cs, h1⟩
  obtain ⟨cs, rfl⟩ := hv'
  obtain ⟨fuel, hf⟩ := h
  obtain ⟨xs, m, _, _, hl, hlen, hel⟩ := DataW.trod_struct Try.underlying35 hf
  have hx : xs.length = 4 := hlen
  have g : ∀ i, i < 4 → xs[i]? = some (xs[i]?.getD (.agg [], [])) := fun i hi => by simp [hx, hi]
  have e0 : DataW.trod enc Try.prog W base' spare held m 23 (List.take (Try.prog.cellsOf 23) (List.drop 0 (Value.agg cs).cells.toList)) = xs[0]? := hel 0 _ rfl
  rw [show Try.prog.cellsOf 23 = 32 by kernel_rfl, g 0 (by omega)] at e0
  have e1 : DataW.trod enc Try.prog W base' spare held m 24 (List.take (Try.prog.cellsOf 24) (List.drop 32 (Value.agg cs).cells.toList)) = xs[1]? := hel 1 _ rfl
  rw [show Try.prog.cellsOf 24 = 1 by kernel_rfl, g 1 (by omega)] at e1
  have e2 : DataW.trod enc Try.prog W base' spare held m 26 (List.take (Try.prog.cellsOf 26) (List.drop 33 (Value.agg cs).cells.toList)) = xs[2]? := hel 2 _ rfl
  rw [show Try.prog.cellsOf 26 = 12 by kernel_rfl, g 2 (by omega)] at e2
  have e3 : DataW.trod enc Try.prog W base' spare held m 9 (List.take (Try.prog.cellsOf 9) (List.drop 45 (Value.agg cs).cells.toList)) = xs[3]? := hel 3 _ rfl
  rw [show Try.prog.cellsOf 9 = 1 by kernel_rfl, g 3 (by omega)] at e3
  obtain ⟨ks, bk, pk⟩ := bytes_in Try.underlying23 e0
  obtain ⟨c, ec, _, wc⟩ := DataW.trod_int Try.underlying24 e1
  obtain ⟨ns, bn, pn⟩ := bytes_in Try.underlying26 e2
  obtain ⟨s, es, _, _⟩ := DataW.trod_string Try.underlying9 e3
  have bc := bounds_u32 wc
  obtain ⟨c, rfl⟩ := Int.eq_ofNat_of_zero_le bc.1
  refine ⟨cs, ks, ns, nl s, c, rfl, bk, by have := bc.2; omega, bn, nl_lt s, part_in pk, ?_, part_in pn, ?_⟩
  · have h3 := congrArg (fun l => l[0]?) ec
    simpa [Value.cells] using h3
  · rw [bs_nl]
    have h3 := congrArg (fun l => l[0]?) es
    simpa [Value.cells] using h3

theorem open_parts {H : Type} {enc : TypeId × Value → H} {W : World} {r : Reach} {base base' : Nat} {spare : Nat → Bool} {held : Bool} {v : Value} {d : DataW H} {p : List MemPlace} (hv : Value.okWide Try.prog W r base 38 v) (h : DataW.Trod enc Try.prog W base' spare held 38 v d p) :
    ∃ (cp : Array Value) (ks ns X : List Nat) (c u : Nat), v = .agg cp ∧ Bytes 32 ks ∧ c < 4294967296 ∧ Bytes 12 ns ∧ (∀ i, X.getD i 0 < 256) ∧ u < 256 ∧
      (∀ j v, (cn .u8 ks)[j]? = some v → cp[0 + j]? = some v) ∧ cp[32]? = some (.int .u32 (c : Nat)) ∧ (∀ j v, (cn .u8 ns)[j]? = some v → cp[33 + j]? = some v) ∧ cp[45]? = some (.string (bs X)) ∧ cp[46]? = some (.int .u8 (u : Nat)) := by
  have hv' : ∃ cs, v = .agg cs := by
    simp only [Value.okWide, Try.underlying38] at hv
    obtain ⟨cs, h1, _⟩ := hv
    exact ⟨cs, h1⟩
  obtain ⟨cs, rfl⟩ := hv'
  obtain ⟨fuel, hf⟩ := h
  obtain ⟨xs, m, _, _, hl, hlen, hel⟩ := DataW.trod_struct Try.underlying38 hf
  have hx : xs.length = 5 := hlen
  have g : ∀ i, i < 5 → xs[i]? = some (xs[i]?.getD (.agg [], [])) := fun i hi => by simp [hx, hi]
  have e0 : DataW.trod enc Try.prog W base' spare held m 23 (List.take (Try.prog.cellsOf 23) (List.drop 0 (Value.agg cs).cells.toList)) = xs[0]? := hel 0 _ rfl
  rw [show Try.prog.cellsOf 23 = 32 by kernel_rfl, g 0 (by omega)] at e0
  have e1 : DataW.trod enc Try.prog W base' spare held m 24 (List.take (Try.prog.cellsOf 24) (List.drop 32 (Value.agg cs).cells.toList)) = xs[1]? := hel 1 _ rfl
  rw [show Try.prog.cellsOf 24 = 1 by kernel_rfl, g 1 (by omega)] at e1
  have e2 : DataW.trod enc Try.prog W base' spare held m 26 (List.take (Try.prog.cellsOf 26) (List.drop 33 (Value.agg cs).cells.toList)) = xs[2]? := hel 2 _ rfl
  rw [show Try.prog.cellsOf 26 = 12 by kernel_rfl, g 2 (by omega)] at e2
  have e3 : DataW.trod enc Try.prog W base' spare held m 9 (List.take (Try.prog.cellsOf 9) (List.drop 45 (Value.agg cs).cells.toList)) = xs[3]? := hel 3 _ rfl
  rw [show Try.prog.cellsOf 9 = 1 by kernel_rfl, g 3 (by omega)] at e3
  have e4 : DataW.trod enc Try.prog W base' spare held m 5 (List.take (Try.prog.cellsOf 5) (List.drop 46 (Value.agg cs).cells.toList)) = xs[4]? := hel 4 _ rfl
  rw [show Try.prog.cellsOf 5 = 1 by kernel_rfl, g 4 (by omega)] at e4
  obtain ⟨ks, bk, pk⟩ := bytes_in Try.underlying23 e0
  obtain ⟨c, ec, _, wc⟩ := DataW.trod_int Try.underlying24 e1
  obtain ⟨ns, bn, pn⟩ := bytes_in Try.underlying26 e2
  obtain ⟨s, es, _, _⟩ := DataW.trod_string Try.underlying9 e3
  have bc := bounds_u32 wc
  obtain ⟨c, rfl⟩ := Int.eq_ofNat_of_zero_le bc.1
  obtain ⟨u, eu, _, wu⟩ := DataW.trod_int Try.underlying5 e4
  have bu := bounds_u8 wu
  obtain ⟨u, rfl⟩ := Int.eq_ofNat_of_zero_le bu.1
  refine ⟨cs, ks, ns, nl s, c, u, rfl, bk, by have := bc.2; omega, bn, nl_lt s, by have := bu.2; omega, part_in pk, ?_, part_in pn, ?_, ?_⟩
  · have h3 := congrArg (fun l => l[0]?) ec
    simpa [Value.cells] using h3
  · rw [bs_nl]
    have h3 := congrArg (fun l => l[0]?) es
    simpa [Value.cells] using h3
  · have h3 := congrArg (fun l => l[0]?) eu
    simpa [Value.cells] using h3

theorem open_blocks {H : Type} {enc : TypeId × Value → H} {W : World} {r : Reach} {base base' : Nat} {spare : Nat → Bool} {held : Bool} {v : Value} {d : DataW H} {p : List MemPlace} (hv : Value.okWide Try.prog W r base 41 v) (h : DataW.Trod enc Try.prog W base' spare held 41 v d p) :
    ∃ (cp : Array Value) (ks ns X : List Nat) (c u : Nat), v = .agg cp ∧ Bytes 32 ks ∧ c < 4294967296 ∧ Bytes 12 ns ∧ (∀ i, X.getD i 0 < 256) ∧ u < 256 ∧
      (∀ j v, (cn .u8 ks)[j]? = some v → cp[0 + j]? = some v) ∧ cp[32]? = some (.int .u32 (c : Nat)) ∧ (∀ j v, (cn .u8 ns)[j]? = some v → cp[33 + j]? = some v) ∧ cp[45]? = some (.string (bs X)) ∧ cp[46]? = some (.int .u8 (u : Nat)) := by
  have hv' : ∃ cs, v = .agg cs := by
    simp only [Value.okWide, Try.underlying41] at hv
    obtain ⟨cs, h1, _⟩ := hv
    exact ⟨cs, h1⟩
  obtain ⟨cs, rfl⟩ := hv'
  obtain ⟨fuel, hf⟩ := h
  obtain ⟨xs, m, _, _, hl, hlen, hel⟩ := DataW.trod_struct Try.underlying41 hf
  have hx : xs.length = 5 := hlen
  have g : ∀ i, i < 5 → xs[i]? = some (xs[i]?.getD (.agg [], [])) := fun i hi => by simp [hx, hi]
  have e0 : DataW.trod enc Try.prog W base' spare held m 23 (List.take (Try.prog.cellsOf 23) (List.drop 0 (Value.agg cs).cells.toList)) = xs[0]? := hel 0 _ rfl
  rw [show Try.prog.cellsOf 23 = 32 by kernel_rfl, g 0 (by omega)] at e0
  have e1 : DataW.trod enc Try.prog W base' spare held m 24 (List.take (Try.prog.cellsOf 24) (List.drop 32 (Value.agg cs).cells.toList)) = xs[1]? := hel 1 _ rfl
  rw [show Try.prog.cellsOf 24 = 1 by kernel_rfl, g 1 (by omega)] at e1
  have e2 : DataW.trod enc Try.prog W base' spare held m 26 (List.take (Try.prog.cellsOf 26) (List.drop 33 (Value.agg cs).cells.toList)) = xs[2]? := hel 2 _ rfl
  rw [show Try.prog.cellsOf 26 = 12 by kernel_rfl, g 2 (by omega)] at e2
  have e3 : DataW.trod enc Try.prog W base' spare held m 9 (List.take (Try.prog.cellsOf 9) (List.drop 45 (Value.agg cs).cells.toList)) = xs[3]? := hel 3 _ rfl
  rw [show Try.prog.cellsOf 9 = 1 by kernel_rfl, g 3 (by omega)] at e3
  have e4 : DataW.trod enc Try.prog W base' spare held m 5 (List.take (Try.prog.cellsOf 5) (List.drop 46 (Value.agg cs).cells.toList)) = xs[4]? := hel 4 _ rfl
  rw [show Try.prog.cellsOf 5 = 1 by kernel_rfl, g 4 (by omega)] at e4
  obtain ⟨ks, bk, pk⟩ := bytes_in Try.underlying23 e0
  obtain ⟨c, ec, _, wc⟩ := DataW.trod_int Try.underlying24 e1
  obtain ⟨ns, bn, pn⟩ := bytes_in Try.underlying26 e2
  obtain ⟨s, es, _, _⟩ := DataW.trod_string Try.underlying9 e3
  have bc := bounds_u32 wc
  obtain ⟨c, rfl⟩ := Int.eq_ofNat_of_zero_le bc.1
  obtain ⟨u, eu, _, wu⟩ := DataW.trod_int Try.underlying5 e4
  have bu := bounds_u8 wu
  obtain ⟨u, rfl⟩ := Int.eq_ofNat_of_zero_le bu.1
  refine ⟨cs, ks, ns, nl s, c, u, rfl, bk, by have := bc.2; omega, bn, nl_lt s, by have := bu.2; omega, part_in pk, ?_, part_in pn, ?_, ?_⟩
  · have h3 := congrArg (fun l => l[0]?) ec
    simpa [Value.cells] using h3
  · rw [bs_nl]
    have h3 := congrArg (fun l => l[0]?) es
    simpa [Value.cells] using h3
  · have h3 := congrArg (fun l => l[0]?) eu
    simpa [Value.cells] using h3

end Go.Proofs.Ytlpoimmpjcldjaa
