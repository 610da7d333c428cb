/- FieldSums, for every row of keys: what package field's Add and Mul make of the numbers that they are is what the document's answer makes (of more than 40 nothing is asked): the law returns true, and nothing that was there has turned; no condition. -/
import Derived.Test.YtpgmaidbemndnaaSums
import Derived.Test.YtpgmaidbemndnaaLift
import Derived.Deep.Slices
namespace Go.Proofs.Ytpgmaidbemndnaa
open Go.ChangeShapes Go.WideShapes Go.ChangeAt Go.RowKit

theorem bytes_of {H : Type} {enc : TypeId × Value → H} {W : World} {base' : Nat} {spare : Nat → Bool} {held : Bool} {fuel : Nat} {L : List Value} {x : DataW H × List MemPlace} (hf : DataW.trod enc Try.prog W base' spare held fuel 23 L = some x) :
    ∃ ks : List Nat, Bytes ks ∧ ∀ (j : Nat) (v : Value), (cs8 ks)[j]? = some v → L[j]? = some v := by
  obtain ⟨xs, m, _, _, _, hl, hel⟩ := DataW.trod_array Try.underlying23 hf
  rw [show Try.prog.cellsOf 5 = 1 by kernel_rfl] at hel
  have key : ∀ i, i < 32 → ∃ n : Nat, L[i]? = some (.int .u8 (n : Int)) ∧ n < 256 := fun i hi => by
    have h1 := hel i hi
    have h2 : xs[i]? = some (xs[i]'(by omega)) := by simp
    rw [h2] at h1
    obtain ⟨n, e, _, wf⟩ := DataW.trod_int Try.underlying5 h1
    obtain ⟨b0, b1⟩ := bounds_u8 wf
    obtain ⟨k, rfl⟩ := Int.eq_ofNat_of_zero_le b0
    refine ⟨k, ?_, by omega⟩
    rw [Nat.mul_one] at e
    have h3 := congrArg (fun l => l[0]?) e
    simpa using h3
  have hk : ∃ f : Nat → Nat, ∀ i, i < 32 → L[i]? = some (.int .u8 (f i : Int)) ∧ f i < 256 :=
    ⟨fun i => if h : i < 32 then (key i h).choose else 0, fun i hi => by simp only [hi, dif_pos]; exact (key i hi).choose_spec⟩
  obtain ⟨f, hf⟩ := hk
  refine ⟨(List.range 32).map f, ⟨by simp, fun i => ?_⟩, fun j v hv => ?_⟩
  · rcases Nat.lt_or_ge i 32 with h | h
    · simp [h]; exact (hf i h).2
    · simp [h]
  · rcases Nat.lt_or_ge j 32 with h | h
    · rw [(hf j h).1, ← hv, cs8_get _ _ (by simpa using h)]; simp [h]
    · rw [Array.getElem?_eq_none (by simp [cs8]; exact h)] at hv; cases hv


theorem zero_bytes : Bytes (List.replicate 32 0) := by
  refine ⟨rfl, fun i => ?_⟩
  rcases Nat.lt_or_ge i 32 with h | h
  · revert i; decide
  · simp [h]
/-- A row of keys that comes in. -/
theorem open_sums {H : Type} {enc : TypeId × Value → H} {W : World} {r : Reach} {base base' : Nat} {spare : Nat → Bool} {held : Bool} {v : Value} {d : DataW H} {p : List MemPlace} (hv : Value.okWide Try.prog W r base 47 v) (h : DataW.Trod enc Try.prog W base' spare held 47 v d p) :
    ∃ (q : Option Addr) (n c : Nat) (ks : Nat → List Nat), v = .slice q n c ∧ n ≤ 9223372036854775807 ∧ (∀ i, Bytes (ks i)) ∧ ∀ i, i < n → ∃ b off, q = some ⟨b, off, none⟩ ∧ b < W.heap.size ∧ W.rangeAt b (off + i * 32) (cs8 (ks i)).toList := by
  obtain ⟨q, n, c, rfl⟩ := okWide_slice Try.underlying47 hv
  obtain ⟨fuel, hf⟩ := h
  rcases Go.Deep.open_slice Try.underlying47 hf with ⟨e, _⟩ | ⟨a, len, cap, m, nn, D, Pl, e, hb, hl, hm, em, _, hel⟩
  · have e' : Value.slice q n c = .slice none 0 0 := by simpa [Value.cells] using e
    cases e'
    exact ⟨none, 0, 0, fun _ => List.replicate 32 0, rfl, by omega, fun _ => zero_bytes, fun i hi => by omega⟩
  · have e' : Value.slice q n c = .slice (some a) len cap := by simpa [Value.cells] using e
    cases e'
    have hlm : n ≤ m := by rw [em]; split <;> omega
    have key : ∀ i, i < n → ∃ ks : List Nat, Bytes ks ∧ ∀ j u, (cs8 ks)[j]? = some u → W.cell? ((a.add (i * 32)).add j) = some u := fun i hi => by
      obtain ⟨cs', h1, h2⟩ := hel i (by omega)
      rw [show Try.prog.cellsOf 23 = 32 by kernel_rfl] at h1
      obtain ⟨ks, bk, hk⟩ := bytes_of h2
      have hc := World.cells?_some h1
      refine ⟨ks, bk, fun j u hj => ?_⟩
      have hj32 : j < 32 := by
        rcases Nat.lt_or_ge j 32 with h' | h'
        · exact h'
        · rw [Array.getElem?_eq_none (by simp [cs8, bk.1]; exact h')] at hj; cases hj
      rw [hc.2.2 j hj32]
      exact hk j u hj
    refine ⟨some a, n, c, fun i => if h : i < n then (key i h).choose else List.replicate 32 0, rfl, by simp only [maxLen] at hm; omega, fun i => ?_, fun i hi => ?_⟩
    · simp only
      split
      · rename_i h; exact (key i h).choose_spec.1
      · exact zero_bytes
    · have z : W.cell? a = some (.int .u8 (((key 0 (by omega)).choose.getD 0 0 : Nat) : Int)) := by
        have hs := (key 0 (by omega)).choose_spec
        have := hs.2 0 _ (cs8_get _ 0 (by rw [hs.1.1]; decide))
        simpa [Addr.add] using this
      have sp : a.spot = none := World.cell?_spot z
      obtain ⟨b, off, spot⟩ := a
      simp only at sp
      subst sp
      refine ⟨b, off, rfl, World.block_lt_of_cell? _ _ z, fun j u hj => ?_⟩
      simp only [hi, dif_pos] at hj
      have := (key i hi).choose_spec.2 j u (by simpa using hj)
      have ea : ((⟨b, off, none⟩ : Addr).add (i * 32)).add j = ⟨b, off + i * 32 + j, none⟩ := by
        unfold Addr.add
        split <;> split <;> simp_all <;> omega
      rw [ea] at this
      exact this

set_option maxRecDepth 100000 in
theorem sums_lifted (os : Os) (started : os.Started) (H : Type) (enc : TypeId × Value → H) :
    ReturnsInHanded {} Try.checked os 4 .any (Rows.fieldSumsSpec.pre6 enc Try.prog Try.f4 Rows.fieldSumsRow.domain false) (Rows.fieldSumsSpec.post enc Try.prog Try.f4 false true false false) := by
  refine returnsInHanded_of_change (C := Try.checked) Try.own started (by kernel_rfl) Try.func4
    (ChangeSpec.witness6 (enc := enc) (C := Try.checked) false ⟨#[], #[.slice none 0 0], []⟩ 8 (by kernel_rfl) (by kernel_rfl) (by kernel_rfl) (by kernel_rfl)) ?_
  intro W base args ds gs before hval0 hW hcnd _
  have hval : ∀ (j : Nat) t v, Try.f4.params[j]? = some t → args[j]? = some v → Value.okWide Try.prog W .any base t v := hval0
  have hW' := hW
  obtain ⟨p, q, hA0, hV, rfl, hfz, hnd⟩ := hW
  have hA : DataW.TrodAll enc Try.prog W 0 (fun _ => true) true Try.f4.params.toList args.toList ds p := hA0
  rw [Try.params4] at hA hval
  obtain ⟨v0, d0, rfl, rfl, h0⟩ := trodAll_one hA
  obtain ⟨rfl, rfl⟩ := trodVars_none hV
  obtain ⟨q0, n, c, ks, rfl, hn, bk, hr⟩ := open_sums (hval 0 47 v0 rfl rfl) h0
  refine (sums_raw q0 n c hn ks (fun i => numOf (ks i) % pN) bk (fun _ => rfl) W hr).mono fun e W' ⟨he, hb⟩ => ?_
  subst he
  exact ⟨_, rfl, post_true Try.laidOut (by rw [Try.params4]; decide +kernel) rfl hW' rfl rfl rfl rfl Try.underlying4 hb⟩

theorem fieldSums_holds : Rows.FieldSumsSaid :=
  OpenClaim.holds_of_wide 4 Try.f4 rfl rfl rfl rfl rfl rfl rfl ⟨rfl, rfl, rfl, rfl, rfl⟩ rfl rfl rfl rfl rfl (by kernel_rfl) Try.func4 (by kernel_rfl)
    (of_decide_eq_true (by kernel_rfl)) (by unfold Func.isWrapper; first | (rw [if_pos (by decide +kernel)]; kernel_rfl) | (rw [if_neg (by decide +kernel)]; exact ⟨rfl, rfl⟩))
    (fun os started H enc _ => sums_lifted os started H enc)
#print axioms fieldSums_holds
end Go.Proofs.Ytpgmaidbemndnaa
