/- PolyParts, for every key, text and two cuts: Sum of package poly makes one tag of a text of at most 300 bytes, whole or cut in three parts: the law returns true, and nothing that was there has turned; no condition. -/
import Derived.Test.YtjfmeogknhkeoaaParts
import Derived.Test.YtjfmeogknhkeoaaLift
import Derived.ChangeMaps5
namespace Go.Proofs.Ytjfmeogknhkeoaa
open Go.ChangeShapes Go.WideShapes Go.ChangeAt Go.RowKit

theorem open_parts {H : Type} {enc : TypeId × Value → H} {W : World} {r : Reach} {base base' : Nat} {spare : Nat → Bool} {held : Bool} {v : Value} {d : DataW H} {p : List MemPlace} (hv : Value.okWide Try.prog W r base 34 v) (h : DataW.Trod enc Try.prog W base' spare held 34 v d p) :
    ∃ (cp : Array Value) (K : List Nat) (X : List Nat) (u1 : Nat) (v1 : Nat), v = .agg cp ∧ Bytes 32 K ∧ PartAt cp 0 (cn .u8 K) ∧ (∀ i, X.getD i 0 < 256) ∧ cp[32]? = some (.string (bs X)) ∧ X.length ≤ maxLen ∧ u1 < 256 ∧ cp[33]? = some (.int .u8 (u1 : Nat)) ∧ v1 < 256 ∧ cp[34]? = some (.int .u8 (v1 : Nat)) := by
  have hv' : ∃ cs, v = .agg cs := by
    simp only [Value.okWide, Try.underlying34] at hv
    obtain ⟨cs, h1, _⟩ := hv
    exact ⟨cs, h1⟩
  obtain ⟨cs, rfl⟩ := hv'
  obtain ⟨fuel, hf⟩ := h
  obtain ⟨xs, m, _, _, hl, hlen, hel⟩ := DataW.trod_struct Try.underlying34 hf
  have hx : xs.length = 4 := hlen
  have g : ∀ i, i < 4 → xs[i]? = some (xs[i]?.getD (.agg [], [])) := fun i hi => by simp [hx, hi]
  have e0 : DataW.trod enc Try.prog W base' spare held m 23 (List.take (Try.prog.cellsOf 23) (List.drop 0 (Value.agg cs).cells.toList)) = xs[0]? := hel 0 _ rfl
  rw [show Try.prog.cellsOf 23 = 32 by kernel_rfl, g 0 (by omega)] at e0
  obtain ⟨K, b0, p0⟩ := bytes_in Try.underlying23 Try.underlying5 (by kernel_rfl) e0
  have e1 : DataW.trod enc Try.prog W base' spare held m 9 (List.take (Try.prog.cellsOf 9) (List.drop 32 (Value.agg cs).cells.toList)) = xs[1]? := hel 1 _ rfl
  rw [show Try.prog.cellsOf 9 = 1 by kernel_rfl, g 1 (by omega)] at e1
  obtain ⟨s1, q1, _, m1⟩ := DataW.trod_string Try.underlying9 e1
  have e2 : DataW.trod enc Try.prog W base' spare held m 5 (List.take (Try.prog.cellsOf 5) (List.drop 33 (Value.agg cs).cells.toList)) = xs[2]? := hel 2 _ rfl
  rw [show Try.prog.cellsOf 5 = 1 by kernel_rfl, g 2 (by omega)] at e2
  obtain ⟨z2, q2, _, w2⟩ := DataW.trod_int Try.underlying5 e2
  have bb2 := bounds_u8 w2
  obtain ⟨u1, rfl⟩ := Int.eq_ofNat_of_zero_le bb2.1
  have e3 : DataW.trod enc Try.prog W base' spare held m 5 (List.take (Try.prog.cellsOf 5) (List.drop 34 (Value.agg cs).cells.toList)) = xs[3]? := hel 3 _ rfl
  rw [show Try.prog.cellsOf 5 = 1 by kernel_rfl, g 3 (by omega)] at e3
  obtain ⟨z3, q3, _, w3⟩ := DataW.trod_int Try.underlying5 e3
  have bb3 := bounds_u8 w3
  obtain ⟨v1, rfl⟩ := Int.eq_ofNat_of_zero_le bb3.1
  exact ⟨cs, K, nl s1, u1, v1, rfl, b0, part_in p0, nl_lt s1, (by rw [bs_nl]; have h3 := congrArg (fun l => l[0]?) q1; simpa [Value.cells] using h3), (by rw [nl_len]; exact m1), (by have := bb2.2; omega), (by have h3 := congrArg (fun l => l[0]?) q2; simpa [Value.cells] using h3), (by have := bb3.2; omega), (by have h3 := congrArg (fun l => l[0]?) q3; simpa [Value.cells] using h3)⟩
set_option maxRecDepth 100000 in
theorem parts_lifted (os : Os) (started : os.Started) (H : Type) (enc : TypeId × Value → H) :
    ReturnsInHanded {} Try.checked os 4 .any (Rows.polyPartsSpec.pre6 enc Try.prog Try.f4 Rows.polyPartsRow.domain false) (Rows.polyPartsSpec.post enc Try.prog Try.f4 false true false false) := by
  refine returnsInHanded_of_change (C := Try.checked) Try.own started (by kernel_rfl) Try.func4
    (ChangeSpec.witness6 (enc := enc) (C := Try.checked) false ⟨#[], #[.agg (cn .u8 (List.replicate 32 0) ++ #[.string (bs []), .int .u8 0, .int .u8 0])], []⟩ 8 (by kernel_rfl) (by kernel_rfl) (by kernel_rfl) (by kernel_rfl)) ?_
  intro W base args ds gs before hval0 hW hcnd _
  have hval : ∀ (j : Nat) t v, Try.f4.params[j]? = some t → args[j]? = some v → Value.okWide Try.prog W .any base t v := hval0
  have hW' := hW
  obtain ⟨p, q, hA0, hV, rfl, hfz, hnd⟩ := hW
  have hA : DataW.TrodAll enc Try.prog W 0 (fun _ => true) true Try.f4.params.toList args.toList ds p := hA0
  rw [Try.params4] at hA hval
  obtain ⟨v0, d0, rfl, rfl, h0_⟩ := trodAll_one hA
  obtain ⟨rfl, rfl⟩ := trodVars_none hV
  obtain ⟨cp, K, X, u1, v1, rfl, hK, q0, hX, q1, _, hu, q2, hv, q3⟩ := open_parts (hval 0 34 v0 rfl rfl) h0_
  refine (parts_any cp K X u1 v1 hu hv hK hX q0 q1 q2 q3 W).mono fun e W' ⟨he, hb⟩ => ?_
  subst he
  exact ⟨_, rfl, post_true Try.laidOut (by rw [Try.params4]; decide +kernel) rfl hW' rfl rfl rfl rfl Try.underlying4 hb⟩

theorem polyParts_holds : Rows.PolyPartsSaid :=
  OpenClaim.holds_of_wide 4 Try.f4 rfl rfl rfl rfl rfl rfl rfl ⟨rfl, rfl, rfl, rfl, rfl⟩ rfl rfl rfl rfl rfl (by kernel_rfl) Try.func4 (by kernel_rfl)
    (of_decide_eq_true (by kernel_rfl)) (by unfold Func.isWrapper; first | (rw [if_pos (by decide +kernel)]; kernel_rfl) | (rw [if_neg (by decide +kernel)]; exact ⟨rfl, rfl⟩))
    (fun os started H enc _ => parts_lifted os started H enc)
#print axioms polyParts_holds

end Go.Proofs.Ytjfmeogknhkeoaa
