/- CurveWeak, for every scalar and every choice: of the points 0, 1 and -1 package curve's Mul makes noughts, and Shared tells that they are weak: the law returns true, and nothing that was there has turned; no condition. -/
import Derived.Test.YtfciodbgjljjhaaWeakNum
import Derived.Test.YtfciodbgjljjhaaLift
namespace Go.Proofs.Ytfciodbgjljjhaa
open Go.ChangeShapes Go.WideShapes Go.ChangeAt Go.RowKit

/-- A byte that comes in. -/
theorem open_byte {H : Type} {enc : TypeId × Value → H} {W : World} {r : Reach} {base base' : Nat} {spare : Nat → Bool} {held : Bool} {v : Value} {d : DataW H} {p : List MemPlace} (hv : Value.okWide Try.prog W r base 5 v) (h : DataW.Trod enc Try.prog W base' spare held 5 v d p) :
    ∃ n : Nat, n < 256 ∧ v = .int .u8 (n : Nat) := by
  obtain ⟨n, rfl, _, _, wf⟩ := Go.ChangeShapes.open_int Try.underlying5 hv h
  obtain ⟨h0, h1⟩ := bounds_u8 wf
  obtain ⟨k, rfl⟩ := Int.eq_ofNat_of_zero_le h0
  exact ⟨k, by omega, rfl⟩

set_option maxRecDepth 100000 in
theorem weak_lifted (os : Os) (started : os.Started) (H : Type) (enc : TypeId × Value → H) :
    ReturnsInHanded {} Try.checked os 7 .any (Rows.curveWeakSpec.pre6 enc Try.prog Try.f7 Rows.curveWeakRow.domain false) (Rows.curveWeakSpec.post enc Try.prog Try.f7 false true false false) := by
  refine returnsInHanded_of_change (C := Try.checked) Try.own started (by kernel_rfl) Try.func7
    (ChangeSpec.witness6 (enc := enc) (C := Try.checked) false ⟨#[], #[.agg (cs8 (List.replicate 32 0)), .int .u8 0], []⟩ 8 (by kernel_rfl) (by kernel_rfl) (by kernel_rfl) (by kernel_rfl)) ?_
  intro W base args ds gs before hval0 hW hcnd _
  have hval : ∀ (j : Nat) t v, Try.f7.params[j]? = some t → args[j]? = some v → Value.okWide Try.prog W .any base t v := hval0
  have hW' := hW
  obtain ⟨p, q, hA0, hV, rfl, hfz, hnd⟩ := hW
  have hA : DataW.TrodAll enc Try.prog W 0 (fun _ => true) true Try.f7.params.toList args.toList ds p := hA0
  rw [Try.params7] at hA hval
  obtain ⟨v0, v1, d0, d1, p0, p1, rfl, rfl, rfl, h0, h1⟩ := trodAll_two hA
  obtain ⟨rfl, rfl⟩ := trodVars_none hV
  obtain ⟨k0, b0, rfl⟩ := open_key (hval 0 23 v0 rfl rfl) h0
  obtain ⟨n, hn, rfl⟩ := open_byte (hval 1 5 v1 rfl rfl) h1
  refine (weak_any k0 b0 n hn W).mono fun e W' ⟨he, hb⟩ => ?_
  subst he
  exact ⟨_, rfl, post_true Try.laidOut (by rw [Try.params7]; decide +kernel) rfl hW' rfl rfl rfl rfl Try.underlying4 hb⟩

theorem curveWeak_holds : Rows.CurveWeakSaid :=
  OpenClaim.holds_of_wide 7 Try.f7 rfl rfl rfl rfl rfl rfl rfl ⟨rfl, rfl, rfl, rfl, rfl⟩ rfl rfl rfl rfl rfl (by kernel_rfl) Try.func7 (by kernel_rfl)
    (of_decide_eq_true (by kernel_rfl)) (by unfold Func.isWrapper; first | (rw [if_pos (by decide +kernel)]; kernel_rfl) | (rw [if_neg (by decide +kernel)]; exact ⟨rfl, rfl⟩))
    (fun os started H enc _ => weak_lifted os started H enc)
#print axioms curveWeak_holds
end Go.Proofs.Ytfciodbgjljjhaa
