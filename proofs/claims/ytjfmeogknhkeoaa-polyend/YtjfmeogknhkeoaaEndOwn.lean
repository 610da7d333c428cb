/- PolyEnd, for every key and text: the tag that Sum of package poly makes of a text of at most 300 bytes is the one that it makes with noughts in the last half of the key, and that half added: the law returns true, and nothing that was there has turned; no condition. -/
import Derived.Test.YtjfmeogknhkeoaaEnd
import Derived.Test.YtjfmeogknhkeoaaLift
import Derived.ChangeMaps5
namespace Go.Proofs.Ytjfmeogknhkeoaa
open Go.ChangeShapes Go.WideShapes Go.ChangeAt Go.RowKit

set_option maxRecDepth 100000 in
theorem end_lifted (os : Os) (started : os.Started) (H : Type) (enc : TypeId × Value → H) :
    ReturnsInHanded {} Try.checked os 7 .any (Rows.polyEndSpec.pre6 enc Try.prog Try.f7 Rows.polyEndRow.domain false) (Rows.polyEndSpec.post enc Try.prog Try.f7 false true false false) := by
  refine returnsInHanded_of_change (C := Try.checked) Try.own started (by kernel_rfl) Try.func7
    (ChangeSpec.witness6 (enc := enc) (C := Try.checked) false ⟨#[], #[.agg (cn .u8 (List.replicate 32 0)), .string (bs [])], []⟩ 8 (by kernel_rfl) (by kernel_rfl) (by kernel_rfl) (by kernel_rfl)) ?_
  intro W base args ds gs before hval0 hW hcnd _
  have hval : ∀ (j : Nat) t v, Try.f7.params[j]? = some t → args[j]? = some v → Value.okWide Try.prog W .any base t v := hval0
  have hW' := hW
  obtain ⟨p, q, hA0, hV, rfl, hfz, hnd⟩ := hW
  have hA : DataW.TrodAll enc Try.prog W 0 (fun _ => true) true Try.f7.params.toList args.toList ds p := hA0
  rw [Try.params7] at hA hval
  obtain ⟨v0, v1, d0, d1, p0, p1, rfl, rfl, rfl, h0_, h1_⟩ := trodAll_two hA
  obtain ⟨rfl, rfl⟩ := trodVars_none hV
  obtain ⟨K, hK, rfl⟩ := open_bytes Try.underlying23 Try.underlying5 (by kernel_rfl) (by kernel_rfl) (hval 0 23 v0 rfl rfl) h0_
  obtain ⟨sX, rfl, _, _, mX⟩ := Go.ChangeMaps.open_string Try.underlying9 (hval 1 9 v1 rfl rfl) h1_
  obtain ⟨X, hX, rfl⟩ : ∃ X : List Nat, (∀ i, X.getD i 0 < 256) ∧ sX = bs X := ⟨nl sX, nl_lt sX, (bs_nl sX).symm⟩
  refine (end_any K X hK hX W).mono fun e W' ⟨he, hb⟩ => ?_
  subst he
  exact ⟨_, rfl, post_true Try.laidOut (by rw [Try.params7]; decide +kernel) rfl hW' rfl rfl rfl rfl Try.underlying4 hb⟩

theorem polyEnd_holds : Rows.PolyEndSaid :=
  OpenClaim.holds_of_wide 7 Try.f7 rfl rfl rfl rfl rfl rfl rfl ⟨rfl, rfl, rfl, rfl, rfl⟩ rfl rfl rfl rfl rfl (by kernel_rfl) Try.func7 (by kernel_rfl)
    (of_decide_eq_true (by kernel_rfl)) (by unfold Func.isWrapper; first | (rw [if_pos (by decide +kernel)]; kernel_rfl) | (rw [if_neg (by decide +kernel)]; exact ⟨rfl, rfl⟩))
    (fun os started H enc _ => end_lifted os started H enc)
#print axioms polyEnd_holds

end Go.Proofs.Ytjfmeogknhkeoaa
